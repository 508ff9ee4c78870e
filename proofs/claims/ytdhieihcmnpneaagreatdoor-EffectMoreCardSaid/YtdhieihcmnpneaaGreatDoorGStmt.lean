/- What is wrong with a statement's own form, as the show layer's checker finds it: what the document asks, at every statement. -/
import Derived.Test.YtdhieihcmnpneaaGreatDoorRows
import Derived.Test.YtdhieihcmnpneaaGreatDoorGMem
import Derived.Test.YtdhieihcmnpneaaGreatDoorTypFormO
namespace Go.Proofs.YtdhieihcmnpneaaGreatDoor
open Lib (hid)
set_option maxRecDepth 100000
set_option maxHeartbeats 4000000
open Go.RowKit
def sformS:St→Int
  | .mk h x y _ _ b e=>sform h x y b.length e.length
def Ws.val (w:Ws):Value:=.agg #[.bool w.v,.int .u8 w.x,.bool w.y,.bool w.b,.bool w.o]
def wantV (s:St):Value:=((swants s.h.k).map Ws.val).getD (.bool false)
theorem sform_some {h:Sh} {x y:X} {bl el:Nat} (hf:sform h x y bl el=0):∃ w,swants h.k=some w:=by
  unfold sform at hf
  split at hf
  · cases hf
  · rename_i w hw;exact⟨w,hw⟩
theorem look_kvs (k:Int):lookI k kvs=(swants k).map Ws.val:=by
  by_cases h:1≤k∧k≤8
  · have:k=1 ∨ k=2 ∨ k=3 ∨ k=4 ∨ k=5 ∨ k=6 ∨ k=7 ∨ k=8:=by omega
    rcases this with rfl|rfl|rfl|rfl|rfl|rfl|rfl|rfl <;> rfl
  · have h1:swants k=none:=by
      unfold swants
      split
      · exact List.getElem?_eq_none (by simp [wss];omega)
      · rfl
    rw [h1]
    simp only [kvs,lookI]
    repeat rw [if_neg (by omega)]
    rfl
theorem noX_eq (x:X):noX x=noneH x.hd x.args.length:=by
  unfold noX noneH noTy
  by_cases h1:x.hd.k=0 <;> by_cases h2:x.hd.n=0 <;> by_cases h3:x.hd.name.data.toList = [] <;> by_cases h4:x.hd.tk=0 <;> by_cases h5:x.hd.tn.data.toList = [] <;> by_cases h6:x.hd.tz=0 <;> by_cases h7:x.args.length=0 <;> simp [h1,h2,h3,h4,h5,h6,h7]
theorem sform_in {h:Sh} {x y:X} {bl el:Nat} {w:Ws} (hw:swants h.k=some w):sform h x y bl el=sfR (rightX x w.x) (w.y || noX y) (w.b || decide (bl=0)) (w.o || decide (el=0))
    (if w.v=true then (if isName h.name.data.toList=true then tyForm h.t.k h.t.n.data.toList h.t.z else 1) else (if h.name.data.toList = [] ∧ noTy h.t.k h.t.n h.t.z=true then 0 else 1)):=by
  unfold sform sfR Ty.form noTy
  rw [hw]
  obtain⟨v,xq,yq,b,o⟩:=w
  simp only
  generalize rightX x xq=rx
  generalize noX y=ny
  cases rx <;> cases yq <;> cases ny <;> cases b <;> cases o <;> cases v <;> by_cases hb:bl=0 <;> by_cases he:el=0 <;> simp [hb,he]
theorem sfrm_none (B c i:Nat) (k:Int) (tk tz xk xn xtk xtz yk yn ytk ytz:Int) (nm tn xm xtn ym ytn:ByteArray) (xo yo bo eo:Option Addr) (xl xc yl yc bl bc el ec:Nat) (w:World) (h:Ck B c i w) (hk:swants k=none) :
    Calls Tryz.prog 107 #[.pointer (some ⟨c,0,none⟩),.agg #[.int .u8 k,.string nm,.int .u8 tk,.string tn,.int .i64 tz,.int .u8 xk,.int .i64 xn,.string xm,.int .u8 xtk,.string xtn,.int .i64 xtz,.slice xo xl xc,.int .u8 yk,.int .i64 yn,.string ym,.int .u8 ytk,.string ytn,.int .i64 ytz,.slice yo yl yc,.slice bo bl bc,.slice eo el ec]] w fun e w'=>e = .panicked (fl 1)∧Below w.heap.size w w':=by
  have hlk:lookI k kvs=none:=by rw [look_kvs,hk];rfl
  have hc:=h.lt
  obtain⟨-,-,m1,m2,-,c1,-,hM⟩:=h.reads
  have hml:=hM.lt
  have hl1:=look_s0 hM hlk ((w.alloc (.cells #[.int .u8 k,.string nm,.int .u8 tk,.string tn,.int .i64 tz,.int .u8 xk,.int .i64 xn,.string xm,.int .u8 xtk,.string xtn,.int .i64 xtz,.slice xo xl xc,.int .u8 yk,.int .i64 yn,.string ym,.int .u8 ytk,.string ytn,.int .i64 ytz,.slice yo yl yc,.slice bo bl bc,.slice eo el ec] 64)).alloc (.cells #[.bool false,.int .u8 0,.bool false,.bool false,.bool false] 160)).drew (by show ((w.alloc _).alloc _).heap[m2]? = _;rw [Below.heap_alloc _ _ _ (by simp;omega)];exact Below.heap_alloc _ _ _ hml)
  have hl2:=look_s0 hM hlk (((w.alloc (.cells #[.int .u8 k,.string nm,.int .u8 tk,.string tn,.int .i64 tz,.int .u8 xk,.int .i64 xn,.string xm,.int .u8 xtk,.string xtn,.int .i64 xtz,.slice xo xl xc,.int .u8 yk,.int .i64 yn,.string ym,.int .u8 ytk,.string ytn,.int .i64 ytz,.slice yo yl yc,.slice bo bl bc,.slice eo el ec] 64)).alloc (.cells #[.bool false,.int .u8 0,.bool false,.bool false,.bool false] 160)).alloc (.cells #[.bool false,.int .u8 0,.bool false,.bool false,.bool false] 160)).drew (by show (((w.alloc _).alloc _).alloc _).heap[m2]? = _;rw [Below.heap_alloc _ _ _ (by simp;omega),Below.heap_alloc _ _ _ (by simp;omega)];exact Below.heap_alloc _ _ _ hml)
  have c1a:((w.alloc (.cells #[.int .u8 k,.string nm,.int .u8 tk,.string tn,.int .i64 tz,.int .u8 xk,.int .i64 xn,.string xm,.int .u8 xtk,.string xtn,.int .i64 xtz,.slice xo xl xc,.int .u8 yk,.int .i64 yn,.string ym,.int .u8 ytk,.string ytn,.int .i64 ytz,.slice yo yl yc,.slice bo bl bc,.slice eo el ec] 64)).alloc (.cells #[.bool false,.int .u8 0,.bool false,.bool false,.bool false] 160)).cell? ⟨c,1,none⟩ = some (.map (some m2)):=by rw [World.cell?_alloc_lt _ _ _ (by simp;omega),World.cell?_alloc_lt _ _ _ hc];exact c1
  have c1b:(((w.alloc (.cells #[.int .u8 k,.string nm,.int .u8 tk,.string tn,.int .i64 tz,.int .u8 xk,.int .i64 xn,.string xm,.int .u8 xtk,.string xtn,.int .i64 xtz,.slice xo xl xc,.int .u8 yk,.int .i64 yn,.string ym,.int .u8 ytk,.string ytn,.int .i64 ytz,.slice yo yl yc,.slice bo bl bc,.slice eo el ec] 64)).alloc (.cells #[.bool false,.int .u8 0,.bool false,.bool false,.bool false] 160)).alloc (.cells #[.bool false,.int .u8 0,.bool false,.bool false,.bool false] 160)).cell? ⟨c,1,none⟩ = some (.map (some m2)):=by rw [World.cell?_alloc_lt _ _ _ (by simp;omega)];exact c1a
  have HB:=hid (show Below w.heap.size w (((w.alloc (.cells #[.int .u8 k,.string nm,.int .u8 tk,.string tn,.int .i64 tz,.int .u8 xk,.int .i64 xn,.string xm,.int .u8 xtk,.string xtn,.int .i64 xtz,.slice xo xl xc,.int .u8 yk,.int .i64 yn,.string ym,.int .u8 ytk,.string ytn,.int .i64 ytz,.slice yo yl yc,.slice bo bl bc,.slice eo el ec] 64)).alloc (.cells #[.bool false,.int .u8 0,.bool false,.bool false,.bool false] 160)).alloc (.cells #[.bool false,.int .u8 0,.bool false,.bool false,.bool false] 160)).drew from (((below_box w _).alloc (by simp) _).alloc (by simp;omega) _).drew)
  clear h hM hk hlk
  go_enter Tryz.func107,Tryz.ntmps107
  go_wp2_with fail
  go_region
  all_goals
    go_wp2_with fail
    refine (must_no _).mono ?_;rintro e w' ⟨rfl,rfl⟩
    exact⟨rfl,rfl,HB.out⟩
theorem sform_any (B c i:Nat) (s:St) (w:World) {B':Nat} (hI:SIn w B' s) (h:Ck B c i w) :
    Calls Tryz.prog 107 #[.pointer (some ⟨c,0,none⟩),.agg s.arr] w fun e w'=>e=frmE (sformS s) (wantV s)∧Below w.heap.size w w':=by
  rw [arr_eq]
  cases hI with
  | mk h0 x y bv ev b e h1 h2 h3 h4 h5 h6 h7 =>
  obtain⟨xo,xc,ex⟩:=x_slice h2
  obtain⟨yo,yc,ey⟩:=x_slice h3
  obtain⟨bo,bc,eb,_⟩:=h4.form
  obtain⟨eo,ec,ee,_⟩:=h5.form
  show Calls Tryz.prog 107 #[.pointer (some ⟨c,0,none⟩),.agg #[.int .u8 h0.k,.string h0.name,.int .u8 h0.t.k,.string h0.t.n,.int .i64 h0.t.z,.int .u8 x.hd.k,.int .i64 x.hd.n,.string x.hd.name,.int .u8 x.hd.tk,.string x.hd.tn,.int .i64 x.hd.tz,x.s,
    .int .u8 y.hd.k,.int .i64 y.hd.n,.string y.hd.name,.int .u8 y.hd.tk,.string y.hd.tn,.int .i64 y.hd.tz,y.s,bv,ev]] w fun e' w'=>e'=frmE (sform h0 x y b.length e.length) (((swants h0.k).map Ws.val).getD (.bool false))∧Below w.heap.size w w'
  rw [ex,ey,eb,ee]
  have hnm:=h1.name
  have htn:=h1.t.n
  have nx:noX x=noneH ⟨x.hd.k,x.hd.n,x.hd.name,x.hd.tk,x.hd.tn,x.hd.tz⟩ x.args.length:=noX_eq x
  have ny:noX y=noneH ⟨y.hd.k,y.hd.n,y.hd.name,y.hd.tk,y.hd.tn,y.hd.tz⟩ y.args.length:=noX_eq y
  cases hw:swants h0.k with
  | none =>
    have hr:sform h0 x y b.length e.length=1:=by unfold sform;rw [hw]
    rw [hr,frmE_no (by decide)]
    exact sfrm_none B c i h0.k _ _ _ _ _ _ _ _ _ _ _ _ _ _ _ _ _ _ _ _ _ _ _ _ _ _ _ _ w h hw
  | some ws =>
    have hr:=sform_in (h:=h0) (x:=x) (y:=y) (bl:=b.length) (el:=e.length) hw
    have hk:h0.k=1 ∨ h0.k=2 ∨ h0.k=3 ∨ h0.k=4 ∨ h0.k=5 ∨ h0.k=6 ∨ h0.k=7 ∨ h0.k=8:=by
      unfold swants at hw
      split at hw
      · have:=(List.getElem?_eq_some_iff.1 hw).1
        simp only [wss,List.length_cons,List.length_nil] at this
        omega
      · cases hw
    obtain⟨k,nm,t⟩:=h0
    simp only at hk hw hr hnm htn ⊢
    rcases hk with rfl|rfl|rfl|rfl|rfl|rfl|rfl|rfl
    all_goals
      obtain rfl:_=ws:=Option.some.inj hw
      simp only [rightX,Bool.true_or,Bool.false_or,if_pos,nx,ny] at hr
    · exact sfrm_v B c i _ _ _ _ _ _ _ _ _ _ _ _ _ _ _ _ _ _ _ _ _ _ _ _ _ _ _ _ _ _ _ w h hnm htn rfl (fun w=>right_1 _ _ _ _ _ _ _ _ _ w) (by simpa using hr)
    · exact sfrm_o B c i _ _ _ _ _ _ _ _ _ _ _ _ _ _ _ _ _ _ _ _ _ _ _ _ _ _ _ _ _ _ _ _ _ _ _ w h rfl (fun w=>right_3 _ _ _ _ _ _ _ _ _ w) (by simpa using hr)
    · exact sfrm_o B c i _ _ _ _ _ _ _ _ _ _ _ _ _ _ _ _ _ _ _ _ _ _ _ _ _ _ _ _ _ _ _ _ _ _ _ w h rfl (fun w=>right_2 _ _ _ _ _ _ _ _ _ w) (by simpa using hr)
    · exact sfrm_o B c i _ _ _ _ _ _ _ _ _ _ _ _ _ _ _ _ _ _ _ _ _ _ _ _ _ _ _ _ _ _ _ _ _ _ _ w h rfl (fun w=>right_2 _ _ _ _ _ _ _ _ _ w) (by simpa using hr)
    · exact sfrm_o B c i _ _ _ _ _ _ _ _ _ _ _ _ _ _ _ _ _ _ _ _ _ _ _ _ _ _ _ _ _ _ _ _ _ _ _ w h rfl (fun w=>right_0 _ _ _ _ w) (by simpa using hr)
    · exact sfrm_o B c i _ _ _ _ _ _ _ _ _ _ _ _ _ _ _ _ _ _ _ _ _ _ _ _ _ _ _ _ _ _ _ _ _ _ _ w h rfl (fun w=>right_2 _ _ _ _ _ _ _ _ _ w) (by simpa using hr)
    · exact sfrm_o B c i _ _ _ _ _ _ _ _ _ _ _ _ _ _ _ _ _ _ _ _ _ _ _ _ _ _ _ _ _ _ _ _ _ _ _ w h rfl (fun w=>right_1 _ _ _ _ _ _ _ _ _ w) (by simpa using hr)
    · exact sfrm_o B c i _ _ _ _ _ _ _ _ _ _ _ _ _ _ _ _ _ _ _ _ _ _ _ _ _ _ _ _ _ _ _ _ _ _ _ w h rfl (fun w=>right_4 _ _ _ _ _ _ _ _ _ w) (by simpa using hr)
end Go.Proofs.YtdhieihcmnpneaaGreatDoor
/- How the show layer's checker goes through any statement and any list of them: the first thing that is wrong, or how many items it has met. -/
namespace Go.Proofs.YtdhieihcmnpneaaGreatDoor
open Lib (hid)
set_option maxRecDepth 100000
set_option maxHeartbeats 4000000
open Go.RowKit
attribute [local go_sem ↓] loadS_eq loadX_eq storeS_eq
def CS (s:St):Prop:=∀ (B c i d:Nat) (di:Int) (w:World),di=(d:Int)→Ck B c i w→B≤w.heap.size→SIn w B s→i≤1024→d≤100 →
    Calls Tryz.prog 95 #[.pointer (some ⟨c,0,none⟩),.agg s.arr,.int .i64 di] w (Went B c (chkS d i s) w)
def CL (l:List St):Prop:=∀ (B c i d:Nat) (di:Int) (v:Value) (w:World),di=(d:Int)→Ck B c i w→B≤w.heap.size→LiesG St.cells 21 w B v l→(∀ a ∈ l,SIn w B a)→i≤1024→d≤100 →
    Calls Tryz.prog 79 #[.pointer (some ⟨c,0,none⟩),v,.int .i64 di] w (Went B c (chkSs d i l) w)
theorem noX_is (x:X):noX x=noneH x.hd x.args.length:=by
  unfold noX noneH noTy
  by_cases h1:x.hd.k=0 <;> by_cases h2:x.hd.n=0 <;> by_cases h3:x.hd.name.data.toList = [] <;> by_cases h4:x.hd.tk=0 <;> by_cases h5:x.hd.tn.data.toList = [] <;> by_cases h6:x.hd.tz=0 <;> by_cases h7:x.args.length=0 <;> simp [h1,h2,h3,h4,h5,h6,h7]
theorem none_x {w':World} {B:Nat} {x:X} (hI:InW w' B x) (w:World):Calls Tryz.prog 108 #[x.val] w fun e w'=>e = .returned (.bool (noX x))∧Below w.heap.size w w':=by
  obtain⟨ao,cap,e⟩:=x_slice hI
  rw [val_of e,noX_is]
  exact none_any x.hd ao x.args.length cap w
theorem chkS_ok:∀ s,∀ d c m,chkS d c s = .ok m→m≤1024:=by
  have key:∀ (l:List St),(∀ a ∈ l,∀ d c m,chkS d c a = .ok m→m≤1024)→∀ d c m,c≤1024→chkSs d c l = .ok m→m≤1024:=by
    intro l
    induction l with
    | nil=>intro _ d c m hc e;rw [chkSs_nil] at e;cases e;exact hc
    | cons a r ihr =>
      intro hl d c m _ e
      rw [chkSs_cons] at e
      split at e
      · cases e
      · rename_i c' he
        exact ihr (fun b hb=>hl b (by simp [hb])) d c' m (hl a (by simp) d c c' he) e
  refine St.ind fun h x y bv ev b l ih1 ih2 d c m e=>?_
  rw [chkS_mk] at e
  split at e
  · cases e
  rename_i hdc
  split at e
  · split at e
    · cases e
    rename_i c1 e1
    split at e
    · cases e
    rename_i c2 e2
    split at e
    · cases e
    rename_i c3 e3
    have h1:c1≤1024:=by
      split at e1
      · exact (chk_ok x _ _ _ e1).2.2
      · cases e1;omega
    have h2:c2≤1024:=by
      split at e2
      · exact (chk_ok y _ _ _ e2).2.2
      · cases e2;omega
    exact key l ih2 _ c3 m (key b ih1 _ c2 c3 h2 e3) e
  · cases e
theorem chkSs_ok (l:List St) (d c m:Nat) (hc:c≤1024) (e:chkSs d c l = .ok m):m≤1024:=by
  induction l generalizing c with
  | nil=>rw [chkSs_nil] at e;cases e;exact hc
  | cons a r ihr =>
    rw [chkSs_cons] at e
    split at e
    · cases e
    · rename_i c' he
      exact ihr c' (chkS_ok a d c c' he) e
theorem clist_of (l:List St) (hl:∀ a ∈ l,CS a):CL l:=by
  intro B c i d di v w hdi hc hBw hL hI hi hd
  have hlt:=hc.lt
  have hBc:=hc.1
  obtain⟨ao,cap,rfl,hlen,hgo⟩:=hL.form
  obtain⟨N,hN⟩:∃ N,N=l.length:=⟨_,rfl⟩
  obtain⟨R,hR⟩:∃ R,R=chkSs d i l:=⟨_,rfl⟩
  rw [← hR]
  rw [← hN] at hlen hgo ⊢
  have HLI:=hid hL
  have HIN:=hid hI
  have HIH:=hid hl
  have HG:=hid hgo
  have HN:=hid hN
  have HR:=hid hR
  have HC:=hid hc
  have HDI:=hid hdi
  have hdi0:0≤di:=by omega
  have hdi1:di≤100:=by omega
  clear hL hI hl hgo hN hR hc hdi
  go_enter Tryz.func79,Tryz.ntmps79
  go_wp2_with fail
  go_loopw [10] (fun q wr=>∃ p:Nat,p≤N∧q = .int .i64 p∧∃ jj,jj≤1024∧Hid (R=chkSs d jj (l.drop p))∧Ck B c jj wr∧Only c w wr) (fun q _=>N - (intOf q).toNat)
  case atStart=>exact⟨0,by omega,rfl,i,hi,hid HR.out,HC.out,Only.refl c w⟩
  case round =>
    obtain⟨p,hp,rfl,jj,hjj,HRR,hCk,hOn⟩:=hrel
    have hBelow:=hOn.below hBc hBw
    have hsr:=hOn.size
    have hcr:=hCk.lt
    by_cases hlt2:p < N
    · have hpx:p < l.length:=by rw [← HN.out];exact hlt2
      obtain⟨g,off,rfl,hg⟩:=HG.out (by omega)
      have hat:=((HLI.out.below hBelow).at rfl p hpx).2
      have hma:=List.getElem_mem hpx
      have hdr:=List.drop_eq_getElem_cons hpx
      have hCS:=HIH.out _ hma
      have hIa:=SIn.keeps hBelow _ (HIN.out _ hma)
      have hRR:=HRR.out
      rw [hdr,chkSs_cons] at hRR
      generalize l[p] = a at *
      have hLd:=loadS_mid a hat
      have hST:=storeS_last wr a.arr (arr_size a) hIa.one
      have hb4:=below_box wr (.cells a.arr 64)
      have hL1:=loadS_row (arr_size a) (MapKept.heap_alloc wr (.cells a.arr 64)).1
      have HEX:=hid (hCS B c jj d di _ HDI.out (hCk.kept hb4) (by simp;omega) (SIn.keeps (hb4.mono (by omega)) _ hIa) hjj (by omega))
      have HD4:=hid (hOn.more hb4)
      have HA:=hid hRR
      have hgs:g < wr.heap.size:=by omega
      clear hma hdr hCS hIa hb4 hOn hCk hBelow HRR hRR hat
      cases ha:chkS d jj a with
      | error e =>
        have HF9:=hid (show R = .error e by rw [HA.out,ha])
        have HH:=hid ha
        clear ha
        go_wp2_with fail
        refine HEX.out.mono ?_;rintro e4 w4 hq;obtain⟨rfl,hb5⟩:=hq.not HH.out
        exact⟨rfl,Went.no HF9.out (HD4.out.trans hb5)⟩
      | ok j2 =>
        have HF9:=hid (show R=chkSs d j2 (l.drop (p+1)) by rw [HA.out,ha])
        have hj3:=chkS_ok a _ _ _ ha
        have HH:=hid ha
        clear ha
        go_wp2_with fail
        refine HEX.out.mono ?_;rintro e4 w4 hq;obtain⟨rfl,hC5,hb5⟩:=hq.yes HH.out
        have HC5:=hid hC5
        have HD5:=hid (HD4.out.trans hb5)
        clear hC5 hb5 hq hLd hST hL1
        go_wp2_with fail
        go_roundw
        case rel=>exact⟨p+1,by omega,by go_num,j2,hj3,HF9,HC5.out,HD5.out⟩
        case measure=>simp [intOf];omega
    · have HF9:=hid (show R = .ok jj by rw [HRR.out,List.drop_eq_nil_of_le (by rw [← HN.out];omega),chkSs_nil])
      have HC5:=hid hCk
      have HD5:=hid hOn
      clear hOn hCk hBelow HRR
      go_wp2_with fail
      go_end0
      exact Went.ok HF9.out HD5.out HC5.out
theorem cstmt_mk (h:Sh) (x y:X) (bv ev:Value) (b e:List St) (ihb:∀ a ∈ b,CS a) (ihe:∀ a ∈ e,CS a):CS (.mk h x y bv ev b e):=by
  intro B c i d di w hdi hc hBw hI hi hd
  have hlt:=hc.lt
  have hBc:=hc.1
  have hLb:=clist_of b ihb
  have hLe:=clist_of e ihe
  obtain⟨s,hs⟩:∃ s,s=St.mk h x y bv ev b e:=⟨_,rfl⟩
  rw [← hs] at hI ⊢
  obtain⟨R,hR⟩:∃ R,R=chkS d i s:=⟨_,rfl⟩
  rw [← hR]
  obtain⟨W1,hW1⟩:∃ W1,W1=w.alloc (.cells s.arr 64):=⟨_,rfl⟩
  have hz1:W1.heap.size=w.heap.size+1:=by rw [hW1];simp
  have hO:W1.heap[w.heap.size]? = some (.cells s.arr 64 (0,0)):=by rw [hW1];exact (MapKept.heap_alloc _ _).1
  have hD:Only c w W1:=by rw [hW1];exact (Only.refl c w).alloc _
  have hC1:Ck B c i W1:=by rw [hW1];exact hc.alloc _
  have hIT:=item_any B c i d W1 hC1 (by omega) (by omega)
  rw [hW1,← hdi] at hIT
  have HIT:=hid hIT
  have HO:=hid hO
  have HD:=hid hD
  have HI:=hid hI
  have HZ:=hid hW1
  have HDI:=hid hdi
  have HR:=hid hR
  have HLB:=hid hLb
  have HLE:=hid hLe
  have HS:=hid hs
  have hdi0:0≤di:=by omega
  have hdi1:di≤100:=by omega
  have ex:s.x=x:=by rw [hs];rfl
  have ey:s.y=y:=by rw [hs];rfl
  have eh:s.h=h:=by rw [hs];rfl
  have eb:s.bv=bv:=by rw [hs];rfl
  have ee:s.ev=ev:=by rw [hs];rfl
  have HXI:=hid (show InW w B x by rw [hs] at hI;cases hI;assumption)
  have HYI:=hid (show InW w B y by rw [hs] at hI;cases hI;assumption)
  have HBL:=hid (show LiesG St.cells 21 w B bv b∧∀ a ∈ b,SIn w B a by rw [hs] at hI;cases hI;exact⟨by assumption,by assumption⟩)
  have HEL:=hid (show LiesG St.cells 21 w B ev e∧∀ a ∈ e,SIn w B a by rw [hs] at hI;cases hI;exact⟨by assumption,by assumption⟩)
  clear hc hI hIT hO hD hC1 hW1 hdi hR ihb ihe hLb hLe
  cases hit:itemR d i with
  | error k =>
    have HF:=hid (show R = .error k by
      rw [HR.out,HS.out,chkS_mk]
      obtain⟨rfl,h2⟩:=item_no hit
      rw [if_pos h2])
    have HT:=hid hit
    clear hit hs
    go_enter Tryz.func95,Tryz.ntmps95
    go_wp2_with fail
    refine HIT.out.mono ?_;rintro e2 w2 hq;obtain⟨rfl,hb⟩:=hq.not HT.out
    rw [← HZ.out] at hb
    exact⟨rfl,Went.no HF.out (HD.out.trans hb)⟩
  | ok j =>
  have hj:=(item_ok hit).1
  have hj2:=(item_ok hit).2
  have hjl:j≤1024:=by omega
  have hd16:d≤16:=by omega
  have HT:=hid hit
  have HF0:=hid (show R=if sform h x y b.length e.length=0 then
      match (if goesX h x=true then chk 1 j x else .ok j) with
      | .error k=>.error k
      | .ok c1=>match (if goesY h=true then chk 1 c1 y else .ok c1) with
        | .error k=>.error k
        | .ok c2=>match chkSs (d+1) c2 b with
          | .error k=>.error k
          | .ok c3=>chkSs (d+1) c3 e
    else .error (sform h x y b.length e.length) by rw [HR.out,HS.out,chkS_mk,if_neg hj2,hj] <;> rfl)
  clear hit hj hj2
  by_cases hf:sform h x y b.length e.length=0
  rotate_left
  · have HF:=hid (show R = .error (sform h x y b.length e.length) by rw [HF0.out,if_neg hf])
    have HFM:=hid hf
    clear hf hs
    go_enter Tryz.func95,Tryz.ntmps95
    go_wp2_with fail
    refine HIT.out.mono ?_;rintro e2 w2 hq;obtain⟨rfl,hC2,hb⟩:=hq.yes HT.out
    rw [← HZ.out] at hb
    have hs2:=hb.size
    have hO2:w2.heap[w.heap.size]? = some (.cells s.arr 64 (0,0)):=by rw [hb.block _ (by omega) (by omega)];exact HO.out
    have hLS:=loadS_row (arr_size s) hO2
    have hFC:=sform_any B c j s w2 (SIn.keeps ((HD.out.trans hb).below hBc hBw) _ HI.out) hC2
    have HFC:=hid hFC
    have HD2:=hid (HD.out.trans hb)
    clear hb hO2 hC2 hFC hq
    go_wp2_with fail
    refine HFC.out.mono ?_;rintro e3 w3 ⟨rfl,hb3⟩
    rw [show sformS s=sform h x y b.length e.length by rw [HS.out];rfl,frmE_no HFM.out]
    exact⟨rfl,Went.no HF.out (HD2.out.more hb3)⟩
  obtain⟨ww,hww⟩:=sform_some hf
  obtain⟨qv,qx,qy,qb,qo⟩:=ww
  have HF:=hid (show R=match (if (!noX x || decide (qx=2))=true then chk 1 j x else .ok j) with
      | .error k=>.error k
      | .ok c1=>match (if qy=true then chk 1 c1 y else .ok c1) with
        | .error k=>.error k
        | .ok c2=>match chkSs (d+1) c2 b with
          | .error k=>.error k
          | .ok c3=>chkSs (d+1) c3 e by rw [HF0.out,if_pos hf];unfold goesX goesY;rw [hww] <;> rfl)
  have HFM:=hid (show sformS s=0 by rw [HS.out];exact hf)
  have HQ:=hid (show wantV s = .agg #[.bool qv,.int .u8 qx,.bool qy,.bool qb,.bool qo] by unfold wantV;rw [eh,hww];rfl)
  have HNX:=hid (fun w'=>none_x HXI.out w')
  obtain⟨nx,hnx⟩:∃ nx,nx=noX x:=⟨_,rfl⟩
  rw [← hnx] at HNX HF
  clear hf hnx hww HF0 hs
  cases qy with
  | false =>
    cases nx with
    | false =>
      go_enter Tryz.func95,Tryz.ntmps95
      go_wp2_with fail
      refine HIT.out.mono ?_;rintro e2 w2 hq;obtain⟨rfl,hC2,hb⟩:=hq.yes HT.out
      rw [← HZ.out] at hb
      have hs2:=hb.size
      have hO2:w2.heap[w.heap.size]? = some (.cells s.arr 64 (0,0)):=by rw [hb.block _ (by omega) (by omega)];exact HO.out
      have hLS:=loadS_row (arr_size s) hO2
      have hFC:=sform_any B c j s w2 (SIn.keeps ((HD.out.trans hb).below hBc hBw) _ HI.out) hC2
      rw [frmE_0 HFM.out,HQ.out] at hFC
      have HFC:=hid hFC
      have HO2:=hid hO2
      have HC2:=hid hC2
      have HD2:=hid (HD.out.trans hb)
      clear hb hO2 hC2 hFC hq
      go_wp2_with fail
      clear hLS
      refine HFC.out.mono ?_;rintro e w3 ⟨rfl,hb3⟩
      have hs3:=hb3.size
      obtain⟨W4,hW4⟩:∃ W4,W4=w3.alloc (.cells #[.bool qv,.int .u8 qx,.bool false,.bool qb,.bool qo] 160):=⟨_,rfl⟩
      have hz4:W4.heap.size=w3.heap.size+1:=by rw [hW4];simp
      have HO4:=hid (show W4.heap[w.heap.size]? = some (.cells s.arr 64) by rw [hW4,Below.heap_alloc _ _ _ (by omega),hb3.block _ (by omega)];exact HO2.out)
      have HV4:=hid (show W4.heap[w3.heap.size]? = some (.cells #[.bool qv,.int .u8 qx,.bool false,.bool qb,.bool qo] 160) by rw [hW4];exact (MapKept.heap_alloc _ _).1)
      have HC4:=hid (show Ck B c j W4 by rw [hW4];exact (HC2.out.kept hb3).alloc _)
      have HD4:=hid (show Only c w W4 by rw [hW4];exact (HD2.out.more hb3).alloc _)
      have HZ4:=hid hW4
      clear hb3 hW4
      have hLX:=st_x HO4.out
      rw [HZ4.out,ex] at hLX
      have hlt3:w.heap.size < w3.heap.size:=by omega
      go_wp2_with fail
      rw [← HZ4.out]
      refine (HNX.out _).mono ?_;rintro e w5 ⟨rfl,hb5⟩
      clear hLX
      have hs5:=hb5.size
      have HO5:=hid ((hb5.block _ (by omega)).trans HO4.out)
      have HV5:=hid ((hb5.block _ (by omega)).trans HV4.out)
      have HC5:=hid (HC4.out.kept hb5)
      have HD5:=hid (HD4.out.more hb5)
      clear hb5
      have hLX:=st_x HO5.out
      have hLY:=st_y HO5.out
      rw [ex] at hLX
      rw [ey] at hLY
      obtain⟨-,-,-,-,-,s19,s20⟩:=st_h HO5.out
      rw [eb] at s19
      rw [ee] at s20
      obtain⟨v0,v1,v2,v3,v4⟩:=own5 HV5.out
      go_wp2_with fail
      refine (cexpr_all x B c j 1 1 w5 rfl HC5.out (by omega) (InW.keeps (HD5.out.below hBc hBw) _ HXI.out) hjl (by omega)).mono ?_;rintro e6 w6 hq
      cases hch:chk 1 j x with
      | error k =>
        obtain⟨rfl,hb6⟩:=hq.not hch
        exact⟨rfl,Went.no (show R = .error k by rw [HF.out,if_pos (by rfl),hch]) (HD5.out.trans hb6)⟩
      | ok j6 =>
      obtain⟨rfl,hC6,hb6⟩:=hq.yes hch
      have hj6:=(chk_ok x _ _ _ hch).2.2
      have HF6:=hid (show R=match (if false=true then chk 1 j6 y else .ok j6) with
          | .error k=>.error k
          | .ok c2=>match chkSs (d+1) c2 b with
            | .error k=>.error k
            | .ok c3=>chkSs (d+1) c3 e by rw [HF.out,if_pos (by rfl),hch] <;> rfl)
      clear hch
      have hs6:=hb6.size
      have HO6:=hid (show w6.heap[w.heap.size]? = some (.cells s.arr 64) by rw [hb6.block _ (by omega) (by omega)];exact HO5.out)
      have HV6:=hid (show w6.heap[w3.heap.size]? = some (.cells #[.bool qv,.int .u8 qx,.bool false,.bool qb,.bool qo] 160) by rw [hb6.block _ (by omega) (by omega)];exact HV5.out)
      have HC6:=hid hC6
      have HD6:=hid (HD5.out.trans hb6)
      clear hC6 hb6 hq v0 v1 v2 v3 v4 hLX hLY s19 s20
      have hLX:=st_x HO6.out
      have hLY:=st_y HO6.out
      rw [ex] at hLX
      rw [ey] at hLY
      obtain⟨-,-,-,-,-,s19,s20⟩:=st_h HO6.out
      rw [eb] at s19
      rw [ee] at s20
      obtain⟨v0,v1,v2,v3,v4⟩:=own5 HV6.out
      have HF7:=hid (show R=match chkSs (d+1) j6 b with
            | .error k=>.error k
            | .ok c3=>chkSs (d+1) c3 e by rw [HF6.out,if_neg (by decide)] <;> rfl)
      go_wp2_with fail
      refine (HLB.out B c j6 (d+1) (di+1) bv w6 (by rw [HDI.out];omega) HC6.out (by omega) (HBL.out.1.below (HD6.out.below hBc hBw)) (fun a ha=>SIn.keeps (HD6.out.below hBc hBw) _ (HBL.out.2 a ha)) hj6 (by omega)).mono ?_;rintro e8 w8 hq
      cases hch:chkSs (d+1) j6 b with
      | error k =>
        obtain⟨rfl,hb8⟩:=hq.not hch
        exact⟨rfl,Went.no (show R = .error k by rw [HF7.out,hch]) (HD6.out.trans hb8)⟩
      | ok j8 =>
      obtain⟨rfl,hC8,hb8⟩:=hq.yes hch
      have hj8:=chkSs_ok b _ _ _ hj6 hch
      have HF8:=hid (show R=chkSs (d+1) j8 e by rw [HF7.out,hch])
      clear hch
      have hs8:=hb8.size
      have HO8:=hid (show w8.heap[w.heap.size]? = some (.cells s.arr 64) by rw [hb8.block _ (by omega) (by omega)];exact HO6.out)
      have HV8:=hid (show w8.heap[w3.heap.size]? = some (.cells #[.bool qv,.int .u8 qx,.bool false,.bool qb,.bool qo] 160) by rw [hb8.block _ (by omega) (by omega)];exact HV6.out)
      have HC8:=hid hC8
      have HD8:=hid (HD6.out.trans hb8)
      clear hC8 hb8 hq v0 v1 v2 v3 v4 hLX hLY s19 s20
      have hLX:=st_x HO8.out
      have hLY:=st_y HO8.out
      rw [ex] at hLX
      rw [ey] at hLY
      obtain⟨-,-,-,-,-,s19,s20⟩:=st_h HO8.out
      rw [eb] at s19
      rw [ee] at s20
      obtain⟨v0,v1,v2,v3,v4⟩:=own5 HV8.out
      go_wp2_with fail
      refine (HLE.out B c j8 (d+1) (di+1) ev w8 (by rw [HDI.out];omega) HC8.out (by omega) (HEL.out.1.below (HD8.out.below hBc hBw)) (fun a ha=>SIn.keeps (HD8.out.below hBc hBw) _ (HEL.out.2 a ha)) hj8 (by omega)).mono ?_;rintro e9 w9 hq
      cases hch:chkSs (d+1) j8 e with
      | error k =>
        obtain⟨rfl,hb9⟩:=hq.not hch
        exact⟨rfl,Went.no (show R = .error k by rw [HF8.out,hch]) (HD8.out.trans hb9)⟩
      | ok j9 =>
      obtain⟨rfl,hC9,hb9⟩:=hq.yes hch
      have HF9:=hid (show R = .ok j9 by rw [HF8.out,hch])
      have HC9:=hid hC9
      have HD9:=hid (HD8.out.trans hb9)
      clear hch hC9 hb9 hq v0 v1 v2 v3 v4 hLX hLY s19 s20
      go_wp2_with fail
      go_end0
      exact Went.ok HF9.out HD9.out HC9.out
    | true =>
      by_cases hx2:qx=2
      · subst hx2
        go_enter Tryz.func95,Tryz.ntmps95
        go_wp2_with fail
        refine HIT.out.mono ?_;rintro e2 w2 hq;obtain⟨rfl,hC2,hb⟩:=hq.yes HT.out
        rw [← HZ.out] at hb
        have hs2:=hb.size
        have hO2:w2.heap[w.heap.size]? = some (.cells s.arr 64 (0,0)):=by rw [hb.block _ (by omega) (by omega)];exact HO.out
        have hLS:=loadS_row (arr_size s) hO2
        have hFC:=sform_any B c j s w2 (SIn.keeps ((HD.out.trans hb).below hBc hBw) _ HI.out) hC2
        rw [frmE_0 HFM.out,HQ.out] at hFC
        have HFC:=hid hFC
        have HO2:=hid hO2
        have HC2:=hid hC2
        have HD2:=hid (HD.out.trans hb)
        clear hb hO2 hC2 hFC hq
        go_wp2_with fail
        clear hLS
        refine HFC.out.mono ?_;rintro e w3 ⟨rfl,hb3⟩
        have hs3:=hb3.size
        obtain⟨W4,hW4⟩:∃ W4,W4=w3.alloc (.cells #[.bool qv,.int .u8 2,.bool false,.bool qb,.bool qo] 160):=⟨_,rfl⟩
        have hz4:W4.heap.size=w3.heap.size+1:=by rw [hW4];simp
        have HO4:=hid (show W4.heap[w.heap.size]? = some (.cells s.arr 64) by rw [hW4,Below.heap_alloc _ _ _ (by omega),hb3.block _ (by omega)];exact HO2.out)
        have HV4:=hid (show W4.heap[w3.heap.size]? = some (.cells #[.bool qv,.int .u8 2,.bool false,.bool qb,.bool qo] 160) by rw [hW4];exact (MapKept.heap_alloc _ _).1)
        have HC4:=hid (show Ck B c j W4 by rw [hW4];exact (HC2.out.kept hb3).alloc _)
        have HD4:=hid (show Only c w W4 by rw [hW4];exact (HD2.out.more hb3).alloc _)
        have HZ4:=hid hW4
        clear hb3 hW4
        have hLX:=st_x HO4.out
        rw [HZ4.out,ex] at hLX
        have hlt3:w.heap.size < w3.heap.size:=by omega
        go_wp2_with fail
        rw [← HZ4.out]
        refine (HNX.out _).mono ?_;rintro e w5 ⟨rfl,hb5⟩
        clear hLX
        have hs5:=hb5.size
        have HO5:=hid ((hb5.block _ (by omega)).trans HO4.out)
        have HV5:=hid ((hb5.block _ (by omega)).trans HV4.out)
        have HC5:=hid (HC4.out.kept hb5)
        have HD5:=hid (HD4.out.more hb5)
        clear hb5
        have hLX:=st_x HO5.out
        have hLY:=st_y HO5.out
        rw [ex] at hLX
        rw [ey] at hLY
        obtain⟨-,-,-,-,-,s19,s20⟩:=st_h HO5.out
        rw [eb] at s19
        rw [ee] at s20
        obtain⟨v0,v1,v2,v3,v4⟩:=own5 HV5.out
        go_wp2_with fail
        refine (cexpr_all x B c j 1 1 w5 rfl HC5.out (by omega) (InW.keeps (HD5.out.below hBc hBw) _ HXI.out) hjl (by omega)).mono ?_;rintro e6 w6 hq
        cases hch:chk 1 j x with
        | error k =>
          obtain⟨rfl,hb6⟩:=hq.not hch
          exact⟨rfl,Went.no (show R = .error k by rw [HF.out,if_pos (by rfl),hch]) (HD5.out.trans hb6)⟩
        | ok j6 =>
        obtain⟨rfl,hC6,hb6⟩:=hq.yes hch
        have hj6:=(chk_ok x _ _ _ hch).2.2
        have HF6:=hid (show R=match (if false=true then chk 1 j6 y else .ok j6) with
            | .error k=>.error k
            | .ok c2=>match chkSs (d+1) c2 b with
              | .error k=>.error k
              | .ok c3=>chkSs (d+1) c3 e by rw [HF.out,if_pos (by rfl),hch] <;> rfl)
        clear hch
        have hs6:=hb6.size
        have HO6:=hid (show w6.heap[w.heap.size]? = some (.cells s.arr 64) by rw [hb6.block _ (by omega) (by omega)];exact HO5.out)
        have HV6:=hid (show w6.heap[w3.heap.size]? = some (.cells #[.bool qv,.int .u8 2,.bool false,.bool qb,.bool qo] 160) by rw [hb6.block _ (by omega) (by omega)];exact HV5.out)
        have HC6:=hid hC6
        have HD6:=hid (HD5.out.trans hb6)
        clear hC6 hb6 hq v0 v1 v2 v3 v4 hLX hLY s19 s20
        have hLX:=st_x HO6.out
        have hLY:=st_y HO6.out
        rw [ex] at hLX
        rw [ey] at hLY
        obtain⟨-,-,-,-,-,s19,s20⟩:=st_h HO6.out
        rw [eb] at s19
        rw [ee] at s20
        obtain⟨v0,v1,v2,v3,v4⟩:=own5 HV6.out
        have HF7:=hid (show R=match chkSs (d+1) j6 b with
              | .error k=>.error k
              | .ok c3=>chkSs (d+1) c3 e by rw [HF6.out,if_neg (by decide)] <;> rfl)
        go_wp2_with fail
        refine (HLB.out B c j6 (d+1) (di+1) bv w6 (by rw [HDI.out];omega) HC6.out (by omega) (HBL.out.1.below (HD6.out.below hBc hBw)) (fun a ha=>SIn.keeps (HD6.out.below hBc hBw) _ (HBL.out.2 a ha)) hj6 (by omega)).mono ?_;rintro e8 w8 hq
        cases hch:chkSs (d+1) j6 b with
        | error k =>
          obtain⟨rfl,hb8⟩:=hq.not hch
          exact⟨rfl,Went.no (show R = .error k by rw [HF7.out,hch]) (HD6.out.trans hb8)⟩
        | ok j8 =>
        obtain⟨rfl,hC8,hb8⟩:=hq.yes hch
        have hj8:=chkSs_ok b _ _ _ hj6 hch
        have HF8:=hid (show R=chkSs (d+1) j8 e by rw [HF7.out,hch])
        clear hch
        have hs8:=hb8.size
        have HO8:=hid (show w8.heap[w.heap.size]? = some (.cells s.arr 64) by rw [hb8.block _ (by omega) (by omega)];exact HO6.out)
        have HV8:=hid (show w8.heap[w3.heap.size]? = some (.cells #[.bool qv,.int .u8 2,.bool false,.bool qb,.bool qo] 160) by rw [hb8.block _ (by omega) (by omega)];exact HV6.out)
        have HC8:=hid hC8
        have HD8:=hid (HD6.out.trans hb8)
        clear hC8 hb8 hq v0 v1 v2 v3 v4 hLX hLY s19 s20
        have hLX:=st_x HO8.out
        have hLY:=st_y HO8.out
        rw [ex] at hLX
        rw [ey] at hLY
        obtain⟨-,-,-,-,-,s19,s20⟩:=st_h HO8.out
        rw [eb] at s19
        rw [ee] at s20
        obtain⟨v0,v1,v2,v3,v4⟩:=own5 HV8.out
        go_wp2_with fail
        refine (HLE.out B c j8 (d+1) (di+1) ev w8 (by rw [HDI.out];omega) HC8.out (by omega) (HEL.out.1.below (HD8.out.below hBc hBw)) (fun a ha=>SIn.keeps (HD8.out.below hBc hBw) _ (HEL.out.2 a ha)) hj8 (by omega)).mono ?_;rintro e9 w9 hq
        cases hch:chkSs (d+1) j8 e with
        | error k =>
          obtain⟨rfl,hb9⟩:=hq.not hch
          exact⟨rfl,Went.no (show R = .error k by rw [HF8.out,hch]) (HD8.out.trans hb9)⟩
        | ok j9 =>
        obtain⟨rfl,hC9,hb9⟩:=hq.yes hch
        have HF9:=hid (show R = .ok j9 by rw [HF8.out,hch])
        have HC9:=hid hC9
        have HD9:=hid (HD8.out.trans hb9)
        clear hch hC9 hb9 hq v0 v1 v2 v3 v4 hLX hLY s19 s20
        go_wp2_with fail
        go_end0
        exact Went.ok HF9.out HD9.out HC9.out
      · have hq2:(qx == 2)=false:=beq_eq_false_iff_ne.2 hx2
        go_enter Tryz.func95,Tryz.ntmps95
        go_wp2_with fail
        refine HIT.out.mono ?_;rintro e2 w2 hq;obtain⟨rfl,hC2,hb⟩:=hq.yes HT.out
        rw [← HZ.out] at hb
        have hs2:=hb.size
        have hO2:w2.heap[w.heap.size]? = some (.cells s.arr 64 (0,0)):=by rw [hb.block _ (by omega) (by omega)];exact HO.out
        have hLS:=loadS_row (arr_size s) hO2
        have hFC:=sform_any B c j s w2 (SIn.keeps ((HD.out.trans hb).below hBc hBw) _ HI.out) hC2
        rw [frmE_0 HFM.out,HQ.out] at hFC
        have HFC:=hid hFC
        have HO2:=hid hO2
        have HC2:=hid hC2
        have HD2:=hid (HD.out.trans hb)
        clear hb hO2 hC2 hFC hq
        go_wp2_with fail
        clear hLS
        refine HFC.out.mono ?_;rintro e w3 ⟨rfl,hb3⟩
        have hs3:=hb3.size
        obtain⟨W4,hW4⟩:∃ W4,W4=w3.alloc (.cells #[.bool qv,.int .u8 qx,.bool false,.bool qb,.bool qo] 160):=⟨_,rfl⟩
        have hz4:W4.heap.size=w3.heap.size+1:=by rw [hW4];simp
        have HO4:=hid (show W4.heap[w.heap.size]? = some (.cells s.arr 64) by rw [hW4,Below.heap_alloc _ _ _ (by omega),hb3.block _ (by omega)];exact HO2.out)
        have HV4:=hid (show W4.heap[w3.heap.size]? = some (.cells #[.bool qv,.int .u8 qx,.bool false,.bool qb,.bool qo] 160) by rw [hW4];exact (MapKept.heap_alloc _ _).1)
        have HC4:=hid (show Ck B c j W4 by rw [hW4];exact (HC2.out.kept hb3).alloc _)
        have HD4:=hid (show Only c w W4 by rw [hW4];exact (HD2.out.more hb3).alloc _)
        have HZ4:=hid hW4
        clear hb3 hW4
        have hLX:=st_x HO4.out
        rw [HZ4.out,ex] at hLX
        have hlt3:w.heap.size < w3.heap.size:=by omega
        go_wp2_with fail
        rw [← HZ4.out]
        refine (HNX.out _).mono ?_;rintro e w5 ⟨rfl,hb5⟩
        clear hLX
        have hs5:=hb5.size
        have HO5:=hid ((hb5.block _ (by omega)).trans HO4.out)
        have HV5:=hid ((hb5.block _ (by omega)).trans HV4.out)
        have HC5:=hid (HC4.out.kept hb5)
        have HD5:=hid (HD4.out.more hb5)
        clear hb5
        have hLX:=st_x HO5.out
        have hLY:=st_y HO5.out
        rw [ex] at hLX
        rw [ey] at hLY
        obtain⟨-,-,-,-,-,s19,s20⟩:=st_h HO5.out
        rw [eb] at s19
        rw [ee] at s20
        obtain⟨v0,v1,v2,v3,v4⟩:=own5 HV5.out
        have HF6:=hid (show R=match (if false=true then chk 1 j y else .ok j) with
            | .error k=>.error k
            | .ok c2=>match chkSs (d+1) c2 b with
              | .error k=>.error k
              | .ok c3=>chkSs (d+1) c3 e by rw [HF.out,if_neg (by simp [hx2])] <;> rfl)
        have HF7:=hid (show R=match chkSs (d+1) j b with
              | .error k=>.error k
              | .ok c3=>chkSs (d+1) c3 e by rw [HF6.out,if_neg (by decide)] <;> rfl)
        go_wp2_with fail
        refine (HLB.out B c j (d+1) (di+1) bv w5 (by rw [HDI.out];omega) HC5.out (by omega) (HBL.out.1.below (HD5.out.below hBc hBw)) (fun a ha=>SIn.keeps (HD5.out.below hBc hBw) _ (HBL.out.2 a ha)) hjl (by omega)).mono ?_;rintro e8 w8 hq
        cases hch:chkSs (d+1) j b with
        | error k =>
          obtain⟨rfl,hb8⟩:=hq.not hch
          exact⟨rfl,Went.no (show R = .error k by rw [HF7.out,hch]) (HD5.out.trans hb8)⟩
        | ok j8 =>
        obtain⟨rfl,hC8,hb8⟩:=hq.yes hch
        have hj8:=chkSs_ok b _ _ _ hjl hch
        have HF8:=hid (show R=chkSs (d+1) j8 e by rw [HF7.out,hch])
        clear hch
        have hs8:=hb8.size
        have HO8:=hid (show w8.heap[w.heap.size]? = some (.cells s.arr 64) by rw [hb8.block _ (by omega) (by omega)];exact HO5.out)
        have HV8:=hid (show w8.heap[w3.heap.size]? = some (.cells #[.bool qv,.int .u8 qx,.bool false,.bool qb,.bool qo] 160) by rw [hb8.block _ (by omega) (by omega)];exact HV5.out)
        have HC8:=hid hC8
        have HD8:=hid (HD5.out.trans hb8)
        clear hC8 hb8 hq v0 v1 v2 v3 v4 hLX hLY s19 s20
        have hLX:=st_x HO8.out
        have hLY:=st_y HO8.out
        rw [ex] at hLX
        rw [ey] at hLY
        obtain⟨-,-,-,-,-,s19,s20⟩:=st_h HO8.out
        rw [eb] at s19
        rw [ee] at s20
        obtain⟨v0,v1,v2,v3,v4⟩:=own5 HV8.out
        go_wp2_with fail
        refine (HLE.out B c j8 (d+1) (di+1) ev w8 (by rw [HDI.out];omega) HC8.out (by omega) (HEL.out.1.below (HD8.out.below hBc hBw)) (fun a ha=>SIn.keeps (HD8.out.below hBc hBw) _ (HEL.out.2 a ha)) hj8 (by omega)).mono ?_;rintro e9 w9 hq
        cases hch:chkSs (d+1) j8 e with
        | error k =>
          obtain⟨rfl,hb9⟩:=hq.not hch
          exact⟨rfl,Went.no (show R = .error k by rw [HF8.out,hch]) (HD8.out.trans hb9)⟩
        | ok j9 =>
        obtain⟨rfl,hC9,hb9⟩:=hq.yes hch
        have HF9:=hid (show R = .ok j9 by rw [HF8.out,hch])
        have HC9:=hid hC9
        have HD9:=hid (HD8.out.trans hb9)
        clear hch hC9 hb9 hq v0 v1 v2 v3 v4 hLX hLY s19 s20
        go_wp2_with fail
        go_end0
        exact Went.ok HF9.out HD9.out HC9.out
  | true =>
    cases nx with
    | false =>
      go_enter Tryz.func95,Tryz.ntmps95
      go_wp2_with fail
      refine HIT.out.mono ?_;rintro e2 w2 hq;obtain⟨rfl,hC2,hb⟩:=hq.yes HT.out
      rw [← HZ.out] at hb
      have hs2:=hb.size
      have hO2:w2.heap[w.heap.size]? = some (.cells s.arr 64 (0,0)):=by rw [hb.block _ (by omega) (by omega)];exact HO.out
      have hLS:=loadS_row (arr_size s) hO2
      have hFC:=sform_any B c j s w2 (SIn.keeps ((HD.out.trans hb).below hBc hBw) _ HI.out) hC2
      rw [frmE_0 HFM.out,HQ.out] at hFC
      have HFC:=hid hFC
      have HO2:=hid hO2
      have HC2:=hid hC2
      have HD2:=hid (HD.out.trans hb)
      clear hb hO2 hC2 hFC hq
      go_wp2_with fail
      clear hLS
      refine HFC.out.mono ?_;rintro e w3 ⟨rfl,hb3⟩
      have hs3:=hb3.size
      obtain⟨W4,hW4⟩:∃ W4,W4=w3.alloc (.cells #[.bool qv,.int .u8 qx,.bool true,.bool qb,.bool qo] 160):=⟨_,rfl⟩
      have hz4:W4.heap.size=w3.heap.size+1:=by rw [hW4];simp
      have HO4:=hid (show W4.heap[w.heap.size]? = some (.cells s.arr 64) by rw [hW4,Below.heap_alloc _ _ _ (by omega),hb3.block _ (by omega)];exact HO2.out)
      have HV4:=hid (show W4.heap[w3.heap.size]? = some (.cells #[.bool qv,.int .u8 qx,.bool true,.bool qb,.bool qo] 160) by rw [hW4];exact (MapKept.heap_alloc _ _).1)
      have HC4:=hid (show Ck B c j W4 by rw [hW4];exact (HC2.out.kept hb3).alloc _)
      have HD4:=hid (show Only c w W4 by rw [hW4];exact (HD2.out.more hb3).alloc _)
      have HZ4:=hid hW4
      clear hb3 hW4
      have hLX:=st_x HO4.out
      rw [HZ4.out,ex] at hLX
      have hlt3:w.heap.size < w3.heap.size:=by omega
      go_wp2_with fail
      rw [← HZ4.out]
      refine (HNX.out _).mono ?_;rintro e w5 ⟨rfl,hb5⟩
      clear hLX
      have hs5:=hb5.size
      have HO5:=hid ((hb5.block _ (by omega)).trans HO4.out)
      have HV5:=hid ((hb5.block _ (by omega)).trans HV4.out)
      have HC5:=hid (HC4.out.kept hb5)
      have HD5:=hid (HD4.out.more hb5)
      clear hb5
      have hLX:=st_x HO5.out
      have hLY:=st_y HO5.out
      rw [ex] at hLX
      rw [ey] at hLY
      obtain⟨-,-,-,-,-,s19,s20⟩:=st_h HO5.out
      rw [eb] at s19
      rw [ee] at s20
      obtain⟨v0,v1,v2,v3,v4⟩:=own5 HV5.out
      go_wp2_with fail
      refine (cexpr_all x B c j 1 1 w5 rfl HC5.out (by omega) (InW.keeps (HD5.out.below hBc hBw) _ HXI.out) hjl (by omega)).mono ?_;rintro e6 w6 hq
      cases hch:chk 1 j x with
      | error k =>
        obtain⟨rfl,hb6⟩:=hq.not hch
        exact⟨rfl,Went.no (show R = .error k by rw [HF.out,if_pos (by rfl),hch]) (HD5.out.trans hb6)⟩
      | ok j6 =>
      obtain⟨rfl,hC6,hb6⟩:=hq.yes hch
      have hj6:=(chk_ok x _ _ _ hch).2.2
      have HF6:=hid (show R=match (if true=true then chk 1 j6 y else .ok j6) with
          | .error k=>.error k
          | .ok c2=>match chkSs (d+1) c2 b with
            | .error k=>.error k
            | .ok c3=>chkSs (d+1) c3 e by rw [HF.out,if_pos (by rfl),hch] <;> rfl)
      clear hch
      have hs6:=hb6.size
      have HO6:=hid (show w6.heap[w.heap.size]? = some (.cells s.arr 64) by rw [hb6.block _ (by omega) (by omega)];exact HO5.out)
      have HV6:=hid (show w6.heap[w3.heap.size]? = some (.cells #[.bool qv,.int .u8 qx,.bool true,.bool qb,.bool qo] 160) by rw [hb6.block _ (by omega) (by omega)];exact HV5.out)
      have HC6:=hid hC6
      have HD6:=hid (HD5.out.trans hb6)
      clear hC6 hb6 hq v0 v1 v2 v3 v4 hLX hLY s19 s20
      have hLX:=st_x HO6.out
      have hLY:=st_y HO6.out
      rw [ex] at hLX
      rw [ey] at hLY
      obtain⟨-,-,-,-,-,s19,s20⟩:=st_h HO6.out
      rw [eb] at s19
      rw [ee] at s20
      obtain⟨v0,v1,v2,v3,v4⟩:=own5 HV6.out
      go_wp2_with fail
      refine (cexpr_all y B c j6 1 1 w6 rfl HC6.out (by omega) (InW.keeps (HD6.out.below hBc hBw) _ HYI.out) hj6 (by omega)).mono ?_;rintro e7 w7 hq
      cases hch:chk 1 j6 y with
      | error k =>
        obtain⟨rfl,hb7⟩:=hq.not hch
        exact⟨rfl,Went.no (show R = .error k by rw [HF6.out,if_pos (by simp),hch]) (HD6.out.trans hb7)⟩
      | ok j7 =>
      obtain⟨rfl,hC7,hb7⟩:=hq.yes hch
      have hj7:=(chk_ok y _ _ _ hch).2.2
      have HF7:=hid (show R=match chkSs (d+1) j7 b with
            | .error k=>.error k
            | .ok c3=>chkSs (d+1) c3 e by rw [HF6.out,if_pos (by simp),hch] <;> rfl)
      clear hch
      have hs7:=hb7.size
      have HO7:=hid (show w7.heap[w.heap.size]? = some (.cells s.arr 64) by rw [hb7.block _ (by omega) (by omega)];exact HO6.out)
      have HV7:=hid (show w7.heap[w3.heap.size]? = some (.cells #[.bool qv,.int .u8 qx,.bool true,.bool qb,.bool qo] 160) by rw [hb7.block _ (by omega) (by omega)];exact HV6.out)
      have HC7:=hid hC7
      have HD7:=hid (HD6.out.trans hb7)
      clear hC7 hb7 hq v0 v1 v2 v3 v4 hLX hLY s19 s20
      have hLX:=st_x HO7.out
      have hLY:=st_y HO7.out
      rw [ex] at hLX
      rw [ey] at hLY
      obtain⟨-,-,-,-,-,s19,s20⟩:=st_h HO7.out
      rw [eb] at s19
      rw [ee] at s20
      obtain⟨v0,v1,v2,v3,v4⟩:=own5 HV7.out
      go_wp2_with fail
      refine (HLB.out B c j7 (d+1) (di+1) bv w7 (by rw [HDI.out];omega) HC7.out (by omega) (HBL.out.1.below (HD7.out.below hBc hBw)) (fun a ha=>SIn.keeps (HD7.out.below hBc hBw) _ (HBL.out.2 a ha)) hj7 (by omega)).mono ?_;rintro e8 w8 hq
      cases hch:chkSs (d+1) j7 b with
      | error k =>
        obtain⟨rfl,hb8⟩:=hq.not hch
        exact⟨rfl,Went.no (show R = .error k by rw [HF7.out,hch]) (HD7.out.trans hb8)⟩
      | ok j8 =>
      obtain⟨rfl,hC8,hb8⟩:=hq.yes hch
      have hj8:=chkSs_ok b _ _ _ hj7 hch
      have HF8:=hid (show R=chkSs (d+1) j8 e by rw [HF7.out,hch])
      clear hch
      have hs8:=hb8.size
      have HO8:=hid (show w8.heap[w.heap.size]? = some (.cells s.arr 64) by rw [hb8.block _ (by omega) (by omega)];exact HO7.out)
      have HV8:=hid (show w8.heap[w3.heap.size]? = some (.cells #[.bool qv,.int .u8 qx,.bool true,.bool qb,.bool qo] 160) by rw [hb8.block _ (by omega) (by omega)];exact HV7.out)
      have HC8:=hid hC8
      have HD8:=hid (HD7.out.trans hb8)
      clear hC8 hb8 hq v0 v1 v2 v3 v4 hLX hLY s19 s20
      have hLX:=st_x HO8.out
      have hLY:=st_y HO8.out
      rw [ex] at hLX
      rw [ey] at hLY
      obtain⟨-,-,-,-,-,s19,s20⟩:=st_h HO8.out
      rw [eb] at s19
      rw [ee] at s20
      obtain⟨v0,v1,v2,v3,v4⟩:=own5 HV8.out
      go_wp2_with fail
      refine (HLE.out B c j8 (d+1) (di+1) ev w8 (by rw [HDI.out];omega) HC8.out (by omega) (HEL.out.1.below (HD8.out.below hBc hBw)) (fun a ha=>SIn.keeps (HD8.out.below hBc hBw) _ (HEL.out.2 a ha)) hj8 (by omega)).mono ?_;rintro e9 w9 hq
      cases hch:chkSs (d+1) j8 e with
      | error k =>
        obtain⟨rfl,hb9⟩:=hq.not hch
        exact⟨rfl,Went.no (show R = .error k by rw [HF8.out,hch]) (HD8.out.trans hb9)⟩
      | ok j9 =>
      obtain⟨rfl,hC9,hb9⟩:=hq.yes hch
      have HF9:=hid (show R = .ok j9 by rw [HF8.out,hch])
      have HC9:=hid hC9
      have HD9:=hid (HD8.out.trans hb9)
      clear hch hC9 hb9 hq v0 v1 v2 v3 v4 hLX hLY s19 s20
      go_wp2_with fail
      go_end0
      exact Went.ok HF9.out HD9.out HC9.out
    | true =>
      by_cases hx2:qx=2
      · subst hx2
        go_enter Tryz.func95,Tryz.ntmps95
        go_wp2_with fail
        refine HIT.out.mono ?_;rintro e2 w2 hq;obtain⟨rfl,hC2,hb⟩:=hq.yes HT.out
        rw [← HZ.out] at hb
        have hs2:=hb.size
        have hO2:w2.heap[w.heap.size]? = some (.cells s.arr 64 (0,0)):=by rw [hb.block _ (by omega) (by omega)];exact HO.out
        have hLS:=loadS_row (arr_size s) hO2
        have hFC:=sform_any B c j s w2 (SIn.keeps ((HD.out.trans hb).below hBc hBw) _ HI.out) hC2
        rw [frmE_0 HFM.out,HQ.out] at hFC
        have HFC:=hid hFC
        have HO2:=hid hO2
        have HC2:=hid hC2
        have HD2:=hid (HD.out.trans hb)
        clear hb hO2 hC2 hFC hq
        go_wp2_with fail
        clear hLS
        refine HFC.out.mono ?_;rintro e w3 ⟨rfl,hb3⟩
        have hs3:=hb3.size
        obtain⟨W4,hW4⟩:∃ W4,W4=w3.alloc (.cells #[.bool qv,.int .u8 2,.bool true,.bool qb,.bool qo] 160):=⟨_,rfl⟩
        have hz4:W4.heap.size=w3.heap.size+1:=by rw [hW4];simp
        have HO4:=hid (show W4.heap[w.heap.size]? = some (.cells s.arr 64) by rw [hW4,Below.heap_alloc _ _ _ (by omega),hb3.block _ (by omega)];exact HO2.out)
        have HV4:=hid (show W4.heap[w3.heap.size]? = some (.cells #[.bool qv,.int .u8 2,.bool true,.bool qb,.bool qo] 160) by rw [hW4];exact (MapKept.heap_alloc _ _).1)
        have HC4:=hid (show Ck B c j W4 by rw [hW4];exact (HC2.out.kept hb3).alloc _)
        have HD4:=hid (show Only c w W4 by rw [hW4];exact (HD2.out.more hb3).alloc _)
        have HZ4:=hid hW4
        clear hb3 hW4
        have hLX:=st_x HO4.out
        rw [HZ4.out,ex] at hLX
        have hlt3:w.heap.size < w3.heap.size:=by omega
        go_wp2_with fail
        rw [← HZ4.out]
        refine (HNX.out _).mono ?_;rintro e w5 ⟨rfl,hb5⟩
        clear hLX
        have hs5:=hb5.size
        have HO5:=hid ((hb5.block _ (by omega)).trans HO4.out)
        have HV5:=hid ((hb5.block _ (by omega)).trans HV4.out)
        have HC5:=hid (HC4.out.kept hb5)
        have HD5:=hid (HD4.out.more hb5)
        clear hb5
        have hLX:=st_x HO5.out
        have hLY:=st_y HO5.out
        rw [ex] at hLX
        rw [ey] at hLY
        obtain⟨-,-,-,-,-,s19,s20⟩:=st_h HO5.out
        rw [eb] at s19
        rw [ee] at s20
        obtain⟨v0,v1,v2,v3,v4⟩:=own5 HV5.out
        go_wp2_with fail
        refine (cexpr_all x B c j 1 1 w5 rfl HC5.out (by omega) (InW.keeps (HD5.out.below hBc hBw) _ HXI.out) hjl (by omega)).mono ?_;rintro e6 w6 hq
        cases hch:chk 1 j x with
        | error k =>
          obtain⟨rfl,hb6⟩:=hq.not hch
          exact⟨rfl,Went.no (show R = .error k by rw [HF.out,if_pos (by rfl),hch]) (HD5.out.trans hb6)⟩
        | ok j6 =>
        obtain⟨rfl,hC6,hb6⟩:=hq.yes hch
        have hj6:=(chk_ok x _ _ _ hch).2.2
        have HF6:=hid (show R=match (if true=true then chk 1 j6 y else .ok j6) with
            | .error k=>.error k
            | .ok c2=>match chkSs (d+1) c2 b with
              | .error k=>.error k
              | .ok c3=>chkSs (d+1) c3 e by rw [HF.out,if_pos (by rfl),hch] <;> rfl)
        clear hch
        have hs6:=hb6.size
        have HO6:=hid (show w6.heap[w.heap.size]? = some (.cells s.arr 64) by rw [hb6.block _ (by omega) (by omega)];exact HO5.out)
        have HV6:=hid (show w6.heap[w3.heap.size]? = some (.cells #[.bool qv,.int .u8 2,.bool true,.bool qb,.bool qo] 160) by rw [hb6.block _ (by omega) (by omega)];exact HV5.out)
        have HC6:=hid hC6
        have HD6:=hid (HD5.out.trans hb6)
        clear hC6 hb6 hq v0 v1 v2 v3 v4 hLX hLY s19 s20
        have hLX:=st_x HO6.out
        have hLY:=st_y HO6.out
        rw [ex] at hLX
        rw [ey] at hLY
        obtain⟨-,-,-,-,-,s19,s20⟩:=st_h HO6.out
        rw [eb] at s19
        rw [ee] at s20
        obtain⟨v0,v1,v2,v3,v4⟩:=own5 HV6.out
        go_wp2_with fail
        refine (cexpr_all y B c j6 1 1 w6 rfl HC6.out (by omega) (InW.keeps (HD6.out.below hBc hBw) _ HYI.out) hj6 (by omega)).mono ?_;rintro e7 w7 hq
        cases hch:chk 1 j6 y with
        | error k =>
          obtain⟨rfl,hb7⟩:=hq.not hch
          exact⟨rfl,Went.no (show R = .error k by rw [HF6.out,if_pos (by simp),hch]) (HD6.out.trans hb7)⟩
        | ok j7 =>
        obtain⟨rfl,hC7,hb7⟩:=hq.yes hch
        have hj7:=(chk_ok y _ _ _ hch).2.2
        have HF7:=hid (show R=match chkSs (d+1) j7 b with
              | .error k=>.error k
              | .ok c3=>chkSs (d+1) c3 e by rw [HF6.out,if_pos (by simp),hch] <;> rfl)
        clear hch
        have hs7:=hb7.size
        have HO7:=hid (show w7.heap[w.heap.size]? = some (.cells s.arr 64) by rw [hb7.block _ (by omega) (by omega)];exact HO6.out)
        have HV7:=hid (show w7.heap[w3.heap.size]? = some (.cells #[.bool qv,.int .u8 2,.bool true,.bool qb,.bool qo] 160) by rw [hb7.block _ (by omega) (by omega)];exact HV6.out)
        have HC7:=hid hC7
        have HD7:=hid (HD6.out.trans hb7)
        clear hC7 hb7 hq v0 v1 v2 v3 v4 hLX hLY s19 s20
        have hLX:=st_x HO7.out
        have hLY:=st_y HO7.out
        rw [ex] at hLX
        rw [ey] at hLY
        obtain⟨-,-,-,-,-,s19,s20⟩:=st_h HO7.out
        rw [eb] at s19
        rw [ee] at s20
        obtain⟨v0,v1,v2,v3,v4⟩:=own5 HV7.out
        go_wp2_with fail
        refine (HLB.out B c j7 (d+1) (di+1) bv w7 (by rw [HDI.out];omega) HC7.out (by omega) (HBL.out.1.below (HD7.out.below hBc hBw)) (fun a ha=>SIn.keeps (HD7.out.below hBc hBw) _ (HBL.out.2 a ha)) hj7 (by omega)).mono ?_;rintro e8 w8 hq
        cases hch:chkSs (d+1) j7 b with
        | error k =>
          obtain⟨rfl,hb8⟩:=hq.not hch
          exact⟨rfl,Went.no (show R = .error k by rw [HF7.out,hch]) (HD7.out.trans hb8)⟩
        | ok j8 =>
        obtain⟨rfl,hC8,hb8⟩:=hq.yes hch
        have hj8:=chkSs_ok b _ _ _ hj7 hch
        have HF8:=hid (show R=chkSs (d+1) j8 e by rw [HF7.out,hch])
        clear hch
        have hs8:=hb8.size
        have HO8:=hid (show w8.heap[w.heap.size]? = some (.cells s.arr 64) by rw [hb8.block _ (by omega) (by omega)];exact HO7.out)
        have HV8:=hid (show w8.heap[w3.heap.size]? = some (.cells #[.bool qv,.int .u8 2,.bool true,.bool qb,.bool qo] 160) by rw [hb8.block _ (by omega) (by omega)];exact HV7.out)
        have HC8:=hid hC8
        have HD8:=hid (HD7.out.trans hb8)
        clear hC8 hb8 hq v0 v1 v2 v3 v4 hLX hLY s19 s20
        have hLX:=st_x HO8.out
        have hLY:=st_y HO8.out
        rw [ex] at hLX
        rw [ey] at hLY
        obtain⟨-,-,-,-,-,s19,s20⟩:=st_h HO8.out
        rw [eb] at s19
        rw [ee] at s20
        obtain⟨v0,v1,v2,v3,v4⟩:=own5 HV8.out
        go_wp2_with fail
        refine (HLE.out B c j8 (d+1) (di+1) ev w8 (by rw [HDI.out];omega) HC8.out (by omega) (HEL.out.1.below (HD8.out.below hBc hBw)) (fun a ha=>SIn.keeps (HD8.out.below hBc hBw) _ (HEL.out.2 a ha)) hj8 (by omega)).mono ?_;rintro e9 w9 hq
        cases hch:chkSs (d+1) j8 e with
        | error k =>
          obtain⟨rfl,hb9⟩:=hq.not hch
          exact⟨rfl,Went.no (show R = .error k by rw [HF8.out,hch]) (HD8.out.trans hb9)⟩
        | ok j9 =>
        obtain⟨rfl,hC9,hb9⟩:=hq.yes hch
        have HF9:=hid (show R = .ok j9 by rw [HF8.out,hch])
        have HC9:=hid hC9
        have HD9:=hid (HD8.out.trans hb9)
        clear hch hC9 hb9 hq v0 v1 v2 v3 v4 hLX hLY s19 s20
        go_wp2_with fail
        go_end0
        exact Went.ok HF9.out HD9.out HC9.out
      · have hq2:(qx == 2)=false:=beq_eq_false_iff_ne.2 hx2
        go_enter Tryz.func95,Tryz.ntmps95
        go_wp2_with fail
        refine HIT.out.mono ?_;rintro e2 w2 hq;obtain⟨rfl,hC2,hb⟩:=hq.yes HT.out
        rw [← HZ.out] at hb
        have hs2:=hb.size
        have hO2:w2.heap[w.heap.size]? = some (.cells s.arr 64 (0,0)):=by rw [hb.block _ (by omega) (by omega)];exact HO.out
        have hLS:=loadS_row (arr_size s) hO2
        have hFC:=sform_any B c j s w2 (SIn.keeps ((HD.out.trans hb).below hBc hBw) _ HI.out) hC2
        rw [frmE_0 HFM.out,HQ.out] at hFC
        have HFC:=hid hFC
        have HO2:=hid hO2
        have HC2:=hid hC2
        have HD2:=hid (HD.out.trans hb)
        clear hb hO2 hC2 hFC hq
        go_wp2_with fail
        clear hLS
        refine HFC.out.mono ?_;rintro e w3 ⟨rfl,hb3⟩
        have hs3:=hb3.size
        obtain⟨W4,hW4⟩:∃ W4,W4=w3.alloc (.cells #[.bool qv,.int .u8 qx,.bool true,.bool qb,.bool qo] 160):=⟨_,rfl⟩
        have hz4:W4.heap.size=w3.heap.size+1:=by rw [hW4];simp
        have HO4:=hid (show W4.heap[w.heap.size]? = some (.cells s.arr 64) by rw [hW4,Below.heap_alloc _ _ _ (by omega),hb3.block _ (by omega)];exact HO2.out)
        have HV4:=hid (show W4.heap[w3.heap.size]? = some (.cells #[.bool qv,.int .u8 qx,.bool true,.bool qb,.bool qo] 160) by rw [hW4];exact (MapKept.heap_alloc _ _).1)
        have HC4:=hid (show Ck B c j W4 by rw [hW4];exact (HC2.out.kept hb3).alloc _)
        have HD4:=hid (show Only c w W4 by rw [hW4];exact (HD2.out.more hb3).alloc _)
        have HZ4:=hid hW4
        clear hb3 hW4
        have hLX:=st_x HO4.out
        rw [HZ4.out,ex] at hLX
        have hlt3:w.heap.size < w3.heap.size:=by omega
        go_wp2_with fail
        rw [← HZ4.out]
        refine (HNX.out _).mono ?_;rintro e w5 ⟨rfl,hb5⟩
        clear hLX
        have hs5:=hb5.size
        have HO5:=hid ((hb5.block _ (by omega)).trans HO4.out)
        have HV5:=hid ((hb5.block _ (by omega)).trans HV4.out)
        have HC5:=hid (HC4.out.kept hb5)
        have HD5:=hid (HD4.out.more hb5)
        clear hb5
        have hLX:=st_x HO5.out
        have hLY:=st_y HO5.out
        rw [ex] at hLX
        rw [ey] at hLY
        obtain⟨-,-,-,-,-,s19,s20⟩:=st_h HO5.out
        rw [eb] at s19
        rw [ee] at s20
        obtain⟨v0,v1,v2,v3,v4⟩:=own5 HV5.out
        have HF6:=hid (show R=match (if true=true then chk 1 j y else .ok j) with
            | .error k=>.error k
            | .ok c2=>match chkSs (d+1) c2 b with
              | .error k=>.error k
              | .ok c3=>chkSs (d+1) c3 e by rw [HF.out,if_neg (by simp [hx2])] <;> rfl)
        go_wp2_with fail
        refine (cexpr_all y B c j 1 1 w5 rfl HC5.out (by omega) (InW.keeps (HD5.out.below hBc hBw) _ HYI.out) hjl (by omega)).mono ?_;rintro e7 w7 hq
        cases hch:chk 1 j y with
        | error k =>
          obtain⟨rfl,hb7⟩:=hq.not hch
          exact⟨rfl,Went.no (show R = .error k by rw [HF6.out,if_pos (by simp),hch]) (HD5.out.trans hb7)⟩
        | ok j7 =>
        obtain⟨rfl,hC7,hb7⟩:=hq.yes hch
        have hj7:=(chk_ok y _ _ _ hch).2.2
        have HF7:=hid (show R=match chkSs (d+1) j7 b with
              | .error k=>.error k
              | .ok c3=>chkSs (d+1) c3 e by rw [HF6.out,if_pos (by simp),hch] <;> rfl)
        clear hch
        have hs7:=hb7.size
        have HO7:=hid (show w7.heap[w.heap.size]? = some (.cells s.arr 64) by rw [hb7.block _ (by omega) (by omega)];exact HO5.out)
        have HV7:=hid (show w7.heap[w3.heap.size]? = some (.cells #[.bool qv,.int .u8 qx,.bool true,.bool qb,.bool qo] 160) by rw [hb7.block _ (by omega) (by omega)];exact HV5.out)
        have HC7:=hid hC7
        have HD7:=hid (HD5.out.trans hb7)
        clear hC7 hb7 hq v0 v1 v2 v3 v4 hLX hLY s19 s20
        have hLX:=st_x HO7.out
        have hLY:=st_y HO7.out
        rw [ex] at hLX
        rw [ey] at hLY
        obtain⟨-,-,-,-,-,s19,s20⟩:=st_h HO7.out
        rw [eb] at s19
        rw [ee] at s20
        obtain⟨v0,v1,v2,v3,v4⟩:=own5 HV7.out
        go_wp2_with fail
        refine (HLB.out B c j7 (d+1) (di+1) bv w7 (by rw [HDI.out];omega) HC7.out (by omega) (HBL.out.1.below (HD7.out.below hBc hBw)) (fun a ha=>SIn.keeps (HD7.out.below hBc hBw) _ (HBL.out.2 a ha)) hj7 (by omega)).mono ?_;rintro e8 w8 hq
        cases hch:chkSs (d+1) j7 b with
        | error k =>
          obtain⟨rfl,hb8⟩:=hq.not hch
          exact⟨rfl,Went.no (show R = .error k by rw [HF7.out,hch]) (HD7.out.trans hb8)⟩
        | ok j8 =>
        obtain⟨rfl,hC8,hb8⟩:=hq.yes hch
        have hj8:=chkSs_ok b _ _ _ hj7 hch
        have HF8:=hid (show R=chkSs (d+1) j8 e by rw [HF7.out,hch])
        clear hch
        have hs8:=hb8.size
        have HO8:=hid (show w8.heap[w.heap.size]? = some (.cells s.arr 64) by rw [hb8.block _ (by omega) (by omega)];exact HO7.out)
        have HV8:=hid (show w8.heap[w3.heap.size]? = some (.cells #[.bool qv,.int .u8 qx,.bool true,.bool qb,.bool qo] 160) by rw [hb8.block _ (by omega) (by omega)];exact HV7.out)
        have HC8:=hid hC8
        have HD8:=hid (HD7.out.trans hb8)
        clear hC8 hb8 hq v0 v1 v2 v3 v4 hLX hLY s19 s20
        have hLX:=st_x HO8.out
        have hLY:=st_y HO8.out
        rw [ex] at hLX
        rw [ey] at hLY
        obtain⟨-,-,-,-,-,s19,s20⟩:=st_h HO8.out
        rw [eb] at s19
        rw [ee] at s20
        obtain⟨v0,v1,v2,v3,v4⟩:=own5 HV8.out
        go_wp2_with fail
        refine (HLE.out B c j8 (d+1) (di+1) ev w8 (by rw [HDI.out];omega) HC8.out (by omega) (HEL.out.1.below (HD8.out.below hBc hBw)) (fun a ha=>SIn.keeps (HD8.out.below hBc hBw) _ (HEL.out.2 a ha)) hj8 (by omega)).mono ?_;rintro e9 w9 hq
        cases hch:chkSs (d+1) j8 e with
        | error k =>
          obtain⟨rfl,hb9⟩:=hq.not hch
          exact⟨rfl,Went.no (show R = .error k by rw [HF8.out,hch]) (HD8.out.trans hb9)⟩
        | ok j9 =>
        obtain⟨rfl,hC9,hb9⟩:=hq.yes hch
        have HF9:=hid (show R = .ok j9 by rw [HF8.out,hch])
        have HC9:=hid hC9
        have HD9:=hid (HD8.out.trans hb9)
        clear hch hC9 hb9 hq v0 v1 v2 v3 v4 hLX hLY s19 s20
        go_wp2_with fail
        go_end0
        exact Went.ok HF9.out HD9.out HC9.out
theorem cstmt_all:∀ s,CS s:=St.ind cstmt_mk
theorem clist_all (l:List St):CL l:=clist_of l fun a _=>cstmt_all a
end Go.Proofs.YtdhieihcmnpneaaGreatDoor
/- How the show layer's checker goes through fields and a function. -/
namespace Go.Proofs.YtdhieihcmnpneaaGreatDoor
open Lib (hid)
set_option maxRecDepth 100000
set_option maxHeartbeats 4000000
open Go.RowKit
theorem chkF_cons (most i:Nat) (f:Fd) (r:List Fd):chkF most i (f :: r)=if most < i+1 then 3 else if isName f.name.data.toList=false then 1 else if f.t.form ≠ 0 then f.t.form else chkF most (i+1) r:=rfl
theorem chkF_cases (most:Nat):∀ (l:List Fd) (i:Nat),chkF most i l=0 ∨ chkF most i l=1 ∨ chkF most i l=3
  | [],_=>.inl rfl
  | f :: r,i=>by
    rw [chkF_cons]
    split
    · simp
    split
    · simp
    split
    · exact tyForm_cases _ _ _
    · exact chkF_cases most r (i+1)
theorem cells4 {w:World} {g o:Nat} {f:Fd} (h:∀ j u,f.cells[j]? = some u→w.cell? ⟨g,o+j,none⟩ = some u) :
    w.cell? ⟨g,o,none⟩ = some (.string f.name)∧w.cell? ⟨g,o+1,none⟩ = some (.int .u8 f.t.k)∧w.cell? ⟨g,o+2,none⟩ = some (.string f.t.n)∧w.cell? ⟨g,o+3,none⟩ = some (.int .i64 f.t.z):=
  ⟨h 0 _ rfl,h 1 _ rfl,h 2 _ rfl,h 3 _ rfl⟩
theorem cfields_any (most:Nat) (hm:most≤1024) (l:List Fd) (B:Nat) (v:Value) (w:World) (hL:LiesG Fd.cells 4 w B v l) (hBw:B≤w.heap.size) (hok:∀ f ∈ l,FdOk f) :
    Calls Tryz.prog 77 #[v,.int .i64 (most:Int)] w (Ends (chkF most 0 l) w):=by
  obtain⟨ao,cap,rfl,hlen,hgo⟩:=hL.form
  obtain⟨N,hN⟩:∃ N,N=l.length:=⟨_,rfl⟩
  obtain⟨R,hR⟩:∃ R,R=chkF most 0 l:=⟨_,rfl⟩
  rw [← hR]
  rw [← hN] at hlen hgo ⊢
  have HLI:=hid hL
  have HIN:=hid hok
  have HG:=hid hgo
  have HN:=hid hN
  have HR:=hid hR
  clear hL hok hgo hN hR
  go_enter Tryz.func77,Tryz.ntmps77
  go_wp2_with fail
  go_loopw [8] (fun q wr=>∃ p:Nat,p≤N∧q = .int .i64 p∧Hid (R=chkF most p (l.drop p))∧Below w.heap.size w wr) (fun q _=>N - (intOf q).toNat)
  case atStart=>exact⟨0,by omega,rfl,hid HR.out,Below.refl _ _⟩
  case round =>
    obtain⟨p,hp,rfl,HRR,hB⟩:=hrel
    have hsr:=hB.size
    by_cases hlt2:p < N
    · have hpx:p < l.length:=by rw [← HN.out];exact hlt2
      obtain⟨g,off,rfl,hg⟩:=HG.out (by omega)
      have hat:=((HLI.out.below (hB.mono hBw)).at rfl p hpx).2
      have hma:=HIN.out _ (List.getElem_mem hpx)
      have hdr:=List.drop_eq_getElem_cons hpx
      have hRR:=HRR.out
      rw [hdr,chkF_cons] at hRR
      generalize l[p] = a at *
      obtain⟨p0,p1,p2,p3⟩:=cells4 hat
      have HNM:=hid (name_any a.name hma.name)
      have HCT:=hid (ctype_any a.t.k a.t.z a.t.n hma.t.n)
      have HB4:=hid (hB.alloc hsr (.cells #[.string a.name,.int .u8 a.t.k,.string a.t.n,.int .i64 a.t.z] 57))
      have HA:=hid hRR
      have HFE:=hid (show a.t.form=tyForm a.t.k a.t.n.data.toList a.t.z from rfl)
      have hgs:g < wr.heap.size:=by omega
      have hfc:=tyForm_cases a.t.k a.t.n.data.toList a.t.z
      obtain⟨f,hf⟩:∃ f,f=tyForm a.t.k a.t.n.data.toList a.t.z:=⟨_,rfl⟩
      rw [← hf] at hfc HFE HCT
      obtain⟨rn,hrn⟩:∃ b,b=isName a.name.data.toList:=⟨_,rfl⟩
      rw [← hrn] at HNM HA
      rw [HFE.out] at HA
      clear hma hdr hB HRR hRR hat hf hrn
      by_cases h1:most < p+1
      · have HF9:=hid (show R=3 by rw [HA.out,if_pos h1])
        have hq:(most:Int) < (p:Int)+1:=by omega
        clear h1
        go_wp2_with fail
        refine (most_no _ _ (by omega) _).mono ?_;rintro e w' ⟨rfl,rfl⟩
        exact⟨rfl,Ends.limit HF9.out HB4.out⟩
      have hq:(p:Int)+1≤(most:Int):=by omega
      cases rn with
      | false =>
        have HF9:=hid (show R=1 by rw [HA.out,if_neg h1,if_pos rfl])
        clear h1
        go_wp2_with fail
        refine (most_yes _ _ (by omega) _).mono ?_;rintro e w' ⟨rfl,rfl⟩
        go_wp2_with fail
        refine (HNM.out _).mono ?_;rintro e w' ⟨rfl,rfl⟩
        go_wp2_with fail
        refine (must_no _).mono ?_;rintro e w' ⟨rfl,rfl⟩
        exact⟨rfl,Ends.arg HF9.out HB4.out⟩
      | true =>
        have HF8:=hid (show R=if f ≠ 0 then f else chkF most (p+1) (l.drop (p+1)) by rw [HA.out,if_neg h1,if_neg (by decide)])
        clear h1
        go_wp2_with fail
        refine (most_yes _ _ (by omega) _).mono ?_;rintro e w' ⟨rfl,rfl⟩
        go_wp2_with fail
        refine (HNM.out _).mono ?_;rintro e w' ⟨rfl,rfl⟩
        go_wp2_with fail
        refine (must_yes _).mono ?_;rintro e w' ⟨rfl,rfl⟩
        go_wp2_with fail
        refine (HCT.out _).mono ?_;rintro e w5 ⟨he,hb5⟩
        have HB5:=hid (HB4.out.trans (hb5.mono (by simp;omega)))
        clear hb5
        rcases hfc with rfl|rfl|rfl
        · rw [ended_ok rfl] at he
          subst he
          have HF9:=hid (show R=chkF most (p+1) (l.drop (p+1)) by rw [HF8.out,if_neg (by decide)])
          clear p0 p1 p2 p3
          go_wp2_with fail
          go_roundw
          case rel=>exact⟨p+1,by omega,by go_num,HF9,HB5.out⟩
          case measure=>simp [intOf];omega
        · subst he
          exact⟨rfl,Ends.arg (show R=1 by rw [HF8.out,if_pos (by decide)]) HB5.out⟩
        · subst he
          exact⟨rfl,Ends.limit (show R=3 by rw [HF8.out,if_pos (by decide)]) HB5.out⟩
    · have HF9:=hid (show R=0 by rw [HRR.out,List.drop_eq_nil_of_le (by rw [← HN.out];omega)];rfl)
      have HB5:=hid hB
      clear hB HRR
      go_wp2_with fail
      go_end0
      exact Ends.ok HF9.out HB5.out
theorem run_isty (tk tz:Int) (tn:ByteArray) (w:World):(binOp .neq 30 (.agg #[.int .u8 tk,.string tn,.int .i64 tz]) (.agg #[.int .u8 0,.string ⟨#[]⟩,.int .i64 0])).run Tryz.prog w = .ok (.bool (!noTy tk tn tz)) w:=by
  simp [go_sem]
  rw [bytes_list]
  unfold noTy
  by_cases h1:tk=0 <;> by_cases h2:tn.data.toList = [] <;> by_cases h3:tz=0 <;> simp [h1,h2,h3]
theorem isty_is {tk tz:Int} {tn:ByteArray} {b:Bool} (h:noTy tk tn tz=b) (w:World):(binOp .neq 30 (.agg #[.int .u8 tk,.string tn,.int .i64 tz]) (.agg #[.int .u8 0,.string ⟨#[]⟩,.int .i64 0])).run Tryz.prog w = .ok (.bool (!b)) w:=by
  rw [← h];exact run_isty tk tz tn w
theorem own6 {w:World} {b:Nat} {T:TypeId} {fr:Nat × Nat} {a0 a1 a2 a3 a4 a5:Value} (h:w.heap[b]? = some (.cells #[a0,a1,a2,a3,a4,a5] T fr)) :
    w.cell? ⟨b,0,none⟩ = some a0∧w.cell? ⟨b,1,none⟩ = some a1∧w.cell? ⟨b,2,none⟩ = some a2∧w.cell? ⟨b,3,none⟩ = some a3∧w.cell? ⟨b,4,none⟩ = some a4∧w.cell? ⟨b,5,none⟩ = some a5:=
  ⟨by rw [Lib.cell_of_heap h];rfl,by rw [Lib.cell_of_heap h];rfl,by rw [Lib.cell_of_heap h];rfl,by rw [Lib.cell_of_heap h];rfl,by rw [Lib.cell_of_heap h];rfl,by rw [Lib.cell_of_heap h];rfl⟩
theorem noTy_is (t:Ty):(t.k=0∧t.n.data.toList = [] ∧ t.z=0) ↔ noTy t.k t.n t.z=true:=by unfold noTy;simp
theorem cfunc_any (f:Fn) (B c i:Nat) (w:World) (hc:Ck B c i w) (hBw:B≤w.heap.size) (hI:NIn w B f) (hi:i≤1024) :
    Calls Tryz.prog 78 #[.pointer (some ⟨c,0,none⟩),.agg #[.string f.name,f.pv,.int .u8 f.res.k,.string f.res.n,.int .i64 f.res.z,f.bv]] w (Went B c (chkFn i f) w):=by
  have hlt:=hc.lt
  have hBc:=hc.1
  obtain⟨nm,pv,ps,⟨tk,tn,tz⟩,bv,body⟩:=f
  obtain⟨W1,hW1⟩:∃ W1,W1=w.alloc (.cells #[.string nm,pv,.int .u8 tk,.string tn,.int .i64 tz,bv] 33):=⟨_,rfl⟩
  have hz1:W1.heap.size=w.heap.size+1:=by rw [hW1];simp
  have hO:W1.heap[w.heap.size]? = some (.cells #[.string nm,pv,.int .u8 tk,.string tn,.int .i64 tz,bv] 33 (0,0)):=by rw [hW1];exact (MapKept.heap_alloc _ _).1
  have hD:Only c w W1:=by rw [hW1];exact (Only.refl c w).alloc _
  have hC1:Ck B c i W1:=by rw [hW1];exact hc.alloc _
  have hnm:nm.size≤9223372036854775807:=hI.name
  have htn:tn.size≤9223372036854775807:=hI.res.n
  have HNM:=hid (name_any nm hnm)
  have HCT:=hid (ctype_any tk tz tn htn)
  have HI:=hid hI
  have HO:=hid hO
  have HD:=hid hD
  have HC1:=hid hC1
  have HW:=hid hW1
  have HCF:=hid (cfields_any 16 (by omega) ps B pv W1 (hI.lies.below (hD.below hBc hBw)) (by omega) hI.params)
  obtain⟨r1,hr1⟩:∃ r,r=chkF 16 0 ps:=⟨_,rfl⟩
  have hr1c:=chkF_cases 16 ps 0
  obtain⟨r2,hr2⟩:∃ r,r=tyForm tk tn.data.toList tz:=⟨_,rfl⟩
  have hr2c:=tyForm_cases tk tn.data.toList tz
  obtain⟨rn,hrn⟩:∃ b,b=isName nm.data.toList:=⟨_,rfl⟩
  obtain⟨rt,hrt⟩:∃ b,b=noTy tk tn tz:=⟨_,rfl⟩
  obtain⟨R,hR⟩:∃ R,R=chkFn i ⟨nm,pv,ps,⟨tk,tn,tz⟩,bv,body⟩:=⟨_,rfl⟩
  have HR:=hid (show R=if rn=false then .error 1 else if r1 ≠ 0 then .error r1 else if rt=false∧r2 ≠ 0 then .error r2 else chkSs 1 i body by
    rw [hR,hrn,hr1,hr2,hrt]
    unfold chkFn Ty.form
    simp only [noTy_is ⟨tk,tn,tz⟩,Bool.not_eq_true])
  have hq:=isty_is hrt.symm
  rw [← hR]
  rw [← hr1] at HCF hr1c
  rw [← hr2] at HCT hr2c
  rw [← hrn] at HNM
  have HB0:=hid (own6 HO.out)
  obtain⟨q0,q1,q2,q3,q4,q5⟩:=own6 HO.out
  show Calls Tryz.prog 78 #[.pointer (some ⟨c,0,none⟩),.agg #[.string nm,pv,.int .u8 tk,.string tn,.int .i64 tz,bv]] w (Went B c R w)
  have HBL:=hid (show LiesG St.cells 21 w B bv body∧∀ a ∈ body,SIn w B a from ⟨hI.blies,hI.body⟩)
  clear hc hI hO hD hC1 hR hr1 hr2 hrn hrt hnm htn
  rw [hW1] at q0 q1 q2 q3 q4 q5
  clear hW1
  cases rn with
  | false =>
    go_enter Tryz.func78,Tryz.ntmps78
    go_wp2_with fail
    refine (HNM.out _).mono ?_;rintro e w' ⟨rfl,rfl⟩
    go_wp2_with fail
    refine (must_no _).mono ?_;rintro e w' ⟨rfl,rfl⟩
    exact⟨rfl,Went.no (show R = .error 1 by rw [HR.out];simp) (by have:=HD.out;rw [HW.out] at this;exact this)⟩
  | true =>
    go_enter Tryz.func78,Tryz.ntmps78
    go_wp2_with fail
    refine (HNM.out _).mono ?_;rintro e w' ⟨rfl,rfl⟩
    go_wp2_with fail
    refine (must_yes _).mono ?_;rintro e w' ⟨rfl,rfl⟩
    go_wp2_with fail
    rw [← HW.out]
    refine HCF.out.mono ?_;rintro e w2 ⟨he,hb2⟩
    have hs2:=hb2.size
    have HD2:=hid (HD.out.more hb2)
    have HC2:=hid (HC1.out.kept hb2)
    have HO2:=hid ((hb2.block _ (by omega)).trans HO.out)
    clear hb2 q0 q1 q2 q3 q4 q5
    by_cases h1:r1=0
    rotate_left
    · rw [ended_no h1] at he
      subst he
      exact⟨rfl,Went.no (show R = .error r1 by rw [HR.out];simp [h1]) HD2.out⟩
    rw [ended_ok h1] at he
    subst he
    obtain⟨q0,q1,q2,q3,q4,q5⟩:=own6 HO2.out
    cases rt with
    | true =>
      have HF:=hid (show R=chkSs 1 i body by rw [HR.out];simp [h1])
      go_wp2_with fail
      refine (clist_all body B c i 1 1 bv w2 rfl HC2.out (by omega) (HBL.out.1.below (HD2.out.below hBc hBw)) (fun a ha=>SIn.keeps (HD2.out.below hBc hBw) _ (HBL.out.2 a ha)) hi (by omega)).mono ?_;rintro e3 w3 hq3
      cases hch:chkSs 1 i body with
      | error k =>
        obtain⟨rfl,hb3⟩:=hq3.not hch
        exact⟨rfl,Went.no (show R = .error k by rw [HF.out,hch]) (HD2.out.trans hb3)⟩
      | ok j3 =>
        obtain⟨rfl,hC3,hb3⟩:=hq3.yes hch
        have HF9:=hid (show R = .ok j3 by rw [HF.out,hch])
        have HC9:=hid hC3
        have HD9:=hid (HD2.out.trans hb3)
        clear hch hC3 hb3 hq3 q0 q1 q2 q3 q4 q5
        go_wp2_with fail
        go_end0
        exact Went.ok HF9.out HD9.out HC9.out
    | false =>
      go_wp2_with fail
      refine (HCT.out _).mono ?_;rintro e w3 ⟨he,hb3⟩
      have hs3:=hb3.size
      have HD3:=hid (HD2.out.more hb3)
      have HC3:=hid (HC2.out.kept hb3)
      have HO3:=hid ((hb3.block _ (by omega)).trans HO2.out)
      clear hb3 q0 q1 q2 q3 q4 q5
      by_cases h2:r2=0
      rotate_left
      · rw [ended_no h2] at he
        subst he
        exact⟨rfl,Went.no (show R = .error r2 by rw [HR.out];simp [h1,h2]) HD3.out⟩
      rw [ended_ok h2] at he
      subst he
      have HF:=hid (show R=chkSs 1 i body by rw [HR.out];simp [h1,h2])
      obtain⟨q0,q1,q2,q3,q4,q5⟩:=own6 HO3.out
      go_wp2_with fail
      refine (clist_all body B c i 1 1 bv w3 rfl HC3.out (by omega) (HBL.out.1.below (HD3.out.below hBc hBw)) (fun a ha=>SIn.keeps (HD3.out.below hBc hBw) _ (HBL.out.2 a ha)) hi (by omega)).mono ?_;rintro e4 w4 hq4
      cases hch:chkSs 1 i body with
      | error k =>
        obtain⟨rfl,hb4⟩:=hq4.not hch
        exact⟨rfl,Went.no (show R = .error k by rw [HF.out,hch]) (HD3.out.trans hb4)⟩
      | ok j4 =>
        obtain⟨rfl,hC4,hb4⟩:=hq4.yes hch
        have HF9:=hid (show R = .ok j4 by rw [HF.out,hch])
        have HC9:=hid hC4
        have HD9:=hid (HD3.out.trans hb4)
        clear hch hC4 hb4 hq4 q0 q1 q2 q3 q4 q5
        go_wp2_with fail
        go_end0
        exact Went.ok HF9.out HD9.out HC9.out
end Go.Proofs.YtdhieihcmnpneaaGreatDoor
