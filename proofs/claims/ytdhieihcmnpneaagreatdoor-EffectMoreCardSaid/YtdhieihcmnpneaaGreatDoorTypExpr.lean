/- What the types layer finds of any expression. -/
import Derived.Test.YtdhieihcmnpneaaGreatDoorRows
import Derived.Test.YtdhieihcmnpneaaGreatDoorTypWt
import Derived.Test.YtdhieihcmnpneaaGreatDoorGName
import Derived.Laws.AppendOwn
import Derived.Deep.AppendLies
import Derived.Laws.OwnMore
namespace Go.Proofs.YtdhieihcmnpneaaGreatDoor
open Lib (hid)
set_option maxHeartbeats 1500000
set_option maxRecDepth 100000
open Go.RowKit
attribute [local go_sem ↓] Go.wp_at_zero Go.wp_at_succ
def SameBut (z:Nat) (w W:World):Prop:=∀ k,k < w.heap.size→k ≠ z→W.heap[k]? = w.heap[k]?
theorem SameBut.drew (z:Nat) (w:World):SameBut z w w.drew:=fun _ _ _=>rfl
theorem SameBut.cell {z:Nat} {w W:World} (h:SameBut z w W) {p:Addr} {v:Value} (hp:p.block < w.heap.size∧p.block ≠ z) (hc:w.cell? p=some v):W.cell? p=some v:=by
  rw [← hc];simp only [World.cell?,h _ hp.1 hp.2]
theorem SameBut.of {z:Nat} {w W:World} (h:Below w.heap.size w W):SameBut z w W:=fun k hk _=>h.block k hk
theorem SameBut.put {z:Nat} {w W W':World} (h:SameBut z w W) {o:Obj} (k:Put z o W W'):SameBut z w W':=fun i hi hz=>(k.rest i hz).trans (h i hi hz)
theorem own_length {w:World} {B k n:Nat} {E:TypeId} {v:Value} {xs:List Value} (h:w.ownsRow B E k v n xs):∃ ao cap,v = .slice ao n cap:=by
  rcases h.2 with ⟨rfl,rfl⟩|⟨g,cap,cur,rfl,_⟩
  · exact⟨none,0,rfl⟩
  · exact⟨_,cap,rfl⟩
theorem own_kept {w w':World} {B k n:Nat} {E:TypeId} {v:Value} {xs:List Value} (h:w.ownsRow B E k v n xs) (hs:∀ g,v.ownBlock=some g→w'.heap[g]? = w.heap[g]?):w'.ownsRow B E k v n xs:=by
  rcases h.2 with ⟨rfl,rfl⟩|⟨g,cap,cur,rfl,h2,h3,h4⟩
  · exact⟨h.1,.inl ⟨rfl,rfl⟩⟩
  · exact⟨h.1,.inr ⟨g,cap,cur,rfl,h2,(hs g rfl).trans h3,h4⟩⟩
theorem own_new {w w':World} {B k n:Nat} {E:TypeId} {v:Value} {xs:List Value} (h:w.ownsRow B E k v n xs) (hb:Below w.heap.size w w'):w'.ownsRow B E k v n xs:=
  own_kept h fun g hg=>hb.block g (h.lt g hg).2
theorem types_lie {w:World} {B:Nat} {v:Value} {n:Nat} {ts:List Ty} (h:w.ownsRow B 30 3 v n (ts.flatMap Ty.cells)) (hn:n=ts.length) (hl:n≤140737488351232):LiesG Ty.cells 3 w w.heap.size v ts:=by
  rcases h.2 with ⟨rfl,rfl⟩|⟨g,cap,cur,rfl,h2,h3,h4⟩
  · obtain rfl:ts = []:=List.length_eq_zero_iff.1 hn.symm
    exact⟨none,0,rfl,by simp,.inl rfl⟩
  · refine⟨some ⟨g,0,none⟩,cap,by rw [hn],by omega,.inr ⟨g,0,rfl,(Array.getElem?_eq_some_iff.1 h3).1,fun i x hx j u hu=>?_⟩⟩
    have hi:=(List.getElem?_eq_some_iff.1 hx).1
    have hj:j < 3:=(List.getElem?_eq_some_iff.1 hu).1
    have hf:∀ (l:List Ty) (i:Nat) (x:Ty),l[i]? = some x→(l.flatMap Ty.cells)[i * 3+j]? = x.cells[j]?:=by
      intro l
      induction l with
      | nil=>intro i x hx;cases hx
      | cons a r ih =>
        intro i x hx
        rw [List.flatMap_cons]
        cases i with
        | zero =>
          obtain rfl:a=x:=by simpa using hx
          rw [Nat.zero_mul,Nat.zero_add,List.getElem?_append_left (by simp [Ty.cells];omega)]
        | succ i =>
          rw [List.getElem?_append_right (by simp [Ty.cells];omega),show (i+1) * 3+j - a.cells.length=i * 3+j by simp [Ty.cells];omega]
          exact ih i x (by simpa using hx)
    rw [Nat.zero_add,h.cellAt (i * 3+j) (by omega),hf ts i x hx]
    exact hu
theorem infoT:(Tryz.prog.info? 30).map (fun i=>(i.zero,i.size,i.bytes))=some (some (.agg #[.int .u8 0,.string ⟨#[]⟩,.int .i64 0]),3,32):=by kernel_rfl
def moreT (acc:List Ty) (R:Except Int (List Ty)):Except Int (List Ty):=match R with
  | .error k=>.error k
  | .ok r=>.ok (acc ++ r)
theorem moreT_nil (R:Except Int (List Ty)):moreT [] R=R:=by cases R <;> rfl
theorem moreT_next (acc:List Ty) (e:En) (loc:List Fd) (a:X) (r:List X):moreT acc (argsT e loc (a :: r))=match valueT e loc a with
    | .error k=>.error k
    | .ok t=>moreT (acc ++ [t]) (argsT e loc r):=by
  rw [argsT_cons]
  unfold valueT
  cases valT (exprT e loc a) with
  | error k=>rfl
  | ok t =>
    simp only
    cases argsT e loc r with
    | error k=>rfl
    | ok ts=>simp [moreT]
theorem form_args {h:Hd} {m:Nat} (hf:form h m=0):(h.k=4→m=1)∧(h.k=5→m=2)∧(h.k=15 ∨ h.k=16→m=2):=by
  unfold form at hf
  refine⟨fun hk=>?_,fun hk=>?_,fun hk=>?_⟩
  · rw [hk,show wants 4=some ⟨1,false,true,false,⟨#[]⟩⟩ from rfl] at hf
    by_cases hm:m=1
    · exact hm
    · simp only at hf;rw [if_pos (by omega)] at hf;cases hf
  · rw [hk,show wants 5=some ⟨2,false,false,false,⟨#[]⟩⟩ from rfl] at hf
    by_cases hm:m=2
    · exact hm
    · simp only at hf;rw [if_pos (by omega)] at hf;cases hf
  · rcases hk with hk|hk
    · rw [hk,show wants 15=some ⟨2,false,false,false,⟨#[61,61]⟩⟩ from rfl] at hf
      by_cases hm:m=2
      · exact hm
      · simp only at hf;rw [if_pos (by omega)] at hf;cases hf
    · rw [hk,show wants 16=some ⟨2,false,false,false,⟨#[33,61]⟩⟩ from rfl] at hf
      by_cases hm:m=2
      · exact hm
      · simp only at hf;rw [if_pos (by omega)] at hf;cases hf
def thenO (RA:Except Int (List Ty)) (e:En) (loc:List Fd) (h:Hd):Except Int Ty:=match RA with
  | .error k=>.error k
  | .ok ts=>ownT e loc h ts
theorem thenO_no (k:Int) (e:En) (loc:List Fd) (h:Hd):thenO (.error k) e loc h = .error k:=rfl
theorem thenO_ok (ts:List Ty) (e:En) (loc:List Fd) (h:Hd):thenO (.ok ts) e loc h=ownT e loc h ts:=rfl
theorem sizes_ge:∀ l:List X,l.length≤X.sizes l
  | []=>by simp
  | a :: r=>by have:=size_pos a;have:=sizes_ge r;rw [sizes_cons,List.length_cons];omega
theorem sizes_mem {a:X}:∀ {l:List X},a ∈ l→X.size a≤X.sizes l
  | b :: r,h=>by
    rw [sizes_cons]
    rcases List.mem_cons.1 h with rfl|h
    · omega
    · have:=sizes_mem h;omega
theorem two_of {α:Type} {l:List α} (h:l.length=2):∃ a b,l = [a,b]:=by
  match l,h with
  | [a,b],_=>exact⟨a,b,rfl⟩
theorem fine_kids {h:Hd} {s:Value} {l:List X} (hf:Fine (.mk h s l)):form h l.length=0∧∀ a ∈ l,Fine a:=by
  cases hf with|mk _ _ _ h1 h2=>exact⟨h1,h2⟩
theorem allInt_step (ts:List Ty) (p:Nat) {t:Ty} (h1:ts[p]? = some t):allInt (ts.drop p)=(decide (t=intT) && allInt (ts.drop (p+1))):=by
  obtain⟨l1,rfl⟩:=List.getElem?_eq_some_iff.1 h1
  rw [List.drop_eq_getElem_cons l1]
  rfl
theorem expr_mk (h:Hd) (s:Value) (l:List X) (ih:∀ a ∈ l,EX a):EX (.mk h s l):=by
  intro c e tv p res loc v w hT hI hF hS hL
  obtain⟨lo,rfl⟩:=lc_ptr hL
  obtain⟨hok,hin⟩:=in_kids hI
  obtain⟨xo,xc,rfl,hlen,hgo⟩:=lies_form hI
  obtain⟨hfm,hfk⟩:=fine_kids hF
  rw [size_mk] at hS
  have hsz:=sizes_ge l
  have HSZ:=hid (show ∀ a ∈ l,X.size a≤1024 from fun a ha=>by have:=sizes_mem ha;omega)
  obtain⟨i0,hi,hz0,hz1',hz2⟩:=info_parts infoT
  obtain⟨N,hN⟩:∃ N,N=l.length:=⟨_,rfl⟩
  have HINF:=hid (And.intro hi (And.intro hz0 (And.intro hz1' hz2)))
  obtain⟨hk,hn,hnm,htk,htn,htz⟩:=h
  obtain⟨R,hR⟩:∃ R,R=exprT e loc (.mk ⟨hk,hn,hnm,htk,htn,htz⟩ (.slice xo l.length xc) l):=⟨_,rfl⟩
  obtain⟨RA,hRA⟩:∃ R,R=argsT e loc l:=⟨_,rfl⟩
  have HR0:=hid (show R=thenO RA e loc ⟨hk,hn,hnm,htk,htn,htz⟩ by rw [hR,hRA,exprT_mk] <;> rfl)
  have HRA:=hid hRA
  show Calls Tryz.prog 102 #[.pointer (some ⟨c,0,none⟩),.agg #[.int .u8 hk,.int .i64 hn,.string hnm,.int .u8 htk,.string htn,.int .i64 htz,.slice xo l.length xc],.pointer lo] w (TyE p (exprT e loc (.mk ⟨hk,hn,hnm,htk,htn,htz⟩ (.slice xo l.length xc) l)) w)
  rw [← hR]
  obtain⟨W1,hW1⟩:∃ W1,W1=(w.alloc (.cells #[.int .u8 hk,.int .i64 hn,.string hnm,.int .u8 htk,.string htn,.int .i64 htz,.slice xo l.length xc] 62)).alloc (.cells #[.int .u8 0,.string ⟨#[]⟩,.int .i64 0] 30):=⟨_,rfl⟩
  have hb1:Below w.heap.size w W1:=by rw [hW1];exact (below_box w _).alloc (by simp) _
  have hz1:W1.heap.size=w.heap.size+2:=by rw [hW1];simp
  have hO:W1.heap[w.heap.size]? = some (.cells #[.int .u8 hk,.int .i64 hn,.string hnm,.int .u8 htk,.string htn,.int .i64 htz,.slice xo l.length xc] 62 (0,0)):=by rw [hW1,Below.heap_alloc _ _ _ (by simp)];exact (MapKept.heap_alloc _ _).1
  have hZ:W1.heap[w.heap.size+1]? = some (.cells #[.int .u8 0,.string ⟨#[]⟩,.int .i64 0] 30 (0,0)):=by rw [hW1,show w.heap.size+1=(w.alloc (.cells #[.int .u8 hk,.int .i64 hn,.string hnm,.int .u8 htk,.string htn,.int .i64 htz,.slice xo l.length xc] 62)).heap.size by simp];exact (MapKept.heap_alloc _ _).1
  rw [← hN] at hlen hgo hO hW1 ⊢
  have HIW:=hid ((InW.keeps hb1 _ hI).up (show w.heap.size≤W1.heap.size by omega))
  have HIN:=hid (fun a ha=>(InW.keeps hb1 _ (hin a ha)).up (show w.heap.size≤W1.heap.size by omega))
  have HFK:=hid hfk
  have HFM:=hid (show form ⟨hk,hn,hnm,htk,htn,htz⟩ l.length=0 from hfm)
  have HIH:=hid ih
  have HG:=hid hgo
  have HN:=hid hN
  have HB1:=hid hb1
  have HO:=hid hO
  have HZ:=hid hZ
  have HW:=hid hW1
  have HT1:=hid (hT.kept hb1)
  have HL1:=hid (hL.below hb1)
  obtain⟨b0,b1,b2,b3,b4,b5,b6⟩:=own7 hO
  rw [hW1] at b0 b1 b2 b3 b4 b5 b6
  have hN63:N≤9223372036854775807:=hlen
  have hsm:N≤1024:=by omega
  clear hT hI hF hL hok hin hfm hfk hi hz0 hz1' hz2 hR hRA hb1 hO hZ hW1 ih hgo hN hsz hS
  go_enter Tryz.func102,Tryz.ntmps102
  go_wp2_with fail
  clear b0 b1 b2 b3 b4 b5 b6
  rw [← HW.out]
  go_loopw [15,7] (fun q va wr=>∃ k:Nat,k≤N∧q = .int .i64 k∧∃ acc:List Ty,acc.length=k∧Hid (RA=moreT acc (argsT e loc (l.drop k)))∧wr.ownsRow (w.heap.size+2) 30 3 va k (acc.flatMap Ty.cells)∧Below (w.heap.size+2) W1 wr) (fun q _ _=>N - (intOf q).toNat)
  case atStart=>exact⟨0,by omega,rfl,[],rfl,hid (by rw [moreT_nil];exact HRA.out),World.ownsRow_nil _ _ _ _,Below.refl _ _⟩
  case round =>
    obtain⟨k,hkN,rfl,acc,hacc,HM,hown,hB⟩:=hrel
    have hsr:=hB.size
    have hB2:Below W1.heap.size W1 wr:=by rw [hz1];exact hB
    by_cases hlt2:k < N
    · have hpx:k < l.length:=by rw [← HN.out];exact hlt2
      obtain⟨g,off,rfl,hg⟩:=HG.out (by omega)
      have hIr:=InW.keeps hB2 _ HIW.out
      obtain⟨ao2,n2,c2,ea,p0,p1,p2,p3,p4,p5,p6⟩:=kidk hIr rfl k hpx
      have hma:=List.getElem_mem hpx
      have hdr:=List.drop_eq_getElem_cons hpx
      have hEX:=HIH.out _ hma
      have hFa:=HFK.out _ hma
      have hSa:=HSZ.out _ hma
      have hIa:=InW.keeps hB2 _ (HIN.out _ hma)
      have hMM:=HM.out
      rw [hdr,moreT_next] at hMM
      generalize l[k] = a at *
      have hgs:g < wr.heap.size:=by omega
      have hb4:=below_box wr (.cells #[.int .u8 a.hd.k,.int .i64 a.hd.n,.string a.hd.name,.int .u8 a.hd.tk,.string a.hd.tn,.int .i64 a.hd.tz,.slice ao2 n2 c2] 62)
      have hVA:=value_of a hEX c e tv p res loc (.pointer lo) _ ((HT1.out.kept hB2).kept hb4) ((InW.keeps (hb4.mono (by omega)) _ hIa).up (by simp;omega)) hFa hSa ((HL1.out.below hB2).below hb4)
      rw [val_of ea] at hVA
      have HVA:=hid hVA
      have HMM:=hid hMM
      have HB4:=hid (hB.trans (hb4.mono (by omega)))
      have HOW4:=hid (own_new hown hb4)
      have hs4:(wr.alloc (.cells #[.int .u8 a.hd.k,.int .i64 a.hd.n,.string a.hd.name,.int .u8 a.hd.tk,.string a.hd.tn,.int .i64 a.hd.tz,.slice ao2 n2 c2] 62)).heap.size=wr.heap.size+1:=by simp
      have HS4:=hid hs4
      have HAC:=hid hacc
      obtain⟨vo,vcap,rfl⟩:=own_length hown
      clear hIr hma hdr hEX hFa hSa hIa hMM hb4 hVA ea hB hB2 HM hown hs4 hacc
      go_wp2_with fail
      refine HVA.out.mono ?_;rintro e' w5 hq
      cases hRc:valueT e loc a with
      | error kk =>
        obtain⟨rfl,hb5⟩:=hq.not hRc
        have HRR:=hid (show R = .error kk by rw [HR0.out,HMM.out,hRc,thenO_no])
        exact⟨rfl,TyE.no HRR.out (HB1.out.trans ((HB4.out.trans (hb5.mono (by rw [HS4.out];omega))).mono (by omega)))⟩
      | ok t =>
      obtain⟨he,hb5⟩:=hq.yes hRc
      obtain⟨ak,an,az⟩:=t
      replace he:e' = .returned (.agg #[.int .u8 ak,.string an,.int .i64 az]):=he
      subst he
      have hs5:=hb5.size
      rw [HS4.out] at hs5
      have HM5:=hid (show RA=moreT (acc ++ [⟨ak,an,az⟩]) (argsT e loc (l.drop (k+1))) by rw [HMM.out,hRc])
      have HB5:=hid (HB4.out.trans (hb5.mono (by rw [HS4.out];omega)))
      have hown5:=own_new HOW4.out hb5
      have hlo:=hown5.lt
      clear hb5 hq hRc p0 p1 p2 p3 p4 p5 p6
      go_wp2_with (at_builtin;refine wpList_append_own _ rfl _ _ 177 rfl (w.heap.size+2) 30 i0 (.agg #[.int .u8 0,.string ⟨#[]⟩,.int .i64 0]) 3 32 Tryz.underlying177 HINF.out.1 HINF.out.2.1 HINF.out.2.2.1 HINF.out.2.2.2 rfl (by decide) _ _ _ rfl (hown5.alloc _) ⟨w5.heap.size,0,none⟩ 1 1 [.int .u8 ak,.string an,.int .i64 az] rfl rfl ?c1 ?c2 ?c3 ?c4 ?c5 ?_)
      case c1=>exact World.news_of_block (MapKept.heap_alloc _ _).1
      case c2=>simp [Value.oneCell']
      case c3=>unfold maxLen;omega
      case c4=>omega
      case c5=>simp;omega
      intro v' w6 hown6 hgrow _
      have HO6:=hid hown6
      have HB6:=hid ((HB5.out.alloc (show w.heap.size+2≤w5.heap.size by omega) (.cells #[.int .u8 ak,.string an,.int .i64 az] 30)).grown hgrow (by simp;omega) (fun j hj=>(hlo j hj).1))
      clear hown6 hgrow hown5 hlo
      go_wp2_with fail
      go_roundw
      case rel=>exact⟨k+1,by omega,by go_num,acc ++ [⟨ak,an,az⟩],by simp [HAC.out],HM5,by rw [List.flatMap_append];exact HO6.out,HB6.out⟩
      case measure=>simp [intOf];omega
    · have HRAe:=hid (show RA = .ok acc by rw [HM.out,List.drop_eq_nil_of_le (by rw [← HN.out];omega),argsT_nil];simp [moreT])
      obtain⟨ts,hts⟩:∃ ts,ts=acc:=⟨_,rfl⟩
      rw [← hts] at hacc hown HRAe
      have hkN2:N=k:=by omega
      subst hkN2
      obtain⟨va,vcap,rfl⟩:=own_length hown
      have HLEN2:=hid hacc
      have HLEN:=hid (show ts.length=l.length by rw [hacc,HN.out])
      have HLI:=hid (types_lie hown hacc.symm (by omega))
      have HGA:=hid (show ∀ ga oa,va=some ⟨ga,oa,none⟩ → ga < wr.heap.size∧ga ≠ w.heap.size+1 from fun ga oa hga=>by
        subst hga
        rcases hown.2 with ⟨hv,_⟩|⟨g',cap',cur',hv,_⟩
        · injection hv with e1;cases e1
        · injection hv with e1 e2 e3
          injection e1 with e1
          injection e1 with e4 e5
          have:=hown.lt g' (by rw [e4,e5];rfl)
          omega)
      have HTr:=hid (HT1.out.kept hB2)
      have HLr:=hid (HL1.out.below hB2)
      have HBr:=hid (HB1.out.trans (hB.mono (by omega)))
      have HZr:=hid ((hB.block _ (by omega)).trans HZ.out)
      have HOr:=hid ((hB.block _ (by omega)).trans HO.out)
      obtain⟨b0,b1,b2,b3,b4,b5,b6⟩:=own7 HOr.out
      have HRo:=hid (show R=ownT e loc ⟨hk,hn,hnm,htk,htn,htz⟩ ts by rw [HR0.out,HRAe.out,thenO_ok])
      have hNle:w.heap.size+2≤wr.heap.size:=by omega
      clear hB hB2 hown HM hacc hts HIW HIN HFK HIH HG HT1 HL1 HB1 HZ HO HW HINF HRAe HRA HR0
      by_cases k2:hk=2
      · subst k2
        have HR:=hid (show R=(.ok nilT) from HRo.out)
        clear HRo
        go_wp2_with fail
        refine (niltype_any _).mono ?_;rintro e' w5 ⟨rfl,hb5⟩
        have hs5:=hb5.size
        have HB5:=hid (HBr.out.trans (hb5.mono (by omega)))
        have HZ5:=hid ((hb5.block _ (by omega)).trans HZr.out)
        clear hb5 b0 b1 b2 b3 b4 b5 b6
        go_wp2_with (refine wpList_put rfl 30 (Operand.tmp 6) (Operand.tmp 41) rfl (w.heap.size+1) 30 _ #[.int .u8 4,.string ⟨#[]⟩,.int .i64 0] rfl rfl HZ5.out rfl (by kernel_rfl) (by simp [Value.oneCell']) ?_)
        intro w6 hp6
        have HP6:=hid hp6
        clear hp6
        go_wp2_with fail
        refine bodyPost_ret (v:=.agg #[.int .u8 4,.string ⟨#[]⟩,.int .i64 0]) (results_cell_row rfl _ _ (w.heap.size+1) 30 _ (0,0) _ rfl HP6.out.at_b Tryz.underlying30 rfl (by kernel_rfl)) rfl ?_
        exact TyE.ok (t:=nilT) HR.out (HP6.out.below HB5.out (by omega))
      have j2:(hk == 2)=false:=beq_eq_false_iff_ne.2 k2
      by_cases k3:hk=3
      · subst k3
        have HR:=hid (show R=(namedT e loc hnm) from HRo.out)
        clear HRo
        go_wp2_with fail
        refine (named_any c e tv p res loc (.pointer lo) hnm wr HTr.out HLr.out).mono ?_;rintro e' w5 hq
        cases hRc:namedT e loc hnm with
        | error k =>
          obtain⟨rfl,hb5⟩:=hq.not hRc
          exact⟨rfl,TyE.no (HR.out.trans hRc) (HBr.out.trans (hb5.mono (by omega)))⟩
        | ok t =>
        obtain⟨he,hb5⟩:=hq.yes hRc
        obtain⟨ak,an,az⟩:=t
        replace he:e' = .returned (.agg #[.int .u8 ak,.string an,.int .i64 az]):=he
        subst he
        have hs5:=hb5.size
        replace HR:=hid (HR.out.trans hRc)
        have HB5:=hid (HBr.out.trans (hb5.mono (by omega)))
        have HZ5:=hid ((hb5.block _ (by omega)).trans HZr.out)
        clear hb5 hq hRc b0 b1 b2 b3 b4 b5 b6
        go_wp2_with (refine wpList_put rfl 30 (Operand.tmp 6) (Operand.tmp 48) rfl (w.heap.size+1) 30 _ #[.int .u8 ak,.string an,.int .i64 az] rfl rfl HZ5.out rfl (by kernel_rfl) (by simp [Value.oneCell']) ?_)
        intro w6 hp6
        have HP6:=hid hp6
        clear hp6
        go_wp2_with fail
        refine bodyPost_ret (v:=.agg #[.int .u8 ak,.string an,.int .i64 az]) (results_cell_row rfl _ _ (w.heap.size+1) 30 _ (0,0) _ rfl HP6.out.at_b Tryz.underlying30 rfl (by kernel_rfl)) rfl ?_
        exact TyE.ok (t:=⟨ak,an,az⟩) HR.out (HP6.out.below HB5.out (by omega))
      have j3:(hk == 3)=false:=beq_eq_false_iff_ne.2 k3
      by_cases k4:hk=4
      · subst k4
        have HR:=hid (show R=(fieldT e (tyAt ts 0) hnm) from HRo.out)
        clear HRo
        go_wp2_with fail
        obtain⟨⟨xk,xn,xz⟩,rfl⟩:∃ t,ts = [t]:=List.length_eq_one_iff.1 (by rw [HLEN.out];exact (form_args HFM.out).1 (by rfl))
        obtain⟨va',vcap',eva,hvl,hvg⟩:=HLI.out.form
        obtain⟨ga,oa,hva,hga⟩:=hvg (by simp)
        injection eva with e1 e2 e3
        rw [← e1] at hva
        subst hva
        obtain⟨-,t0,t1,t2⟩:=ty_at HLI.out rfl (i:=0) rfl
        simp only [Nat.zero_mul,Nat.add_zero] at t0 t1 t2
        have hgz:=HGA.out ga oa rfl
        have hN0:(0:Int) < (N:Int):=by rw [e2];simp
        have hNz:¬ N=0:=by omega
        clear e1 e2 e3 hvl hvg
        refine wp_region_held_drew (S:=SameBut (w.heap.size+1) wr) (by kernel_rfl) (SameBut.drew _ _) (fun hSw=>?_)
        refine wt (i:=0) (oi:={ dst:=some 51,op:=Op.move (Operand.tmp 0),type:=73,pos := "exprs.go:40", after:=#[],guard:=none }) (v:=.pointer (some ⟨c,0,none⟩)) (fun W hW=>?_) hSw ?_
        · first|(go_simp;done)|rfl
        try simp only [Act.put,q1,q2,q3]
        refine wt (i:=1) (oi:={ dst:=some 52,op:=Op.move (Operand.tmp 7),type:=177,pos := "exprs.go:40", after:=#[],guard:=none }) (v:=.slice (some ⟨ga,oa,none⟩) N vcap) (fun W hW=>?_) hSw ?_
        · first|(go_simp;done)|rfl
        try simp only [Act.put,q1,q2,q3]
        refine wt (i:=2) (oi:={ dst:=some 53,op:=Op.indexAddr 177 (Operand.tmp 52) (Operand.const (Value.int IntKind.i64 0)),type:=0,pos := "exprs.go:40", after:=#[gd 1],guard:=none }) (v:=.pointer (some ⟨ga,oa,none⟩)) (fun W hW=>?_) hSw ?_
        · first|(go_simp;done)|rfl
        try simp only [Act.put,q1,q2,q3]
        refine wt (i:=3) (oi:={ dst:=some 54,op:=Op.load 30 (Operand.tmp 53),type:=30,pos := "exprs.go:40", after:=#[gd 2],guard:=none }) (v:=.agg #[.int .u8 xk,.string xn,.int .i64 xz]) (fun W hW=>?_) hSw ?_
        · have t0:=hW.cell (by dsimp only;omega) t0
          have t1:=hW.cell (by dsimp only;omega) t1
          have t2:=hW.cell (by dsimp only;omega) t2
          first|(go_simp;done)|rfl
        try simp only [Act.put,q1,q2,q3]
        refine wt (i:=4) (oi:={ dst:=some 55,op:=Op.fieldAddr 62 (Operand.tmp 4) 2,type:=0,pos := "exprs.go:40", after:=#[],guard:=none }) (v:=.pointer (some ⟨w.heap.size,2,none⟩)) (fun W hW=>?_) hSw ?_
        · first|(go_simp;done)|rfl
        try simp only [Act.put,q1,q2,q3]
        refine wt (i:=5) (oi:={ dst:=some 56,op:=Op.load 9 (Operand.tmp 55),type:=9,pos := "exprs.go:40", after:=#[gd 4],guard:=none }) (v:=.string hnm) (fun W hW=>?_) hSw ?_
        · have b2:=hW.cell (by dsimp only;omega) b2
          first|(go_simp;done)|rfl
        try simp only [Act.put,q1,q2,q3]
        refine wpAnyH_ready (rs:=[6]) (by kernel_rfl) (by simp) ?_
        refine AllReadyH.cons (o:={ dst:=some 57,op:=Op.call { callee:=Callee.value (Operand.func 114),args:=#[Operand.tmp 51,Operand.tmp 54,Operand.tmp 56],argTypes:=#[73,30,9] },type:=30,pos := "exprs.go:40", after:=#[gd 0,gd 3,gd 5],guard:=none }) rfl (fun K hK=>?_) AllReadyH.nil
        rw [if_pos (by rfl)]
        clear hSw
        go_simp
        refine (field_any c e tv p res ⟨xk,xn,xz⟩ hnm wr.drew HTr.out.drew).mono ?_;rintro e' w5 hq
        have HR2:=hid (show R=fieldT e ⟨xk,xn,xz⟩ hnm from HR.out)
        cases hRc:fieldT e ⟨xk,xn,xz⟩ hnm with
        | error k =>
          obtain⟨rfl,hb5⟩:=hq.not hRc
          exact⟨rfl,TyE.no (HR2.out.trans hRc) (HBr.out.trans ((below_tape hb5).mono (show w.heap.size≤wr.heap.size by omega)))⟩
        | ok t =>
        obtain⟨he,hb5⟩:=hq.yes hRc
        obtain⟨ak,an,az⟩:=t
        replace he:e' = .returned (.agg #[.int .u8 ak,.string an,.int .i64 az]):=he
        subst he
        replace hb5:Below wr.heap.size wr w5:=below_tape hb5
        have hs5:=hb5.size
        replace HR:=hid (HR2.out.trans hRc)
        have HB5:=hid (HBr.out.trans (hb5.mono (by omega)))
        have hZ5:=(hb5.block _ (by omega)).trans HZr.out
        have HS5:=hid (SameBut.of (z:=w.heap.size+1) hb5)
        clear hb5 hq hRc
        refine hK.out _ _ (HS5.out) (fun hSw=>?_)
        clear hK K
        try simp only [Act.put,q1,q2,q3]
        refine wpAnyH_ready (rs:=[7]) (by kernel_rfl) (by simp) ?_
        refine AllReadyH.cons (o:={ dst:=none,op:=Op.store 30 (Operand.tmp 6) (Operand.tmp 57),type:=0,pos := "exprs.go:40", after:=#[gd 6,gc 6,gp 0,gp 1,gp 2,gp 3,gp 4,gp 5,gp 6],guard:=none }) rfl (fun K hK=>?_) AllReadyH.nil
        rw [if_pos (by rfl)]
        clear hSw
        refine wp_put 30 (Operand.tmp 6) (Operand.tmp 57) rfl (w.heap.size+1) 30 _ #[.int .u8 ak,.string an,.int .i64 az] rfl rfl hZ5 rfl (by kernel_rfl) (by simp [Value.oneCell']) ?_
        intro w6 hp6
        refine hK.out _ _ (HS5.out.put hp6) (fun hSw=>?_)
        have HP6:=hid hp6
        clear hK K hp6 hSw
        try simp only [Act.put]
        refine wpAnyH_done (by kernel_rfl) ?_ _
        go_wp2_with fail
        refine bodyPost_ret (v:=.agg #[.int .u8 ak,.string an,.int .i64 az]) (results_cell_row rfl _ _ (w.heap.size+1) 30 _ (0,0) _ rfl HP6.out.at_b Tryz.underlying30 rfl (by kernel_rfl)) rfl ?_
        exact TyE.ok (t:=⟨ak,an,az⟩) HR.out (HP6.out.below HB5.out (by omega))
      have j4:(hk == 4)=false:=beq_eq_false_iff_ne.2 k4
      by_cases k5:hk=5
      · subst k5
        have HR:=hid (show R=(elemT (tyAt ts 0) (tyAt ts 1)) from HRo.out)
        clear HRo
        go_wp2_with fail
        obtain⟨⟨xk,xn,xz⟩,⟨yk,yn,yz⟩,rfl⟩:∃ t u,ts = [t,u]:=two_of (by rw [HLEN.out];exact (form_args HFM.out).2.1 (by rfl))
        obtain⟨va',vcap',eva,hvl,hvg⟩:=HLI.out.form
        obtain⟨ga,oa,hva,hga⟩:=hvg (by simp)
        injection eva with e1 e2 e3
        rw [← e1] at hva
        subst hva
        obtain⟨-,t0,t1,t2⟩:=ty_at HLI.out rfl (i:=0) rfl
        obtain⟨-,u0,u1,u2⟩:=ty_at HLI.out rfl (i:=1) rfl
        simp only [Nat.zero_mul,Nat.add_zero,Nat.one_mul] at t0 t1 t2 u0 u1 u2
        have u1b:wr.cell? ⟨ga,oa+3+1,none⟩ = some (.string yn):=u1
        have u2b:wr.cell? ⟨ga,oa+3+2,none⟩ = some (.int .i64 yz):=u2
        have hgz:=HGA.out ga oa rfl
        have hN0:(0:Int) < (N:Int):=by rw [e2];simp
        have hNz:¬ N=0:=by omega
        have hN1:(1:Int) < (N:Int):=by rw [e2];simp
        clear e1 e2 e3 hvl hvg
        refine wp_region_held_drew (S:=SameBut (w.heap.size+1) wr) (by kernel_rfl) (SameBut.drew _ _) (fun hSw=>?_)
        refine wt (i:=0) (oi:={ dst:=some 60,op:=Op.move (Operand.tmp 0),type:=73,pos := "exprs.go:42", after:=#[],guard:=none }) (v:=.pointer (some ⟨c,0,none⟩)) (fun W hW=>?_) hSw ?_
        · first|(go_simp;done)|rfl
        try simp only [Act.put,q1,q2,q3]
        refine wt (i:=1) (oi:={ dst:=some 61,op:=Op.move (Operand.tmp 7),type:=177,pos := "exprs.go:42", after:=#[],guard:=none }) (v:=.slice (some ⟨ga,oa,none⟩) N vcap) (fun W hW=>?_) hSw ?_
        · first|(go_simp;done)|rfl
        try simp only [Act.put,q1,q2,q3]
        refine wt (i:=2) (oi:={ dst:=some 62,op:=Op.indexAddr 177 (Operand.tmp 61) (Operand.const (Value.int IntKind.i64 0)),type:=0,pos := "exprs.go:42", after:=#[gd 1],guard:=none }) (v:=.pointer (some ⟨ga,oa,none⟩)) (fun W hW=>?_) hSw ?_
        · first|(go_simp;done)|rfl
        try simp only [Act.put,q1,q2,q3]
        refine wt (i:=3) (oi:={ dst:=some 63,op:=Op.load 30 (Operand.tmp 62),type:=30,pos := "exprs.go:42", after:=#[gd 2],guard:=none }) (v:=.agg #[.int .u8 xk,.string xn,.int .i64 xz]) (fun W hW=>?_) hSw ?_
        · have t0:=hW.cell (by dsimp only;omega) t0
          have t1:=hW.cell (by dsimp only;omega) t1
          have t2:=hW.cell (by dsimp only;omega) t2
          first|(go_simp;done)|rfl
        try simp only [Act.put,q1,q2,q3]
        refine wt (i:=4) (oi:={ dst:=some 64,op:=Op.move (Operand.tmp 7),type:=177,pos := "exprs.go:42", after:=#[],guard:=none }) (v:=.slice (some ⟨ga,oa,none⟩) N vcap) (fun W hW=>?_) hSw ?_
        · first|(go_simp;done)|rfl
        try simp only [Act.put,q1,q2,q3]
        refine wt (i:=5) (oi:={ dst:=some 65,op:=Op.indexAddr 177 (Operand.tmp 64) (Operand.const (Value.int IntKind.i64 1)),type:=0,pos := "exprs.go:42", after:=#[gd 4],guard:=none }) (v:=.pointer (some ⟨ga,oa+3,none⟩)) (fun W hW=>?_) hSw ?_
        · first|(go_simp;done)|rfl
        try simp only [Act.put,q1,q2,q3]
        refine wt (i:=6) (oi:={ dst:=some 66,op:=Op.load 30 (Operand.tmp 65),type:=30,pos := "exprs.go:42", after:=#[gd 5],guard:=none }) (v:=.agg #[.int .u8 yk,.string yn,.int .i64 yz]) (fun W hW=>?_) hSw ?_
        · have u0:=hW.cell (by dsimp only;omega) u0
          have u1b:=hW.cell (by dsimp only;omega) u1b
          have u2b:=hW.cell (by dsimp only;omega) u2b
          first|(go_simp;done)|rfl
        try simp only [Act.put,q1,q2,q3]
        refine wpAnyH_ready (rs:=[7]) (by kernel_rfl) (by simp) ?_
        refine AllReadyH.cons (o:={ dst:=some 67,op:=Op.call { callee:=Callee.value (Operand.func 115),args:=#[Operand.tmp 60,Operand.tmp 63,Operand.tmp 66],argTypes:=#[73,30,30] },type:=30,pos := "exprs.go:42", after:=#[gd 0,gd 3,gd 6],guard:=none }) rfl (fun K hK=>?_) AllReadyH.nil
        rw [if_pos (by rfl)]
        clear hSw
        go_simp
        refine (element_any c e tv p res ⟨xk,xn,xz⟩ ⟨yk,yn,yz⟩ wr.drew HTr.out.drew).mono ?_;rintro e' w5 hq
        have HR2:=hid (show R=elemT ⟨xk,xn,xz⟩ ⟨yk,yn,yz⟩ from HR.out)
        cases hRc:elemT ⟨xk,xn,xz⟩ ⟨yk,yn,yz⟩ with
        | error k =>
          obtain⟨rfl,hb5⟩:=hq.not hRc
          exact⟨rfl,TyE.no (HR2.out.trans hRc) (HBr.out.trans ((below_tape hb5).mono (show w.heap.size≤wr.heap.size by omega)))⟩
        | ok t =>
        obtain⟨he,hb5⟩:=hq.yes hRc
        obtain⟨ak,an,az⟩:=t
        replace he:e' = .returned (.agg #[.int .u8 ak,.string an,.int .i64 az]):=he
        subst he
        replace hb5:Below wr.heap.size wr w5:=below_tape hb5
        have hs5:=hb5.size
        replace HR:=hid (HR2.out.trans hRc)
        have HB5:=hid (HBr.out.trans (hb5.mono (by omega)))
        have hZ5:=(hb5.block _ (by omega)).trans HZr.out
        have HS5:=hid (SameBut.of (z:=w.heap.size+1) hb5)
        clear hb5 hq hRc
        refine hK.out _ _ (HS5.out) (fun hSw=>?_)
        clear hK K
        try simp only [Act.put,q1,q2,q3]
        refine wpAnyH_ready (rs:=[8]) (by kernel_rfl) (by simp) ?_
        refine AllReadyH.cons (o:={ dst:=none,op:=Op.store 30 (Operand.tmp 6) (Operand.tmp 67),type:=0,pos := "exprs.go:42", after:=#[gd 7,gc 7,gp 0,gp 1,gp 2,gp 3,gp 4,gp 5,gp 6,gp 7],guard:=none }) rfl (fun K hK=>?_) AllReadyH.nil
        rw [if_pos (by rfl)]
        clear hSw
        refine wp_put 30 (Operand.tmp 6) (Operand.tmp 67) rfl (w.heap.size+1) 30 _ #[.int .u8 ak,.string an,.int .i64 az] rfl rfl hZ5 rfl (by kernel_rfl) (by simp [Value.oneCell']) ?_
        intro w6 hp6
        refine hK.out _ _ (HS5.out.put hp6) (fun hSw=>?_)
        have HP6:=hid hp6
        clear hK K hp6 hSw
        try simp only [Act.put]
        refine wpAnyH_done (by kernel_rfl) ?_ _
        go_wp2_with fail
        refine bodyPost_ret (v:=.agg #[.int .u8 ak,.string an,.int .i64 az]) (results_cell_row rfl _ _ (w.heap.size+1) 30 _ (0,0) _ rfl HP6.out.at_b Tryz.underlying30 rfl (by kernel_rfl)) rfl ?_
        exact TyE.ok (t:=⟨ak,an,az⟩) HR.out (HP6.out.below HB5.out (by omega))
      have j5:(hk == 5)=false:=beq_eq_false_iff_ne.2 k5
      by_cases k6:hk=6
      · subst k6
        have HR:=hid (show R=(if knownT e ⟨htk,htn,htz⟩ = true then .ok ⟨htk,htn,htz⟩ else .error 9) from HRo.out)
        clear HRo
        go_wp2_with fail
        refine (known_any c e tv p res ⟨htk,htn,htz⟩ wr HTr.out).mono ?_;rintro e' w5 ⟨he,hb5⟩
        by_cases hkn:knownT e ⟨htk,htn,htz⟩ = true
        rotate_left
        · rw [show knownE e ⟨htk,htn,htz⟩ = 9 from if_neg hkn,askE_no (by decide)] at he
          subst he
          exact⟨rfl,TyE.no (HR.out.trans (if_neg hkn)) (HBr.out.trans (hb5.mono (by omega)))⟩
        rw [show knownE e ⟨htk,htn,htz⟩ = 0 from if_pos hkn,askE_0 rfl] at he
        subst he
        have hs5:=hb5.size
        replace HR:=hid (HR.out.trans (if_pos hkn))
        have HB5:=hid (HBr.out.trans (hb5.mono (by omega)))
        have HZ5:=hid ((hb5.block _ (by omega)).trans HZr.out)
        have hO5:=(hb5.block _ (by omega)).trans HOr.out
        clear hb5 b0 b1 b2 b3 b4 b5 b6 hkn
        obtain⟨b0,b1,b2,b3,b4,b5,b6⟩:=own7 hO5
        clear hO5
        go_wp2_with (refine wpList_put rfl 30 (Operand.tmp 6) (Operand.tmp 75) rfl (w.heap.size+1) 30 _ #[.int .u8 htk,.string htn,.int .i64 htz] rfl rfl HZ5.out rfl (by kernel_rfl) (by simp [Value.oneCell']) ?_)
        intro w6 hp6
        have HP6:=hid hp6
        clear hp6
        go_wp2_with fail
        refine bodyPost_ret (v:=.agg #[.int .u8 htk,.string htn,.int .i64 htz]) (results_cell_row rfl _ _ (w.heap.size+1) 30 _ (0,0) _ rfl HP6.out.at_b Tryz.underlying30 rfl (by kernel_rfl)) rfl ?_
        exact TyE.ok (t:=⟨htk,htn,htz⟩) HR.out (HP6.out.below HB5.out (by omega))
      have j6:(hk == 6)=false:=beq_eq_false_iff_ne.2 k6
      by_cases k7:hk=7
      · subst k7
        have HR:=hid (show R=(callT e hnm ts) from HRo.out)
        clear HRo
        go_wp2_with fail
        refine (call_any c e tv p res ts hnm (.slice va N vcap) wr HTr.out HLI.out).mono ?_;rintro e' w5 hq
        cases hRc:callT e hnm ts with
        | error k =>
          obtain⟨rfl,hb5⟩:=hq.not hRc
          exact⟨rfl,TyE.no (HR.out.trans hRc) (HBr.out.trans (hb5.mono (by omega)))⟩
        | ok t =>
        obtain⟨he,hb5⟩:=hq.yes hRc
        obtain⟨ak,an,az⟩:=t
        replace he:e' = .returned (.agg #[.int .u8 ak,.string an,.int .i64 az]):=he
        subst he
        have hs5:=hb5.size
        replace HR:=hid (HR.out.trans hRc)
        have HB5:=hid (HBr.out.trans (hb5.mono (by omega)))
        have HZ5:=hid ((hb5.block _ (by omega)).trans HZr.out)
        clear hb5 hq hRc b0 b1 b2 b3 b4 b5 b6
        go_wp2_with (refine wpList_put rfl 30 (Operand.tmp 6) (Operand.tmp 82) rfl (w.heap.size+1) 30 _ #[.int .u8 ak,.string an,.int .i64 az] rfl rfl HZ5.out rfl (by kernel_rfl) (by simp [Value.oneCell']) ?_)
        intro w6 hp6
        have HP6:=hid hp6
        clear hp6
        go_wp2_with fail
        refine bodyPost_ret (v:=.agg #[.int .u8 ak,.string an,.int .i64 az]) (results_cell_row rfl _ _ (w.heap.size+1) 30 _ (0,0) _ rfl HP6.out.at_b Tryz.underlying30 rfl (by kernel_rfl)) rfl ?_
        exact TyE.ok (t:=⟨ak,an,az⟩) HR.out (HP6.out.below HB5.out (by omega))
      have j7:(hk == 7)=false:=beq_eq_false_iff_ne.2 k7
      by_cases k15:hk=15
      · subst k15
        have HR:=hid (show R=(if fitsT (tyAt ts 0) (tyAt ts 1) || fitsT (tyAt ts 1) (tyAt ts 0) then .ok intT else .error 10) from HRo.out)
        clear HRo
        go_wp2_with fail
        obtain⟨⟨xk,xn,xz⟩,⟨yk,yn,yz⟩,rfl⟩:∃ t u,ts = [t,u]:=two_of (by rw [HLEN.out];exact (form_args HFM.out).2.2 (by first|exact .inl rfl|exact .inr rfl))
        obtain⟨va',vcap',eva,hvl,hvg⟩:=HLI.out.form
        obtain⟨ga,oa,hva,hga⟩:=hvg (by simp)
        injection eva with e1 e2 e3
        rw [← e1] at hva
        subst hva
        obtain⟨-,t0,t1,t2⟩:=ty_at HLI.out rfl (i:=0) rfl
        obtain⟨-,u0,u1,u2⟩:=ty_at HLI.out rfl (i:=1) rfl
        simp only [Nat.zero_mul,Nat.add_zero,Nat.one_mul] at t0 t1 t2 u0 u1 u2
        have u1b:wr.cell? ⟨ga,oa+3+1,none⟩ = some (.string yn):=u1
        have u2b:wr.cell? ⟨ga,oa+3+2,none⟩ = some (.int .i64 yz):=u2
        have hgz:=HGA.out ga oa rfl
        have hN0:(0:Int) < (N:Int):=by rw [e2];simp
        have hNz:¬ N=0:=by omega
        have hN1:(1:Int) < (N:Int):=by rw [e2];simp
        obtain⟨K2,⟨-,-,-,-,-,-,-,-,q8,-,-,-⟩,-⟩:=HTr.out.cells
        have hclt:=HTr.out.lt
        clear e1 e2 e3 hvl hvg b0 b1 b2 b3 b4 b5 b6
        have HR2:=hid (show R=if fitsT ⟨xk,xn,xz⟩ ⟨yk,yn,yz⟩ || fitsT ⟨yk,yn,yz⟩ ⟨xk,xn,xz⟩ then .ok intT else .error 10 from HR.out)
        clear HR
        cases hF1:fitsT ⟨xk,xn,xz⟩ ⟨yk,yn,yz⟩ with
        | true =>
          have HF1:=hid hF1
          clear hF1
          refine wp_region_held_drew (S:=SameBut (w.heap.size+1) wr) (by kernel_rfl) (SameBut.drew _ _) (fun hSw=>?_)
          refine wt (i:=0) (oi:={ dst:=some 86,op:=Op.move (Operand.tmp 0),type:=73,pos := "exprs.go:49", after:=#[],guard:=none }) (v:=.pointer (some ⟨c,0,none⟩)) (fun W hW=>?_) hSw ?_
          · first|(go_simp;done)|rfl
          try simp only [Act.put,q1,q2,q3]
          refine wt (i:=1) (oi:={ dst:=some 87,op:=Op.move (Operand.tmp 7),type:=177,pos := "exprs.go:49", after:=#[],guard:=none }) (v:=.slice (some ⟨ga,oa,none⟩) N vcap) (fun W hW=>?_) hSw ?_
          · first|(go_simp;done)|rfl
          try simp only [Act.put,q1,q2,q3]
          refine wt (i:=2) (oi:={ dst:=some 88,op:=Op.indexAddr 177 (Operand.tmp 87) (Operand.const (Value.int IntKind.i64 0)),type:=0,pos := "exprs.go:49", after:=#[gd 1],guard:=none }) (v:=.pointer (some ⟨ga,oa,none⟩)) (fun W hW=>?_) hSw ?_
          · first|(go_simp;done)|rfl
          try simp only [Act.put,q1,q2,q3]
          refine wt (i:=3) (oi:={ dst:=some 89,op:=Op.load 30 (Operand.tmp 88),type:=30,pos := "exprs.go:49", after:=#[gd 2],guard:=none }) (v:=.agg #[.int .u8 xk,.string xn,.int .i64 xz]) (fun W hW=>?_) hSw ?_
          · have t0:=hW.cell (by dsimp only;omega) t0
            have t1:=hW.cell (by dsimp only;omega) t1
            have t2:=hW.cell (by dsimp only;omega) t2
            first|(go_simp;done)|rfl
          try simp only [Act.put,q1,q2,q3]
          refine wt (i:=4) (oi:={ dst:=some 90,op:=Op.move (Operand.tmp 7),type:=177,pos := "exprs.go:49", after:=#[],guard:=none }) (v:=.slice (some ⟨ga,oa,none⟩) N vcap) (fun W hW=>?_) hSw ?_
          · first|(go_simp;done)|rfl
          try simp only [Act.put,q1,q2,q3]
          refine wt (i:=5) (oi:={ dst:=some 91,op:=Op.indexAddr 177 (Operand.tmp 90) (Operand.const (Value.int IntKind.i64 1)),type:=0,pos := "exprs.go:49", after:=#[gd 4],guard:=none }) (v:=.pointer (some ⟨ga,oa+3,none⟩)) (fun W hW=>?_) hSw ?_
          · first|(go_simp;done)|rfl
          try simp only [Act.put,q1,q2,q3]
          refine wt (i:=6) (oi:={ dst:=some 92,op:=Op.load 30 (Operand.tmp 91),type:=30,pos := "exprs.go:49", after:=#[gd 5],guard:=none }) (v:=.agg #[.int .u8 yk,.string yn,.int .i64 yz]) (fun W hW=>?_) hSw ?_
          · have u0:=hW.cell (by dsimp only;omega) u0
            have u1b:=hW.cell (by dsimp only;omega) u1b
            have u2b:=hW.cell (by dsimp only;omega) u2b
            first|(go_simp;done)|rfl
          try simp only [Act.put,q1,q2,q3]
          refine wpAnyH_ready (rs:=[7]) (by kernel_rfl) (by simp) ?_
          refine AllReadyH.cons (o:={ dst:=some 93,op:=Op.call { callee:=Callee.value (Operand.func 110),args:=#[Operand.tmp 89,Operand.tmp 92],argTypes:=#[30,30] },type:=4,pos := "exprs.go:49", after:=#[gd 3,gd 6],guard:=none }) rfl (fun K hK=>?_) AllReadyH.nil
          rw [if_pos (by rfl)]
          clear hSw
          go_simp
          refine (fits_any ⟨xk,xn,xz⟩ ⟨yk,yn,yz⟩ wr.drew).mono ?_;rintro e' w5 ⟨rfl,hb5⟩
          rw [HF1.out]
          replace hb5:Below wr.heap.size wr w5:=below_tape hb5
          have hs5:=hb5.size
          have HS5:=hid (SameBut.of (z:=w.heap.size+1) hb5)
          have HB5:=hid hb5
          clear hb5
          refine hK.out _ _ (HS5.out) (fun hSw=>?_)
          clear hK K
          try simp only [Act.put,q1,q2,q3]
          refine wt (i:=8) (oi:={ dst:=some 94,op:=Op.move (Operand.tmp 93),type:=4,pos := "exprs.go:49", after:=#[gd 7,gc 7],guard:=none }) (v:=.bool true) (fun W hW=>?_) hSw ?_
          · first|(go_simp;done)|rfl
          try simp only [Act.put,q1,q2,q3]
          refine wpAnyH_take (i:=9) (oi:={ dst:=some 95,op:=Op.move (Operand.tmp 7),type:=177,pos := "exprs.go:49", after:=#[{ on:=8,ground:=Ground.guard }],guard:=some (8,false) }) (v:=undef) rfl (by kernel_rfl) (by kernel_rfl) (by kernel_rfl) (fun _ _ _ h=>h) (Or.inr ⟨by rfl,rfl⟩) hSw ?_
          try simp only [Act.put,q1,q2,q3]
          refine wpAnyH_take (i:=10) (oi:={ dst:=some 96,op:=Op.indexAddr 177 (Operand.tmp 95) (Operand.const (Value.int IntKind.i64 1)),type:=0,pos := "exprs.go:49", after:=#[gd 9,{ on:=8,ground:=Ground.guard }],guard:=some (8,false) }) (v:=undef) rfl (by kernel_rfl) (by kernel_rfl) (by kernel_rfl) (fun _ _ _ h=>h) (Or.inr ⟨by rfl,rfl⟩) hSw ?_
          try simp only [Act.put,q1,q2,q3]
          refine wpAnyH_take (i:=11) (oi:={ dst:=some 97,op:=Op.load 30 (Operand.tmp 96),type:=30,pos := "exprs.go:49", after:=#[gd 10,{ on:=8,ground:=Ground.guard }],guard:=some (8,false) }) (v:=undef) rfl (by kernel_rfl) (by kernel_rfl) (by kernel_rfl) (fun _ _ _ h=>h) (Or.inr ⟨by rfl,rfl⟩) hSw ?_
          try simp only [Act.put,q1,q2,q3]
          refine wpAnyH_take (i:=12) (oi:={ dst:=some 98,op:=Op.move (Operand.tmp 7),type:=177,pos := "exprs.go:49", after:=#[{ on:=8,ground:=Ground.guard }],guard:=some (8,false) }) (v:=undef) rfl (by kernel_rfl) (by kernel_rfl) (by kernel_rfl) (fun _ _ _ h=>h) (Or.inr ⟨by rfl,rfl⟩) hSw ?_
          try simp only [Act.put,q1,q2,q3]
          refine wpAnyH_take (i:=13) (oi:={ dst:=some 99,op:=Op.indexAddr 177 (Operand.tmp 98) (Operand.const (Value.int IntKind.i64 0)),type:=0,pos := "exprs.go:49", after:=#[gd 12,{ on:=8,ground:=Ground.guard }],guard:=some (8,false) }) (v:=undef) rfl (by kernel_rfl) (by kernel_rfl) (by kernel_rfl) (fun _ _ _ h=>h) (Or.inr ⟨by rfl,rfl⟩) hSw ?_
          try simp only [Act.put,q1,q2,q3]
          refine wpAnyH_take (i:=14) (oi:={ dst:=some 100,op:=Op.load 30 (Operand.tmp 99),type:=30,pos := "exprs.go:49", after:=#[gd 13,{ on:=8,ground:=Ground.guard }],guard:=some (8,false) }) (v:=undef) rfl (by kernel_rfl) (by kernel_rfl) (by kernel_rfl) (fun _ _ _ h=>h) (Or.inr ⟨by rfl,rfl⟩) hSw ?_
          try simp only [Act.put,q1,q2,q3]
          refine wpAnyH_take (i:=15) (oi:={ dst:=some 101,op:=Op.call { callee:=Callee.value (Operand.func 110),args:=#[Operand.tmp 97,Operand.tmp 100],argTypes:=#[30,30] },type:=4,pos := "exprs.go:49", after:=#[gd 11,gd 14,gc 8,{ on:=8,ground:=Ground.guard }],guard:=some (8,false) }) (v:=undef) rfl (by kernel_rfl) (by kernel_rfl) (by kernel_rfl) (fun _ _ _ h=>h) (Or.inr ⟨by rfl,rfl⟩) hSw ?_
          try simp only [Act.put,q1,q2,q3]
          refine wt (i:=16) (oi:={ dst:=some 102,op:=Op.pick (Operand.tmp 94) (Operand.const (Value.bool true)) (Operand.tmp 101),type:=4,pos := "exprs.go:49", after:=#[gd 8,gd 15],guard:=none }) (v:=.bool true) (fun W hW=>?_) hSw ?_
          · first|(go_simp;done)|rfl
          try simp only [Act.put,q1,q2,q3]
          refine wpAnyH_ready (rs:=[17]) (by kernel_rfl) (by simp) ?_
          refine AllReadyH.cons (o:={ dst:=some 103,op:=Op.call { callee:=Callee.value (Operand.func 54),args:=#[Operand.tmp 86,Operand.tmp 102,Operand.const (Value.int IntKind.i64 10)],argTypes:=#[73,4,37] },type:=0,pos := "exprs.go:49", after:=#[gd 0,gd 16,gc 15],guard:=none }) rfl (fun K hK=>?_) AllReadyH.nil
          rw [if_pos (by rfl)]
          clear hSw
          go_simp
          refine (tmust_yes c 10 w5).mono ?_;rintro e' w' ⟨rfl,rfl⟩
          refine hK.out _ _ (HS5.out) (fun hSw=>?_)
          clear hK K
          try simp only [Act.put,q1,q2,q3]
          refine wpAnyH_done (by kernel_rfl) ?_ _
          have HR:=hid (show R = .ok intT by rw [HR2.out,HF1.out];rfl)
          have hs7:=HB5.out.size
          have HB7:=hid (HBr.out.trans (HB5.out.mono (by omega)))
          have HZ7:=hid ((HB5.out.block _ (by omega)).trans HZr.out)
          clear t0 t1 t2 u0 u1 u2 u1b u2b q8
          go_wp2_with fail
          refine (inttype_any _).mono ?_;rintro e' w8 ⟨rfl,hb8⟩
          have hs8:=hb8.size
          have HB8:=hid (HB7.out.trans (hb8.mono (by omega)))
          have HZ8:=hid ((hb8.block _ (by omega)).trans HZ7.out)
          clear hb8
          go_wp2_with (refine wpList_put rfl 30 (Operand.tmp 6) (Operand.tmp 104) rfl (w.heap.size+1) 30 _ #[.int .u8 1,.string ⟨#[]⟩,.int .i64 0] rfl rfl HZ8.out rfl (by kernel_rfl) (by simp [Value.oneCell']) ?_)
          intro w6 hp6
          have HP6:=hid hp6
          clear hp6
          go_wp2_with fail
          refine bodyPost_ret (v:=.agg #[.int .u8 1,.string ⟨#[]⟩,.int .i64 0]) (results_cell_row rfl _ _ (w.heap.size+1) 30 _ (0,0) _ rfl HP6.out.at_b Tryz.underlying30 rfl (by kernel_rfl)) rfl ?_
          exact TyE.ok (t:=intT) HR.out (HP6.out.below HB8.out (by omega))
        | false =>
          have HF1:=hid hF1
          clear hF1
          cases hF2:fitsT ⟨yk,yn,yz⟩ ⟨xk,xn,xz⟩ with
          | true =>
            have HF2:=hid hF2
            clear hF2
            refine wp_region_held_drew (S:=SameBut (w.heap.size+1) wr) (by kernel_rfl) (SameBut.drew _ _) (fun hSw=>?_)
            refine wt (i:=0) (oi:={ dst:=some 86,op:=Op.move (Operand.tmp 0),type:=73,pos := "exprs.go:49", after:=#[],guard:=none }) (v:=.pointer (some ⟨c,0,none⟩)) (fun W hW=>?_) hSw ?_
            · first|(go_simp;done)|rfl
            try simp only [Act.put,q1,q2,q3]
            refine wt (i:=1) (oi:={ dst:=some 87,op:=Op.move (Operand.tmp 7),type:=177,pos := "exprs.go:49", after:=#[],guard:=none }) (v:=.slice (some ⟨ga,oa,none⟩) N vcap) (fun W hW=>?_) hSw ?_
            · first|(go_simp;done)|rfl
            try simp only [Act.put,q1,q2,q3]
            refine wt (i:=2) (oi:={ dst:=some 88,op:=Op.indexAddr 177 (Operand.tmp 87) (Operand.const (Value.int IntKind.i64 0)),type:=0,pos := "exprs.go:49", after:=#[gd 1],guard:=none }) (v:=.pointer (some ⟨ga,oa,none⟩)) (fun W hW=>?_) hSw ?_
            · first|(go_simp;done)|rfl
            try simp only [Act.put,q1,q2,q3]
            refine wt (i:=3) (oi:={ dst:=some 89,op:=Op.load 30 (Operand.tmp 88),type:=30,pos := "exprs.go:49", after:=#[gd 2],guard:=none }) (v:=.agg #[.int .u8 xk,.string xn,.int .i64 xz]) (fun W hW=>?_) hSw ?_
            · have t0:=hW.cell (by dsimp only;omega) t0
              have t1:=hW.cell (by dsimp only;omega) t1
              have t2:=hW.cell (by dsimp only;omega) t2
              first|(go_simp;done)|rfl
            try simp only [Act.put,q1,q2,q3]
            refine wt (i:=4) (oi:={ dst:=some 90,op:=Op.move (Operand.tmp 7),type:=177,pos := "exprs.go:49", after:=#[],guard:=none }) (v:=.slice (some ⟨ga,oa,none⟩) N vcap) (fun W hW=>?_) hSw ?_
            · first|(go_simp;done)|rfl
            try simp only [Act.put,q1,q2,q3]
            refine wt (i:=5) (oi:={ dst:=some 91,op:=Op.indexAddr 177 (Operand.tmp 90) (Operand.const (Value.int IntKind.i64 1)),type:=0,pos := "exprs.go:49", after:=#[gd 4],guard:=none }) (v:=.pointer (some ⟨ga,oa+3,none⟩)) (fun W hW=>?_) hSw ?_
            · first|(go_simp;done)|rfl
            try simp only [Act.put,q1,q2,q3]
            refine wt (i:=6) (oi:={ dst:=some 92,op:=Op.load 30 (Operand.tmp 91),type:=30,pos := "exprs.go:49", after:=#[gd 5],guard:=none }) (v:=.agg #[.int .u8 yk,.string yn,.int .i64 yz]) (fun W hW=>?_) hSw ?_
            · have u0:=hW.cell (by dsimp only;omega) u0
              have u1b:=hW.cell (by dsimp only;omega) u1b
              have u2b:=hW.cell (by dsimp only;omega) u2b
              first|(go_simp;done)|rfl
            try simp only [Act.put,q1,q2,q3]
            refine wpAnyH_ready (rs:=[7]) (by kernel_rfl) (by simp) ?_
            refine AllReadyH.cons (o:={ dst:=some 93,op:=Op.call { callee:=Callee.value (Operand.func 110),args:=#[Operand.tmp 89,Operand.tmp 92],argTypes:=#[30,30] },type:=4,pos := "exprs.go:49", after:=#[gd 3,gd 6],guard:=none }) rfl (fun K hK=>?_) AllReadyH.nil
            rw [if_pos (by rfl)]
            clear hSw
            go_simp
            refine (fits_any ⟨xk,xn,xz⟩ ⟨yk,yn,yz⟩ wr.drew).mono ?_;rintro e' w5 ⟨rfl,hb5⟩
            rw [HF1.out]
            replace hb5:Below wr.heap.size wr w5:=below_tape hb5
            have hs5:=hb5.size
            have HS5:=hid (SameBut.of (z:=w.heap.size+1) hb5)
            have HB5:=hid hb5
            clear hb5
            refine hK.out _ _ (HS5.out) (fun hSw=>?_)
            clear hK K
            try simp only [Act.put,q1,q2,q3]
            refine wt (i:=8) (oi:={ dst:=some 94,op:=Op.move (Operand.tmp 93),type:=4,pos := "exprs.go:49", after:=#[gd 7,gc 7],guard:=none }) (v:=.bool false) (fun W hW=>?_) hSw ?_
            · first|(go_simp;done)|rfl
            try simp only [Act.put,q1,q2,q3]
            refine wt (i:=9) (oi:={ dst:=some 95,op:=Op.move (Operand.tmp 7),type:=177,pos := "exprs.go:49", after:=#[{ on:=8,ground:=Ground.guard }],guard:=some (8,false) }) (v:=.slice (some ⟨ga,oa,none⟩) N vcap) (fun W hW=>?_) hSw ?_
            · first|(go_simp;done)|rfl
            try simp only [Act.put,q1,q2,q3]
            refine wt (i:=10) (oi:={ dst:=some 96,op:=Op.indexAddr 177 (Operand.tmp 95) (Operand.const (Value.int IntKind.i64 1)),type:=0,pos := "exprs.go:49", after:=#[gd 9,{ on:=8,ground:=Ground.guard }],guard:=some (8,false) }) (v:=.pointer (some ⟨ga,oa+3,none⟩)) (fun W hW=>?_) hSw ?_
            · first|(go_simp;done)|rfl
            try simp only [Act.put,q1,q2,q3]
            refine wt (i:=11) (oi:={ dst:=some 97,op:=Op.load 30 (Operand.tmp 96),type:=30,pos := "exprs.go:49", after:=#[gd 10,{ on:=8,ground:=Ground.guard }],guard:=some (8,false) }) (v:=.agg #[.int .u8 yk,.string yn,.int .i64 yz]) (fun W hW=>?_) hSw ?_
            · have u0:=hW.cell (by dsimp only;omega) u0
              have u1b:=hW.cell (by dsimp only;omega) u1b
              have u2b:=hW.cell (by dsimp only;omega) u2b
              first|(go_simp;done)|rfl
            try simp only [Act.put,q1,q2,q3]
            refine wt (i:=12) (oi:={ dst:=some 98,op:=Op.move (Operand.tmp 7),type:=177,pos := "exprs.go:49", after:=#[{ on:=8,ground:=Ground.guard }],guard:=some (8,false) }) (v:=.slice (some ⟨ga,oa,none⟩) N vcap) (fun W hW=>?_) hSw ?_
            · first|(go_simp;done)|rfl
            try simp only [Act.put,q1,q2,q3]
            refine wt (i:=13) (oi:={ dst:=some 99,op:=Op.indexAddr 177 (Operand.tmp 98) (Operand.const (Value.int IntKind.i64 0)),type:=0,pos := "exprs.go:49", after:=#[gd 12,{ on:=8,ground:=Ground.guard }],guard:=some (8,false) }) (v:=.pointer (some ⟨ga,oa,none⟩)) (fun W hW=>?_) hSw ?_
            · first|(go_simp;done)|rfl
            try simp only [Act.put,q1,q2,q3]
            refine wt (i:=14) (oi:={ dst:=some 100,op:=Op.load 30 (Operand.tmp 99),type:=30,pos := "exprs.go:49", after:=#[gd 13,{ on:=8,ground:=Ground.guard }],guard:=some (8,false) }) (v:=.agg #[.int .u8 xk,.string xn,.int .i64 xz]) (fun W hW=>?_) hSw ?_
            · have t0:=hW.cell (by dsimp only;omega) t0
              have t1:=hW.cell (by dsimp only;omega) t1
              have t2:=hW.cell (by dsimp only;omega) t2
              first|(go_simp;done)|rfl
            try simp only [Act.put,q1,q2,q3]
            refine wpAnyH_ready (rs:=[15]) (by kernel_rfl) (by simp) ?_
            refine AllReadyH.cons (o:={ dst:=some 101,op:=Op.call { callee:=Callee.value (Operand.func 110),args:=#[Operand.tmp 97,Operand.tmp 100],argTypes:=#[30,30] },type:=4,pos := "exprs.go:49", after:=#[gd 11,gd 14,gc 8,{ on:=8,ground:=Ground.guard }],guard:=some (8,false) }) rfl (fun K hK=>?_) AllReadyH.nil
            rw [if_pos (by rfl)]
            clear hSw
            go_simp
            refine (fits_any ⟨yk,yn,yz⟩ ⟨xk,xn,xz⟩ w5).mono ?_;rintro e' w6 ⟨rfl,hb6⟩
            rw [HF2.out]
            have hs6:=hb6.size
            have HB6:=hid (HB5.out.trans (hb6.mono hs5))
            have HS6:=hid (SameBut.of (z:=w.heap.size+1) HB6.out)
            clear hb6
            refine hK.out _ _ (HS6.out) (fun hSw=>?_)
            clear hK K
            try simp only [Act.put,q1,q2,q3]
            refine wt (i:=16) (oi:={ dst:=some 102,op:=Op.pick (Operand.tmp 94) (Operand.const (Value.bool true)) (Operand.tmp 101),type:=4,pos := "exprs.go:49", after:=#[gd 8,gd 15],guard:=none }) (v:=.bool true) (fun W hW=>?_) hSw ?_
            · first|(go_simp;done)|rfl
            try simp only [Act.put,q1,q2,q3]
            refine wpAnyH_ready (rs:=[17]) (by kernel_rfl) (by simp) ?_
            refine AllReadyH.cons (o:={ dst:=some 103,op:=Op.call { callee:=Callee.value (Operand.func 54),args:=#[Operand.tmp 86,Operand.tmp 102,Operand.const (Value.int IntKind.i64 10)],argTypes:=#[73,4,37] },type:=0,pos := "exprs.go:49", after:=#[gd 0,gd 16,gc 15],guard:=none }) rfl (fun K hK=>?_) AllReadyH.nil
            rw [if_pos (by rfl)]
            clear hSw
            go_simp
            refine (tmust_yes c 10 w6).mono ?_;rintro e' w' ⟨rfl,rfl⟩
            refine hK.out _ _ (HS6.out) (fun hSw=>?_)
            clear hK K
            try simp only [Act.put,q1,q2,q3]
            refine wpAnyH_done (by kernel_rfl) ?_ _
            have HR:=hid (show R = .ok intT by rw [HR2.out,HF1.out,HF2.out];rfl)
            have hs7:=HB6.out.size
            have HB7:=hid (HBr.out.trans (HB6.out.mono (by omega)))
            have HZ7:=hid ((HB6.out.block _ (by omega)).trans HZr.out)
            clear t0 t1 t2 u0 u1 u2 u1b u2b q8
            go_wp2_with fail
            refine (inttype_any _).mono ?_;rintro e' w8 ⟨rfl,hb8⟩
            have hs8:=hb8.size
            have HB8:=hid (HB7.out.trans (hb8.mono (by omega)))
            have HZ8:=hid ((hb8.block _ (by omega)).trans HZ7.out)
            clear hb8
            go_wp2_with (refine wpList_put rfl 30 (Operand.tmp 6) (Operand.tmp 104) rfl (w.heap.size+1) 30 _ #[.int .u8 1,.string ⟨#[]⟩,.int .i64 0] rfl rfl HZ8.out rfl (by kernel_rfl) (by simp [Value.oneCell']) ?_)
            intro w6 hp6
            have HP6:=hid hp6
            clear hp6
            go_wp2_with fail
            refine bodyPost_ret (v:=.agg #[.int .u8 1,.string ⟨#[]⟩,.int .i64 0]) (results_cell_row rfl _ _ (w.heap.size+1) 30 _ (0,0) _ rfl HP6.out.at_b Tryz.underlying30 rfl (by kernel_rfl)) rfl ?_
            exact TyE.ok (t:=intT) HR.out (HP6.out.below HB8.out (by omega))
          | false =>
            have HF2:=hid hF2
            clear hF2
            refine wp_region_held_drew (S:=SameBut (w.heap.size+1) wr) (by kernel_rfl) (SameBut.drew _ _) (fun hSw=>?_)
            refine wt (i:=0) (oi:={ dst:=some 86,op:=Op.move (Operand.tmp 0),type:=73,pos := "exprs.go:49", after:=#[],guard:=none }) (v:=.pointer (some ⟨c,0,none⟩)) (fun W hW=>?_) hSw ?_
            · first|(go_simp;done)|rfl
            try simp only [Act.put,q1,q2,q3]
            refine wt (i:=1) (oi:={ dst:=some 87,op:=Op.move (Operand.tmp 7),type:=177,pos := "exprs.go:49", after:=#[],guard:=none }) (v:=.slice (some ⟨ga,oa,none⟩) N vcap) (fun W hW=>?_) hSw ?_
            · first|(go_simp;done)|rfl
            try simp only [Act.put,q1,q2,q3]
            refine wt (i:=2) (oi:={ dst:=some 88,op:=Op.indexAddr 177 (Operand.tmp 87) (Operand.const (Value.int IntKind.i64 0)),type:=0,pos := "exprs.go:49", after:=#[gd 1],guard:=none }) (v:=.pointer (some ⟨ga,oa,none⟩)) (fun W hW=>?_) hSw ?_
            · first|(go_simp;done)|rfl
            try simp only [Act.put,q1,q2,q3]
            refine wt (i:=3) (oi:={ dst:=some 89,op:=Op.load 30 (Operand.tmp 88),type:=30,pos := "exprs.go:49", after:=#[gd 2],guard:=none }) (v:=.agg #[.int .u8 xk,.string xn,.int .i64 xz]) (fun W hW=>?_) hSw ?_
            · have t0:=hW.cell (by dsimp only;omega) t0
              have t1:=hW.cell (by dsimp only;omega) t1
              have t2:=hW.cell (by dsimp only;omega) t2
              first|(go_simp;done)|rfl
            try simp only [Act.put,q1,q2,q3]
            refine wt (i:=4) (oi:={ dst:=some 90,op:=Op.move (Operand.tmp 7),type:=177,pos := "exprs.go:49", after:=#[],guard:=none }) (v:=.slice (some ⟨ga,oa,none⟩) N vcap) (fun W hW=>?_) hSw ?_
            · first|(go_simp;done)|rfl
            try simp only [Act.put,q1,q2,q3]
            refine wt (i:=5) (oi:={ dst:=some 91,op:=Op.indexAddr 177 (Operand.tmp 90) (Operand.const (Value.int IntKind.i64 1)),type:=0,pos := "exprs.go:49", after:=#[gd 4],guard:=none }) (v:=.pointer (some ⟨ga,oa+3,none⟩)) (fun W hW=>?_) hSw ?_
            · first|(go_simp;done)|rfl
            try simp only [Act.put,q1,q2,q3]
            refine wt (i:=6) (oi:={ dst:=some 92,op:=Op.load 30 (Operand.tmp 91),type:=30,pos := "exprs.go:49", after:=#[gd 5],guard:=none }) (v:=.agg #[.int .u8 yk,.string yn,.int .i64 yz]) (fun W hW=>?_) hSw ?_
            · have u0:=hW.cell (by dsimp only;omega) u0
              have u1b:=hW.cell (by dsimp only;omega) u1b
              have u2b:=hW.cell (by dsimp only;omega) u2b
              first|(go_simp;done)|rfl
            try simp only [Act.put,q1,q2,q3]
            refine wpAnyH_ready (rs:=[7]) (by kernel_rfl) (by simp) ?_
            refine AllReadyH.cons (o:={ dst:=some 93,op:=Op.call { callee:=Callee.value (Operand.func 110),args:=#[Operand.tmp 89,Operand.tmp 92],argTypes:=#[30,30] },type:=4,pos := "exprs.go:49", after:=#[gd 3,gd 6],guard:=none }) rfl (fun K hK=>?_) AllReadyH.nil
            rw [if_pos (by rfl)]
            clear hSw
            go_simp
            refine (fits_any ⟨xk,xn,xz⟩ ⟨yk,yn,yz⟩ wr.drew).mono ?_;rintro e' w5 ⟨rfl,hb5⟩
            rw [HF1.out]
            replace hb5:Below wr.heap.size wr w5:=below_tape hb5
            have hs5:=hb5.size
            have HS5:=hid (SameBut.of (z:=w.heap.size+1) hb5)
            have HB5:=hid hb5
            clear hb5
            refine hK.out _ _ (HS5.out) (fun hSw=>?_)
            clear hK K
            try simp only [Act.put,q1,q2,q3]
            refine wt (i:=8) (oi:={ dst:=some 94,op:=Op.move (Operand.tmp 93),type:=4,pos := "exprs.go:49", after:=#[gd 7,gc 7],guard:=none }) (v:=.bool false) (fun W hW=>?_) hSw ?_
            · first|(go_simp;done)|rfl
            try simp only [Act.put,q1,q2,q3]
            refine wt (i:=9) (oi:={ dst:=some 95,op:=Op.move (Operand.tmp 7),type:=177,pos := "exprs.go:49", after:=#[{ on:=8,ground:=Ground.guard }],guard:=some (8,false) }) (v:=.slice (some ⟨ga,oa,none⟩) N vcap) (fun W hW=>?_) hSw ?_
            · first|(go_simp;done)|rfl
            try simp only [Act.put,q1,q2,q3]
            refine wt (i:=10) (oi:={ dst:=some 96,op:=Op.indexAddr 177 (Operand.tmp 95) (Operand.const (Value.int IntKind.i64 1)),type:=0,pos := "exprs.go:49", after:=#[gd 9,{ on:=8,ground:=Ground.guard }],guard:=some (8,false) }) (v:=.pointer (some ⟨ga,oa+3,none⟩)) (fun W hW=>?_) hSw ?_
            · first|(go_simp;done)|rfl
            try simp only [Act.put,q1,q2,q3]
            refine wt (i:=11) (oi:={ dst:=some 97,op:=Op.load 30 (Operand.tmp 96),type:=30,pos := "exprs.go:49", after:=#[gd 10,{ on:=8,ground:=Ground.guard }],guard:=some (8,false) }) (v:=.agg #[.int .u8 yk,.string yn,.int .i64 yz]) (fun W hW=>?_) hSw ?_
            · have u0:=hW.cell (by dsimp only;omega) u0
              have u1b:=hW.cell (by dsimp only;omega) u1b
              have u2b:=hW.cell (by dsimp only;omega) u2b
              first|(go_simp;done)|rfl
            try simp only [Act.put,q1,q2,q3]
            refine wt (i:=12) (oi:={ dst:=some 98,op:=Op.move (Operand.tmp 7),type:=177,pos := "exprs.go:49", after:=#[{ on:=8,ground:=Ground.guard }],guard:=some (8,false) }) (v:=.slice (some ⟨ga,oa,none⟩) N vcap) (fun W hW=>?_) hSw ?_
            · first|(go_simp;done)|rfl
            try simp only [Act.put,q1,q2,q3]
            refine wt (i:=13) (oi:={ dst:=some 99,op:=Op.indexAddr 177 (Operand.tmp 98) (Operand.const (Value.int IntKind.i64 0)),type:=0,pos := "exprs.go:49", after:=#[gd 12,{ on:=8,ground:=Ground.guard }],guard:=some (8,false) }) (v:=.pointer (some ⟨ga,oa,none⟩)) (fun W hW=>?_) hSw ?_
            · first|(go_simp;done)|rfl
            try simp only [Act.put,q1,q2,q3]
            refine wt (i:=14) (oi:={ dst:=some 100,op:=Op.load 30 (Operand.tmp 99),type:=30,pos := "exprs.go:49", after:=#[gd 13,{ on:=8,ground:=Ground.guard }],guard:=some (8,false) }) (v:=.agg #[.int .u8 xk,.string xn,.int .i64 xz]) (fun W hW=>?_) hSw ?_
            · have t0:=hW.cell (by dsimp only;omega) t0
              have t1:=hW.cell (by dsimp only;omega) t1
              have t2:=hW.cell (by dsimp only;omega) t2
              first|(go_simp;done)|rfl
            try simp only [Act.put,q1,q2,q3]
            refine wpAnyH_ready (rs:=[15]) (by kernel_rfl) (by simp) ?_
            refine AllReadyH.cons (o:={ dst:=some 101,op:=Op.call { callee:=Callee.value (Operand.func 110),args:=#[Operand.tmp 97,Operand.tmp 100],argTypes:=#[30,30] },type:=4,pos := "exprs.go:49", after:=#[gd 11,gd 14,gc 8,{ on:=8,ground:=Ground.guard }],guard:=some (8,false) }) rfl (fun K hK=>?_) AllReadyH.nil
            rw [if_pos (by rfl)]
            clear hSw
            go_simp
            refine (fits_any ⟨yk,yn,yz⟩ ⟨xk,xn,xz⟩ w5).mono ?_;rintro e' w6 ⟨rfl,hb6⟩
            rw [HF2.out]
            have hs6:=hb6.size
            have HB6:=hid (HB5.out.trans (hb6.mono hs5))
            have HS6:=hid (SameBut.of (z:=w.heap.size+1) HB6.out)
            clear hb6
            refine hK.out _ _ (HS6.out) (fun hSw=>?_)
            clear hK K
            try simp only [Act.put,q1,q2,q3]
            refine wt (i:=16) (oi:={ dst:=some 102,op:=Op.pick (Operand.tmp 94) (Operand.const (Value.bool true)) (Operand.tmp 101),type:=4,pos := "exprs.go:49", after:=#[gd 8,gd 15],guard:=none }) (v:=.bool false) (fun W hW=>?_) hSw ?_
            · first|(go_simp;done)|rfl
            try simp only [Act.put,q1,q2,q3]
            refine wpAnyH_ready (rs:=[17]) (by kernel_rfl) (by simp) ?_
            refine AllReadyH.cons (o:={ dst:=some 103,op:=Op.call { callee:=Callee.value (Operand.func 54),args:=#[Operand.tmp 86,Operand.tmp 102,Operand.const (Value.int IntKind.i64 10)],argTypes:=#[73,4,37] },type:=0,pos := "exprs.go:49", after:=#[gd 0,gd 16,gc 15],guard:=none }) rfl (fun K hK=>?_) AllReadyH.nil
            rw [if_pos (by rfl)]
            clear hSw
            go_simp
            refine (tmust_no c p 10 w6 (by rw [HB6.out.cell (p:=⟨c,8,none⟩) hclt];exact q8)).mono ?_;rintro e' w' ⟨rfl,rfl⟩
            exact⟨rfl,TyE.no (by rw [HR2.out,HF1.out,HF2.out];rfl) (HBr.out.trans (HB6.out.mono (by omega)))⟩
      have j15:(hk == 15)=false:=beq_eq_false_iff_ne.2 k15
      by_cases k16:hk=16
      · subst k16
        have HR:=hid (show R=(if fitsT (tyAt ts 0) (tyAt ts 1) || fitsT (tyAt ts 1) (tyAt ts 0) then .ok intT else .error 10) from HRo.out)
        clear HRo
        go_wp2_with fail
        obtain⟨⟨xk,xn,xz⟩,⟨yk,yn,yz⟩,rfl⟩:∃ t u,ts = [t,u]:=two_of (by rw [HLEN.out];exact (form_args HFM.out).2.2 (by first|exact .inl rfl|exact .inr rfl))
        obtain⟨va',vcap',eva,hvl,hvg⟩:=HLI.out.form
        obtain⟨ga,oa,hva,hga⟩:=hvg (by simp)
        injection eva with e1 e2 e3
        rw [← e1] at hva
        subst hva
        obtain⟨-,t0,t1,t2⟩:=ty_at HLI.out rfl (i:=0) rfl
        obtain⟨-,u0,u1,u2⟩:=ty_at HLI.out rfl (i:=1) rfl
        simp only [Nat.zero_mul,Nat.add_zero,Nat.one_mul] at t0 t1 t2 u0 u1 u2
        have u1b:wr.cell? ⟨ga,oa+3+1,none⟩ = some (.string yn):=u1
        have u2b:wr.cell? ⟨ga,oa+3+2,none⟩ = some (.int .i64 yz):=u2
        have hgz:=HGA.out ga oa rfl
        have hN0:(0:Int) < (N:Int):=by rw [e2];simp
        have hNz:¬ N=0:=by omega
        have hN1:(1:Int) < (N:Int):=by rw [e2];simp
        obtain⟨K2,⟨-,-,-,-,-,-,-,-,q8,-,-,-⟩,-⟩:=HTr.out.cells
        have hclt:=HTr.out.lt
        clear e1 e2 e3 hvl hvg b0 b1 b2 b3 b4 b5 b6
        have HR2:=hid (show R=if fitsT ⟨xk,xn,xz⟩ ⟨yk,yn,yz⟩ || fitsT ⟨yk,yn,yz⟩ ⟨xk,xn,xz⟩ then .ok intT else .error 10 from HR.out)
        clear HR
        cases hF1:fitsT ⟨xk,xn,xz⟩ ⟨yk,yn,yz⟩ with
        | true =>
          have HF1:=hid hF1
          clear hF1
          refine wp_region_held_drew (S:=SameBut (w.heap.size+1) wr) (by kernel_rfl) (SameBut.drew _ _) (fun hSw=>?_)
          refine wt (i:=0) (oi:={ dst:=some 86,op:=Op.move (Operand.tmp 0),type:=73,pos := "exprs.go:49", after:=#[],guard:=none }) (v:=.pointer (some ⟨c,0,none⟩)) (fun W hW=>?_) hSw ?_
          · first|(go_simp;done)|rfl
          try simp only [Act.put,q1,q2,q3]
          refine wt (i:=1) (oi:={ dst:=some 87,op:=Op.move (Operand.tmp 7),type:=177,pos := "exprs.go:49", after:=#[],guard:=none }) (v:=.slice (some ⟨ga,oa,none⟩) N vcap) (fun W hW=>?_) hSw ?_
          · first|(go_simp;done)|rfl
          try simp only [Act.put,q1,q2,q3]
          refine wt (i:=2) (oi:={ dst:=some 88,op:=Op.indexAddr 177 (Operand.tmp 87) (Operand.const (Value.int IntKind.i64 0)),type:=0,pos := "exprs.go:49", after:=#[gd 1],guard:=none }) (v:=.pointer (some ⟨ga,oa,none⟩)) (fun W hW=>?_) hSw ?_
          · first|(go_simp;done)|rfl
          try simp only [Act.put,q1,q2,q3]
          refine wt (i:=3) (oi:={ dst:=some 89,op:=Op.load 30 (Operand.tmp 88),type:=30,pos := "exprs.go:49", after:=#[gd 2],guard:=none }) (v:=.agg #[.int .u8 xk,.string xn,.int .i64 xz]) (fun W hW=>?_) hSw ?_
          · have t0:=hW.cell (by dsimp only;omega) t0
            have t1:=hW.cell (by dsimp only;omega) t1
            have t2:=hW.cell (by dsimp only;omega) t2
            first|(go_simp;done)|rfl
          try simp only [Act.put,q1,q2,q3]
          refine wt (i:=4) (oi:={ dst:=some 90,op:=Op.move (Operand.tmp 7),type:=177,pos := "exprs.go:49", after:=#[],guard:=none }) (v:=.slice (some ⟨ga,oa,none⟩) N vcap) (fun W hW=>?_) hSw ?_
          · first|(go_simp;done)|rfl
          try simp only [Act.put,q1,q2,q3]
          refine wt (i:=5) (oi:={ dst:=some 91,op:=Op.indexAddr 177 (Operand.tmp 90) (Operand.const (Value.int IntKind.i64 1)),type:=0,pos := "exprs.go:49", after:=#[gd 4],guard:=none }) (v:=.pointer (some ⟨ga,oa+3,none⟩)) (fun W hW=>?_) hSw ?_
          · first|(go_simp;done)|rfl
          try simp only [Act.put,q1,q2,q3]
          refine wt (i:=6) (oi:={ dst:=some 92,op:=Op.load 30 (Operand.tmp 91),type:=30,pos := "exprs.go:49", after:=#[gd 5],guard:=none }) (v:=.agg #[.int .u8 yk,.string yn,.int .i64 yz]) (fun W hW=>?_) hSw ?_
          · have u0:=hW.cell (by dsimp only;omega) u0
            have u1b:=hW.cell (by dsimp only;omega) u1b
            have u2b:=hW.cell (by dsimp only;omega) u2b
            first|(go_simp;done)|rfl
          try simp only [Act.put,q1,q2,q3]
          refine wpAnyH_ready (rs:=[7]) (by kernel_rfl) (by simp) ?_
          refine AllReadyH.cons (o:={ dst:=some 93,op:=Op.call { callee:=Callee.value (Operand.func 110),args:=#[Operand.tmp 89,Operand.tmp 92],argTypes:=#[30,30] },type:=4,pos := "exprs.go:49", after:=#[gd 3,gd 6],guard:=none }) rfl (fun K hK=>?_) AllReadyH.nil
          rw [if_pos (by rfl)]
          clear hSw
          go_simp
          refine (fits_any ⟨xk,xn,xz⟩ ⟨yk,yn,yz⟩ wr.drew).mono ?_;rintro e' w5 ⟨rfl,hb5⟩
          rw [HF1.out]
          replace hb5:Below wr.heap.size wr w5:=below_tape hb5
          have hs5:=hb5.size
          have HS5:=hid (SameBut.of (z:=w.heap.size+1) hb5)
          have HB5:=hid hb5
          clear hb5
          refine hK.out _ _ (HS5.out) (fun hSw=>?_)
          clear hK K
          try simp only [Act.put,q1,q2,q3]
          refine wt (i:=8) (oi:={ dst:=some 94,op:=Op.move (Operand.tmp 93),type:=4,pos := "exprs.go:49", after:=#[gd 7,gc 7],guard:=none }) (v:=.bool true) (fun W hW=>?_) hSw ?_
          · first|(go_simp;done)|rfl
          try simp only [Act.put,q1,q2,q3]
          refine wpAnyH_take (i:=9) (oi:={ dst:=some 95,op:=Op.move (Operand.tmp 7),type:=177,pos := "exprs.go:49", after:=#[{ on:=8,ground:=Ground.guard }],guard:=some (8,false) }) (v:=undef) rfl (by kernel_rfl) (by kernel_rfl) (by kernel_rfl) (fun _ _ _ h=>h) (Or.inr ⟨by rfl,rfl⟩) hSw ?_
          try simp only [Act.put,q1,q2,q3]
          refine wpAnyH_take (i:=10) (oi:={ dst:=some 96,op:=Op.indexAddr 177 (Operand.tmp 95) (Operand.const (Value.int IntKind.i64 1)),type:=0,pos := "exprs.go:49", after:=#[gd 9,{ on:=8,ground:=Ground.guard }],guard:=some (8,false) }) (v:=undef) rfl (by kernel_rfl) (by kernel_rfl) (by kernel_rfl) (fun _ _ _ h=>h) (Or.inr ⟨by rfl,rfl⟩) hSw ?_
          try simp only [Act.put,q1,q2,q3]
          refine wpAnyH_take (i:=11) (oi:={ dst:=some 97,op:=Op.load 30 (Operand.tmp 96),type:=30,pos := "exprs.go:49", after:=#[gd 10,{ on:=8,ground:=Ground.guard }],guard:=some (8,false) }) (v:=undef) rfl (by kernel_rfl) (by kernel_rfl) (by kernel_rfl) (fun _ _ _ h=>h) (Or.inr ⟨by rfl,rfl⟩) hSw ?_
          try simp only [Act.put,q1,q2,q3]
          refine wpAnyH_take (i:=12) (oi:={ dst:=some 98,op:=Op.move (Operand.tmp 7),type:=177,pos := "exprs.go:49", after:=#[{ on:=8,ground:=Ground.guard }],guard:=some (8,false) }) (v:=undef) rfl (by kernel_rfl) (by kernel_rfl) (by kernel_rfl) (fun _ _ _ h=>h) (Or.inr ⟨by rfl,rfl⟩) hSw ?_
          try simp only [Act.put,q1,q2,q3]
          refine wpAnyH_take (i:=13) (oi:={ dst:=some 99,op:=Op.indexAddr 177 (Operand.tmp 98) (Operand.const (Value.int IntKind.i64 0)),type:=0,pos := "exprs.go:49", after:=#[gd 12,{ on:=8,ground:=Ground.guard }],guard:=some (8,false) }) (v:=undef) rfl (by kernel_rfl) (by kernel_rfl) (by kernel_rfl) (fun _ _ _ h=>h) (Or.inr ⟨by rfl,rfl⟩) hSw ?_
          try simp only [Act.put,q1,q2,q3]
          refine wpAnyH_take (i:=14) (oi:={ dst:=some 100,op:=Op.load 30 (Operand.tmp 99),type:=30,pos := "exprs.go:49", after:=#[gd 13,{ on:=8,ground:=Ground.guard }],guard:=some (8,false) }) (v:=undef) rfl (by kernel_rfl) (by kernel_rfl) (by kernel_rfl) (fun _ _ _ h=>h) (Or.inr ⟨by rfl,rfl⟩) hSw ?_
          try simp only [Act.put,q1,q2,q3]
          refine wpAnyH_take (i:=15) (oi:={ dst:=some 101,op:=Op.call { callee:=Callee.value (Operand.func 110),args:=#[Operand.tmp 97,Operand.tmp 100],argTypes:=#[30,30] },type:=4,pos := "exprs.go:49", after:=#[gd 11,gd 14,gc 8,{ on:=8,ground:=Ground.guard }],guard:=some (8,false) }) (v:=undef) rfl (by kernel_rfl) (by kernel_rfl) (by kernel_rfl) (fun _ _ _ h=>h) (Or.inr ⟨by rfl,rfl⟩) hSw ?_
          try simp only [Act.put,q1,q2,q3]
          refine wt (i:=16) (oi:={ dst:=some 102,op:=Op.pick (Operand.tmp 94) (Operand.const (Value.bool true)) (Operand.tmp 101),type:=4,pos := "exprs.go:49", after:=#[gd 8,gd 15],guard:=none }) (v:=.bool true) (fun W hW=>?_) hSw ?_
          · first|(go_simp;done)|rfl
          try simp only [Act.put,q1,q2,q3]
          refine wpAnyH_ready (rs:=[17]) (by kernel_rfl) (by simp) ?_
          refine AllReadyH.cons (o:={ dst:=some 103,op:=Op.call { callee:=Callee.value (Operand.func 54),args:=#[Operand.tmp 86,Operand.tmp 102,Operand.const (Value.int IntKind.i64 10)],argTypes:=#[73,4,37] },type:=0,pos := "exprs.go:49", after:=#[gd 0,gd 16,gc 15],guard:=none }) rfl (fun K hK=>?_) AllReadyH.nil
          rw [if_pos (by rfl)]
          clear hSw
          go_simp
          refine (tmust_yes c 10 w5).mono ?_;rintro e' w' ⟨rfl,rfl⟩
          refine hK.out _ _ (HS5.out) (fun hSw=>?_)
          clear hK K
          try simp only [Act.put,q1,q2,q3]
          refine wpAnyH_done (by kernel_rfl) ?_ _
          have HR:=hid (show R = .ok intT by rw [HR2.out,HF1.out];rfl)
          have hs7:=HB5.out.size
          have HB7:=hid (HBr.out.trans (HB5.out.mono (by omega)))
          have HZ7:=hid ((HB5.out.block _ (by omega)).trans HZr.out)
          clear t0 t1 t2 u0 u1 u2 u1b u2b q8
          go_wp2_with fail
          refine (inttype_any _).mono ?_;rintro e' w8 ⟨rfl,hb8⟩
          have hs8:=hb8.size
          have HB8:=hid (HB7.out.trans (hb8.mono (by omega)))
          have HZ8:=hid ((hb8.block _ (by omega)).trans HZ7.out)
          clear hb8
          go_wp2_with (refine wpList_put rfl 30 (Operand.tmp 6) (Operand.tmp 104) rfl (w.heap.size+1) 30 _ #[.int .u8 1,.string ⟨#[]⟩,.int .i64 0] rfl rfl HZ8.out rfl (by kernel_rfl) (by simp [Value.oneCell']) ?_)
          intro w6 hp6
          have HP6:=hid hp6
          clear hp6
          go_wp2_with fail
          refine bodyPost_ret (v:=.agg #[.int .u8 1,.string ⟨#[]⟩,.int .i64 0]) (results_cell_row rfl _ _ (w.heap.size+1) 30 _ (0,0) _ rfl HP6.out.at_b Tryz.underlying30 rfl (by kernel_rfl)) rfl ?_
          exact TyE.ok (t:=intT) HR.out (HP6.out.below HB8.out (by omega))
        | false =>
          have HF1:=hid hF1
          clear hF1
          cases hF2:fitsT ⟨yk,yn,yz⟩ ⟨xk,xn,xz⟩ with
          | true =>
            have HF2:=hid hF2
            clear hF2
            refine wp_region_held_drew (S:=SameBut (w.heap.size+1) wr) (by kernel_rfl) (SameBut.drew _ _) (fun hSw=>?_)
            refine wt (i:=0) (oi:={ dst:=some 86,op:=Op.move (Operand.tmp 0),type:=73,pos := "exprs.go:49", after:=#[],guard:=none }) (v:=.pointer (some ⟨c,0,none⟩)) (fun W hW=>?_) hSw ?_
            · first|(go_simp;done)|rfl
            try simp only [Act.put,q1,q2,q3]
            refine wt (i:=1) (oi:={ dst:=some 87,op:=Op.move (Operand.tmp 7),type:=177,pos := "exprs.go:49", after:=#[],guard:=none }) (v:=.slice (some ⟨ga,oa,none⟩) N vcap) (fun W hW=>?_) hSw ?_
            · first|(go_simp;done)|rfl
            try simp only [Act.put,q1,q2,q3]
            refine wt (i:=2) (oi:={ dst:=some 88,op:=Op.indexAddr 177 (Operand.tmp 87) (Operand.const (Value.int IntKind.i64 0)),type:=0,pos := "exprs.go:49", after:=#[gd 1],guard:=none }) (v:=.pointer (some ⟨ga,oa,none⟩)) (fun W hW=>?_) hSw ?_
            · first|(go_simp;done)|rfl
            try simp only [Act.put,q1,q2,q3]
            refine wt (i:=3) (oi:={ dst:=some 89,op:=Op.load 30 (Operand.tmp 88),type:=30,pos := "exprs.go:49", after:=#[gd 2],guard:=none }) (v:=.agg #[.int .u8 xk,.string xn,.int .i64 xz]) (fun W hW=>?_) hSw ?_
            · have t0:=hW.cell (by dsimp only;omega) t0
              have t1:=hW.cell (by dsimp only;omega) t1
              have t2:=hW.cell (by dsimp only;omega) t2
              first|(go_simp;done)|rfl
            try simp only [Act.put,q1,q2,q3]
            refine wt (i:=4) (oi:={ dst:=some 90,op:=Op.move (Operand.tmp 7),type:=177,pos := "exprs.go:49", after:=#[],guard:=none }) (v:=.slice (some ⟨ga,oa,none⟩) N vcap) (fun W hW=>?_) hSw ?_
            · first|(go_simp;done)|rfl
            try simp only [Act.put,q1,q2,q3]
            refine wt (i:=5) (oi:={ dst:=some 91,op:=Op.indexAddr 177 (Operand.tmp 90) (Operand.const (Value.int IntKind.i64 1)),type:=0,pos := "exprs.go:49", after:=#[gd 4],guard:=none }) (v:=.pointer (some ⟨ga,oa+3,none⟩)) (fun W hW=>?_) hSw ?_
            · first|(go_simp;done)|rfl
            try simp only [Act.put,q1,q2,q3]
            refine wt (i:=6) (oi:={ dst:=some 92,op:=Op.load 30 (Operand.tmp 91),type:=30,pos := "exprs.go:49", after:=#[gd 5],guard:=none }) (v:=.agg #[.int .u8 yk,.string yn,.int .i64 yz]) (fun W hW=>?_) hSw ?_
            · have u0:=hW.cell (by dsimp only;omega) u0
              have u1b:=hW.cell (by dsimp only;omega) u1b
              have u2b:=hW.cell (by dsimp only;omega) u2b
              first|(go_simp;done)|rfl
            try simp only [Act.put,q1,q2,q3]
            refine wpAnyH_ready (rs:=[7]) (by kernel_rfl) (by simp) ?_
            refine AllReadyH.cons (o:={ dst:=some 93,op:=Op.call { callee:=Callee.value (Operand.func 110),args:=#[Operand.tmp 89,Operand.tmp 92],argTypes:=#[30,30] },type:=4,pos := "exprs.go:49", after:=#[gd 3,gd 6],guard:=none }) rfl (fun K hK=>?_) AllReadyH.nil
            rw [if_pos (by rfl)]
            clear hSw
            go_simp
            refine (fits_any ⟨xk,xn,xz⟩ ⟨yk,yn,yz⟩ wr.drew).mono ?_;rintro e' w5 ⟨rfl,hb5⟩
            rw [HF1.out]
            replace hb5:Below wr.heap.size wr w5:=below_tape hb5
            have hs5:=hb5.size
            have HS5:=hid (SameBut.of (z:=w.heap.size+1) hb5)
            have HB5:=hid hb5
            clear hb5
            refine hK.out _ _ (HS5.out) (fun hSw=>?_)
            clear hK K
            try simp only [Act.put,q1,q2,q3]
            refine wt (i:=8) (oi:={ dst:=some 94,op:=Op.move (Operand.tmp 93),type:=4,pos := "exprs.go:49", after:=#[gd 7,gc 7],guard:=none }) (v:=.bool false) (fun W hW=>?_) hSw ?_
            · first|(go_simp;done)|rfl
            try simp only [Act.put,q1,q2,q3]
            refine wt (i:=9) (oi:={ dst:=some 95,op:=Op.move (Operand.tmp 7),type:=177,pos := "exprs.go:49", after:=#[{ on:=8,ground:=Ground.guard }],guard:=some (8,false) }) (v:=.slice (some ⟨ga,oa,none⟩) N vcap) (fun W hW=>?_) hSw ?_
            · first|(go_simp;done)|rfl
            try simp only [Act.put,q1,q2,q3]
            refine wt (i:=10) (oi:={ dst:=some 96,op:=Op.indexAddr 177 (Operand.tmp 95) (Operand.const (Value.int IntKind.i64 1)),type:=0,pos := "exprs.go:49", after:=#[gd 9,{ on:=8,ground:=Ground.guard }],guard:=some (8,false) }) (v:=.pointer (some ⟨ga,oa+3,none⟩)) (fun W hW=>?_) hSw ?_
            · first|(go_simp;done)|rfl
            try simp only [Act.put,q1,q2,q3]
            refine wt (i:=11) (oi:={ dst:=some 97,op:=Op.load 30 (Operand.tmp 96),type:=30,pos := "exprs.go:49", after:=#[gd 10,{ on:=8,ground:=Ground.guard }],guard:=some (8,false) }) (v:=.agg #[.int .u8 yk,.string yn,.int .i64 yz]) (fun W hW=>?_) hSw ?_
            · have u0:=hW.cell (by dsimp only;omega) u0
              have u1b:=hW.cell (by dsimp only;omega) u1b
              have u2b:=hW.cell (by dsimp only;omega) u2b
              first|(go_simp;done)|rfl
            try simp only [Act.put,q1,q2,q3]
            refine wt (i:=12) (oi:={ dst:=some 98,op:=Op.move (Operand.tmp 7),type:=177,pos := "exprs.go:49", after:=#[{ on:=8,ground:=Ground.guard }],guard:=some (8,false) }) (v:=.slice (some ⟨ga,oa,none⟩) N vcap) (fun W hW=>?_) hSw ?_
            · first|(go_simp;done)|rfl
            try simp only [Act.put,q1,q2,q3]
            refine wt (i:=13) (oi:={ dst:=some 99,op:=Op.indexAddr 177 (Operand.tmp 98) (Operand.const (Value.int IntKind.i64 0)),type:=0,pos := "exprs.go:49", after:=#[gd 12,{ on:=8,ground:=Ground.guard }],guard:=some (8,false) }) (v:=.pointer (some ⟨ga,oa,none⟩)) (fun W hW=>?_) hSw ?_
            · first|(go_simp;done)|rfl
            try simp only [Act.put,q1,q2,q3]
            refine wt (i:=14) (oi:={ dst:=some 100,op:=Op.load 30 (Operand.tmp 99),type:=30,pos := "exprs.go:49", after:=#[gd 13,{ on:=8,ground:=Ground.guard }],guard:=some (8,false) }) (v:=.agg #[.int .u8 xk,.string xn,.int .i64 xz]) (fun W hW=>?_) hSw ?_
            · have t0:=hW.cell (by dsimp only;omega) t0
              have t1:=hW.cell (by dsimp only;omega) t1
              have t2:=hW.cell (by dsimp only;omega) t2
              first|(go_simp;done)|rfl
            try simp only [Act.put,q1,q2,q3]
            refine wpAnyH_ready (rs:=[15]) (by kernel_rfl) (by simp) ?_
            refine AllReadyH.cons (o:={ dst:=some 101,op:=Op.call { callee:=Callee.value (Operand.func 110),args:=#[Operand.tmp 97,Operand.tmp 100],argTypes:=#[30,30] },type:=4,pos := "exprs.go:49", after:=#[gd 11,gd 14,gc 8,{ on:=8,ground:=Ground.guard }],guard:=some (8,false) }) rfl (fun K hK=>?_) AllReadyH.nil
            rw [if_pos (by rfl)]
            clear hSw
            go_simp
            refine (fits_any ⟨yk,yn,yz⟩ ⟨xk,xn,xz⟩ w5).mono ?_;rintro e' w6 ⟨rfl,hb6⟩
            rw [HF2.out]
            have hs6:=hb6.size
            have HB6:=hid (HB5.out.trans (hb6.mono hs5))
            have HS6:=hid (SameBut.of (z:=w.heap.size+1) HB6.out)
            clear hb6
            refine hK.out _ _ (HS6.out) (fun hSw=>?_)
            clear hK K
            try simp only [Act.put,q1,q2,q3]
            refine wt (i:=16) (oi:={ dst:=some 102,op:=Op.pick (Operand.tmp 94) (Operand.const (Value.bool true)) (Operand.tmp 101),type:=4,pos := "exprs.go:49", after:=#[gd 8,gd 15],guard:=none }) (v:=.bool true) (fun W hW=>?_) hSw ?_
            · first|(go_simp;done)|rfl
            try simp only [Act.put,q1,q2,q3]
            refine wpAnyH_ready (rs:=[17]) (by kernel_rfl) (by simp) ?_
            refine AllReadyH.cons (o:={ dst:=some 103,op:=Op.call { callee:=Callee.value (Operand.func 54),args:=#[Operand.tmp 86,Operand.tmp 102,Operand.const (Value.int IntKind.i64 10)],argTypes:=#[73,4,37] },type:=0,pos := "exprs.go:49", after:=#[gd 0,gd 16,gc 15],guard:=none }) rfl (fun K hK=>?_) AllReadyH.nil
            rw [if_pos (by rfl)]
            clear hSw
            go_simp
            refine (tmust_yes c 10 w6).mono ?_;rintro e' w' ⟨rfl,rfl⟩
            refine hK.out _ _ (HS6.out) (fun hSw=>?_)
            clear hK K
            try simp only [Act.put,q1,q2,q3]
            refine wpAnyH_done (by kernel_rfl) ?_ _
            have HR:=hid (show R = .ok intT by rw [HR2.out,HF1.out,HF2.out];rfl)
            have hs7:=HB6.out.size
            have HB7:=hid (HBr.out.trans (HB6.out.mono (by omega)))
            have HZ7:=hid ((HB6.out.block _ (by omega)).trans HZr.out)
            clear t0 t1 t2 u0 u1 u2 u1b u2b q8
            go_wp2_with fail
            refine (inttype_any _).mono ?_;rintro e' w8 ⟨rfl,hb8⟩
            have hs8:=hb8.size
            have HB8:=hid (HB7.out.trans (hb8.mono (by omega)))
            have HZ8:=hid ((hb8.block _ (by omega)).trans HZ7.out)
            clear hb8
            go_wp2_with (refine wpList_put rfl 30 (Operand.tmp 6) (Operand.tmp 104) rfl (w.heap.size+1) 30 _ #[.int .u8 1,.string ⟨#[]⟩,.int .i64 0] rfl rfl HZ8.out rfl (by kernel_rfl) (by simp [Value.oneCell']) ?_)
            intro w6 hp6
            have HP6:=hid hp6
            clear hp6
            go_wp2_with fail
            refine bodyPost_ret (v:=.agg #[.int .u8 1,.string ⟨#[]⟩,.int .i64 0]) (results_cell_row rfl _ _ (w.heap.size+1) 30 _ (0,0) _ rfl HP6.out.at_b Tryz.underlying30 rfl (by kernel_rfl)) rfl ?_
            exact TyE.ok (t:=intT) HR.out (HP6.out.below HB8.out (by omega))
          | false =>
            have HF2:=hid hF2
            clear hF2
            refine wp_region_held_drew (S:=SameBut (w.heap.size+1) wr) (by kernel_rfl) (SameBut.drew _ _) (fun hSw=>?_)
            refine wt (i:=0) (oi:={ dst:=some 86,op:=Op.move (Operand.tmp 0),type:=73,pos := "exprs.go:49", after:=#[],guard:=none }) (v:=.pointer (some ⟨c,0,none⟩)) (fun W hW=>?_) hSw ?_
            · first|(go_simp;done)|rfl
            try simp only [Act.put,q1,q2,q3]
            refine wt (i:=1) (oi:={ dst:=some 87,op:=Op.move (Operand.tmp 7),type:=177,pos := "exprs.go:49", after:=#[],guard:=none }) (v:=.slice (some ⟨ga,oa,none⟩) N vcap) (fun W hW=>?_) hSw ?_
            · first|(go_simp;done)|rfl
            try simp only [Act.put,q1,q2,q3]
            refine wt (i:=2) (oi:={ dst:=some 88,op:=Op.indexAddr 177 (Operand.tmp 87) (Operand.const (Value.int IntKind.i64 0)),type:=0,pos := "exprs.go:49", after:=#[gd 1],guard:=none }) (v:=.pointer (some ⟨ga,oa,none⟩)) (fun W hW=>?_) hSw ?_
            · first|(go_simp;done)|rfl
            try simp only [Act.put,q1,q2,q3]
            refine wt (i:=3) (oi:={ dst:=some 89,op:=Op.load 30 (Operand.tmp 88),type:=30,pos := "exprs.go:49", after:=#[gd 2],guard:=none }) (v:=.agg #[.int .u8 xk,.string xn,.int .i64 xz]) (fun W hW=>?_) hSw ?_
            · have t0:=hW.cell (by dsimp only;omega) t0
              have t1:=hW.cell (by dsimp only;omega) t1
              have t2:=hW.cell (by dsimp only;omega) t2
              first|(go_simp;done)|rfl
            try simp only [Act.put,q1,q2,q3]
            refine wt (i:=4) (oi:={ dst:=some 90,op:=Op.move (Operand.tmp 7),type:=177,pos := "exprs.go:49", after:=#[],guard:=none }) (v:=.slice (some ⟨ga,oa,none⟩) N vcap) (fun W hW=>?_) hSw ?_
            · first|(go_simp;done)|rfl
            try simp only [Act.put,q1,q2,q3]
            refine wt (i:=5) (oi:={ dst:=some 91,op:=Op.indexAddr 177 (Operand.tmp 90) (Operand.const (Value.int IntKind.i64 1)),type:=0,pos := "exprs.go:49", after:=#[gd 4],guard:=none }) (v:=.pointer (some ⟨ga,oa+3,none⟩)) (fun W hW=>?_) hSw ?_
            · first|(go_simp;done)|rfl
            try simp only [Act.put,q1,q2,q3]
            refine wt (i:=6) (oi:={ dst:=some 92,op:=Op.load 30 (Operand.tmp 91),type:=30,pos := "exprs.go:49", after:=#[gd 5],guard:=none }) (v:=.agg #[.int .u8 yk,.string yn,.int .i64 yz]) (fun W hW=>?_) hSw ?_
            · have u0:=hW.cell (by dsimp only;omega) u0
              have u1b:=hW.cell (by dsimp only;omega) u1b
              have u2b:=hW.cell (by dsimp only;omega) u2b
              first|(go_simp;done)|rfl
            try simp only [Act.put,q1,q2,q3]
            refine wpAnyH_ready (rs:=[7]) (by kernel_rfl) (by simp) ?_
            refine AllReadyH.cons (o:={ dst:=some 93,op:=Op.call { callee:=Callee.value (Operand.func 110),args:=#[Operand.tmp 89,Operand.tmp 92],argTypes:=#[30,30] },type:=4,pos := "exprs.go:49", after:=#[gd 3,gd 6],guard:=none }) rfl (fun K hK=>?_) AllReadyH.nil
            rw [if_pos (by rfl)]
            clear hSw
            go_simp
            refine (fits_any ⟨xk,xn,xz⟩ ⟨yk,yn,yz⟩ wr.drew).mono ?_;rintro e' w5 ⟨rfl,hb5⟩
            rw [HF1.out]
            replace hb5:Below wr.heap.size wr w5:=below_tape hb5
            have hs5:=hb5.size
            have HS5:=hid (SameBut.of (z:=w.heap.size+1) hb5)
            have HB5:=hid hb5
            clear hb5
            refine hK.out _ _ (HS5.out) (fun hSw=>?_)
            clear hK K
            try simp only [Act.put,q1,q2,q3]
            refine wt (i:=8) (oi:={ dst:=some 94,op:=Op.move (Operand.tmp 93),type:=4,pos := "exprs.go:49", after:=#[gd 7,gc 7],guard:=none }) (v:=.bool false) (fun W hW=>?_) hSw ?_
            · first|(go_simp;done)|rfl
            try simp only [Act.put,q1,q2,q3]
            refine wt (i:=9) (oi:={ dst:=some 95,op:=Op.move (Operand.tmp 7),type:=177,pos := "exprs.go:49", after:=#[{ on:=8,ground:=Ground.guard }],guard:=some (8,false) }) (v:=.slice (some ⟨ga,oa,none⟩) N vcap) (fun W hW=>?_) hSw ?_
            · first|(go_simp;done)|rfl
            try simp only [Act.put,q1,q2,q3]
            refine wt (i:=10) (oi:={ dst:=some 96,op:=Op.indexAddr 177 (Operand.tmp 95) (Operand.const (Value.int IntKind.i64 1)),type:=0,pos := "exprs.go:49", after:=#[gd 9,{ on:=8,ground:=Ground.guard }],guard:=some (8,false) }) (v:=.pointer (some ⟨ga,oa+3,none⟩)) (fun W hW=>?_) hSw ?_
            · first|(go_simp;done)|rfl
            try simp only [Act.put,q1,q2,q3]
            refine wt (i:=11) (oi:={ dst:=some 97,op:=Op.load 30 (Operand.tmp 96),type:=30,pos := "exprs.go:49", after:=#[gd 10,{ on:=8,ground:=Ground.guard }],guard:=some (8,false) }) (v:=.agg #[.int .u8 yk,.string yn,.int .i64 yz]) (fun W hW=>?_) hSw ?_
            · have u0:=hW.cell (by dsimp only;omega) u0
              have u1b:=hW.cell (by dsimp only;omega) u1b
              have u2b:=hW.cell (by dsimp only;omega) u2b
              first|(go_simp;done)|rfl
            try simp only [Act.put,q1,q2,q3]
            refine wt (i:=12) (oi:={ dst:=some 98,op:=Op.move (Operand.tmp 7),type:=177,pos := "exprs.go:49", after:=#[{ on:=8,ground:=Ground.guard }],guard:=some (8,false) }) (v:=.slice (some ⟨ga,oa,none⟩) N vcap) (fun W hW=>?_) hSw ?_
            · first|(go_simp;done)|rfl
            try simp only [Act.put,q1,q2,q3]
            refine wt (i:=13) (oi:={ dst:=some 99,op:=Op.indexAddr 177 (Operand.tmp 98) (Operand.const (Value.int IntKind.i64 0)),type:=0,pos := "exprs.go:49", after:=#[gd 12,{ on:=8,ground:=Ground.guard }],guard:=some (8,false) }) (v:=.pointer (some ⟨ga,oa,none⟩)) (fun W hW=>?_) hSw ?_
            · first|(go_simp;done)|rfl
            try simp only [Act.put,q1,q2,q3]
            refine wt (i:=14) (oi:={ dst:=some 100,op:=Op.load 30 (Operand.tmp 99),type:=30,pos := "exprs.go:49", after:=#[gd 13,{ on:=8,ground:=Ground.guard }],guard:=some (8,false) }) (v:=.agg #[.int .u8 xk,.string xn,.int .i64 xz]) (fun W hW=>?_) hSw ?_
            · have t0:=hW.cell (by dsimp only;omega) t0
              have t1:=hW.cell (by dsimp only;omega) t1
              have t2:=hW.cell (by dsimp only;omega) t2
              first|(go_simp;done)|rfl
            try simp only [Act.put,q1,q2,q3]
            refine wpAnyH_ready (rs:=[15]) (by kernel_rfl) (by simp) ?_
            refine AllReadyH.cons (o:={ dst:=some 101,op:=Op.call { callee:=Callee.value (Operand.func 110),args:=#[Operand.tmp 97,Operand.tmp 100],argTypes:=#[30,30] },type:=4,pos := "exprs.go:49", after:=#[gd 11,gd 14,gc 8,{ on:=8,ground:=Ground.guard }],guard:=some (8,false) }) rfl (fun K hK=>?_) AllReadyH.nil
            rw [if_pos (by rfl)]
            clear hSw
            go_simp
            refine (fits_any ⟨yk,yn,yz⟩ ⟨xk,xn,xz⟩ w5).mono ?_;rintro e' w6 ⟨rfl,hb6⟩
            rw [HF2.out]
            have hs6:=hb6.size
            have HB6:=hid (HB5.out.trans (hb6.mono hs5))
            have HS6:=hid (SameBut.of (z:=w.heap.size+1) HB6.out)
            clear hb6
            refine hK.out _ _ (HS6.out) (fun hSw=>?_)
            clear hK K
            try simp only [Act.put,q1,q2,q3]
            refine wt (i:=16) (oi:={ dst:=some 102,op:=Op.pick (Operand.tmp 94) (Operand.const (Value.bool true)) (Operand.tmp 101),type:=4,pos := "exprs.go:49", after:=#[gd 8,gd 15],guard:=none }) (v:=.bool false) (fun W hW=>?_) hSw ?_
            · first|(go_simp;done)|rfl
            try simp only [Act.put,q1,q2,q3]
            refine wpAnyH_ready (rs:=[17]) (by kernel_rfl) (by simp) ?_
            refine AllReadyH.cons (o:={ dst:=some 103,op:=Op.call { callee:=Callee.value (Operand.func 54),args:=#[Operand.tmp 86,Operand.tmp 102,Operand.const (Value.int IntKind.i64 10)],argTypes:=#[73,4,37] },type:=0,pos := "exprs.go:49", after:=#[gd 0,gd 16,gc 15],guard:=none }) rfl (fun K hK=>?_) AllReadyH.nil
            rw [if_pos (by rfl)]
            clear hSw
            go_simp
            refine (tmust_no c p 10 w6 (by rw [HB6.out.cell (p:=⟨c,8,none⟩) hclt];exact q8)).mono ?_;rintro e' w' ⟨rfl,rfl⟩
            exact⟨rfl,TyE.no (by rw [HR2.out,HF1.out,HF2.out];rfl) (HBr.out.trans (HB6.out.mono (by omega)))⟩
      have j16:(hk == 16)=false:=beq_eq_false_iff_ne.2 k16
      have HR:=hid (show R=if allInt ts=true then .ok intT else .error 10 by
        rw [HRo.out];unfold ownT;simp only [k2,k3,k4,k5,k6,k7,k15,k16,if_false,or_self])
      clear HRo k2 k3 k4 k5 k6 k7 k15 k16
      go_wp2_with fail
      clear b0 b1 b2 b3 b4 b5 b6
      obtain⟨wv,rfl⟩:∃ x,x=wr:=⟨wr,rfl⟩
      go_loopw [31] (fun q wr=>∃ k:Nat,k≤N∧q = .int .i64 k∧Hid (allInt ts=allInt (ts.drop k))∧Below wv.heap.size wv wr) (fun q _=>N - (intOf q).toNat)
      case atStart=>exact⟨0,by omega,rfl,hid rfl,Below.refl _ _⟩
      case round =>
        obtain⟨k,hkN,rfl,HF,hBq⟩:=hrel
        have hsq:=hBq.size
        by_cases hlt2:k < N
        · obtain⟨va',vcap',eva,hvl,hvg⟩:=HLI.out.form
          obtain⟨ga,oa,hva,hga⟩:=hvg (by rw [HLEN2.out];omega)
          injection eva with e1 e2 e3
          rw [← e1] at hva
          obtain⟨⟨ak,an,az⟩,hta⟩:∃ t,ts[k]? = some t:=⟨_,List.getElem?_eq_getElem (by rw [HLEN2.out];exact hlt2)⟩
          have hstep:=allInt_step ts k hta
          subst hva
          obtain⟨-,t0,t1,t2⟩:=ty_at (HLI.out.below hBq) rfl hta
          simp only at t0 t1 t2
          have HNU:=hid (number_any c e tv p res ⟨ak,an,az⟩ (wr.alloc (.cells #[.int .u8 ak,.string an,.int .i64 az] 30)) ((HTr.out.kept hBq).alloc _))
          have HB5:=hid (hBq.trans ((below_box wr (.cells #[.int .u8 ak,.string an,.int .i64 az] 30)).mono hsq))
          have hgaq:ga < wr.heap.size:=by omega
          have HST:=hid hstep
          clear hBq e1 e2 e3 hvl hvg hta hstep
          go_wp2_with fail
          refine HNU.out.mono ?_;rintro e' w6 ⟨he,hb6⟩
          have HB6:=hid (HB5.out.trans (hb6.mono (by simp;omega)))
          clear hb6
          by_cases hti:(⟨ak,an,az⟩:Ty)=intT
          · have HF2:=hid (show allInt ts=allInt (ts.drop (k+1)) by rw [HF.out,HST.out,decide_eq_true hti];rfl)
            rw [if_pos hti,askE_0 rfl] at he
            subst he
            clear hti t0 t1 t2
            go_wp2_with fail
            go_roundw
            case rel=>exact⟨k+1,by omega,by go_num,HF2,HB6.out⟩
            case measure=>simp [intOf];omega
          · have HF2:=hid (show allInt ts=false by rw [HF.out,HST.out,decide_eq_false hti];rfl)
            rw [if_neg hti,askE_no (by decide)] at he
            subst he
            exact⟨rfl,TyE.no (by rw [HR.out,HF2.out];rfl) (HBr.out.trans (HB6.out.mono (by omega)))⟩
        · have HR7:=hid (show R = .ok intT by rw [HR.out,HF.out,List.drop_eq_nil_of_le (by rw [HLEN2.out];omega)];rfl)
          clear HR
          have HR:=HR7
          have HB7:=hid (HBr.out.trans (hBq.mono (by omega)))
          have HZ7:=hid ((hBq.block _ (by omega)).trans HZr.out)
          clear hBq HF
          go_wp2_with fail
          refine (inttype_any _).mono ?_;rintro e' w8 ⟨rfl,hb8⟩
          have hs8:=hb8.size
          have HB8:=hid (HB7.out.trans (hb8.mono (by omega)))
          have HZ8:=hid ((hb8.block _ (by omega)).trans HZ7.out)
          clear hb8
          go_wp2_with (refine wpList_put rfl 30 (Operand.tmp 6) (Operand.tmp 104) rfl (w.heap.size+1) 30 _ #[.int .u8 1,.string ⟨#[]⟩,.int .i64 0] rfl rfl HZ8.out rfl (by kernel_rfl) (by simp [Value.oneCell']) ?_)
          intro w6 hp6
          have HP6:=hid hp6
          clear hp6
          go_wp2_with fail
          refine bodyPost_ret (v:=.agg #[.int .u8 1,.string ⟨#[]⟩,.int .i64 0]) (results_cell_row rfl _ _ (w.heap.size+1) 30 _ (0,0) _ rfl HP6.out.at_b Tryz.underlying30 rfl (by kernel_rfl)) rfl ?_
          exact TyE.ok (t:=intT) HR.out (HP6.out.below HB8.out (by omega))
theorem expr_all:∀ x,EX x:=X.ind expr_mk
end Go.Proofs.YtdhieihcmnpneaaGreatDoor
