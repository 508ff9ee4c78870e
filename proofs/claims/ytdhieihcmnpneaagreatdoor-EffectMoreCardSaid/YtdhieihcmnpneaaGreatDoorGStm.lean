/- What the types layer finds of any statement and any list of them. -/
import Derived.Test.YtdhieihcmnpneaaGreatDoorRows
import Derived.Test.YtdhieihcmnpneaaGreatDoorGVar
import Derived.Test.YtdhieihcmnpneaaGreatDoorTypWt
namespace Go.Proofs.YtdhieihcmnpneaaGreatDoor
open Lib (hid)
set_option maxRecDepth 100000
set_option maxHeartbeats 4000000
open Go.RowKit
attribute [local go_sem ↓] Go.wp_at_zero Go.wp_at_succ loadS_eq loadX_eq storeS_eq
structure Sx (B c:Nat) (e:En) (tv:Value) (p:Int) (res:Ty) (w:World):Prop where
  tk:Tk c e tv p res w
  hB:B≤c
  hw:B≤w.heap.size
  ein:EIn w B e
theorem Sx.kept {B c:Nat} {e:En} {tv:Value} {p:Int} {res:Ty} {w w':World} (h:Sx B c e tv p res w) (hb:Below w.heap.size w w'):Sx B c e tv p res w':=
  ⟨h.tk.kept hb,h.hB,Nat.le_trans h.hw hb.size,h.ein.keeps (hb.mono h.hw)⟩
theorem Sx.only {B c:Nat} {e:En} {tv:Value} {p q:Int} {res res':Ty} {w w':World} (h:Sx B c e tv p res w) (hO:Only c w w') (ht:Tk c e tv q res' w'):Sx B c e tv q res' w':=
  ⟨ht,h.hB,Nat.le_trans h.hw hO.size,h.ein.keeps (hO.below h.hB h.hw)⟩
theorem Lc.only {c:Nat} {e:En} {tv:Value} {p:Int} {res:Ty} {w w':World} {v:Value} {l:List Fd} (hL:Lc w v l) (h:Tk c e tv p res w) (hO:Only c w w'):Lc w' v l:=
  hL.kept fun k o hk=>hO.block k (Array.getElem?_eq_some_iff.1 hk).1 (fun hkc=>by
    subst hkc
    obtain⟨_,K,h1,_⟩:=h
    rw [hk] at h1
    have h2:=Option.some.inj h1
    injection h2 with _ h3 _
    exact absurd h3 (by decide))
def LsE (c:Nat) (e:En) (tv:Value) (res:Ty) (r:Except (Int × Int) Int) (w:World) (e':Ending) (w':World):Prop:=
  Only c w w'∧(∀ q,r = .ok q→e' = .returned (.tuple #[])∧Tk c e tv q res w')∧(∀ q,r = .error q→e' = .panicked (ft q.1 q.2))
theorem LsE.no {c:Nat} {e:En} {tv:Value} {res:Ty} {r:Except (Int × Int) Int} {q:Int × Int} {w w':World} (hr:r = .error q) (h:Only c w w'):LsE c e tv res r w (.panicked (ft q.1 q.2)) w':=
  ⟨h,(fun u e=>by rw [hr] at e;cases e),(fun k e=>by rw [hr] at e;cases e;rfl)⟩
theorem LsE.ok {c:Nat} {e:En} {tv:Value} {res:Ty} {r:Except (Int × Int) Int} {q:Int} {w w':World} (hr:r = .ok q) (h:Only c w w') (ht:Tk c e tv q res w'):LsE c e tv res r w (.returned (.tuple #[])) w':=
  ⟨h,(fun u e=>by rw [hr] at e;cases e;exact⟨rfl,ht⟩),(fun k e=>by rw [hr] at e;cases e)⟩
def StE (c:Nat) (e:En) (tv:Value) (res:Ty) (r:Except (Int × Int) (Int × List Fd)) (w:World) (e':Ending) (w':World):Prop:=
  Only c w w'∧(∀ q,r = .ok q→∃ g,e' = .returned (.pointer g)∧Tk c e tv q.1 res w'∧Lc w' (.pointer g) q.2)∧(∀ q,r = .error q→e' = .panicked (ft q.1 q.2))
theorem StE.no {c:Nat} {e:En} {tv:Value} {res:Ty} {r:Except (Int × Int) (Int × List Fd)} {a k:Int} {w w':World} (hr:r = .error (a,k)) (h:Only c w w'):StE c e tv res r w (.panicked (ft a k)) w':=
  ⟨h,(fun u e=>by rw [hr] at e;cases e),(fun k e=>by rw [hr] at e;cases e;rfl)⟩
theorem StE.ok {c:Nat} {e:En} {tv:Value} {res:Ty} {r:Except (Int × Int) (Int × List Fd)} {a:Int} {l:List Fd} {w w':World} (hr:r = .ok (a,l)) (h:Only c w w') (ht:Tk c e tv a res w') {g:Option Addr} (hl:Lc w' (.pointer g) l):StE c e tv res r w (.returned (.pointer g)) w':=
  ⟨h,(fun u e=>by rw [hr] at e;cases e;exact⟨g,rfl,ht,hl⟩),(fun k e=>by rw [hr] at e;cases e)⟩
inductive FineS:St→Prop where
  | mk (h:Sh) (x y:X) (bv ev:Value) (b e:List St):(x.hd.k ≠ 0 ∨ h.k=3 ∨ h.k=4 ∨ h.k=6→Fine x∧X.size x≤1024)→(h.k=2→Fine y∧X.size y≤1024)→(h.k=2 ∨ h.k=8→x.hd.k ≠ 0)→(∀ a ∈ b,FineS a)→(∀ a ∈ e,FineS a)→FineS (.mk h x y bv ev b e)
theorem place_mono:∀ s:St,∀ (e:En) (res:Ty) (loc:List Fd) (p:Int) (q:Int × List Fd),stT e res loc p s = .ok q→p≤q.1∧q.1+1≤p+(St.count s:Int):=by
  have key:∀ (l:List St),(∀ a ∈ l,∀ (e:En) (res:Ty) (loc:List Fd) (p:Int) (q:Int × List Fd),stT e res loc p a = .ok q→p≤q.1∧q.1+1≤p+(St.count a:Int))→∀ (e:En) (res:Ty) (loc:List Fd) (p q:Int),stsT e res loc p l = .ok q→p≤q∧q≤p+(St.counts l:Int):=by
    intro l
    induction l with
    | nil=>intro _ e res loc p q h;rw [stsT_nil] at h;cases h;rw [counts_nil];omega
    | cons a r ihr =>
      intro hl e res loc p q h
      rw [stsT_cons] at h
      rw [counts_cons]
      cases hq:stT e res loc (p+1) a with
      | error k=>rw [hq] at h;cases h
      | ok q1 =>
        rw [hq] at h
        have h1:=hl a (by simp) e res loc (p+1) q1 hq
        have h2:=ihr (fun b hb=>hl b (by simp [hb])) e res q1.2 q1.1 q h
        omega
  refine St.ind fun h x y bv ev b l ih1 ih2 e res loc p q hq=>?_
  rw [stT_mk] at hq
  rw [count_mk]
  split at hq
  · cases hq
  split at hq
  · cases hq
    simp only
    omega
  split at hq
  · cases hq
  rename_i p1 h1
  split at hq
  · cases hq
  rename_i p2 h2
  cases hq
  have g1:=key b ih1 e res loc p p1 h1
  have g2:=key l ih2 e res loc p1 p2 h2
  simp only
  omega
theorem places_mono (l:List St) (e:En) (res:Ty) (loc:List Fd) (p q:Int) (h:stsT e res loc p l = .ok q):p≤q∧q≤p+(St.counts l:Int):=by
  induction l generalizing loc p with
  | nil=>rw [stsT_nil] at h;cases h;rw [counts_nil];omega
  | cons a r ihr =>
    rw [stsT_cons] at h
    rw [counts_cons]
    cases hq:stT e res loc (p+1) a with
    | error k=>rw [hq] at h;cases h
    | ok q1 =>
      rw [hq] at h
      have h1:=place_mono a e res loc (p+1) q1 hq
      have h2:=ihr q1.2 q1.1 h
      omega
def TS (s:St):Prop:=∀ (B c:Nat) (e:En) (tv:Value) (p:Int) (res:Ty) (loc:List Fd) (v:Value) (w:World),Sx B c e tv p res w→SIn w B s→FineS s→Lc w v loc → -1≤p→p+(St.count s:Int)≤1000001 →
    Calls Tryz.prog 83 #[.pointer (some ⟨c,0,none⟩),.agg s.arr,v] w (StE c e tv res (stT e res loc p s) w)
def TL (l:List St):Prop:=∀ (B c:Nat) (e:En) (tv:Value) (p:Int) (res:Ty) (loc:List Fd) (v lv:Value) (w:World),Sx B c e tv p res w→LiesG St.cells 21 w B lv l→(∀ a ∈ l,SIn w B a)→(∀ a ∈ l,FineS a)→Lc w v loc → -1≤p→p+(St.counts l:Int)≤1000000 →
    Calls Tryz.prog 58 #[.pointer (some ⟨c,0,none⟩),lv,v] w (LsE c e tv res (stsT e res loc p l) w)
theorem next_any (B c:Nat) (e:En) (tv:Value) (p:Int) (res:Ty) (w:World) (h:Sx B c e tv p res w) (hp0:-1≤p) (hp1:p≤1000000) :
    Calls Tryz.prog 52 #[.pointer (some ⟨c,0,none⟩)] w fun e' w'=>e' = .returned (.tuple #[])∧Only c w w'∧Tk c e tv (p+1) res w':=by
  obtain⟨K,⟨-,-,-,-,-,-,-,-,q8,-,-,-⟩,hfr,-⟩:=h.tk.cells
  have hf8:=hfr 8
  have HON:=hid ((Only.refl c w).cell 8 (.int .i64 (p+1)))
  have HT:=hid (show Tk c e tv (p+1) res (w.setCell ⟨c,8,none⟩ (.int .i64 (p+1))) from
    h.tk.set (p+1) res (by simp [World.setCell]) (fun k hk=>Below.heap_setCell _ _ _ _ (by simpa using hk)) (fun K hK=>by simp [World.setCell,Array.getElem?_modify,hK,Kc.cells])
      ((h.ein.keeps (((Only.refl c w).cell 8 (.int .i64 (p+1))).below h.hB h.hw)).up (by simp [World.setCell];exact h.hw)))
  clear h hfr
  go_enter Tryz.func52,Tryz.ntmps52
  go_wp2_with fail
  go_end0
  exact⟨rfl,HON.out,HT.out⟩
theorem tlist_of (l:List St) (ih:∀ a ∈ l,TS a):TL l:=by
  intro B c e tv p res loc v lv w hS hLl hI hF hL hp0 hp1
  obtain⟨lo,rfl⟩:=lc_ptr hL
  obtain⟨ao,cap,rfl,hlen,hgo⟩:=hLl.form
  obtain⟨N,hN⟩:∃ N,N=l.length:=⟨_,rfl⟩
  obtain⟨R,hR⟩:∃ R,R=stsT e res loc p l:=⟨_,rfl⟩
  rw [← hR]
  rw [← hN] at hlen hgo ⊢
  have HLI:=hid hLl
  have HIN:=hid hI
  have HFI:=hid hF
  have HIH:=hid ih
  have HG:=hid hgo
  have HN:=hid hN
  have HR:=hid hR
  have HS:=hid hS
  have HL:=hid hL
  have hB:=hS.hB
  have hw:=hS.hw
  have hP1:=hid hp1
  have hct:=hS.tk.lt
  clear hS hLl hI hF hL ih hgo hN hR hp1
  go_enter Tryz.func58,Tryz.ntmps58
  go_wp2_with fail
  go_loopw [10,2] (fun q va wr=>∃ k:Nat,k≤N∧q = .int .i64 k∧∃ (pp:Int) (loc':List Fd),Hid (R=stsT e res loc' pp (l.drop k))∧Tk c e tv pp res wr∧Lc wr va loc'∧Only c w wr ∧ -1≤pp∧Hid (pp+(St.counts (l.drop k):Int)≤1000000)) (fun q _ _=>N - (intOf q).toNat)
  case atStart=>exact⟨0,by omega,rfl,p,loc,hid HR.out,HS.out.tk,HL.out,Only.refl c w,hp0,hid hP1.out⟩
  case round =>
    obtain⟨k,hkN,rfl,pp,loc',HRR,hT,hLc,hOn,hpp0,HP⟩:=hrel
    have hBelow:=hOn.below hB hw
    have hsr:=hOn.size
    obtain⟨lo',rfl⟩:=lc_ptr hLc
    by_cases hlt2:k < N
    · have hpx:k < l.length:=by rw [← HN.out];exact hlt2
      obtain⟨g,off,rfl,hg⟩:=HG.out (by omega)
      have hat:=((HLI.out.below hBelow).at rfl k hpx).2
      have hma:=List.getElem_mem hpx
      have hdr:=List.drop_eq_getElem_cons hpx
      have hTSa:=HIH.out _ hma
      have hIa:=SIn.keeps hBelow _ (HIN.out _ hma)
      have hFa:=HFI.out _ hma
      have hRR:=HRR.out
      have hPP:=HP.out
      rw [hdr,stsT_cons] at hRR
      rw [hdr,counts_cons] at hPP
      generalize l[k] = a at *
      have hLd:=loadS_mid a hat
      have hST:=storeS_last wr a.arr (arr_size a) hIa.one
      have hb4:=below_box wr (.cells a.arr 64)
      have hSx4:=(HS.out.only hOn hT).kept hb4
      have hNX:=next_any B c e tv pp res _ hSx4 hpp0 (by omega)
      have HNX:=hid hNX
      have HSX4:=hid hSx4
      have HO4:=hid (MapKept.heap_alloc wr (.cells a.arr 64)).1
      have HOn4:=hid (hOn.more hb4)
      have HL4:=hid (hLc.below hb4)
      have HI4:=hid (SIn.keeps (hb4.mono (by omega)) _ hIa)
      have HRA:=hid hRR
      have HPP:=hid hPP
      have hgs:g < wr.heap.size:=by omega
      have hcwr:c < wr.heap.size:=hT.lt
      clear hat hma hdr hIa hRR hPP hb4 hSx4 hNX hT hLc hOn hBelow HRR HP
      go_wp2_with fail
      refine HNX.out.mono ?_;rintro e' w5 ⟨rfl,hO5,hT5⟩
      have hs5:=hO5.size
      have hSx5:=HSX4.out.only hO5 hT5
      have hL5:=HL4.out.only HSX4.out.tk hO5
      have hI5:=SIn.keeps (hO5.below hB (by simp;omega)) _ HI4.out
      have hcell5:=(hO5.block wr.heap.size (by simp) (by omega)).trans HO4.out
      have hLS5:=loadS_row (arr_size a) hcell5
      have HEX:=hid (hTSa B c e tv (pp+1) res loc' (.pointer lo') w5 hSx5 hI5 hFa hL5 (by omega) (by have:=HPP.out;omega))
      have HOn5:=hid (HOn4.out.trans hO5)
      have HT5:=hid hT5
      clear hO5 hT5 hSx5 hL5 hI5 hcell5 hTSa hFa hLd hST
      go_wp2_with fail
      refine HEX.out.mono ?_;rintro e' w6 ⟨hO6,hy,hno⟩
      cases hq:stT e res loc' (pp+1) a with
      | error q =>
        obtain rfl:=hno q hq
        exact⟨rfl,LsE.no (by rw [HRA.out,hq]) (HOn5.out.trans hO6)⟩
      | ok q =>
        obtain⟨g6,rfl,hT6,hL6⟩:=hy q hq
        have hpm:=place_mono a e res loc' (pp+1) q hq
        have HR6:=hid (show R=stsT e res q.2 q.1 (l.drop (k+1)) by rw [HRA.out,hq])
        have HOn6:=hid (HOn5.out.trans hO6)
        have HT6:=hid hT6
        have HL6:=hid hL6
        have hq1:-1≤q.1:=by omega
        have HP6:=hid (show q.1+(St.counts (l.drop (k+1)):Int)≤1000000 by have:=HPP.out;omega)
        clear hO6 hy hno hT6 hL6 hpm hq hLS5
        go_wp2_with fail
        go_roundw
        case rel=>exact⟨k+1,by omega,by go_num,q.1,q.2,HR6,HT6.out,HL6.out,HOn6.out,hq1,HP6⟩
        case measure=>simp [intOf];omega
    · have HR6:=hid (show R = .ok pp by rw [HRR.out,List.drop_eq_nil_of_le (by rw [← HN.out];omega),stsT_nil])
      have HOn6:=hid hOn
      have HT6:=hid hT
      clear hOn hT hLc hBelow HRR HP
      go_wp2_with fail
      go_end0
      exact LsE.ok HR6.out HOn6.out HT6.out
end Go.Proofs.YtdhieihcmnpneaaGreatDoor
/- What the types layer finds of any statement. -/
namespace Go.Proofs.YtdhieihcmnpneaaGreatDoor
open Lib (hid)
set_option maxRecDepth 100000
set_option maxHeartbeats 4000000
open Go.RowKit
attribute [local go_sem ↓] Go.wp_at_zero Go.wp_at_succ loadS_eq loadX_eq
def tailT (e:En) (res:Ty) (loc:List Fd) (p:Int) (b l:List St):Except (Int × Int) (Int × List Fd):=match stsT e res loc p b with
  | .error k=>.error k
  | .ok p1=>match stsT e res loc p1 l with
    | .error k=>.error k
    | .ok p2=>.ok (p2,loc)
theorem tailT_no {e:En} {res:Ty} {loc:List Fd} {p:Int} {b l:List St} {q:Int × Int} (h:stsT e res loc p b = .error q):tailT e res loc p b l = .error q:=by unfold tailT;rw [h]
theorem tailT_no2 {e:En} {res:Ty} {loc:List Fd} {p p1:Int} {b l:List St} {q:Int × Int} (h:stsT e res loc p b = .ok p1) (h2:stsT e res loc p1 l = .error q):tailT e res loc p b l = .error q:=by unfold tailT;rw [h];simp only [h2]
theorem tailT_ok {e:En} {res:Ty} {loc:List Fd} {p p1 p2:Int} {b l:List St} (h:stsT e res loc p b = .ok p1) (h2:stsT e res loc p1 l = .ok p2):tailT e res loc p b l = .ok (p2,loc):=by unfold tailT;rw [h];simp only [h2]
theorem stT_one {e:En} {res:Ty} {loc:List Fd} {p:Int} {h:Sh} {x y:X} {bv ev:Value} {b l:List St} (hk:h.k=1) :
    (∀ k,plainT e res loc h x y = .error k→stT e res loc p (.mk h x y bv ev b l) = .error (p,k))∧(∀ l',plainT e res loc h x y = .ok l'→stT e res loc p (.mk h x y bv ev b l) = .ok (p,l')):=by
  rw [stT_mk]
  refine⟨fun k hq=>by rw [hq],fun l' hq=>by rw [hq];simp only [if_pos hk]⟩
theorem plain_7 {e:En} {res:Ty} {loc:List Fd} {h:Sh} {x y:X} (hk:h.k=7):(∀ k,backT e res loc x = .error k→plainT e res loc h x y = .error k)∧(backT e res loc x = .ok ()→plainT e res loc h x y = .ok loc):=by
  unfold plainT backT
  rw [hk]
  simp only [show ¬ ((7:Int)=1) by decide,show ¬ ((7:Int)=2) by decide,show ¬ ((7:Int)=3 ∨ (7:Int)=4 ∨ (7:Int)=6) by decide,if_false,if_true]
  by_cases hx:x.hd.k=0
  · simp only [hx,if_true]
    by_cases hr:res.k=0 <;> simp [hr]
  · simp only [hx,if_false]
    cases valueT e loc x with
    | error k=>simp
    | ok t=>simp only;cases fitsT t res <;> simp
theorem plain_8 {e:En} {res:Ty} {loc:List Fd} {h:Sh} {x y:X} (hk:h.k=8):(∀ k,exprT e loc x = .error k→plainT e res loc h x y = .error k)∧(∀ t,exprT e loc x = .ok t→plainT e res loc h x y = .ok loc):=by
  unfold plainT
  rw [hk]
  simp only [show ¬ ((8:Int)=1) by decide,show ¬ ((8:Int)=2) by decide,show ¬ ((8:Int)=3 ∨ (8:Int)=4 ∨ (8:Int)=6) by decide,show ¬ ((8:Int)=7) by decide,if_false,if_true]
  cases exprT e loc x with
  | error k=>simp
  | ok t=>simp
theorem plain_3 {e:En} {res:Ty} {loc:List Fd} {h:Sh} {x y:X} (hk:h.k=3 ∨ h.k=4 ∨ h.k=6):(∀ k,valueT e loc x = .error k→plainT e res loc h x y = .error k)∧(∀ t,valueT e loc x = .ok t→plainT e res loc h x y=if t=intT then .ok loc else .error 10):=by
  unfold plainT
  rw [if_neg (by omega),if_neg (by omega),if_pos hk]
  cases valueT e loc x with
  | error k=>simp
  | ok t=>simp
theorem plain_2 {e:En} {res:Ty} {loc:List Fd} {h:Sh} {x y:X} (hk:h.k=2):(∀ k,valueT e loc x = .error k→plainT e res loc h x y = .error k)∧(∀ t,valueT e loc x = .ok t→(∀ k,valueT e loc y = .error k→plainT e res loc h x y = .error k)∧∀ u,valueT e loc y = .ok u→plainT e res loc h x y=if fitsT u t=true then .ok loc else .error 10):=by
  unfold plainT
  rw [if_neg (by omega),if_pos hk]
  cases valueT e loc x with
  | error k=>simp
  | ok t =>
    cases valueT e loc y with
    | error k=>simp
    | ok u=>simp
theorem plain_else {e:En} {res:Ty} {loc:List Fd} {h:Sh} {x y:X} (h1:¬ h.k=1) (h2:¬ h.k=2) (h3:¬ h.k=3) (h4:¬ h.k=4) (h6:¬ h.k=6) (h7:¬ h.k=7) (h8:¬ h.k=8):plainT e res loc h x y = .ok loc:=by
  unfold plainT
  simp [h1,h2,h3,h4,h6,h7,h8]
theorem plain_1 {e:En} {res:Ty} {loc:List Fd} {h:Sh} {x y:X} (hk:h.k=1):plainT e res loc h x y=(if declE e loc ⟨h.name,h.t⟩ ≠ 0 then .error (declE e loc ⟨h.name,h.t⟩)
     else if x.hd.k=0 then .ok (⟨h.name,h.t⟩ :: loc)
     else match valueT e loc x with
       | .error k=>.error k
       | .ok t=>if fitsT t h.t=true then .ok (⟨h.name,h.t⟩ :: loc) else .error 10):=by
  unfold plainT
  rw [if_pos hk] <;> rfl
theorem stT_other {e:En} {res:Ty} {loc:List Fd} {p:Int} {h:Sh} {x y:X} {bv ev:Value} {b l:List St} (hk:¬ h.k=1) :
    (∀ k,plainT e res loc h x y = .error k→stT e res loc p (.mk h x y bv ev b l) = .error (p,k))∧(∀ l',plainT e res loc h x y = .ok l'→stT e res loc p (.mk h x y bv ev b l)=tailT e res loc p b l):=by
  rw [stT_mk]
  refine⟨fun k hq=>by rw [hq],fun l' hq=>by rw [hq];simp only [if_neg hk];rfl⟩
theorem tstmt_mk (h:Sh) (x y:X) (bv ev:Value) (b l:List St) (ihb:∀ a ∈ b,TS a) (ihe:∀ a ∈ l,TS a):TS (.mk h x y bv ev b l):=by
  intro B c e tv p res loc v w hS hI hF hL hp0 hp1
  obtain⟨hk,hnm,hty⟩:=h
  have hTB:=tlist_of b ihb
  have hTE:=tlist_of l ihe
  obtain⟨ao,rfl⟩:=lc_ptr hL
  obtain⟨s,hs⟩:∃ s,s=St.mk ⟨hk,hnm,hty⟩ x y bv ev b l:=⟨_,rfl⟩
  have hXI:InW w B x:=by cases hI;assumption
  have hYI:InW w B y:=by cases hI;assumption
  have HBL:=hid (show LiesG St.cells 21 w B bv b∧∀ a ∈ b,SIn w B a by cases hI;exact⟨by assumption,by assumption⟩)
  have HEL:=hid (show LiesG St.cells 21 w B ev l∧∀ a ∈ l,SIn w B a by cases hI;exact⟨by assumption,by assumption⟩)
  obtain⟨bo,bc,ebv,-⟩:=HBL.out.1.form
  obtain⟨eo,ec,eev,-⟩:=HEL.out.1.form
  have HFX:=hid (show x.hd.k ≠ 0 ∨ hk=3 ∨ hk=4 ∨ hk=6→Fine x∧X.size x≤1024 by cases hF;assumption)
  have HFY:=hid (show hk=2→Fine y∧X.size y≤1024 by cases hF;assumption)
  have HFK:=hid (show hk=2 ∨ hk=8→x.hd.k ≠ 0 by cases hF;assumption)
  have HFB:=hid (show ∀ a ∈ b,FineS a by cases hF;assumption)
  have HFE:=hid (show ∀ a ∈ l,FineS a by cases hF;assumption)
  rw [count_mk] at hp1
  have HPB:=hid (show p+(St.counts b:Int)≤1000000 by omega)
  have HPE:=hid (show p+(St.counts b:Int)+(St.counts l:Int)≤1000000 by omega)
  obtain⟨R,hR⟩:∃ R,R=stT e res loc p (.mk ⟨hk,hnm,hty⟩ x y bv ev b l):=⟨_,rfl⟩
  rw [← hR]
  have ex:s.x=x:=by rw [hs];rfl
  have ey:s.y=y:=by rw [hs];rfl
  have eh:s.h=⟨hk,hnm,hty⟩:=by rw [hs];rfl
  have HBV:=hid (show s.bv=bv by rw [hs];rfl)
  have HEV:=hid (show s.ev=ev by rw [hs];rfl)
  have hSI:SIn w B s:=by rw [hs];exact hI
  rw [← hs]
  obtain⟨xo,xc,exs⟩:=x_slice hXI
  obtain⟨yo,yc,eys⟩:=x_slice hYI
  obtain⟨xl,hxl⟩:∃ n,n=x.args.length:=⟨_,rfl⟩
  obtain⟨yl,hyl⟩:∃ n,n=y.args.length:=⟨_,rfl⟩
  have hVX:=val_of exs
  have hVY:=val_of eys
  rw [← hxl] at hVX
  rw [← hyl] at hVY
  obtain⟨W1,hW1⟩:∃ W1,W1=w.alloc (.cells s.arr 64):=⟨_,rfl⟩
  have hb1:Below w.heap.size w W1:=by rw [hW1];exact below_box w _
  have hz1:W1.heap.size=w.heap.size+1:=by rw [hW1];simp
  have hO:W1.heap[w.heap.size]? = some (.cells s.arr 64 (0,0)):=by rw [hW1];exact (MapKept.heap_alloc _ _).1
  have hB:=hS.hB
  have hwB:=hS.hw
  have hct:=hS.tk.lt
  have HS:=hid hS
  have HS1:=hid (hS.kept hb1)
  have HL:=hid hL
  have HL1:=hid (hL.below hb1)
  have HX1:=hid ((InW.keeps (hb1.mono hwB) _ hXI).up (show B≤W1.heap.size by omega))
  have HY1:=hid ((InW.keeps (hb1.mono hwB) _ hYI).up (show B≤W1.heap.size by omega))
  have HSI1:=hid ((SIn.keeps (hb1.mono hwB) _ hSI).up (show B≤W1.heap.size by omega))
  have HB:=hid hb1
  have HO:=hid hO
  have HW:=hid hW1
  have HTB:=hid hTB
  have HTE:=hid hTE
  have HVX:=hid hVX
  have HVY:=hid hVY
  have HEX:=hid ex
  have HEY:=hid ey
  have HEH:=hid eh
  have HR:=hid hR
  obtain⟨s0,s1,s2,s3,s4,s19,s20⟩:=st_h hO
  have hLX:=st_x hO
  have hLY:=st_y hO
  have hLS:=loadS_row (arr_size s) hO
  rw [ex,hVX] at hLX
  rw [ey,hVY] at hLY
  rw [HBV.out,ebv] at s19
  rw [HEV.out,eev] at s20
  rw [eh] at s0
  obtain⟨bl,hbl⟩:∃ n,n=b.length:=⟨_,rfl⟩
  obtain⟨el,hel⟩:∃ n,n=l.length:=⟨_,rfl⟩
  rw [← hbl] at ebv s19
  rw [← hel] at eev s20
  subst ebv eev
  rw [hW1] at s0 s1 s2 s3 s4 s19 s20 hLX hLY hLS
  clear hS hI hF hL hTB hTE hXI hYI hSI hs ihb ihe hp1 hR ex ey eh exs eys hVX hVY hxl hyl hb1 hO hW1 hbl hel s1 s2 s3 s4
  by_cases k1:hk=1
  · subst k1
    have h1:=stT_one (e:=e) (res:=res) (loc:=loc) (p:=p) (h:=⟨1,hnm,hty⟩) (x:=x) (y:=y) (bv:=.slice bo bl bc) (ev:=.slice eo el ec) (b:=b) (l:=l) rfl
    rw [← HR.out] at h1
    have HV:=hid (variable_any s c e tv p res loc (.pointer ao) W1 HS1.out.tk (HSI1.out.up (by have:=HS1.out.hw;omega)) (by rw [HEX.out];exact fun q=>HFX.out (.inl q)) HL1.out)
    replace HV:=hid (show Calls Tryz.prog 97 #[.pointer (some ⟨c,0,none⟩),.agg s.arr,.pointer ao] W1 (VarE p (plainT e res loc ⟨1,hnm,hty⟩ x y) W1) by
      rw [plain_1 rfl]
      have hv:=HV.out
      rw [HEX.out,HEH.out] at hv
      exact hv)
    have H1:=hid h1
    clear h1 s19 s20 hLX hLY
    go_enter Tryz.func83,Tryz.ntmps83
    go_wp2_with fail
    rw [← HW.out]
    refine HV.out.mono ?_;rintro e' w3 ⟨hb3,hy3,hn3⟩
    cases hq:plainT e res loc ⟨1,hnm,hty⟩ x y with
    | error k =>
      obtain rfl:=hn3 k hq
      exact⟨rfl,StE.no (H1.out.1 k hq) (Only.of (HB.out.trans (hb3.mono (by omega))))⟩
    | ok l' =>
      obtain⟨g,rfl,hl⟩:=hy3 l' hq
      have HRR:=hid (H1.out.2 l' hq)
      have HB3:=hid (HB.out.trans (hb3.mono (by omega)))
      have HL3:=hid hl
      clear hb3 hy3 hn3 hq hl s0 hLS
      go_wp2_with fail
      go_ret
      exact StE.ok HRR.out (Only.of HB3.out) (HS.out.tk.kept HB3.out) HL3.out
  have j1:(hk == 1)=false:=beq_eq_false_iff_ne.2 k1
  have h1:=stT_other (e:=e) (res:=res) (loc:=loc) (p:=p) (h:=⟨hk,hnm,hty⟩) (x:=x) (y:=y) (bv:=.slice bo bl bc) (ev:=.slice eo el ec) (b:=b) (l:=l) k1
  rw [← HR.out] at h1
  have H1:=hid h1
  clear h1 HR
  by_cases k2:hk=2
  · subst k2
    have HPL:=hid (plain_2 (e:=e) (res:=res) (loc:=loc) (h:=⟨2,hnm,hty⟩) (x:=x) (y:=y) rfl)
    have hx0:=HFK.out (.inl rfl)
    have HFx:=hid (HFX.out (.inl hx0))
    have hVX2:=value_of x (expr_all x) c e tv p res loc (.pointer ao) W1 HS1.out.tk (HX1.out.up (by have:=HS1.out.hw;omega)) HFx.out.1 HFx.out.2 HL1.out
    rw [HVX.out] at hVX2
    have HVX2:=hid hVX2
    clear hx0 hVX2 hLS
    go_enter Tryz.func83,Tryz.ntmps83
    go_wp2_with fail
    rw [← HW.out]
    refine HVX2.out.mono ?_;rintro e' w3 hq
    cases hRc:valueT e loc x with
    | error k =>
      obtain⟨rfl,hb3⟩:=hq.not hRc
      exact⟨rfl,StE.no (H1.out.1 k (HPL.out.1 k hRc)) (Only.of (HB.out.trans (hb3.mono (by omega))))⟩
    | ok t =>
    obtain⟨he,hb3⟩:=hq.yes hRc
    obtain⟨ak,an,az⟩:=t
    replace he:e' = .returned (.agg #[.int .u8 ak,.string an,.int .i64 az]):=he
    subst he
    have hs3:=hb3.size
    have HRC:=hid hRc
    obtain⟨W4,hW4⟩:∃ W4,W4=w3.alloc (.cells #[.int .u8 ak,.string an,.int .i64 az] 30):=⟨_,rfl⟩
    have hb4:Below w3.heap.size w3 W4:=by rw [hW4];exact below_box w3 _
    have hz4:W4.heap.size=w3.heap.size+1:=by rw [hW4];simp
    have hT4:W4.heap[w3.heap.size]? = some (.cells #[.int .u8 ak,.string an,.int .i64 az] 30 (0,0)):=by rw [hW4];exact (MapKept.heap_alloc _ _).1
    obtain⟨t0,t1,t2⟩:=own3 hT4
    have HB4:=hid (hb3.trans (hb4.mono hs3))
    have HO4:=hid ((HB4.out.block w.heap.size (by omega)).trans HO.out)
    have HFy:=hid (HFY.out (by trivial))
    have hVY2:=value_of y (expr_all y) c e tv p res loc (.pointer ao) W4.drew (HS1.out.tk.kept HB4.out).drew ((InW.keeps ((Below.refl _ _).drew) _ (InW.keeps (HB4.out.mono (Nat.le_refl _)) _ (HY1.out.up (by have:=HS1.out.hw;omega)))).up (show W1.heap.size≤W4.drew.heap.size by show _≤W4.heap.size;omega)) HFy.out.1 HFy.out.2 (HL1.out.below HB4.out).drew
    rw [HVY.out] at hVY2
    have HVY2:=hid hVY2
    have HW4:=hid hW4
    clear hq hRc hb3 hb4 hT4 hVY2 hW4 s0 s19 s20 hLX hLY
    go_wp2_with fail
    rw [← HW4.out]
    refine wp_region_held_drew (S:=SameTo (W4.heap.size) W4) (by kernel_rfl) (SameTo.drew _ _) (fun hSw=>?_)
    refine wt (i:=0) (oi:={ dst:=some 23,op:=Op.move (Operand.tmp 0),type:=73,pos := "check.go:132", after:=#[],guard:=none }) (v:=.pointer (some ⟨c,0,none⟩)) (fun W hW=>?_) hSw ?_
    · first|(go_simp;done)|rfl
    try simp only [Act.put,q1,q2,q3]
    refine wt (i:=1) (oi:={ dst:=some 24,op:=Op.move (Operand.tmp 0),type:=73,pos := "check.go:132", after:=#[],guard:=none }) (v:=.pointer (some ⟨c,0,none⟩)) (fun W hW=>?_) hSw ?_
    · first|(go_simp;done)|rfl
    try simp only [Act.put,q1,q2,q3]
    refine wt (i:=2) (oi:={ dst:=some 25,op:=Op.fieldAddr 64 (Operand.tmp 4) 4,type:=0,pos := "check.go:132", after:=#[],guard:=none }) (v:=.pointer (some ⟨w.heap.size,12,none⟩)) (fun W hW=>?_) hSw ?_
    · first|(go_simp;done)|rfl
    try simp only [Act.put,q1,q2,q3]
    refine wt (i:=3) (oi:={ dst:=some 26,op:=Op.load 62 (Operand.tmp 25),type:=62,pos := "check.go:132", after:=#[gd 2],guard:=none }) (v:=.agg #[.int .u8 y.hd.k,.int .i64 y.hd.n,.string y.hd.name,.int .u8 y.hd.tk,.string y.hd.tn,.int .i64 y.hd.tz,.slice yo yl yc]) (fun W hW=>?_) hSw ?_
    · have hLY:=st_y ((hW _ (by omega)).trans HO4.out)
      rw [HEY.out,HVY.out] at hLY
      first|(go_simp;done)|rfl
    try simp only [Act.put,q1,q2,q3]
    refine wt (i:=4) (oi:={ dst:=some 27,op:=Op.move (Operand.tmp 2),type:=148,pos := "check.go:132", after:=#[],guard:=none }) (v:=.pointer ao) (fun W hW=>?_) hSw ?_
    · first|(go_simp;done)|rfl
    try simp only [Act.put,q1,q2,q3]
    refine wt (i:=6) (oi:={ dst:=some 29,op:=Op.load 30 (Operand.tmp 7),type:=30,pos := "check.go:132", after:=#[],guard:=none }) (v:=.agg #[.int .u8 ak,.string an,.int .i64 az]) (fun W hW=>?_) hSw ?_
    · have t0:=hW.cell (by dsimp only;omega) t0
      have t1:=hW.cell (by dsimp only;omega) t1
      have t2:=hW.cell (by dsimp only;omega) t2
      first|(go_simp;done)|rfl
    try simp only [Act.put,q1,q2,q3]
    refine wpAnyH_ready (rs:=[5]) (by kernel_rfl) (by simp) ?_
    refine AllReadyH.cons (o:={ dst:=some 28,op:=Op.call { callee:=Callee.value (Operand.func 98),args:=#[Operand.tmp 24,Operand.tmp 26,Operand.tmp 27],argTypes:=#[73,62,148] },type:=30,pos := "check.go:132", after:=#[gd 1,gd 3,gd 4],guard:=none }) rfl (fun K hK=>?_) AllReadyH.nil
    rw [if_pos (by rfl)]
    clear hSw
    go_simp
    refine HVY2.out.mono ?_;rintro e' w5 hq
    cases hRc:valueT e loc y with
    | error k =>
      obtain⟨rfl,hb5⟩:=hq.not hRc
      exact⟨rfl,StE.no (H1.out.1 k ((HPL.out.2 _ HRC.out).1 k hRc)) (Only.of (HB.out.trans ((HB4.out.trans ((below_tape hb5).mono (show W1.heap.size≤W4.heap.size by omega))).mono (by omega))))⟩
    | ok u =>
    obtain⟨he,hb5⟩:=hq.yes hRc
    obtain⟨bk,bn,bz⟩:=u
    replace he:e' = .returned (.agg #[.int .u8 bk,.string bn,.int .i64 bz]):=he
    subst he
    replace hb5:Below W4.heap.size W4 w5:=below_tape hb5
    have hs5:=hb5.size
    have HRC2:=hid hRc
    have HB5:=hid (HB4.out.trans (hb5.mono (by omega)))
    have HS5:=hid (SameTo.of hb5)
    have HFT:=hid (fit_any c e tv p res ⟨bk,bn,bz⟩ ⟨ak,an,az⟩ w5 ((HS1.out.tk.kept HB4.out).kept hb5))
    clear hb5 hq hRc
    refine hK.out _ _ (HS5.out) (fun hSw=>?_)
    clear hK K
    try simp only [Act.put,q1,q2,q3]
    refine wpAnyH_ready (rs:=[7]) (by kernel_rfl) (by simp) ?_
    refine AllReadyH.cons (o:={ dst:=some 30,op:=Op.call { callee:=Callee.value (Operand.func 99),args:=#[Operand.tmp 23,Operand.tmp 28,Operand.tmp 29],argTypes:=#[73,30,30] },type:=0,pos := "check.go:132", after:=#[gd 0,gd 5,gd 6,gc 5],guard:=none }) rfl (fun K hK=>?_) AllReadyH.nil
    rw [if_pos (by rfl)]
    clear hSw
    go_simp
    refine HFT.out.mono ?_;rintro e' w6 ⟨he,hb6⟩
    have hs6:=hb6.size
    have HBX:=hid (HB5.out.trans (hb6.mono (by omega)))
    have HS6:=hid (HS5.out.trans (SameTo.of (hb6.mono (by omega))))
    clear hb6
    by_cases hft:fitsT ⟨bk,bn,bz⟩ ⟨ak,an,az⟩ = true
    rotate_left
    · rw [if_neg hft,askE_no (by decide)] at he
      subst he
      exact⟨rfl,StE.no (H1.out.1 10 (((HPL.out.2 _ HRC.out).2 _ HRC2.out).trans (if_neg hft))) (Only.of (HB.out.trans (HBX.out.mono (by omega))))⟩
    rw [if_pos hft,askE_0 rfl] at he
    subst he
    have HRT:=hid (H1.out.2 loc (((HPL.out.2 _ HRC.out).2 _ HRC2.out).trans (if_pos hft)))
    clear hft
    refine hK.out _ _ (HS6.out) (fun hSw=>?_)
    clear hK K
    try simp only [Act.put,q1,q2,q3]
    refine wpAnyH_done (by kernel_rfl) ?_ _
    have hOT:=(HBX.out.block w.heap.size (by omega)).trans HO.out
    have HOT:=hid hOT
    have HBT:=hid (HB.out.trans (HBX.out.mono (by omega)))
    have HST:=hid (HS.out.kept HBT.out)
    have HLT:=hid (HL.out.below HBT.out)
    clear t0 t1 t2
    obtain⟨-,-,-,-,-,s19,s20⟩:=st_h hOT
    rw [HBV.out] at s19
    rw [HEV.out] at s20
    clear hOT
    go_wp2_with fail
    refine (HTB.out B c e tv p res loc (.pointer ao) (.slice bo bl bc) w6 HST.out (HBL.out.1.below (HBT.out.mono hwB)) (fun a ha=>SIn.keeps (HBT.out.mono hwB) _ (HBL.out.2 a ha)) HFB.out HLT.out hp0 HPB.out).mono ?_;rintro e' w8 ⟨hO8,hy8,hn8⟩
    cases hq8:stsT e res loc p b with
    | error q =>
      obtain rfl:=hn8 q hq8
      exact⟨rfl,StE.no (HRT.out.trans (tailT_no hq8)) ((Only.of HBT.out).trans hO8)⟩
    | ok p1 =>
    obtain⟨rfl,hT8⟩:=hy8 p1 hq8
    have hs8:=hO8.size
    have hpm:=places_mono b e res loc p p1 hq8
    have HOn8:=hid ((Only.of HBT.out).trans hO8)
    have HS8:=hid (HST.out.only hO8 hT8)
    have HL8:=hid (HLT.out.only HST.out.tk hO8)
    have hO8b:=(hO8.block w.heap.size (by omega) (by omega)).trans HOT.out
    have HO8:=hid hO8b
    have HQ8:=hid hq8
    have hp1:-1≤p1:=by omega
    have HP8:=hid (show p1+(St.counts l:Int)≤1000000 by have:=HPE.out;omega)
    clear hO8 hy8 hn8 hT8 hq8 hpm s19 s20
    obtain⟨-,-,-,-,-,-,s20⟩:=st_h hO8b
    rw [HEV.out] at s20
    clear hO8b
    go_wp2_with fail
    refine (HTE.out B c e tv p1 res loc (.pointer ao) (.slice eo el ec) w8 HS8.out (HEL.out.1.below (HOn8.out.below hB hwB)) (fun a ha=>SIn.keeps (HOn8.out.below hB hwB) _ (HEL.out.2 a ha)) HFE.out HL8.out hp1 HP8.out).mono ?_;rintro e' w9 ⟨hO9,hy9,hn9⟩
    cases hq9:stsT e res loc p1 l with
    | error q =>
      obtain rfl:=hn9 q hq9
      exact⟨rfl,StE.no (HRT.out.trans (tailT_no2 HQ8.out hq9)) (HOn8.out.trans hO9)⟩
    | ok p2 =>
    obtain⟨rfl,hT9⟩:=hy9 p2 hq9
    have HR9:=hid (HRT.out.trans (tailT_ok HQ8.out hq9))
    have HOn9:=hid (HOn8.out.trans hO9)
    have HT9:=hid hT9
    have HL9:=hid (HL8.out.only HS8.out.tk hO9)
    clear hO9 hy9 hn9 hT9 hq9 s20
    go_wp2_with fail
    go_ret
    exact StE.ok HR9.out HOn9.out HT9.out HL9.out
  have j2:(hk == 2)=false:=beq_eq_false_iff_ne.2 k2
  by_cases k3:hk=3
  · subst k3
    have HPL:=hid (plain_3 (e:=e) (res:=res) (loc:=loc) (h:=⟨3,hnm,hty⟩) (x:=x) (y:=y) (by simp))
    have HFx:=hid (HFX.out (by simp))
    have hVX2:=value_of x (expr_all x) c e tv p res loc (.pointer ao) W1 HS1.out.tk (HX1.out.up (by have:=HS1.out.hw;omega)) HFx.out.1 HFx.out.2 HL1.out
    rw [HVX.out] at hVX2
    have HVX2:=hid hVX2
    clear hVX2 hLS
    go_enter Tryz.func83,Tryz.ntmps83
    go_wp2_with fail
    rw [← HW.out]
    refine HVX2.out.mono ?_;rintro e' w3 hq
    cases hRc:valueT e loc x with
    | error k =>
      obtain⟨rfl,hb3⟩:=hq.not hRc
      exact⟨rfl,StE.no (H1.out.1 k (HPL.out.1 k hRc)) (Only.of (HB.out.trans (hb3.mono (by omega))))⟩
    | ok t =>
    obtain⟨he,hb3⟩:=hq.yes hRc
    obtain⟨ak,an,az⟩:=t
    replace he:e' = .returned (.agg #[.int .u8 ak,.string an,.int .i64 az]):=he
    subst he
    have hs3:=hb3.size
    have HRC:=hid hRc
    have HB3:=hid hb3
    have HNU:=hid (number_any c e tv p res ⟨ak,an,az⟩ w3 (HS1.out.tk.kept hb3))
    clear hq hRc hb3 s0 s19 s20 hLX hLY
    go_wp2_with fail
    refine HNU.out.mono ?_;rintro e' w6 ⟨he,hb6⟩
    have hs6:=hb6.size
    have HBX:=hid (HB3.out.trans (hb6.mono hs3))
    clear hb6
    by_cases hti:(⟨ak,an,az⟩:Ty)=intT
    rotate_left
    · rw [if_neg hti,askE_no (by decide)] at he
      subst he
      exact⟨rfl,StE.no (H1.out.1 10 ((HPL.out.2 _ HRC.out).trans (if_neg hti))) (Only.of (HB.out.trans (HBX.out.mono (by omega))))⟩
    rw [if_pos hti,askE_0 rfl] at he
    subst he
    have HRT:=hid (H1.out.2 loc ((HPL.out.2 _ HRC.out).trans (if_pos hti)))
    clear hti
    have hOT:=(HBX.out.block w.heap.size (by omega)).trans HO.out
    have HOT:=hid hOT
    have HBT:=hid (HB.out.trans (HBX.out.mono (by omega)))
    have HST:=hid (HS.out.kept HBT.out)
    have HLT:=hid (HL.out.below HBT.out)
    clear HB3
    obtain⟨-,-,-,-,-,s19,s20⟩:=st_h hOT
    rw [HBV.out] at s19
    rw [HEV.out] at s20
    clear hOT
    go_wp2_with fail
    refine (HTB.out B c e tv p res loc (.pointer ao) (.slice bo bl bc) w6 HST.out (HBL.out.1.below (HBT.out.mono hwB)) (fun a ha=>SIn.keeps (HBT.out.mono hwB) _ (HBL.out.2 a ha)) HFB.out HLT.out hp0 HPB.out).mono ?_;rintro e' w8 ⟨hO8,hy8,hn8⟩
    cases hq8:stsT e res loc p b with
    | error q =>
      obtain rfl:=hn8 q hq8
      exact⟨rfl,StE.no (HRT.out.trans (tailT_no hq8)) ((Only.of HBT.out).trans hO8)⟩
    | ok p1 =>
    obtain⟨rfl,hT8⟩:=hy8 p1 hq8
    have hs8:=hO8.size
    have hpm:=places_mono b e res loc p p1 hq8
    have HOn8:=hid ((Only.of HBT.out).trans hO8)
    have HS8:=hid (HST.out.only hO8 hT8)
    have HL8:=hid (HLT.out.only HST.out.tk hO8)
    have hO8b:=(hO8.block w.heap.size (by omega) (by omega)).trans HOT.out
    have HO8:=hid hO8b
    have HQ8:=hid hq8
    have hp1:-1≤p1:=by omega
    have HP8:=hid (show p1+(St.counts l:Int)≤1000000 by have:=HPE.out;omega)
    clear hO8 hy8 hn8 hT8 hq8 hpm s19 s20
    obtain⟨-,-,-,-,-,-,s20⟩:=st_h hO8b
    rw [HEV.out] at s20
    clear hO8b
    go_wp2_with fail
    refine (HTE.out B c e tv p1 res loc (.pointer ao) (.slice eo el ec) w8 HS8.out (HEL.out.1.below (HOn8.out.below hB hwB)) (fun a ha=>SIn.keeps (HOn8.out.below hB hwB) _ (HEL.out.2 a ha)) HFE.out HL8.out hp1 HP8.out).mono ?_;rintro e' w9 ⟨hO9,hy9,hn9⟩
    cases hq9:stsT e res loc p1 l with
    | error q =>
      obtain rfl:=hn9 q hq9
      exact⟨rfl,StE.no (HRT.out.trans (tailT_no2 HQ8.out hq9)) (HOn8.out.trans hO9)⟩
    | ok p2 =>
    obtain⟨rfl,hT9⟩:=hy9 p2 hq9
    have HR9:=hid (HRT.out.trans (tailT_ok HQ8.out hq9))
    have HOn9:=hid (HOn8.out.trans hO9)
    have HT9:=hid hT9
    have HL9:=hid (HL8.out.only HS8.out.tk hO9)
    clear hO9 hy9 hn9 hT9 hq9 s20
    go_wp2_with fail
    go_ret
    exact StE.ok HR9.out HOn9.out HT9.out HL9.out
  have j3:(hk == 3)=false:=beq_eq_false_iff_ne.2 k3
  by_cases k4:hk=4
  · subst k4
    have HPL:=hid (plain_3 (e:=e) (res:=res) (loc:=loc) (h:=⟨4,hnm,hty⟩) (x:=x) (y:=y) (by simp))
    have HFx:=hid (HFX.out (by simp))
    have hVX2:=value_of x (expr_all x) c e tv p res loc (.pointer ao) W1 HS1.out.tk (HX1.out.up (by have:=HS1.out.hw;omega)) HFx.out.1 HFx.out.2 HL1.out
    rw [HVX.out] at hVX2
    have HVX2:=hid hVX2
    clear hVX2 hLS
    go_enter Tryz.func83,Tryz.ntmps83
    go_wp2_with fail
    rw [← HW.out]
    refine HVX2.out.mono ?_;rintro e' w3 hq
    cases hRc:valueT e loc x with
    | error k =>
      obtain⟨rfl,hb3⟩:=hq.not hRc
      exact⟨rfl,StE.no (H1.out.1 k (HPL.out.1 k hRc)) (Only.of (HB.out.trans (hb3.mono (by omega))))⟩
    | ok t =>
    obtain⟨he,hb3⟩:=hq.yes hRc
    obtain⟨ak,an,az⟩:=t
    replace he:e' = .returned (.agg #[.int .u8 ak,.string an,.int .i64 az]):=he
    subst he
    have hs3:=hb3.size
    have HRC:=hid hRc
    have HB3:=hid hb3
    have HNU:=hid (number_any c e tv p res ⟨ak,an,az⟩ w3 (HS1.out.tk.kept hb3))
    clear hq hRc hb3 s0 s19 s20 hLX hLY
    go_wp2_with fail
    refine HNU.out.mono ?_;rintro e' w6 ⟨he,hb6⟩
    have hs6:=hb6.size
    have HBX:=hid (HB3.out.trans (hb6.mono hs3))
    clear hb6
    by_cases hti:(⟨ak,an,az⟩:Ty)=intT
    rotate_left
    · rw [if_neg hti,askE_no (by decide)] at he
      subst he
      exact⟨rfl,StE.no (H1.out.1 10 ((HPL.out.2 _ HRC.out).trans (if_neg hti))) (Only.of (HB.out.trans (HBX.out.mono (by omega))))⟩
    rw [if_pos hti,askE_0 rfl] at he
    subst he
    have HRT:=hid (H1.out.2 loc ((HPL.out.2 _ HRC.out).trans (if_pos hti)))
    clear hti
    have hOT:=(HBX.out.block w.heap.size (by omega)).trans HO.out
    have HOT:=hid hOT
    have HBT:=hid (HB.out.trans (HBX.out.mono (by omega)))
    have HST:=hid (HS.out.kept HBT.out)
    have HLT:=hid (HL.out.below HBT.out)
    clear HB3
    obtain⟨-,-,-,-,-,s19,s20⟩:=st_h hOT
    rw [HBV.out] at s19
    rw [HEV.out] at s20
    clear hOT
    go_wp2_with fail
    refine (HTB.out B c e tv p res loc (.pointer ao) (.slice bo bl bc) w6 HST.out (HBL.out.1.below (HBT.out.mono hwB)) (fun a ha=>SIn.keeps (HBT.out.mono hwB) _ (HBL.out.2 a ha)) HFB.out HLT.out hp0 HPB.out).mono ?_;rintro e' w8 ⟨hO8,hy8,hn8⟩
    cases hq8:stsT e res loc p b with
    | error q =>
      obtain rfl:=hn8 q hq8
      exact⟨rfl,StE.no (HRT.out.trans (tailT_no hq8)) ((Only.of HBT.out).trans hO8)⟩
    | ok p1 =>
    obtain⟨rfl,hT8⟩:=hy8 p1 hq8
    have hs8:=hO8.size
    have hpm:=places_mono b e res loc p p1 hq8
    have HOn8:=hid ((Only.of HBT.out).trans hO8)
    have HS8:=hid (HST.out.only hO8 hT8)
    have HL8:=hid (HLT.out.only HST.out.tk hO8)
    have hO8b:=(hO8.block w.heap.size (by omega) (by omega)).trans HOT.out
    have HO8:=hid hO8b
    have HQ8:=hid hq8
    have hp1:-1≤p1:=by omega
    have HP8:=hid (show p1+(St.counts l:Int)≤1000000 by have:=HPE.out;omega)
    clear hO8 hy8 hn8 hT8 hq8 hpm s19 s20
    obtain⟨-,-,-,-,-,-,s20⟩:=st_h hO8b
    rw [HEV.out] at s20
    clear hO8b
    go_wp2_with fail
    refine (HTE.out B c e tv p1 res loc (.pointer ao) (.slice eo el ec) w8 HS8.out (HEL.out.1.below (HOn8.out.below hB hwB)) (fun a ha=>SIn.keeps (HOn8.out.below hB hwB) _ (HEL.out.2 a ha)) HFE.out HL8.out hp1 HP8.out).mono ?_;rintro e' w9 ⟨hO9,hy9,hn9⟩
    cases hq9:stsT e res loc p1 l with
    | error q =>
      obtain rfl:=hn9 q hq9
      exact⟨rfl,StE.no (HRT.out.trans (tailT_no2 HQ8.out hq9)) (HOn8.out.trans hO9)⟩
    | ok p2 =>
    obtain⟨rfl,hT9⟩:=hy9 p2 hq9
    have HR9:=hid (HRT.out.trans (tailT_ok HQ8.out hq9))
    have HOn9:=hid (HOn8.out.trans hO9)
    have HT9:=hid hT9
    have HL9:=hid (HL8.out.only HS8.out.tk hO9)
    clear hO9 hy9 hn9 hT9 hq9 s20
    go_wp2_with fail
    go_ret
    exact StE.ok HR9.out HOn9.out HT9.out HL9.out
  have j4:(hk == 4)=false:=beq_eq_false_iff_ne.2 k4
  by_cases k6:hk=6
  · subst k6
    have HPL:=hid (plain_3 (e:=e) (res:=res) (loc:=loc) (h:=⟨6,hnm,hty⟩) (x:=x) (y:=y) (by simp))
    have HFx:=hid (HFX.out (by simp))
    have hVX2:=value_of x (expr_all x) c e tv p res loc (.pointer ao) W1 HS1.out.tk (HX1.out.up (by have:=HS1.out.hw;omega)) HFx.out.1 HFx.out.2 HL1.out
    rw [HVX.out] at hVX2
    have HVX2:=hid hVX2
    clear hVX2 hLS
    go_enter Tryz.func83,Tryz.ntmps83
    go_wp2_with fail
    rw [← HW.out]
    refine HVX2.out.mono ?_;rintro e' w3 hq
    cases hRc:valueT e loc x with
    | error k =>
      obtain⟨rfl,hb3⟩:=hq.not hRc
      exact⟨rfl,StE.no (H1.out.1 k (HPL.out.1 k hRc)) (Only.of (HB.out.trans (hb3.mono (by omega))))⟩
    | ok t =>
    obtain⟨he,hb3⟩:=hq.yes hRc
    obtain⟨ak,an,az⟩:=t
    replace he:e' = .returned (.agg #[.int .u8 ak,.string an,.int .i64 az]):=he
    subst he
    have hs3:=hb3.size
    have HRC:=hid hRc
    have HB3:=hid hb3
    have HNU:=hid (number_any c e tv p res ⟨ak,an,az⟩ w3 (HS1.out.tk.kept hb3))
    clear hq hRc hb3 s0 s19 s20 hLX hLY
    go_wp2_with fail
    refine HNU.out.mono ?_;rintro e' w6 ⟨he,hb6⟩
    have hs6:=hb6.size
    have HBX:=hid (HB3.out.trans (hb6.mono hs3))
    clear hb6
    by_cases hti:(⟨ak,an,az⟩:Ty)=intT
    rotate_left
    · rw [if_neg hti,askE_no (by decide)] at he
      subst he
      exact⟨rfl,StE.no (H1.out.1 10 ((HPL.out.2 _ HRC.out).trans (if_neg hti))) (Only.of (HB.out.trans (HBX.out.mono (by omega))))⟩
    rw [if_pos hti,askE_0 rfl] at he
    subst he
    have HRT:=hid (H1.out.2 loc ((HPL.out.2 _ HRC.out).trans (if_pos hti)))
    clear hti
    have hOT:=(HBX.out.block w.heap.size (by omega)).trans HO.out
    have HOT:=hid hOT
    have HBT:=hid (HB.out.trans (HBX.out.mono (by omega)))
    have HST:=hid (HS.out.kept HBT.out)
    have HLT:=hid (HL.out.below HBT.out)
    clear HB3
    obtain⟨-,-,-,-,-,s19,s20⟩:=st_h hOT
    rw [HBV.out] at s19
    rw [HEV.out] at s20
    clear hOT
    go_wp2_with fail
    refine (HTB.out B c e tv p res loc (.pointer ao) (.slice bo bl bc) w6 HST.out (HBL.out.1.below (HBT.out.mono hwB)) (fun a ha=>SIn.keeps (HBT.out.mono hwB) _ (HBL.out.2 a ha)) HFB.out HLT.out hp0 HPB.out).mono ?_;rintro e' w8 ⟨hO8,hy8,hn8⟩
    cases hq8:stsT e res loc p b with
    | error q =>
      obtain rfl:=hn8 q hq8
      exact⟨rfl,StE.no (HRT.out.trans (tailT_no hq8)) ((Only.of HBT.out).trans hO8)⟩
    | ok p1 =>
    obtain⟨rfl,hT8⟩:=hy8 p1 hq8
    have hs8:=hO8.size
    have hpm:=places_mono b e res loc p p1 hq8
    have HOn8:=hid ((Only.of HBT.out).trans hO8)
    have HS8:=hid (HST.out.only hO8 hT8)
    have HL8:=hid (HLT.out.only HST.out.tk hO8)
    have hO8b:=(hO8.block w.heap.size (by omega) (by omega)).trans HOT.out
    have HO8:=hid hO8b
    have HQ8:=hid hq8
    have hp1:-1≤p1:=by omega
    have HP8:=hid (show p1+(St.counts l:Int)≤1000000 by have:=HPE.out;omega)
    clear hO8 hy8 hn8 hT8 hq8 hpm s19 s20
    obtain⟨-,-,-,-,-,-,s20⟩:=st_h hO8b
    rw [HEV.out] at s20
    clear hO8b
    go_wp2_with fail
    refine (HTE.out B c e tv p1 res loc (.pointer ao) (.slice eo el ec) w8 HS8.out (HEL.out.1.below (HOn8.out.below hB hwB)) (fun a ha=>SIn.keeps (HOn8.out.below hB hwB) _ (HEL.out.2 a ha)) HFE.out HL8.out hp1 HP8.out).mono ?_;rintro e' w9 ⟨hO9,hy9,hn9⟩
    cases hq9:stsT e res loc p1 l with
    | error q =>
      obtain rfl:=hn9 q hq9
      exact⟨rfl,StE.no (HRT.out.trans (tailT_no2 HQ8.out hq9)) (HOn8.out.trans hO9)⟩
    | ok p2 =>
    obtain⟨rfl,hT9⟩:=hy9 p2 hq9
    have HR9:=hid (HRT.out.trans (tailT_ok HQ8.out hq9))
    have HOn9:=hid (HOn8.out.trans hO9)
    have HT9:=hid hT9
    have HL9:=hid (HL8.out.only HS8.out.tk hO9)
    clear hO9 hy9 hn9 hT9 hq9 s20
    go_wp2_with fail
    go_ret
    exact StE.ok HR9.out HOn9.out HT9.out HL9.out
  have j6:(hk == 6)=false:=beq_eq_false_iff_ne.2 k6
  by_cases k7:hk=7
  · subst k7
    have HPL:=hid (plain_7 (e:=e) (res:=res) (loc:=loc) (h:=⟨7,hnm,hty⟩) (x:=x) (y:=y) rfl)
    have hBK:=back_any x c e tv p res loc (.pointer ao) W1 HS1.out.tk (HX1.out.up (by have:=HS1.out.hw;omega)) (fun q=>HFX.out (.inl q)) HL1.out
    rw [HVX.out] at hBK
    have HBK:=hid hBK
    clear hBK hLS
    go_enter Tryz.func83,Tryz.ntmps83
    go_wp2_with fail
    rw [← HW.out]
    refine HBK.out.mono ?_;rintro e' w6 ⟨hb6,hy6,hn6⟩
    have hs6:=hb6.size
    have HBX:=hid hb6
    cases hRc:backT e res loc x with
    | error k =>
      obtain rfl:=hn6 k hRc
      exact⟨rfl,StE.no (H1.out.1 k (HPL.out.1 k hRc)) (Only.of (HB.out.trans (HBX.out.mono (by omega))))⟩
    | ok u =>
    obtain rfl:=hy6 hRc
    have HRT:=hid (H1.out.2 loc (HPL.out.2 hRc))
    clear hb6 hy6 hn6 hRc
    have hOT:=(HBX.out.block w.heap.size (by omega)).trans HO.out
    have HOT:=hid hOT
    have HBT:=hid (HB.out.trans (HBX.out.mono (by omega)))
    have HST:=hid (HS.out.kept HBT.out)
    have HLT:=hid (HL.out.below HBT.out)
    clear s0 s19 s20 hLX hLY
    obtain⟨-,-,-,-,-,s19,s20⟩:=st_h hOT
    rw [HBV.out] at s19
    rw [HEV.out] at s20
    clear hOT
    go_wp2_with fail
    refine (HTB.out B c e tv p res loc (.pointer ao) (.slice bo bl bc) w6 HST.out (HBL.out.1.below (HBT.out.mono hwB)) (fun a ha=>SIn.keeps (HBT.out.mono hwB) _ (HBL.out.2 a ha)) HFB.out HLT.out hp0 HPB.out).mono ?_;rintro e' w8 ⟨hO8,hy8,hn8⟩
    cases hq8:stsT e res loc p b with
    | error q =>
      obtain rfl:=hn8 q hq8
      exact⟨rfl,StE.no (HRT.out.trans (tailT_no hq8)) ((Only.of HBT.out).trans hO8)⟩
    | ok p1 =>
    obtain⟨rfl,hT8⟩:=hy8 p1 hq8
    have hs8:=hO8.size
    have hpm:=places_mono b e res loc p p1 hq8
    have HOn8:=hid ((Only.of HBT.out).trans hO8)
    have HS8:=hid (HST.out.only hO8 hT8)
    have HL8:=hid (HLT.out.only HST.out.tk hO8)
    have hO8b:=(hO8.block w.heap.size (by omega) (by omega)).trans HOT.out
    have HO8:=hid hO8b
    have HQ8:=hid hq8
    have hp1:-1≤p1:=by omega
    have HP8:=hid (show p1+(St.counts l:Int)≤1000000 by have:=HPE.out;omega)
    clear hO8 hy8 hn8 hT8 hq8 hpm s19 s20
    obtain⟨-,-,-,-,-,-,s20⟩:=st_h hO8b
    rw [HEV.out] at s20
    clear hO8b
    go_wp2_with fail
    refine (HTE.out B c e tv p1 res loc (.pointer ao) (.slice eo el ec) w8 HS8.out (HEL.out.1.below (HOn8.out.below hB hwB)) (fun a ha=>SIn.keeps (HOn8.out.below hB hwB) _ (HEL.out.2 a ha)) HFE.out HL8.out hp1 HP8.out).mono ?_;rintro e' w9 ⟨hO9,hy9,hn9⟩
    cases hq9:stsT e res loc p1 l with
    | error q =>
      obtain rfl:=hn9 q hq9
      exact⟨rfl,StE.no (HRT.out.trans (tailT_no2 HQ8.out hq9)) (HOn8.out.trans hO9)⟩
    | ok p2 =>
    obtain⟨rfl,hT9⟩:=hy9 p2 hq9
    have HR9:=hid (HRT.out.trans (tailT_ok HQ8.out hq9))
    have HOn9:=hid (HOn8.out.trans hO9)
    have HT9:=hid hT9
    have HL9:=hid (HL8.out.only HS8.out.tk hO9)
    clear hO9 hy9 hn9 hT9 hq9 s20
    go_wp2_with fail
    go_ret
    exact StE.ok HR9.out HOn9.out HT9.out HL9.out
  have j7:(hk == 7)=false:=beq_eq_false_iff_ne.2 k7
  by_cases k8:hk=8
  · subst k8
    have HPL:=hid (plain_8 (e:=e) (res:=res) (loc:=loc) (h:=⟨8,hnm,hty⟩) (x:=x) (y:=y) rfl)
    have hx0:=HFK.out (.inr rfl)
    have HFx:=hid (HFX.out (.inl hx0))
    have hEXP:=expr_all x c e tv p res loc (.pointer ao) W1 HS1.out.tk (HX1.out.up (by have:=HS1.out.hw;omega)) HFx.out.1 HFx.out.2 HL1.out
    rw [HVX.out] at hEXP
    have HEXP:=hid hEXP
    clear hx0 hEXP hLS
    go_enter Tryz.func83,Tryz.ntmps83
    go_wp2_with fail
    rw [← HW.out]
    refine HEXP.out.mono ?_;rintro e' w6 hq
    cases hRc:exprT e loc x with
    | error k =>
      obtain⟨rfl,hb6⟩:=hq.not hRc
      exact⟨rfl,StE.no (H1.out.1 k (HPL.out.1 k hRc)) (Only.of (HB.out.trans (hb6.mono (by omega))))⟩
    | ok t =>
    obtain⟨rfl,hb6⟩:=hq.yes hRc
    have hs6:=hb6.size
    have HBX:=hid hb6
    have HRT:=hid (H1.out.2 loc (HPL.out.2 t hRc))
    clear hq hb6 hRc
    have hOT:=(HBX.out.block w.heap.size (by omega)).trans HO.out
    have HOT:=hid hOT
    have HBT:=hid (HB.out.trans (HBX.out.mono (by omega)))
    have HST:=hid (HS.out.kept HBT.out)
    have HLT:=hid (HL.out.below HBT.out)
    clear s0 s19 s20 hLX hLY
    obtain⟨-,-,-,-,-,s19,s20⟩:=st_h hOT
    rw [HBV.out] at s19
    rw [HEV.out] at s20
    clear hOT
    go_wp2_with fail
    refine (HTB.out B c e tv p res loc (.pointer ao) (.slice bo bl bc) w6 HST.out (HBL.out.1.below (HBT.out.mono hwB)) (fun a ha=>SIn.keeps (HBT.out.mono hwB) _ (HBL.out.2 a ha)) HFB.out HLT.out hp0 HPB.out).mono ?_;rintro e' w8 ⟨hO8,hy8,hn8⟩
    cases hq8:stsT e res loc p b with
    | error q =>
      obtain rfl:=hn8 q hq8
      exact⟨rfl,StE.no (HRT.out.trans (tailT_no hq8)) ((Only.of HBT.out).trans hO8)⟩
    | ok p1 =>
    obtain⟨rfl,hT8⟩:=hy8 p1 hq8
    have hs8:=hO8.size
    have hpm:=places_mono b e res loc p p1 hq8
    have HOn8:=hid ((Only.of HBT.out).trans hO8)
    have HS8:=hid (HST.out.only hO8 hT8)
    have HL8:=hid (HLT.out.only HST.out.tk hO8)
    have hO8b:=(hO8.block w.heap.size (by omega) (by omega)).trans HOT.out
    have HO8:=hid hO8b
    have HQ8:=hid hq8
    have hp1:-1≤p1:=by omega
    have HP8:=hid (show p1+(St.counts l:Int)≤1000000 by have:=HPE.out;omega)
    clear hO8 hy8 hn8 hT8 hq8 hpm s19 s20
    obtain⟨-,-,-,-,-,-,s20⟩:=st_h hO8b
    rw [HEV.out] at s20
    clear hO8b
    go_wp2_with fail
    refine (HTE.out B c e tv p1 res loc (.pointer ao) (.slice eo el ec) w8 HS8.out (HEL.out.1.below (HOn8.out.below hB hwB)) (fun a ha=>SIn.keeps (HOn8.out.below hB hwB) _ (HEL.out.2 a ha)) HFE.out HL8.out hp1 HP8.out).mono ?_;rintro e' w9 ⟨hO9,hy9,hn9⟩
    cases hq9:stsT e res loc p1 l with
    | error q =>
      obtain rfl:=hn9 q hq9
      exact⟨rfl,StE.no (HRT.out.trans (tailT_no2 HQ8.out hq9)) (HOn8.out.trans hO9)⟩
    | ok p2 =>
    obtain⟨rfl,hT9⟩:=hy9 p2 hq9
    have HR9:=hid (HRT.out.trans (tailT_ok HQ8.out hq9))
    have HOn9:=hid (HOn8.out.trans hO9)
    have HT9:=hid hT9
    have HL9:=hid (HL8.out.only HS8.out.tk hO9)
    clear hO9 hy9 hn9 hT9 hq9 s20
    go_wp2_with fail
    go_ret
    exact StE.ok HR9.out HOn9.out HT9.out HL9.out
  have j8:(hk == 8)=false:=beq_eq_false_iff_ne.2 k8
  have HRT:=hid (H1.out.2 loc (plain_else k1 k2 k3 k4 k6 k7 k8))
  have HBT:=HB
  have HST:=HS1
  have HLT:=HL1
  have HOT:=HO
  clear k1 k2 k3 k4 k6 k7 k8 hLX hLY hLS
  go_enter Tryz.func83,Tryz.ntmps83
  go_wp2_with fail
  rw [← HW.out]
  refine (HTB.out B c e tv p res loc (.pointer ao) (.slice bo bl bc) W1 HST.out (HBL.out.1.below (HBT.out.mono hwB)) (fun a ha=>SIn.keeps (HBT.out.mono hwB) _ (HBL.out.2 a ha)) HFB.out HLT.out hp0 HPB.out).mono ?_;rintro e' w8 ⟨hO8,hy8,hn8⟩
  cases hq8:stsT e res loc p b with
  | error q =>
    obtain rfl:=hn8 q hq8
    exact⟨rfl,StE.no (HRT.out.trans (tailT_no hq8)) ((Only.of HBT.out).trans hO8)⟩
  | ok p1 =>
  obtain⟨rfl,hT8⟩:=hy8 p1 hq8
  have hs8:=hO8.size
  have hpm:=places_mono b e res loc p p1 hq8
  have HOn8:=hid ((Only.of HBT.out).trans hO8)
  have HS8:=hid (HST.out.only hO8 hT8)
  have HL8:=hid (HLT.out.only HST.out.tk hO8)
  have hO8b:=(hO8.block w.heap.size (by omega) (by omega)).trans HOT.out
  have HO8:=hid hO8b
  have HQ8:=hid hq8
  have hp1:-1≤p1:=by omega
  have HP8:=hid (show p1+(St.counts l:Int)≤1000000 by have:=HPE.out;omega)
  clear hO8 hy8 hn8 hT8 hq8 hpm s0 s19 s20
  obtain⟨-,-,-,-,-,-,s20⟩:=st_h hO8b
  rw [HEV.out] at s20
  clear hO8b
  go_wp2_with fail
  refine (HTE.out B c e tv p1 res loc (.pointer ao) (.slice eo el ec) w8 HS8.out (HEL.out.1.below (HOn8.out.below hB hwB)) (fun a ha=>SIn.keeps (HOn8.out.below hB hwB) _ (HEL.out.2 a ha)) HFE.out HL8.out hp1 HP8.out).mono ?_;rintro e' w9 ⟨hO9,hy9,hn9⟩
  cases hq9:stsT e res loc p1 l with
  | error q =>
    obtain rfl:=hn9 q hq9
    exact⟨rfl,StE.no (HRT.out.trans (tailT_no2 HQ8.out hq9)) (HOn8.out.trans hO9)⟩
  | ok p2 =>
  obtain⟨rfl,hT9⟩:=hy9 p2 hq9
  have HR9:=hid (HRT.out.trans (tailT_ok HQ8.out hq9))
  have HOn9:=hid (HOn8.out.trans hO9)
  have HT9:=hid hT9
  have HL9:=hid (HL8.out.only HS8.out.tk hO9)
  clear hO9 hy9 hn9 hT9 hq9 s20
  go_wp2_with fail
  go_ret
  exact StE.ok HR9.out HOn9.out HT9.out HL9.out
theorem tstmt_all:∀ s,TS s:=St.ind tstmt_mk
theorem tlist_all (l:List St):TL l:=tlist_of l fun a _=>tstmt_all a
end Go.Proofs.YtdhieihcmnpneaaGreatDoor
