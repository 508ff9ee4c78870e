/- All statements within some, handed one by one to a function literal, whatever that is. -/
import Derived.Test.YtdhieihcmnpneaaGreatDoorRows
import Derived.Test.YtdhieihcmnpneaaGreatDoorEffEach
namespace Go.Proofs.YtdhieihcmnpneaaGreatDoor
open Lib (hid)
set_option maxHeartbeats 8000000
open Go.RowKit
attribute [local go_sem ↓] loadS_eq storeS_eq
structure VisS where
  F:Nat
  caps:Array Value
  B:Nat
  Inv:List (St × Bool)→(Nat→Prop)→World→Prop
  Fit:List (St × Bool)→Prop
def ES (V:VisS) (acc:List (St × Bool)) (O:Nat→Prop) (w:World) (e:Ending) (w':World):Prop:=e = .returned (.tuple #[])∧∃ O2,V.Inv acc O2 w'∧WrO O w w' O2
structure VisS.Ok (V:VisS):Prop where
  pre:∀ a b,V.Fit (a ++ b)→V.Fit a
  enters:∀ (x i:Value) w,(callFunc V.F (#[x,i] ++ V.caps)).run Tryz.prog w = .ok (.enter V.F (#[x,i] ++ V.caps)) w
  far:∀ acc O w,V.Inv acc O w→∀ b,O b→V.B≤b∧b < w.heap.size
  keep:∀ acc O w w',V.Inv acc O w→Below w.heap.size w w'→V.Inv acc O w'
  step:∀ acc O (s:St) (i:Bool) w,V.Inv acc O w→SIn w V.B s→V.Fit (acc ++ [(s,i)])→V.B≤w.heap.size→Calls Tryz.prog V.F (#[.agg s.arr,.bool i] ++ V.caps) w (ES V (acc ++ [(s,i)]) O w)
structure TwoS (V:VisS) (vb ab:Nat) (O:Nat→Prop) (w:World):Prop where
  v:w.heap[vb]? = some (.cells #[.func (.func V.F) #[] V.caps] 88 (0,0))
  a:w.heap[ab]? = some (.cells #[.func (.func 65) #[] #[.pointer (some ⟨vb,0,none⟩),.pointer (some ⟨ab,0,none⟩)]] 127 (0,0))
  nv:¬ O vb
  na:¬ O ab
theorem TwoS.after {V:VisS} {vb ab:Nat} {O O2:Nat→Prop} {w w':World} (h:TwoS V vb ab O w) (k:WrO O w w' O2):TwoS V vb ab O2 w':=by
  have h1:vb < w.heap.size:=(Array.getElem?_eq_some_iff.1 h.v).1
  have h2:ab < w.heap.size:=(Array.getElem?_eq_some_iff.1 h.a).1
  refine⟨(k.wr.block vb h1 h.nv).trans h.v,(k.wr.block ab h2 h.na).trans h.a,fun q=>?_,fun q=>?_⟩
  · rcases k.new vb q with q|q
    · exact h.nv q
    · omega
  · rcases k.new ab q with q|q
    · exact h.na q
    · omega
def PSl (l:List St):Prop:=∀ (V:VisS) (_:V.Ok) (vb ab:Nat) (acc:List (St × Bool)) (O:Nat→Prop) (i:Bool) (s:Value) (w:World),LiesG St.cells 21 w V.B s l→(∀ a ∈ l,SIn w V.B a)→V.Fit (acc ++ St.flats i l)→V.B≤w.heap.size→TwoS V vb ab O w→V.Inv acc O w →
  Calls Tryz.prog 65 #[s,.bool i,.pointer (some ⟨vb,0,none⟩),.pointer (some ⟨ab,0,none⟩)] w (ES V (acc ++ St.flats i l) O w)
theorem sflat_of (i:Bool) (a:St):St.flat i a=(a,i) :: (St.flats (i || decide (a.h.k=5)) a.body ++ St.flats i a.els):=by cases a;rw [sflat_mk];rfl
theorem sflats_split (i:Bool) (l:List St) (k:Nat) (h:k < l.length):St.flats i l=((St.flats i (l.take k) ++ [(l[k],i)]) ++ St.flats (i || decide (l[k].h.k=5)) l[k].body) ++ St.flats i l[k].els ++ St.flats i (l.drop (k+1)):=by
  conv=>lhs;rw [← List.take_append_drop k l,List.drop_eq_getElem_cons h,sflats_append,sflats_cons,sflat_of]
  simp
theorem SIn.lists {w:World} {B:Nat} {s:St} (h:SIn w B s):LiesG St.cells 21 w B s.bv s.body∧LiesG St.cells 21 w B s.ev s.els∧(∀ a ∈ s.body,SIn w B a)∧∀ a ∈ s.els,SIn w B a:=by
  cases h with|mk h x y bv ev b e h1 h2 h3 h4 h5 h6 h7=>exact⟨h4,h5,h6,h7⟩
theorem eachS_of (l:List St) (ih:∀ a ∈ l,PSl a.body∧PSl a.els):PSl l:=by
  intro V hV vb ab acc O i s w hL hI hMay hBw hT hInv
  obtain⟨ao,cap,rfl,hlen,hgo⟩:=hL.form
  obtain⟨N,hN⟩:∃ N,N=l.length:=⟨_,rfl⟩
  rw [← hN] at hlen hgo hL ⊢
  have HL:=hid hL
  have HIN:=hid hI
  have HMAY:=hid hMay
  have HIH:=hid ih
  have HG:=hid hgo
  have HN:=hid hN
  have HT:=hid hT
  have HV:=hid hV
  have HINV:=hid hInv
  clear hL hI hMay ih hgo hN hT hInv
  have hent:=hV.enters
  cases i
  all_goals
    go_enter Tryz.func65,Tryz.ntmps65
    go_wp2_with fail
    go_loopw [10] (fun q wr=>∃ k:Nat,k≤N∧q = .int .i64 k∧Hid (∃ O2,V.Inv (acc ++ St.flats _ (l.take k)) O2 wr∧WrO O w wr O2)) (fun i _=>N - (intOf i).toNat)
    case atStart=>exact⟨0,by omega,rfl,hid ⟨O,by rw [List.take_zero,sflats_nil,List.append_nil];exact HINV.out,WrO.refl _ _⟩⟩
    case round =>
      obtain⟨k,hkN,rfl,HR⟩:=hrel
      obtain⟨O2,hinv,hwr⟩:=HR.out
      have hbw:=hwr.wr.below (fun b hb=>(HV.out.far _ _ _ HINV.out b hb).1) hBw
      have hsr:=hwr.wr.size
      by_cases hlt2:k < N
      · have hpx:k < l.length:=by rw [← HN.out];exact hlt2
        obtain⟨g,off,rfl,hg⟩:=HG.out (by omega)
        have hat:=((HL.out.below hbw).at rfl k hpx).2
        have hma:=List.getElem_mem hpx
        have hIa:=SIn.keeps hbw _ (HIN.out _ hma)
        have hPa:=HIH.out _ hma
        have hmy:=HMAY.out
        rw [sflats_split _ l k hpx,← List.append_assoc,← List.append_assoc,← List.append_assoc,← List.append_assoc] at hmy
        have hmy3:=hV.pre _ _ hmy
        have hmy2:=hV.pre _ _ hmy3
        have hmy1:=hV.pre _ _ hmy2
        have hLd:=loadS_mid l[k] hat
        have htk:∀ i,St.flats i (l.take (k+1))=St.flats i (l.take k) ++ St.flat i l[k]:=fun i=>by
          rw [List.take_succ_eq_append_getElem hpx,sflats_append,sflats_cons,sflats_nil,List.append_nil]
        generalize l[k] = a at *
        have hST:=storeS_last wr a.arr (arr_size a) hIa.one
        have hT2:=HT.out.after hwr
        have hvl:vb < wr.heap.size:=(Array.getElem?_eq_some_iff.1 hT2.v).1
        have hal:ab < wr.heap.size:=(Array.getElem?_eq_some_iff.1 hT2.a).1
        obtain⟨W5,hW5⟩:∃ W5,W5=wr.alloc (.cells a.arr 64):=⟨_,rfl⟩
        have hb5:Below wr.heap.size wr W5:=by rw [hW5];exact below_box wr _
        have hz5:W5.heap.size=wr.heap.size+1:=by rw [hW5];simp
        have hO5:W5.heap[wr.heap.size]? = some (.cells a.arr 64 (0,0)):=by rw [hW5];exact (MapKept.heap_alloc _ _).1
        have v5:=cell1 ((hb5.block vb hvl).trans hT2.v)
        have hL1:=loadS_row (arr_size a) hO5
        have hkp:=HV.out.keep _ _ _ _ hinv hb5
        have hI5:=SIn.keeps (hb5.mono (by omega)) _ hIa
        have hst:=HV.out.step _ _ a _ W5 hkp hI5 hmy1 (by omega)
        have hnot:¬ O2 wr.heap.size:=fun h=>by have:=(HV.out.far _ _ _ hinv _ h).2;omega
        rw [hW5] at v5 hL1
        have HST:=hid hst
        have HW5:=hid hW5
        have HT5:=hid (hT2.after (WrO.of_below (O:=O2) hb5))
        have HWR5:=hid (hwr.trans (WrO.of_below (O:=O2) hb5))
        have HO5:=hid hO5
        have HZ5:=hid hz5
        have HTK:=hid htk
        have HLI:=hid hI5.lists
        have HMY2:=hid hmy2
        have HMY3:=hid hmy3
        have HPA:=hid hPa
        have HNOT:=hid hnot
        have HKP:=hid hkp
        have hgs:g < wr.heap.size:=by omega
        clear hmy hmy1 hmy2 hmy3 hat hma hIa hPa htk hT2 hW5 hb5 hz5 hO5 hkp hI5 hst hinv hwr hbw hnot
        go_wp2_with fail
        rw [← HW5.out]
        refine HST.out.mono ?_;rintro e w6 ⟨rfl,O3,hi6,hw6⟩
        have hT6:=HT5.out.after hw6
        have a6:=cell1 hT6.a
        have hs6:=hw6.wr.size
        have hO6:=(hw6.wr.block wr.heap.size (by have:=HZ5.out;omega) HNOT.out).trans HO5.out
        obtain⟨k0,-,-,-,-,k19,k20⟩:=st_h hO6
        have hb6:Below V.B W5 w6:=hw6.wr.below (fun b hb=>(HV.out.far _ _ _ HKP.out b hb).1) (by have:=HZ5.out;omega)
        obtain⟨l1,l2,l3,l4⟩:=HLI.out
        have hrec:=HPA.out.1 V HV.out vb ab _ O3 _ a.bv w6 (l1.below hb6) (fun q hq=>SIn.keeps hb6 _ (l3 q hq)) HMY2.out (by have:=HZ5.out;omega) hT6 hi6
        have hnot6:¬ O3 wr.heap.size:=fun h=>by
          rcases hw6.new _ h with h|h
          · exact HNOT.out h
          · have:=HZ5.out;omega
        have HREC:=hid hrec
        have HT6:=hid hT6
        have HO6:=hid hO6
        have HB6:=hid hb6
        have HI6:=hid hi6
        have HNOT6:=hid hnot6
        have HWR6:=hid (HWR5.out.trans hw6)
        clear hT6 hO6 hb6 hrec hi6 hw6 hLd hST hL1 v5 l1 l2 l3 l4 hnot6
        go_wp2_with fail
        refine HREC.out.mono ?_;rintro e w7 ⟨rfl,O4,hi7,hw7⟩
        have hT7:=HT6.out.after hw7
        have a7:=cell1 hT7.a
        have hs7:=hw7.wr.size
        have hO7:=(hw7.wr.block wr.heap.size (by have:=HZ5.out;omega) HNOT6.out).trans HO6.out
        obtain⟨k0,-,-,-,-,k19,k20⟩:=st_h hO7
        have hb7:Below V.B W5 w7:=HB6.out.trans (hw7.wr.below (fun b hb=>(HV.out.far _ _ _ HI6.out b hb).1) (by have:=HZ5.out;omega))
        obtain⟨l1,l2,l3,l4⟩:=HLI.out
        have hrec:=HPA.out.2 V HV.out vb ab _ O4 _ a.ev w7 (l2.below hb7) (fun q hq=>SIn.keeps hb7 _ (l4 q hq)) HMY3.out (by have:=HZ5.out;omega) hT7 hi7
        have HREC2:=hid hrec
        have HWR7:=hid (HWR6.out.trans hw7)
        clear hT7 hO7 hb7 hrec hi7 hw7 l1 l2 l3 l4 a6
        go_wp2_with fail
        refine HREC2.out.mono ?_;rintro e w8 ⟨rfl,O5,hi8,hw8⟩
        have HI8:=hid hi8
        have HW8:=hid (HWR7.out.trans hw8)
        clear hi8 hw8
        go_wp2_with fail
        go_roundw
        case rel=>exact⟨k+1,by omega,by go_num,hid ⟨O5,by have h:=HI8.out;rw [HTK.out,sflat_of];simp only [List.append_assoc,List.cons_append,List.nil_append] at h ⊢;exact h,HW8.out⟩⟩
        case measure=>simp [intOf];omega
      · have HE:=hid (show ∃ O2,V.Inv (acc ++ St.flats _ l) O2 wr∧WrO O w wr O2 from ⟨O2,by rw [List.take_of_length_le (by rw [← HN.out];omega)] at hinv;exact hinv,hwr⟩)
        clear hinv hwr hbw
        go_wp2_with fail
        go_end0
        exact⟨rfl,HE.out⟩
theorem eachS_parts:∀ s:St,PSl s.body∧PSl s.els:=St.ind fun _h _x _y _bv _ev b e ih1 ih2=>⟨eachS_of b fun a ha=>ih1 a ha,eachS_of e fun a ha=>ih2 a ha⟩
theorem eachS_all (l:List St):PSl l:=eachS_of l fun a _=>eachS_parts a
theorem eachStmt_any (V:VisS) (hV:V.Ok) (acc:List (St × Bool)) (O:Nat→Prop) (l:List St) (s:Value) (w:World) (hL:LiesG St.cells 21 w V.B s l) (hI:∀ a ∈ l,SIn w V.B a) (hMay:V.Fit (acc ++ St.flats false l)) (hBw:V.B≤w.heap.size) (hInv:V.Inv acc O w) :
    Calls Tryz.prog 32 #[s,.func (.func V.F) #[] V.caps] w (ES V (acc ++ St.flats false l) O w):=by
  obtain⟨W3,hW3⟩:∃ W3,W3=(w.alloc (.cells #[.func (.func V.F) #[] V.caps] 88)).alloc (.cells #[.func (.func 65) #[] #[.pointer (some ⟨w.heap.size,0,none⟩),.pointer (some ⟨w.heap.size+1,0,none⟩)]] 127):=⟨_,rfl⟩
  have hb3:Below w.heap.size w W3:=by rw [hW3];exact ((below_box w _).alloc (by simp) _)
  have hz3:W3.heap.size=w.heap.size+2:=by rw [hW3];simp
  have hO1:W3.heap[w.heap.size]? = some (.cells #[.func (.func V.F) #[] V.caps] 88 (0,0)):=by
    rw [hW3,Below.heap_alloc _ _ _ (by simp)];exact (MapKept.heap_alloc _ _).1
  have hO2:W3.heap[w.heap.size+1]? = some (.cells #[.func (.func 65) #[] #[.pointer (some ⟨w.heap.size,0,none⟩),.pointer (some ⟨w.heap.size+1,0,none⟩)]] 127 (0,0)):=by
    rw [hW3];have:=(MapKept.heap_alloc (w.alloc (.cells #[.func (.func V.F) #[] V.caps] 88)) (.cells #[.func (.func 65) #[] #[.pointer (some ⟨w.heap.size,0,none⟩),.pointer (some ⟨w.heap.size+1,0,none⟩)]] 127)).1;simpa using this
  have hmf:∀ (fn:Go.Fn) (first cap:Array Value) (w:World),(Instr.makeFunc fn first cap).run Tryz.prog w = .ok (.func fn first cap) w:=fun _ _ _ _=>rfl
  have hfar:=hV.far _ _ _ hInv
  have hTW:TwoS V w.heap.size (w.heap.size+1) O W3:=⟨hO1,hO2,fun h=>by have:=(hfar _ h).2;omega,fun h=>by have:=(hfar _ h).2;omega⟩
  have hall:=eachS_all l V hV w.heap.size (w.heap.size+1) acc O false s W3 (hL.below (hb3.mono hBw)) (fun a ha=>SIn.keeps (hb3.mono hBw) _ (hI a ha)) hMay (by omega) hTW (hV.keep _ _ _ _ hInv hb3)
  have HALL:=hid hall
  have HW3:=hid hW3
  have HB3:=hid (WrO.of_below (O:=O) hb3)
  have c2:=cell1 hO2
  rw [hW3] at c2
  clear hO1 hO2 hb3 hz3 hW3 hfar hTW hall hInv hI hMay hL hV
  go_enter Tryz.func32,Tryz.ntmps32
  go_wp2_with fail
  rw [← HW3.out]
  refine HALL.out.mono ?_;rintro e w6 ⟨rfl,O3,hi6,hw6⟩
  have HI6:=hid hi6
  have HWR6:=hid (HB3.out.trans hw6)
  clear hi6 hw6
  go_wp2_with fail
  go_end0
  exact⟨rfl,O3,HI6.out,HWR6.out⟩
end Go.Proofs.YtdhieihcmnpneaaGreatDoor
