/- What package effect's Check answers, of any program that lies in memory. -/
import Derived.Test.YtdhieihcmnpneaaGreatDoorRows
import Derived.Test.YtdhieihcmnpneaaGreatDoorEffBad
namespace Go.Proofs.YtdhieihcmnpneaaGreatDoor
open Lib (hid)
set_option maxHeartbeats 4000000
open Go.RowKit
set_option maxRecDepth 100000
theorem ringN_lt (fs:List Fn):∀ (l:List Fn) (k i:Nat),ringN fs l k=some i→i < k+l.length
  | [],_,_,h=>by cases h
  | f :: r,k,i,h=>by
    rw [ringN] at h
    split at h
    · cases h;simp
    · have:=ringN_lt fs r (k+1) i h
      rw [List.length_cons];omega
theorem few_places {P:Pr} (h:(typesT P).2=0):placesN P≤1000000:=by
  obtain⟨m,q,hc,_⟩:=typesT_ok P h
  exact (chkP_ok P m hc).2.2
theorem effect_is (P:Pr):effectT P=(if (typesT P).2 ≠ 0 then ((0,1):Int × Int) else match ringN P.e.funcs P.e.funcs 0 with
    | some i=>((placeF P i:Int),12)
    | none=>match firstT (bads P) with
      | some j=>((placeF P 0:Int)+j,11)
      | none=>(0,0)):=rfl
theorem eff_check (P:Pr) (B:Nat) (w:World) (hBw:B≤w.heap.size) (hI:PIn w B P) (hcap:CapF P) :
    Calls Tryz.prog 12 #[.agg #[P.e.rv,P.e.sv,P.e.fv,P.tv]] w fun x w'=>x = .returned (.tuple #[.int .i64 (effectT P).1,.int .i64 (effectT P).2])∧Below w.heap.size w w':=by
  obtain⟨W1,hW1⟩:∃ W1,W1=w.alloc (.cells #[P.e.rv,P.e.sv,P.e.fv,P.tv] 27):=⟨_,rfl⟩
  have hb1:Below w.heap.size w W1:=by rw [hW1];exact below_box w _
  have hz1:W1.heap.size=w.heap.size+1:=by rw [hW1];simp
  have hO1:W1.heap[w.heap.size]? = some (.cells #[P.e.rv,P.e.sv,P.e.fv,P.tv] 27 (0,0)):=by rw [hW1];exact (MapKept.heap_alloc _ _).1
  have hI1:=hI.keeps (hb1.mono hBw)
  have HTC:=hid (types_check_any P B W1 (by omega) hI1)
  have HIu:=hid (fun (u:World) (hu:Below W1.heap.size W1 u)=>hI1.keeps (hu.mono (by omega)))
  have HB1:=hid hb1
  have HO1:=hid hO1
  have HW1:=hid hW1
  have HCAP:=hid hcap
  have HEF:=hid (effect_is P)
  obtain⟨q0,q1,q2,q3⟩:=cells_prog _ _ _ _ hO1
  rw [hW1] at q0 q1 q2 q3
  clear hI hcap hb1 hO1 hW1 hI1
  go_enter Tryz.func12,Tryz.ntmps12
  go_wp2_with fail
  rw [← HW1.out]
  refine HTC.out.mono ?_;rintro z w2 ⟨rfl,hb2⟩
  have hs2:=hb2.size
  have HB2:=hid hb2
  clear hb2 q0 q1 q2 q3
  obtain⟨r,hr⟩:∃ r,r=typesT P:=⟨_,rfl⟩
  obtain⟨at',ee⟩:=r
  rw [← hr]
  have HR:=hid hr
  by_cases he0:ee=0
  rotate_left
  · have hE:effectT P=(0,1):=by rw [HEF.out,if_pos (by rw [← hr];exact he0)]
    have HE:=hid hE
    have hq0:(ee != 0)=true:=bne_iff_ne.2 he0
    clear hr he0 hE
    go_wp2_with fail
    go_ret2
    exact⟨by rw [HE.out];rfl,HB1.out.trans (HB2.out.mono (by omega))⟩
  subst he0
  have hT0:(typesT P).2=0:=by rw [← hr]
  have HT0:=hid hT0
  have HFI:=hid (fits_of P hT0)
  have hE1:=HEF.out
  rw [if_neg (by rw [hT0];decide)] at hE1
  have HE1:=hid hE1
  have HRG:=hid (first_ring P B w2 (by omega) (HIu.out w2 HB2.out) HFI.out)
  obtain⟨q0,q1,q2,q3⟩:=cells_prog _ _ _ _ ((HB2.out.block w.heap.size (by omega)).trans HO1.out)
  clear hr hT0 hE1
  go_wp2_with fail
  refine HRG.out.mono ?_;rintro z w3 ⟨rfl,hb3⟩
  have hs3:=hb3.size
  have HB3:=hid (HB2.out.trans (hb3.mono hs2))
  obtain⟨q0,q1,q2,q3⟩:=cells_prog _ _ _ _ ((HB3.out.block w.heap.size (by omega)).trans HO1.out)
  clear hb3
  have hE1:=HE1.out
  cases hrg:ringN P.e.funcs P.e.funcs 0 with
  | some i =>
    rw [hrg] at hE1
    have HE:=hid hE1
    have hil:=ringN_lt _ _ _ _ hrg
    have HPL:=hid (place_of P i B w3 (by omega) (HIu.out w3 HB3.out) (by omega) HCAP.out (few_places HT0.out))
    clear hE1 hrg hil
    rw [show ringV (some i) = .tuple #[.int .i64 (i:Int),.bool true] from rfl]
    go_wp2_with fail
    refine HPL.out.mono ?_;rintro z w4 ⟨rfl,hb4⟩
    have HB4:=hid (HB3.out.trans (hb4.mono (by omega)))
    clear hb4
    go_wp2_with fail
    go_ret2
    exact⟨by rw [HE.out];rfl,HB1.out.trans (HB4.out.mono (by omega))⟩
  | none =>
    rw [hrg] at hE1
    have HNR:=hid (noRing_of P.e.funcs HFI.out.own hrg)
    have HFW:=hid (first_wrong P B w3 (by omega) (HIu.out w3 HB3.out) HFI.out HNR.out HCAP.out (few_places HT0.out))
    clear hrg
    rw [show ringV none = .tuple #[.int .i64 0,.bool false] from rfl]
    obtain⟨v1,hv1⟩:∃ v,v=firstV (placeF P 0) (bads P):=⟨_,rfl⟩
    have hv1':v1=match firstT (bads P) with|none=>0|some j=>((placeF P 0+j:Nat):Int):=hv1
    rw [← hv1] at HFW
    clear hv1
    cases hft:firstT (bads P) with
    | some j =>
      rw [hft] at hE1 hv1' HFW
      simp only at hv1' hE1
      have HE:=hid (show effectT P=(v1,11) by rw [hE1,hv1'];push_cast;rfl)
      have HQ:Hid (Calls Tryz.prog 30 #[.agg #[P.e.rv,P.e.sv,P.e.fv,P.tv]] w3 fun x w'=>x = .returned (.tuple #[.int .i64 v1,.bool true])∧Below w3.heap.size w3 w'):=HFW
      clear hE1 hft hv1' HFW
      go_wp2_with fail
      refine HQ.out.mono ?_;rintro z w4 ⟨rfl,hb4⟩
      have HB4:=hid (HB3.out.trans (hb4.mono (by omega)))
      clear hb4
      go_wp2_with fail
      go_ret2
      exact⟨by rw [HE.out];rfl,HB1.out.trans (HB4.out.mono (by omega))⟩
    | none =>
      rw [hft] at hE1 hv1' HFW
      simp only at hv1' hE1
      have HE:=hid hE1
      have HQ:Hid (Calls Tryz.prog 30 #[.agg #[P.e.rv,P.e.sv,P.e.fv,P.tv]] w3 fun x w'=>x = .returned (.tuple #[.int .i64 v1,.bool false])∧Below w3.heap.size w3 w'):=HFW
      clear hE1 hft hv1' HFW
      go_wp2_with fail
      refine HQ.out.mono ?_;rintro z w4 ⟨rfl,hb4⟩
      have HB4:=hid (HB3.out.trans (hb4.mono (by omega)))
      clear hb4
      go_wp2_with fail
      go_ret2
      exact⟨by rw [HE.out];rfl,HB1.out.trans (HB4.out.mono (by omega))⟩
end Go.Proofs.YtdhieihcmnpneaaGreatDoor
