/- What package shape's four calls answer, of any program that lies in memory. -/
import Derived.Test.YtcibiiddigpnfaaGreatDoorRows
import Derived.Test.YtcibiiddigpnfaaGreatDoorShpTell
namespace Go.Proofs.YtcibiiddigpnfaaGreatDoor
open Go.RowKit
set_option maxRecDepth 100000
def TwoE (r : Int × Int) (w : World) (e : Ending) (w' : World) : Prop := e = .returned (.tuple #[.int .i64 r.1, .int .i64 r.2]) ∧ Below w.heap.size w w'
structure BoxS (P : Pr) (B : Nat) (w W1 : World) (c0 c1 c2 c3 : Value) : Prop where
  eq : W1 = w.alloc (.cells #[c0, c1, c2, c3] 27)
  below : Below w.heap.size w W1
  size : W1.heap.size = w.heap.size + 1
  own : W1.heap[w.heap.size]? = some (.cells #[c0, c1, c2, c3] 27 (0, 0))
  here : PIn W1 B P
  taken : Calls Tryz.prog 35 #[.agg #[c0, c1, c2, c3]] W1 fun e w' => e = .returned (.bool (decide ((typesT P).2 = 0))) ∧ Below W1.heap.size W1 w'
theorem boxS_of (P : Pr) (B : Nat) (w : World) (hBw : B ≤ w.heap.size) (hI : PIn w B P) : ∃ W1, BoxS P B w W1 P.e.rv P.e.sv P.e.fv P.tv := by
  have hB1 := below_box w (.cells #[P.e.rv, P.e.sv, P.e.fv, P.tv] 27)
  refine ⟨w.alloc (.cells #[P.e.rv, P.e.sv, P.e.fv, P.tv] 27), rfl, hB1, by simp, boxP4 _ _ _ _, hI.keeps (hB1.mono hBw), taken_any P B _ (by have := hB1.size; omega) (hI.keeps (hB1.mono hBw))⟩
set_option maxHeartbeats 1000000 in
theorem words_any (P : Pr) (B : Nat) (w : World) (hBw : B ≤ w.heap.size) (hI : PIn w B P) :
    Calls Tryz.prog 12 #[.agg #[P.e.rv, P.e.sv, P.e.fv, P.tv]] w (TwoE (wordsS P) w) := by
  obtain ⟨W1, hX⟩ := boxS_of P B w hBw hI
  obtain ⟨so, sc, es, hlen, -⟩ := hI.e.slies.form
  rw [es] at hX ⊢
  obtain ⟨q0, q1, q2, q3⟩ := cells_prog _ _ _ _ hX.own
  have HX := Lib.hid hX
  have hs1 := hX.size
  have hlt : w.heap.size < W1.heap.size := by omega
  have hws : wordsS P = if (typesT P).2 = 0 then ((P.e.shared.length : Int), 0) else (0, 1) := rfl
  obtain ⟨N, hN⟩ : ∃ N, N = P.e.shared.length := ⟨_, rfl⟩
  rw [← hN] at hlen hws ⊢ HX
  have HWS := Lib.hid hws
  rw [hX.eq] at q0 q1 q2 q3
  clear hX hI es hws hN
  go_enter Tryz.func12, Tryz.ntmps12
  go_wp2_with fail
  rw [← HX.out.eq]
  refine HX.out.taken.mono ?_; rintro e w2 ⟨rfl, hb2⟩
  have hO := (hb2.block _ hlt).trans HX.out.own
  obtain ⟨q0, q1, q2, q3⟩ := cells_prog _ _ _ _ hO
  have HB2 := Lib.hid (HX.out.below.trans (hb2.mono (by omega)))
  clear hb2 hO
  by_cases h0 : (typesT P).2 = 0
  all_goals
    have hr := HWS.out
    first | rw [if_pos h0] at hr | rw [if_neg h0] at hr
    first | rw [decide_eq_true h0] | rw [decide_eq_false h0]
    have HR := Lib.hid hr
    clear hr h0
    go_wp2_with fail
    go_ret2
    exact ⟨by rw [HR.out]; rfl, HB2.out⟩
theorem aheadS_cases (s : ByteArray) (l : List Fd) (hl : l.length ≤ 140737488351232) : aheadS s l = (0, 9) ∨ ∃ i : Nat, i ≤ 140737488351232 ∧ aheadS s l = ((i : Int), 0) := by
  rcases ixI_cases s l hl with ⟨_, h⟩ | ⟨i, hi, _, h⟩
  · exact .inl h
  · exact .inr ⟨i, hi, h⟩
set_option maxHeartbeats 2000000 in
theorem shared_any (s : ByteArray) (P : Pr) (B : Nat) (w : World) (hBw : B ≤ w.heap.size) (hI : PIn w B P) :
    Calls Tryz.prog 13 #[.agg #[P.e.rv, P.e.sv, P.e.fv, P.tv], .string s] w (TwoE (sharedS P s) w) := by
  obtain ⟨W1, hX⟩ := boxS_of P B w hBw hI
  obtain ⟨so, sc, es, hlen, -⟩ := hI.e.slies.form
  have hcs := aheadS_cases s P.e.shared hI.e.slies.room
  have hSL : ∀ W2, Below W1.heap.size W1 W2 → Calls Tryz.prog 36 #[P.e.sv, .string s] W2 fun e w' => e = .returned (.tuple #[.int .i64 (aheadS s P.e.shared).1, .int .i64 (aheadS s P.e.shared).2]) ∧ Below W2.heap.size W2 w' :=
    fun W2 h2 => ahead_any s P.e.shared B P.e.sv W2 ((hX.here.keeps (h2.mono (by have := hX.size; omega))).e.slies) (by have := hX.size; have := h2.size; omega)
  rw [es] at hX hSL ⊢
  obtain ⟨q0, q1, q2, q3⟩ := cells_prog _ _ _ _ hX.own
  have HX := Lib.hid hX
  have HSL := Lib.hid hSL
  have hs1 := hX.size
  have hlt : w.heap.size < W1.heap.size := by omega
  have HWS := Lib.hid (show sharedS P s = if (typesT P).2 = 0 then nextS (aheadS s P.e.shared) else (0, 1) from rfl)
  obtain ⟨N, hN⟩ : ∃ N, N = P.e.shared.length := ⟨_, rfl⟩
  rw [← hN] at hlen HX ⊢
  rw [hX.eq] at q0 q1 q2 q3
  rw [← hN] at q1 HSL
  clear hX hI es hN hSL
  go_enter Tryz.func13, Tryz.ntmps13
  go_wp2_with fail
  rw [← HX.out.eq]
  refine HX.out.taken.mono ?_; rintro e w2 ⟨rfl, hb2⟩
  have hO := (hb2.block _ hlt).trans HX.out.own
  obtain ⟨q0, q1, q2, q3⟩ := cells_prog _ _ _ _ hO
  have HC := Lib.hid (HSL.out w2 hb2)
  have HB2 := Lib.hid (HX.out.below.trans (hb2.mono (by omega)))
  have hs2 := hb2.size
  clear hb2 hO
  by_cases h0 : (typesT P).2 = 0
  · have hr := HWS.out
    rw [if_pos h0] at hr
    rw [decide_eq_true h0]
    clear h0
    rcases hcs with hc | ⟨i, hi, hc⟩
    all_goals
      rw [hc] at HC hr
      have HR := Lib.hid hr
      clear hc hr
      go_wp2_with fail
      refine HC.out.mono ?_; rintro e w3 ⟨rfl, hb3⟩
      have HB3 := Lib.hid (HB2.out.trans (hb3.mono (by omega)))
      clear hb3
      go_wp2_with fail
      go_ret2
      exact ⟨by rw [HR.out]; rfl, HB3.out⟩
  · have hr := HWS.out
    rw [if_neg h0] at hr
    rw [decide_eq_false h0]
    have HR := Lib.hid hr
    clear hr h0
    go_wp2_with fail
    go_ret2
    exact ⟨by rw [HR.out]; rfl, HB2.out⟩
set_option maxHeartbeats 2000000 in
theorem offset_any (r f : ByteArray) (P : Pr) (B : Nat) (w : World) (hBw : B ≤ w.heap.size) (hI : PIn w B P) :
    Calls Tryz.prog 15 #[.agg #[P.e.rv, P.e.sv, P.e.fv, P.tv], .string r, .string f] w (TwoE (offsetS P r f) w) := by
  obtain ⟨W1, hX⟩ := boxS_of P B w hBw hI
  have hcs := fields_lie r P.e.records hX.here.e.records
  have hFA : ∀ W2, Below W1.heap.size W1 W2 → Calls Tryz.prog 38 #[.agg #[P.e.rv, P.e.sv, P.e.fv, P.tv], .string r] W2 fun e w' => e = .returned (fieldsV r P.e.records) ∧ Below W2.heap.size W2 w' :=
    fun W2 h2 => fields_any r P B W2 (by have := hX.size; have := h2.size; omega) (hX.here.keeps (h2.mono (by have := hX.size; omega)))
  have hSL : ∀ W2, Below W1.heap.size W1 W2 → Calls Tryz.prog 36 #[fieldsV r P.e.records, .string f] W2 fun e w' => e = .returned (.tuple #[.int .i64 (aheadS f (fieldsS r P.e.records)).1, .int .i64 (aheadS f (fieldsS r P.e.records)).2]) ∧ Below W2.heap.size W2 w' :=
    fun W2 h2 => ahead_any f _ B _ W2 (hcs.below (h2.mono (by have := hX.size; omega))) (by have := hX.size; have := h2.size; omega)
  obtain ⟨q0, q1, q2, q3⟩ := cells_prog _ _ _ _ hX.own
  have HX := Lib.hid hX
  have HSL := Lib.hid hSL
  have HFA := Lib.hid hFA
  have hs1 := hX.size
  have hlt : w.heap.size < W1.heap.size := by omega
  have HWS := Lib.hid (show offsetS P r f = if (typesT P).2 = 0 then aheadS f (fieldsS r P.e.records) else (0, 1) from rfl)
  rw [hX.eq] at q0 q1 q2 q3
  clear hX hI hSL hFA hcs
  go_enter Tryz.func15, Tryz.ntmps15
  go_wp2_with fail
  rw [← HX.out.eq]
  refine HX.out.taken.mono ?_; rintro e w2 ⟨rfl, hb2⟩
  have hO := (hb2.block _ hlt).trans HX.out.own
  obtain ⟨q0, q1, q2, q3⟩ := cells_prog _ _ _ _ hO
  have HC := Lib.hid (HFA.out w2 hb2)
  have HB2 := Lib.hid (HX.out.below.trans (hb2.mono (by omega)))
  have HQ2 := Lib.hid hb2
  have hs2 := hb2.size
  clear hb2 hO
  by_cases h0 : (typesT P).2 = 0
  · have hr := HWS.out
    rw [if_pos h0] at hr
    rw [decide_eq_true h0]
    clear h0
    go_wp2_with fail
    refine HC.out.mono ?_; rintro e w3 ⟨rfl, hb3⟩
    have HB3 := Lib.hid (HB2.out.trans (hb3.mono (by omega)))
    have HC3 := Lib.hid (HSL.out w3 (HQ2.out.trans (hb3.mono hs2)))
    have HR := Lib.hid hr
    clear hr
    have hs3 := hb3.size
    clear hb3
    go_wp2_with fail
    refine HC3.out.mono ?_; rintro e w4 ⟨rfl, hb4⟩
    have HB4 := Lib.hid (HB3.out.trans (hb4.mono (by omega)))
    clear hb4
    go_wp2_with fail
    go_ret2
    exact ⟨by rw [HR.out]; rfl, HB4.out⟩
  · have hr := HWS.out
    rw [if_neg h0] at hr
    rw [decide_eq_false h0]
    have HR := Lib.hid hr
    clear hr h0
    go_wp2_with fail
    go_ret2
    exact ⟨by rw [HR.out]; rfl, HB2.out⟩
theorem emptyS (s : ByteArray) : (s.toList == (⟨#[]⟩ : ByteArray).toList) = decide (s = ⟨#[]⟩) := str_eqS s ⟨#[]⟩
set_option maxHeartbeats 4000000 in
theorem size_any (t : Ty) (ht : TyOk t) (P : Pr) (B : Nat) (w : World) (hBw : B ≤ w.heap.size) (hI : PIn w B P) :
    Calls Tryz.prog 14 #[.agg #[P.e.rv, P.e.sv, P.e.fv, P.tv], .agg #[.int .u8 t.k, .string t.n, .int .i64 t.z]] w (TwoE (sizeS P t) w) := by
  obtain ⟨W0, hX⟩ := boxS_of P B w hBw hI
  obtain ⟨W1, hW1⟩ : ∃ W1, W1 = W0.alloc (.cells #[.int .u8 t.k, .string t.n, .int .i64 t.z] 40) := ⟨_, rfl⟩
  have hB1 : Below W0.heap.size W0 W1 := by rw [hW1]; exact below_box W0 _
  have hs0 := hX.size
  have hs1 : W1.heap.size = W0.heap.size + 1 := by rw [hW1]; simp
  have hI1 : PIn W1 B P := hX.here.keeps (hB1.mono (by omega))
  have hP1 := (hB1.block w.heap.size (by omega)).trans hX.own
  have hT1 : W1.heap[w.heap.size + 1]? = some (.cells #[.int .u8 t.k, .string t.n, .int .i64 t.z] 40 (0, 0)) := by rw [← hs0, hW1]; exact (MapKept.heap_alloc _ _).1
  have HTK := Lib.hid (taken_any P B W1 (by omega) hI1)
  have HMD := Lib.hid (fun W2 => made_any t W2 ht)
  have HFA := Lib.hid (fun (W2 : World) (h2 : Below W1.heap.size W1 W2) => fields_any t.n P B W2 (by have := h2.size; omega) (hI1.keeps (h2.mono (by omega))))
  have HB1 := Lib.hid (hX.below.trans (hB1.mono (by omega)))
  obtain ⟨ao, cap, efv, -⟩ := (fields_lie t.n P.e.records hI1.e.records).form
  have HV := Lib.hid efv
  have HWS := Lib.hid (show sizeS P t = if (typesT P).2 = 0 then if madeS t = true then if t.n.data.toList ≠ [] ∧ (fieldsS t.n P.e.records).length = 0 then (0, 9) else if t.k = 3 then (t.z, 0) else (((fieldsS t.n P.e.records).length : Int), 0) else (0, 10) else (0, 1) from rfl)
  have hroom := (fields_lie t.n P.e.records hI1.e.records).room
  rw [efv] at HFA
  obtain ⟨N, hN⟩ : ∃ N, N = (fieldsS t.n P.e.records).length := ⟨_, rfl⟩
  rw [← hN] at HFA HWS hroom
  have HW1 := Lib.hid hW1
  have HX := Lib.hid hX.eq
  have HP1 := Lib.hid hP1
  have HT1 := Lib.hid hT1
  obtain ⟨q0, q1, q2, q3⟩ := cells_prog _ _ _ _ hP1
  obtain ⟨k0, k1, k2⟩ := own3 hT1
  rw [hW1, hX.eq] at q0 q1 q2 q3 k0 k1 k2
  clear hX hI hI1 hP1 hT1 hB1 efv hN ht hW1
  go_enter Tryz.func14, Tryz.ntmps14
  go_wp2_with fail
  rw [← HX.out, ← HW1.out]
  refine HTK.out.mono ?_; rintro e w2 ⟨rfl, hb2⟩
  have hs2 := hb2.size
  have HQ2 := Lib.hid hb2
  have HB2 := Lib.hid (HB1.out.trans (hb2.mono (by omega)))
  obtain ⟨q0, q1, q2, q3⟩ := cells_prog _ _ _ _ ((hb2.block w.heap.size (by omega)).trans HP1.out)
  obtain ⟨k0, k1, k2⟩ := own3 ((hb2.block (w.heap.size + 1) (by omega)).trans HT1.out)
  clear hb2
  by_cases h0 : (typesT P).2 = 0
  · rw [decide_eq_true h0]
    have H0 := Lib.hid h0
    clear h0
    have HM2 := Lib.hid (HMD.out w2)
    go_wp2_with fail
    refine HM2.out.mono ?_; rintro e w3 ⟨rfl, hb3⟩
    have hs3 := hb3.size
    have HQ3 := Lib.hid (HQ2.out.trans (hb3.mono hs2))
    have HB3 := Lib.hid (HB2.out.trans (hb3.mono (by omega)))
    obtain ⟨q0, q1, q2, q3⟩ := cells_prog _ _ _ _ ((HQ3.out.block w.heap.size (by omega)).trans HP1.out)
    obtain ⟨k0, k1, k2⟩ := own3 ((HQ3.out.block (w.heap.size + 1) (by omega)).trans HT1.out)
    clear hb3
    by_cases hm : madeS t = true
    · rw [hm]
      have HM := Lib.hid hm
      clear hm
      have HF3 := Lib.hid (HFA.out w3 HQ3.out)
      go_wp2_with fail
      refine HF3.out.mono ?_; rintro e w4 ⟨rfl, hb4⟩
      have hs4 := hb4.size
      have HQ4 := Lib.hid (HQ3.out.trans (hb4.mono (by omega)))
      have HB4 := Lib.hid (HB3.out.trans (hb4.mono (by omega)))
      obtain ⟨q0, q1, q2, q3⟩ := cells_prog _ _ _ _ ((HQ4.out.block w.heap.size (by omega)).trans HP1.out)
      obtain ⟨k0, k1, k2⟩ := own3 ((HQ4.out.block (w.heap.size + 1) (by omega)).trans HT1.out)
      clear hb4
      have hr := HWS.out
      rw [if_pos H0.out, if_pos HM.out] at hr
      by_cases hn : t.n.data.toList = []
      · have t1 := emp_yes hn
        have t2 := nil_yes hn
        rw [if_neg (fun h => h.1 hn)] at hr
        clear hn
        by_cases hk : t.k = 3
        · rw [if_pos hk] at hr
          have HR := Lib.hid hr
          rw [hk] at k0
          clear hk hr
          go_wp2_with fail
          go_ret2
          exact ⟨by rw [HR.out]; rfl, HB4.out⟩
        · have h3 : (t.k == 3) = false := by simpa using hk
          rw [if_neg hk] at hr
          have HR := Lib.hid hr
          clear hk hr
          go_wp2_with fail
          go_ret2
          exact ⟨by rw [HR.out]; rfl, HB4.out⟩
      · have t1 := emp_no hn
        by_cases hN0 : N = 0
        · rw [if_pos ⟨hn, hN0⟩] at hr
          have HR := Lib.hid hr
          subst hN0
          clear hn hr
          go_wp2_with fail
          go_ret2
          exact ⟨by rw [HR.out]; rfl, HB4.out⟩
        · have hz : ((N : Int) == 0) = false := by simpa using hN0
          rw [if_neg (fun h => hN0 h.2)] at hr
          clear hn hN0
          by_cases hk : t.k = 3
          · rw [if_pos hk] at hr
            have HR := Lib.hid hr
            rw [hk] at k0
            clear hk hr
            go_wp2_with fail
            go_ret2
            exact ⟨by rw [HR.out]; rfl, HB4.out⟩
          · have h3 : (t.k == 3) = false := by simpa using hk
            rw [if_neg hk] at hr
            have HR := Lib.hid hr
            clear hk hr
            go_wp2_with fail
            go_ret2
            exact ⟨by rw [HR.out]; rfl, HB4.out⟩
    · have hm2 : madeS t = false := by simpa using hm
      have hr := HWS.out
      rw [if_pos H0.out, if_neg hm] at hr
      rw [hm2]
      have HR := Lib.hid hr
      clear hm hm2 hr
      go_wp2_with fail
      go_ret2
      exact ⟨by rw [HR.out]; rfl, HB3.out⟩
  · have hr := HWS.out
    rw [if_neg h0] at hr
    rw [decide_eq_false h0]
    have HR := Lib.hid hr
    clear hr h0
    go_wp2_with fail
    go_ret2
    exact ⟨by rw [HR.out]; rfl, HB2.out⟩
end Go.Proofs.YtcibiiddigpnfaaGreatDoor
