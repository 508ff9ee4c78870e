/- What package shape's four calls answer, of any program that lies in memory. -/
import Derived.Test.YtcibiiddigpnfaaGreatDoorRows
import Derived.Test.YtcibiiddigpnfaaGreatDoorShpFun
namespace Go.Proofs.YtcibiiddigpnfaaGreatDoor
open Go.RowKit
set_option maxRecDepth 100000
attribute [local go_sem ↓] bld_eq bls_eq
theorem boxP4 {w : World} (a b c d : Value) : (w.alloc (.cells #[a, b, c, d] 27)).heap[w.heap.size]? = some (.cells #[a, b, c, d] 27 (0, 0)) := (MapKept.heap_alloc _ _).1
theorem cells2S {r : Rc} {w : World} {g o : Nat} (h : ∀ j u, r.cells[j]? = some u → w.cell? ⟨g, o + j, none⟩ = some u) :
    w.cell? ⟨g, o, none⟩ = some (.string r.name) ∧ w.cell? ⟨g, o + 1, none⟩ = some r.v := ⟨h 0 _ rfl, h 1 _ rfl⟩
theorem recS_app (s : ByteArray) : ∀ (a b : List Rc), recS s a = none → recS s (a ++ b) = recS s b
  | [], _, _ => rfl
  | x :: a, b, h => by
    rw [recS] at h
    rw [List.cons_append, recS]
    split at h
    · cases h
    · rename_i h0
      rw [if_neg h0]; exact recS_app s a b h
theorem recS_here (s : ByteArray) (l : List Rc) (p : Nat) (hp : p < l.length) (h : recS s (l.take p) = none) (hs : l[p].name = s) : recS s l = some l[p] := by
  conv => lhs; rw [← List.take_append_drop p l]
  rw [recS_app s _ _ h, List.drop_eq_getElem_cons hp, recS, if_pos hs]
theorem recS_on (s : ByteArray) (l : List Rc) (p : Nat) (hp : p < l.length) (h : recS s (l.take p) = none) (hs : ¬ l[p].name = s) : recS s (l.take (p + 1)) = none := by
  rw [List.take_succ_eq_append_getElem hp, recS_app s _ _ h, recS, if_neg hs, recS]
theorem fields_lie (s : ByteArray) {w : World} {B : Nat} : ∀ (l : List Rc), (∀ r ∈ l, RIn w B r) → LiesG Fd.cells 4 w B (fieldsV s l) (fieldsS s l) := by
  intro l
  unfold fieldsV fieldsS
  induction l with
  | nil => intro _; exact nilS_lies
  | cons r l ih =>
    intro h
    rw [recS]
    split
    · exact (h r (by simp)).lies
    · exact ih fun a ha => h a (by simp [ha])
/-! ### The fields of a record -/
set_option maxHeartbeats 4000000 in
theorem fields_any (s : ByteArray) (P : Pr) (B : Nat) (w : World) (hBw : B ≤ w.heap.size) (hI : PIn w B P) :
    Calls Tryz.prog 38 #[.agg #[P.e.rv, P.e.sv, P.e.fv, P.tv], .string s] w fun e w' => e = .returned (fieldsV s P.e.records) ∧ Below w.heap.size w w' := by
  obtain ⟨ao0, cap0, ev, hlen, hgo⟩ := hI.e.rlies.form
  have hL := hI.e.rlies
  rw [ev] at hL ⊢
  obtain ⟨N, hN⟩ : ∃ N, N = P.e.records.length := ⟨_, rfl⟩
  rw [← hN] at hlen hgo hL ⊢
  obtain ⟨W1, hW1⟩ : ∃ W1, W1 = w.alloc (.cells #[.slice ao0 N cap0, P.e.sv, P.e.fv, P.tv] 27) := ⟨_, rfl⟩
  have hB1 : Below w.heap.size w W1 := by rw [hW1]; exact below_box w _
  have hO : W1.heap[w.heap.size]? = some (.cells #[.slice ao0 N cap0, P.e.sv, P.e.fv, P.tv] 27 (0, 0)) := by rw [hW1]; exact boxP4 _ _ _ _
  have hs1 : W1.heap.size = w.heap.size + 1 := by rw [hW1]; simp
  obtain ⟨q0, q1, q2, q3⟩ := cells_prog _ _ _ _ hO
  have HLI := Lib.hid (hL.below (hB1.mono hBw))
  have HIN := Lib.hid (fun r hr => (hI.e.records r hr).keeps (hB1.mono hBw))
  have HG := Lib.hid hgo
  have HN := Lib.hid hN
  have HB1 := Lib.hid hB1
  have HW := Lib.hid hW1
  have hN0 : (0 : Int) ≤ (N : Int) := by omega
  rw [hW1] at q0 q1 q2 q3
  clear hL hI hgo hN hB1 hO hW1 ev
  go_enter Tryz.func38, Tryz.ntmps38
  go_wp2_with fail
  rw [← HW.out]
  go_loopw [10] (fun q wr => ∃ p : Nat, p ≤ N ∧ q = .int .i64 p ∧ Below W1.heap.size W1 wr ∧ Hid (recS s (P.e.records.take p) = none)) (fun q _ => N - (intOf q).toNat)
  case atStart => exact ⟨0, by omega, rfl, Below.refl _ _, Lib.hid rfl⟩
  case round =>
    obtain ⟨p, hp, rfl, hB, hF⟩ := hrel
    have hsr := hB.size
    by_cases hlt2 : p < N
    · have hpx : p < P.e.records.length := by rw [← HN.out]; exact hlt2
      obtain ⟨g, off, rfl, hg⟩ := HG.out (by omega)
      have hat := ((HLI.out.below (hB.mono (by omega))).at rfl p hpx).2
      have hma := HIN.out _ (List.getElem_mem hpx)
      have HX := Lib.hid (fun h => recS_here s P.e.records p hpx hF.out h)
      have HY := Lib.hid (fun h => recS_on s P.e.records p hpx hF.out h)
      generalize P.e.records[p] = a at hat hma HX HY
      obtain ⟨p0, p1⟩ := cells2S hat
      obtain ⟨ao, cap, ea, -⟩ := hma.lies.form
      have HE := Lib.hid ea
      rw [ea] at p1
      have hgs : g < wr.heap.size := by omega
      have HB := Lib.hid hB
      have HB5 := Lib.hid ((HB1.out.trans (hB.mono (by omega))).alloc (by omega) (.cells #[.string a.name, .slice ao a.fields.length cap] 51))
      have HB6 := Lib.hid (hB.alloc (by omega) (.cells #[.string a.name, .slice ao a.fields.length cap] 51))
      have hq := str_eqS a.name s
      clear hat hF hB hma ea
      by_cases hs : a.name = s
      · have HR := Lib.hid (HX.out hs)
        rw [decide_eq_true hs] at hq
        clear hs
        go_wp2_with fail
        go_ret
        exact ⟨by unfold fieldsV; rw [HR.out]; simp [HE.out]; try rfl, HB5.out⟩
      · have HR := Lib.hid (HY.out hs)
        rw [decide_eq_false hs] at hq
        clear hs
        go_wp2_with fail
        go_roundw
        case rel => exact ⟨p + 1, by omega, by go_num, HB6.out, HR⟩
        case measure => simp [intOf]; omega
    · have HR := Lib.hid (show fieldsV s P.e.records = .slice none 0 0 by
        have e : P.e.records.take p = P.e.records := List.take_of_length_le (by rw [← HN.out]; omega)
        have h := hF.out
        rw [e] at h
        unfold fieldsV
        rw [h]; rfl)
      have HB5 := Lib.hid (HB1.out.trans (hB.mono (by omega)))
      clear hB hF
      go_wp2_with fail
      go_ret
      exact ⟨by rw [HR.out]; rfl, HB5.out⟩
/-! ### May it be made? -/
set_option maxHeartbeats 2000000 in
theorem made_any (t : Ty) (w : World) (ht : TyOk t) :
    Calls Tryz.prog 37 #[.agg #[.int .u8 t.k, .string t.n, .int .i64 t.z]] w fun e w' => e = .returned (.bool (madeS t)) ∧ Below w.heap.size w w' := by
  have m1 := bld_of 49 #[(0, .string ⟨#[97]⟩), (1, .agg #[.int .u8 t.k, .string t.n, .int .i64 t.z])] #[.string ⟨#[97]⟩, .int .u8 t.k, .string t.n, .int .i64 t.z] (by kernel_rfl)
  have m2 := bls_of 23 49 1 4 #[(0, .agg #[.string ⟨#[97]⟩, .int .u8 t.k, .string t.n, .int .i64 t.z])] #[.string ⟨#[97]⟩, .int .u8 t.k, .string t.n, .int .i64 t.z] (by kernel_rfl) (by kernel_rfl) (by kernel_rfl) (by omega) (by omega) (by kernel_rfl) (by kernel_rfl)
  have m3 := fun (b : Nat) => bld_of 27 #[(1, .slice (some ⟨b, 0, none⟩) 1 1)] #[.slice none 0 0, .slice (some ⟨b, 0, none⟩) 1 1, .slice none 0 0, .slice none 0 0] (by kernel_rfl)
  obtain ⟨W1, hW1⟩ : ∃ W1, W1 = w.alloc (.cells #[.int .u8 t.k, .string t.n, .int .i64 t.z] 40) := ⟨_, rfl⟩
  have hB1 : Below w.heap.size w W1 := by rw [hW1]; exact below_box w _
  have hs1 : W1.heap.size = w.heap.size + 1 := by rw [hW1]; simp
  obtain ⟨W2, hW2⟩ : ∃ W2, W2 = W1.alloc (.cells #[.string ⟨#[97]⟩, .int .u8 t.k, .string t.n, .int .i64 t.z] 49) := ⟨_, rfl⟩
  have hB2 : Below W1.heap.size W1 W2 := by rw [hW2]; exact below_box W1 _
  have hs2 : W2.heap.size = W1.heap.size + 1 := by rw [hW2]; simp
  have hO2 : W2.heap[w.heap.size + 1]? = some (.cells #[.string ⟨#[97]⟩, .int .u8 t.k, .string t.n, .int .i64 t.z] 49 (0, 0)) := by rw [← hs1, hW2]; exact (MapKept.heap_alloc _ _).1
  have hP : PIn W2 W2.heap.size (oneV (.slice (some ⟨w.heap.size + 1, 0, none⟩) 1 1) t) := by
    refine ⟨⟨nilS_lies, (fun a ha => by cases ha), oneS_lies (by omega) hO2 rfl, fun f hf => ?_, nilS_lies, (fun a ha => by cases ha)⟩, nilS_lies, (fun a ha => by cases ha)⟩
    have hf2 : f = ⟨⟨#[97]⟩, t⟩ := by simpa [oneV] using hf
    subst hf2
    exact ⟨by show (1 : Nat) ≤ _; omega, ht⟩
  have HC := Lib.hid (types_check_any _ W2.heap.size W2 (Nat.le_refl _) hP)
  rw [oneV_alike] at HC
  have hB3 := Lib.hid (hB1.trans (hB2.mono (by omega)))
  have hs3 : w.heap.size ≤ W2.heap.size := by omega
  have HB1 := Lib.hid hB1
  have HW1 := Lib.hid hW1
  have HW2 := Lib.hid hW2
  have hm : madeS t = ((decide (t.k = 2) || decide (t.k = 3)) && decide ((typesT (oneV (.slice none 0 0) t)).2 ≠ 1)) := rfl
  obtain ⟨r, hr⟩ : ∃ r, r = typesT (oneV (.slice none 0 0) t) := ⟨_, rfl⟩
  obtain ⟨r1, r2⟩ := r
  rw [← hr] at HC hm
  have HM := Lib.hid hm
  have HB0 := Lib.hid (below_box w (.cells #[.int .u8 t.k, .string t.n, .int .i64 t.z] 40))
  clear hB1 hB2 hO2 hP ht hr hm
  by_cases hk : t.k = 2 ∨ t.k = 3
  · have hkk : (decide (t.k = 2) || decide (t.k = 3)) = true := by rcases hk with hk | hk <;> simp [hk]
    rw [hkk, Bool.true_and] at HM
    rw [HM.out]
    have HK : Hid (Calls Tryz.prog 8 #[.agg #[.slice none 0 0, .slice (some ⟨w.heap.size + 1, 0, none⟩) 1 1, .slice none 0 0, .slice none 0 0]] W2 fun e w' => e = .returned (.tuple #[.int .i64 r1, .int .i64 r2]) ∧ Below W2.heap.size W2 w') := HC
    clear HC HM hkk
    rcases hk with hk | hk
    all_goals
      have hk2 := hk
      rw [hk] at m1 m2 HW1 HW2
      rw [hk]
      go_enter Tryz.func37, Tryz.ntmps37
      go_wp2_with fail
      rw [← HW1.out, ← HW2.out]
      refine HK.out.mono ?_; rintro e w2 ⟨rfl, hb2⟩
      have HB2 := Lib.hid (hB3.out.trans (hb2.mono hs3))
      clear hb2
      by_cases h1 : r2 = 1
      · subst h1
        go_wp2_with fail
        go_ret
        exact ⟨rfl, HB2.out⟩
      · have hq : (r2 != 1) = true := bne_iff_ne.2 h1
        have hd : decide (r2 ≠ 1) = true := by simpa using h1
        go_wp2_with fail
        go_ret
        exact ⟨by rw [hd]; rfl, HB2.out⟩
  · have h2 : (t.k != 2) = true := bne_iff_ne.2 fun h => hk (.inl h)
    have h3 : (t.k != 3) = true := bne_iff_ne.2 fun h => hk (.inr h)
    have hkk : (decide (t.k = 2) || decide (t.k = 3)) = false := by simp; exact ⟨fun h => hk (.inl h), fun h => hk (.inr h)⟩
    rw [hkk, Bool.false_and] at HM
    rw [HM.out]
    clear HC HM hkk hk
    go_enter Tryz.func37, Tryz.ntmps37
    go_wp2_with fail
    go_ret
    exact ⟨rfl, HB0.out⟩
end Go.Proofs.YtcibiiddigpnfaaGreatDoor
