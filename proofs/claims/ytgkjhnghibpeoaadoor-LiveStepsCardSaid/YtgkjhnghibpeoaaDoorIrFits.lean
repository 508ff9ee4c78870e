/- Whether an instruction, and an end, may be by itself. -/
import Derived.Test.YtgkjhnghibpeoaaDoorRows
import Derived.Test.YtgkjhnghibpeoaaDoorIrShaped
import Derived.Test.YtgkjhnghibpeoaaDoorIrLeaf
import Derived.LoopTactic
import Derived.LoopN
import Derived.Deep.LoopGhost
import Derived.WalkKit
import Derived.WalkSpells
import Derived.WalkLawsBesides
import Derived.Lib.Hide
import Derived.Deep.QuietTactic
import Derived.BigQuiet
namespace Go.Proofs.YtgkjhnghibpeoaaDoor
open Go.RowKit
set_option maxRecDepth 100000
attribute [local go_sem ↓] bld_eq bls_eq

set_option maxHeartbeats 1000000 in
theorem fits3 (B c m : Nat) (g : Gr) (W : Int) (M : List Bool) (i : In) (w : World) (h : CkAt w B c m g W M) (hk : i.k = 3) (ha : regB g.refs i.a = true) (hb : regB g.refs i.b = true) (hc : regB g.refs i.c = true) :
    Calls Tryd.prog 63 #[.pointer (some ⟨c, 0, none⟩), .agg #[.int .u8 i.k, .int .u8 i.o, .int .i64 i.a, .int .i64 i.b, .int .i64 i.c, .int .i64 i.n]] w fun e w' => e = .returned (.bool (fitsB g.refs W M i)) ∧ Below w.heap.size w w' := by
  have HR := Lib.hid (show fitsB g.refs W M i = calcB g.refs i by unfold fitsB; simp [hk])
  obtain ⟨W1, hW1⟩ : ∃ W1, W1 = w.alloc (.cells #[.int .u8 i.k, .int .u8 i.o, .int .i64 i.a, .int .i64 i.b, .int .i64 i.c, .int .i64 i.n] 46) := ⟨_, rfl⟩
  have hb1 : Below w.heap.size w W1 := by rw [hW1]; exact below_box w _
  have HC := Lib.hid (calc_any B c m g W M i W1 (h.keeps hb1) ha hb hc)
  have HB := Lib.hid hb1
  have HW := Lib.hid hW1
  clear h ha hb hc hb1 hW1
  obtain ⟨k, op, a, b, cc, n⟩ := i
  simp only at *
  subst hk
  go_enter Tryd.func63, Tryd.ntmps63
  go_wp2_with fail
  rw [← HW.out]
  refine HC.out.mono ?_; rintro e w2 ⟨rfl, hb2⟩
  have HB2 := Lib.hid (HB.out.trans (hb2.mono HB.out.size))
  clear hb2
  go_wp2_with fail
  go_ret
  exact ⟨by rw [HR.out]; rfl, HB2.out⟩

/-! ### What has the shape of its line has registers -/
theorem shp_cons {R : List Bool} {l : UInt8} {r : List UInt8} {i x : In} (h : shpS R (l :: r) i = some x) : ∃ j, shp1 R l i = some j ∧ shpS R r j = some x := by
  rw [shpS_cons] at h
  cases hj : shp1 R l i with
  | none => rw [hj] at h; cases h
  | some j => rw [hj] at h; exact ⟨j, rfl, h⟩
theorem shp_a {R : List Bool} {i j : In} (h : shp1 R 65 i = some j) : regB R i.a = true ∧ j.b = i.b ∧ j.c = i.c := by
  by_cases hg : regB R i.a = true
  · have e : shp1 R 65 i = some { i with a := 0 } := by unfold shp1; simp [hg]
    rw [e] at h; cases h; exact ⟨hg, rfl, rfl⟩
  · have e : shp1 R 65 i = none := by unfold shp1; simp [hg]
    rw [e] at h; cases h
theorem shp_b {R : List Bool} {i j : In} (h : shp1 R 66 i = some j) : regB R i.b = true ∧ j.c = i.c := by
  by_cases hg : regB R i.b = true
  · have e : shp1 R 66 i = some { i with b := 0 } := by unfold shp1; simp [hg]
    rw [e] at h; cases h; exact ⟨hg, rfl⟩
  · have e : shp1 R 66 i = none := by unfold shp1; simp [hg]
    rw [e] at h; cases h
theorem shp_c {R : List Bool} {i j : In} (h : shp1 R 67 i = some j) : regB R i.c = true := by
  by_cases hg : regB R i.c = true
  · exact hg
  · have e : shp1 R 67 i = none := by unfold shp1; simp [hg]
    rw [e] at h; cases h
theorem shp_d {R : List Bool} {i j : In} (h : shp1 R 45 i = some j) : i.c = -1 ∨ regB R i.c = true := by
  by_cases h1 : i.c = -1
  · exact .inl h1
  · by_cases hg : regB R i.c = true
    · exact .inr hg
    · have e : shp1 R 45 i = none := by unfold shp1; simp [hg, h1]
      rw [e] at h; cases h
theorem shp_o {R : List Bool} {i j : In} (h : shp1 R 111 i = some j) : j.a = i.a ∧ j.b = i.b ∧ j.c = i.c := by
  have e : shp1 R 111 i = some { i with o := 0 } := rfl
  rw [e] at h; cases h; exact ⟨rfl, rfl, rfl⟩
theorem shaped_eq {R : List Bool} {i : In} {has : ByteArray} (h : shaped R i has = true) : shpS R has.data.toList { i with k := 0 } = some noI := of_decide_eq_true h
theorem has_of (R : List Bool) (i : In) (hs : shaped R i (insHas i.k) = true) : Has R i := by
  refine ⟨fun hk => ?_, fun hk => ?_, fun hk => ?_, fun hk => ?_, fun hk => ?_, fun hk => ?_⟩
  · rw [hk] at hs
    obtain ⟨j, h1, _⟩ := shp_cons (l := 65) (r := [110]) (shaped_eq hs)
    exact (shp_a h1).1
  · rw [hk] at hs
    obtain ⟨j, h1, h2⟩ := shp_cons (l := 65) (r := [66]) (shaped_eq hs)
    obtain ⟨j2, h3, _⟩ := shp_cons (l := 66) (r := []) h2
    have e := shp_a h1
    refine ⟨e.1, ?_⟩
    have := (shp_b h3).1
    rw [e.2.1] at this; exact this
  · rw [hk] at hs
    obtain ⟨j0, h0, h00⟩ := shp_cons (l := 111) (r := [65, 66, 67]) (shaped_eq hs)
    obtain ⟨j, h1, h2⟩ := shp_cons (l := 65) (r := [66, 67]) h00
    obtain ⟨j2, h3, h4⟩ := shp_cons (l := 66) (r := [67]) h2
    obtain ⟨j3, h5, _⟩ := shp_cons (l := 67) (r := []) h4
    have e0 := shp_o h0
    have e := shp_a h1
    have e2 := shp_b h3
    have e3 := shp_c h5
    rw [e2.2, e.2.2, e0.2.2] at e3
    have e4 := e2.1
    rw [e.2.1, e0.2.1] at e4
    have e5 := e.1
    rw [e0.1] at e5
    exact ⟨e5, e4, e3⟩
  · rcases hk with hk | hk | hk
    all_goals rw [hk] at hs
    · obtain ⟨j, h1, _⟩ := shp_cons (l := 66) (r := []) (shaped_eq hs)
      exact (shp_b h1).1
    · obtain ⟨j, h1, _⟩ := shp_cons (l := 66) (r := [110]) (shaped_eq hs)
      exact (shp_b h1).1
    · obtain ⟨j, h1, _⟩ := shp_cons (l := 66) (r := []) (shaped_eq hs)
      exact (shp_b h1).1
  · rcases hk with hk | hk
    all_goals rw [hk] at hs
    · obtain ⟨j, h1, _⟩ := shp_cons (l := 65) (r := [110]) (shaped_eq hs)
      exact (shp_a h1).1
    · obtain ⟨j, h1, _⟩ := shp_cons (l := 65) (r := [110, 99]) (shaped_eq hs)
      exact (shp_a h1).1
  · have hh : insHas i.k = ⟨#[65, 66, 45, 110]⟩ := by rcases hk with hk | hk | hk | hk <;> rw [hk] <;> rfl
    rw [hh] at hs
    obtain ⟨j, h1, h2⟩ := shp_cons (l := 65) (r := [66, 45, 110]) (shaped_eq hs)
    obtain ⟨j2, h3, h4⟩ := shp_cons (l := 66) (r := [45, 110]) h2
    obtain ⟨j3, h5, _⟩ := shp_cons (l := 45) (r := [110]) h4
    have e := shp_a h1
    have e2 := shp_b h3
    have e3 := shp_d h5
    rw [e2.2, e.2.2] at e3
    have e4 := e2.1
    rw [e.2.1] at e4
    exact ⟨e.1, e4, e3⟩

/-- Where the sites' marks are behind a call. -/
def FitE (B c m : Nat) (g : Gr) (W : Int) (r : Bool) (M : List Bool) (w : World) (e : Ending) (w' : World) : Prop := e = .returned (.bool r) ∧ CkAt w' B c m g W M ∧ Aside m w w'
theorem fitE_of {B c m : Nat} {g : Gr} {W : Int} {M : List Bool} {i : In} {w : World} (h : CkAt w B c m g W M) (hk : ¬ i.k = 7) {e : Ending} {w' : World} (hq : e = .returned (.bool (fitsB g.refs W M i)) ∧ Below w.heap.size w w') : FitE B c m g W (fitsB g.refs W M i) (nextM g.refs W M i) w e w' :=
  ⟨hq.1, by rw [next_other hk]; exact h.keeps hq.2, Aside.of hq.2⟩
theorem fits_any (B c m : Nat) (g : Gr) (W : Int) (M : List Bool) (i : In) (w : World) (h : CkAt w B c m g W M) (hk : 1 ≤ i.k ∧ i.k ≤ 14) (hs : shaped g.refs i (insHas i.k) = true) :
    Calls Tryd.prog 63 #[.pointer (some ⟨c, 0, none⟩), .agg #[.int .u8 i.k, .int .u8 i.o, .int .i64 i.a, .int .i64 i.b, .int .i64 i.c, .int .i64 i.n]] w (FitE B c m g W (fitsB g.refs W M i) (nextM g.refs W M i) w) := by
  obtain ⟨H1, H2, H3, H4, H5, H6⟩ := has_of _ _ hs
  have hkk : i.k = 1 ∨ i.k = 2 ∨ i.k = 3 ∨ i.k = 4 ∨ i.k = 5 ∨ i.k = 6 ∨ i.k = 7 ∨ i.k = 8 ∨ i.k = 9 ∨ i.k = 10 ∨ i.k = 11 ∨ i.k = 12 ∨ i.k = 13 ∨ i.k = 14 := by omega
  rcases hkk with k | k | k | k | k | k | k | k | k | k | k | k | k | k
  · exact (fitsK1 B c m g W M i w h k (H1 k)).mono fun e w' hq => fitE_of h (by omega) hq
  · exact (fits2 B c m g W M i w h k (H2 k).1 (H2 k).2).mono fun e w' hq => fitE_of h (by omega) hq
  · exact (fits3 B c m g W M i w h k (H3 k).1 (H3 k).2.1 (H3 k).2.2).mono fun e w' hq => fitE_of h (by omega) hq
  · exact (fits4 B c m g W M i w h k (H4 (.inl k))).mono fun e w' hq => fitE_of h (by omega) hq
  · exact (fits5 B c m g W M i w h k (H4 (.inr (.inl k)))).mono fun e w' hq => fitE_of h (by omega) hq
  · exact (fits6 B c m g W M i w h k (H5 (.inl k))).mono fun e w' hq => fitE_of h (by omega) hq
  · exact fits7 B c m g W M i w h k (H5 (.inr k))
  · exact (fits8 B c m g W M i w h k (H6 (.inl k)).1 (H6 (.inl k)).2.1 (H6 (.inl k)).2.2).mono fun e w' hq => fitE_of h (by omega) hq
  · exact (fits9 B c m g W M i w h k (H6 (.inr (.inl k))).1 (H6 (.inr (.inl k))).2.1 (H6 (.inr (.inl k))).2.2).mono fun e w' hq => fitE_of h (by omega) hq
  · exact (fits10 B c m g W M i w h k (H6 (.inr (.inr (.inl k)))).1 (H6 (.inr (.inr (.inl k)))).2.1 (H6 (.inr (.inr (.inl k)))).2.2).mono fun e w' hq => fitE_of h (by omega) hq
  · exact (fits11 B c m g W M i w h k (H6 (.inr (.inr (.inr k)))).1 (H6 (.inr (.inr (.inr k)))).2.1 (H6 (.inr (.inr (.inr k)))).2.2).mono fun e w' hq => fitE_of h (by omega) hq
  · exact (fits12 B c m g W M i w h k (H4 (.inr (.inr k)))).mono fun e w' hq => fitE_of h (by omega) hq
  · exact (fits13 B c m g W M i w (.inl k)).mono fun e w' hq => fitE_of h (by omega) hq
  · exact (fits13 B c m g W M i w (.inr k)).mono fun e w' hq => fitE_of h (by omega) hq

instance (l : UInt8) : Decidable (Let l) := by unfold Let; infer_instance
theorem letters_ins (k : Int) : (∀ l ∈ (insHas k).data.toList, Let l) ∧ (insHas k).size ≤ 100 := by
  by_cases h : k = 1 ∨ k = 2 ∨ k = 3 ∨ k = 4 ∨ k = 5 ∨ k = 6 ∨ k = 7 ∨ k = 8 ∨ k = 9 ∨ k = 10 ∨ k = 11 ∨ k = 12
  · rcases h with rfl | rfl | rfl | rfl | rfl | rfl | rfl | rfl | rfl | rfl | rfl | rfl <;> exact ⟨by decide, by decide⟩
  · simp only [not_or] at h
    have e : insHas k = ⟨#[]⟩ := by unfold insHas; simp [h]
    rw [e]; exact ⟨fun l hl => by simp at hl, by decide⟩
theorem letters_last (k : Int) : (∀ l ∈ (lastHas k).data.toList, Let l) ∧ (lastHas k).size ≤ 100 := by
  by_cases h : k = 1 ∨ k = 2
  · rcases h with rfl | rfl <;> exact ⟨by decide, by decide⟩
  · simp only [not_or] at h
    have e : lastHas k = ⟨#[]⟩ := by unfold lastHas; simp [h]
    rw [e]; exact ⟨fun l hl => by simp at hl, by decide⟩

/-- The sites' marks behind an instruction. -/
def insM (R : List Bool) (W : Int) (M : List Bool) (i : In) : List Bool := if insB R W M i = true then nextM R W M i else M
theorem insM_yes {R : List Bool} {W : Int} {M : List Bool} {i : In} (h : insB R W M i = true) : insM R W M i = nextM R W M i := by unfold insM; rw [if_pos h]
theorem insM_no {R : List Bool} {W : Int} {M : List Bool} {i : In} (h : insB R W M i = false) : insM R W M i = M := by unfold insM; rw [if_neg (by rw [h]; exact Bool.false_ne_true)]
theorem insM_fit {R : List Bool} {W : Int} {M : List Bool} {i : In} (h : insB R W M i = fitsB R W M i) : insM R W M i = nextM R W M i := by
  cases hf : fitsB R W M i with
  | true => exact insM_yes (h.trans hf)
  | false =>
    rw [insM_no (h.trans hf)]
    by_cases hk : i.k = 7
    · exact (next7_no hf).symm
    · exact (next_other hk).symm
end Go.Proofs.YtgkjhnghibpeoaaDoor
