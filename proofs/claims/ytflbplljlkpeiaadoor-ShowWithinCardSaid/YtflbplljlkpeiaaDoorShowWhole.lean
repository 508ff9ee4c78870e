/- What the show layer's Check answers, of whatever tree its walk goes through: 0, or the first error. -/
import Derived.Test.YtflbplljlkpeiaaDoorRows
import Derived.Test.YtflbplljlkpeiaaDoorShowList
import Derived.Test.YtflbplljlkpeiaaDoorShowTop2
import Derived.Deep.DrawnRows
import Derived.RegionTactic
import Derived.Deep.RegionHeld3
import Derived.WalkKit
import Derived.WalkSpells
import Derived.WalkLawsBesides
import Derived.Lib.Hide
namespace Go.Proofs.YtflbplljlkpeiaaDoor
open Go.RowKit
attribute [local go_sem ↓] Go.wp_at_zero Go.wp_at_succ

/-- What a walk's outcome is told as. -/
def Rn : Except Int Nat → Int
  | .ok _ => 0
  | .error k => k
theorem went_rn {B c : Nat} {R : Except Int Nat} {w w' : World} {e : Ending} (h : Went B c R w e w') (hR : ∀ k, R = .error k → k = 1 ∨ k = 3) (hB : B ≤ c) (hBw : B ≤ w.heap.size) : e = ended (Rn R) ∧ Below B w w' := by
  refine ⟨?_, h.1.below hB hBw⟩
  cases R with
  | ok m => exact (h.yes rfl).1
  | error k =>
    show e = ended k
    rw [ended_no (by rcases hR k rfl with rfl | rfl <;> decide)]
    exact (h.not rfl).1
theorem rn_cases {R : Except Int Nat} (hR : ∀ k, R = .error k → k = 1 ∨ k = 3) : Rn R = 0 ∨ Rn R = 1 ∨ Rn R = 3 := by
  cases R with
  | ok m => exact .inl rfl
  | error k => rcases hR k rfl with rfl | rfl <;> simp [Rn]

def Own4 (b : Nat) (a0 a1 a2 a3 : Value) (w : World) : Prop :=
  w.cell? ⟨b, 0, none⟩ = some a0 ∧ w.cell? ⟨b, 1, none⟩ = some a1 ∧ w.cell? ⟨b, 2, none⟩ = some a2 ∧ w.cell? ⟨b, 3, none⟩ = some a3

set_option maxHeartbeats 2000000 in
theorem check1_any (b : Nat) (a0 a1 a2 a3 : Value) (R : Except Int Nat) (hR : ∀ k, R = .error k → k = 1 ∨ k = 3) (w : World) (h : w.heap[b]? = some (.cells #[a0, a1, a2, a3] 43 (0, 0)))
    (HP : ∀ c w1, Ck w.heap.size c 0 w1 → Below w.heap.size w w1 → Calls Tryd.prog 43 #[.pointer (some ⟨c, 0, none⟩), .agg #[a0, a1, a2, a3]] w1 (Went w.heap.size c R w1)) :
    Calls Tryd.prog 42 #[.pointer (some ⟨b, 0, none⟩)] w (Ends (Rn R) w) := by
  have hbl : b < w.heap.size := (Array.getElem?_eq_some_iff.1 h).1
  obtain ⟨q0, q1, q2, q3⟩ := cells_prog _ _ _ _ h
  have HN := Lib.hid (newck_any w.drew)
  have HX := Lib.hid HP
  have HO := Lib.hid h
  have hc := rn_cases hR
  obtain ⟨r, hr⟩ : ∃ r, r = Rn R := ⟨_, rfl⟩
  have hwe := fun (c : Nat) (w1 : World) (e : Ending) (w' : World) (hq : Went w.heap.size c R w1 e w') (h1 : w.heap.size ≤ c) (h2 : w.heap.size ≤ w1.heap.size) => went_rn hq hR h1 h2
  rw [← hr] at hwe hc ⊢
  have HW := Lib.hid hwe
  clear h hwe hr HP hR
  rcases hc with rfl | rfl | rfl
  · go_enter Tryd.func42, Tryd.ntmps42
    go_wp2_with fail
    refine wp_region_held_drew (S := Own4 b a0 a1 a2 a3) (by kernel_rfl) (cells_prog _ _ _ _ HO.out) (fun hSw => ?_)
    refine wpAnyH_take (i := 1) (oi := { dst := some 2, op := Op.load 43 (Operand.tmp 0), type := 43, pos := "show.go:8", after := #[], guard := none }) (v := .agg #[a0, a1, a2, a3]) rfl (by kernel_rfl) (by kernel_rfl) (by kernel_rfl) (fun _ _ _ h => h) (Or.inl ⟨by rfl, fun W hW => ?_⟩) hSw ?_
    · obtain ⟨s0, s1, s2, s3⟩ := hW
      first | (go_simp; done) | rfl
    try simp only [Act.put, List.setIfInBounds_toArray, List.set_cons_zero, List.set_cons_succ]
    refine wpAnyH_ready (rs := [0]) (by kernel_rfl) (by simp) ?_
    refine AllReadyH.cons (o := { dst := some 1, op := Op.call { callee := Callee.value (Operand.func 26), args := #[], argTypes := #[] }, type := 64, pos := "show.go:8", after := #[], guard := none }) rfl (fun K hK => ?_) AllReadyH.nil
    rw [if_pos (by rfl)]
    clear hSw
    go_simp
    refine HN.out.mono ?_
    rintro e w1 ⟨c, rfl, hC, hb⟩
    have hO1 := (hb.block _ (by show b < w.heap.size; omega)).trans HO.out
    have HS1 := Lib.hid (show Own4 b a0 a1 a2 a3 w1 from cells_prog _ _ _ _ hO1)
    have HO1 := Lib.hid hO1
    have HC := Lib.hid hC
    have HB1 := Lib.hid (show Below w.heap.size w w1 from (Below.drew (Below.refl _ _)).trans hb)
    have hBc : w.heap.size ≤ c := hC.1
    clear hC hb hO1
    refine hK.out _ _ HS1.out (fun hSw => ?_)
    clear hK K
    try simp only [Act.put, List.setIfInBounds_toArray, List.set_cons_zero, List.set_cons_succ]
    refine wpAnyH_ready (rs := [2]) (by kernel_rfl) (by simp) ?_
    refine AllReadyH.cons (o := { dst := some 3, op := Op.call { callee := Callee.value (Operand.func 43), args := #[Operand.tmp 1, Operand.tmp 2], argTypes := #[64, 43] }, type := 0, pos := "show.go:8", after := #[{ on := 0, ground := Ground.data }, { on := 1, ground := Ground.data }, { on := 0, ground := Ground.chain }], guard := none }) rfl (fun K hK => ?_) AllReadyH.nil
    rw [if_pos (by rfl)]
    clear hSw
    go_simp
    refine (HX.out _ _ HC.out HB1.out).mono ?_
    rintro e w2 hq
    obtain ⟨he, hb2⟩ := HW.out _ _ _ _ hq hBc HB1.out.size
    clear hq
    rw [ended_ok rfl] at he
    subst he
    have HS2 := Lib.hid (show Own4 b a0 a1 a2 a3 w2 from cells_prog _ _ _ _ ((hb2.block _ (by omega)).trans HO1.out))
    refine hK.out _ _ HS2.out (fun hSw => ?_)
    clear hK K
    try simp only [Act.put, List.setIfInBounds_toArray, List.set_cons_zero, List.set_cons_succ]
    refine wpAnyH_done (by kernel_rfl) ?_ _
    go_wp2_with fail
    go_end0
    exact Ends.ok rfl (HB1.out.trans hb2)
  · go_enter Tryd.func42, Tryd.ntmps42
    go_wp2_with fail
    refine wp_region_held_drew (S := Own4 b a0 a1 a2 a3) (by kernel_rfl) (cells_prog _ _ _ _ HO.out) (fun hSw => ?_)
    refine wpAnyH_take (i := 1) (oi := { dst := some 2, op := Op.load 43 (Operand.tmp 0), type := 43, pos := "show.go:8", after := #[], guard := none }) (v := .agg #[a0, a1, a2, a3]) rfl (by kernel_rfl) (by kernel_rfl) (by kernel_rfl) (fun _ _ _ h => h) (Or.inl ⟨by rfl, fun W hW => ?_⟩) hSw ?_
    · obtain ⟨s0, s1, s2, s3⟩ := hW
      first | (go_simp; done) | rfl
    try simp only [Act.put, List.setIfInBounds_toArray, List.set_cons_zero, List.set_cons_succ]
    refine wpAnyH_ready (rs := [0]) (by kernel_rfl) (by simp) ?_
    refine AllReadyH.cons (o := { dst := some 1, op := Op.call { callee := Callee.value (Operand.func 26), args := #[], argTypes := #[] }, type := 64, pos := "show.go:8", after := #[], guard := none }) rfl (fun K hK => ?_) AllReadyH.nil
    rw [if_pos (by rfl)]
    clear hSw
    go_simp
    refine HN.out.mono ?_
    rintro e w1 ⟨c, rfl, hC, hb⟩
    have hO1 := (hb.block _ (by show b < w.heap.size; omega)).trans HO.out
    have HS1 := Lib.hid (show Own4 b a0 a1 a2 a3 w1 from cells_prog _ _ _ _ hO1)
    have HO1 := Lib.hid hO1
    have HC := Lib.hid hC
    have HB1 := Lib.hid (show Below w.heap.size w w1 from (Below.drew (Below.refl _ _)).trans hb)
    have hBc : w.heap.size ≤ c := hC.1
    clear hC hb hO1
    refine hK.out _ _ HS1.out (fun hSw => ?_)
    clear hK K
    try simp only [Act.put, List.setIfInBounds_toArray, List.set_cons_zero, List.set_cons_succ]
    refine wpAnyH_ready (rs := [2]) (by kernel_rfl) (by simp) ?_
    refine AllReadyH.cons (o := { dst := some 3, op := Op.call { callee := Callee.value (Operand.func 43), args := #[Operand.tmp 1, Operand.tmp 2], argTypes := #[64, 43] }, type := 0, pos := "show.go:8", after := #[{ on := 0, ground := Ground.data }, { on := 1, ground := Ground.data }, { on := 0, ground := Ground.chain }], guard := none }) rfl (fun K hK => ?_) AllReadyH.nil
    rw [if_pos (by rfl)]
    clear hSw
    go_simp
    refine (HX.out _ _ HC.out HB1.out).mono ?_
    rintro e w2 hq
    obtain ⟨he, hb2⟩ := HW.out _ _ _ _ hq hBc HB1.out.size
    clear hq
    rw [ended_no (by decide)] at he
    subst he
    exact ⟨rfl, Ends.arg rfl (HB1.out.trans hb2)⟩
  · go_enter Tryd.func42, Tryd.ntmps42
    go_wp2_with fail
    refine wp_region_held_drew (S := Own4 b a0 a1 a2 a3) (by kernel_rfl) (cells_prog _ _ _ _ HO.out) (fun hSw => ?_)
    refine wpAnyH_take (i := 1) (oi := { dst := some 2, op := Op.load 43 (Operand.tmp 0), type := 43, pos := "show.go:8", after := #[], guard := none }) (v := .agg #[a0, a1, a2, a3]) rfl (by kernel_rfl) (by kernel_rfl) (by kernel_rfl) (fun _ _ _ h => h) (Or.inl ⟨by rfl, fun W hW => ?_⟩) hSw ?_
    · obtain ⟨s0, s1, s2, s3⟩ := hW
      first | (go_simp; done) | rfl
    try simp only [Act.put, List.setIfInBounds_toArray, List.set_cons_zero, List.set_cons_succ]
    refine wpAnyH_ready (rs := [0]) (by kernel_rfl) (by simp) ?_
    refine AllReadyH.cons (o := { dst := some 1, op := Op.call { callee := Callee.value (Operand.func 26), args := #[], argTypes := #[] }, type := 64, pos := "show.go:8", after := #[], guard := none }) rfl (fun K hK => ?_) AllReadyH.nil
    rw [if_pos (by rfl)]
    clear hSw
    go_simp
    refine HN.out.mono ?_
    rintro e w1 ⟨c, rfl, hC, hb⟩
    have hO1 := (hb.block _ (by show b < w.heap.size; omega)).trans HO.out
    have HS1 := Lib.hid (show Own4 b a0 a1 a2 a3 w1 from cells_prog _ _ _ _ hO1)
    have HO1 := Lib.hid hO1
    have HC := Lib.hid hC
    have HB1 := Lib.hid (show Below w.heap.size w w1 from (Below.drew (Below.refl _ _)).trans hb)
    have hBc : w.heap.size ≤ c := hC.1
    clear hC hb hO1
    refine hK.out _ _ HS1.out (fun hSw => ?_)
    clear hK K
    try simp only [Act.put, List.setIfInBounds_toArray, List.set_cons_zero, List.set_cons_succ]
    refine wpAnyH_ready (rs := [2]) (by kernel_rfl) (by simp) ?_
    refine AllReadyH.cons (o := { dst := some 3, op := Op.call { callee := Callee.value (Operand.func 43), args := #[Operand.tmp 1, Operand.tmp 2], argTypes := #[64, 43] }, type := 0, pos := "show.go:8", after := #[{ on := 0, ground := Ground.data }, { on := 1, ground := Ground.data }, { on := 0, ground := Ground.chain }], guard := none }) rfl (fun K hK => ?_) AllReadyH.nil
    rw [if_pos (by rfl)]
    clear hSw
    go_simp
    refine (HX.out _ _ HC.out HB1.out).mono ?_
    rintro e w2 hq
    obtain ⟨he, hb2⟩ := HW.out _ _ _ _ hq hBc HB1.out.size
    clear hq
    rw [ended_no (by decide)] at he
    subst he
    exact ⟨rfl, Ends.limit rfl (HB1.out.trans hb2)⟩

set_option maxHeartbeats 1000000 in
/-- What Check answers of a tree that its walk goes through so. -/
theorem scheck_any (a0 a1 a2 a3 : Value) (R : Except Int Nat) (hR : ∀ k, R = .error k → k = 1 ∨ k = 3) (w : World)
    (HP : ∀ B c w1, Ck B c 0 w1 → w.heap.size ≤ B → B ≤ w1.heap.size → Below w.heap.size w w1 → Calls Tryd.prog 43 #[.pointer (some ⟨c, 0, none⟩), .agg #[a0, a1, a2, a3]] w1 (Went B c R w1)) :
    Calls Tryd.prog 22 #[.agg #[a0, a1, a2, a3]] w fun e w' => e = .returned (.int .i64 (Rn R)) ∧ Below w.heap.size w w' := by
  have hmf : ∀ (fn : Fn) (first cap : Array Value) (w : World), (Instr.makeFunc fn first cap).run Tryd.prog w = .ok (.func fn first cap) w := fun _ _ _ _ => rfl
  have hB1 := below_box w (.cells #[a0, a1, a2, a3] 43)
  have hB2 := below_box (w.alloc (.cells #[a0, a1, a2, a3] 43)) (.cells #[.int .i64 0] 25)
  have hB := hB1.trans (hB2.mono hB1.size)
  have hT := check1_any w.heap.size a0 a1 a2 a3 R hR ((w.alloc (.cells #[a0, a1, a2, a3] 43)).alloc (.cells #[.int .i64 0] 25)) (by
    rw [Below.heap_alloc _ _ _ (by simp)]
    exact (MapKept.heap_alloc _ _).1) (fun c w1 h1 h2 => HP _ c w1 h1 hB.size h2.size (hB.trans (h2.mono hB.size)))
  have HC := Lib.hid (caught_check ⟨w.heap.size, 0, none⟩ (Rn R) (rn_cases hR) _ hT)
  have HB := Lib.hid hB1
  clear hT hB1 hB2 hB HP
  go_enter Tryd.func22, Tryd.ntmps22
  go_wp2_with (go_at_call 14; refine HC.out.mono ?_; rintro e w2 ⟨rfl, hb2⟩)
  go_ret
  exact ⟨rfl, HB.out.trans (hb2.mono (by simp))⟩
end Go.Proofs.YtflbplljlkpeiaaDoor
