/- Where a checker lies in memory, and what it says of instructions' registers and numbers. -/
import Derived.Test.YtgkjhnghibpeoaaDoorRows
import Derived.Test.YtgkjhnghibpeoaaDoorIrLeaf
import Derived.LoopTactic
import Derived.LoopN
import Derived.Deep.LoopGhost
import Derived.WalkKit
import Derived.WalkSpells
import Derived.WalkLawsBesides
import Derived.Lib.Hide
import Derived.Deep.QuietTactic
import Derived.BigQuiet
namespace Go.Proofs.YtgkjhnghibpeoaaDoor
open Go.RowKit
set_option maxRecDepth 100000
attribute [local go_sem ↓] bld_eq bls_eq

/-- Nothing that was there is another but the block m. -/
structure Aside (m : Nat) (w w' : World) : Prop where
  os : w'.os = w.os
  tape : w'.tape = w.tape
  output : w'.output = w.output
  size : w.heap.size ≤ w'.heap.size
  block : ∀ k, k < w.heap.size → k ≠ m → w'.heap[k]? = w.heap[k]?
theorem Aside.refl (m : Nat) (w : World) : Aside m w w := ⟨rfl, rfl, rfl, Nat.le_refl _, fun _ _ _ => rfl⟩
theorem Aside.trans {m : Nat} {a b c : World} (h : Aside m a b) (k : Aside m b c) : Aside m a c :=
  ⟨k.os.trans h.os, k.tape.trans h.tape, k.output.trans h.output, Nat.le_trans h.size k.size, fun i hi hm => (k.block i (by have := h.size; omega) hm).trans (h.block i hi hm)⟩
theorem Aside.of {m : Nat} {a b : World} (h : Below a.heap.size a b) : Aside m a b := ⟨h.os, h.tape, h.output, h.size, fun k hk _ => h.block k hk⟩
theorem Aside.alloc {m : Nat} {a b : World} (h : Aside m a b) (o : Obj) : Aside m a (b.alloc o) := h.trans (Aside.of (below_box b o))
theorem Aside.drewN {m : Nat} {a b : World} (h : Aside m a b) (n : Nat) : Aside m a (b.drewN n) := ⟨h.os, h.tape, h.output, h.size, h.block⟩
theorem Aside.drew {m : Nat} {a b : World} (h : Aside m a b) : Aside m a b.drew := ⟨h.os, h.tape, h.output, h.size, h.block⟩
theorem Aside.below {m B : Nat} {a b : World} (h : Aside m a b) (hB : B ≤ a.heap.size) (hm : B ≤ m) : Below B a b := ⟨h.os, h.tape, h.output, h.size, fun k hk => h.block k (by omega) (by omega)⟩
theorem Aside.set {m : Nat} {a b : World} (h : Aside m a b) (k : Nat) (v : Value) : Aside m a (b.setCell ⟨m, k, none⟩ v) :=
  h.trans ⟨rfl, rfl, rfl, by simp [World.setCell], fun j _ hm => Below.heap_setCell _ _ _ _ hm⟩
theorem below_drewN {B : Nat} {a w : World} (h : Below B a w) (n : Nat) : Below B a (w.drewN n) := ⟨h.os, h.tape, h.output, h.size, h.block⟩

/-- A checker at c, whose row of sites is at m. -/
structure CkAt (w : World) (B c m : Nat) (g : Gr) (W : Int) (M : List Bool) : Prop where
  box : w.heap[c]? = some (.cells #[g.rv, .int .i64 g.sites, g.bv, .int .i64 W, .slice (some ⟨m, 0, none⟩) M.length M.length] 103 (0, 0))
  made : w.heap[m]? = some (.cells (M.map Value.bool).toArray 4 (0, 0))
  here : GIn w B g
  base : B ≤ c ∧ B ≤ m ∧ c ≠ m ∧ B ≤ w.heap.size
  words : -9223372036854775808 ≤ W ∧ W ≤ 9223372036854775807
  many : M.length ≤ 8192
theorem CkAt.lt {w : World} {B c m : Nat} {g : Gr} {W : Int} {M : List Bool} (h : CkAt w B c m g W M) : c < w.heap.size ∧ m < w.heap.size := ⟨(Array.getElem?_eq_some_iff.1 h.box).1, (Array.getElem?_eq_some_iff.1 h.made).1⟩
theorem CkAt.keeps {w w' : World} {B c m : Nat} {g : Gr} {W : Int} {M : List Bool} (h : CkAt w B c m g W M) (hb : Below w.heap.size w w') : CkAt w' B c m g W M :=
  ⟨(hb.block _ h.lt.1).trans h.box, (hb.block _ h.lt.2).trans h.made, h.here.keeps (hb.mono h.base.2.2.2), ⟨h.base.1, h.base.2.1, h.base.2.2.1, Nat.le_trans h.base.2.2.2 hb.size⟩, h.words, h.many⟩

/-- What a walk reads of a checker's registers. -/
theorem regs_form {w : World} {B : Nat} {g : Gr} (h : GIn w B g) {r : Int} (hr : regB g.refs r = true) : ∃ b off cap, g.rv = .slice (some ⟨b, off, none⟩) g.refs.length cap ∧ b < B := by
  unfold regB at hr
  simp only [Bool.and_eq_true, decide_eq_true_eq] at hr
  obtain ⟨ao, cap, e, -, hg⟩ := h.rlies.form
  obtain ⟨b, off, rfl, hb⟩ := hg (by omega)
  exact ⟨b, off, cap, e, hb⟩
theorem reg_nat {R : List Bool} {r : Int} (h : regB R r = true) : ∃ n : Nat, r = (n : Int) ∧ n < R.length := by
  unfold regB at h
  simp only [Bool.and_eq_true, decide_eq_true_eq] at h
  exact ⟨r.toNat, by omega, by omega⟩

/-- The kinds that only read: the registers that they have are there. -/
def Has (R : List Bool) (i : In) : Prop :=
  (i.k = 1 → regB R i.a = true) ∧ (i.k = 2 → regB R i.a = true ∧ regB R i.b = true) ∧ (i.k = 3 → regB R i.a = true ∧ regB R i.b = true ∧ regB R i.c = true) ∧ (i.k = 4 ∨ i.k = 5 ∨ i.k = 12 → regB R i.b = true) ∧ (i.k = 6 ∨ i.k = 7 → regB R i.a = true) ∧
  (i.k = 8 ∨ i.k = 9 ∨ i.k = 10 ∨ i.k = 11 → regB R i.a = true ∧ regB R i.b = true ∧ (i.c = -1 ∨ regB R i.c = true))
set_option maxHeartbeats 8000000 in
theorem fitsK1 (B c m : Nat) (g : Gr) (W : Int) (M : List Bool) (i : In) (w : World) (h : CkAt w B c m g W M) (hk : i.k = 1) (ha : regB g.refs i.a = true) :
    Calls Tryd.prog 63 #[.pointer (some ⟨c, 0, none⟩), .agg #[.int .u8 i.k, .int .u8 i.o, .int .i64 i.a, .int .i64 i.b, .int .i64 i.c, .int .i64 i.n]] w fun e w' => e = .returned (.bool (fitsB g.refs W M i)) ∧ Below w.heap.size w w' := by
  obtain ⟨b0, off, cap, er, hb0⟩ := regs_form h.here ha
  obtain ⟨na, ea, la⟩ := reg_nat ha
  have ta := h.here.rlies.bit er na la
  have hr : fitsB g.refs W M i = fitsB g.refs W M i := rfl
  conv at hr => rhs; unfold fitsB
  simp only [hk, Int.reduceEq, if_true, if_false, or_false] at hr
  have hq := h.box
  rw [er] at hq
  obtain ⟨q0, q1, q2, q3, q4⟩ := own5 hq
  have hlc := h.lt.1
  have hlb : b0 < w.heap.size := by have := h.base.2.2.2; omega
  have hW := h.words
  obtain ⟨k, op, a, b, cc, n⟩ := i
  simp only at *
  subst hk
  subst ea
  obtain ⟨NR, hNR⟩ : ∃ N, N = g.refs.length := ⟨_, rfl⟩
  rw [← hNR] at q0 la
  have hroom : NR ≤ 140737488351232 := by rw [hNR]; exact h.here.rlies.room
  generalize hxa : refB g.refs (na : Int) = xa at ta hr
  have HR := Lib.hid hr
  clear h hr hq er hNR ha hxa
  by_cases hn : n = 0
  all_goals
    first | rw [decide_eq_true hn] at HR | rw [decide_eq_false hn] at HR
    have hq : (n == 0) = decide (n = 0) := rfl
    first | rw [decide_eq_true hn] at hq | rw [decide_eq_false hn] at hq
    clear hn
    cases xa
    all_goals
      go_enter Tryd.func63, Tryd.ntmps63
      go_wp2_with fail
      go_quiet (fail)
      go_wp2_with fail
      go_ret
      exact ⟨by rw [HR.out]; rfl, below_drewN (below_box w _) _⟩
set_option maxHeartbeats 8000000 in
theorem fits2 (B c m : Nat) (g : Gr) (W : Int) (M : List Bool) (i : In) (w : World) (h : CkAt w B c m g W M) (hk : i.k = 2) (ha : regB g.refs i.a = true) (hb : regB g.refs i.b = true) :
    Calls Tryd.prog 63 #[.pointer (some ⟨c, 0, none⟩), .agg #[.int .u8 i.k, .int .u8 i.o, .int .i64 i.a, .int .i64 i.b, .int .i64 i.c, .int .i64 i.n]] w fun e w' => e = .returned (.bool (fitsB g.refs W M i)) ∧ Below w.heap.size w w' := by
  obtain ⟨b0, off, cap, er, hb0⟩ := regs_form h.here ha
  obtain ⟨na, ea, la⟩ := reg_nat ha
  obtain ⟨nb, eb, lb⟩ := reg_nat hb
  have ta := h.here.rlies.bit er na la
  have tb := h.here.rlies.bit er nb lb
  have hr : fitsB g.refs W M i = fitsB g.refs W M i := rfl
  conv at hr => rhs; unfold fitsB
  simp only [hk, Int.reduceEq, if_true, if_false, or_false] at hr
  have hq := h.box
  rw [er] at hq
  obtain ⟨q0, q1, q2, q3, q4⟩ := own5 hq
  have hlc := h.lt.1
  have hlb : b0 < w.heap.size := by have := h.base.2.2.2; omega
  have hW := h.words
  obtain ⟨k, op, a, b, cc, n⟩ := i
  simp only at *
  subst hk
  subst ea
  subst eb
  obtain ⟨NR, hNR⟩ : ∃ N, N = g.refs.length := ⟨_, rfl⟩
  rw [← hNR] at q0 la lb
  have hroom : NR ≤ 140737488351232 := by rw [hNR]; exact h.here.rlies.room
  generalize hxa : refB g.refs (na : Int) = xa at ta hr
  generalize hxb : refB g.refs (nb : Int) = xb at tb hr
  have HR := Lib.hid hr
  clear h hr hq er hNR ha hb hxa hxb
  cases xa <;> cases xb
  all_goals
    go_enter Tryd.func63, Tryd.ntmps63
    go_wp2_with fail
    go_quiet (fail)
    go_wp2_with fail
    go_ret
    exact ⟨by rw [HR.out]; rfl, below_drewN (below_box w _) _⟩
set_option maxHeartbeats 8000000 in
theorem fits4 (B c m : Nat) (g : Gr) (W : Int) (M : List Bool) (i : In) (w : World) (h : CkAt w B c m g W M) (hk : i.k = 4) (hb : regB g.refs i.b = true) :
    Calls Tryd.prog 63 #[.pointer (some ⟨c, 0, none⟩), .agg #[.int .u8 i.k, .int .u8 i.o, .int .i64 i.a, .int .i64 i.b, .int .i64 i.c, .int .i64 i.n]] w fun e w' => e = .returned (.bool (fitsB g.refs W M i)) ∧ Below w.heap.size w w' := by
  obtain ⟨b0, off, cap, er, hb0⟩ := regs_form h.here hb
  obtain ⟨nb, eb, lb⟩ := reg_nat hb
  have tb := h.here.rlies.bit er nb lb
  have hr : fitsB g.refs W M i = fitsB g.refs W M i := rfl
  conv at hr => rhs; unfold fitsB
  simp only [hk, Int.reduceEq, if_true, if_false, or_false] at hr
  have hq := h.box
  rw [er] at hq
  obtain ⟨q0, q1, q2, q3, q4⟩ := own5 hq
  have hlc := h.lt.1
  have hlb : b0 < w.heap.size := by have := h.base.2.2.2; omega
  have hW := h.words
  obtain ⟨k, op, a, b, cc, n⟩ := i
  simp only at *
  subst hk
  subst eb
  obtain ⟨NR, hNR⟩ : ∃ N, N = g.refs.length := ⟨_, rfl⟩
  rw [← hNR] at q0 lb
  have hroom : NR ≤ 140737488351232 := by rw [hNR]; exact h.here.rlies.room
  generalize hxb : refB g.refs (nb : Int) = xb at tb hr
  have HR := Lib.hid hr
  clear h hr hq er hNR hb hxb
  cases xb
  all_goals
    go_enter Tryd.func63, Tryd.ntmps63
    go_wp2_with fail
    go_quiet (fail)
    go_wp2_with fail
    go_ret
    exact ⟨by rw [HR.out]; rfl, below_drewN (below_box w _) _⟩
set_option maxHeartbeats 8000000 in
theorem fits12 (B c m : Nat) (g : Gr) (W : Int) (M : List Bool) (i : In) (w : World) (h : CkAt w B c m g W M) (hk : i.k = 12) (hb : regB g.refs i.b = true) :
    Calls Tryd.prog 63 #[.pointer (some ⟨c, 0, none⟩), .agg #[.int .u8 i.k, .int .u8 i.o, .int .i64 i.a, .int .i64 i.b, .int .i64 i.c, .int .i64 i.n]] w fun e w' => e = .returned (.bool (fitsB g.refs W M i)) ∧ Below w.heap.size w w' := by
  obtain ⟨b0, off, cap, er, hb0⟩ := regs_form h.here hb
  obtain ⟨nb, eb, lb⟩ := reg_nat hb
  have tb := h.here.rlies.bit er nb lb
  have hr : fitsB g.refs W M i = fitsB g.refs W M i := rfl
  conv at hr => rhs; unfold fitsB
  simp only [hk, Int.reduceEq, if_true, if_false, or_false] at hr
  have hq := h.box
  rw [er] at hq
  obtain ⟨q0, q1, q2, q3, q4⟩ := own5 hq
  have hlc := h.lt.1
  have hlb : b0 < w.heap.size := by have := h.base.2.2.2; omega
  have hW := h.words
  obtain ⟨k, op, a, b, cc, n⟩ := i
  simp only at *
  subst hk
  subst eb
  obtain ⟨NR, hNR⟩ : ∃ N, N = g.refs.length := ⟨_, rfl⟩
  rw [← hNR] at q0 lb
  have hroom : NR ≤ 140737488351232 := by rw [hNR]; exact h.here.rlies.room
  generalize hxb : refB g.refs (nb : Int) = xb at tb hr
  have HR := Lib.hid hr
  clear h hr hq er hNR hb hxb
  cases xb
  all_goals
    go_enter Tryd.func63, Tryd.ntmps63
    go_wp2_with fail
    go_quiet (fail)
    go_wp2_with fail
    go_ret
    exact ⟨by rw [HR.out]; rfl, below_drewN (below_box w _) _⟩
set_option maxHeartbeats 8000000 in
theorem fits5 (B c m : Nat) (g : Gr) (W : Int) (M : List Bool) (i : In) (w : World) (h : CkAt w B c m g W M) (hk : i.k = 5) (hb : regB g.refs i.b = true) :
    Calls Tryd.prog 63 #[.pointer (some ⟨c, 0, none⟩), .agg #[.int .u8 i.k, .int .u8 i.o, .int .i64 i.a, .int .i64 i.b, .int .i64 i.c, .int .i64 i.n]] w fun e w' => e = .returned (.bool (fitsB g.refs W M i)) ∧ Below w.heap.size w w' := by
  obtain ⟨b0, off, cap, er, hb0⟩ := regs_form h.here hb
  obtain ⟨nb, eb, lb⟩ := reg_nat hb
  have tb := h.here.rlies.bit er nb lb
  have hr : fitsB g.refs W M i = fitsB g.refs W M i := rfl
  conv at hr => rhs; unfold fitsB
  simp only [hk, Int.reduceEq, if_true, if_false, or_false] at hr
  have hq := h.box
  rw [er] at hq
  obtain ⟨q0, q1, q2, q3, q4⟩ := own5 hq
  have hlc := h.lt.1
  have hlb : b0 < w.heap.size := by have := h.base.2.2.2; omega
  have hW := h.words
  obtain ⟨k, op, a, b, cc, n⟩ := i
  simp only at *
  subst hk
  subst eb
  obtain ⟨NR, hNR⟩ : ∃ N, N = g.refs.length := ⟨_, rfl⟩
  rw [← hNR] at q0 lb
  have hroom : NR ≤ 140737488351232 := by rw [hNR]; exact h.here.rlies.room
  generalize hxb : refB g.refs (nb : Int) = xb at tb hr
  have HR := Lib.hid hr
  clear h hr hq er hNR hb hxb
  generalize hy : inB n 1 64 = y at HR
  have HY := Lib.hid hy
  clear hy
  cases xb <;> cases y
  all_goals
    have HWI := Lib.hid (fun w => within_any n 1 64 w)
    rw [HY.out] at HWI
    go_enter Tryd.func63, Tryd.ntmps63
    go_wp2_with fail
    go_quiet ((go_at_call 69; exact Calls.quiet_of_same ((HWI.out _).mono fun e w1 hh => ⟨hh.1, hh.2.symm⟩)))
    go_wp2_with fail
    go_ret
    exact ⟨by rw [HR.out]; rfl, below_drewN (below_box w _) _⟩
set_option maxHeartbeats 8000000 in
theorem fits6 (B c m : Nat) (g : Gr) (W : Int) (M : List Bool) (i : In) (w : World) (h : CkAt w B c m g W M) (hk : i.k = 6) (ha : regB g.refs i.a = true) :
    Calls Tryd.prog 63 #[.pointer (some ⟨c, 0, none⟩), .agg #[.int .u8 i.k, .int .u8 i.o, .int .i64 i.a, .int .i64 i.b, .int .i64 i.c, .int .i64 i.n]] w fun e w' => e = .returned (.bool (fitsB g.refs W M i)) ∧ Below w.heap.size w w' := by
  obtain ⟨b0, off, cap, er, hb0⟩ := regs_form h.here ha
  obtain ⟨na, ea, la⟩ := reg_nat ha
  have ta := h.here.rlies.bit er na la
  have hr : fitsB g.refs W M i = fitsB g.refs W M i := rfl
  conv at hr => rhs; unfold fitsB
  simp only [hk, Int.reduceEq, if_true, if_false, or_false] at hr
  have hq := h.box
  rw [er] at hq
  obtain ⟨q0, q1, q2, q3, q4⟩ := own5 hq
  have hlc := h.lt.1
  have hlb : b0 < w.heap.size := by have := h.base.2.2.2; omega
  have hW := h.words
  obtain ⟨k, op, a, b, cc, n⟩ := i
  simp only at *
  subst hk
  subst ea
  obtain ⟨NR, hNR⟩ : ∃ N, N = g.refs.length := ⟨_, rfl⟩
  rw [← hNR] at q0 la
  have hroom : NR ≤ 140737488351232 := by rw [hNR]; exact h.here.rlies.room
  generalize hxa : refB g.refs (na : Int) = xa at ta hr
  have HR := Lib.hid hr
  clear h hr hq er hNR ha hxa
  generalize hy : inB n 1 W = y at HR
  have HY := Lib.hid hy
  clear hy
  cases xa <;> cases y
  all_goals
    have HWI := Lib.hid (fun w => within_any n 1 W w)
    rw [HY.out] at HWI
    go_enter Tryd.func63, Tryd.ntmps63
    go_wp2_with fail
    go_quiet ((go_at_call 69; exact Calls.quiet_of_same ((HWI.out _).mono fun e w1 hh => ⟨hh.1, hh.2.symm⟩)))
    go_wp2_with fail
    go_ret
    exact ⟨by rw [HR.out]; rfl, below_drewN (below_box w _) _⟩
set_option maxHeartbeats 8000000 in
theorem fits8 (B c m : Nat) (g : Gr) (W : Int) (M : List Bool) (i : In) (w : World) (h : CkAt w B c m g W M) (hk : i.k = 8) (ha : regB g.refs i.a = true) (hb : regB g.refs i.b = true) (hc : i.c = -1 ∨ regB g.refs i.c = true) :
    Calls Tryd.prog 63 #[.pointer (some ⟨c, 0, none⟩), .agg #[.int .u8 i.k, .int .u8 i.o, .int .i64 i.a, .int .i64 i.b, .int .i64 i.c, .int .i64 i.n]] w fun e w' => e = .returned (.bool (fitsB g.refs W M i)) ∧ Below w.heap.size w w' := by
  obtain ⟨b0, off, cap, er, hb0⟩ := regs_form h.here ha
  obtain ⟨na, ea, la⟩ := reg_nat ha
  obtain ⟨nb, eb, lb⟩ := reg_nat hb
  have ta := h.here.rlies.bit er na la
  have tb := h.here.rlies.bit er nb lb
  have tc := fun (r : Nat) (hr : r < g.refs.length) => h.here.rlies.bit er r hr
  have hr : fitsB g.refs W M i = fitsB g.refs W M i := rfl
  conv at hr => rhs; unfold fitsB
  simp only [hk, Int.reduceEq, if_true, if_false, or_false] at hr
  have hq := h.box
  rw [er] at hq
  obtain ⟨q0, q1, q2, q3, q4⟩ := own5 hq
  have hlc := h.lt.1
  have hlb : b0 < w.heap.size := by have := h.base.2.2.2; omega
  have hW := h.words
  obtain ⟨k, op, a, b, cc, n⟩ := i
  simp only at *
  subst hk
  subst ea
  subst eb
  obtain ⟨NR, hNR⟩ : ∃ N, N = g.refs.length := ⟨_, rfl⟩
  rw [← hNR] at q0 la lb
  have hroom : NR ≤ 140737488351232 := by rw [hNR]; exact h.here.rlies.room
  generalize hxa : refB g.refs (na : Int) = xa at ta hr
  generalize hxb : refB g.refs (nb : Int) = xb at tb hr
  have HR := Lib.hid hr
  have HN := Lib.hid hNR
  have HN := Lib.hid hNR
  have HN := Lib.hid hNR
  have HN := Lib.hid hNR
  clear h hr hq er hNR ha hb hxa hxb
  generalize hy : inB n 0 64 = y at HR
  have HY := Lib.hid hy
  clear hy
  have hcc : (cc = -1 ∧ decide (cc = -1) = true ∧ (cc == -1) = true) ∨ (∃ nc : Nat, cc = (nc : Int) ∧ nc < NR ∧ decide (cc = -1) = false ∧ (cc == -1) = false) := by
    rcases hc with hc | hc
    · subst hc; exact .inl ⟨rfl, rfl, rfl⟩
    · obtain ⟨nc, e, l⟩ := reg_nat hc
      refine .inr ⟨nc, e, by rw [HN.out]; exact l, ?_, ?_⟩
      · simp; omega
      · simp; omega
  have HTC := Lib.hid tc
  clear hc tc
  have HWI := Lib.hid (fun w => within_any n 0 64 w)
  rcases hcc with ⟨rfl, d1, d2⟩ | ⟨nc, rfl, lc, d1, d2⟩
  · rw [d1] at HR
    clear d1
    cases xb <;> cases y
    all_goals
      rw [HY.out] at HWI
      go_enter Tryd.func63, Tryd.ntmps63
      go_wp2_with fail
      go_quiet ((go_at_call 69; exact Calls.quiet_of_same ((HWI.out _).mono fun e w1 hh => ⟨hh.1, hh.2.symm⟩)))
      go_wp2_with fail
      go_ret
      exact ⟨by rw [HR.out]; rfl, below_drewN (below_box w _) _⟩
  · rw [d1] at HR
    have tc := HTC.out nc (by rw [← HN.out]; exact lc)
    generalize hx : refB g.refs (nc : Int) = xc at tc HR
    clear d1 hx
    cases xb <;> cases xc <;> cases y
    all_goals
      rw [HY.out] at HWI
      go_enter Tryd.func63, Tryd.ntmps63
      go_wp2_with fail
      go_quiet ((go_at_call 69; exact Calls.quiet_of_same ((HWI.out _).mono fun e w1 hh => ⟨hh.1, hh.2.symm⟩)))
      go_wp2_with fail
      go_ret
      exact ⟨by rw [HR.out]; rfl, below_drewN (below_box w _) _⟩
set_option maxHeartbeats 8000000 in
theorem fits9 (B c m : Nat) (g : Gr) (W : Int) (M : List Bool) (i : In) (w : World) (h : CkAt w B c m g W M) (hk : i.k = 9) (ha : regB g.refs i.a = true) (hb : regB g.refs i.b = true) (hc : i.c = -1 ∨ regB g.refs i.c = true) :
    Calls Tryd.prog 63 #[.pointer (some ⟨c, 0, none⟩), .agg #[.int .u8 i.k, .int .u8 i.o, .int .i64 i.a, .int .i64 i.b, .int .i64 i.c, .int .i64 i.n]] w fun e w' => e = .returned (.bool (fitsB g.refs W M i)) ∧ Below w.heap.size w w' := by
  obtain ⟨b0, off, cap, er, hb0⟩ := regs_form h.here ha
  obtain ⟨na, ea, la⟩ := reg_nat ha
  obtain ⟨nb, eb, lb⟩ := reg_nat hb
  have ta := h.here.rlies.bit er na la
  have tb := h.here.rlies.bit er nb lb
  have tc := fun (r : Nat) (hr : r < g.refs.length) => h.here.rlies.bit er r hr
  have hr : fitsB g.refs W M i = fitsB g.refs W M i := rfl
  conv at hr => rhs; unfold fitsB
  simp only [hk, Int.reduceEq, if_true, if_false, or_true, or_false] at hr
  have hq := h.box
  rw [er] at hq
  obtain ⟨q0, q1, q2, q3, q4⟩ := own5 hq
  have hlc := h.lt.1
  have hlb : b0 < w.heap.size := by have := h.base.2.2.2; omega
  have hW := h.words
  obtain ⟨k, op, a, b, cc, n⟩ := i
  simp only at *
  subst hk
  subst ea
  subst eb
  obtain ⟨NR, hNR⟩ : ∃ N, N = g.refs.length := ⟨_, rfl⟩
  rw [← hNR] at q0 la lb
  have hroom : NR ≤ 140737488351232 := by rw [hNR]; exact h.here.rlies.room
  generalize hxa : refB g.refs (na : Int) = xa at ta hr
  generalize hxb : refB g.refs (nb : Int) = xb at tb hr
  have HR := Lib.hid hr
  have HN := Lib.hid hNR
  have HN := Lib.hid hNR
  have HN := Lib.hid hNR
  clear h hr hq er hNR ha hb hxa hxb
  generalize hy : inB n 0 64 = y at HR
  have HY := Lib.hid hy
  clear hy
  have hcc : (cc = -1 ∧ decide (cc = -1) = true ∧ (cc == -1) = true) ∨ (∃ nc : Nat, cc = (nc : Int) ∧ nc < NR ∧ decide (cc = -1) = false ∧ (cc == -1) = false) := by
    rcases hc with hc | hc
    · subst hc; exact .inl ⟨rfl, rfl, rfl⟩
    · obtain ⟨nc, e, l⟩ := reg_nat hc
      refine .inr ⟨nc, e, by rw [HN.out]; exact l, ?_, ?_⟩
      · simp; omega
      · simp; omega
  have HTC := Lib.hid tc
  clear hc tc
  have HWI := Lib.hid (fun w => within_any n 0 64 w)
  rcases hcc with ⟨rfl, d1, d2⟩ | ⟨nc, rfl, lc, d1, d2⟩
  · rw [d1] at HR
    clear d1
    cases xb <;> cases y
    all_goals
      rw [HY.out] at HWI
      go_enter Tryd.func63, Tryd.ntmps63
      go_wp2_with fail
      go_quiet ((go_at_call 69; exact Calls.quiet_of_same ((HWI.out _).mono fun e w1 hh => ⟨hh.1, hh.2.symm⟩)))
      go_wp2_with fail
      go_ret
      exact ⟨by rw [HR.out]; rfl, below_drewN (below_box w _) _⟩
  · rw [d1] at HR
    have tc := HTC.out nc (by rw [← HN.out]; exact lc)
    generalize hx : refB g.refs (nc : Int) = xc at tc HR
    clear d1 hx
    cases xb <;> cases xc <;> cases y
    all_goals
      rw [HY.out] at HWI
      go_enter Tryd.func63, Tryd.ntmps63
      go_wp2_with fail
      go_quiet ((go_at_call 69; exact Calls.quiet_of_same ((HWI.out _).mono fun e w1 hh => ⟨hh.1, hh.2.symm⟩)))
      go_wp2_with fail
      go_ret
      exact ⟨by rw [HR.out]; rfl, below_drewN (below_box w _) _⟩
set_option maxHeartbeats 8000000 in
theorem fits10 (B c m : Nat) (g : Gr) (W : Int) (M : List Bool) (i : In) (w : World) (h : CkAt w B c m g W M) (hk : i.k = 10) (ha : regB g.refs i.a = true) (hb : regB g.refs i.b = true) (hc : i.c = -1 ∨ regB g.refs i.c = true) :
    Calls Tryd.prog 63 #[.pointer (some ⟨c, 0, none⟩), .agg #[.int .u8 i.k, .int .u8 i.o, .int .i64 i.a, .int .i64 i.b, .int .i64 i.c, .int .i64 i.n]] w fun e w' => e = .returned (.bool (fitsB g.refs W M i)) ∧ Below w.heap.size w w' := by
  obtain ⟨b0, off, cap, er, hb0⟩ := regs_form h.here ha
  obtain ⟨na, ea, la⟩ := reg_nat ha
  obtain ⟨nb, eb, lb⟩ := reg_nat hb
  have ta := h.here.rlies.bit er na la
  have tb := h.here.rlies.bit er nb lb
  have tc := fun (r : Nat) (hr : r < g.refs.length) => h.here.rlies.bit er r hr
  have hr : fitsB g.refs W M i = fitsB g.refs W M i := rfl
  conv at hr => rhs; unfold fitsB
  simp only [hk, Int.reduceEq, if_true, if_false, or_true, or_false] at hr
  have hq := h.box
  rw [er] at hq
  obtain ⟨q0, q1, q2, q3, q4⟩ := own5 hq
  have hlc := h.lt.1
  have hlb : b0 < w.heap.size := by have := h.base.2.2.2; omega
  have hW := h.words
  obtain ⟨k, op, a, b, cc, n⟩ := i
  simp only at *
  subst hk
  subst ea
  subst eb
  obtain ⟨NR, hNR⟩ : ∃ N, N = g.refs.length := ⟨_, rfl⟩
  rw [← hNR] at q0 la lb
  have hroom : NR ≤ 140737488351232 := by rw [hNR]; exact h.here.rlies.room
  generalize hxa : refB g.refs (na : Int) = xa at ta hr
  generalize hxb : refB g.refs (nb : Int) = xb at tb hr
  have HR := Lib.hid hr
  have HN := Lib.hid hNR
  have HN := Lib.hid hNR
  clear h hr hq er hNR ha hb hxa hxb
  generalize hy : inB n 0 64 = y at HR
  have HY := Lib.hid hy
  clear hy
  have hcc : (cc = -1 ∧ decide (cc = -1) = true ∧ (cc == -1) = true) ∨ (∃ nc : Nat, cc = (nc : Int) ∧ nc < NR ∧ decide (cc = -1) = false ∧ (cc == -1) = false) := by
    rcases hc with hc | hc
    · subst hc; exact .inl ⟨rfl, rfl, rfl⟩
    · obtain ⟨nc, e, l⟩ := reg_nat hc
      refine .inr ⟨nc, e, by rw [HN.out]; exact l, ?_, ?_⟩
      · simp; omega
      · simp; omega
  have HTC := Lib.hid tc
  clear hc tc
  have HWI := Lib.hid (fun w => within_any n 0 64 w)
  rcases hcc with ⟨rfl, d1, d2⟩ | ⟨nc, rfl, lc, d1, d2⟩
  · rw [d1] at HR
    clear d1
    cases xb <;> cases y
    all_goals
      rw [HY.out] at HWI
      go_enter Tryd.func63, Tryd.ntmps63
      go_wp2_with fail
      go_quiet ((go_at_call 69; exact Calls.quiet_of_same ((HWI.out _).mono fun e w1 hh => ⟨hh.1, hh.2.symm⟩)))
      go_wp2_with fail
      go_ret
      exact ⟨by rw [HR.out]; rfl, below_drewN (below_box w _) _⟩
  · rw [d1] at HR
    have tc := HTC.out nc (by rw [← HN.out]; exact lc)
    generalize hx : refB g.refs (nc : Int) = xc at tc HR
    clear d1 hx
    cases xb <;> cases xc <;> cases y
    all_goals
      rw [HY.out] at HWI
      go_enter Tryd.func63, Tryd.ntmps63
      go_wp2_with fail
      go_quiet ((go_at_call 69; exact Calls.quiet_of_same ((HWI.out _).mono fun e w1 hh => ⟨hh.1, hh.2.symm⟩)))
      go_wp2_with fail
      go_ret
      exact ⟨by rw [HR.out]; rfl, below_drewN (below_box w _) _⟩
set_option maxHeartbeats 8000000 in
theorem fits11 (B c m : Nat) (g : Gr) (W : Int) (M : List Bool) (i : In) (w : World) (h : CkAt w B c m g W M) (hk : i.k = 11) (ha : regB g.refs i.a = true) (hb : regB g.refs i.b = true) (hc : i.c = -1 ∨ regB g.refs i.c = true) :
    Calls Tryd.prog 63 #[.pointer (some ⟨c, 0, none⟩), .agg #[.int .u8 i.k, .int .u8 i.o, .int .i64 i.a, .int .i64 i.b, .int .i64 i.c, .int .i64 i.n]] w fun e w' => e = .returned (.bool (fitsB g.refs W M i)) ∧ Below w.heap.size w w' := by
  obtain ⟨b0, off, cap, er, hb0⟩ := regs_form h.here ha
  obtain ⟨na, ea, la⟩ := reg_nat ha
  obtain ⟨nb, eb, lb⟩ := reg_nat hb
  have ta := h.here.rlies.bit er na la
  have tb := h.here.rlies.bit er nb lb
  have tc := fun (r : Nat) (hr : r < g.refs.length) => h.here.rlies.bit er r hr
  have hr : fitsB g.refs W M i = fitsB g.refs W M i := rfl
  conv at hr => rhs; unfold fitsB
  simp only [hk, Int.reduceEq, if_true, if_false, or_true] at hr
  have hq := h.box
  rw [er] at hq
  obtain ⟨q0, q1, q2, q3, q4⟩ := own5 hq
  have hlc := h.lt.1
  have hlb : b0 < w.heap.size := by have := h.base.2.2.2; omega
  have hW := h.words
  obtain ⟨k, op, a, b, cc, n⟩ := i
  simp only at *
  subst hk
  subst ea
  subst eb
  obtain ⟨NR, hNR⟩ : ∃ N, N = g.refs.length := ⟨_, rfl⟩
  rw [← hNR] at q0 la lb
  have hroom : NR ≤ 140737488351232 := by rw [hNR]; exact h.here.rlies.room
  generalize hxa : refB g.refs (na : Int) = xa at ta hr
  generalize hxb : refB g.refs (nb : Int) = xb at tb hr
  have HR := Lib.hid hr
  have HN := Lib.hid hNR
  clear h hr hq er hNR ha hb hxa hxb
  generalize hy : inB n 0 64 = y at HR
  have HY := Lib.hid hy
  clear hy
  have hcc : (cc = -1 ∧ decide (cc = -1) = true ∧ (cc == -1) = true) ∨ (∃ nc : Nat, cc = (nc : Int) ∧ nc < NR ∧ decide (cc = -1) = false ∧ (cc == -1) = false) := by
    rcases hc with hc | hc
    · subst hc; exact .inl ⟨rfl, rfl, rfl⟩
    · obtain ⟨nc, e, l⟩ := reg_nat hc
      refine .inr ⟨nc, e, by rw [HN.out]; exact l, ?_, ?_⟩
      · simp; omega
      · simp; omega
  have HTC := Lib.hid tc
  clear hc tc
  have HWI := Lib.hid (fun w => within_any n 0 64 w)
  rcases hcc with ⟨rfl, d1, d2⟩ | ⟨nc, rfl, lc, d1, d2⟩
  · rw [d1] at HR
    clear d1
    cases xb <;> cases y
    all_goals
      rw [HY.out] at HWI
      go_enter Tryd.func63, Tryd.ntmps63
      go_wp2_with fail
      go_quiet ((go_at_call 69; exact Calls.quiet_of_same ((HWI.out _).mono fun e w1 hh => ⟨hh.1, hh.2.symm⟩)))
      go_wp2_with fail
      go_ret
      exact ⟨by rw [HR.out]; rfl, below_drewN (below_box w _) _⟩
  · rw [d1] at HR
    have tc := HTC.out nc (by rw [← HN.out]; exact lc)
    generalize hx : refB g.refs (nc : Int) = xc at tc HR
    clear d1 hx
    cases xb <;> cases xc <;> cases y
    all_goals
      rw [HY.out] at HWI
      go_enter Tryd.func63, Tryd.ntmps63
      go_wp2_with fail
      go_quiet ((go_at_call 69; exact Calls.quiet_of_same ((HWI.out _).mono fun e w1 hh => ⟨hh.1, hh.2.symm⟩)))
      go_wp2_with fail
      go_ret
      exact ⟨by rw [HR.out]; rfl, below_drewN (below_box w _) _⟩
set_option maxHeartbeats 1000000 in
theorem fits13 (_B c _m : Nat) (g : Gr) (W : Int) (M : List Bool) (i : In) (w : World) (hk : i.k = 13 ∨ i.k = 14) :
    Calls Tryd.prog 63 #[.pointer (some ⟨c, 0, none⟩), .agg #[.int .u8 i.k, .int .u8 i.o, .int .i64 i.a, .int .i64 i.b, .int .i64 i.c, .int .i64 i.n]] w fun e w' => e = .returned (.bool (fitsB g.refs W M i)) ∧ Below w.heap.size w w' := by
  obtain ⟨k, op, a, b, cc, n⟩ := i
  simp only at *
  rcases hk with rfl | rfl
  all_goals
    go_enter Tryd.func63, Tryd.ntmps63
    go_wp2_with fail
    go_ret
    exact ⟨rfl, below_box w _⟩
end Go.Proofs.YtgkjhnghibpeoaaDoor
