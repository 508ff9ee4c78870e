/- Where graphs lie in memory, and what is read of them there. Nothing here is a walk. -/
import Derived.Test.YtgkjhnghibpeoaaDoorRows
import Derived.Test.YtgkjhnghibpeoaaDoorLvFits
import Derived.Deep.MidRow
import Derived.Deep.WholeRow
import Derived.WalkKit
import Derived.WalkSpells
import Derived.WalkLawsBesides
import Derived.Lib.Hide
import Derived.Test.YtgkjhnghibpeoaaDoorProg
import Derived.Great.BuildSlice
import Derived.Laws.Tables
import Derived.LoopTactic
import Derived.LoopN
import Derived.Deep.LoopGhost
namespace Go.Proofs.YtgkjhnghibpeoaaDoor
open Go Go.Lib Go.RowKit

/-- A list lies so in the world, below B: each thing takes k cells. -/
def LiesG {α : Type} (cells : α → List Value) (k : Nat) (w : World) (B : Nat) (s : Value) (l : List α) : Prop :=
  ∃ ao cap, s = .slice ao l.length cap ∧ l.length ≤ 140737488351232 ∧ (l = [] ∨ ∃ g off, ao = some ⟨g, off, none⟩ ∧ g < B ∧ ∀ i x, l[i]? = some x → ∀ j u, (cells x)[j]? = some u → w.cell? ⟨g, off + (i * k + j), none⟩ = some u)
theorem LiesG.below {α : Type} {cells : α → List Value} {k : Nat} {w w' : World} {B : Nat} {s : Value} {l : List α} (h : LiesG cells k w B s l) (hb : Below B w w') : LiesG cells k w' B s l := by
  obtain ⟨ao, cap, hs, hl, h⟩ := h
  refine ⟨ao, cap, hs, hl, ?_⟩
  rcases h with h | ⟨g, off, h1, h2, h3⟩
  · exact .inl h
  · exact .inr ⟨g, off, h1, h2, fun i x hx j u hu => by rw [hb.cell (p := ⟨g, _, none⟩) h2]; exact h3 i x hx j u hu⟩
theorem LiesG.up {α : Type} {cells : α → List Value} {k : Nat} {w : World} {B B' : Nat} {s : Value} {l : List α} (hB : B ≤ B') (h : LiesG cells k w B s l) : LiesG cells k w B' s l := by
  obtain ⟨ao, cap, hs, hl, h⟩ := h
  refine ⟨ao, cap, hs, hl, ?_⟩
  rcases h with h | ⟨g, off, q1, q2, q3⟩
  · exact .inl h
  · exact .inr ⟨g, off, q1, by omega, q3⟩
theorem LiesG.form {α : Type} {cells : α → List Value} {k : Nat} {w : World} {B : Nat} {s : Value} {l : List α} (h : LiesG cells k w B s l) :
    ∃ ao cap, s = .slice ao l.length cap ∧ l.length ≤ 9223372036854775807 ∧ (0 < l.length → ∃ g off, ao = some ⟨g, off, none⟩ ∧ g < B) := by
  obtain ⟨ao, cap, hs, hlen, hl⟩ := h
  refine ⟨ao, cap, hs, by omega, fun h0 => ?_⟩
  rcases hl with hl | ⟨g, off, e1, hg, _⟩
  · subst hl; exact absurd h0 (by simp)
  · exact ⟨g, off, e1, hg⟩
theorem LiesG.room {α : Type} {cells : α → List Value} {k : Nat} {w : World} {B : Nat} {s : Value} {l : List α} (h : LiesG cells k w B s l) : l.length ≤ 140737488351232 := by
  obtain ⟨_, _, _, h, _⟩ := h; exact h
/-- The cells of the i-th thing. -/
theorem LiesG.at {α : Type} {cells : α → List Value} {k : Nat} {w : World} {B : Nat} {s : Value} {l : List α} (h : LiesG cells k w B s l) {g off n c : Nat} (hs : s = .slice (some ⟨g, off, none⟩) n c) (i : Nat) (hi : i < l.length) :
    g < B ∧ ∀ j u, (cells l[i])[j]? = some u → w.cell? ⟨g, off + i * k + j, none⟩ = some u := by
  obtain ⟨ao, cap, hs', _, hl⟩ := h
  rcases hl with hl | ⟨g', off', e1, hg, hc⟩
  · subst hl; exact absurd hi (by simp)
  rw [hs] at hs'
  injection hs' with e2 _ _
  rw [e1] at e2
  cases e2
  exact ⟨hg, fun j u hu => by rw [Nat.add_assoc]; exact hc i l[i] (List.getElem?_eq_getElem hi) j u hu⟩


def Bcells (b : Bool) : List Value := [.bool b]
structure InOk (i : In) : Prop where
  k : 0 ≤ i.k ∧ i.k ≤ 255
  o : 0 ≤ i.o ∧ i.o ≤ 255
  a : -9223372036854775808 ≤ i.a ∧ i.a ≤ 9223372036854775807
  b : -9223372036854775808 ≤ i.b ∧ i.b ≤ 9223372036854775807
  c : -9223372036854775808 ≤ i.c ∧ i.c ≤ 9223372036854775807
  n : -9223372036854775808 ≤ i.n ∧ i.n ≤ 9223372036854775807
structure BkOk (b : Bk) : Prop where
  last : 0 ≤ b.last ∧ b.last ≤ 255
  reg : -9223372036854775808 ≤ b.reg ∧ b.reg ≤ 9223372036854775807
  yes : -9223372036854775808 ≤ b.yes ∧ b.yes ≤ 9223372036854775807
  no : -9223372036854775808 ≤ b.no ∧ b.no ≤ 9223372036854775807
structure BIn (w : World) (B : Nat) (b : Bk) : Prop where
  lies : LiesG In.cells 6 w B b.iv b.ins
  ok : BkOk b
  ins : ∀ i ∈ b.ins, InOk i
structure GIn (w : World) (B : Nat) (g : Gr) : Prop where
  rlies : LiesG Bcells 1 w B g.rv g.refs
  sites : -9223372036854775808 ≤ g.sites ∧ g.sites ≤ 9223372036854775807
  blies : LiesG Bk.cells 5 w B g.bv g.blocks
  blocks : ∀ b ∈ g.blocks, BIn w B b
structure CIn (w : World) (B : Nat) (c : Cd) : Prop where
  words : -9223372036854775808 ≤ c.words ∧ c.words ≤ 9223372036854775807
  tlies : LiesG Gr.cells 3 w B c.tv c.threads
  threads : ∀ g ∈ c.threads, GIn w B g
theorem BIn.keeps {w w' : World} {B : Nat} {r : Bk} (h : BIn w B r) (hb : Below B w w') : BIn w' B r := ⟨h.lies.below hb, h.ok, h.ins⟩
theorem GIn.keeps {w w' : World} {B : Nat} {r : Gr} (h : GIn w B r) (hb : Below B w w') : GIn w' B r := ⟨h.rlies.below hb, h.sites, h.blies.below hb, fun a ha => (h.blocks a ha).keeps hb⟩
theorem CIn.keeps {w w' : World} {B : Nat} {r : Cd} (h : CIn w B r) (hb : Below B w w') : CIn w' B r := ⟨h.words, h.tlies.below hb, fun a ha => (h.threads a ha).keeps hb⟩
theorem BIn.up {w : World} {B B' : Nat} {r : Bk} (hB : B ≤ B') (h : BIn w B r) : BIn w B' r := ⟨h.lies.up hB, h.ok, h.ins⟩
theorem GIn.up {w : World} {B B' : Nat} {r : Gr} (hB : B ≤ B') (h : GIn w B r) : GIn w B' r := ⟨h.rlies.up hB, h.sites, h.blies.up hB, fun a ha => (h.blocks a ha).up hB⟩
theorem CIn.up {w : World} {B B' : Nat} {r : Cd} (hB : B ≤ B') (h : CIn w B r) : CIn w B' r := ⟨h.words, h.tlies.up hB, fun a ha => (h.threads a ha).up hB⟩

theorem ic {w : World} {g o : Nat} {i : In} (h : ∀ j u, i.cells[j]? = some u → w.cell? ⟨g, o + j, none⟩ = some u) :
    w.cell? ⟨g, o, none⟩ = some (.int .u8 i.k) ∧ w.cell? ⟨g, o + 1, none⟩ = some (.int .u8 i.o) ∧ w.cell? ⟨g, o + 2, none⟩ = some (.int .i64 i.a) ∧ w.cell? ⟨g, o + 3, none⟩ = some (.int .i64 i.b) ∧ w.cell? ⟨g, o + 4, none⟩ = some (.int .i64 i.c) ∧ w.cell? ⟨g, o + 5, none⟩ = some (.int .i64 i.n) :=
  ⟨h 0 _ rfl, h 1 _ rfl, h 2 _ rfl, h 3 _ rfl, h 4 _ rfl, h 5 _ rfl⟩
theorem bc {w : World} {g o : Nat} {b : Bk} (h : ∀ j u, b.cells[j]? = some u → w.cell? ⟨g, o + j, none⟩ = some u) :
    w.cell? ⟨g, o, none⟩ = some b.iv ∧ w.cell? ⟨g, o + 1, none⟩ = some (.int .u8 b.last) ∧ w.cell? ⟨g, o + 2, none⟩ = some (.int .i64 b.reg) ∧ w.cell? ⟨g, o + 3, none⟩ = some (.int .i64 b.yes) ∧ w.cell? ⟨g, o + 4, none⟩ = some (.int .i64 b.no) :=
  ⟨h 0 _ rfl, h 1 _ rfl, h 2 _ rfl, h 3 _ rfl, h 4 _ rfl⟩
theorem gc3 {w : World} {g o : Nat} {b : Gr} (h : ∀ j u, b.cells[j]? = some u → w.cell? ⟨g, o + j, none⟩ = some u) :
    w.cell? ⟨g, o, none⟩ = some b.rv ∧ w.cell? ⟨g, o + 1, none⟩ = some (.int .i64 b.sites) ∧ w.cell? ⟨g, o + 2, none⟩ = some b.bv := ⟨h 0 _ rfl, h 1 _ rfl, h 2 _ rfl⟩
theorem own2 {w : World} {b : Nat} {T : TypeId} {fr : Nat × Nat} {a0 a1 : Value} (h : w.heap[b]? = some (.cells #[a0, a1] T fr)) : w.cell? ⟨b, 0, none⟩ = some a0 ∧ w.cell? ⟨b, 1, none⟩ = some a1 :=
  ⟨by rw [Lib.cell_of_heap h]; rfl, by rw [Lib.cell_of_heap h]; rfl⟩
theorem own3 {w : World} {b : Nat} {T : TypeId} {fr : Nat × Nat} {a0 a1 a2 : Value} (h : w.heap[b]? = some (.cells #[a0, a1, a2] T fr)) : w.cell? ⟨b, 0, none⟩ = some a0 ∧ w.cell? ⟨b, 1, none⟩ = some a1 ∧ w.cell? ⟨b, 2, none⟩ = some a2 :=
  ⟨by rw [Lib.cell_of_heap h]; rfl, by rw [Lib.cell_of_heap h]; rfl, by rw [Lib.cell_of_heap h]; rfl⟩
theorem own5 {w : World} {b : Nat} {T : TypeId} {fr : Nat × Nat} {a0 a1 a2 a3 a4 : Value} (h : w.heap[b]? = some (.cells #[a0, a1, a2, a3, a4] T fr)) : w.cell? ⟨b, 0, none⟩ = some a0 ∧ w.cell? ⟨b, 1, none⟩ = some a1 ∧ w.cell? ⟨b, 2, none⟩ = some a2 ∧ w.cell? ⟨b, 3, none⟩ = some a3 ∧ w.cell? ⟨b, 4, none⟩ = some a4 :=
  ⟨by rw [Lib.cell_of_heap h]; rfl, by rw [Lib.cell_of_heap h]; rfl, by rw [Lib.cell_of_heap h]; rfl, by rw [Lib.cell_of_heap h]; rfl, by rw [Lib.cell_of_heap h]; rfl⟩
theorem own6 {w : World} {b : Nat} {T : TypeId} {fr : Nat × Nat} {a0 a1 a2 a3 a4 a5 : Value} (h : w.heap[b]? = some (.cells #[a0, a1, a2, a3, a4, a5] T fr)) : w.cell? ⟨b, 0, none⟩ = some a0 ∧ w.cell? ⟨b, 1, none⟩ = some a1 ∧ w.cell? ⟨b, 2, none⟩ = some a2 ∧ w.cell? ⟨b, 3, none⟩ = some a3 ∧ w.cell? ⟨b, 4, none⟩ = some a4 ∧ w.cell? ⟨b, 5, none⟩ = some a5 :=
  ⟨by rw [Lib.cell_of_heap h]; rfl, by rw [Lib.cell_of_heap h]; rfl, by rw [Lib.cell_of_heap h]; rfl, by rw [Lib.cell_of_heap h]; rfl, by rw [Lib.cell_of_heap h]; rfl, by rw [Lib.cell_of_heap h]; rfl⟩
/-- The i-th sign of a row of Booleans. -/
theorem LiesG.bit {w : World} {B : Nat} {s : Value} {l : List Bool} (h : LiesG Bcells 1 w B s l) {g off n c : Nat} (hs : s = .slice (some ⟨g, off, none⟩) n c) (i : Nat) (hi : i < l.length) : w.cell? ⟨g, off + i, none⟩ = some (.bool (refB l (i : Int))) := by
  have h1 := (h.at hs i hi).2 0 (.bool l[i]) rfl
  rw [Nat.mul_one, Nat.add_zero] at h1
  rw [h1]
  unfold refB
  rw [Int.toNat_natCast, List.getElem?_eq_getElem hi]
  rfl
end Go.Proofs.YtgkjhnghibpeoaaDoor
namespace Go.Proofs.YtgkjhnghibpeoaaDoor
open Go.RowKit
set_option maxRecDepth 100000
@[irreducible] noncomputable def bld (t : TypeId) (parts : Array (Nat × Value)) : Sem Value := Instr.build t parts
theorem bld_eq (t : TypeId) (parts : Array (Nat × Value)) : Instr.build t parts = bld t parts := by unfold bld; rfl
@[irreducible] noncomputable def bls (t : TypeId) (n : Nat) (parts : Array (Nat × Value)) : Sem Value := Instr.buildSlice t n parts
theorem bls_eq (t : TypeId) (n : Nat) (parts : Array (Nat × Value)) : Instr.buildSlice t n parts = bls t n parts := by unfold bls; rfl
theorem bld_of (t : TypeId) (parts : Array (Nat × Value)) (cells : Array Value) (h : Tryd.prog.built t parts.toList = some cells) (w : World) : (bld t parts).run Tryd.prog w = .ok (.agg cells) w := by
  unfold bld
  exact run_build w t parts cells h
theorem bls_of (t e : TypeId) (k n : Nat) (parts : Array (Nat × Value)) (cells : Array Value) (hs : (Tryd.prog.info? e).isSome = true) (hz : ((Tryd.prog.info? e).get hs).zero.isSome = true) (hn : ((Tryd.prog.info? e).get hs).size = n) (hk : 0 < k ∧ k ≤ 2) (hn0 : 0 < n ∧ n ≤ 100) (hu : Tryd.prog.underlying t = some (.slice e))
    (hf : Instr.fill (fun i => some (i * n, n)) ((Array.range (k * n)).map ((((Tryd.prog.info? e).get hs).zero.get hz).cells[· % (((Tryd.prog.info? e).get hs).zero.get hz).cells.size]!)) parts.toList = some cells) (w : World) :
    (bls t k parts).run Tryd.prog w = .ok (.slice (some ⟨w.heap.size, 0, none⟩) k k) (w.alloc (.cells cells e)) := by
  unfold bls
  have h1 : ¬ k * n > 2 ^ 24 := by
    have : k * n ≤ 2 * 100 := Nat.mul_le_mul hk.2 hn0.2
    omega
  have h2 : ¬ k * n = 0 := by
    have : 1 * 1 ≤ k * n := Nat.mul_le_mul hk.1 hn0.1
    omega
  exact run_buildSlice w t e k parts cells ((Tryd.prog.info? e).get hs) (((Tryd.prog.info? e).get hs).zero.get hz) hu (Option.some_get hs).symm (Option.some_get hz).symm (by rw [hn]; exact h1) (by rw [hn]; exact h2) (by rw [hn]; exact hf)

end Go.Proofs.YtgkjhnghibpeoaaDoor
namespace Go.Proofs.YtgkjhnghibpeoaaDoor
open Go.RowKit
set_option maxRecDepth 100000
attribute [local go_sem ↓] bld_eq bls_eq

theorem below_box (w : World) (o : Obj) : Below w.heap.size w (w.alloc o) := (Below.refl _ _).alloc (Nat.le_refl _) o
theorem within_any (n a b : Int) (w : World) : Calls Tryd.prog 69 #[.int .i64 n, .int .i64 a, .int .i64 b] w fun e w' => e = .returned (.bool (inB n a b)) ∧ w = w' := by
  by_cases h1 : a ≤ n <;> by_cases h2 : n ≤ b
  all_goals
    have hr : inB n a b = (decide (a ≤ n) && decide (n ≤ b)) := rfl
    first | rw [decide_eq_true h1] at hr | rw [decide_eq_false h1] at hr
    first | rw [decide_eq_true h2] at hr | rw [decide_eq_false h2] at hr
    have HR := Lib.hid hr
    clear hr
    go_enter Tryd.func69, Tryd.ntmps69
    go_wp2_with fail
    go_ret
    exact ⟨by rw [HR.out]; rfl, rfl⟩
set_option maxHeartbeats 4000000 in
theorem insLine_any (k : Int) (w : World) : Calls Tryd.prog 61 #[.int .u8 k] w fun e w' => e = .returned (.tuple #[.string (insNm k), .string (insHas k)]) ∧ w = w' := by
  have hk : k = 1 ∨ k = 2 ∨ k = 3 ∨ k = 4 ∨ k = 5 ∨ k = 6 ∨ k = 7 ∨ k = 8 ∨ k = 9 ∨ k = 10 ∨ k = 11 ∨ k = 12 ∨ k = 13 ∨ k = 14 ∨ ((k == 1) = false ∧ (k == 2) = false ∧ (k == 3) = false ∧ (k == 4) = false ∧ (k == 5) = false ∧ (k == 6) = false ∧ (k == 7) = false ∧ (k == 8) = false ∧ (k == 9) = false ∧ (k == 10) = false ∧ (k == 11) = false ∧ (k == 12) = false ∧ (k == 13) = false ∧ (k == 14) = false) := by
    by_cases h : k = 1 ∨ k = 2 ∨ k = 3 ∨ k = 4 ∨ k = 5 ∨ k = 6 ∨ k = 7 ∨ k = 8 ∨ k = 9 ∨ k = 10 ∨ k = 11 ∨ k = 12 ∨ k = 13 ∨ k = 14
    · rcases h with rfl | rfl | rfl | rfl | rfl | rfl | rfl | rfl | rfl | rfl | rfl | rfl | rfl | rfl <;> simp
    · simp only [not_or] at h; simp only [beq_eq_false_iff_ne, ne_eq]; simp [h]
  rcases hk with rfl | rfl | rfl | rfl | rfl | rfl | rfl | rfl | rfl | rfl | rfl | rfl | rfl | rfl | ⟨h1, h2, h3, h4, h5, h6, h7, h8, h9, h10, h11, h12, h13, h14⟩
  all_goals
    go_enter Tryd.func61, Tryd.ntmps61
    go_wp2_with fail
    go_ret2
    first | exact ⟨rfl, rfl⟩ | (refine ⟨?_, rfl⟩; simp only [beq_eq_false_iff_ne, ne_eq] at *; simp [insNm, insHas, *])
set_option maxHeartbeats 4000000 in
theorem lastLine_any (k : Int) (w : World) : Calls Tryd.prog 64 #[.int .u8 k] w fun e w' => e = .returned (.tuple #[.string (lastNm k), .string (lastHas k)]) ∧ w = w' := by
  have hk : k = 1 ∨ k = 2 ∨ k = 3 ∨ ((k == 1) = false ∧ (k == 2) = false ∧ (k == 3) = false) := by
    by_cases h : k = 1 ∨ k = 2 ∨ k = 3
    · rcases h with rfl | rfl | rfl <;> simp
    · simp only [not_or] at h; simp only [beq_eq_false_iff_ne, ne_eq]; simp [h]
  rcases hk with rfl | rfl | rfl | ⟨h1, h2, h3⟩
  all_goals
    go_enter Tryd.func64, Tryd.ntmps64
    go_wp2_with fail
    go_ret2
    first | exact ⟨rfl, rfl⟩ | (refine ⟨?_, rfl⟩; simp only [beq_eq_false_iff_ne, ne_eq] at *; simp [lastNm, lastHas, *])
set_option maxHeartbeats 4000000 in
theorem calcName_any (k : Int) (w : World) : Calls Tryd.prog 72 #[.int .u8 k] w fun e w' => e = .returned (.string (calcNm k)) ∧ w = w' := by
  have hk : k = 1 ∨ k = 2 ∨ k = 3 ∨ k = 4 ∨ k = 5 ∨ k = 6 ∨ k = 7 ∨ k = 8 ∨ k = 9 ∨ k = 10 ∨ k = 11 ∨ k = 12 ∨ k = 13 ∨ k = 14 ∨ ((k == 1) = false ∧ (k == 2) = false ∧ (k == 3) = false ∧ (k == 4) = false ∧ (k == 5) = false ∧ (k == 6) = false ∧ (k == 7) = false ∧ (k == 8) = false ∧ (k == 9) = false ∧ (k == 10) = false ∧ (k == 11) = false ∧ (k == 12) = false ∧ (k == 13) = false ∧ (k == 14) = false) := by
    by_cases h : k = 1 ∨ k = 2 ∨ k = 3 ∨ k = 4 ∨ k = 5 ∨ k = 6 ∨ k = 7 ∨ k = 8 ∨ k = 9 ∨ k = 10 ∨ k = 11 ∨ k = 12 ∨ k = 13 ∨ k = 14
    · rcases h with rfl | rfl | rfl | rfl | rfl | rfl | rfl | rfl | rfl | rfl | rfl | rfl | rfl | rfl <;> simp
    · simp only [not_or] at h; simp only [beq_eq_false_iff_ne, ne_eq]; simp [h]
  rcases hk with rfl | rfl | rfl | rfl | rfl | rfl | rfl | rfl | rfl | rfl | rfl | rfl | rfl | rfl | ⟨h1, h2, h3, h4, h5, h6, h7, h8, h9, h10, h11, h12, h13, h14⟩
  all_goals
    go_enter Tryd.func72, Tryd.ntmps72
    go_wp2_with fail
    go_ret
    first | exact ⟨rfl, rfl⟩ | (refine ⟨?_, rfl⟩; simp only [beq_eq_false_iff_ne, ne_eq] at *; simp [calcNm, *])
end Go.Proofs.YtgkjhnghibpeoaaDoor
