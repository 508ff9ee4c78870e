/- Where graphs lie in memory, and what is read of them there. Nothing here is a walk. -/
import Derived.Test.YtgndpcoplkhhgaaGreatDoorRows
import Derived.Test.YtgndpcoplkhhgaaGreatDoorIrPlain
import Derived.Deep.MidRow
import Derived.Deep.WholeRow
import Derived.WalkKit
import Derived.WalkSpells
import Derived.WalkLawsBesides
import Derived.Lib.Hide
namespace Go.Proofs.YtgndpcoplkhhgaaGreatDoor
open Go Go.Lib Go.RowKit

/-- A list lies so in the world, below B: each thing takes k cells. -/
def LiesG {α : Type} (cells : α → List Value) (k : Nat) (w : World) (B : Nat) (s : Value) (l : List α) : Prop :=
  ∃ ao cap, s = .slice ao l.length cap ∧ l.length ≤ 140737488351232 ∧ (l = [] ∨ ∃ g off, ao = some ⟨g, off, none⟩ ∧ g < B ∧ ∀ i x, l[i]? = some x → ∀ j u, (cells x)[j]? = some u → w.cell? ⟨g, off + (i * k + j), none⟩ = some u)
theorem LiesG.below {α : Type} {cells : α → List Value} {k : Nat} {w w' : World} {B : Nat} {s : Value} {l : List α} (h : LiesG cells k w B s l) (hb : Below B w w') : LiesG cells k w' B s l := by
  obtain ⟨ao, cap, hs, hl, h⟩ := h
  refine ⟨ao, cap, hs, hl, ?_⟩
  rcases h with h | ⟨g, off, h1, h2, h3⟩
  · exact .inl h
  · exact .inr ⟨g, off, h1, h2, fun i x hx j u hu => by rw [hb.cell (p := ⟨g, _, none⟩) h2]; exact h3 i x hx j u hu⟩
theorem LiesG.up {α : Type} {cells : α → List Value} {k : Nat} {w : World} {B B' : Nat} {s : Value} {l : List α} (hB : B ≤ B') (h : LiesG cells k w B s l) : LiesG cells k w B' s l := by
  obtain ⟨ao, cap, hs, hl, h⟩ := h
  refine ⟨ao, cap, hs, hl, ?_⟩
  rcases h with h | ⟨g, off, q1, q2, q3⟩
  · exact .inl h
  · exact .inr ⟨g, off, q1, by omega, q3⟩
theorem LiesG.form {α : Type} {cells : α → List Value} {k : Nat} {w : World} {B : Nat} {s : Value} {l : List α} (h : LiesG cells k w B s l) :
    ∃ ao cap, s = .slice ao l.length cap ∧ l.length ≤ 9223372036854775807 ∧ (0 < l.length → ∃ g off, ao = some ⟨g, off, none⟩ ∧ g < B) := by
  obtain ⟨ao, cap, hs, hlen, hl⟩ := h
  refine ⟨ao, cap, hs, by omega, fun h0 => ?_⟩
  rcases hl with hl | ⟨g, off, e1, hg, _⟩
  · subst hl; exact absurd h0 (by simp)
  · exact ⟨g, off, e1, hg⟩
theorem LiesG.room {α : Type} {cells : α → List Value} {k : Nat} {w : World} {B : Nat} {s : Value} {l : List α} (h : LiesG cells k w B s l) : l.length ≤ 140737488351232 := by
  obtain ⟨_, _, _, h, _⟩ := h; exact h
/-- The cells of the i-th thing. -/
theorem LiesG.at {α : Type} {cells : α → List Value} {k : Nat} {w : World} {B : Nat} {s : Value} {l : List α} (h : LiesG cells k w B s l) {g off n c : Nat} (hs : s = .slice (some ⟨g, off, none⟩) n c) (i : Nat) (hi : i < l.length) :
    g < B ∧ ∀ j u, (cells l[i])[j]? = some u → w.cell? ⟨g, off + i * k + j, none⟩ = some u := by
  obtain ⟨ao, cap, hs', _, hl⟩ := h
  rcases hl with hl | ⟨g', off', e1, hg, hc⟩
  · subst hl; exact absurd hi (by simp)
  rw [hs] at hs'
  injection hs' with e2 _ _
  rw [e1] at e2
  cases e2
  exact ⟨hg, fun j u hu => by rw [Nat.add_assoc]; exact hc i l[i] (List.getElem?_eq_getElem hi) j u hu⟩


def Bcells (b : Bool) : List Value := [.bool b]
structure InOk (i : In) : Prop where
  k : 0 ≤ i.k ∧ i.k ≤ 255
  o : 0 ≤ i.o ∧ i.o ≤ 255
  a : -9223372036854775808 ≤ i.a ∧ i.a ≤ 9223372036854775807
  b : -9223372036854775808 ≤ i.b ∧ i.b ≤ 9223372036854775807
  c : -9223372036854775808 ≤ i.c ∧ i.c ≤ 9223372036854775807
  n : -9223372036854775808 ≤ i.n ∧ i.n ≤ 9223372036854775807
structure BkOk (b : Bk) : Prop where
  last : 0 ≤ b.last ∧ b.last ≤ 255
  reg : -9223372036854775808 ≤ b.reg ∧ b.reg ≤ 9223372036854775807
  yes : -9223372036854775808 ≤ b.yes ∧ b.yes ≤ 9223372036854775807
  no : -9223372036854775808 ≤ b.no ∧ b.no ≤ 9223372036854775807
structure BIn (w : World) (B : Nat) (b : Bk) : Prop where
  lies : LiesG In.cells 6 w B b.iv b.ins
  ok : BkOk b
  ins : ∀ i ∈ b.ins, InOk i
structure GIn (w : World) (B : Nat) (g : Gr) : Prop where
  rlies : LiesG Bcells 1 w B g.rv g.refs
  sites : -9223372036854775808 ≤ g.sites ∧ g.sites ≤ 9223372036854775807
  blies : LiesG Bk.cells 5 w B g.bv g.blocks
  blocks : ∀ b ∈ g.blocks, BIn w B b
structure CIn (w : World) (B : Nat) (c : Cd) : Prop where
  words : -9223372036854775808 ≤ c.words ∧ c.words ≤ 9223372036854775807
  tlies : LiesG Gr.cells 3 w B c.tv c.threads
  threads : ∀ g ∈ c.threads, GIn w B g
theorem BIn.keeps {w w' : World} {B : Nat} {r : Bk} (h : BIn w B r) (hb : Below B w w') : BIn w' B r := ⟨h.lies.below hb, h.ok, h.ins⟩
theorem GIn.keeps {w w' : World} {B : Nat} {r : Gr} (h : GIn w B r) (hb : Below B w w') : GIn w' B r := ⟨h.rlies.below hb, h.sites, h.blies.below hb, fun a ha => (h.blocks a ha).keeps hb⟩
theorem CIn.keeps {w w' : World} {B : Nat} {r : Cd} (h : CIn w B r) (hb : Below B w w') : CIn w' B r := ⟨h.words, h.tlies.below hb, fun a ha => (h.threads a ha).keeps hb⟩
theorem BIn.up {w : World} {B B' : Nat} {r : Bk} (hB : B ≤ B') (h : BIn w B r) : BIn w B' r := ⟨h.lies.up hB, h.ok, h.ins⟩
theorem GIn.up {w : World} {B B' : Nat} {r : Gr} (hB : B ≤ B') (h : GIn w B r) : GIn w B' r := ⟨h.rlies.up hB, h.sites, h.blies.up hB, fun a ha => (h.blocks a ha).up hB⟩
theorem CIn.up {w : World} {B B' : Nat} {r : Cd} (hB : B ≤ B') (h : CIn w B r) : CIn w B' r := ⟨h.words, h.tlies.up hB, fun a ha => (h.threads a ha).up hB⟩

theorem ic {w : World} {g o : Nat} {i : In} (h : ∀ j u, i.cells[j]? = some u → w.cell? ⟨g, o + j, none⟩ = some u) :
    w.cell? ⟨g, o, none⟩ = some (.int .u8 i.k) ∧ w.cell? ⟨g, o + 1, none⟩ = some (.int .u8 i.o) ∧ w.cell? ⟨g, o + 2, none⟩ = some (.int .i64 i.a) ∧ w.cell? ⟨g, o + 3, none⟩ = some (.int .i64 i.b) ∧ w.cell? ⟨g, o + 4, none⟩ = some (.int .i64 i.c) ∧ w.cell? ⟨g, o + 5, none⟩ = some (.int .i64 i.n) :=
  ⟨h 0 _ rfl, h 1 _ rfl, h 2 _ rfl, h 3 _ rfl, h 4 _ rfl, h 5 _ rfl⟩
theorem bc {w : World} {g o : Nat} {b : Bk} (h : ∀ j u, b.cells[j]? = some u → w.cell? ⟨g, o + j, none⟩ = some u) :
    w.cell? ⟨g, o, none⟩ = some b.iv ∧ w.cell? ⟨g, o + 1, none⟩ = some (.int .u8 b.last) ∧ w.cell? ⟨g, o + 2, none⟩ = some (.int .i64 b.reg) ∧ w.cell? ⟨g, o + 3, none⟩ = some (.int .i64 b.yes) ∧ w.cell? ⟨g, o + 4, none⟩ = some (.int .i64 b.no) :=
  ⟨h 0 _ rfl, h 1 _ rfl, h 2 _ rfl, h 3 _ rfl, h 4 _ rfl⟩
theorem gc3 {w : World} {g o : Nat} {b : Gr} (h : ∀ j u, b.cells[j]? = some u → w.cell? ⟨g, o + j, none⟩ = some u) :
    w.cell? ⟨g, o, none⟩ = some b.rv ∧ w.cell? ⟨g, o + 1, none⟩ = some (.int .i64 b.sites) ∧ w.cell? ⟨g, o + 2, none⟩ = some b.bv := ⟨h 0 _ rfl, h 1 _ rfl, h 2 _ rfl⟩
theorem own2 {w : World} {b : Nat} {T : TypeId} {fr : Nat × Nat} {a0 a1 : Value} (h : w.heap[b]? = some (.cells #[a0, a1] T fr)) : w.cell? ⟨b, 0, none⟩ = some a0 ∧ w.cell? ⟨b, 1, none⟩ = some a1 :=
  ⟨by rw [Lib.cell_of_heap h]; rfl, by rw [Lib.cell_of_heap h]; rfl⟩
theorem own3 {w : World} {b : Nat} {T : TypeId} {fr : Nat × Nat} {a0 a1 a2 : Value} (h : w.heap[b]? = some (.cells #[a0, a1, a2] T fr)) : w.cell? ⟨b, 0, none⟩ = some a0 ∧ w.cell? ⟨b, 1, none⟩ = some a1 ∧ w.cell? ⟨b, 2, none⟩ = some a2 :=
  ⟨by rw [Lib.cell_of_heap h]; rfl, by rw [Lib.cell_of_heap h]; rfl, by rw [Lib.cell_of_heap h]; rfl⟩
theorem own5 {w : World} {b : Nat} {T : TypeId} {fr : Nat × Nat} {a0 a1 a2 a3 a4 : Value} (h : w.heap[b]? = some (.cells #[a0, a1, a2, a3, a4] T fr)) : w.cell? ⟨b, 0, none⟩ = some a0 ∧ w.cell? ⟨b, 1, none⟩ = some a1 ∧ w.cell? ⟨b, 2, none⟩ = some a2 ∧ w.cell? ⟨b, 3, none⟩ = some a3 ∧ w.cell? ⟨b, 4, none⟩ = some a4 :=
  ⟨by rw [Lib.cell_of_heap h]; rfl, by rw [Lib.cell_of_heap h]; rfl, by rw [Lib.cell_of_heap h]; rfl, by rw [Lib.cell_of_heap h]; rfl, by rw [Lib.cell_of_heap h]; rfl⟩
theorem own6 {w : World} {b : Nat} {T : TypeId} {fr : Nat × Nat} {a0 a1 a2 a3 a4 a5 : Value} (h : w.heap[b]? = some (.cells #[a0, a1, a2, a3, a4, a5] T fr)) : w.cell? ⟨b, 0, none⟩ = some a0 ∧ w.cell? ⟨b, 1, none⟩ = some a1 ∧ w.cell? ⟨b, 2, none⟩ = some a2 ∧ w.cell? ⟨b, 3, none⟩ = some a3 ∧ w.cell? ⟨b, 4, none⟩ = some a4 ∧ w.cell? ⟨b, 5, none⟩ = some a5 :=
  ⟨by rw [Lib.cell_of_heap h]; rfl, by rw [Lib.cell_of_heap h]; rfl, by rw [Lib.cell_of_heap h]; rfl, by rw [Lib.cell_of_heap h]; rfl, by rw [Lib.cell_of_heap h]; rfl, by rw [Lib.cell_of_heap h]; rfl⟩
/-- The i-th sign of a row of Booleans. -/
theorem LiesG.bit {w : World} {B : Nat} {s : Value} {l : List Bool} (h : LiesG Bcells 1 w B s l) {g off n c : Nat} (hs : s = .slice (some ⟨g, off, none⟩) n c) (i : Nat) (hi : i < l.length) : w.cell? ⟨g, off + i, none⟩ = some (.bool (refB l (i : Int))) := by
  have h1 := (h.at hs i hi).2 0 (.bool l[i]) rfl
  rw [Nat.mul_one, Nat.add_zero] at h1
  rw [h1]
  unfold refB
  rw [Int.toNat_natCast, List.getElem?_eq_getElem hi]
  rfl
end Go.Proofs.YtgndpcoplkhhgaaGreatDoor
