/- That the lex layer does something at all: the statements' own question is answered yes, wherever the library's variables read as laid. -/
import Derived.Test.YtnjjcngggdankaaGreatDoorRows
import Derived.Test.YtnjjcngggdankaaGreatDoorLexTokens
import Derived.Laws.OwnMore
import Derived.Deep.AppendLies
import Derived.KernelRfl
import Derived.WalkKit
import Derived.WalkSpells
import Derived.WalkLawsBesides
import Derived.Lib.Hide
namespace Go.Proofs.YtnjjcngggdankaaGreatDoor
open Go.RowKit

theorem lex_one : lexL 0 [97, 60, 61, 53, 32, 47, 47, 32, 120, 10, 110, 105, 108] = .ok [⟨1, [97], 0, 0⟩, ⟨4, [60, 61], 0, 0⟩, ⟨3, [53], 5, 0⟩, ⟨2, [110, 105, 108], 0, 1⟩] := by kernel_rfl
theorem lex_two : lexL 0 [97, 10, 35] = .error 1 := by kernel_rfl

/-- A cell of a row, by its place. -/
theorem row_cell {w : World} {base : Nat} {e : TypeId} {size n : Nat} {g cap : Nat} {xs : List Value} (h : w.ownsRow base e size (.slice (some ⟨g, 0, none⟩) n cap) n xs) (j : Nat) (u : Value) (hu : xs[j]? = some u) : w.cell? ⟨g, j, none⟩ = some u := by
  have e := h.cells (g := g) rfl j u hu
  rw [← e]
  congr 1
  unfold Addr.add
  split <;> simp_all

set_option maxRecDepth 100000 in
set_option maxHeartbeats 1000000 in
theorem alive_any (w : World) (hG : Good w) :
    Calls Tryz.prog 9 #[] w fun e w' => e = .returned (.bool true) ∧ Below w.heap.size w w' := by
  have t1 : ∀ w, Good w → Calls Tryz.prog 4 #[.string ⟨#[97, 60, 61, 53, 32, 47, 47, 32, 120, 10, 110, 105, 108]⟩] w (Lexed (.ok [⟨1, [97], 0, 0⟩, ⟨4, [60, 61], 0, 0⟩, ⟨3, [53], 5, 0⟩, ⟨2, [110, 105, 108], 0, 1⟩]) w) := fun w hG => by
    rw [← lex_one]
    exact tokens_any ⟨#[97, 60, 61, 53, 32, 47, 47, 32, 120, 10, 110, 105, 108]⟩ (by decide) w hG
  have t2 : ∀ w, Good w → Calls Tryz.prog 4 #[.string ⟨#[97, 10, 35]⟩] w (Lexed (.error 1) w) := fun w hG => by
    rw [← lex_two]
    exact tokens_any ⟨#[97, 10, 35]⟩ (by decide) w hG
  have w1 : ∀ w, Calls Tryz.prog 95 #[.string ⟨#[105, 110, 116]⟩] w fun e w' => e = .returned (.bool true) ∧ w = w' := fun w => word_any ⟨#[105, 110, 116]⟩ w
  have n1 : ∀ w, Calls Tryz.prog 96 #[.string ⟨#[97, 95, 49]⟩] w fun e w' => e = .returned (.bool true) ∧ w = w' := fun w => name_any ⟨#[97, 95, 49]⟩ (by decide) w
  have T1 := Lib.hid t1
  have T2 := Lib.hid t2
  have W1 := Lib.hid w1
  have N1 := Lib.hid n1
  clear t1 t2 w1 n1
  go_enter Tryz.func9, Tryz.ntmps9
  go_wp2_with fail
  refine (T1.out _ hG).mono ?_; rintro e w1 ⟨hb1, v1, rfl, ho1⟩
  go_wp2_with fail
  refine (T2.out _ (hG.keeps hb1)).mono ?_; rintro e w2 ⟨hb2, rfl⟩
  have ho2 := own_below ho1 hb2
  obtain ⟨g, cap, rfl, _, hlt⟩ := ho2.form (by decide)
  have c1 : w2.cell? ⟨g, 5, none⟩ = some (.string ⟨#[60, 61]⟩) := row_cell ho2 5 _ rfl
  have c2 : w2.cell? ⟨g, 10, none⟩ = some (.int .i64 5) := row_cell ho2 10 _ rfl
  have c3 : w2.cell? ⟨g, 12, none⟩ = some (.int .u8 2) := row_cell ho2 12 _ rfl
  have c4 : w2.cell? ⟨g, 15, none⟩ = some (.int .i64 1) := row_cell ho2 15 _ rfl
  have hb := hb1.trans (hb2.mono hb1.size)
  clear ho1 ho2 hb1 hb2 hlt
  go_wp2_with (first | (go_at_call 95; refine (W1.out _).mono ?_; rintro e w' ⟨rfl, rfl⟩) | (go_at_call 96; refine (N1.out _).mono ?_; rintro e w' ⟨rfl, rfl⟩))
  go_ret
  exact ⟨rfl, hb⟩
end Go.Proofs.YtnjjcngggdankaaGreatDoor
