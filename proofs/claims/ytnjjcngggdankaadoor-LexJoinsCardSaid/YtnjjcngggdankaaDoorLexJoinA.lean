/- The statement of texts behind one another, where the two are too long together or one of them is refused: it answers true and leaves what there was. -/
import Derived.Test.YtnjjcngggdankaaDoorRows
import Derived.Test.YtnjjcngggdankaaDoorLexJoinP
import Derived.Test.YtnjjcngggdankaaDoorLexAlive
import Derived.Laws.AppendOwn
import Derived.WalkKit
import Derived.WalkSpells
import Derived.WalkLawsBesides
import Derived.Lib.Hide
namespace Go.Proofs.YtnjjcngggdankaaDoor
open Go.RowKit Go.Joins

set_option maxRecDepth 1000000 in
set_option maxHeartbeats 400000 in
theorem joins_long (a b : ByteArray) (ha : a.size ≤ 140737488351232) (hb : b.size ≤ 140737488351232) (hl : 65536 ≤ a.size + b.size) (w : World) (hG : Good w) :
    Calls Tryd.prog 4 #[.string a, .string b] w fun e w' => e = .returned (.bool true) ∧ Below w.heap.size w w' := by
  go_enter Tryd.func4, Tryd.ntmps4
  go_wp2_with fail
  refine (alive_any _ hG).mono ?_; rintro e w' ⟨rfl, hb⟩
  go_wp2_with fail
  go_ret
  exact ⟨rfl, hb⟩

set_option maxRecDepth 1000000 in
set_option maxHeartbeats 1000000 in
theorem joins_first (a b : ByteArray) (hl : a.size + b.size < 65536) (k : Nat) (h : lexL 0 a.data.toList = .error k) (w : World) (hG : Good w) :
    Calls Tryd.prog 4 #[.string a, .string b] w fun e w' => e = .returned (.bool true) ∧ Below w.heap.size w w' := by
  have hk := err_known h
  rw [size_of] at hk
  have H1 := Lib.hid (tokens_err a (by omega) k h)
  have H3 := Lib.hid (tokens_err (a ++ (⟨#[10]⟩ : ByteArray) ++ b) (by rw [join_size]; omega) k (by rw [join_list]; exact join_err h))
  have HF := Lib.hid (feeds_any a (by omega))
  have hf := feeds_le a.data.toList
  rw [size_of] at hf
  cases h2 : lexL 0 b.data.toList with
  | error k2 =>
    have H2 := Lib.hid (tokens_err b (by omega) k2 h2)
    clear h h2
    go_enter Tryd.func4, Tryd.ntmps4
    go_wp2_with fail
    refine (H1.out _ hG).mono ?_; rintro e w1 ⟨rfl, b1⟩
    have G1 := hG.keeps b1
    go_wp2_with fail
    refine (H2.out _ G1).mono ?_; rintro e w2 ⟨rfl, b2⟩
    have G2 := G1.keeps b2
    go_wp2_with fail
    refine (H3.out _ G2).mono ?_; rintro e w3 ⟨rfl, b3⟩
    have G3 := G2.keeps b3
    go_wp2_with fail
    refine (HF.out _).mono ?_; rintro e w' ⟨rfl, rfl⟩
    go_wp2_with fail
    refine (alive_any _ G3).mono ?_; rintro e w4 ⟨rfl, b4⟩
    go_wp2_with fail
    go_ret
    have c2 := b1.trans (b2.mono b1.size)
    have c3 := c2.trans (b3.mono c2.size)
    exact ⟨rfl, c3.trans (b4.mono c3.size)⟩
  | ok m =>
    have H2 := Lib.hid (tokens_ok b (by omega) m h2)
    clear h h2
    go_enter Tryd.func4, Tryd.ntmps4
    go_wp2_with fail
    refine (H1.out _ hG).mono ?_; rintro e w1 ⟨rfl, b1⟩
    have G1 := hG.keeps b1
    go_wp2_with fail
    refine (H2.out _ G1).mono ?_; rintro e w2 ⟨v2, rfl, b2, _⟩
    have G2 := G1.keeps b2
    go_wp2_with fail
    refine (H3.out _ G2).mono ?_; rintro e w3 ⟨rfl, b3⟩
    have G3 := G2.keeps b3
    go_wp2_with fail
    refine (HF.out _).mono ?_; rintro e w' ⟨rfl, rfl⟩
    go_wp2_with fail
    refine (alive_any _ G3).mono ?_; rintro e w4 ⟨rfl, b4⟩
    go_wp2_with fail
    go_ret
    have c2 := b1.trans (b2.mono b1.size)
    have c3 := c2.trans (b3.mono c2.size)
    exact ⟨rfl, c3.trans (b4.mono c3.size)⟩

set_option maxRecDepth 1000000 in
set_option maxHeartbeats 1000000 in
theorem joins_second (a b : ByteArray) (hl : a.size + b.size < 65536) (l : List Tok) (k : Nat) (h : lexL 0 a.data.toList = .ok l) (h2 : lexL 0 b.data.toList = .error k) (w : World) (hG : Good w) :
    Calls Tryd.prog 4 #[.string a, .string b] w fun e w' => e = .returned (.bool true) ∧ Below w.heap.size w w' := by
  have hk := err_known h2
  rw [size_of] at hk
  have hf := feeds_le a.data.toList
  rw [size_of] at hf
  have H1 := Lib.hid (tokens_ok a (by omega) l h)
  have H2 := Lib.hid (tokens_err b (by omega) k h2)
  have H3 := tokens_err (a ++ (⟨#[10]⟩ : ByteArray) ++ b) (by rw [join_size]; omega) _ (by rw [join_list]; exact join_second h h2)
  have HF := feeds_any a (by omega)
  obtain ⟨f, hff⟩ : ∃ f, f = feeds a.data.toList := ⟨_, rfl⟩
  rw [← hff] at H3 HF hf
  have H3' : Hid (∀ w, Good w → Calls Tryd.prog 11 #[.string (a ++ (⟨#[10]⟩ : ByteArray) ++ b)] w fun e w' => e = .returned (.tuple #[.slice none 0 0, .int .i64 ((k : Int) + ((f : Int) + 1)), .int .i64 5]) ∧ Below w.heap.size w w') := Lib.hid H3
  have HF' := Lib.hid HF
  clear h h2 H3 HF hff
  go_enter Tryd.func4, Tryd.ntmps4
  go_wp2_with fail
  refine (H1.out _ hG).mono ?_; rintro e w1 ⟨v1, rfl, b1, _⟩
  have G1 := hG.keeps b1
  go_wp2_with fail
  refine (H2.out _ G1).mono ?_; rintro e w2 ⟨rfl, b2⟩
  have G2 := G1.keeps b2
  go_wp2_with fail
  refine (H3'.out _ G2).mono ?_; rintro e w3 ⟨rfl, b3⟩
  have G3 := G2.keeps b3
  go_wp2_with fail
  refine (HF'.out _).mono ?_; rintro e w' ⟨rfl, rfl⟩
  go_wp2_with fail
  refine (alive_any _ G3).mono ?_; rintro e w4 ⟨rfl, b4⟩
  go_wp2_with fail
  go_ret
  have c2 := b1.trans (b2.mono b1.size)
  have c3 := c2.trans (b3.mono c2.size)
  exact ⟨rfl, c3.trans (b4.mono c3.size)⟩
end Go.Proofs.YtnjjcngggdankaaDoor
