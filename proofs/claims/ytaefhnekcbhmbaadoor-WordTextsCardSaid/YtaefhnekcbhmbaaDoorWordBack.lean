/- The two statements of the word layer that speak of texts, each called at any input in any world in which the library's variables read as laid: each answers true and changes nothing that was there. -/
import Derived.Test.YtaefhnekcbhmbaaDoorRows
import Derived.Test.YtaefhnekcbhmbaaDoorWordText
import Derived.Test.YtaefhnekcbhmbaaDoorWordRead
import Derived.WalkKit
import Derived.WalkSpells
import Derived.WalkLawsBesides
import Derived.Lib.Hide
namespace Go.Proofs.YtaefhnekcbhmbaaDoor
open Go.RowKit

/-- What is read is told so, and nothing else is read. -/
theorem readN_is (l : List UInt8) (v : Int) : readN l = some v ↔ l = Lib.itoa v ∧ -9223372036854775808 ≤ v ∧ v ≤ 9223372036854775807 := by
  constructor
  · intro h
    obtain ⟨_, hp, hi⟩ := read_some h
    exact ⟨hi.symm, ok_within hp⟩
  · rintro ⟨rfl, h0, h1⟩
    unfold readN
    rw [if_pos (itoa_short v h0 h1), int_back v h0 h1]
    simp
theorem readN_asks (l : List UInt8) : readN l = asksN l := by
  apply Option.ext
  intro v
  rw [readN_is, asks_some]

theorem size_of (s : ByteArray) : s.data.toList.length = s.size := Array.length_toList

set_option maxHeartbeats 400000 in
theorem back_none (n : Int) (s : ByteArray) (h0 : -9223372036854775808 ≤ n) (h1 : n ≤ 9223372036854775807) (h : readN s.data.toList = none) (w : World) (hG : Good w) :
    Calls Tryd.prog 8 #[.int .i64 n, .string s] w fun e w' => e = .returned (.bool true) ∧ Below w.heap.size w w' := by
  have H1 := Lib.hid (text_any n h0 h1)
  have H2 := Lib.hid (fun w => parse_some ⟨(Lib.itoa n).toArray⟩ n ((readN_is _ n).2 ⟨rfl, h0, h1⟩) w)
  have H3 := Lib.hid (fun w => parse_none s h w)
  clear h0 h1 h
  go_enter Tryd.func8, Tryd.ntmps8
  go_wp2_with fail
  refine (H1.out _ hG).mono ?_; rintro e w1 ⟨rfl, b1⟩
  have G1 := hG.keeps b1
  go_wp2_with fail
  refine (H2.out _ G1).mono ?_; rintro e w2 ⟨rfl, b2⟩
  have G2 := G1.keeps b2
  go_wp2_with fail
  refine (H3.out _ G2).mono ?_; rintro e w3 ⟨rfl, b3⟩
  have G3 := G2.keeps b3
  go_wp2_with fail
  refine (alive_any _ G3).mono ?_; rintro e w4 ⟨rfl, b4⟩
  go_wp2_with fail
  go_ret
  have c2 := b1.trans (b2.mono b1.size)
  have c3 := c2.trans (b3.mono c2.size)
  exact ⟨rfl, c3.trans (b4.mono c3.size)⟩

set_option maxHeartbeats 400000 in
theorem back_some (n x : Int) (s : ByteArray) (h0 : -9223372036854775808 ≤ n) (h1 : n ≤ 9223372036854775807) (h : readN s.data.toList = some x) (w : World) (hG : Good w) :
    Calls Tryd.prog 8 #[.int .i64 n, .string s] w fun e w' => e = .returned (.bool true) ∧ Below w.heap.size w w' := by
  obtain ⟨hl, x0, x1⟩ := (readN_is _ x).1 h
  have hx := text_any x x0 x1
  rw [← hl] at hx
  have H1 := Lib.hid (text_any n h0 h1)
  have H2 := Lib.hid (fun w => parse_some ⟨(Lib.itoa n).toArray⟩ n ((readN_is _ n).2 ⟨rfl, h0, h1⟩) w)
  have H3 := Lib.hid (fun w => parse_some s x h w)
  have H4 := Lib.hid hx
  clear h0 h1 h hl x0 x1 hx
  go_enter Tryd.func8, Tryd.ntmps8
  go_wp2_with fail
  refine (H1.out _ hG).mono ?_; rintro e w1 ⟨rfl, b1⟩
  have G1 := hG.keeps b1
  go_wp2_with fail
  refine (H2.out _ G1).mono ?_; rintro e w2 ⟨rfl, b2⟩
  have G2 := G1.keeps b2
  go_wp2_with fail
  refine (H3.out _ G2).mono ?_; rintro e w3 ⟨rfl, b3⟩
  have G3 := G2.keeps b3
  go_wp2_with fail
  refine (H4.out _ G3).mono ?_; rintro e w4 ⟨rfl, b4⟩
  have G4 := G3.keeps b4
  go_wp2_with fail
  refine (alive_any _ G4).mono ?_; rintro e w5 ⟨rfl, b5⟩
  go_wp2_with fail
  go_ret
  have c2 := b1.trans (b2.mono b1.size)
  have c3 := c2.trans (b3.mono c2.size)
  have c4 := c3.trans (b4.mono c3.size)
  exact ⟨rfl, c4.trans (b5.mono c4.size)⟩

theorem back_law (n : Int) (s : ByteArray) (h0 : -9223372036854775808 ≤ n) (h1 : n ≤ 9223372036854775807) (w : World) (hG : Good w) :
    Calls Tryd.prog 8 #[.int .i64 n, .string s] w fun e w' => e = .returned (.bool true) ∧ Below w.heap.size w w' := by
  cases h : readN s.data.toList with
  | none => exact back_none n s h0 h1 h w hG
  | some x => exact back_some n x s h0 h1 h w hG
end Go.Proofs.YtaefhnekcbhmbaaDoor
