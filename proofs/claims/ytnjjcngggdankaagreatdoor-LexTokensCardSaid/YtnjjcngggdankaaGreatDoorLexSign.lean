/- How many bytes the sign has that begins a text, which texts are names, and how far remarks, blanks and remarks go: what the lex layer's functions answer, at every text. Each leaves the world as it was. -/
import Derived.Test.YtnjjcngggdankaaGreatDoorRows
import Derived.Test.YtnjjcngggdankaaGreatDoorLexWord
import Derived.Shelf.Strings.Prefix
import Derived.Shelf.Small.Strs
import Derived.Lib.Strings
import Derived.WalkKit
import Derived.WalkSpells
import Derived.WalkLawsBesides
import Derived.Lib.Hide
namespace Go.Proofs.YtnjjcngggdankaaGreatDoor
open Go.RowKit

theorem tail_at (s : ByteArray) (k : Nat) : (s.extract k s.size).data.toList = s.data.toList.drop k := by
  rw [Lib.extract_data, List.take_of_length_le]
  rw [List.length_drop, size_of]; exact Nat.le_refl _
theorem head_to (s : ByteArray) (k : Nat) : (s.extract 0 k).data.toList = s.data.toList.take k := by
  rw [Lib.extract_data]; simp
theorem byte_int (c d : UInt8) : (c == d) = ((c.toNat : Int) == (d.toNat : Int)) := by
  rw [Bool.eq_iff_iff, beq_iff_eq, beq_iff_eq, ← UInt8.toNat_inj]
  omega
/-- The signs of one byte, as numbers. -/
def onesI (x : Int) : Bool := [123, 125, 40, 41, 91, 93, 46, 44, 59, 61, 60, 62, 43, 45, 42, 47, 37, 33].contains x
theorem ones_int (c : UInt8) : onesL.contains c = onesI c.toNat := by
  unfold onesI onesL
  simp only [List.contains_cons, List.contains_nil, byte_int]
  rfl
theorem sign_short (s : ByteArray) (h0 : 0 < s.size) (h : s.size < 2) : signLen s.data.toList = if onesI (s[0].toNat : Int) = true then 1 else 0 := by
  have e := left_at s 0 h0
  rw [List.drop_zero, left_end s 1 (by omega)] at e
  rw [e, sign_one, ones_int]
theorem sign_long (s : ByteArray) (h : 2 ≤ s.size) : signLen s.data.toList = if twosL.contains (s.extract 0 2).toList = true then 2 else if onesI (s[0].toNat : Int) = true then 1 else 0 := by
  have e := left_at s 0 (by omega)
  rw [List.drop_zero, left_at s 1 (by omega)] at e
  rw [bytes_list, head_to, e, sign_two, ones_int]
  rfl
theorem sign_is (n : Nat) (x : Int) (h : x = (n : Int)) : Ending.returned (.int .i64 x) = Ending.returned (.int .i64 (n : Int)) := by rw [h]

set_option maxHeartbeats 1000000 in
theorem size_any (s : ByteArray) (h0 : 0 < s.size) (w : World) :
    Calls Tryz.prog 173 #[.string s] w fun e w' => e = .returned (.int .i64 ((signLen s.data.toList : Nat) : Int)) ∧ w = w' := by
  rcases Nat.lt_or_ge s.size 2 with h2 | h2
  · have H := Lib.hid (sign_short s h0 h2)
    go_enter Tryz.func173, Tryz.ntmps173
    go_wp2
    all_goals
      go_ret
      refine ⟨sign_is _ _ ?_, rfl⟩
      rw [H.out]
      unfold onesI
      simp [-beq_iff_eq, -Bool.or_eq_true, -List.contains_eq_mem, *]
  · have H := Lib.hid (sign_long s h2)
    cases k0 : ((s.extract 0 2).toList == [61, 61]) with
    | true =>
      go_enter Tryz.func173, Tryz.ntmps173
      go_wp2
      all_goals
        go_ret
        refine ⟨sign_is _ _ ?_, rfl⟩
        rw [H.out]
        unfold twosL onesI
        simp [-beq_iff_eq, -Bool.or_eq_true, -List.contains_eq_mem, *]
    | false =>
      cases k1 : ((s.extract 0 2).toList == [33, 61]) with
      | true =>
        go_enter Tryz.func173, Tryz.ntmps173
        go_wp2
        all_goals
          go_ret
          refine ⟨sign_is _ _ ?_, rfl⟩
          rw [H.out]
          unfold twosL onesI
          simp [-beq_iff_eq, -Bool.or_eq_true, -List.contains_eq_mem, *]
      | false =>
        cases k2 : ((s.extract 0 2).toList == [60, 61]) with
        | true =>
          go_enter Tryz.func173, Tryz.ntmps173
          go_wp2
          all_goals
            go_ret
            refine ⟨sign_is _ _ ?_, rfl⟩
            rw [H.out]
            unfold twosL onesI
            simp [-beq_iff_eq, -Bool.or_eq_true, -List.contains_eq_mem, *]
        | false =>
          cases k3 : ((s.extract 0 2).toList == [62, 61]) with
          | true =>
            go_enter Tryz.func173, Tryz.ntmps173
            go_wp2
            all_goals
              go_ret
              refine ⟨sign_is _ _ ?_, rfl⟩
              rw [H.out]
              unfold twosL onesI
              simp [-beq_iff_eq, -Bool.or_eq_true, -List.contains_eq_mem, *]
          | false =>
            cases k4 : ((s.extract 0 2).toList == [38, 38]) with
            | true =>
              go_enter Tryz.func173, Tryz.ntmps173
              go_wp2
              all_goals
                go_ret
                refine ⟨sign_is _ _ ?_, rfl⟩
                rw [H.out]
                unfold twosL onesI
                simp [-beq_iff_eq, -Bool.or_eq_true, -List.contains_eq_mem, *]
            | false =>
              cases k5 : ((s.extract 0 2).toList == [124, 124]) with
              | true =>
                go_enter Tryz.func173, Tryz.ntmps173
                go_wp2
                all_goals
                  go_ret
                  refine ⟨sign_is _ _ ?_, rfl⟩
                  rw [H.out]
                  unfold twosL onesI
                  simp [-beq_iff_eq, -Bool.or_eq_true, -List.contains_eq_mem, *]
              | false =>
                go_enter Tryz.func173, Tryz.ntmps173
                go_wp2
                all_goals
                  go_ret
                  refine ⟨sign_is _ _ ?_, rfl⟩
                  rw [H.out]
                  unfold twosL onesI
                  simp [-beq_iff_eq, -Bool.or_eq_true, -List.contains_eq_mem, *]
end Go.Proofs.YtnjjcngggdankaaGreatDoor
