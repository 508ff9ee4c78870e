/- Plain facts that tie the library's own words to those of tokens: where the first line feed is, how many there are, with which two bytes a remark begins. Nothing here speaks of the program. -/
import Derived.Test.YtnjjcngggdankaaGreatDoorLexGap
import Derived.Lib.Bytealg
import Derived.Lib.Strings
namespace Go.Proofs.YtnjjcngggdankaaGreatDoor
open Go Go.Lib

theorem feed_is (c : UInt8) : (c == 10) = decide (c.toNat = 10) := by
  rw [Bool.eq_iff_iff]
  simp [← UInt8.toNat_inj]
theorem not_feed (c : UInt8) : notFeed c = !(c == 10) := by
  rw [feed_is]; unfold notFeed; simp
/-- The first line feed stands behind the bytes that are none. -/
theorem index_feed : ∀ l : List UInt8, (indexByte l 10 = -1 ∧ l.takeWhile notFeed = l) ∨ indexByte l 10 = ((l.takeWhile notFeed).length : Int)
  | [] => .inl ⟨rfl, rfl⟩
  | c :: r => by
    rw [List.takeWhile_cons, not_feed]
    unfold indexByte
    cases hc : c == 10 with
    | true => exact .inr rfl
    | false =>
      rcases index_feed r with ⟨h1, h2⟩ | h1
      · rw [h1]
        exact .inl ⟨rfl, by simp [h2]⟩
      · have h0 : (indexByte r 10 == -1) = false := by
          rw [h1, beq_eq_false_iff_ne]; omega
        rw [h0]
        refine .inr ?_
        simp [h1]
theorem count_feed (l : List UInt8) : countByte l 10 = feeds l := by
  unfold countByte feeds List.count
  congr 1
  funext c
  exact feed_is c
theorem prefix_rem (c : UInt8) (r : List UInt8) : hasPrefix (c :: r) [47, 47] = isRem c r := by
  have e : (47 == c) = decide (c.toNat = 47) := by
    rw [Bool.eq_iff_iff]
    simp [← UInt8.toNat_inj]
    exact eq_comm
  unfold hasPrefix isRem
  cases r with
  | nil => simp [List.isPrefixOf]
  | cons d r =>
    have e2 : (47 == d) = (some d == some 47) := by
      rw [Bool.eq_iff_iff]
      simp
      exact eq_comm
    simp only [List.isPrefixOf, List.head?_cons, e, e2, Bool.and_true]
theorem prefix_none : hasPrefix [] [47, 47] = false := rfl
end Go.Proofs.YtnjjcngggdankaaGreatDoor
