/- Plain facts about what stands between tokens, and about the numbers that digits tell. Nothing here speaks of the program. -/
import Derived.Test.YtnjjcngggdankaaGreatDoorLexPlain
namespace Go.Proofs.YtnjjcngggdankaaGreatDoor
open Go Go.Lib

def gapF : Nat → List UInt8 → Nat
  | _, [] => 0
  | 0, _ :: _ => 0
  | f + 1, c :: r => if isBlank c then gapF f r + 1 else if isRem c r then gapF f (r.dropWhile notFeed) + (r.takeWhile notFeed).length + 1 else 0
/-- How many bytes of blanks and remarks stand ahead of the first token. -/
def gapN (l : List UInt8) : Nat := gapF l.length l

theorem gapF_nil (f : Nat) : gapF f [] = 0 := by cases f <;> rfl
theorem gapF_same : ∀ (f g : Nat) (l : List UInt8), l.length ≤ f → l.length ≤ g → gapF f l = gapF g l
  | f, g, [], _, _ => by rw [gapF_nil, gapF_nil]
  | 0, _, _ :: _, h, _ => by simp at h
  | _ + 1, 0, _ :: _, _, h => by simp at h
  | f + 1, g + 1, c :: r, hf, hg => by
    simp only [List.length_cons] at hf hg
    have h1 : (r.dropWhile notFeed).length ≤ r.length := (List.dropWhile_sublist _).length_le
    rw [gapF, gapF, gapF_same f g r (by omega) (by omega), gapF_same f g (r.dropWhile notFeed) (by omega) (by omega)]
theorem gapN_nil : gapN [] = 0 := rfl
theorem gapN_blank (c : UInt8) (r : List UInt8) (h : isBlank c = true) : gapN (c :: r) = gapN r + 1 := by
  unfold gapN
  rw [List.length_cons, gapF, if_pos h]
theorem gapN_rem (c : UInt8) (r : List UInt8) (hb : isBlank c = false) (h : isRem c r = true) : gapN (c :: r) = gapN (r.dropWhile notFeed) + (r.takeWhile notFeed).length + 1 := by
  unfold gapN
  rw [List.length_cons, gapF, if_neg (by simp [hb]), if_pos h, gapF_same r.length (r.dropWhile notFeed).length _ (List.dropWhile_sublist _).length_le (Nat.le_refl _)]
theorem gapN_stop (c : UInt8) (r : List UInt8) (hb : isBlank c = false) (h : isRem c r = false) : gapN (c :: r) = 0 := by
  unfold gapN
  rw [List.length_cons, gapF, if_neg (by simp [hb]), if_neg (by simp [h])]

theorem split_while (p : UInt8 → Bool) : ∀ l : List UInt8, l.drop (l.takeWhile p).length = l.dropWhile p
  | [] => rfl
  | c :: r => by
    rw [List.takeWhile_cons, List.dropWhile_cons]
    split
    · rw [List.length_cons, List.drop_succ_cons, split_while p r]
    · rfl
theorem while_lens (p : UInt8 → Bool) : ∀ l : List UInt8, (l.takeWhile p).length + (l.dropWhile p).length = l.length
  | [] => rfl
  | c :: r => by
    rw [List.takeWhile_cons, List.dropWhile_cons]
    have := while_lens p r
    split
    · simp; omega
    · simp
theorem while_feeds : ∀ l : List UInt8, feeds (l.takeWhile notFeed) = 0 := fun l => feeds_none _ fun x hx => by
  have := while_all notFeed l x hx
  simpa [notFeed] using this

/-- What the bytes between do: their line feeds count, and nothing else; and there a token begins, or nothing does, or it is the end. -/
structure GapSays (l : List UInt8) : Prop where
  le : gapN l ≤ l.length
  lex : ∀ line, lexL line l = lexL (line + feeds (l.take (gapN l))) (l.drop (gapN l))
  stop : l.drop (gapN l) = [] ∨ ∃ c r, l.drop (gapN l) = c :: r ∧ isBlank c = false ∧ isRem c r = false
theorem gap_says : ∀ (n : Nat) (l : List UInt8), l.length ≤ n → GapSays l
  | _, [], _ => ⟨Nat.le_refl _, fun _ => rfl, .inl rfl⟩
  | 0, c :: r, h => by simp at h
  | n + 1, c :: r, h => by
    simp only [List.length_cons] at h
    have h1 : (r.dropWhile notFeed).length ≤ r.length := (List.dropWhile_sublist _).length_le
    cases hb : isBlank c with
    | true =>
      obtain ⟨g1, g2, g3⟩ := gap_says n r (by omega)
      have e := gapN_blank c r hb
      refine ⟨by rw [e, List.length_cons]; omega, fun line => ?_, by rw [e, List.drop_succ_cons]; exact g3⟩
      rw [e, List.take_succ_cons, List.drop_succ_cons, feeds_cons]
      by_cases h10 : c.toNat = 10
      · rw [lexL_feed _ c r h10, g2, if_pos h10]
        congr 1; omega
      · rw [lexL_blank _ c r h10 hb, g2, if_neg h10]
        rfl
    | false =>
      cases hr : isRem c r with
      | true =>
        obtain ⟨g1, g2, g3⟩ := gap_says n (r.dropWhile notFeed) (by omega)
        have e := gapN_rem c r hb hr
        have hl := while_lens notFeed r
        have hd : (c :: r).drop (gapN (r.dropWhile notFeed) + (r.takeWhile notFeed).length + 1) = (r.dropWhile notFeed).drop (gapN (r.dropWhile notFeed)) := by
          rw [List.drop_succ_cons, Nat.add_comm, ← List.drop_drop, split_while]
        have ht : feeds ((c :: r).take (gapN (r.dropWhile notFeed) + (r.takeWhile notFeed).length + 1)) = feeds ((r.dropWhile notFeed).take (gapN (r.dropWhile notFeed))) := by
          have a1 := feeds_split (c :: r) (gapN (r.dropWhile notFeed) + (r.takeWhile notFeed).length + 1)
          rw [hd] at a1
          have a2 := feeds_split (r.dropWhile notFeed) (gapN (r.dropWhile notFeed))
          rw [feeds_drop_rem] at a2
          rw [feeds_cons, if_neg (feed_blank c hb)] at a1
          omega
        refine ⟨by rw [e, List.length_cons]; omega, fun line => ?_, by rw [e, hd]; exact g3⟩
        rw [e, hd, ht, lexL_rem _ c r hb hr, g2]
      | false =>
        have e := gapN_stop c r hb hr
        refine ⟨by rw [e]; exact Nat.zero_le _, fun line => ?_, .inr ⟨c, r, by rw [e]; rfl, hb, hr⟩⟩
        rw [e]
        rfl
theorem gap_is (l : List UInt8) : GapSays l := gap_says l.length l (Nat.le_refl _)
end Go.Proofs.YtnjjcngggdankaaGreatDoor
