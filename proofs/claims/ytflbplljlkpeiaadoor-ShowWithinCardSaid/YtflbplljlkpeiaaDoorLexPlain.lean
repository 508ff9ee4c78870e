/- Plain facts about texts as tokens: what a text's tokens are, that a line feed between two texts parts their tokens, and that the tokens' own texts have the same tokens. Nothing here speaks of the program. -/
import Derived.Test.YtflbplljlkpeiaaDoorWordRead
namespace Go.Proofs.YtflbplljlkpeiaaDoor
open Go Go.Lib

def isLetter (c : UInt8) : Bool := decide (97 ≤ c.toNat ∧ c.toNat ≤ 122)
def isDigit (c : UInt8) : Bool := decide (48 ≤ c.toNat ∧ c.toNat ≤ 57)
def isIn (c : UInt8) : Bool := isLetter c || isDigit c || decide (c.toNat = 95)
def isBlank (c : UInt8) : Bool := decide (c.toNat = 32 ∨ c.toNat = 9 ∨ c.toNat = 10 ∨ c.toNat = 13)
def notFeed (c : UInt8) : Bool := decide (c.toNat ≠ 10)

/-- The words of the language, as bytes. -/
def wordsL : List (List UInt8) :=
  [[114, 101, 99, 111, 114, 100], [115, 104, 97, 114, 101, 100], [102, 117, 110, 99], [116, 104, 114, 101, 97, 100], [118, 97, 114], [105, 102], [101, 108, 115, 101], [119, 104, 105, 108, 101], [97, 116, 111, 109, 105, 99],
   [112, 114, 105, 110, 116], [114, 101, 116, 117, 114, 110], [110, 101, 119], [110, 105, 108], [105, 110, 116]]
def isWord (l : List UInt8) : Bool := wordsL.contains l
def isName (l : List UInt8) : Bool := decide (1 ≤ l.length ∧ l.length ≤ 16) && (l.head?.all isLetter && l.all isIn) && !isWord l

def twosL : List (List UInt8) := [[61, 61], [33, 61], [60, 61], [62, 61], [38, 38], [124, 124]]
def onesL : List UInt8 := [123, 125, 40, 41, 91, 93, 46, 44, 59, 61, 60, 62, 43, 45, 42, 47, 37, 33]
/-- How many bytes the sign has that begins here. -/
def signLen : List UInt8 → Nat
  | [] => 0
  | [c] => if onesL.contains c then 1 else 0
  | c :: d :: _ => if twosL.contains [c, d] then 2 else if onesL.contains c then 1 else 0

structure Tok where
  kind : Nat
  text : List UInt8
  n : Int
  line : Nat

/-- What digits are worth as 64 bits with a sign, where they are at most 2^63. -/
def numOf (w : List UInt8) : Option Int := (digitsN 9223372036854775808 w).map fun (u : Nat) => if u = 9223372036854775808 then (-9223372036854775808 : Int) else (u : Int)

/-- The token that begins at the first byte. -/
def oneTok (line : Nat) (l : List UInt8) : Option Tok :=
  match l with
  | [] => none
  | c :: _ =>
    if isLetter c then
      if isWord (l.takeWhile isIn) then some ⟨2, l.takeWhile isIn, 0, line⟩
      else if (l.takeWhile isIn).length ≤ 16 then some ⟨1, l.takeWhile isIn, 0, line⟩ else none
    else if isDigit c then (numOf (l.takeWhile isDigit)).map fun n => ⟨3, l.takeWhile isDigit, n, line⟩
    else if signLen l = 0 then none else some ⟨4, l.take (signLen l), 0, line⟩

/-- Tokens ahead of what else there is. -/
def preTok (acc : List Tok) : Except Nat (List Tok) → Except Nat (List Tok)
  | .error e => .error e
  | .ok l => .ok (acc ++ l)

/-- A token, or a remark, or neither, begins with these two bytes. -/
def isRem (c : UInt8) (r : List UInt8) : Bool := decide (c.toNat = 47) && (r.head? == some 47)

def lexF : Nat → Nat → List UInt8 → Except Nat (List Tok)
  | _, _, [] => .ok []
  | 0, _, _ :: _ => .ok []
  | f + 1, line, c :: r =>
    if c.toNat = 10 then lexF f (line + 1) r
    else if isBlank c then lexF f line r
    else if isRem c r then lexF f line (r.dropWhile notFeed)
    else match oneTok line (c :: r) with
      | none => .error line
      | some t => preTok [t] (lexF f line (r.drop (t.text.length - 1)))

/-- A text's tokens, or the line of the first byte at which none begins; the text begins in this line. -/
def lexL (line : Nat) (l : List UInt8) : Except Nat (List Tok) := lexF l.length line l

theorem lexF_nil (f line : Nat) : lexF f line [] = .ok [] := by cases f <;> rfl

theorem lexF_same : ∀ (f g line : Nat) (l : List UInt8), l.length ≤ f → l.length ≤ g → lexF f line l = lexF g line l
  | f, g, line, [], _, _ => by rw [lexF_nil, lexF_nil]
  | 0, _, _, _ :: _, h, _ => by simp at h
  | _ + 1, 0, _, _ :: _, _, h => by simp at h
  | f + 1, g + 1, line, c :: r, hf, hg => by
    simp only [List.length_cons] at hf hg
    have h1 : (r.dropWhile notFeed).length ≤ r.length := (List.dropWhile_sublist _).length_le
    rw [lexF, lexF]
    split
    · exact lexF_same f g _ r (by omega) (by omega)
    split
    · exact lexF_same f g _ r (by omega) (by omega)
    split
    · exact lexF_same f g _ _ (by omega) (by omega)
    cases oneTok line (c :: r) with
    | none => rfl
    | some t =>
      simp only
      rw [lexF_same f g line (r.drop (t.text.length - 1)) (by rw [List.length_drop]; omega) (by rw [List.length_drop]; omega)]

theorem lexL_nil (line : Nat) : lexL line [] = .ok [] := rfl
theorem lexL_feed (line : Nat) (c : UInt8) (r : List UInt8) (h : c.toNat = 10) : lexL line (c :: r) = lexL (line + 1) r := by
  unfold lexL
  rw [List.length_cons, lexF, if_pos h]
theorem lexL_blank (line : Nat) (c : UInt8) (r : List UInt8) (h : c.toNat ≠ 10) (hb : isBlank c = true) : lexL line (c :: r) = lexL line r := by
  unfold lexL
  rw [List.length_cons, lexF, if_neg h, if_pos hb]
theorem feed_blank (c : UInt8) (h : isBlank c = false) : c.toNat ≠ 10 := by
  intro e
  unfold isBlank at h
  simp [e] at h
theorem lexL_rem (line : Nat) (c : UInt8) (r : List UInt8) (hb : isBlank c = false) (hr : isRem c r = true) : lexL line (c :: r) = lexL line (r.dropWhile notFeed) := by
  unfold lexL
  rw [List.length_cons, lexF, if_neg (feed_blank c hb), if_neg (by simp [hb]), if_pos hr]
  exact lexF_same _ _ _ _ (List.dropWhile_sublist _).length_le (Nat.le_refl _)
theorem lexL_bad (line : Nat) (c : UInt8) (r : List UInt8) (hb : isBlank c = false) (hr : isRem c r = false) (h : oneTok line (c :: r) = none) : lexL line (c :: r) = .error line := by
  unfold lexL
  rw [List.length_cons, lexF, if_neg (feed_blank c hb), if_neg (by simp [hb]), if_neg (by simp [hr]), h]
theorem lexL_tok (line : Nat) (c : UInt8) (r : List UInt8) (t : Tok) (hb : isBlank c = false) (hr : isRem c r = false) (h : oneTok line (c :: r) = some t) :
    lexL line (c :: r) = preTok [t] (lexL line (r.drop (t.text.length - 1))) := by
  unfold lexL
  rw [List.length_cons, lexF, if_neg (feed_blank c hb), if_neg (by simp [hb]), if_neg (by simp [hr]), h]
  simp only
  rw [lexF_same r.length (r.drop (t.text.length - 1)).length _ _ (by rw [List.length_drop]; omega) (Nat.le_refl _)]

theorem pre_pre (a b : List Tok) (x : Except Nat (List Tok)) : preTok a (preTok b x) = preTok (a ++ b) x := by
  cases x <;> simp [preTok]
theorem pre_nil (x : Except Nat (List Tok)) : preTok [] x = x := by cases x <;> rfl

/-! ### One token -/
theorem take_while (p : UInt8 → Bool) : ∀ l : List UInt8, l.takeWhile p = l.take (l.takeWhile p).length
  | [] => rfl
  | c :: r => by
    rw [List.takeWhile_cons]
    split
    · rw [List.length_cons, List.take_succ_cons, ← take_while p r]
    · rfl
theorem while_all (p : UInt8 → Bool) : ∀ (l : List UInt8), ∀ x ∈ l.takeWhile p, p x = true
  | [], x, h => by simp at h
  | c :: r, x, h => by
    rw [List.takeWhile_cons] at h
    split at h
    · rename_i hc
      rcases List.mem_cons.1 h with rfl | h
      · exact hc
      · exact while_all p r x h
    · simp at h
theorem while_len (p : UInt8 → Bool) (l : List UInt8) : (l.takeWhile p).length ≤ l.length := (List.takeWhile_sublist _).length_le
/-- A run ends where the next byte is not of its kind. -/
theorem while_more (p : UInt8 → Bool) (d : UInt8) (b : List UInt8) (hd : p d = false) : ∀ l : List UInt8, (l ++ d :: b).takeWhile p = l.takeWhile p
  | [] => by simp [hd]
  | c :: r => by
    rw [List.cons_append, List.takeWhile_cons, List.takeWhile_cons, while_more p d b hd r]
theorem while_self (p : UInt8 → Bool) : ∀ l : List UInt8, (∀ x ∈ l, p x = true) → l.takeWhile p = l
  | [], _ => rfl
  | c :: r, h => by rw [List.takeWhile_cons, if_pos (h c List.mem_cons_self), while_self p r fun x hx => h x (List.mem_cons_of_mem _ hx)]
theorem while_whole (p : UInt8 → Bool) (d : UInt8) (b : List UInt8) (hd : p d = false) (l : List UInt8) (hl : ∀ x ∈ l, p x = true) : (l ++ d :: b).takeWhile p = l := by
  rw [while_more p d b hd]
  exact while_self p l hl

theorem sign_one (c : UInt8) : signLen [c] = if onesL.contains c then 1 else 0 := rfl
theorem sign_two (c d : UInt8) (r : List UInt8) : signLen (c :: d :: r) = if twosL.contains [c, d] then 2 else if onesL.contains c then 1 else 0 := rfl

theorem sign_le : ∀ l : List UInt8, signLen l ≤ l.length ∧ signLen l ≤ 2
  | [] => by simp [signLen]
  | [c] => by rw [sign_one]; split <;> simp
  | c :: d :: r => by
    rw [sign_two]
    split
    · simp
    · split <;> simp

structure Begins (line : Nat) (l : List UInt8) (t : Tok) : Prop where
  len : t.text = l.take t.text.length
  le : t.text.length ≤ l.length
  pos : 1 ≤ t.text.length
  line : t.line = line
  plain : ∀ x ∈ t.text, x.toNat ≠ 10

theorem letter_in (c : UInt8) (h : isLetter c = true) : isIn c = true := by simp [isIn, h]
theorem digit_in (c : UInt8) (h : isDigit c = true) : isIn c = true := by simp [isIn, h]
theorem in_feed (c : UInt8) (h : isIn c = true) : c.toNat ≠ 10 := by
  intro e
  simp [isIn, isLetter, isDigit, e] at h
theorem ones_feed (c : UInt8) (h : onesL.contains c = true) : c.toNat ≠ 10 := by
  intro e
  have : c = 10 := UInt8.toNat_inj.1 e
  subst this
  revert h; decide
theorem twos_feed (c d : UInt8) (h : twosL.contains [c, d] = true) : c.toNat ≠ 10 ∧ d.toNat ≠ 10 := by
  simp [twosL] at h
  rcases h with ⟨rfl, rfl⟩ | ⟨rfl, rfl⟩ | ⟨rfl, rfl⟩ | ⟨rfl, rfl⟩ | ⟨rfl, rfl⟩ | ⟨rfl, rfl⟩ <;> decide
theorem while_pos (p : UInt8 → Bool) (c : UInt8) (r : List UInt8) (h : p c = true) : 1 ≤ ((c :: r).takeWhile p).length := by
  rw [List.takeWhile_cons, if_pos h]; simp
theorem sign_feed : ∀ l : List UInt8, ∀ x ∈ l.take (signLen l), x.toNat ≠ 10
  | [], x, h => by simp at h
  | [c], x, h => by
    rw [sign_one] at h
    split at h
    · rename_i hc
      simp at h
      subst h
      exact ones_feed _ hc
    · simp at h
  | c :: d :: r, x, h => by
    rw [sign_two] at h
    split at h
    · rename_i hc
      obtain ⟨h1, h2⟩ := twos_feed c d hc
      simp at h
      rcases h with rfl | rfl
      · exact h1
      · exact h2
    · split at h
      · rename_i hc
        simp at h
        subst h
        exact ones_feed _ hc
      · simp at h

theorem one_begins {line : Nat} {l : List UInt8} {t : Tok} (h : oneTok line l = some t) : Begins line l t := by
  cases l with
  | nil => simp [oneTok] at h
  | cons c r =>
    unfold oneTok at h
    simp only at h
    split at h
    · rename_i hc
      have hin : Begins line (c :: r) ⟨t.kind, (c :: r).takeWhile isIn, t.n, line⟩ := ⟨take_while _ _, while_len _ _, while_pos _ _ _ (letter_in c hc), rfl, fun x hx => in_feed x (while_all _ _ x hx)⟩
      split at h
      · injection h with h; subst h; exact hin
      · split at h
        · injection h with h; subst h; exact hin
        · cases h
    · split at h
      · rename_i hc
        cases hn : numOf ((c :: r).takeWhile isDigit) with
        | none => rw [hn] at h; cases h
        | some n =>
          rw [hn] at h
          injection h with h; subst h
          exact ⟨take_while _ _, while_len _ _, while_pos _ _ _ hc, rfl, fun x hx => in_feed x (digit_in x (while_all _ _ x hx))⟩
      · split at h
        · cases h
        · rename_i hs
          injection h with h; subst h
          have hle := (sign_le (c :: r)).1
          have e : ((c :: r).take (signLen (c :: r))).length = signLen (c :: r) := by rw [List.length_take]; omega
          exact ⟨by show _ = (c :: r).take ((c :: r).take (signLen (c :: r))).length; rw [e], by show ((c :: r).take (signLen (c :: r))).length ≤ _; omega, by show 1 ≤ ((c :: r).take (signLen (c :: r))).length; omega, rfl, sign_feed _⟩

theorem one_line (line k : Nat) (l : List UInt8) : oneTok k l = (oneTok line l).map fun t => { t with line := k } := by
  cases l with
  | nil => rfl
  | cons c r =>
    unfold oneTok
    simp only
    split
    · split
      · rfl
      · split <;> rfl
    · split
      · cases numOf ((c :: r).takeWhile isDigit) <;> rfl
      · split <;> rfl

theorem two_feed (c : UInt8) : twosL.contains [c, 10] = false := by simp [twosL]
theorem two_blank (c : UInt8) : twosL.contains [c, 32] = false := by simp [twosL]

/-- A line feed behind a text, and whatever follows, makes no token of it another one. -/
theorem one_feed (line : Nat) (c : UInt8) (r b : List UInt8) : oneTok line (c :: r ++ 10 :: b) = oneTok line (c :: r) := by
  have hs : signLen (c :: r ++ 10 :: b) = signLen (c :: r) := by
    cases r with
    | nil =>
      show signLen (c :: 10 :: b) = signLen [c]
      rw [sign_two, sign_one, two_feed]
      rfl
    | cons d r => rfl
  have hle := (sign_le (c :: r)).1
  unfold oneTok
  rw [hs, while_more isIn 10 b (by decide), while_more isDigit 10 b (by decide), List.take_append_of_le_length hle]
  rfl

theorem feed_rem (c : UInt8) (r b : List UInt8) : isRem c (r ++ 10 :: b) = isRem c r := by
  cases r with
  | nil => unfold isRem; simp
  | cons d r => rfl
theorem drop_feed (b : List UInt8) : ∀ r : List UInt8, (r ++ 10 :: b).dropWhile notFeed = r.dropWhile notFeed ++ 10 :: b
  | [] => by simp [notFeed]
  | c :: r => by
    rw [List.cons_append, List.dropWhile_cons, List.dropWhile_cons, drop_feed b r]
    split <;> rfl

/-! ### Line feeds -/
def feeds (l : List UInt8) : Nat := l.countP fun c => decide (c.toNat = 10)
theorem feeds_nil : feeds [] = 0 := rfl
theorem feeds_cons (c : UInt8) (r : List UInt8) : feeds (c :: r) = feeds r + if c.toNat = 10 then 1 else 0 := by
  unfold feeds
  rw [List.countP_cons]
  simp
theorem feeds_append (a b : List UInt8) : feeds (a ++ b) = feeds a + feeds b := List.countP_append
theorem feeds_none (l : List UInt8) (h : ∀ x ∈ l, x.toNat ≠ 10) : feeds l = 0 := by
  unfold feeds
  rw [List.countP_eq_zero]
  intro x hx
  simpa using h x hx
theorem feeds_le (l : List UInt8) : feeds l ≤ l.length := List.countP_le_length
theorem feeds_split (l : List UInt8) (k : Nat) : feeds l = feeds (l.take k) + feeds (l.drop k) := by
  rw [← feeds_append, List.take_append_drop]
theorem feeds_drop_rem : ∀ l : List UInt8, feeds (l.dropWhile notFeed) = feeds l
  | [] => rfl
  | c :: r => by
    rw [List.dropWhile_cons]
    split
    · rename_i h
      rw [feeds_drop_rem r, feeds_cons, if_neg (by simpa [notFeed] using h)]
      omega
    · rfl
theorem tok_feeds {line : Nat} {c : UInt8} {r : List UInt8} {t : Tok} (h : Begins line (c :: r) t) : feeds (c :: r) = feeds (r.drop (t.text.length - 1)) := by
  have h1 := feeds_split (c :: r) t.text.length
  rw [← h.len, feeds_none t.text h.plain] at h1
  have h2 : (c :: r).drop t.text.length = r.drop (t.text.length - 1) := by
    have := h.pos
    obtain ⟨k, hk⟩ : ∃ k, t.text.length = k + 1 := ⟨t.text.length - 1, by omega⟩
    rw [hk]; rfl
  rw [h2] at h1
  omega

/-- Tokens of a text that begins later in the lines. -/
def shiftTok (k : Nat) (t : Tok) : Tok := { t with line := t.line + k }
def shiftRes (k : Nat) : Except Nat (List Tok) → Except Nat (List Tok)
  | .error e => .error (e + k)
  | .ok l => .ok (l.map (shiftTok k))
theorem shift_pre (k : Nat) (a : List Tok) (x : Except Nat (List Tok)) : shiftRes k (preTok a x) = preTok (a.map (shiftTok k)) (shiftRes k x) := by
  cases x <;> simp [shiftRes, preTok]

theorem lexL_shift (k : Nat) : ∀ (n line : Nat) (l : List UInt8), l.length ≤ n → lexL (line + k) l = shiftRes k (lexL line l)
  | _, line, [], _ => rfl
  | 0, line, c :: r, h => by simp at h
  | n + 1, line, c :: r, h => by
    simp only [List.length_cons] at h
    have h1 : (r.dropWhile notFeed).length ≤ r.length := (List.dropWhile_sublist _).length_le
    by_cases h10 : c.toNat = 10
    · rw [lexL_feed _ c r h10, lexL_feed _ c r h10, ← lexL_shift k n (line + 1) r (by omega)]
      congr 1; omega
    cases hb : isBlank c with
    | true => rw [lexL_blank _ c r h10 hb, lexL_blank _ c r h10 hb, lexL_shift k n line r (by omega)]
    | false =>
      cases hr : isRem c r with
      | true => rw [lexL_rem _ c r hb hr, lexL_rem _ c r hb hr, lexL_shift k n line _ (by omega)]
      | false =>
        cases ho : oneTok line (c :: r) with
        | none =>
          rw [lexL_bad line c r hb hr ho, lexL_bad (line + k) c r hb hr (by rw [one_line line, ho]; rfl)]
          rfl
        | some t =>
          have hB := one_begins ho
          rw [lexL_tok line c r t hb hr ho, lexL_tok (line + k) c r { t with line := line + k } hb hr (by rw [one_line line, ho]; rfl), shift_pre,
            lexL_shift k n line _ (by rw [List.length_drop]; omega)]
          have e : shiftTok k t = { t with line := line + k } := by unfold shiftTok; rw [hB.line]
          simp [e]

/-- Two texts with a line feed between. -/
theorem lex_join (b : List UInt8) : ∀ (n line : Nat) (a : List UInt8), a.length ≤ n →
    lexL line (a ++ 10 :: b) = match lexL line a with | .error e => .error e | .ok l => preTok l (lexL (line + feeds a + 1) b)
  | _, line, [], _ => by
    rw [List.nil_append, lexL_feed _ 10 b rfl, lexL_nil]
    exact (pre_nil _).symm
  | 0, line, c :: r, h => by simp at h
  | n + 1, line, c :: r, h => by
    simp only [List.length_cons] at h
    have h1 : (r.dropWhile notFeed).length ≤ r.length := (List.dropWhile_sublist _).length_le
    rw [List.cons_append]
    by_cases h10 : c.toNat = 10
    · rw [lexL_feed _ c _ h10, lexL_feed _ c _ h10, lex_join b n (line + 1) r (by omega), feeds_cons, if_pos h10, show line + 1 + feeds r + 1 = line + (feeds r + 1) + 1 by omega]
    have hf : feeds (c :: r) = feeds r := by rw [feeds_cons, if_neg h10]; omega
    cases hb : isBlank c with
    | true => rw [lexL_blank _ c _ h10 hb, lexL_blank _ c _ h10 hb, lex_join b n line r (by omega), hf]
    | false =>
      cases hr : isRem c r with
      | true => rw [lexL_rem _ c _ hb ((feed_rem c r b).trans hr), lexL_rem _ c r hb hr, drop_feed, lex_join b n line _ (by omega), feeds_drop_rem, hf]
      | false =>
        have hr' := (feed_rem c r b).trans hr
        have ho' := one_feed line c r b
        rw [List.cons_append] at ho'
        cases ho : oneTok line (c :: r) with
        | none => rw [lexL_bad line c r hb hr ho, lexL_bad line c _ hb hr' (ho'.trans ho)]
        | some t =>
          have hB := one_begins ho
          have hle : t.text.length - 1 ≤ r.length := by have := hB.le; simp at this; omega
          rw [lexL_tok line c r t hb hr ho, lexL_tok line c _ t hb hr' (ho'.trans ho), List.drop_append_of_le_length hle, lex_join b n line _ (by rw [List.length_drop]; omega), tok_feeds hB]
          cases lexL line (r.drop (t.text.length - 1)) with
          | error e => rfl
          | ok l => rw [pre_pre]; rfl

theorem err_line : ∀ (n line : Nat) (l : List UInt8), l.length ≤ n → ∀ e, lexL line l = .error e → e ≤ line + feeds l
  | _, line, [], _, e, h => by rw [lexL_nil] at h; cases h
  | 0, line, c :: r, h, _, _ => by simp at h
  | n + 1, line, c :: r, h, e, he => by
    simp only [List.length_cons] at h
    have h1 : (r.dropWhile notFeed).length ≤ r.length := (List.dropWhile_sublist _).length_le
    by_cases h10 : c.toNat = 10
    · rw [lexL_feed _ c _ h10] at he
      have := err_line n _ r (by omega) e he
      rw [feeds_cons, if_pos h10]; omega
    have hf : feeds (c :: r) = feeds r := by rw [feeds_cons, if_neg h10]; omega
    cases hb : isBlank c with
    | true =>
      rw [lexL_blank _ c _ h10 hb] at he
      have := err_line n _ r (by omega) e he
      omega
    | false =>
      cases hr : isRem c r with
      | true =>
        rw [lexL_rem _ c _ hb hr] at he
        have := err_line n _ _ (by omega) e he
        rw [feeds_drop_rem] at this
        omega
      | false =>
        cases ho : oneTok line (c :: r) with
        | none => rw [lexL_bad line c r hb hr ho] at he; injection he with he; omega
        | some t =>
          have hB := one_begins ho
          rw [lexL_tok line c r t hb hr ho] at he
          cases hx : lexL line (r.drop (t.text.length - 1)) with
          | ok l => rw [hx] at he; cases he
          | error e' =>
            rw [hx] at he
            injection he with he
            subst he
            have := err_line n _ _ (by rw [List.length_drop]; omega) _ hx
            rw [tok_feeds hB]; omega

/-! ### What each token is -/
/-- A token that begins some text whose first byte is neither a blank nor a remark's. -/
structure Sound (t : Tok) : Prop where
  from_ : ∃ c r, isBlank c = false ∧ isRem c r = false ∧ oneTok t.line (c :: r) = some t
theorem lex_all : ∀ (n line : Nat) (l : List UInt8), l.length ≤ n → ∀ ts, lexL line l = .ok ts →
    (∀ t ∈ ts, Sound t ∧ t.line ≤ line + feeds l) ∧ (ts.map fun t => t.text.length).sum ≤ l.length
  | _, line, [], _, ts, h => by
    rw [lexL_nil] at h
    injection h with h; subst h
    simp
  | 0, line, c :: r, h, _, _ => by simp at h
  | n + 1, line, c :: r, h, ts, hs => by
    simp only [List.length_cons] at h
    have h1 : (r.dropWhile notFeed).length ≤ r.length := (List.dropWhile_sublist _).length_le
    by_cases h10 : c.toNat = 10
    · rw [lexL_feed _ c _ h10] at hs
      obtain ⟨g1, g2⟩ := lex_all n _ r (by omega) ts hs
      rw [feeds_cons, if_pos h10]
      exact ⟨fun t ht => ⟨(g1 t ht).1, by have := (g1 t ht).2; omega⟩, by simp; omega⟩
    have hf : feeds (c :: r) = feeds r := by rw [feeds_cons, if_neg h10]; omega
    cases hb : isBlank c with
    | true =>
      rw [lexL_blank _ c _ h10 hb] at hs
      obtain ⟨g1, g2⟩ := lex_all n _ r (by omega) ts hs
      rw [hf]
      exact ⟨g1, by simp; omega⟩
    | false =>
      cases hr : isRem c r with
      | true =>
        rw [lexL_rem _ c _ hb hr] at hs
        obtain ⟨g1, g2⟩ := lex_all n _ _ (by omega) ts hs
        rw [feeds_drop_rem] at g1
        rw [hf]
        exact ⟨g1, by simp; omega⟩
      | false =>
        cases ho : oneTok line (c :: r) with
        | none => rw [lexL_bad line c r hb hr ho] at hs; cases hs
        | some t =>
          have hB := one_begins ho
          rw [lexL_tok line c r t hb hr ho] at hs
          cases hx : lexL line (r.drop (t.text.length - 1)) with
          | error e => rw [hx] at hs; cases hs
          | ok l =>
            rw [hx] at hs
            injection hs with hs
            subst hs
            obtain ⟨g1, g2⟩ := lex_all n _ _ (by rw [List.length_drop]; omega) _ hx
            have hp := hB.pos
            have hle := hB.le
            rw [List.length_cons] at hle
            rw [List.length_drop] at g2
            refine ⟨fun u hu => ?_, by simp; omega⟩
            rcases List.mem_append.1 hu with hu | hu
            · have : u = t := by simpa using hu
              subst this
              exact ⟨⟨c, r, hb, hr, by rw [hB.line]; exact ho⟩, by rw [hB.line]; omega⟩
            · rw [tok_feeds hB]
              exact g1 u hu

theorem word_letter (w : List UInt8) (h : isWord w = true) : ∃ c r, w = c :: r ∧ isLetter c = true := by
  unfold isWord at h
  rw [List.contains_iff_mem] at h
  simp only [wordsL, List.mem_cons, List.not_mem_nil, or_false] at h
  rcases h with h | h | h | h | h | h | h | h | h | h | h | h | h | h <;> exact ⟨_, _, h, by decide⟩
theorem word_short (w : List UInt8) (h : isWord w = true) : w.length ≤ 16 := by
  unfold isWord at h
  rw [List.contains_iff_mem] at h
  simp only [wordsL, List.mem_cons, List.not_mem_nil, or_false] at h
  rcases h with rfl | rfl | rfl | rfl | rfl | rfl | rfl | rfl | rfl | rfl | rfl | rfl | rfl | rfl <;> decide

theorem two_not (c d : UInt8) (h : twosL.contains [c, d] = true) : c.toNat ≠ 47 ∧ isLetter c = false ∧ isDigit c = false ∧ isBlank c = false := by
  simp [twosL] at h
  rcases h with ⟨rfl, rfl⟩ | ⟨rfl, rfl⟩ | ⟨rfl, rfl⟩ | ⟨rfl, rfl⟩ | ⟨rfl, rfl⟩ | ⟨rfl, rfl⟩ <;> decide

/-- What a token's text is told by its kind. -/
theorem sound_kind {t : Tok} (h : Sound t) : decide (t.kind = 1) = isName t.text ∧ decide (t.kind = 2) = isWord t.text ∧ 1 ≤ t.kind ∧ t.kind ≤ 4 := by
  obtain ⟨c, r, hb, hr, ho⟩ := h.from_
  have hother : ∀ x y, isLetter x = false → isWord (x :: y) = false ∧ isName (x :: y) = false := fun x y hx => by
    refine ⟨?_, by simp [isName, hx]⟩
    cases hw : isWord (x :: y) with
    | false => rfl
    | true =>
      obtain ⟨a, b, e, hl⟩ := word_letter _ hw
      injection e with e _
      subst e
      rw [hx] at hl; cases hl
  unfold oneTok at ho
  simp only at ho
  split at ho
  · rename_i hc
    have hcons : (c :: r).takeWhile isIn = c :: r.takeWhile isIn := by rw [List.takeWhile_cons, if_pos (letter_in c hc)]
    split at ho
    · rename_i hw
      injection ho with ho
      rw [← ho]
      simp only
      rw [hw]
      refine ⟨?_, rfl, by decide, by decide⟩
      simp [isName, hw]
    · rename_i hw
      split at ho
      · rename_i hl
        injection ho with ho
        rw [← ho]
        simp only
        have hw' : isWord ((c :: r).takeWhile isIn) = false := by simpa using hw
        rw [hw']
        refine ⟨?_, rfl, by decide, by decide⟩
        have ha : ((c :: r).takeWhile isIn).all isIn = true := List.all_eq_true.2 (while_all _ _)
        have hp := while_pos isIn c r (letter_in c hc)
        have hh : ((c :: r).takeWhile isIn).head?.all isLetter = true := by rw [hcons]; simpa using hc
        unfold isName
        rw [hw', ha, hh]
        simp [hl]
        omega
      · cases ho
  · rename_i hc
    have hc' : isLetter c = false := by simpa using hc
    split at ho
    · rename_i hd
      have hcons : (c :: r).takeWhile isDigit = c :: r.takeWhile isDigit := by rw [List.takeWhile_cons, if_pos hd]
      cases hn : numOf ((c :: r).takeWhile isDigit) with
      | none => rw [hn] at ho; cases ho
      | some n =>
        rw [hn] at ho
        injection ho with ho
        rw [← ho]
        simp only
        rw [hcons, (hother _ _ hc').1, (hother _ _ hc').2]
        exact ⟨rfl, rfl, by decide, by decide⟩
    · split at ho
      · cases ho
      · rename_i hs
        injection ho with ho
        rw [← ho]
        simp only
        obtain ⟨k, hk⟩ : ∃ k, signLen (c :: r) = k + 1 := ⟨signLen (c :: r) - 1, by omega⟩
        rw [hk, List.take_succ_cons, (hother _ _ hc').1, (hother _ _ hc').2]
        exact ⟨rfl, rfl, by decide, by decide⟩

/-- A token's text, a blank behind, has that token again. -/
theorem sound_again {t : Tok} (h : Sound t) (line : Nat) (b : List UInt8) : ∃ c r, t.text ++ 32 :: b = c :: r ∧ isBlank c = false ∧ isRem c r = false ∧ oneTok line (c :: r) = some { t with line := line } ∧ r.drop (t.text.length - 1) = 32 :: b := by
  obtain ⟨c, r, hb, hr, ho⟩ := h.from_
  have hB := one_begins ho
  have hdrop : ∀ y z, t.text = y :: z → (z ++ 32 :: b).drop (t.text.length - 1) = 32 :: b := fun y z e => by
    rw [e]
    simp
  unfold oneTok at ho
  simp only at ho
  split at ho
  · rename_i hc
    have hcons : (c :: r).takeWhile isIn = c :: r.takeWhile isIn := by rw [List.takeWhile_cons, if_pos (letter_in c hc)]
    have hw := while_whole isIn 32 b (by decide) _ (while_all isIn (c :: r))
    have hrem : isRem c (r.takeWhile isIn ++ 32 :: b) = false := by
      have : c.toNat ≠ 47 := by intro e; simp [isLetter, e] at hc
      simp [isRem, this]
    have htx : t.text = (c :: r).takeWhile isIn := by
      split at ho
      · injection ho with ho; rw [← ho]
      · split at ho
        · injection ho with ho; rw [← ho]
        · cases ho
    refine ⟨c, r.takeWhile isIn ++ 32 :: b, by rw [htx, hcons]; rfl, hb, hrem, ?_, hdrop _ _ (htx.trans hcons)⟩
    rw [hcons, List.cons_append] at hw
    unfold oneTok
    simp only
    rw [if_pos hc, hw, ← hcons]
    split at ho
    · rename_i h1
      injection ho with ho
      rw [if_pos h1, ← ho]
    · rename_i h1
      split at ho
      · rename_i h2
        injection ho with ho
        rw [if_neg h1, if_pos h2, ← ho]
      · cases ho
  · rename_i hc
    split at ho
    · rename_i hd
      have hcons : (c :: r).takeWhile isDigit = c :: r.takeWhile isDigit := by rw [List.takeWhile_cons, if_pos hd]
      have hw := while_whole isDigit 32 b (by decide) _ (while_all isDigit (c :: r))
      have hrem : isRem c (r.takeWhile isDigit ++ 32 :: b) = false := by
        have : c.toNat ≠ 47 := by intro e; simp [isDigit, e] at hd
        simp [isRem, this]
      cases hn : numOf ((c :: r).takeWhile isDigit) with
      | none => rw [hn] at ho; cases ho
      | some n =>
        rw [hn] at ho
        injection ho with ho
        have htx : t.text = (c :: r).takeWhile isDigit := by rw [← ho]
        refine ⟨c, r.takeWhile isDigit ++ 32 :: b, by rw [htx, hcons]; rfl, hb, hrem, ?_, hdrop _ _ (htx.trans hcons)⟩
        rw [hcons, List.cons_append] at hw
        unfold oneTok
        simp only
        rw [if_neg hc, if_pos hd, hw, ← hcons, hn, ← ho]
        rfl
    · rename_i hd
      split at ho
      · cases ho
      · rename_i hs
        injection ho with ho
        have htx : t.text = (c :: r).take (signLen (c :: r)) := by rw [← ho]
        -- one byte or two
        have hcase : (∃ d r', r = d :: r' ∧ twosL.contains [c, d] = true ∧ signLen (c :: r) = 2) ∨ (onesL.contains c = true ∧ signLen (c :: r) = 1) := by
          cases r with
          | nil =>
            rw [sign_one] at hs ⊢
            split at hs
            · rename_i h1; exact .inr ⟨h1, by rw [if_pos h1]⟩
            · exact absurd rfl hs
          | cons d r =>
            rw [sign_two] at hs ⊢
            split at hs
            · rename_i h1; exact .inl ⟨d, r, rfl, h1, by rw [if_pos h1]⟩
            · rename_i h1
              split at hs
              · rename_i h2; exact .inr ⟨h2, by rw [if_neg h1, if_pos h2]⟩
              · exact absurd rfl hs
        rcases hcase with ⟨d, r', rfl, h2, e2⟩ | ⟨h1, e1⟩
        · rw [e2] at htx
          have htx' : t.text = [c, d] := htx
          refine ⟨c, d :: 32 :: b, by rw [htx']; rfl, hb, ?_, ?_, hdrop _ _ htx'⟩
          · simp [isRem, (two_not c d h2).1]
          · unfold oneTok
            simp only
            have es : signLen (c :: d :: 32 :: b) = 2 := by rw [sign_two, if_pos h2]
            rw [if_neg hc, if_neg hd, es, if_neg (by decide), ← ho, e2]
            rfl
        · rw [e1] at htx
          have htx' : t.text = [c] := htx
          refine ⟨c, 32 :: b, by rw [htx']; rfl, hb, ?_, ?_, hdrop _ _ htx'⟩
          · simp [isRem]
          · unfold oneTok
            simp only
            have es : signLen (c :: 32 :: b) = 1 := by rw [sign_two, if_neg (by rw [two_blank]; simp), if_pos h1]
            rw [if_neg hc, if_neg hd, es, if_neg (by decide), ← ho, e1]
            rfl

/-- The tokens' texts, a blank behind each. -/
def spell (ts : List Tok) : List UInt8 := ts.flatMap fun t => t.text ++ [32]
theorem spell_nil : spell [] = [] := rfl
theorem spell_cons (t : Tok) (ts : List Tok) : spell (t :: ts) = t.text ++ 32 :: spell ts := by
  unfold spell
  rw [List.flatMap_cons, List.append_assoc]
  rfl
theorem spell_append (a b : List Tok) : spell (a ++ b) = spell a ++ spell b := List.flatMap_append
theorem lex_spell : ∀ ts : List Tok, (∀ t ∈ ts, Sound t) → lexL 0 (spell ts) = .ok (ts.map fun t => { t with line := 0 })
  | [], _ => rfl
  | t :: ts, h => by
    obtain ⟨c, r, e, hb, hr, ho, hd⟩ := sound_again (h t (List.mem_cons_self)) 0 (spell ts)
    rw [spell_cons, e, lexL_tok 0 c r _ hb hr ho]
    simp only
    rw [hd, lexL_blank 0 32 _ (by decide) (by decide), lex_spell ts fun u hu => h u (List.mem_cons_of_mem _ hu)]
    rfl
theorem sound_pos {t : Tok} (h : Sound t) : 1 ≤ t.text.length := by
  obtain ⟨c, r, _, _, ho⟩ := h.from_
  exact (one_begins ho).pos
theorem spell_len : ∀ ts : List Tok, (∀ t ∈ ts, Sound t) → (spell ts).length ≤ 2 * (ts.map fun t => t.text.length).sum
  | [], _ => by simp [spell_nil]
  | t :: ts, h => by
    have h1 := spell_len ts fun u hu => h u (List.mem_cons_of_mem _ hu)
    have h2 := sound_pos (h t List.mem_cons_self)
    rw [spell_cons]
    simp
    omega
theorem count_le : ∀ ts : List Tok, (∀ t ∈ ts, Sound t) → ts.length ≤ (ts.map fun t => t.text.length).sum
  | [], _ => by simp
  | t :: ts, h => by
    have h1 := count_le ts fun u hu => h u (List.mem_cons_of_mem _ hu)
    have h2 := sound_pos (h t List.mem_cons_self)
    simp
    omega
end Go.Proofs.YtflbplljlkpeiaaDoor
