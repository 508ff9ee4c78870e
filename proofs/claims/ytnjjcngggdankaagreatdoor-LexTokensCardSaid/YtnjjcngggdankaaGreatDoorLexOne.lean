/- The token that begins a text: what the lex layer's functions answer, at every text with a first byte, wherever the library's variables read as laid. Each leaves what there was. -/
import Derived.Test.YtnjjcngggdankaaGreatDoorRows
import Derived.Test.YtnjjcngggdankaaGreatDoorLexBetween
import Derived.WalkKit
import Derived.WalkSpells
import Derived.WalkLawsBesides
import Derived.Lib.Hide
namespace Go.Proofs.YtnjjcngggdankaaGreatDoor
open Go.RowKit

/-- A token, or none, as the program answers it; its line is 0. -/
def oneV : Option Tok → Value
  | none => .tuple #[.agg #[.int .u8 0, .string ⟨#[]⟩, .int .i64 0, .int .i64 0], .bool false]
  | some t => .tuple #[.agg #[.int .u8 (t.kind : Int), .string ⟨t.text.toArray⟩, .int .i64 t.n, .int .i64 0], .bool true]
def oK : Option Tok → Int
  | none => 0
  | some t => t.kind
def oT : Option Tok → ByteArray
  | none => ⟨#[]⟩
  | some t => ⟨t.text.toArray⟩
def oN : Option Tok → Int
  | none => 0
  | some t => t.n
def oB : Option Tok → Bool
  | none => false
  | some _ => true
theorem oneV_is (x : Option Tok) : oneV x = .tuple #[.agg #[.int .u8 (oK x), .string (oT x), .int .i64 (oN x), .int .i64 0], .bool (oB x)] := by
  cases x <;> rfl
theorem str_back (s : ByteArray) : (⟨s.data.toList.toArray⟩ : ByteArray) = s := by cases s; simp
theorem oneV_none {x : Option Tok} (h : x = none) : oneV x = .tuple #[.agg #[.int .u8 0, .string ⟨#[]⟩, .int .i64 0, .int .i64 0], .bool false] := by rw [h]; rfl
theorem oneV_some {x : Option Tok} (k : Int) (s : ByteArray) (n : Int) (t : Tok) (h : x = some t) (hk : (t.kind : Int) = k) (hs : t.text = s.data.toList) (hn : t.n = n) : oneV x = .tuple #[.agg #[.int .u8 k, .string s, .int .i64 n, .int .i64 0], .bool true] := by
  rw [h]
  unfold oneV
  simp only
  rw [hs, str_back, hk, hn]
theorem ret_same {v v' : Value} (h : v = v') : Ending.returned v = Ending.returned v' := by rw [h]

/-- A block that there was reads as it did, behind a call that left it alone. -/
theorem old_block {W w1 : World} (hb : Below W.heap.size W w1) (b : Nat) (h : b < W.heap.size) : (∀ o, w1.cell? ⟨b, o, none⟩ = W.cell? ⟨b, o, none⟩) ∧ (∀ o, w1.frozen? ⟨b, o, none⟩ = W.frozen? ⟨b, o, none⟩) :=
  ⟨fun o => hb.cell (p := ⟨b, o, none⟩) h, fun o => hb.frozen (p := ⟨b, o, none⟩) h⟩
theorem below_alloc {w w' : World} {o : Obj} (hb : Below (w.alloc o).heap.size (w.alloc o) w') : Below w.heap.size w w' :=
  ((Below.refl _ _).alloc (Nat.le_refl _) o).trans (hb.mono (by simp))
theorem below_four {B : Nat} {a w : World} (h : Below B a w) {p q r t : Addr} (hp : B ≤ p.block) (hq : B ≤ q.block) (hr : B ≤ r.block) (ht : B ≤ t.block) (x y z u : Value) : Below B a ((((w.setCell p x).setCell q y).setCell r z).setCell t u) :=
  (((h.setCell hp x).setCell hq y).setCell hr z).setCell ht u
/-- A word or a name that is all of a text. -/
def won (l : List UInt8) : Option Tok := if isWord l = true then some ⟨2, l, 0, 0⟩ else if isName l = true then some ⟨1, l, 0, 0⟩ else none

set_option maxHeartbeats 400000 in
theorem won_any (s : ByteArray) (hs : s.size ≤ 9223372036854775807) (w : World) :
    Calls Tryz.prog 104 #[.string s] w fun e w' => e = .returned (oneV (won s.data.toList)) ∧ Below w.heap.size w w' := by
  have hw := word_any s
  have hn := name_any s hs
  cases hk : isWord s.data.toList with
  | true =>
    have HF := Lib.hid (oneV_some (x := won s.data.toList) 2 s 0 _ (by unfold won; rw [if_pos hk]) rfl rfl rfl)
    rw [hk] at hw
    have HW := Lib.hid hw
    clear hw hn hk
    go_enter Tryz.func104, Tryz.ntmps104
    go_wp2_with (go_at_call 95; refine (HW.out _).mono ?_; rintro e w' ⟨rfl, rfl⟩)
    exact bodyPost_ret (v := .tuple #[.agg #[.int .u8 2, .string s, .int .i64 0, .int .i64 0], .bool true]) (by simp [results, Tryz.results104, go_sem]) rfl ⟨ret_same HF.out.symm, (Below.refl _ _).alloc (Nat.le_refl _) _⟩
  | false =>
    cases hm : isName s.data.toList with
    | true =>
      have HF := Lib.hid (oneV_some (x := won s.data.toList) 1 s 0 _ (by unfold won; rw [if_neg (by simp [hk]), if_pos hm]) rfl rfl rfl)
      rw [hk] at hw
      rw [hm] at hn
      have HW := Lib.hid hw
      have HN := Lib.hid hn
      clear hw hn hk hm
      go_enter Tryz.func104, Tryz.ntmps104
      go_wp2_with (first | (go_at_call 95; refine (HW.out _).mono ?_; rintro e w' ⟨rfl, rfl⟩) | (go_at_call 96; refine (HN.out _).mono ?_; rintro e w' ⟨rfl, rfl⟩))
      exact bodyPost_ret (v := .tuple #[.agg #[.int .u8 1, .string s, .int .i64 0, .int .i64 0], .bool true]) (by simp [results, Tryz.results104, go_sem]) rfl ⟨ret_same HF.out.symm, (Below.refl _ _).alloc (Nat.le_refl _) _⟩
    | false =>
      have HF := Lib.hid (oneV_none (x := won s.data.toList) (by unfold won; rw [if_neg (by simp [hk]), if_neg (by simp [hm])]))
      rw [hk] at hw
      rw [hm] at hn
      have HW := Lib.hid hw
      have HN := Lib.hid hn
      clear hw hn hk hm
      go_enter Tryz.func104, Tryz.ntmps104
      go_wp2_with (first | (go_at_call 95; refine (HW.out _).mono ?_; rintro e w' ⟨rfl, rfl⟩) | (go_at_call 96; refine (HN.out _).mono ?_; rintro e w' ⟨rfl, rfl⟩))
      exact bodyPost_ret (v := .tuple #[.agg #[.int .u8 0, .string ⟨#[]⟩, .int .i64 0, .int .i64 0], .bool false]) (by simp [results, Tryz.results104, go_sem]) rfl ⟨ret_same HF.out.symm, (Below.refl _ _).alloc (Nat.le_refl _) _⟩

/-! ### Numbers -/
theorem head_digit (l : List UInt8) (h : l.head?.all isDigit = true) : ¬ l.head? = some 45 := by
  intro e
  rw [e] at h
  exact absurd h (by decide)
theorem num_some (l : List UInt8) (v : Int) (h : l.head?.all isDigit = true) (hv : numOf l = some v) : readN l = some v ∨ (readN l = none ∧ readN (45 :: l) = some v) := by
  unfold numOf at hv
  cases hd : digitsN 9223372036854775808 l with
  | none => rw [hd] at hv; cases hv
  | some u =>
    rw [hd] at hv
    injection hv with hv
    simp only at hv
    obtain ⟨e, g⟩ := (digitsN_some _ (by omega) (by omega) l u).1 hd
    rw [readN_asks, readN_asks]
    unfold asksN
    rw [if_neg (head_digit l h), show (45 :: l : List UInt8).drop 1 = l from rfl, if_pos (show (45 :: l : List UInt8).head? = some 45 from rfl), hd]
    by_cases hu : u = 9223372036854775808
    · rw [if_pos hu] at hv
      have hn : digitsN 9223372036854775807 l = none := by
        cases hx : digitsN 9223372036854775807 l with
        | none => rfl
        | some u' =>
          obtain ⟨e', g'⟩ := (digitsN_some _ (by omega) (by omega) l u').1 hx
          have h2 := (digitsN_some 9223372036854775808 (by omega) (by omega) l u').2 ⟨e', by omega⟩
          rw [hd] at h2
          injection h2 with h2
          omega
      rw [hn]
      refine .inr ⟨rfl, ?_⟩
      simp only
      rw [if_neg (by omega), ← hv, hu]
      rfl
    · rw [if_neg hu] at hv
      rw [(digitsN_some 9223372036854775807 (by omega) (by omega) l u).2 ⟨e, by omega⟩]
      exact .inl (by simp only; rw [hv])
theorem num_none (l : List UInt8) (h : l.head?.all isDigit = true) (hv : numOf l = none) : readN l = none ∧ readN (45 :: l) = none := by
  unfold numOf at hv
  cases hd : digitsN 9223372036854775808 l with
  | some u => rw [hd] at hv; cases hv
  | none =>
    rw [readN_asks, readN_asks]
    unfold asksN
    rw [if_neg (head_digit l h), show (45 :: l : List UInt8).drop 1 = l from rfl, if_pos (show (45 :: l : List UInt8).head? = some 45 from rfl), hd]
    cases hx : digitsN 9223372036854775807 l with
    | none => exact ⟨rfl, rfl⟩
    | some u' =>
      obtain ⟨e', g'⟩ := (digitsN_some _ (by omega) (by omega) l u').1 hx
      rw [(digitsN_some 9223372036854775808 (by omega) (by omega) l u').2 ⟨e', by omega⟩] at hd
      cases hd
theorem minus_list (s : ByteArray) : ((⟨#[45]⟩ : ByteArray) ++ s).data.toList = 45 :: s.data.toList := by
  simp

/-- A number that is all of a text of digits. -/
def numT (l : List UInt8) : Option Tok := (numOf l).map fun n => ⟨3, l, n, 0⟩
theorem num_bits (l : List UInt8) (v : Int) (hv : numOf l = some v) : -9223372036854775808 ≤ v ∧ v ≤ 9223372036854775807 := by
  unfold numOf at hv
  cases hd : digitsN 9223372036854775808 l with
  | none => rw [hd] at hv; cases hv
  | some u =>
    rw [hd] at hv
    injection hv with hv
    simp only at hv
    obtain ⟨e, g⟩ := (digitsN_some _ (by omega) (by omega) l u).1 hd
    split at hv <;> omega

set_option maxHeartbeats 400000 in
theorem number_any (s : ByteArray) (hs : s.size ≤ 65536) (hd : s.data.toList.head?.all isDigit = true) (w : World) (hG : Good w) :
    Calls Tryz.prog 108 #[.string s] w fun e w' => e = .returned (oneV (numT s.data.toList)) ∧ Below w.heap.size w w' := by
  have hB : ∀ (o : Obj), Below w.heap.size w (w.alloc o) := fun o => (Below.refl _ _).alloc (Nat.le_refl _) o
  cases hn : numOf s.data.toList with
  | some v =>
    have HF := Lib.hid (oneV_some (x := numT s.data.toList) 3 s v _ (by unfold numT; rw [hn]; rfl) rfl rfl rfl)
    rcases num_some _ v hd hn with h1 | ⟨h1, h2⟩
    · have H1 := Lib.hid (fun w hG => parse_some s v h1 w hG)
      clear hd hn h1
      go_enter Tryz.func108, Tryz.ntmps108
      go_wp2_with fail
      refine (H1.out _ (hG.keeps (hB _))).mono ?_; rintro e w1 ⟨rfl, hb1⟩
      obtain ⟨hc, hf⟩ := old_block hb1 w.heap.size (by simp)
      go_wp2_with fail
      exact bodyPost_ret (v := .tuple #[.agg #[.int .u8 3, .string s, .int .i64 v, .int .i64 0], .bool true]) (by simp [results, Tryz.results108, go_sem, hc]) rfl ⟨ret_same HF.out.symm, below_four (below_alloc hb1) (Nat.le_refl _) (Nat.le_refl _) (Nat.le_refl _) (Nat.le_refl _) _ _ _ _⟩
    · have H1 := Lib.hid (fun w hG => parse_none s h1 w hG)
      have H2 := Lib.hid (fun w hG => parse_some (⟨#[45]⟩ ++ s) v (by rw [minus_list]; exact h2) w hG)
      clear hd hn h1 h2
      go_enter Tryz.func108, Tryz.ntmps108
      go_wp2_with fail
      refine (H1.out _ (hG.keeps (hB _))).mono ?_; rintro e w1 ⟨rfl, hb1⟩
      obtain ⟨hc, hf⟩ := old_block hb1 w.heap.size (by simp)
      go_wp2_with fail
      refine (H2.out _ (hG.keeps (below_alloc hb1))).mono ?_; rintro e w2 ⟨rfl, hb2⟩
      obtain ⟨hc2, hf2⟩ := old_block hb2 w.heap.size (by have := hb1.size; simp at this; omega)
      go_wp2_with fail
      exact bodyPost_ret (v := .tuple #[.agg #[.int .u8 3, .string s, .int .i64 v, .int .i64 0], .bool true]) (by simp [results, Tryz.results108, go_sem, hc2, hc]) rfl ⟨ret_same HF.out.symm, below_four ((below_alloc hb1).trans (hb2.mono (below_alloc hb1).size)) (Nat.le_refl _) (Nat.le_refl _) (Nat.le_refl _) (Nat.le_refl _) _ _ _ _⟩
  | none =>
    have HF := Lib.hid (oneV_none (x := numT s.data.toList) (by unfold numT; rw [hn]; rfl))
    obtain ⟨h1, h2⟩ := num_none _ hd hn
    have H1 := Lib.hid (fun w hG => parse_none s h1 w hG)
    have H2 := Lib.hid (fun w hG => parse_none (⟨#[45]⟩ ++ s) (by rw [minus_list]; exact h2) w hG)
    clear hd hn h1 h2
    go_enter Tryz.func108, Tryz.ntmps108
    go_wp2_with fail
    refine (H1.out _ (hG.keeps (hB _))).mono ?_; rintro e w1 ⟨rfl, hb1⟩
    obtain ⟨hc, hf⟩ := old_block hb1 w.heap.size (by simp)
    go_wp2_with fail
    refine (H2.out _ (hG.keeps (below_alloc hb1))).mono ?_; rintro e w2 ⟨rfl, hb2⟩
    obtain ⟨hc2, hf2⟩ := old_block hb2 w.heap.size (by have := hb1.size; simp at this; omega)
    go_wp2_with fail
    exact bodyPost_ret (v := .tuple #[.agg #[.int .u8 0, .string ⟨#[]⟩, .int .i64 0, .int .i64 0], .bool false]) (by simp [results, Tryz.results108, go_sem, hc2, hc]) rfl ⟨ret_same HF.out.symm, below_four ((below_alloc hb1).trans (hb2.mono (below_alloc hb1).size)) (Nat.le_refl _) (Nat.le_refl _) (Nat.le_refl _) (Nat.le_refl _) _ _ _ _⟩

set_option maxHeartbeats 400000 in
theorem sign_none (s : ByteArray) (h0 : 0 < s.size) (h : signLen s.data.toList = 0) (w : World) :
    Calls Tryz.prog 109 #[.string s] w fun e w' => e = .returned (oneV none) ∧ Below w.heap.size w w' := by
  have hs := size_any s h0
  rw [h] at hs
  have HS : Hid (∀ w, Calls Tryz.prog 173 #[.string s] w fun e w' => e = .returned (.int .i64 0) ∧ w = w') := Lib.hid hs
  clear hs h
  go_enter Tryz.func109, Tryz.ntmps109
  go_wp2_with (go_at_call 173; refine (HS.out _).mono ?_; rintro e w' ⟨rfl, rfl⟩)
  exact bodyPost_ret (v := .tuple #[.agg #[.int .u8 0, .string ⟨#[]⟩, .int .i64 0, .int .i64 0], .bool false]) (by simp [results, Tryz.results109, go_sem]) rfl ⟨rfl, (Below.refl _ _).alloc (Nat.le_refl _) _⟩
set_option maxHeartbeats 400000 in
theorem sign_some (s : ByteArray) (n : Nat) (h0 : 0 < s.size) (h : signLen s.data.toList = n) (hp : 1 ≤ n) (w : World) :
    Calls Tryz.prog 109 #[.string s] w fun e w' => e = .returned (oneV (some ⟨4, s.data.toList.take n, 0, 0⟩)) ∧ Below w.heap.size w w' := by
  have hs := size_any s h0
  have hn : n ≤ s.size := by have := (sign_le s.data.toList).1; rw [size_of] at this; omega
  rw [h] at hs
  have HS := Lib.hid hs
  have HF := Lib.hid (oneV_some (x := some (⟨4, s.data.toList.take n, 0, 0⟩ : Tok)) 4 (s.extract 0 n) 0 _ rfl rfl (head_to s n).symm rfl)
  have hq : ((n : Int) == 0) = false := b_no (by omega)
  clear hs h
  go_enter Tryz.func109, Tryz.ntmps109
  go_wp2_with (go_at_call 173; refine (HS.out _).mono ?_; rintro e w' ⟨rfl, rfl⟩)
  exact bodyPost_ret (v := .tuple #[.agg #[.int .u8 4, .string (s.extract 0 n), .int .i64 0, .int .i64 0], .bool true]) (by simp [results, Tryz.results109, go_sem]) rfl ⟨ret_same HF.out.symm, (Below.refl _ _).alloc (Nat.le_refl _) _⟩

/-! ### The first token -/
theorem one_word (l : List UInt8) (c : UInt8) (r : List UInt8) (e : l = c :: r) (hc : isLetter c = true) : oneTok 0 l = won (l.takeWhile isIn) := by
  subst e
  have hcons : (c :: r).takeWhile isIn = c :: r.takeWhile isIn := by rw [List.takeWhile_cons, if_pos (letter_in c hc)]
  unfold oneTok won
  simp only
  rw [if_pos hc]
  cases hw : isWord ((c :: r).takeWhile isIn) with
  | true => rfl
  | false =>
    by_cases hl : ((c :: r).takeWhile isIn).length ≤ 16
    · have hm : isName ((c :: r).takeWhile isIn) = true := by
        have hs := while_self isIn _ (while_all isIn (c :: r))
        rw [hcons] at hs hl hw ⊢
        rw [name_is c _ hc hl hw, hs]
        simp
      rw [hm, if_pos hl]
      rfl
    · rw [name_long _ (by omega), if_neg hl]
      rfl
theorem one_number (l : List UInt8) (c : UInt8) (r : List UInt8) (e : l = c :: r) (hc : isLetter c = false) (hd : isDigit c = true) : oneTok 0 l = numT (l.takeWhile isDigit) := by
  subst e
  unfold oneTok numT
  simp only
  rw [if_neg (by simp [hc]), if_pos hd]
theorem one_sign (l : List UInt8) (c : UInt8) (r : List UInt8) (e : l = c :: r) (hc : isLetter c = false) (hd : isDigit c = false) : oneTok 0 l = if signLen l = 0 then none else some ⟨4, l.take (signLen l), 0, 0⟩ := by
  subst e
  unfold oneTok
  simp only
  rw [if_neg (by simp [hc]), if_neg (by simp [hd])]
theorem head_while (p : UInt8 → Bool) (l : List UInt8) (c : UInt8) (r : List UInt8) (e : l = c :: r) (h : p c = true) : (l.takeWhile p).head?.all p = true := by
  subst e
  rw [List.takeWhile_cons, if_pos h]
  simpa using h
theorem while_take (p : UInt8 → Bool) (s : ByteArray) : (s.extract 0 (s.data.toList.takeWhile p).length).data.toList = s.data.toList.takeWhile p := by
  rw [head_to, ← take_while]

set_option maxHeartbeats 1000000 in
theorem first_any (s : ByteArray) (h0 : 0 < s.size) (hs : s.size ≤ 65536) (w : World) (hG : Good w) :
    Calls Tryz.prog 12 #[.string s] w fun e w' => e = .returned (oneV (oneTok 0 s.data.toList)) ∧ Below w.heap.size w w' := by
  have hB : ∀ (o : Obj), Below w.heap.size w (w.alloc o) := fun o => (Below.refl _ _).alloc (Nat.le_refl _) o
  have e0 := left_at s 0 h0
  rw [List.drop_zero] at e0
  have hl := letter_any (s[0]'h0)
  have hdg := digit_any (s[0]'h0)
  have hsz := size_of s
  obtain ⟨x, hx⟩ : ∃ x, x = oneTok 0 s.data.toList := ⟨_, rfl⟩
  have hfin := oneV_is x
  have HX := Lib.hid hx
  rw [← hx]
  cases hc : isLetter (s[0]'h0) with
  | true =>
    have hone := one_word _ _ _ e0 hc
    rw [hc] at hl
    have hr := run_names s (by omega)
    have hwl := while_len isIn s.data.toList
    have hwon := won_any (s.extract 0 (s.data.toList.takeWhile isIn).length) (by rw [ByteArray.size_extract]; omega)
    rw [while_take, ← hone, ← hx, hfin] at hwon
    obtain ⟨n, hn⟩ : ∃ n, n = (s.data.toList.takeWhile isIn).length := ⟨_, rfl⟩
    rw [← hn] at hr hwon hwl
    have HL := Lib.hid hl
    have HR := Lib.hid hr
    have HW := Lib.hid hwon
    have HF := Lib.hid hfin
    have hle : n ≤ s.size := by omega
    clear e0 hl hdg hsz hc hone hr hwl hwon hn hfin hx HX
    go_enter Tryz.func12, Tryz.ntmps12
    go_wp2_with fail
    refine (HL.out _).mono ?_; rintro e w' ⟨rfl, rfl⟩
    go_wp2_with fail
    refine (HR.out _).mono ?_; rintro e w' ⟨rfl, rfl⟩
    go_wp2_with fail
    refine (HW.out _).mono ?_; rintro e w1 ⟨rfl, hb1⟩
    obtain ⟨hcc, hff⟩ := old_block hb1 w.heap.size (by simp)
    go_wp2_with fail
    exact bodyPost_ret (v := .tuple #[.agg #[.int .u8 (oK x), .string (oT x), .int .i64 (oN x), .int .i64 0], .bool (oB x)]) (by simp [results, Tryz.results12, go_sem, hcc]) rfl ⟨ret_same HF.out.symm, below_four (below_alloc hb1) (Nat.le_refl _) (Nat.le_refl _) (Nat.le_refl _) (Nat.le_refl _) _ _ _ _⟩
  | false =>
    rw [hc] at hl
    cases hd : isDigit (s[0]'h0) with
    | true =>
      have hone := one_number _ _ _ e0 hc hd
      rw [hd] at hdg
      have hr := run_digit s (by omega)
      have hwl := while_len isDigit s.data.toList
      have hwon := number_any (s.extract 0 (s.data.toList.takeWhile isDigit).length) (by rw [ByteArray.size_extract]; omega) (by rw [while_take]; exact head_while isDigit _ _ _ e0 hd)
      rw [while_take, ← hone, ← hx, hfin] at hwon
      obtain ⟨n, hn⟩ : ∃ n, n = (s.data.toList.takeWhile isDigit).length := ⟨_, rfl⟩
      rw [← hn] at hr hwon hwl
      have HL := Lib.hid hl
      have HD := Lib.hid hdg
      have HR := Lib.hid hr
      have HW := Lib.hid hwon
      have HF := Lib.hid hfin
      have hle : n ≤ s.size := by omega
      clear e0 hl hdg hsz hc hone hr hwl hwon hn hfin hd hx HX
      go_enter Tryz.func12, Tryz.ntmps12
      go_wp2_with fail
      refine (HL.out _).mono ?_; rintro e w' ⟨rfl, rfl⟩
      go_wp2_with fail
      refine (HD.out _).mono ?_; rintro e w' ⟨rfl, rfl⟩
      go_wp2_with fail
      refine (HR.out _).mono ?_; rintro e w' ⟨rfl, rfl⟩
      go_wp2_with fail
      refine (HW.out _ (hG.keeps (hB _))).mono ?_; rintro e w1 ⟨rfl, hb1⟩
      obtain ⟨hcc, hff⟩ := old_block hb1 w.heap.size (by simp)
      go_wp2_with fail
      exact bodyPost_ret (v := .tuple #[.agg #[.int .u8 (oK x), .string (oT x), .int .i64 (oN x), .int .i64 0], .bool (oB x)]) (by simp [results, Tryz.results12, go_sem, hcc]) rfl ⟨ret_same HF.out.symm, below_four (below_alloc hb1) (Nat.le_refl _) (Nat.le_refl _) (Nat.le_refl _) (Nat.le_refl _) _ _ _ _⟩
    | false =>
      have hone := one_sign _ _ _ e0 hc hd
      rw [← hx] at hone
      rw [hd] at hdg
      have hsg : ∀ w : World, Calls Tryz.prog 109 #[.string s] w fun e w' => e = .returned (oneV x) ∧ Below w.heap.size w w' := fun w => by
        by_cases h : signLen s.data.toList = 0
        · rw [hone, if_pos h]; exact sign_none s h0 h w
        · rw [hone, if_neg h]; exact sign_some s _ h0 rfl (by omega) w
      rw [hfin] at hsg
      have HL := Lib.hid hl
      have HD := Lib.hid hdg
      have HW := Lib.hid hsg
      have HF := Lib.hid hfin
      clear e0 hl hdg hsz hc hone hd hsg hfin hx HX
      go_enter Tryz.func12, Tryz.ntmps12
      go_wp2_with fail
      refine (HL.out _).mono ?_; rintro e w' ⟨rfl, rfl⟩
      go_wp2_with fail
      refine (HD.out _).mono ?_; rintro e w' ⟨rfl, rfl⟩
      go_wp2_with fail
      refine (HW.out _).mono ?_; rintro e w1 ⟨rfl, hb1⟩
      obtain ⟨hcc, hff⟩ := old_block hb1 w.heap.size (by simp)
      go_wp2_with fail
      exact bodyPost_ret (v := .tuple #[.agg #[.int .u8 (oK x), .string (oT x), .int .i64 (oN x), .int .i64 0], .bool (oB x)]) (by simp [results, Tryz.results12, go_sem, hcc]) rfl ⟨ret_same HF.out.symm, below_four (below_alloc hb1) (Nat.le_refl _) (Nat.le_refl _) (Nat.le_refl _) (Nat.le_refl _) _ _ _ _⟩
end Go.Proofs.YtnjjcngggdankaaGreatDoor
