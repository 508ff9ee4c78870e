/- What the word layer's Text and Parse answer, at every number and every text, wherever the library's three variables hold what the program's text lays in them; for the layers above it. -/
import Derived.Test.YtnjjcngggdankaaGreatDoorRows
import Derived.Test.YtnjjcngggdankaaGreatDoorWordRead
import Derived.Test.YtnjjcngggdankaaGreatDoorShelf
import Derived.Shelf.Strconv.Itoa4
import Derived.Shelf.Strconv.ErrVarParseInt
import Derived.Lib.ItoaMem
import Derived.WalkKit
import Derived.WalkSpells
import Derived.WalkLawsBesides
import Derived.Lib.Hide
namespace Go.Proofs.YtnjjcngggdankaaGreatDoor
open Go.RowKit

/-- A variable goes on reading so, whatever is laid behind what there was. -/
theorem var_keeps {P : Program} {n : String} {cs : Array Value} {w w' : World} (hb : Below w.heap.size w w') (h : w.var? P n = some cs) : w'.var? P n = some cs := by
  unfold World.var? at *
  cases hg : P.globalNamed n with
  | none => simp [hg] at h
  | some g =>
    simp only [hg, Option.bind_some] at h ⊢
    have hlt : g < w.heap.size := by
      rcases Nat.lt_or_ge g w.heap.size with h' | h'
      · exact h'
      · rw [Array.getElem?_eq_none h'] at h; simp at h
    rw [hb.block g hlt]
    exact h

/-- Draws and new blocks leave what there was. -/
theorem below_more (w : World) (k : Nat) (os : Array Obj) : Below w.heap.size w (Sort.grow (w.drewN k) os) :=
  ⟨rfl, rfl, rfl, by show w.heap.size ≤ (w.heap ++ os).size; rw [Array.size_append]; omega, fun j hj => by
    show (w.heap ++ os)[j]? = w.heap[j]?
    rw [Array.getElem?_append, if_pos hj]⟩

/-- The library's table and its two errors read as the program's text lays them. -/
structure Good (w : World) : Prop where
  tab : Lib.TabIs Tryz.prog w "internal/strconv.uint64pow10" .u64 Lib.pow10Tab
  form : ∃ tp p, w.var? Tryz.prog "strconv.ErrSyntax" = some #[.iface tp p]
  size : ∃ tp p, w.var? Tryz.prog "strconv.ErrRange" = some #[.iface tp p]
theorem Good.keeps {w w' : World} (h : Good w) (hb : Below w.heap.size w w') : Good w' :=
  ⟨var_keeps hb h.tab, h.form.elim fun tp h1 => h1.elim fun p h2 => ⟨tp, p, var_keeps hb h2⟩, h.size.elim fun tp h1 => h1.elim fun p h2 => ⟨tp, p, var_keeps hb h2⟩⟩

/-- The number whose text l is. -/
def readN (l : List UInt8) : Option Int :=
  if l.length ≤ 20 then (match Lib.parseIntB 64 l with | .ok v => (if Lib.itoa v = l then some v else none) | _ => none) else none

set_option maxHeartbeats 400000 in
theorem text_any (n : Int) (h0 : -9223372036854775808 ≤ n) (h1 : n ≤ 9223372036854775807) (w : World) (hG : Good w) :
    Calls Tryz.prog 180 #[.int .i64 n] w fun e w' => e = .returned (.string ⟨(Lib.itoa n).toArray⟩) ∧ Below w.heap.size w w' := by
  have hc : ∀ w, Good w → Calls Tryz.prog 186 #[.int .i64 n, .int .i64 10] w fun e w' => e = .returned (.string ⟨(Lib.itoa n).toArray⟩) ∧ ∃ k os, w' = Sort.grow (w.drewN k) os := fun w hG => Any.strconv_FormatInt_10 Tryz.laysM173 n h0 h1 w hG.tab
  have Hc := Lib.hid hc
  clear hc
  go_enter Tryz.func180, Tryz.ntmps180
  go_wp2_with (go_at_call 186; refine (Hc.out _ hG).mono ?_; rintro e w' ⟨rfl, k, os, rfl⟩)
  go_ret
  exact ⟨rfl, below_more _ _ _⟩

/-- Called with a text of the bytes l the library's ParseInt answers an error. -/
def Fails (l : List UInt8) : Prop := ∀ w, Good w → ∀ s : ByteArray, s.size ≤ 20 → s.data.toList = l →
    Calls Tryz.prog 179 #[.string s, .int .i64 10, .int .i64 64] w fun e w' => ∃ n N, e = .returned (.tuple #[.int .i64 n, .iface 300 (.pointer (some ⟨N, 0, none⟩))]) ∧ Below w.heap.size w w'

theorem int_cases (l : List UInt8) : (∃ v, Lib.parseIntB 64 l = .ok v) ∨ ((∀ v, ¬ Lib.parseIntB 64 l = .ok v) ∧ Fails l) := by
  cases h : Lib.parseIntB 64 l
  · exact .inl ⟨_, rfl⟩
  · refine .inr ⟨(fun v e => by cases e), fun w hG s hs hl => ?_⟩
    subst hl
    obtain ⟨tp, p, hv⟩ := hG.form
    refine (Any.strconv_ParseInt_10_at64_syntax_var Tryz.laysC174 s (by omega) h tp p w hv).mono ?_
    rintro e w' ⟨N, he, _, _, hb⟩
    exact ⟨_, N, he, hb⟩
  · refine .inr ⟨(fun v e => by cases e), fun w hG s hs hl => ?_⟩
    subst hl
    obtain ⟨tp, p, hv⟩ := hG.size
    refine (Any.strconv_ParseInt_10_at64_range_var Tryz.laysC174 s (by omega) h tp p w hv).mono ?_
    rintro e w' ⟨N, he, _, _, hb⟩
    exact ⟨_, N, he, hb⟩

theorem int_ok (s : ByteArray) (v : Int) (h : Lib.parseIntB 64 s.data.toList = .ok v) (hs : s.size ≤ 20) (w : World) :
    Calls Tryz.prog 179 #[.string s, .int .i64 10, .int .i64 64] w fun e w' => e = .returned (.tuple #[.int .i64 v, .nilIface]) ∧ Below w.heap.size w w' := by
  refine (Any.strconv_ParseInt_10_at64_ok Tryz.laysC174 s (by omega) v h w).mono ?_
  rintro e w' ⟨he, hw⟩
  refine ⟨he, ?_⟩
  rcases hw with rfl | ⟨t, rfl⟩
  · exact Below.refl _ _
  · exact Lib.bytesWorld_below _ _ _

theorem ok_within {l : List UInt8} {v : Int} (h : Lib.parseIntB 64 l = .ok v) : -9223372036854775808 ≤ v ∧ v ≤ 9223372036854775807 := by
  unfold Lib.parseIntB at h
  cases l with
  | nil => cases h
  | cons c r =>
    simp only at h
    generalize Lib.parseUintB 64 (if c.toNat = 43 ∨ c.toNat = 45 then r else c :: r) = q at h
    cases q with
    | ok u =>
      simp only at h
      split at h
      · cases h
      · split at h
        · cases h
        · injection h with h
          split at h <;> omega
    | _ => cases h

theorem read_some {l : List UInt8} {v : Int} (h : readN l = some v) : l.length ≤ 20 ∧ Lib.parseIntB 64 l = .ok v ∧ Lib.itoa v = l := by
  unfold readN at h
  split at h
  · rename_i hl
    cases hp : Lib.parseIntB 64 l with
    | ok x =>
      rw [hp] at h
      simp only at h
      split at h
      · rename_i hi
        injection h with h
        subst h
        exact ⟨hl, rfl, hi⟩
      · cases h
    | _ => rw [hp] at h; cases h
  · cases h

theorem bytes_list (s : ByteArray) : s.toList = s.data.toList := ByteArray.toList_eq s

set_option maxHeartbeats 400000 in
theorem parse_some (s : ByteArray) (v : Int) (h : readN s.data.toList = some v) (w : World) (hG : Good w) :
    Calls Tryz.prog 172 #[.string s] w fun e w' => e = .returned (.tuple #[.int .i64 v, .int .i64 0]) ∧ Below w.heap.size w w' := by
  obtain ⟨hl, hp, hi⟩ := read_some h
  have hs : s.size ≤ 20 := by
    have e1 : s.size = s.data.size := rfl
    have e2 : s.data.toList.length = s.data.size := Array.length_toList
    omega
  obtain ⟨h0, h1⟩ := ok_within hp
  have Hp := Lib.hid (int_ok s v hp hs)
  have ht := text_any v h0 h1
  rw [hi] at ht
  have Ht := Lib.hid ht
  clear ht hp hi h hl
  go_enter Tryz.func172, Tryz.ntmps172
  go_wp2_with (first | (go_at_call 179; refine (Hp.out _).mono ?_; rintro e w1 ⟨rfl, hb1⟩) | (go_at_call 180; refine (Ht.out _ (hG.keeps hb1)).mono ?_; rintro e w2 ⟨rfl, hb2⟩))
  go_ret2
  exact ⟨rfl, hb1.trans (hb2.mono hb1.size)⟩
set_option maxHeartbeats 400000 in
theorem parse_off (s : ByteArray) (v : Int) (hs : s.size ≤ 20) (hp : Lib.parseIntB 64 s.data.toList = .ok v) (hi : ¬ Lib.itoa v = s.data.toList) (w : World) (hG : Good w) :
    Calls Tryz.prog 172 #[.string s] w fun e w' => e = .returned (.tuple #[.int .i64 0, .int .i64 13]) ∧ Below w.heap.size w w' := by
  obtain ⟨h0, h1⟩ := ok_within hp
  have Hp := Lib.hid (int_ok s v hp hs)
  have Ht := Lib.hid (text_any v h0 h1)
  have hq : (Lib.itoa v == s.toList) = false := by rw [bytes_list]; simpa using hi
  clear hp hi
  go_enter Tryz.func172, Tryz.ntmps172
  go_wp2_with (first | (go_at_call 179; refine (Hp.out _).mono ?_; rintro e w1 ⟨rfl, hb1⟩) | (go_at_call 180; refine (Ht.out _ (hG.keeps hb1)).mono ?_; rintro e w2 ⟨rfl, hb2⟩))
  go_ret2
  exact ⟨rfl, hb1.trans (hb2.mono hb1.size)⟩
set_option maxHeartbeats 400000 in
theorem parse_fails (s : ByteArray) (hs : s.size ≤ 20) (hp : Fails s.data.toList) (w : World) (hG : Good w) :
    Calls Tryz.prog 172 #[.string s] w fun e w' => e = .returned (.tuple #[.int .i64 0, .int .i64 13]) ∧ Below w.heap.size w w' := by
  have Hp := Lib.hid (fun w hG => hp w hG s hs rfl)
  clear hp
  go_enter Tryz.func172, Tryz.ntmps172
  go_wp2_with (go_at_call 179; refine (Hp.out _ hG).mono ?_; rintro e w1 ⟨n, N, rfl, hb1⟩)
  go_ret2
  exact ⟨rfl, hb1⟩
set_option maxHeartbeats 400000 in
theorem parse_long (s : ByteArray) (hs : 20 < s.size) (w : World) :
    Calls Tryz.prog 172 #[.string s] w fun e w' => e = .returned (.tuple #[.int .i64 0, .int .i64 13]) ∧ Below w.heap.size w w' := by
  go_enter Tryz.func172, Tryz.ntmps172
  go_wp2_with fail
  go_ret2
  exact ⟨rfl, Below.refl _ _⟩
/-- Every text: the number, or the refusal. -/
theorem parse_none (s : ByteArray) (h : readN s.data.toList = none) (w : World) (hG : Good w) :
    Calls Tryz.prog 172 #[.string s] w fun e w' => e = .returned (.tuple #[.int .i64 0, .int .i64 13]) ∧ Below w.heap.size w w' := by
  have e1 : s.size = s.data.size := rfl
  have e2 : s.data.toList.length = s.data.size := Array.length_toList
  by_cases hs : s.size ≤ 20
  · rcases int_cases s.data.toList with ⟨v, hv⟩ | ⟨_, hf⟩
    · by_cases hi : Lib.itoa v = s.data.toList
      · exfalso
        unfold readN at h
        rw [if_pos (by omega), hv] at h
        simp only at h
        rw [if_pos hi] at h
        cases h
      · exact parse_off s v hs hv hi w hG
    · exact parse_fails s hs hf w hG
  · exact parse_long s (by omega) w


/-- What is read is told so, and nothing else is read. -/
theorem readN_is (l : List UInt8) (v : Int) : readN l = some v ↔ l = Lib.itoa v ∧ -9223372036854775808 ≤ v ∧ v ≤ 9223372036854775807 := by
  constructor
  · intro h
    obtain ⟨_, hp, hi⟩ := read_some h
    exact ⟨hi.symm, ok_within hp⟩
  · rintro ⟨rfl, h0, h1⟩
    unfold readN
    rw [if_pos (itoa_short v h0 h1), int_back v h0 h1]
    simp
theorem readN_asks (l : List UInt8) : readN l = asksN l := by
  apply Option.ext
  intro v
  rw [readN_is, asks_some]
theorem size_of (s : ByteArray) : s.data.toList.length = s.size := Array.length_toList
end Go.Proofs.YtnjjcngggdankaaGreatDoor
