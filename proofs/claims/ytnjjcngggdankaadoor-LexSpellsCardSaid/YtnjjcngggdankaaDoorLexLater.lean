/- What a list's twin with later lines is, and how many line feeds a text has by the document's own count. Nothing of what there was changes. -/
import Derived.Test.YtnjjcngggdankaaDoorRows
import Derived.Test.YtnjjcngggdankaaDoorLexTwin
import Derived.WalkKit
import Derived.WalkSpells
import Derived.WalkLawsBesides
import Derived.Lib.Hide
namespace Go.Proofs.YtnjjcngggdankaaDoor
open Go.RowKit Go.Joins

theorem set_row : ∀ (ts : List Tok) (k : Nat) (t t' : Tok), ts[k]? = some t → t'.kind = t.kind → t'.text = t.text → t'.n = t.n → (rowOf ts).set (k * 4 + 3) (.int .i64 (t'.line : Int)) = rowOf (ts.set k t')
  | [], k, t, t', h, _, _, _ => by simp at h
  | t0 :: ts, 0, t, t', h, h1, h2, h3 => by
    simp at h
    subst h
    show (tokCells t0 ++ rowOf ts).set 3 _ = tokCells t' ++ rowOf ts
    rw [List.set_append_left _ _ (by show 3 < 4; omega)]
    unfold tokCells
    rw [h1, h2, h3]
    rfl
  | t0 :: ts, k + 1, t, t', h, h1, h2, h3 => by
    have ih := set_row ts k t t' (by simpa using h) h1 h2 h3
    show (tokCells t0 ++ rowOf ts).set ((k + 1) * 4 + 3) _ = tokCells t0 ++ rowOf (ts.set k t')
    rw [List.set_append_right _ _ (by show 4 ≤ _; omega), ← ih]
    congr 2
    show (k + 1) * 4 + 3 - 4 = _
    omega

/-- Some at the front are turned. -/
def part (f : Tok → Tok) (k : Nat) (ts : List Tok) : List Tok := (ts.take k).map f ++ ts.drop k
theorem part_none (f : Tok → Tok) (ts : List Tok) : part f 0 ts = ts := by simp [part]
theorem part_all (f : Tok → Tok) (ts : List Tok) : part f ts.length ts = ts.map f := by simp [part]
theorem part_at (f : Tok → Tok) (k : Nat) (ts : List Tok) (h : k < ts.length) : (part f k ts)[k]? = some ts[k] := by
  unfold part
  rw [List.getElem?_append_right (by rw [List.length_map, List.length_take]; omega), List.length_map, List.length_take, Nat.min_eq_left (by omega), Nat.sub_self, List.drop_eq_getElem_cons h]
  rfl
theorem part_next (f : Tok → Tok) (k : Nat) (ts : List Tok) (h : k < ts.length) : (part f k ts).set k (f ts[k]) = part f (k + 1) ts := by
  unfold part
  rw [List.set_append_right _ _ (by rw [List.length_map, List.length_take]; omega), List.length_map, List.length_take, Nat.min_eq_left (by omega), Nat.sub_self, List.drop_eq_getElem_cons h, List.take_succ_eq_append_getElem h, List.map_append, List.append_assoc]
  rfl

set_option maxHeartbeats 1000000 in
theorem later_any (ts : List Tok) (n L : Nat) (v : Value) (B : Nat) (w : World) (hn : n = ts.length) (hb : n ≤ 100000) (hL : L ≤ 1000000) (hl : ∀ t ∈ ts, t.line ≤ 1000000) (h1 : w.ownsRow B 35 4 v n (rowOf ts)) :
    Calls Tryd.prog 15 #[v, .int .i64 (L : Int)] w (Holds (ts.map (shiftTok L)) n w) := by
  have H1 := Lib.hid (twin_any ts n v B w hb h1)
  have HA := Lib.hid (part_all (shiftTok L) ts)
  rw [← hn] at HA
  have HN := Lib.hid hn
  have HL := Lib.hid hl
  clear h1 hn hl
  go_enter Tryd.func15, Tryd.ntmps15
  go_wp2_with fail
  refine H1.out.mono ?_; rintro e w1 ⟨g, c, rfl, hb1, ho1⟩
  go_wp2_with fail
  go_loopw [6] (fun i wr => ∃ k : Nat, k ≤ n ∧ i = .int .i64 k ∧ wr.ownsRow w.heap.size 35 4 (.slice (some ⟨g, 0, none⟩) n c) n (rowOf (part (shiftTok L) k ts)) ∧ Below w.heap.size w wr) (fun i _ => n - (intOf i).toNat)
  case atStart => exact ⟨0, by omega, rfl, by rw [part_none]; exact ho1, hb1⟩
  case round =>
    obtain ⟨k, hk, rfl, hown, hbl⟩ := hrel
    by_cases hlt : k < n
    · have hkt : k < ts.length := by rw [← HN.out]; exact hlt
      obtain ⟨-, -, -, p4⟩ := own_at hown k _ (part_at (shiftTok L) k ts hkt)
      have f4 := hown.frozenAt (k * 4 + 3)
      have hline := HL.out _ (List.getElem_mem hkt)
      have hst := (hown.stored (k * 4 + 3) (.int .i64 ((shiftTok L ts[k]).line : Int))).1
      rw [set_row (part (shiftTok L) k ts) k _ (shiftTok L ts[k]) (part_at (shiftTok L) k ts hkt) rfl rfl rfl, part_next (shiftTok L) k ts hkt] at hst
      have HS := Lib.hid hst
      have hBg : w.heap.size ≤ g := ((hown.lt g rfl).1)
      have HM := Lib.hid (show ((shiftTok L ts[k]).line : Int) = ((ts[k]'hkt).line : Int) + (L : Int) from rfl)
      generalize ((shiftTok L ts[k]).line : Int) = m at *
      generalize hmm : ((ts[k]'hkt).line : Int) = m0 at *
      have hm0 : m0 ≤ 1000000 := by omega
      have hm1 : 0 ≤ m0 := by omega
      clear hown hst hmm hline hkt
      go_wp2_with fail
      go_roundw
      case rel => exact ⟨k + 1, by omega, by go_num, by rw [← HM.out]; exact HS.out, hbl.setCell (by simpa using hBg) _⟩
      case measure => simp [intOf]; omega
    · obtain rfl : k = n := by omega
      rw [HA.out] at hown
      have HO := Lib.hid hown
      clear hown
      go_wp2_with fail
      go_ret
      exact ⟨_, _, rfl, hbl, HO.out⟩

set_option maxHeartbeats 400000 in
theorem feeds_any (s : ByteArray) (hs : s.size ≤ 1000000) (w : World) :
    Calls Tryd.prog 12 #[.string s] w fun e w' => e = .returned (.int .i64 ((feeds s.data.toList : Nat) : Int)) ∧ w = w' := by
  obtain ⟨n, hn⟩ : ∃ n, n = feeds s.data.toList := ⟨_, rfl⟩
  rw [← hn]
  have HN := Lib.hid (show n = 0 + feeds (s.data.toList.drop 0) by rw [List.drop_zero]; omega)
  clear hn
  go_enter Tryd.func12, Tryd.ntmps12
  go_wp2
  go_loop [3, 4] (fun m i => ∃ k f : Nat, k ≤ s.size ∧ f ≤ k ∧ Hid (n = f + feeds (s.data.toList.drop k)) ∧ m = .int .i64 f ∧ i = .int .i64 k) (fun _ i => s.size - (intOf i).toNat)
  case atStart => exact ⟨0, 0, by omega, by omega, HN, rfl, rfl⟩
  case round =>
    obtain ⟨k, f, hk, hf, HR, rfl, rfl⟩ := hrel
    by_cases hlt : k < s.size
    · have hr := HR.out
      rw [left_at s k hlt, feeds_cons] at hr
      by_cases h10 : s[k].toNat = 10
      · rw [if_pos h10] at hr
        have HS := Lib.hid (show n = f + 1 + feeds (s.data.toList.drop (k + 1)) by omega)
        have q1 : ((s[k].toNat : Int) == 10) = true := b_yes (by omega)
        clear hr HR h10
        go_wp2_with fail
        go_round
        case rel => exact ⟨k + 1, f + 1, by omega, by omega, HS, by go_num, by go_num⟩
        case measure => simp [intOf]; omega
      · rw [if_neg h10] at hr
        have HS := Lib.hid (show n = f + feeds (s.data.toList.drop (k + 1)) by omega)
        have q1 : ((s[k].toNat : Int) == 10) = false := b_no (by omega)
        clear hr HR h10
        go_wp2_with fail
        go_round
        case rel => exact ⟨k + 1, f, by omega, by omega, HS, rfl, by go_num⟩
        case measure => simp [intOf]; omega
    · have hr := HR.out
      rw [left_end s k (by omega), feeds_nil] at hr
      have HS := Lib.hid (show n = f by omega)
      clear hr HR
      go_wp2_with fail
      go_ret
      exact ⟨ret_int (by rw [HS.out]), rfl⟩
end Go.Proofs.YtnjjcngggdankaaDoor
