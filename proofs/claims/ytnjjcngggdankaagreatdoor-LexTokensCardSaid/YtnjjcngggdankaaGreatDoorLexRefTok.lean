/- The tokens of a text by the document's own answer, at every text: those in memory of their own, or the line. It leaves what there was. -/
import Derived.Test.YtnjjcngggdankaaGreatDoorRows
import Derived.Test.YtnjjcngggdankaaGreatDoorLexRefOne
import Derived.Laws.AppendOwn
import Derived.WalkKit
import Derived.WalkSpells
import Derived.WalkLawsBesides
import Derived.Lib.Hide
namespace Go.Proofs.YtnjjcngggdankaaGreatDoor
open Go.RowKit

theorem blank_not (c : UInt8) (h32 : c.toNat ≠ 32) (h9 : c.toNat ≠ 9) (h10 : c.toNat ≠ 10) (h13 : c.toNat ≠ 13) : isBlank c = false := by simp [isBlank, h32, h9, h10, h13]
theorem blank_one (c : UInt8) (h : c.toNat = 32 ∨ c.toNat = 9 ∨ c.toNat = 10 ∨ c.toNat = 13) : isBlank c = true := by simp [isBlank, h]
theorem rem_no (c : UInt8) (r : List UInt8) (h : c.toNat ≠ 47) : isRem c r = false := by simp [isRem, h]
theorem rem_end (c : UInt8) : isRem c [] = false := by simp [isRem]
theorem rem_two (c d : UInt8) (r : List UInt8) (h : c.toNat = 47) : isRem c (d :: r) = decide (d.toNat = 47) := by
  unfold isRem
  rw [h, List.head?_cons, decide_eq_true rfl, Bool.true_and, Bool.eq_iff_iff]
  simp [← UInt8.toNat_inj]
theorem feed_drop (c : UInt8) (r : List UInt8) (h : c.toNat = 10) : (c :: r).dropWhile notFeed = c :: r := by
  rw [List.dropWhile_cons, if_neg]
  simp [notFeed, h]
theorem other_drop (c : UInt8) (r : List UInt8) (h : c.toNat ≠ 10) : (c :: r).dropWhile notFeed = r.dropWhile notFeed := by
  rw [List.dropWhile_cons, if_pos]
  simp [notFeed, h]

set_option maxHeartbeats 400000 in
theorem rtokens_long (s : ByteArray) (hs : 65536 < s.size) (w : World) :
    Calls Tryz.prog 5 #[.string s] w fun e w' => e = .returned (.tuple #[.slice none 0 0, .int .i64 0, .int .i64 3]) ∧ w = w' := by
  go_enter Tryz.func5, Tryz.ntmps5
  go_wp2_with fail
  go_ret3
  exact ⟨rfl, rfl⟩

set_option maxRecDepth 1000000 in
set_option maxHeartbeats 4000000 in
theorem rtokens_any (s : ByteArray) (hs : s.size ≤ 65536) (w : World) :
    Calls Tryz.prog 5 #[.string s] w (Lexed (lexL 0 s.data.toList) w) := by
  obtain ⟨x, hx⟩ : ∃ x, x = lexL 0 s.data.toList := ⟨_, rfl⟩
  rw [← hx]
  have HX := Lib.hid (show x = preTok [] (lexL 0 (s.data.toList.drop 0)) by rw [pre_nil, hx, List.drop_zero])
  clear hx
  obtain ⟨i0, hi, hz0, hz1, hz2⟩ := info_parts tokInfo
  have HI := Lib.hid (And.intro hi (And.intro hz0 (And.intro hz1 hz2)))
  clear hi hz0 hz1 hz2
  go_enter Tryz.func5, Tryz.ntmps5
  go_wp2_with fail
  go_loopw [5, 6, 7] (fun v ln iv wr => ∃ (acc : List Tok) (k i : Nat), wr.ownsRow w.heap.size 63 4 v acc.length (rowOf acc) ∧ ln = .int .i64 k ∧ iv = .int .i64 i ∧ Hid (x = preTok acc (lexL k (s.data.toList.drop i))) ∧ i ≤ s.size ∧ acc.length ≤ i ∧ k ≤ i ∧ Below w.heap.size w wr) (fun _ _ iv _ => s.size - (intOf iv).toNat)
  case atStart => exact ⟨[], 0, 0, World.ownsRow_nil _ _ _ _, rfl, rfl, HX, by omega, by simp, by omega, Below.refl _ _⟩
  case round =>
    obtain ⟨acc, k, i, hown, rfl, rfl, HR, hi, ha, hk, hb⟩ := hrel
    by_cases hlt : i < s.size
    · have hr := HR.out
      have e0 := left_at s i hlt
      rw [e0] at hr
      by_cases h10 : s[i].toNat = 10
      · have HF := Lib.hid (show x = preTok acc (lexL (k + 1) (s.data.toList.drop (i + 1))) by rw [hr, lexL_feed _ _ _ h10])
        have q10 : ((s[i].toNat : Int) == 10) = true := b_yes (by omega)
        have q32 : ((s[i].toNat : Int) == 32) = false := b_no (by omega)
        have q9 : ((s[i].toNat : Int) == 9) = false := b_no (by omega)
        clear hr e0 HR h10
        go_wp2_with fail
        go_roundw
        case rel => exact ⟨acc, k + 1, i + 1, hown, by go_num, by go_num, HF, by omega, by omega, by omega, hb⟩
        case measure => simp [intOf]; omega
      have q10 : ((s[i].toNat : Int) == 10) = false := b_no (by omega)
      by_cases h32 : s[i].toNat = 32
      · have HF := Lib.hid (show x = preTok acc (lexL k (s.data.toList.drop (i + 1))) by rw [hr, lexL_blank _ _ _ h10 (blank_one _ (by omega))])
        have q32 : ((s[i].toNat : Int) == 32) = true := b_yes (by omega)
        clear hr e0 HR h10 h32
        go_wp2_with fail
        go_roundw
        case rel => exact ⟨acc, k, i + 1, hown, rfl, by go_num, HF, by omega, by omega, by omega, hb⟩
        case measure => simp [intOf]; omega
      have q32 : ((s[i].toNat : Int) == 32) = false := b_no (by omega)
      by_cases h9 : s[i].toNat = 9
      · have HF := Lib.hid (show x = preTok acc (lexL k (s.data.toList.drop (i + 1))) by rw [hr, lexL_blank _ _ _ h10 (blank_one _ (by omega))])
        have q9 : ((s[i].toNat : Int) == 9) = true := b_yes (by omega)
        clear hr e0 HR h10 h32 h9
        go_wp2_with fail
        go_roundw
        case rel => exact ⟨acc, k, i + 1, hown, rfl, by go_num, HF, by omega, by omega, by omega, hb⟩
        case measure => simp [intOf]; omega
      have q9 : ((s[i].toNat : Int) == 9) = false := b_no (by omega)
      by_cases h13 : s[i].toNat = 13
      · have HF := Lib.hid (show x = preTok acc (lexL k (s.data.toList.drop (i + 1))) by rw [hr, lexL_blank _ _ _ h10 (blank_one _ (by omega))])
        have q13 : ((s[i].toNat : Int) == 13) = true := b_yes (by omega)
        clear hr e0 HR h10 h32 h9 h13
        go_wp2_with fail
        go_roundw
        case rel => exact ⟨acc, k, i + 1, hown, rfl, by go_num, HF, by omega, by omega, by omega, hb⟩
        case measure => simp [intOf]; omega
      have q13 : ((s[i].toNat : Int) == 13) = false := b_no (by omega)
      have hbl := blank_not _ h32 h9 h10 h13
      have HR2 := Lib.hid hr
      have HBL := Lib.hid hbl
      have H10 := Lib.hid h10
      have E0 := Lib.hid e0
      -- a remark
      by_cases hrem : isRem s[i] (s.data.toList.drop (i + 1)) = true
      · have h47 : s[i].toNat = 47 := by
          refine Classical.byContradiction fun hne => ?_
          rw [rem_no _ _ hne] at hrem
          cases hrem
        have hlt2 : i + 1 < s.size := by
          refine Classical.byContradiction fun hne => ?_
          rw [left_end s (i + 1) (by omega), rem_end] at hrem
          cases hrem
        rw [left_at s (i + 1) hlt2, rem_two _ _ _ h47] at hrem
        have h47b := of_decide_eq_true hrem
        have HJ := Lib.hid (show lexL k (s[i] :: s.data.toList.drop (i + 1)) = lexL k ((s.data.toList.drop i).dropWhile notFeed) by
          rw [lexL_rem k _ _ hbl (by rw [left_at s (i + 1) hlt2, rem_two _ _ _ h47]; exact hrem), e0, other_drop _ _ h10])
        have q47 : ((s[i].toNat : Int) == 47) = true := b_yes (by omega)
        have q47b : ((s[i + 1].toNat : Int) == 47) = true := b_yes (by omega)
        clear hr e0 HR h10 h32 h9 h13 hbl hrem h47 h47b
        go_wp2_with fail
        go_loop [7] (fun iv => ∃ j : Nat, i ≤ j ∧ j ≤ s.size ∧ iv = .int .i64 j ∧ Hid ((s.data.toList.drop i).dropWhile notFeed = (s.data.toList.drop j).dropWhile notFeed)) (fun iv => s.size - (intOf iv).toNat)
        case atStart => exact ⟨i, Nat.le_refl _, hi, rfl, Lib.hid rfl⟩
        case round =>
          obtain ⟨j, hj1, hj2, rfl, HD⟩ := hrel
          by_cases hjl : j < s.size
          · have hd := HD.out
            have ej := left_at s j hjl
            rw [ej] at hd
            by_cases hj10 : s[j].toNat = 10
            · have HF := Lib.hid (show x = preTok acc (lexL k (s.data.toList.drop j)) by rw [HR2.out, HJ.out, hd, feed_drop _ _ hj10, ej])
              have hij : i < j := by
                refine Classical.byContradiction fun hne => ?_
                obtain rfl : i = j := by omega
                exact H10.out hj10
              have qj : ((s[j].toNat : Int) == 10) = true := b_yes (by omega)
              have qj2 : ((s[j].toNat : Int) != 10) = false := by rw [bne, qj]; rfl
              clear hd ej hj10
              go_wp2_with fail
              go_roundw
              case rel => exact ⟨acc, k, j, hown, rfl, rfl, HF, by omega, by omega, by omega, hb⟩
              case measure => simp [intOf]; omega
            · have HD2 := Lib.hid (show (s.data.toList.drop i).dropWhile notFeed = (s.data.toList.drop (j + 1)).dropWhile notFeed by rw [hd, other_drop _ _ hj10])
              have qj : ((s[j].toNat : Int) == 10) = false := b_no (by omega)
              have qj2 : ((s[j].toNat : Int) != 10) = true := by rw [bne, qj]; rfl
              clear hd ej hj10
              go_wp2_with fail
              go_round
              case rel => exact ⟨j + 1, by omega, by omega, by go_num, HD2⟩
              case measure => simp [intOf]; omega
          · have hd := HD.out
            have ej := left_end s j (by omega)
            rw [ej] at hd
            have HF := Lib.hid (show x = preTok acc (lexL k (s.data.toList.drop j)) by rw [HR2.out, HJ.out, hd, ej]; rfl)
            clear hd ej
            go_wp2_with fail
            go_roundw
            case rel => exact ⟨acc, k, j, hown, rfl, rfl, HF, by omega, by omega, by omega, hb⟩
            case measure => simp [intOf]; omega
      · have hrem' : isRem s[i] (s.data.toList.drop (i + 1)) = false := by simpa using hrem
        have hpos : 0 < (s.extract i s.size).size := by rw [ByteArray.size_extract]; omega
        have htl := tail_at s i
        rw [e0] at htl
        have hone := rone_any (s.extract i s.size) hpos (by rw [ByteArray.size_extract]; omega)
        obtain ⟨y, hy⟩ : ∃ y, y = oneTok 0 (s.extract i s.size).data.toList := ⟨_, rfl⟩
        have hyl := one_line 0 k (s[i] :: s.data.toList.drop (i + 1))
        rw [← htl, ← hy] at hyl
        rw [← hy] at hone
        have hguard : ((s[i].toNat : Int) == 47) = false ∨ (((s[i].toNat : Int) == 47) = true ∧ ((s.size : Int) ≤ (i : Int) + 1)) ∨ (((s[i].toNat : Int) == 47) = true ∧ ∃ h2 : i + 1 < s.size, ((s[i + 1].toNat : Int) == 47) = false) := by
          by_cases h47 : s[i].toNat = 47
          · by_cases h2 : i + 1 < s.size
            · refine .inr (.inr ⟨b_yes (by omega), h2, ?_⟩)
              rw [left_at s (i + 1) h2, rem_two _ _ _ h47] at hrem'
              exact b_no (fun e => (of_decide_eq_false hrem') (by omega))
            · exact .inr (.inl ⟨b_yes (by omega), by omega⟩)
          · exact .inl (b_no (by omega))
        cases hyy : y with
        | none =>
          rw [hyy] at hyl hone
          have HF := Lib.hid (show x = .error k by rw [hr, lexL_bad _ _ _ hbl hrem' (by rw [← htl, hyl]; rfl)]; rfl)
          have H1 := Lib.hid hone
          clear hr e0 HR h10 h32 h9 h13 hbl hrem hrem' htl hone hy hyl hyy hpos
          rcases hguard with q47 | ⟨q47, hend⟩ | ⟨q47, hlt2, q47b⟩
          all_goals
            go_wp2_with fail
            refine (H1.out _).mono ?_; rintro e w1 ⟨hb1, K, rfl⟩
            go_wp2_with fail
            go_ret3
            exact lexed_err HF.out ((hb.trans (hb1.mono hb.size)).alloc (hb.trans (hb1.mono hb.size)).size _)
        | some t =>
          rw [hyy] at hyl hone
          have hB := one_begins (hy.symm.trans hyy)
          have hn1 := hB.pos
          have hn2 := hB.le
          rw [size_of, ByteArray.size_extract] at hn2
          obtain ⟨K, hK⟩ : ∃ K : Int, K = (t.kind : Int) := ⟨_, rfl⟩
          obtain ⟨N, hN⟩ : ∃ N, N = t.n := ⟨_, rfl⟩
          obtain ⟨T, hT⟩ : ∃ T : ByteArray, T = ⟨t.text.toArray⟩ := ⟨_, rfl⟩
          have hTs : T.size = t.text.length := by rw [hT]; simp [ByteArray.size]
          have hTl : T.data.toList = t.text := by rw [hT]
          have hft : ∀ w, Calls Tryz.prog 14 #[.string (s.extract i s.size)] w fun e w' => Below w.heap.size w w' ∧ e = .returned (.agg #[.int .u8 K, .string T, .int .i64 N, .int .i64 0]) := by
            subst hK; subst hN; subst hT
            exact hone
          have HF := Lib.hid (show x = preTok (acc ++ [{ t with line := k }]) (lexL k (s.data.toList.drop (i + T.size))) by
            rw [hr, lexL_tok _ _ _ _ hbl hrem' (by rw [← htl, hyl]; rfl), pre_pre, hTs]
            have h2 := hB.pos
            obtain ⟨j, hj⟩ : ∃ j, t.text.length = j + 1 := ⟨t.text.length - 1, by omega⟩
            simp only
            rw [hj, Nat.add_sub_cancel, List.drop_drop, show i + 1 + j = i + (j + 1) by omega])
          have HRow := Lib.hid (show rowOf (acc ++ [{ t with line := k }]) = rowOf acc ++ [.int .u8 K, .string T, .int .i64 N, .int .i64 (k : Int)] by
            rw [row_snoc, hK, hT, hN]; rfl)
          have hemp : T.toList.isEmpty = false := by
            rw [bytes_list, hTl]
            cases hx : t.text with
            | nil => rw [hx] at hn1; simp at hn1
            | cons _ _ => rfl
          have H1 := Lib.hid hft
          have hT1 : 1 ≤ T.size := by omega
          have hT2 : T.size ≤ s.size - i := by omega
          clear hr e0 HR h10 h32 h9 h13 hbl hrem hrem' htl hone hy hyl hyy hpos hB hn1 hn2 hK hN hT hTs hTl hft
          have hlo : ∀ j, u5.ownBlock = some j → w.heap.size ≤ j := fun j e => (hown.lt j e).1
          rcases hguard with q47 | ⟨q47, hend⟩ | ⟨q47, hlt2, q47b⟩
          all_goals
            go_wp2_with fail
            refine (H1.out _).mono ?_; rintro e w1 ⟨hb1, rfl⟩
            have hs1 := hb1.size
            have hs0 := hb.size
            have hne : some w1.heap.size ≠ u5.ownBlock := fun e => by have := (hown.lt _ e.symm).2; omega
            have hown2 := own_below hown hb1
            have hbb : Below w.heap.size w w1 := hb.trans (hb1.mono hb.size)
            clear hown hb hb1
            go_wp2_with (at_builtin; refine wpList_append_own _ rfl _ _ 22 rfl w.heap.size 63 i0 (.agg #[.int .u8 0, .string ⟨#[]⟩, .int .i64 0, .int .i64 0]) 4 40 Tryz.underlying22 HI.out.1 HI.out.2.1 HI.out.2.2.1 HI.out.2.2.2 rfl (by decide) _ _ _ rfl ((hown2.alloc _).alloc _) ⟨w1.heap.size + 1, 0, none⟩ 1 1 [.int .u8 K, .string T, .int .i64 N, .int .i64 (k : Int)] rfl rfl ?c1 ?c2 ?c3 ?c4 ?c5 ?_)
            case c1 => exact four_cells _ _ _ _ _ _ _ (by simp)
            case c2 => exact four_one _ _ _ _
            case c3 => unfold maxLen; omega
            case c4 => omega
            case c5 => simp; omega
            intro v' w3 hown3 hgrow _
            have ct : w3.cell? ⟨w1.heap.size, 1, none⟩ = some (.string T) := hgrow.cell (a := ⟨w1.heap.size, 1, none⟩) (by go_simp) hne
            have HO := Lib.hid hown3
            have HW := Lib.hid hgrow
            clear hown3 hgrow
            go_wp2_with fail
            go_roundw
            case rel =>
              refine ⟨acc ++ [{ t with line := k }], k, i + T.size, by rw [HRow.out]; simpa using HO.out, rfl, by go_num, HF, by omega, by rw [List.length_append, List.length_singleton]; omega, by omega, ?_⟩
              exact ((hbb.alloc hbb.size _).alloc (by simp; omega) _).grown HW.out (by simp; omega) fun j e => hlo j e
            case measure => simp [intOf]; omega
    · have hr := HR.out
      rw [left_end s i (by omega), lexL_nil] at hr
      have HF := Lib.hid (show x = .ok acc by rw [hr]; simp [preTok])
      clear hr HR
      go_wp2_with fail
      go_ret3
      exact lexed_ok HF.out hb hown
end Go.Proofs.YtnjjcngggdankaaGreatDoor
