/- An expression alone, and in a program of one thread: the two texts, and the two refusals. -/
import Derived.Test.YtflbplljlkpeiaaDoorRows
import Derived.Test.YtflbplljlkpeiaaDoorShowTold
import Derived.Test.YtflbplljlkpeiaaDoorShowAlone
import Derived.Test.YtflbplljlkpeiaaDoorShowWithin0
import Derived.Test.YtflbplljlkpeiaaDoorShowAlive2
import Derived.WalkKit
import Derived.WalkSpells
import Derived.WalkLawsBesides
import Derived.Lib.Hide
namespace Go.Proofs.YtflbplljlkpeiaaDoor
open Go.RowKit

/-- The text of such a program. -/
def loneT (x : X) : List UInt8 := [116, 104, 114, 101, 97, 100] ++ (([32, 123, 10] ++ (([32, 32] ++ ((([112, 114, 105, 110, 116, 32] ++ x.txt) ++ [59]) ++ [10])) ++ (([] : List UInt8) ++ [125]))) ++ [10])
theorem loneT_len (x : X) : (loneT x).length = x.txt.length + 21 := by
  unfold loneT
  simp
theorem loneT_is (x : X) : loneT x = [116, 104, 114, 101, 97, 100, 32, 123, 10, 32, 32, 112, 114, 105, 110, 116, 32] ++ x.txt ++ [59, 10, 125, 10] := by
  unfold loneT
  simp

theorem fine_some {x : X} (hf : Fine x) : noneH x.hd x.args.length = false := by
  cases hf with
  | mk h s l hform _ =>
    show noneH h l.length = false
    cases hn : noneH h l.length with
    | false => rfl
    | true =>
      unfold noneH at hn
      simp only [Bool.and_eq_true, decide_eq_true_eq] at hn
      unfold form at hform
      rw [hn.1.1.1] at hform
      simp [wants] at hform
theorem args_len {w : World} {B : Nat} {x : X} (hI : InW w B x) : ∃ ao cap, x.s = .slice ao x.args.length cap := by
  obtain ⟨h, s, l⟩ := x
  obtain ⟨ao, cap, hs, -⟩ := lies_form hI
  exact ⟨ao, cap, hs⟩

set_option maxHeartbeats 1000000 in
theorem sprog_lone (x : X) (ao : Option Addr) (cap b : Nat) (hx : x.s = .slice ao x.args.length cap) (w : World) (hL : Lone x ao x.args.length cap b w) (hI : InW w w.heap.size x) (hG : Good w) :
    Calls Tryd.prog 11 #[.agg #[.slice none 0 0, .slice none 0 0, .slice none 0 0, .slice (some ⟨b + 1, 0, none⟩) 1 1]] w (ProgOut (chk 1 1 x) (loneT x) w) := by
  have hb0 : b < w.heap.size := (Array.getElem?_eq_some_iff.1 hL.1).1
  have hb1 : b + 1 < w.heap.size := (Array.getElem?_eq_some_iff.1 hL.2).1
  have hP : ∀ B c w1, Ck B c 0 w1 → w.heap.size ≤ B → B ≤ w1.heap.size → Below w.heap.size w w1 → Calls Tryd.prog 43 #[.pointer (some ⟨c, 0, none⟩), .agg #[.slice none 0 0, .slice none 0 0, .slice none 0 0, .slice (some ⟨b + 1, 0, none⟩) 1 1]] w1 (Went B c (chk 1 1 x) w1) := by
    intro B c w1 h1 h2 h3 h4
    have hBc := h1.1
    refine cprog_one (chk 1 1 x) B c b (b + 1) 55 (0, 0) w1 h1 (by omega) ((h4.block _ hb1).trans hL.2) (fun w2 k1 k2 => ?_)
    exact clist_6 x ao x.args.length cap hx B c b 57 (0, 0) w2 k1 (Nat.le_trans h3 k2.size) (InW.up h2 _ (InW.keeps (k2.below (by omega) (by omega)) _ (InW.keeps h4 _ hI))) (by have := k2.size; omega) ((k2.block _ (by omega) (by omega)).trans ((h4.block _ hb0).trans hL.1))
  cases hc : chk 1 1 x with
  | error k =>
    rw [hc] at hP
    refine (sprog_any _ _ _ _ (.error k) [0] (fun j hj => by cases hj; exact chk_err x 1 1 k hc) (by simp) (by simp) w hG hP (fun n hn => by cases hn)).mono fun e w' h => ?_
    exact ⟨h.1, fun n hn => by cases hn⟩
  | ok n =>
    rw [hc] at hP
    obtain ⟨hn, hf, hn2⟩ := chk_ok x _ _ _ hc
    have hts := txt_short x hf hI
    have hsz : X.size x ≤ 1024 := by omega
    have hlen := loneT_len x
    refine sprog_any _ _ _ _ (.ok n) (loneT x) (fun j hj => by cases hj) (by intro e; rw [e] at hlen; simp at hlen) (by omega) w hG hP (fun _ _ B c w1 h1 h2 h3 h4 h5 => ?_)
    have hBc := h1.base
    refine wprog_one B c b (b + 1) [] _ 55 (0, 0) w1 h1 h3 (by simp; omega) ((h4.block _ hb1).trans hL.2) (fun w2 k1 k2 => ?_)
    refine wstmts_6 B c b x.hd.k x.hd.n x.hd.tk x.hd.tz x.hd.name x.hd.tn ao x.args.length cap ([] ++ [116, 104, 114, 101, 97, 100]) _ 57 (0, 0) w2 k1 (Nat.le_trans h3 k2.below.size) (by simp; omega) (k2.rest _ _ _ _ ((h4.block _ hb0).trans hL.1) (by omega) (by decide)) (by omega) (by decide) (fun l' w3 hl' j1 j2 => ?_)
    have hB3 := (k2.trans j2).below
    exact wstmt_6 x ao x.args.length cap hx (fine_some hf) (expr_all x hf) B c l' w3 j1 (Nat.le_trans h3 hB3.size) (InW.keeps hB3 _ (InW.up h2 _ (InW.keeps h4 _ hI))) (h5.below hB3) (by simp at hl'; omega) (by omega)

/-- How many statements and expressions such a program has. -/
def loneN (x : X) : Int := if noneH x.hd x.args.length then 1 else 1 + (1 + (X.sizes x.args : Int))
theorem sitems_lone (x : X) (ao : Option Addr) (cap b : Nat) (hx : x.s = .slice ao x.args.length cap) (hz : X.sizes x.args ≤ 262144) (w : World) (hL : Lone x ao x.args.length cap b w) (hI : InW w w.heap.size x) :
    Calls Tryd.prog 13 #[.agg #[.slice none 0 0, .slice none 0 0, .slice none 0 0, .slice (some ⟨b + 1, 0, none⟩) 1 1]] w fun e w' => e = .returned (.int .i64 (loneN x)) ∧ Below w.heap.size w w' := by
  have hb0 : b < w.heap.size := (Array.getElem?_eq_some_iff.1 hL.1).1
  cases hn : noneH x.hd x.args.length with
  | true =>
    have hN : loneN x = 1 := by unfold loneN; rw [hn]; rfl
    rw [hN]
    exact sitems_any 1 (by omega) (by omega) b (b + 1) 55 (0, 0) w hL.2 (fun w' h => ilist_none x ao x.args.length cap hx hn b 57 (0, 0) w' (InW.up h.size _ (InW.keeps h _ hI)) hz ((h.block _ hb0).trans hL.1))
  | false =>
    have hN : loneN x = 1 + (1 + (X.sizes x.args : Int)) := by unfold loneN; rw [hn]; rfl
    rw [hN]
    exact sitems_any _ (by omega) (by omega) b (b + 1) 55 (0, 0) w hL.2 (fun w' h => ilist_some x ao x.args.length cap hx hn b 57 (0, 0) w' (InW.up h.size _ (InW.keeps h _ hI)) hz ((h.block _ hb0).trans hL.1))

/-- How the two answers stand to one another. -/
def Alike (s t : List UInt8) (r q n : Int) : Prop :=
  (r = 0 ∧ q = 0 ∧ t = [116, 104, 114, 101, 97, 100, 32, 123, 10, 32, 32, 112, 114, 105, 110, 116, 32] ++ s ++ [59, 10, 125, 10] ∧ 2 ≤ n) ∨ (r = 0 ∧ q = 3 ∧ t = [] ∧ 1024 < n) ∨ (r = 0 ∧ q = 3 ∧ t = [] ∧ ¬ 1024 < n ∧ 65506 < s.length) ∨
  (r ≠ 0 ∧ s = [] ∧ t = [] ∧ q = r) ∨ (r ≠ 0 ∧ s = [] ∧ t = [] ∧ q = 3 ∧ r ≠ 3 ∧ 1024 < n)

theorem size_args (x : X) : X.size x = 1 + X.sizes x.args := by
  obtain ⟨h, s, l⟩ := x
  exact size_mk h s l
theorem none_one {x : X} (h : noneH x.hd x.args.length = true) : X.size x = 1 := by
  obtain ⟨hd, s, l⟩ := x
  unfold noneH at h
  simp only [Bool.and_eq_true, decide_eq_true_eq] at h
  have hl : l = [] := List.length_eq_zero_iff.1 h.2
  rw [hl, size_mk, sizes_nil]
theorem loneN_some {x : X} (h : noneH x.hd x.args.length = false) : loneN x = 1 + (X.size x : Int) := by
  unfold loneN
  rw [h, size_args]
  simp

/-- Both answers. -/
theorem both (x : X) : ∃ (s t : List UInt8) (r q : Int), Alike s t r q (loneN x) ∧ s.length ≤ 65536 ∧
    (∀ w e w', Shown x w e w' → e = .returned (.tuple #[.string ⟨s.toArray⟩, .int .i64 r]) ∧ Below w.heap.size w w') ∧
    (∀ w e w', ProgOut (chk 1 1 x) (loneT x) w e w' → e = .returned (.tuple #[.string ⟨t.toArray⟩, .int .i64 q]) ∧ Below w.heap.size w w') := by
  have hnx := chk_next x 1 0
  have hlen := loneT_len x
  cases hc : chk 1 0 x with
  | ok m =>
    obtain ⟨hm, hf, -⟩ := chk_ok x _ _ _ hc
    have hN := loneN_some (fine_some hf)
    have hp := size_pos x
    obtain ⟨h1, h2⟩ := hnx.1 m hc
    by_cases hl : x.txt.length ≤ 65536
    · by_cases hm2 : m + 1 ≤ 1024
      · by_cases hl2 : x.txt.length + 21 ≤ 65536
        · exact ⟨x.txt, loneT x, 0, 0, .inl ⟨rfl, rfl, loneT_is x, by omega⟩, hl, fun w e w' h => h.1 m hc hl, fun w e w' h => by
            have := h.2 _ (h1 hm2)
            rw [if_pos (by omega)] at this
            exact this⟩
        · refine ⟨x.txt, [], 0, 3, ?_, hl, fun w e w' h => h.1 m hc hl, fun w e w' h => by
            have := h.2 _ (h1 hm2)
            rw [if_neg (by omega)] at this
            exact this⟩
          by_cases hb : 1024 < loneN x
          · exact .inr (.inl ⟨rfl, rfl, rfl, hb⟩)
          · exact .inr (.inr (.inl ⟨rfl, rfl, rfl, hb, by omega⟩))
      · exact ⟨x.txt, [], 0, 3, .inr (.inl ⟨rfl, rfl, rfl, by omega⟩), hl, fun w e w' h => h.1 m hc hl, fun w e w' h => h.1 _ (h2 (by omega))⟩
    · refine ⟨[], [], 3, 3, .inr (.inr (.inr (.inl ⟨by decide, rfl, rfl, rfl⟩))), by simp, fun w e w' h => h.2.1 m hc (by omega), fun w e w' h => ?_⟩
      by_cases hm2 : m + 1 ≤ 1024
      · have := h.2 _ (h1 hm2)
        rw [if_neg (by omega)] at this
        exact this
      · exact h.1 _ (h2 (by omega))
  | error k =>
    have hk := chk_err x 1 0 k hc
    have hk0 : k ≠ 0 := by rcases hk with rfl | rfl <;> decide
    rcases hnx.2 k hc with h1 | ⟨h1, h2⟩
    · exact ⟨[], [], k, k, .inr (.inr (.inr (.inl ⟨hk0, rfl, rfl, rfl⟩))), by simp, fun w e w' h => h.2.2 k hc, fun w e w' h => h.1 k h1⟩
    · by_cases h3 : k = 3
      · exact ⟨[], [], k, 3, .inr (.inr (.inr (.inl ⟨hk0, rfl, rfl, h3.symm⟩))), by simp, fun w e w' h => h.2.2 k hc, fun w e w' h => h.1 3 h1⟩
      · refine ⟨[], [], k, 3, .inr (.inr (.inr (.inr ⟨hk0, rfl, rfl, rfl, h3, ?_⟩))), by simp, fun w e w' h => h.2.2 k hc, fun w e w' h => h.1 3 h1⟩
        have hns : noneH x.hd x.args.length = false := by
          cases hn : noneH x.hd x.args.length with
          | false => rfl
          | true => have := none_one hn; omega
        rw [loneN_some hns]
        omega
end Go.Proofs.YtflbplljlkpeiaaDoor
