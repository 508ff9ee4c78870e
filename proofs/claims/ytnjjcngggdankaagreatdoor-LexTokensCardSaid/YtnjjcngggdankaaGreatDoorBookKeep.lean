/- A Book that is told of lists of tokens: its block, the row of what it holds, and that the lists themselves stay as they were. -/
import Derived.Test.YtnjjcngggdankaaGreatDoorRows
import Derived.Test.YtnjjcngggdankaaGreatDoorLexOwn
import Derived.Laws.Rows
import Derived.Deep.RegionHeld3
import Derived.Deep.RegionLaw
import Derived.Deep.AppendLies
import Derived.Deep.DrawnRows
import Derived.WalkKit
import Derived.WalkSpells
import Derived.WalkLawsBesides
import Derived.Lib.Hide
namespace Go.Proofs.YtnjjcngggdankaaGreatDoor
open Go.RowKit Go.Joins

/-- A Book that holds lists of tokens alone. -/
def bookArr (cnt : Int) (v : Value) : Array Value :=
  #[.int .i64 cnt, .slice none 0 0, .slice none 0 0, .slice none 0 0, .slice none 0 0, .slice none 0 0, .slice none 0 0, .slice none 0 0, .slice none 0 0, .slice none 0 0, .slice none 0 0, .slice none 0 0, v,
    .slice none 0 0, .slice none 0 0, .slice none 0 0, .slice none 0 0, .slice none 0 0, .slice none 0 0, .slice none 0 0, .slice none 0 0, .slice none 0 0, .slice none 0 0, .slice none 0 0, .slice none 0 0, .slice none 0 0, .slice none 0 0, .slice none 0 0]
def Bk (w : World) (K : Nat) (cnt : Int) (v : Value) : Prop := w.heap[K]? = some (.cells (bookArr cnt v) 55 (0, 0))

theorem Bk.cell {w : World} {K : Nat} {cnt : Int} {v : Value} (h : Bk w K cnt v) (j : Nat) : w.cell? ⟨K, j, none⟩ = (bookArr cnt v)[j]? := cell_of_row w K j _ _ (0, 0) h
theorem Bk.nil {w : World} {K : Nat} {cnt : Int} {v : Value} (h : Bk w K cnt v) (j : Nat) (hj : (bookArr cnt v)[j]? = some (.slice none 0 0)) : w.cell? ⟨K, j, none⟩ = some (.slice none 0 0) := (h.cell j).trans hj
theorem Bk.frozen {w : World} {K : Nat} {cnt : Int} {v : Value} (h : Bk w K cnt v) (j : Nat) : w.frozen? ⟨K, j, none⟩ = false := by
  unfold Bk at h
  simp [World.frozen?, h]
theorem Bk.lt {w : World} {K : Nat} {cnt : Int} {v : Value} (h : Bk w K cnt v) : K < w.heap.size := by
  rcases Nat.lt_or_ge K w.heap.size with hlt | hge
  · exact hlt
  · unfold Bk at h; rw [Array.getElem?_eq_none hge] at h; cases h
theorem Bk.kept {w w' : World} {K : Nat} {cnt : Int} {v : Value} {row : Option Nat} (h : Bk w K cnt v) (hg : w.grownBy w' row) (hne : some K ≠ row) : Bk w' K cnt v := (hg.block K h.lt hne).trans h
theorem Bk.below {w w' : World} {K : Nat} {cnt : Int} {v : Value} (h : Bk w K cnt v) (hb : Below w.heap.size w w') : Bk w' K cnt v := (hb.block K h.lt).trans h
theorem Bk.draws {w : World} {K : Nat} {cnt : Int} {v : Value} (h : Bk w K cnt v) (n : Nat) : Bk (w.drewN n) K cnt v := h
theorem Bk.row {w : World} {K : Nat} {cnt : Int} {v : Value} (h : Bk w K cnt v) (u : Value) : Bk (w.setCell ⟨K, 12, none⟩ u) K cnt u := heap_setCell_same w K 12 _ _ u h
theorem Bk.count {w : World} {K : Nat} {cnt : Int} {v : Value} (h : Bk w K cnt v) (c : Int) : Bk (w.setCell ⟨K, 0, none⟩ (.int .i64 c)) K c v := heap_setCell_same w K 0 _ _ (.int .i64 c) h

/-- Rows of unlike elements lie in unlike blocks; so do they and a Book. -/
theorem own_types {w : World} {b1 b2 s1 s2 m n : Nat} {e1 e2 : TypeId} {u v : Value} {xs ys : List Value} (h : w.ownsRow b1 e1 s1 u m xs) (h' : w.ownsRow b2 e2 s2 v n ys) (hne : e1 ≠ e2) : u.ownBlock = none ∨ u.ownBlock ≠ v.ownBlock := by
  rcases h.2 with ⟨rfl, _⟩ | ⟨g, cap, cur, rfl, _, hg, _⟩
  · exact .inl rfl
  · rcases h'.2 with ⟨rfl, _⟩ | ⟨g', cap', cur', rfl, _, hg', _⟩
    · exact .inr (by simp [Value.ownBlock])
    · refine .inr fun e => ?_
      have : g = g' := by simpa [Value.ownBlock] using e
      subst this
      rw [hg] at hg'
      injection hg' with hg'
      injection hg' with _ ht
      exact hne ht
theorem own_book {w : World} {b1 s1 m K : Nat} {e1 : TypeId} {u : Value} {xs : List Value} {cnt : Int} {v : Value} (h : w.ownsRow b1 e1 s1 u m xs) (h' : Bk w K cnt v) (hne : e1 ≠ 55) : u.ownBlock ≠ some K := by
  rcases h.2 with ⟨rfl, _⟩ | ⟨g, cap, cur, rfl, _, hg, _⟩
  · simp [Value.ownBlock]
  · intro e
    have : g = K := by simpa [Value.ownBlock] using e
    subst this
    unfold Bk at h'
    rw [hg] at h'
    injection h' with h'
    injection h' with _ ht
    exact hne ht

theorem heldInfo : (Tryz.prog.info? 80).map (fun i => (i.zero, i.size, i.bytes)) = some (some (.agg #[.slice none 0 0, .int .i64 0]), 2, 32) := by kernel_rfl
theorem two_one (v : Value) (c : Int) (hv : v.oneCell' = true) : ∀ u ∈ [v, .int .i64 c], u.oneCell' = true := by
  intro u hu
  simp at hu
  rcases hu with rfl | rfl
  · exact hv
  · rfl

/-- Behind a list's keeping: the Book holds it, and rows of tokens are as they were. -/
def Kept (B : Nat) (K n : Nat) (hs : List Value) (v : Value) (w : World) (e : Ending) (w' : World) : Prop :=
  ∃ g cap, e = .returned (.tuple #[]) ∧ Bk w' K ((n : Int) + 1) (.slice (some ⟨g, 0, none⟩) (n + 1) cap) ∧ w'.ownsRow B 80 2 (.slice (some ⟨g, 0, none⟩) (n + 1) cap) (n + 1) (hs ++ [v, .int .i64 (n : Int)]) ∧ Below B w w' ∧
    (∀ (b m : Nat) (u : Value) (xs : List Value), w.ownsRow b 63 4 u m xs → w'.ownsRow b 63 4 u m xs)

attribute [local go_sem ↓] Go.wp_at_zero Go.wp_at_succ

set_option maxRecDepth 100000 in
set_option maxHeartbeats 3200000 in
theorem keep_any (B K n : Nat) (vT : Value) (A : Option Addr) (m c : Nat) (hs : List Value) (w : World) (hn : n ≤ 100) (hK : Bk w K (n : Int) vT) (hBK : B ≤ K) (hB : B ≤ w.heap.size) (ho : w.ownsRow B 80 2 vT n hs) :
    Calls Tryz.prog 15 #[.pointer (some ⟨K, 0, none⟩), .slice A m c] w (Kept B K n hs (.slice A m c) w) := by
  obtain ⟨i0, hi, hz0, hz1, hz2⟩ := info_parts heldInfo
  have k0 : w.cell? ⟨K, 0, none⟩ = some (.int .i64 (n : Int)) := hK.cell 0
  have k12 : w.cell? ⟨K, 12, none⟩ = some vT := hK.cell 12
  have f12 : w.frozen? ⟨K, 12, none⟩ = false := hK.frozen 12
  have hlK := hK.lt
  have hneK := own_book ho hK (by decide)
  have hneK' : some K ≠ vT.ownBlock := fun e => hneK e.symm
  go_enter Tryz.func15, Tryz.ntmps15
  go_wp2_with fail
  have far : ∀ (w1 : World) (row : Option Nat) (o : Obj), row = vT.ownBlock → ((w.alloc o).drew).grownBy w1 row → Bk w1 K (n : Int) vT := fun w1 row o e hg => by
    subst e
    have h0 : Bk (w.alloc o) K (n : Int) vT := hK.kept (World.grownBy_alloc w o none) (by simp)
    have h1 : Bk (w.alloc o).drew K (n : Int) vT := h0
    exact h1.kept hg hneK'
  go_region_law (first
    | (refine step_append_lies _ (by rfl) _ _ _ (by rfl) B 80 i0 _ 2 32 Tryz.underlying38 hi hz0 hz1 hz2 rfl (by omega) vT n hs (by rfl) ((ho.alloc _).drew) ⟨w.heap.size, 0, none⟩ 1 1 [.slice A m c, .int .i64 (n : Int)] (by rfl) (by rfl) (World.news_of_block (cs := #[.slice A m c, .int .i64 (n : Int)]) (t := 80) (fr := (0, 0)) (heap_alloc_new w _)) (two_one _ _ rfl) (by omega) (by unfold maxLen; omega) (by omega) (by simp; omega) (w.heap.size + 1) (by simp) ?_
       intro gg cap w1 hown1 hgrow hat hlt
       have hbk := far w1 _ _ rfl hgrow
       have q12 : w1.cell? ⟨K, 12, none⟩ = some vT := hbk.cell 12
       have qf12 := hbk.frozen 12))
  all_goals
    have q0 : w1.cell? ⟨K, 0, none⟩ = some (.int .i64 (n : Int)) := hbk.cell 0
    have qf0 := hbk.frozen 0
    have hbk2 := hbk.row (.slice (some ⟨gg, 0, none⟩) (n + 1) cap)
    have hbk3 := hbk2.count ((n : Int) + 1)
    have hneH := own_book hown1 hbk (by decide)
    have ho3 := own_cell (own_cell hown1 ⟨K, 12, none⟩ hneH (.slice (some ⟨gg, 0, none⟩) (n + 1) cap)) ⟨K, 0, none⟩ hneH (.int .i64 ((n : Int) + 1))
    have hrows : ∀ (b m' : Nat) (u : Value) (xs : List Value), w.ownsRow b 63 4 u m' xs → ((w1.setCell ⟨K, 12, none⟩ (.slice (some ⟨gg, 0, none⟩) (n + 1) cap)).setCell ⟨K, 0, none⟩ (.int .i64 ((n : Int) + 1))).ownsRow b 63 4 u m' xs := fun b m' u xs hu => by
      have hu1 := ((hu.alloc (.cells #[.slice A m c, .int .i64 (n : Int)] 80)).drew).kept hgrow (own_types hu ho (by decide))
      have hneU := own_book hu1 hbk (by decide)
      exact own_cell (own_cell hu1 ⟨K, 12, none⟩ hneU _) ⟨K, 0, none⟩ hneU _
    have hbl : Below B w w1 := ((((Below.refl B w).alloc hB (.cells #[.slice A m c, .int .i64 (n : Int)] 80)).drew).grown hgrow (by simp; omega) fun k e => (ho.lt k e).1)
    have hbl3 := (hbl.setCell (p := ⟨K, 12, none⟩) hBK (.slice (some ⟨gg, 0, none⟩) (n + 1) cap)).setCell (p := ⟨K, 0, none⟩) hBK (.int .i64 ((n : Int) + 1))
    have HA := Lib.hid hbk3
    have HB := Lib.hid ho3
    have HC := Lib.hid hrows
    have HD := Lib.hid hbl3
    clear hbk2 hbk3 ho3 hrows hbl hbl3 hown1 hgrow hbk hneH
    go_wp2_with fail
    go_end0
    exact ⟨gg, cap, rfl, HA.out, HB.out, HD.out, HC.out⟩
end Go.Proofs.YtnjjcngggdankaaGreatDoor
