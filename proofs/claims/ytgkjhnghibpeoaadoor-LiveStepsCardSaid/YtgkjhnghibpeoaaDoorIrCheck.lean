/- What is wrong first with one thread's graph. -/
import Derived.Test.YtgkjhnghibpeoaaDoorRows
import Derived.Test.YtgkjhnghibpeoaaDoorIrBegins
import Derived.Test.YtgkjhnghibpeoaaDoorFlSize
import Derived.Test.YtgkjhnghibpeoaaDoorIrBoth
import Derived.Test.YtgkjhnghibpeoaaDoorIrNew
import Derived.Test.YtgkjhnghibpeoaaDoorIrLeaf
import Derived.LoopTactic
import Derived.LoopN
import Derived.Deep.LoopGhost
import Derived.WalkKit
import Derived.WalkSpells
import Derived.WalkLawsBesides
import Derived.Lib.Hide
import Derived.Laws.ResultCell
import Derived.Test.YtgkjhnghibpeoaaDoorParseOrder
import Derived.Test.YtgkjhnghibpeoaaDoorIrFit7
import Derived.OrdersHeld
import Derived.Deep.RegionHeld
import Derived.Deep.DrawnRows
import Derived.RegionTactic
import Derived.Deep.RegionHeld3
namespace Go.Proofs.YtgkjhnghibpeoaaDoor
open Go.RowKit
set_option maxRecDepth 100000
attribute [local go_sem ↓] bld_eq bls_eq

theorem inB_of {n a b : Int} (h : inB n a b = true) : a ≤ n ∧ n ≤ b := by
  unfold inB at h
  simpa using h
theorem blkB_of {n : Nat} {k : Int} (h : blkB n k = true) : 0 ≤ k ∧ k < (n : Int) := by
  unfold blkB at h
  simpa using h
theorem leads_in {R : List Bool} {n : Nat} {b : Bk} (h : leadsB R n b = true) : ∀ y ∈ nextL b, 0 ≤ y ∧ y < (n : Int) := by
  intro y hy
  unfold leadsB at h
  unfold nextL at hy
  split at hy
  · rename_i h1
    rw [if_pos h1] at h
    rw [List.mem_singleton.1 hy]
    exact blkB_of h
  · rename_i h1
    rw [if_neg h1] at h
    split at hy
    · rename_i h2
      rw [if_pos h2] at h
      simp only [Bool.and_eq_true] at h
      rcases List.mem_cons.1 hy with rfl | hy
      · exact blkB_of h.2.1
      · rw [List.mem_singleton.1 hy]; exact blkB_of h.2.2
    · cases hy
theorem firstB_none {R : List Bool} {W : Int} {nb : Nat} : ∀ (l : List Bk) (n : Nat) (M : List Bool), firstB R W nb n M l = none → ∀ b ∈ l, lastB R nb b = true := by
  intro l
  induction l with
  | nil => intro n M _ b hb; cases hb
  | cons a l ih =>
    intro n M h b hb
    rw [firstB] at h
    split at h
    · cases h
    · split at h
      · rename_i hl
        rcases List.mem_cons.1 hb with rfl | hb
        · exact hl
        · exact ih _ _ h b hb
      · cases h
theorem leads_of {R : List Bool} {n : Nat} {b : Bk} (h : lastB R n b = true) : leadsB R n b = true := by
  unfold lastB at h
  simp only [Bool.and_eq_true] at h
  exact h.2.2
theorem sizes_ok {g : Gr} (h : sizesE g = 0) : (0 ≤ g.sites ∧ g.sites ≤ 8192) ∧ 1 ≤ g.blocks.length ∧ g.blocks.length ≤ 4096 := by
  unfold sizesE at h
  split at h
  · cases h
  · split at h
    · cases h
    · split at h
      · cases h
      · omega
/-- What checkGraph answers. -/
def cgV (r : (Nat × Nat) × Int) : Value := .tuple #[.agg #[.int .i64 (r.1.1 : Int), .int .i64 (r.1.2 : Int)], .int .i64 r.2]
set_option maxHeartbeats 32000000 in
theorem checkGraph_any (B : Nat) (g : Gr) (W : Int) (w : World) (hI : GIn w B g) (hBw : B ≤ w.heap.size) (hW : -9223372036854775808 ≤ W ∧ W ≤ 9223372036854775807) :
    Calls Tryd.prog 46 #[.agg #[g.rv, .int .i64 g.sites, g.bv], .int .i64 W] w fun e w' => e = .returned (cgV (checkG W g)) ∧ Below w.heap.size w w' := by
  obtain ⟨Y, hY⟩ : ∃ Y, Y = checkG W g := ⟨_, rfl⟩
  rw [← hY]
  unfold checkG sidesT at hY
  obtain ⟨ro, rc, er, -, -⟩ := hI.rlies.form
  obtain ⟨bo, bcp, eb, -, -⟩ := hI.blies.form
  have hI2 := fun (u : World) (hu : Below w.heap.size w u) => hI.keeps (hu.mono hBw)
  have hB2 := fun (u : World) (hu : Below w.heap.size w u) => Nat.le_trans hBw hu.size
  have C1 := Lib.hid (fun (u : World) (hu : Below w.heap.size w u) => checkSizes_any B g u (hI2 u hu) (hB2 u hu))
  have C2 := Lib.hid (fun (u : World) (hu : Below w.heap.size w u) (hs : 0 ≤ g.sites ∧ g.sites ≤ 8192) => newck_any B g W u (hI2 u hu) (hB2 u hu) hs hW)
  have C3 := Lib.hid (fun (c m : Nat) (M : List Bool) (u : World) (hu : CkAt u B c m g W M) => firstWrong_any B c m g W M u hu)
  have C4 := Lib.hid (fun (u : World) (hu : Below w.heap.size w u) (h1 : 1 ≤ g.blocks.length ∧ g.blocks.length ≤ 4096) (h2 : ∀ b ∈ g.blocks, ∀ y ∈ nextL b, 0 ≤ y ∧ y < (g.blocks.length : Int)) => begins_any B g u (hI2 u hu) (hB2 u hu) h1 h2)
  have C6 := Lib.hid (fun (gb n : Nat) (l : List Nat) (T : TypeId) (fr : Nat × Nat) (u : World) (hu : Below w.heap.size w u) => firstMisplaced_any B g u gb n l T fr (hI2 u hu) (hB2 u hu))
  clear hI hI2 hB2
  obtain ⟨W0, hW0⟩ : ∃ W0, W0 = (w.alloc (.cells #[g.rv, .int .i64 g.sites, g.bv] 25)).alloc (.cells #[.int .i64 0, .int .i64 0] 41) := ⟨_, rfl⟩
  have hz0 : W0.heap.size = w.heap.size + 2 := by rw [hW0]; simp
  have z1 : (w.alloc (.cells #[g.rv, .int .i64 g.sites, g.bv] 25)).heap.size = w.heap.size + 1 := by simp
  have hB0 : Below w.heap.size w W0 := by rw [hW0]; exact (below_box w _).alloc (by omega) _
  have hG0 : W0.heap[w.heap.size]? = some (.cells #[g.rv, .int .i64 g.sites, g.bv] 25 (0, 0)) := by rw [hW0, Below.heap_alloc _ _ _ (by omega)]; exact (MapKept.heap_alloc _ _).1
  have hS0 : W0.heap[w.heap.size + 1]? = some (.cells #[.int .i64 0, .int .i64 0] 41 (0, 0)) := by rw [hW0, ← z1]; exact (MapKept.heap_alloc _ _).1
  have HGQ := Lib.hid (fun (u : World) (hu : Below W0.heap.size W0 u) => own3 ((hu.block w.heap.size (by omega)).trans hG0))
  have HSQ := Lib.hid (fun (u : World) (hu : Below W0.heap.size W0 u) => (hu.block (w.heap.size + 1) (by omega)).trans hS0)
  have HBW := Lib.hid (fun (u : World) (hu : Below W0.heap.size W0 u) => hB0.trans (hu.mono (show w.heap.size ≤ W0.heap.size by omega)))
  obtain ⟨q0, q1, q2⟩ := own3 hG0
  rw [hW0] at q0 q1 q2
  have HW0 := Lib.hid hW0
  obtain ⟨E, hE⟩ : ∃ E, E = sizesE g := ⟨_, rfl⟩
  have hsz := fun (h : E = 0) => sizes_ok (hE.symm.trans h)
  have HSZ := Lib.hid hsz
  rw [← hE] at C1 hY
  obtain ⟨Z, hZ⟩ : ∃ Z, Z = firstB g.refs W g.blocks.length 0 (List.replicate g.sites.toNat false) g.blocks := ⟨_, rfl⟩
  have HZN := Lib.hid (fun (h : Z = none) (b : Bk) (hb : b ∈ g.blocks) => leads_in (leads_of (firstB_none _ _ _ (hZ.symm.trans h) b hb)))
  rw [← hZ] at hY
  have HZ := Lib.hid hZ
  have HYY := Lib.hid hY
  have HC1 := Lib.hid (C1.out W0 hB0)
  have HER := Lib.hid er
  have HEB := Lib.hid eb
  have e1 := bld_of 41 #[] #[.int .i64 0, .int .i64 0] (by kernel_rfl)
  simp only [er, eb] at q0 q1 q2 HW0 HGQ HC1 C2 C4 C6 ⊢
  clear hW0 hz0 z1 hB0 hG0 hS0 hE hsz hZ hY C1 er eb
  go_enter Tryd.func46, Tryd.ntmps46
  go_wp2_with fail
  rw [← HW0.out]
  clear q0 q1 q2
  refine HC1.out.mono ?_; rintro e u1 ⟨rfl, hb1⟩
  have HU := Lib.hid hb1
  obtain ⟨q0, q1, q2⟩ := HGQ.out u1 hb1
  have hso := HSQ.out u1 hb1
  have HSO := Lib.hid hso
  have f0 := Lib.frozen_of_heap hso 0
  have f1 := Lib.frozen_of_heap hso 1
  obtain ⟨s0, s1⟩ := own2 hso
  have hwu : w.heap.size + 1 < u1.heap.size := (Array.getElem?_eq_some_iff.1 hso).1
  have hwv : w.heap.size < u1.heap.size := by omega
  clear hso
  clear hb1
  by_cases hE0 : E = 0
  · subst hE0
    have hY2 := HYY.out
    rw [if_pos rfl] at hY2
    have HY2 := Lib.hid hY2
    clear hY2 f0 f1 s0 s1
    go_wp2_with fail
    refine (C2.out u1 (HBW.out u1 HU.out) (HSZ.out (by trivial)).1).mono ?_; rintro e u2 ⟨c, m, rfl, hck, hb2, hc2, hm2⟩
    have HB2 := Lib.hid hb2
    have HCK := Lib.hid hck
    clear hck hb2 q0 q1 q2 hc2 hwu
    go_wp2_with fail
    refine (C3.out c m _ u2 HCK.out).mono ?_; rintro e u3 ⟨rfl, ha3⟩
    have hb3 := HB2.out.trans (ha3.below HB2.out.size hm2)
    have HU1 := HU
    have hu3 := HU1.out.trans (hb3.mono HU1.out.size)
    clear HU HSO
    have HU := Lib.hid hu3
    obtain ⟨q0, q1, q2⟩ := HGQ.out u3 hu3
    have hso := HSQ.out u3 hu3
    have HSO := Lib.hid hso
    have f0 := Lib.frozen_of_heap hso 0
    have f1 := Lib.frozen_of_heap hso 1
    obtain ⟨s0, s1⟩ := own2 hso
    have hwu : w.heap.size + 1 < u3.heap.size := (Array.getElem?_eq_some_iff.1 hso).1
    have hwv : w.heap.size < u3.heap.size := by omega
    clear hso
    clear hu3 ha3 hb3
    rw [← HZ.out]
    cases Z with
    | some nk =>
      obtain ⟨a, k⟩ := nk
      have HYF := Lib.hid (show Y = ((a, k), 14) from HY2.out)
      simp only [spotV]
      obtain ⟨y0, y1⟩ := own2 (MapKept.heap_alloc u3 (.cells #[.int .i64 (a : Int), .int .i64 (k : Int)] 41)).1
      go_wp2_with fail
      refine bodyPost_ret (v := .tuple #[.agg #[.int .i64 (a : Int), .int .i64 (k : Int)], .int .i64 14]) (results_spot (p := 4) (u := 5) rfl _ _ (w.heap.size + 1) _ _ _ rfl rfl ((Below.heap_alloc _ _ _ (by simp [World.setCell]; omega)).trans (put2 HSO.out _ _))) rfl ?_
      exact ⟨by rw [HYF.out]; rfl, (((HBW.out _ HU.out).setCell (by show w.heap.size ≤ w.heap.size + 1; omega) _).setCell (by show w.heap.size ≤ w.heap.size + 1; omega) _).alloc (by simp [World.setCell]; omega) _⟩
    | none =>
      have HYF := Lib.hid (show Y = (match bothT 0 (beginsT g.blocks) with | some n => ((n, 0), 14) | none => match misB (beginsT g.blocks) 0 g.blocks with | some at' => (at', 14) | none => ((0, 0), 0)) from HY2.out)
      have HOK := Lib.hid (HZN.out (by trivial))
      clear f0 f1 s0 s1 HSO
      have hB4 : Below u3.heap.size u3 (u3.alloc (.cells #[.int .i64 0, .int .i64 0] 41)) := below_box u3 _
      obtain ⟨u4, hu4⟩ : ∃ u4, u4 = u3.alloc (.cells #[.int .i64 0, .int .i64 0] 41) := ⟨_, rfl⟩
      rw [← hu4] at hB4
      have hU4 := HU.out.trans (hB4.mono HU.out.size)
      have HC4 := Lib.hid (C4.out u4 (HBW.out u4 hU4) (HSZ.out (by trivial)).2 HOK.out)
      have HU4 := Lib.hid hU4
      have HW4 := Lib.hid hu4
      clear hB4 hu4 hU4
      simp only [spotV]
      go_wp2_with fail
      rw [← HW4.out]
      refine HC4.out.mono ?_; rintro e u5 ⟨gs, rfl, hgs, hsd, hsl, hs3, hb5⟩
      have hHU5 := HU4.out.trans (hb5.mono HU4.out.size)
      clear HU
      have HU := Lib.hid hHU5
      obtain ⟨q0, q1, q2⟩ := HGQ.out u5 hHU5
      have hso := HSQ.out u5 hHU5
      have HSO := Lib.hid hso
      have f0 := Lib.frozen_of_heap hso 0
      have f1 := Lib.frozen_of_heap hso 1
      obtain ⟨s0, s1⟩ := own2 hso
      have hwu : w.heap.size + 1 < u5.heap.size := (Array.getElem?_eq_some_iff.1 hso).1
      have hwv : w.heap.size < u5.heap.size := by omega
      clear hso
      have hgs5 : gs < u5.heap.size := (Array.getElem?_eq_some_iff.1 hsd).1
      have HSD := Lib.hid hsd
      have HSL := Lib.hid hsl
      have HS3 := Lib.hid hs3
      have hn42 := (HSZ.out (by trivial)).2.2
      have HC5 := Lib.hid (firstOnBoth_any gs g.blocks.length (beginsT g.blocks) _ _ u5 hsd hsl.symm hn42)
      have HC6 := Lib.hid (fun (u : World) (hu : Below w.heap.size w u) (hl : u.heap[gs]? = some (.cells (sidesA (beginsT g.blocks)) 106 (0, 0))) => C6.out gs g.blocks.length (beginsT g.blocks) _ _ u hu hl hsl.symm hsl hs3 hn42)
      obtain ⟨bt, hbt⟩ : ∃ bt, bt = beginsT g.blocks := ⟨_, rfl⟩
      clear hsd hsl hs3 hHU5 hb5 f0 f1 s0 s1 hbt bt
      go_wp2_with fail
      refine HC5.out.mono ?_; rintro e u6 ⟨rfl, hb6⟩
      have hU6 := HU.out.trans (hb6.mono HU.out.size)
      have HSD6 := Lib.hid ((hb6.block gs hgs5).trans HSD.out)
      clear HU HSO q0 q1 q2
      have HU := Lib.hid hU6
      obtain ⟨q0, q1, q2⟩ := HGQ.out u6 hU6
      have hso := HSQ.out u6 hU6
      have HSO := Lib.hid hso
      have f0 := Lib.frozen_of_heap hso 0
      have f1 := Lib.frozen_of_heap hso 1
      obtain ⟨s0, s1⟩ := own2 hso
      have hwu : w.heap.size + 1 < u6.heap.size := (Array.getElem?_eq_some_iff.1 hso).1
      have hwv : w.heap.size < u6.heap.size := by omega
      clear hso
      clear hU6 hb6
      cases hbo : bothT 0 (beginsT g.blocks) with
      | some a =>
        have HYG := Lib.hid (show Y = ((a, 0), 14) by rw [HYF.out, hbo])
        clear hbo
        simp only [spotV, Option.map_some]
        obtain ⟨y0, y1⟩ := own2 (MapKept.heap_alloc u6 (.cells #[.int .i64 (a : Int), .int .i64 ((0 : Nat) : Int)] 41)).1
        go_wp2_with fail
        refine bodyPost_ret (v := .tuple #[.agg #[.int .i64 (a : Int), .int .i64 0], .int .i64 14]) (results_spot (p := 4) (u := 5) rfl _ _ (w.heap.size + 1) _ _ _ rfl rfl ((Below.heap_alloc _ _ _ (by simp [World.setCell]; omega)).trans (put2 HSO.out _ _))) rfl ?_
        exact ⟨by rw [HYG.out]; rfl, (((HBW.out _ HU.out).setCell (by show w.heap.size ≤ w.heap.size + 1; omega) _).setCell (by show w.heap.size ≤ w.heap.size + 1; omega) _).alloc (by simp [World.setCell]; omega) _⟩
      | none =>
        have HYG := Lib.hid (show Y = (match misB (beginsT g.blocks) 0 g.blocks with | some at' => (at', 14) | none => ((0, 0), 0)) by rw [HYF.out, hbo])
        clear hbo f0 f1 s0 s1 HSO
        simp only [spotV, Option.map_none]
        have hB7 : Below u6.heap.size u6 (u6.alloc (.cells #[.int .i64 0, .int .i64 0] 41)) := below_box u6 _
        obtain ⟨u7, hu7⟩ : ∃ u7, u7 = u6.alloc (.cells #[.int .i64 0, .int .i64 0] 41) := ⟨_, rfl⟩
        rw [← hu7] at hB7
        have hU7 := HU.out.trans (hB7.mono HU.out.size)
        have hgs6 : gs < u6.heap.size := (Array.getElem?_eq_some_iff.1 HSD6.out).1
        have HC7 := Lib.hid (HC6.out u7 (HBW.out u7 hU7) ((hB7.block gs hgs6).trans HSD6.out))
        have HU7 := Lib.hid hU7
        have HW7 := Lib.hid hu7
        clear hB7 hu7 hU7
        go_wp2_with fail
        rw [← HW7.out]
        refine HC7.out.mono ?_; rintro e u8 ⟨rfl, hb8⟩
        have hU8 := HU7.out.trans (hb8.mono HU7.out.size)
        clear HU q0 q1 q2
        have HU := Lib.hid hU8
        have hso := HSQ.out u8 hU8
        have HSO := Lib.hid hso
        have f0 := Lib.frozen_of_heap hso 0
        have f1 := Lib.frozen_of_heap hso 1
        obtain ⟨s0, s1⟩ := own2 hso
        have hwu : w.heap.size + 1 < u8.heap.size := (Array.getElem?_eq_some_iff.1 hso).1
        have hwv : w.heap.size < u8.heap.size := by omega
        clear hso
        clear hU8 hb8
        cases hmi : misB (beginsT g.blocks) 0 g.blocks with
        | some nk =>
          obtain ⟨a, k⟩ := nk
          have HYH := Lib.hid (show Y = ((a, k), 14) by rw [HYG.out, hmi])
          clear hmi
          simp only [spotV]
          obtain ⟨y0, y1⟩ := own2 (MapKept.heap_alloc u8 (.cells #[.int .i64 (a : Int), .int .i64 (k : Int)] 41)).1
          go_wp2_with fail
          refine bodyPost_ret (v := .tuple #[.agg #[.int .i64 (a : Int), .int .i64 (k : Int)], .int .i64 14]) (results_spot (p := 4) (u := 5) rfl _ _ (w.heap.size + 1) _ _ _ rfl rfl ((Below.heap_alloc _ _ _ (by simp [World.setCell]; omega)).trans (put2 HSO.out _ _))) rfl ?_
          exact ⟨by rw [HYH.out]; rfl, (((HBW.out _ HU.out).setCell (by show w.heap.size ≤ w.heap.size + 1; omega) _).setCell (by show w.heap.size ≤ w.heap.size + 1; omega) _).alloc (by simp [World.setCell]; omega) _⟩
        | none =>
          have HYH := Lib.hid (show Y = ((0, 0), 0) by rw [HYG.out, hmi])
          clear hmi
          simp only [spotV]
          go_wp2_with fail
          refine bodyPost_ret (v := .tuple #[.agg #[.int .i64 0, .int .i64 0], .int .i64 0]) (results_spot (p := 4) (u := 5) rfl _ _ (w.heap.size + 1) _ _ _ rfl rfl ((Below.heap_alloc _ _ _ (by simp [World.setCell]; omega)).trans (put2 HSO.out _ _))) rfl ?_
          exact ⟨by rw [HYH.out]; rfl, (((HBW.out _ HU.out).setCell (by show w.heap.size ≤ w.heap.size + 1; omega) _).setCell (by show w.heap.size ≤ w.heap.size + 1; omega) _).alloc (by simp [World.setCell]; omega) _⟩
  · have hY2 := HYY.out
    rw [if_neg hE0] at hY2
    have HYF := Lib.hid (show Y = ((0, 0), E) from hY2)
    have hE1 : (E == 0) = false := by simp only [beq_eq_false_iff_ne, ne_eq]; exact hE0
    clear hE0 hY2
    go_wp2_with fail
    refine bodyPost_ret (v := .tuple #[.agg #[.int .i64 0, .int .i64 0], .int .i64 E]) (results_spot (p := 4) (u := 5) rfl _ _ (w.heap.size + 1) _ _ _ rfl rfl (put2 HSO.out _ _)) rfl ?_
    exact ⟨by rw [HYF.out]; rfl, ((HBW.out _ HU.out).setCell (by show w.heap.size ≤ w.heap.size + 1; omega) _).setCell (by show w.heap.size ≤ w.heap.size + 1; omega) _⟩
end Go.Proofs.YtgkjhnghibpeoaaDoor
namespace Go.Proofs.YtgkjhnghibpeoaaDoor
open Go.RowKit
set_option maxRecDepth 100000
attribute [local go_sem ↓] bld_eq bls_eq

/-- What Check answers. -/
def ckV (r : Nat × (Nat × Nat) × Int) : Value := .tuple #[.int .i64 (r.1 : Int), .agg #[.int .i64 (r.2.1.1 : Int), .int .i64 (r.2.1.2 : Int)], .int .i64 r.2.2]
theorem results_ck {fn : Func} {t p u : Tmp} (h : fn.results = #[.tmp t, .cell p 41, .tmp u]) (tmps : Array Value) (w : World) (g : Nat) (a b x y : Value) (ht : tmps.getD t undef = y) (hp : tmps.getD p undef = .pointer (some ⟨g, 0, none⟩)) (hu : tmps.getD u undef = x) (hr : w.heap[g]? = some (.cells #[a, b] 41 (0, 0))) :
    (results fn tmps).run Tryd.prog w = .ok (.tuple #[y, .agg #[a, b], x]) w := by
  have h2 := run_loadVar_row (P := Tryd.prog) w g 41 41 #[a, b] (0, 0) ((Tryd.prog.underlying 41).getD (.array 0 0)) hr (by kernel_rfl) (by kernel_rfl) (by kernel_rfl)
  have h3 : (results fn tmps).run Tryd.prog w = ((asAddr (tmps.getD p undef)).run Tryd.prog w).andThen fun a w₁ => ((loadVar 41 a).run Tryd.prog w₁).andThen fun v w₂ => .ok (.tuple #[tmps.getD t undef, v, tmps.getD u undef]) w₂ := by
    simp only [results, h]
    simp [Sem.run_bind, Result.andThen]
  rw [h3, hp, ht, hu]
  show ((loadVar 41 ⟨g, 0, none⟩).run Tryd.prog w).andThen _ = _
  rw [h2]
  rfl
theorem checkL_cons (W : Int) (n : Nat) (g : Gr) (l : List Gr) (a k : Nat) (e : Int) (h : checkG W g = ((a, k), e)) : checkL W n (g :: l) = if e = 0 then checkL W (n + 1) l else (n, (a, k), e) := by
  rw [checkL, h]
set_option maxHeartbeats 32000000 in
theorem check_any (B : Nat) (c : Cd) (w : World) (hI : CIn w B c) (hBw : B ≤ w.heap.size) :
    Calls Tryd.prog 43 #[.agg #[.int .i64 c.words, c.tv]] w fun e w' => e = .returned (ckV (checkC c.words c.threads)) ∧ Below w.heap.size w w' := by
  obtain ⟨Y, hY⟩ : ∃ Y, Y = checkC c.words c.threads := ⟨_, rfl⟩
  rw [← hY]
  unfold checkC at hY
  have hW := hI.words
  obtain ⟨bo, bcp, eb, hbl, hbg⟩ := hI.tlies.form
  have hr4 := hI.tlies.room
  have HTL := Lib.hid hI.tlies
  have HTI := Lib.hid hI.threads
  clear hI
  obtain ⟨W, tv, threads⟩ := c
  simp only at *
  subst eb
  obtain ⟨N, hN⟩ : ∃ N, N = threads.length := ⟨_, rfl⟩
  rw [← hN] at hY hbl hbg HTL hr4
  rw [← hN]
  obtain ⟨W0, hW0⟩ : ∃ W0, W0 = (w.alloc (.cells #[.int .i64 W, .slice bo N bcp] 87)).alloc (.cells #[.int .i64 0, .int .i64 0] 41) := ⟨_, rfl⟩
  have hz0 : W0.heap.size = w.heap.size + 2 := by rw [hW0]; simp
  have z1 : (w.alloc (.cells #[.int .i64 W, .slice bo N bcp] 87)).heap.size = w.heap.size + 1 := by simp
  have hB0 : Below w.heap.size w W0 := by rw [hW0]; exact (below_box w _).alloc (by omega) _
  have hG0 : W0.heap[w.heap.size]? = some (.cells #[.int .i64 W, .slice bo N bcp] 87 (0, 0)) := by rw [hW0, Below.heap_alloc _ _ _ (by omega)]; exact (MapKept.heap_alloc _ _).1
  have hS0 : W0.heap[w.heap.size + 1]? = some (.cells #[.int .i64 0, .int .i64 0] 41 (0, 0)) := by rw [hW0, ← z1]; exact (MapKept.heap_alloc _ _).1
  have HSQ := Lib.hid (fun (u : World) (hu : Below W0.heap.size W0 u) => (hu.block (w.heap.size + 1) (by omega)).trans hS0)
  have HGQ := Lib.hid (fun (u : World) (hu : Below W0.heap.size W0 u) => own2 ((hu.block w.heap.size (by omega)).trans hG0))
  have HBW := Lib.hid (fun (u : World) (hu : Below W0.heap.size W0 u) => hB0.trans (hu.mono (show w.heap.size ≤ W0.heap.size by omega)))
  have HC := Lib.hid (fun (g : Gr) (hg : g ∈ threads) (u : World) (hu : Below w.heap.size w u) => checkGraph_any B g W u ((HTI.out g hg).keeps (hu.mono hBw)) (Nat.le_trans hBw hu.size) hW)
  obtain ⟨q0, q1⟩ := own2 hG0
  have hso := HSQ.out W0 (Below.refl _ _)
  have HSO := Lib.hid hso
  have f0 := Lib.frozen_of_heap hso 0
  have f1 := Lib.frozen_of_heap hso 1
  obtain ⟨s0, s1⟩ := own2 hso
  have hB00 := Lib.hid hB0
  have e1 := bld_of 41 #[] #[.int .i64 0, .int .i64 0] (by kernel_rfl)
  have HN := Lib.hid hN
  have HG2 := Lib.hid hbg
  have HZ0 := Lib.hid hz0
  have hz : w.heap.size + 1 < W0.heap.size := by omega
  have hz' : w.heap.size < W0.heap.size := by omega
  have HW0 := Lib.hid hW0
  rw [hW0] at q0 q1 f0 f1 s0 s1
  clear hN hbg hB0 hG0 hS0 hso z1 hW0 hz0
  by_cases a1 : 65536 < W
  · rw [if_pos (.inl a1)] at hY
    have HYF := Lib.hid hY
    clear hY
    go_enter Tryd.func43, Tryd.ntmps43
    go_wp2_with fail
    try rw [← HW0.out]
    refine bodyPost_ret (v := .tuple #[.int .i64 0, .agg #[.int .i64 0, .int .i64 0], .int .i64 3]) (results_ck (t := 2) (p := 3) (u := 4) rfl _ _ (w.heap.size + 1) _ _ _ _ rfl rfl rfl HSO.out) rfl ?_
    exact ⟨by rw [HYF.out]; rfl, hB00.out⟩
  by_cases a2 : 4 < N
  · rw [if_pos (.inr a2)] at hY
    have HYF := Lib.hid hY
    clear hY
    go_enter Tryd.func43, Tryd.ntmps43
    go_wp2_with fail
    try rw [← HW0.out]
    refine bodyPost_ret (v := .tuple #[.int .i64 0, .agg #[.int .i64 0, .int .i64 0], .int .i64 3]) (results_ck (t := 2) (p := 3) (u := 4) rfl _ _ (w.heap.size + 1) _ _ _ _ rfl rfl rfl HSO.out) rfl ?_
    exact ⟨by rw [HYF.out]; rfl, hB00.out⟩
  rw [if_neg (by omega)] at hY
  by_cases a3 : W < 0
  · rw [if_pos a3] at hY
    have HYF := Lib.hid hY
    clear hY
    go_enter Tryd.func43, Tryd.ntmps43
    go_wp2_with fail
    try rw [← HW0.out]
    refine bodyPost_ret (v := .tuple #[.int .i64 0, .agg #[.int .i64 0, .int .i64 0], .int .i64 14]) (results_ck (t := 2) (p := 3) (u := 4) rfl _ _ (w.heap.size + 1) _ _ _ _ rfl rfl rfl HSO.out) rfl ?_
    exact ⟨by rw [HYF.out]; rfl, hB00.out⟩
  rw [if_neg a3] at hY
  have HY := Lib.hid hY
  clear hY s0 s1 f0 f1
  go_enter Tryd.func43, Tryd.ntmps43
  go_wp2_with fail
  rw [← HW0.out]
  clear q0 q1
  go_loopw [28] (fun q wr => ∃ p : Nat, p ≤ N ∧ q = .int .i64 p ∧ Below W0.heap.size W0 wr ∧ Hid (Y = checkL W p (threads.drop p))) (fun q _ => N - (intOf q).toNat)
  case atStart => exact ⟨0, Nat.zero_le _, rfl, Below.refl _ _, HY⟩
  case round =>
    obtain ⟨p, hp, rfl, hB, hD⟩ := hrel
    rename World => U
    have hzU := hB.size
    have hso := HSQ.out U hB
    obtain ⟨q0, q1⟩ := HGQ.out U hB
    have hd := hD.out
    by_cases hlt : p < N
    · have hpx : p < threads.length := by rw [← HN.out]; exact hlt
      obtain ⟨g0, off, rfl, hg0⟩ := HG2.out (by omega)
      have hat := ((HTL.out.below ((HBW.out U hB).mono hBw)).at rfl p hpx).2
      have hmem := List.getElem_mem hpx
      rw [List.drop_eq_getElem_cons hpx] at hd
      generalize threads[p] = g at hat hmem hd
      have hgi := (HTI.out g hmem).keeps ((HBW.out U hB).mono hBw)
      obtain ⟨p0, p1, p2⟩ := gc3 hat
      obtain ⟨U1, hU1⟩ : ∃ U1, U1 = U.alloc (.cells #[g.rv, .int .i64 g.sites, g.bv] 25) := ⟨_, rfl⟩
      have hBU : Below U.heap.size U U1 := by rw [hU1]; exact below_box U _
      have hC := HC.out g hmem U1 ((HBW.out U hB).trans (hBU.mono (by omega)))
      obtain ⟨y0, y1, y2⟩ := own3 (MapKept.heap_alloc U (.cells #[g.rv, .int .i64 g.sites, g.bv] 25)).1
      obtain ⟨⟨⟨a, k⟩, er⟩, hr⟩ : ∃ r, checkG W g = r := ⟨_, rfl⟩
      rw [checkL_cons W p g _ a k er hr] at hd
      rw [hr] at hC
      obtain ⟨ro, rc, e2, -, -⟩ := hgi.rlies.form
      obtain ⟨bo2, bcp2, e3, -, -⟩ := hgi.blies.form
      have HU1 := Lib.hid hU1
      rw [e2, e3] at HU1 hC
      rw [e2] at p0
      rw [e3] at p2
      rw [e2, e3] at y0 y1 y2
      have HC1 := Lib.hid hC
      have HB1 := Lib.hid (hB.trans (hBU.mono hzU))
      have hgU : g0 < U.heap.size := by omega
      have hwU : w.heap.size < U.heap.size := by omega
      clear hB hso hat hmem hgi hU1 hBU hC hr e2 e3 hD
      have HD := Lib.hid hd
      clear hd
      go_wp2_with fail
      rw [← HU1.out]
      refine HC1.out.mono ?_; rintro e u2 ⟨rfl, hb2⟩
      have hU2 := HB1.out.trans (hb2.mono HB1.out.size)
      have HB2 := Lib.hid hU2
      have hso := HSQ.out u2 hU2
      clear q0 q1 p0 p1 p2 y0 y1 y2 hb2 hU2
      simp only [cgV]
      by_cases he : er = 0
      · subst he
        have hd := HD.out
        rw [if_pos rfl] at hd
        have HD2 := Lib.hid hd
        have HB3 := Lib.hid (HB2.out.trans ((below_box u2 (.cells #[.int .i64 (a : Int), .int .i64 (k : Int)] 41)).mono HB2.out.size))
        clear hd hso
        go_wp2_with fail
        go_roundw
        case rel => exact ⟨p + 1, hlt, by go_num, HB3.out, HD2⟩
        case measure => simp [intOf]; omega
      · have hd := HD.out
        rw [if_neg he] at hd
        have HYF := Lib.hid hd
        have he1 : (er == 0) = false := by simp only [beq_eq_false_iff_ne, ne_eq]; exact he
        clear hd he hso
        go_wp2_with fail
        obtain ⟨u3, hu3⟩ : ∃ u3, u3 = u2.alloc (.cells #[.int .i64 (a : Int), .int .i64 (k : Int)] 41) := ⟨_, rfl⟩
        rw [← hu3]
        have hz3 : u3.heap.size = u2.heap.size + 1 := by rw [hu3]; simp
        have hB3 : Below W0.heap.size W0 u3 := by rw [hu3]; exact HB2.out.trans ((below_box u2 _).mono HB2.out.size)
        have hT3 : u3.heap[u2.heap.size]? = some (.cells #[.int .i64 (a : Int), .int .i64 (k : Int)] 41 (0, 0)) := by rw [hu3]; exact (MapKept.heap_alloc _ _).1
        have hso := HSQ.out u3 hB3
        have hsz2 := HB2.out.size
        have HSO3 := Lib.hid hso
        have f0 := Lib.frozen_of_heap hso 0
        have f1 := Lib.frozen_of_heap hso 1
        obtain ⟨s0, s1⟩ := own2 hso
        obtain ⟨t0, t1⟩ := own2 hT3
        have HB3 := Lib.hid hB3
        clear hu3 hso hT3 hB3
        refine wp_region_held_drew (S := SameBut (w.heap.size + 1) u3) (by kernel_rfl) (SameBut.drew _ _) (fun hSw => ?_)
        refine tH 0 (.int .i64 (p : Int)) hSw ?_
        try simp only [nS]
        refine tG 1 (.agg #[.int .i64 (a : Int), .int .i64 (k : Int)]) hSw (fun W hW => ?_) ?_
        · have t0 := hW.cell (by dsimp only; omega) t0
          have t1 := hW.cell (by dsimp only; omega) t1
          first | (go_simp; done) | rfl
        try simp only [nS]
        refine tH 2 (.int .i64 er) hSw ?_
        try simp only [nS]
        refine tH 3 (.int .i64 (p : Int)) hSw ?_
        try simp only [nS]
        refine tR 4 (fun K hK => ?_)
        clear hSw
        go_simp
        
        refine hK.out _ _ (fun j hj hne => (Below.heap_setCell _ _ _ _ (by show j ≠ w.heap.size + 1; exact hne)).trans (Below.heap_setCell _ _ _ _ (by show j ≠ w.heap.size + 1; exact hne))) (fun hSw => ?_)
        clear hK K
        try simp only [nS]
        refine tH 5 (.int .i64 er) hSw ?_
        try simp only [nS]
        refine wpAnyH_done (by kernel_rfl) ?_ _
        go_wp2_with fail
        refine bodyPost_ret (v := .tuple #[.int .i64 (p : Int), .agg #[.int .i64 (a : Int), .int .i64 (k : Int)], .int .i64 er]) (results_ck (t := 2) (p := 3) (u := 4) rfl _ _ (w.heap.size + 1) _ _ _ _ rfl rfl rfl (put2 HSO3.out _ _)) rfl ?_
        exact ⟨by rw [HYF.out]; rfl, below_drewN (((HBW.out _ HB3.out).setCell (by show w.heap.size ≤ w.heap.size + 1; omega) _).setCell (by show w.heap.size ≤ w.heap.size + 1; omega) _) 1⟩
    · rw [List.drop_eq_nil_of_le (by rw [← HN.out]; omega)] at hd
      have HYF := Lib.hid (show Y = (0, (0, 0), 0) from hd)
      have HSO3 := Lib.hid hso
      have f0 := Lib.frozen_of_heap hso 0
      have f1 := Lib.frozen_of_heap hso 1
      obtain ⟨s0, s1⟩ := own2 hso
      have HB3 := Lib.hid hB
      clear hB hso hD hd
      go_wp2_with fail
      refine bodyPost_ret (v := .tuple #[.int .i64 0, .agg #[.int .i64 0, .int .i64 0], .int .i64 0]) (results_ck (t := 2) (p := 3) (u := 4) rfl _ _ (w.heap.size + 1) _ _ _ _ rfl rfl rfl (put2 HSO3.out _ _)) rfl ?_
      exact ⟨by rw [HYF.out]; rfl, ((HBW.out _ HB3.out).setCell (by show w.heap.size ≤ w.heap.size + 1; omega) _).setCell (by show w.heap.size ≤ w.heap.size + 1; omega) _⟩
end Go.Proofs.YtgkjhnghibpeoaaDoor
