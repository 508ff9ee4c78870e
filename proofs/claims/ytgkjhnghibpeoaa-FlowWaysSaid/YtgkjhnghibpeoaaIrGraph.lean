/- What is wrong first with one thread's graph. -/
import Derived.Test.YtgkjhnghibpeoaaRows
import Derived.Test.YtgkjhnghibpeoaaIrBegins
import Derived.Test.YtgkjhnghibpeoaaIrSizes
import Derived.Test.YtgkjhnghibpeoaaIrBoth
import Derived.Test.YtgkjhnghibpeoaaFlMem
import Derived.LoopTactic
import Derived.LoopN
import Derived.Deep.LoopGhost
import Derived.WalkKit
import Derived.WalkSpells
import Derived.WalkLawsBesides
import Derived.Lib.Hide
import Derived.Laws.ResultCell
namespace Go.Proofs.Ytgkjhnghibpeoaa
open Go.RowKit
set_option maxRecDepth 100000
attribute [local go_sem ↓] bld_eq bls_eq

theorem inB_of {n a b : Int} (h : inB n a b = true) : a ≤ n ∧ n ≤ b := by
  unfold inB at h
  simpa using h
theorem blkB_of {n : Nat} {k : Int} (h : blkB n k = true) : 0 ≤ k ∧ k < (n : Int) := by
  unfold blkB at h
  simpa using h
theorem leads_in {R : List Bool} {n : Nat} {b : Bk} (h : leadsB R n b = true) : ∀ y ∈ nextL b, 0 ≤ y ∧ y < (n : Int) := by
  intro y hy
  unfold leadsB at h
  unfold nextL at hy
  split at hy
  · rename_i h1
    rw [if_pos h1] at h
    rw [List.mem_singleton.1 hy]
    exact blkB_of h
  · rename_i h1
    rw [if_neg h1] at h
    split at hy
    · rename_i h2
      rw [if_pos h2] at h
      simp only [Bool.and_eq_true] at h
      rcases List.mem_cons.1 hy with rfl | hy
      · exact blkB_of h.2.1
      · rw [List.mem_singleton.1 hy]; exact blkB_of h.2.2
    · cases hy
theorem firstB_none {R : List Bool} {W : Int} {nb : Nat} : ∀ (l : List Bk) (n : Nat) (M : List Bool), firstB R W nb n M l = none → ∀ b ∈ l, lastB R nb b = true := by
  intro l
  induction l with
  | nil => intro n M _ b hb; cases hb
  | cons a l ih =>
    intro n M h b hb
    rw [firstB] at h
    split at h
    · cases h
    · split at h
      · rename_i hl
        rcases List.mem_cons.1 hb with rfl | hb
        · exact hl
        · exact ih _ _ h b hb
      · cases h
theorem leads_of {R : List Bool} {n : Nat} {b : Bk} (h : lastB R n b = true) : leadsB R n b = true := by
  unfold lastB at h
  simp only [Bool.and_eq_true] at h
  exact h.2.2
theorem sizes_ok {g : Gr} (h : sizesE g = 0) : (0 ≤ g.sites ∧ g.sites ≤ 8192) ∧ 1 ≤ g.blocks.length ∧ g.blocks.length ≤ 4096 := by
  unfold sizesE at h
  split at h
  · cases h
  · split at h
    · cases h
    · split at h
      · cases h
      · omega
/-- What checkGraph answers. -/
def cgV (r : (Nat × Nat) × Int) : Value := .tuple #[.agg #[.int .i64 (r.1.1 : Int), .int .i64 (r.1.2 : Int)], .int .i64 r.2]
set_option maxHeartbeats 32000000 in
theorem checkGraph_any (B : Nat) (g : Gr) (W : Int) (w : World) (hI : GIn w B g) (hBw : B ≤ w.heap.size) (hW : -9223372036854775808 ≤ W ∧ W ≤ 9223372036854775807) :
    Calls Try.prog 29 #[.agg #[g.rv, .int .i64 g.sites, g.bv], .int .i64 W] w fun e w' => e = .returned (cgV (checkG W g)) ∧ Below w.heap.size w w' := by
  obtain ⟨Y, hY⟩ : ∃ Y, Y = checkG W g := ⟨_, rfl⟩
  rw [← hY]
  unfold checkG sidesT at hY
  obtain ⟨ro, rc, er, -, -⟩ := hI.rlies.form
  obtain ⟨bo, bcp, eb, -, -⟩ := hI.blies.form
  have hI2 := fun (u : World) (hu : Below w.heap.size w u) => hI.keeps (hu.mono hBw)
  have hB2 := fun (u : World) (hu : Below w.heap.size w u) => Nat.le_trans hBw hu.size
  have C1 := Lib.hid (fun (u : World) (hu : Below w.heap.size w u) => checkSizes_any B g u (hI2 u hu) (hB2 u hu))
  have C2 := Lib.hid (fun (u : World) (hu : Below w.heap.size w u) (hs : 0 ≤ g.sites ∧ g.sites ≤ 8192) => newck_any B g W u (hI2 u hu) (hB2 u hu) hs hW)
  have C3 := Lib.hid (fun (c m : Nat) (M : List Bool) (u : World) (hu : CkAt u B c m g W M) => firstWrong_any B c m g W M u hu)
  have C4 := Lib.hid (fun (u : World) (hu : Below w.heap.size w u) (h1 : 1 ≤ g.blocks.length ∧ g.blocks.length ≤ 4096) (h2 : ∀ b ∈ g.blocks, ∀ y ∈ nextL b, 0 ≤ y ∧ y < (g.blocks.length : Int)) => begins_any B g u (hI2 u hu) (hB2 u hu) h1 h2)
  have C6 := Lib.hid (fun (gb n : Nat) (l : List Nat) (T : TypeId) (fr : Nat × Nat) (u : World) (hu : Below w.heap.size w u) => firstMisplaced_any B g u gb n l T fr (hI2 u hu) (hB2 u hu))
  clear hI hI2 hB2
  obtain ⟨W0, hW0⟩ : ∃ W0, W0 = (w.alloc (.cells #[g.rv, .int .i64 g.sites, g.bv] 25)).alloc (.cells #[.int .i64 0, .int .i64 0] 62) := ⟨_, rfl⟩
  have hz0 : W0.heap.size = w.heap.size + 2 := by rw [hW0]; simp
  have z1 : (w.alloc (.cells #[g.rv, .int .i64 g.sites, g.bv] 25)).heap.size = w.heap.size + 1 := by simp
  have hB0 : Below w.heap.size w W0 := by rw [hW0]; exact (below_box w _).alloc (by omega) _
  have hG0 : W0.heap[w.heap.size]? = some (.cells #[g.rv, .int .i64 g.sites, g.bv] 25 (0, 0)) := by rw [hW0, Below.heap_alloc _ _ _ (by omega)]; exact (MapKept.heap_alloc _ _).1
  have hS0 : W0.heap[w.heap.size + 1]? = some (.cells #[.int .i64 0, .int .i64 0] 62 (0, 0)) := by rw [hW0, ← z1]; exact (MapKept.heap_alloc _ _).1
  have HGQ := Lib.hid (fun (u : World) (hu : Below W0.heap.size W0 u) => own3 ((hu.block w.heap.size (by omega)).trans hG0))
  have HSQ := Lib.hid (fun (u : World) (hu : Below W0.heap.size W0 u) => (hu.block (w.heap.size + 1) (by omega)).trans hS0)
  have HBW := Lib.hid (fun (u : World) (hu : Below W0.heap.size W0 u) => hB0.trans (hu.mono (show w.heap.size ≤ W0.heap.size by omega)))
  obtain ⟨q0, q1, q2⟩ := own3 hG0
  rw [hW0] at q0 q1 q2
  have HW0 := Lib.hid hW0
  obtain ⟨E, hE⟩ : ∃ E, E = sizesE g := ⟨_, rfl⟩
  have hsz := fun (h : E = 0) => sizes_ok (hE.symm.trans h)
  have HSZ := Lib.hid hsz
  rw [← hE] at C1 hY
  obtain ⟨Z, hZ⟩ : ∃ Z, Z = firstB g.refs W g.blocks.length 0 (List.replicate g.sites.toNat false) g.blocks := ⟨_, rfl⟩
  have HZN := Lib.hid (fun (h : Z = none) (b : Bk) (hb : b ∈ g.blocks) => leads_in (leads_of (firstB_none _ _ _ (hZ.symm.trans h) b hb)))
  rw [← hZ] at hY
  have HZ := Lib.hid hZ
  have HYY := Lib.hid hY
  have HC1 := Lib.hid (C1.out W0 hB0)
  have HER := Lib.hid er
  have HEB := Lib.hid eb
  have e1 := bld_of 62 #[] #[.int .i64 0, .int .i64 0] (by kernel_rfl)
  simp only [er, eb] at q0 q1 q2 HW0 HGQ HC1 C2 C4 C6 ⊢
  clear hW0 hz0 z1 hB0 hG0 hS0 hE hsz hZ hY C1 er eb
  go_enter Try.func29, Try.ntmps29
  go_wp2_with fail
  rw [← HW0.out]
  clear q0 q1 q2
  refine HC1.out.mono ?_; rintro e u1 ⟨rfl, hb1⟩
  have HU := Lib.hid hb1
  obtain ⟨q0, q1, q2⟩ := HGQ.out u1 hb1
  have hso := HSQ.out u1 hb1
  have HSO := Lib.hid hso
  have f0 := Lib.frozen_of_heap hso 0
  have f1 := Lib.frozen_of_heap hso 1
  obtain ⟨s0, s1⟩ := own2 hso
  have hwu : w.heap.size + 1 < u1.heap.size := (Array.getElem?_eq_some_iff.1 hso).1
  have hwv : w.heap.size < u1.heap.size := by omega
  clear hso
  clear hb1
  by_cases hE0 : E = 0
  · subst hE0
    have hY2 := HYY.out
    rw [if_pos rfl] at hY2
    have HY2 := Lib.hid hY2
    clear hY2 f0 f1 s0 s1
    go_wp2_with fail
    refine (C2.out u1 (HBW.out u1 HU.out) (HSZ.out (by trivial)).1).mono ?_; rintro e u2 ⟨c, m, rfl, hck, hb2, hc2, hm2⟩
    have HB2 := Lib.hid hb2
    have HCK := Lib.hid hck
    clear hck hb2 q0 q1 q2 hc2 hwu
    go_wp2_with fail
    refine (C3.out c m _ u2 HCK.out).mono ?_; rintro e u3 ⟨rfl, ha3⟩
    have hb3 := HB2.out.trans (ha3.below HB2.out.size hm2)
    have HU1 := HU
    have hu3 := HU1.out.trans (hb3.mono HU1.out.size)
    clear HU HSO
    have HU := Lib.hid hu3
    obtain ⟨q0, q1, q2⟩ := HGQ.out u3 hu3
    have hso := HSQ.out u3 hu3
    have HSO := Lib.hid hso
    have f0 := Lib.frozen_of_heap hso 0
    have f1 := Lib.frozen_of_heap hso 1
    obtain ⟨s0, s1⟩ := own2 hso
    have hwu : w.heap.size + 1 < u3.heap.size := (Array.getElem?_eq_some_iff.1 hso).1
    have hwv : w.heap.size < u3.heap.size := by omega
    clear hso
    clear hu3 ha3 hb3
    rw [← HZ.out]
    cases Z with
    | some nk =>
      obtain ⟨a, k⟩ := nk
      have HYF := Lib.hid (show Y = ((a, k), 14) from HY2.out)
      simp only [spotV]
      obtain ⟨y0, y1⟩ := own2 (MapKept.heap_alloc u3 (.cells #[.int .i64 (a : Int), .int .i64 (k : Int)] 62)).1
      go_wp2_with fail
      refine bodyPost_ret (v := .tuple #[.agg #[.int .i64 (a : Int), .int .i64 (k : Int)], .int .i64 14]) (results_spot (p := 4) (u := 5) rfl _ _ (w.heap.size + 1) _ _ _ rfl rfl ((Below.heap_alloc _ _ _ (by simp [World.setCell]; omega)).trans (put2 HSO.out _ _))) rfl ?_
      exact ⟨by rw [HYF.out]; rfl, (((HBW.out _ HU.out).setCell (by show w.heap.size ≤ w.heap.size + 1; omega) _).setCell (by show w.heap.size ≤ w.heap.size + 1; omega) _).alloc (by simp [World.setCell]; omega) _⟩
    | none =>
      have HYF := Lib.hid (show Y = (match bothT 0 (beginsT g.blocks) with | some n => ((n, 0), 14) | none => match misB (beginsT g.blocks) 0 g.blocks with | some at' => (at', 14) | none => ((0, 0), 0)) from HY2.out)
      have HOK := Lib.hid (HZN.out (by trivial))
      clear f0 f1 s0 s1 HSO
      have hB4 : Below u3.heap.size u3 (u3.alloc (.cells #[.int .i64 0, .int .i64 0] 62)) := below_box u3 _
      obtain ⟨u4, hu4⟩ : ∃ u4, u4 = u3.alloc (.cells #[.int .i64 0, .int .i64 0] 62) := ⟨_, rfl⟩
      rw [← hu4] at hB4
      have hU4 := HU.out.trans (hB4.mono HU.out.size)
      have HC4 := Lib.hid (C4.out u4 (HBW.out u4 hU4) (HSZ.out (by trivial)).2 HOK.out)
      have HU4 := Lib.hid hU4
      have HW4 := Lib.hid hu4
      clear hB4 hu4 hU4
      simp only [spotV]
      go_wp2_with fail
      rw [← HW4.out]
      refine HC4.out.mono ?_; rintro e u5 ⟨gs, rfl, hgs, hsd, hsl, hs3, hb5⟩
      have hHU5 := HU4.out.trans (hb5.mono HU4.out.size)
      clear HU
      have HU := Lib.hid hHU5
      obtain ⟨q0, q1, q2⟩ := HGQ.out u5 hHU5
      have hso := HSQ.out u5 hHU5
      have HSO := Lib.hid hso
      have f0 := Lib.frozen_of_heap hso 0
      have f1 := Lib.frozen_of_heap hso 1
      obtain ⟨s0, s1⟩ := own2 hso
      have hwu : w.heap.size + 1 < u5.heap.size := (Array.getElem?_eq_some_iff.1 hso).1
      have hwv : w.heap.size < u5.heap.size := by omega
      clear hso
      have hgs5 : gs < u5.heap.size := (Array.getElem?_eq_some_iff.1 hsd).1
      have HSD := Lib.hid hsd
      have HSL := Lib.hid hsl
      have HS3 := Lib.hid hs3
      have hn42 := (HSZ.out (by trivial)).2.2
      have HC5 := Lib.hid (firstOnBoth_any gs g.blocks.length (beginsT g.blocks) _ _ u5 hsd hsl.symm hn42)
      have HC6 := Lib.hid (fun (u : World) (hu : Below w.heap.size w u) (hl : u.heap[gs]? = some (.cells (sidesA (beginsT g.blocks)) 89 (0, 0))) => C6.out gs g.blocks.length (beginsT g.blocks) _ _ u hu hl hsl.symm hsl hs3 hn42)
      obtain ⟨bt, hbt⟩ : ∃ bt, bt = beginsT g.blocks := ⟨_, rfl⟩
      clear hsd hsl hs3 hHU5 hb5 f0 f1 s0 s1 hbt bt
      go_wp2_with fail
      refine HC5.out.mono ?_; rintro e u6 ⟨rfl, hb6⟩
      have hU6 := HU.out.trans (hb6.mono HU.out.size)
      have HSD6 := Lib.hid ((hb6.block gs hgs5).trans HSD.out)
      clear HU HSO q0 q1 q2
      have HU := Lib.hid hU6
      obtain ⟨q0, q1, q2⟩ := HGQ.out u6 hU6
      have hso := HSQ.out u6 hU6
      have HSO := Lib.hid hso
      have f0 := Lib.frozen_of_heap hso 0
      have f1 := Lib.frozen_of_heap hso 1
      obtain ⟨s0, s1⟩ := own2 hso
      have hwu : w.heap.size + 1 < u6.heap.size := (Array.getElem?_eq_some_iff.1 hso).1
      have hwv : w.heap.size < u6.heap.size := by omega
      clear hso
      clear hU6 hb6
      cases hbo : bothT 0 (beginsT g.blocks) with
      | some a =>
        have HYG := Lib.hid (show Y = ((a, 0), 14) by rw [HYF.out, hbo])
        clear hbo
        simp only [spotV, Option.map_some]
        obtain ⟨y0, y1⟩ := own2 (MapKept.heap_alloc u6 (.cells #[.int .i64 (a : Int), .int .i64 ((0 : Nat) : Int)] 62)).1
        go_wp2_with fail
        refine bodyPost_ret (v := .tuple #[.agg #[.int .i64 (a : Int), .int .i64 0], .int .i64 14]) (results_spot (p := 4) (u := 5) rfl _ _ (w.heap.size + 1) _ _ _ rfl rfl ((Below.heap_alloc _ _ _ (by simp [World.setCell]; omega)).trans (put2 HSO.out _ _))) rfl ?_
        exact ⟨by rw [HYG.out]; rfl, (((HBW.out _ HU.out).setCell (by show w.heap.size ≤ w.heap.size + 1; omega) _).setCell (by show w.heap.size ≤ w.heap.size + 1; omega) _).alloc (by simp [World.setCell]; omega) _⟩
      | none =>
        have HYG := Lib.hid (show Y = (match misB (beginsT g.blocks) 0 g.blocks with | some at' => (at', 14) | none => ((0, 0), 0)) by rw [HYF.out, hbo])
        clear hbo f0 f1 s0 s1 HSO
        simp only [spotV, Option.map_none]
        have hB7 : Below u6.heap.size u6 (u6.alloc (.cells #[.int .i64 0, .int .i64 0] 62)) := below_box u6 _
        obtain ⟨u7, hu7⟩ : ∃ u7, u7 = u6.alloc (.cells #[.int .i64 0, .int .i64 0] 62) := ⟨_, rfl⟩
        rw [← hu7] at hB7
        have hU7 := HU.out.trans (hB7.mono HU.out.size)
        have hgs6 : gs < u6.heap.size := (Array.getElem?_eq_some_iff.1 HSD6.out).1
        have HC7 := Lib.hid (HC6.out u7 (HBW.out u7 hU7) ((hB7.block gs hgs6).trans HSD6.out))
        have HU7 := Lib.hid hU7
        have HW7 := Lib.hid hu7
        clear hB7 hu7 hU7
        go_wp2_with fail
        rw [← HW7.out]
        refine HC7.out.mono ?_; rintro e u8 ⟨rfl, hb8⟩
        have hU8 := HU7.out.trans (hb8.mono HU7.out.size)
        clear HU q0 q1 q2
        have HU := Lib.hid hU8
        have hso := HSQ.out u8 hU8
        have HSO := Lib.hid hso
        have f0 := Lib.frozen_of_heap hso 0
        have f1 := Lib.frozen_of_heap hso 1
        obtain ⟨s0, s1⟩ := own2 hso
        have hwu : w.heap.size + 1 < u8.heap.size := (Array.getElem?_eq_some_iff.1 hso).1
        have hwv : w.heap.size < u8.heap.size := by omega
        clear hso
        clear hU8 hb8
        cases hmi : misB (beginsT g.blocks) 0 g.blocks with
        | some nk =>
          obtain ⟨a, k⟩ := nk
          have HYH := Lib.hid (show Y = ((a, k), 14) by rw [HYG.out, hmi])
          clear hmi
          simp only [spotV]
          obtain ⟨y0, y1⟩ := own2 (MapKept.heap_alloc u8 (.cells #[.int .i64 (a : Int), .int .i64 (k : Int)] 62)).1
          go_wp2_with fail
          refine bodyPost_ret (v := .tuple #[.agg #[.int .i64 (a : Int), .int .i64 (k : Int)], .int .i64 14]) (results_spot (p := 4) (u := 5) rfl _ _ (w.heap.size + 1) _ _ _ rfl rfl ((Below.heap_alloc _ _ _ (by simp [World.setCell]; omega)).trans (put2 HSO.out _ _))) rfl ?_
          exact ⟨by rw [HYH.out]; rfl, (((HBW.out _ HU.out).setCell (by show w.heap.size ≤ w.heap.size + 1; omega) _).setCell (by show w.heap.size ≤ w.heap.size + 1; omega) _).alloc (by simp [World.setCell]; omega) _⟩
        | none =>
          have HYH := Lib.hid (show Y = ((0, 0), 0) by rw [HYG.out, hmi])
          clear hmi
          simp only [spotV]
          go_wp2_with fail
          refine bodyPost_ret (v := .tuple #[.agg #[.int .i64 0, .int .i64 0], .int .i64 0]) (results_spot (p := 4) (u := 5) rfl _ _ (w.heap.size + 1) _ _ _ rfl rfl ((Below.heap_alloc _ _ _ (by simp [World.setCell]; omega)).trans (put2 HSO.out _ _))) rfl ?_
          exact ⟨by rw [HYH.out]; rfl, (((HBW.out _ HU.out).setCell (by show w.heap.size ≤ w.heap.size + 1; omega) _).setCell (by show w.heap.size ≤ w.heap.size + 1; omega) _).alloc (by simp [World.setCell]; omega) _⟩
  · have hY2 := HYY.out
    rw [if_neg hE0] at hY2
    have HYF := Lib.hid (show Y = ((0, 0), E) from hY2)
    have hE1 : (E == 0) = false := by simp only [beq_eq_false_iff_ne, ne_eq]; exact hE0
    clear hE0 hY2
    go_wp2_with fail
    refine bodyPost_ret (v := .tuple #[.agg #[.int .i64 0, .int .i64 0], .int .i64 E]) (results_spot (p := 4) (u := 5) rfl _ _ (w.heap.size + 1) _ _ _ rfl rfl (put2 HSO.out _ _)) rfl ?_
    exact ⟨by rw [HYF.out]; rfl, ((HBW.out _ HU.out).setCell (by show w.heap.size ≤ w.heap.size + 1; omega) _).setCell (by show w.heap.size ≤ w.heap.size + 1; omega) _⟩
end Go.Proofs.Ytgkjhnghibpeoaa
