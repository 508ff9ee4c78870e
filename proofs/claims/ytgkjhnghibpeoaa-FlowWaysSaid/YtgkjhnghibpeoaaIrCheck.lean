/- What is wrong first with a program's graphs. -/
import Derived.Test.YtgkjhnghibpeoaaParseOrder
import Derived.Test.YtgkjhnghibpeoaaRows
import Derived.Test.YtgkjhnghibpeoaaIrGraph
import Derived.Test.YtgkjhnghibpeoaaIrFit7
import Derived.Test.YtgkjhnghibpeoaaIrSizes
import Derived.Test.YtgkjhnghibpeoaaFlMem
import Derived.LoopTactic
import Derived.LoopN
import Derived.Deep.LoopGhost
import Derived.WalkKit
import Derived.WalkSpells
import Derived.WalkLawsBesides
import Derived.Lib.Hide
import Derived.OrdersHeld
import Derived.Deep.RegionHeld
import Derived.Deep.DrawnRows
import Derived.RegionTactic
import Derived.Deep.RegionHeld3
namespace Go.Proofs.Ytgkjhnghibpeoaa
open Go.RowKit
set_option maxRecDepth 100000
attribute [local go_sem ↓] bld_eq bls_eq

/-- What Check answers. -/
def ckV (r : Nat × (Nat × Nat) × Int) : Value := .tuple #[.int .i64 (r.1 : Int), .agg #[.int .i64 (r.2.1.1 : Int), .int .i64 (r.2.1.2 : Int)], .int .i64 r.2.2]
theorem results_ck {fn : Func} {t p u : Tmp} (h : fn.results = #[.tmp t, .cell p 62, .tmp u]) (tmps : Array Value) (w : World) (g : Nat) (a b x y : Value) (ht : tmps.getD t undef = y) (hp : tmps.getD p undef = .pointer (some ⟨g, 0, none⟩)) (hu : tmps.getD u undef = x) (hr : w.heap[g]? = some (.cells #[a, b] 62 (0, 0))) :
    (results fn tmps).run Try.prog w = .ok (.tuple #[y, .agg #[a, b], x]) w := by
  have h2 := run_loadVar_row (P := Try.prog) w g 62 62 #[a, b] (0, 0) ((Try.prog.underlying 62).getD (.array 0 0)) hr (by kernel_rfl) (by kernel_rfl) (by kernel_rfl)
  have h3 : (results fn tmps).run Try.prog w = ((asAddr (tmps.getD p undef)).run Try.prog w).andThen fun a w₁ => ((loadVar 62 a).run Try.prog w₁).andThen fun v w₂ => .ok (.tuple #[tmps.getD t undef, v, tmps.getD u undef]) w₂ := by
    simp only [results, h]
    simp [Sem.run_bind, Result.andThen]
  rw [h3, hp, ht, hu]
  show ((loadVar 62 ⟨g, 0, none⟩).run Try.prog w).andThen _ = _
  rw [h2]
  rfl
theorem checkL_cons (W : Int) (n : Nat) (g : Gr) (l : List Gr) (a k : Nat) (e : Int) (h : checkG W g = ((a, k), e)) : checkL W n (g :: l) = if e = 0 then checkL W (n + 1) l else (n, (a, k), e) := by
  rw [checkL, h]
set_option maxHeartbeats 32000000 in
theorem check_any (B : Nat) (c : Cd) (w : World) (hI : CIn w B c) (hBw : B ≤ w.heap.size) :
    Calls Try.prog 23 #[.agg #[.int .i64 c.words, c.tv]] w fun e w' => e = .returned (ckV (checkC c.words c.threads)) ∧ Below w.heap.size w w' := by
  obtain ⟨Y, hY⟩ : ∃ Y, Y = checkC c.words c.threads := ⟨_, rfl⟩
  rw [← hY]
  unfold checkC at hY
  have hW := hI.words
  obtain ⟨bo, bcp, eb, hbl, hbg⟩ := hI.tlies.form
  have hr4 := hI.tlies.room
  have HTL := Lib.hid hI.tlies
  have HTI := Lib.hid hI.threads
  clear hI
  obtain ⟨W, tv, threads⟩ := c
  simp only at *
  subst eb
  obtain ⟨N, hN⟩ : ∃ N, N = threads.length := ⟨_, rfl⟩
  rw [← hN] at hY hbl hbg HTL hr4
  rw [← hN]
  obtain ⟨W0, hW0⟩ : ∃ W0, W0 = (w.alloc (.cells #[.int .i64 W, .slice bo N bcp] 67)).alloc (.cells #[.int .i64 0, .int .i64 0] 62) := ⟨_, rfl⟩
  have hz0 : W0.heap.size = w.heap.size + 2 := by rw [hW0]; simp
  have z1 : (w.alloc (.cells #[.int .i64 W, .slice bo N bcp] 67)).heap.size = w.heap.size + 1 := by simp
  have hB0 : Below w.heap.size w W0 := by rw [hW0]; exact (below_box w _).alloc (by omega) _
  have hG0 : W0.heap[w.heap.size]? = some (.cells #[.int .i64 W, .slice bo N bcp] 67 (0, 0)) := by rw [hW0, Below.heap_alloc _ _ _ (by omega)]; exact (MapKept.heap_alloc _ _).1
  have hS0 : W0.heap[w.heap.size + 1]? = some (.cells #[.int .i64 0, .int .i64 0] 62 (0, 0)) := by rw [hW0, ← z1]; exact (MapKept.heap_alloc _ _).1
  have HSQ := Lib.hid (fun (u : World) (hu : Below W0.heap.size W0 u) => (hu.block (w.heap.size + 1) (by omega)).trans hS0)
  have HGQ := Lib.hid (fun (u : World) (hu : Below W0.heap.size W0 u) => own2 ((hu.block w.heap.size (by omega)).trans hG0))
  have HBW := Lib.hid (fun (u : World) (hu : Below W0.heap.size W0 u) => hB0.trans (hu.mono (show w.heap.size ≤ W0.heap.size by omega)))
  have HC := Lib.hid (fun (g : Gr) (hg : g ∈ threads) (u : World) (hu : Below w.heap.size w u) => checkGraph_any B g W u ((HTI.out g hg).keeps (hu.mono hBw)) (Nat.le_trans hBw hu.size) hW)
  obtain ⟨q0, q1⟩ := own2 hG0
  have hso := HSQ.out W0 (Below.refl _ _)
  have HSO := Lib.hid hso
  have f0 := Lib.frozen_of_heap hso 0
  have f1 := Lib.frozen_of_heap hso 1
  obtain ⟨s0, s1⟩ := own2 hso
  have hB00 := Lib.hid hB0
  have e1 := bld_of 62 #[] #[.int .i64 0, .int .i64 0] (by kernel_rfl)
  have HN := Lib.hid hN
  have HG2 := Lib.hid hbg
  have HZ0 := Lib.hid hz0
  have hz : w.heap.size + 1 < W0.heap.size := by omega
  have hz' : w.heap.size < W0.heap.size := by omega
  have HW0 := Lib.hid hW0
  rw [hW0] at q0 q1 f0 f1 s0 s1
  clear hN hbg hB0 hG0 hS0 hso z1 hW0 hz0
  by_cases a1 : 65536 < W
  · rw [if_pos (.inl a1)] at hY
    have HYF := Lib.hid hY
    clear hY
    go_enter Try.func23, Try.ntmps23
    go_wp2_with fail
    try rw [← HW0.out]
    refine bodyPost_ret (v := .tuple #[.int .i64 0, .agg #[.int .i64 0, .int .i64 0], .int .i64 3]) (results_ck (t := 2) (p := 3) (u := 4) rfl _ _ (w.heap.size + 1) _ _ _ _ rfl rfl rfl HSO.out) rfl ?_
    exact ⟨by rw [HYF.out]; rfl, hB00.out⟩
  by_cases a2 : 4 < N
  · rw [if_pos (.inr a2)] at hY
    have HYF := Lib.hid hY
    clear hY
    go_enter Try.func23, Try.ntmps23
    go_wp2_with fail
    try rw [← HW0.out]
    refine bodyPost_ret (v := .tuple #[.int .i64 0, .agg #[.int .i64 0, .int .i64 0], .int .i64 3]) (results_ck (t := 2) (p := 3) (u := 4) rfl _ _ (w.heap.size + 1) _ _ _ _ rfl rfl rfl HSO.out) rfl ?_
    exact ⟨by rw [HYF.out]; rfl, hB00.out⟩
  rw [if_neg (by omega)] at hY
  by_cases a3 : W < 0
  · rw [if_pos a3] at hY
    have HYF := Lib.hid hY
    clear hY
    go_enter Try.func23, Try.ntmps23
    go_wp2_with fail
    try rw [← HW0.out]
    refine bodyPost_ret (v := .tuple #[.int .i64 0, .agg #[.int .i64 0, .int .i64 0], .int .i64 14]) (results_ck (t := 2) (p := 3) (u := 4) rfl _ _ (w.heap.size + 1) _ _ _ _ rfl rfl rfl HSO.out) rfl ?_
    exact ⟨by rw [HYF.out]; rfl, hB00.out⟩
  rw [if_neg a3] at hY
  have HY := Lib.hid hY
  clear hY s0 s1 f0 f1
  go_enter Try.func23, Try.ntmps23
  go_wp2_with fail
  rw [← HW0.out]
  clear q0 q1
  go_loopw [28] (fun q wr => ∃ p : Nat, p ≤ N ∧ q = .int .i64 p ∧ Below W0.heap.size W0 wr ∧ Hid (Y = checkL W p (threads.drop p))) (fun q _ => N - (intOf q).toNat)
  case atStart => exact ⟨0, Nat.zero_le _, rfl, Below.refl _ _, HY⟩
  case round =>
    obtain ⟨p, hp, rfl, hB, hD⟩ := hrel
    rename World => U
    have hzU := hB.size
    have hso := HSQ.out U hB
    obtain ⟨q0, q1⟩ := HGQ.out U hB
    have hd := hD.out
    by_cases hlt : p < N
    · have hpx : p < threads.length := by rw [← HN.out]; exact hlt
      obtain ⟨g0, off, rfl, hg0⟩ := HG2.out (by omega)
      have hat := ((HTL.out.below ((HBW.out U hB).mono hBw)).at rfl p hpx).2
      have hmem := List.getElem_mem hpx
      rw [List.drop_eq_getElem_cons hpx] at hd
      generalize threads[p] = g at hat hmem hd
      have hgi := (HTI.out g hmem).keeps ((HBW.out U hB).mono hBw)
      obtain ⟨p0, p1, p2⟩ := gc3 hat
      obtain ⟨U1, hU1⟩ : ∃ U1, U1 = U.alloc (.cells #[g.rv, .int .i64 g.sites, g.bv] 25) := ⟨_, rfl⟩
      have hBU : Below U.heap.size U U1 := by rw [hU1]; exact below_box U _
      have hC := HC.out g hmem U1 ((HBW.out U hB).trans (hBU.mono (by omega)))
      obtain ⟨y0, y1, y2⟩ := own3 (MapKept.heap_alloc U (.cells #[g.rv, .int .i64 g.sites, g.bv] 25)).1
      obtain ⟨⟨⟨a, k⟩, er⟩, hr⟩ : ∃ r, checkG W g = r := ⟨_, rfl⟩
      rw [checkL_cons W p g _ a k er hr] at hd
      rw [hr] at hC
      obtain ⟨ro, rc, e2, -, -⟩ := hgi.rlies.form
      obtain ⟨bo2, bcp2, e3, -, -⟩ := hgi.blies.form
      have HU1 := Lib.hid hU1
      rw [e2, e3] at HU1 hC
      rw [e2] at p0
      rw [e3] at p2
      rw [e2, e3] at y0 y1 y2
      have HC1 := Lib.hid hC
      have HB1 := Lib.hid (hB.trans (hBU.mono hzU))
      have hgU : g0 < U.heap.size := by omega
      have hwU : w.heap.size < U.heap.size := by omega
      clear hB hso hat hmem hgi hU1 hBU hC hr e2 e3 hD
      have HD := Lib.hid hd
      clear hd
      go_wp2_with fail
      rw [← HU1.out]
      refine HC1.out.mono ?_; rintro e u2 ⟨rfl, hb2⟩
      have hU2 := HB1.out.trans (hb2.mono HB1.out.size)
      have HB2 := Lib.hid hU2
      have hso := HSQ.out u2 hU2
      clear q0 q1 p0 p1 p2 y0 y1 y2 hb2 hU2
      simp only [cgV]
      by_cases he : er = 0
      · subst he
        have hd := HD.out
        rw [if_pos rfl] at hd
        have HD2 := Lib.hid hd
        have HB3 := Lib.hid (HB2.out.trans ((below_box u2 (.cells #[.int .i64 (a : Int), .int .i64 (k : Int)] 62)).mono HB2.out.size))
        clear hd hso
        go_wp2_with fail
        go_roundw
        case rel => exact ⟨p + 1, hlt, by go_num, HB3.out, HD2⟩
        case measure => simp [intOf]; omega
      · have hd := HD.out
        rw [if_neg he] at hd
        have HYF := Lib.hid hd
        have he1 : (er == 0) = false := by simp only [beq_eq_false_iff_ne, ne_eq]; exact he
        clear hd he hso
        go_wp2_with fail
        obtain ⟨u3, hu3⟩ : ∃ u3, u3 = u2.alloc (.cells #[.int .i64 (a : Int), .int .i64 (k : Int)] 62) := ⟨_, rfl⟩
        rw [← hu3]
        have hz3 : u3.heap.size = u2.heap.size + 1 := by rw [hu3]; simp
        have hB3 : Below W0.heap.size W0 u3 := by rw [hu3]; exact HB2.out.trans ((below_box u2 _).mono HB2.out.size)
        have hT3 : u3.heap[u2.heap.size]? = some (.cells #[.int .i64 (a : Int), .int .i64 (k : Int)] 62 (0, 0)) := by rw [hu3]; exact (MapKept.heap_alloc _ _).1
        have hso := HSQ.out u3 hB3
        have hsz2 := HB2.out.size
        have HSO3 := Lib.hid hso
        have f0 := Lib.frozen_of_heap hso 0
        have f1 := Lib.frozen_of_heap hso 1
        obtain ⟨s0, s1⟩ := own2 hso
        obtain ⟨t0, t1⟩ := own2 hT3
        have HB3 := Lib.hid hB3
        clear hu3 hso hT3 hB3
        refine wp_region_held_drew (S := SameBut (w.heap.size + 1) u3) (by kernel_rfl) (SameBut.drew _ _) (fun hSw => ?_)
        refine tH 0 (.int .i64 (p : Int)) hSw ?_
        try simp only [nS]
        refine tG 1 (.agg #[.int .i64 (a : Int), .int .i64 (k : Int)]) hSw (fun W hW => ?_) ?_
        · have t0 := hW.cell (by dsimp only; omega) t0
          have t1 := hW.cell (by dsimp only; omega) t1
          first | (go_simp; done) | rfl
        try simp only [nS]
        refine tH 2 (.int .i64 er) hSw ?_
        try simp only [nS]
        refine tH 3 (.int .i64 (p : Int)) hSw ?_
        try simp only [nS]
        refine tR 4 (fun K hK => ?_)
        clear hSw
        go_simp
        
        refine hK.out _ _ (fun j hj hne => (Below.heap_setCell _ _ _ _ (by show j ≠ w.heap.size + 1; exact hne)).trans (Below.heap_setCell _ _ _ _ (by show j ≠ w.heap.size + 1; exact hne))) (fun hSw => ?_)
        clear hK K
        try simp only [nS]
        refine tH 5 (.int .i64 er) hSw ?_
        try simp only [nS]
        refine wpAnyH_done (by kernel_rfl) ?_ _
        go_wp2_with fail
        refine bodyPost_ret (v := .tuple #[.int .i64 (p : Int), .agg #[.int .i64 (a : Int), .int .i64 (k : Int)], .int .i64 er]) (results_ck (t := 2) (p := 3) (u := 4) rfl _ _ (w.heap.size + 1) _ _ _ _ rfl rfl rfl (put2 HSO3.out _ _)) rfl ?_
        exact ⟨by rw [HYF.out]; rfl, below_drewN (((HBW.out _ HB3.out).setCell (by show w.heap.size ≤ w.heap.size + 1; omega) _).setCell (by show w.heap.size ≤ w.heap.size + 1; omega) _) 1⟩
    · rw [List.drop_eq_nil_of_le (by rw [← HN.out]; omega)] at hd
      have HYF := Lib.hid (show Y = (0, (0, 0), 0) from hd)
      have HSO3 := Lib.hid hso
      have f0 := Lib.frozen_of_heap hso 0
      have f1 := Lib.frozen_of_heap hso 1
      obtain ⟨s0, s1⟩ := own2 hso
      have HB3 := Lib.hid hB
      clear hB hso hD hd
      go_wp2_with fail
      refine bodyPost_ret (v := .tuple #[.int .i64 0, .agg #[.int .i64 0, .int .i64 0], .int .i64 0]) (results_ck (t := 2) (p := 3) (u := 4) rfl _ _ (w.heap.size + 1) _ _ _ _ rfl rfl rfl (put2 HSO3.out _ _)) rfl ?_
      exact ⟨by rw [HYF.out]; rfl, ((HBW.out _ HB3.out).setCell (by show w.heap.size ≤ w.heap.size + 1; omega) _).setCell (by show w.heap.size ≤ w.heap.size + 1; omega) _⟩
end Go.Proofs.Ytgkjhnghibpeoaa
