/- What is wrong first with a program's graphs. -/
import Derived.Test.YtijciojipcgiaaaRows
import Derived.Test.YtijciojipcgiaaaIrGraph
import Derived.Test.YtijciojipcgiaaaIrFit7
import Derived.Test.YtijciojipcgiaaaIrSizes
import Derived.Test.YtijciojipcgiaaaIrBoth
import Derived.LoopTactic
import Derived.LoopN
import Derived.Deep.LoopGhost
import Derived.WalkKit
import Derived.WalkSpells
import Derived.WalkLawsBesides
import Derived.Lib.Hide
import Derived.OrdersHeld
import Derived.Deep.RegionHeld
import Derived.Deep.DrawnRows
import Derived.RegionTactic
import Derived.Deep.RegionHeld3
import Derived.Test.YtijciojipcgiaaaWkSeen
import Derived.IntWalk
import Derived.Test.YtijciojipcgiaaaWkLawP
import Derived.Test.YtijciojipcgiaaaWkBack
namespace Go.Proofs.Ytijciojipcgiaaa
open Go.RowKit
set_option maxRecDepth 100000
attribute [local go_sem ↓] bld_eq bls_eq

/-- What Check answers. -/
def ckV (r : Nat × (Nat × Nat) × Int) : Value := .tuple #[.int .i64 (r.1 : Int), .agg #[.int .i64 (r.2.1.1 : Int), .int .i64 (r.2.1.2 : Int)], .int .i64 r.2.2]
theorem results_ck {fn : Func} {t p u : Tmp} (h : fn.results = #[.tmp t, .cell p 74, .tmp u]) (tmps : Array Value) (w : World) (g : Nat) (a b x y : Value) (ht : tmps.getD t undef = y) (hp : tmps.getD p undef = .pointer (some ⟨g, 0, none⟩)) (hu : tmps.getD u undef = x) (hr : w.heap[g]? = some (.cells #[a, b] 74 (0, 0))) :
    (results fn tmps).run Try.prog w = .ok (.tuple #[y, .agg #[a, b], x]) w := by
  have h2 := run_loadVar_row (P := Try.prog) w g 74 74 #[a, b] (0, 0) ((Try.prog.underlying 74).getD (.array 0 0)) hr (by kernel_rfl) (by kernel_rfl) (by kernel_rfl)
  have h3 : (results fn tmps).run Try.prog w = ((asAddr (tmps.getD p undef)).run Try.prog w).andThen fun a w₁ => ((loadVar 74 a).run Try.prog w₁).andThen fun v w₂ => .ok (.tuple #[tmps.getD t undef, v, tmps.getD u undef]) w₂ := by
    simp only [results, h]
    simp [Sem.run_bind, Result.andThen]
  rw [h3, hp, ht, hu]
  show ((loadVar 74 ⟨g, 0, none⟩).run Try.prog w).andThen _ = _
  rw [h2]
  rfl
theorem checkL_cons (W : Int) (n : Nat) (g : Gr) (l : List Gr) (a k : Nat) (e : Int) (h : checkG W g = ((a, k), e)) : checkL W n (g :: l) = if e = 0 then checkL W (n + 1) l else (n, (a, k), e) := by
  rw [checkL, h]
set_option maxHeartbeats 32000000 in
theorem check_any (B : Nat) (c : Cd) (w : World) (hI : CIn w B c) (hBw : B ≤ w.heap.size) :
    Calls Try.prog 22 #[.agg #[.int .i64 c.words, c.tv]] w fun e w' => e = .returned (ckV (checkC c.words c.threads)) ∧ Below w.heap.size w w' := by
  obtain ⟨Y, hY⟩ : ∃ Y, Y = checkC c.words c.threads := ⟨_, rfl⟩
  rw [← hY]
  unfold checkC at hY
  have hW := hI.words
  obtain ⟨bo, bcp, eb, hbl, hbg⟩ := hI.tlies.form
  have hr4 := hI.tlies.room
  have HTL := Lib.hid hI.tlies
  have HTI := Lib.hid hI.threads
  clear hI
  obtain ⟨W, tv, threads⟩ := c
  simp only at *
  subst eb
  obtain ⟨N, hN⟩ : ∃ N, N = threads.length := ⟨_, rfl⟩
  rw [← hN] at hY hbl hbg HTL hr4
  rw [← hN]
  obtain ⟨W0, hW0⟩ : ∃ W0, W0 = (w.alloc (.cells #[.int .i64 W, .slice bo N bcp] 24)).alloc (.cells #[.int .i64 0, .int .i64 0] 74) := ⟨_, rfl⟩
  have hz0 : W0.heap.size = w.heap.size + 2 := by rw [hW0]; simp
  have z1 : (w.alloc (.cells #[.int .i64 W, .slice bo N bcp] 24)).heap.size = w.heap.size + 1 := by simp
  have hB0 : Below w.heap.size w W0 := by rw [hW0]; exact (below_box w _).alloc (by omega) _
  have hG0 : W0.heap[w.heap.size]? = some (.cells #[.int .i64 W, .slice bo N bcp] 24 (0, 0)) := by rw [hW0, Below.heap_alloc _ _ _ (by omega)]; exact (MapKept.heap_alloc _ _).1
  have hS0 : W0.heap[w.heap.size + 1]? = some (.cells #[.int .i64 0, .int .i64 0] 74 (0, 0)) := by rw [hW0, ← z1]; exact (MapKept.heap_alloc _ _).1
  have HSQ := Lib.hid (fun (u : World) (hu : Below W0.heap.size W0 u) => (hu.block (w.heap.size + 1) (by omega)).trans hS0)
  have HGQ := Lib.hid (fun (u : World) (hu : Below W0.heap.size W0 u) => own2 ((hu.block w.heap.size (by omega)).trans hG0))
  have HBW := Lib.hid (fun (u : World) (hu : Below W0.heap.size W0 u) => hB0.trans (hu.mono (show w.heap.size ≤ W0.heap.size by omega)))
  have HC := Lib.hid (fun (g : Gr) (hg : g ∈ threads) (u : World) (hu : Below w.heap.size w u) => checkGraph_any B g W u ((HTI.out g hg).keeps (hu.mono hBw)) (Nat.le_trans hBw hu.size) hW)
  obtain ⟨q0, q1⟩ := own2 hG0
  have hso := HSQ.out W0 (Below.refl _ _)
  have HSO := Lib.hid hso
  have f0 := Lib.frozen_of_heap hso 0
  have f1 := Lib.frozen_of_heap hso 1
  obtain ⟨s0, s1⟩ := own2 hso
  have hB00 := Lib.hid hB0
  have e1 := bld_of 74 #[] #[.int .i64 0, .int .i64 0] (by kernel_rfl)
  have HN := Lib.hid hN
  have HG2 := Lib.hid hbg
  have HZ0 := Lib.hid hz0
  have hz : w.heap.size + 1 < W0.heap.size := by omega
  have hz' : w.heap.size < W0.heap.size := by omega
  have HW0 := Lib.hid hW0
  rw [hW0] at q0 q1 f0 f1 s0 s1
  clear hN hbg hB0 hG0 hS0 hso z1 hW0 hz0
  by_cases a1 : 65536 < W
  · rw [if_pos (.inl a1)] at hY
    have HYF := Lib.hid hY
    clear hY
    go_enter Try.func22, Try.ntmps22
    go_wp2_with fail
    try rw [← HW0.out]
    refine bodyPost_ret (v := .tuple #[.int .i64 0, .agg #[.int .i64 0, .int .i64 0], .int .i64 3]) (results_ck (t := 2) (p := 3) (u := 4) rfl _ _ (w.heap.size + 1) _ _ _ _ rfl rfl rfl HSO.out) rfl ?_
    exact ⟨by rw [HYF.out]; rfl, hB00.out⟩
  by_cases a2 : 4 < N
  · rw [if_pos (.inr a2)] at hY
    have HYF := Lib.hid hY
    clear hY
    go_enter Try.func22, Try.ntmps22
    go_wp2_with fail
    try rw [← HW0.out]
    refine bodyPost_ret (v := .tuple #[.int .i64 0, .agg #[.int .i64 0, .int .i64 0], .int .i64 3]) (results_ck (t := 2) (p := 3) (u := 4) rfl _ _ (w.heap.size + 1) _ _ _ _ rfl rfl rfl HSO.out) rfl ?_
    exact ⟨by rw [HYF.out]; rfl, hB00.out⟩
  rw [if_neg (by omega)] at hY
  by_cases a3 : W < 0
  · rw [if_pos a3] at hY
    have HYF := Lib.hid hY
    clear hY
    go_enter Try.func22, Try.ntmps22
    go_wp2_with fail
    try rw [← HW0.out]
    refine bodyPost_ret (v := .tuple #[.int .i64 0, .agg #[.int .i64 0, .int .i64 0], .int .i64 14]) (results_ck (t := 2) (p := 3) (u := 4) rfl _ _ (w.heap.size + 1) _ _ _ _ rfl rfl rfl HSO.out) rfl ?_
    exact ⟨by rw [HYF.out]; rfl, hB00.out⟩
  rw [if_neg a3] at hY
  have HY := Lib.hid hY
  clear hY s0 s1 f0 f1
  go_enter Try.func22, Try.ntmps22
  go_wp2_with fail
  rw [← HW0.out]
  clear q0 q1
  go_loopw [28] (fun q wr => ∃ p : Nat, p ≤ N ∧ q = .int .i64 p ∧ Below W0.heap.size W0 wr ∧ Hid (Y = checkL W p (threads.drop p))) (fun q _ => N - (intOf q).toNat)
  case atStart => exact ⟨0, Nat.zero_le _, rfl, Below.refl _ _, HY⟩
  case round =>
    obtain ⟨p, hp, rfl, hB, hD⟩ := hrel
    rename World => U
    have hzU := hB.size
    have hso := HSQ.out U hB
    obtain ⟨q0, q1⟩ := HGQ.out U hB
    have hd := hD.out
    by_cases hlt : p < N
    · have hpx : p < threads.length := by rw [← HN.out]; exact hlt
      obtain ⟨g0, off, rfl, hg0⟩ := HG2.out (by omega)
      have hat := ((HTL.out.below ((HBW.out U hB).mono hBw)).at rfl p hpx).2
      have hmem := List.getElem_mem hpx
      rw [List.drop_eq_getElem_cons hpx] at hd
      generalize threads[p] = g at hat hmem hd
      have hgi := (HTI.out g hmem).keeps ((HBW.out U hB).mono hBw)
      obtain ⟨p0, p1, p2⟩ := gc3 hat
      obtain ⟨U1, hU1⟩ : ∃ U1, U1 = U.alloc (.cells #[g.rv, .int .i64 g.sites, g.bv] 45) := ⟨_, rfl⟩
      have hBU : Below U.heap.size U U1 := by rw [hU1]; exact below_box U _
      have hC := HC.out g hmem U1 ((HBW.out U hB).trans (hBU.mono (by omega)))
      obtain ⟨y0, y1, y2⟩ := own3 (MapKept.heap_alloc U (.cells #[g.rv, .int .i64 g.sites, g.bv] 45)).1
      obtain ⟨⟨⟨a, k⟩, er⟩, hr⟩ : ∃ r, checkG W g = r := ⟨_, rfl⟩
      rw [checkL_cons W p g _ a k er hr] at hd
      rw [hr] at hC
      obtain ⟨ro, rc, e2, -, -⟩ := hgi.rlies.form
      obtain ⟨bo2, bcp2, e3, -, -⟩ := hgi.blies.form
      have HU1 := Lib.hid hU1
      rw [e2, e3] at HU1 hC
      rw [e2] at p0
      rw [e3] at p2
      rw [e2, e3] at y0 y1 y2
      have HC1 := Lib.hid hC
      have HB1 := Lib.hid (hB.trans (hBU.mono hzU))
      have hgU : g0 < U.heap.size := by omega
      have hwU : w.heap.size < U.heap.size := by omega
      clear hB hso hat hmem hgi hU1 hBU hC hr e2 e3 hD
      have HD := Lib.hid hd
      clear hd
      go_wp2_with fail
      rw [← HU1.out]
      refine HC1.out.mono ?_; rintro e u2 ⟨rfl, hb2⟩
      have hU2 := HB1.out.trans (hb2.mono HB1.out.size)
      have HB2 := Lib.hid hU2
      have hso := HSQ.out u2 hU2
      clear q0 q1 p0 p1 p2 y0 y1 y2 hb2 hU2
      simp only [cgV]
      by_cases he : er = 0
      · subst he
        have hd := HD.out
        rw [if_pos rfl] at hd
        have HD2 := Lib.hid hd
        have HB3 := Lib.hid (HB2.out.trans ((below_box u2 (.cells #[.int .i64 (a : Int), .int .i64 (k : Int)] 74)).mono HB2.out.size))
        clear hd hso
        go_wp2_with fail
        go_roundw
        case rel => exact ⟨p + 1, hlt, by go_num, HB3.out, HD2⟩
        case measure => simp [intOf]; omega
      · have hd := HD.out
        rw [if_neg he] at hd
        have HYF := Lib.hid hd
        have he1 : (er == 0) = false := by simp only [beq_eq_false_iff_ne, ne_eq]; exact he
        clear hd he hso
        go_wp2_with fail
        obtain ⟨u3, hu3⟩ : ∃ u3, u3 = u2.alloc (.cells #[.int .i64 (a : Int), .int .i64 (k : Int)] 74) := ⟨_, rfl⟩
        rw [← hu3]
        have hz3 : u3.heap.size = u2.heap.size + 1 := by rw [hu3]; simp
        have hB3 : Below W0.heap.size W0 u3 := by rw [hu3]; exact HB2.out.trans ((below_box u2 _).mono HB2.out.size)
        have hT3 : u3.heap[u2.heap.size]? = some (.cells #[.int .i64 (a : Int), .int .i64 (k : Int)] 74 (0, 0)) := by rw [hu3]; exact (MapKept.heap_alloc _ _).1
        have hso := HSQ.out u3 hB3
        have hsz2 := HB2.out.size
        have HSO3 := Lib.hid hso
        have f0 := Lib.frozen_of_heap hso 0
        have f1 := Lib.frozen_of_heap hso 1
        obtain ⟨s0, s1⟩ := own2 hso
        obtain ⟨t0, t1⟩ := own2 hT3
        have HB3 := Lib.hid hB3
        clear hu3 hso hT3 hB3
        refine wp_region_held_drew (S := SameBut (w.heap.size + 1) u3) (by kernel_rfl) (SameBut.drew _ _) (fun hSw => ?_)
        refine wpAnyH_take (i := 0) (oi := { dst := some 42, op := Op.move (Operand.tmp 5), type := 3, pos := "ir.go:20", after := #[], guard := none }) (v := .int .i64 (p : Int)) rfl (by kernel_rfl) (by kernel_rfl) (by kernel_rfl) (fun _ _ _ h => h) (Or.inl ⟨by rfl, fun W hW => ?_⟩) hSw ?_
        · first | (go_simp; done) | rfl
        try simp only [Act.put, List.setIfInBounds_toArray, List.set_cons_zero, List.set_cons_succ]
        refine wpAnyH_take (i := 1) (oi := { dst := some 43, op := Op.load 74 (Operand.tmp 7), type := 74, pos := "ir.go:20", after := #[{ on := 3, ground := Ground.gcOnly Departure.lateStores }], guard := none }) (v := .agg #[.int .i64 (a : Int), .int .i64 (k : Int)]) rfl (by kernel_rfl) (by kernel_rfl) (by kernel_rfl) (fun _ _ _ h => h) (Or.inl ⟨by rfl, fun W hW => ?_⟩) hSw ?_
        · have t0 := hW.cell (by dsimp only; omega) t0
          have t1 := hW.cell (by dsimp only; omega) t1
          first | (go_simp; done) | rfl
        try simp only [Act.put, List.setIfInBounds_toArray, List.set_cons_zero, List.set_cons_succ]
        refine wpAnyH_take (i := 2) (oi := { dst := some 44, op := Op.move (Operand.tmp 8), type := 31, pos := "ir.go:20", after := #[{ on := 4, ground := Ground.gcOnly Departure.lateStores }], guard := none }) (v := .int .i64 er) rfl (by kernel_rfl) (by kernel_rfl) (by kernel_rfl) (fun _ _ _ h => h) (Or.inl ⟨by rfl, fun W hW => ?_⟩) hSw ?_
        · first | (go_simp; done) | rfl
        try simp only [Act.put, List.setIfInBounds_toArray, List.set_cons_zero, List.set_cons_succ]
        refine wpAnyH_take (i := 3) (oi := { dst := some 2, op := Op.assign (Operand.tmp 42), type := 3, pos := "ir.go:20", after := #[{ on := 0, ground := Ground.data }, { on := 0, ground := Ground.phase }, { on := 1, ground := Ground.textOnly Departure.lateStores }, { on := 2, ground := Ground.textOnly Departure.lateStores }], guard := none }) (v := .int .i64 (p : Int)) rfl (by kernel_rfl) (by kernel_rfl) (by kernel_rfl) (fun _ _ _ h => h) (Or.inl ⟨by rfl, fun W hW => ?_⟩) hSw ?_
        · first | (go_simp; done) | rfl
        try simp only [Act.put, List.setIfInBounds_toArray, List.set_cons_zero, List.set_cons_succ]
        refine wpAnyH_ready (rs := [4]) (by kernel_rfl) (by simp) ?_
        refine AllReadyH.cons (o := { dst := none, op := Op.store 74 (Operand.tmp 3) (Operand.tmp 43), type := 0, pos := "ir.go:20", after := #[{ on := 1, ground := Ground.data }, { on := 3, ground := Ground.chain }, { on := 0, ground := Ground.phase }, { on := 1, ground := Ground.phase }, { on := 2, ground := Ground.textOnly Departure.lateStores }, { on := 3, ground := Ground.phase }], guard := none }) rfl (fun K hK => ?_) AllReadyH.nil
        rw [if_pos (by rfl)]
        clear hSw
        go_simp
        
        refine hK.out _ _ (fun j hj hne => (Below.heap_setCell _ _ _ _ (by show j ≠ w.heap.size + 1; exact hne)).trans (Below.heap_setCell _ _ _ _ (by show j ≠ w.heap.size + 1; exact hne))) (fun hSw => ?_)
        clear hK K
        try simp only [Act.put, List.setIfInBounds_toArray, List.set_cons_zero, List.set_cons_succ]
        refine wpAnyH_take (i := 5) (oi := { dst := some 4, op := Op.assign (Operand.tmp 44), type := 31, pos := "ir.go:20", after := #[{ on := 2, ground := Ground.data }, { on := 4, ground := Ground.chain }, { on := 0, ground := Ground.phase }, { on := 1, ground := Ground.phase }, { on := 2, ground := Ground.phase }, { on := 3, ground := Ground.phase }, { on := 4, ground := Ground.phase }], guard := none }) (v := .int .i64 er) rfl (by kernel_rfl) (by kernel_rfl) (by kernel_rfl) (fun _ _ _ h => h) (Or.inl ⟨by rfl, fun W hW => ?_⟩) hSw ?_
        · first | (go_simp; done) | rfl
        try simp only [Act.put, List.setIfInBounds_toArray, List.set_cons_zero, List.set_cons_succ]
        refine wpAnyH_done (by kernel_rfl) ?_ _
        go_wp2_with fail
        refine bodyPost_ret (v := .tuple #[.int .i64 (p : Int), .agg #[.int .i64 (a : Int), .int .i64 (k : Int)], .int .i64 er]) (results_ck (t := 2) (p := 3) (u := 4) rfl _ _ (w.heap.size + 1) _ _ _ _ rfl rfl rfl (put2 HSO3.out _ _)) rfl ?_
        exact ⟨by rw [HYF.out]; rfl, below_drewN (((HBW.out _ HB3.out).setCell (by show w.heap.size ≤ w.heap.size + 1; omega) _).setCell (by show w.heap.size ≤ w.heap.size + 1; omega) _) 1⟩
    · rw [List.drop_eq_nil_of_le (by rw [← HN.out]; omega)] at hd
      have HYF := Lib.hid (show Y = (0, (0, 0), 0) from hd)
      have HSO3 := Lib.hid hso
      have f0 := Lib.frozen_of_heap hso 0
      have f1 := Lib.frozen_of_heap hso 1
      obtain ⟨s0, s1⟩ := own2 hso
      have HB3 := Lib.hid hB
      clear hB hso hD hd
      go_wp2_with fail
      refine bodyPost_ret (v := .tuple #[.int .i64 0, .agg #[.int .i64 0, .int .i64 0], .int .i64 0]) (results_ck (t := 2) (p := 3) (u := 4) rfl _ _ (w.heap.size + 1) _ _ _ _ rfl rfl rfl (put2 HSO3.out _ _)) rfl ?_
      exact ⟨by rw [HYF.out]; rfl, ((HBW.out _ HB3.out).setCell (by show w.heap.size ≤ w.heap.size + 1; omega) _).setCell (by show w.heap.size ≤ w.heap.size + 1; omega) _⟩
end Go.Proofs.Ytijciojipcgiaaa
namespace Go.Proofs.Ytijciojipcgiaaa
open Go.RowKit
set_option maxRecDepth 100000
attribute [local go_sem ↓] bld_eq bls_eq

/-- The error of a run, if any. -/
def refC (W : Int) (l : List Gr) (np : Nat) (fuel : Int) : Int := if (checkC W l).2.2 ≠ 0 then 14 else if fuel < 1 then 1 else if 65536 < np ∨ 1048576 < fuel then 3 else 0
set_option maxHeartbeats 8000000 in
theorem refused_any (B : Nat) (c : Cd) (w : World) (pq : Option Addr) (np pc : Nat) (fuel : Int) (hI : CIn w B c) (hBw : B ≤ w.heap.size) (hnp : np ≤ 140737488351232) (hf : -9223372036854775808 ≤ fuel ∧ fuel ≤ 9223372036854775807) :
    Calls Try.prog 14 #[.agg #[.int .i64 c.words, c.tv], .slice pq np pc, .int .i64 fuel] w fun e w' => e = .returned (.int .i64 (refC c.words c.threads np fuel)) ∧ Below w.heap.size w w' := by
  obtain ⟨Y, hY⟩ : ∃ Y, Y = refC c.words c.threads np fuel := ⟨_, rfl⟩
  rw [← hY]
  unfold refC at hY
  obtain ⟨W0, hW0⟩ : ∃ W0, W0 = w.alloc (.cells #[.int .i64 c.words, c.tv] 24) := ⟨_, rfl⟩
  have hB0 : Below w.heap.size w W0 := by rw [hW0]; exact below_box w _
  have hG0 : W0.heap[w.heap.size]? = some (.cells #[.int .i64 c.words, c.tv] 24 (0, 0)) := by rw [hW0]; exact (MapKept.heap_alloc _ _).1
  have HC := Lib.hid (check_any B c W0 (hI.keeps (hB0.mono hBw)) (Nat.le_trans hBw hB0.size))
  obtain ⟨⟨t, ⟨a, k⟩, er⟩, hr⟩ : ∃ r, checkC c.words c.threads = r := ⟨_, rfl⟩
  rw [hr] at HC hY
  obtain ⟨bo, bcp, eb, -, -⟩ := hI.tlies.form
  obtain ⟨q0, q1⟩ := own2 hG0
  have HB0 := Lib.hid hB0
  have HW0 := Lib.hid hW0
  rw [hW0] at q0 q1
  rw [eb] at HC q1 HW0
  rw [eb]
  have hck : ckV (t, (a, k), er) = .tuple #[.int .i64 (t : Int), .agg #[.int .i64 (a : Int), .int .i64 (k : Int)], .int .i64 er] := rfl
  rw [hck] at HC
  rw [eb] at q0
  clear hI hB0 hG0 hW0 hr eb hck
  have hor : er ≠ 0 ∨ (er = 0 ∧ fuel < 1) ∨ (er = 0 ∧ ¬ fuel < 1 ∧ 65536 < np) ∨ (er = 0 ∧ ¬ fuel < 1 ∧ ¬ 65536 < np ∧ 1048576 < fuel) ∨ (er = 0 ∧ ¬ fuel < 1 ∧ ¬ 65536 < np ∧ ¬ 1048576 < fuel) := by omega
  rcases hor with he | ⟨rfl, h1⟩ | ⟨rfl, h1, h2⟩ | ⟨rfl, h1, h2, h3⟩ | ⟨rfl, h1, h2, h3⟩
  · have hy : Y = 14 := by rw [hY, if_pos he]
    have he1 : (er != 0) = true := by simp only [bne_iff_ne, ne_eq]; exact he
    subst hy
    clear hY he
    go_enter Try.func14, Try.ntmps14
    go_wp2_with fail
    rw [← HW0.out]
    refine HC.out.mono ?_; rintro e w2 ⟨rfl, hb2⟩
    have HB2 := Lib.hid (HB0.out.trans (hb2.mono HB0.out.size))
    have HB3 := Lib.hid (HB2.out.trans ((below_box w2 (.cells #[.int .i64 (a : Int), .int .i64 (k : Int)] 74)).mono HB2.out.size))
    clear hb2 q0 q1
    go_wp2_with fail
    go_ret
    exact ⟨rfl, HB3.out⟩
  all_goals
    have hy : Y = refC c.words c.threads np fuel → True := fun _ => trivial
    have hz := hY
    simp only [ne_eq, not_true_eq_false, if_false] at hz
    first
      | (have h9 : fuel < 1 := by omega
         rw [if_pos h9] at hz)
      | (have h9 : ¬ fuel < 1 := by omega
         have h8 : 65536 < np ∨ 1048576 < fuel := by omega
         rw [if_neg h9, if_pos h8] at hz)
      | (have h9 : ¬ fuel < 1 := by omega
         have h8 : ¬ (65536 < np ∨ 1048576 < fuel) := by omega
         rw [if_neg h9, if_neg h8] at hz)
    subst hz
    clear hY hy
    try clear h8
    try clear h9
    go_enter Try.func14, Try.ntmps14
    go_wp2_with fail
    rw [← HW0.out]
    refine HC.out.mono ?_; rintro e w2 ⟨rfl, hb2⟩
    have HB2 := Lib.hid (HB0.out.trans (hb2.mono HB0.out.size))
    have HB3 := Lib.hid (HB2.out.trans ((below_box w2 (.cells #[.int .i64 (a : Int), .int .i64 (k : Int)] 74)).mono HB2.out.size))
    clear hb2 q0 q1
    go_wp2_with fail
    go_ret
    exact ⟨rfl, HB3.out⟩
end Go.Proofs.Ytijciojipcgiaaa
namespace Go.Proofs.Ytijciojipcgiaaa
open Go.RowKit
set_option maxRecDepth 100000
attribute [local go_sem ↓] bld_eq bls_eq

/-- A row of ints. -/
def Icells (x : Int) : List Value := [.int .i64 x]
/-- What the threads have told and how they stand, as it is answered. -/
def SeenAt (w : World) (sv : Value) (Ts : List TS) : Prop := ∃ L cs, w.ownsRow L 38 2 sv Ts.length cs ∧ ∀ (i : Nat) T, Ts[i]? = some T → ∃ tv, cs[i * 2]? = some tv ∧ cs[i * 2 + 1]? = some (.int .u8 T.fin) ∧ Tail (fun _ => 0) w 0 tv T.told
theorem seenCells_at (w : World) : ∀ (ps : List Nat) (Ts : List TS) (i p : Nat) (T : TS), ps[i]? = some p → Ts[i]? = some T → (seenCells w ps Ts)[i * 2]? = some (tsOf w p) ∧ (seenCells w ps Ts)[i * 2 + 1]? = some (.int .u8 T.fin) := by
  intro ps
  induction ps with
  | nil => intro Ts i p T h; simp at h
  | cons q ps ih =>
    intro Ts i p T h1 h2
    cases Ts with
    | nil => simp at h2
    | cons S Ts =>
      have e : seenCells w (q :: ps) (S :: Ts) = tsOf w q :: .int .u8 S.fin :: seenCells w ps Ts := rfl
      rw [e]
      cases i with
      | zero => simp at h1 h2; subst h1 h2; exact ⟨rfl, rfl⟩
      | succ i =>
        obtain ⟨a, b⟩ := ih Ts i p T (by simpa using h1) (by simpa using h2)
        rw [show (i + 1) * 2 = i * 2 + 1 + 1 by omega]
        exact ⟨by simpa using a, by simpa using b⟩
/-- Labels nought and three keep still. -/
structure Std (ow : Nat → Nat) (a b : World) : Prop where
  os : b.os = a.os
  tape : b.tape = a.tape
  output : b.output = a.output
  size : a.heap.size ≤ b.heap.size
  block : ∀ k, k < a.heap.size → ow k = 0 ∨ ow k = 3 → b.heap[k]? = a.heap[k]?
theorem Std.refl (ow : Nat → Nat) (a : World) : Std ow a a := ⟨rfl, rfl, rfl, Nat.le_refl _, fun _ _ _ => rfl⟩
theorem Std.leap {ow ow2 : Nat → Nat} {a b c : World} {j : Nat} (h : Std ow a b) (he : Ext ow ow2 a) (k : Kp ow2 j b c) : Std ow a c :=
  ⟨k.os.trans h.os, k.tape.trans h.tape, k.output.trans h.output, Nat.le_trans h.size k.size, fun x hx hl => (k.block x (Nat.lt_of_lt_of_le hx h.size) (by rw [he x hx]; unfold Mine; omega)).trans (h.block x hx hl)⟩
theorem Std.low {ow : Nat → Nat} {L : Nat} {w a b : World} (h : Std ow a b) (hb : Below L w a) (hL : L ≤ a.heap.size) (h0 : ∀ k, k < L → ow k = 0) : Below L w b :=
  ⟨h.os.trans hb.os, h.tape.trans hb.tape, h.output.trans hb.output, Nat.le_trans hb.size h.size, fun k hk => (h.block k (by omega) (.inl (h0 k hk))).trans (hb.block k hk)⟩
theorem owns_std {ow : Nat → Nat} {a b : World} {L n size : Nat} {e : TypeId} {v : Value} {xs : List Value} (h : a.ownsRow L e size v n xs) (hs : Std ow a b) (hl : ∀ q, v.ownBlock = some q → ow q = 3) : b.ownsRow L e size v n xs := by
  refine ⟨h.1, ?_⟩
  rcases h.2 with hn | ⟨g, cap, cur, rfl, hb, hg, rest⟩
  · exact .inl hn
  · exact .inr ⟨g, cap, cur, rfl, hb, (hs.block g (heap_lt hg) (.inr (hl g rfl))).trans hg, rest⟩
/-- The world as it is made. -/
theorem newW_at {N n b s : Nat} {w w' : World} {gs : List Gr} (hN : 1 ≤ N) (hN2 : N ≤ 65537) (hn : n ≤ 1048576) (hb : w.heap.size ≤ b) (hs : w.heap.size ≤ s) (hbs : b ≠ s)
    (h1 : w'.heap[b]? = some (.cells (worldC (.slice (some ⟨s, 0, none⟩) N N) n false) 69 (0, 0))) (h2 : w'.heap[s]? = some (.cells (wds (List.replicate N 0)).toArray 2 (0, 0))) :
    ∃ ow : Nat → Nat, WAt ow w' b (RS0 ((N : Int) - 1) gs n).W n (.slice (some ⟨s, 0, none⟩) N N) ∧ ∀ k, k < w.heap.size → ow k = 0 := by
  have hw : ((N : Int) - 1).toNat + 1 = N := by omega
  have hl : (RS0 ((N : Int) - 1) gs n).W.words = List.replicate N 0 := by simp only [RS0]; rw [hw]
  refine ⟨fun x => if x = b then 1 else if x = s then 2 else 0, ⟨h1, ?_, by simp, fun k hk => by cases hk; simp [Ne.symm hbs], hn, by rw [hl]; simp; omega⟩, fun k hk => by simp [show k ≠ b by omega, show k ≠ s by omega]⟩
  rw [hl]
  refine ⟨by simp [wds], .inr ⟨s, N, _, by simp, Nat.zero_le _, h2, by simp, by unfold maxLen; omega, by simp [wds], by simp [wds]⟩⟩
theorem results_wk {fn : Func} {p u : Tmp} (h : fn.results = #[.cell p 30, .tmp u]) (tmps : Array Value) (w : World) (g : Nat) (a b c x : Value) (hp : tmps.getD p undef = .pointer (some ⟨g, 0, none⟩)) (hu : tmps.getD u undef = x) (hr : w.heap[g]? = some (.cells #[a, b, c] 30 (0, 0))) :
    (results fn tmps).run Try.prog w = .ok (.tuple #[.agg #[a, b, c], x]) w := by
  rw [← hu]
  have h2 := run_loadVar_row (P := Try.prog) w g 30 30 #[a, b, c] (0, 0) ((Try.prog.underlying 30).getD (.array 0 0)) hr (by kernel_rfl) (by kernel_rfl) (by kernel_rfl)
  rw [results_cell_tmp h, hp]
  show ((loadVar 30 ⟨g, 0, none⟩).run Try.prog w).andThen _ = _
  rw [h2]
  rfl
theorem put3 {w : World} {b : Nat} {T : TypeId} {fr : Nat × Nat} {x y z : Value} (h : w.heap[b]? = some (.cells #[x, y, z] T fr)) (u v t : Value) : (((w.setCell ⟨b, 0, none⟩ u).setCell ⟨b, 1, none⟩ v).setCell ⟨b, 2, none⟩ t).heap[b]? = some (.cells #[u, v, t] T fr) := by
  rw [put6 (put6 (put6 h 0 u) 1 v) 2 t]; rfl
theorem own3' {w : World} {g : Nat} {a b c : Value} {T : TypeId} {fr : Nat × Nat} (h : w.heap[g]? = some (.cells #[a, b, c] T fr)) : w.cell? ⟨g, 0, none⟩ = some a ∧ w.cell? ⟨g, 1, none⟩ = some b ∧ w.cell? ⟨g, 2, none⟩ = some c := ⟨cellI h 0 _ rfl, cellI h 1 _ rfl, cellI h 2 _ rfl⟩
/-- What is answered in the end. -/
theorem run_end {ow : Nat → Nat} {wx w9 w10 : World} {b rb : Nat} {gs : List Gr} {ps : List Nat} {s : RS} {v sv : Value} (h : EndAt ow wx b gs ps s v) (hpl : ps.length = gs.length) (hb : Below wx.heap.size wx w9) (hown : w9.ownsRow wx.heap.size 38 2 sv s.T.length (seenCells wx ps s.T))
    (hrb : rb < wx.heap.size) (hor : ow rb = 0) (hsz : w9.heap.size ≤ w10.heap.size) (hos : w10.os = w9.os ∧ w10.tape = w9.tape ∧ w10.output = w9.output) (h10 : ∀ k, k ≠ rb → w10.heap[k]? = w9.heap[k]?) : SeenAt w10 sv s.T := by
  have hbut : But ow [0] wx w10 := ⟨hos.1.trans hb.os, hos.2.1.trans hb.tape, hos.2.2.trans hb.output, Nat.le_trans hb.size hsz, fun k hk hl => (h10 k (by rintro rfl; exact hl (by simp [hor]))).trans (hb.block k hk)⟩
  refine ⟨wx.heap.size, _, ⟨hown.1, ?_⟩, fun i T hT => ?_⟩
  · rcases hown.2 with hn | ⟨g, cap, cur, e, hg0, hg, rest⟩
    · exact .inl hn
    · exact .inr ⟨g, cap, cur, e, hg0, (h10 g (by omega)).trans hg, rest⟩
  · have hi : i < gs.length := by rw [← h.tlen]; exact (List.getElem?_eq_some_iff.1 hT).1
    obtain ⟨p, hp⟩ : ∃ p, ps[i]? = some p := ⟨_, List.getElem?_eq_getElem (by omega)⟩
    obtain ⟨rs, us, ts, ws, ht⟩ := h.each i gs[i] T p (List.getElem?_eq_getElem hi) hT hp
    obtain ⟨c1, c2⟩ := seenCells_at wx ps s.T i p T hp hT
    have hto : tsOf wx p = ts := by unfold tsOf; rw [ht.cells.2.2.2.2.2.2.2.2.1]; rfl
    rw [hto] at c1
    refine ⟨ts, c1, c2, ?_⟩
    rcases ht.told.keeps hbut (.refl _ _) (by simp) with q | ⟨g, off, cap, cur, q1, q2, -, q4⟩
    · exact .inl q
    · exact .inr ⟨g, off, cap, cur, q1, q2, rfl, q4⟩
/-- What Run answers. -/
def RunE (c : Cd) (picks : List Int) (fuel : Int) (w : World) (e : Ending) (w' : World) : Prop :=
  Below w.heap.size w w' ∧ ((refC c.words c.threads picks.length fuel ≠ 0 ∧ e = .returned (.tuple #[.agg #[.slice none 0 0, .bool false, .bool false], .int .i64 (refC c.words c.threads picks.length fuel)])) ∨
    (refC c.words c.threads picks.length fuel = 0 ∧ ∃ q cap, e = .returned (.tuple #[.agg #[.slice q c.threads.length cap, .bool (runP c.threads picks (RS0 c.words c.threads fuel.toNat)).2, .bool (runP c.threads picks (RS0 c.words c.threads fuel.toNat)).1.W.strange], .int .i64 0]) ∧
      SeenAt w' (.slice q c.threads.length cap) (runP c.threads picks (RS0 c.words c.threads fuel.toNat)).1.T))
end Go.Proofs.Ytijciojipcgiaaa
