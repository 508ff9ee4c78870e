/- The threads of a run, made: the walk. -/
import Derived.Test.YtijciojipcgiaaaRows
import Derived.Test.YtijciojipcgiaaaWkNewT
import Derived.Test.YtijciojipcgiaaaIrSizes
import Derived.Test.YtijciojipcgiaaaIrBoth
import Derived.Test.YtijciojipcgiaaaWkBack
import Derived.LoopTactic
import Derived.LoopN
import Derived.WalkKit
import Derived.WalkSpells
import Derived.WalkLawsBesides
import Derived.Lib.Hide
import Derived.OrdersHeld
import Derived.Deep.RegionHeld
import Derived.Deep.DrawnRows
import Derived.RegionTactic
import Derived.Deep.RegionHeld3
import Derived.IntWalk
namespace Go.Proofs.Ytijciojipcgiaaa
open Go.RowKit
set_option maxRecDepth 100000
attribute [local go_sem ↓] bld_eq bls_eq

theorem make_ths (n : Nat) (hn : n ≤ 1000) (w : World) : (Instr.makeSlice 61 (.int .i64 0) (.int .i64 (n : Int))).run Try.prog w = .ok (.slice (some ⟨w.heap.size, 0, none⟩) 0 n) (w.alloc (.cells (List.replicate n (.pointer none)).toArray 63)) := by
  obtain ⟨i0, hi, hz0, hz1, hz2⟩ := info_parts infoTh
  have h := run_make (P := Try.prog) w 61 63 i0 (.pointer none) Try.underlying61 hi hz0 .i64 .i64 0 (n : Int) (by omega) (by omega) (by rw [hz2]; omega) (by omega)
  rw [hz1, Int.toNat_natCast, Nat.mul_one] at h
  rw [h, ← made_cells]
  rfl
theorem made_onePtr (p : Nat) (w : World) : (bls 61 1 #[(0, .pointer (some ⟨p, 0, none⟩))]).run Try.prog w = .ok (.slice (some ⟨w.heap.size, 0, none⟩) 1 1) (w.alloc (.cells #[.pointer (some ⟨p, 0, none⟩)] 63)) := bls_of 61 63 1 1 #[(0, .pointer (some ⟨p, 0, none⟩))] #[.pointer (some ⟨p, 0, none⟩)] (by kernel_rfl) (by kernel_rfl) (by kernel_rfl) (by omega) (by omega) (by kernel_rfl) (by kernel_rfl) w
/-- What newThreads answers. -/
def NewTE (ow : Nat → Nat) (B b n : Nat) (WD : Int) (gs : List Gr) (v : Value) (w : World) (e : Ending) (w' : World) : Prop := ∃ ow' ps tv, e = .returned tv ∧ Below w.heap.size w w' ∧ Ext ow ow' w ∧ RunAt ow' w' B b gs ps (RS0 WD gs n) v ∧
  w'.ownsRow w.heap.size 63 1 tv gs.length (ps.map ptrV) ∧ ∀ q, tv.ownBlock = some q → ow' q = 3
theorem run0 {ow : Nat → Nat} {w W1 : World} {B b n : Nat} {WD : Int} {gs : List Gr} {v : Value} (h1 : WAt ow w b (RS0 WD gs n).W n v) (hB : B ≤ w.heap.size) (hlow : ∀ k, k < B → ow k = 0) (hb : Below w.heap.size w W1) :
    ∃ ow', Ext ow ow' w ∧ RunAt ow' W1 B b (gs.take 0) [] (RS0 WD (gs.take 0) n) v ∧ ∀ q, w.heap.size ≤ q → ow' q = 3 := by
  have he : Ext ow (fun x => if x < w.heap.size then ow x else 3) w := fun x hx => by simp [hx]
  refine ⟨_, he, ⟨h1.keeps (But.of (ls := []) hb) he (by simp) (by simp), Nat.le_trans hB hb.size, fun x hx => by simp [show x < w.heap.size by omega]; exact hlow x hx, by simp [RS0], rfl, by simp [RS0], fun j g T p e1 _ _ => by simp at e1⟩, fun q hq => by simp; omega⟩
set_option maxHeartbeats 8000000 in
theorem newThreads_any (ow : Nat → Nat) (w : World) (B b n : Nat) (c : Cd) (v : Value) (hI : CIn w B c) (h1 : WAt ow w b (RS0 c.words c.threads n).W n v) (hB : B ≤ w.heap.size) (hlow : ∀ k, k < B → ow k = 0) (hok : ∀ g ∈ c.threads, GOk g ∧ g.refs.length ≤ 1024) (hn : n ≤ 1048576) (h4 : c.threads.length ≤ 4) :
    Calls Try.prog 16 #[.agg #[.int .i64 c.words, c.tv], .pointer (some ⟨b, 0, none⟩)] w (NewTE ow B b n c.words c.threads v w) := by
  obtain ⟨bo, bcp, eb, hbl, hbg⟩ := hI.tlies.form
  have HTL := Lib.hid hI.tlies
  have HTI := Lib.hid hI.threads
  clear hI
  obtain ⟨WD, tv, threads⟩ := c
  simp only at *
  subst eb
  obtain ⟨N, hN⟩ : ∃ N, N = threads.length := ⟨_, rfl⟩
  rw [← hN] at hbl hbg HTL h4
  rw [← hN]
  obtain ⟨W0, hW0⟩ : ∃ W0, W0 = w.alloc (.cells #[.int .i64 WD, .slice bo N bcp] 24) := ⟨_, rfl⟩
  have hz0 : W0.heap.size = w.heap.size + 1 := by rw [hW0]; simp
  have hB0 : Below w.heap.size w W0 := by rw [hW0]; exact below_box w _
  have hG0 : W0.heap[w.heap.size]? = some (.cells #[.int .i64 WD, .slice bo N bcp] 24 (0, 0)) := by rw [hW0]; exact (MapKept.heap_alloc _ _).1
  obtain ⟨O1, hO1⟩ : ∃ O, O = Obj.cells (List.replicate N (.pointer none)).toArray 63 := ⟨_, rfl⟩
  obtain ⟨W1, hW1⟩ : ∃ W1, W1 = W0.alloc O1 := ⟨_, rfl⟩
  have hB1 : Below w.heap.size w W1 := by rw [hW1]; exact hB0.alloc (by omega) _
  have hz1 : W1.heap.size = w.heap.size + 2 := by rw [hW1]; simp [hz0]
  have hmk := make_ths N (by omega)
  rw [← hO1] at hmk
  obtain ⟨ow1, g1, g2, g3⟩ := run0 h1 hB hlow hB1
  have hrow1 : W1.ownsRow w.heap.size 63 1 (.slice (some ⟨w.heap.size + 1, 0, none⟩) 0 N) 0 (([] : List Nat).map ptrV) := by
    have h := World.ownsRow_made (base := w.heap.size) W0 (List.replicate N (.pointer none)).toArray N (e := 63) (size := 1) (by omega) (by unfold maxLen; omega) (by simp)
    rw [hz0, ← hO1, ← hW1] at h
    exact h
  have HG1 := Lib.hid g1
  have HG2 := Lib.hid g2
  have HG3 := Lib.hid (g3 (w.heap.size + 1) (by omega))
  have HRW1 := Lib.hid hrow1
  have HB1 := Lib.hid hB1
  have HB := Lib.hid hB
  have HOK := Lib.hid hok
  have HNN := Lib.hid hN
  have HBG := Lib.hid hbg
  have HW1 := Lib.hid hW1
  obtain ⟨q0, q1⟩ := own2 hG0
  obtain ⟨r0, r1⟩ := own2 ((Below.heap_alloc W0 O1 w.heap.size (by omega)).trans hG0)
  rw [← hW1] at r0 r1
  have HZ1 := Lib.hid hz1
  have HW0 := Lib.hid hW0
  rw [hW0] at q0 q1
  clear h1 hB hlow hok g1 g2 g3 hrow1 hB0 hG0 hB1 hW0 hz0 hN hbg hO1 hz1 hW1
  go_enter Try.func16, Try.ntmps16
  go_wp2_with fail
  rw [← HW0.out, ← HW1.out]
  clear q0 q1 r0 r1
  go_loopw [5, 15] (fun tv q wr => ∃ (k : Nat) (ps : List Nat) (ow2 : Nat → Nat), k ≤ N ∧ q = .int .i64 k ∧ Below w.heap.size w wr ∧ Hid (Ext ow ow2 w ∧ RunAt ow2 wr B b (threads.take k) ps (RS0 WD (threads.take k) n) v ∧ wr.ownsRow w.heap.size 63 1 tv k (ps.map ptrV) ∧ ∀ x, tv.ownBlock = some x → ow2 x = 3)) (fun _ q _ => N - (intOf q).toNat)
  case atStart => exact ⟨0, [], ow1, by omega, rfl, HB1.out, Lib.hid ⟨HG1.out, HG2.out, HRW1.out, fun x hx => by cases hx; exact HG3.out⟩⟩
  case round =>
    obtain ⟨k, ps, ow2, hkN, rfl, hBr, hD⟩ := hrel
    by_cases hlt : k < N
    · obtain ⟨g0, off, rfl, hg0⟩ := HBG.out (by omega)
      have hka : k < threads.length := by rw [← HNN.out]; exact hlt
      have hsr := hBr.size
      have hgk : threads[k]? = some threads[k] := List.getElem?_eq_getElem hka
      have hat := gr3 (HTL.out.below (hBr.mono HB.out)) k hka
      have hgi := (HTI.out _ (List.getElem_mem hka)).keeps (hBr.mono HB.out)
      have hgo := HOK.out _ (List.getElem_mem hka)
      generalize threads[k] = g at hat hgi hgo hgk
      obtain ⟨p0, p1, p2⟩ := hat
      obtain ⟨U, hU⟩ : ∃ U, U = wr.alloc (.cells #[g.rv, .int .i64 g.sites, g.bv] 45) := ⟨_, rfl⟩
      have hBU : Below wr.heap.size wr U := by rw [hU]; exact below_box wr _
      have hzU : U.heap.size = wr.heap.size + 1 := by rw [hU]; simp
      have hOU : U.heap[wr.heap.size]? = some (.cells #[g.rv, .int .i64 g.sites, g.bv] 45 (0, 0)) := by rw [hU]; exact (MapKept.heap_alloc _ _).1
      obtain ⟨gq, cap, w4, hr, hsame, hb4, hown4, ow4, e4, hrun4, hq4⟩ := newT_round hD.out.2.1 hgk hgo.1 hn (by omega) hsr hBr hD.out.2.2.1 hD.out.2.2.2 hBU hzU
      obtain ⟨ro, rc, er, -, -⟩ := hgi.rlies.form
      obtain ⟨bo2, bc, ebb, -, -⟩ := hgi.blies.form
      obtain ⟨NR, hNR⟩ : ∃ N, N = g.refs.length := ⟨_, rfl⟩
      have hmi := make_ints NR (by omega)
      obtain ⟨OR, hOR⟩ : ∃ O, O = (wds (List.replicate NR 0)).toArray := ⟨_, rfl⟩
      have e7 := fun (r : Nat) => bld_of 80 #[(0, .pointer (some ⟨b, 0, none⟩)), (1, .agg #[g.rv, .int .i64 g.sites, g.bv]), (2, .slice (some ⟨r, 0, none⟩) NR NR)] (threadC b g (.slice (some ⟨r, 0, none⟩) NR NR) (TS0 g) (.slice none 0 0) (.slice none 0 0) (.slice none 0 0)) (by kernel_rfl)
      obtain ⟨C, hC⟩ : ∃ C : Nat → Array Value, C = fun r => threadC b g (.slice (some ⟨r, 0, none⟩) NR NR) (TS0 g) (.slice none 0 0) (.slice none 0 0) (.slice none 0 0) := ⟨_, rfl⟩
      have hCe : ∀ r, threadC b g (.slice (some ⟨r, 0, none⟩) NR NR) (TS0 g) (.slice none 0 0) (.slice none 0 0) (.slice none 0 0) = C r := fun r => by rw [hC]
      simp only [hCe] at e7
      rw [← hNR, hCe, ← hOR] at hr
      rw [← hOR] at hmi
      have e9 := made_onePtr
      unfold ptrV at hr
      obtain ⟨y0, y1, y2⟩ := own3 hOU
      rw [er, ← hNR] at p0 y0 e7
      rw [ebb] at p2 y2 e7
      have hU2 := hU
      rw [er, ← hNR, ebb] at hU2
      have HU := Lib.hid hU2
      have HR := Lib.hid hr
      have HS := Lib.hid hsame
      have HF := Lib.hid (show k + 1 ≤ N ∧ Below w.heap.size w w4 ∧ Hid (Ext ow ow4 w ∧ RunAt ow4 w4 B b (threads.take (k + 1)) (ps ++ [U.heap.size + 1]) (RS0 WD (threads.take (k + 1)) n) v ∧ w4.ownsRow w.heap.size 63 1 (.slice (some ⟨gq, 0, none⟩) (k + 1) cap) (k + 1) ((ps ++ [U.heap.size + 1]).map ptrV) ∧ ∀ x, (Value.slice (some ⟨gq, 0, none⟩) (k + 1) cap).ownBlock = some x → ow4 x = 3) from
        ⟨hlt, hb4, Lib.hid ⟨fun x hx => (e4 x (by omega)).trans (hD.out.1 x hx), hrun4, hown4, fun x hx => by cases hx; exact hq4⟩⟩)
      have hgw : g0 < wr.heap.size := by have := HB.out; omega
      have hlu : wr.heap.size < U.heap.size := by omega
      have HD := Lib.hid hD.out.2.2.1
      clear hzU hBr hD hgk hgi hgo hU hU2 hBU hOU hr hsame hb4 hown4 e4 hrun4 hq4 er ebb hC hCe hNR hOR
      obtain ⟨tq, tcap, htv⟩ : ∃ q c, u5 = .slice q k c := by
        rcases HD.out.2 with ⟨e, e2⟩ | ⟨gg, cap, cur, e, _⟩
        · exact ⟨none, 0, by rw [e, e2]⟩
        · exact ⟨_, _, e⟩
      subst htv
      go_wp2_with fail
      rw [← HU.out]

      refine wp_region_held_drew (S := SameOn (fun x => x = wr.heap.size ∨ x = wr.heap.size) U) (by kernel_rfl) (SameOn.drew _ _) (fun hSw => ?_)
      refine wpAnyH_take (i := 0) (oi := { dst := some 19, op := Op.move (Operand.tmp 5), type := 61, pos := "thread.go:31", after := #[], guard := none }) (v := .slice tq k tcap) rfl (by kernel_rfl) (by kernel_rfl) (by kernel_rfl) (fun _ _ _ h => h) (Or.inl ⟨by rfl, fun W hW => ?_⟩) hSw ?_
      · first | (go_simp; done) | rfl
      try simp only [Act.put, List.setIfInBounds_toArray, List.set_cons_zero, List.set_cons_succ]
      refine wpAnyH_take (i := 1) (oi := { dst := some 20, op := Op.move (Operand.tmp 1), type := 59, pos := "thread.go:31", after := #[], guard := none }) (v := .pointer (some ⟨b, 0, none⟩)) rfl (by kernel_rfl) (by kernel_rfl) (by kernel_rfl) (fun _ _ _ h => h) (Or.inl ⟨by rfl, fun W hW => ?_⟩) hSw ?_
      · first | (go_simp; done) | rfl
      try simp only [Act.put, List.setIfInBounds_toArray, List.set_cons_zero, List.set_cons_succ]
      refine wpAnyH_take (i := 2) (oi := { dst := some 21, op := Op.load 45 (Operand.tmp 7), type := 45, pos := "thread.go:31", after := #[], guard := none }) (v := .agg #[.slice ro NR rc, .int .i64 g.sites, .slice bo2 g.blocks.length bc]) rfl (by kernel_rfl) (by kernel_rfl) (by kernel_rfl) (fun _ _ _ h => h) (Or.inl ⟨by rfl, fun W hW => ?_⟩) hSw ?_
      · have y0 := hW.cell (by dsimp only; omega) y0
        have y1 := hW.cell (by dsimp only; omega) y1
        have y2 := hW.cell (by dsimp only; omega) y2
        first | (go_simp; done) | rfl
      try simp only [Act.put, List.setIfInBounds_toArray, List.set_cons_zero, List.set_cons_succ]
      refine wpAnyH_take (i := 3) (oi := { dst := some 22, op := Op.fieldAddr 45 (Operand.tmp 7) 0, type := 0, pos := "thread.go:31", after := #[], guard := none }) (v := .pointer (some ⟨wr.heap.size, 0, none⟩)) rfl (by kernel_rfl) (by kernel_rfl) (by kernel_rfl) (fun _ _ _ h => h) (Or.inl ⟨by rfl, fun W hW => ?_⟩) hSw ?_
      · first | (go_simp; done) | rfl
      try simp only [Act.put, List.setIfInBounds_toArray, List.set_cons_zero, List.set_cons_succ]
      refine wpAnyH_take (i := 4) (oi := { dst := some 23, op := Op.load 42 (Operand.tmp 22), type := 42, pos := "thread.go:31", after := #[{ on := 3, ground := Ground.data }], guard := none }) (v := .slice ro NR rc) rfl (by kernel_rfl) (by kernel_rfl) (by kernel_rfl) (fun _ _ _ h => h) (Or.inl ⟨by rfl, fun W hW => ?_⟩) hSw ?_
      · have y0 := hW.cell (by dsimp only; omega) y0
        first | (go_simp; done) | rfl
      try simp only [Act.put, List.setIfInBounds_toArray, List.set_cons_zero, List.set_cons_succ]
      refine wpAnyH_take (i := 5) (oi := { dst := some 24, op := Op.call { callee := Callee.builtin Builtin.len, args := #[Operand.tmp 23], argTypes := #[42] }, type := 3, pos := "thread.go:31", after := #[{ on := 4, ground := Ground.data }], guard := none }) (v := .int .i64 (NR : Int)) rfl (by kernel_rfl) (by kernel_rfl) (by kernel_rfl) (fun _ _ _ h => h) (Or.inl ⟨by rfl, fun W hW => ?_⟩) hSw ?_
      · first | (go_simp; done) | rfl
      try simp only [Act.put, List.setIfInBounds_toArray, List.set_cons_zero, List.set_cons_succ]
      refine wpAnyH_ready (rs := [6]) (by kernel_rfl) (by simp) ?_
      refine AllReadyH.cons (o := { dst := some 25, op := Op.makeSlice 35 (Operand.tmp 24) (Operand.tmp 24), type := 35, pos := "thread.go:31", after := #[{ on := 5, ground := Ground.data }, { on := 5, ground := Ground.data }], guard := none }) rfl (fun K hK => ?_) AllReadyH.nil
      rw [if_pos (by rfl)]
      clear hSw
      go_simp
      refine hK.out _ _ (fun x hx => Below.heap_alloc U.drew _ x (by show x < U.heap.size; omega)) (fun hSw => ?_)
      clear hK K
      try simp only [Act.put, List.setIfInBounds_toArray, List.set_cons_zero, List.set_cons_succ]
      refine wpAnyH_take (i := 7) (oi := { dst := some 26, op := Op.build 80 #[(0, Operand.tmp 20), (1, Operand.tmp 21), (2, Operand.tmp 25)], type := 80, pos := "thread.go:31", after := #[{ on := 1, ground := Ground.data }, { on := 2, ground := Ground.data }, { on := 6, ground := Ground.data }], guard := none }) (v := .agg (C U.heap.size)) rfl (by kernel_rfl) (by kernel_rfl) (by kernel_rfl) (fun _ _ _ h => h) (Or.inl ⟨by rfl, fun W hW => ?_⟩) hSw ?_
      · have e7x := e7 U.heap.size; first | (go_simp; done) | rfl
      try simp only [Act.put, List.setIfInBounds_toArray, List.set_cons_zero, List.set_cons_succ]
      refine wpAnyH_ready (rs := [8]) (by kernel_rfl) (by simp) ?_
      refine AllReadyH.cons (o := { dst := some 27, op := Op.box 80 (Operand.tmp 26), type := 63, pos := "thread.go:31", after := #[{ on := 7, ground := Ground.data }], guard := none }) rfl (fun K hK => ?_) AllReadyH.nil
      rw [if_pos (by rfl)]
      clear hSw
      go_simp
      refine hK.out _ _ (fun x hx => (Below.heap_alloc _ _ _ (by simp; omega)).trans (Below.heap_alloc U.drew _ x (by show x < U.heap.size; omega))) (fun hSw => ?_)
      clear hK K
      try simp only [Act.put, List.setIfInBounds_toArray, List.set_cons_zero, List.set_cons_succ]
      refine wpAnyH_ready (rs := [9]) (by kernel_rfl) (by simp) ?_
      refine AllReadyH.cons (o := { dst := some 28, op := Op.buildSlice 61 1 #[(0, Operand.tmp 27)], type := 61, pos := "thread.go:31", after := #[{ on := 8, ground := Ground.data }], guard := none }) rfl (fun K hK => ?_) AllReadyH.nil
      rw [if_pos (by rfl)]
      clear hSw
      go_simp
      refine hK.out _ _ (fun x hx => (Below.heap_alloc _ _ _ (by simp; omega)).trans ((Below.heap_alloc _ _ _ (by simp; omega)).trans (Below.heap_alloc U.drew _ x (by show x < U.heap.size; omega)))) (fun hSw => ?_)
      clear hK K
      try simp only [Act.put, List.setIfInBounds_toArray, List.set_cons_zero, List.set_cons_succ]
      refine wpAnyH_ready (rs := [10]) (by kernel_rfl) (by simp) ?_
      refine AllReadyH.cons (o := { dst := some 29, op := Op.call { callee := Callee.builtin Builtin.append, args := #[Operand.tmp 19, Operand.tmp 28], argTypes := #[61, 61] }, type := 61, pos := "thread.go:31", after := #[{ on := 0, ground := Ground.data }, { on := 9, ground := Ground.data }], guard := none }) rfl (fun K hK => ?_) AllReadyH.nil
      rw [if_pos (by rfl)]
      clear hSw
      refine Lib.wp_append_run _ _ _ _ _ rfl _ _ rfl rfl _ w4 HR.out ?_
      refine hK.out _ _ (fun x hx => HS.out x (by omega)) (fun hSw => ?_)
      clear hK K
      try simp only [Act.put, List.setIfInBounds_toArray, List.set_cons_zero, List.set_cons_succ]
      refine wpAnyH_take (i := 11) (oi := { dst := some 5, op := Op.assign (Operand.tmp 29), type := 61, pos := "thread.go:31", after := #[{ on := 10, ground := Ground.data }, { on := 10, ground := Ground.chain }, { on := 0, ground := Ground.phase }, { on := 1, ground := Ground.phase }, { on := 2, ground := Ground.phase }, { on := 3, ground := Ground.phase }, { on := 4, ground := Ground.phase }, { on := 5, ground := Ground.phase }, { on := 6, ground := Ground.phase }, { on := 7, ground := Ground.phase }, { on := 8, ground := Ground.phase }, { on := 9, ground := Ground.phase }, { on := 10, ground := Ground.phase }], guard := none }) (v := .slice (some ⟨gq, 0, none⟩) (k + 1) cap) rfl (by kernel_rfl) (by kernel_rfl) (by kernel_rfl) (fun _ _ _ h => h) (Or.inl ⟨by rfl, fun W hW => ?_⟩) hSw ?_
      · first | (go_simp; done) | rfl
      try simp only [Act.put, List.setIfInBounds_toArray, List.set_cons_zero, List.set_cons_succ]
      refine wpAnyH_done (by kernel_rfl) ?_ _
      go_wp2_with fail
      go_roundw
      case rel => exact ⟨k + 1, _, ow4, HF.out.1, by go_num, HF.out.2.1, HF.out.2.2⟩
      case measure => simp [intOf]; omega
    · have hk : k = N := by omega
      subst hk
      have HD := Lib.hid hD.out
      have HBR := Lib.hid hBr
      clear hBr hD
      go_wp2_with fail
      go_ret
      have h := HD.out
      rw [show threads.take k = threads by rw [HNN.out]; exact List.take_length] at h
      exact ⟨ow2, ps, u5, rfl, HBR.out, h.1, h.2.1, by rw [← HNN.out]; exact h.2.2.1, h.2.2.2⟩
end Go.Proofs.Ytijciojipcgiaaa
