/- The first spot of a graph that may not be by itself. -/
import Derived.Test.YtgkjhnghibpeoaaDoorRows
import Derived.Test.YtgkjhnghibpeoaaDoorIrNew
import Derived.Test.YtgkjhnghibpeoaaDoorIrLeaf
import Derived.LoopTactic
import Derived.LoopN
import Derived.Deep.LoopGhost
import Derived.WalkKit
import Derived.WalkSpells
import Derived.WalkLawsBesides
import Derived.Lib.Hide
import Derived.Laws.ResultCell
namespace Go.Proofs.YtgkjhnghibpeoaaDoor
open Go.RowKit
set_option maxRecDepth 100000
attribute [local go_sem ↓] bld_eq bls_eq

/-- A spot and whether there is one, as an answer. -/
def spotV : Option (Nat × Nat) → Value
  | none => .tuple #[.agg #[.int .i64 0, .int .i64 0], .bool false]
  | some (n, k) => .tuple #[.agg #[.int .i64 (n : Int), .int .i64 (k : Int)], .bool true]
theorem results_spot {fn : Func} {p u : Tmp} (h : fn.results = #[.cell p 41, .tmp u]) (tmps : Array Value) (w : World) (g : Nat) (a b x : Value) (hp : tmps.getD p undef = .pointer (some ⟨g, 0, none⟩)) (hu : tmps.getD u undef = x) (hr : w.heap[g]? = some (.cells #[a, b] 41 (0, 0))) :
    (results fn tmps).run Tryd.prog w = .ok (.tuple #[.agg #[a, b], x]) w := by
  rw [← hu]
  have h2 := run_loadVar_row (P := Tryd.prog) w g 41 41 #[a, b] (0, 0) ((Tryd.prog.underlying 41).getD (.array 0 0)) hr (by kernel_rfl) (by kernel_rfl) (by kernel_rfl)
  rw [results_cell_tmp h, hp]
  show ((loadVar 41 ⟨g, 0, none⟩).run Tryd.prog w).andThen _ = _
  rw [h2]
  rfl
theorem put2 {w : World} {b : Nat} {T : TypeId} {fr : Nat × Nat} {x y : Value} (h : w.heap[b]? = some (.cells #[x, y] T fr)) (u v : Value) : ((w.setCell ⟨b, 0, none⟩ u).setCell ⟨b, 1, none⟩ v).heap[b]? = some (.cells #[u, v] T fr) := by
  rw [put6 (put6 h 0 u) 1 v]; rfl
theorem Aside.fresh {m : Nat} {a b : World} (h : Aside m a b) (p : Addr) (v : Value) (hp : a.heap.size ≤ p.block) : Aside m a (b.setCell p v) :=
  ⟨h.os, h.tape, h.output, by have := h.size; simpa [World.setCell] using this, fun k hk hm => (Below.heap_setCell _ _ _ _ (by omega)).trans (h.block k hk hm)⟩
theorem Aside.cells {m : Nat} {a b : World} (h : Aside m a b) {k : Nat} {o : Obj} (hk : a.heap[k]? = some o) (hm : k ≠ m) : b.heap[k]? = some o := (h.block k (Array.getElem?_eq_some_iff.1 hk).1 hm).trans hk
/-- What is said behind a block's instructions. -/
def firstZ (R : List Bool) (W : Int) (nb n : Nat) (b : Bk) (l : List Bk) : Option Nat × List Bool → Option (Nat × Nat)
  | (some k, _) => some (n, k)
  | (none, M') => if lastB R nb b = true then firstB R W nb (n + 1) M' l else some (n, b.ins.length)
theorem firstB_cons (R : List Bool) (W : Int) (nb n : Nat) (M : List Bool) (b : Bk) (l : List Bk) {Z : Option Nat × List Bool} (hZ : firstI R W 0 M b.ins = Z) : firstB R W nb n M (b :: l) = firstZ R W nb n b l Z := by
  subst hZ
  rw [firstB]
  generalize firstI R W 0 M b.ins = Z
  obtain ⟨x, y⟩ := Z
  cases x <;> rfl
theorem firstI_yes {R : List Bool} {W : Int} {k : Nat} {M : List Bool} {i : In} {l : List In} (h : insB R W M i = true) : firstI R W k M (i :: l) = firstI R W (k + 1) (insM R W M i) l := by
  rw [insM_yes h, firstI, if_pos h]
theorem firstI_no {R : List Bool} {W : Int} {k : Nat} {M : List Bool} {i : In} {l : List In} (h : insB R W M i = false) : firstI R W k M (i :: l) = (some k, M) := by
  rw [firstI, if_neg (by rw [h]; exact Bool.false_ne_true)]
/-- A round over the blocks: the checker, the answer's own cells. -/
structure FwAt (w : World) (B c m : Nat) (g : Gr) (W : Int) (M : List Bool) (wr : World) : Prop where
  ck : CkAt wr B c m g W M
  aside : Aside m w wr
  own : wr.heap[w.heap.size]? = some (.cells #[.int .i64 0, .int .i64 0] 41 (0, 0))
theorem FwAt.step {w : World} {B c m : Nat} {g : Gr} {W : Int} {M M' : List Bool} {wr wr' : World} (h : FwAt w B c m g W M wr) (hm : m < w.heap.size) (h1 : CkAt wr' B c m g W M') (h2 : Aside m wr wr') : FwAt w B c m g W M' wr' :=
  ⟨h1, h.aside.trans h2, h2.cells h.own (by omega)⟩
theorem FwAt.below {w : World} {B c m : Nat} {g : Gr} {W : Int} {M : List Bool} {wr wr' : World} (h : FwAt w B c m g W M wr) (hm : m < w.heap.size) (h2 : Below wr.heap.size wr wr') : FwAt w B c m g W M wr' := h.step hm (h.ck.keeps h2) (Aside.of h2)

/-- What firstWrong answers. -/
def FwE (m : Nat) (Y : Option (Nat × Nat)) (w : World) (e : Ending) (w' : World) : Prop := e = .returned (spotV Y) ∧ Aside m w w'
set_option maxHeartbeats 16000000 in
theorem firstWrong_any (B c m : Nat) (g : Gr) (W : Int) (M : List Bool) (w : World) (h : CkAt w B c m g W M) :
    Calls Tryd.prog 51 #[.pointer (some ⟨c, 0, none⟩)] w (FwE m (firstB g.refs W g.blocks.length 0 M g.blocks) w) := by
  obtain ⟨Y, hY⟩ : ∃ Y, Y = firstB g.refs W g.blocks.length 0 M g.blocks := ⟨_, rfl⟩
  rw [← hY]
  obtain ⟨bo, bcap, eb, hlen, hbg⟩ := h.here.blies.form
  have hroom := h.here.blies.room
  have hlm := h.lt.2
  have hlc := h.lt.1
  have hbase := h.base
  have hq := h.box
  have HBL := Lib.hid (fun (u : World) (M' : List Bool) (hu : CkAt u B c m g W M') => hu.here.blies)
  have HBI := Lib.hid (fun (u : World) (M' : List Bool) (hu : CkAt u B c m g W M') => hu.here.blocks)
  rw [eb] at hq HBL
  obtain ⟨NB, hNB⟩ : ∃ N, N = g.blocks.length := ⟨_, rfl⟩
  rw [← hNB] at hq hlen hbg hroom hY HBL
  obtain ⟨q0, q1, q2, q3, q4⟩ := own5 hq
  have HS := Lib.hid (show FwAt w B c m g W M (w.alloc (.cells #[.int .i64 0, .int .i64 0] 41)) from ⟨h.keeps (below_box w _), Aside.of (below_box w _), (MapKept.heap_alloc _ _).1⟩)
  have HBG := Lib.hid hbg
  have HN := Lib.hid hNB
  have HY := Lib.hid hY
  have HIA := Lib.hid (fun (M' : List Bool) (i : In) (u : World) (hu : CkAt u B c m g W M') => ins_any B c m g W M' i u hu)
  have HLA := Lib.hid (fun (M' : List Bool) (b : Bk) (u : World) (hu : CkAt u B c m g W M') (hv : ∃ ao n cap, b.iv = .slice ao n cap) => last_any B c m g W M' b u hu hv)
  have e0 := fun (x y : Int) => bld_of 41 #[(0, .int .i64 x), (1, .int .i64 y)] #[.int .i64 x, .int .i64 y] (by kernel_rfl)
  have e1 := bld_of 41 #[] #[.int .i64 0, .int .i64 0] (by kernel_rfl)
  clear h hq hbg hNB hY eb
  go_enter Tryd.func51, Tryd.ntmps51
  go_wp2_with fail
  go_loopw [14] (fun q wr => ∃ (p : Nat) (M1 : List Bool), p ≤ NB ∧ q = .int .i64 p ∧ FwAt w B c m g W M1 wr ∧ Hid (firstB g.refs W NB p M1 (g.blocks.drop p) = Y)) (fun q _ => NB - (intOf q).toNat)
  case atStart => exact ⟨0, M, Nat.zero_le _, rfl, HS.out, Lib.hid HY.out.symm⟩
  case round =>
    obtain ⟨p, M1, hp, rfl, hF, hD⟩ := hrel
    rename World => U
    have HF := Lib.hid hF
    by_cases hlt : p < NB
    · have hpx : p < g.blocks.length := by rw [← HN.out]; exact hlt
      obtain ⟨g0, off, rfl, hg0⟩ := HBG.out (by omega)
      have hat := ((HBL.out U M1 hF.ck).at rfl p hpx).2
      have hbi := HBI.out U M1 hF.ck _ (List.getElem_mem hpx)
      have hd := hD.out
      rw [List.drop_eq_getElem_cons hpx] at hd
      generalize hbb : g.blocks[p] = b at hat hbi hd
      have HBB := Lib.hid (fun (u : World) (M' : List Bool) (hu : CkAt u B c m g W M') => hbb ▸ HBI.out u M' hu _ (List.getElem_mem hpx))
      obtain ⟨Z, hZ⟩ : ∃ Z, firstI g.refs W 0 M1 b.ins = Z := ⟨_, rfl⟩
      rw [firstB_cons _ _ _ _ _ _ _ hZ] at hd
      have HD := Lib.hid hd
      have HZ := Lib.hid hZ
      obtain ⟨io, icap, eiv, hilen, hig⟩ := hbi.lies.form
      have hiroom := hbi.lies.room
      have HV := Lib.hid (show ∃ ao n cap, b.iv = .slice ao n cap from ⟨_, _, _, eiv⟩)
      have HLB := Lib.hid (fun (M' : List Bool) (u : World) (hu : CkAt u B c m g W M') => HLA.out M' b u hu HV.out)
      have HEV := Lib.hid eiv
      obtain ⟨n, hn⟩ : ∃ n, n = b.ins.length := ⟨_, rfl⟩
      rw [← hn] at eiv hilen hig hiroom
      obtain ⟨p0, p1, p2, p3, p4⟩ := bc hat
      rw [eiv] at p0 HLB
      have HNN := Lib.hid hn
      have HIG := Lib.hid hig
      have hgU : g0 < U.heap.size := by have := hF.ck.base.2.2.2; omega
      have hzU := hF.aside.size
      have HFB := Lib.hid (hF.below hlm (below_box U (.cells #[.slice io n icap, .int .u8 b.last, .int .i64 b.reg, .int .i64 b.yes, .int .i64 b.no] 36)))
      have HBX := Lib.hid (show (U.alloc (.cells #[.slice io n icap, .int .u8 b.last, .int .i64 b.reg, .int .i64 b.yes, .int .i64 b.no] 36)).heap[U.heap.size]? = some (.cells #[.slice io n icap, .int .u8 b.last, .int .i64 b.reg, .int .i64 b.yes, .int .i64 b.no] 36 (0, 0)) from (MapKept.heap_alloc _ _).1)
      clear hF hD hat hbi hd hbb hZ hn hig eiv
      go_wp2_with fail
      go_loopw [22] (fun q wr => ∃ (k : Nat) (M2 : List Bool), k ≤ n ∧ q = .int .i64 k ∧ FwAt w B c m g W M2 wr ∧ wr.heap[U.heap.size]? = some (.cells #[.slice io n icap, .int .u8 b.last, .int .i64 b.reg, .int .i64 b.yes, .int .i64 b.no] 36 (0, 0)) ∧ Hid (firstI g.refs W k M2 (b.ins.drop k) = Z)) (fun q _ => n - (intOf q).toNat)
      case atStart => exact ⟨0, M1, Nat.zero_le _, rfl, HFB.out, HBX.out, Lib.hid HZ.out⟩
      case round =>
        obtain ⟨k, M2, hk, rfl, hF2, hX2, hD2⟩ := hrel
        have HF2 := Lib.hid hF2
        have HX2 := Lib.hid hX2
        have hlU : U.heap.size < wr.heap.size := (Array.getElem?_eq_some_iff.1 hX2).1
        have f0 := Lib.frozen_of_heap hF2.own 0
        have f1 := Lib.frozen_of_heap hF2.own 1
        by_cases hlk : k < n
        · have hkx : k < b.ins.length := by rw [← HNN.out]; exact hlk
          obtain ⟨gi, offi, rfl, hgi⟩ := HIG.out (by omega)
          have hati := ((HBB.out wr M2 hF2.ck).lies.at HEV.out k hkx).2
          have hd2 := hD2.out
          rw [List.drop_eq_getElem_cons hkx] at hd2
          generalize b.ins[k] = i at hati hd2
          obtain ⟨i0, i1, i2, i3, i4, i5⟩ := ic hati
          have hgiw : gi < wr.heap.size := by have := hF2.ck.base.2.2.2; omega
          obtain ⟨W2, hW2⟩ : ∃ W2, W2 = wr.alloc (.cells #[.int .u8 i.k, .int .u8 i.o, .int .i64 i.a, .int .i64 i.b, .int .i64 i.c, .int .i64 i.n] 46) := ⟨_, rfl⟩
          have hb2 : Below wr.heap.size wr W2 := by rw [hW2]; exact below_box wr _
          have hF3 := hF2.below hlm hb2
          have HC := Lib.hid (HIA.out M2 i W2 hF3.ck)
          have HF3 := Lib.hid hF3
          have HX3 := Lib.hid ((hb2.block _ hlU).trans hX2)
          have HW2 := Lib.hid hW2
          have HD2 := Lib.hid hd2
          clear hF2 hX2 hati hd2 hb2 hF3 hD2 f0 f1 hW2
          go_wp2_with fail
          rw [← HW2.out]
          refine HC.out.mono ?_; rintro e w5 ⟨rfl, hc5, ha5⟩
          have hF5 := HF3.out.step hlm hc5 ha5
          have HF5 := Lib.hid hF5
          have HX5 := Lib.hid (ha5.cells HX3.out (by omega))
          have f0 := Lib.frozen_of_heap hF5.own 0
          have f1 := Lib.frozen_of_heap hF5.own 1
          have hl5 : w.heap.size < w5.heap.size := (Array.getElem?_eq_some_iff.1 hF5.own).1
          obtain ⟨s0, s1⟩ := own2 hF5.own
          clear hc5 ha5 hF5
          cases hib : insB g.refs W M2 i with
          | true =>
            have HZ2 := Lib.hid ((firstI_yes hib).symm.trans HD2.out)
            clear f0 f1 hib
            go_wp2_with fail
            go_roundw
            case rel => exact ⟨k + 1, _, hlk, by go_num, HF5.out, HX5.out, HZ2⟩
            case measure => simp [intOf]; omega
          | false =>
            have HZ2 := Lib.hid ((firstI_no hib).symm.trans HD2.out)
            have HYY := Lib.hid (show Y = some (p, k) by rw [← HD.out, ← HZ2.out]; rfl)
            clear hib
            go_wp2_with fail
            refine bodyPost_ret (v := .tuple #[.agg #[.int .i64 (p : Int), .int .i64 (k : Int)], .bool true]) (results_spot (p := 2) (u := 3) rfl _ _ w.heap.size _ _ _ rfl rfl (put2 HF5.out.own _ _)) rfl ?_
            exact ⟨by rw [HYY.out]; rfl, (HF5.out.aside.fresh _ _ (Nat.le_refl _)).fresh _ _ (Nat.le_refl _)⟩
        · have hz := hD2.out
          rw [List.drop_eq_nil_of_le (by rw [← HNN.out]; omega)] at hz
          have hdd := HD.out
          rw [← hz] at hdd
          have hdd2 : (if lastB g.refs NB b = true then firstB g.refs W NB (p + 1) M2 (g.blocks.drop (p + 1)) else some (p, b.ins.length)) = Y := hdd
          have HDD := Lib.hid hdd2
          have HC := Lib.hid (HLB.out M2 wr hF2.ck)
          obtain ⟨x0, x1, x2, x3, x4⟩ := own5 hX2
          have hlw : w.heap.size < wr.heap.size := (Array.getElem?_eq_some_iff.1 hF2.own).1
          clear hF2 hX2 hD2 hz hdd hdd2 f0 f1
          go_wp2_with fail
          refine HC.out.mono ?_; rintro e w5 ⟨rfl, hb5⟩
          have hF5 := HF2.out.below hlm hb5
          have HF5 := Lib.hid hF5
          have f0 := Lib.frozen_of_heap hF5.own 0
          have f1 := Lib.frozen_of_heap hF5.own 1
          have hl5 : w.heap.size < w5.heap.size := (Array.getElem?_eq_some_iff.1 hF5.own).1
          obtain ⟨s0, s1⟩ := own2 hF5.own
          obtain ⟨x0, x1, x2, x3, x4⟩ := own5 ((hb5.block _ hlU).trans HX2.out)
          have hlU5 : U.heap.size < w5.heap.size := by have := hb5.size; omega
          rw [← HN.out]
          clear hb5 hF5
          cases hlb : lastB g.refs NB b with
          | true =>
            have HZ2 := Lib.hid (show firstB g.refs W NB (p + 1) M2 (g.blocks.drop (p + 1)) = Y by rw [← HDD.out, if_pos hlb])
            clear f0 f1 hlb
            go_wp2_with fail
            go_roundw
            case rel => exact ⟨p + 1, M2, hlt, by go_num, HF5.out, HZ2⟩
            case measure => simp [intOf]; omega
          | false =>
            have HYY := Lib.hid (show Y = some (p, n) by rw [← HDD.out, if_neg (by rw [hlb]; exact Bool.false_ne_true), HNN.out])
            clear hlb
            go_wp2_with fail
            refine bodyPost_ret (v := .tuple #[.agg #[.int .i64 (p : Int), .int .i64 (n : Int)], .bool true]) (results_spot (p := 2) (u := 3) rfl _ _ w.heap.size _ _ _ rfl rfl (put2 HF5.out.own _ _)) rfl ?_
            exact ⟨by rw [HYY.out]; rfl, (HF5.out.aside.fresh _ _ (Nat.le_refl _)).fresh _ _ (Nat.le_refl _)⟩
    · have hz := hD.out
      rw [List.drop_eq_nil_of_le (by rw [← HN.out]; omega)] at hz
      have HYY := Lib.hid (show Y = none from hz.symm)
      have f0 := Lib.frozen_of_heap hF.own 0
      have f1 := Lib.frozen_of_heap hF.own 1
      have hl5 : w.heap.size < U.heap.size := (Array.getElem?_eq_some_iff.1 hF.own).1
      obtain ⟨s0, s1⟩ := own2 hF.own
      clear hF hD hz
      go_wp2_with fail
      refine bodyPost_ret (v := .tuple #[.agg #[.int .i64 0, .int .i64 0], .bool false]) (results_spot (p := 2) (u := 3) rfl _ _ w.heap.size _ _ _ rfl rfl (put2 HF.out.own _ _)) rfl ?_
      exact ⟨by rw [HYY.out]; rfl, (HF.out.aside.fresh _ _ (Nat.le_refl _)).fresh _ _ (Nat.le_refl _)⟩
end Go.Proofs.YtgkjhnghibpeoaaDoor
namespace Go.Proofs.YtgkjhnghibpeoaaDoor
open Go.RowKit
set_option maxRecDepth 100000
attribute [local go_sem ↓] bld_eq bls_eq

theorem bothT_cons (k : Nat) (s : Nat) (l : List Nat) : bothT k (s :: l) = if s = 3 then some k else bothT (k + 1) l := rfl
/-- A row of sides: the cell of the k-th. -/
theorem side_cell {w : World} {g : Nat} {l : List Nat} {T : TypeId} {fr : Nat × Nat} (h : w.heap[g]? = some (.cells (l.map fun (s : Nat) => Value.int .u8 (s : Int)).toArray T fr)) (k : Nat) (hk : k < l.length) : w.cell? ⟨g, k, none⟩ = some (.int .u8 ((l[k] : Nat) : Int)) := by
  rw [Lib.cell_of_heap h]
  simp [hk]
set_option maxHeartbeats 8000000 in
theorem firstOnBoth_any (g n : Nat) (l : List Nat) (T : TypeId) (fr : Nat × Nat) (w : World) (hg : w.heap[g]? = some (.cells (l.map fun (s : Nat) => Value.int .u8 (s : Int)).toArray T fr)) (hn : n = l.length) (hn2 : n ≤ 4096) :
    Calls Tryd.prog 53 #[.slice (some ⟨g, 0, none⟩) n n] w fun e w' => e = .returned (spotV ((bothT 0 l).map fun k => (k, 0))) ∧ Below w.heap.size w w' := by
  obtain ⟨Y, hY⟩ : ∃ Y, Y = bothT 0 l := ⟨_, rfl⟩
  rw [← hY]
  have HY := Lib.hid hY
  have HN := Lib.hid hn
  have hgs : g < w.heap.size := (Array.getElem?_eq_some_iff.1 hg).1
  obtain ⟨W0, hW0⟩ : ∃ W0, W0 = w.alloc (.cells #[.int .i64 0, .int .i64 0] 41) := ⟨_, rfl⟩
  have hB0 : Below w.heap.size w W0 := by rw [hW0]; exact below_box w _
  have hO : W0.heap[w.heap.size]? = some (.cells #[.int .i64 0, .int .i64 0] 41 (0, 0)) := by rw [hW0]; exact (MapKept.heap_alloc _ _).1
  have hsz : w.heap.size < W0.heap.size := by rw [hW0]; simp
  have HG := Lib.hid ((hB0.block g hgs).trans hg)
  have e0 := fun (x : Int) => bld_of 41 #[(0, .int .i64 x)] #[.int .i64 x, .int .i64 0] (by kernel_rfl)
  have e1 := bld_of 41 #[] #[.int .i64 0, .int .i64 0] (by kernel_rfl)
  have f0 := Lib.frozen_of_heap hO 0
  have f1 := Lib.frozen_of_heap hO 1
  obtain ⟨s0, s1⟩ := own2 hO
  have HO := Lib.hid hO
  have HB0 := Lib.hid hB0
  have HW0 := Lib.hid hW0
  clear hY hn hB0 hO hW0 hg
  go_enter Tryd.func53, Tryd.ntmps53
  go_wp2_with fail
  rw [← HW0.out]
  go_loopw [8] (fun q wr => ∃ k : Nat, k ≤ n ∧ q = .int .i64 k ∧ wr = W0 ∧ Hid (Y = bothT k (l.drop k))) (fun q _ => n - (intOf q).toNat)
  case atStart => exact ⟨0, by omega, rfl, rfl, HY⟩
  case round =>
    obtain ⟨k, hkN, rfl, rfl, HD⟩ := hrel
    by_cases hlt2 : k < n
    · have hka : k < l.length := by rw [← HN.out]; exact hlt2
      have hd := HD.out
      rw [List.drop_eq_getElem_cons hka, bothT_cons] at hd
      have p0 := side_cell HG.out k hka
      generalize l[k] = s at hd p0
      by_cases hs : s = 3
      · subst hs
        rw [if_pos rfl] at hd
        have HD2 := Lib.hid hd
        clear hd HD hka
        go_wp2_with fail
        refine bodyPost_ret (v := .tuple #[.agg #[.int .i64 (k : Int), .int .i64 0], .bool true]) (results_spot (p := 2) (u := 3) rfl _ _ w.heap.size _ _ _ rfl rfl (put2 HO.out _ _)) rfl ?_
        exact ⟨by rw [HD2.out]; rfl, (HB0.out.setCell (Nat.le_refl _) _).setCell (Nat.le_refl _) _⟩
      · rw [if_neg hs] at hd
        have HD2 := Lib.hid hd
        have hs2 : (((s : Nat) : Int) == 3) = false := by simp only [beq_eq_false_iff_ne, ne_eq]; omega
        clear hd HD hka hs
        go_wp2_with fail
        go_roundw
        case rel => exact ⟨k + 1, by omega, by go_num, by trivial, HD2⟩
        case measure => simp [intOf]; omega
    · have hd := HD.out
      rw [List.drop_eq_nil_of_le (by rw [← HN.out]; omega)] at hd
      have HD2 := Lib.hid (show Y = none from hd)
      clear hd HD
      go_wp2_with fail
      refine bodyPost_ret (v := .tuple #[.agg #[.int .i64 0, .int .i64 0], .bool false]) (results_spot (p := 2) (u := 3) rfl _ _ w.heap.size _ _ _ rfl rfl (put2 HO.out _ _)) rfl ?_
      exact ⟨by rw [HD2.out]; rfl, (HB0.out.setCell (Nat.le_refl _) _).setCell (Nat.le_refl _) _⟩
end Go.Proofs.YtgkjhnghibpeoaaDoor
