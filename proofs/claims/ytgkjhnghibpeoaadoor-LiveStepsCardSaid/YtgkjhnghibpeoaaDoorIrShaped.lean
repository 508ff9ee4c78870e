/- Where a letter's thing stands, an end as an instruction, and whether an instruction has what its line has. -/
import Derived.Test.YtgkjhnghibpeoaaDoorRows
import Derived.Test.YtgkjhnghibpeoaaDoorIrFit7
import Derived.Test.YtgkjhnghibpeoaaDoorIrLeaf
import Derived.LoopTactic
import Derived.LoopN
import Derived.Deep.LoopGhost
import Derived.WalkKit
import Derived.WalkSpells
import Derived.WalkLawsBesides
import Derived.Lib.Hide
import Derived.Lib.OthersKept
import Derived.Laws.StructEq
import Derived.WalkSmall
import Derived.Laws.RangeString
namespace Go.Proofs.YtgkjhnghibpeoaaDoor
open Go.RowKit
set_option maxRecDepth 100000
attribute [local go_sem ↓] bld_eq bls_eq

/-- The cell of a letter's thing. -/
def offL (l : Int) : Nat := if l = 65 then 2 else if l = 66 then 3 else if l = 98 then 3 else 4
theorem slot_any (b : Nat) (l : Int) (w : World) (hl : l = 65 ∨ l = 66 ∨ l = 67 ∨ l = 98 ∨ l = 99 ∨ l = 45) (_hb : b < w.heap.size) :
    Calls Tryd.prog 67 #[.pointer (some ⟨b, 0, none⟩), .int .i32 l] w fun e w' => e = .returned (.pointer (some ⟨b, offL l, none⟩)) ∧ w = w' := by
  rcases hl with rfl | rfl | rfl | rfl | rfl | rfl
  all_goals
    go_enter Tryd.func67, Tryd.ntmps67
    go_wp2_with fail
    go_ret
    exact ⟨rfl, rfl⟩
set_option maxHeartbeats 1000000 in
theorem ending_any (b : Bk) (w : World) :
    Calls Tryd.prog 65 #[.agg #[b.iv, .int .u8 b.last, .int .i64 b.reg, .int .i64 b.yes, .int .i64 b.no]] w fun e w' => e = .returned (.agg #[.int .u8 (endI b).k, .int .u8 (endI b).o, .int .i64 (endI b).a, .int .i64 (endI b).b, .int .i64 (endI b).c, .int .i64 (endI b).n]) ∧ Below w.heap.size w w' := by
  have e0 := bld_of 46 #[(2, .int .i64 b.reg), (3, .int .i64 b.yes), (4, .int .i64 b.no)] #[.int .u8 0, .int .u8 0, .int .i64 b.reg, .int .i64 b.yes, .int .i64 b.no, .int .i64 0] (by kernel_rfl)
  have hb2 : ∀ o1 o2, Below w.heap.size w ((w.alloc o1).alloc o2) := fun o1 o2 => (below_box w o1).alloc (by simp) o2
  go_enter Tryd.func65, Tryd.ntmps65
  go_wp2_with fail
  have hO : ∀ (o1 : Obj) (c : Array Value), ((w.alloc o1).alloc (.cells c 46)).heap[w.heap.size + 1]? = some (.cells c 46 (0, 0)) := fun o1 c => by have := (MapKept.heap_alloc (w.alloc o1) (.cells c 46)).1; simpa using this
  refine bodyPost_ret (v := .agg #[.int .u8 (endI b).k, .int .u8 (endI b).o, .int .i64 (endI b).a, .int .i64 (endI b).b, .int .i64 (endI b).c, .int .i64 (endI b).n]) (results_cell_row rfl _ _ (w.heap.size + 1) 46 _ (0, 0) _ rfl (hO _ _) Tryd.underlying46 rfl (by kernel_rfl)) rfl ?_
  exact ⟨rfl, hb2 _ _⟩

/-! ### Going along the letters -/
theorem put6 {w : World} {b : Nat} {T : TypeId} {fr : Nat × Nat} {c : Array Value} (h : w.heap[b]? = some (.cells c T fr)) (k : Nat) (v : Value) : (w.setCell ⟨b, k, none⟩ v).heap[b]? = some (.cells (c.setIfInBounds k v) T fr) := by
  simp [World.setCell, Array.getElem?_modify, h]
def Let (l : UInt8) : Prop := l = 111 ∨ l = 110 ∨ l = 98 ∨ l = 99 ∨ l = 45 ∨ l = 65 ∨ l = 66 ∨ l = 67
/-- The instruction that is gone along lies in its block, the iterator in the next one. -/
structure ShAt (w : World) (j : In) (has : ByteArray) (pos : Nat) (wr : World) : Prop where
  box : wr.heap[w.heap.size]? = some (.cells #[.int .u8 j.k, .int .u8 j.o, .int .i64 j.a, .int .i64 j.b, .int .i64 j.c, .int .i64 j.n] 46 (0, 0))
  iter : wr.heap[w.heap.size + 1]? = some (.stringIter has pos)
  below : Below w.heap.size w wr
theorem ShAt.step {w wr : World} {j : In} {has : ByteArray} {pos : Nat} (h : ShAt w j has pos wr) : ShAt w j has (pos + 1) (wr.iterAt (w.heap.size + 1) has (pos + 1)) :=
  ⟨by rw [Lib.iterAt_other _ _ _ _ _ (by omega)]; exact h.box, Lib.iterAt_heap _ _ _ _ _ h.iter, Lib.below_iterAt h.below (by omega) _ _⟩
theorem ShAt.put {w wr : World} {j : In} {has : ByteArray} {pos : Nat} (h : ShAt w j has pos wr) (k : Nat) (v : Value) (j' : In) (hj : (#[.int .u8 j.k, .int .u8 j.o, .int .i64 j.a, .int .i64 j.b, .int .i64 j.c, .int .i64 j.n] : Array Value).setIfInBounds k v = #[.int .u8 j'.k, .int .u8 j'.o, .int .i64 j'.a, .int .i64 j'.b, .int .i64 j'.c, .int .i64 j'.n]) :
    ShAt w j' has pos (wr.setCell ⟨w.heap.size, k, none⟩ v) :=
  ⟨by rw [put6 h.box, hj], by rw [Below.heap_setCell _ _ _ _ (by dsimp only; omega)]; exact h.iter, h.below.setCell (Nat.le_refl _) _⟩
theorem ShAt.drewN {w wr : World} {j : In} {has : ByteArray} {pos : Nat} (h : ShAt w j has pos wr) (n : Nat) : ShAt w j has pos (wr.drewN n) := ⟨h.box, h.iter, below_drewN h.below n⟩
theorem shpS_cons (R : List Bool) (l : UInt8) (r : List UInt8) (i : In) : shpS R (l :: r) i = match shp1 R l i with
    | none => none
    | some j => shpS R r j := rfl
theorem shp_some {R : List Bool} {l : UInt8} {r : List UInt8} {i j : In} (h : shp1 R l i = some j) : shpS R (l :: r) i = shpS R r j := by rw [shpS_cons, h]
theorem shp_none {R : List Bool} {l : UInt8} {r : List UInt8} {i : In} (h : shp1 R l i = none) : shpS R (l :: r) i = none := by rw [shpS_cons, h]
theorem regB_no {R : List Bool} {r : Int} (h : regB R r = false) : r < 0 ∨ (R.length : Int) ≤ r := by
  unfold regB at h
  rw [Bool.and_eq_false_iff] at h
  simp only [decide_eq_false_iff_not] at h
  omega

set_option maxHeartbeats 16000000 in
theorem shaped_any (B c m : Nat) (g : Gr) (W : Int) (M : List Bool) (i : In) (has : ByteArray) (w : World) (h : CkAt w B c m g W M) (hlet : ∀ l ∈ has.data.toList, Let l) (_hsz : has.size ≤ 100) :
    Calls Tryd.prog 62 #[.pointer (some ⟨c, 0, none⟩), .agg #[.int .u8 i.k, .int .u8 i.o, .int .i64 i.a, .int .i64 i.b, .int .i64 i.c, .int .i64 i.n], .string has] w fun e w' => e = .returned (.bool (shaped g.refs i has)) ∧ Below w.heap.size w w' := by
  obtain ⟨ao, cap, er, -, -⟩ := h.here.rlies.form
  have hroom := h.here.rlies.room
  have hlc := h.lt.1
  have hq := h.box
  rw [er] at hq
  obtain ⟨Y, hY⟩ : ∃ Y, Y = shpS g.refs has.data.toList { i with k := 0 } := ⟨_, rfl⟩
  have hR : shaped g.refs i has = decide (Y = some noI) := by rw [hY]; rfl
  have HR := Lib.hid hR
  have HB0 := Lib.hid (fun (u : World) (hu : Below w.heap.size w u) => own5 ((hu.block c hlc).trans hq))
  obtain ⟨R, hRR⟩ : ∃ R, R = g.refs := ⟨_, rfl⟩
  rw [← hRR] at hY HB0 hroom
  obtain ⟨NR, hNR⟩ : ∃ N, N = R.length := ⟨_, rfl⟩
  rw [← hNR] at HB0 hroom
  have HRN := Lib.hid hNR
  have HL := Lib.hid hlet
  have HY := Lib.hid hY
  have HSL := Lib.hid (fun b l w => slot_any b l w)
  have hdl : has.data.toList.length = has.size := Array.length_toList
  clear h hq hY hR hlet hNR hRR
  go_enter Tryd.func62, Tryd.ntmps62
  go_wp2_with fail
  go_loopw [] (fun wr => ∃ (pos : Nat) (j : In), pos ≤ has.size ∧ ShAt w j has pos wr ∧ j.k = 0 ∧ Hid (shpS R (has.data.toList.drop pos) j = Y)) (fun wr => has.size - wr.iterPos (w.heap.size + 1))
  case atStart =>
    refine ⟨0, { i with k := 0 }, Nat.zero_le _, ⟨?_, ?_, ?_⟩, rfl, Lib.hid HY.out.symm⟩
    · exact (Below.heap_alloc _ _ _ (by simp)).trans (MapKept.heap_alloc _ _).1
    · have h := World.iter_heap (w.alloc (.cells #[.int .u8 0, .int .u8 i.o, .int .i64 i.a, .int .i64 i.b, .int .i64 i.c, .int .i64 i.n] 46)) has 0; simpa using h
    · exact (below_box w _).alloc (by simp) _
  case round =>
    obtain ⟨pos, j, hpz, hS, hk, hD⟩ := hrel
    have hit := hS.iter
    by_cases hp : pos < has.size
    · have hpl : pos < has.data.toList.length := by rw [hdl]; exact hp
      have hgl : has.data.toList[pos] = has[pos]'hp := rfl
      have hcs : has.data.toList.drop pos = (has[pos]'hp) :: has.data.toList.drop (pos + 1) := by rw [List.drop_eq_getElem_cons hpl, hgl]
      have hll : Let (has[pos]'hp) := HL.out _ (hgl ▸ List.getElem_mem hpl)
      have hn0 : ∀ ty, (Instr.next (.pointer (some ⟨w.heap.size + 1, 0, none⟩)) true ty).run Tryd.prog wr = .ok (.tuple #[.bool true, .int .i64 pos, .int .i32 (has[pos]'hp).toNat]) (wr.iterAt (w.heap.size + 1) has (pos + 1)) := fun ty => Lib.run_next_ascii_at wr (w.heap.size + 1) has pos ty hit hp (by
        rcases hll with e | e | e | e | e | e | e | e <;> rw [e] <;> decide)
      have hS1 := hS.step
      obtain ⟨U, hU⟩ : ∃ U, U = wr.iterAt (w.heap.size + 1) has (pos + 1) := ⟨_, rfl⟩
      rw [← hU] at hn0 hS1
      rw [hcs] at hD
      generalize has[pos]'hp = l at hn0 hll hD
      have hps : wr.iterPos (w.heap.size + 1) = pos := iterPos_of hit
      have HPS := Lib.hid hps
      have HD := Lib.hid hD.out
      have HS1 := Lib.hid hS1
      obtain ⟨q0, q1, q2, q3, q4⟩ := HB0.out U hS1.below
      have f0 := Lib.frozen_of_heap hS1.box 0
      have f1 := Lib.frozen_of_heap hS1.box 1
      have f2 := Lib.frozen_of_heap hS1.box 2
      have f3 := Lib.frozen_of_heap hS1.box 3
      have f4 := Lib.frozen_of_heap hS1.box 4
      have f5 := Lib.frozen_of_heap hS1.box 5
      obtain ⟨k0, k1, k2, k3, k4, k5⟩ := own6 hS1.box
      have hbU : w.heap.size < U.heap.size := (Array.getElem?_eq_some_iff.1 hS1.box).1
      have HSU := Lib.hid (fun l hl => HSL.out w.heap.size l U hl hbU)
      clear hS hS1 hD hcs hgl hU hit hps hpl
      rcases hll with rfl | rfl | rfl | rfl | rfl | rfl | rfl | rfl
      · have hnx : ∀ ty, (Instr.next (.pointer (some ⟨w.heap.size + 1, 0, none⟩)) true ty).run Tryd.prog wr = .ok (.tuple #[.bool true, .int .i64 pos, .int .i32 111]) U := hn0
        clear hn0
        have HH := Lib.hid (show shp1 R 111 j = some { j with o := 0 } from rfl)
        go_wp2_with fail
        go_roundw
        case rel => exact ⟨pos + 1, { j with o := 0 }, hp, HS1.out.put 1 _ { j with o := 0 } rfl, hk, Lib.hid ((shp_some HH.out).symm.trans HD.out)⟩
        case measure => rw [iterPos_of (HS1.out.put 1 (.int .u8 0) { j with o := 0 } rfl).iter, HPS.out]; omega
      · have hnx : ∀ ty, (Instr.next (.pointer (some ⟨w.heap.size + 1, 0, none⟩)) true ty).run Tryd.prog wr = .ok (.tuple #[.bool true, .int .i64 pos, .int .i32 110]) U := hn0
        clear hn0
        have HH := Lib.hid (show shp1 R 110 j = some { j with n := 0 } from rfl)
        go_wp2_with fail
        go_roundw
        case rel => exact ⟨pos + 1, { j with n := 0 }, hp, HS1.out.put 5 _ { j with n := 0 } rfl, hk, Lib.hid ((shp_some HH.out).symm.trans HD.out)⟩
        case measure => rw [iterPos_of (HS1.out.put 5 (.int .i64 0) { j with n := 0 } rfl).iter, HPS.out]; omega
      · have hnx : ∀ ty, (Instr.next (.pointer (some ⟨w.heap.size + 1, 0, none⟩)) true ty).run Tryd.prog wr = .ok (.tuple #[.bool true, .int .i64 pos, .int .i32 98]) U := hn0
        clear hn0
        have HH := Lib.hid (show shp1 R 98 j = some { j with b := 0 } from rfl)
        have HSC := Lib.hid (show Calls Tryd.prog 67 #[.pointer (some ⟨w.heap.size, 0, none⟩), .int .i32 98] U fun e w' => e = .returned (.pointer (some ⟨w.heap.size, 3, none⟩)) ∧ U = w' from HSU.out 98 (by decide))
        go_wp2_with (go_at_call 67; refine HSC.out.mono ?_; rintro e w5 ⟨rfl, rfl⟩)
        go_roundw
        case rel => exact ⟨pos + 1, { j with b := 0 }, hp, HS1.out.put 3 _ { j with b := 0 } rfl, hk, Lib.hid ((shp_some HH.out).symm.trans HD.out)⟩
        case measure => rw [iterPos_of (HS1.out.put 3 (.int .i64 0) { j with b := 0 } rfl).iter, HPS.out]; omega
      · have hnx : ∀ ty, (Instr.next (.pointer (some ⟨w.heap.size + 1, 0, none⟩)) true ty).run Tryd.prog wr = .ok (.tuple #[.bool true, .int .i64 pos, .int .i32 99]) U := hn0
        clear hn0
        have HH := Lib.hid (show shp1 R 99 j = some { j with c := 0 } from rfl)
        have HSC := Lib.hid (show Calls Tryd.prog 67 #[.pointer (some ⟨w.heap.size, 0, none⟩), .int .i32 99] U fun e w' => e = .returned (.pointer (some ⟨w.heap.size, 4, none⟩)) ∧ U = w' from HSU.out 99 (by decide))
        go_wp2_with (go_at_call 67; refine HSC.out.mono ?_; rintro e w5 ⟨rfl, rfl⟩)
        go_roundw
        case rel => exact ⟨pos + 1, { j with c := 0 }, hp, HS1.out.put 4 _ { j with c := 0 } rfl, hk, Lib.hid ((shp_some HH.out).symm.trans HD.out)⟩
        case measure => rw [iterPos_of (HS1.out.put 4 (.int .i64 0) { j with c := 0 } rfl).iter, HPS.out]; omega
      · have hnx : ∀ ty, (Instr.next (.pointer (some ⟨w.heap.size + 1, 0, none⟩)) true ty).run Tryd.prog wr = .ok (.tuple #[.bool true, .int .i64 pos, .int .i32 45]) U := hn0
        clear hn0
        by_cases hc1 : j.c = -1
        · have HH := Lib.hid (show shp1 R 45 j = some { j with c := 0 } from by unfold shp1; simp [hc1])
          have hkc := hc1
          rw [hc1] at k4
          go_wp2_with fail
          go_roundw
          case rel => exact ⟨pos + 1, { j with c := 0 }, hp, HS1.out.put 4 _ { j with c := 0 } rfl, hk, Lib.hid ((shp_some HH.out).symm.trans HD.out)⟩
          case measure => rw [iterPos_of (HS1.out.put 4 (.int .i64 0) { j with c := 0 } rfl).iter, HPS.out]; omega
        · have hq1 : (j.c == -1) = false := by simpa using hc1
          have HSC := Lib.hid (show Calls Tryd.prog 67 #[.pointer (some ⟨w.heap.size, 0, none⟩), .int .i32 45] U fun e w' => e = .returned (.pointer (some ⟨w.heap.size, 4, none⟩)) ∧ U = w' from HSU.out 45 (by decide))
          by_cases hg : regB R j.c = true
          · obtain ⟨n, en, ln⟩ := reg_nat hg
            have HH := Lib.hid (show shp1 R 45 j = some { j with c := 0 } from by unfold shp1; simp [hg, hc1])
            rw [← HRN.out] at ln
            rw [en] at k4
            clear hg
            go_wp2_with (go_at_call 67; refine HSC.out.mono ?_; rintro e w5 ⟨rfl, rfl⟩)
            go_quiet (fail)
            go_wp2_with fail
            go_roundw
            case rel => exact ⟨pos + 1, { j with c := 0 }, hp, (HS1.out.drewN _).put 4 _ { j with c := 0 } rfl, hk, Lib.hid ((shp_some HH.out).symm.trans HD.out)⟩
            case measure => rw [iterPos_of ((HS1.out.drewN _).put 4 (.int .i64 0) { j with c := 0 } rfl).iter, HPS.out]; omega
          · have hg0 : regB R j.c = false := by simpa using hg
            have hno := regB_no hg0
            have HH := Lib.hid (show shp1 R 45 j = none from by unfold shp1; simp [hg0, hc1])
            rw [← HRN.out] at hno
            clear hg hg0
            have HZ := Lib.hid (show shaped g.refs i has = false by rw [HR.out, ← HD.out, shp_none HH.out]; rfl)
            by_cases hn : j.c < 0
            · clear hno
              go_wp2_with (go_at_call 67; refine HSC.out.mono ?_; rintro e w5 ⟨rfl, rfl⟩)
              go_quiet (fail)
              go_wp2_with fail
              go_ret
              exact ⟨by rw [HZ.out]; rfl, below_drewN HS1.out.below _⟩
            · have hn2 : (NR : Int) ≤ j.c := by omega
              clear hno
              go_wp2_with (go_at_call 67; refine HSC.out.mono ?_; rintro e w5 ⟨rfl, rfl⟩)
              go_quiet (fail)
              go_wp2_with fail
              go_ret
              exact ⟨by rw [HZ.out]; rfl, below_drewN HS1.out.below _⟩
      · have hnx : ∀ ty, (Instr.next (.pointer (some ⟨w.heap.size + 1, 0, none⟩)) true ty).run Tryd.prog wr = .ok (.tuple #[.bool true, .int .i64 pos, .int .i32 65]) U := hn0
        clear hn0
        have HSC := Lib.hid (show Calls Tryd.prog 67 #[.pointer (some ⟨w.heap.size, 0, none⟩), .int .i32 65] U fun e w' => e = .returned (.pointer (some ⟨w.heap.size, 2, none⟩)) ∧ U = w' from HSU.out 65 (by decide))
        by_cases hg : regB R j.a = true
        · obtain ⟨n, en, ln⟩ := reg_nat hg
          have HH := Lib.hid (show shp1 R 65 j = some { j with a := 0 } from by unfold shp1; simp [hg])
          rw [← HRN.out] at ln
          rw [en] at k2
          clear hg
          go_wp2_with (go_at_call 67; refine HSC.out.mono ?_; rintro e w5 ⟨rfl, rfl⟩)
          go_quiet (fail)
          go_wp2_with fail
          go_roundw
          case rel => exact ⟨pos + 1, { j with a := 0 }, hp, (HS1.out.drewN _).put 2 _ { j with a := 0 } rfl, hk, Lib.hid ((shp_some HH.out).symm.trans HD.out)⟩
          case measure => rw [iterPos_of ((HS1.out.drewN _).put 2 (.int .i64 0) { j with a := 0 } rfl).iter, HPS.out]; omega
        · have hg0 : regB R j.a = false := by simpa using hg
          have hno := regB_no hg0
          have HH := Lib.hid (show shp1 R 65 j = none from by unfold shp1; simp [hg0])
          rw [← HRN.out] at hno
          clear hg hg0
          have HZ := Lib.hid (show shaped g.refs i has = false by rw [HR.out, ← HD.out, shp_none HH.out]; rfl)
          by_cases hn : j.a < 0
          · clear hno
            go_wp2_with (go_at_call 67; refine HSC.out.mono ?_; rintro e w5 ⟨rfl, rfl⟩)
            go_quiet (fail)
            go_wp2_with fail
            go_ret
            exact ⟨by rw [HZ.out]; rfl, below_drewN HS1.out.below _⟩
          · have hn2 : (NR : Int) ≤ j.a := by omega
            clear hno
            go_wp2_with (go_at_call 67; refine HSC.out.mono ?_; rintro e w5 ⟨rfl, rfl⟩)
            go_quiet (fail)
            go_wp2_with fail
            go_ret
            exact ⟨by rw [HZ.out]; rfl, below_drewN HS1.out.below _⟩
      · have hnx : ∀ ty, (Instr.next (.pointer (some ⟨w.heap.size + 1, 0, none⟩)) true ty).run Tryd.prog wr = .ok (.tuple #[.bool true, .int .i64 pos, .int .i32 66]) U := hn0
        clear hn0
        have HSC := Lib.hid (show Calls Tryd.prog 67 #[.pointer (some ⟨w.heap.size, 0, none⟩), .int .i32 66] U fun e w' => e = .returned (.pointer (some ⟨w.heap.size, 3, none⟩)) ∧ U = w' from HSU.out 66 (by decide))
        by_cases hg : regB R j.b = true
        · obtain ⟨n, en, ln⟩ := reg_nat hg
          have HH := Lib.hid (show shp1 R 66 j = some { j with b := 0 } from by unfold shp1; simp [hg])
          rw [← HRN.out] at ln
          rw [en] at k3
          clear hg
          go_wp2_with (go_at_call 67; refine HSC.out.mono ?_; rintro e w5 ⟨rfl, rfl⟩)
          go_quiet (fail)
          go_wp2_with fail
          go_roundw
          case rel => exact ⟨pos + 1, { j with b := 0 }, hp, (HS1.out.drewN _).put 3 _ { j with b := 0 } rfl, hk, Lib.hid ((shp_some HH.out).symm.trans HD.out)⟩
          case measure => rw [iterPos_of ((HS1.out.drewN _).put 3 (.int .i64 0) { j with b := 0 } rfl).iter, HPS.out]; omega
        · have hg0 : regB R j.b = false := by simpa using hg
          have hno := regB_no hg0
          have HH := Lib.hid (show shp1 R 66 j = none from by unfold shp1; simp [hg0])
          rw [← HRN.out] at hno
          clear hg hg0
          have HZ := Lib.hid (show shaped g.refs i has = false by rw [HR.out, ← HD.out, shp_none HH.out]; rfl)
          by_cases hn : j.b < 0
          · clear hno
            go_wp2_with (go_at_call 67; refine HSC.out.mono ?_; rintro e w5 ⟨rfl, rfl⟩)
            go_quiet (fail)
            go_wp2_with fail
            go_ret
            exact ⟨by rw [HZ.out]; rfl, below_drewN HS1.out.below _⟩
          · have hn2 : (NR : Int) ≤ j.b := by omega
            clear hno
            go_wp2_with (go_at_call 67; refine HSC.out.mono ?_; rintro e w5 ⟨rfl, rfl⟩)
            go_quiet (fail)
            go_wp2_with fail
            go_ret
            exact ⟨by rw [HZ.out]; rfl, below_drewN HS1.out.below _⟩
      · have hnx : ∀ ty, (Instr.next (.pointer (some ⟨w.heap.size + 1, 0, none⟩)) true ty).run Tryd.prog wr = .ok (.tuple #[.bool true, .int .i64 pos, .int .i32 67]) U := hn0
        clear hn0
        have HSC := Lib.hid (show Calls Tryd.prog 67 #[.pointer (some ⟨w.heap.size, 0, none⟩), .int .i32 67] U fun e w' => e = .returned (.pointer (some ⟨w.heap.size, 4, none⟩)) ∧ U = w' from HSU.out 67 (by decide))
        by_cases hg : regB R j.c = true
        · obtain ⟨n, en, ln⟩ := reg_nat hg
          have HH := Lib.hid (show shp1 R 67 j = some { j with c := 0 } from by unfold shp1; simp [hg])
          rw [← HRN.out] at ln
          rw [en] at k4
          clear hg
          go_wp2_with (go_at_call 67; refine HSC.out.mono ?_; rintro e w5 ⟨rfl, rfl⟩)
          go_quiet (fail)
          go_wp2_with fail
          go_roundw
          case rel => exact ⟨pos + 1, { j with c := 0 }, hp, (HS1.out.drewN _).put 4 _ { j with c := 0 } rfl, hk, Lib.hid ((shp_some HH.out).symm.trans HD.out)⟩
          case measure => rw [iterPos_of ((HS1.out.drewN _).put 4 (.int .i64 0) { j with c := 0 } rfl).iter, HPS.out]; omega
        · have hg0 : regB R j.c = false := by simpa using hg
          have hno := regB_no hg0
          have HH := Lib.hid (show shp1 R 67 j = none from by unfold shp1; simp [hg0])
          rw [← HRN.out] at hno
          clear hg hg0
          have HZ := Lib.hid (show shaped g.refs i has = false by rw [HR.out, ← HD.out, shp_none HH.out]; rfl)
          by_cases hn : j.c < 0
          · clear hno
            go_wp2_with (go_at_call 67; refine HSC.out.mono ?_; rintro e w5 ⟨rfl, rfl⟩)
            go_quiet (fail)
            go_wp2_with fail
            go_ret
            exact ⟨by rw [HZ.out]; rfl, below_drewN HS1.out.below _⟩
          · have hn2 : (NR : Int) ≤ j.c := by omega
            clear hno
            go_wp2_with (go_at_call 67; refine HSC.out.mono ?_; rintro e w5 ⟨rfl, rfl⟩)
            go_quiet (fail)
            go_wp2_with fail
            go_ret
            exact ⟨by rw [HZ.out]; rfl, below_drewN HS1.out.below _⟩
    · have hnx : ∀ ty, (Instr.next (.pointer (some ⟨w.heap.size + 1, 0, none⟩)) true ty).run Tryd.prog wr = .ok (.tuple #[.bool false]) wr := fun ty => Lib.run_next_end_at wr (w.heap.size + 1) has pos ty hit hp
      have hdn : has.data.toList.drop pos = [] := List.drop_eq_nil_of_le (by omega)
      have hd := hD.out
      rw [hdn] at hd
      have hY : Y = some j := hd.symm
      have HZ := Lib.hid (show shaped g.refs i has = decide (j = noI) by rw [HR.out, hY]; simp)
      obtain ⟨k0, k1, k2, k3, k4, k5⟩ := own6 hS.box
      have e0 := bld_of 46 #[] #[.int .u8 0, .int .u8 0, .int .i64 0, .int .i64 0, .int .i64 0, .int .i64 0] (by kernel_rfl)
      have HB := Lib.hid hS.below
      clear hS hD hit hd hdn hY
      obtain ⟨jk, jo, ja, jb, jc, jn⟩ := j
      simp only at *
      subst hk
      by_cases hjo : jo = 0
      rotate_left
      · have hq : (jo == 0) = false := by simpa using hjo
        have HF := Lib.hid (HZ.out.trans (decide_eq_false (fun e => hjo (congrArg In.o e))))
        go_wp2_with fail
        go_ret
        exact ⟨by rw [HF.out]; rfl, HB.out⟩
      subst hjo
      by_cases hja : ja = 0
      rotate_left
      · have hq : (ja == 0) = false := by simpa using hja
        have HF := Lib.hid (HZ.out.trans (decide_eq_false (fun e => hja (congrArg In.a e))))
        go_wp2_with fail
        go_ret
        exact ⟨by rw [HF.out]; rfl, HB.out⟩
      subst hja
      by_cases hjb : jb = 0
      rotate_left
      · have hq : (jb == 0) = false := by simpa using hjb
        have HF := Lib.hid (HZ.out.trans (decide_eq_false (fun e => hjb (congrArg In.b e))))
        go_wp2_with fail
        go_ret
        exact ⟨by rw [HF.out]; rfl, HB.out⟩
      subst hjb
      by_cases hjc : jc = 0
      rotate_left
      · have hq : (jc == 0) = false := by simpa using hjc
        have HF := Lib.hid (HZ.out.trans (decide_eq_false (fun e => hjc (congrArg In.c e))))
        go_wp2_with fail
        go_ret
        exact ⟨by rw [HF.out]; rfl, HB.out⟩
      subst hjc
      by_cases hjn : jn = 0
      rotate_left
      · have hq : (jn == 0) = false := by simpa using hjn
        have HF := Lib.hid (HZ.out.trans (decide_eq_false (fun e => hjn (congrArg In.n e))))
        go_wp2_with fail
        go_ret
        exact ⟨by rw [HF.out]; rfl, HB.out⟩
      subst hjn
      have HF := Lib.hid (HZ.out.trans (decide_eq_true rfl))
      go_wp2_with fail
      go_ret
      exact ⟨by rw [HF.out]; rfl, HB.out⟩
end Go.Proofs.YtgkjhnghibpeoaaDoor
