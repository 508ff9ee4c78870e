/- What is live at a spot. -/
import Derived.Test.YtgkjhnghibpeoaaDoorRows
import Derived.Test.YtgkjhnghibpeoaaDoorLvSpot
import Derived.Test.YtgkjhnghibpeoaaDoorIrLeaf
import Derived.Test.YtgkjhnghibpeoaaDoorIrNew
import Derived.Test.YtgkjhnghibpeoaaDoorParseOrder
import Derived.LoopTactic
import Derived.LoopN
import Derived.Deep.LoopGhost
import Derived.WalkKit
import Derived.WalkSpells
import Derived.WalkLawsBesides
import Derived.Lib.Hide
import Derived.OrdersHeld
import Derived.Deep.RegionHeld
import Derived.Deep.DrawnRows
import Derived.RegionTactic
import Derived.Deep.RegionHeld3
import Derived.IntWalk
import Derived.Deep.QuietTactic
import Derived.BigQuiet
namespace Go.Proofs.YtgkjhnghibpeoaaDoor
open Go.RowKit
set_option maxRecDepth 1000000
attribute [local go_sem ↓] bld_eq bls_eq


theorem box_graph (w : World) (g : Gr) : (w.alloc (.cells #[g.rv, .int .i64 g.sites, g.bv] 25)).cell? ⟨w.heap.size, 0, none⟩ = some g.rv ∧ (w.alloc (.cells #[g.rv, .int .i64 g.sites, g.bv] 25)).cell? ⟨w.heap.size, 1, none⟩ = some (.int .i64 g.sites) ∧ (w.alloc (.cells #[g.rv, .int .i64 g.sites, g.bv] 25)).cell? ⟨w.heap.size, 2, none⟩ = some g.bv :=
  own3 (MapKept.heap_alloc w _).1
set_option maxHeartbeats 8000000 in
theorem vcheck_any (B : Nat) (g : Gr) (w : World) (hI : GIn w B g) (hBw : B ≤ w.heap.size) :
    Calls Tryd.prog 17 #[.agg #[g.rv, .int .i64 g.sites, g.bv]] w fun e w' => e = .returned (.int .i64 (if mayB g = true then 0 else 14)) ∧ Below w.heap.size w w' := by
  obtain ⟨c0, c1, c2⟩ := box_graph w g
  obtain ⟨U, hU⟩ : ∃ U, U = w.alloc (.cells #[g.rv, .int .i64 g.sites, g.bv] 25) := ⟨_, rfl⟩
  rw [← hU] at c0 c1 c2
  have hb : Below w.heap.size w U := by rw [hU]; exact below_box w _
  have hIU := hI.keeps (hb.mono hBw)
  have HU := Lib.hid hU
  have HB := Lib.hid hb
  have hzU : B ≤ U.heap.size := by have := hb.size; omega
  cases hm : mayB g with
  | false =>
    have HR := Lib.hid (reach_no B g U hIU hzU hm)
    rw [if_neg (by simp)]
    clear hU hb hIU hI
    go_enter Tryd.func17, Tryd.ntmps17
    go_wp2_with (rw [← HU.out])
    refine HR.out.mono ?_; rintro e V ⟨rfl, hb2⟩
    have HB2 := Lib.hid (HB.out.trans (hb2.mono HB.out.size))
    clear hb2
    go_wp2_with fail
    go_ret
    exact ⟨rfl, HB2.out⟩
  | true =>
    have HR := Lib.hid (reach_any B g U hIU hzU hm)
    rw [if_pos rfl]
    clear hU hb hIU hI
    go_enter Tryd.func17, Tryd.ntmps17
    go_wp2_with (rw [← HU.out])
    refine HR.out.mono ?_; rintro e V ⟨R, gR, rfl, -, -, -, -, hb2⟩
    have HB2 := Lib.hid (HB.out.trans (hb2.mono HB.out.size))
    clear hb2
    go_wp2_with fail
    go_ret
    exact ⟨rfl, HB2.out⟩
theorem glv_of {w : World} {B : Nat} {g : Gr} (hI : GIn w B g) (hm : mayB g = true) (hc : ∀ bk ∈ g.blocks, CapB bk) : GLv g.refs.length B g := by
  have h := vcheck_fit (g := g) (of_decide_eq_true hm)
  exact ⟨fok_of hm, h.2.1, hc, h.2.2, h.1⟩
/-- The set that is live at a spot. -/
def atSet (bk : Bk) (k : Nat) (S : List (List Nat)) : List Nat := aheadS (deedF bk k) (behS S (nextF bk))
set_option maxHeartbeats 16000000 in
theorem liveat_any (R B : Nat) (g : Gr) (n k : Nat) (bk : Bk) (w : World) (hg : GLv R B g) (hI : GIn w B g) (hBw : B ≤ w.heap.size) (hbk : g.blocks[n]? = some bk) (hk : k ≤ bk.ins.length) :
    Calls Tryd.prog 21 #[.agg #[g.rv, .int .i64 g.sites, g.bv], .agg #[.int .i64 (n : Int), .int .i64 (k : Int)]] w fun e w' => ∃ S, LivP g.blocks S ∧ e = .returned (setV (atSet bk k S)) ∧ Below w.heap.size w w' := by
  obtain ⟨N, hN⟩ : ∃ N, N = g.blocks.length := ⟨_, rfl⟩
  have hnN : n < N := by rw [hN]; exact (List.getElem?_eq_some_iff.1 hbk).1
  have hnN0 : (n : Int) < (N : Int) := by omega
  have hbkm := List.mem_of_getElem? hbk
  obtain ⟨⟨hz, hb⟩, q0, q1, q2⟩ := three_box w #[g.rv, .int .i64 g.sites, g.bv] #[.int .i64 (n : Int), .int .i64 (k : Int)] #[.int .u64 0, .int .u64 0, .int .u64 0, .int .u64 0, .int .u64 0, .int .u64 0, .int .u64 0, .int .u64 0, .int .u64 0, .int .u64 0, .int .u64 0, .int .u64 0, .int .u64 0, .int .u64 0, .int .u64 0, .int .u64 0] 25 41 58
  obtain ⟨U, hU⟩ : ∃ U, U = ((w.alloc (.cells #[g.rv, .int .i64 g.sites, g.bv] 25)).alloc (.cells #[.int .i64 (n : Int), .int .i64 (k : Int)] 41)).alloc (.cells #[.int .u64 0, .int .u64 0, .int .u64 0, .int .u64 0, .int .u64 0, .int .u64 0, .int .u64 0, .int .u64 0, .int .u64 0, .int .u64 0, .int .u64 0, .int .u64 0, .int .u64 0, .int .u64 0, .int .u64 0, .int .u64 0] 58) := ⟨_, rfl⟩
  rw [← hU] at hz hb q0 q1 q2
  obtain ⟨g0, g1, g2⟩ := own3 q0
  have s0 : U.cell? ⟨w.heap.size + 1, 0, none⟩ = some (.int .i64 (n : Int)) := by rw [Lib.cell_of_heap q1]; rfl
  obtain ⟨go, off, bcap, egv, hgo, hp⟩ := blk_at hI hbk
  obtain ⟨p0, p1, p2, p3, p4⟩ := hp U (hb.mono hBw)
  have g2' := g2
  rw [egv, ← hN] at g2'
  have hdo := deedF_ok bk k
  have HBEG := Lib.hid (fun (W : World) (hW : Below w.heap.size w W) => begs_any R B g W hg (hI.keeps (hW.mono hBw)) (by have := hW.size; omega))
  have HNX := Lib.hid (fun W => vnext_any bk W (by obtain ⟨q, c, e, _⟩ := (hI.blocks bk hbkm).lies.form; exact ⟨q, _, c, e⟩))
  have HDF := Lib.hid (fun (W : World) (hW : Below w.heap.size w W) => deed_from_any R B hg.reg bk k W ((hI.blocks bk hbkm).keeps (hW.mono hBw)) (by have := hW.size; omega) (hg.fit bk hbkm) (hg.cap bk hbkm) hk (hg.ins bk hbkm))
  have HU := Lib.hid hU
  have HB := Lib.hid hb
  have HQ0 := Lib.hid q0
  have HQ1 := Lib.hid q1
  have HQ2 := Lib.hid q2
  have HDO := Lib.hid hdo
  have HONE := Lib.hid (show (#[bk.iv, .int .u8 bk.last, .int .i64 bk.reg, .int .i64 bk.yes, .int .i64 bk.no] : Array Value).all (·.oneCell') = true from by
    obtain ⟨q, c, e, _⟩ := (hI.blocks bk hbkm).lies.form
    rw [e]; simp [Value.oneCell'])
  have HN := Lib.hid hN
  have HG := Lib.hid hg
  have HBK := Lib.hid hbk
  clear hU hb q0 q1 q2 hdo hN hg hI hp hbk egv
  go_enter Tryd.func21, Tryd.ntmps21
  go_wp2_with (rw [← HU.out])
  refine wp_region_held_drew (S := SameX (fun _ => False) (w.heap.size + 3) U) (by kernel_rfl) (SameX.drew _ _ _) (fun hSw => ?_)
  refine tH 0 (.pointer (some ⟨w.heap.size, 2, none⟩)) hSw ?_
  try simp only [nS]
  refine tG 1 (.slice (some ⟨go, off, none⟩) N bcap) hSw (fun V hV => ?_) ?_
  · have c := hV.cell (by dsimp only; omega) id g2'
    first | (go_simp; done) | rfl
  try simp only [nS]
  refine tH 2 (.pointer (some ⟨w.heap.size + 1, 0, none⟩)) hSw ?_
  try simp only [nS]
  refine tG 3 (.int .i64 (n : Int)) hSw (fun V hV => ?_) ?_
  · have c := hV.cell (by dsimp only; omega) id s0
    first | (go_simp; done) | rfl
  try simp only [nS]
  refine tG 4 (.pointer (some ⟨go, off + n * 5, none⟩)) hSw (fun V hV => ?_) ?_
  · first | (go_simp; done) | (go_simp; omega) | rfl
  try simp only [nS]
  refine tG 5 (.agg #[bk.iv, .int .u8 bk.last, .int .i64 bk.reg, .int .i64 bk.yes, .int .i64 bk.no]) hSw (fun V hV => ?_) ?_
  · have p0 := hV.cell (by dsimp only; omega) id p0
    have p1 := hV.cell (by dsimp only; omega) id p1
    have p2 := hV.cell (by dsimp only; omega) id p2
    have p3 := hV.cell (by dsimp only; omega) id p3
    have p4 := hV.cell (by dsimp only; omega) id p4
    first | (go_simp; done) | rfl
  try simp only [nS]
  refine tG 6 (.agg #[g.rv, .int .i64 g.sites, g.bv]) hSw (fun V hV => ?_) ?_
  · have g0 := hV.cell (by dsimp only; omega) id g0
    have g1 := hV.cell (by dsimp only; omega) id g1
    have g2 := hV.cell (by dsimp only; omega) id g2
    first | (go_simp; done) | rfl
  try simp only [nS]
  refine wpAnyH_ready (rs := [7, 8]) (by kernel_rfl) (by simp) ?_
  refine AllReadyH.cons rfl (fun K hK => ?_) (AllReadyH.cons rfl (fun K hK => ?_) AllReadyH.nil)
  · rw [if_pos (by rfl)]
    clear hSw
    go_simp
    refine (HBEG.out _ HB.out.drew).mono ?_; rintro e V1 ⟨S, rfl, hs1, hl1, hb1⟩
    have hb1' : Below U.heap.size U V1 := ⟨hb1.os, hb1.tape, hb1.output, hb1.size, hb1.block⟩
    obtain ⟨gS, hgS⟩ : ∃ x, x = U.drew.heap.size + 1 := ⟨_, rfl⟩
    rw [← hgS] at hs1
    rw [← hgS, ← HN.out]
    have hgS1 : gS < V1.heap.size := (Array.getElem?_eq_some_iff.1 hs1).1
    have hgS2 : w.heap.size + 3 ≤ gS := by have : U.drew.heap.size = U.heap.size := rfl; omega
    have HS1 := Lib.hid hs1
    have HL1 := Lib.hid hl1
    have HB1 := Lib.hid hb1'
    have hs1' := hb1'.size
    clear hs1 hl1 hb1 hb1' hgS
    refine hK.out _ _ (fun k hk _ => HB1.out.block k (by omega)) (fun hSw => ?_)
    clear hK K
    try simp only [nS]
    refine tR 8 (fun K hK => ?_)
    clear hSw
    go_simp
    obtain ⟨V2, hV2⟩ : ∃ x, x = V1.alloc (.cells #[.slice none 0 0, .int .u8 0, .int .i64 0, .int .i64 0, .int .i64 0] 36) := ⟨_, rfl⟩
    obtain ⟨g5, hg5⟩ : ∃ x, x = V1.heap.size := ⟨_, rfl⟩
    have hb2 : Below V1.heap.size V1 V2 := by rw [hV2]; exact below_box V1 _
    have hz2 : V2.heap.size = g5 + 1 := by rw [hV2, hg5]; simp
    have hq2 : V2.heap[g5]? = some (.cells #[.slice none 0 0, .int .u8 0, .int .i64 0, .int .i64 0, .int .i64 0] 36 (0, 0)) := by rw [hV2, hg5]; exact (MapKept.heap_alloc _ _).1
    have hg51 : gS < g5 := by omega
    rw [← hV2, ← hg5]
    have HS2 := Lib.hid ((hb2.block gS (by omega)).trans HS1.out)
    have HB2 := Lib.hid (HB1.out.trans (hb2.mono (by omega)))
    have HQ5 := Lib.hid hq2
    have hne5 : g5 ≠ gS := by omega
    clear hV2 hb2 hq2 hg5
    refine hK.out _ _ (fun k hk _ => HB2.out.block k (by omega)) (fun hSw => ?_)
    clear hK K
    try simp only [nS]
    refine tR 9 (fun K hK => ?_)
    clear hSw
    refine wp_put 36 (Operand.tmp 5) (Operand.tmp 15) rfl g5 36 _ #[bk.iv, .int .u8 bk.last, .int .i64 bk.reg, .int .i64 bk.yes, .int .i64 bk.no] rfl rfl HQ5.out rfl (by kernel_rfl) HONE.out ?_
    intro V3 hp3
    have hz3 : V2.heap.size ≤ V3.heap.size := by have := hp3.size; omega
    have HF5 := Lib.hid hp3.at_b
    have HFS := Lib.hid ((hp3.rest gS (fun e => hne5 e.symm)).trans HS2.out)
    have hb3 : Below (w.heap.size + 3) U V3 := ⟨hp3.os.trans HB2.out.os, hp3.tape.trans HB2.out.tape, hp3.output.trans HB2.out.output, by have := HB2.out.size; omega, fun x hx => (hp3.rest x (by omega)).trans (HB2.out.block x (by omega))⟩
    have HB3 := Lib.hid hb3
    refine hK.out _ _ (fun k hk _ => hb3.block k hk) (fun hSw => ?_)
    clear hK K hp3 hb3
    try simp only [nS]
    refine tR 10 (fun K hK => ?_)
    clear hSw
    go_simp
    refine hK.out _ _ (fun k hk _ => HB3.out.block k hk) (fun hSw => ?_)
    clear hK K
    try simp only [nS]
    refine wpAnyH_done (by kernel_rfl) ?_ _
    have HBW3 := Lib.hid (HB.out.trans (HB3.out.mono (by omega)))
    have h5z : g5 < V3.heap.size := (Array.getElem?_eq_some_iff.1 HF5.out).1
    have hSz : gS < V3.heap.size := (Array.getElem?_eq_some_iff.1 HFS.out).1
    obtain ⟨W4, hW4⟩ : ∃ x, x = V3.alloc (.cells #[.int .u64 0, .int .u64 0, .int .u64 0, .int .u64 0, .int .u64 0, .int .u64 0, .int .u64 0, .int .u64 0, .int .u64 0, .int .u64 0, .int .u64 0, .int .u64 0, .int .u64 0, .int .u64 0, .int .u64 0, .int .u64 0] 58) := ⟨_, rfl⟩
    obtain ⟨gB, hgB⟩ : ∃ x, x = V3.heap.size := ⟨_, rfl⟩
    have hb4 : Below V3.heap.size V3 W4 := by rw [hW4]; exact below_box V3 _
    have hz4 : W4.heap.size = gB + 1 := by rw [hW4, hgB]; simp
    have hq4 : W4.heap[gB]? = some (.cells (u64A emptyS) 58 (0, 0)) := by rw [hW4, hgB]; exact (MapKept.heap_alloc _ _).1
    have HF54 := Lib.hid ((hb4.block g5 h5z).trans HF5.out)
    obtain ⟨x0, x1, x2, x3, x4⟩ := own5 HF54.out
    have HW4 := Lib.hid hW4
    have HGB := Lib.hid hgB
    have HB4 := Lib.hid hb4
    have HQ4 := Lib.hid hq4
    have hgB1 : gB ≤ V3.heap.size := by omega
    have hgB2 : V3.heap.size ≤ gB := by omega
    clear hW4 hb4 hq4 hgB p0 p1 p2 p3 p4 g0 g1 g2 g2' s0
    go_wp2_with (rw [← HW4.out])
    rw [← HGB.out]
    refine (HNX.out _).mono ?_; rintro e W5 ⟨v5, rfl, hrow5, hb5⟩
    obtain ⟨ao5, cap5, rfl⟩ := hrow5.form
    have hc5 := nextF_len bk
    obtain ⟨c5, hcc⟩ : ∃ c, c = (nextF bk).length := ⟨_, rfl⟩
    rw [← hcc] at hc5 ⊢
    have hs5 := hb5.size
    have HC5 := Lib.hid hcc
    have HROW5 := Lib.hid hrow5
    have hb45 := HB4.out.trans (hb5.mono (by omega))
    have HB45 := Lib.hid hb45
    have HQ5B := Lib.hid ((hb5.block gB (by omega)).trans HQ4.out)
    clear hrow5 hb5 hcc hb45 x0 x1 x2 x3 x4
    go_wp2_with fail
    go_loopw [21] (fun q wr => ∃ j : Nat, j ≤ c5 ∧ q = .int .i64 (j : Int) ∧ Hid (wr.heap[gB]? = some (.cells (u64A (behS S ((nextF bk).take j))) 58 (0, 0)) ∧ Wr (fun x => x = gB) W5 wr)) (fun q _ => c5 - (intOf q).toNat)
    case atStart => exact ⟨0, Nat.zero_le _, rfl, Lib.hid ⟨HQ5B.out, Wr.refl _ _⟩⟩
    case round => as_aux_lemma =>
      obtain ⟨j, hj, rfl, HJ⟩ := hrel
      rename World => Z
      obtain ⟨j3, j4⟩ := HJ.out
      have hzZ := j4.size
      have hbZ : Below V3.heap.size V3 Z := ⟨j4.os.trans HB45.out.os, j4.tape.trans HB45.out.tape, j4.output.trans HB45.out.output, by have := HB45.out.size; omega, fun x hx => (j4.block x (by omega) (by omega)).trans (HB45.out.block x hx)⟩
      have hSZ := (hbZ.block gS hSz).trans HFS.out
      have h5Z := (hbZ.block g5 h5z).trans HF5.out
      by_cases hjc : j = c5
      · have hfull : (nextF bk).take j = nextF bk := List.take_of_length_le (by rw [hjc, HC5.out]; exact Nat.le_refl _)
        rw [hfull] at j3
        subst hjc
        have hUZ : Below (w.heap.size + 3) U Z := HB3.out.trans (hbZ.mono (by have := HB3.out.size; omega))
        have hwZ : Below w.heap.size w Z := HB.out.trans (hUZ.mono (by omega))
        obtain ⟨x0, x1, x2, x3, x4⟩ := own5 h5Z
        have s1 : Z.cell? ⟨w.heap.size + 1, 1, none⟩ = some (.int .i64 (k : Int)) := by rw [Lib.cell_of_heap ((hUZ.block (w.heap.size + 1) (by omega)).trans HQ1.out)]; rfl
        have HQZ := Lib.hid ((hUZ.block (w.heap.size + 2) (by omega)).trans HQ2.out)
        have hob := beh_ok HL1.out.ok (nextF bk)
        obtain ⟨BE, hBE⟩ : ∃ x, x = behS S (nextF bk) := ⟨_, rfl⟩
        rw [← hBE] at hob j3
        have HOB := Lib.hid hob
        have HBE := Lib.hid hBE
        have HJ3 := Lib.hid j3
        have HWZ := Lib.hid hwZ
        have HCA := Lib.hid (fun W => ahead_set_any (deedF bk k) BE W HDO.out hob)
        have hol := ahead_ok HDO.out hob
        have HOL := Lib.hid hol
        have h5zZ : g5 < Z.heap.size := by have := hbZ.size; omega
        have hwsz : w.heap.size + 3 ≤ Z.heap.size := by have := hbZ.size; omega
        clear j3 j4 hob hBE hol hfull HJ hSZ h5Z hbZ hUZ hwZ
        go_wp2_with fail
        refine wp_region_late (S := SameX (fun _ => False) Z.heap.size Z) (fun j => decide (6 ≤ j)) (by kernel_rfl) (SameX.drew _ _ _) (fun hSw => ?_)
        refine lG 0 (.agg #[bk.iv, .int .u8 bk.last, .int .i64 bk.reg, .int .i64 bk.yes, .int .i64 bk.no]) hSw (fun V hV => ?_) ?_
        · have p0 := hV.cell (by dsimp only; omega) id x0
          have p1 := hV.cell (by dsimp only; omega) id x1
          have p2 := hV.cell (by dsimp only; omega) id x2
          have p3 := hV.cell (by dsimp only; omega) id x3
          have p4 := hV.cell (by dsimp only; omega) id x4
          first | (go_simp; done) | rfl
        try simp only [nS]
        refine lH 1 (.pointer (some ⟨w.heap.size + 1, 1, none⟩)) hSw ?_
        try simp only [nS]
        refine lG 2 (.int .i64 (k : Int)) hSw (fun V hV => ?_) ?_
        · have c := hV.cell (by dsimp only; omega) id s1
          first | (go_simp; done) | rfl
        try simp only [nS]
        refine lG 4 (setV BE) hSw (fun V hV => exec_set gB 0 BE BE 58 (0, 0) rfl (hV.row (by omega) id HJ3.out) (all16 HOB.out.len) HOB.out.len) ?_
        try simp only [nS]
        refine lR 3 (fun K hK => ?_)
        clear hSw
        go_simp
        refine (HDF.out _ HWZ.out.drew).mono ?_; rintro e Z1 ⟨rfl, hb1⟩
        have hb1' : Below Z.heap.size Z Z1 := ⟨hb1.os, hb1.tape, hb1.output, hb1.size, hb1.block⟩
        have hs1 := hb1'.size
        have HZ1 := Lib.hid hb1'
        clear hb1 hb1'
        refine hK.out _ _ (fun k hk _ => HZ1.out.block k (by omega)) (fun hSw => ?_)
        clear hK K
        try simp only [nS]
        refine lR 5 (fun K hK => ?_)
        clear hSw
        go_simp
        refine (HCA.out _).mono ?_; rintro e Z2 ⟨rfl, hb2⟩
        have hb2' := HZ1.out.trans (hb2.mono (by omega))
        have hs2 := hb2'.size
        have HZ2 := Lib.hid hb2'
        clear hb2 hb2'
        refine hK.out _ _ (fun k hk _ => HZ2.out.block k (by omega)) (fun hSw => ?_)
        clear hK K
        try simp only [nS]
        obtain ⟨RR, hRR⟩ : ∃ x, x = aheadS (deedF bk k) BE := ⟨_, rfl⟩
        rw [← hRR] at HOL ⊢
        have HRR := Lib.hid (show RR = atSet bk k S from by rw [hRR, HBE.out]; rfl)
        clear hRR
        refine wpAnyL_only (rs := [6]) (by kernel_rfl) (by simp) (by rfl) ?_
        refine oR 6 (fun J hK => ?_)
        refine wp_put 58 (Operand.tmp 4) (Operand.tmp 37) rfl (w.heap.size + 2) 58 _ (u64A RR) rfl rfl ((HZ2.out.block _ (by omega)).trans HQZ.out) (by rw [u64A_size, HOL.out.len]; rfl) (by rw [u64A_size, HOL.out.len]; kernel_rfl) (u64A_one _) ?_
        intro Z3 hp3
        have HP3 := Lib.hid hp3.at_b
        have HB9 := Lib.hid (hp3.below (HWZ.out.trans (HZ2.out.mono HWZ.out.size)) (by omega))
        refine hK.out _ _ ?_
        clear hK J hp3
        try simp only [nS]
        refine wpAny_done (by kernel_rfl) ?_ _
        go_wp2_with fail
        refine bodyPost_ret (v := setV RR) (results_cell_row rfl _ _ (w.heap.size + 2) 58 _ (0, 0) _ rfl HP3.out Tryd.underlying58 rfl (by rw [u64A_size, HOL.out.len]; kernel_rfl)) rfl ?_
        exact ⟨S, HL1.out, by rw [HRR.out], HB9.out⟩
      · have hjl : j < c5 := by omega
        have hix : j < (nextF bk).length := by rw [← HC5.out]; exact hjl
        obtain ⟨gM, offM, rfl, hgm1, hgm2, hcell⟩ := (HROW5.out.keeps j4 (fun x hx => by omega)).get rfl hix
        have hyl := HG.out.fok.lt HBK.out (List.getElem_mem hix)
        have hget : (nextF bk)[j]? = some (nextF bk)[j] := List.getElem?_eq_getElem hix
        generalize (nextF bk)[j] = y at hcell hyl hget
        obtain ⟨y0, rfl⟩ : ∃ y0 : Nat, y = (y0 : Int) := ⟨y.toNat, by omega⟩
        have hyN : y0 < N := by rw [HN.out]; omega
        have hyN0 : (y0 : Int) < (N : Int) := by omega
        have hyS : y0 < S.length := by rw [HL1.out.len, ← HN.out]; exact hyN
        have htk := beh_take (S := S) hget
        rw [Int.toNat_natCast] at htk
        have hob := beh_ok HL1.out.ok ((nextF bk).take j)
        obtain ⟨BH, hBH⟩ : ∃ x, x = behS S ((nextF bk).take j) := ⟨_, rfl⟩
        rw [← hBH] at htk hob j3
        have HTK := Lib.hid htk
        have HOB := Lib.hid hob
        have HSO := Lib.hid (HL1.out.ok.at y0)
        have HCW := Lib.hid (fun W => setwith_any BH (atS S y0) W hob (HL1.out.ok.at y0))
        have HSA := Lib.hid (show ((flatS S).drop (0 + y0 * 16)).take 16 = atS S y0 from by rw [Nat.zero_add]; exact flat_at (all16S HL1.out.ok) (get_atS hyS))
        have HJ3 := Lib.hid j3
        have HJ4 := Lib.hid j4
        have HSZ := Lib.hid hSZ
        have hSzZ : gS < Z.heap.size := by have := hbZ.size; omega
        clear j3 j4 htk hob hBH hget HJ hyS hSZ h5Z hbZ
        go_wp2_with fail
        refine wp_region_late (S := SameX (fun _ => False) Z.heap.size Z) (fun j => decide (6 ≤ j)) (by kernel_rfl) (SameX.drew _ _ _) (fun hSw => ?_)
        refine lG 0 (setV BH) hSw (fun V hV => exec_set gB 0 BH BH 58 (0, 0) rfl (hV.row (by omega) id HJ3.out) (all16 HOB.out.len) HOB.out.len) ?_
        try simp only [nS]
        refine lH 1 (.slice (some ⟨gS, 0, none⟩) N N) hSw ?_
        try simp only [nS]
        refine lH 2 (.int .i64 (y0 : Int)) hSw ?_
        try simp only [nS]
        refine lG 3 (.pointer (some ⟨gS, 0 + y0 * 16, none⟩)) hSw (fun V hV => ?_) ?_
        · first | (go_simp; done) | (go_simp; omega) | rfl
        try simp only [nS]
        refine lG 4 (setV (atS S y0)) hSw (fun V hV => exec_set gS (0 + y0 * 16) (flatS S) (atS S y0) 58 (0, 0) rfl (hV.row (by omega) id HSZ.out) HSA.out HSO.out.len) ?_
        try simp only [nS]
        refine lR 5 (fun K hK => ?_)
        clear hSw
        go_simp
        refine (HCW.out _).mono ?_; rintro e Z1 ⟨rfl, hb1⟩
        have hb1' : Below Z.heap.size Z Z1 := ⟨hb1.os, hb1.tape, hb1.output, hb1.size, hb1.block⟩
        have hs1 := hb1'.size
        have HZ1 := Lib.hid hb1'
        clear hb1 hb1'
        refine hK.out _ _ (fun k hk _ => HZ1.out.block k (by omega)) (fun hSw => ?_)
        clear hK K
        try simp only [nS]
        have hRs := HOB.out.with HSO.out
        obtain ⟨RR, hRR⟩ : ∃ x, x = withS BH (atS S y0) := ⟨_, rfl⟩
        rw [← hRR] at hRs HTK ⊢
        have HRO := Lib.hid hRs
        clear hRs hRR
        refine wpAnyL_only (rs := [6]) (by kernel_rfl) (by simp) (by rfl) ?_
        refine oR 6 (fun J hK => ?_)
        refine wp_put 58 (Operand.tmp 7) (Operand.tmp 30) rfl gB 58 _ (u64A RR) rfl rfl ((HZ1.out.block _ (by omega)).trans HJ3.out) (by rw [u64A_size, u64A_size, HOB.out.len, HRO.out.len]) (by rw [u64A_size, HRO.out.len]; kernel_rfl) (u64A_one _) ?_
        intro Z2 hp2
        have hw2 : Wr (fun x => x = gB) Z1 Z2 := ⟨hp2.os, hp2.tape, hp2.output, by rw [hp2.size]; exact Nat.le_refl _, fun k _ hk => hp2.rest k hk⟩
        have HZQ := Lib.hid (show Z2.heap[gB]? = some (.cells (u64A (behS S ((nextF bk).take (j + 1)))) 58 (0, 0)) ∧ Wr (fun x => x = gB) W5 Z2 from ⟨by rw [HTK.out]; exact hp2.at_b, HJ4.out.trans ((Wr.of HZ1.out).trans hw2)⟩)
        refine hK.out _ _ ?_
        clear hK J hp2 hw2
        try simp only [nS]
        refine wpAny_done (by kernel_rfl) ?_ _
        go_wp2_with fail
        go_roundw
        case rel => exact ⟨j + 1, hjl, by go_num, HZQ⟩
        case measure => simp [intOf]; omega
  · rw [if_pos (by rfl)]
    clear hSw
    go_simp
    obtain ⟨V1, hV1⟩ : ∃ x, x = (U.alloc (.cells #[.slice none 0 0, .int .u8 0, .int .i64 0, .int .i64 0, .int .i64 0] 36)).drew := ⟨_, rfl⟩
    obtain ⟨g5, hg5⟩ : ∃ x, x = w.heap.size + 3 := ⟨_, rfl⟩
    have hb1 : Below U.heap.size U V1 := by rw [hV1]; exact (below_box U _).drew
    have hz1 : V1.heap.size = g5 + 1 := by rw [hV1, hg5, ← hz]; show (U.alloc _).heap.size = _; simp
    have hq1 : V1.heap[g5]? = some (.cells #[.slice none 0 0, .int .u8 0, .int .i64 0, .int .i64 0, .int .i64 0] 36 (0, 0)) := by rw [hV1, hg5, ← hz]; exact (MapKept.heap_alloc U _).1
    rw [← hV1, ← hg5]
    have HV5 := Lib.hid hg5
    have HB1 := Lib.hid hb1
    have HQ1' := Lib.hid hq1
    have hg5a : w.heap.size + 3 ≤ g5 := by omega
    have hg5b : g5 ≤ w.heap.size + 3 := by omega
    clear hV1 hb1 hq1 hg5
    refine hK.out _ _ (fun k hk _ => HB1.out.block k (by omega)) (fun hSw => ?_)
    clear hK K
    try simp only [nS]
    refine tR 7 (fun K hK => ?_)
    clear hSw
    go_simp
    refine (HBEG.out _ (HB.out.trans (HB1.out.mono (by omega)))).mono ?_; rintro e V2 ⟨S, rfl, hs1, hl1, hb2⟩
    obtain ⟨gS, hgS⟩ : ∃ x, x = V1.heap.size + 1 := ⟨_, rfl⟩
    rw [← hgS] at hs1
    rw [← hgS, ← HN.out]
    have hz2 := hb2.size
    have hgS1 : gS < V2.heap.size := (Array.getElem?_eq_some_iff.1 hs1).1
    have hgS2 : w.heap.size + 3 ≤ gS := by omega
    have hne5 : g5 ≠ gS := by omega
    have HL1 := Lib.hid hl1
    have HS2 := Lib.hid hs1
    have HB2 := Lib.hid (HB1.out.trans (hb2.mono (by omega)))
    have HQ5 := Lib.hid ((hb2.block g5 (by omega)).trans HQ1'.out)
    clear hs1 hl1 hb2 hgS
    refine hK.out _ _ (fun k hk _ => HB2.out.block k (by omega)) (fun hSw => ?_)
    clear hK K
    try simp only [nS]
    refine tR 9 (fun K hK => ?_)
    clear hSw
    refine wp_put 36 (Operand.tmp 5) (Operand.tmp 15) rfl g5 36 _ #[bk.iv, .int .u8 bk.last, .int .i64 bk.reg, .int .i64 bk.yes, .int .i64 bk.no] rfl rfl HQ5.out rfl (by kernel_rfl) HONE.out ?_
    intro V3 hp3
    have hz3 : V2.heap.size ≤ V3.heap.size := by have := hp3.size; omega
    have HF5 := Lib.hid hp3.at_b
    have HFS := Lib.hid ((hp3.rest gS (fun e => hne5 e.symm)).trans HS2.out)
    have hb3 : Below (w.heap.size + 3) U V3 := ⟨hp3.os.trans HB2.out.os, hp3.tape.trans HB2.out.tape, hp3.output.trans HB2.out.output, by have := HB2.out.size; omega, fun x hx => (hp3.rest x (by omega)).trans (HB2.out.block x (by omega))⟩
    have HB3 := Lib.hid hb3
    refine hK.out _ _ (fun k hk _ => hb3.block k hk) (fun hSw => ?_)
    clear hK K hp3 hb3
    try simp only [nS]
    refine tR 10 (fun K hK => ?_)
    clear hSw
    go_simp
    refine hK.out _ _ (fun k hk _ => HB3.out.block k hk) (fun hSw => ?_)
    clear hK K
    try simp only [nS]
    refine wpAnyH_done (by kernel_rfl) ?_ _
    have HBW3 := Lib.hid (HB.out.trans (HB3.out.mono (by omega)))
    have h5z : g5 < V3.heap.size := (Array.getElem?_eq_some_iff.1 HF5.out).1
    have hSz : gS < V3.heap.size := (Array.getElem?_eq_some_iff.1 HFS.out).1
    obtain ⟨W4, hW4⟩ : ∃ x, x = V3.alloc (.cells #[.int .u64 0, .int .u64 0, .int .u64 0, .int .u64 0, .int .u64 0, .int .u64 0, .int .u64 0, .int .u64 0, .int .u64 0, .int .u64 0, .int .u64 0, .int .u64 0, .int .u64 0, .int .u64 0, .int .u64 0, .int .u64 0] 58) := ⟨_, rfl⟩
    obtain ⟨gB, hgB⟩ : ∃ x, x = V3.heap.size := ⟨_, rfl⟩
    have hb4 : Below V3.heap.size V3 W4 := by rw [hW4]; exact below_box V3 _
    have hz4 : W4.heap.size = gB + 1 := by rw [hW4, hgB]; simp
    have hq4 : W4.heap[gB]? = some (.cells (u64A emptyS) 58 (0, 0)) := by rw [hW4, hgB]; exact (MapKept.heap_alloc _ _).1
    have HF54 := Lib.hid ((hb4.block g5 h5z).trans HF5.out)
    obtain ⟨x0, x1, x2, x3, x4⟩ := own5 HF54.out
    have HW4 := Lib.hid hW4
    have HGB := Lib.hid hgB
    have HB4 := Lib.hid hb4
    have HQ4 := Lib.hid hq4
    have hgB1 : gB ≤ V3.heap.size := by omega
    have hgB2 : V3.heap.size ≤ gB := by omega
    clear hW4 hb4 hq4 hgB p0 p1 p2 p3 p4 g0 g1 g2 g2' s0
    go_wp2_with (rw [← HW4.out])
    rw [← HGB.out]
    refine (HNX.out _).mono ?_; rintro e W5 ⟨v5, rfl, hrow5, hb5⟩
    obtain ⟨ao5, cap5, rfl⟩ := hrow5.form
    have hc5 := nextF_len bk
    obtain ⟨c5, hcc⟩ : ∃ c, c = (nextF bk).length := ⟨_, rfl⟩
    rw [← hcc] at hc5 ⊢
    have hs5 := hb5.size
    have HC5 := Lib.hid hcc
    have HROW5 := Lib.hid hrow5
    have hb45 := HB4.out.trans (hb5.mono (by omega))
    have HB45 := Lib.hid hb45
    have HQ5B := Lib.hid ((hb5.block gB (by omega)).trans HQ4.out)
    clear hrow5 hb5 hcc hb45 x0 x1 x2 x3 x4
    go_wp2_with fail
    go_loopw [21] (fun q wr => ∃ j : Nat, j ≤ c5 ∧ q = .int .i64 (j : Int) ∧ Hid (wr.heap[gB]? = some (.cells (u64A (behS S ((nextF bk).take j))) 58 (0, 0)) ∧ Wr (fun x => x = gB) W5 wr)) (fun q _ => c5 - (intOf q).toNat)
    case atStart => exact ⟨0, Nat.zero_le _, rfl, Lib.hid ⟨HQ5B.out, Wr.refl _ _⟩⟩
    case round => as_aux_lemma =>
      obtain ⟨j, hj, rfl, HJ⟩ := hrel
      rename World => Z
      obtain ⟨j3, j4⟩ := HJ.out
      have hzZ := j4.size
      have hbZ : Below V3.heap.size V3 Z := ⟨j4.os.trans HB45.out.os, j4.tape.trans HB45.out.tape, j4.output.trans HB45.out.output, by have := HB45.out.size; omega, fun x hx => (j4.block x (by omega) (by omega)).trans (HB45.out.block x hx)⟩
      have hSZ := (hbZ.block gS hSz).trans HFS.out
      have h5Z := (hbZ.block g5 h5z).trans HF5.out
      by_cases hjc : j = c5
      · have hfull : (nextF bk).take j = nextF bk := List.take_of_length_le (by rw [hjc, HC5.out]; exact Nat.le_refl _)
        rw [hfull] at j3
        subst hjc
        have hUZ : Below (w.heap.size + 3) U Z := HB3.out.trans (hbZ.mono (by have := HB3.out.size; omega))
        have hwZ : Below w.heap.size w Z := HB.out.trans (hUZ.mono (by omega))
        obtain ⟨x0, x1, x2, x3, x4⟩ := own5 h5Z
        have s1 : Z.cell? ⟨w.heap.size + 1, 1, none⟩ = some (.int .i64 (k : Int)) := by rw [Lib.cell_of_heap ((hUZ.block (w.heap.size + 1) (by omega)).trans HQ1.out)]; rfl
        have HQZ := Lib.hid ((hUZ.block (w.heap.size + 2) (by omega)).trans HQ2.out)
        have hob := beh_ok HL1.out.ok (nextF bk)
        obtain ⟨BE, hBE⟩ : ∃ x, x = behS S (nextF bk) := ⟨_, rfl⟩
        rw [← hBE] at hob j3
        have HOB := Lib.hid hob
        have HBE := Lib.hid hBE
        have HJ3 := Lib.hid j3
        have HWZ := Lib.hid hwZ
        have HCA := Lib.hid (fun W => ahead_set_any (deedF bk k) BE W HDO.out hob)
        have hol := ahead_ok HDO.out hob
        have HOL := Lib.hid hol
        have h5zZ : g5 < Z.heap.size := by have := hbZ.size; omega
        have hwsz : w.heap.size + 3 ≤ Z.heap.size := by have := hbZ.size; omega
        clear j3 j4 hob hBE hol hfull HJ hSZ h5Z hbZ hUZ hwZ
        go_wp2_with fail
        refine wp_region_late (S := SameX (fun _ => False) Z.heap.size Z) (fun j => decide (6 ≤ j)) (by kernel_rfl) (SameX.drew _ _ _) (fun hSw => ?_)
        refine lG 0 (.agg #[bk.iv, .int .u8 bk.last, .int .i64 bk.reg, .int .i64 bk.yes, .int .i64 bk.no]) hSw (fun V hV => ?_) ?_
        · have p0 := hV.cell (by dsimp only; omega) id x0
          have p1 := hV.cell (by dsimp only; omega) id x1
          have p2 := hV.cell (by dsimp only; omega) id x2
          have p3 := hV.cell (by dsimp only; omega) id x3
          have p4 := hV.cell (by dsimp only; omega) id x4
          first | (go_simp; done) | rfl
        try simp only [nS]
        refine lH 1 (.pointer (some ⟨w.heap.size + 1, 1, none⟩)) hSw ?_
        try simp only [nS]
        refine lG 2 (.int .i64 (k : Int)) hSw (fun V hV => ?_) ?_
        · have c := hV.cell (by dsimp only; omega) id s1
          first | (go_simp; done) | rfl
        try simp only [nS]
        refine lG 4 (setV BE) hSw (fun V hV => exec_set gB 0 BE BE 58 (0, 0) rfl (hV.row (by omega) id HJ3.out) (all16 HOB.out.len) HOB.out.len) ?_
        try simp only [nS]
        refine lR 3 (fun K hK => ?_)
        clear hSw
        go_simp
        refine (HDF.out _ HWZ.out.drew).mono ?_; rintro e Z1 ⟨rfl, hb1⟩
        have hb1' : Below Z.heap.size Z Z1 := ⟨hb1.os, hb1.tape, hb1.output, hb1.size, hb1.block⟩
        have hs1 := hb1'.size
        have HZ1 := Lib.hid hb1'
        clear hb1 hb1'
        refine hK.out _ _ (fun k hk _ => HZ1.out.block k (by omega)) (fun hSw => ?_)
        clear hK K
        try simp only [nS]
        refine lR 5 (fun K hK => ?_)
        clear hSw
        go_simp
        refine (HCA.out _).mono ?_; rintro e Z2 ⟨rfl, hb2⟩
        have hb2' := HZ1.out.trans (hb2.mono (by omega))
        have hs2 := hb2'.size
        have HZ2 := Lib.hid hb2'
        clear hb2 hb2'
        refine hK.out _ _ (fun k hk _ => HZ2.out.block k (by omega)) (fun hSw => ?_)
        clear hK K
        try simp only [nS]
        obtain ⟨RR, hRR⟩ : ∃ x, x = aheadS (deedF bk k) BE := ⟨_, rfl⟩
        rw [← hRR] at HOL ⊢
        have HRR := Lib.hid (show RR = atSet bk k S from by rw [hRR, HBE.out]; rfl)
        clear hRR
        refine wpAnyL_only (rs := [6]) (by kernel_rfl) (by simp) (by rfl) ?_
        refine oR 6 (fun J hK => ?_)
        refine wp_put 58 (Operand.tmp 4) (Operand.tmp 37) rfl (w.heap.size + 2) 58 _ (u64A RR) rfl rfl ((HZ2.out.block _ (by omega)).trans HQZ.out) (by rw [u64A_size, HOL.out.len]; rfl) (by rw [u64A_size, HOL.out.len]; kernel_rfl) (u64A_one _) ?_
        intro Z3 hp3
        have HP3 := Lib.hid hp3.at_b
        have HB9 := Lib.hid (hp3.below (HWZ.out.trans (HZ2.out.mono HWZ.out.size)) (by omega))
        refine hK.out _ _ ?_
        clear hK J hp3
        try simp only [nS]
        refine wpAny_done (by kernel_rfl) ?_ _
        go_wp2_with fail
        refine bodyPost_ret (v := setV RR) (results_cell_row rfl _ _ (w.heap.size + 2) 58 _ (0, 0) _ rfl HP3.out Tryd.underlying58 rfl (by rw [u64A_size, HOL.out.len]; kernel_rfl)) rfl ?_
        exact ⟨S, HL1.out, by rw [HRR.out], HB9.out⟩
      · have hjl : j < c5 := by omega
        have hix : j < (nextF bk).length := by rw [← HC5.out]; exact hjl
        obtain ⟨gM, offM, rfl, hgm1, hgm2, hcell⟩ := (HROW5.out.keeps j4 (fun x hx => by omega)).get rfl hix
        have hyl := HG.out.fok.lt HBK.out (List.getElem_mem hix)
        have hget : (nextF bk)[j]? = some (nextF bk)[j] := List.getElem?_eq_getElem hix
        generalize (nextF bk)[j] = y at hcell hyl hget
        obtain ⟨y0, rfl⟩ : ∃ y0 : Nat, y = (y0 : Int) := ⟨y.toNat, by omega⟩
        have hyN : y0 < N := by rw [HN.out]; omega
        have hyN0 : (y0 : Int) < (N : Int) := by omega
        have hyS : y0 < S.length := by rw [HL1.out.len, ← HN.out]; exact hyN
        have htk := beh_take (S := S) hget
        rw [Int.toNat_natCast] at htk
        have hob := beh_ok HL1.out.ok ((nextF bk).take j)
        obtain ⟨BH, hBH⟩ : ∃ x, x = behS S ((nextF bk).take j) := ⟨_, rfl⟩
        rw [← hBH] at htk hob j3
        have HTK := Lib.hid htk
        have HOB := Lib.hid hob
        have HSO := Lib.hid (HL1.out.ok.at y0)
        have HCW := Lib.hid (fun W => setwith_any BH (atS S y0) W hob (HL1.out.ok.at y0))
        have HSA := Lib.hid (show ((flatS S).drop (0 + y0 * 16)).take 16 = atS S y0 from by rw [Nat.zero_add]; exact flat_at (all16S HL1.out.ok) (get_atS hyS))
        have HJ3 := Lib.hid j3
        have HJ4 := Lib.hid j4
        have HSZ := Lib.hid hSZ
        have hSzZ : gS < Z.heap.size := by have := hbZ.size; omega
        clear j3 j4 htk hob hBH hget HJ hyS hSZ h5Z hbZ
        go_wp2_with fail
        refine wp_region_late (S := SameX (fun _ => False) Z.heap.size Z) (fun j => decide (6 ≤ j)) (by kernel_rfl) (SameX.drew _ _ _) (fun hSw => ?_)
        refine lG 0 (setV BH) hSw (fun V hV => exec_set gB 0 BH BH 58 (0, 0) rfl (hV.row (by omega) id HJ3.out) (all16 HOB.out.len) HOB.out.len) ?_
        try simp only [nS]
        refine lH 1 (.slice (some ⟨gS, 0, none⟩) N N) hSw ?_
        try simp only [nS]
        refine lH 2 (.int .i64 (y0 : Int)) hSw ?_
        try simp only [nS]
        refine lG 3 (.pointer (some ⟨gS, 0 + y0 * 16, none⟩)) hSw (fun V hV => ?_) ?_
        · first | (go_simp; done) | (go_simp; omega) | rfl
        try simp only [nS]
        refine lG 4 (setV (atS S y0)) hSw (fun V hV => exec_set gS (0 + y0 * 16) (flatS S) (atS S y0) 58 (0, 0) rfl (hV.row (by omega) id HSZ.out) HSA.out HSO.out.len) ?_
        try simp only [nS]
        refine lR 5 (fun K hK => ?_)
        clear hSw
        go_simp
        refine (HCW.out _).mono ?_; rintro e Z1 ⟨rfl, hb1⟩
        have hb1' : Below Z.heap.size Z Z1 := ⟨hb1.os, hb1.tape, hb1.output, hb1.size, hb1.block⟩
        have hs1 := hb1'.size
        have HZ1 := Lib.hid hb1'
        clear hb1 hb1'
        refine hK.out _ _ (fun k hk _ => HZ1.out.block k (by omega)) (fun hSw => ?_)
        clear hK K
        try simp only [nS]
        have hRs := HOB.out.with HSO.out
        obtain ⟨RR, hRR⟩ : ∃ x, x = withS BH (atS S y0) := ⟨_, rfl⟩
        rw [← hRR] at hRs HTK ⊢
        have HRO := Lib.hid hRs
        clear hRs hRR
        refine wpAnyL_only (rs := [6]) (by kernel_rfl) (by simp) (by rfl) ?_
        refine oR 6 (fun J hK => ?_)
        refine wp_put 58 (Operand.tmp 7) (Operand.tmp 30) rfl gB 58 _ (u64A RR) rfl rfl ((HZ1.out.block _ (by omega)).trans HJ3.out) (by rw [u64A_size, u64A_size, HOB.out.len, HRO.out.len]) (by rw [u64A_size, HRO.out.len]; kernel_rfl) (u64A_one _) ?_
        intro Z2 hp2
        have hw2 : Wr (fun x => x = gB) Z1 Z2 := ⟨hp2.os, hp2.tape, hp2.output, by rw [hp2.size]; exact Nat.le_refl _, fun k _ hk => hp2.rest k hk⟩
        have HZQ := Lib.hid (show Z2.heap[gB]? = some (.cells (u64A (behS S ((nextF bk).take (j + 1)))) 58 (0, 0)) ∧ Wr (fun x => x = gB) W5 Z2 from ⟨by rw [HTK.out]; exact hp2.at_b, HJ4.out.trans ((Wr.of HZ1.out).trans hw2)⟩)
        refine hK.out _ _ ?_
        clear hK J hp2 hw2
        try simp only [nS]
        refine wpAny_done (by kernel_rfl) ?_ _
        go_wp2_with fail
        go_roundw
        case rel => exact ⟨j + 1, hjl, by go_num, HZQ⟩
        case measure => simp [intOf]; omega
end Go.Proofs.YtgkjhnghibpeoaaDoor
