/- On which sides the blocks of a graph may begin. -/
import Derived.Test.YtgkjhnghibpeoaaDoorRows
import Derived.Test.YtgkjhnghibpeoaaDoorIrGo
import Derived.Test.YtgkjhnghibpeoaaDoorFlSize
import Derived.Test.YtgkjhnghibpeoaaDoorIrNew
import Derived.Test.YtgkjhnghibpeoaaDoorParseOrder
import Derived.Test.YtgkjhnghibpeoaaDoorIrLeaf
import Derived.LoopTactic
import Derived.LoopN
import Derived.Deep.LoopGhost
import Derived.WalkKit
import Derived.WalkSpells
import Derived.WalkLawsBesides
import Derived.Lib.Hide
import Derived.OrdersHeld
import Derived.Deep.RegionHeld
import Derived.Deep.DrawnRows
import Derived.RegionTactic
import Derived.Deep.RegionHeld3
import Derived.Deep.AppendLies
import Derived.Laws.MakeOwn
import Derived.Laws.OwnMore
namespace Go.Proofs.YtgkjhnghibpeoaaDoor
open Go.RowKit
set_option maxRecDepth 100000
attribute [local go_sem ↓] bld_eq bls_eq

theorem infoSide : (Tryd.prog.info? 106).map (fun i => (i.zero, i.size, i.bytes)) = some (some (.int .u8 0), 1, 1) := by kernel_rfl
theorem infoWay : (Tryd.prog.info? 108).map (fun i => (i.zero, i.size, i.bytes)) = some (some (.agg #[.int .i64 0, .int .u8 0]), 2, 16) := by kernel_rfl
theorem make_sides (n : Nat) (hn : n ≤ 8192) (w : World) : (Instr.makeSlice 98 (.int .i64 (n : Int)) (.int .i64 (n : Int))).run Tryd.prog w = .ok (.slice (some ⟨w.heap.size, 0, none⟩) n n) (w.alloc (.cells (sidesA (List.replicate n 0)) 106)) := by
  obtain ⟨i0, hi, hz0, hz1, hz2⟩ := info_parts infoSide
  have h := run_make (P := Tryd.prog) w 98 106 i0 (.int .u8 0) Tryd.underlying98 hi hz0 .i64 .i64 (n : Int) (n : Int) (by omega) (by omega) (by rw [hz2]; omega) (by omega)
  rw [hz1, Int.toNat_natCast, Nat.mul_one] at h
  have e : sidesA (List.replicate n 0) = (List.replicate n (Value.int .u8 0)).toArray := by unfold sidesA; rw [List.map_replicate]; rfl
  rw [h, e, ← made_one]
  rfl
/-- The bits of two sides. -/
theorem bits_and {s on : Nat} (hs : s ≤ 3) (hon : on = 1 ∨ on = 2) : bits BinOp.and .u8 (s : Int) (on : Int) = ((s &&& on : Nat) : Int) := by
  have h : s = 0 ∨ s = 1 ∨ s = 2 ∨ s = 3 := by omega
  rcases h with rfl | rfl | rfl | rfl <;> rcases hon with rfl | rfl <;> rfl
theorem bits_or {s on : Nat} (hs : s ≤ 3) (hon : on = 1 ∨ on = 2) : bits BinOp.or .u8 (s : Int) (on : Int) = ((s ||| on : Nat) : Int) := by
  have h : s = 0 ∨ s = 1 ∨ s = 2 ∨ s = 3 := by omega
  rcases h with rfl | rfl | rfl | rfl <;> rcases hon with rfl | rfl <;> rfl
theorem waysB_get (b : Bk) (on k : Nat) (h : k < (nextL b).length) (hw : k < (waysB b on).length) : (waysB b on)[k] = ((nextL b)[k].toNat, behL b.ins on) := by simp [waysB]
/-- What beginnings answers. -/
def BeginsE (bl : List Bk) (w : World) (e : Ending) (w' : World) : Prop := ∃ gs, e = .returned (.slice (some ⟨gs, 0, none⟩) bl.length bl.length) ∧ w.heap.size ≤ gs ∧ w'.heap[gs]? = some (.cells (sidesA (beginsT bl)) 106 (0, 0)) ∧ (beginsT bl).length = bl.length ∧ (∀ s ∈ beginsT bl, s ≤ 3) ∧ Below w.heap.size w w'
set_option maxHeartbeats 32000000 in
theorem begins_any (B0 : Nat) (g : Gr) (w : World) (hI : GIn w B0 g) (hBw : B0 ≤ w.heap.size) (hn1 : 1 ≤ g.blocks.length ∧ g.blocks.length ≤ 4096) (hok : ∀ b ∈ g.blocks, ∀ y ∈ nextL b, 0 ≤ y ∧ y < (g.blocks.length : Int)) :
    Calls Tryd.prog 52 #[.agg #[g.rv, .int .i64 g.sites, g.bv]] w (BeginsE g.blocks w) := by
  obtain ⟨Y, hY⟩ : ∃ Y, Y = beginsT g.blocks := ⟨_, rfl⟩
  unfold BeginsE
  rw [← hY]
  obtain ⟨i0, hi, hiz, his, hib⟩ := info_parts infoWay
  have HINF := Lib.hid (And.intro hi (And.intro hiz (And.intro his hib)))
  clear hi hiz his hib
  obtain ⟨ro, rc, er, -, -⟩ := hI.rlies.form
  obtain ⟨bo, bcp, eb, hbl, hbg⟩ := hI.blies.form
  have HBL := Lib.hid hI.blies
  have HBI := Lib.hid hI.blocks
  clear hI
  obtain ⟨rv, refs, sites, bv, blocks⟩ := g
  simp only at *
  subst er eb
  obtain ⟨N1, hN1⟩ : ∃ N, N = refs.length := ⟨_, rfl⟩
  obtain ⟨n, hN2⟩ : ∃ N, N = blocks.length := ⟨_, rfl⟩
  rw [← hN1, ← hN2]
  rw [← hN2] at hbl hbg HBL hn1 hok
  obtain ⟨G, hG⟩ : ∃ G : Array Value, G = #[.slice ro N1 rc, .int .i64 sites, .slice bo n bcp] := ⟨_, rfl⟩
  have hmk := make_sides n (by omega)
  have e0 := fun (x y : Int) => bld_of 108 #[(0, .int .i64 x), (1, .int .u8 y)] #[.int .i64 x, .int .u8 y] (by kernel_rfl)
  have e1 := fun (x y : Int) => bls_of 109 108 1 2 #[(0, .agg #[.int .i64 x, .int .u8 y])] #[.int .i64 x, .int .u8 y] (by kernel_rfl) (by kernel_rfl) (by kernel_rfl) (by omega) (by omega) (by kernel_rfl) (by kernel_rfl)
  obtain ⟨W3, hW3⟩ : ∃ W3, W3 = ((w.alloc (.cells #[.slice ro N1 rc, .int .i64 sites, .slice bo n bcp] 25)).alloc (.cells (sidesA (List.replicate n 0)) 106)).alloc (.cells #[.int .i64 0, .int .u8 1] 108) := ⟨_, rfl⟩
  have hS : BgAt w G (.slice (some ⟨w.heap.size + 2, 0, none⟩) 1 1) (List.replicate n 0) [(0, 1)] W3 := by
    have h1 := (MapKept.heap_alloc w (.cells #[.slice ro N1 rc, .int .i64 sites, .slice bo n bcp] 25)).1
    have h2 := (MapKept.heap_alloc (w.alloc (.cells #[.slice ro N1 rc, .int .i64 sites, .slice bo n bcp] 25)) (.cells (sidesA (List.replicate n 0)) 106)).1
    have z1 : (w.alloc (.cells #[.slice ro N1 rc, .int .i64 sites, .slice bo n bcp] 25)).heap.size = w.heap.size + 1 := by simp
    have z2 : ((w.alloc (.cells #[.slice ro N1 rc, .int .i64 sites, .slice bo n bcp] 25)).alloc (.cells (sidesA (List.replicate n 0)) 106)).heap.size = w.heap.size + 2 := by simp
    rw [z1] at h2
    refine ⟨?_, ?_, ?_, ?_⟩
    · rw [hW3]; exact ((below_box w _).alloc (by omega) _).alloc (by omega) _
    · rw [hW3, hG, Below.heap_alloc _ _ _ (by omega), Below.heap_alloc _ _ _ (by omega)]; exact h1
    · rw [hW3, Below.heap_alloc _ _ _ (by omega)]; exact h2
    · have h3 := World.ownsRow_lit (base := w.heap.size + 2) (e := 108) (size := 2) ((w.alloc (.cells #[.slice ro N1 rc, .int .i64 sites, .slice bo n bcp] 25)).alloc (.cells (sidesA (List.replicate n 0)) 106)) #[.int .i64 0, .int .u8 1] 1 (by omega) (by decide) rfl
      rw [z2] at h3
      rw [hW3]
      exact h3
  have hL : Left blocks Y n (6 * n + 1) (List.replicate n 0) [(0, 1)] := by
    refine ⟨?_, by simp, by intro s hs; rw [List.eq_of_mem_replicate hs]; omega, by intro x hx; rw [List.mem_singleton.1 hx]; exact ⟨by simp only; omega, .inl rfl⟩, by simp, Nat.le_refl _⟩
    rw [hY, beginsT, ← hN2]
  have HG := Lib.hid hG
  have HN := Lib.hid hN2
  have HOK := Lib.hid hok
  have HG2 := Lib.hid hbg
  have HS := Lib.hid hS
  have HL := Lib.hid hL
  have HW3 := Lib.hid hW3
  obtain ⟨q0, q1, q2⟩ := own3 (MapKept.heap_alloc w (.cells #[.slice ro N1 rc, .int .i64 sites, .slice bo n bcp] 25)).1
  clear hN1 hN2 hok hbg hS hL hW3 hY hG
  go_enter Tryd.func52, Tryd.ntmps52
  go_wp2_with fail
  rw [← HW3.out]
  clear q0 q1 q2
  go_loopg [4] (6 * n + 1) (fun f v wr => ∃ B S, BgAt w G v B S wr ∧ Hid (Left blocks Y n f B S))
  case atStart => exact ⟨_, _, HS.out, HL⟩
  case round =>
    obtain ⟨B, S, hA, HLF⟩ := hrel
    rename World => V
    cases S with
    | nil =>
      obtain ⟨p, c, rfl⟩ := hA.form
      have HD := Lib.hid HLF.out
      have HA := Lib.hid hA
      clear hA hmk e0 e1
      go_wp2_with fail
      go_ret
      have h := HD.out.done
      subst h
      exact ⟨_, rfl, by omega, HA.out.sides, HD.out.len, HD.out.small, HA.out.below⟩
    | cons x S =>
      obtain ⟨t, on⟩ := x
      obtain ⟨f', hf'⟩ := HLF.out.more
      subst hf'
      obtain ⟨g1, cap, rfl, hg1, hcap, hcm, c0, c1, hP⟩ := hA.pop
      obtain ⟨htn, hon⟩ := HLF.out.ways _ (List.mem_cons_self ..)
      simp only at htn hon
      have hsh := HLF.out.short
      simp only [List.length_cons] at hsh
      obtain ⟨s, hs⟩ : ∃ s, B[t]? = some s := ⟨_, List.getElem?_eq_getElem (show t < B.length by rw [HLF.out.len]; exact htn)⟩
      have hs3 := HLF.out.small s (List.mem_of_getElem? hs)
      obtain ⟨K, hK⟩ : ∃ K, K = S.length := ⟨_, rfl⟩
      rw [← hK] at c0 c1 hP hcap hsh
      obtain ⟨U, hU⟩ : ∃ U, U = V.alloc (.cells #[.int .i64 (t : Int), .int .u8 (on : Int)] 108) := ⟨_, rfl⟩
      have hBU : Below V.heap.size V U := by rw [hU]; exact below_box V _
      have hzU : U.heap.size = V.heap.size + 1 := by rw [hU]; simp
      have hPU := hP.keeps hBU
      have hWU : U.heap[V.heap.size]? = some (.cells #[.int .i64 (t : Int), .int .u8 (on : Int)] 108 (0, 0)) := by rw [hU]; exact (MapKept.heap_alloc _ _).1
      have hzV := hA.size
      have HU := Lib.hid hU
      have HPU := Lib.hid hPU
      have HWU := Lib.hid hWU
      have HK := Lib.hid hK
      have HON := Lib.hid hon
      have HS1 := Lib.hid hs
      have HS3 := Lib.hid hs3
      have hkl : (S.length + 1 : Nat) = K + 1 := by omega
      rw [hkl]
      clear hA hP hU hBU hPU hWU hK hon hs hs3 hkl
      go_wp2_with fail
      rw [← HU.out]
      have hsd := HPU.out.side HS1.out
      obtain ⟨a0, a1⟩ := own2 HWU.out
      by_cases hz : s &&& on = 0
      · have hb : bits BinOp.and .u8 (s : Int) (on : Int) = 0 := by rw [bits_and HS3.out HON.out, hz]; rfl
        have HZ := Lib.hid hz
        clear hz
        refine wp_region_held_drew (S := SameTo (V.heap.size + 1) U) (by kernel_rfl) (SameTo.drew _ _) (fun hSw => ?_)
        refine tH 0 (.slice (some ⟨w.heap.size + 1, 0, none⟩) n n) hSw ?_
        try simp only [nS]
        refine tH 1 (.pointer (some ⟨V.heap.size, 0, none⟩)) hSw ?_
        try simp only [nS]
        refine tG 2 (.int .i64 (t : Int)) hSw (fun W hW => ?_) ?_
        · have a0 := hW.cell (by dsimp only; omega) a0
          first | (go_simp; done) | rfl
        try simp only [nS]
        refine tH 3 (.pointer (some ⟨w.heap.size + 1, t, none⟩)) hSw ?_
        try simp only [nS]
        refine tG 4 (.int .u8 (s : Int)) hSw (fun W hW => ?_) ?_
        · have hsd := hW.cell (by dsimp only; omega) hsd
          first | (go_simp; done) | rfl
        try simp only [nS]
        refine tH 5 (.pointer (some ⟨V.heap.size, 1, none⟩)) hSw ?_
        try simp only [nS]
        refine tG 6 (.int .u8 (on : Int)) hSw (fun W hW => ?_) ?_
        · have a1 := hW.cell (by dsimp only; omega) a1
          first | (go_simp; done) | rfl
        try simp only [nS]
        refine tH 7 (.int .u8 0) hSw ?_
        try simp only [nS]
        refine tH 8 (.bool false) hSw ?_
        try simp only [nS]
        refine wpAnyH_done (by kernel_rfl) ?_ _
        clear hb hsd a0 a1
        go_wp2_with fail
        obtain ⟨U2, hU2⟩ : ∃ U2, U2 = U.drew := ⟨_, rfl⟩
        rw [← hU2]
        have hB2 : Below U.heap.size U U2 := by rw [hU2]; exact below_drewN (Below.refl _ _) 1
        have hP2 := HPU.out.keeps hB2
        have hW2 : U2.heap[V.heap.size]? = some (.cells #[.int .i64 (t : Int), .int .u8 (on : Int)] 108 (0, 0)) := by rw [hU2]; exact HWU.out
        have hz2 : U2.heap.size = V.heap.size + 1 := by rw [hU2]; exact hzU
        have hsd := hP2.side HS1.out
        obtain ⟨a0, a1⟩ := own2 hW2
        have f0 := Lib.frozen_of_heap hP2.sides t
        obtain ⟨X, hX⟩ : ∃ X, X = s ||| on := ⟨_, rfl⟩
        have hb := bits_or HS3.out HON.out
        rw [← hX] at hb
        have HX := Lib.hid hX
        have HP2 := Lib.hid hP2
        have HW2 := Lib.hid hW2
        clear hU2 hB2 hP2 hW2 hX
        refine wp_region_late (S := SameTo (V.heap.size + 1) U2) (fun j => decide (8 ≤ j)) (by kernel_rfl) (SameTo.drew _ _) (fun hSw => ?_)
        refine lH 0 (.slice (some ⟨w.heap.size + 1, 0, none⟩) n n) hSw ?_
        try simp only [nS]
        refine lH 1 (.pointer (some ⟨V.heap.size, 0, none⟩)) hSw ?_
        try simp only [nS]
        refine lG 2 (.int .i64 (t : Int)) hSw (fun W hW => ?_) ?_
        · have a0 := hW.cell (by dsimp only; omega) a0
          first | (go_simp; done) | rfl
        try simp only [nS]
        refine lH 3 (.pointer (some ⟨w.heap.size + 1, t, none⟩)) hSw ?_
        try simp only [nS]
        refine lG 4 (.int .u8 (s : Int)) hSw (fun W hW => ?_) ?_
        · have hsd := hW.cell (by dsimp only; omega) hsd
          first | (go_simp; done) | rfl
        try simp only [nS]
        refine lH 5 (.pointer (some ⟨V.heap.size, 1, none⟩)) hSw ?_
        try simp only [nS]
        refine lG 6 (.int .u8 (on : Int)) hSw (fun W hW => ?_) ?_
        · have a1 := hW.cell (by dsimp only; omega) a1
          first | (go_simp; done) | rfl
        try simp only [nS]
        refine lH 7 (.int .u8 (X : Int)) hSw ?_
        try simp only [nS]
        refine wpAnyL_only (rs := [8]) (by kernel_rfl) (by simp) (by rfl) ?_
        refine oR 8 (fun J hK => ?_)
        go_simp
        refine hK.out _ _ ?_
        clear hK J
        try simp only [nS]
        refine oR 9 (fun J hK => ?_)
        go_simp
        refine hK.out _ _ ?_
        clear hK J
        try simp only [nS]
        refine wpAny_done (by kernel_rfl) ?_ _
        obtain ⟨V2, hV2⟩ : ∃ V2, V2 = (U2.setCell ⟨w.heap.size + 1, t, none⟩ (.int .u8 (X : Int))).drew := ⟨_, rfl⟩
        rw [← hV2]
        have hP3 : BgAt w G (.slice (some ⟨g1, 0, none⟩) K cap) (B.set t X) S V2 := by rw [hV2]; exact (HP2.out.set t X).keeps (below_drewN (Below.refl _ _) 1)
        have hz3 : V2.heap.size = V.heap.size + 1 := by rw [hV2]; show (U2.setCell _ _).heap.size = _; simp [World.setCell, hz2]
        have hW3 : V2.heap[V.heap.size]? = some (.cells #[.int .i64 (t : Int), .int .u8 (on : Int)] 108 (0, 0)) := by rw [hV2]; show (U2.setCell _ _).heap[V.heap.size]? = _; rw [Below.heap_setCell _ _ _ _ (by show V.heap.size ≠ w.heap.size + 1; omega)]; exact HW2.out
        have htx : t < blocks.length := by rw [← HN.out]; exact htn
        obtain ⟨g0, off, rfl, hg0⟩ := HG2.out (by omega)
        have hat := ((HBL.out.below (hP3.below.mono hBw)).at rfl t htx).2
        have hbi := HBI.out _ (List.getElem_mem htx)
        have hyb := HOK.out _ (List.getElem_mem htx)
        have hbt : blocks[t]? = some blocks[t] := List.getElem?_eq_getElem htx
        generalize blocks[t] = b at hat hbi hyb hbt
        have hstep := HLF.out.step HS1.out HZ.out hbt hyb
        rw [← HX.out] at hstep
        obtain ⟨io, icap, eiv, hilen, hig⟩ := hbi.lies.form
        have hilies := hbi.lies.below (hP3.below.mono hBw)
        obtain ⟨m, hm⟩ : ∃ m, m = b.ins.length := ⟨_, rfl⟩
        rw [← hm] at eiv hilen hig
        have hbox := hP3.box
        rw [HG.out] at hbox
        have HBOX := Lib.hid hbox
        have HPC := Lib.hid hat
        have HEV := Lib.hid eiv
        have HVV := Lib.hid (show ∃ ao n' cap', b.iv = .slice ao n' cap' from ⟨_, _, _, eiv⟩)
        have HNX := Lib.hid (fun (u : World) => next_any b u ⟨_, _, _, eiv⟩)
        obtain ⟨p0, p1, p2, p3, p4⟩ := bc hat
        rw [eiv] at p0 hilies
        rw [eiv] at HNX
        obtain ⟨q0, q1, q2⟩ := own3 hbox
        obtain ⟨a0, a1⟩ := own2 hW3
        obtain ⟨ON, hONN⟩ : ∃ ON, ON = behL b.ins on := ⟨_, rfl⟩
        have HONN := Lib.hid (show behL (b.ins.drop 0) on = ON from hONN.symm)
        have HONE := Lib.hid hONN
        have HIL := Lib.hid hilies
        have HM := Lib.hid hm
        have HIG := Lib.hid hig
        have HYB := Lib.hid hyb
        have HP3 := Lib.hid hP3
        have HW3 := Lib.hid hW3
        have HST := Lib.hid hstep
        have hgV : g0 < V2.heap.size := by omega
        clear hV2 hP3 hW3 hat hbi hyb hbt hstep eiv hilies hm hig hbox hONN hsd f0 hb
        go_wp2_with fail
        go_loopw [6, 59] (fun o q wr => ∃ k on' : Nat, k ≤ m ∧ q = .int .i64 k ∧ o = .int .u8 (on' : Int) ∧ Below V2.heap.size V2 wr ∧ Hid (behL (b.ins.drop k) on' = ON)) (fun _ q _ => m - (intOf q).toNat)
        case atStart => exact ⟨0, on, Nat.zero_le _, rfl, rfl, Below.refl _ _, HONN⟩
        case round =>
          obtain ⟨k, on2, hk, rfl, rfl, hB, hD⟩ := hrel
          have hzr := hB.size
          have hd := hD.out
          clear p0 p1 p2 p3 p4 q0 q1 q2 a0 a1
          by_cases hlk : k < m
          · have hkx : k < b.ins.length := by rw [← HM.out]; exact hlk
            obtain ⟨gi, offi, rfl, hgi⟩ := HIG.out (by omega)
            have hati := ((HIL.out.below (hB.mono (by omega))).at rfl k hkx).2
            rw [List.drop_eq_getElem_cons hkx, behL] at hd
            generalize b.ins[k] = i at hati hd
            obtain ⟨i0', i1, i2, i3, i4, i5⟩ := ic hati
            have hgiw : gi < wr.heap.size := by omega
            obtain ⟨W2, hW2⟩ : ∃ W2, W2 = wr.alloc (.cells #[.int .u8 i.k, .int .u8 i.o, .int .i64 i.a, .int .i64 i.b, .int .i64 i.c, .int .i64 i.n] 46) := ⟨_, rfl⟩
            have hb2 : Below wr.heap.size wr W2 := by rw [hW2]; exact below_box wr _
            have HB2 := Lib.hid (hB.trans (hb2.mono hzr))
            obtain ⟨y0, y1, y2, y3, y4, y5⟩ := own6 (MapKept.heap_alloc wr (.cells #[.int .u8 i.k, .int .u8 i.o, .int .i64 i.a, .int .i64 i.b, .int .i64 i.c, .int .i64 i.n] 46)).1
            have HBH := Lib.hid (behind_any i on2 W2)
            have HW2 := Lib.hid hW2
            have HDD := Lib.hid hd
            clear hB hD hd hati hW2 hb2
            go_wp2_with fail
            rw [← HW2.out]
            refine HBH.out.mono ?_; rintro e w6 ⟨rfl, hb6⟩
            have HB6 := Lib.hid (HB2.out.trans (hb6.mono HB2.out.size))
            clear hb6 y0 y1 y2 y3 y4 y5
            go_wp2_with fail
            go_roundw
            case rel => exact ⟨k + 1, _, hlk, by go_num, rfl, HB6.out, HDD⟩
            case measure => simp [intOf]; omega
          · rw [show b.ins.drop k = [] from List.drop_eq_nil_of_le (by rw [← HM.out]; omega)] at hd
            have hon2 : on2 = ON := hd
            subst hon2
            obtain ⟨p0, p1, p2, p3, p4⟩ := bc (fun j u hu => (World.cell?_of_block (hB.block _ hgV)).trans (HPC.out j u hu))
            rw [HEV.out] at p0
            obtain ⟨q0, q1, q2⟩ := own3 ((hB.block w.heap.size (by omega)).trans HBOX.out)
            obtain ⟨a0, a1⟩ := own2 ((hB.block V.heap.size (by omega)).trans HW3.out)
            have hgr : g0 < wr.heap.size := by omega
            have HPR := Lib.hid (HP3.out.keeps hB)
            have HC := Lib.hid (HNX.out wr)
            have hzw := HP3.out.size
            clear hB hD hd
            go_wp2_with fail
            refine HC.out.mono ?_; rintro e w6 ⟨sv, rfl, ⟨ao, ncap, rfl, hint⟩, hb6⟩
            have hP6 := HPR.out.keeps hb6
            have hlen2 := nextL_len b
            obtain ⟨c, hc⟩ : ∃ c, c = (nextL b).length := ⟨_, rfl⟩
            rw [← hc] at hlen2
            have hint2 : ∀ j y, (nextL b)[j]? = some y → ∃ gN, ao = some ⟨gN, 0, none⟩ ∧ gN ≠ g1 ∧ gN < w6.heap.size ∧ w6.cell? ⟨gN, j, none⟩ = some (.int .i64 y) := fun j y hj => by
              rcases hint with h | ⟨gN, h1, h2, h3, h4⟩
              · rw [h] at hj; simp at hj
              · exact ⟨gN, h1, by omega, h3, h4 j y hj⟩
            rw [← hc]
            have HCC := Lib.hid hc
            have HP6 := Lib.hid hP6
            have HI6 := Lib.hid hint2
            clear hP6 hint hint2 hb6 hc p0 p1 p2 p3 p4 q0 q1 q2 a0 a1
            go_wp2_with fail
            go_loopw [4, 75] (fun v q wr2 => ∃ k g' cap' : Nat, k ≤ c ∧ q = .int .i64 k ∧ v = .slice (some ⟨g', 0, none⟩) (K + k) cap' ∧ BgAt w G v (B.set t X) (((waysB b on).take k).reverse ++ S) wr2 ∧ Hid (∀ j y, (nextL b)[j]? = some y → ∃ gN, ao = some ⟨gN, 0, none⟩ ∧ gN ≠ g' ∧ gN < wr2.heap.size ∧ wr2.cell? ⟨gN, j, none⟩ = some (.int .i64 y))) (fun _ q _ => c - (intOf q).toNat)
            case atStart => exact ⟨0, g1, cap, Nat.zero_le _, rfl, rfl, HP6.out, HI6⟩
            case round =>
              obtain ⟨k2, g2, cap2, hk2, rfl, rfl, hA2, hI2⟩ := hrel
              by_cases hlc : k2 < c
              · have hkx2 : k2 < (nextL b).length := by rw [← HCC.out]; exact hlc
                have hkw : k2 < (waysB b on).length := by unfold waysB; rw [List.length_map]; exact hkx2
                have hwk : (waysB b on)[k2] = ((nextL b)[k2].toNat, behL b.ins on) := waysB_get b on k2 hkx2 hkw
                have hS2 : ((waysB b on).take (k2 + 1)).reverse ++ S = (waysB b on)[k2] :: (((waysB b on).take k2).reverse ++ S) := by rw [List.take_succ_eq_append_getElem hkw, List.reverse_append]; rfl
                obtain ⟨gN, rfl, hgN, hgNz, hcN⟩ := hI2.out k2 _ (List.getElem?_eq_getElem hkx2)
                have hy0 := (HYB.out _ (List.getElem_mem hkx2)).1
                obtain ⟨yn, hyn⟩ : ∃ yn : Nat, (nextL b)[k2] = (yn : Int) := ⟨(nextL b)[k2].toNat, by omega⟩
                rw [hyn] at hcN hwk
                rw [Int.toNat_natCast, ← HONE.out] at hwk
                rw [hwk] at hS2
                have hSl : (((waysB b on).take k2).reverse ++ S).length = K + k2 := by rw [List.length_append, List.length_reverse, List.length_take, Nat.min_eq_left (by omega), ← HK.out]; omega
                have hrow := hA2.row
                rw [hSl] at hrow
                have hAz := hA2.size
                have HAL := Lib.hid (hA2.keeps (below_box wr (.cells #[.int .i64 (yn : Int), .int .u8 (on2 : Int)] 108)))
                have HA2 := Lib.hid hA2
                have HS2 := Lib.hid hS2
                have HSL := Lib.hid hSl
                have HRW := Lib.hid hrow
                clear hA2 hrow hS2 hSl hwk hyn hy0 hkw
                go_wp2_with (at_builtin; refine wpList_append_lies _ rfl _ _ 109 rfl (w.heap.size + 2) 108 i0 (.agg #[.int .i64 0, .int .u8 0]) 2 16 Tryd.underlying109 HINF.out.1 HINF.out.2.1 HINF.out.2.2.1 HINF.out.2.2.2 rfl (by decide) (.slice (some ⟨g2, 0, none⟩) (K + k2) cap2) (K + k2) _ rfl (HRW.out.alloc _) ⟨wr.heap.size, 0, none⟩ 1 1 [.int .i64 (yn : Int), .int .u8 (on2 : Int)] rfl rfl ?c1 ?c2 ?c3 ?c4 ?c5 ?c6 _ rfl ?_)
                case c1 => exact World.news_of_block (MapKept.heap_alloc _ _).1
                case c2 => simp [Value.oneCell']
                case c3 => decide
                case c4 => unfold maxLen; omega
                case c5 => omega
                case c6 => simp; omega
                intro g3 cap3 w7 hown7 hgr7 hgo7 hlt7
                have HO7 := Lib.hid hown7
                have HG7 := Lib.hid hgr7
                have HGO := Lib.hid hgo7
                clear hown7 hgr7 hgo7
                go_wp2_with fail
                go_roundw
                case rel =>
                  refine ⟨k2 + 1, g3, cap3, hlc, by go_num, rfl, ?_, Lib.hid fun j y hj => ?_⟩
                  · rw [HS2.out]
                    refine HAL.out.grown ?_ HG7.out
                    rw [List.length_cons, HSL.out, rowS_cons]
                    exact HO7.out
                  · obtain ⟨gM, e1, e2, e3, e4⟩ := hI2.out j y hj
                    cases e1
                    have hne : gN ≠ g3 := by
                      rcases HGO.out with h | h
                      · cases h; exact e2
                      · rw [h]; simp; omega
                    refine ⟨gN, rfl, hne, Nat.lt_of_lt_of_le e3 (Nat.le_trans (by simp) HG7.out.size), ?_⟩
                    rw [World.cell?_of_block (a := ⟨gN, j, none⟩) (HG7.out.block gN (by simp; omega) (by intro q; cases q; exact e2 rfl)), World.cell?_of_block (a := ⟨gN, j, none⟩) (Below.heap_alloc _ _ _ e3)]
                    exact e4
                case measure => simp [intOf]; omega
              · have hk3 : k2 = c := by omega
                subst hk3
                have htk : (waysB b on).take k2 = waysB b on := List.take_of_length_le (by unfold waysB; rw [List.length_map, ← HCC.out]; exact Nat.le_refl _)
                rw [htk] at hA2
                have HA2 := Lib.hid hA2
                clear hA2 htk hI2
                go_wp2_with fail
                go_roundg f'
                case rel => exact ⟨_, _, HA2.out, HST⟩
                case measure => omega
      · obtain ⟨c, hc⟩ : ∃ c : Int, c = ((s &&& on : Nat) : Int) := ⟨_, rfl⟩
        have hb : bits BinOp.and .u8 (s : Int) (on : Int) = c := by rw [bits_and HS3.out HON.out, hc]
        have hc0 : (c == 0) = false := by simp only [beq_eq_false_iff_ne, ne_eq]; omega
        have hc1 : (c != 0) = true := by simp only [bne_iff_ne, ne_eq]; omega
        have HZ := Lib.hid hz
        clear hz hc hc0
        refine wp_region_held_drew (S := SameTo (V.heap.size + 1) U) (by kernel_rfl) (SameTo.drew _ _) (fun hSw => ?_)
        refine tH 0 (.slice (some ⟨w.heap.size + 1, 0, none⟩) n n) hSw ?_
        try simp only [nS]
        refine tH 1 (.pointer (some ⟨V.heap.size, 0, none⟩)) hSw ?_
        try simp only [nS]
        refine tG 2 (.int .i64 (t : Int)) hSw (fun W hW => ?_) ?_
        · have a0 := hW.cell (by dsimp only; omega) a0
          first | (go_simp; done) | rfl
        try simp only [nS]
        refine tH 3 (.pointer (some ⟨w.heap.size + 1, t, none⟩)) hSw ?_
        try simp only [nS]
        refine tG 4 (.int .u8 (s : Int)) hSw (fun W hW => ?_) ?_
        · have hsd := hW.cell (by dsimp only; omega) hsd
          first | (go_simp; done) | rfl
        try simp only [nS]
        refine tH 5 (.pointer (some ⟨V.heap.size, 1, none⟩)) hSw ?_
        try simp only [nS]
        refine tG 6 (.int .u8 (on : Int)) hSw (fun W hW => ?_) ?_
        · have a1 := hW.cell (by dsimp only; omega) a1
          first | (go_simp; done) | rfl
        try simp only [nS]
        refine tH 7 (.int .u8 c) hSw ?_
        try simp only [nS]
        refine tH 8 (.bool true) hSw ?_
        try simp only [nS]
        refine wpAnyH_done (by kernel_rfl) ?_ _
        clear hb hsd a0 a1 hc1
        go_wp2_with fail
        go_roundg f'
        case rel => exact ⟨_, _, HPU.out.keeps (below_drewN (Below.refl _ _) 1), Lib.hid (HLF.out.skip HS1.out HZ.out)⟩
        case measure => omega
end Go.Proofs.YtgkjhnghibpeoaaDoor
