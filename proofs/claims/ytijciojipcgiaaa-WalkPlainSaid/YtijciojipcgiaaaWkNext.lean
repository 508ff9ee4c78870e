/- What comes next. -/
import Derived.Test.YtijciojipcgiaaaRows
import Derived.Test.YtijciojipcgiaaaWkDeed
import Derived.Test.YtijciojipcgiaaaWkLast
import Derived.Test.YtijciojipcgiaaaIrSizes
import Derived.Test.YtijciojipcgiaaaIrBoth
import Derived.Test.YtijciojipcgiaaaWkBack
import Derived.LoopTactic
import Derived.LoopN
import Derived.WalkKit
import Derived.WalkSpells
import Derived.WalkLawsBesides
import Derived.Lib.Hide
import Derived.OrdersHeld
import Derived.Deep.RegionHeld
import Derived.Deep.DrawnRows
import Derived.RegionTactic
import Derived.Deep.RegionHeld3
import Derived.IntWalk
namespace Go.Proofs.Ytijciojipcgiaaa
open Go.RowKit
set_option maxRecDepth 100000
attribute [local go_sem ↓] bld_eq bls_eq

/-- Some cells are as they were. -/
def SameAt (Q : Nat → Nat → Prop) (w W : World) : Prop := ∀ k off, Q k off → W.cell? ⟨k, off, none⟩ = w.cell? ⟨k, off, none⟩
theorem SameAt.cell {Q : Nat → Nat → Prop} {w W : World} (h : SameAt Q w W) {k off : Nat} {v : Value} (hq : Q k off) (hc : w.cell? ⟨k, off, none⟩ = some v) : W.cell? ⟨k, off, none⟩ = some v := (h k off hq).trans hc
/-- A block's end names what is there. -/
structure LastOk (R NB : Nat) (b : Bk) : Prop where
  reg : b.last = 2 → RegN R b.reg
  yes : b.last ≠ 3 → RegN NB b.yes
  no : b.last = 2 → RegN NB b.no
set_option maxHeartbeats 8000000 in
theorem next_z (ow : Nat → Nat) (w : World) (B b j p n : Nat) (g : Gr) (W : WS) (T : TS) (v rs us ts ws : Value) (bk : Bk) (h1 : WAt ow w b W n v) (h2 : TAt ow w b j p g T rs us ts ws) (hB : B ≤ w.heap.size) (hnew : ∀ k, w.heap.size ≤ k → ow k = 0) (hg : GIn w B g)
    (hbk : g.blocks[T.bi]? = some bk) (hii : T.ii ≤ bk.ins.length) (hfit : ∀ i ∈ bk.ins, Fits T.regs.length i) (hlast : LastOk T.regs.length g.blocks.length bk) (hsafe : Safe W T) :
    Calls Try.prog 43 #[.pointer (some ⟨p, 0, none⟩)] w (StepE ow b j p g n (nextT g W T) w) := by
  have hbi := (List.getElem?_eq_some_iff.1 hbk).1
  have hbkin : bk ∈ g.blocks := List.mem_of_getElem? hbk
  obtain ⟨gb, goff, capB, hbv, hgb, hbc⟩ : ∃ gb goff cap, g.bv = .slice (some ⟨gb, goff, none⟩) g.blocks.length cap ∧ gb < B ∧ ∀ q u, bk.cells[q]? = some u → w.cell? ⟨gb, goff + T.bi * 5 + q, none⟩ = some u := by
    obtain ⟨ao, cap, hs, _, hl⟩ := hg.blies
    rcases hl with hl | ⟨gb, goff, rfl, hgb, hc⟩
    · rw [hl] at hbi; exact absurd hbi (by simp)
    · exact ⟨gb, goff, cap, hs, hgb, fun q u hu => by rw [Nat.add_assoc]; exact hc _ _ hbk q u hu⟩
  have hbin := hg.blocks bk hbkin
  obtain ⟨iao, icap, hiv, hil, hic⟩ := hbin.lies
  have hlp : p < w.heap.size := heap_lt h2.box
  have hlb : b < w.heap.size := heap_lt h1.box
  have hgw : gb < w.heap.size := by omega
  obtain ⟨d0, d3, d4, d5, d6, d7, d8, d9, d10, d11, d12⟩ := h2.cells
  rw [hbv] at d3
  obtain ⟨NB, hNB⟩ : ∃ N, N = g.blocks.length := ⟨_, rfl⟩
  obtain ⟨NI, hNI⟩ : ∃ N, N = bk.ins.length := ⟨_, rfl⟩
  obtain ⟨BI, hBI⟩ : ∃ N, N = T.bi := ⟨_, rfl⟩
  obtain ⟨II, hII⟩ : ∃ N, N = T.ii := ⟨_, rfl⟩
  have k0 : w.cell? ⟨gb, goff + BI * 5, none⟩ = some (.slice iao NI icap) := by rw [hBI, hNI, ← hiv]; exact hbc 0 _ rfl
  rw [← hNB] at d3
  rw [← hBI] at d5
  rw [← hII] at d6
  have hbN : BI < NB := by rw [hBI, hNB]; exact hbi
  have hnx : nextT g W T = match bk.ins[T.ii]? with
    | none => (W, (lastT T bk).1, (lastT T bk).2)
    | some i => deedT W { T with ii := T.ii + 1 } i := by unfold nextT; rw [hbk]; rfl
  have HBC := Lib.hid hbc
  have H1 := Lib.hid h1
  have H2 := Lib.hid h2
  have HNB := Lib.hid hNB
  have HNI := Lib.hid hNI
  have HBI := Lib.hid hBI
  have HII := Lib.hid hII
  have hiL : NI ≤ 140737488351232 := by rw [hNI]; exact hil
  have hiN : II ≤ NI := by rw [hII, hNI]; exact hii
  clear d4 d7 d8 d9 d10 d11 d12 hbc hNB hBI hiv hil
  go_enter Try.func43, Try.ntmps43
  go_wp2_with fail
  refine wp_region_held_drew (S := SameTo (w.heap.size) w) (by kernel_rfl) (SameTo.drew _ _) (fun hSw => ?_)
  refine wpAnyH_take (i := 0) (oi := { dst := some 5, op := Op.move (Operand.tmp 0), type := 63, pos := "thread.go:61", after := #[], guard := none }) (v := .pointer (some ⟨p, 0, none⟩)) rfl (by kernel_rfl) (by kernel_rfl) (by kernel_rfl) (fun _ _ _ h => h) (Or.inl ⟨by rfl, fun W hW => ?_⟩) hSw ?_
  · first | (go_simp; done) | rfl
  try simp only [Act.put, List.setIfInBounds_toArray, List.set_cons_zero, List.set_cons_succ]
  refine wpAnyH_take (i := 1) (oi := { dst := some 6, op := Op.nilCheck (Operand.tmp 5), type := 0, pos := "thread.go:61", after := #[{ on := 0, ground := Ground.data }], guard := none }) (v := .pointer (some ⟨p, 0, none⟩)) rfl (by kernel_rfl) (by kernel_rfl) (by kernel_rfl) (fun _ _ _ h => h) (Or.inl ⟨by rfl, fun W hW => ?_⟩) hSw ?_
  · first | (go_simp; done) | rfl
  try simp only [Act.put, List.setIfInBounds_toArray, List.set_cons_zero, List.set_cons_succ]
  refine wpAnyH_take (i := 2) (oi := { dst := some 7, op := Op.fieldAddr 80 (Operand.tmp 6) 1, type := 0, pos := "thread.go:61", after := #[{ on := 1, ground := Ground.data }], guard := none }) (v := .pointer (some ⟨p, 1, none⟩)) rfl (by kernel_rfl) (by kernel_rfl) (by kernel_rfl) (fun _ _ _ h => h) (Or.inl ⟨by rfl, fun W hW => ?_⟩) hSw ?_
  · first | (go_simp; done) | rfl
  try simp only [Act.put, List.setIfInBounds_toArray, List.set_cons_zero, List.set_cons_succ]
  refine wpAnyH_take (i := 3) (oi := { dst := some 8, op := Op.fieldAddr 45 (Operand.tmp 7) 2, type := 0, pos := "thread.go:61", after := #[{ on := 2, ground := Ground.data }], guard := none }) (v := .pointer (some ⟨p, 3, none⟩)) rfl (by kernel_rfl) (by kernel_rfl) (by kernel_rfl) (fun _ _ _ h => h) (Or.inl ⟨by rfl, fun W hW => ?_⟩) hSw ?_
  · first | (go_simp; done) | rfl
  try simp only [Act.put, List.setIfInBounds_toArray, List.set_cons_zero, List.set_cons_succ]
  refine wpAnyH_take (i := 4) (oi := { dst := some 9, op := Op.load 43 (Operand.tmp 8), type := 43, pos := "thread.go:61", after := #[{ on := 3, ground := Ground.data }], guard := none }) (v := .slice (some ⟨gb, goff, none⟩) NB capB) rfl (by kernel_rfl) (by kernel_rfl) (by kernel_rfl) (fun _ _ _ h => h) (Or.inl ⟨by rfl, fun W hW => ?_⟩) hSw ?_
  · have d3 := hW.cell (by dsimp only; omega) d3
    first | (go_simp; done) | rfl
  try simp only [Act.put, List.setIfInBounds_toArray, List.set_cons_zero, List.set_cons_succ]
  refine wpAnyH_take (i := 5) (oi := { dst := some 10, op := Op.move (Operand.tmp 0), type := 63, pos := "thread.go:61", after := #[], guard := none }) (v := .pointer (some ⟨p, 0, none⟩)) rfl (by kernel_rfl) (by kernel_rfl) (by kernel_rfl) (fun _ _ _ h => h) (Or.inl ⟨by rfl, fun W hW => ?_⟩) hSw ?_
  · first | (go_simp; done) | rfl
  try simp only [Act.put, List.setIfInBounds_toArray, List.set_cons_zero, List.set_cons_succ]
  refine wpAnyH_take (i := 6) (oi := { dst := some 11, op := Op.nilCheck (Operand.tmp 10), type := 0, pos := "thread.go:61", after := #[{ on := 5, ground := Ground.data }], guard := none }) (v := .pointer (some ⟨p, 0, none⟩)) rfl (by kernel_rfl) (by kernel_rfl) (by kernel_rfl) (fun _ _ _ h => h) (Or.inl ⟨by rfl, fun W hW => ?_⟩) hSw ?_
  · first | (go_simp; done) | rfl
  try simp only [Act.put, List.setIfInBounds_toArray, List.set_cons_zero, List.set_cons_succ]
  refine wpAnyH_take (i := 7) (oi := { dst := some 12, op := Op.fieldAddr 80 (Operand.tmp 11) 3, type := 0, pos := "thread.go:61", after := #[{ on := 6, ground := Ground.data }], guard := none }) (v := .pointer (some ⟨p, 5, none⟩)) rfl (by kernel_rfl) (by kernel_rfl) (by kernel_rfl) (fun _ _ _ h => h) (Or.inl ⟨by rfl, fun W hW => ?_⟩) hSw ?_
  · first | (go_simp; done) | rfl
  try simp only [Act.put, List.setIfInBounds_toArray, List.set_cons_zero, List.set_cons_succ]
  refine wpAnyH_take (i := 8) (oi := { dst := some 13, op := Op.fieldAddr 74 (Operand.tmp 12) 0, type := 0, pos := "thread.go:61", after := #[{ on := 7, ground := Ground.data }], guard := none }) (v := .pointer (some ⟨p, 5, none⟩)) rfl (by kernel_rfl) (by kernel_rfl) (by kernel_rfl) (fun _ _ _ h => h) (Or.inl ⟨by rfl, fun W hW => ?_⟩) hSw ?_
  · first | (go_simp; done) | rfl
  try simp only [Act.put, List.setIfInBounds_toArray, List.set_cons_zero, List.set_cons_succ]
  refine wpAnyH_take (i := 9) (oi := { dst := some 14, op := Op.load 3 (Operand.tmp 13), type := 3, pos := "thread.go:61", after := #[{ on := 8, ground := Ground.data }], guard := none }) (v := .int .i64 (BI : Int)) rfl (by kernel_rfl) (by kernel_rfl) (by kernel_rfl) (fun _ _ _ h => h) (Or.inl ⟨by rfl, fun W hW => ?_⟩) hSw ?_
  · have d5 := hW.cell (by dsimp only; omega) d5
    first | (go_simp; done) | rfl
  try simp only [Act.put, List.setIfInBounds_toArray, List.set_cons_zero, List.set_cons_succ]
  refine wpAnyH_take (i := 10) (oi := { dst := some 15, op := Op.indexAddr 43 (Operand.tmp 9) (Operand.tmp 14), type := 0, pos := "thread.go:61", after := #[{ on := 4, ground := Ground.data }, { on := 9, ground := Ground.data }], guard := none }) (v := .pointer (some ⟨gb, goff + BI * 5, none⟩)) rfl (by kernel_rfl) (by kernel_rfl) (by kernel_rfl) (fun _ _ _ h => h) (Or.inl ⟨by rfl, fun W hW => ?_⟩) hSw ?_
  · first | (go_simp; done) | rfl
  try simp only [Act.put, List.setIfInBounds_toArray, List.set_cons_zero, List.set_cons_succ]
  refine wpAnyH_take (i := 11) (oi := { dst := some 3, op := Op.assign (Operand.tmp 15), type := 105, pos := "thread.go:61", after := #[{ on := 10, ground := Ground.data }, { on := 0, ground := Ground.phase }, { on := 1, ground := Ground.phase }, { on := 2, ground := Ground.phase }, { on := 3, ground := Ground.phase }, { on := 4, ground := Ground.phase }, { on := 5, ground := Ground.phase }, { on := 6, ground := Ground.phase }, { on := 7, ground := Ground.phase }, { on := 8, ground := Ground.phase }, { on := 9, ground := Ground.phase }, { on := 10, ground := Ground.phase }], guard := none }) (v := .pointer (some ⟨gb, goff + BI * 5, none⟩)) rfl (by kernel_rfl) (by kernel_rfl) (by kernel_rfl) (fun _ _ _ h => h) (Or.inl ⟨by rfl, fun W hW => ?_⟩) hSw ?_
  · first | (go_simp; done) | rfl
  try simp only [Act.put, List.setIfInBounds_toArray, List.set_cons_zero, List.set_cons_succ]
  refine wpAnyH_done (by kernel_rfl) ?_ _
  have hdc : ∀ (a : Addr) (u : Value), w.cell? a = some u → w.drew.cell? a = some u := fun _ _ h => h
  replace d0 := hdc _ _ d0
  replace d3 := hdc _ _ d3
  replace d5 := hdc _ _ d5
  replace d6 := hdc _ _ d6
  replace k0 := hdc _ _ k0
  clear hdc hSw
  by_cases he : II = NI
  · have hn0 : bk.ins[T.ii]? = none := List.getElem?_eq_none (by rw [← hNI, ← hII]; omega)
    rw [hn0] at hnx
    have HNX := Lib.hid hnx
    have hd : But ow [] w w.drew.drew := But.of (below_drewN' (below_drewN' (Below.refl _ _)))
    have HC := Lib.hid (wlast_any ow w.drew.drew b j p n g W T v rs us ts ws bk gb (goff + BI * 5) (h1.keeps hd (.refl _ _) (by simp) (by simp)) (h2.keeps hd (.refl _ _) (by simp)) (by exact hgw) (by rw [HBI.out]; exact HBC.out) hlast.reg (fun q => (hlast.yes q).1) (fun q => (hlast.no q).1))
    have k0 : w.drew.cell? ⟨gb, goff + BI * 5, none⟩ = some (.slice iao II icap) := by rw [he]; exact k0
    clear hnx hn0 hd hfit hlast hsafe hbk hii hg hic hNI hII h1 h2 he hbin hbkin hbi
    go_wp2_with fail
    refine wp_region_held_drew (S := SameTo (w.heap.size) w.drew) (by kernel_rfl) (SameTo.drew _ _) (fun hSw => ?_)
    refine wpAnyH_take (i := 0) (oi := { dst := some 16, op := Op.move (Operand.tmp 0), type := 63, pos := "thread.go:62", after := #[], guard := none }) (v := .pointer (some ⟨p, 0, none⟩)) rfl (by kernel_rfl) (by kernel_rfl) (by kernel_rfl) (fun _ _ _ h => h) (Or.inl ⟨by rfl, fun W hW => ?_⟩) hSw ?_
    · first | (go_simp; done) | rfl
    try simp only [Act.put, List.setIfInBounds_toArray, List.set_cons_zero, List.set_cons_succ]
    refine wpAnyH_take (i := 1) (oi := { dst := some 17, op := Op.nilCheck (Operand.tmp 16), type := 0, pos := "thread.go:62", after := #[{ on := 0, ground := Ground.data }], guard := none }) (v := .pointer (some ⟨p, 0, none⟩)) rfl (by kernel_rfl) (by kernel_rfl) (by kernel_rfl) (fun _ _ _ h => h) (Or.inl ⟨by rfl, fun W hW => ?_⟩) hSw ?_
    · first | (go_simp; done) | rfl
    try simp only [Act.put, List.setIfInBounds_toArray, List.set_cons_zero, List.set_cons_succ]
    refine wpAnyH_take (i := 2) (oi := { dst := some 18, op := Op.fieldAddr 80 (Operand.tmp 17) 3, type := 0, pos := "thread.go:62", after := #[{ on := 1, ground := Ground.data }], guard := none }) (v := .pointer (some ⟨p, 5, none⟩)) rfl (by kernel_rfl) (by kernel_rfl) (by kernel_rfl) (fun _ _ _ h => h) (Or.inl ⟨by rfl, fun W hW => ?_⟩) hSw ?_
    · first | (go_simp; done) | rfl
    try simp only [Act.put, List.setIfInBounds_toArray, List.set_cons_zero, List.set_cons_succ]
    refine wpAnyH_take (i := 3) (oi := { dst := some 19, op := Op.fieldAddr 74 (Operand.tmp 18) 1, type := 0, pos := "thread.go:62", after := #[{ on := 2, ground := Ground.data }], guard := none }) (v := .pointer (some ⟨p, 6, none⟩)) rfl (by kernel_rfl) (by kernel_rfl) (by kernel_rfl) (fun _ _ _ h => h) (Or.inl ⟨by rfl, fun W hW => ?_⟩) hSw ?_
    · first | (go_simp; done) | rfl
    try simp only [Act.put, List.setIfInBounds_toArray, List.set_cons_zero, List.set_cons_succ]
    refine wpAnyH_take (i := 4) (oi := { dst := some 20, op := Op.load 3 (Operand.tmp 19), type := 3, pos := "thread.go:62", after := #[{ on := 3, ground := Ground.data }], guard := none }) (v := .int .i64 (II : Int)) rfl (by kernel_rfl) (by kernel_rfl) (by kernel_rfl) (fun _ _ _ h => h) (Or.inl ⟨by rfl, fun W hW => ?_⟩) hSw ?_
    · have d6 := hW.cell (by dsimp only; omega) d6
      first | (go_simp; done) | rfl
    try simp only [Act.put, List.setIfInBounds_toArray, List.set_cons_zero, List.set_cons_succ]
    refine wpAnyH_take (i := 5) (oi := { dst := some 21, op := Op.move (Operand.tmp 3), type := 105, pos := "thread.go:62", after := #[], guard := none }) (v := .pointer (some ⟨gb, goff + BI * 5, none⟩)) rfl (by kernel_rfl) (by kernel_rfl) (by kernel_rfl) (fun _ _ _ h => h) (Or.inl ⟨by rfl, fun W hW => ?_⟩) hSw ?_
    · first | (go_simp; done) | rfl
    try simp only [Act.put, List.setIfInBounds_toArray, List.set_cons_zero, List.set_cons_succ]
    refine wpAnyH_take (i := 6) (oi := { dst := some 22, op := Op.nilCheck (Operand.tmp 21), type := 0, pos := "thread.go:62", after := #[{ on := 5, ground := Ground.data }], guard := none }) (v := .pointer (some ⟨gb, goff + BI * 5, none⟩)) rfl (by kernel_rfl) (by kernel_rfl) (by kernel_rfl) (fun _ _ _ h => h) (Or.inl ⟨by rfl, fun W hW => ?_⟩) hSw ?_
    · first | (go_simp; done) | rfl
    try simp only [Act.put, List.setIfInBounds_toArray, List.set_cons_zero, List.set_cons_succ]
    refine wpAnyH_take (i := 7) (oi := { dst := some 23, op := Op.fieldAddr 49 (Operand.tmp 22) 0, type := 0, pos := "thread.go:62", after := #[{ on := 6, ground := Ground.data }], guard := none }) (v := .pointer (some ⟨gb, goff + BI * 5, none⟩)) rfl (by kernel_rfl) (by kernel_rfl) (by kernel_rfl) (fun _ _ _ h => h) (Or.inl ⟨by rfl, fun W hW => ?_⟩) hSw ?_
    · first | (go_simp; done) | rfl
    try simp only [Act.put, List.setIfInBounds_toArray, List.set_cons_zero, List.set_cons_succ]
    refine wpAnyH_take (i := 8) (oi := { dst := some 24, op := Op.load 46 (Operand.tmp 23), type := 46, pos := "thread.go:62", after := #[{ on := 7, ground := Ground.data }], guard := none }) (v := .slice iao II icap) rfl (by kernel_rfl) (by kernel_rfl) (by kernel_rfl) (fun _ _ _ h => h) (Or.inl ⟨by rfl, fun W hW => ?_⟩) hSw ?_
    · have k0 := hW.cell (by dsimp only; omega) k0
      first | (go_simp; done) | rfl
    try simp only [Act.put, List.setIfInBounds_toArray, List.set_cons_zero, List.set_cons_succ]
    refine wpAnyH_take (i := 9) (oi := { dst := some 25, op := Op.call { callee := Callee.builtin Builtin.len, args := #[Operand.tmp 24], argTypes := #[46] }, type := 3, pos := "thread.go:62", after := #[{ on := 8, ground := Ground.data }], guard := none }) (v := .int .i64 (II : Int)) rfl (by kernel_rfl) (by kernel_rfl) (by kernel_rfl) (fun _ _ _ h => h) (Or.inl ⟨by rfl, fun W hW => ?_⟩) hSw ?_
    · first | (go_simp; done) | rfl
    try simp only [Act.put, List.setIfInBounds_toArray, List.set_cons_zero, List.set_cons_succ]
    refine wpAnyH_take (i := 10) (oi := { dst := some 26, op := Op.binOp BinOp.eql 3 (Operand.tmp 20) (Operand.tmp 25) 3, type := 4, pos := "thread.go:62", after := #[{ on := 4, ground := Ground.data }, { on := 9, ground := Ground.data }], guard := none }) (v := .bool true) rfl (by kernel_rfl) (by kernel_rfl) (by kernel_rfl) (fun _ _ _ h => h) (Or.inl ⟨by rfl, fun W hW => ?_⟩) hSw ?_
    · first | (go_simp; done) | rfl
    try simp only [Act.put, List.setIfInBounds_toArray, List.set_cons_zero, List.set_cons_succ]
    refine wpAnyH_done (by kernel_rfl) ?_ _
    go_wp2_with fail
    refine HC.out.mono ?_; rintro e w2 hE
    obtain ⟨r, hr⟩ := (show ∃ r, e = .returned (.bool r) from ⟨_, hE.1⟩)
    subst hr
    have HE := Lib.hid hE
    clear hE
    go_wp2_with fail
    go_ret
    rw [HNX.out]
    exact HE.out.from (below_drewN' (below_drewN' (Below.refl _ _)))
  · have hlt : II < NI := by omega
    obtain ⟨gi, ioff, rfl, hgi, hcells⟩ := hic.resolve_left (fun q => by rw [q] at hNI; simp at hNI; omega)
    obtain ⟨it, hit⟩ : ∃ i, bk.ins[T.ii]? = some i := ⟨_, List.getElem?_eq_getElem (by rw [← hNI, ← hII]; exact hlt)⟩
    have hitm : it ∈ bk.ins := List.mem_of_getElem? hit
    have hft := hfit it hitm
    rw [hit] at hnx
    have hnx2 : nextT g W T = deedT W { T with ii := T.ii + 1 } it := hnx
    have HNX := Lib.hid hnx2
    have hk := hft.k
    have hic2 : ∀ q u, it.cells[q]? = some u → w.cell? ⟨gi, ioff + II * 6 + q, none⟩ = some u := fun q u hu => by rw [Nat.add_assoc, hII]; exact hcells _ _ hit q u hu
    obtain ⟨F, hF, heg, hCF⟩ := deed_any b j p n g W { T with ii := T.ii + 1 } it hft ⟨hsafe.un, hsafe.und, hsafe.told, hsafe.wait⟩
    obtain ⟨kz, o, a, bb, cc, x⟩ := it
    dsimp only at hk
    obtain ⟨kn, rfl⟩ : ∃ m : Nat, kz = (m : Int) := ⟨kz.toNat, by omega⟩
    have hkn : 1 ≤ kn ∧ kn ≤ 14 := by omega
    have c0 : w.drew.drew.cell? ⟨gi, ioff + II * 6, none⟩ = some (.int .u8 (kn : Int)) := hic2 0 _ rfl
    have c1 : w.drew.drew.cell? ⟨gi, ioff + II * 6 + 1, none⟩ = some (.int .u8 o) := hic2 1 _ rfl
    have c2 : w.drew.drew.cell? ⟨gi, ioff + II * 6 + 2, none⟩ = some (.int .i64 a) := hic2 2 _ rfl
    have c3 : w.drew.drew.cell? ⟨gi, ioff + II * 6 + 3, none⟩ = some (.int .i64 bb) := hic2 3 _ rfl
    have c4 : w.drew.drew.cell? ⟨gi, ioff + II * 6 + 4, none⟩ = some (.int .i64 cc) := hic2 4 _ rfl
    have c5 : w.drew.drew.cell? ⟨gi, ioff + II * 6 + 5, none⟩ = some (.int .i64 x) := hic2 5 _ rfl
    have hgiw : gi < w.heap.size := by omega
    have he2 : ((II : Int) == (NI : Int)) = false := eq2_of _ _ (by omega)
    have hdeed : w.cell? ⟨b, 3 + kn, none⟩ = some (fnV F) := by
      refine cellI h1.box (3 + kn) _ ?_
      rw [Int.toNat_natCast] at hF
      simp only [worldC, List.getElem?_toArray]
      rw [show 3 + kn = kn + 1 + 1 + 1 by omega, List.getElem?_cons_succ, List.getElem?_cons_succ, List.getElem?_cons_succ]
      exact hF
    have HCF := Lib.hid hCF
    have HEG := Lib.hid heg
    have hd : But ow [] w w.drew.drew := But.of (below_drewN' (below_drewN' (Below.refl _ _)))
    have H1D := Lib.hid (h1.keeps hd (.refl _ _) (by simp) (by simp))
    have H2D := Lib.hid (h2.keeps hd (.refl _ _) (by simp))
    clear hnx hnx2 hd hfit hlast hsafe hbk hii hg hNI h1 h2 hbin hbkin hbi hcells hic hit hitm hft hk hic2 hF heg hCF he hII
    go_wp2_with fail
    refine wp_region_held_drew (S := SameTo (w.heap.size) w.drew) (by kernel_rfl) (SameTo.drew _ _) (fun hSw => ?_)
    refine wpAnyH_take (i := 0) (oi := { dst := some 16, op := Op.move (Operand.tmp 0), type := 63, pos := "thread.go:62", after := #[], guard := none }) (v := .pointer (some ⟨p, 0, none⟩)) rfl (by kernel_rfl) (by kernel_rfl) (by kernel_rfl) (fun _ _ _ h => h) (Or.inl ⟨by rfl, fun W hW => ?_⟩) hSw ?_
    · first | (go_simp; done) | rfl
    try simp only [Act.put, List.setIfInBounds_toArray, List.set_cons_zero, List.set_cons_succ]
    refine wpAnyH_take (i := 1) (oi := { dst := some 17, op := Op.nilCheck (Operand.tmp 16), type := 0, pos := "thread.go:62", after := #[{ on := 0, ground := Ground.data }], guard := none }) (v := .pointer (some ⟨p, 0, none⟩)) rfl (by kernel_rfl) (by kernel_rfl) (by kernel_rfl) (fun _ _ _ h => h) (Or.inl ⟨by rfl, fun W hW => ?_⟩) hSw ?_
    · first | (go_simp; done) | rfl
    try simp only [Act.put, List.setIfInBounds_toArray, List.set_cons_zero, List.set_cons_succ]
    refine wpAnyH_take (i := 2) (oi := { dst := some 18, op := Op.fieldAddr 80 (Operand.tmp 17) 3, type := 0, pos := "thread.go:62", after := #[{ on := 1, ground := Ground.data }], guard := none }) (v := .pointer (some ⟨p, 5, none⟩)) rfl (by kernel_rfl) (by kernel_rfl) (by kernel_rfl) (fun _ _ _ h => h) (Or.inl ⟨by rfl, fun W hW => ?_⟩) hSw ?_
    · first | (go_simp; done) | rfl
    try simp only [Act.put, List.setIfInBounds_toArray, List.set_cons_zero, List.set_cons_succ]
    refine wpAnyH_take (i := 3) (oi := { dst := some 19, op := Op.fieldAddr 74 (Operand.tmp 18) 1, type := 0, pos := "thread.go:62", after := #[{ on := 2, ground := Ground.data }], guard := none }) (v := .pointer (some ⟨p, 6, none⟩)) rfl (by kernel_rfl) (by kernel_rfl) (by kernel_rfl) (fun _ _ _ h => h) (Or.inl ⟨by rfl, fun W hW => ?_⟩) hSw ?_
    · first | (go_simp; done) | rfl
    try simp only [Act.put, List.setIfInBounds_toArray, List.set_cons_zero, List.set_cons_succ]
    refine wpAnyH_take (i := 4) (oi := { dst := some 20, op := Op.load 3 (Operand.tmp 19), type := 3, pos := "thread.go:62", after := #[{ on := 3, ground := Ground.data }], guard := none }) (v := .int .i64 (II : Int)) rfl (by kernel_rfl) (by kernel_rfl) (by kernel_rfl) (fun _ _ _ h => h) (Or.inl ⟨by rfl, fun W hW => ?_⟩) hSw ?_
    · have d6 := hW.cell (by dsimp only; omega) d6
      first | (go_simp; done) | rfl
    try simp only [Act.put, List.setIfInBounds_toArray, List.set_cons_zero, List.set_cons_succ]
    refine wpAnyH_take (i := 5) (oi := { dst := some 21, op := Op.move (Operand.tmp 3), type := 105, pos := "thread.go:62", after := #[], guard := none }) (v := .pointer (some ⟨gb, goff + BI * 5, none⟩)) rfl (by kernel_rfl) (by kernel_rfl) (by kernel_rfl) (fun _ _ _ h => h) (Or.inl ⟨by rfl, fun W hW => ?_⟩) hSw ?_
    · first | (go_simp; done) | rfl
    try simp only [Act.put, List.setIfInBounds_toArray, List.set_cons_zero, List.set_cons_succ]
    refine wpAnyH_take (i := 6) (oi := { dst := some 22, op := Op.nilCheck (Operand.tmp 21), type := 0, pos := "thread.go:62", after := #[{ on := 5, ground := Ground.data }], guard := none }) (v := .pointer (some ⟨gb, goff + BI * 5, none⟩)) rfl (by kernel_rfl) (by kernel_rfl) (by kernel_rfl) (fun _ _ _ h => h) (Or.inl ⟨by rfl, fun W hW => ?_⟩) hSw ?_
    · first | (go_simp; done) | rfl
    try simp only [Act.put, List.setIfInBounds_toArray, List.set_cons_zero, List.set_cons_succ]
    refine wpAnyH_take (i := 7) (oi := { dst := some 23, op := Op.fieldAddr 49 (Operand.tmp 22) 0, type := 0, pos := "thread.go:62", after := #[{ on := 6, ground := Ground.data }], guard := none }) (v := .pointer (some ⟨gb, goff + BI * 5, none⟩)) rfl (by kernel_rfl) (by kernel_rfl) (by kernel_rfl) (fun _ _ _ h => h) (Or.inl ⟨by rfl, fun W hW => ?_⟩) hSw ?_
    · first | (go_simp; done) | rfl
    try simp only [Act.put, List.setIfInBounds_toArray, List.set_cons_zero, List.set_cons_succ]
    refine wpAnyH_take (i := 8) (oi := { dst := some 24, op := Op.load 46 (Operand.tmp 23), type := 46, pos := "thread.go:62", after := #[{ on := 7, ground := Ground.data }], guard := none }) (v := .slice (some ⟨gi, ioff, none⟩) NI icap) rfl (by kernel_rfl) (by kernel_rfl) (by kernel_rfl) (fun _ _ _ h => h) (Or.inl ⟨by rfl, fun W hW => ?_⟩) hSw ?_
    · have k0 := hW.cell (by dsimp only; omega) k0
      first | (go_simp; done) | rfl
    try simp only [Act.put, List.setIfInBounds_toArray, List.set_cons_zero, List.set_cons_succ]
    refine wpAnyH_take (i := 9) (oi := { dst := some 25, op := Op.call { callee := Callee.builtin Builtin.len, args := #[Operand.tmp 24], argTypes := #[46] }, type := 3, pos := "thread.go:62", after := #[{ on := 8, ground := Ground.data }], guard := none }) (v := .int .i64 (NI : Int)) rfl (by kernel_rfl) (by kernel_rfl) (by kernel_rfl) (fun _ _ _ h => h) (Or.inl ⟨by rfl, fun W hW => ?_⟩) hSw ?_
    · first | (go_simp; done) | rfl
    try simp only [Act.put, List.setIfInBounds_toArray, List.set_cons_zero, List.set_cons_succ]
    refine wpAnyH_take (i := 10) (oi := { dst := some 26, op := Op.binOp BinOp.eql 3 (Operand.tmp 20) (Operand.tmp 25) 3, type := 4, pos := "thread.go:62", after := #[{ on := 4, ground := Ground.data }, { on := 9, ground := Ground.data }], guard := none }) (v := .bool false) rfl (by kernel_rfl) (by kernel_rfl) (by kernel_rfl) (fun _ _ _ h => h) (Or.inl ⟨by rfl, fun W hW => ?_⟩) hSw ?_
    · first | (go_simp; done) | rfl
    try simp only [Act.put, List.setIfInBounds_toArray, List.set_cons_zero, List.set_cons_succ]
    refine wpAnyH_done (by kernel_rfl) ?_ _
    obtain ⟨V, hV⟩ : ∃ V, V = w.drew.drew := ⟨_, rfl⟩
    have hVz : V.heap.size = w.heap.size := by rw [hV]; rfl
    rw [← hV] at c0 c1 c2 c3 c4 c5 H1D H2D ⊢
    have d0 : V.cell? ⟨p, 0, none⟩ = some (.pointer (some ⟨b, 0, none⟩)) := by rw [hV]; exact d0
    have d6 : V.cell? ⟨p, 6, none⟩ = some (.int .i64 (II : Int)) := by rw [hV]; exact d6
    have k0 : V.cell? ⟨gb, goff + BI * 5, none⟩ = some (.slice (some ⟨gi, ioff, none⟩) NI icap) := by rw [hV]; exact k0
    have hdeed : V.cell? ⟨b, 3 + kn, none⟩ = some (fnV F) := by rw [hV]; exact hdeed
    have HV := Lib.hid hV
    clear hV d3 d5 hSw
    go_wp2_with fail
    refine wp_region_late (S := SameTo (w.heap.size) V) (fun j => decide (12 ≤ j)) (by kernel_rfl) (SameTo.drew _ _) (fun hSw => ?_)
    refine wpAnyL_take (i := 0) (v := .pointer (some ⟨gb, goff + BI * 5, none⟩)) rfl (by kernel_rfl) (by kernel_rfl) (by kernel_rfl) rfl (by kernel_rfl) (fun _ _ _ h => h) (Or.inl ⟨by rfl, fun W hW => ?_⟩) hSw ?_
    · first | (go_simp; done) | rfl
    try simp only [Act.put, List.setIfInBounds_toArray]
    refine wpAnyL_take (i := 1) (v := .pointer (some ⟨gb, goff + BI * 5, none⟩)) rfl (by kernel_rfl) (by kernel_rfl) (by kernel_rfl) rfl (by kernel_rfl) (fun _ _ _ h => h) (Or.inl ⟨by rfl, fun W hW => ?_⟩) hSw ?_
    · first | (go_simp; done) | rfl
    try simp only [Act.put]
    refine wpAnyL_take (i := 2) (v := .pointer (some ⟨gb, goff + BI * 5, none⟩)) rfl (by kernel_rfl) (by kernel_rfl) (by kernel_rfl) rfl (by kernel_rfl) (fun _ _ _ h => h) (Or.inl ⟨by rfl, fun W hW => ?_⟩) hSw ?_
    · first | (go_simp; done) | rfl
    try simp only [Act.put]
    refine wpAnyL_take (i := 3) (v := .slice (some ⟨gi, ioff, none⟩) NI icap) rfl (by kernel_rfl) (by kernel_rfl) (by kernel_rfl) rfl (by kernel_rfl) (fun _ _ _ h => h) (Or.inl ⟨by rfl, fun W hW => ?_⟩) hSw ?_
    · have k0 := hW.cell (by dsimp only; omega) k0
      first | (go_simp; done) | rfl
    try simp only [Act.put]
    refine wpAnyL_take (i := 4) (v := .pointer (some ⟨p, 0, none⟩)) rfl (by kernel_rfl) (by kernel_rfl) (by kernel_rfl) rfl (by kernel_rfl) (fun _ _ _ h => h) (Or.inl ⟨by rfl, fun W hW => ?_⟩) hSw ?_
    · first | (go_simp; done) | rfl
    try simp only [Act.put]
    refine wpAnyL_take (i := 5) (v := .pointer (some ⟨p, 0, none⟩)) rfl (by kernel_rfl) (by kernel_rfl) (by kernel_rfl) rfl (by kernel_rfl) (fun _ _ _ h => h) (Or.inl ⟨by rfl, fun W hW => ?_⟩) hSw ?_
    · first | (go_simp; done) | rfl
    try simp only [Act.put]
    refine wpAnyL_take (i := 6) (v := .pointer (some ⟨p, 5, none⟩)) rfl (by kernel_rfl) (by kernel_rfl) (by kernel_rfl) rfl (by kernel_rfl) (fun _ _ _ h => h) (Or.inl ⟨by rfl, fun W hW => ?_⟩) hSw ?_
    · first | (go_simp; done) | rfl
    try simp only [Act.put]
    refine wpAnyL_take (i := 7) (v := .pointer (some ⟨p, 6, none⟩)) rfl (by kernel_rfl) (by kernel_rfl) (by kernel_rfl) rfl (by kernel_rfl) (fun _ _ _ h => h) (Or.inl ⟨by rfl, fun W hW => ?_⟩) hSw ?_
    · first | (go_simp; done) | rfl
    try simp only [Act.put]
    refine wpAnyL_take (i := 8) (v := .int .i64 (II : Int)) rfl (by kernel_rfl) (by kernel_rfl) (by kernel_rfl) rfl (by kernel_rfl) (fun _ _ _ h => h) (Or.inl ⟨by rfl, fun W hW => ?_⟩) hSw ?_
    · have d6 := hW.cell (by dsimp only; omega) d6
      first | (go_simp; done) | rfl
    try simp only [Act.put]
    refine wpAnyL_take (i := 9) (v := .pointer (some ⟨gi, ioff + II * 6, none⟩)) rfl (by kernel_rfl) (by kernel_rfl) (by kernel_rfl) rfl (by kernel_rfl) (fun _ _ _ h => h) (Or.inl ⟨by rfl, fun W hW => ?_⟩) hSw ?_
    · first | (go_simp; done) | rfl
    try simp only [Act.put]
    refine wpAnyL_take (i := 10) (v := .agg #[.int .u8 (kn : Int), .int .u8 o, .int .i64 a, .int .i64 bb, .int .i64 cc, .int .i64 x]) rfl (by kernel_rfl) (by kernel_rfl) (by kernel_rfl) rfl (by kernel_rfl) (fun _ _ _ h => h) (Or.inl ⟨by rfl, fun W hW => ?_⟩) hSw ?_
    · have c0 := hW.cell (by dsimp only; omega) c0
      have c1 := hW.cell (by dsimp only; omega) c1
      have c2 := hW.cell (by dsimp only; omega) c2
      have c3 := hW.cell (by dsimp only; omega) c3
      have c4 := hW.cell (by dsimp only; omega) c4
      have c5 := hW.cell (by dsimp only; omega) c5
      first | (go_simp; done) | rfl
    try simp only [Act.put]
    refine wpAnyL_ready (rs := [11]) (by kernel_rfl) (by simp) (AllReadyL.cons rfl rfl (fun J hK => ?_) AllReadyL.nil)
    rw [if_pos (by rfl)]
    clear hSw
    go_simp
    have hzn : V.heap.size = w.heap.size := hVz
    refine hK.out _ _ (SameTo.of ((below_box V (.cells #[.int .u8 0, .int .u8 0, .int .i64 0, .int .i64 0, .int .i64 0, .int .i64 0] 53)).drew.mono (by omega))) (fun hSw => ?_)
    clear hK J
    try simp only [Act.put, List.setIfInBounds_toArray, List.set_cons_zero, List.set_cons_succ]
    refine wpAnyL_only (rs := [12]) (by kernel_rfl) (by simp) (by rfl) ?_
    refine wpAny_one (i := 12) (by kernel_rfl) rfl (fun J hK => ?_)
    rw [if_pos (by rfl)]
    go_simp
    refine hK.out _ _ ?_
    clear hK J
    try simp only [Act.put, List.setIfInBounds_toArray, List.set_cons_zero, List.set_cons_succ]
    refine wpAny_done (by kernel_rfl) ?_ _
    obtain ⟨X, hX⟩ : ∃ X, X = (V.alloc (.cells #[.int .u8 (kn : Int), .int .u8 o, .int .i64 a, .int .i64 bb, .int .i64 cc, .int .i64 x] 53)).drew := ⟨_, rfl⟩
    have hbX : Below V.heap.size V X := by rw [hX]; exact (below_box _ _).drew
    have hXO : X.heap[w.heap.size]? = some (.cells #[.int .u8 (kn : Int), .int .u8 o, .int .i64 a, .int .i64 bb, .int .i64 cc, .int .i64 x] 53 (0, 0)) := by rw [hX, ← hVz]; exact (MapKept.heap_alloc _ _).1
    have hXz : X.heap.size = w.heap.size + 1 := by rw [hX]; simp [hVz]
    rw [← hX]
    obtain ⟨i0, i1, i2, i3, i4, i5⟩ := own6 hXO
    have d0 := (hbX.cell (p := ⟨p, 0, none⟩) (by dsimp only; omega)).trans d0
    have d6 := (hbX.cell (p := ⟨p, 6, none⟩) (by dsimp only; omega)).trans d6
    have hdeed := (hbX.cell (p := ⟨b, 3 + kn, none⟩) (by dsimp only; omega)).trans hdeed
    have H1X := Lib.hid (H1D.out.keeps (But.of (ls := []) hbX) (.refl _ _) (by simp) (by simp))
    have H2X := Lib.hid (H2D.out.keeps (But.of (ls := []) hbX) (.refl _ _) (by simp))
    have f6 := Lib.frozen_of_heap H2X.out.box 6
    have HBX := Lib.hid hbX
    have HXO := Lib.hid hXO
    clear hX hbX hXO c0 c1 c2 c3 c4 c5 k0 hSw hVz
    go_wp2_with fail
    obtain ⟨Y, hY⟩ : ∃ Y, Y = X.setCell ⟨p, 6, none⟩ (.int .i64 ((II + 1 : Nat) : Int)) := ⟨_, rfl⟩
    have hlabp := H2X.out.lab
    have hbY : But ow [10 + 8 * j] X Y := by rw [hY]; exact but_set _ _ hlabp
    have hYe : X.setCell ⟨p, 6, none⟩ (.int .i64 ((II : Int) + 1)) = Y := by rw [hY]; rfl
    rw [hYe]
    have hpw : p ≠ w.heap.size := by omega
    have hYk : ∀ k, k ≠ p → Y.heap[k]? = X.heap[k]? := fun k hk => by rw [hY]; exact Below.heap_setCell _ _ _ _ hk
    have H1Y := Lib.hid (H1X.out.keeps hbY (.refl _ _) (by simp; omega) (by simp; omega))
    have H2Y := Lib.hid (show TAt ow Y b j p g { T with ii := T.ii + 1 } rs us ts ws from H2X.out.rebox hbY (by rw [hY, HII.out]; exact tset_box 6 _ H2X.out.box rfl) rfl rfl rfl rfl)
    obtain ⟨i0, i1, i2, i3, i4, i5⟩ := own6 ((hYk _ hpw.symm).trans HXO.out)
    have d0 := H2Y.out.cells.1
    have hpb : b ≠ p := fun e => by have := H1X.out.lab; rw [e, hlabp] at this; omega
    have hdeed : Y.cell? ⟨b, 3 + kn, none⟩ = some (.func (.func F) #[] #[]) := by
      have : Y.cell? ⟨b, 3 + kn, none⟩ = X.cell? ⟨b, 3 + kn, none⟩ := by simp only [World.cell?, hYk _ hpb]
      rw [this, hdeed]; rfl
    have hYz : Y.heap.size = w.heap.size + 1 := by rw [hY]; simpa [World.setCell] using hXz
    have HKY := Lib.hid (show Kp ow j w Y from ((Kp.of (show Below w.heap.size w X from (by rw [HV.out] at HBX; exact (below_drewN' (below_drewN' (Below.refl _ _))).trans (HBX.out.mono (Nat.le_refl _))))).trans (.refl _ _) (hbY.kp (by intro l hl; simp at hl; unfold Mine; omega))))
    have heg := HEG.out
    clear hY hbY hYe hYk d6 f6 hXz
    refine wp_region_held_drew (S := SameAt (fun k off => (k = p ∧ off = 0) ∨ (k = b ∧ 3 ≤ off) ∨ k = w.heap.size) Y) (by kernel_rfl) (fun _ _ _ => rfl) (fun hSw => ?_)
    refine wpAnyH_take (i := 0) (oi := { dst := some 50, op := Op.move (Operand.tmp 0), type := 63, pos := "thread.go:67", after := #[], guard := none }) (v := .pointer (some ⟨p, 0, none⟩)) rfl (by kernel_rfl) (by kernel_rfl) (by kernel_rfl) (fun _ _ _ h => h) (Or.inl ⟨by rfl, fun W hW => ?_⟩) hSw ?_
    · first | (go_simp; done) | rfl
    try simp only [Act.put, List.setIfInBounds_toArray, List.set_cons_zero, List.set_cons_succ]
    refine wpAnyH_take (i := 1) (oi := { dst := some 51, op := Op.nilCheck (Operand.tmp 50), type := 0, pos := "thread.go:67", after := #[{ on := 0, ground := Ground.data }], guard := none }) (v := .pointer (some ⟨p, 0, none⟩)) rfl (by kernel_rfl) (by kernel_rfl) (by kernel_rfl) (fun _ _ _ h => h) (Or.inl ⟨by rfl, fun W hW => ?_⟩) hSw ?_
    · first | (go_simp; done) | rfl
    try simp only [Act.put, List.setIfInBounds_toArray, List.set_cons_zero, List.set_cons_succ]
    refine wpAnyH_take (i := 2) (oi := { dst := some 52, op := Op.fieldAddr 80 (Operand.tmp 51) 0, type := 0, pos := "thread.go:67", after := #[{ on := 1, ground := Ground.data }], guard := none }) (v := .pointer (some ⟨p, 0, none⟩)) rfl (by kernel_rfl) (by kernel_rfl) (by kernel_rfl) (fun _ _ _ h => h) (Or.inl ⟨by rfl, fun W hW => ?_⟩) hSw ?_
    · first | (go_simp; done) | rfl
    try simp only [Act.put, List.setIfInBounds_toArray, List.set_cons_zero, List.set_cons_succ]
    refine wpAnyH_take (i := 3) (oi := { dst := some 53, op := Op.load 59 (Operand.tmp 52), type := 59, pos := "thread.go:67", after := #[{ on := 2, ground := Ground.data }], guard := none }) (v := .pointer (some ⟨b, 0, none⟩)) rfl (by kernel_rfl) (by kernel_rfl) (by kernel_rfl) (fun _ _ _ h => h) (Or.inl ⟨by rfl, fun W hW => ?_⟩) hSw ?_
    · have d0 := hW.cell (by first | omega | (dsimp only; omega)) d0
      first | (go_simp; done) | rfl
    try simp only [Act.put, List.setIfInBounds_toArray, List.set_cons_zero, List.set_cons_succ]
    refine wpAnyH_take (i := 4) (oi := { dst := some 54, op := Op.fieldAddr 53 (Operand.tmp 4) 0, type := 0, pos := "thread.go:67", after := #[], guard := none }) (v := .pointer (some ⟨w.heap.size, 0, none⟩)) rfl (by kernel_rfl) (by kernel_rfl) (by kernel_rfl) (fun _ _ _ h => h) (Or.inl ⟨by rfl, fun W hW => ?_⟩) hSw ?_
    · first | (go_simp; done) | rfl
    try simp only [Act.put, List.setIfInBounds_toArray, List.set_cons_zero, List.set_cons_succ]
    refine wpAnyH_take (i := 5) (oi := { dst := some 55, op := Op.load 50 (Operand.tmp 54), type := 50, pos := "thread.go:67", after := #[{ on := 4, ground := Ground.data }], guard := none }) (v := .int .u8 (kn : Int)) rfl (by kernel_rfl) (by kernel_rfl) (by kernel_rfl) (fun _ _ _ h => h) (Or.inl ⟨by rfl, fun W hW => ?_⟩) hSw ?_
    · have i0 := hW.cell (by first | omega | (dsimp only; omega)) i0
      first | (go_simp; done) | rfl
    try simp only [Act.put, List.setIfInBounds_toArray, List.set_cons_zero, List.set_cons_succ]
    refine wpAnyH_take (i := 6) (oi := { dst := some 56, op := Op.nilCheck (Operand.tmp 53), type := 0, pos := "thread.go:67", after := #[{ on := 3, ground := Ground.data }], guard := none }) (v := .pointer (some ⟨b, 0, none⟩)) rfl (by kernel_rfl) (by kernel_rfl) (by kernel_rfl) (fun _ _ _ h => h) (Or.inl ⟨by rfl, fun W hW => ?_⟩) hSw ?_
    · first | (go_simp; done) | rfl
    try simp only [Act.put, List.setIfInBounds_toArray, List.set_cons_zero, List.set_cons_succ]
    refine wpAnyH_take (i := 7) (oi := { dst := some 57, op := Op.fieldAddr 69 (Operand.tmp 56) 3, type := 0, pos := "thread.go:67", after := #[{ on := 6, ground := Ground.data }], guard := none }) (v := .pointer (some ⟨b, 3, none⟩)) rfl (by kernel_rfl) (by kernel_rfl) (by kernel_rfl) (fun _ _ _ h => h) (Or.inl ⟨by rfl, fun W hW => ?_⟩) hSw ?_
    · first | (go_simp; done) | rfl
    try simp only [Act.put, List.setIfInBounds_toArray, List.set_cons_zero, List.set_cons_succ]
    refine wpAnyH_take (i := 8) (oi := { dst := some 58, op := Op.indexAddr 67 (Operand.tmp 57) (Operand.tmp 55), type := 0, pos := "thread.go:67", after := #[{ on := 7, ground := Ground.data }, { on := 5, ground := Ground.data }], guard := none }) (v := .pointer (some ⟨b, 3 + kn, none⟩)) rfl (by kernel_rfl) (by kernel_rfl) (by kernel_rfl) (fun _ _ _ h => h) (Or.inl ⟨by rfl, fun W hW => ?_⟩) hSw ?_
    · go_simp; exact fun h => absurd h (by omega)
    try simp only [Act.put, List.setIfInBounds_toArray, List.set_cons_zero, List.set_cons_succ]
    refine wpAnyH_take (i := 9) (oi := { dst := some 59, op := Op.load 66 (Operand.tmp 58), type := 66, pos := "thread.go:67", after := #[{ on := 8, ground := Ground.data }], guard := none }) (v := .func (.func F) #[] #[]) rfl (by kernel_rfl) (by kernel_rfl) (by kernel_rfl) (fun _ _ _ h => h) (Or.inl ⟨by rfl, fun W hW => ?_⟩) hSw ?_
    · have hdeed := hW.cell (by first | omega | (dsimp only; omega)) hdeed
      first | (go_simp; done) | rfl
    try simp only [Act.put, List.setIfInBounds_toArray, List.set_cons_zero, List.set_cons_succ]
    refine wpAnyH_take (i := 10) (oi := { dst := some 60, op := Op.move (Operand.tmp 0), type := 63, pos := "thread.go:67", after := #[], guard := none }) (v := .pointer (some ⟨p, 0, none⟩)) rfl (by kernel_rfl) (by kernel_rfl) (by kernel_rfl) (fun _ _ _ h => h) (Or.inl ⟨by rfl, fun W hW => ?_⟩) hSw ?_
    · first | (go_simp; done) | rfl
    try simp only [Act.put, List.setIfInBounds_toArray, List.set_cons_zero, List.set_cons_succ]
    refine wpAnyH_take (i := 11) (oi := { dst := some 61, op := Op.load 53 (Operand.tmp 4), type := 53, pos := "thread.go:67", after := #[], guard := none }) (v := .agg #[.int .u8 (kn : Int), .int .u8 o, .int .i64 a, .int .i64 bb, .int .i64 cc, .int .i64 x]) rfl (by kernel_rfl) (by kernel_rfl) (by kernel_rfl) (fun _ _ _ h => h) (Or.inl ⟨by rfl, fun W hW => ?_⟩) hSw ?_
    · have i0 := hW.cell (by first | omega | (dsimp only; omega)) i0
      have i1 := hW.cell (by first | omega | (dsimp only; omega)) i1
      have i2 := hW.cell (by first | omega | (dsimp only; omega)) i2
      have i3 := hW.cell (by first | omega | (dsimp only; omega)) i3
      have i4 := hW.cell (by first | omega | (dsimp only; omega)) i4
      have i5 := hW.cell (by first | omega | (dsimp only; omega)) i5
      first | (go_simp; done) | rfl
    try simp only [Act.put, List.setIfInBounds_toArray, List.set_cons_zero, List.set_cons_succ]
    refine wpAnyH_ready (rs := [12]) (by kernel_rfl) (by simp) ?_
    refine AllReadyH.cons (o := { dst := some 62, op := Op.call { callee := Callee.value (Operand.tmp 59), args := #[Operand.tmp 60, Operand.tmp 61], argTypes := #[63, 53] }, type := 4, pos := "thread.go:67", after := #[{ on := 9, ground := Ground.data }, { on := 10, ground := Ground.data }, { on := 11, ground := Ground.data }], guard := none }) rfl (fun K hK => ?_) AllReadyH.nil
    rw [if_pos (by rfl)]
    clear hSw
    go_simp
    refine (HCF.out ow Y.drew v rs us ts ws (H1Y.out.keeps (But.of (ls := []) (below_drewN' (Below.refl _ _))) (.refl _ _) (by simp) (by simp)) (H2Y.out.keeps (But.of (ls := []) (below_drewN' (Below.refl _ _))) (.refl _ _) (by simp))).mono ?_; rintro e w2 hE
    obtain ⟨r, hr⟩ := (show ∃ r, e = .returned (.bool r) from ⟨_, hE.1⟩)
    subst hr
    have HE := Lib.hid hE
    obtain ⟨_, ow', v2, rs2, us2, ts2, ws2, he, g1, g2, g3⟩ := hE
    have hS2 : SameAt (fun k off => (k = p ∧ off = 0) ∨ (k = b ∧ 3 ≤ off) ∨ k = w.heap.size) Y w2 := by
      rintro k off (⟨rfl, rfl⟩ | ⟨rfl, h3⟩ | rfl)
      · rw [d0]; exact g2.cells.1
      · rw [Lib.cell_of_heap g1.box, Lib.cell_of_heap H1Y.out.box]
        obtain ⟨q, rfl⟩ : ∃ q, off = q + 1 + 1 + 1 := ⟨off - 3, by omega⟩
        simp only [worldC, List.getElem?_toArray, List.getElem?_cons_succ]
      · have hk3 : w2.heap[w.heap.size]? = Y.heap[w.heap.size]? := g3.block w.heap.size (show w.heap.size < Y.heap.size by omega) (by rw [hnew _ (Nat.le_refl _)]; unfold Mine; omega)
        simp only [World.cell?, hk3]
    clear he g1 g2 g3
    refine hK.out _ _ (hS2) (fun hSw => ?_)
    clear hK K
    try simp only [Act.put, List.setIfInBounds_toArray, List.set_cons_zero, List.set_cons_succ]
    refine wpAnyH_take (i := 13) (oi := { dst := some 2, op := Op.assign (Operand.tmp 62), type := 4, pos := "thread.go:67", after := #[{ on := 12, ground := Ground.data }, { on := 12, ground := Ground.chain }, { on := 0, ground := Ground.phase }, { on := 1, ground := Ground.phase }, { on := 2, ground := Ground.phase }, { on := 3, ground := Ground.phase }, { on := 4, ground := Ground.phase }, { on := 5, ground := Ground.phase }, { on := 6, ground := Ground.phase }, { on := 7, ground := Ground.phase }, { on := 8, ground := Ground.phase }, { on := 9, ground := Ground.phase }, { on := 10, ground := Ground.phase }, { on := 11, ground := Ground.phase }, { on := 12, ground := Ground.phase }], guard := none }) (v := .bool r) rfl (by kernel_rfl) (by kernel_rfl) (by kernel_rfl) (fun _ _ _ h => h) (Or.inl ⟨by rfl, fun W hW => ?_⟩) hSw ?_
    · first | (go_simp; done) | rfl
    try simp only [Act.put, List.setIfInBounds_toArray, List.set_cons_zero, List.set_cons_succ]
    refine wpAnyH_done (by kernel_rfl) ?_ _
    go_wp2_with fail
    go_ret
    rw [HNX.out]
    exact HE.out.after HKY.out.drew (.refl _ _)
theorem wnext_any (ow : Nat → Nat) (w : World) (B b j p n : Nat) (g : Gr) (W : WS) (T : TS) (v rs us ts ws : Value) (bk : Bk) (h1 : WAt ow w b W n v) (h2 : TAt ow w b j p g T rs us ts ws) (hB : B ≤ w.heap.size) (_hlow : ∀ k, k < B → ow k = 0) (hg : GIn w B g)
    (hbk : g.blocks[T.bi]? = some bk) (hii : T.ii ≤ bk.ins.length) (hfit : ∀ i ∈ bk.ins, Fits T.regs.length i) (hlast : LastOk T.regs.length g.blocks.length bk) (hsafe : Safe W T) :
    Calls Try.prog 43 #[.pointer (some ⟨p, 0, none⟩)] w (StepE ow b j p g n (nextT g W T) w) :=
  (next_z (low ow w.heap.size) w B b j p n g W T v rs us ts ws bk h1.low h2.low hB (fun _k hk => low_new _ _ _ hk) hg hbk hii hfit hlast hsafe).mono fun _ _ h => h.relab (low_ext _ _)
end Go.Proofs.Ytijciojipcgiaaa
