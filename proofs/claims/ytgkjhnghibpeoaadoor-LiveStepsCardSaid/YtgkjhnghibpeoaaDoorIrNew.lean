/- Whether an instruction, and an end, may be by itself. -/
import Derived.Test.YtgkjhnghibpeoaaDoorRows
import Derived.Test.YtgkjhnghibpeoaaDoorIrFits
import Derived.Test.YtgkjhnghibpeoaaDoorIrLeaf
import Derived.LoopTactic
import Derived.LoopN
import Derived.Deep.LoopGhost
import Derived.WalkKit
import Derived.WalkSpells
import Derived.WalkLawsBesides
import Derived.Lib.Hide
import Derived.Deep.QuietTactic
import Derived.BigQuiet
import Derived.Below
import Derived.Test.YtgkjhnghibpeoaaDoorParseOrder
import Derived.OrdersHeld
import Derived.Deep.RegionHeld
import Derived.Deep.DrawnRows
import Derived.RegionTactic
import Derived.Deep.RegionHeld3
import Derived.Laws.MakeOwn
import Derived.Laws.OwnMore
namespace Go.Proofs.YtgkjhnghibpeoaaDoor
open Go.RowKit
set_option maxRecDepth 100000
attribute [local go_sem ↓] bld_eq bls_eq

set_option maxHeartbeats 4000000 in
theorem ins_any (B c m : Nat) (g : Gr) (W : Int) (M : List Bool) (i : In) (w : World) (h : CkAt w B c m g W M) :
    Calls Tryd.prog 56 #[.pointer (some ⟨c, 0, none⟩), .agg #[.int .u8 i.k, .int .u8 i.o, .int .i64 i.a, .int .i64 i.b, .int .i64 i.c, .int .i64 i.n]] w (FitE B c m g W (insB g.refs W M i) (insM g.refs W M i) w) := by
  obtain ⟨W1, hW1⟩ : ∃ W1, W1 = w.alloc (.cells #[.int .u8 i.k, .int .u8 i.o, .int .i64 i.a, .int .i64 i.b, .int .i64 i.c, .int .i64 i.n] 46) := ⟨_, rfl⟩
  have hb1 : Below w.heap.size w W1 := by rw [hW1]; exact below_box w _
  have hz1 : W1.heap.size = w.heap.size + 1 := by rw [hW1]; simp
  have h1 := h.keeps hb1
  have hO : W1.heap[w.heap.size]? = some (.cells #[.int .u8 i.k, .int .u8 i.o, .int .i64 i.a, .int .i64 i.b, .int .i64 i.c, .int .i64 i.n] 46 (0, 0)) := by rw [hW1]; exact (MapKept.heap_alloc _ _).1
  have HIL := Lib.hid (insLine_any i.k W1)
  have HSH := Lib.hid (shaped_any B c m g W M i (insHas i.k) W1 h1 (letters_ins i.k).1 (letters_ins i.k).2)
  have HFI := Lib.hid (fun (u : World) (hu : Below W1.heap.size W1 u) => fits_any B c m g W M i u (h1.keeps hu))
  have HCK := Lib.hid (fun (u : World) (hu : Below W1.heap.size W1 u) => h1.keeps hu)
  have HO := Lib.hid (fun (u : World) (hu : Below W1.heap.size W1 u) => own6 ((hu.block _ (by omega)).trans hO))
  obtain ⟨p0, p1, p2, p3, p4, p5⟩ := own6 hO
  have hem := insNm_emp i.k
  have hr : insB g.refs W M i = (inB i.k 1 14 && (shaped g.refs i (insHas i.k) && fitsB g.refs W M i)) := rfl
  have hyk : inB i.k 1 14 = true → 1 ≤ i.k ∧ i.k ≤ 14 := fun hh => by unfold inB at hh; simpa using hh
  generalize inB i.k 1 14 = y at hem hr hyk
  have HYK := Lib.hid hyk
  generalize hsb : shaped g.refs i (insHas i.k) = z at HSH HFI hr
  generalize insNm i.k = nm at HIL hem
  obtain ⟨F, hF⟩ : ∃ F, F = insB g.refs W M i := ⟨_, rfl⟩
  have HR := Lib.hid hr
  have HB := Lib.hid hb1
  have HW := Lib.hid hW1
  have HF := Lib.hid hF
  rw [hW1] at p0
  rw [← hF]
  clear h h1 hb1 hr hyk hsb hF hO hW1 p1 p2 p3 p4 p5
  cases y
  · have HN := Lib.hid (show F = false by rw [HF.out, HR.out]; rfl)
    go_enter Tryd.func56, Tryd.ntmps56
    go_wp2_with fail
    rw [← HW.out]
    refine HIL.out.mono ?_; rintro e w2 ⟨rfl, rfl⟩
    go_wp2_with fail
    go_ret
    exact ⟨by rw [HN.out]; rfl, by rw [insM_no (HF.out.symm.trans HN.out)]; exact HCK.out _ (Below.refl _ _), Aside.of HB.out⟩
  cases z
  · have HN := Lib.hid (show F = false by rw [HF.out, HR.out]; rfl)
    go_enter Tryd.func56, Tryd.ntmps56
    go_wp2_with fail
    rw [← HW.out]
    refine HIL.out.mono ?_; rintro e w2 ⟨rfl, rfl⟩
    obtain ⟨p0, p1, p2, p3, p4, p5⟩ := HO.out _ (Below.refl _ _)
    go_wp2_with fail
    refine HSH.out.mono ?_; rintro e w3 ⟨rfl, hb3⟩
    have HB3 := Lib.hid hb3
    clear hb3
    go_wp2_with fail
    go_ret
    exact ⟨by rw [HN.out]; rfl, by rw [insM_no (HF.out.symm.trans HN.out)]; exact HCK.out _ HB3.out, Aside.of (HB.out.trans (HB3.out.mono (by omega)))⟩
  have HEQ := Lib.hid (show insB g.refs W M i = fitsB g.refs W M i by rw [HR.out]; rfl)
  go_enter Tryd.func56, Tryd.ntmps56
  go_wp2_with fail
  rw [← HW.out]
  refine HIL.out.mono ?_; rintro e w2 ⟨rfl, rfl⟩
  obtain ⟨p0, p1, p2, p3, p4, p5⟩ := HO.out _ (Below.refl _ _)
  go_wp2_with fail
  refine HSH.out.mono ?_; rintro e w3 ⟨rfl, hb3⟩
  obtain ⟨p0, p1, p2, p3, p4, p5⟩ := HO.out w3 hb3
  have HFF := Lib.hid (HFI.out w3 hb3 (HYK.out (by first | rfl | trivial)) (by first | rfl | trivial))
  have HA3 := Lib.hid ((Aside.of (m := m) HB.out).trans (Aside.of hb3))
  clear hb3
  go_wp2_with fail
  refine HFF.out.mono ?_; rintro e w4 ⟨rfl, hc4, ha4⟩
  have HC4 := Lib.hid hc4
  have HA4 := Lib.hid (HA3.out.trans ha4)
  clear hc4 ha4
  go_wp2_with fail
  go_ret
  exact ⟨by rw [HF.out, HEQ.out]; rfl, by rw [insM_fit HEQ.out]; exact HC4.out, HA4.out⟩
end Go.Proofs.YtgkjhnghibpeoaaDoor
namespace Go.Proofs.YtgkjhnghibpeoaaDoor
open Go.RowKit
set_option maxRecDepth 100000
attribute [local go_sem ↓] bld_eq bls_eq

/-- A block's value and cells, where its row is a slice. -/
theorem biv {w : World} {B : Nat} {b : Bk} (h : BIn w B b) : ∃ ao cap, b.iv = .slice ao b.ins.length cap ∧ b.ins.length ≤ 140737488351232 := by
  obtain ⟨ao, cap, e, h1, h2⟩ := h.lies
  exact ⟨ao, cap, e, h1⟩
set_option maxHeartbeats 8000000 in
theorem leads_any (B c m : Nat) (g : Gr) (W : Int) (M : List Bool) (b : Bk) (w : World) (h : CkAt w B c m g W M) (hv : ∃ ao n cap, b.iv = .slice ao n cap) (hk : b.last = 1 ∨ b.last = 2 ∨ b.last = 3) (hreg : b.last = 2 → regB g.refs b.reg = true) :
    Calls Tryd.prog 66 #[.pointer (some ⟨c, 0, none⟩), .agg #[b.iv, .int .u8 b.last, .int .i64 b.reg, .int .i64 b.yes, .int .i64 b.no]] w fun e w' => e = .returned (.bool (leadsB g.refs g.blocks.length b)) ∧ Below w.heap.size w w' := by
  obtain ⟨ao, n, cap, eiv⟩ := hv
  have hr : leadsB g.refs g.blocks.length b = if b.last = 1 then blkB g.blocks.length b.yes else if b.last = 2 then !refB g.refs b.reg && (blkB g.blocks.length b.yes && blkB g.blocks.length b.no) else true := rfl
  obtain ⟨F, hF⟩ : ∃ F, F = leadsB g.refs g.blocks.length b := ⟨_, rfl⟩
  rw [← hF] at hr ⊢
  clear hF
  obtain ⟨iv, ins, last, reg, yes, no⟩ := b
  simp only at *
  subst eiv
  obtain ⟨W1, hW1⟩ : ∃ W1, W1 = w.alloc (.cells #[.slice ao n cap, .int .u8 last, .int .i64 reg, .int .i64 yes, .int .i64 no] 36) := ⟨_, rfl⟩
  have hb1 : Below w.heap.size w W1 := by rw [hW1]; exact below_box w _
  have hz1 : W1.heap.size = w.heap.size + 1 := by rw [hW1]; simp
  have h1 := h.keeps hb1
  have hO : W1.heap[w.heap.size]? = some (.cells #[.slice ao n cap, .int .u8 last, .int .i64 reg, .int .i64 yes, .int .i64 no] 36 (0, 0)) := by rw [hW1]; exact (MapKept.heap_alloc _ _).1
  have HBK := Lib.hid (fun (k : Int) (u : World) (hu : Below W1.heap.size W1 u) => block_any B c m g W M k u (h1.keeps hu))
  have HB := Lib.hid hb1
  have HW := Lib.hid hW1
  obtain ⟨p0, p1, p2, p3, p4⟩ := own5 hO
  rcases hk with rfl | rfl | rfl
  · rw [if_pos rfl] at hr
    have HR := Lib.hid hr
    have HC := Lib.hid (HBK.out yes W1 (Below.refl _ _))
    rw [hW1] at p0 p1 p2 p3 p4
    clear h h1 hb1 hW1 hO hr hreg
    go_enter Tryd.func66, Tryd.ntmps66
    go_wp2_with fail
    rw [← HW.out]
    refine HC.out.mono ?_; rintro e w2 ⟨rfl, rfl⟩
    go_wp2_with fail
    go_ret
    exact ⟨by rw [HR.out]; rfl, HB.out⟩
  · rw [if_neg (by decide), if_pos rfl] at hr
    obtain ⟨b0, off, cap0, er, hb0⟩ := regs_form h1.here (hreg rfl)
    obtain ⟨na, ea, la⟩ := reg_nat (hreg rfl)
    subst ea
    have ta := h1.here.rlies.bit er na la
    have hq := h1.box
    rw [er] at hq
    obtain ⟨q0, q1, q2, q3, q4⟩ := own5 hq
    have hlb : b0 < W1.heap.size := by have := h1.base.2.2.2; omega
    obtain ⟨NR, hNR⟩ : ∃ N, N = g.refs.length := ⟨_, rfl⟩
    rw [← hNR] at q0 la
    have hroom : NR ≤ 140737488351232 := by rw [hNR]; exact h.here.rlies.room
    generalize refB g.refs (na : Int) = xa at ta hr
    generalize blkB g.blocks.length = bf at HBK hr
    generalize hy1 : bf yes = y1 at hr
    generalize hy2 : bf no = y2 at hr
    have HR := Lib.hid hr
    rw [hW1] at p1
    clear h h1 hb1 hO hr hreg er hq hNR hW1
    cases xa <;> cases y1 <;> cases y2
    all_goals
      go_enter Tryd.func66, Tryd.ntmps66
      go_wp2_with fail
      rw [← HW.out]
      go_quiet ((go_at_call 71; exact Calls.quiet_of_same ((HBK.out _ _ (below_drewN (Below.refl _ _) _)).mono fun e w1 hh => ⟨hh.1, hh.2.symm⟩)))
      go_wp2_with fail
      go_ret
      exact ⟨by rw [HR.out]; rfl, below_drewN HB.out _⟩
  · rw [if_neg (by decide), if_neg (by decide)] at hr
    have HR := Lib.hid hr
    rw [hW1] at p0 p1 p2 p3 p4
    clear h h1 hb1 hW1 hO hr hreg
    go_enter Tryd.func66, Tryd.ntmps66
    go_wp2_with fail
    go_ret
    exact ⟨by rw [HR.out]; rfl, by rw [← HW.out]; exact HB.out⟩

set_option maxHeartbeats 4000000 in
theorem last_any (B c m : Nat) (g : Gr) (W : Int) (M : List Bool) (b : Bk) (w : World) (h : CkAt w B c m g W M) (hv : ∃ ao n cap, b.iv = .slice ao n cap) :
    Calls Tryd.prog 57 #[.pointer (some ⟨c, 0, none⟩), .agg #[b.iv, .int .u8 b.last, .int .i64 b.reg, .int .i64 b.yes, .int .i64 b.no]] w fun e w' => e = .returned (.bool (lastB g.refs g.blocks.length b)) ∧ Below w.heap.size w w' := by
  obtain ⟨W1, hW1⟩ : ∃ W1, W1 = w.alloc (.cells #[b.iv, .int .u8 b.last, .int .i64 b.reg, .int .i64 b.yes, .int .i64 b.no] 36) := ⟨_, rfl⟩
  have hb1 : Below w.heap.size w W1 := by rw [hW1]; exact below_box w _
  have hz1 : W1.heap.size = w.heap.size + 1 := by rw [hW1]; simp
  have h1 := h.keeps hb1
  have hO : W1.heap[w.heap.size]? = some (.cells #[b.iv, .int .u8 b.last, .int .i64 b.reg, .int .i64 b.yes, .int .i64 b.no] 36 (0, 0)) := by rw [hW1]; exact (MapKept.heap_alloc _ _).1
  have HLL := Lib.hid (lastLine_any b.last W1)
  have HEN := Lib.hid (fun u => ending_any b u)
  have HSH := Lib.hid (fun (u : World) (hu : Below W1.heap.size W1 u) => shaped_any B c m g W M (endI b) (lastHas b.last) u (h1.keeps hu) (letters_last b.last).1 (letters_last b.last).2)
  have hh2 : shaped g.refs (endI b) (lastHas b.last) = true → b.last = 2 → regB g.refs b.reg = true := by
    intro hs hk
    rw [hk] at hs
    obtain ⟨j, h1, _⟩ := shp_cons (l := 65) (r := [98, 99]) (shaped_eq hs)
    exact (shp_a h1).1
  have HLE := Lib.hid (fun (hk : b.last = 1 ∨ b.last = 2 ∨ b.last = 3) (hs : shaped g.refs (endI b) (lastHas b.last) = true) (u : World) (hu : Below W1.heap.size W1 u) => leads_any B c m g W M b u (h1.keeps hu) hv hk (hh2 hs))
  have HO := Lib.hid (fun (u : World) (hu : Below W1.heap.size W1 u) => own5 ((hu.block _ (by omega)).trans hO))
  obtain ⟨p0, p1, p2, p3, p4⟩ := own5 hO
  have hem := lastNm_emp b.last
  have hr : lastB g.refs g.blocks.length b = (inB b.last 1 3 && (shaped g.refs (endI b) (lastHas b.last) && leadsB g.refs g.blocks.length b)) := rfl
  have hyk : inB b.last 1 3 = true → b.last = 1 ∨ b.last = 2 ∨ b.last = 3 := fun hh => by unfold inB at hh; simp at hh; omega
  generalize inB b.last 1 3 = y at hem hr hyk
  have HYK := Lib.hid hyk
  generalize hsb : shaped g.refs (endI b) (lastHas b.last) = z at HSH HLE hr
  generalize lastNm b.last = nm at HLL hem
  obtain ⟨F, hF⟩ : ∃ F, F = lastB g.refs g.blocks.length b := ⟨_, rfl⟩
  rw [← hF] at hr ⊢
  have HR := Lib.hid hr
  have HB := Lib.hid hb1
  have HW := Lib.hid hW1
  rw [hW1] at p1
  clear h h1 hb1 hr hyk hsb hF hO hW1 p0 p2 p3 p4 hh2
  have HV := Lib.hid hv
  obtain ⟨ao, n, cap, eiv⟩ := hv
  rw [eiv] at HO HLE HEN HW
  rw [eiv]
  cases y
  · have HN := Lib.hid (show F = false by rw [HR.out]; rfl)
    go_enter Tryd.func57, Tryd.ntmps57
    go_wp2_with fail
    rw [← HW.out]
    refine HLL.out.mono ?_; rintro e w2 ⟨rfl, rfl⟩
    go_wp2_with fail
    go_ret
    exact ⟨by rw [HN.out]; rfl, HB.out⟩
  cases z
  · have HN := Lib.hid (show F = false by rw [HR.out]; rfl)
    go_enter Tryd.func57, Tryd.ntmps57
    go_wp2_with fail
    rw [← HW.out]
    refine HLL.out.mono ?_; rintro e w2 ⟨rfl, rfl⟩
    obtain ⟨p0, p1, p2, p3, p4⟩ := HO.out _ (Below.refl _ _)
    go_wp2_with fail
    refine (HEN.out _).mono ?_; rintro e w3 ⟨rfl, hb3⟩
    have HS3 := Lib.hid (HSH.out w3 hb3)
    have HB3 := Lib.hid hb3
    clear hb3
    go_wp2_with fail
    refine HS3.out.mono ?_; rintro e w4 ⟨rfl, hb4⟩
    have HB4 := Lib.hid (HB3.out.trans (hb4.mono HB3.out.size))
    clear hb4
    go_wp2_with fail
    go_ret
    exact ⟨by rw [HN.out]; rfl, HB.out.trans (HB4.out.mono (by omega))⟩
  go_enter Tryd.func57, Tryd.ntmps57
  go_wp2_with fail
  rw [← HW.out]
  refine HLL.out.mono ?_; rintro e w2 ⟨rfl, rfl⟩
  obtain ⟨p0, p1, p2, p3, p4⟩ := HO.out _ (Below.refl _ _)
  go_wp2_with fail
  refine (HEN.out _).mono ?_; rintro e w3 ⟨rfl, hb3⟩
  have HS3 := Lib.hid (HSH.out w3 hb3)
  have HB3 := Lib.hid hb3
  clear hb3
  go_wp2_with fail
  refine HS3.out.mono ?_; rintro e w4 ⟨rfl, hb4⟩
  have HB4 := Lib.hid (HB3.out.trans (hb4.mono HB3.out.size))
  obtain ⟨p0, p1, p2, p3, p4⟩ := HO.out w4 HB4.out
  have HLF := Lib.hid (HLE.out (HYK.out (by first | rfl | trivial)) (by first | rfl | trivial) w4 HB4.out)
  clear hb4
  go_wp2_with fail
  refine HLF.out.mono ?_; rintro e w5 ⟨rfl, hb5⟩
  have HB5 := Lib.hid (HB4.out.trans (hb5.mono HB4.out.size))
  clear hb5
  go_wp2_with fail
  go_ret
  exact ⟨by rw [HR.out]; rfl, HB.out.trans (HB5.out.mono (by omega))⟩
end Go.Proofs.YtgkjhnghibpeoaaDoor
namespace Go.Proofs.YtgkjhnghibpeoaaDoor
open Go.RowKit
/-- The blocks below L are as they were. -/
def SameTo (L : Nat) (w W : World) : Prop := ∀ k, k < L → W.heap[k]? = w.heap[k]?
theorem SameTo.refl (L : Nat) (w : World) : SameTo L w w := fun _ _ => rfl
theorem SameTo.drew (L : Nat) (w : World) : SameTo L w w.drew := fun _ _ => rfl
theorem SameTo.cell {L : Nat} {w W : World} (h : SameTo L w W) {p : Addr} {v : Value} (hp : p.block < L) (hc : w.cell? p = some v) : W.cell? p = some v := by
  rw [← hc]; simp only [World.cell?, h _ hp]
theorem SameTo.of {L : Nat} {w W : World} (h : Below L w W) : SameTo L w W := fun k hk => h.block k hk
theorem SameTo.trans {L : Nat} {a b c : World} (h : SameTo L a b) (k : SameTo L b c) : SameTo L a c := fun i hi => (k i hi).trans (h i hi)

end Go.Proofs.YtgkjhnghibpeoaaDoor
namespace Go.Proofs.YtgkjhnghibpeoaaDoor
open Go.RowKit
set_option maxRecDepth 100000
attribute [local go_sem ↓] bld_eq bls_eq

theorem made_one (z : Value) (n : Nat) : madeCells #[z] n = (List.replicate n z).toArray := by
  unfold madeCells
  apply Array.ext
  · simp
  · intro i h1 h2
    simp [Nat.mod_one]
theorem infoBool : (Tryd.prog.info? 4).map (fun i => (i.zero, i.size, i.bytes)) = some (some (.bool false), 1, 1) := by kernel_rfl
theorem make_bools (n : Nat) (hn : n ≤ 8192) (w : World) : (Instr.makeSlice 22 (.int .i64 (n : Int)) (.int .i64 (n : Int))).run Tryd.prog w = .ok (.slice (some ⟨w.heap.size, 0, none⟩) n n) (w.alloc (.cells ((List.replicate n false).map Value.bool).toArray 4)) := by
  obtain ⟨i0, hi, hz0, hz1, hz2⟩ := info_parts infoBool
  have h := run_make (P := Tryd.prog) w 22 4 i0 (.bool false) Tryd.underlying22 hi hz0 .i64 .i64 (n : Int) (n : Int) (by omega) (by omega) (by rw [hz2]; omega) (by omega)
  rw [hz1, Int.toNat_natCast, Nat.mul_one] at h
  rw [h, List.map_replicate, ← made_one]
  rfl
/-- What newChecker answers. -/
def NewCkE (B : Nat) (g : Gr) (W : Int) (w : World) (e : Ending) (w' : World) : Prop := ∃ c m, e = .returned (.pointer (some ⟨c, 0, none⟩)) ∧ CkAt w' B c m g W (List.replicate g.sites.toNat false) ∧ Below w.heap.size w w' ∧ w.heap.size ≤ c ∧ w.heap.size ≤ m
set_option maxHeartbeats 8000000 in
theorem newck_any (B : Nat) (g : Gr) (W : Int) (w : World) (hI : GIn w B g) (hBw : B ≤ w.heap.size) (hs : 0 ≤ g.sites ∧ g.sites ≤ 8192) (hW : -9223372036854775808 ≤ W ∧ W ≤ 9223372036854775807) :
    Calls Tryd.prog 50 #[.agg #[g.rv, .int .i64 g.sites, g.bv], .int .i64 W] w (NewCkE B g W w) := by
  obtain ⟨ro, rc, er, -, -⟩ := hI.rlies.form
  obtain ⟨bo, bc, eb, -, -⟩ := hI.blies.form
  obtain ⟨n, hn⟩ : ∃ n : Nat, g.sites = (n : Int) := ⟨g.sites.toNat, by omega⟩
  have hG := hI
  obtain ⟨rv, refs, sites, bv, blocks⟩ := g
  simp only at *
  subst hn er eb
  have hmk := make_bools n (by omega)
  generalize hNR : refs.length = NR at *
  generalize hNB : blocks.length = NB at *
  obtain ⟨W1, hW1⟩ : ∃ W1, W1 = w.alloc (.cells #[.slice ro NR rc, .int .i64 (n : Int), .slice bo NB bc] 25) := ⟨_, rfl⟩
  have hb1 : Below w.heap.size w W1 := by rw [hW1]; exact below_box w _
  have hz1 : W1.heap.size = w.heap.size + 1 := by rw [hW1]; simp
  have hO : W1.heap[w.heap.size]? = some (.cells #[.slice ro NR rc, .int .i64 (n : Int), .slice bo NB bc] 25 (0, 0)) := by rw [hW1]; exact (MapKept.heap_alloc _ _).1
  obtain ⟨p0, p1, p2⟩ := own3 hO
  have e5 := fun (b : Nat) => bld_of 103 #[(0, .agg #[.slice ro NR rc, .int .i64 (n : Int), .slice bo NB bc]), (1, .int .i64 W), (2, .slice (some ⟨b, 0, none⟩) n n)] #[.slice ro NR rc, .int .i64 (n : Int), .slice bo NB bc, .int .i64 W, .slice (some ⟨b, 0, none⟩) n n] (by kernel_rfl)
  have HI := Lib.hid hG
  have HB := Lib.hid hb1
  have HW := Lib.hid hW1
  have HNN := Lib.hid (And.intro hNR hNB)
  obtain ⟨M, hM⟩ : ∃ M, M = ((List.replicate n false).map Value.bool).toArray := ⟨_, rfl⟩
  rw [← hM] at hmk
  have HM := Lib.hid hM
  clear hI hG hb1 hM hO hW1 hNR hNB
  go_enter Tryd.func50, Tryd.ntmps50
  go_wp2_with fail
  rw [← HW.out]
  refine wp_region_held_drew (S := SameTo (w.heap.size + 1) W1) (by kernel_rfl) (SameTo.drew _ _) (fun hSw => ?_)
  refine tG 0 (.agg #[.slice ro NR rc, .int .i64 (n : Int), .slice bo NB bc]) hSw (fun W hW => ?_) ?_
  · have p0 := hW.cell (by dsimp only; omega) p0
    have p1 := hW.cell (by dsimp only; omega) p1
    have p2 := hW.cell (by dsimp only; omega) p2
    first | (go_simp; done) | rfl
  try simp only [nS]
  refine tH 1 (.int .i64 W) hSw ?_
  try simp only [nS]
  refine tH 2 (.pointer (some ⟨w.heap.size, 1, none⟩)) hSw ?_
  try simp only [nS]
  refine tG 3 (.int .i64 (n : Int)) hSw (fun W hW => ?_) ?_
  · have p1 := hW.cell (by dsimp only; omega) p1
    first | (go_simp; done) | rfl
  try simp only [nS]
  refine tR 4 (fun K hK => ?_)
  clear hSw
  go_simp
  
  refine hK.out _ _ (fun k hk => (Below.heap_alloc _ _ _ (by show k < W1.heap.size; omega))) (fun hSw => ?_)
  clear hK K
  try simp only [nS]
  refine tG 5 (.agg #[.slice ro NR rc, .int .i64 (n : Int), .slice bo NB bc, .int .i64 W, .slice (some ⟨W1.heap.size, 0, none⟩) n n]) hSw (fun W hW => ?_) ?_
  · have e5x := e5 W1.heap.size; first | (go_simp; done) | rfl
  try simp only [nS]
  refine tR 6 (fun K hK => ?_)
  clear hSw
  go_simp
  
  refine hK.out _ _ (fun k hk => (Below.heap_alloc _ _ _ (by show k < ((W1.drew).alloc _).heap.size; simp; omega)).trans (Below.heap_alloc _ _ _ (by show k < W1.heap.size; omega))) (fun hSw => ?_)
  clear hK K
  try simp only [nS]
  refine tH 7 (.pointer (some ⟨W1.heap.size + 1, 0, none⟩)) hSw ?_
  try simp only [nS]
  refine wpAnyH_done (by kernel_rfl) ?_ _
  go_wp2_with fail
  go_ret
  have hs2 : (W1.alloc (.cells M 4)).heap.size = W1.heap.size + 1 := by simp
  have hbb : Below W1.heap.size W1 ((W1.alloc (.cells M 4)).alloc (.cells #[.slice ro NR rc, .int .i64 (n : Int), .slice bo NB bc, .int .i64 W, .slice (some ⟨w.heap.size + 1, 0, none⟩) n n] 103)).drew := below_drewN ((below_box W1 _).alloc (by simp) _) 1
  have hbw := HB.out.trans (hbb.mono (by omega))
  have hlen : (List.replicate (Int.toNat (n : Int)) false).length = n := by simp
  refine ⟨W1.heap.size + 1, w.heap.size + 1, rfl, ⟨?_, ?_, HI.out.keeps (hbw.mono hBw), ⟨by omega, by omega, by omega, Nat.le_trans hBw hbw.size⟩, hW, by rw [hlen]; omega⟩, hbw, by omega, by omega⟩
  · have h := (MapKept.heap_alloc (W1.alloc (.cells M 4)) (.cells #[.slice ro NR rc, .int .i64 (n : Int), .slice bo NB bc, .int .i64 W, .slice (some ⟨w.heap.size + 1, 0, none⟩) n n] 103)).1
    rw [hs2] at h
    rw [hlen]
    exact h
  · have h := (MapKept.heap_alloc W1 (.cells M 4)).1
    have h2 := Below.heap_alloc (W1.alloc (.cells M 4)) (.cells #[.slice ro NR rc, .int .i64 (n : Int), .slice bo NB bc, .int .i64 W, .slice (some ⟨w.heap.size + 1, 0, none⟩) n n] 103) W1.heap.size (by omega)
    have h3 := h2.trans h
    rw [hz1] at h3
    rw [show ((List.replicate (Int.toNat (n : Int)) false).map Value.bool).toArray = M from by rw [HM.out, Int.toNat_natCast]]
    exact h3
end Go.Proofs.YtgkjhnghibpeoaaDoor
