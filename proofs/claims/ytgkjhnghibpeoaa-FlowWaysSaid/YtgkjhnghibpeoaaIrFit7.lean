/- What a checker says of an instruction that makes words, of any instruction's registers and numbers, and of ends. -/
import Derived.Test.YtgkjhnghibpeoaaParseOrder
import Derived.Test.YtgkjhnghibpeoaaRows
import Derived.Test.YtgkjhnghibpeoaaIrCalc
import Derived.Test.YtgkjhnghibpeoaaIrSizes
import Derived.LoopTactic
import Derived.LoopN
import Derived.Deep.LoopGhost
import Derived.WalkKit
import Derived.WalkSpells
import Derived.WalkLawsBesides
import Derived.Lib.Hide
import Derived.Deep.QuietTactic
import Derived.BigQuiet
import Derived.OrdersHeld
import Derived.Deep.RegionHeld
import Derived.Deep.DrawnRows
import Derived.RegionTactic
import Derived.Deep.RegionHeld3
namespace Go.Proofs.Ytgkjhnghibpeoaa
open Go.RowKit
set_option maxRecDepth 100000
attribute [local go_sem ↓] bld_eq bls_eq

def SameBut (z : Nat) (w W : World) : Prop := ∀ k, k < w.heap.size → k ≠ z → W.heap[k]? = w.heap[k]?
theorem SameBut.drew (z : Nat) (w : World) : SameBut z w w.drew := fun _ _ _ => rfl
theorem SameBut.cell {z : Nat} {w W : World} (h : SameBut z w W) {p : Addr} {v : Value} (hp : p.block < w.heap.size ∧ p.block ≠ z) (hc : w.cell? p = some v) : W.cell? p = some v := by
  unfold World.cell? at *
  rw [h _ hp.1 hp.2]; exact hc
theorem Aside.same {m : Nat} {w w' : World} (h : Aside m w w') : SameBut m w w' := fun k hk hm => h.block k hk hm
theorem SameBut.trans {z : Nat} {a b c : World} (h : SameBut z a b) (k : SameBut z b c) (hs : a.heap.size ≤ b.heap.size) : SameBut z a c := fun i hi hz => (k i (by omega) hz).trans (h i hi hz)

theorem next7_on {R : List Bool} {W : Int} {_M : List Bool} {i : In} (_hk : i.k = 7) (_h : (refB R i.a && inB i.n 1 W) = true → False) : True := trivial
theorem fits7_eq {R : List Bool} {W : Int} {M : List Bool} {i : In} (hk : i.k = 7) : fitsB R W M i = (refB R i.a && (inB i.n 1 64 && makesB M i.c)) := by
  unfold fitsB; simp [hk]
theorem next7_no {R : List Bool} {W : Int} {M : List Bool} {i : In} (h : fitsB R W M i = false) : nextM R W M i = M := by
  unfold nextM; rw [if_neg]; rw [h]; exact fun q => by cases q.2
theorem next7_mk {R : List Bool} {W : Int} {M : List Bool} {i : In} (hk : i.k = 7) (h : fitsB R W M i = makesB M i.c) : nextM R W M i = mkM M i.c := by
  unfold nextM mkM; rw [h]
  by_cases hm : makesB M i.c = true
  · rw [if_pos ⟨hk, hm⟩, if_pos hm]
  · rw [if_neg (fun q => hm q.2), if_neg hm]
theorem next_other {R : List Bool} {W : Int} {M : List Bool} {i : In} (hk : ¬ i.k = 7) : nextM R W M i = M := by
  unfold nextM; rw [if_neg (fun q => hk q.1)]
set_option maxHeartbeats 8000000 in
theorem fits7 (B c m : Nat) (g : Gr) (W : Int) (M : List Bool) (i : In) (w : World) (h : CkAt w B c m g W M) (hk : i.k = 7) (ha : regB g.refs i.a = true) :
    Calls Try.prog 45 #[.pointer (some ⟨c, 0, none⟩), .agg #[.int .u8 i.k, .int .u8 i.o, .int .i64 i.a, .int .i64 i.b, .int .i64 i.c, .int .i64 i.n]] w fun e w' => e = .returned (.bool (fitsB g.refs W M i)) ∧ CkAt w' B c m g W (nextM g.refs W M i) ∧ Aside m w w' := by
  obtain ⟨b0, off, cap, er, hb0⟩ := regs_form h.here ha
  obtain ⟨na, ea, la⟩ := reg_nat ha
  have ta := h.here.rlies.bit er na la
  have hr := fits7_eq (R := g.refs) (W := W) (M := M) hk
  have HNO := Lib.hid (next7_no (R := g.refs) (W := W) (M := M) (i := i))
  have HMK := Lib.hid (next7_mk (R := g.refs) (W := W) (M := M) (i := i) hk)
  obtain ⟨F, hF⟩ : ∃ F, F = fitsB g.refs W M i := ⟨_, rfl⟩
  obtain ⟨NM, hNM⟩ : ∃ F, F = nextM g.refs W M i := ⟨_, rfl⟩
  rw [← hF] at hr HNO HMK ⊢
  rw [← hNM] at HNO HMK ⊢
  obtain ⟨k, op, a, b, cc, n⟩ := i
  simp only at *
  subst hk ea
  obtain ⟨W1, hW1⟩ : ∃ W1, W1 = w.alloc (.cells #[.int .u8 7, .int .u8 op, .int .i64 (na : Int), .int .i64 b, .int .i64 cc, .int .i64 n] 45) := ⟨_, rfl⟩
  have hb1 : Below w.heap.size w W1 := by rw [hW1]; exact below_box w _
  have hz1 : W1.heap.size = w.heap.size + 1 := by rw [hW1]; simp
  have h1 := h.keeps hb1
  have hO : W1.heap[w.heap.size]? = some (.cells #[.int .u8 7, .int .u8 op, .int .i64 (na : Int), .int .i64 b, .int .i64 cc, .int .i64 n] 45 (0, 0)) := by rw [hW1]; exact (MapKept.heap_alloc _ _).1
  obtain ⟨k0, k1, k2, k3, k4, k5⟩ := own6 hO
  have hq := h1.box
  rw [er] at hq
  obtain ⟨q0, q1, q2, q3, q4⟩ := own5 hq
  have t0 : W1.cell? ⟨b0, off + na, none⟩ = some (.bool (refB g.refs (na : Int))) := by rw [hb1.cell (p := ⟨b0, _, none⟩) (by have := h.base.2.2.2; dsimp only; omega)]; exact ta
  have hlc := h.lt.1
  have hlm := h.lt.2
  have hcm := h.base.2.2.1
  have hlb : b0 < w.heap.size := by have := h.base.2.2.2; omega
  have hbm : b0 < m := by have := h.base.2.1; omega
  obtain ⟨NR, hNR⟩ : ∃ N, N = g.refs.length := ⟨_, rfl⟩
  rw [← hNR] at q0 la
  have hroom : NR ≤ 140737488351232 := by rw [hNR]; exact h.here.rlies.room
  generalize refB g.refs (na : Int) = xa at t0 hr
  generalize hy : inB n 1 64 = y at hr
  have HR := Lib.hid hr
  have HWI := Lib.hid (fun w => within_any n 1 64 w)
  rw [hy] at HWI
  have HMA := Lib.hid (fun (u : World) (hu : Below W1.heap.size W1 u) => makes_any B c m g W M cc u (h1.keeps hu))
  have HCK := Lib.hid (fun (u : World) (hu : Below W1.heap.size W1 u) => h1.keeps hu)
  have HB := Lib.hid hb1
  have HW := Lib.hid hW1
  have HT := Lib.hid hF
  have HQ := Lib.hid q0
  rw [hW1] at k0
  clear h h1 hr hq er hNR ha hy hb1 hO hF ta hNM hW1
  cases xa
  · have HN := HNO.out (by rw [HR.out]; rfl)
    go_enter Try.func45, Try.ntmps45
    go_wp2_with fail
    rw [← HW.out]
    refine wp_region_held_drew (S := SameBut m W1) (by kernel_rfl) (SameBut.drew _ _) (fun hSw => ?_)
    refine tH 0 (.pointer (some ⟨c, 0, none⟩)) hSw ?_
    try simp only [nS]
    refine tH 1 (.pointer (some ⟨c, 0, none⟩)) hSw ?_
    try simp only [nS]
    refine tH 2 (.pointer (some ⟨c, 0, none⟩)) hSw ?_
    try simp only [nS]
    refine tH 3 (.pointer (some ⟨c, 0, none⟩)) hSw ?_
    try simp only [nS]
    refine tG 4 (.slice (some ⟨b0, off, none⟩) NR cap) hSw (fun W hW => ?_) ?_
    · have q0 := hW.cell (by dsimp only; omega) q0
      first | (go_simp; done) | rfl
    try simp only [nS]
    refine tH 5 (.pointer (some ⟨w.heap.size, 2, none⟩)) hSw ?_
    try simp only [nS]
    refine tG 6 (.int .i64 (na : Int)) hSw (fun W hW => ?_) ?_
    · have k2 := hW.cell (by dsimp only; omega) k2
      first | (go_simp; done) | rfl
    try simp only [nS]
    refine tH 7 (.pointer (some ⟨b0, off + na, none⟩)) hSw ?_
    try simp only [nS]
    refine tG 8 (.bool false) hSw (fun W hW => ?_) ?_
    · have t0 := hW.cell (by dsimp only; omega) t0
      first | (go_simp; done) | rfl
    try simp only [nS]
    refine tH 9 (.bool false) hSw ?_
    try simp only [nS]
    refine tN 10 hSw ?_
    try simp only [nS]
    refine tN 11 hSw ?_
    try simp only [nS]
    refine tN 12 hSw ?_
    try simp only [nS]
    refine tH 13 (.bool false) hSw ?_
    try simp only [nS]
    refine tH 14 (.bool false) hSw ?_
    try simp only [nS]
    refine tN 15 hSw ?_
    try simp only [nS]
    refine tN 16 hSw ?_
    try simp only [nS]
    refine tN 17 hSw ?_
    try simp only [nS]
    refine tN 18 hSw ?_
    try simp only [nS]
    refine tH 19 (.bool false) hSw ?_
    try simp only [nS]
    refine tH 20 (.bool false) hSw ?_
    try simp only [nS]
    refine wpAnyH_done (by kernel_rfl) ?_ _
    go_wp2_with fail
    go_ret
    have hbd : Below W1.heap.size W1 W1.drew := below_drewN (Below.refl _ _) 1
    exact ⟨by rw [HR.out]; rfl, by rw [HN]; exact HCK.out _ hbd, (Aside.of HB.out).drew⟩
  cases y
  · have HN := HNO.out (by rw [HR.out]; rfl)
    go_enter Try.func45, Try.ntmps45
    go_wp2_with fail
    rw [← HW.out]
    refine wp_region_held_drew (S := SameBut m W1) (by kernel_rfl) (SameBut.drew _ _) (fun hSw => ?_)
    refine tH 0 (.pointer (some ⟨c, 0, none⟩)) hSw ?_
    try simp only [nS]
    refine tH 1 (.pointer (some ⟨c, 0, none⟩)) hSw ?_
    try simp only [nS]
    refine tH 2 (.pointer (some ⟨c, 0, none⟩)) hSw ?_
    try simp only [nS]
    refine tH 3 (.pointer (some ⟨c, 0, none⟩)) hSw ?_
    try simp only [nS]
    refine tG 4 (.slice (some ⟨b0, off, none⟩) NR cap) hSw (fun W hW => ?_) ?_
    · have q0 := hW.cell (by dsimp only; omega) q0
      first | (go_simp; done) | rfl
    try simp only [nS]
    refine tH 5 (.pointer (some ⟨w.heap.size, 2, none⟩)) hSw ?_
    try simp only [nS]
    refine tG 6 (.int .i64 (na : Int)) hSw (fun W hW => ?_) ?_
    · have k2 := hW.cell (by dsimp only; omega) k2
      first | (go_simp; done) | rfl
    try simp only [nS]
    refine tH 7 (.pointer (some ⟨b0, off + na, none⟩)) hSw ?_
    try simp only [nS]
    refine tG 8 (.bool true) hSw (fun W hW => ?_) ?_
    · have t0 := hW.cell (by dsimp only; omega) t0
      first | (go_simp; done) | rfl
    try simp only [nS]
    refine tH 9 (.bool true) hSw ?_
    try simp only [nS]
    refine tH 10 (.pointer (some ⟨w.heap.size, 5, none⟩)) hSw ?_
    try simp only [nS]
    refine tG 11 (.int .i64 n) hSw (fun W hW => ?_) ?_
    · have k5 := hW.cell (by dsimp only; omega) k5
      first | (go_simp; done) | rfl
    try simp only [nS]
    refine tR 12 (fun K hK => ?_)
    clear hSw
    go_simp
    go_at_call 51
    refine (HWI.out _).mono ?_; rintro e w2 ⟨rfl, rfl⟩
    refine hK.out _ _ (SameBut.drew _ _) (fun hSw => ?_)
    clear hK K
    try simp only [nS]
    refine tH 13 (.bool false) hSw ?_
    try simp only [nS]
    refine tH 14 (.bool false) hSw ?_
    try simp only [nS]
    refine tN 15 hSw ?_
    try simp only [nS]
    refine tN 16 hSw ?_
    try simp only [nS]
    refine tN 17 hSw ?_
    try simp only [nS]
    refine tN 18 hSw ?_
    try simp only [nS]
    refine tH 19 (.bool false) hSw ?_
    try simp only [nS]
    refine tH 20 (.bool false) hSw ?_
    try simp only [nS]
    refine wpAnyH_done (by kernel_rfl) ?_ _
    go_wp2_with fail
    go_ret
    have hbd : Below W1.heap.size W1 W1.drew := below_drewN (Below.refl _ _) 1
    exact ⟨by rw [HR.out]; rfl, by rw [HN]; exact HCK.out _ hbd, (Aside.of HB.out).drew⟩
  have HN := HMK.out (by rw [HR.out]; rfl)
  go_enter Try.func45, Try.ntmps45
  go_wp2_with fail
  rw [← HW.out]
  refine wp_region_held_drew (S := SameBut m W1) (by kernel_rfl) (SameBut.drew _ _) (fun hSw => ?_)
  refine tH 0 (.pointer (some ⟨c, 0, none⟩)) hSw ?_
  try simp only [nS]
  refine tH 1 (.pointer (some ⟨c, 0, none⟩)) hSw ?_
  try simp only [nS]
  refine tH 2 (.pointer (some ⟨c, 0, none⟩)) hSw ?_
  try simp only [nS]
  refine tH 3 (.pointer (some ⟨c, 0, none⟩)) hSw ?_
  try simp only [nS]
  refine tG 4 (.slice (some ⟨b0, off, none⟩) NR cap) hSw (fun W hW => ?_) ?_
  · have q0 := hW.cell (by dsimp only; omega) q0
    first | (go_simp; done) | rfl
  try simp only [nS]
  refine tH 5 (.pointer (some ⟨w.heap.size, 2, none⟩)) hSw ?_
  try simp only [nS]
  refine tG 6 (.int .i64 (na : Int)) hSw (fun W hW => ?_) ?_
  · have k2 := hW.cell (by dsimp only; omega) k2
    first | (go_simp; done) | rfl
  try simp only [nS]
  refine tH 7 (.pointer (some ⟨b0, off + na, none⟩)) hSw ?_
  try simp only [nS]
  refine tG 8 (.bool true) hSw (fun W hW => ?_) ?_
  · have t0 := hW.cell (by dsimp only; omega) t0
    first | (go_simp; done) | rfl
  try simp only [nS]
  refine tH 9 (.bool true) hSw ?_
  try simp only [nS]
  refine tH 10 (.pointer (some ⟨w.heap.size, 5, none⟩)) hSw ?_
  try simp only [nS]
  refine tG 11 (.int .i64 n) hSw (fun W hW => ?_) ?_
  · have k5 := hW.cell (by dsimp only; omega) k5
    first | (go_simp; done) | rfl
  try simp only [nS]
  refine tR 12 (fun K hK => ?_)
  clear hSw
  go_simp
  go_at_call 51
  refine (HWI.out _).mono ?_; rintro e w2 ⟨rfl, rfl⟩
  refine hK.out _ _ (SameBut.drew _ _) (fun hSw => ?_)
  clear hK K
  try simp only [nS]
  refine tH 13 (.bool true) hSw ?_
  try simp only [nS]
  refine tH 14 (.bool true) hSw ?_
  try simp only [nS]
  refine tH 15 (.pointer (some ⟨c, 0, none⟩)) hSw ?_
  try simp only [nS]
  refine tH 16 (.pointer (some ⟨w.heap.size, 4, none⟩)) hSw ?_
  try simp only [nS]
  refine tG 17 (.int .i64 cc) hSw (fun W hW => ?_) ?_
  · have k4 := hW.cell (by dsimp only; omega) k4
    first | (go_simp; done) | rfl
  try simp only [nS]
  refine tR 18 (fun K hK => ?_)
  clear hSw
  go_simp
  have hbd : Below W1.heap.size W1 W1.drew := below_drewN (Below.refl _ _) 1
  go_at_call 52
  refine (HMA.out _ hbd).mono ?_; rintro e w2 ⟨rfl, hc2, ha2⟩
  have HC2 := Lib.hid hc2
  have HA2 := Lib.hid ha2
  clear hc2 ha2
  refine hK.out _ _ ((SameBut.drew _ _).trans HA2.out.same (Nat.le_refl _)) (fun hSw => ?_)
  clear hK K
  try simp only [nS]
  refine tH 19 (.bool (makesB M cc)) hSw ?_
  try simp only [nS]
  refine tH 20 (.bool (makesB M cc)) hSw ?_
  try simp only [nS]
  refine wpAnyH_done (by kernel_rfl) ?_ _
  go_wp2_with fail
  go_ret
  exact ⟨by rw [HR.out]; rfl, by rw [HN]; exact HC2.out, (Aside.of HB.out).drew.trans HA2.out⟩
end Go.Proofs.Ytgkjhnghibpeoaa
