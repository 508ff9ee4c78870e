/- A loop over an iterator whose k-th round has values that are known beforehand, and whose body is left at its end alone. -/
import Derived.Test.YtgkjhnghibpeoaaDoorRows
import Derived.RangeFuncFrom
import Derived.RangeFuncCalls
import Derived.Test.YtgkjhnghibpeoaaDoorLvOps
import Derived.Lib.LaidTab
import Derived.Lib.SmallJoins
import Derived.Test.YtgkjhnghibpeoaaDoorIrLeaf
import Derived.Test.YtgkjhnghibpeoaaDoorIrNew
import Derived.Test.YtgkjhnghibpeoaaDoorParseOrder
import Derived.LoopTactic
import Derived.LoopN
import Derived.Deep.LoopGhost
import Derived.WalkKit
import Derived.WalkSpells
import Derived.WalkLawsBesides
import Derived.Lib.Hide
import Derived.OrdersHeld
import Derived.Deep.RegionHeld
import Derived.Deep.DrawnRows
import Derived.RegionTactic
import Derived.Deep.RegionHeld3
import Derived.IntWalk
import Derived.Deep.QuietTactic
import Derived.BigQuiet
import Derived.RangeFuncNested
import Derived.RangeFuncBound
import Derived.RangeFuncLeaves
import Derived.Shelf.Abstract
import Derived.Shelf.RegionOpen
import Derived.OwnWalkIn
import Derived.TacticsInMore
import Derived.LoopNIn
import Derived.LoopIn
namespace Go.Proofs.YtgkjhnghibpeoaaDoor
open Go Go.RowKit

/-- What lies from L on and is no cells may change. -/
def Mild (L : Nat) (I : Nat → World → Prop) : Prop :=
  (∀ k W o, I k W → I k (W.alloc o)) ∧ ∀ k W l o o', I k W → L ≤ l → W.heap[l]? = some o → o.isCells = false → I k (W.putObj l o')
theorem range_countF {F : Fence} {n : Nat} {P : Program} {g : Operand} {ps : Array Tmp} {assign body : Code} {Q : Exit → Act → World → Prop} {a : Act} {w : World}
    (hro : F.round = none) (h1 : 1 ≤ n) {gf : Nat} {fb lb : Array Value} (hg : a.eval g = .func (.func gf) fb lb) (hFg : F.fn gf) (eg : ∀ args w, (callFunc gf args).run P w = .ok (.enter gf args) w)
    (vals : Nat → Array Value) (len : Nat) (hps : ∀ k, (vals k).size = ps.size) (Kp : World → World → Prop)
    (hit : ∀ (l : Nat) (J : Nat → World → Prop) (W : World), Below w.heap.size w W → (∀ k V o, J k V → J k (V.alloc o)) → (∀ k V, J k V → k < len → YieldAt F (n - 1 - 1) P l (vals k) V fun e V' => e = .returned (.bool true) ∧ J (k + 1) V' ∧ Kp V V') → J 0 W →
      CallsIn F (n - 1) P gf (fb ++ #[.func (.yield l) #[] #[]] ++ lb) W fun e W' => (∃ v, e = .returned v) ∧ J len W')
    (hKt : ∀ {A B C : World}, Kp A B → Kp B C → Kp A C) (hKb : ∀ (V : World) (l : Nat) (o o' : Obj), w.heap.size ≤ l → V.heap[l]? = some o → o.isCells = false → Kp V (V.putObj l o'))
    (I : Nat → World → Prop) (hI : Mild w.heap.size I) (h0 : I 0 w) (a₁ : Nat → Act)
    (hassign : ∀ (l k : Nat) (W : World) (K : Act → World → Prop), K (a₁ k) W → assign.wpIn (F.inRound l) (n - 1 - 1) P (Exit.then K (fun _ _ _ => False)) { tmps := (ps.zip (vals k)).foldl (fun t (p, v) => t.setIfInBounds p v) a.tmps, defers := [] } W)
    (hbody : ∀ (l k : Nat) (W : World), I k W → k < len → body.wpIn (F.inRound l) (n - 1 - 1) P (fun e _ W' => e = .normal ∧ KeepsOthers W W' ∧ Kp W W' ∧ I (k + 1) W') (a₁ k) W)
    (hdone : ∀ (D : Nat) (W : World), w.heap.size ≤ D → I len W → W.heap[D]? = some (.deferred (some [])) → Q .normal { a with defers := { target := .collected D, args := #[] } :: a.defers } W) :
    (Code.rangeFunc g ps assign body).wpIn F n P Q a w := by
  refine wpIn_rangeFunc fun fn hfn => ?_
  rw [hro]
  have hsz : (w.alloc (.deferred (some []))).heap.size = w.heap.size + 1 := by simp
  generalize hL : Loop.mk .ready none fn a.tmps ps assign body w.heap.size = L
  have hLs : L.state = .ready ∧ L.pending = none ∧ L.params = ps ∧ L.fn = fn ∧ L.tmps = a.tmps ∧ L.assign = assign ∧ L.body = body := by subst hL; exact ⟨rfl, rfl, rfl, rfl, rfl, rfl, rfl⟩
  have hen := run_enterLoop_outer (P := P) (w := w) fn a.tmps ps assign body
  rw [hL] at hen
  have hd1 : ((w.alloc (.deferred (some []))).alloc (.loop L)).heap[w.heap.size]? = some (.deferred (some [])) := (Below.heap_alloc _ _ _ (by simp)).trans (World.alloc_heap_new w _)
  have hl1 : ((w.alloc (.deferred (some []))).alloc (.loop L)).heap[w.heap.size + 1]? = some (.loop L) := by
    have := World.alloc_heap_new (w.alloc (.deferred (some []))) (.loop L)
    rwa [hsz] at this
  have hb1 : Below w.heap.size w ((w.alloc (.deferred (some []))).alloc (.loop L)) := ((Below.refl _ w).alloc (Nat.le_refl _) _).alloc (by simp) _
  have hI1 : I 0 ((w.alloc (.deferred (some []))).alloc (.loop L)) := hI.1 _ _ _ (hI.1 _ _ _ h0)
  generalize (w.alloc (.deferred (some []))).alloc (.loop L) = W1 at hen hd1 hl1 hb1 hI1
  refine ⟨w.heap.size + 1, [{ target := .collected w.heap.size, args := #[] }], W1, { target := .fn (.func gf) lb, args := fb ++ #[.func (.yield (w.heap.size + 1)) #[] #[]] }, W1, gf, fb ++ #[.func (.yield (w.heap.size + 1)) #[] #[]] ++ lb, W1, hen, ?_, ?_, ?_, fun _ => h1, ?_⟩
  · simp only [resolve, hg]
    simp [go_sem]
  · intro f' hf'
    simp [Target.leads] at hf'
    subst hf'
    exact hFg
  · simp [invoke, go_sem, eg]
  refine (hit (w.heap.size + 1) (fun k W => I k W ∧ W.heap[w.heap.size + 1]? = some (.loop L) ∧ W.heap[w.heap.size]? = some (.deferred (some []))) W1 hb1 (fun k V o h => ⟨hI.1 _ _ _ h.1, (Below.heap_alloc _ _ _ (Array.getElem?_eq_some_iff.1 h.2.1).1).trans h.2.1, (Below.heap_alloc _ _ _ (Array.getElem?_eq_some_iff.1 h.2.2).1).trans h.2.2⟩) ?_ ⟨hI1, hl1, hd1⟩).mono ?_
  · rintro k V ⟨k1, k2, k3⟩ hk
    have hlt : w.heap.size + 1 < V.heap.size := (Array.getElem?_eq_some_iff.1 k2).1
    have hy := run_yield (P := P) (args := vals k) k2 (by rw [hLs.2.2.1]; exact hps k)
    rw [hLs.2.2.1, hLs.2.2.2.1, hLs.2.2.2.2.1, hLs.2.2.2.2.2.1, hLs.2.2.2.2.2.2] at hy
    refine ⟨fn, _, assign, body, hy, roundIn_of_wpIn hfn (hassign _ k V _ ⟨_, run_beginRound k2 hLs.1, ?_⟩)⟩
    refine wpIn_mono (hbody _ k _ (hI.2 _ _ _ _ _ k1 (by omega) k2 rfl) hk) ?_
    rintro e a3 W3 ⟨rfl, q1, q2, q3⟩
    have l3 : W3.heap[w.heap.size + 1]? = some (.loop { L with state := .busy }) := q1.same _ _ (World.putObj_heap_same hlt) rfl
    have d3 : W3.heap[w.heap.size]? = some (.deferred (some [])) := q1.same _ _ ((World.putObj_heap_other (by omega)).trans k3) rfl
    have hr := run_endRound (P := P) none l3
    have hback : ({ L with state := if (none : Option Code).isNone then LoopState.ready else .done, pending := none } : Loop) = L := by subst hL; rfl
    rw [show ({ ({ L with state := LoopState.busy } : Loop) with state := if (none : Option Code).isNone then LoopState.ready else .done, pending := none } : Loop) = L from hback] at hr
    refine ⟨_, _, hr, rfl, ⟨hI.2 _ _ _ _ _ q3 (by omega) l3 rfl, World.putObj_heap_same (Array.getElem?_eq_some_iff.1 l3).1, (World.putObj_heap_other (by omega)).trans d3⟩, ?_⟩
    exact hKt (hKt (hKb _ _ _ _ (by omega) k2 rfl) q2) (hKb _ _ _ _ (by omega) l3 rfl)
  · rintro e W2 ⟨⟨v, rfl⟩, k1, k2, k3⟩
    have hr := run_endLoop (P := P) k2 (by rw [hLs.1]; simp)
    rw [hLs.2.1] at hr
    exact ⟨none, _, hr, hdone _ _ (Nat.le_refl _) (hI.2 _ _ _ _ _ k1 (by omega) k2 rfl) ((World.putObj_heap_other (by omega)).trans k3)⟩
/-- The same, where the assignment lays memory: Ay says where a round begins. -/
theorem range_countB {F : Fence} {n : Nat} {P : Program} {g : Operand} {ps : Array Tmp} {assign body : Code} {Q : Exit → Act → World → Prop} {a : Act} {w : World}
    (hro : F.round = none) (h1 : 1 ≤ n) {gf : Nat} {fb lb : Array Value} (hg : a.eval g = .func (.func gf) fb lb) (hFg : F.fn gf) (eg : ∀ args w, (callFunc gf args).run P w = .ok (.enter gf args) w)
    (vals : Nat → Array Value) (len : Nat) (hps : ∀ k, (vals k).size = ps.size) (Kp : World → World → Prop)
    (hit : ∀ (l : Nat) (J : Nat → World → Prop) (W : World), Below w.heap.size w W → (∀ k V o, J k V → J k (V.alloc o)) → (∀ k V, J k V → k < len → YieldAt F (n - 1 - 1) P l (vals k) V fun e V' => e = .returned (.bool true) ∧ J (k + 1) V' ∧ Kp V V') → J 0 W →
      CallsIn F (n - 1) P gf (fb ++ #[.func (.yield l) #[] #[]] ++ lb) W fun e W' => (∃ v, e = .returned v) ∧ J len W')
    (hKt : ∀ {A B C : World}, Kp A B → Kp B C → Kp A C) (hKb : ∀ (V : World) (l : Nat) (o o' : Obj), w.heap.size ≤ l → V.heap[l]? = some o → o.isCells = false → Kp V (V.putObj l o'))
    (I : Nat → World → Prop) (hI : Mild w.heap.size I) (h0 : I 0 w) (Ay : Nat → Act → World → Prop) (hAy : ∀ (k : Nat) (a' : Act) (W : World) (l : Nat) (o o' : Obj), Ay k a' W → w.heap.size ≤ l → W.heap[l]? = some o → o.isCells = false → Ay k a' (W.putObj l o'))
    (hassign : ∀ (l k : Nat) (W : World) (K : Act → World → Prop), I k W → k < len → (∀ a' W', KeepsOthers W W' → Kp W W' → I k W' → Ay k a' W' → K a' W') → assign.wpIn (F.inRound l) (n - 1 - 1) P (Exit.then K (fun _ _ _ => False)) { tmps := (ps.zip (vals k)).foldl (fun t (p, v) => t.setIfInBounds p v) a.tmps, defers := [] } W)
    (hbody : ∀ (l k : Nat) (W : World) (a' : Act), I k W → k < len → Ay k a' W → body.wpIn (F.inRound l) (n - 1 - 1) P (fun e _ W' => e = .normal ∧ KeepsOthers W W' ∧ Kp W W' ∧ I (k + 1) W') a' W)
    (hdone : ∀ (D : Nat) (W : World), w.heap.size ≤ D → I len W → W.heap[D]? = some (.deferred (some [])) → Q .normal { a with defers := { target := .collected D, args := #[] } :: a.defers } W) :
    (Code.rangeFunc g ps assign body).wpIn F n P Q a w := by
  refine wpIn_rangeFunc fun fn hfn => ?_
  rw [hro]
  have hsz : (w.alloc (.deferred (some []))).heap.size = w.heap.size + 1 := by simp
  generalize hL : Loop.mk .ready none fn a.tmps ps assign body w.heap.size = L
  have hLs : L.state = .ready ∧ L.pending = none ∧ L.params = ps ∧ L.fn = fn ∧ L.tmps = a.tmps ∧ L.assign = assign ∧ L.body = body := by subst hL; exact ⟨rfl, rfl, rfl, rfl, rfl, rfl, rfl⟩
  have hen := run_enterLoop_outer (P := P) (w := w) fn a.tmps ps assign body
  rw [hL] at hen
  have hd1 : ((w.alloc (.deferred (some []))).alloc (.loop L)).heap[w.heap.size]? = some (.deferred (some [])) := (Below.heap_alloc _ _ _ (by simp)).trans (World.alloc_heap_new w _)
  have hl1 : ((w.alloc (.deferred (some []))).alloc (.loop L)).heap[w.heap.size + 1]? = some (.loop L) := by
    have := World.alloc_heap_new (w.alloc (.deferred (some []))) (.loop L)
    rwa [hsz] at this
  have hb1 : Below w.heap.size w ((w.alloc (.deferred (some []))).alloc (.loop L)) := ((Below.refl _ w).alloc (Nat.le_refl _) _).alloc (by simp) _
  have hI1 : I 0 ((w.alloc (.deferred (some []))).alloc (.loop L)) := hI.1 _ _ _ (hI.1 _ _ _ h0)
  generalize (w.alloc (.deferred (some []))).alloc (.loop L) = W1 at hen hd1 hl1 hb1 hI1
  refine ⟨w.heap.size + 1, [{ target := .collected w.heap.size, args := #[] }], W1, { target := .fn (.func gf) lb, args := fb ++ #[.func (.yield (w.heap.size + 1)) #[] #[]] }, W1, gf, fb ++ #[.func (.yield (w.heap.size + 1)) #[] #[]] ++ lb, W1, hen, ?_, ?_, ?_, fun _ => h1, ?_⟩
  · simp only [resolve, hg]
    simp [go_sem]
  · intro f' hf'
    simp [Target.leads] at hf'
    subst hf'
    exact hFg
  · simp [invoke, go_sem, eg]
  refine (hit (w.heap.size + 1) (fun k W => I k W ∧ W.heap[w.heap.size + 1]? = some (.loop L) ∧ W.heap[w.heap.size]? = some (.deferred (some []))) W1 hb1 (fun k V o h => ⟨hI.1 _ _ _ h.1, (Below.heap_alloc _ _ _ (Array.getElem?_eq_some_iff.1 h.2.1).1).trans h.2.1, (Below.heap_alloc _ _ _ (Array.getElem?_eq_some_iff.1 h.2.2).1).trans h.2.2⟩) ?_ ⟨hI1, hl1, hd1⟩).mono ?_
  · rintro k V ⟨k1, k2, k3⟩ hk
    have hlt : w.heap.size + 1 < V.heap.size := (Array.getElem?_eq_some_iff.1 k2).1
    have hy := run_yield (P := P) (args := vals k) k2 (by rw [hLs.2.2.1]; exact hps k)
    rw [hLs.2.2.1, hLs.2.2.2.1, hLs.2.2.2.2.1, hLs.2.2.2.2.2.1, hLs.2.2.2.2.2.2] at hy
    refine ⟨fn, _, assign, body, hy, roundIn_of_wpIn hfn (hassign _ k V _ k1 hk (fun a' V1 c1 c2 c3 c4 => ?_))⟩
    have k2' : V1.heap[w.heap.size + 1]? = some (.loop L) := c1.same _ _ k2 rfl
    have k3' : V1.heap[w.heap.size]? = some (.deferred (some [])) := c1.same _ _ k3 rfl
    have hlt' : w.heap.size + 1 < V1.heap.size := (Array.getElem?_eq_some_iff.1 k2').1
    refine ⟨_, run_beginRound k2' hLs.1, ?_⟩
    refine wpIn_mono (hbody _ k _ a' (hI.2 _ _ _ _ _ c3 (by omega) k2' rfl) hk (hAy _ _ _ _ _ _ c4 (by omega) k2' rfl)) ?_
    rintro e a3 W3 ⟨rfl, q1, q2, q3⟩
    have l3 : W3.heap[w.heap.size + 1]? = some (.loop { L with state := .busy }) := q1.same _ _ (World.putObj_heap_same hlt') rfl
    have d3 : W3.heap[w.heap.size]? = some (.deferred (some [])) := q1.same _ _ ((World.putObj_heap_other (by omega)).trans k3') rfl
    have hr := run_endRound (P := P) none l3
    have hback : ({ L with state := if (none : Option Code).isNone then LoopState.ready else .done, pending := none } : Loop) = L := by subst hL; rfl
    rw [show ({ ({ L with state := LoopState.busy } : Loop) with state := if (none : Option Code).isNone then LoopState.ready else .done, pending := none } : Loop) = L from hback] at hr
    refine ⟨_, _, hr, rfl, ⟨hI.2 _ _ _ _ _ q3 (by omega) l3 rfl, World.putObj_heap_same (Array.getElem?_eq_some_iff.1 l3).1, (World.putObj_heap_other (by omega)).trans d3⟩, ?_⟩
    exact hKt (hKt (hKt c2 (hKb _ _ _ _ (by omega) k2' rfl)) q2) (hKb _ _ _ _ (by omega) l3 rfl)
  · rintro e W2 ⟨⟨v, rfl⟩, k1, k2, k3⟩
    have hr := run_endLoop (P := P) k2 (by rw [hLs.1]; simp)
    rw [hLs.2.1] at hr
    exact ⟨none, _, hr, hdone _ _ (Nat.le_refl _) (hI.2 _ _ _ _ _ k1 (by omega) k2 rfl) ((World.putObj_heap_other (by omega)).trans k3)⟩
end Go.Proofs.YtgkjhnghibpeoaaDoor
namespace Go.Proofs.YtgkjhnghibpeoaaDoor
open Go.RowKit
set_option maxRecDepth 1000000
attribute [local go_sem ↓] bld_eq bls_eq


/-- The library's table, as it is laid. -/
def Good (w : World) : Prop := Lib.TabIs Tryd.prog w "math/bits.deBruijn64tab" .u8 (lowTab.map fun (n : Nat) => (n : Int))
theorem gLow : Tryd.prog.globalNamed "math/bits.deBruijn64tab" = some 0 := by kernel_rfl
theorem Good.at {w : World} (h : Good w) {i t : Nat} (hi : lowTab[i]? = some t) : w.cell? ⟨0, i, none⟩ = some (.int .u8 (t : Int)) := by
  have hl : i < lowTab.length := (List.getElem?_eq_some_iff.1 hi).1
  have := Lib.TabIs.cell h gLow i (by simpa using hl)
  rw [this]
  simp [List.getD, hi]
theorem neg64 {x : Nat} (h0 : x ≠ 0) (hx : x < 18446744073709551616) : IntKind.wrap .u64 (-(x : Int)) = ((18446744073709551616 - x : Nat) : Int) := by
  rw [IntKind.wrap_u64]; omega
theorem mul64 (a : Nat) : IntKind.wrap .u64 ((a : Int) * 285870213051353865) = ((a * 285870213051353865 % 18446744073709551616 : Nat) : Int) := by
  rw [IntKind.wrap_u64]; omega
theorem shr58 (a : Nat) : (a : Int) / 288230376151711744 = ((a / 288230376151711744 : Nat) : Int) := by omega
set_option maxHeartbeats 4000000 in
theorem low_any (x t : Nat) (w : World) (hG : Good w) (hx : x < 18446744073709551616) (hl : Low x t) :
    Calls Tryd.prog 42 #[.int .u64 (x : Int)] w fun e w' => e = .returned (.int .i64 (t : Int)) ∧ w' = w := by
  have h0 : x ≠ 0 := fun e => by rw [e] at hl; have := hl.1; simp at this
  have h64 := hl.lt hx
  have d0 : ((x : Int) == 0) = false := by simpa using h0
  have e1 := neg64 h0 hx
  have e2 : bits .and .u64 (x : Int) ((18446744073709551616 - x : Nat) : Int) = ((2 ^ t : Nat) : Int) := by rw [bits64_and hx (by omega), hl.lone hx]
  obtain ⟨Y, hY⟩ : ∃ Y, Y = 18446744073709551616 - x := ⟨_, rfl⟩
  rw [← hY] at e1 e2
  have e3 := mul64 (2 ^ t)
  have e4 := shr58 (2 ^ t * 285870213051353865 % 18446744073709551616)
  have c0 := hG.at (lowTab_at ⟨t, h64⟩)
  dsimp only at c0
  obtain ⟨P, hP⟩ : ∃ P, P = 2 ^ t := ⟨_, rfl⟩
  rw [← hP] at e2 e3 e4 c0
  obtain ⟨M, hM⟩ : ∃ M, M = P * 285870213051353865 % 18446744073709551616 := ⟨_, rfl⟩
  rw [← hM] at e3 e4 c0
  obtain ⟨I, hI⟩ : ∃ I, I = M / 288230376151711744 := ⟨_, rfl⟩
  rw [← hI] at e4 c0
  have hI64 : (I : Int) < 64 := by omega
  clear hY hP hM hI hl hG hx
  go_enter Tryd.func42, Tryd.ntmps42
  go_wp2_with fail
  go_ret
  exact ⟨rfl, rfl⟩
end Go.Proofs.YtgkjhnghibpeoaaDoor
namespace Go.Proofs.YtgkjhnghibpeoaaDoor
open Go.RowKit Go.Shelf
attribute [local go_sem] Oper.semAt_some

/-- The library's table is as it was. -/
def KeepsG (W W' : World) : Prop := W'.heap[0]? = W.heap[0]?
theorem Good.of {W W' : World} (h : Good W) (k : KeepsG W W') : Good W' := by
  unfold Good Lib.TabIs World.var? at *
  rw [gLow] at h ⊢
  simp only [Option.bind_some] at h ⊢
  unfold KeepsG at k
  rw [k]
  exact h
theorem Good.lt {W : World} (h : Good W) : 0 < W.heap.size := by
  have h1 := h.at (i := 0) (t := 0) rfl
  rcases Nat.lt_or_ge 0 W.heap.size with q | q
  · exact q
  · have : W.heap[0]? = none := Array.getElem?_eq_none (by omega)
    simp [World.cell?, this] at h1
/-- What the k-th round is told. -/
def eachV (s : List Nat) (k : Nat) : Array Value := #[.int .i64 ((((listS s)[k]?).getD 0 : Nat) : Int)]
theorem range_pre (p : Nat → Bool) (a : Nat) : ∀ (d : Nat), ∃ r, (List.range (a + d)).filter p = (List.range a).filter p ++ r := by
  intro d
  induction d with
  | zero => exact ⟨[], by simp⟩
  | succ d ih =>
    obtain ⟨r, hr⟩ := ih
    refine ⟨r ++ [a + d].filter p, ?_⟩
    rw [show a + (d + 1) = (a + d) + 1 by omega, List.range_succ, List.filter_append, hr, List.append_assoc]
theorem Told.at {s : List Nat} {k w j t : Nat} {l : List Nat} (h : Told s k w j l) (ht : Low w t) (hk : k < 16) : (listS s)[l.length]? = some (k * 64 + t) := by
  have h2 := (h.next ht).told
  have h64 := ht.lt h.lt
  obtain ⟨r, hr⟩ := range_pre (hasS s) (k * 64 + (t + 1)) (1024 - (k * 64 + (t + 1)))
  rw [show k * 64 + (t + 1) + (1024 - (k * 64 + (t + 1))) = 1024 by omega, ← h2] at hr
  unfold listS
  rw [hr, List.append_assoc, List.getElem?_append_right (Nat.le_refl _)]
  simp
theorem strike_lt {x : Nat} (h : x ≠ 0) : (x &&& (x - 1)) < x := Nat.lt_of_le_of_lt Nat.and_le_right (by omega)
theorem sub64 {x : Nat} (h : x ≠ 0) (hx : x < 18446744073709551616) : IntKind.wrap .u64 ((x : Int) - 1) = ((x - 1 : Nat) : Int) := by
  rw [IntKind.wrap_u64]; omega
def toldL (s : List Nat) (k : Nat) : List Nat := (List.range (k * 64)).filter (hasS s)
set_option maxRecDepth 100000 in
set_option maxHeartbeats 8000000 in
theorem each_in (n : Nat) (hn : 2 ≤ n) (l : Nat) (s : List Nat) (hs : SOk s) (J : Nat → World → Prop) (hJa : ∀ k V o, J k V → J k (V.alloc o))
    (hY : ∀ k W, J k W → k < (listS s).length → YieldAt Fence.wide (n - 1) Tryd.prog l (eachV s k) W fun e W' => e = .returned (.bool true) ∧ J (k + 1) W' ∧ KeepsG W W')
    (W : World) (hG : Good W) (h0 : J 0 W) :
    CallsIn Fence.wide n Tryd.prog 33 #[setV s, .func (.yield l) #[] #[]] W fun e W' => (∃ v, e = .returned v) ∧ J (listS s).length W' := by
  have hA1 := u64A_one s
  have hAs : (u64A s).size = 16 := by rw [u64A_size, hs.len]
  have hix := fun (k y : Nat) (hy : s[k]? = some y) (w : World) => index_set hs hy w
  unfold setV
  obtain ⟨A, hAe⟩ : ∃ A, A = u64A s := ⟨_, rfl⟩
  rw [← hAe] at hA1 hAs hix ⊢
  obtain ⟨W1, hW1⟩ : ∃ W1, W1 = W.alloc (.cells A 58) := ⟨_, rfl⟩
  have q1 : W1.heap[W.heap.size]? = some (.cells A 58 (0, 0)) := by rw [hW1]; exact (MapKept.heap_alloc _ _).1
  have hJ1 : J 0 W1 := by rw [hW1]; exact hJa _ _ _ h0
  have hG1 : Good W1 := hG.of (by unfold KeepsG; rw [hW1]; exact Below.heap_alloc _ _ _ hG.lt)
  have HW1 := Lib.hid hW1
  have HQ1 := Lib.hid q1
  have HJ1 := Lib.hid hJ1
  have HG1 := Lib.hid hG1
  have HAs := Lib.hid hAs
  have HIX := Lib.hid hix
  have HS := Lib.hid hs
  have HY := Lib.hid hY
  clear hW1 q1 hJ1 hG1 hAs hix hA1 hAe hs hY h0 hG hJa
  refine callsIn_of_wp Tryd.func33 rfl trivial ?_ rfl
  simp only [Tryd.ntmps33, List.size_toArray, List.length_cons, List.length_nil, Nat.reduceAdd, Nat.reduceSub, Array.replicate_succ, Array.replicate_zero, List.push_toArray, List.append_toArray, List.nil_append, List.cons_append]
  refine wpIn_wide.2 ?_
  go_wp2_with (first
    | (rw [← HW1.out])
    | (refine wpList_load_row rfl 58 (Operand.tmp 2) rfl W.heap.size rfl 58 A (0, 0) _ HQ1.out Tryd.underlying58 rfl (by rw [HAs.out]; kernel_rfl) ?_))
  refine (wpIn_wide (n := n)).1 ?_
  have hn1 : 1 ≤ n - 1 := by omega
  have hn0 : 1 ≤ n := by omega
  gi_loopw [7] (fun kv wr => ∃ k : Nat, kv = .int .i64 (k : Int) ∧ k ≤ 16 ∧ Hid (J (toldL s k).length wr ∧ Good wr)) (fun kv _ => 16 - (intOf kv).toNat)
  case atStart => exact ⟨0, rfl, by omega, Lib.hid ⟨by simpa [toldL] using HJ1.out, HG1.out⟩⟩
  case round => as_aux_lemma =>
    obtain ⟨k, rfl, hk, HR⟩ := hrel
    by_cases hk16 : k = 16
    · subst hk16
      gi_wp2
      go_end0
      exact ⟨⟨_, rfl⟩, HR.out.1⟩
    · have hlt : (k : Int) < 16 := by omega
      have hk2 : k < 16 := by omega
      have dlt : decide ((k : Int) < 16) = true := by simpa using hlt
      obtain ⟨x, hx⟩ : ∃ x, s[k]? = some x := ⟨_, List.getElem?_eq_getElem (by rw [HS.out.len]; omega)⟩
      have hix := HIX.out k x hx
      have HT := Lib.hid (show Told s k x 0 (toldL s k) from by
        have := Told.start HS.out k (l := toldL s k) rfl
        rw [hx] at this
        exact this)
      have em : IntKind.wrap .i64 ((k : Int) * 64) = ((k * 64 : Nat) : Int) := by rw [IntWalk.i64_in _ (by omega)]; omega
      have hx64 : x < 18446744073709551616 := HS.out.lt x (List.mem_of_getElem? hx)
      clear hx
      gi_wp2
      gi_loopw [5] (fun xv wr => ∃ (y j : Nat) (t : List Nat), xv = .int .u64 (y : Int) ∧ Hid (Told s k y j t ∧ J t.length wr ∧ Good wr)) (fun xv _ => (intOf xv).toNat)
      case atStart => exact ⟨x, 0, toldL s k, rfl, Lib.hid ⟨HT.out, HR.out.1, HR.out.2⟩⟩
      case round => as_aux_lemma =>
        obtain ⟨y, j, t, rfl, HI⟩ := hrel
        rename World => V
        by_cases hy0 : y = 0
        · subst hy0
          have HE := Lib.hid (show toldL s (k + 1) = t from HI.out.1.end'.symm)
          gi_wp2
          go_roundw
          case rel => exact ⟨k + 1, by go_num, by omega, Lib.hid ⟨by rw [HE.out]; exact HI.out.2.1, HI.out.2.2⟩⟩
          case measure => simp [intOf]; omega
        · have d0 : ((y : Int) != 0) = true := by simpa using hy0
          obtain ⟨b, hb⟩ := low_of hy0
          have hyl := HI.out.1.lt
          have hb64 := hb.lt hyl
          have e1 := sub64 hy0 hyl
          have e2 : bits .and .u64 (y : Int) ((y - 1 : Nat) : Int) = ((y &&& (y - 1) : Nat) : Int) := bits64_and hyl (by omega)
          obtain ⟨z, hz⟩ : ∃ z, z = y &&& (y - 1) := ⟨_, rfl⟩
          obtain ⟨ym, hym⟩ : ∃ ym, ym = y - 1 := ⟨_, rfl⟩
          have hzl : z < y := by rw [hz]; exact strike_lt hy0
          have HN := Lib.hid (show Told s k z (b + 1) (t ++ [k * 64 + b]) from by rw [hz]; exact HI.out.1.next hb)
          rw [← hz, ← hym] at e2
          rw [← hym] at e1
          have hat := HI.out.1.at hb hk2
          have hLen : t.length < (listS s).length := (List.getElem?_eq_some_iff.1 hat).1
          have HL := Lib.hid (fun W hW => (callsIn_wide (n := n - 1)).2 (low_any y b W hW hyl hb))
          obtain ⟨kk, hkk⟩ : ∃ kk, kk = k * 64 := ⟨_, rfl⟩
          rw [← hkk] at em hat HN
          obtain ⟨fn, tmps, assign, body, hy, hR⟩ := HY.out t.length V HI.out.2.1 hLen
          rw [eachV, hat] at hy
          dsimp only [Option.getD_some] at hy
          rw [Int.natCast_add] at hy
          have hkl : kk < 1024 := by omega
          have HRY := Lib.hid hR
          clear hat hR hz hym hb hkk
          gi_wp2
          refine ⟨trivial, (HL.out V HI.out.2.2).mono ?_⟩
          rintro e V2 ⟨rfl, rfl⟩
          gi_wp2
          refine HRY.out.mono ?_
          rintro e W3 ⟨rfl, hJ3, hk3⟩
          have HJ3 := Lib.hid (And.intro hJ3 (HI.out.2.2.of hk3))
          clear hJ3 hk3
          gi_wp2
          go_roundw
          case rel => exact ⟨z, b + 1, t ++ [kk + b], rfl, Lib.hid ⟨HN.out, by rw [List.length_append]; exact HJ3.out.1, HJ3.out.2⟩⟩
          case measure => simp [intOf]; omega
end Go.Proofs.YtgkjhnghibpeoaaDoor
