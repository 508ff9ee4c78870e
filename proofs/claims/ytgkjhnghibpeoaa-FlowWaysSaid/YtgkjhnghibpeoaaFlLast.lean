/- A region that draws its order, reads, and ends in one forced order: in a world of its own name. -/
import Derived.StillTailTactics
import Derived.Below
import Derived.WalkKit
import Derived.Test.YtgkjhnghibpeoaaRows
import Derived.Test.YtgkjhnghibpeoaaFlLnext
import Derived.Laws.Bits64
import Derived.Test.YtgkjhnghibpeoaaIrSizes
import Derived.Test.YtgkjhnghibpeoaaFlMem
import Derived.Test.YtgkjhnghibpeoaaParseOrder
import Derived.LoopTactic
import Derived.LoopN
import Derived.Deep.LoopGhost
import Derived.WalkSpells
import Derived.WalkLawsBesides
import Derived.Lib.Hide
import Derived.OrdersHeld
import Derived.Deep.RegionHeld
import Derived.Deep.DrawnRows
import Derived.RegionTactic
import Derived.Deep.RegionHeld3
import Derived.IntWalk
import Derived.Deep.QuietTactic
import Derived.BigQuiet
import Derived.Test.YtgkjhnghibpeoaaFlLen
namespace Go.Proofs.Ytgkjhnghibpeoaa
open Go Go.RowKit

theorem still_tail {P : Program} {id : Nat} {Q : Exit → Act → World → Prop} {a : Act} {w : World} {l : List Oper} (n : Nat) (hm : P.follows .mixedOrders = true) (hB : Region.lexTailB .any l.toArray n = true)
    (h : ∀ w2 : World, w2 = w.drew → wpStill P l.toArray w2 (fun a' => wpList P l.toArray Q (l.drop n) a' w2) (l.take n) a) : (Code.region id l.toArray true).wp P Q a w :=
  wp_region_still_tail n hm hB (h _ rfl)
theorem dc {w w2 : World} (h : w2 = w.drew) {p : Addr} {v : Value} (hc : w.cell? p = some v) : w2.cell? p = some v := by rw [h]; exact hc
theorem df {w w2 : World} (h : w2 = w.drew) {p : Addr} {b : Bool} (hc : w.frozen? p = b) : w2.frozen? p = b := by rw [h]; exact hc
theorem dz {w w2 : World} (h : w2 = w.drew) : w2.heap.size = w.heap.size := by rw [h]; rfl
theorem db {w w2 : World} (h : w2 = w.drew) : Below w.heap.size w w2 := by rw [h]; exact ⟨rfl, rfl, rfl, Nat.le_refl _, fun _ _ => rfl⟩
end Go.Proofs.Ytgkjhnghibpeoaa
namespace Go.Proofs.Ytgkjhnghibpeoaa
open Go.RowKit
set_option maxRecDepth 1000000
attribute [local go_sem ↓] bld_eq bls_eq


theorem quo64 (t : Nat) (h : t < 4611686018427387904) : IntKind.wrap .i64 ((t : Int) / 64) = ((t / 64 : Nat) : Int) := by
  rw [IntWalk.i64_in _ (by omega)]
  omega
theorem rem64 (t : Nat) : (t : Int).tmod 64 = ((t % 64 : Nat) : Int) := by
  rw [Int.tmod_eq_emod_of_nonneg (by omega)]
  omega
theorem pow64 {m : Nat} (h : m < 64) : 2 ^ m < 18446744073709551616 := Nat.pow_lt_pow_right (show 1 < 2 by decide) (show m < 64 from h)
theorem shl64 (m : Nat) (h : m < 64) : IntKind.wrap .u64 (2 ^ m) = ((2 ^ m : Nat) : Int) := by
  rw [IntKind.wrap_u64]
  have h1 := pow64 h
  have h2 : ((2 ^ m : Nat) : Int) = (2 : Int) ^ m := by simp
  rw [← h2]
  clear h2
  generalize (2 : Nat) ^ m = P at h1 ⊢
  omega
theorem ofInt64 {a : Nat} (ha : a < 2 ^ 64) : (BitVec.ofInt 64 (a : Int)).toNat = a := by
  rw [BitVec.ofInt_natCast, BitVec.toNat_ofNat]; exact Nat.mod_eq_of_lt ha
theorem bits64_or (a b : Nat) (ha : a < 2 ^ 64) (hb : b < 2 ^ 64) : bits .or .u64 (a : Int) (b : Int) = ((a ||| b : Nat) : Int) := by
  have hx : a ||| b < 2 ^ 64 := Nat.or_lt_two_pow ha hb
  show IntKind.u64.wrap ((BitVec.ofInt 64 (a : Int) ||| BitVec.ofInt 64 (b : Int)).toNat : Int) = _
  rw [BitVec.toNat_or, ofInt64 ha, ofInt64 hb, IntKind.wrap_u64]
  omega
theorem bits64_and (a b : Nat) (ha : a < 2 ^ 64) (hb : b < 2 ^ 64) : bits .and .u64 (a : Int) (b : Int) = ((a &&& b : Nat) : Int) := by
  have hx : a &&& b < 2 ^ 64 := Nat.lt_of_le_of_lt Nat.and_le_left ha
  show IntKind.u64.wrap ((BitVec.ofInt 64 (a : Int) &&& BitVec.ofInt 64 (b : Int)).toNat : Int) = _
  rw [BitVec.toNat_and, ofInt64 ha, ofInt64 hb, IntKind.wrap_u64]
  omega
def clrW (a m : Nat) : Nat := (BitVec.ofInt 64 (a : Int) &&& ~~~ BitVec.ofInt 64 ((2 ^ m : Nat) : Int)).toNat
theorem clrW_lt (a m : Nat) : clrW a m < 2 ^ 64 := BitVec.isLt _
theorem clrW_bit {a m : Nat} (ha : a < 2 ^ 64) (hm : m < 64) (i : Nat) (hi : i < 64) : (clrW a m).testBit i = (a.testBit i && decide (i ≠ m)) := by
  unfold clrW
  rw [← BitVec.getLsbD, BitVec.getLsbD_and, BitVec.getLsbD_not]
  have h1 : (BitVec.ofInt 64 (a : Int)).getLsbD i = a.testBit i := by rw [BitVec.getLsbD, ofInt64 ha]
  have h2 : (BitVec.ofInt 64 ((2 ^ m : Nat) : Int)).getLsbD i = decide (m = i) := by rw [BitVec.getLsbD, ofInt64 (pow64 hm), Nat.testBit_two_pow]
  rw [h1, h2]
  by_cases e : i = m
  · subst e; simp [hi]
  · have e2 : ¬ m = i := fun q => e q.symm
    simp [hi, e, e2]
theorem bits64_clr (a m : Nat) (_ha : a < 2 ^ 64) (_hm : m < 64) : bits .andNot .u64 (a : Int) ((2 ^ m : Nat) : Int) = ((clrW a m : Nat) : Int) := by
  show IntKind.u64.wrap ((BitVec.ofInt 64 (a : Int) &&& ~~~ BitVec.ofInt 64 ((2 ^ m : Nat) : Int)).toNat : Int) = _
  have h := clrW_lt a m
  unfold clrW at h ⊢
  rw [IntKind.wrap_u64]
  omega

set_option maxHeartbeats 8000000 in
theorem put_any (s : Nat) (r : List Nat) (t x : Nat) (w : World) (h : w.heap[s]? = some (.cells (u64A r) 70 (0, 0))) (hx : r[t / 64]? = some x) (hx2 : x < 2 ^ 64) (hr : r.length ≤ 8192) :
    Calls Try.prog 30 #[.slice (some ⟨s, 0, none⟩) r.length r.length, .int .i64 (t : Int)] w fun e w' => e = .returned (.tuple #[]) ∧ w'.heap[s]? = some (.cells (u64A (r.set (t / 64) (x ||| 2 ^ (t % 64)))) 70 (0, 0)) ∧ Wr (fun b => b = s) w w' := by
  have ht := some_lt hx
  have c0 := u64A_at h hx
  have f0 := Lib.frozen_of_heap h (t / 64)
  obtain ⟨Y, hY⟩ : ∃ Y : Nat, Y = x ||| 2 ^ (t % 64) := ⟨_, rfl⟩
  have hop : bits .or .u64 (x : Int) ((2 ^ (t % 64) : Nat) : Int) = (Y : Int) := by rw [hY]; exact bits64_or x _ hx2 (Nat.pow_lt_pow_right (by decide) (Nat.mod_lt _ (by decide)))
  have HH := Lib.hid (u64A_set h (t / 64) Y)
  rw [← hY]
  obtain ⟨q, hq⟩ : ∃ q, q = t / 64 := ⟨_, rfl⟩
  obtain ⟨m, hm⟩ : ∃ m, m = t % 64 := ⟨_, rfl⟩
  have hm64 : m < 64 := by omega
  have e1 := quo64 t (by omega)
  have e2 := rem64 t
  have e3 := shl64 m hm64
  rw [← hq] at c0 f0 ht e1 HH ⊢
  rw [← hm] at e2 hop
  obtain ⟨P, hP⟩ : ∃ P : Nat, P = 2 ^ m := ⟨_, rfl⟩
  rw [← hP] at e3 hop
  have hsz : s < w.heap.size := (Array.getElem?_eq_some_iff.1 h).1
  obtain ⟨N, hN⟩ : ∃ N, N = r.length := ⟨_, rfl⟩
  rw [← hN] at ht hr ⊢
  clear hN hY hq hm hx h hP
  go_enter Try.func30, Try.ntmps30
  go_wp2_with fail
  refine wp_region_late (S := SameTo (s + 1) w) (fun j => decide (9 ≤ j)) (by kernel_rfl) (SameTo.drew _ _) (fun hSw => ?_)
  refine lH 0 (.slice (some ⟨s, 0, none⟩) N N) hSw ?_
  try simp only [nS]
  refine lH 1 (.int .i64 (t : Int)) hSw ?_
  try simp only [nS]
  refine lG 2 (.int .i64 (q : Int)) hSw (fun W hW => ?_) ?_
  · first | (go_simp; done) | (go_simp; exact e1)
  try simp only [nS]
  refine lH 3 (.pointer (some ⟨s, q, none⟩)) hSw ?_
  try simp only [nS]
  refine lG 4 (.int .u64 (x : Int)) hSw (fun W hW => ?_) ?_
  · have c0 := hW.cell (by dsimp only; omega) c0
    first | (go_simp; done) | rfl
  try simp only [nS]
  refine lH 5 (.int .i64 (t : Int)) hSw ?_
  try simp only [nS]
  refine lG 6 (.int .i64 (m : Int)) hSw (fun W hW => ?_) ?_
  · first | (go_simp; done) | (go_simp; exact e2)
  try simp only [nS]
  refine lG 7 (.int .u64 (P : Int)) hSw (fun W hW => ?_) ?_
  · first | (go_simp; done) | (go_simp; exact e3)
  try simp only [nS]
  refine lG 8 (.int .u64 (Y : Int)) hSw (fun W hW => ?_) ?_
  · first | (go_simp; done) | (go_simp; exact hop)
  try simp only [nS]
  refine wpAnyL_only (rs := [9]) (by kernel_rfl) (by simp) (by rfl) ?_
  refine oR 9 (fun J hK => ?_)
  go_simp
  refine hK.out _ _ ?_
  clear hK J
  try simp only [nS]
  refine oR 10 (fun J hK => ?_)
  go_simp
  refine hK.out _ _ ?_
  clear hK J
  try simp only [nS]
  refine wpAny_done (by kernel_rfl) ?_ _
  go_wp2_with fail
  go_end0
  exact ⟨rfl, HH.out, ((Wr.set (S := fun b => b = s) w rfl _)).drew⟩

set_option maxHeartbeats 8000000 in
theorem take_any (s : Nat) (r : List Nat) (t x : Nat) (w : World) (h : w.heap[s]? = some (.cells (u64A r) 70 (0, 0))) (hx : r[t / 64]? = some x) (hx2 : x < 2 ^ 64) (hr : r.length ≤ 8192) :
    Calls Try.prog 18 #[.slice (some ⟨s, 0, none⟩) r.length r.length, .int .i64 (t : Int)] w fun e w' => e = .returned (.tuple #[]) ∧ w'.heap[s]? = some (.cells (u64A (r.set (t / 64) (clrW x (t % 64)))) 70 (0, 0)) ∧ Wr (fun b => b = s) w w' := by
  have ht := some_lt hx
  have c0 := u64A_at h hx
  have f0 := Lib.frozen_of_heap h (t / 64)
  obtain ⟨Y, hY⟩ : ∃ Y : Nat, Y = clrW x (t % 64) := ⟨_, rfl⟩
  have hop : bits .andNot .u64 (x : Int) ((2 ^ (t % 64) : Nat) : Int) = (Y : Int) := by rw [hY]; exact bits64_clr x _ hx2 (Nat.mod_lt _ (by decide))
  have HH := Lib.hid (u64A_set h (t / 64) Y)
  rw [← hY]
  obtain ⟨q, hq⟩ : ∃ q, q = t / 64 := ⟨_, rfl⟩
  obtain ⟨m, hm⟩ : ∃ m, m = t % 64 := ⟨_, rfl⟩
  have hm64 : m < 64 := by omega
  have e1 := quo64 t (by omega)
  have e2 := rem64 t
  have e3 := shl64 m hm64
  rw [← hq] at c0 f0 ht e1 HH ⊢
  rw [← hm] at e2 hop
  obtain ⟨P, hP⟩ : ∃ P : Nat, P = 2 ^ m := ⟨_, rfl⟩
  rw [← hP] at e3 hop
  have hsz : s < w.heap.size := (Array.getElem?_eq_some_iff.1 h).1
  obtain ⟨N, hN⟩ : ∃ N, N = r.length := ⟨_, rfl⟩
  rw [← hN] at ht hr ⊢
  clear hN hY hq hm hx h hP
  go_enter Try.func18, Try.ntmps18
  go_wp2_with fail
  refine wp_region_late (S := SameTo (s + 1) w) (fun j => decide (9 ≤ j)) (by kernel_rfl) (SameTo.drew _ _) (fun hSw => ?_)
  refine lH 0 (.slice (some ⟨s, 0, none⟩) N N) hSw ?_
  try simp only [nS]
  refine lH 1 (.int .i64 (t : Int)) hSw ?_
  try simp only [nS]
  refine lG 2 (.int .i64 (q : Int)) hSw (fun W hW => ?_) ?_
  · first | (go_simp; done) | (go_simp; exact e1)
  try simp only [nS]
  refine lH 3 (.pointer (some ⟨s, q, none⟩)) hSw ?_
  try simp only [nS]
  refine lG 4 (.int .u64 (x : Int)) hSw (fun W hW => ?_) ?_
  · have c0 := hW.cell (by dsimp only; omega) c0
    first | (go_simp; done) | rfl
  try simp only [nS]
  refine lH 5 (.int .i64 (t : Int)) hSw ?_
  try simp only [nS]
  refine lG 6 (.int .i64 (m : Int)) hSw (fun W hW => ?_) ?_
  · first | (go_simp; done) | (go_simp; exact e2)
  try simp only [nS]
  refine lG 7 (.int .u64 (P : Int)) hSw (fun W hW => ?_) ?_
  · first | (go_simp; done) | (go_simp; exact e3)
  try simp only [nS]
  refine lG 8 (.int .u64 (Y : Int)) hSw (fun W hW => ?_) ?_
  · first | (go_simp; done) | (go_simp; exact hop)
  try simp only [nS]
  refine wpAnyL_only (rs := [9]) (by kernel_rfl) (by simp) (by rfl) ?_
  refine oR 9 (fun J hK => ?_)
  go_simp
  refine hK.out _ _ ?_
  clear hK J
  try simp only [nS]
  refine oR 10 (fun J hK => ?_)
  go_simp
  refine hK.out _ _ ?_
  clear hK J
  try simp only [nS]
  refine wpAny_done (by kernel_rfl) ?_ _
  go_wp2_with fail
  go_end0
  exact ⟨rfl, HH.out, ((Wr.set (S := fun b => b = s) w rfl _)).drew⟩
end Go.Proofs.Ytgkjhnghibpeoaa
namespace Go.Proofs.Ytgkjhnghibpeoaa
open Go.RowKit
set_option maxRecDepth 1000000
attribute [local go_sem ↓] bld_eq bls_eq


def LastW (r : List Nat) (v : Int) : Prop := (v = -1 ∧ ∀ t, bitW r t = false) ∨ ∃ t : Nat, v = (t : Int) ∧ bitW r t = true ∧ ∀ u, t < u → bitW r u = false
theorem lastW_of {r : List Nat} {j x : Nat} (hj : r[j]? = some x) (h0 : 0 < x) (hx : x < 2 ^ 64) (hz : ∀ i, j + 1 ≤ i → ∀ y, r[i]? = some y → y = 0) : LastW r ((j : Int) * 64 + (Lib.bitLen x : Int) - 1) := by
  obtain ⟨b1, b2⟩ := log_bit h0
  have hl := bitLen_log x h0 hx
  have hl64 : x.log2 < 64 := by
    by_cases q : x.log2 < 64
    · exact q
    · have := Nat.log2_self_le (show x ≠ 0 by omega)
      have := Nat.pow_le_pow_right (show 0 < 2 by decide) (show 64 ≤ x.log2 by omega)
      omega
  refine .inr ⟨j * 64 + x.log2, by rw [hl]; omega, ?_, fun u hu => ?_⟩
  · unfold bitW
    rw [show (j * 64 + x.log2) / 64 = j by omega, show (j * 64 + x.log2) % 64 = x.log2 by omega, hj]
    exact b1
  · unfold bitW
    by_cases e : u / 64 = j
    · rw [e, hj]
      exact b2 _ (by omega)
    · cases h : r[u / 64]? with
      | none => simp
      | some y => rw [hz (u / 64) (by omega) y h]; simp
set_option maxHeartbeats 16000000 in
theorem flast_any (s : Nat) (r : List Nat) (w : World) (h : w.heap[s]? = some (.cells (u64A r) 70 (0, 0))) (hr : r.length ≤ 8192) (h64 : ∀ x ∈ r, x < 2 ^ 64) :
    Calls Try.prog 19 #[.slice (some ⟨s, 0, none⟩) r.length r.length] w fun e w' => (∃ v, e = .returned (.int .i64 v) ∧ LastW r v) ∧ w = w' := by
  obtain ⟨W, hW⟩ : ∃ W, W = r.length := ⟨_, rfl⟩
  rw [← hW] at hr ⊢
  have HH := Lib.hid h
  have H64 := Lib.hid h64
  have HW := Lib.hid hW
  have hsz : s < w.heap.size := (Array.getElem?_eq_some_iff.1 h).1
  clear h h64 hW
  go_enter Try.func19, Try.ntmps19
  go_wp2_with fail
  go_loopw [3] (fun q wr => ∃ k : Nat, k ≤ W ∧ ((k = 0 ∧ q = .int .i64 (-1)) ∨ ∃ j : Nat, k = j + 1 ∧ q = .int .i64 (j : Int)) ∧ Hid (∀ i, k ≤ i → ∀ x, r[i]? = some x → x = 0) ∧ wr = w) (fun q _ => (intOf q + 1).toNat)
  case atStart =>
    refine ⟨W, Nat.le_refl _, ?_, Lib.hid (fun i hi x hx => by have := some_lt hx; have := HW.out; omega), rfl⟩
    by_cases e : W = 0
    · exact .inl ⟨e, by congr 1; omega⟩
    · exact .inr ⟨W - 1, by omega, by congr 1; omega⟩
  case round =>
    obtain ⟨k, hk, hq, HZ, rfl⟩ := hrel
    rcases hq with ⟨rfl, rfl⟩ | ⟨j, rfl, rfl⟩
    · have HE := Lib.hid (show LastW r (-1) from .inl ⟨rfl, fun t => by
        unfold bitW
        cases h : r[t / 64]? with
        | none => simp
        | some y => rw [HZ.out _ (Nat.zero_le _) y h]; simp⟩)
      go_wp2_with fail
      go_ret
      exact ⟨⟨-1, rfl, HE.out⟩, rfl⟩
    · obtain ⟨x, hx⟩ : ∃ x, r[j]? = some x := ⟨_, List.getElem?_eq_getElem (by rw [← HW.out]; omega)⟩
      have c0 := u64A_at HH.out hx
      have hx64 := H64.out x (List.mem_of_getElem? hx)
      by_cases e : x = 0
      · have d0 : ((x : Int) != 0) = false := by simp [e]
        have hz2 : ∀ i, j ≤ i → ∀ y, r[i]? = some y → y = 0 := fun i hi y hy => by
          by_cases q : i = j
          · subst q; rw [hx] at hy; cases hy; exact e
          · exact HZ.out i (by omega) y hy
        have HZ2 := Lib.hid hz2
        have hw1 : wrap64 ((j : Int) - 1) = (j : Int) - 1 := IntWalk.wrap64_in _ (by omega)
        clear e hx hx64 hz2
        go_wp2_with fail
        go_roundw
        case rel =>
          refine ⟨j, by omega, ?_, HZ2, trivial⟩
          by_cases q : j = 0
          · exact .inl ⟨q, by subst q; rfl⟩
          · exact .inr ⟨j - 1, by omega, by congr 1; omega⟩
        case measure => simp [intOf] <;> omega
      · have d0 : ((x : Int) != 0) = true := by simp [e]
        have hE := lastW_of hx (by omega) hx64 HZ.out
        have HL := Lib.hid (len64_any (x : Int) wr (by omega) (by omega))
        rw [Int.toNat_natCast] at HL
        have hL : Lib.bitLen x ≤ 64 := Lib.bitLen_le x 64 (by decide) hx64
        have hL0 : 0 < Lib.bitLen x := by rw [bitLen_log x (by omega) hx64]; omega
        obtain ⟨L, hLL⟩ : ∃ L, L = Lib.bitLen x := ⟨_, rfl⟩
        rw [← hLL] at hE HL hL hL0
        have HE := Lib.hid hE
        clear e hx hx64 hE hLL
        go_wp2_with fail
        refine HL.out.mono ?_; rintro e w2 ⟨rfl, rfl⟩
        go_wp2_with fail
        go_ret
        refine ⟨⟨_, rfl, ?_⟩, rfl⟩
        exact HE.out
end Go.Proofs.Ytgkjhnghibpeoaa
