/- The sets with which the search for what lies on every way begins, made. -/
import Derived.Test.YtgkjhnghibpeoaaRows
import Derived.Test.YtgkjhnghibpeoaaFlLast
import Derived.Test.YtgkjhnghibpeoaaFlOrd
import Derived.Test.YtgkjhnghibpeoaaFlEveryP
import Derived.Test.YtgkjhnghibpeoaaIrSizes
import Derived.Test.YtgkjhnghibpeoaaFlMem
import Derived.Test.YtgkjhnghibpeoaaParseOrder
import Derived.LoopTactic
import Derived.LoopN
import Derived.Deep.LoopGhost
import Derived.WalkKit
import Derived.WalkSpells
import Derived.WalkLawsBesides
import Derived.Lib.Hide
import Derived.OrdersHeld
import Derived.Deep.RegionHeld
import Derived.Deep.DrawnRows
import Derived.RegionTactic
import Derived.Deep.RegionHeld3
import Derived.IntWalk
import Derived.Deep.QuietTactic
import Derived.BigQuiet
namespace Go.Proofs.Ytgkjhnghibpeoaa
open Go.RowKit
set_option maxRecDepth 1000000
attribute [local go_sem ↓] bld_eq bls_eq


def setC (bs : List Nat) (W : Nat) : List Value := bs.map fun (b : Nat) => Value.slice (some ⟨b, 0, none⟩) W W
/-- Sets in memory: row gS, each set in a block of its own; m are wanted. -/
structure SetM (w : World) (lo gS m W : Nat) (bs : List Nat) (S : List (List Nat)) : Prop where
  row : w.heap[gS]? = some (.cells (setC bs W ++ List.replicate (m - bs.length) (Value.slice none 0 0)).toArray 55 (0, 0))
  len : bs.length = S.length
  at' : ∀ (j b : Nat) (r : List Nat), bs[j]? = some b → S[j]? = some r → w.heap[b]? = some (.cells (u64A r) 70 (0, 0))
  rlen : ∀ r ∈ S, r.length = W
  low : ∀ b ∈ bs, lo ≤ b
  nodup : bs.Nodup
  notin : gS ∉ bs
  lowS : lo ≤ gS
theorem SetM.lt {w : World} {lo gS m W : Nat} {bs : List Nat} {S : List (List Nat)} (h : SetM w lo gS m W bs S) {b : Nat} (hb : b ∈ bs) : b < w.heap.size := by
  obtain ⟨j, hj⟩ := List.mem_iff_getElem?.1 hb
  obtain ⟨r, hr⟩ : ∃ r, S[j]? = some r := ⟨_, List.getElem?_eq_getElem (by rw [← h.len]; exact some_lt hj)⟩
  exact (Array.getElem?_eq_some_iff.1 (h.at' j b r hj hr)).1
theorem SetM.keeps {w w' : World} {lo gS m W : Nat} {bs : List Nat} {S : List (List Nat)} (h : SetM w lo gS m W bs S) (hb : Below w.heap.size w w') : SetM w' lo gS m W bs S :=
  ⟨(hb.block _ (Array.getElem?_eq_some_iff.1 h.row).1).trans h.row, h.len, fun j b r h1 h2 => (hb.block _ (h.lt (List.mem_of_getElem? h1))).trans (h.at' j b r h1 h2), h.rlen, h.low, h.nodup, h.notin, h.lowS⟩
theorem setC_at {w : World} {gS : Nat} {bs : List Nat} {W : Nat} {rest : List Value} {T : TypeId} {fr : Nat × Nat} {j b : Nat} (h : w.heap[gS]? = some (.cells (setC bs W ++ rest).toArray T fr)) (hj : bs[j]? = some b) : w.cell? ⟨gS, j, none⟩ = some (.slice (some ⟨b, 0, none⟩) W W) := by
  rw [Lib.cell_of_heap h]
  have hl := some_lt hj
  simp only [List.getElem?_toArray]
  rw [List.getElem?_append_left (by simpa [setC] using hl)]
  simp [setC, hj]
theorem rep_set (n k x y : Nat) (h : k < n) : (List.replicate k x ++ List.replicate (n - k) y).set k x = List.replicate (k + 1) x ++ List.replicate (n - (k + 1)) y := by
  rw [List.set_append_right _ _ (by simp)]
  obtain ⟨d, rfl⟩ : ∃ d, n = k + (d + 1) := ⟨n - k - 1, by omega⟩
  rw [show k + (d + 1) - k = d + 1 by omega, show k + (d + 1) - (k + 1) = d by omega]
  rw [List.length_replicate, Nat.sub_self, List.replicate_succ (n := d), List.set_cons_zero, List.replicate_succ', List.append_assoc]
  rfl
/-- A set more. -/
theorem SetM.more {w w2 w3 : World} {lo gS m W : Nat} {bs : List Nat} {S : List (List Nat)} (h : SetM w lo gS m W bs S) (hk : bs.length < m) (hlo : lo ≤ w.heap.size) {A : Array Value} (r : List Nat) (hr : r.length = W)
    (h2 : w2 = (w.setCell ⟨gS, bs.length, none⟩ (.slice (some ⟨w.heap.size, 0, none⟩) W W)).alloc (.cells A 70)) (h3 : Wr (fun b => b = w.heap.size) w2 w3) (h4 : w3.heap[w.heap.size]? = some (.cells (u64A r) 70 (0, 0))) :
    SetM w3 lo gS m W (bs ++ [w.heap.size]) (S ++ [r]) := by
  have hgs : gS < w.heap.size := (Array.getElem?_eq_some_iff.1 h.row).1
  have hz2 : w2.heap.size = w.heap.size + 1 := by rw [h2]; simp
  have hold : ∀ b, b < w.heap.size → b ≠ gS → w3.heap[b]? = w.heap[b]? := fun b hb hne => by
    rw [h3.block b (by omega) (by omega), h2, Below.heap_alloc _ _ _ (by rw [size_set]; exact hb), Below.heap_setCell _ _ _ _ hne]
  refine ⟨?_, by simp [h.len], fun j b r' hj hr' => ?_, fun x hx => ?_, fun b hb => ?_, ?_, fun hh => ?_, h.lowS⟩
  · rw [h3.block gS (by omega) (by omega), h2, Below.heap_alloc _ _ _ (by rw [size_set]; exact hgs), heap_setCell_same _ _ _ _ _ _ h.row]
    congr 2
    rw [List.setIfInBounds_toArray]
    congr 1
    obtain ⟨d, hd⟩ : ∃ d, m - bs.length = d + 1 := ⟨m - bs.length - 1, by omega⟩
    rw [hd, List.set_append_right _ _ (by simp [setC]), show m - (bs ++ [w.heap.size]).length = d by simp; omega]
    simp [setC, List.replicate_succ]
  · by_cases e : j < bs.length
    · rw [List.getElem?_append_left e] at hj
      rw [List.getElem?_append_left (by rw [← h.len]; exact e)] at hr'
      have hb := List.mem_of_getElem? hj
      rw [hold b (h.lt hb) (fun q => h.notin (q ▸ hb))]
      exact h.at' j b r' hj hr'
    · have hj2 := some_lt hj
      simp at hj2
      have : j = bs.length := by omega
      subst this
      rw [List.getElem?_append_right (Nat.le_refl _), Nat.sub_self] at hj
      rw [h.len, List.getElem?_append_right (Nat.le_refl _), Nat.sub_self] at hr'
      simp at hj hr'
      subst hj hr'
      exact h4
  · rcases List.mem_append.1 hx with hx | hx
    · exact h.rlen x hx
    · simp at hx; subst hx; exact hr
  · rcases List.mem_append.1 hb with hb | hb
    · exact h.low b hb
    · simp at hb; subst hb; exact hlo
  · refine List.nodup_append.2 ⟨h.nodup, by simp, fun a ha b hb e => ?_⟩
    simp at hb
    have := h.lt ha
    omega
  · rcases List.mem_append.1 hh with q | q
    · exact h.notin q
    · simp at q; omega
theorem make_set (n : Nat) (hn : n ≤ 8192) (w : World) : (Instr.makeSlice 52 (.int .i64 (n : Int)) (.int .i64 (n : Int))).run Try.prog w = .ok (.slice (some ⟨w.heap.size, 0, none⟩) n n) (w.alloc (.cells (List.replicate n (.slice none 0 0)).toArray 55)) :=
  make_list 52 55 (.slice none 0 0) 24 (by kernel_rfl) rfl (by kernel_rfl) n hn (by decide) w
theorem make_u64 (n : Nat) (hn : n ≤ 8192) (w : World) : (Instr.makeSlice 55 (.int .i64 (n : Int)) (.int .i64 (n : Int))).run Try.prog w = .ok (.slice (some ⟨w.heap.size, 0, none⟩) n n) (w.alloc (.cells (u64A (List.replicate n 0)) 70)) := by
  rw [make_list 55 70 (.int .u64 0) 8 (by kernel_rfl) rfl (by kernel_rfl) n hn (by decide)]
  unfold u64A
  rw [List.map_replicate]
  rfl
/-- What startingSets answers. -/
def StE (m : Nat) (w : World) (e : Ending) (w' : World) : Prop := ∃ gS bs, e = .returned (.slice (some ⟨gS, 0, none⟩) m m) ∧ SetM w' w.heap.size gS m ((m + 63) / 64) bs (startS m ((m + 63) / 64)) ∧ Below w.heap.size w w'
def StE' (m W : Nat) (w : World) (e : Ending) (w' : World) : Prop := ∃ gS bs, e = .returned (.slice (some ⟨gS, 0, none⟩) m m) ∧ SetM w' w.heap.size gS m W bs (startS m W) ∧ Below w.heap.size w w'
/-- One set is written over. -/
theorem SetM.setRow {w w' : World} {lo gS m W : Nat} {bs : List Nat} {S S' : List (List Nat)} (h : SetM w lo gS m W bs S) {j b : Nat} (hj : bs[j]? = some b) (hw : Wr (fun x => x = b) w w') {r : List Nat} (hr : w'.heap[b]? = some (.cells (u64A r) 70 (0, 0))) (hl : r.length = W) (hS : S' = S.set j r) : SetM w' lo gS m W bs S' := by
  have hb := List.mem_of_getElem? hj
  have hg : gS < w.heap.size := (Array.getElem?_eq_some_iff.1 h.row).1
  refine ⟨(hw.block gS hg (fun q => h.notin (q ▸ hb))).trans h.row, by rw [hS, List.length_set]; exact h.len, fun i c q hi hq => ?_, fun x hx => ?_, h.low, h.nodup, h.notin, h.lowS⟩
  · by_cases e : i = j
    · subst e
      rw [hj] at hi; cases hi
      rw [hS, List.getElem?_set, if_pos rfl] at hq
      split at hq
      · cases hq; exact hr
      · cases hq
    · rw [hS, List.getElem?_set, if_neg (fun q => e q.symm)] at hq
      have hne : c ≠ b := fun q => by subst q; exact e (nodup_at h.nodup hi hj)
      exact (hw.block c (h.lt (List.mem_of_getElem? hi)) hne).trans (h.at' i c q hi hq)
  · rw [hS] at hx
    rcases List.mem_or_eq_of_mem_set hx with hx | rfl
    · exact h.rlen x hx
    · exact hl
def repS (k W : Nat) : List (List Nat) := if k = 0 then [] else List.replicate W 0 :: List.replicate (k - 1) (List.replicate W onesW)
theorem repS_len (k W : Nat) : (repS k W).length = k := by
  unfold repS
  split
  · rename_i h; simp [h]
  · simp; omega
theorem repS_succ (k W : Nat) : repS (k + 1) W = repS k W ++ [List.replicate W (if k = 0 then 0 else onesW)] := by
  unfold repS
  by_cases h : k = 0
  · subst h; simp
  · obtain ⟨d, rfl⟩ : ∃ d, k = d + 1 := ⟨k - 1, by omega⟩
    simp [List.replicate_succ']
set_option maxHeartbeats 32000000 in
theorem starting_any (m : Nat) (w : World) (h0 : 0 < m) (hm : m ≤ 4096) :
    Calls Try.prog 26 #[.int .i64 (m : Int)] w (StE m w) := by
  obtain ⟨W, hW⟩ : ∃ W, W = (m + 63) / 64 := ⟨_, rfl⟩
  have hW0 : 0 < W := by omega
  have hW2 : W ≤ 8192 := by omega
  have m1 := make_set m (by omega)
  have m2 := make_u64 W hW2
  obtain ⟨W1, hW1⟩ : ∃ W1, W1 = w.alloc (.cells (List.replicate m (.slice none 0 0)).toArray 55) := ⟨_, rfl⟩
  have hb1 : Below w.heap.size w W1 := by rw [hW1]; exact below_box w _
  have hz1 : W1.heap.size = w.heap.size + 1 := by rw [hW1]; simp
  have hS1 : SetM W1 w.heap.size w.heap.size m W [] (repS 0 W) := ⟨by rw [hW1]; exact (MapKept.heap_alloc _ _).1, rfl, fun j b r h => by simp at h, fun r h => by simp [repS] at h, fun b h => by simp at h, List.nodup_nil, by simp, Nat.le_refl _⟩
  have e1 : ((m : Int) + 63) / 64 = (W : Int) := by omega
  have e2 : wrap64 ((m : Int) + 63) = (m : Int) + 63 := IntWalk.wrap64_in _ (by omega)
  show Calls _ _ _ _ (StE' m ((m + 63) / 64) w)
  rw [← hW]
  obtain ⟨M1, hM1⟩ : ∃ M, M = (List.replicate m (Value.slice none 0 0)).toArray := ⟨_, rfl⟩
  rw [← hM1] at m1 hW1
  obtain ⟨M2, hM2⟩ : ∃ M, M = u64A (List.replicate W 0) := ⟨_, rfl⟩
  rw [← hM2] at m2
  have HM2 := Lib.hid hM2
  have HW1 := Lib.hid hW1
  have HB1 := Lib.hid hb1
  have HS1 := Lib.hid hS1
  have HZ1 := Lib.hid hz1
  have HWW := Lib.hid hW
  clear hW hW1 hb1 hz1 hS1 hM1 hM2
  go_enter Try.func26, Try.ntmps26
  go_wp2_with fail
  rw [← HW1.out]
  go_loopw [10] (fun q wr => ∃ k : Nat, k ≤ m ∧ q = .int .i64 (k : Int) ∧ Hid (∃ bs, bs.length = k ∧ SetM wr w.heap.size w.heap.size m W bs (repS k W) ∧ Below w.heap.size w wr)) (fun q _ => m - (intOf q).toNat)
  case atStart => exact ⟨0, Nat.zero_le _, rfl, Lib.hid ⟨[], rfl, HS1.out, HB1.out⟩⟩
  case round =>
    rename World => V
    obtain ⟨k, hk, rfl, HR⟩ := hrel
    obtain ⟨bs, hbs, hS, hbw⟩ := HR.out
    have hsw := hbw.size
    have hgs : w.heap.size < V.heap.size := (Array.getElem?_eq_some_iff.1 hS.row).1
    by_cases hlk : k < m
    · have f1 := Lib.frozen_of_heap hS.row k
      have c1 : V.cell? ⟨w.heap.size, k, none⟩ = some (.slice none 0 0) := by
        rw [Lib.cell_of_heap hS.row]
        simp only [List.getElem?_toArray]
        rw [List.getElem?_append_right (by simp [setC, hbs]), List.getElem?_replicate, if_pos (by simp [setC, hbs]; omega)]
      obtain ⟨W2, hW2e⟩ : ∃ W2, W2 = (V.setCell ⟨w.heap.size, k, none⟩ (.slice (some ⟨V.heap.size, 0, none⟩) W W)).alloc (.cells M2 70) := ⟨_, rfl⟩
      have hz2 : W2.heap.size = V.heap.size + 1 := by rw [hW2e]; simp
      have hrow2 : W2.heap[V.heap.size]? = some (.cells (u64A (List.replicate W 0)) 70 (0, 0)) := by
        have h := (MapKept.heap_alloc (V.setCell ⟨w.heap.size, k, none⟩ (.slice (some ⟨V.heap.size, 0, none⟩) W W)) (.cells M2 70)).1
        rw [size_set, ← hW2e, HM2.out] at h
        exact h
      have c2 : W2.cell? ⟨w.heap.size, k, none⟩ = some (.slice (some ⟨V.heap.size, 0, none⟩) W W) := by
        have h := (Below.heap_alloc _ (.cells M2 70) _ (by rw [size_set]; exact hgs)).trans (heap_setCell_same V w.heap.size k _ _ (.slice (some ⟨V.heap.size, 0, none⟩) W W) hS.row)
        rw [← hW2e] at h
        rw [Lib.cell_of_heap h]
        rw [Array.getElem?_setIfInBounds_self_of_lt (by simp [setC, hbs]; omega)]
      have HC2 := Lib.hid c2
      have HR2 := Lib.hid hrow2
      have HS := Lib.hid hS
      have HBS := Lib.hid hbs
      have HBW := Lib.hid hbw
      have HW2 := Lib.hid hW2e
      have HZ2 := Lib.hid hz2
      clear hS hbs hbw c2 hrow2 hz2 HR hW2e
      go_wp2_with fail
      rw [← HW2.out]
      have hor : k = 0 ∨ 0 < k := by omega
      obtain ⟨X, hX⟩ : ∃ X, X = (if k = 0 then 0 else onesW) := ⟨_, rfl⟩
      have HX := Lib.hid hX
      clear hX
      clear c1 f1
      go_loopw [25] (fun q wr => ∃ i : Nat, i ≤ W ∧ q = .int .i64 (i : Int) ∧ Hid (wr.heap[V.heap.size]? = some (.cells (u64A (List.replicate i X ++ List.replicate (W - i) 0)) 70 (0, 0)) ∧ Wr (fun b => b = V.heap.size) W2 wr)) (fun q _ => W - (intOf q).toNat)
      case atStart => exact ⟨0, Nat.zero_le _, rfl, Lib.hid ⟨by simpa using HR2.out, Wr.refl _ _⟩⟩
      case round =>
        obtain ⟨i, hi, rfl, HJ⟩ := hrel
        obtain ⟨hrow, hwi⟩ := HJ.out
        have hzi := hwi.size
        have hz2 := HZ2.out
        by_cases hli : i < W
        · rcases hor with h0k | h0k
          · have dk : decide ((0 : Int) < (k : Int)) = false := by simp; omega
            have nk : ¬ (0 : Int) < (k : Int) := by omega
            have HQ := Lib.hid (And.intro (show wr.heap[V.heap.size]? = some (.cells (u64A (List.replicate (i + 1) X ++ List.replicate (W - (i + 1)) 0)) 70 (0, 0)) by
              have hx0 : X = 0 := by rw [HX.out, if_pos h0k]
              rw [hrow, hx0]
              congr 3
              rw [List.replicate_append_replicate, List.replicate_append_replicate]
              congr 1
              omega) hwi)
            clear hrow hwi HJ h0k
            go_wp2_with fail
            go_roundw
            case rel => exact ⟨i + 1, by omega, by go_num, Lib.hid ⟨HQ.out.1, HQ.out.2⟩⟩
            case measure => simp [intOf]; omega
          · have dk : decide ((0 : Int) < (k : Int)) = true := by simp; omega
            have hx1 : X = onesW := by rw [HX.out, if_neg (by omega)]
            have c2 : wr.cell? ⟨w.heap.size, k, none⟩ = some (.slice (some ⟨V.heap.size, 0, none⟩) W W) := (World.cell?_of_block (hwi.block w.heap.size (by omega) (by omega))).trans HC2.out
            obtain ⟨z, hz⟩ : ∃ z, (List.replicate i X ++ List.replicate (W - i) 0)[i]? = some z := ⟨_, List.getElem?_eq_getElem (by simp; omega)⟩
            have c3 := u64A_at hrow hz
            have f3 := Lib.frozen_of_heap hrow i
            have h1 := u64A_set hrow i onesW
            rw [← hx1, rep_set W i X 0 hli] at h1
            have HQ := Lib.hid (And.intro h1 (hwi.trans (Wr.set (S := fun b => b = V.heap.size) (i := i) wr rfl (.int .u64 (X : Int)))))
            have hxi : (X : Int) = 18446744073709551615 := by rw [hx1]; rfl
            rw [hxi] at HQ
            clear hrow hwi HJ h1 hz hx1
            go_wp2_with fail
            go_roundw
            case rel => exact ⟨i + 1, by omega, by go_num, Lib.hid ⟨HQ.out.1, HQ.out.2⟩⟩
            case measure => simp [intOf]; omega
        · have hie : i = W := by omega
          subst hie
          rw [Nat.sub_self, List.replicate_zero, List.append_nil] at hrow
          have hm1 := HS.out.more (by rw [HBS.out]; exact hlk) (Nat.le_of_lt (by omega)) (List.replicate i X) (by simp) (by rw [HBS.out]; exact HW2.out) hwi hrow
          have HQ := Lib.hid (show ∃ bs, bs.length = k + 1 ∧ SetM wr w.heap.size w.heap.size m i bs (repS (k + 1) i) ∧ Below w.heap.size w wr from
            ⟨bs ++ [V.heap.size], by simp [HBS.out], by rw [repS_succ, ← HX.out]; exact hm1, by
              have hb2 : Below w.heap.size V W2 := by
                rw [HW2.out]
                exact ((Below.refl _ V).setCell (by show w.heap.size ≤ w.heap.size; omega) _).alloc (by rw [size_set]; omega) _
              exact (HBW.out.trans hb2).trans (hwi.below (fun x hx => by omega) (by omega))⟩)
          clear hrow hwi HJ hm1
          go_wp2_with fail
          go_roundw
          case rel => exact ⟨k + 1, by omega, by go_num, HQ⟩
          case measure => simp [intOf]; omega
    · have hkm : k = m := by omega
      subst hkm
      obtain ⟨b0, hb0⟩ : ∃ b, bs[0]? = some b := ⟨_, List.getElem?_eq_getElem (by omega)⟩
      have c0 := setC_at hS.row hb0
      have hr0 : (repS k W)[0]? = some (List.replicate W 0) := by unfold repS; rw [if_neg (by omega)]; rfl
      have hrow := hS.at' 0 b0 _ hb0 hr0
      have HPUT := Lib.hid (put_any b0 (List.replicate W 0) 0 0 V hrow (by rw [List.getElem?_replicate, if_pos (by omega)]) (by decide) (by simpa using hW2))
      rw [List.length_replicate] at HPUT
      have HS := Lib.hid hS
      have HBW := Lib.hid hbw
      have HB0 := Lib.hid hb0
      clear hS hbw hb0 hr0 hrow HR
      go_wp2_with fail
      refine HPUT.out.mono ?_; rintro e w5 ⟨rfl, hr5, hw5⟩
      have HE := Lib.hid (show StE' k W w (.returned (.slice (some ⟨w.heap.size, 0, none⟩) k k)) w5 from
        ⟨w.heap.size, bs, rfl, HS.out.setRow HB0.out hw5 hr5 (by simp) (by unfold repS startS; rw [if_neg (by omega)]; rfl), HBW.out.trans (hw5.below (fun x hx => by have := HS.out.low _ (List.mem_of_getElem? HB0.out); omega) (by omega))⟩)
      clear hr5 hw5
      go_wp2_with fail
      go_ret
      exact HE.out
end Go.Proofs.Ytgkjhnghibpeoaa
