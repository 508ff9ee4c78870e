/- How many bytes the sign has that begins a text, by the document's own answer. -/
import Derived.Test.YtnjjcngggdankaaGreatDoorRows
import Derived.Test.YtnjjcngggdankaaGreatDoorLexRefRun
import Derived.WalkKit
import Derived.WalkSpells
import Derived.WalkLawsBesides
import Derived.Lib.Hide
namespace Go.Proofs.YtnjjcngggdankaaGreatDoor
open Go.RowKit

theorem ones_list : (⟨#[123, 125, 40, 41, 91, 93, 46, 44, 59, 61, 60, 62, 43, 45, 42, 47, 37, 33]⟩ : ByteArray).data.toList = onesL := rfl
theorem byte_eq (c d : UInt8) : (c == d) = ((c.toNat : Int) == (d.toNat : Int)) := byte_int c d
theorem drop_ones (k : Nat) (c : UInt8) (h : k < (⟨#[123, 125, 40, 41, 91, 93, 46, 44, 59, 61, 60, 62, 43, 45, 42, 47, 37, 33]⟩ : ByteArray).size) :
    (onesL.drop k).contains c = (((c.toNat : Int) == ((⟨#[123, 125, 40, 41, 91, 93, 46, 44, 59, 61, 60, 62, 43, 45, 42, 47, 37, 33]⟩ : ByteArray)[k].toNat : Int)) || (onesL.drop (k + 1)).contains c) := by
  have e := left_at ⟨#[123, 125, 40, 41, 91, 93, 46, 44, 59, 61, 60, 62, 43, 45, 42, 47, 37, 33]⟩ k h
  rw [ones_list] at e
  rw [e, List.contains_cons, byte_int]

/-- What the first loop asks. -/
def twoS (k : Nat) : List UInt8 := twosL.getD k []
theorem drop_twos (k : Nat) (X : List UInt8) (h : k < 6) : (twosL.drop k).contains X = ((X == twoS k) || (twosL.drop (k + 1)).contains X) := by
  have h6 : k < twosL.length := h
  rw [List.drop_eq_getElem_cons h6, List.contains_cons]
  congr 2
  unfold twoS
  rw [List.getD_eq_getElem?_getD, List.getElem?_eq_getElem h6]
  rfl
theorem below_drew {B : Nat} {a w : World} (h : Below B a w) (n : Nat) : Below B a (w.drewN n) := ⟨h.os, h.tape, h.output, h.size, h.block⟩

set_option maxRecDepth 100000 in
set_option maxHeartbeats 2000000 in
theorem rsign_short (s : ByteArray) (h0 : 0 < s.size) (h2 : ¬ 2 ≤ s.size) (w : World) :
    Calls Tryz.prog 116 #[.string s] w fun e w' => e = .returned (.int .i64 ((signLen s.data.toList : Nat) : Int)) ∧ Below w.heap.size w w' := by
  obtain ⟨n, hn⟩ : ∃ n, n = signLen s.data.toList := ⟨_, rfl⟩
  rw [← hn]
  have hl := sign_short s h0 (by omega)
  rw [← hn, ← ones_int] at hl
  have HN := Lib.hid (show n = if (onesL.drop 0).contains (s[0]'h0) then 1 else 0 from hl)
  have hB : ∀ (o : Obj), Below w.heap.size w (w.alloc o) := fun o => (Below.refl _ _).alloc (Nat.le_refl _) o
  have HBO := Lib.hid hB
  clear hn hl hB
  go_enter Tryz.func116, Tryz.ntmps116
  go_wp2_with fail
  go_loop [4] (fun i => i = .int .i64 0) (fun _ => 0)
  case atStart => rfl
  case round =>
    subst hrel
    go_wp2_with fail
    go_loopw [6] (fun i wr => ∃ k : Nat, k ≤ 18 ∧ i = .int .i64 k ∧ Hid (n = if (onesL.drop k).contains (s[0]'h0) then 1 else 0) ∧ Below w.heap.size w wr) (fun i _ => 18 - (intOf i).toNat)
    case atStart => exact ⟨0, by omega, rfl, HN, HBO.out _⟩
    case round =>
      obtain ⟨k, hk, rfl, HK, hbl⟩ := hrel
      by_cases hlt : k < 18
      · have hr := HK.out
        have hd := drop_ones k (s[0]'h0) hlt
        rw [hd] at hr
        cases hq : (((s[0]'h0).toNat : Int) == ((⟨#[123, 125, 40, 41, 91, 93, 46, 44, 59, 61, 60, 62, 43, 45, 42, 47, 37, 33]⟩ : ByteArray)[k]'hlt).toNat) with
        | true =>
          have HR := Lib.hid (show n = 1 by rw [hr, hq]; rfl)
          have i1 : (0 : Int) ≤ (k : Int) := by omega
          have i2 : (k : Int) < 18 := by omega
          clear hr hd HK
          go_wp2_with fail
          go_quiet (fail)
          go_wp2_with fail
          go_ret
          exact ⟨ret_int (by rw [HR.out]; rfl), below_drew hbl _⟩
        | false =>
          have HR := Lib.hid (show n = if (onesL.drop (k + 1)).contains (s[0]'h0) then 1 else 0 by rw [hr, hq]; rfl)
          have i1 : (0 : Int) ≤ (k : Int) := by omega
          have i2 : (k : Int) < 18 := by omega
          clear hr hd HK
          go_wp2_with fail
          go_quiet (fail)
          go_wp2_with fail
          go_roundw
          case rel => exact ⟨k + 1, by omega, by go_num, HR, below_drew hbl _⟩
          case measure => simp [intOf]; omega
      · obtain rfl : k = 18 := by omega
        have HR := Lib.hid (show n = 0 from HK.out)
        clear HK
        go_wp2_with fail
        go_ret
        exact ⟨ret_int (by rw [HR.out]; rfl), hbl⟩

set_option maxRecDepth 100000 in
set_option maxHeartbeats 2000000 in
theorem rsign_long (s : ByteArray) (h0 : 0 < s.size) (h2 : 2 ≤ s.size) (w : World) :
    Calls Tryz.prog 116 #[.string s] w fun e w' => e = .returned (.int .i64 ((signLen s.data.toList : Nat) : Int)) ∧ Below w.heap.size w w' := by
  obtain ⟨n, hn⟩ : ∃ n, n = signLen s.data.toList := ⟨_, rfl⟩
  rw [← hn]
  have hl := sign_long s h2
  rw [← hn, ← ones_int] at hl
  obtain ⟨q, hq⟩ : ∃ q, q = if onesL.contains (s[0]'h0) = true then 1 else 0 := ⟨_, rfl⟩
  rw [← hq] at hl
  have HQ := Lib.hid hq
  have HL := Lib.hid (show n = if (twosL.drop 0).contains (s.extract 0 2).toList = true then 2 else q from hl)
  have hB : ∀ (o : Obj), Below w.heap.size w (w.alloc o) := fun o => (Below.refl _ _).alloc (Nat.le_refl _) o
  have HBO := Lib.hid hB
  clear hn hl hB hq
  go_enter Tryz.func116, Tryz.ntmps116
  go_wp2_with fail
  obtain ⟨W, hW⟩ : ∃ W, W = w.alloc (.cells #[.string ⟨#[61, 61]⟩, .string ⟨#[33, 61]⟩, .string ⟨#[60, 61]⟩, .string ⟨#[62, 61]⟩, .string ⟨#[38, 38]⟩, .string ⟨#[124, 124]⟩] 9) := ⟨_, rfl⟩
  have hWB : Below w.heap.size w W := by rw [hW]; exact HBO.out _
  have e0 : W.cell? ⟨w.heap.size, 0, none⟩ = some (.string ⟨#[61, 61]⟩) := by rw [hW]; go_simp
  have e1 : W.cell? ⟨w.heap.size, 1, none⟩ = some (.string ⟨#[33, 61]⟩) := by rw [hW]; go_simp
  have e2 : W.cell? ⟨w.heap.size, 2, none⟩ = some (.string ⟨#[60, 61]⟩) := by rw [hW]; go_simp
  have e3 : W.cell? ⟨w.heap.size, 3, none⟩ = some (.string ⟨#[62, 61]⟩) := by rw [hW]; go_simp
  have e4 : W.cell? ⟨w.heap.size, 4, none⟩ = some (.string ⟨#[38, 38]⟩) := by rw [hW]; go_simp
  have e5 : W.cell? ⟨w.heap.size, 5, none⟩ = some (.string ⟨#[124, 124]⟩) := by rw [hW]; go_simp
  have HWB := Lib.hid hWB
  rw [← hW]
  clear hW hWB
  go_loopw [4] (fun i wr => ∃ k d : Nat, k ≤ 6 ∧ i = .int .i64 k ∧ Hid (n = if (twosL.drop k).contains (s.extract 0 2).toList = true then 2 else q) ∧ wr = W.drewN d) (fun i _ => 6 - (intOf i).toNat)
  case atStart => exact ⟨0, 0, by omega, rfl, HL, rfl⟩
  case round =>
    obtain ⟨k, d, hk, rfl, HK, rfl⟩ := hrel
    by_cases hlt : k < 6
    · have hr := HK.out
      rw [drop_twos k _ hlt] at hr
      have hbl := below_drew HWB.out d
      rcases (show k = 0 ∨ k = 1 ∨ k = 2 ∨ k = 3 ∨ k = 4 ∨ k = 5 by omega) with rfl | rfl | rfl | rfl | rfl | rfl
      · rw [show ((0 : Nat) : Int) = 0 from rfl]
        cases hx : ((s.extract 0 2).toList == [61, 61]) with
        | true =>
          have HR := Lib.hid (show n = 2 by rw [hr, show twoS 0 = [61, 61] from rfl, hx]; rfl)
          clear hr HK
          go_wp2_with fail
          go_quiet (fail)
          go_wp2_with fail
          go_ret
          exact ⟨ret_int (by rw [HR.out]; rfl), below_drew hbl _⟩
        | false =>
          have HR := Lib.hid (show n = if (twosL.drop 1).contains (s.extract 0 2).toList = true then 2 else q by rw [hr, show twoS 0 = [61, 61] from rfl, hx]; rfl)
          clear hr HK
          go_wp2_with fail
          go_quiet (fail)
          go_wp2_with fail
          go_roundw
          case rel => exact ⟨1, _, by omega, rfl, HR, rfl⟩
          case measure => simp [intOf]
      · rw [show ((1 : Nat) : Int) = 1 from rfl]
        cases hx : ((s.extract 0 2).toList == [33, 61]) with
        | true =>
          have HR := Lib.hid (show n = 2 by rw [hr, show twoS 1 = [33, 61] from rfl, hx]; rfl)
          clear hr HK
          go_wp2_with fail
          go_quiet (fail)
          go_wp2_with fail
          go_ret
          exact ⟨ret_int (by rw [HR.out]; rfl), below_drew hbl _⟩
        | false =>
          have HR := Lib.hid (show n = if (twosL.drop 2).contains (s.extract 0 2).toList = true then 2 else q by rw [hr, show twoS 1 = [33, 61] from rfl, hx]; rfl)
          clear hr HK
          go_wp2_with fail
          go_quiet (fail)
          go_wp2_with fail
          go_roundw
          case rel => exact ⟨2, _, by omega, rfl, HR, rfl⟩
          case measure => simp [intOf]
      · rw [show ((2 : Nat) : Int) = 2 from rfl]
        cases hx : ((s.extract 0 2).toList == [60, 61]) with
        | true =>
          have HR := Lib.hid (show n = 2 by rw [hr, show twoS 2 = [60, 61] from rfl, hx]; rfl)
          clear hr HK
          go_wp2_with fail
          go_quiet (fail)
          go_wp2_with fail
          go_ret
          exact ⟨ret_int (by rw [HR.out]; rfl), below_drew hbl _⟩
        | false =>
          have HR := Lib.hid (show n = if (twosL.drop 3).contains (s.extract 0 2).toList = true then 2 else q by rw [hr, show twoS 2 = [60, 61] from rfl, hx]; rfl)
          clear hr HK
          go_wp2_with fail
          go_quiet (fail)
          go_wp2_with fail
          go_roundw
          case rel => exact ⟨3, _, by omega, rfl, HR, rfl⟩
          case measure => simp [intOf]
      · rw [show ((3 : Nat) : Int) = 3 from rfl]
        cases hx : ((s.extract 0 2).toList == [62, 61]) with
        | true =>
          have HR := Lib.hid (show n = 2 by rw [hr, show twoS 3 = [62, 61] from rfl, hx]; rfl)
          clear hr HK
          go_wp2_with fail
          go_quiet (fail)
          go_wp2_with fail
          go_ret
          exact ⟨ret_int (by rw [HR.out]; rfl), below_drew hbl _⟩
        | false =>
          have HR := Lib.hid (show n = if (twosL.drop 4).contains (s.extract 0 2).toList = true then 2 else q by rw [hr, show twoS 3 = [62, 61] from rfl, hx]; rfl)
          clear hr HK
          go_wp2_with fail
          go_quiet (fail)
          go_wp2_with fail
          go_roundw
          case rel => exact ⟨4, _, by omega, rfl, HR, rfl⟩
          case measure => simp [intOf]
      · rw [show ((4 : Nat) : Int) = 4 from rfl]
        cases hx : ((s.extract 0 2).toList == [38, 38]) with
        | true =>
          have HR := Lib.hid (show n = 2 by rw [hr, show twoS 4 = [38, 38] from rfl, hx]; rfl)
          clear hr HK
          go_wp2_with fail
          go_quiet (fail)
          go_wp2_with fail
          go_ret
          exact ⟨ret_int (by rw [HR.out]; rfl), below_drew hbl _⟩
        | false =>
          have HR := Lib.hid (show n = if (twosL.drop 5).contains (s.extract 0 2).toList = true then 2 else q by rw [hr, show twoS 4 = [38, 38] from rfl, hx]; rfl)
          clear hr HK
          go_wp2_with fail
          go_quiet (fail)
          go_wp2_with fail
          go_roundw
          case rel => exact ⟨5, _, by omega, rfl, HR, rfl⟩
          case measure => simp [intOf]
      · rw [show ((5 : Nat) : Int) = 5 from rfl]
        cases hx : ((s.extract 0 2).toList == [124, 124]) with
        | true =>
          have HR := Lib.hid (show n = 2 by rw [hr, show twoS 5 = [124, 124] from rfl, hx]; rfl)
          clear hr HK
          go_wp2_with fail
          go_quiet (fail)
          go_wp2_with fail
          go_ret
          exact ⟨ret_int (by rw [HR.out]; rfl), below_drew hbl _⟩
        | false =>
          have HR := Lib.hid (show n = if (twosL.drop 6).contains (s.extract 0 2).toList = true then 2 else q by rw [hr, show twoS 5 = [124, 124] from rfl, hx]; rfl)
          clear hr HK
          go_wp2_with fail
          go_quiet (fail)
          go_wp2_with fail
          go_roundw
          case rel => exact ⟨6, _, by omega, rfl, HR, rfl⟩
          case measure => simp [intOf]
    · obtain rfl : k = 6 := by omega
      have HN := Lib.hid (show n = if (onesL.drop 0).contains (s[0]'h0) then 1 else 0 by rw [show n = q from HK.out, HQ.out]; rfl)
      have hbl0 := below_drew HWB.out d
      rw [show ((6 : Nat) : Int) = 6 from rfl]
      clear HK e0 e1 e2 e3 e4 e5
      go_wp2_with fail
      go_loopw [6] (fun i wr => ∃ k : Nat, k ≤ 18 ∧ i = .int .i64 k ∧ Hid (n = if (onesL.drop k).contains (s[0]'h0) then 1 else 0) ∧ Below w.heap.size w wr) (fun i _ => 18 - (intOf i).toNat)
      case atStart => exact ⟨0, by omega, rfl, HN, hbl0⟩
      case round =>
        obtain ⟨k, hk, rfl, HK, hbl⟩ := hrel
        by_cases hlt : k < 18
        · have hr := HK.out
          have hd := drop_ones k (s[0]'h0) hlt
          rw [hd] at hr
          cases hq : (((s[0]'h0).toNat : Int) == ((⟨#[123, 125, 40, 41, 91, 93, 46, 44, 59, 61, 60, 62, 43, 45, 42, 47, 37, 33]⟩ : ByteArray)[k]'hlt).toNat) with
          | true =>
            have HR := Lib.hid (show n = 1 by rw [hr, hq]; rfl)
            have i1 : (0 : Int) ≤ (k : Int) := by omega
            have i2 : (k : Int) < 18 := by omega
            clear hr hd HK
            go_wp2_with fail
            go_quiet (fail)
            go_wp2_with fail
            go_ret
            exact ⟨ret_int (by rw [HR.out]; rfl), below_drew hbl _⟩
          | false =>
            have HR := Lib.hid (show n = if (onesL.drop (k + 1)).contains (s[0]'h0) then 1 else 0 by rw [hr, hq]; rfl)
            have i1 : (0 : Int) ≤ (k : Int) := by omega
            have i2 : (k : Int) < 18 := by omega
            clear hr hd HK
            go_wp2_with fail
            go_quiet (fail)
            go_wp2_with fail
            go_roundw
            case rel => exact ⟨k + 1, by omega, by go_num, HR, below_drew hbl _⟩
            case measure => simp [intOf]; omega
        · obtain rfl : k = 18 := by omega
          have HR := Lib.hid (show n = 0 from HK.out)
          clear HK
          go_wp2_with fail
          go_ret
          exact ⟨ret_int (by rw [HR.out]; rfl), hbl⟩

theorem rsign_any (s : ByteArray) (h0 : 0 < s.size) (w : World) :
    Calls Tryz.prog 116 #[.string s] w fun e w' => e = .returned (.int .i64 ((signLen s.data.toList : Nat) : Int)) ∧ Below w.heap.size w w' := by
  by_cases h2 : 2 ≤ s.size
  · exact rsign_long s h0 h2 w
  · exact rsign_short s h0 h2 w
end Go.Proofs.YtnjjcngggdankaaGreatDoor
