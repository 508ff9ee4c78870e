/- How many expressions stand below others, as the show layer counts them. -/
import Derived.Test.YtflbplljlkpeiaaDoorRows
import Derived.Test.YtflbplljlkpeiaaDoorShowSize
import Derived.LoopTactic
import Derived.LoopN
import Derived.WalkKit
import Derived.WalkSpells
import Derived.WalkLawsBesides
import Derived.Lib.Hide
namespace Go.Proofs.YtflbplljlkpeiaaDoor
open Go.RowKit

def IX (x : X) : Prop := ∀ (w : World), InW w w.heap.size x → X.sizes x.args ≤ 262144 →
  Calls Tryd.prog 56 #[x.s] w fun e w' => e = .returned (.int .i64 (X.sizes x.args : Int)) ∧ Below w.heap.size w w'

set_option maxHeartbeats 2000000 in
theorem items_mk (h : Hd) (s : Value) (xs : List X) (ih : ∀ a ∈ xs, IX a) : IX (.mk h s xs) := by
  intro w hI hle
  obtain ⟨hok, hin⟩ := in_kids hI
  obtain ⟨ao, cap, rfl, hlen, hgo⟩ := lies_form hI
  obtain ⟨N, hN⟩ : ∃ N, N = xs.length := ⟨_, rfl⟩
  obtain ⟨S, hS⟩ : ∃ S, S = X.sizes xs := ⟨_, rfl⟩
  have hSN : S = N + under xs := by rw [hS, sizes_under, hN]
  have hle2 : S ≤ 262144 := by rw [hS]; exact hle
  show Calls Tryd.prog 56 #[.slice ao xs.length cap] w fun e w' => e = .returned (.int .i64 (X.sizes xs : Int)) ∧ Below w.heap.size w w'
  rw [← hS, ← hN]
  rw [← hN] at hlen hgo
  have HI := Lib.hid hI
  have HIH := Lib.hid ih
  have HIN := Lib.hid hin
  have HG := Lib.hid hgo
  have HN := Lib.hid hN
  have HSN := Lib.hid hSN
  have HB0 := Lib.hid (Below.refl w.heap.size w)
  clear hI ih hin hgo hN hS hok hSN hle
  go_enter Tryd.func56, Tryd.ntmps56
  go_wp2_with fail
  go_loopw [3, 10] (fun n i wr => ∃ p : Nat, p ≤ N ∧ i = .int .i64 p ∧ ∃ r : Int, n = .int .i64 r ∧ 0 ≤ r ∧ r ≤ 262144 ∧ r + (under (xs.drop p) : Int) = (S : Int) ∧ Below w.heap.size w wr) (fun _ i _ => N - (intOf i).toNat)
  case atStart =>
    have hsn := HSN.out
    refine ⟨0, by omega, rfl, N, rfl, by omega, by omega, ?_, HB0.out⟩
    rw [List.drop_zero]
    omega
  case round =>
    obtain ⟨p, hp, rfl, r, rfl, hr0, hr1, hr, hB⟩ := hrel
    have HR := Lib.hid hr
    have HB := Lib.hid hB
    have hsr := hB.size
    clear hr hB
    by_cases hlt : p < N
    · have hpx : p < xs.length := by rw [← HN.out]; exact hlt
      obtain ⟨g, off, rfl, hg⟩ := HG.out (by omega)
      have hIr := InW.keeps HB.out _ HI.out
      obtain ⟨ao2, n2, c2, ea, p0, p1, p2, p3, p4, p5, p6⟩ := kidk hIr rfl p hpx
      have hma := List.getElem_mem hpx
      have hdr := List.drop_eq_getElem_cons hpx
      have hun : under (xs.drop p) = X.sizes xs[p].args + under (xs.drop (p + 1)) := by rw [hdr, under_cons]
      have hb4 := HB.out.trans ((below_box wr (.cells #[.int .u8 xs[p].hd.k, .int .i64 xs[p].hd.n, .string xs[p].hd.name, .int .u8 xs[p].hd.tk, .string xs[p].hd.tn, .int .i64 xs[p].hd.tz, .slice ao2 n2 c2] 33)).mono hsr)
      have hPX := HIH.out _ hma (wr.alloc (.cells #[.int .u8 xs[p].hd.k, .int .i64 xs[p].hd.n, .string xs[p].hd.name, .int .u8 xs[p].hd.tk, .string xs[p].hd.tn, .int .i64 xs[p].hd.tz, .slice ao2 n2 c2] 33)) (InW.up hb4.size _ (InW.keeps hb4 _ (HIN.out _ hma))) (by have := HR.out; omega)
      rw [ea] at hPX
      generalize xs[p] = a at *
      have hgs : g < wr.heap.size := by omega
      have HPX := Lib.hid hPX
      have HU := Lib.hid hun
      have HB4 := Lib.hid hb4
      clear hma hdr hPX hun ea hb4 hIr
      have hrs : (X.sizes a.args : Int) ≤ 262144 := by
        have h1 := HR.out
        have h2 := HU.out
        omega
      go_wp2_with fail
      refine HPX.out.mono ?_; rintro e w2 ⟨rfl, hb5⟩
      have HB5 := Lib.hid (HB4.out.trans (hb5.mono HB4.out.size))
      have hrr : 0 ≤ r + (X.sizes a.args : Int) ∧ r + (X.sizes a.args : Int) ≤ 262144 ∧ r + (X.sizes a.args : Int) + (under (xs.drop (p + 1)) : Int) = (S : Int) := by
        have h1 := HR.out
        have h2 := HU.out
        omega
      have HRR := Lib.hid hrr
      clear hb5 p0 p1 p2 p3 p4 p5 p6 hrr
      generalize (X.sizes a.args : Int) = z at *
      have hz0 : -9223372036854775808 ≤ r + z := by have := HRR.out; omega
      have hz1 : r + z ≤ 9223372036854775807 := by have := HRR.out; omega
      go_wp2_with fail
      go_roundw
      case rel => exact ⟨p + 1, by omega, by go_num, r + z, by go_num, HRR.out.1, HRR.out.2.1, HRR.out.2.2, HB5.out⟩
      case measure => simp [intOf]; omega
    · have HF := Lib.hid (show r = (S : Int) by
        have h1 := HR.out
        rw [List.drop_eq_nil_of_le (by rw [← HN.out]; omega), under_nil] at h1
        omega)
      go_wp2_with fail
      go_ret
      exact ⟨by rw [HF.out]; rfl, HB.out⟩
theorem items_all : ∀ x, IX x := X.ind items_mk

theorem ilist_nil (w : World) : Calls Tryd.prog 30 #[.slice none 0 0] w fun e w' => e = .returned (.int .i64 0) ∧ w = w' := by
  go_enter Tryd.func30, Tryd.ntmps30
  go_wp2_with fail
  refine wp_loop_rounds 1 ?_
  rw [rounds_succ]
  go_wp2_with fail
  go_ret
  exact ⟨rfl, rfl⟩

theorem counted_neg (r : Int) (_h : r < 0) (w : World) : Calls Tryd.prog 23 #[.int .i64 r] w fun e w' => e = .returned (.int .i64 262145) ∧ w = w' := by
  go_enter Tryd.func23, Tryd.ntmps23
  go_wp2_with fail
  go_ret
  exact ⟨rfl, rfl⟩
theorem counted_pos (r : Int) (h0 : ¬ r < 0) (h1 : r ≤ 262144) (w : World) : Calls Tryd.prog 23 #[.int .i64 r] w fun e w' => e = .returned (.int .i64 (262144 - r)) ∧ w = w' := by
  go_enter Tryd.func23, Tryd.ntmps23
  go_wp2_with fail
  go_ret
  exact ⟨rfl, rfl⟩

set_option maxHeartbeats 1000000 in
theorem esize_any (x : X) (w : World) (hI : InW w w.heap.size x) : Calls Tryd.prog 9 #[x.val] w fun e w' => (∃ n : Int, e = .returned (.int .i64 n) ∧ 0 ≤ n ∧ n ≤ 262145 ∧ (n ≤ 262144 → X.sizes x.args ≤ 262144)) ∧ Below w.heap.size w w' := by
  obtain ⟨ao, n, c, hs⟩ := slice_of hI
  have hb := below_box w (.cells #[.int .u8 x.hd.k, .int .i64 x.hd.n, .string x.hd.name, .int .u8 x.hd.tk, .string x.hd.tn, .int .i64 x.hd.tz, .slice ao n c] 33)
  have hE := exprs_all x 262144 _ (by omega) (by omega) (InW.up hb.size _ (InW.keeps hb _ hI))
  rw [hs] at hE
  rw [val_of hs]
  have HE := Lib.hid hE
  have HB := Lib.hid hb
  clear hE hb hI hs
  go_enter Tryd.func9, Tryd.ntmps9
  go_wp2_with fail
  refine HE.out.mono ?_; rintro e w2 ⟨⟨r, rfl, hL, hr0, hr1⟩, rfl⟩
  have HL := Lib.hid hL
  clear hL
  by_cases hn : r < 0
  · go_wp2_with fail
    refine (counted_neg r (by omega) _).mono ?_; rintro e w3 ⟨rfl, rfl⟩
    go_wp2_with fail
    go_ret
    exact ⟨⟨262145, rfl, by omega, by omega, by omega⟩, HB.out⟩
  · go_wp2_with fail
    refine (counted_pos r (by omega) hr1 _).mono ?_; rintro e w3 ⟨rfl, rfl⟩
    go_wp2_with fail
    go_ret
    refine ⟨⟨262144 - r, rfl, by omega, by omega, fun _ => ?_⟩, HB.out⟩
    obtain ⟨h1, h2⟩ := HL.out
    by_cases hle : ((X.sizes x.args : Nat) : Int) ≤ 262144
    · omega
    · have := h2 (by omega)
      omega

set_option maxHeartbeats 1000000 in
theorem beyond_any (b : Nat) (n : Int) (T : TypeId) (fr : Nat × Nat) (w : World) (h0 : 0 ≤ n) (h1 : n ≤ 262145) (h : w.heap[b]? = some (.cells #[.int .i64 n] T fr)) :
    Calls Tryd.prog 8 #[.slice (some ⟨b, 0, none⟩) 1 1] w fun e w' => e = .returned (.bool (decide (262144 < n))) ∧ w = w' := by
  have hc : w.cell? ⟨b, 0, none⟩ = some (.int .i64 n) := by rw [Lib.cell_of_heap h]; rfl
  clear h
  by_cases hn : 262144 < n
  · have HD := Lib.hid (decide_eq_true hn)
    go_enter Tryd.func8, Tryd.ntmps8
    go_wp2_with fail
    refine wp_loop_rounds 2 ?_
    rw [rounds_succ]
    go_wp2_with fail
    go_ret
    exact ⟨by rw [HD.out]; rfl, rfl⟩
  · have HD := Lib.hid (decide_eq_false hn)
    go_enter Tryd.func8, Tryd.ntmps8
    go_wp2_with fail
    refine wp_loop_rounds 2 ?_
    rw [rounds_succ]
    go_wp2_with fail
    rw [rounds_succ]
    go_wp2_with fail
    go_ret
    exact ⟨by rw [HD.out]; rfl, rfl⟩
end Go.Proofs.YtflbplljlkpeiaaDoor
