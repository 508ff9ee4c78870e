/- How much an expression has in it: as the statements' own functions count it, with an early end, and as the show layer's itemsOfArgs does. -/
import Derived.Test.YtflbplljlkpeiaaDoorRows
import Derived.Test.YtflbplljlkpeiaaDoorShowCall
import Derived.Test.YtflbplljlkpeiaaDoorShowMade
import Derived.LoopTactic
import Derived.LoopN
import Derived.WalkKit
import Derived.WalkSpells
import Derived.WalkLawsBesides
import Derived.Lib.Hide
namespace Go.Proofs.YtflbplljlkpeiaaDoor
open Go.RowKit

/-- What stands under some expressions. -/
def under : List X → Nat
  | [] => 0
  | a :: r => X.sizes a.args + under r
theorem under_nil : under [] = 0 := by rw [under]
theorem under_cons (a : X) (r : List X) : under (a :: r) = X.sizes a.args + under r := by rw [under]
theorem sizes_under (l : List X) : X.sizes l = l.length + under l := by
  induction l with
  | nil => rw [sizes_nil, under_nil]; rfl
  | cons a r ih =>
    obtain ⟨h, s, k⟩ := a
    rw [sizes_cons, under_cons, size_mk, ih, List.length_cons]
    show 1 + X.sizes k + (r.length + under r) = r.length + 1 + (X.sizes k + under r)
    omega

/-- What is left of a number behind so many. -/
def Left (left : Int) (n : Nat) (r : Int) : Prop := (n ≤ left → r = left - n) ∧ (left < n → r < 0)
def PX (x : X) : Prop := ∀ (left : Int) (w : World), 0 ≤ left → left ≤ 262144 → InW w w.heap.size x →
  Calls Tryd.prog 24 #[x.s, .int .i64 left] w fun e w' => (∃ r : Int, e = .returned (.int .i64 r) ∧ Left left (X.sizes x.args) r ∧ -9223372036854775808 ≤ r ∧ r ≤ 262144) ∧ w = w'

set_option maxHeartbeats 2000000 in
theorem exprs_mk (h : Hd) (s : Value) (xs : List X) (ih : ∀ a ∈ xs, PX a) : PX (.mk h s xs) := by
  intro left w hl0 hl1 hI
  obtain ⟨hok, hin⟩ := in_kids hI
  obtain ⟨ao, cap, rfl, hlen, hgo⟩ := lies_form hI
  obtain ⟨N, hN⟩ : ∃ N, N = xs.length := ⟨_, rfl⟩
  show Calls Tryd.prog 24 #[.slice ao xs.length cap, .int .i64 left] w fun e w' => (∃ r : Int, e = .returned (.int .i64 r) ∧ Left left (X.sizes xs) r ∧ -9223372036854775808 ≤ r ∧ r ≤ 262144) ∧ w = w'
  obtain ⟨S, hS⟩ : ∃ S, S = X.sizes xs := ⟨_, rfl⟩
  have hSN : S = N + under xs := by rw [hS, sizes_under, hN]
  rw [← hS, ← hN]
  rw [← hN] at hlen hgo
  have HI := Lib.hid hI
  have HIH := Lib.hid ih
  have HIN := Lib.hid hin
  have HG := Lib.hid hgo
  have HN := Lib.hid hN
  have HSN := Lib.hid hSN
  clear hI ih hin hgo hN hS hok hSN
  go_enter Tryd.func24, Tryd.ntmps24
  go_wp2_with fail
  go_loop [1, 5] (fun l i => ∃ p : Nat, p ≤ N ∧ i = .int .i64 p ∧ ∃ r : Int, l = .int .i64 r ∧ -9223372036854775808 ≤ r ∧ r ≤ 262144 ∧ ((0 ≤ r ∧ left - (S : Int) = r - (under (xs.drop p) : Int)) ∨ (r < 0 ∧ left < (S : Int)))) (fun _ i => N - (intOf i).toNat)
  case atStart =>
    refine ⟨0, by omega, rfl, left - N, by first | rfl | go_num, by omega, by omega, ?_⟩
    have := HSN.out
    rw [List.drop_zero]
    omega
  case round =>
    obtain ⟨p, hp, rfl, r, rfl, hr0, hr1, hr⟩ := hrel
    have HR := Lib.hid hr
    clear hr
    by_cases hlt : p < N ∧ 0 ≤ r
    · obtain ⟨hlt2, hrp⟩ := hlt
      have hpx : p < xs.length := by rw [← HN.out]; exact hlt2
      obtain ⟨g, off, rfl, hg⟩ := HG.out (by omega)
      obtain ⟨ao2, n2, c2, ea, p0, p1, p2, p3, p4, p5, p6⟩ := kidk HI.out rfl p hpx
      have hma := List.getElem_mem hpx
      have hdr := List.drop_eq_getElem_cons hpx
      have hPX := HIH.out _ hma r w hrp hr1 (HIN.out _ hma)
      have hun : under (xs.drop p) = X.sizes xs[p].args + under (xs.drop (p + 1)) := by rw [hdr, under_cons]
      rw [ea] at hPX
      generalize xs[p] = a at *
      have HPX := Lib.hid hPX
      have HU := Lib.hid hun
      clear p0 p1 p2 p3 p4 p5 hma hdr hPX hun ea
      go_wp2_with fail
      refine HPX.out.mono ?_; rintro e w2 ⟨⟨r2, rfl, hL, hr2, hr3⟩, rfl⟩
      have HL := Lib.hid hL
      clear hL p6
      go_wp2_with fail
      go_round
      case rel =>
        refine ⟨p + 1, by omega, by go_num, r2, rfl, hr2, hr3, ?_⟩
        have h1 := HR.out
        have h2 := HU.out
        obtain ⟨h3, h4⟩ := HL.out
        by_cases hle : ((X.sizes a.args : Nat) : Int) ≤ r
        · have := h3 hle
          left
          omega
        · have := h4 (by omega)
          right
          omega
      case measure => simp [intOf]; omega
    · have HF := Lib.hid (show Left left S r by
        have h1 := HR.out
        unfold Left
        by_cases hrp : 0 ≤ r
        · have hpN : ¬ p < N := fun h => hlt ⟨h, hrp⟩
          rw [List.drop_eq_nil_of_le (by rw [← HN.out]; omega), under_nil] at h1
          omega
        · omega)
      by_cases hpN : p < N
      · have hrp : ¬ 0 ≤ r := fun h => hlt ⟨hpN, h⟩
        clear hlt
        go_wp2_with fail
        go_ret
        exact ⟨⟨r, rfl, HF.out, hr0, hr1⟩, rfl⟩
      · clear hlt
        go_wp2_with fail
        go_ret
        exact ⟨⟨r, rfl, HF.out, hr0, hr1⟩, rfl⟩
theorem exprs_all : ∀ x, PX x := X.ind exprs_mk
end Go.Proofs.YtflbplljlkpeiaaDoor
