/- Whether an expression's text begins with a digit: what the show layer's function answers. -/
import Derived.Test.YtflbplljlkpeiaaDoorRows
import Derived.Test.YtflbplljlkpeiaaDoorShowPair
import Derived.LoopTactic
import Derived.Deep.LoopGhost
import Derived.WalkKit
import Derived.WalkSpells
import Derived.WalkLawsBesides
import Derived.Lib.Hide
namespace Go.Proofs.YtflbplljlkpeiaaDoor
open Go.RowKit

/-- An expression that may be has as many parts as its kind wants. -/
theorem form_args {h : Hd} {n : Nat} (hf : form h n = 0) {x : Wx} (hx : wants h.k = some x) : x.args = -1 ∨ (n : Int) = x.args := by
  unfold form at hf
  rw [hx] at hf
  simp only at hf
  split at hf
  · cases hf
  · rename_i e
    exact Decidable.not_not.1 e
theorem args_at {h : Hd} {n : Nat} (hf : form h n = 0) {k : Int} (hk : h.k = k) {x : Wx} (hx : wants k = some x) (m : Nat) (hm : x.args = (m : Int)) : n = m := by
  rcases form_args hf (by rw [hk]; exact hx) with e | e
  · omega
  · omega

theorem lies_first {w : World} {B : Nat} {s : Value} {a : X} {r : List X} (h : Lies w B s (a :: r)) : ∃ g off cap, s = .slice (some ⟨g, off, none⟩) (r.length + 1) cap ∧ g < B ∧ r.length + 1 ≤ 9223372036854775807 ∧
    (∀ j u, a.cells[j]? = some u → w.cell? ⟨g, off + j, none⟩ = some u) := by
  obtain ⟨ao, cap, hs, hl, h⟩ := h
  rcases h with h | ⟨g, off, h1, h2, h3⟩
  · cases h
  · refine ⟨g, off, cap, by rw [hs, h1]; rfl, h2, hl, fun j u hu => ?_⟩
    have := h3 0 a rfl j u hu
    simpa using this

theorem set7 {w : World} {b : Nat} {T : TypeId} {fr : Nat × Nat} {a0 a1 a2 a3 a4 a5 a6 : Value} (h : w.heap[b]? = some (.cells #[a0, a1, a2, a3, a4, a5, a6] T fr)) (b0 b1 b2 b3 b4 b5 b6 : Value) :
    (((((((w.setCell ⟨b, 0, none⟩ b0).setCell ⟨b, 1, none⟩ b1).setCell ⟨b, 2, none⟩ b2).setCell ⟨b, 3, none⟩ b3).setCell ⟨b, 4, none⟩ b4).setCell ⟨b, 5, none⟩ b5).setCell ⟨b, 6, none⟩ b6).heap[b]? = some (.cells #[b0, b1, b2, b3, b4, b5, b6] T fr) := by
  simp [World.setCell, Array.getElem?_modify, h]
theorem below_set7 {B : Nat} {a w : World} (h : Below B a w) {b : Nat} (hb : B ≤ b) (b0 b1 b2 b3 b4 b5 b6 : Value) :
    Below B a (((((((w.setCell ⟨b, 0, none⟩ b0).setCell ⟨b, 1, none⟩ b1).setCell ⟨b, 2, none⟩ b2).setCell ⟨b, 3, none⟩ b3).setCell ⟨b, 4, none⟩ b4).setCell ⟨b, 5, none⟩ b5).setCell ⟨b, 6, none⟩ b6) :=
  ((((((h.setCell (p := ⟨b, 0, none⟩) hb b0).setCell (p := ⟨b, 1, none⟩) hb b1).setCell (p := ⟨b, 2, none⟩) hb b2).setCell (p := ⟨b, 3, none⟩) hb b3).setCell (p := ⟨b, 4, none⟩) hb b4).setCell (p := ⟨b, 5, none⟩) hb b5).setCell (p := ⟨b, 6, none⟩) hb b6

theorem cells7 {w : World} {g off : Nat} {a : X} (h : ∀ j u, a.cells[j]? = some u → w.cell? ⟨g, off + j, none⟩ = some u) :
    w.cell? ⟨g, off, none⟩ = some (.int .u8 a.hd.k) ∧ w.cell? ⟨g, off + 1, none⟩ = some (.int .i64 a.hd.n) ∧ w.cell? ⟨g, off + 2, none⟩ = some (.string a.hd.name) ∧ w.cell? ⟨g, off + 3, none⟩ = some (.int .u8 a.hd.tk) ∧
    w.cell? ⟨g, off + 4, none⟩ = some (.string a.hd.tn) ∧ w.cell? ⟨g, off + 5, none⟩ = some (.int .i64 a.hd.tz) ∧ w.cell? ⟨g, off + 6, none⟩ = some a.s :=
  ⟨h 0 _ rfl, h 1 _ rfl, h 2 _ rfl, h 3 _ rfl, h 4 _ rfl, h 5 _ rfl, h 6 _ rfl⟩

set_option maxHeartbeats 2000000 in
theorem bdig_any (a : X) (hf : Fine a) (B : Nat) (w : World) (hBw : B ≤ w.heap.size) (hI : InW w B a) :
    Calls Tryd.prog 71 #[a.val] w fun e w' => e = .returned (.bool a.dig) ∧ Below w.heap.size w w' := by
  obtain ⟨bb, hbb⟩ : ∃ bb, bb = a.dig := ⟨_, rfl⟩
  rw [← hbb]
  obtain ⟨⟨k, n, nm, tk, tn, tz⟩, s, xs⟩ := a
  have hb := below_box w (.cells #[.int .u8 k, .int .i64 n, .string nm, .int .u8 tk, .string tn, .int .i64 tz, s] 33)
  have H0 := Lib.hid (⟨hf, InW.keeps (hb.mono hBw) _ hI, hbb⟩ : Fine _ ∧ InW (w.alloc (.cells #[.int .u8 k, .int .i64 n, .string nm, .int .u8 tk, .string tn, .int .i64 tz, s] 33)) B _ ∧ bb = _)
  have HB := Lib.hid hb
  have HO := Lib.hid (MapKept.heap_alloc w (.cells #[.int .u8 k, .int .i64 n, .string nm, .int .u8 tk, .string tn, .int .i64 tz, s] 33)).1
  show Calls Tryd.prog 71 #[.agg #[.int .u8 k, .int .i64 n, .string nm, .int .u8 tk, .string tn, .int .i64 tz, s]] w _
  clear hf hI hbb hb
  go_enter Tryd.func71, Tryd.ntmps71
  go_wp2_with fail
  go_loopg [10] (X.size (.mk ⟨k, n, nm, tk, tn, tz⟩ s xs)) (fun gk _ wr => ∃ x : X, X.size x ≤ gk ∧ Fine x ∧ InW wr B x ∧ Hid (bb = x.dig) ∧ Hid (wr.heap[w.heap.size]? = some (.cells #[.int .u8 x.hd.k, .int .i64 x.hd.n, .string x.hd.name, .int .u8 x.hd.tk, .string x.hd.tn, .int .i64 x.hd.tz, x.s] 33 (0, 0))) ∧ Below w.heap.size w wr)
  case atStart => exact ⟨_, Nat.le_refl _, H0.out.1, H0.out.2.1, Lib.hid H0.out.2.2, Lib.hid HO.out, HB.out⟩
  case round =>
    obtain ⟨x, hsz, hf, hI, HD, HC, hbl⟩ := hrel
    clear H0 HO HB
    obtain ⟨⟨k, n, nm, tk, tn, tz⟩, s, xs⟩ := x
    have hc0 : wr.heap[w.heap.size]? = some (.cells #[.int .u8 k, .int .i64 n, .string nm, .int .u8 tk, .string tn, .int .i64 tz, s] 33 (0, 0)) := HC.out
    obtain ⟨q0, q1, q2, q3, q4, q5, q6⟩ := own7 hc0
    clear hc0
    have HBL := Lib.hid hbl
    clear hbl
    by_cases hk : k = 4 ∨ k = 5
    · cases hf with
      | mk _ _ _ hform hfl =>
      cases hI with
      | mk _ _ _ hok hlies hin =>
      have hn : xs.length ≠ 0 := by
        rcases hk with rfl | rfl
        · rw [args_at hform rfl (x := ⟨1, false, true, false, ⟨#[]⟩⟩) rfl 1 rfl]; decide
        · rw [args_at hform rfl (x := ⟨2, false, false, false, ⟨#[]⟩⟩) rfl 2 rfl]; decide
      cases xs with
      | nil => exact absurd rfl hn
      | cons a r =>
      obtain ⟨g, off, cap, rfl, hg, hlen, hc⟩ := lies_first hlies
      obtain ⟨ao2, n2, c2, hs2⟩ : ∃ ao2 n2 c2, a.s = .slice ao2 n2 c2 := by
        have hIa := hin a (by simp)
        cases hIa with
        | mk _ _ _ _ h2 _ =>
          obtain ⟨ao2, c2, e, _⟩ := h2
          exact ⟨ao2, _, c2, e⟩
      obtain ⟨p0, p1, p2, p3, p4, p5, p6⟩ := cells7 hc
      have HS2 := Lib.hid hs2
      rw [hs2] at p6
      clear hs2
      have fz : ∀ j, wr.frozen? ⟨w.heap.size, j, none⟩ = false := fun j => Lib.frozen_of_heap HC.out j
      have f0 := fz 0
      have f1 := fz 1
      have f2 := fz 2
      have f3 := fz 3
      have f4 := fz 4
      have f5 := fz 5
      have f6 := fz 6
      have HN := Lib.hid (set7 HC.out (.int .u8 a.hd.k) (.int .i64 a.hd.n) (.string a.hd.name) (.int .u8 a.hd.tk) (.string a.hd.tn) (.int .i64 a.hd.tz) (.slice ao2 n2 c2))
      have hset := fun b0 b1 b2 b3 b4 b5 b6 => below_set7 (Below.refl w.heap.size wr) (Nat.le_refl w.heap.size) b0 b1 b2 b3 b4 b5 b6
      have HS := Lib.hid (hset (.int .u8 a.hd.k) (.int .i64 a.hd.n) (.string a.hd.name) (.int .u8 a.hd.tk) (.string a.hd.tn) (.int .i64 a.hd.tz) (.slice ao2 n2 c2))
      have HIN := Lib.hid (InW.keeps (HS.out.mono hBw) a (hin a (by simp)))
      have HFA := Lib.hid (hfl a (by simp))
      have HDA := Lib.hid (show bb = a.dig by rw [HD.out, dig_mk, if_pos hk, digs_cons])
      have hsa : X.size a < gk := by rw [size_mk, sizes_cons] at hsz; omega
      have hl1 : (r.length + 1 : Nat) ≤ 9223372036854775807 := hlen
      clear hform hfl hok hlies hin hn hc fz hset HD HC hsz
      rcases hk with rfl | rfl
      all_goals
        go_wp2_with fail
        go_roundg (X.size a)
        case measure => exact hsa
        case rel => exact ⟨a, Nat.le_refl _, HFA.out, HIN.out, HDA, by rw [HS2.out]; exact HN, HBL.out.trans HS.out⟩
    · have HDA := Lib.hid (show bb = decide (k = 1 ∧ 0 ≤ n) by rw [HD.out, dig_mk, if_neg hk])
      have k4 : (k == 4) = false := beq_eq_false_iff_ne.2 (fun e => hk (.inl e))
      have k5 : (k == 5) = false := beq_eq_false_iff_ne.2 (fun e => hk (.inr e))
      clear hk hf hI HD HC hsz
      by_cases h1 : k = 1
      · have k1 : (k == 1) = true := beq_iff_eq.2 h1
        by_cases h0 : 0 ≤ n
        · have HF := Lib.hid (show bb = true by rw [HDA.out]; exact decide_eq_true ⟨h1, h0⟩)
          have d0 : decide (0 ≤ n) = true := decide_eq_true h0
          clear h1 HDA
          go_wp2_with fail
          go_ret
          exact ⟨ret_bool HF.out.symm, HBL.out⟩
        · have HF := Lib.hid (show bb = false by rw [HDA.out]; exact decide_eq_false (fun e => h0 e.2))
          have d0 : decide (0 ≤ n) = false := decide_eq_false h0
          clear h1 HDA h0
          go_wp2_with fail
          go_ret
          exact ⟨ret_bool HF.out.symm, HBL.out⟩
      · have HF := Lib.hid (show bb = false by rw [HDA.out]; exact decide_eq_false (fun e => h1 e.1))
        have k1 : (k == 1) = false := beq_eq_false_iff_ne.2 h1
        clear h1 HDA
        go_wp2_with fail
        go_ret
        exact ⟨ret_bool HF.out.symm, HBL.out⟩
end Go.Proofs.YtflbplljlkpeiaaDoor
