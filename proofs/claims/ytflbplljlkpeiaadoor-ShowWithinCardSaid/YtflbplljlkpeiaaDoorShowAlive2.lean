/- The statements' own part 'alive', of whoever tells trees. -/
import Derived.Test.YtflbplljlkpeiaaDoorRows
import Derived.Test.YtflbplljlkpeiaaDoorShowAlive
import Derived.Test.YtflbplljlkpeiaaDoorShowMade
import Derived.LoopN
import Derived.WalkKit
import Derived.WalkSpells
import Derived.WalkLawsBesides
import Derived.Lib.Hide
namespace Go.Proofs.YtflbplljlkpeiaaDoor
open Go.RowKit
set_option maxRecDepth 20000

/-- -(5) -/
def x5 : X := .mk ⟨1, 5, ⟨#[]⟩, 0, ⟨#[]⟩, 0⟩ (.slice none 0 0) []
def xneg (g : Nat) : X := .mk ⟨8, 0, ⟨#[]⟩, 0, ⟨#[]⟩, 0⟩ (.slice (some ⟨g, 0, none⟩) 1 1) [x5]
theorem form5 : form ⟨1, 5, ⟨#[]⟩, 0, ⟨#[]⟩, 0⟩ 0 = 0 := by decide
theorem form8 : form ⟨8, 0, ⟨#[]⟩, 0, ⟨#[]⟩, 0⟩ 1 = 0 := by decide
theorem chk_neg (g : Nat) : chk 1 0 (xneg g) = .ok 2 := by
  unfold xneg
  rw [chk_mk, if_neg (by omega), show ([x5] : List X).length = 1 from rfl, if_pos form8, chks_cons]
  unfold x5
  rw [chk_mk, if_neg (by omega), show ([] : List X).length = 0 from rfl, if_pos form5, chks_nil]
  exact chks_nil _ _
theorem itoa5 : Lib.itoa 5 = [53] := by first | kernel_rfl | (unfold Lib.itoa Lib.decDigits; simp) | (unfold Lib.itoa; simp [Lib.decDigits])
theorem txt_neg (g : Nat) : (xneg g).txt = [45, 40, 53, 41] := by
  unfold xneg
  rw [txt_mk, txts_cons, txts_nil]
  unfold x5
  rw [txt_mk, txts_nil, show nodeT ⟨1, 5, ⟨#[]⟩, 0, ⟨#[]⟩, 0⟩ [] [] = [53] by unfold nodeT; rw [if_pos rfl]; exact itoa5]
  decide
theorem in_neg (w : World) (B : Nat) (hB : w.heap.size < B) : InW (w.alloc (.cells #[.int .u8 1, .int .i64 5, .string ⟨#[]⟩, .int .u8 0, .string ⟨#[]⟩, .int .i64 0, .slice none 0 0] 33)) B (xneg w.heap.size) := by
  have h5 : InW (w.alloc (.cells #[.int .u8 1, .int .i64 5, .string ⟨#[]⟩, .int .u8 0, .string ⟨#[]⟩, .int .i64 0, .slice none 0 0] 33)) B x5 := .mk _ _ _ ⟨by decide, by decide, by decide, by decide, by decide⟩ ⟨none, 0, rfl, by simp, .inl rfl⟩ (fun a ha => by cases ha)
  refine .mk _ _ _ ⟨by decide, by decide, by decide, by decide, by decide⟩ ⟨some ⟨w.heap.size, 0, none⟩, 1, rfl, by simp, .inr ⟨w.heap.size, 0, rfl, hB, fun i x hx j u hu => ?_⟩⟩ (fun a ha => by rcases List.mem_singleton.1 ha with rfl; exact h5)
  obtain ⟨q0, q1, q2, q3, q4, q5, q6⟩ := own7 (show (w.alloc (.cells #[.int .u8 1, .int .i64 5, .string ⟨#[]⟩, .int .u8 0, .string ⟨#[]⟩, .int .i64 0, .slice none 0 0] 33)).heap[w.heap.size]? = _ from (MapKept.heap_alloc _ _).1)
  match i, hx with
  | 0, hx =>
    simp only [List.getElem?_cons_zero, Option.some.injEq] at hx
    subst hx
    unfold x5 X.cells at hu
    rcases j with _ | _ | _ | _ | _ | _ | _ | j
    all_goals first | (simp only [X.hd, X.s, List.getElem?_cons_zero, List.getElem?_cons_succ, Option.some.injEq] at hu; subst hu; assumption) | (simp at hu)
  | i + 1, hx => simp at hx

theorem sneg_any (w : World) (hG : Good w) : Calls Tryd.prog 10 #[.agg #[.int .u8 8, .int .i64 0, .string ⟨#[]⟩, .int .u8 0, .string ⟨#[]⟩, .int .i64 0, .slice (some ⟨w.heap.size, 0, none⟩) 1 1]] (w.alloc (.cells #[.int .u8 1, .int .i64 5, .string ⟨#[]⟩, .int .u8 0, .string ⟨#[]⟩, .int .i64 0, .slice none 0 0] 33)) fun e w' => e = .returned (.tuple #[.string ⟨#[45, 40, 53, 41]⟩, .int .i64 0]) ∧ Below w.heap.size w w' := by
  have hb := below_box w (.cells #[.int .u8 1, .int .i64 5, .string ⟨#[]⟩, .int .u8 0, .string ⟨#[]⟩, .int .i64 0, .slice none 0 0] 33)
  refine (sexpr_any (xneg w.heap.size) _ (in_neg w _ (by simp)) (hG.keeps hb)).mono fun e w' h => ?_
  have h1 := h.1 2 (chk_neg _) (by rw [txt_neg]; decide)
  rw [txt_neg] at h1
  exact ⟨h1.1, hb.trans (h1.2.mono hb.size)⟩

/-- A program of an atomic block. -/
theorem satomic_any (w : World) (hG : Good w) : Calls Tryd.prog 11 #[.agg #[.slice none 0 0, .slice none 0 0, .slice none 0 0, .slice (some ⟨w.heap.size + 1, 0, none⟩) 1 1]] ((w.alloc (.cells #[.int .u8 5, .string ⟨#[]⟩, .int .u8 0, .string ⟨#[]⟩, .int .i64 0, .int .u8 0, .int .i64 0, .string ⟨#[]⟩, .int .u8 0, .string ⟨#[]⟩, .int .i64 0, .slice none 0 0, .int .u8 0, .int .i64 0, .string ⟨#[]⟩, .int .u8 0, .string ⟨#[]⟩, .int .i64 0, .slice none 0 0, .slice none 0 0, .slice none 0 0] 57)).alloc (.cells #[.slice (some ⟨w.heap.size, 0, none⟩) 1 1] 55)) fun e w' => e = .returned (.tuple #[.string ⟨#[116, 104, 114, 101, 97, 100, 32, 123, 10, 32, 32, 97, 116, 111, 109, 105, 99, 32, 123, 10, 32, 32, 125, 10, 125, 10]⟩, .int .i64 0]) ∧ Below w.heap.size w w' := by
  obtain ⟨W1, hW1⟩ : ∃ W1, W1 = w.alloc (.cells #[.int .u8 5, .string ⟨#[]⟩, .int .u8 0, .string ⟨#[]⟩, .int .i64 0, .int .u8 0, .int .i64 0, .string ⟨#[]⟩, .int .u8 0, .string ⟨#[]⟩, .int .i64 0, .slice none 0 0, .int .u8 0, .int .i64 0, .string ⟨#[]⟩, .int .u8 0, .string ⟨#[]⟩, .int .i64 0, .slice none 0 0, .slice none 0 0, .slice none 0 0] 57) := ⟨_, rfl⟩
  have hz1 : W1.heap.size = w.heap.size + 1 := by rw [hW1]; simp
  obtain ⟨W2, hW2⟩ : ∃ W2, W2 = W1.alloc (.cells #[.slice (some ⟨w.heap.size, 0, none⟩) 1 1] 55) := ⟨_, rfl⟩
  have hz2 : W2.heap.size = w.heap.size + 2 := by rw [hW2]; simp [hz1]
  have hb1 : Below w.heap.size w W1 := by rw [hW1]; exact below_box w _
  have hb2 : Below w.heap.size w W2 := by rw [hW2]; exact hb1.trans ((below_box W1 _).mono (by omega))
  have hS : W2.heap[w.heap.size]? = some (.cells #[.int .u8 5, .string ⟨#[]⟩, .int .u8 0, .string ⟨#[]⟩, .int .i64 0, .int .u8 0, .int .i64 0, .string ⟨#[]⟩, .int .u8 0, .string ⟨#[]⟩, .int .i64 0, .slice none 0 0, .int .u8 0, .int .i64 0, .string ⟨#[]⟩, .int .u8 0, .string ⟨#[]⟩, .int .i64 0, .slice none 0 0, .slice none 0 0, .slice none 0 0] 57) := by rw [hW2, Below.heap_alloc _ _ _ (by omega), hW1]; exact (MapKept.heap_alloc _ _).1
  have hL : W2.heap[w.heap.size + 1]? = some (.cells #[.slice (some ⟨w.heap.size, 0, none⟩) 1 1] 55) := by rw [hW2, ← hz1]; exact (MapKept.heap_alloc _ _).1
  rw [← hW1, ← hW2]
  refine (sprog_any _ _ _ _ (.ok 1) [116, 104, 114, 101, 97, 100, 32, 123, 10, 32, 32, 97, 116, 111, 109, 105, 99, 32, 123, 10, 32, 32, 125, 10, 125, 10] (fun k hk => by cases hk) (by simp) (by simp) W2 (hG.keeps hb2) (fun B c w1 h1 h2 h3 h4 => ?_) (fun n _ B c w1 h1 h2 h3 h4 _ => ?_)).mono fun e w' h => ?_
  · have hBc := h1.1
    refine cprog_one (.ok 1) B c w.heap.size (w.heap.size + 1) 55 (0, 0) w1 h1 (by have := h4.size; omega) ((h4.block _ (by omega)).trans hL) (fun w2 k1 k2 => ?_)
    exact clist_5 B c w.heap.size 57 (0, 0) w2 k1 (by have := k2.size; have := h4.size; omega) ((k2.block _ (by have := h4.size; omega) (by omega)).trans ((h4.block _ (by omega)).trans hS))
  · have hBc := h1.base
    exact wprog_one B c w.heap.size (w.heap.size + 1) [] ([32, 123, 10] ++ (([32, 32] ++ (([97, 116, 111, 109, 105, 99] ++ ([32, 123, 10] ++ ([] ++ ([32, 32] ++ [125])))) ++ [10])) ++ ([] ++ [125]))) 55 (0, 0) w1 h1 h3 (by simp) ((h4.block _ (by omega)).trans hL) (fun w2 k1 k2 =>
      wstmts_5 B c w.heap.size ([] ++ [116, 104, 114, 101, 97, 100]) _ 57 (0, 0) w2 k1 (Nat.le_trans h3 k2.below.size) (by simp) (k2.rest _ _ _ _ ((h4.block _ (by omega)).trans hS) (by omega) (by decide)) (by omega) (by decide)
        (fun l' w3 hl' j1 j2 => wstmt_5 B c l' w3 j1 (Nat.le_trans h3 (k2.trans j2).below.size) (by simp at hl'; omega)))
  · have h1 := h.2 1 rfl
    rw [if_pos (by decide)] at h1
    exact ⟨h1.1, hb2.trans (h1.2.mono (by omega))⟩

/-- A program with a record that has no fields. -/
theorem srec_any (w : World) : Calls Tryd.prog 22 #[.agg #[.slice (some ⟨w.heap.size, 0, none⟩) 1 1, .slice none 0 0, .slice none 0 0, .slice none 0 0]] (w.alloc (.cells #[.string ⟨#[114]⟩, .slice none 0 0] 60)) fun e w' => e = .returned (.int .i64 1) ∧ Below w.heap.size w w' := by
  obtain ⟨W1, hW1⟩ : ∃ W1, W1 = w.alloc (.cells #[.string ⟨#[114]⟩, .slice none 0 0] 60) := ⟨_, rfl⟩
  have hz1 : W1.heap.size = w.heap.size + 1 := by rw [hW1]; simp
  have hb1 : Below w.heap.size w W1 := by rw [hW1]; exact below_box w _
  have hO : W1.heap[w.heap.size]? = some (.cells #[.string ⟨#[114]⟩, .slice none 0 0] 60) := by rw [hW1]; exact (MapKept.heap_alloc _ _).1
  rw [← hW1]
  refine (scheck_any _ _ _ _ (.error 1) (fun k hk => by cases hk; exact .inl rfl) W1 (fun B c w1 h1 h2 h3 h4 => ?_)).mono fun e w' h => ?_
  · exact cprog_rec B c w.heap.size 60 (0, 0) w1 h1 ((h4.block _ (by omega)).trans hO)
  · exact ⟨h.1, hb1.trans (h.2.mono (by omega))⟩

attribute [local go_sem ↓] bld_eq bls_eq
set_option maxHeartbeats 4000000 in
theorem alive_any (w : World) (hG : Good w) : Calls Tryd.prog 7 #[] w fun e w' => e = .returned (.bool true) ∧ Below w.heap.size w w' := by
  have m1 := made_5
  have m2 := made_args
  have m3 := made_neg
  have m4 := made_atomic
  have m5 := made_stmts5
  have m6 := made_lists
  have m7 := made_threads
  have m8 := made_rec
  have m9 := made_recs
  have m10 := made_records
  have HX := Lib.hid (sneg_any w hG)
  have HG := Lib.hid hG
  clear hG
  go_enter Tryd.func7, Tryd.ntmps7
  go_wp2_with fail
  refine HX.out.mono ?_; rintro e w2 ⟨rfl, hb2⟩
  have HB2 := Lib.hid hb2
  have HA := Lib.hid (satomic_any w2 (HG.out.keeps hb2))
  clear hb2
  go_wp2_with fail
  refine HA.out.mono ?_; rintro e w3 ⟨rfl, hb3⟩
  have HB3 := Lib.hid (HB2.out.trans (hb3.mono HB2.out.size))
  have HR := Lib.hid (srec_any w3)
  clear hb3
  go_wp2_with fail
  refine HR.out.mono ?_; rintro e w4 ⟨rfl, hb4⟩
  have HB4 := Lib.hid (HB3.out.trans (hb4.mono HB3.out.size))
  clear hb4
  go_wp2_with fail
  go_ret
  exact ⟨rfl, HB4.out⟩
end Go.Proofs.YtflbplljlkpeiaaDoor
