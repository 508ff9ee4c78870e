/- What the show layer's Program answers of a tree that its walk goes through so and that its writer writes so. -/
import Derived.Test.YtflbplljlkpeiaaDoorRows
import Derived.Test.YtflbplljlkpeiaaDoorShowWhole
import Derived.Test.YtflbplljlkpeiaaDoorShowProg
import Derived.WalkKit
import Derived.WalkSpells
import Derived.WalkLawsBesides
import Derived.Lib.Hide
namespace Go.Proofs.YtflbplljlkpeiaaDoor
open Go.RowKit

/-- What Program answers. -/
def ProgOut (R : Except Int Nat) (t : List UInt8) (w : World) (e : Ending) (w' : World) : Prop := (∀ k, R = .error k → Fails k w e w') ∧ (∀ n, R = .ok n → if t.length ≤ 65536 then Tells t w e w' else Fails 3 w e w')

set_option maxHeartbeats 1000000 in
theorem sprog_any (a0 a1 a2 a3 : Value) (R : Except Int Nat) (t : List UInt8) (hR : ∀ k, R = .error k → k = 1 ∨ k = 3) (ht0 : t ≠ []) (ht : t.length ≤ 1000000000) (w : World) (hG : Good w)
    (HP : ∀ B c w1, Ck B c 0 w1 → w.heap.size ≤ B → B ≤ w1.heap.size → Below w.heap.size w w1 → Calls Tryd.prog 43 #[.pointer (some ⟨c, 0, none⟩), .agg #[a0, a1, a2, a3]] w1 (Went B c R w1))
    (HW : ∀ n, R = .ok n → ∀ B c w1, Wr B c [] 0 w1 → w.heap.size ≤ B → B ≤ w1.heap.size → Below w.heap.size w w1 → Knows B w1 → Calls Tryd.prog 29 #[.pointer (some ⟨c, 0, none⟩), .agg #[a0, a1, a2, a3]] w1 (Wrote B c [] t 0 w1)) :
    Calls Tryd.prog 11 #[.agg #[a0, a1, a2, a3]] w (ProgOut R t w) := by
  obtain ⟨W1, hW1⟩ : ∃ W1, W1 = w.alloc (.cells #[a0, a1, a2, a3] 43) := ⟨_, rfl⟩
  have hz1 : W1.heap.size = w.heap.size + 1 := by rw [hW1]; simp
  have hB1 : Below w.heap.size w W1 := by rw [hW1]; exact below_box w _
  have hO : W1.heap[w.heap.size]? = some (.cells #[a0, a1, a2, a3] 43) := by rw [hW1]; exact (MapKept.heap_alloc _ _).1
  have hC := scheck_any a0 a1 a2 a3 R hR W1 (fun B c w1 h1 h2 h3 h4 => HP B c w1 h1 (by omega) h3 (hB1.trans (h4.mono (by omega))))
  obtain ⟨p0, p1, p2, p3⟩ := own_prog _ _ _ _ hO
  rw [hW1] at p0 p1 p2 p3 hC
  have HC := Lib.hid hC
  have HB1 := Lib.hid hB1
  have HO := Lib.hid hO
  have HZ := Lib.hid hW1
  have HG := Lib.hid hG
  have HWW := Lib.hid HW
  clear hC hB1 hO hW1 HP hG HW
  cases R with
  | error k =>
    have HF := Lib.hid (fun (e : Ending) (w' : World) (h : Fails k w e w') => (⟨(fun j hj => by cases hj; exact h), (fun n hn => by cases hn)⟩ : ProgOut (.error k) t w e w'))
    have hk : ¬ k = 0 := by rcases hR k rfl with rfl | rfl <;> decide
    have hn : (k == 0) = false := beq_eq_false_iff_ne.2 hk
    have hn2 : (k != 0) = true := by rw [bne, hn]; rfl
    clear hR
    go_enter Tryd.func11, Tryd.ntmps11
    go_wp2_with fail
    refine HC.out.mono ?_; rintro e w2 ⟨rfl, hb2⟩
    rw [← HZ.out] at hb2
    have HE := Lib.hid (HF.out (.returned (.tuple #[.string ⟨#[]⟩, .int .i64 k])) w2 ⟨rfl, HB1.out.trans (hb2.mono (by omega))⟩)
    clear hb2 p0 p1 p2 p3
    simp only [Rn]
    go_wp2_with fail
    go_ret2
    exact HE.out
  | ok m =>
    have HF := Lib.hid (fun (e : Ending) (w' : World) (h : if t.length ≤ 65536 then Tells t w e w' else Fails 3 w e w') => (⟨(fun j hj => by cases hj), (fun n hn => h)⟩ : ProgOut (.ok m) t w e w'))
    clear hR
    go_enter Tryd.func11, Tryd.ntmps11
    go_wp2_with fail
    refine HC.out.mono ?_; rintro e w2 ⟨rfl, hb2⟩
    rw [← HZ.out] at hb2
    have hs2 := hb2.size
    have HO2 := Lib.hid ((hb2.block _ (by omega)).trans HO.out)
    have HB2 := Lib.hid (HB1.out.trans (hb2.mono (by omega)))
    clear hb2 p0 p1 p2 p3
    simp only [Rn]
    go_wp2_with fail
    refine (newwr_any _).mono ?_; rintro e w3 ⟨c, rfl, hW3, hb3⟩
    have hs3 := hb3.size
    have HB3 := Lib.hid (HB2.out.trans (hb3.mono (by omega)))
    obtain ⟨p0, p1, p2, p3⟩ := own_prog _ _ _ _ ((hb3.block _ (by omega)).trans HO2.out)
    have HT := Lib.hid (HWW.out m rfl w2.heap.size c w3 hW3 (by omega) hs3 HB3.out (((HG.out.keeps HB2.out).knows).below hb3))
    clear hW3 hb3
    go_wp2_with fail
    refine HT.out.mono ?_; rintro e w4 ⟨rfl, hW4, hD4⟩
    have HB4 := Lib.hid (HB3.out.trans (hD4.below.mono (by omega)))
    rw [List.nil_append] at hW4
    have HQ := Lib.hid (told_any w2.heap.size c _ 0 w4 hW4 ht0 ht)
    clear hW4 hD4 p0 p1 p2 p3
    by_cases hlen : t.length ≤ 65536
    · have HS := Lib.hid (fun (e : Ending) (w' : World) (h : Tells t w e w') => HF.out e w' (by rw [if_pos hlen]; exact h))
      go_wp2_with (go_at_call 19; refine HQ.out.mono ?_; rintro e w5 hq; obtain ⟨rfl, hb5⟩ := told_short hq hlen)
      go_ret2
      exact HS.out _ _ ⟨rfl, HB4.out.trans (hb5.mono (by omega))⟩
    · have HS := Lib.hid (fun (e : Ending) (w' : World) (h : Fails 3 w e w') => HF.out e w' (by rw [if_neg hlen]; exact h))
      go_wp2_with (go_at_call 19; refine HQ.out.mono ?_; rintro e w5 hq; obtain ⟨rfl, hb5⟩ := told_long hq (by omega))
      go_ret2
      exact HS.out _ _ ⟨rfl, HB4.out.trans (hb5.mono (by omega))⟩
end Go.Proofs.YtflbplljlkpeiaaDoor
