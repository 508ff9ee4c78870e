/- What the show layer's writer writes, text by text; its margin. -/
import Derived.Test.YtflbplljlkpeiaaDoorRows
import Derived.Test.YtflbplljlkpeiaaDoorShowBuild
import Derived.WalkKit
import Derived.LoopTactic
import Derived.WalkSpells
import Derived.WalkLawsBesides
import Derived.Lib.Hide
namespace Go.Proofs.YtflbplljlkpeiaaDoor
open Go.RowKit

/-- The bytes of texts, one behind the other. -/
def flat (ss : List ByteArray) : List UInt8 := ss.flatMap fun s => s.data.toList
theorem flat_next (ss : List ByteArray) (k : Nat) (h : k < ss.length) : flat (ss.take (k + 1)) = flat (ss.take k) ++ ss[k].data.toList := by
  rw [List.take_succ_eq_append_getElem h, flat, List.flatMap_append]; simp [flat]
theorem flat_take (ss : List ByteArray) (k : Nat) : (flat (ss.take k)).length ≤ (flat ss).length := by
  have e : flat ss = flat (ss.take k) ++ flat (ss.drop k) := by rw [flat, flat, flat, ← List.flatMap_append, List.take_append_drop]
  rw [e, List.length_append]; omega

/-- What a call on a writer leaves: the bytes written behind what there was. -/
def Wrote (B c : Nat) (l t : List UInt8) (d : Int) (w : World) (e : Ending) (w' : World) : Prop := e = .returned (.tuple #[]) ∧ Wr B c (l ++ t) d w' ∧ Did B c w w'

set_option maxHeartbeats 1000000 in
theorem write_any (B c : Nat) (l : List UInt8) (d : Int) (g n : Nat) (ss : List ByteArray) (fr : Nat × Nat) (w : World) (h : Wr B c l d w) (hg : w.heap[g]? = some (.cells (ss.map Value.string).toArray 9 fr)) (hgc : g ≠ c) (hn : n = ss.length) (hn3 : n ≤ 100) (hlen : l.length + (flat ss).length ≤ 1000000000) (hBw : B ≤ w.heap.size) :
    Calls Tryd.prog 36 #[.pointer (some ⟨c, 0, none⟩), .slice (some ⟨g, 0, none⟩) n n] w (Wrote B c l (flat ss) d w) := by
  have H := Lib.hid h
  have HG := Lib.hid hg
  have HN := Lib.hid hn
  have HT := Lib.hid (flat_take ss)
  clear h hg hn
  go_enter Tryd.func36, Tryd.ntmps36
  go_wp2_with fail
  go_loopw [8] (fun i wr => ∃ k : Nat, k ≤ n ∧ i = .int .i64 k ∧ Wr B c (l ++ flat (ss.take k)) d wr ∧ Did B c w wr) (fun i _ => n - (intOf i).toNat)
  case atStart => exact ⟨0, by omega, rfl, by simpa [flat] using H.out, Did.refl B c w⟩
  case round =>
    obtain ⟨k, hk, rfl, hW, hD⟩ := hrel
    have HW := Lib.hid hW
    have HD := Lib.hid hD
    have hBr : B ≤ wr.heap.size := Nat.le_trans hBw hD.below.size
    by_cases hlt : k < n
    · have hks : k < ss.length := by rw [← HN.out]; exact hlt
      have hb := hD.rest g _ _ _ HG.out hgc (by decide)
      have hc : wr.cell? ⟨g, k, none⟩ = some (.string ss[k]) := by rw [Lib.cell_of_heap hb]; simp [hks]
      have e1 := flat_next ss k hks
      have e2 := HT.out (k + 1)
      have HC := Lib.hid (wstring_any B c (l ++ flat (ss.take k)) d ss[k] wr hW (by
        have : ss[k].data.toList.length = ss[k].size := Array.length_toList
        rw [e1] at e2
        rw [List.length_append] at e2 ⊢
        omega) hBr)
      have HE := Lib.hid (show l ++ flat (ss.take k) ++ ss[k].data.toList = l ++ flat (ss.take (k + 1)) by rw [e1, List.append_assoc])
      generalize ss[k] = s at *
      clear hb hW hD e1 e2
      go_wp2_with (go_at_call 61; refine HC.out.mono ?_; rintro e w2 ⟨rfl, hW2, hD2⟩)
      rw [HE.out] at hW2
      have HW2 := Lib.hid hW2
      have HD2 := Lib.hid (HD.out.trans hD2)
      clear hW2 hD2
      go_wp2_with fail
      go_roundw
      case rel => exact ⟨k + 1, by omega, by go_num, HW2.out, HD2.out⟩
      case measure => simp [intOf]; omega
    · have HE := Lib.hid (show flat (ss.take k) = flat ss by rw [List.take_of_length_le (by rw [← HN.out]; omega)])
      clear hW hD
      go_wp2_with fail
      go_end0
      exact ⟨rfl, by rw [← HE.out]; exact HW.out, HD.out⟩
end Go.Proofs.YtflbplljlkpeiaaDoor
