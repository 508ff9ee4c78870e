/- The statement on types, at every type. -/
import Derived.Test.YtflbplljlkpeiaaDoorRows
import Derived.Test.YtflbplljlkpeiaaDoorShowAlive2
import Derived.Test.YtflbplljlkpeiaaDoorShowRef
import Derived.WalkKit
import Derived.WalkSpells
import Derived.WalkLawsBesides
import Derived.Lib.Hide
namespace Go.Proofs.YtflbplljlkpeiaaDoor
open Go.RowKit


set_option maxHeartbeats 1000000 in
theorem law_types (tk tz : Int) (tn : ByteArray) (hs : tn.size ≤ 9223372036854775807) (w : World) (hG : Good w) :
    Calls Tryd.prog 3 #[.agg #[.int .u8 tk, .string tn, .int .i64 tz]] w fun e w' => e = .returned (.bool true) ∧ Below w.heap.size w w' := by
  obtain ⟨W1, hW1⟩ : ∃ W1, W1 = w.alloc (.cells #[.int .u8 tk, .string tn, .int .i64 tz] 24) := ⟨_, rfl⟩
  have hz1 : W1.heap.size = w.heap.size + 1 := by rw [hW1]; simp
  have hB1 : Below w.heap.size w W1 := by rw [hW1]; exact below_box w _
  have hO : W1.heap[w.heap.size]? = some (.cells #[.int .u8 tk, .string tn, .int .i64 tz] 24) := by rw [hW1]; exact (MapKept.heap_alloc _ _).1
  have c0 : W1.cell? ⟨w.heap.size, 0, none⟩ = some (.int .u8 tk) := by rw [Lib.cell_of_heap hO]; rfl
  have c1 : W1.cell? ⟨w.heap.size, 1, none⟩ = some (.string tn) := by rw [Lib.cell_of_heap hO]; rfl
  have c2 : W1.cell? ⟨w.heap.size, 2, none⟩ = some (.int .i64 tz) := by rw [Lib.cell_of_heap hO]; rfl
  obtain ⟨t, r, hT, hR⟩ : ∃ (t : ByteArray) (r : Int), (Calls Tryd.prog 5 #[.agg #[.int .u8 tk, .string tn, .int .i64 tz]] W1 fun e w' => e = .returned (.tuple #[.string t, .int .i64 r]) ∧ Below W1.heap.size W1 w') ∧ (∀ w, Calls Tryd.prog 6 #[.agg #[.int .u8 tk, .string tn, .int .i64 tz]] w fun e w' => e = .returned (.tuple #[.string t, .int .i64 r]) ∧ Below w.heap.size w w') := by
    by_cases h0 : tyForm tk tn.data.toList tz = 0
    · exact ⟨_, _, stype_yes tk tz tn hs h0 W1 (hG.keeps hB1), fun w => rtype_yes tk tz tn h0 w⟩
    · have h13 := (tyForm_cases tk tn.data.toList tz).resolve_left h0
      exact ⟨_, _, stype_no tk tz tn hs _ rfl h13 W1, fun w => rtype_no tk tz tn _ rfl h0 w⟩
  rw [hW1] at hT c0 c1 c2
  have HT := Lib.hid hT
  have HR := Lib.hid hR
  have HB1 := Lib.hid hB1
  have HO := Lib.hid hO
  have HZ := Lib.hid hW1
  have HG := Lib.hid hG
  have t1 : (t == t) = true := (MapKept.bytes_beq t t).2 rfl
  have t2 : (r == r) = true := beq_self_eq_true r
  clear hT hR hB1 hO hW1 hG
  go_enter Tryd.func3, Tryd.ntmps3
  go_wp2_with fail
  refine HT.out.mono ?_; rintro e w2 ⟨rfl, hb2⟩
  rw [← HZ.out] at hb2
  have hO2 := (hb2.block _ (by omega)).trans HO.out
  clear c0 c1 c2
  have c0 : w2.cell? ⟨w.heap.size, 0, none⟩ = some (.int .u8 tk) := by rw [Lib.cell_of_heap hO2]; rfl
  have c1 : w2.cell? ⟨w.heap.size, 1, none⟩ = some (.string tn) := by rw [Lib.cell_of_heap hO2]; rfl
  have c2 : w2.cell? ⟨w.heap.size, 2, none⟩ = some (.int .i64 tz) := by rw [Lib.cell_of_heap hO2]; rfl
  have HB2 := Lib.hid (HB1.out.trans (hb2.mono (by omega)))
  clear hb2 hO2
  go_wp2_with fail
  refine (HR.out _).mono ?_; rintro e w3 ⟨rfl, hb3⟩
  have HB3 := Lib.hid (HB2.out.trans (hb3.mono HB2.out.size))
  have HA := Lib.hid (alive_any w3 (HG.out.keeps HB3.out))
  clear hb3 c0 c1 c2
  go_wp2_with fail
  refine HA.out.mono ?_; rintro e w4 ⟨rfl, hb4⟩
  have HB4 := Lib.hid (HB3.out.trans (hb4.mono HB3.out.size))
  clear hb4
  go_wp2_with fail
  go_ret
  exact ⟨rfl, HB4.out⟩
end Go.Proofs.YtflbplljlkpeiaaDoor
