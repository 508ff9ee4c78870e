/- Whether an expression is none, by the show layer's own function. -/
import Derived.Test.YtflbplljlkpeiaaDoorRows
import Derived.Test.YtflbplljlkpeiaaDoorShowCheck
import Derived.Laws.StructEq
import Derived.WalkKit
import Derived.WalkSpells
import Derived.WalkLawsBesides
import Derived.Lib.Hide
namespace Go.Proofs.YtflbplljlkpeiaaDoor
open Go.RowKit

/-- A type held against the zero type. -/
def noTy (tk : Int) (tn : ByteArray) (tz : Int) : Bool := decide (tk = 0 ∧ tn.data.toList = [] ∧ tz = 0)

set_option maxRecDepth 100000 in
theorem run_noty (tk tz : Int) (tn : ByteArray) (w : World) : (binOp .eql 24 (.agg #[.int .u8 tk, .string tn, .int .i64 tz]) (.agg #[.int .u8 0, .string ⟨#[]⟩, .int .i64 0])).run Tryd.prog w = .ok (.bool (noTy tk tn tz)) w := by
  simp [go_sem]
  rw [bytes_list]
  unfold noTy
  by_cases h1 : tk = 0 <;> by_cases h2 : tn.data.toList = [] <;> by_cases h3 : tz = 0 <;> simp [h1, h2, h3]
theorem noty_is {tk tz : Int} {tn : ByteArray} {b : Bool} (h : noTy tk tn tz = b) (w : World) : (binOp .eql 24 (.agg #[.int .u8 tk, .string tn, .int .i64 tz]) (.agg #[.int .u8 0, .string ⟨#[]⟩, .int .i64 0])).run Tryd.prog w = .ok (.bool b) w := by
  rw [← h]; exact run_noty tk tz tn w

set_option maxHeartbeats 1000000 in
theorem none_kind (k n tk tz : Int) (nm tn : ByteArray) (ao : Option Addr) (m cap : Nat) (h : ¬ k = 0) (w : World) : Calls Tryd.prog 55 #[.agg #[.int .u8 k, .int .i64 n, .string nm, .int .u8 tk, .string tn, .int .i64 tz, .slice ao m cap]] w fun e w' => e = .returned (.bool false) ∧ Below w.heap.size w w' := by
  have HB := Lib.hid (below_box w (.cells #[.int .u8 k, .int .i64 n, .string nm, .int .u8 tk, .string tn, .int .i64 tz, .slice ao m cap] 33))
  have q0 : (k == 0) = false := beq_eq_false_iff_ne.2 h
  clear h
  go_enter Tryd.func55, Tryd.ntmps55
  go_wp2_with fail
  go_ret
  exact ⟨rfl, HB.out⟩

set_option maxHeartbeats 1000000 in
theorem none_n (k n tk tz : Int) (nm tn : ByteArray) (ao : Option Addr) (m cap : Nat) (hk : k = 0) (h : ¬ n = 0) (w : World) : Calls Tryd.prog 55 #[.agg #[.int .u8 k, .int .i64 n, .string nm, .int .u8 tk, .string tn, .int .i64 tz, .slice ao m cap]] w fun e w' => e = .returned (.bool false) ∧ Below w.heap.size w w' := by
  have HB := Lib.hid (below_box w (.cells #[.int .u8 k, .int .i64 n, .string nm, .int .u8 tk, .string tn, .int .i64 tz, .slice ao m cap] 33))
  subst hk
  have q0 : (n == 0) = false := beq_eq_false_iff_ne.2 h
  clear h
  go_enter Tryd.func55, Tryd.ntmps55
  go_wp2_with fail
  go_ret
  exact ⟨rfl, HB.out⟩

set_option maxHeartbeats 1000000 in
theorem none_name (k n tk tz : Int) (nm tn : ByteArray) (ao : Option Addr) (m cap : Nat) (hk : k = 0) (hn : n = 0) (h : ¬ nm.data.toList = []) (w : World) : Calls Tryd.prog 55 #[.agg #[.int .u8 k, .int .i64 n, .string nm, .int .u8 tk, .string tn, .int .i64 tz, .slice ao m cap]] w fun e w' => e = .returned (.bool false) ∧ Below w.heap.size w w' := by
  have HB := Lib.hid (below_box w (.cells #[.int .u8 k, .int .i64 n, .string nm, .int .u8 tk, .string tn, .int .i64 tz, .slice ao m cap] 33))
  subst hk
  subst hn
  have t1 := emp_no h
  clear h
  go_enter Tryd.func55, Tryd.ntmps55
  go_wp2_with fail
  go_ret
  exact ⟨rfl, HB.out⟩

set_option maxHeartbeats 1000000 in
theorem none_type (k n tk tz : Int) (nm tn : ByteArray) (ao : Option Addr) (m cap : Nat) (hk : k = 0) (hn : n = 0) (he : nm.data.toList = []) (ht : noTy tk tn tz = false) (w : World) : Calls Tryd.prog 55 #[.agg #[.int .u8 k, .int .i64 n, .string nm, .int .u8 tk, .string tn, .int .i64 tz, .slice ao m cap]] w fun e w' => e = .returned (.bool false) ∧ Below w.heap.size w w' := by
  have HB := Lib.hid (below_box w (.cells #[.int .u8 k, .int .i64 n, .string nm, .int .u8 tk, .string tn, .int .i64 tz, .slice ao m cap] 33))
  subst hk
  subst hn
  have t1 := emp_yes he
  have t2 := nil_yes he
  clear he
  have hq := noty_is ht
  clear ht
  go_enter Tryd.func55, Tryd.ntmps55
  go_wp2_with fail
  go_ret
  exact ⟨rfl, HB.out⟩

set_option maxHeartbeats 1000000 in
theorem none_args (k n tk tz : Int) (nm tn : ByteArray) (ao : Option Addr) (m cap : Nat) (hk : k = 0) (hn : n = 0) (he : nm.data.toList = []) (ht : noTy tk tn tz = true) (hm : ¬ m = 0) (w : World) : Calls Tryd.prog 55 #[.agg #[.int .u8 k, .int .i64 n, .string nm, .int .u8 tk, .string tn, .int .i64 tz, .slice ao m cap]] w fun e w' => e = .returned (.bool false) ∧ Below w.heap.size w w' := by
  have HB := Lib.hid (below_box w (.cells #[.int .u8 k, .int .i64 n, .string nm, .int .u8 tk, .string tn, .int .i64 tz, .slice ao m cap] 33))
  subst hk
  subst hn
  have t1 := emp_yes he
  have t2 := nil_yes he
  clear he
  have hq := noty_is ht
  clear ht
  have q0 : ((m : Int) == 0) = false := beq_eq_false_iff_ne.2 (by omega)
  clear hm
  go_enter Tryd.func55, Tryd.ntmps55
  go_wp2_with fail
  go_ret
  exact ⟨rfl, HB.out⟩

set_option maxHeartbeats 1000000 in
theorem none_yes (k n tk tz : Int) (nm tn : ByteArray) (ao : Option Addr) (m cap : Nat) (hk : k = 0) (hn : n = 0) (he : nm.data.toList = []) (ht : noTy tk tn tz = true) (hm : m = 0) (w : World) : Calls Tryd.prog 55 #[.agg #[.int .u8 k, .int .i64 n, .string nm, .int .u8 tk, .string tn, .int .i64 tz, .slice ao m cap]] w fun e w' => e = .returned (.bool true) ∧ Below w.heap.size w w' := by
  have HB := Lib.hid (below_box w (.cells #[.int .u8 k, .int .i64 n, .string nm, .int .u8 tk, .string tn, .int .i64 tz, .slice ao m cap] 33))
  subst hk
  subst hn
  have t1 := emp_yes he
  have t2 := nil_yes he
  clear he
  have hq := noty_is ht
  clear ht
  subst hm
  go_enter Tryd.func55, Tryd.ntmps55
  go_wp2_with fail
  go_ret
  exact ⟨rfl, HB.out⟩

/-- Is an expression none? -/
def noneH (h : Hd) (len : Nat) : Bool := decide (h.k = 0 ∧ h.n = 0 ∧ h.name.data.toList = []) && noTy h.tk h.tn h.tz && decide (len = 0)

theorem none_any (h : Hd) (ao : Option Addr) (m cap : Nat) (w : World) : Calls Tryd.prog 55 #[.agg #[.int .u8 h.k, .int .i64 h.n, .string h.name, .int .u8 h.tk, .string h.tn, .int .i64 h.tz, .slice ao m cap]] w fun e w' => e = .returned (.bool (noneH h m)) ∧ Below w.heap.size w w' := by
  by_cases hk : h.k = 0
  · by_cases hn : h.n = 0
    · by_cases he : h.name.data.toList = []
      · cases ht : noTy h.tk h.tn h.tz with
        | false => rw [show noneH h m = false by simp [noneH, ht]]; exact none_type _ _ _ _ _ _ ao m cap hk hn he ht w
        | true =>
          by_cases hm : m = 0
          · rw [show noneH h m = true by simp [noneH, hk, hn, he, ht, hm]]; exact none_yes _ _ _ _ _ _ ao m cap hk hn he ht hm w
          · rw [show noneH h m = false by simp [noneH, hm]]; exact none_args _ _ _ _ _ _ ao m cap hk hn he ht hm w
      · rw [show noneH h m = false by simp [noneH, he]]; exact none_name _ _ _ _ _ _ ao m cap hk hn he w
    · rw [show noneH h m = false by simp [noneH, hn]]; exact none_n _ _ _ _ _ _ ao m cap hk hn w
  · rw [show noneH h m = false by simp [noneH, hk]]; exact none_kind _ _ _ _ _ _ ao m cap hk w
end Go.Proofs.YtflbplljlkpeiaaDoor
