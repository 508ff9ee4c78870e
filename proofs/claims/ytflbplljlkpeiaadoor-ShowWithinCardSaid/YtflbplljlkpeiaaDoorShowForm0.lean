/- What the show layer's checker finds in its map, and what a walk of it may begin with. -/
import Derived.Test.YtflbplljlkpeiaaDoorRows
import Derived.Test.YtflbplljlkpeiaaDoorShowNone
import Derived.RegionTactic
import Derived.ChangeAlike
import Derived.Laws.StructEq
import Derived.WalkKit
import Derived.WalkSpells
import Derived.WalkLawsBesides
import Derived.Lib.Hide
namespace Go.Proofs.YtflbplljlkpeiaaDoor
open Go.RowKit

theorem look_x2 {W : World} {m : Nat} (hm : IsMap W m kvx) {k : Int} {x : Wx} (hx : wants k = some x) (V : World) (hV : V.heap[m]? = W.heap[m]?) :
    (Instr.lookup 78 (.map (some m)) (.int .u8 k) true).run Tryd.prog V = .ok (.tuple #[.agg #[.int .i64 x.args, .bool x.number, .bool x.name, .bool x.made, .string x.sign], .bool true]) V :=
  run_look uMapX uKindX (hm.of hV) true k x.val (by rw [look_kvx, hx]; rfl)
theorem zeroWx (w : World) : (zeroValue 103).run Tryd.prog w = .ok (.agg #[.int .i64 0, .bool false, .bool false, .bool false, .string ⟨#[]⟩]) w := by kernel_rfl
theorem look_x0 {W : World} {m : Nat} (hm : IsMap W m kvx) {k : Int} (hx : wants k = none) (V : World) (hV : V.heap[m]? = W.heap[m]?) :
    (Instr.lookup 78 (.map (some m)) (.int .u8 k) true).run Tryd.prog V = .ok (.tuple #[.agg #[.int .i64 0, .bool false, .bool false, .bool false, .string ⟨#[]⟩], .bool false]) V :=
  run_look_none uMapX uKindX (hm.of hV) true k _ (zeroWx V) (by rw [look_kvx, hx]; rfl)
theorem below_two (w : World) (o p : Obj) : Below w.heap.size w ((w.alloc o).alloc p).drew := ((below_box w o).alloc (by simp) p).drew
theorem two_heap {w : World} {m : Nat} (h : m < w.heap.size) (o p : Obj) : ((w.alloc o).alloc p).drew.heap[m]? = w.heap[m]? := by
  show ((w.alloc o).alloc p).heap[m]? = _
  rw [Below.heap_alloc _ _ _ (by simp; omega)]
  exact Below.heap_alloc _ _ _ h
theorem Ends.to0 {r : Int} {w w' : World} {e : Ending} (h : Ends r w e w') (hr : r = 0) : e = .returned (.tuple #[]) ∧ Below w.heap.size w w' := ⟨h.1.trans (ended_ok hr), h.2⟩
theorem Ends.to1 {r : Int} {w w' : World} {e : Ending} (h : Ends r w e w') (hr : r = 1) : e = .panicked (fl 1) ∧ Below w.heap.size w w' := by subst hr; exact ⟨h.1, h.2⟩
theorem Ends.to3 {r : Int} {w w' : World} {e : Ending} (h : Ends r w e w') (hr : r = 3) : e = .panicked (fl 3) ∧ Below w.heap.size w w' := by subst hr; exact ⟨h.1, h.2⟩
theorem tyForm_cases (tk : Int) (tn : List UInt8) (tz : Int) : tyForm tk tn tz = 0 ∨ tyForm tk tn tz = 1 ∨ tyForm tk tn tz = 3 := by
  unfold tyForm
  repeat' split
  all_goals simp

set_option maxRecDepth 100000 in
set_option maxHeartbeats 1000000 in
theorem form_none (B c i : Nat) (k n tk tz : Int) (nm tn : ByteArray) (ao : Option Addr) (m cap : Nat) (w : World) (h : Ck B c i w) (hx : wants k = none) :
    Calls Tryd.prog 46 #[.pointer (some ⟨c, 0, none⟩), .agg #[.int .u8 k, .int .i64 n, .string nm, .int .u8 tk, .string tn, .int .i64 tz, .slice ao m cap]] w (Ends 1 w) := by
  have HB := Lib.hid (below_two w (.cells #[.int .u8 k, .int .i64 n, .string nm, .int .u8 tk, .string tn, .int .i64 tz, .slice ao m cap] 33) (.cells #[.int .i64 0, .bool false, .bool false, .bool false, .string ⟨#[]⟩] 103))
  have hc := h.lt
  obtain ⟨-, -, m1, m2, c0, -, hM, -⟩ := h.reads
  have hml := hM.lt
  have hl1 := look_x0 hM hx (w.alloc (.cells #[.int .u8 k, .int .i64 n, .string nm, .int .u8 tk, .string tn, .int .i64 tz, .slice ao m cap] 33)).drew (Below.heap_alloc _ _ _ hml)
  have hl2 := look_x0 hM hx ((w.alloc (.cells #[.int .u8 k, .int .i64 n, .string nm, .int .u8 tk, .string tn, .int .i64 tz, .slice ao m cap] 33)).alloc (.cells #[.int .i64 0, .bool false, .bool false, .bool false, .string ⟨#[]⟩] 103)).drew (two_heap hml _ _)
  clear h hM hx
  go_enter Tryd.func46, Tryd.ntmps46
  go_wp2_with fail
  go_region
  all_goals
    go_wp2_with fail
    refine (must_no _).mono ?_; rintro e w' ⟨rfl, rfl⟩
    exact ⟨rfl, Ends.arg rfl HB.out⟩
end Go.Proofs.YtflbplljlkpeiaaDoor
