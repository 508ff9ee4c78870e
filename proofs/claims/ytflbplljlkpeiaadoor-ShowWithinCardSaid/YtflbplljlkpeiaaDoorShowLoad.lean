/- A statement, and an expression within one, read as a whole, as the walk meets them in the show layer. -/
import Derived.Test.YtflbplljlkpeiaaDoorRows
import Derived.Test.YtflbplljlkpeiaaDoorProg
import Derived.Deep.MidRow
import Derived.Deep.WholeRow
import Derived.Laws.Rows
import Derived.Lib.Hide
namespace Go.Proofs.YtflbplljlkpeiaaDoor
open Go.RowKit

@[irreducible] noncomputable def loadS (a : Addr) : Sem Value := loadVar 57 a
theorem loadS_eq (a : Addr) : loadVar 57 a = loadS a := by unfold loadS; rfl
@[irreducible] noncomputable def loadX (a : Addr) : Sem Value := loadVar 33 a
theorem loadX_eq (a : Addr) : loadVar 33 a = loadX a := by unfold loadX; rfl

set_option maxRecDepth 100000 in
theorem loadS_of {w : World} {b : Nat} {T : TypeId} {fr : Nat × Nat} {a0 a1 a2 a3 a4 a5 a6 a7 a8 a9 a10 a11 a12 a13 a14 a15 a16 a17 a18 a19 a20 : Value} (h : w.heap[b]? = some (.cells #[a0, a1, a2, a3, a4, a5, a6, a7, a8, a9, a10, a11, a12, a13, a14, a15, a16, a17, a18, a19, a20] T fr)) :
    (loadS ⟨b, 0, none⟩).run Tryd.prog w = .ok (.agg #[a0, a1, a2, a3, a4, a5, a6, a7, a8, a9, a10, a11, a12, a13, a14, a15, a16, a17, a18, a19, a20]) w := by
  unfold loadS
  exact run_loadVar_row (P := Tryd.prog) w b T 57 _ fr ((Tryd.prog.underlying 57).getD (.array 0 0)) h (by kernel_rfl) (by kernel_rfl) (by kernel_rfl)

set_option maxRecDepth 100000 in
theorem loadX_of {w : World} {b : Nat} {T : TypeId} {fr : Nat × Nat} {a0 a1 a2 a3 a4 a5 a6 a7 a8 a9 a10 a11 a12 a13 a14 a15 a16 a17 a18 a19 a20 : Value} (h : w.heap[b]? = some (.cells #[a0, a1, a2, a3, a4, a5, a6, a7, a8, a9, a10, a11, a12, a13, a14, a15, a16, a17, a18, a19, a20] T fr)) :
    (loadX ⟨b, 5, none⟩).run Tryd.prog w = .ok (.agg #[a5, a6, a7, a8, a9, a10, a11]) w := by
  unfold loadX
  refine run_loadVar_mid (P := Tryd.prog) w b 5 33 [a5, a6, a7, a8, a9, a10, a11] ((Tryd.prog.underlying 33).getD (.array 0 0)) (fun j v hj => ?_) (by kernel_rfl) (by kernel_rfl) (by kernel_rfl)
  rw [cell_of_row w b (5 + j) _ _ _ h]
  rcases j with _ | _ | _ | _ | _ | _ | _ | j
  all_goals first | (simp only [List.getElem?_cons_zero, List.getElem?_cons_succ, Option.some.injEq] at hj; subst hj; rfl) | (simp at hj)

@[irreducible] noncomputable def storeS (a : Addr) (v : Value) : Sem Unit := storeVar 57 a v
theorem storeS_eq (a : Addr) (v : Value) : storeVar 57 a v = storeS a v := by unfold storeS; rfl

set_option maxRecDepth 100000 in
theorem storeS_new (w : World) (c' : Array Value) (hs : c'.size = 21) (h1 : c'.all (·.oneCell') = true) (c : Array Value) (hc : c.size = 21) :
    (storeS ⟨w.heap.size, 0, none⟩ (.agg c')).run Tryd.prog (w.alloc (.cells c 57)) = .ok () (w.alloc (.cells c' 57)) := by
  unfold storeS
  exact run_storeVar_new (P := Tryd.prog) w 57 c c' (by rw [hs]; kernel_rfl) (by rw [hs, hc]) h1
end Go.Proofs.YtflbplljlkpeiaaDoor
