/- How many statements and expressions a list of one statement has, as the show layer counts them. -/
import Derived.Test.YtflbplljlkpeiaaDoorRows
import Derived.Test.YtflbplljlkpeiaaDoorShowItems
import Derived.Test.YtflbplljlkpeiaaDoorShowLoad
import Derived.Test.YtflbplljlkpeiaaDoorShowNone
import Derived.Deep.DrawnRows
import Derived.RegionTactic
import Derived.Deep.RegionHeld3
import Derived.LoopTactic
import Derived.LoopN
import Derived.WalkKit
import Derived.WalkSpells
import Derived.WalkLawsBesides
import Derived.Lib.Hide
namespace Go.Proofs.YtflbplljlkpeiaaDoor
open Go.RowKit

set_option maxRecDepth 100000 in
theorem loadX_from {w : World} {b : Nat} {T : TypeId} {fr : Nat × Nat} {cs : Array Value} (h : w.heap[b]? = some (.cells cs T fr)) (off : Nat) (c0 c1 c2 c3 c4 c5 c6 : Value) (hc : (cs.toList.drop off).take 7 = [c0, c1, c2, c3, c4, c5, c6]) :
    (loadX ⟨b, off, none⟩).run Tryd.prog w = .ok (.agg #[c0, c1, c2, c3, c4, c5, c6]) w := by
  unfold loadX
  refine run_loadVar_mid (P := Tryd.prog) w b off 33 [c0, c1, c2, c3, c4, c5, c6] ((Tryd.prog.underlying 33).getD (.array 0 0)) (fun j v hj => ?_) (by kernel_rfl) (by kernel_rfl) (by kernel_rfl)
  rw [cell_of_row w b (off + j) _ _ _ h]
  rw [← hc, List.getElem?_take] at hj
  split at hj
  · rw [List.getElem?_drop] at hj
    simpa using hj
  · cases hj

def Own2 (b : Nat) (w : World) : Prop := w.cell? ⟨b, 19, none⟩ = some (.slice none 0 0) ∧ w.cell? ⟨b, 20, none⟩ = some (.slice none 0 0)
theorem Own2.of {w : World} {b : Nat} {T : TypeId} {fr : Nat × Nat} {cs : Array Value} (h : w.heap[b]? = some (.cells cs T fr)) (h1 : cs[19]? = some (.slice none 0 0)) (h2 : cs[20]? = some (.slice none 0 0)) : Own2 b w := ⟨by rw [Lib.cell_of_heap h]; exact h1, by rw [Lib.cell_of_heap h]; exact h2⟩

theorem none_nul (w : World) : Calls Tryd.prog 55 #[.agg #[.int .u8 0, .int .i64 0, .string ⟨#[]⟩, .int .u8 0, .string ⟨#[]⟩, .int .i64 0, .slice none 0 0]] w fun e w' => e = .returned (.bool true) ∧ Below w.heap.size w w' :=
  none_any ⟨0, 0, ⟨#[]⟩, 0, ⟨#[]⟩, 0⟩ none 0 0 w

attribute [local go_sem ↓] loadS_eq storeS_eq loadX_eq bls_eq Go.wp_at_zero Go.wp_at_succ

set_option maxRecDepth 100000 in
set_option maxHeartbeats 4000000 in
theorem ilist_none (x : X) (ao : Option Addr) (m cap : Nat) (hx : x.s = .slice ao m cap) (hn : noneH x.hd m = true) (b : Nat) (T : TypeId) (fr : Nat × Nat) (w : World) (hI : InW w w.heap.size x) (hz : X.sizes x.args ≤ 262144)
    (hO : w.heap[b]? = some (.cells #[.int .u8 6, .string ⟨#[]⟩, .int .u8 0, .string ⟨#[]⟩, .int .i64 0, .int .u8 x.hd.k, .int .i64 x.hd.n, .string x.hd.name, .int .u8 x.hd.tk, .string x.hd.tn, .int .i64 x.hd.tz, .slice ao m cap, .int .u8 0, .int .i64 0, .string ⟨#[]⟩, .int .u8 0, .string ⟨#[]⟩, .int .i64 0, .slice none 0 0, .slice none 0 0, .slice none 0 0] T fr)) :
    Calls Tryd.prog 30 #[.slice (some ⟨b, 0, none⟩) 1 1] w fun e w' => e = .returned (.int .i64 1) ∧ Below w.heap.size w w' := by
  obtain ⟨W1, hW1⟩ : ∃ W1, W1 = w.alloc (.cells #[.int .u8 6, .string ⟨#[]⟩, .int .u8 0, .string ⟨#[]⟩, .int .i64 0, .int .u8 x.hd.k, .int .i64 x.hd.n, .string x.hd.name, .int .u8 x.hd.tk, .string x.hd.tn, .int .i64 x.hd.tz, .slice ao m cap, .int .u8 0, .int .i64 0, .string ⟨#[]⟩, .int .u8 0, .string ⟨#[]⟩, .int .i64 0, .slice none 0 0, .slice none 0 0, .slice none 0 0] 57) := ⟨_, rfl⟩
  have hz1 : W1.heap.size = w.heap.size + 1 := by rw [hW1]; simp
  have hb1 : Below w.heap.size w W1 := by rw [hW1]; exact below_box w _
  have hO1 : W1.heap[w.heap.size]? = some (.cells #[.int .u8 6, .string ⟨#[]⟩, .int .u8 0, .string ⟨#[]⟩, .int .i64 0, .int .u8 x.hd.k, .int .i64 x.hd.n, .string x.hd.name, .int .u8 x.hd.tk, .string x.hd.tn, .int .i64 x.hd.tz, .slice ao m cap, .int .u8 0, .int .i64 0, .string ⟨#[]⟩, .int .u8 0, .string ⟨#[]⟩, .int .i64 0, .slice none 0 0, .slice none 0 0, .slice none 0 0] 57) := by rw [hW1]; exact (MapKept.heap_alloc _ _).1
  obtain ⟨W2, hW2⟩ : ∃ W2, W2 = W1.alloc (.cells #[.int .u8 x.hd.k, .int .i64 x.hd.n, .string x.hd.name, .int .u8 x.hd.tk, .string x.hd.tn, .int .i64 x.hd.tz, .slice ao m cap, .int .u8 0, .int .i64 0, .string ⟨#[]⟩, .int .u8 0, .string ⟨#[]⟩, .int .i64 0, .slice none 0 0] 33) := ⟨_, rfl⟩
  have hz2 : W2.heap.size = w.heap.size + 2 := by rw [hW2]; simp [hz1]
  have hb2 : Below w.heap.size w W2 := by rw [hW2]; exact hb1.trans ((below_box W1 _).mono (by omega))
  have hO2 : W2.heap[w.heap.size]? = some (.cells #[.int .u8 6, .string ⟨#[]⟩, .int .u8 0, .string ⟨#[]⟩, .int .i64 0, .int .u8 x.hd.k, .int .i64 x.hd.n, .string x.hd.name, .int .u8 x.hd.tk, .string x.hd.tn, .int .i64 x.hd.tz, .slice ao m cap, .int .u8 0, .int .i64 0, .string ⟨#[]⟩, .int .u8 0, .string ⟨#[]⟩, .int .i64 0, .slice none 0 0, .slice none 0 0, .slice none 0 0] 57) := by rw [hW2, Below.heap_alloc _ _ _ (by omega)]; exact hO1
  have hP2 : W2.heap[w.heap.size + 1]? = some (.cells #[.int .u8 x.hd.k, .int .i64 x.hd.n, .string x.hd.name, .int .u8 x.hd.tk, .string x.hd.tn, .int .i64 x.hd.tz, .slice ao m cap, .int .u8 0, .int .i64 0, .string ⟨#[]⟩, .int .u8 0, .string ⟨#[]⟩, .int .i64 0, .slice none 0 0] 33) := by rw [hW2, ← hz1]; exact (MapKept.heap_alloc _ _).1
  obtain ⟨W3, hW3⟩ : ∃ W3, W3 = W2.alloc (.cells #[.int .u8 x.hd.k, .int .i64 x.hd.n, .string x.hd.name, .int .u8 x.hd.tk, .string x.hd.tn, .int .i64 x.hd.tz, .slice ao m cap] 33) := ⟨_, rfl⟩
  have hz3 : W3.heap.size = w.heap.size + 3 := by rw [hW3]; simp [hz2]
  have hb3 : Below w.heap.size w W3 := by rw [hW3]; exact hb2.trans ((below_box W2 _).mono (by omega))
  have hO3 : W3.heap[w.heap.size]? = some (.cells #[.int .u8 6, .string ⟨#[]⟩, .int .u8 0, .string ⟨#[]⟩, .int .i64 0, .int .u8 x.hd.k, .int .i64 x.hd.n, .string x.hd.name, .int .u8 x.hd.tk, .string x.hd.tn, .int .i64 x.hd.tz, .slice ao m cap, .int .u8 0, .int .i64 0, .string ⟨#[]⟩, .int .u8 0, .string ⟨#[]⟩, .int .i64 0, .slice none 0 0, .slice none 0 0, .slice none 0 0] 57) := by rw [hW3, Below.heap_alloc _ _ _ (by omega)]; exact hO2
  have hP3 : W3.heap[w.heap.size + 1]? = some (.cells #[.int .u8 x.hd.k, .int .i64 x.hd.n, .string x.hd.name, .int .u8 x.hd.tk, .string x.hd.tn, .int .i64 x.hd.tz, .slice ao m cap, .int .u8 0, .int .i64 0, .string ⟨#[]⟩, .int .u8 0, .string ⟨#[]⟩, .int .i64 0, .slice none 0 0] 33) := by rw [hW3, Below.heap_alloc _ _ _ (by omega)]; exact hP2
  have hX3 : W3.heap[w.heap.size + 2]? = some (.cells #[.int .u8 x.hd.k, .int .i64 x.hd.n, .string x.hd.name, .int .u8 x.hd.tk, .string x.hd.tn, .int .i64 x.hd.tz, .slice ao m cap] 33) := by rw [hW3, ← hz2]; exact (MapKept.heap_alloc _ _).1
  have hL0 := loadS_of hO
  have hST := storeS_new w #[.int .u8 6, .string ⟨#[]⟩, .int .u8 0, .string ⟨#[]⟩, .int .i64 0, .int .u8 x.hd.k, .int .i64 x.hd.n, .string x.hd.name, .int .u8 x.hd.tk, .string x.hd.tn, .int .i64 x.hd.tz, .slice ao m cap, .int .u8 0, .int .i64 0, .string ⟨#[]⟩, .int .u8 0, .string ⟨#[]⟩, .int .i64 0, .slice none 0 0, .slice none 0 0, .slice none 0 0] (by rfl) (by simp [Value.oneCell'])
  have hL1 := loadX_of hO1
  have hL2 := loadX_from hO1 12 (.int .u8 0) (.int .i64 0) (.string ⟨#[]⟩) (.int .u8 0) (.string ⟨#[]⟩) (.int .i64 0) (.slice none 0 0) (by rfl)
  have hMP := made_pair x ao m cap W1
  have hL3 := loadX_from hP2 0 (.int .u8 x.hd.k) (.int .i64 x.hd.n) (.string x.hd.name) (.int .u8 x.hd.tk) (.string x.hd.tn) (.int .i64 x.hd.tz) (.slice ao m cap) (by rfl)
  have hL4 := loadX_from hX3 0 (.int .u8 x.hd.k) (.int .i64 x.hd.n) (.string x.hd.name) (.int .u8 x.hd.tk) (.string x.hd.tn) (.int .i64 x.hd.tz) (.slice ao m cap) (by rfl)
  have hN := none_any x.hd ao m cap W3
  rw [hn] at hN
  rw [hz1] at hMP
  rw [hW3, hW2, hW1] at hL4 hN
  rw [hW2, hW1] at hL3
  rw [hW1] at hL1 hL2 hMP
  have HN := Lib.hid hN
  have HO3 := Lib.hid hO3
  have HP3 := Lib.hid hP3
  have HX3 := Lib.hid hX3
  have HB3 := Lib.hid hb3
  have HI := Lib.hid hI
  have HV := Lib.hid hx
  have HZ := Lib.hid hz
  have HW := Lib.hid (show W3 = ((w.alloc (.cells #[.int .u8 6, .string ⟨#[]⟩, .int .u8 0, .string ⟨#[]⟩, .int .i64 0, .int .u8 x.hd.k, .int .i64 x.hd.n, .string x.hd.name, .int .u8 x.hd.tk, .string x.hd.tn, .int .i64 x.hd.tz, .slice ao m cap, .int .u8 0, .int .i64 0, .string ⟨#[]⟩, .int .u8 0, .string ⟨#[]⟩, .int .i64 0, .slice none 0 0, .slice none 0 0, .slice none 0 0] 57)).alloc (.cells #[.int .u8 x.hd.k, .int .i64 x.hd.n, .string x.hd.name, .int .u8 x.hd.tk, .string x.hd.tn, .int .i64 x.hd.tz, .slice ao m cap, .int .u8 0, .int .i64 0, .string ⟨#[]⟩, .int .u8 0, .string ⟨#[]⟩, .int .i64 0, .slice none 0 0] 33)).alloc (.cells #[.int .u8 x.hd.k, .int .i64 x.hd.n, .string x.hd.name, .int .u8 x.hd.tk, .string x.hd.tn, .int .i64 x.hd.tz, .slice ao m cap] 33) by rw [hW3, hW2, hW1])
  clear hN hO3 hP3 hX3 hb3 hb2 hb1 hO2 hP2 hO1 hI hx hn hO hW3 hW2 hW1 hz
  go_enter Tryd.func30, Tryd.ntmps30
  go_wp2_with fail
  refine wp_loop_rounds 2 ?_
  rw [rounds_succ]
  go_wp2_with fail
  refine wp_loop_rounds 3 ?_
  rw [rounds_succ]
  go_wp2_with fail
  refine HN.out.mono ?_; rintro e w4 ⟨rfl, hb4⟩
  rw [← HW.out] at hb4
  have hs4 := hb4.size
  have HO4 := Lib.hid ((hb4.block _ (by omega)).trans HO3.out)
  have HP4 := Lib.hid ((hb4.block _ (by omega)).trans HP3.out)
  have HX4 := Lib.hid ((hb4.block _ (by omega)).trans HX3.out)
  have HB4 := Lib.hid (HB3.out.trans (hb4.mono (by omega)))
  clear hb4 hL0 hST hL1 hL2 hMP hL3 hL4
  have hL6 := loadX_from HP4.out 7 (.int .u8 0) (.int .i64 0) (.string ⟨#[]⟩) (.int .u8 0) (.string ⟨#[]⟩) (.int .i64 0) (.slice none 0 0) (by rfl)
  have hL7 := loadX_from (show (w4.alloc (.cells #[.int .u8 0, .int .i64 0, .string ⟨#[]⟩, .int .u8 0, .string ⟨#[]⟩, .int .i64 0, .slice none 0 0] 33)).heap[w4.heap.size]? = _ from (MapKept.heap_alloc _ _).1) 0 (.int .u8 0) (.int .i64 0) (.string ⟨#[]⟩) (.int .u8 0) (.string ⟨#[]⟩) (.int .i64 0) (.slice none 0 0) (by rfl)
  have HN6 := Lib.hid (none_nul (w4.alloc (.cells #[.int .u8 0, .int .i64 0, .string ⟨#[]⟩, .int .u8 0, .string ⟨#[]⟩, .int .i64 0, .slice none 0 0] 33)))
  have HB6 := Lib.hid (HB4.out.trans ((below_box w4 (.cells #[.int .u8 0, .int .i64 0, .string ⟨#[]⟩, .int .u8 0, .string ⟨#[]⟩, .int .i64 0, .slice none 0 0] 33)).mono (by omega)))
  have HO6 := Lib.hid (show (w4.alloc (.cells #[.int .u8 0, .int .i64 0, .string ⟨#[]⟩, .int .u8 0, .string ⟨#[]⟩, .int .i64 0, .slice none 0 0] 33)).heap[w.heap.size]? = some (.cells #[.int .u8 6, .string ⟨#[]⟩, .int .u8 0, .string ⟨#[]⟩, .int .i64 0, .int .u8 x.hd.k, .int .i64 x.hd.n, .string x.hd.name, .int .u8 x.hd.tk, .string x.hd.tn, .int .i64 x.hd.tz, .slice ao m cap, .int .u8 0, .int .i64 0, .string ⟨#[]⟩, .int .u8 0, .string ⟨#[]⟩, .int .i64 0, .slice none 0 0, .slice none 0 0, .slice none 0 0] 57) by rw [Below.heap_alloc _ _ _ (by omega)]; exact HO4.out)
  go_wp2_with fail
  rw [rounds_succ]
  go_wp2_with fail
  refine HN6.out.mono ?_; rintro e w7 ⟨rfl, hb7⟩
  have hs7 := hb7.size
  simp at hs7
  have HO7 := Lib.hid ((hb7.block _ (by simp; omega)).trans HO6.out)
  have HB7 := Lib.hid (HB6.out.trans (hb7.mono HB6.out.size))
  clear hb7 hL6 hL7
  go_wp2_with fail
  rw [rounds_succ]
  go_wp2_with fail
  refine wp_region_held_drew (S := Own2 w.heap.size) (by kernel_rfl) (Own2.of HO7.out rfl rfl) (fun hSw => ?_)
  refine wpAnyH_take (i := 0) (oi := { dst := some 36, op := Op.move (Operand.tmp 3), type := 3, pos := "show.go:61", after := #[], guard := none }) (v := .int .i64 1) rfl (by kernel_rfl) (by kernel_rfl) (by kernel_rfl) (fun _ _ _ h => h) (Or.inl ⟨by rfl, fun W hW => ?_⟩) hSw ?_
  · obtain ⟨s0, s1⟩ := hW
    first | (go_simp; done) | rfl
  try simp only [Act.put, List.setIfInBounds_toArray, List.set_cons_zero, List.set_cons_succ]
  refine wpAnyH_take (i := 1) (oi := { dst := some 37, op := Op.fieldAddr 57 (Operand.tmp 5) 5, type := 0, pos := "show.go:61", after := #[], guard := none }) (v := .pointer (some ⟨w.heap.size, 19, none⟩)) rfl (by kernel_rfl) (by kernel_rfl) (by kernel_rfl) (fun _ _ _ h => h) (Or.inl ⟨by rfl, fun W hW => ?_⟩) hSw ?_
  · obtain ⟨s0, s1⟩ := hW
    first | (go_simp; done) | rfl
  try simp only [Act.put, List.setIfInBounds_toArray, List.set_cons_zero, List.set_cons_succ]
  refine wpAnyH_take (i := 2) (oi := { dst := some 38, op := Op.load 55 (Operand.tmp 37), type := 55, pos := "show.go:61", after := #[{ on := 1, ground := Ground.data }], guard := none }) (v := .slice none 0 0) rfl (by kernel_rfl) (by kernel_rfl) (by kernel_rfl) (fun _ _ _ h => h) (Or.inl ⟨by rfl, fun W hW => ?_⟩) hSw ?_
  · obtain ⟨s0, s1⟩ := hW
    first | (go_simp; done) | rfl
  try simp only [Act.put, List.setIfInBounds_toArray, List.set_cons_zero, List.set_cons_succ]
  refine wpAnyH_take (i := 4) (oi := { dst := some 40, op := Op.fieldAddr 57 (Operand.tmp 5) 6, type := 0, pos := "show.go:61", after := #[], guard := none }) (v := .pointer (some ⟨w.heap.size, 20, none⟩)) rfl (by kernel_rfl) (by kernel_rfl) (by kernel_rfl) (fun _ _ _ h => h) (Or.inl ⟨by rfl, fun W hW => ?_⟩) hSw ?_
  · obtain ⟨s0, s1⟩ := hW
    first | (go_simp; done) | rfl
  try simp only [Act.put, List.setIfInBounds_toArray, List.set_cons_zero, List.set_cons_succ]
  refine wpAnyH_take (i := 5) (oi := { dst := some 41, op := Op.load 55 (Operand.tmp 40), type := 55, pos := "show.go:61", after := #[{ on := 4, ground := Ground.data }], guard := none }) (v := .slice none 0 0) rfl (by kernel_rfl) (by kernel_rfl) (by kernel_rfl) (fun _ _ _ h => h) (Or.inl ⟨by rfl, fun W hW => ?_⟩) hSw ?_
  · obtain ⟨s0, s1⟩ := hW
    first | (go_simp; done) | rfl
  try simp only [Act.put, List.setIfInBounds_toArray, List.set_cons_zero, List.set_cons_succ]
  refine wpAnyH_ready (rs := [3]) (by kernel_rfl) (by simp) ?_
  refine AllReadyH.cons (o := { dst := some 39, op := Op.call { callee := Callee.value (Operand.func 30), args := #[Operand.tmp 38], argTypes := #[55] }, type := 3, pos := "show.go:61", after := #[{ on := 2, ground := Ground.data }], guard := none }) rfl (fun K hK => ?_) AllReadyH.nil
  rw [if_pos (by rfl)]
  clear hSw
  go_simp
  refine (ilist_nil _).mono ?_; rintro e w8 ⟨rfl, rfl⟩
  refine hK.out _ _ (Own2.of HO7.out rfl rfl) (fun hSw => ?_)
  clear hK K
  try simp only [Act.put, List.setIfInBounds_toArray, List.set_cons_zero, List.set_cons_succ]
  refine wpAnyH_ready (rs := [6]) (by kernel_rfl) (by simp) ?_
  refine AllReadyH.cons (o := { dst := some 42, op := Op.call { callee := Callee.value (Operand.func 30), args := #[Operand.tmp 41], argTypes := #[55] }, type := 3, pos := "show.go:61", after := #[{ on := 5, ground := Ground.data }, { on := 3, ground := Ground.chain }], guard := none }) rfl (fun K hK => ?_) AllReadyH.nil
  rw [if_pos (by rfl)]
  clear hSw
  go_simp
  refine (ilist_nil _).mono ?_; rintro e w9 ⟨rfl, rfl⟩
  refine hK.out _ _ (Own2.of HO7.out rfl rfl) (fun hSw => ?_)
  clear hK K
  try simp only [Act.put, List.setIfInBounds_toArray, List.set_cons_zero, List.set_cons_succ]
  refine wpAnyH_take (i := 7) (oi := { dst := some 43, op := Op.binOp BinOp.add 3 (Operand.tmp 39) (Operand.tmp 42) 3, type := 3, pos := "show.go:61", after := #[{ on := 3, ground := Ground.data }, { on := 6, ground := Ground.data }], guard := none }) (v := .int .i64 0) rfl (by kernel_rfl) (by kernel_rfl) (by kernel_rfl) (fun _ _ _ h => h) (Or.inl ⟨by rfl, fun W hW => ?_⟩) hSw ?_
  · obtain ⟨s0, s1⟩ := hW
    first | (go_simp; done) | rfl
  try simp only [Act.put, List.setIfInBounds_toArray, List.set_cons_zero, List.set_cons_succ]
  refine wpAnyH_take (i := 8) (oi := { dst := some 44, op := Op.binOp BinOp.add 3 (Operand.tmp 36) (Operand.tmp 43) 3, type := 3, pos := "show.go:61", after := #[{ on := 0, ground := Ground.data }, { on := 7, ground := Ground.data }], guard := none }) (v := .int .i64 1) rfl (by kernel_rfl) (by kernel_rfl) (by kernel_rfl) (fun _ _ _ h => h) (Or.inl ⟨by rfl, fun W hW => ?_⟩) hSw ?_
  · obtain ⟨s0, s1⟩ := hW
    first | (go_simp; done) | rfl
  try simp only [Act.put, List.setIfInBounds_toArray, List.set_cons_zero, List.set_cons_succ]
  refine wpAnyH_take (i := 9) (oi := { dst := some 3, op := Op.assign (Operand.tmp 44), type := 3, pos := "show.go:61", after := #[{ on := 8, ground := Ground.data }, { on := 6, ground := Ground.chain }, { on := 0, ground := Ground.phase }, { on := 1, ground := Ground.phase }, { on := 2, ground := Ground.phase }, { on := 3, ground := Ground.phase }, { on := 4, ground := Ground.phase }, { on := 5, ground := Ground.phase }, { on := 6, ground := Ground.phase }, { on := 7, ground := Ground.phase }, { on := 8, ground := Ground.phase }], guard := none }) (v := .int .i64 1) rfl (by kernel_rfl) (by kernel_rfl) (by kernel_rfl) (fun _ _ _ h => h) (Or.inl ⟨by rfl, fun W hW => ?_⟩) hSw ?_
  · obtain ⟨s0, s1⟩ := hW
    first | (go_simp; done) | rfl
  try simp only [Act.put, List.setIfInBounds_toArray, List.set_cons_zero, List.set_cons_succ]
  refine wpAnyH_done (by kernel_rfl) ?_ _
  go_wp2_with fail
  rw [rounds_succ]
  go_wp2_with fail
  go_ret
  exact ⟨rfl, HB7.out.drew⟩

set_option maxRecDepth 100000 in
set_option maxHeartbeats 4000000 in
theorem ilist_some (x : X) (ao : Option Addr) (m cap : Nat) (hx : x.s = .slice ao m cap) (hn : noneH x.hd m = false) (b : Nat) (T : TypeId) (fr : Nat × Nat) (w : World) (hI : InW w w.heap.size x) (hz : X.sizes x.args ≤ 262144)
    (hO : w.heap[b]? = some (.cells #[.int .u8 6, .string ⟨#[]⟩, .int .u8 0, .string ⟨#[]⟩, .int .i64 0, .int .u8 x.hd.k, .int .i64 x.hd.n, .string x.hd.name, .int .u8 x.hd.tk, .string x.hd.tn, .int .i64 x.hd.tz, .slice ao m cap, .int .u8 0, .int .i64 0, .string ⟨#[]⟩, .int .u8 0, .string ⟨#[]⟩, .int .i64 0, .slice none 0 0, .slice none 0 0, .slice none 0 0] T fr)) :
    Calls Tryd.prog 30 #[.slice (some ⟨b, 0, none⟩) 1 1] w fun e w' => e = .returned (.int .i64 (1 + (1 + (X.sizes x.args : Int)))) ∧ Below w.heap.size w w' := by
  obtain ⟨W1, hW1⟩ : ∃ W1, W1 = w.alloc (.cells #[.int .u8 6, .string ⟨#[]⟩, .int .u8 0, .string ⟨#[]⟩, .int .i64 0, .int .u8 x.hd.k, .int .i64 x.hd.n, .string x.hd.name, .int .u8 x.hd.tk, .string x.hd.tn, .int .i64 x.hd.tz, .slice ao m cap, .int .u8 0, .int .i64 0, .string ⟨#[]⟩, .int .u8 0, .string ⟨#[]⟩, .int .i64 0, .slice none 0 0, .slice none 0 0, .slice none 0 0] 57) := ⟨_, rfl⟩
  have hz1 : W1.heap.size = w.heap.size + 1 := by rw [hW1]; simp
  have hb1 : Below w.heap.size w W1 := by rw [hW1]; exact below_box w _
  have hO1 : W1.heap[w.heap.size]? = some (.cells #[.int .u8 6, .string ⟨#[]⟩, .int .u8 0, .string ⟨#[]⟩, .int .i64 0, .int .u8 x.hd.k, .int .i64 x.hd.n, .string x.hd.name, .int .u8 x.hd.tk, .string x.hd.tn, .int .i64 x.hd.tz, .slice ao m cap, .int .u8 0, .int .i64 0, .string ⟨#[]⟩, .int .u8 0, .string ⟨#[]⟩, .int .i64 0, .slice none 0 0, .slice none 0 0, .slice none 0 0] 57) := by rw [hW1]; exact (MapKept.heap_alloc _ _).1
  obtain ⟨W2, hW2⟩ : ∃ W2, W2 = W1.alloc (.cells #[.int .u8 x.hd.k, .int .i64 x.hd.n, .string x.hd.name, .int .u8 x.hd.tk, .string x.hd.tn, .int .i64 x.hd.tz, .slice ao m cap, .int .u8 0, .int .i64 0, .string ⟨#[]⟩, .int .u8 0, .string ⟨#[]⟩, .int .i64 0, .slice none 0 0] 33) := ⟨_, rfl⟩
  have hz2 : W2.heap.size = w.heap.size + 2 := by rw [hW2]; simp [hz1]
  have hb2 : Below w.heap.size w W2 := by rw [hW2]; exact hb1.trans ((below_box W1 _).mono (by omega))
  have hO2 : W2.heap[w.heap.size]? = some (.cells #[.int .u8 6, .string ⟨#[]⟩, .int .u8 0, .string ⟨#[]⟩, .int .i64 0, .int .u8 x.hd.k, .int .i64 x.hd.n, .string x.hd.name, .int .u8 x.hd.tk, .string x.hd.tn, .int .i64 x.hd.tz, .slice ao m cap, .int .u8 0, .int .i64 0, .string ⟨#[]⟩, .int .u8 0, .string ⟨#[]⟩, .int .i64 0, .slice none 0 0, .slice none 0 0, .slice none 0 0] 57) := by rw [hW2, Below.heap_alloc _ _ _ (by omega)]; exact hO1
  have hP2 : W2.heap[w.heap.size + 1]? = some (.cells #[.int .u8 x.hd.k, .int .i64 x.hd.n, .string x.hd.name, .int .u8 x.hd.tk, .string x.hd.tn, .int .i64 x.hd.tz, .slice ao m cap, .int .u8 0, .int .i64 0, .string ⟨#[]⟩, .int .u8 0, .string ⟨#[]⟩, .int .i64 0, .slice none 0 0] 33) := by rw [hW2, ← hz1]; exact (MapKept.heap_alloc _ _).1
  obtain ⟨W3, hW3⟩ : ∃ W3, W3 = W2.alloc (.cells #[.int .u8 x.hd.k, .int .i64 x.hd.n, .string x.hd.name, .int .u8 x.hd.tk, .string x.hd.tn, .int .i64 x.hd.tz, .slice ao m cap] 33) := ⟨_, rfl⟩
  have hz3 : W3.heap.size = w.heap.size + 3 := by rw [hW3]; simp [hz2]
  have hb3 : Below w.heap.size w W3 := by rw [hW3]; exact hb2.trans ((below_box W2 _).mono (by omega))
  have hO3 : W3.heap[w.heap.size]? = some (.cells #[.int .u8 6, .string ⟨#[]⟩, .int .u8 0, .string ⟨#[]⟩, .int .i64 0, .int .u8 x.hd.k, .int .i64 x.hd.n, .string x.hd.name, .int .u8 x.hd.tk, .string x.hd.tn, .int .i64 x.hd.tz, .slice ao m cap, .int .u8 0, .int .i64 0, .string ⟨#[]⟩, .int .u8 0, .string ⟨#[]⟩, .int .i64 0, .slice none 0 0, .slice none 0 0, .slice none 0 0] 57) := by rw [hW3, Below.heap_alloc _ _ _ (by omega)]; exact hO2
  have hP3 : W3.heap[w.heap.size + 1]? = some (.cells #[.int .u8 x.hd.k, .int .i64 x.hd.n, .string x.hd.name, .int .u8 x.hd.tk, .string x.hd.tn, .int .i64 x.hd.tz, .slice ao m cap, .int .u8 0, .int .i64 0, .string ⟨#[]⟩, .int .u8 0, .string ⟨#[]⟩, .int .i64 0, .slice none 0 0] 33) := by rw [hW3, Below.heap_alloc _ _ _ (by omega)]; exact hP2
  have hX3 : W3.heap[w.heap.size + 2]? = some (.cells #[.int .u8 x.hd.k, .int .i64 x.hd.n, .string x.hd.name, .int .u8 x.hd.tk, .string x.hd.tn, .int .i64 x.hd.tz, .slice ao m cap] 33) := by rw [hW3, ← hz2]; exact (MapKept.heap_alloc _ _).1
  have hL0 := loadS_of hO
  have hST := storeS_new w #[.int .u8 6, .string ⟨#[]⟩, .int .u8 0, .string ⟨#[]⟩, .int .i64 0, .int .u8 x.hd.k, .int .i64 x.hd.n, .string x.hd.name, .int .u8 x.hd.tk, .string x.hd.tn, .int .i64 x.hd.tz, .slice ao m cap, .int .u8 0, .int .i64 0, .string ⟨#[]⟩, .int .u8 0, .string ⟨#[]⟩, .int .i64 0, .slice none 0 0, .slice none 0 0, .slice none 0 0] (by rfl) (by simp [Value.oneCell'])
  have hL1 := loadX_of hO1
  have hL2 := loadX_from hO1 12 (.int .u8 0) (.int .i64 0) (.string ⟨#[]⟩) (.int .u8 0) (.string ⟨#[]⟩) (.int .i64 0) (.slice none 0 0) (by rfl)
  have hMP := made_pair x ao m cap W1
  have hL3 := loadX_from hP2 0 (.int .u8 x.hd.k) (.int .i64 x.hd.n) (.string x.hd.name) (.int .u8 x.hd.tk) (.string x.hd.tn) (.int .i64 x.hd.tz) (.slice ao m cap) (by rfl)
  have hL4 := loadX_from hX3 0 (.int .u8 x.hd.k) (.int .i64 x.hd.n) (.string x.hd.name) (.int .u8 x.hd.tk) (.string x.hd.tn) (.int .i64 x.hd.tz) (.slice ao m cap) (by rfl)
  have hN := none_any x.hd ao m cap W3
  rw [hn] at hN
  rw [hz1] at hMP
  rw [hW3, hW2, hW1] at hL4 hN
  rw [hW2, hW1] at hL3
  rw [hW1] at hL1 hL2 hMP
  have HN := Lib.hid hN
  have HO3 := Lib.hid hO3
  have HP3 := Lib.hid hP3
  have HX3 := Lib.hid hX3
  have HB3 := Lib.hid hb3
  have HI := Lib.hid hI
  have HV := Lib.hid hx
  have HZ := Lib.hid hz
  have HW := Lib.hid (show W3 = ((w.alloc (.cells #[.int .u8 6, .string ⟨#[]⟩, .int .u8 0, .string ⟨#[]⟩, .int .i64 0, .int .u8 x.hd.k, .int .i64 x.hd.n, .string x.hd.name, .int .u8 x.hd.tk, .string x.hd.tn, .int .i64 x.hd.tz, .slice ao m cap, .int .u8 0, .int .i64 0, .string ⟨#[]⟩, .int .u8 0, .string ⟨#[]⟩, .int .i64 0, .slice none 0 0, .slice none 0 0, .slice none 0 0] 57)).alloc (.cells #[.int .u8 x.hd.k, .int .i64 x.hd.n, .string x.hd.name, .int .u8 x.hd.tk, .string x.hd.tn, .int .i64 x.hd.tz, .slice ao m cap, .int .u8 0, .int .i64 0, .string ⟨#[]⟩, .int .u8 0, .string ⟨#[]⟩, .int .i64 0, .slice none 0 0] 33)).alloc (.cells #[.int .u8 x.hd.k, .int .i64 x.hd.n, .string x.hd.name, .int .u8 x.hd.tk, .string x.hd.tn, .int .i64 x.hd.tz, .slice ao m cap] 33) by rw [hW3, hW2, hW1])
  clear hN hO3 hP3 hX3 hb3 hb2 hb1 hO2 hP2 hO1 hI hx hn hO hW3 hW2 hW1 hz
  go_enter Tryd.func30, Tryd.ntmps30
  go_wp2_with fail
  refine wp_loop_rounds 2 ?_
  rw [rounds_succ]
  go_wp2_with fail
  refine wp_loop_rounds 3 ?_
  rw [rounds_succ]
  go_wp2_with fail
  refine HN.out.mono ?_; rintro e w4 ⟨rfl, hb4⟩
  rw [← HW.out] at hb4
  have hs4 := hb4.size
  have HO4 := Lib.hid ((hb4.block _ (by omega)).trans HO3.out)
  have HP4 := Lib.hid ((hb4.block _ (by omega)).trans HP3.out)
  have HX4 := Lib.hid ((hb4.block _ (by omega)).trans HX3.out)
  have HB4 := Lib.hid (HB3.out.trans (hb4.mono (by omega)))
  clear hb4 hL0 hST hL1 hL2 hMP hL3 hL4
  have hs6 : w4.cell? ⟨w.heap.size + 2, 6, none⟩ = some (.slice ao m cap) := by rw [Lib.cell_of_heap HX4.out]; rfl
  have hA := items_all x w4 (InW.up HB4.out.size _ (InW.keeps HB4.out _ HI.out)) HZ.out
  rw [HV.out] at hA
  have HA := Lib.hid hA
  clear hA
  go_wp2_with fail
  refine HA.out.mono ?_; rintro e w5 ⟨rfl, hb5⟩
  have hs5 := hb5.size
  have HO5 := Lib.hid ((hb5.block _ (by omega)).trans HO4.out)
  have HP5 := Lib.hid ((hb5.block _ (by omega)).trans HP4.out)
  have HB5 := Lib.hid (HB4.out.trans (hb5.mono (by omega)))
  clear hb5 hs6
  have hz0 : (0 : Int) ≤ X.sizes x.args := by omega
  have hz9 : (X.sizes x.args : Int) ≤ 262144 := by have := HZ.out; omega
  generalize hzz : (X.sizes x.args : Int) = z at hz0 hz9 ⊢
  have hwr : IntKind.i64.wrap (1 + (1 + z)) = 1 + (1 + z) := by rw [IntKind.wrap_i64]; omega
  have hL6 := loadX_from HP5.out 7 (.int .u8 0) (.int .i64 0) (.string ⟨#[]⟩) (.int .u8 0) (.string ⟨#[]⟩) (.int .i64 0) (.slice none 0 0) (by rfl)
  have hL7 := loadX_from (show (w5.alloc (.cells #[.int .u8 0, .int .i64 0, .string ⟨#[]⟩, .int .u8 0, .string ⟨#[]⟩, .int .i64 0, .slice none 0 0] 33)).heap[w5.heap.size]? = _ from (MapKept.heap_alloc _ _).1) 0 (.int .u8 0) (.int .i64 0) (.string ⟨#[]⟩) (.int .u8 0) (.string ⟨#[]⟩) (.int .i64 0) (.slice none 0 0) (by rfl)
  have HN6 := Lib.hid (none_nul (w5.alloc (.cells #[.int .u8 0, .int .i64 0, .string ⟨#[]⟩, .int .u8 0, .string ⟨#[]⟩, .int .i64 0, .slice none 0 0] 33)))
  have HB6 := Lib.hid (HB5.out.trans ((below_box w5 (.cells #[.int .u8 0, .int .i64 0, .string ⟨#[]⟩, .int .u8 0, .string ⟨#[]⟩, .int .i64 0, .slice none 0 0] 33)).mono (by omega)))
  have HO6 := Lib.hid (show (w5.alloc (.cells #[.int .u8 0, .int .i64 0, .string ⟨#[]⟩, .int .u8 0, .string ⟨#[]⟩, .int .i64 0, .slice none 0 0] 33)).heap[w.heap.size]? = some (.cells #[.int .u8 6, .string ⟨#[]⟩, .int .u8 0, .string ⟨#[]⟩, .int .i64 0, .int .u8 x.hd.k, .int .i64 x.hd.n, .string x.hd.name, .int .u8 x.hd.tk, .string x.hd.tn, .int .i64 x.hd.tz, .slice ao m cap, .int .u8 0, .int .i64 0, .string ⟨#[]⟩, .int .u8 0, .string ⟨#[]⟩, .int .i64 0, .slice none 0 0, .slice none 0 0, .slice none 0 0] 57) by rw [Below.heap_alloc _ _ _ (by omega)]; exact HO5.out)
  go_wp2_with fail
  rw [rounds_succ]
  go_wp2_with fail
  refine HN6.out.mono ?_; rintro e w7 ⟨rfl, hb7⟩
  have hs7 := hb7.size
  simp at hs7
  have HO7 := Lib.hid ((hb7.block _ (by simp; omega)).trans HO6.out)
  have HB7 := Lib.hid (HB6.out.trans (hb7.mono HB6.out.size))
  clear hb7 hL6 hL7
  go_wp2_with fail
  rw [rounds_succ]
  go_wp2_with fail
  refine wp_region_held_drew (S := Own2 w.heap.size) (by kernel_rfl) (Own2.of HO7.out rfl rfl) (fun hSw => ?_)
  refine wpAnyH_take (i := 0) (oi := { dst := some 36, op := Op.move (Operand.tmp 3), type := 3, pos := "show.go:61", after := #[], guard := none }) (v := .int .i64 (1 + (1 + z))) rfl (by kernel_rfl) (by kernel_rfl) (by kernel_rfl) (fun _ _ _ h => h) (Or.inl ⟨by rfl, fun W hW => ?_⟩) hSw ?_
  · obtain ⟨s0, s1⟩ := hW
    first | (go_simp; done) | rfl
  try simp only [Act.put, List.setIfInBounds_toArray, List.set_cons_zero, List.set_cons_succ]
  refine wpAnyH_take (i := 1) (oi := { dst := some 37, op := Op.fieldAddr 57 (Operand.tmp 5) 5, type := 0, pos := "show.go:61", after := #[], guard := none }) (v := .pointer (some ⟨w.heap.size, 19, none⟩)) rfl (by kernel_rfl) (by kernel_rfl) (by kernel_rfl) (fun _ _ _ h => h) (Or.inl ⟨by rfl, fun W hW => ?_⟩) hSw ?_
  · obtain ⟨s0, s1⟩ := hW
    first | (go_simp; done) | rfl
  try simp only [Act.put, List.setIfInBounds_toArray, List.set_cons_zero, List.set_cons_succ]
  refine wpAnyH_take (i := 2) (oi := { dst := some 38, op := Op.load 55 (Operand.tmp 37), type := 55, pos := "show.go:61", after := #[{ on := 1, ground := Ground.data }], guard := none }) (v := .slice none 0 0) rfl (by kernel_rfl) (by kernel_rfl) (by kernel_rfl) (fun _ _ _ h => h) (Or.inl ⟨by rfl, fun W hW => ?_⟩) hSw ?_
  · obtain ⟨s0, s1⟩ := hW
    first | (go_simp; done) | rfl
  try simp only [Act.put, List.setIfInBounds_toArray, List.set_cons_zero, List.set_cons_succ]
  refine wpAnyH_take (i := 4) (oi := { dst := some 40, op := Op.fieldAddr 57 (Operand.tmp 5) 6, type := 0, pos := "show.go:61", after := #[], guard := none }) (v := .pointer (some ⟨w.heap.size, 20, none⟩)) rfl (by kernel_rfl) (by kernel_rfl) (by kernel_rfl) (fun _ _ _ h => h) (Or.inl ⟨by rfl, fun W hW => ?_⟩) hSw ?_
  · obtain ⟨s0, s1⟩ := hW
    first | (go_simp; done) | rfl
  try simp only [Act.put, List.setIfInBounds_toArray, List.set_cons_zero, List.set_cons_succ]
  refine wpAnyH_take (i := 5) (oi := { dst := some 41, op := Op.load 55 (Operand.tmp 40), type := 55, pos := "show.go:61", after := #[{ on := 4, ground := Ground.data }], guard := none }) (v := .slice none 0 0) rfl (by kernel_rfl) (by kernel_rfl) (by kernel_rfl) (fun _ _ _ h => h) (Or.inl ⟨by rfl, fun W hW => ?_⟩) hSw ?_
  · obtain ⟨s0, s1⟩ := hW
    first | (go_simp; done) | rfl
  try simp only [Act.put, List.setIfInBounds_toArray, List.set_cons_zero, List.set_cons_succ]
  refine wpAnyH_ready (rs := [3]) (by kernel_rfl) (by simp) ?_
  refine AllReadyH.cons (o := { dst := some 39, op := Op.call { callee := Callee.value (Operand.func 30), args := #[Operand.tmp 38], argTypes := #[55] }, type := 3, pos := "show.go:61", after := #[{ on := 2, ground := Ground.data }], guard := none }) rfl (fun K hK => ?_) AllReadyH.nil
  rw [if_pos (by rfl)]
  clear hSw
  go_simp
  refine (ilist_nil _).mono ?_; rintro e w8 ⟨rfl, rfl⟩
  refine hK.out _ _ (Own2.of HO7.out rfl rfl) (fun hSw => ?_)
  clear hK K
  try simp only [Act.put, List.setIfInBounds_toArray, List.set_cons_zero, List.set_cons_succ]
  refine wpAnyH_ready (rs := [6]) (by kernel_rfl) (by simp) ?_
  refine AllReadyH.cons (o := { dst := some 42, op := Op.call { callee := Callee.value (Operand.func 30), args := #[Operand.tmp 41], argTypes := #[55] }, type := 3, pos := "show.go:61", after := #[{ on := 5, ground := Ground.data }, { on := 3, ground := Ground.chain }], guard := none }) rfl (fun K hK => ?_) AllReadyH.nil
  rw [if_pos (by rfl)]
  clear hSw
  go_simp
  refine (ilist_nil _).mono ?_; rintro e w9 ⟨rfl, rfl⟩
  refine hK.out _ _ (Own2.of HO7.out rfl rfl) (fun hSw => ?_)
  clear hK K
  try simp only [Act.put, List.setIfInBounds_toArray, List.set_cons_zero, List.set_cons_succ]
  refine wpAnyH_take (i := 7) (oi := { dst := some 43, op := Op.binOp BinOp.add 3 (Operand.tmp 39) (Operand.tmp 42) 3, type := 3, pos := "show.go:61", after := #[{ on := 3, ground := Ground.data }, { on := 6, ground := Ground.data }], guard := none }) (v := .int .i64 0) rfl (by kernel_rfl) (by kernel_rfl) (by kernel_rfl) (fun _ _ _ h => h) (Or.inl ⟨by rfl, fun W hW => ?_⟩) hSw ?_
  · obtain ⟨s0, s1⟩ := hW
    first | (go_simp; done) | rfl
  try simp only [Act.put, List.setIfInBounds_toArray, List.set_cons_zero, List.set_cons_succ]
  refine wpAnyH_take (i := 8) (oi := { dst := some 44, op := Op.binOp BinOp.add 3 (Operand.tmp 36) (Operand.tmp 43) 3, type := 3, pos := "show.go:61", after := #[{ on := 0, ground := Ground.data }, { on := 7, ground := Ground.data }], guard := none }) (v := .int .i64 (1 + (1 + z))) rfl (by kernel_rfl) (by kernel_rfl) (by kernel_rfl) (fun _ _ _ h => h) (Or.inl ⟨by rfl, fun W hW => ?_⟩) hSw ?_
  · obtain ⟨s0, s1⟩ := hW
    go_simp
  try simp only [Act.put, List.setIfInBounds_toArray, List.set_cons_zero, List.set_cons_succ]
  refine wpAnyH_take (i := 9) (oi := { dst := some 3, op := Op.assign (Operand.tmp 44), type := 3, pos := "show.go:61", after := #[{ on := 8, ground := Ground.data }, { on := 6, ground := Ground.chain }, { on := 0, ground := Ground.phase }, { on := 1, ground := Ground.phase }, { on := 2, ground := Ground.phase }, { on := 3, ground := Ground.phase }, { on := 4, ground := Ground.phase }, { on := 5, ground := Ground.phase }, { on := 6, ground := Ground.phase }, { on := 7, ground := Ground.phase }, { on := 8, ground := Ground.phase }], guard := none }) (v := .int .i64 (1 + (1 + z))) rfl (by kernel_rfl) (by kernel_rfl) (by kernel_rfl) (fun _ _ _ h => h) (Or.inl ⟨by rfl, fun W hW => ?_⟩) hSw ?_
  · obtain ⟨s0, s1⟩ := hW
    first | (go_simp; done) | rfl
  try simp only [Act.put, List.setIfInBounds_toArray, List.set_cons_zero, List.set_cons_succ]
  refine wpAnyH_done (by kernel_rfl) ?_ _
  go_wp2_with fail
  rw [rounds_succ]
  go_wp2_with fail
  go_ret
  exact ⟨by rw [hzz]; rfl, HB7.out.drew⟩
end Go.Proofs.YtflbplljlkpeiaaDoor
