/- How the show layer's checker goes through a list of one statement, and through a program of one thread. -/
import Derived.Test.YtflbplljlkpeiaaDoorRows
import Derived.Test.YtflbplljlkpeiaaDoorShowStmt2
import Derived.LoopTactic
import Derived.LoopN
import Derived.WalkKit
import Derived.WalkSpells
import Derived.WalkLawsBesides
import Derived.Lib.Hide
namespace Go.Proofs.YtflbplljlkpeiaaDoor
open Go.RowKit

attribute [local go_sem ↓] loadS_eq storeS_eq

set_option maxRecDepth 100000 in
set_option maxHeartbeats 4000000 in
theorem clist_5 (B c b : Nat) (T : TypeId) (fr : Nat × Nat) (w : World) (h : Ck B c 0 w) (_hbw : b < w.heap.size) (hO : w.heap[b]? = some (.cells #[.int .u8 5, .string ⟨#[]⟩, .int .u8 0, .string ⟨#[]⟩, .int .i64 0, .int .u8 0, .int .i64 0, .string ⟨#[]⟩, .int .u8 0, .string ⟨#[]⟩, .int .i64 0, .slice none 0 0, .int .u8 0, .int .i64 0, .string ⟨#[]⟩, .int .u8 0, .string ⟨#[]⟩, .int .i64 0, .slice none 0 0, .slice none 0 0, .slice none 0 0] T fr)) :
    Calls Tryd.prog 67 #[.pointer (some ⟨c, 0, none⟩), .slice (some ⟨b, 0, none⟩) 1 1, .int .i64 1] w (Went B c (.ok 1) w) := by
  have hlt := h.lt
  obtain ⟨W1, hW1⟩ : ∃ W1, W1 = w.alloc (.cells #[.int .u8 5, .string ⟨#[]⟩, .int .u8 0, .string ⟨#[]⟩, .int .i64 0, .int .u8 0, .int .i64 0, .string ⟨#[]⟩, .int .u8 0, .string ⟨#[]⟩, .int .i64 0, .slice none 0 0, .int .u8 0, .int .i64 0, .string ⟨#[]⟩, .int .u8 0, .string ⟨#[]⟩, .int .i64 0, .slice none 0 0, .slice none 0 0, .slice none 0 0] 57) := ⟨_, rfl⟩
  have hz1 : W1.heap.size = w.heap.size + 1 := by rw [hW1]; simp
  have hD : Only c w W1 := by rw [hW1]; exact (Only.refl c w).alloc _
  have hC1 : Ck B c 0 W1 := by rw [hW1]; exact h.alloc _
  have hS := cstmt_atomic B c W1 hC1
  have hL0 := loadS_of hO
  have hL1 := loadS_of (show W1.heap[w.heap.size]? = some (.cells #[.int .u8 5, .string ⟨#[]⟩, .int .u8 0, .string ⟨#[]⟩, .int .i64 0, .int .u8 0, .int .i64 0, .string ⟨#[]⟩, .int .u8 0, .string ⟨#[]⟩, .int .i64 0, .slice none 0 0, .int .u8 0, .int .i64 0, .string ⟨#[]⟩, .int .u8 0, .string ⟨#[]⟩, .int .i64 0, .slice none 0 0, .slice none 0 0, .slice none 0 0] 57) by rw [hW1]; exact (MapKept.heap_alloc _ _).1)
  have hST := storeS_new w #[.int .u8 5, .string ⟨#[]⟩, .int .u8 0, .string ⟨#[]⟩, .int .i64 0, .int .u8 0, .int .i64 0, .string ⟨#[]⟩, .int .u8 0, .string ⟨#[]⟩, .int .i64 0, .slice none 0 0, .int .u8 0, .int .i64 0, .string ⟨#[]⟩, .int .u8 0, .string ⟨#[]⟩, .int .i64 0, .slice none 0 0, .slice none 0 0, .slice none 0 0] (by rfl) (by simp [Value.oneCell'])
  rw [hW1] at hL1 hS
  have HS := Lib.hid hS
  have HD := Lib.hid hD
  have HZ := Lib.hid hW1
  clear h hO hD hC1 hW1 hS
  go_enter Tryd.func67, Tryd.ntmps67
  go_wp2_with fail
  refine wp_loop_rounds 2 ?_
  rw [rounds_succ]
  go_wp2_with fail
  refine HS.out.mono ?_; rintro e w2 hq
  rw [← HZ.out] at hq
  obtain ⟨rfl, hC2, hb⟩ := hq.yes rfl
  have HE := Lib.hid (Went.ok (rfl : (Except.ok 1 : Except Int Nat) = .ok 1) (HD.out.trans hb) hC2)
  clear hq hC2 hb hL0 hL1 hST
  go_wp2_with fail
  rw [rounds_succ]
  go_wp2_with fail
  go_end0
  exact HE.out

set_option maxRecDepth 100000 in
set_option maxHeartbeats 4000000 in
theorem clist_6 (x : X) (ao : Option Addr) (m cap : Nat) (hx : x.s = .slice ao m cap) (B c b : Nat) (T : TypeId) (fr : Nat × Nat) (w : World) (h : Ck B c 0 w) (hBw : B ≤ w.heap.size) (hI : InW w B x) (_hbw : b < w.heap.size) (hO : w.heap[b]? = some (.cells #[.int .u8 6, .string ⟨#[]⟩, .int .u8 0, .string ⟨#[]⟩, .int .i64 0, .int .u8 x.hd.k, .int .i64 x.hd.n, .string x.hd.name, .int .u8 x.hd.tk, .string x.hd.tn, .int .i64 x.hd.tz, .slice ao m cap, .int .u8 0, .int .i64 0, .string ⟨#[]⟩, .int .u8 0, .string ⟨#[]⟩, .int .i64 0, .slice none 0 0, .slice none 0 0, .slice none 0 0] T fr)) :
    Calls Tryd.prog 67 #[.pointer (some ⟨c, 0, none⟩), .slice (some ⟨b, 0, none⟩) 1 1, .int .i64 1] w (Went B c (chk 1 1 x) w) := by
  have hlt := h.lt
  obtain ⟨W1, hW1⟩ : ∃ W1, W1 = w.alloc (.cells #[.int .u8 6, .string ⟨#[]⟩, .int .u8 0, .string ⟨#[]⟩, .int .i64 0, .int .u8 x.hd.k, .int .i64 x.hd.n, .string x.hd.name, .int .u8 x.hd.tk, .string x.hd.tn, .int .i64 x.hd.tz, .slice ao m cap, .int .u8 0, .int .i64 0, .string ⟨#[]⟩, .int .u8 0, .string ⟨#[]⟩, .int .i64 0, .slice none 0 0, .slice none 0 0, .slice none 0 0] 57) := ⟨_, rfl⟩
  have hz1 : W1.heap.size = w.heap.size + 1 := by rw [hW1]; simp
  have hD : Only c w W1 := by rw [hW1]; exact (Only.refl c w).alloc _
  have hC1 : Ck B c 0 W1 := by rw [hW1]; exact h.alloc _
  have hS := cstmt_print x ao m cap hx B c W1 hC1 (by omega) (InW.keeps (hD.below h.1 hBw) _ hI)
  have hL0 := loadS_of hO
  have hL1 := loadS_of (show W1.heap[w.heap.size]? = some (.cells #[.int .u8 6, .string ⟨#[]⟩, .int .u8 0, .string ⟨#[]⟩, .int .i64 0, .int .u8 x.hd.k, .int .i64 x.hd.n, .string x.hd.name, .int .u8 x.hd.tk, .string x.hd.tn, .int .i64 x.hd.tz, .slice ao m cap, .int .u8 0, .int .i64 0, .string ⟨#[]⟩, .int .u8 0, .string ⟨#[]⟩, .int .i64 0, .slice none 0 0, .slice none 0 0, .slice none 0 0] 57) by rw [hW1]; exact (MapKept.heap_alloc _ _).1)
  have hST := storeS_new w #[.int .u8 6, .string ⟨#[]⟩, .int .u8 0, .string ⟨#[]⟩, .int .i64 0, .int .u8 x.hd.k, .int .i64 x.hd.n, .string x.hd.name, .int .u8 x.hd.tk, .string x.hd.tn, .int .i64 x.hd.tz, .slice ao m cap, .int .u8 0, .int .i64 0, .string ⟨#[]⟩, .int .u8 0, .string ⟨#[]⟩, .int .i64 0, .slice none 0 0, .slice none 0 0, .slice none 0 0] (by rfl) (by simp [Value.oneCell'])
  rw [hW1] at hL1 hS
  have HS := Lib.hid hS
  have HD := Lib.hid hD
  have HZ := Lib.hid hW1
  clear h hO hD hC1 hW1 hS hI hx
  go_enter Tryd.func67, Tryd.ntmps67
  go_wp2_with fail
  refine wp_loop_rounds 2 ?_
  rw [rounds_succ]
  go_wp2_with fail
  refine HS.out.mono ?_; rintro e w2 hq
  rw [← HZ.out] at hq
  cases hch : chk 1 1 x with
  | error k =>
    obtain ⟨rfl, hb⟩ := hq.not hch
    exact ⟨rfl, Went.no rfl (HD.out.trans hb)⟩
  | ok j =>
    obtain ⟨rfl, hC2, hb⟩ := hq.yes hch
    have HE := Lib.hid (Went.ok hch (HD.out.trans hb) hC2)
    clear hq hC2 hb hch hL0 hL1 hST
    go_wp2_with fail
    rw [rounds_succ]
    go_wp2_with fail
    go_end0
    exact HE.out


theorem cfields_nil (n : Int) (w : World) : Calls Tryd.prog 65 #[.slice none 0 0, .int .i64 n] w fun e w' => e = .returned (.tuple #[]) ∧ w = w' := by
  go_enter Tryd.func65, Tryd.ntmps65
  go_wp2_with fail
  refine wp_loop_rounds 1 ?_
  rw [rounds_succ]
  go_wp2_with fail
  go_end0
  exact ⟨rfl, rfl⟩

theorem cells_prog (a b c d : Value) {w : World} {g : Nat} {T : TypeId} {fr : Nat × Nat} (h : w.heap[g]? = some (.cells #[a, b, c, d] T fr)) :
    w.cell? ⟨g, 0, none⟩ = some a ∧ w.cell? ⟨g, 1, none⟩ = some b ∧ w.cell? ⟨g, 2, none⟩ = some c ∧ w.cell? ⟨g, 3, none⟩ = some d :=
  ⟨by rw [Lib.cell_of_heap h]; rfl, by rw [Lib.cell_of_heap h]; rfl, by rw [Lib.cell_of_heap h]; rfl, by rw [Lib.cell_of_heap h]; rfl⟩

set_option maxRecDepth 100000 in
set_option maxHeartbeats 4000000 in
theorem cprog_one (R : Except Int Nat) (B c b t : Nat) (T : TypeId) (fr : Nat × Nat) (w : World) (h : Ck B c 0 w) (htw : t < w.heap.size) (hO : w.heap[t]? = some (.cells #[.slice (some ⟨b, 0, none⟩) 1 1] T fr))
    (HS : ∀ w', Ck B c 0 w' → Only c w w' → Calls Tryd.prog 67 #[.pointer (some ⟨c, 0, none⟩), .slice (some ⟨b, 0, none⟩) 1 1, .int .i64 1] w' (Went B c R w')) :
    Calls Tryd.prog 43 #[.pointer (some ⟨c, 0, none⟩), .agg #[.slice none 0 0, .slice none 0 0, .slice none 0 0, .slice (some ⟨t, 0, none⟩) 1 1]] w (Went B c R w) := by
  have hlt := h.lt
  obtain ⟨W1, hW1⟩ : ∃ W1, W1 = w.alloc (.cells #[.slice none 0 0, .slice none 0 0, .slice none 0 0, .slice (some ⟨t, 0, none⟩) 1 1] 43) := ⟨_, rfl⟩
  have hz1 : W1.heap.size = w.heap.size + 1 := by rw [hW1]; simp
  have hD : Only c w W1 := by rw [hW1]; exact (Only.refl c w).alloc _
  have hC1 : Ck B c 0 W1 := by rw [hW1]; exact h.alloc _
  have hS := HS W1 hC1 hD
  have hOt : W1.heap[t]? = some (.cells #[.slice (some ⟨b, 0, none⟩) 1 1] T fr) := by rw [hW1, Below.heap_alloc _ _ _ htw]; exact hO
  obtain ⟨p0, p1, p2, p3⟩ := cells_prog _ _ _ _ (show W1.heap[w.heap.size]? = some (.cells #[.slice none 0 0, .slice none 0 0, .slice none 0 0, .slice (some ⟨t, 0, none⟩) 1 1] 43) by rw [hW1]; exact (MapKept.heap_alloc _ _).1)
  have hct : W1.cell? ⟨t, 0, none⟩ = some (.slice (some ⟨b, 0, none⟩) 1 1) := by rw [Lib.cell_of_heap hOt]; rfl
  rw [hW1] at p0 p1 p2 p3 hct hS
  have HSS := Lib.hid hS
  have HD := Lib.hid hD
  have HZ := Lib.hid hW1
  clear h hO hOt hD hC1 hW1 hS HS
  go_enter Tryd.func43, Tryd.ntmps43
  go_wp2_with fail
  refine wp_loop_rounds 1 ?_
  rw [rounds_succ]
  go_wp2_with (go_at_call 65; refine (cfields_nil _ _).mono ?_; rintro e w' ⟨rfl, rfl⟩)
  refine wp_loop_rounds 1 ?_
  rw [rounds_succ]
  go_wp2_with fail
  refine wp_loop_rounds 2 ?_
  rw [rounds_succ]
  go_wp2_with fail
  refine (most_yes 1 4 (by decide) _).mono ?_; rintro e w' ⟨rfl, rfl⟩
  go_wp2_with fail
  refine HSS.out.mono ?_; rintro e w2 hq
  rw [← HZ.out] at hq
  cases R with
  | error k =>
    obtain ⟨rfl, hb⟩ := hq.not rfl
    exact ⟨rfl, Went.no rfl (HD.out.trans hb)⟩
  | ok j =>
    obtain ⟨rfl, hC2, hb⟩ := hq.yes rfl
    have HE := Lib.hid (Went.ok (rfl : (Except.ok j : Except Int Nat) = .ok j) (HD.out.trans hb) hC2)
    clear hq hC2 hb p0 p1 p2 p3 hct
    go_wp2_with fail
    rw [rounds_succ]
    go_wp2_with fail
    go_end0
    exact HE.out
end Go.Proofs.YtflbplljlkpeiaaDoor
