/- The statements' own program of one thread that tells an expression. -/
import Derived.Test.YtflbplljlkpeiaaDoorRows
import Derived.Test.YtflbplljlkpeiaaDoorShowProg
import Derived.Test.YtflbplljlkpeiaaDoorShowMade
import Derived.WalkKit
import Derived.WalkSpells
import Derived.WalkLawsBesides
import Derived.Lib.Hide
namespace Go.Proofs.YtflbplljlkpeiaaDoor
open Go.RowKit

/-- Such a program lies there. -/
def Lone (x : X) (ao : Option Addr) (m cap : Nat) (b : Nat) (w : World) : Prop :=
  w.heap[b]? = some (.cells #[.int .u8 6, .string ⟨#[]⟩, .int .u8 0, .string ⟨#[]⟩, .int .i64 0, .int .u8 x.hd.k, .int .i64 x.hd.n, .string x.hd.name, .int .u8 x.hd.tk, .string x.hd.tn, .int .i64 x.hd.tz, .slice ao m cap, .int .u8 0, .int .i64 0, .string ⟨#[]⟩, .int .u8 0, .string ⟨#[]⟩, .int .i64 0, .slice none 0 0, .slice none 0 0, .slice none 0 0] 57) ∧ w.heap[b + 1]? = some (.cells #[.slice (some ⟨b, 0, none⟩) 1 1] 55)
theorem Lone.keeps {x : X} {ao : Option Addr} {m cap b : Nat} {w w' : World} (h : Lone x ao m cap b w) (hb : Below w.heap.size w w') : Lone x ao m cap b w' :=
  ⟨(hb.block _ (Array.getElem?_eq_some_iff.1 h.1).1).trans h.1, (hb.block _ (Array.getElem?_eq_some_iff.1 h.2).1).trans h.2⟩

theorem lone_lies (x : X) (ao : Option Addr) (m cap : Nat) (w : World) (P : Array Value) (V : World) (hV : V = (((w.alloc (.cells #[.int .u8 x.hd.k, .int .i64 x.hd.n, .string x.hd.name, .int .u8 x.hd.tk, .string x.hd.tn, .int .i64 x.hd.tz, .slice ao m cap] 33)).alloc (.cells P 43)).alloc (.cells #[.int .u8 6, .string ⟨#[]⟩, .int .u8 0, .string ⟨#[]⟩, .int .i64 0, .int .u8 x.hd.k, .int .i64 x.hd.n, .string x.hd.name, .int .u8 x.hd.tk, .string x.hd.tn, .int .i64 x.hd.tz, .slice ao m cap, .int .u8 0, .int .i64 0, .string ⟨#[]⟩, .int .u8 0, .string ⟨#[]⟩, .int .i64 0, .slice none 0 0, .slice none 0 0, .slice none 0 0] 57)).alloc (.cells #[.slice (some ⟨w.heap.size + 2, 0, none⟩) 1 1] 55)) :
    V.heap[w.heap.size + 1]? = some (.cells P 43) ∧ Lone x ao m cap (w.heap.size + 2) V ∧ Below w.heap.size w V := by
  obtain ⟨W1, hW1⟩ : ∃ W1, W1 = w.alloc (.cells #[.int .u8 x.hd.k, .int .i64 x.hd.n, .string x.hd.name, .int .u8 x.hd.tk, .string x.hd.tn, .int .i64 x.hd.tz, .slice ao m cap] 33) := ⟨_, rfl⟩
  have hz1 : W1.heap.size = w.heap.size + 1 := by rw [hW1]; simp
  obtain ⟨W2, hW2⟩ : ∃ W2, W2 = W1.alloc (.cells P 43) := ⟨_, rfl⟩
  have hz2 : W2.heap.size = w.heap.size + 2 := by rw [hW2]; simp [hz1]
  obtain ⟨W3, hW3⟩ : ∃ W3, W3 = W2.alloc (.cells #[.int .u8 6, .string ⟨#[]⟩, .int .u8 0, .string ⟨#[]⟩, .int .i64 0, .int .u8 x.hd.k, .int .i64 x.hd.n, .string x.hd.name, .int .u8 x.hd.tk, .string x.hd.tn, .int .i64 x.hd.tz, .slice ao m cap, .int .u8 0, .int .i64 0, .string ⟨#[]⟩, .int .u8 0, .string ⟨#[]⟩, .int .i64 0, .slice none 0 0, .slice none 0 0, .slice none 0 0] 57) := ⟨_, rfl⟩
  have hz3 : W3.heap.size = w.heap.size + 3 := by rw [hW3]; simp [hz2]
  rw [← hW1, ← hW2, ← hW3] at hV
  have h1 : Below w.heap.size w W1 := by rw [hW1]; exact below_box w _
  have h2 : Below w.heap.size w W2 := by rw [hW2]; exact h1.trans ((below_box W1 _).mono (by omega))
  have h3 : Below w.heap.size w W3 := by rw [hW3]; exact h2.trans ((below_box W2 _).mono (by omega))
  refine ⟨?_, ⟨?_, ?_⟩, by rw [hV]; exact h3.trans ((below_box W3 _).mono (by omega))⟩
  · rw [hV, Below.heap_alloc _ _ _ (by omega), hW3, Below.heap_alloc _ _ _ (by omega), hW2, ← hz1]; exact (MapKept.heap_alloc _ _).1
  · rw [hV, Below.heap_alloc _ _ _ (by omega), hW3, ← hz2]; exact (MapKept.heap_alloc _ _).1
  · rw [hV, show w.heap.size + 2 + 1 = W3.heap.size by omega]; exact (MapKept.heap_alloc _ _).1

attribute [local go_sem ↓] bld_eq bls_eq
set_option maxRecDepth 20000 in
set_option maxHeartbeats 2000000 in
theorem alone_any (x : X) (ao : Option Addr) (m cap : Nat) (hx : x.s = .slice ao m cap) (w : World) :
    Calls Tryd.prog 12 #[x.val] w fun e w' => ∃ b, e = .returned (.agg #[.slice none 0 0, .slice none 0 0, .slice none 0 0, .slice (some ⟨b + 1, 0, none⟩) 1 1]) ∧ Lone x ao m cap b w' ∧ Below w.heap.size w w' := by
  rw [val_of hx]
  obtain ⟨W1, hW1⟩ : ∃ W1, W1 = w.alloc (.cells #[.int .u8 x.hd.k, .int .i64 x.hd.n, .string x.hd.name, .int .u8 x.hd.tk, .string x.hd.tn, .int .i64 x.hd.tz, .slice ao m cap] 33) := ⟨_, rfl⟩
  have hz1 : W1.heap.size = w.heap.size + 1 := by rw [hW1]; simp
  obtain ⟨W2, hW2⟩ : ∃ W2, W2 = W1.alloc (.cells #[.slice none 0 0, .slice none 0 0, .slice none 0 0, .slice none 0 0] 43) := ⟨_, rfl⟩
  have hz2 : W2.heap.size = w.heap.size + 2 := by rw [hW2]; simp [hz1]
  obtain ⟨W3, hW3⟩ : ∃ W3, W3 = W2.alloc (.cells #[.int .u8 6, .string ⟨#[]⟩, .int .u8 0, .string ⟨#[]⟩, .int .i64 0, .int .u8 x.hd.k, .int .i64 x.hd.n, .string x.hd.name, .int .u8 x.hd.tk, .string x.hd.tn, .int .i64 x.hd.tz, .slice ao m cap, .int .u8 0, .int .i64 0, .string ⟨#[]⟩, .int .u8 0, .string ⟨#[]⟩, .int .i64 0, .slice none 0 0, .slice none 0 0, .slice none 0 0] 57) := ⟨_, rfl⟩
  have hz3 : W3.heap.size = w.heap.size + 3 := by rw [hW3]; simp [hz2]
  have hX : W2.heap[w.heap.size]? = some (.cells #[.int .u8 x.hd.k, .int .i64 x.hd.n, .string x.hd.name, .int .u8 x.hd.tk, .string x.hd.tn, .int .i64 x.hd.tz, .slice ao m cap] 33) := by rw [hW2, Below.heap_alloc _ _ _ (by omega), hW1]; exact (MapKept.heap_alloc _ _).1
  obtain ⟨q0, q1, q2, q3, q4, q5, q6⟩ := own7 hX
  have m1 := made_print x ao m cap
  have m2 := made_stmts6 x ao m cap W2
  have m3 := made_lists (w.heap.size + 2) W3
  have m4 := made_threads (w.heap.size + 2 + 1)
  rw [hz2] at m2
  rw [hz3] at m3
  rw [hW2, hW1] at m2 q0 q1 q2 q3 q4 q5 q6
  rw [hW3, hW2, hW1] at m3
  have HF := Lib.hid (lone_lies x ao m cap w #[.slice none 0 0, .slice none 0 0, .slice none 0 0, .slice (some ⟨w.heap.size + 2 + 1, 0, none⟩) 1 1] _ rfl)
  have HR := Lib.hid (lone_lies x ao m cap w #[.slice none 0 0, .slice none 0 0, .slice none 0 0, .slice none 0 0] _ rfl)
  obtain ⟨hR, -, -⟩ := HR.out
  obtain ⟨r0, r1, r2, r3⟩ := own_prog _ _ _ _ hR
  have f0 := Lib.frozen_of_heap hR 0
  have f1 := Lib.frozen_of_heap hR 1
  have f2 := Lib.frozen_of_heap hR 2
  have f3 := Lib.frozen_of_heap hR 3
  clear hX hR hx hW1 hW2 hW3 hz1 hz2 hz3 HR
  go_enter Tryd.func12, Tryd.ntmps12
  go_wp2_with fail
  obtain ⟨g, hLo, hB⟩ := HF.out
  obtain ⟨g0, g1, g2, g3⟩ := own_prog _ _ _ _ g
  exact bodyPost_ret (v := .agg #[.slice none 0 0, .slice none 0 0, .slice none 0 0, .slice (some ⟨w.heap.size + 2 + 1, 0, none⟩) 1 1]) (by simp [results, Tryd.results12, go_sem, g0, g1, g2, g3]) rfl
    ⟨w.heap.size + 2, rfl, hLo, hB⟩
end Go.Proofs.YtflbplljlkpeiaaDoor
