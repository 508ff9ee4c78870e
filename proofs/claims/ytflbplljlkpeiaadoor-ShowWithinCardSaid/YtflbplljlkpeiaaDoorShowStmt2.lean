/- How the show layer's checker goes through a statement that tells an expression, and through an atomic block without statements. -/
import Derived.Test.YtflbplljlkpeiaaDoorRows
import Derived.Test.YtflbplljlkpeiaaDoorShowStmt
import Derived.Test.YtflbplljlkpeiaaDoorShowTop2
import Derived.Test.YtflbplljlkpeiaaDoorShowLoad
import Derived.LoopTactic
import Derived.WalkKit
import Derived.WalkSpells
import Derived.WalkLawsBesides
import Derived.Lib.Hide
namespace Go.Proofs.YtflbplljlkpeiaaDoor
open Go.RowKit

attribute [local go_sem ↓] loadS_eq loadX_eq

theorem own1920 {w : World} {b : Nat} {T : TypeId} {fr : Nat × Nat} {a0 a1 a2 a3 a4 a5 a6 a7 a8 a9 a10 a11 a12 a13 a14 a15 a16 a17 a18 a19 a20 : Value} (h : w.heap[b]? = some (.cells #[a0, a1, a2, a3, a4, a5, a6, a7, a8, a9, a10, a11, a12, a13, a14, a15, a16, a17, a18, a19, a20] T fr)) :
    w.cell? ⟨b, 19, none⟩ = some a19 ∧ w.cell? ⟨b, 20, none⟩ = some a20 :=
  ⟨by rw [Lib.cell_of_heap h]; rfl, by rw [Lib.cell_of_heap h]; rfl⟩

set_option maxRecDepth 100000 in
set_option maxHeartbeats 4000000 in
theorem cstmt_atomic (B c : Nat) (w : World) (h : Ck B c 0 w) :
    Calls Tryd.prog 80 #[.pointer (some ⟨c, 0, none⟩), .agg #[.int .u8 5, .string ⟨#[]⟩, .int .u8 0, .string ⟨#[]⟩, .int .i64 0, .int .u8 0, .int .i64 0, .string ⟨#[]⟩, .int .u8 0, .string ⟨#[]⟩, .int .i64 0, .slice none 0 0, .int .u8 0, .int .i64 0, .string ⟨#[]⟩, .int .u8 0, .string ⟨#[]⟩, .int .i64 0, .slice none 0 0, .slice none 0 0, .slice none 0 0], .int .i64 1] w (Went B c (.ok 1) w) := by
  have hlt := h.lt
  have hBc := h.1
  obtain ⟨W1, hW1⟩ : ∃ W1, W1 = w.alloc (.cells #[.int .u8 5, .string ⟨#[]⟩, .int .u8 0, .string ⟨#[]⟩, .int .i64 0, .int .u8 0, .int .i64 0, .string ⟨#[]⟩, .int .u8 0, .string ⟨#[]⟩, .int .i64 0, .slice none 0 0, .int .u8 0, .int .i64 0, .string ⟨#[]⟩, .int .u8 0, .string ⟨#[]⟩, .int .i64 0, .slice none 0 0, .slice none 0 0, .slice none 0 0] 57) := ⟨_, rfl⟩
  have hz1 : W1.heap.size = w.heap.size + 1 := by rw [hW1]; simp
  have hO : W1.heap[w.heap.size]? = some (.cells #[.int .u8 5, .string ⟨#[]⟩, .int .u8 0, .string ⟨#[]⟩, .int .i64 0, .int .u8 0, .int .i64 0, .string ⟨#[]⟩, .int .u8 0, .string ⟨#[]⟩, .int .i64 0, .slice none 0 0, .int .u8 0, .int .i64 0, .string ⟨#[]⟩, .int .u8 0, .string ⟨#[]⟩, .int .i64 0, .slice none 0 0, .slice none 0 0, .slice none 0 0] 57) := by rw [hW1]; exact (MapKept.heap_alloc _ _).1
  have hD : Only c w W1 := by rw [hW1]; exact (Only.refl c w).alloc _
  have hC1 : Ck B c 0 W1 := by rw [hW1]; exact h.alloc _
  have hIT := item_any B c 0 1 W1 hC1 (by omega) (by omega)
  rw [hW1] at hIT
  have HIT := Lib.hid hIT
  have HO := Lib.hid hO
  have HD := Lib.hid hD
  have HZ := Lib.hid hW1
  clear h hIT hO hD hC1 hW1
  go_enter Tryd.func80, Tryd.ntmps80
  go_wp2_with fail
  refine HIT.out.mono ?_; rintro e2 w2 hq; obtain ⟨rfl, hC2, hb⟩ := hq.yes (show itemR 1 0 = .ok 1 from rfl)
  rw [← HZ.out] at hb
  have hs2 := hb.size
  have hO2 : w2.heap[w.heap.size]? = some (.cells #[.int .u8 5, .string ⟨#[]⟩, .int .u8 0, .string ⟨#[]⟩, .int .i64 0, .int .u8 0, .int .i64 0, .string ⟨#[]⟩, .int .u8 0, .string ⟨#[]⟩, .int .i64 0, .slice none 0 0, .int .u8 0, .int .i64 0, .string ⟨#[]⟩, .int .u8 0, .string ⟨#[]⟩, .int .i64 0, .slice none 0 0, .slice none 0 0, .slice none 0 0] 57) := by rw [hb.block _ (by omega) (by omega)]; exact HO.out
  have hLS := loadS_of hO2
  have HF := Lib.hid (sform_5 B c 1 w2 hC2)
  have HO2 := Lib.hid hO2
  have HC2 := Lib.hid hC2
  have HD2 := Lib.hid (HD.out.trans hb)
  clear hb hO2 hC2 hq
  go_wp2_with fail
  clear hLS
  refine HF.out.mono ?_; rintro e w3 ⟨rfl, hb3⟩
  have hs3 := hb3.size
  obtain ⟨W4, hW4⟩ : ∃ W4, W4 = w3.alloc (.cells #[.bool false, .int .u8 0, .bool false, .bool true, .bool false] 117) := ⟨_, rfl⟩
  have hz4 : W4.heap.size = w3.heap.size + 1 := by rw [hW4]; simp
  have HO4 := Lib.hid (show W4.heap[w.heap.size]? = some (.cells #[.int .u8 5, .string ⟨#[]⟩, .int .u8 0, .string ⟨#[]⟩, .int .i64 0, .int .u8 0, .int .i64 0, .string ⟨#[]⟩, .int .u8 0, .string ⟨#[]⟩, .int .i64 0, .slice none 0 0, .int .u8 0, .int .i64 0, .string ⟨#[]⟩, .int .u8 0, .string ⟨#[]⟩, .int .i64 0, .slice none 0 0, .slice none 0 0, .slice none 0 0] 57) by rw [hW4, Below.heap_alloc _ _ _ (by omega)]; exact (hb3.block _ (by omega)).trans HO2.out)
  have HV4 := Lib.hid (show W4.heap[w3.heap.size]? = some (.cells #[.bool false, .int .u8 0, .bool false, .bool true, .bool false] 117) by rw [hW4]; exact (MapKept.heap_alloc _ _).1)
  have HC4 := Lib.hid (show Ck B c 1 W4 by rw [hW4]; exact (HC2.out.kept hb3).alloc _)
  have HD4 := Lib.hid (show Only c w W4 by rw [hW4]; exact (HD2.out.more hb3).alloc _)
  have HZ4 := Lib.hid hW4
  clear hb3 hW4
  have hLX := loadX_of HO4.out
  rw [HZ4.out] at hLX
  have hlt3 : w.heap.size < w3.heap.size := by omega
  go_wp2_with fail
  rw [← HZ4.out]
  refine (none_zero _).mono ?_; rintro e w5 ⟨rfl, hb5⟩
  clear hLX
  have hs5 := hb5.size
  have HO5 := Lib.hid ((hb5.block _ (by omega)).trans HO4.out)
  have HV5 := Lib.hid ((hb5.block _ (by omega)).trans HV4.out)
  have HC5 := Lib.hid (HC4.out.kept hb5)
  have HD5 := Lib.hid (HD4.out.more hb5)
  clear hb5
  have hLX := loadX_of HO5.out
  obtain ⟨s19, s20⟩ := own1920 HO5.out
  obtain ⟨v0, v1, v2, v3, v4⟩ := own5 HV5.out
  go_wp2_with (go_at_call 67; refine (list_nil _ _ _).mono ?_; rintro e w' ⟨rfl, rfl⟩)
  go_end0
  exact Went.ok rfl HD5.out HC5.out

set_option maxRecDepth 100000 in
set_option maxHeartbeats 4000000 in
theorem cstmt_some (x : X) (ao : Option Addr) (m cap : Nat) (hx : x.s = .slice ao m cap) (hn : noneH x.hd m = false) (B c : Nat) (w : World) (h : Ck B c 0 w) (hBw : B ≤ w.heap.size) (hI : InW w B x) :
    Calls Tryd.prog 80 #[.pointer (some ⟨c, 0, none⟩), .agg #[.int .u8 6, .string ⟨#[]⟩, .int .u8 0, .string ⟨#[]⟩, .int .i64 0, .int .u8 x.hd.k, .int .i64 x.hd.n, .string x.hd.name, .int .u8 x.hd.tk, .string x.hd.tn, .int .i64 x.hd.tz, .slice ao m cap, .int .u8 0, .int .i64 0, .string ⟨#[]⟩, .int .u8 0, .string ⟨#[]⟩, .int .i64 0, .slice none 0 0, .slice none 0 0, .slice none 0 0], .int .i64 1] w (Went B c (chk 1 1 x) w) := by
  have hlt := h.lt
  have hBc := h.1
  obtain ⟨W1, hW1⟩ : ∃ W1, W1 = w.alloc (.cells #[.int .u8 6, .string ⟨#[]⟩, .int .u8 0, .string ⟨#[]⟩, .int .i64 0, .int .u8 x.hd.k, .int .i64 x.hd.n, .string x.hd.name, .int .u8 x.hd.tk, .string x.hd.tn, .int .i64 x.hd.tz, .slice ao m cap, .int .u8 0, .int .i64 0, .string ⟨#[]⟩, .int .u8 0, .string ⟨#[]⟩, .int .i64 0, .slice none 0 0, .slice none 0 0, .slice none 0 0] 57) := ⟨_, rfl⟩
  have hz1 : W1.heap.size = w.heap.size + 1 := by rw [hW1]; simp
  have hO : W1.heap[w.heap.size]? = some (.cells #[.int .u8 6, .string ⟨#[]⟩, .int .u8 0, .string ⟨#[]⟩, .int .i64 0, .int .u8 x.hd.k, .int .i64 x.hd.n, .string x.hd.name, .int .u8 x.hd.tk, .string x.hd.tn, .int .i64 x.hd.tz, .slice ao m cap, .int .u8 0, .int .i64 0, .string ⟨#[]⟩, .int .u8 0, .string ⟨#[]⟩, .int .i64 0, .slice none 0 0, .slice none 0 0, .slice none 0 0] 57) := by rw [hW1]; exact (MapKept.heap_alloc _ _).1
  have hD : Only c w W1 := by rw [hW1]; exact (Only.refl c w).alloc _
  have hC1 : Ck B c 0 W1 := by rw [hW1]; exact h.alloc _
  have hIT := item_any B c 0 1 W1 hC1 (by omega) (by omega)
  rw [hW1] at hIT
  have HIT := Lib.hid hIT
  have HO := Lib.hid hO
  have HD := Lib.hid hD
  have HZ := Lib.hid hW1
  have HI := Lib.hid hI
  have HX := Lib.hid (fun w' h1 h2 h3 => cexpr_all x B c 1 1 1 w' rfl h1 h2 h3 (by omega) (by omega))
  have HV := Lib.hid (val_of hx)
  have hNN := fun w => none_any x.hd ao m cap w
  rw [hn] at hNN
  have HNN := Lib.hid hNN
  clear hNN hn hI hx
  clear h hIT hO hD hC1 hW1
  go_enter Tryd.func80, Tryd.ntmps80
  go_wp2_with fail
  refine HIT.out.mono ?_; rintro e2 w2 hq; obtain ⟨rfl, hC2, hb⟩ := hq.yes (show itemR 1 0 = .ok 1 from rfl)
  rw [← HZ.out] at hb
  have hs2 := hb.size
  have hO2 : w2.heap[w.heap.size]? = some (.cells #[.int .u8 6, .string ⟨#[]⟩, .int .u8 0, .string ⟨#[]⟩, .int .i64 0, .int .u8 x.hd.k, .int .i64 x.hd.n, .string x.hd.name, .int .u8 x.hd.tk, .string x.hd.tn, .int .i64 x.hd.tz, .slice ao m cap, .int .u8 0, .int .i64 0, .string ⟨#[]⟩, .int .u8 0, .string ⟨#[]⟩, .int .i64 0, .slice none 0 0, .slice none 0 0, .slice none 0 0] 57) := by rw [hb.block _ (by omega) (by omega)]; exact HO.out
  have hLS := loadS_of hO2
  have HF := Lib.hid (sform_6 B c 1 x.hd.k x.hd.n x.hd.tk x.hd.tz x.hd.name x.hd.tn ao m cap w2 hC2)
  have HO2 := Lib.hid hO2
  have HC2 := Lib.hid hC2
  have HD2 := Lib.hid (HD.out.trans hb)
  clear hb hO2 hC2 hq
  go_wp2_with fail
  clear hLS
  refine HF.out.mono ?_; rintro e w3 ⟨rfl, hb3⟩
  have hs3 := hb3.size
  obtain ⟨W4, hW4⟩ : ∃ W4, W4 = w3.alloc (.cells #[.bool false, .int .u8 2, .bool false, .bool false, .bool false] 117) := ⟨_, rfl⟩
  have hz4 : W4.heap.size = w3.heap.size + 1 := by rw [hW4]; simp
  have HO4 := Lib.hid (show W4.heap[w.heap.size]? = some (.cells #[.int .u8 6, .string ⟨#[]⟩, .int .u8 0, .string ⟨#[]⟩, .int .i64 0, .int .u8 x.hd.k, .int .i64 x.hd.n, .string x.hd.name, .int .u8 x.hd.tk, .string x.hd.tn, .int .i64 x.hd.tz, .slice ao m cap, .int .u8 0, .int .i64 0, .string ⟨#[]⟩, .int .u8 0, .string ⟨#[]⟩, .int .i64 0, .slice none 0 0, .slice none 0 0, .slice none 0 0] 57) by rw [hW4, Below.heap_alloc _ _ _ (by omega)]; exact (hb3.block _ (by omega)).trans HO2.out)
  have HV4 := Lib.hid (show W4.heap[w3.heap.size]? = some (.cells #[.bool false, .int .u8 2, .bool false, .bool false, .bool false] 117) by rw [hW4]; exact (MapKept.heap_alloc _ _).1)
  have HC4 := Lib.hid (show Ck B c 1 W4 by rw [hW4]; exact (HC2.out.kept hb3).alloc _)
  have HD4 := Lib.hid (show Only c w W4 by rw [hW4]; exact (HD2.out.more hb3).alloc _)
  have HZ4 := Lib.hid hW4
  clear hb3 hW4
  have hLX := loadX_of HO4.out
  rw [HZ4.out] at hLX
  have hlt3 : w.heap.size < w3.heap.size := by omega
  go_wp2_with fail
  rw [← HZ4.out]
  refine (HNN.out _).mono ?_; rintro e w5 ⟨rfl, hb5⟩
  clear hLX
  have hs5 := hb5.size
  have HO5 := Lib.hid ((hb5.block _ (by omega)).trans HO4.out)
  have HV5 := Lib.hid ((hb5.block _ (by omega)).trans HV4.out)
  have HC5 := Lib.hid (HC4.out.kept hb5)
  have HD5 := Lib.hid (HD4.out.more hb5)
  clear hb5
  have hLX := loadX_of HO5.out
  obtain ⟨s19, s20⟩ := own1920 HO5.out
  obtain ⟨v0, v1, v2, v3, v4⟩ := own5 HV5.out
  go_wp2_with fail
  have hEx := HX.out w5 HC5.out (by omega) (InW.keeps (HD5.out.below hBc hBw) _ HI.out)
  rw [HV.out] at hEx
  have HEX := Lib.hid hEx
  clear hEx
  refine HEX.out.mono ?_; rintro e6 w6 hq
  cases hch : chk 1 1 x with
  | error k =>
    obtain ⟨rfl, hb6⟩ := hq.not hch
    exact ⟨rfl, Went.no rfl (HD5.out.trans hb6)⟩
  | ok j =>
    obtain ⟨rfl, hC6, hb6⟩ := hq.yes hch
    have hs6 := hb6.size
    have HO6 := Lib.hid (show w6.heap[w.heap.size]? = some (.cells #[.int .u8 6, .string ⟨#[]⟩, .int .u8 0, .string ⟨#[]⟩, .int .i64 0, .int .u8 x.hd.k, .int .i64 x.hd.n, .string x.hd.name, .int .u8 x.hd.tk, .string x.hd.tn, .int .i64 x.hd.tz, .slice ao m cap, .int .u8 0, .int .i64 0, .string ⟨#[]⟩, .int .u8 0, .string ⟨#[]⟩, .int .i64 0, .slice none 0 0, .slice none 0 0, .slice none 0 0] 57) by rw [hb6.block _ (by omega) (by omega)]; exact HO5.out)
    have HV6 := Lib.hid (show w6.heap[w3.heap.size]? = some (.cells #[.bool false, .int .u8 2, .bool false, .bool false, .bool false] 117) by rw [hb6.block _ (by omega) (by omega)]; exact HV5.out)
    have HC6 := Lib.hid hC6
    have HD6 := Lib.hid (HD5.out.trans hb6)
    clear hC6 hb6 hq v0 v1 v2 v3 v4
    clear hLX s19 s20
    obtain ⟨s19, s20⟩ := own1920 HO6.out
    obtain ⟨v0, v1, v2, v3, v4⟩ := own5 HV6.out
    go_wp2_with (go_at_call 67; refine (list_nil _ _ _).mono ?_; rintro e w' ⟨rfl, rfl⟩)
    go_end0
    exact Went.ok hch HD6.out HC6.out

set_option maxRecDepth 100000 in
set_option maxHeartbeats 4000000 in
theorem cstmt_none (x : X) (ao : Option Addr) (m cap : Nat) (hx : x.s = .slice ao m cap) (hn : noneH x.hd m = true) (B c : Nat) (w : World) (h : Ck B c 0 w) (hBw : B ≤ w.heap.size) (hI : InW w B x) :
    Calls Tryd.prog 80 #[.pointer (some ⟨c, 0, none⟩), .agg #[.int .u8 6, .string ⟨#[]⟩, .int .u8 0, .string ⟨#[]⟩, .int .i64 0, .int .u8 x.hd.k, .int .i64 x.hd.n, .string x.hd.name, .int .u8 x.hd.tk, .string x.hd.tn, .int .i64 x.hd.tz, .slice ao m cap, .int .u8 0, .int .i64 0, .string ⟨#[]⟩, .int .u8 0, .string ⟨#[]⟩, .int .i64 0, .slice none 0 0, .slice none 0 0, .slice none 0 0], .int .i64 1] w (Went B c (chk 1 1 x) w) := by
  have hlt := h.lt
  have hBc := h.1
  obtain ⟨W1, hW1⟩ : ∃ W1, W1 = w.alloc (.cells #[.int .u8 6, .string ⟨#[]⟩, .int .u8 0, .string ⟨#[]⟩, .int .i64 0, .int .u8 x.hd.k, .int .i64 x.hd.n, .string x.hd.name, .int .u8 x.hd.tk, .string x.hd.tn, .int .i64 x.hd.tz, .slice ao m cap, .int .u8 0, .int .i64 0, .string ⟨#[]⟩, .int .u8 0, .string ⟨#[]⟩, .int .i64 0, .slice none 0 0, .slice none 0 0, .slice none 0 0] 57) := ⟨_, rfl⟩
  have hz1 : W1.heap.size = w.heap.size + 1 := by rw [hW1]; simp
  have hO : W1.heap[w.heap.size]? = some (.cells #[.int .u8 6, .string ⟨#[]⟩, .int .u8 0, .string ⟨#[]⟩, .int .i64 0, .int .u8 x.hd.k, .int .i64 x.hd.n, .string x.hd.name, .int .u8 x.hd.tk, .string x.hd.tn, .int .i64 x.hd.tz, .slice ao m cap, .int .u8 0, .int .i64 0, .string ⟨#[]⟩, .int .u8 0, .string ⟨#[]⟩, .int .i64 0, .slice none 0 0, .slice none 0 0, .slice none 0 0] 57) := by rw [hW1]; exact (MapKept.heap_alloc _ _).1
  have hD : Only c w W1 := by rw [hW1]; exact (Only.refl c w).alloc _
  have hC1 : Ck B c 0 W1 := by rw [hW1]; exact h.alloc _
  have hIT := item_any B c 0 1 W1 hC1 (by omega) (by omega)
  rw [hW1] at hIT
  have HIT := Lib.hid hIT
  have HO := Lib.hid hO
  have HD := Lib.hid hD
  have HZ := Lib.hid hW1
  have HI := Lib.hid hI
  have HX := Lib.hid (fun w' h1 h2 h3 => cexpr_all x B c 1 1 1 w' rfl h1 h2 h3 (by omega) (by omega))
  have HV := Lib.hid (val_of hx)
  have hNN := fun w => none_any x.hd ao m cap w
  rw [hn] at hNN
  have HNN := Lib.hid hNN
  clear hNN hn hI hx
  clear h hIT hO hD hC1 hW1
  go_enter Tryd.func80, Tryd.ntmps80
  go_wp2_with fail
  refine HIT.out.mono ?_; rintro e2 w2 hq; obtain ⟨rfl, hC2, hb⟩ := hq.yes (show itemR 1 0 = .ok 1 from rfl)
  rw [← HZ.out] at hb
  have hs2 := hb.size
  have hO2 : w2.heap[w.heap.size]? = some (.cells #[.int .u8 6, .string ⟨#[]⟩, .int .u8 0, .string ⟨#[]⟩, .int .i64 0, .int .u8 x.hd.k, .int .i64 x.hd.n, .string x.hd.name, .int .u8 x.hd.tk, .string x.hd.tn, .int .i64 x.hd.tz, .slice ao m cap, .int .u8 0, .int .i64 0, .string ⟨#[]⟩, .int .u8 0, .string ⟨#[]⟩, .int .i64 0, .slice none 0 0, .slice none 0 0, .slice none 0 0] 57) := by rw [hb.block _ (by omega) (by omega)]; exact HO.out
  have hLS := loadS_of hO2
  have HF := Lib.hid (sform_6 B c 1 x.hd.k x.hd.n x.hd.tk x.hd.tz x.hd.name x.hd.tn ao m cap w2 hC2)
  have HO2 := Lib.hid hO2
  have HC2 := Lib.hid hC2
  have HD2 := Lib.hid (HD.out.trans hb)
  clear hb hO2 hC2 hq
  go_wp2_with fail
  clear hLS
  refine HF.out.mono ?_; rintro e w3 ⟨rfl, hb3⟩
  have hs3 := hb3.size
  obtain ⟨W4, hW4⟩ : ∃ W4, W4 = w3.alloc (.cells #[.bool false, .int .u8 2, .bool false, .bool false, .bool false] 117) := ⟨_, rfl⟩
  have hz4 : W4.heap.size = w3.heap.size + 1 := by rw [hW4]; simp
  have HO4 := Lib.hid (show W4.heap[w.heap.size]? = some (.cells #[.int .u8 6, .string ⟨#[]⟩, .int .u8 0, .string ⟨#[]⟩, .int .i64 0, .int .u8 x.hd.k, .int .i64 x.hd.n, .string x.hd.name, .int .u8 x.hd.tk, .string x.hd.tn, .int .i64 x.hd.tz, .slice ao m cap, .int .u8 0, .int .i64 0, .string ⟨#[]⟩, .int .u8 0, .string ⟨#[]⟩, .int .i64 0, .slice none 0 0, .slice none 0 0, .slice none 0 0] 57) by rw [hW4, Below.heap_alloc _ _ _ (by omega)]; exact (hb3.block _ (by omega)).trans HO2.out)
  have HV4 := Lib.hid (show W4.heap[w3.heap.size]? = some (.cells #[.bool false, .int .u8 2, .bool false, .bool false, .bool false] 117) by rw [hW4]; exact (MapKept.heap_alloc _ _).1)
  have HC4 := Lib.hid (show Ck B c 1 W4 by rw [hW4]; exact (HC2.out.kept hb3).alloc _)
  have HD4 := Lib.hid (show Only c w W4 by rw [hW4]; exact (HD2.out.more hb3).alloc _)
  have HZ4 := Lib.hid hW4
  clear hb3 hW4
  have hLX := loadX_of HO4.out
  rw [HZ4.out] at hLX
  have hlt3 : w.heap.size < w3.heap.size := by omega
  go_wp2_with fail
  rw [← HZ4.out]
  refine (HNN.out _).mono ?_; rintro e w5 ⟨rfl, hb5⟩
  clear hLX
  have hs5 := hb5.size
  have HO5 := Lib.hid ((hb5.block _ (by omega)).trans HO4.out)
  have HV5 := Lib.hid ((hb5.block _ (by omega)).trans HV4.out)
  have HC5 := Lib.hid (HC4.out.kept hb5)
  have HD5 := Lib.hid (HD4.out.more hb5)
  clear hb5
  have hLX := loadX_of HO5.out
  obtain ⟨s19, s20⟩ := own1920 HO5.out
  obtain ⟨v0, v1, v2, v3, v4⟩ := own5 HV5.out
  go_wp2_with fail
  have hEx := HX.out w5 HC5.out (by omega) (InW.keeps (HD5.out.below hBc hBw) _ HI.out)
  rw [HV.out] at hEx
  have HEX := Lib.hid hEx
  clear hEx
  refine HEX.out.mono ?_; rintro e6 w6 hq
  cases hch : chk 1 1 x with
  | error k =>
    obtain ⟨rfl, hb6⟩ := hq.not hch
    exact ⟨rfl, Went.no rfl (HD5.out.trans hb6)⟩
  | ok j =>
    obtain ⟨rfl, hC6, hb6⟩ := hq.yes hch
    have hs6 := hb6.size
    have HO6 := Lib.hid (show w6.heap[w.heap.size]? = some (.cells #[.int .u8 6, .string ⟨#[]⟩, .int .u8 0, .string ⟨#[]⟩, .int .i64 0, .int .u8 x.hd.k, .int .i64 x.hd.n, .string x.hd.name, .int .u8 x.hd.tk, .string x.hd.tn, .int .i64 x.hd.tz, .slice ao m cap, .int .u8 0, .int .i64 0, .string ⟨#[]⟩, .int .u8 0, .string ⟨#[]⟩, .int .i64 0, .slice none 0 0, .slice none 0 0, .slice none 0 0] 57) by rw [hb6.block _ (by omega) (by omega)]; exact HO5.out)
    have HV6 := Lib.hid (show w6.heap[w3.heap.size]? = some (.cells #[.bool false, .int .u8 2, .bool false, .bool false, .bool false] 117) by rw [hb6.block _ (by omega) (by omega)]; exact HV5.out)
    have HC6 := Lib.hid hC6
    have HD6 := Lib.hid (HD5.out.trans hb6)
    clear hC6 hb6 hq v0 v1 v2 v3 v4
    clear hLX s19 s20
    obtain ⟨s19, s20⟩ := own1920 HO6.out
    obtain ⟨v0, v1, v2, v3, v4⟩ := own5 HV6.out
    go_wp2_with (go_at_call 67; refine (list_nil _ _ _).mono ?_; rintro e w' ⟨rfl, rfl⟩)
    go_end0
    exact Went.ok hch HD6.out HC6.out

theorem cstmt_print (x : X) (ao : Option Addr) (m cap : Nat) (hx : x.s = .slice ao m cap) (B c : Nat) (w : World) (h : Ck B c 0 w) (hBw : B ≤ w.heap.size) (hI : InW w B x) :
    Calls Tryd.prog 80 #[.pointer (some ⟨c, 0, none⟩), .agg #[.int .u8 6, .string ⟨#[]⟩, .int .u8 0, .string ⟨#[]⟩, .int .i64 0, .int .u8 x.hd.k, .int .i64 x.hd.n, .string x.hd.name, .int .u8 x.hd.tk, .string x.hd.tn, .int .i64 x.hd.tz, .slice ao m cap, .int .u8 0, .int .i64 0, .string ⟨#[]⟩, .int .u8 0, .string ⟨#[]⟩, .int .i64 0, .slice none 0 0, .slice none 0 0, .slice none 0 0], .int .i64 1] w (Went B c (chk 1 1 x) w) := by
  cases hn : noneH x.hd m with
  | false => exact cstmt_some x ao m cap hx hn B c w h hBw hI
  | true => exact cstmt_none x ao m cap hx hn B c w h hBw hI
end Go.Proofs.YtflbplljlkpeiaaDoor
