/- What is so of whoever checks types at all: the statements' own small programs. -/
import Derived.Test.YtcibiiddigpnfaaGreatDoorRows
import Derived.Test.YtcibiiddigpnfaaGreatDoorGPlaces
import Derived.Test.YtcibiiddigpnfaaGreatDoorGTw
namespace Go.Proofs.YtcibiiddigpnfaaGreatDoor
open Go.RowKit
set_option maxRecDepth 100000
attribute [local go_sem ↓] bld_eq bls_eq loadS_eq
theorem four (w : World) (o1 o2 o3 o4 : Obj) : ((((w.alloc o1).alloc o2).alloc o3).alloc o4).heap[w.heap.size]? = some o1 ∧ ((((w.alloc o1).alloc o2).alloc o3).alloc o4).heap[w.heap.size + 1]? = some o2 ∧ ((((w.alloc o1).alloc o2).alloc o3).alloc o4).heap[w.heap.size + 1 + 1]? = some o3 ∧
    ((((w.alloc o1).alloc o2).alloc o3).alloc o4).heap[w.heap.size + 1 + 1 + 1]? = some o4 ∧ ((((w.alloc o1).alloc o2).alloc o3).alloc o4).heap.size = w.heap.size + 4 ∧ Below w.heap.size w ((((w.alloc o1).alloc o2).alloc o3).alloc o4) := by
  refine ⟨?_, ?_, ?_, ?_, by simp, (((below_box w o1).alloc (by simp) o2).alloc (by simp <;> omega) o3).alloc (by simp <;> omega) o4⟩
  · rw [Below.heap_alloc _ _ _ (by simp <;> omega), Below.heap_alloc _ _ _ (by simp <;> omega), Below.heap_alloc _ _ _ (by simp)]; exact (MapKept.heap_alloc _ _).1
  · rw [Below.heap_alloc _ _ _ (by simp <;> omega), Below.heap_alloc _ _ _ (by simp)]; have := (MapKept.heap_alloc (w.alloc o1) o2).1; simpa using this
  · rw [Below.heap_alloc _ _ _ (by simp)]; have := (MapKept.heap_alloc ((w.alloc o1).alloc o2) o3).1; simpa using this
  · have := (MapKept.heap_alloc (((w.alloc o1).alloc o2).alloc o3) o4).1; simpa using this
def oneS (sk k n : Int) (nm : ByteArray) : St := .mk ⟨sk, ⟨#[]⟩, noT⟩ (.mk ⟨k, n, nm, 0, ⟨#[]⟩, 0⟩ (.slice none 0 0) []) (.mk ⟨0, 0, ⟨#[]⟩, 0, ⟨#[]⟩, 0⟩ (.slice none 0 0) []) (.slice none 0 0) (.slice none 0 0) [] []
def oneP (a b : Nat) (s : St) : Pr := ⟨⟨.slice none 0 0, [], .slice none 0 0, [], .slice none 0 0, []⟩, .slice (some ⟨b, 0, none⟩) 1 1, [⟨.slice (some ⟨a, 0, none⟩) 1 1, [s]⟩]⟩
theorem nil_lies {α : Type} {cells : α → List Value} {k : Nat} {w : World} {B : Nat} : LiesG cells k w B (.slice none 0 0) ([] : List α) := ⟨none, 0, rfl, by simp, .inl rfl⟩
theorem oneS_in (sk k n : Int) (nm : ByteArray) (w : World) (B : Nat) (h1 : 0 ≤ sk ∧ sk ≤ 255) (h2 : 0 ≤ k ∧ k ≤ 255) (h3 : -9223372036854775808 ≤ n ∧ n ≤ 9223372036854775807) (h4 : nm.size ≤ 9223372036854775807) : SIn w B (oneS sk k n nm) := by
  have hz : TyOk noT := ⟨by decide, Nat.zero_le _, by decide⟩
  refine .mk _ _ _ _ _ _ _ ⟨h1, Nat.zero_le _, hz⟩ (.mk _ _ _ ⟨h2, h3, h4, Nat.zero_le _, ⟨by show (_ : Int) ≤ 0; decide, by show (0 : Int) ≤ _; decide⟩⟩ ⟨none, 0, rfl, by simp, .inl rfl⟩ (fun a ha => by cases ha)) (.mk _ _ _ ⟨by decide, by decide, Nat.zero_le _, Nat.zero_le _, ⟨by show (_ : Int) ≤ 0; decide, by show (0 : Int) ≤ _; decide⟩⟩ ⟨none, 0, rfl, by simp, .inl rfl⟩ (fun a ha => by cases ha)) nil_lies nil_lies (fun a ha => by cases ha) (fun a ha => by cases ha)
theorem one_lies {α : Type} {cells : α → List Value} {k : Nat} {w : World} {B b : Nat} {R : Array Value} {T : TypeId} {x : α} (hb : b < B) (hr : w.heap[b]? = some (.cells R T (0, 0))) (hR : R.toList = cells x) : LiesG cells k w B (.slice (some ⟨b, 0, none⟩) 1 1) [x] := by
  refine ⟨some ⟨b, 0, none⟩, 1, rfl, by simp, .inr ⟨b, 0, rfl, hb, fun i y hy j u hu => ?_⟩⟩
  have hi : i = 0 := by have := (List.getElem?_eq_some_iff.1 hy).1; simpa using this
  subst hi
  obtain rfl : x = y := by simpa using hy
  rw [Lib.cell_of_heap hr, Nat.zero_mul, Nat.zero_add, Nat.zero_add, ← Array.getElem?_toList, hR]
  exact hu
def OneE (s : St) (w : World) (e : Ending) (w' : World) : Prop := ∃ a b, e = .returned (.agg #[.slice none 0 0, .slice none 0 0, .slice none 0 0, .slice (some ⟨b, 0, none⟩) 1 1]) ∧ Below w.heap.size w w' ∧ PIn w' w'.heap.size (oneP a b s)
set_option maxHeartbeats 4000000 in
theorem one_any (sk k n : Int) (nm : ByteArray) (h1 : 0 ≤ sk ∧ sk ≤ 255) (h2 : 0 ≤ k ∧ k ≤ 255) (h3 : -9223372036854775808 ≤ n ∧ n ≤ 9223372036854775807) (h4 : nm.size ≤ 9223372036854775807) (w : World) :
    Calls Tryz.prog 29 #[.agg #[.int .u8 sk, .string ⟨#[]⟩, .int .u8 0, .string ⟨#[]⟩, .int .i64 0, .int .u8 k, .int .i64 n, .string nm, .int .u8 0, .string ⟨#[]⟩, .int .i64 0, .slice none 0 0, .int .u8 0, .int .i64 0, .string ⟨#[]⟩, .int .u8 0, .string ⟨#[]⟩, .int .i64 0, .slice none 0 0, .slice none 0 0, .slice none 0 0]] w (OneE (oneS sk k n nm) w) := by
  have HS := Lib.hid (fun w B => oneS_in sk k n nm w B h1 h2 h3 h4)
  have hld := loadS_row rfl (show ((w.alloc (.cells #[.int .u8 sk, .string ⟨#[]⟩, .int .u8 0, .string ⟨#[]⟩, .int .i64 0, .int .u8 k, .int .i64 n, .string nm, .int .u8 0, .string ⟨#[]⟩, .int .i64 0, .slice none 0 0, .int .u8 0, .int .i64 0, .string ⟨#[]⟩, .int .u8 0, .string ⟨#[]⟩, .int .i64 0, .slice none 0 0, .slice none 0 0, .slice none 0 0] 69)).alloc (.cells #[.slice none 0 0, .slice none 0 0, .slice none 0 0, .slice none 0 0] 27)).heap[w.heap.size]? = some (.cells #[.int .u8 sk, .string ⟨#[]⟩, .int .u8 0, .string ⟨#[]⟩, .int .i64 0, .int .u8 k, .int .i64 n, .string nm, .int .u8 0, .string ⟨#[]⟩, .int .i64 0, .slice none 0 0, .int .u8 0, .int .i64 0, .string ⟨#[]⟩, .int .u8 0, .string ⟨#[]⟩, .int .i64 0, .slice none 0 0, .slice none 0 0, .slice none 0 0] 69 (0, 0)) by
    rw [Below.heap_alloc _ _ _ (by simp)]; exact (MapKept.heap_alloc _ _).1)
  have m1 := bls_of 36 69 1 21 #[(0, .agg #[.int .u8 sk, .string ⟨#[]⟩, .int .u8 0, .string ⟨#[]⟩, .int .i64 0, .int .u8 k, .int .i64 n, .string nm, .int .u8 0, .string ⟨#[]⟩, .int .i64 0, .slice none 0 0, .int .u8 0, .int .i64 0, .string ⟨#[]⟩, .int .u8 0, .string ⟨#[]⟩, .int .i64 0, .slice none 0 0, .slice none 0 0, .slice none 0 0])] #[.int .u8 sk, .string ⟨#[]⟩, .int .u8 0, .string ⟨#[]⟩, .int .i64 0, .int .u8 k, .int .i64 n, .string nm, .int .u8 0, .string ⟨#[]⟩, .int .i64 0, .slice none 0 0, .int .u8 0, .int .i64 0, .string ⟨#[]⟩, .int .u8 0, .string ⟨#[]⟩, .int .i64 0, .slice none 0 0, .slice none 0 0, .slice none 0 0] (by kernel_rfl) (by kernel_rfl) (by kernel_rfl) (by omega) (by omega) (by kernel_rfl) (by kernel_rfl)
  have m2 := fun (b : Nat) => bls_of 25 36 1 1 #[(0, .slice (some ⟨b, 0, none⟩) 1 1)] #[.slice (some ⟨b, 0, none⟩) 1 1] (by kernel_rfl) (by kernel_rfl) (by kernel_rfl) (by omega) (by omega) (by kernel_rfl) (by kernel_rfl)
  have m3 := fun (b : Nat) => bld_of 27 #[(3, .slice (some ⟨b, 0, none⟩) 1 1)] #[.slice none 0 0, .slice none 0 0, .slice none 0 0, .slice (some ⟨b, 0, none⟩) 1 1] (by kernel_rfl)
  have HF := Lib.hid (four w (.cells #[.int .u8 sk, .string ⟨#[]⟩, .int .u8 0, .string ⟨#[]⟩, .int .i64 0, .int .u8 k, .int .i64 n, .string nm, .int .u8 0, .string ⟨#[]⟩, .int .i64 0, .slice none 0 0, .int .u8 0, .int .i64 0, .string ⟨#[]⟩, .int .u8 0, .string ⟨#[]⟩, .int .i64 0, .slice none 0 0, .slice none 0 0, .slice none 0 0] 69) (.cells #[.slice none 0 0, .slice none 0 0, .slice none 0 0, .slice (some ⟨w.heap.size + 1 + 1 + 1, 0, none⟩) 1 1] 27) (.cells #[.int .u8 sk, .string ⟨#[]⟩, .int .u8 0, .string ⟨#[]⟩, .int .i64 0, .int .u8 k, .int .i64 n, .string nm, .int .u8 0, .string ⟨#[]⟩, .int .i64 0, .slice none 0 0, .int .u8 0, .int .i64 0, .string ⟨#[]⟩, .int .u8 0, .string ⟨#[]⟩, .int .i64 0, .slice none 0 0, .slice none 0 0, .slice none 0 0] 69) (.cells #[.slice (some ⟨w.heap.size + 1 + 1, 0, none⟩) 1 1] 36))
  clear h1 h2 h3 h4
  go_enter Tryz.func29, Tryz.ntmps29
  go_wp2_with fail
  obtain ⟨f0, f1, f2, f3, fz, fb⟩ := HF.out
  refine bodyPost_ret (v := .agg #[.slice none 0 0, .slice none 0 0, .slice none 0 0, .slice (some ⟨w.heap.size + 1 + 1 + 1, 0, none⟩) 1 1]) (results_cell_row rfl _ _ (w.heap.size + 1) 27 _ (0, 0) _ rfl f1 Tryz.underlying27 rfl (by kernel_rfl)) rfl ?_
  refine ⟨w.heap.size + 1 + 1, w.heap.size + 1 + 1 + 1, rfl, fb, ⟨⟨nil_lies, (fun a ha => by cases ha), nil_lies, (fun a ha => by cases ha), nil_lies, (fun a ha => by cases ha)⟩, one_lies (by rw [fz]; omega) f3 rfl, fun t ht => ?_⟩⟩
  have ht2 : t = ⟨.slice (some ⟨w.heap.size + 1 + 1, 0, none⟩) 1 1, [oneS sk k n nm]⟩ := by simpa [oneP] using ht
  subst ht2
  refine ⟨one_lies (by rw [fz]; omega) f2 rfl, fun a ha => ?_⟩
  have ha2 : a = oneS sk k n nm := by simpa using ha
  subst ha2
  exact HS.out _ _
theorem types_number (a b : Nat) : typesT (oneP a b (oneS 6 1 1 ⟨#[]⟩)) = (0, 0) := by kernel_rfl
theorem types_nil (a b : Nat) : typesT (oneP a b (oneS 6 2 0 ⟨#[]⟩)) = (1, 10) := by kernel_rfl
theorem types_gone (a b : Nat) : typesT (oneP a b (oneS 6 3 0 ⟨#[120]⟩)) = (1, 9) := by kernel_rfl
theorem places_one (a b : Nat) : placesN (oneP a b (oneS 0 0 0 ⟨#[]⟩)) = 2 := by kernel_rfl
theorem oneCheck (s : St) (a b : Nat) (r : Int × Int) (hr : typesT (oneP a b s) = r) (w : World) (hI : PIn w w.heap.size (oneP a b s)) :
    Calls Tryz.prog 8 #[.agg #[.slice none 0 0, .slice none 0 0, .slice none 0 0, .slice (some ⟨b, 0, none⟩) 1 1]] w fun e w' => e = .returned (.tuple #[.int .i64 r.1, .int .i64 r.2]) ∧ Below w.heap.size w w' := by
  rw [← hr]
  exact types_check_any (oneP a b s) w.heap.size w (Nat.le_refl _) hI
theorem onePlaces (s : St) (a b : Nat) (n : Nat) (hr : placesN (oneP a b s) = n) (hn : n ≤ 1000000) (w : World) (hI : PIn w w.heap.size (oneP a b s)) :
    Calls Tryz.prog 30 #[.agg #[.slice none 0 0, .slice none 0 0, .slice none 0 0, .slice (some ⟨b, 0, none⟩) 1 1]] w fun e w' => e = .returned (.int .i64 (n : Int)) ∧ Below w.heap.size w w' := by
  rw [← hr] at hn ⊢
  exact places_any (oneP a b s) w.heap.size w hI (Nat.le_refl _) hn
set_option maxHeartbeats 4000000 in
theorem talive_any (w : World) : Calls Tryz.prog 9 #[] w fun e w' => e = .returned (.bool true) ∧ Below w.heap.size w w' := by
  have e1 := bld_of 67 #[(0, .int .u8 1), (1, .int .i64 1)] #[.int .u8 1, .int .i64 1, .string ⟨#[]⟩, .int .u8 0, .string ⟨#[]⟩, .int .i64 0, .slice none 0 0] (by kernel_rfl)
  have e2 := bld_of 67 #[(0, .int .u8 2)] #[.int .u8 2, .int .i64 0, .string ⟨#[]⟩, .int .u8 0, .string ⟨#[]⟩, .int .i64 0, .slice none 0 0] (by kernel_rfl)
  have e3 := bld_of 67 #[(0, .int .u8 3), (2, .string ⟨#[120]⟩)] #[.int .u8 3, .int .i64 0, .string ⟨#[120]⟩, .int .u8 0, .string ⟨#[]⟩, .int .i64 0, .slice none 0 0] (by kernel_rfl)
  have s1 := bld_of 69 #[(0, .int .u8 6), (3, .agg #[.int .u8 1, .int .i64 1, .string ⟨#[]⟩, .int .u8 0, .string ⟨#[]⟩, .int .i64 0, .slice none 0 0])] #[.int .u8 6, .string ⟨#[]⟩, .int .u8 0, .string ⟨#[]⟩, .int .i64 0, .int .u8 1, .int .i64 1, .string ⟨#[]⟩, .int .u8 0, .string ⟨#[]⟩, .int .i64 0, .slice none 0 0, .int .u8 0, .int .i64 0, .string ⟨#[]⟩, .int .u8 0, .string ⟨#[]⟩, .int .i64 0, .slice none 0 0, .slice none 0 0, .slice none 0 0] (by kernel_rfl)
  have s2 := bld_of 69 #[(0, .int .u8 6), (3, .agg #[.int .u8 2, .int .i64 0, .string ⟨#[]⟩, .int .u8 0, .string ⟨#[]⟩, .int .i64 0, .slice none 0 0])] #[.int .u8 6, .string ⟨#[]⟩, .int .u8 0, .string ⟨#[]⟩, .int .i64 0, .int .u8 2, .int .i64 0, .string ⟨#[]⟩, .int .u8 0, .string ⟨#[]⟩, .int .i64 0, .slice none 0 0, .int .u8 0, .int .i64 0, .string ⟨#[]⟩, .int .u8 0, .string ⟨#[]⟩, .int .i64 0, .slice none 0 0, .slice none 0 0, .slice none 0 0] (by kernel_rfl)
  have s3 := bld_of 69 #[(0, .int .u8 6), (3, .agg #[.int .u8 3, .int .i64 0, .string ⟨#[120]⟩, .int .u8 0, .string ⟨#[]⟩, .int .i64 0, .slice none 0 0])] #[.int .u8 6, .string ⟨#[]⟩, .int .u8 0, .string ⟨#[]⟩, .int .i64 0, .int .u8 3, .int .i64 0, .string ⟨#[120]⟩, .int .u8 0, .string ⟨#[]⟩, .int .i64 0, .slice none 0 0, .int .u8 0, .int .i64 0, .string ⟨#[]⟩, .int .u8 0, .string ⟨#[]⟩, .int .i64 0, .slice none 0 0, .slice none 0 0, .slice none 0 0] (by kernel_rfl)
  have s4 := bld_of 69 #[] #[.int .u8 0, .string ⟨#[]⟩, .int .u8 0, .string ⟨#[]⟩, .int .i64 0, .int .u8 0, .int .i64 0, .string ⟨#[]⟩, .int .u8 0, .string ⟨#[]⟩, .int .i64 0, .slice none 0 0, .int .u8 0, .int .i64 0, .string ⟨#[]⟩, .int .u8 0, .string ⟨#[]⟩, .int .i64 0, .slice none 0 0, .slice none 0 0, .slice none 0 0] (by kernel_rfl)
  have HA1 := Lib.hid (fun w => one_any 6 1 1 ⟨#[]⟩ (by omega) (by omega) (by omega) (Nat.zero_le _) w)
  have HA2 := Lib.hid (fun w => one_any 6 2 0 ⟨#[]⟩ (by omega) (by omega) (by omega) (Nat.zero_le _) w)
  have HA3 := Lib.hid (fun w => one_any 6 3 0 ⟨#[120]⟩ (by omega) (by omega) (by omega) (by decide) w)
  have HA4 := Lib.hid (fun w => one_any 0 0 0 ⟨#[]⟩ (by omega) (by omega) (by omega) (Nat.zero_le _) w)
  go_enter Tryz.func9, Tryz.ntmps9
  go_wp2_with fail
  refine (HA1.out _).mono ?_; rintro e w1 ⟨a1, b1, rfl, hb1, hI1⟩
  have HB1 := Lib.hid hb1
  have HC1 := Lib.hid (oneCheck _ a1 b1 (0, 0) (types_number a1 b1) w1 hI1)
  clear hb1 hI1
  go_wp2_with fail
  refine HC1.out.mono ?_; rintro e w2 ⟨rfl, hb2⟩
  have HB2 := Lib.hid (HB1.out.trans (hb2.mono HB1.out.size))
  clear hb2
  go_wp2_with fail
  refine (HA2.out _).mono ?_; rintro e w3 ⟨a2, b2, rfl, hb3, hI3⟩
  have HB3 := Lib.hid (HB2.out.trans (hb3.mono HB2.out.size))
  have HC2 := Lib.hid (oneCheck _ a2 b2 (1, 10) (types_nil a2 b2) w3 hI3)
  clear hb3 hI3
  go_wp2_with fail
  refine HC2.out.mono ?_; rintro e w4 ⟨rfl, hb4⟩
  have HB4 := Lib.hid (HB3.out.trans (hb4.mono HB3.out.size))
  clear hb4
  go_wp2_with fail
  refine (HA3.out _).mono ?_; rintro e w5 ⟨a3, b3, rfl, hb5, hI5⟩
  have HB5 := Lib.hid (HB4.out.trans (hb5.mono HB4.out.size))
  have HC3 := Lib.hid (oneCheck _ a3 b3 (1, 9) (types_gone a3 b3) w5 hI5)
  clear hb5 hI5
  go_wp2_with fail
  refine HC3.out.mono ?_; rintro e w6 ⟨rfl, hb6⟩
  have HB6 := Lib.hid (HB5.out.trans (hb6.mono HB5.out.size))
  clear hb6
  go_wp2_with fail
  refine (HA4.out _).mono ?_; rintro e w7 ⟨a4, b4, rfl, hb7, hI7⟩
  have HB7 := Lib.hid (HB6.out.trans (hb7.mono HB6.out.size))
  have HC4 := Lib.hid (onePlaces _ a4 b4 2 (places_one a4 b4) (by omega) w7 hI7)
  clear hb7 hI7
  go_wp2_with fail
  refine HC4.out.mono ?_; rintro e w8 ⟨rfl, hb8⟩
  have HB8 := Lib.hid (HB7.out.trans (hb8.mono HB7.out.size))
  clear hb8
  go_wp2_with fail
  go_ret
  exact ⟨rfl, HB8.out⟩
end Go.Proofs.YtcibiiddigpnfaaGreatDoor
