/- What is so of whoever tells of shapes at all: the statements' own small program. -/
import Derived.Test.YtcibiiddigpnfaaGreatDoorRows
import Derived.Test.YtcibiiddigpnfaaGreatDoorShpCall
import Derived.Test.YtcibiiddigpnfaaGreatDoorGTw
namespace Go.Proofs.YtcibiiddigpnfaaGreatDoor
open Go.RowKit
set_option maxRecDepth 100000
attribute [local go_sem ↓] bld_eq bls_eq
theorem rowS_lies {α : Type} {cells : α → List Value} {k : Nat} {w : World} {B b : Nat} {R : Array Value} {T : TypeId} {l : List α} (hc : ∀ a, (cells a).length = k) (hb : b < B) (hr : w.heap[b]? = some (.cells R T (0, 0))) (hR : R.toList = l.flatMap cells) (hl : l.length ≤ 100) (n : Nat) (hn : n = l.length) :
    LiesG cells k w B (.slice (some ⟨b, 0, none⟩) n n) l := by
  subst hn
  refine ⟨some ⟨b, 0, none⟩, l.length, rfl, by omega, .inr ⟨b, 0, rfl, hb, fun i y hy j u hu => ?_⟩⟩
  rw [Lib.cell_of_heap hr, Nat.zero_add, ← Array.getElem?_toList, hR]
  have := flat_at hc l [] i y hy j u hu
  simpa using this
def wT : Ty := ⟨1, ⟨#[]⟩, 0⟩
def smallP (a b c : Nat) : Pr := ⟨⟨.slice (some ⟨b, 0, none⟩) 1 1, [⟨⟨#[114]⟩, .slice (some ⟨a, 0, none⟩) 2 2, [⟨⟨#[120]⟩, wT⟩, ⟨⟨#[121]⟩, wT⟩]⟩], .slice (some ⟨c, 0, none⟩) 1 1, [⟨⟨#[97]⟩, wT⟩], .slice none 0 0, []⟩, .slice none 0 0, []⟩
theorem small_words (a b c : Nat) : wordsS (smallP a b c) = (1, 0) := by kernel_rfl
theorem small_size (a b c : Nat) : sizeS (smallP a b c) ⟨2, ⟨#[114]⟩, 0⟩ = (2, 0) := by kernel_rfl
theorem small_offset (a b c : Nat) : offsetS (smallP a b c) ⟨#[114]⟩ ⟨#[121]⟩ = (1, 0) := by kernel_rfl
theorem small_shared (a b c : Nat) : sharedS (smallP a b c) ⟨#[114]⟩ = (0, 9) := by kernel_rfl
theorem wT_ok : TyOk wT := ⟨by decide, Nat.zero_le _, by decide⟩
theorem small_in {w : World} {a b c B : Nat} (ha : a < B) (hb : b < B) (hc : c < B)
    (h1 : w.heap[a]? = some (.cells #[.string ⟨#[120]⟩, .int .u8 1, .string ⟨#[]⟩, .int .i64 0, .string ⟨#[121]⟩, .int .u8 1, .string ⟨#[]⟩, .int .i64 0] 49 (0, 0)))
    (h2 : w.heap[b]? = some (.cells #[.string ⟨#[114]⟩, .slice (some ⟨a, 0, none⟩) 2 2] 51 (0, 0)))
    (h3 : w.heap[c]? = some (.cells #[.string ⟨#[97]⟩, .int .u8 1, .string ⟨#[]⟩, .int .i64 0] 49 (0, 0))) : PIn w B (smallP a b c) := by
  have hf : ∀ x : ByteArray, x.size = 1 → FdOk ⟨x, wT⟩ := fun x hx => ⟨by rw [hx]; omega, wT_ok⟩
  refine ⟨⟨oneS_lies hb h2 rfl, fun r hr => ?_, oneS_lies hc h3 rfl, fun f hf2 => ?_, nilS_lies, (fun a ha => by cases ha)⟩, nilS_lies, (fun a ha => by cases ha)⟩
  · have hr2 : r = ⟨⟨#[114]⟩, .slice (some ⟨a, 0, none⟩) 2 2, [⟨⟨#[120]⟩, wT⟩, ⟨⟨#[121]⟩, wT⟩]⟩ := by simpa [smallP] using hr
    subst hr2
    refine ⟨by show (1 : Nat) ≤ _; omega, rowS_lies (cells := Fd.cells) (k := 4) (l := ([⟨⟨#[120]⟩, wT⟩, ⟨⟨#[121]⟩, wT⟩] : List Fd)) (fun _ => rfl) ha h1 rfl (by decide) 2 rfl, fun f hf3 => ?_⟩
    have hf4 : f = ⟨⟨#[120]⟩, wT⟩ ∨ f = ⟨⟨#[121]⟩, wT⟩ := by simpa using hf3
    rcases hf4 with rfl | rfl <;> exact hf _ rfl
  · have hf4 : f = ⟨⟨#[97]⟩, wT⟩ := by simpa [smallP] using hf2
    subst hf4
    exact hf _ rfl
structure SmallS (w : World) (a b c d : Nat) : Prop where
  box : w.heap[d]? = some (.cells #[.slice (some ⟨b, 0, none⟩) 1 1, .slice (some ⟨c, 0, none⟩) 1 1, .slice none 0 0, .slice none 0 0] 27 (0, 0))
  here : PIn w (d + 1) (smallP a b c)
theorem SmallS.keeps {w w' : World} {a b c d : Nat} (h : SmallS w a b c d) (hb : Below w.heap.size w w') : SmallS w' a b c d := by
  have hd : d < w.heap.size := (Array.getElem?_eq_some_iff.1 h.box).1
  exact ⟨(hb.block _ hd).trans h.box, h.here.keeps (hb.mono (by omega))⟩
theorem SmallS.lt {w : World} {a b c d : Nat} (h : SmallS w a b c d) : d + 1 ≤ w.heap.size := (Array.getElem?_eq_some_iff.1 h.box).1
theorem five (w : World) (o1 o2 o3 o4 o5 : Obj) : (((((w.alloc o1).alloc o2).alloc o3).alloc o4).alloc o5).heap[w.heap.size + 1]? = some o2 ∧ (((((w.alloc o1).alloc o2).alloc o3).alloc o4).alloc o5).heap[w.heap.size + 1 + 1]? = some o3 ∧
    (((((w.alloc o1).alloc o2).alloc o3).alloc o4).alloc o5).heap[w.heap.size + 1 + 1 + 1]? = some o4 ∧ (((((w.alloc o1).alloc o2).alloc o3).alloc o4).alloc o5).heap[w.heap.size + 1 + 1 + 1 + 1]? = some o5 ∧ Below w.heap.size w (((((w.alloc o1).alloc o2).alloc o3).alloc o4).alloc o5) := by
  refine ⟨?_, ?_, ?_, ?_, ((((below_box w o1).alloc (by simp) o2).alloc (by simp <;> omega) o3).alloc (by simp <;> omega) o4).alloc (by simp <;> omega) o5⟩
  · rw [Below.heap_alloc _ _ _ (by simp <;> omega), Below.heap_alloc _ _ _ (by simp <;> omega), Below.heap_alloc _ _ _ (by simp)]; have := (MapKept.heap_alloc (w.alloc o1) o2).1; simpa using this
  · rw [Below.heap_alloc _ _ _ (by simp <;> omega), Below.heap_alloc _ _ _ (by simp)]; have := (MapKept.heap_alloc ((w.alloc o1).alloc o2) o3).1; simpa using this
  · rw [Below.heap_alloc _ _ _ (by simp)]; have := (MapKept.heap_alloc (((w.alloc o1).alloc o2).alloc o3) o4).1; simpa using this
  · have := (MapKept.heap_alloc ((((w.alloc o1).alloc o2).alloc o3).alloc o4) o5).1; simpa using this
theorem rS_ok : TyOk ⟨2, ⟨#[114]⟩, 0⟩ := ⟨by decide, by show (1 : Nat) ≤ _; omega, by decide⟩
set_option maxHeartbeats 4000000 in
theorem shpalive_any (w : World) : Calls Tryz.prog 21 #[] w fun e w' => e = .returned (.bool true) ∧ Below w.heap.size w w' := by
  have e0 := bld_of 40 #[(0, .int .u8 1)] #[.int .u8 1, .string ⟨#[]⟩, .int .i64 0] (by kernel_rfl)
  have e1 := bld_of 49 #[(0, .string ⟨#[120]⟩), (1, .agg #[.int .u8 1, .string ⟨#[]⟩, .int .i64 0])] #[.string ⟨#[120]⟩, .int .u8 1, .string ⟨#[]⟩, .int .i64 0] (by kernel_rfl)
  have e2 := bld_of 49 #[(0, .string ⟨#[121]⟩), (1, .agg #[.int .u8 1, .string ⟨#[]⟩, .int .i64 0])] #[.string ⟨#[121]⟩, .int .u8 1, .string ⟨#[]⟩, .int .i64 0] (by kernel_rfl)
  have e3 := bld_of 49 #[(0, .string ⟨#[97]⟩), (1, .agg #[.int .u8 1, .string ⟨#[]⟩, .int .i64 0])] #[.string ⟨#[97]⟩, .int .u8 1, .string ⟨#[]⟩, .int .i64 0] (by kernel_rfl)
  have e4 := fun (b : Nat) => bld_of 51 #[(0, .string ⟨#[114]⟩), (1, .slice (some ⟨b, 0, none⟩) 2 2)] #[.string ⟨#[114]⟩, .slice (some ⟨b, 0, none⟩) 2 2] (by kernel_rfl)
  have e5 := fun (b c : Nat) => bld_of 27 #[(0, .slice (some ⟨b, 0, none⟩) 1 1), (1, .slice (some ⟨c, 0, none⟩) 1 1)] #[.slice (some ⟨b, 0, none⟩) 1 1, .slice (some ⟨c, 0, none⟩) 1 1, .slice none 0 0, .slice none 0 0] (by kernel_rfl)
  have e6 := bld_of 40 #[(0, .int .u8 2), (1, .string ⟨#[114]⟩)] #[.int .u8 2, .string ⟨#[114]⟩, .int .i64 0] (by kernel_rfl)
  have m1 := bls_of 23 49 2 4 #[(0, .agg #[.string ⟨#[120]⟩, .int .u8 1, .string ⟨#[]⟩, .int .i64 0]), (1, .agg #[.string ⟨#[121]⟩, .int .u8 1, .string ⟨#[]⟩, .int .i64 0])] #[.string ⟨#[120]⟩, .int .u8 1, .string ⟨#[]⟩, .int .i64 0, .string ⟨#[121]⟩, .int .u8 1, .string ⟨#[]⟩, .int .i64 0] (by kernel_rfl) (by kernel_rfl) (by kernel_rfl) (by omega) (by omega) (by kernel_rfl) (by kernel_rfl)
  have m2 := fun (b : Nat) => bls_of 22 51 1 2 #[(0, .agg #[.string ⟨#[114]⟩, .slice (some ⟨b, 0, none⟩) 2 2])] #[.string ⟨#[114]⟩, .slice (some ⟨b, 0, none⟩) 2 2] (by kernel_rfl) (by kernel_rfl) (by kernel_rfl) (by omega) (by omega) (by kernel_rfl) (by kernel_rfl)
  have m3 := bls_of 23 49 1 4 #[(0, .agg #[.string ⟨#[97]⟩, .int .u8 1, .string ⟨#[]⟩, .int .i64 0])] #[.string ⟨#[97]⟩, .int .u8 1, .string ⟨#[]⟩, .int .i64 0] (by kernel_rfl) (by kernel_rfl) (by kernel_rfl) (by omega) (by omega) (by kernel_rfl) (by kernel_rfl)
  obtain ⟨W5, hW5⟩ : ∃ W5, W5 = (((((w.alloc (.cells #[.int .u8 1, .string ⟨#[]⟩, .int .i64 0] 40)).alloc (.cells #[.string ⟨#[120]⟩, .int .u8 1, .string ⟨#[]⟩, .int .i64 0, .string ⟨#[121]⟩, .int .u8 1, .string ⟨#[]⟩, .int .i64 0] 49)).alloc (.cells #[.string ⟨#[114]⟩, .slice (some ⟨w.heap.size + 1, 0, none⟩) 2 2] 51)).alloc
    (.cells #[.string ⟨#[97]⟩, .int .u8 1, .string ⟨#[]⟩, .int .i64 0] 49)).alloc (.cells #[.slice (some ⟨w.heap.size + 1 + 1, 0, none⟩) 1 1, .slice (some ⟨w.heap.size + 1 + 1 + 1, 0, none⟩) 1 1, .slice none 0 0, .slice none 0 0] 27)) := ⟨_, rfl⟩
  have hF := five w (.cells #[.int .u8 1, .string ⟨#[]⟩, .int .i64 0] 40) (.cells #[.string ⟨#[120]⟩, .int .u8 1, .string ⟨#[]⟩, .int .i64 0, .string ⟨#[121]⟩, .int .u8 1, .string ⟨#[]⟩, .int .i64 0] 49) (.cells #[.string ⟨#[114]⟩, .slice (some ⟨w.heap.size + 1, 0, none⟩) 2 2] 51)
    (.cells #[.string ⟨#[97]⟩, .int .u8 1, .string ⟨#[]⟩, .int .i64 0] 49) (.cells #[.slice (some ⟨w.heap.size + 1 + 1, 0, none⟩) 1 1, .slice (some ⟨w.heap.size + 1 + 1 + 1, 0, none⟩) 1 1, .slice none 0 0, .slice none 0 0] 27)
  rw [← hW5] at hF
  obtain ⟨f1, f2, f3, f4, fb⟩ := hF
  have hS : SmallS W5 (w.heap.size + 1) (w.heap.size + 1 + 1) (w.heap.size + 1 + 1 + 1) (w.heap.size + 1 + 1 + 1 + 1) := ⟨f4, small_in (by omega) (by omega) (by omega) f1 f2 f3⟩
  obtain ⟨q0, q1, q2, q3⟩ := cells_prog _ _ _ _ f4
  rw [hW5] at q0 q1 q2 q3
  have HS := Lib.hid hS
  have HB := Lib.hid fb
  have HW := Lib.hid hW5
  have HC1 := Lib.hid (show ∀ W a b c d, SmallS W a b c d → Calls Tryz.prog 12 #[.agg #[.slice (some ⟨b, 0, none⟩) 1 1, .slice (some ⟨c, 0, none⟩) 1 1, .slice none 0 0, .slice none 0 0]] W (TwoE (1, 0) W) from
    fun W a b c d h => by have := words_any (smallP a b c) (d + 1) W h.lt h.here; rwa [small_words] at this)
  have HC2 := Lib.hid (show ∀ W a b c d, SmallS W a b c d → Calls Tryz.prog 14 #[.agg #[.slice (some ⟨b, 0, none⟩) 1 1, .slice (some ⟨c, 0, none⟩) 1 1, .slice none 0 0, .slice none 0 0], .agg #[.int .u8 2, .string ⟨#[114]⟩, .int .i64 0]] W (TwoE (2, 0) W) from
    fun W a b c d h => by have := size_any ⟨2, ⟨#[114]⟩, 0⟩ rS_ok (smallP a b c) (d + 1) W h.lt h.here; rwa [small_size] at this)
  have HC3 := Lib.hid (show ∀ W a b c d, SmallS W a b c d → Calls Tryz.prog 15 #[.agg #[.slice (some ⟨b, 0, none⟩) 1 1, .slice (some ⟨c, 0, none⟩) 1 1, .slice none 0 0, .slice none 0 0], .string ⟨#[114]⟩, .string ⟨#[121]⟩] W (TwoE (1, 0) W) from
    fun W a b c d h => by have := offset_any ⟨#[114]⟩ ⟨#[121]⟩ (smallP a b c) (d + 1) W h.lt h.here; rwa [small_offset] at this)
  have HC4 := Lib.hid (show ∀ W a b c d, SmallS W a b c d → Calls Tryz.prog 13 #[.agg #[.slice (some ⟨b, 0, none⟩) 1 1, .slice (some ⟨c, 0, none⟩) 1 1, .slice none 0 0, .slice none 0 0], .string ⟨#[114]⟩] W (TwoE (0, 9) W) from
    fun W a b c d h => by have := shared_any ⟨#[114]⟩ (smallP a b c) (d + 1) W h.lt h.here; rwa [small_shared] at this)
  clear f1 f2 f3 f4 fb hS hW5
  go_enter Tryz.func21, Tryz.ntmps21
  go_wp2_with fail
  rw [← HW.out]
  refine (HC1.out _ _ _ _ _ HS.out).mono ?_; rintro e w1 ⟨rfl, hb1⟩
  have HS1 := Lib.hid (HS.out.keeps hb1)
  have HB1 := Lib.hid (HB.out.trans (hb1.mono HB.out.size))
  obtain ⟨q0, q1, q2, q3⟩ := cells_prog _ _ _ _ HS1.out.box
  clear hb1
  go_wp2_with fail
  refine (HC2.out _ _ _ _ _ HS1.out).mono ?_; rintro e w2 ⟨rfl, hb2⟩
  have HS2 := Lib.hid (HS1.out.keeps hb2)
  have HB2 := Lib.hid (HB1.out.trans (hb2.mono HB1.out.size))
  obtain ⟨q0, q1, q2, q3⟩ := cells_prog _ _ _ _ HS2.out.box
  clear hb2
  go_wp2_with fail
  refine (HC3.out _ _ _ _ _ HS2.out).mono ?_; rintro e w3 ⟨rfl, hb3⟩
  have HS3 := Lib.hid (HS2.out.keeps hb3)
  have HB3 := Lib.hid (HB2.out.trans (hb3.mono HB2.out.size))
  obtain ⟨q0, q1, q2, q3⟩ := cells_prog _ _ _ _ HS3.out.box
  clear hb3
  go_wp2_with fail
  refine (HC4.out _ _ _ _ _ HS3.out).mono ?_; rintro e w4 ⟨rfl, hb4⟩
  have HB4 := Lib.hid (HB3.out.trans (hb4.mono HB3.out.size))
  clear hb4
  go_wp2_with fail
  go_ret
  exact ⟨rfl, HB4.out⟩
end Go.Proofs.YtcibiiddigpnfaaGreatDoor
