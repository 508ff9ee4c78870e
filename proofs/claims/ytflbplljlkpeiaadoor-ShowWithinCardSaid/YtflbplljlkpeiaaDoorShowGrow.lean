/- Whatever reads as an expression is a tree that lies in the world. -/
import Derived.Test.YtflbplljlkpeiaaDoorRows
import Derived.Test.YtflbplljlkpeiaaDoorShowTxt
import Derived.Test.YtflbplljlkpeiaaDoorShowOpen
import Derived.Lib.SmallJoins
import Derived.Deep.Slices
import Derived.Deep.MidRow
import Derived.ProofKit
namespace Go.Proofs.YtflbplljlkpeiaaDoor
open Go.RowKit

theorem list7 {α : Type} {l : List α} (h : l.length = 7) : ∃ a b c d e f g, l = [a, b, c, d, e, f, g] := by
  match l, h with
  | [a, b, c, d, e, f, g], _ => exact ⟨a, b, c, d, e, f, g, rfl⟩
theorem list5 {α : Type} {l : List α} (h : l.length = 5) : ∃ a b c d e, l = [a, b, c, d, e] := by
  match l, h with
  | [a, b, c, d, e], _ => exact ⟨a, b, c, d, e, rfl⟩
theorem list3 {α : Type} {l : List α} (h : l.length = 3) : ∃ a b c, l = [a, b, c] := by
  match l, h with
  | [a, b, c], _ => exact ⟨a, b, c, rfl⟩
theorem wf_u8 {i : Int} (h : (Lit.int .u8 i).wf = true) : 0 ≤ i ∧ i ≤ 255 := by
  have e1 : IntKind.u8.min = 0 := rfl
  have e2 : IntKind.u8.max = 255 := rfl
  simp [Lit.wf, e1, e2] at h
  omega
theorem wf_i64 {i : Int} (h : (Lit.int .i64 i).wf = true) : -9223372036854775808 ≤ i ∧ i ≤ 9223372036854775807 := by
  have e1 : IntKind.i64.min = -9223372036854775808 := rfl
  have e2 : IntKind.i64.max = 9223372036854775807 := rfl
  simp [Lit.wf, e1, e2] at h
  omega
theorem cell_lt {w : World} {g off : Nat} {v : Value} (h : w.cell? ⟨g, off, none⟩ = some v) : g < w.heap.size := by
  by_cases hg : g < w.heap.size
  · exact hg
  · have hn : w.heap[g]? = none := Array.getElem?_eq_none (by omega)
    simp [World.cell?, hn] at h
theorem len_mid {n : Nat} (h : n ≤ maxLen) : n ≤ 9223372036854775807 := by unfold maxLen at h; omega

theorem cellsX : Tryd.prog.cellsOf 33 = 7 := by kernel_rfl
theorem cellsK : Tryd.prog.cellsOf 30 = 1 := by kernel_rfl
theorem cellsI : Tryd.prog.cellsOf 2 = 1 := by kernel_rfl
theorem cellsS : Tryd.prog.cellsOf 9 = 1 := by kernel_rfl
theorem cellsTy : Tryd.prog.cellsOf 24 = 3 := by kernel_rfl
theorem cellsTk : Tryd.prog.cellsOf 22 = 1 := by kernel_rfl
theorem cellsN : Tryd.prog.cellsOf 3 = 1 := by kernel_rfl
theorem cellsL : Tryd.prog.cellsOf 31 = 1 := by kernel_rfl

section
variable {H : Type} {enc : TypeId × Value → H} {w : World}

theorem open_kids {n : Nat} {v : Value} {y : DataW H × List MemPlace} (h : DataW.trod enc Tryd.prog w 0 (fun _ => true) true n 31 [v] = some y)
    (ih : ∀ k, k < n → ∀ cs y, DataW.trod enc Tryd.prog w 0 (fun _ => true) true k 33 cs = some y → ∃ x : X, cs = x.cells ∧ InW w w.heap.size x) :
    ∃ l : List X, Lies w w.heap.size v l ∧ ∀ a ∈ l, InW w w.heap.size a := by
  rcases DataW.trod_slice Tryd.underlying31 h with ⟨hv, -⟩ | ⟨a, len, cap, elems, rest, n2, hn2, hv, -, -, hlc, hcm, hlen, hel, -, -⟩
  · simp only [List.cons.injEq, and_true] at hv
    subst hv
    exact ⟨[], ⟨none, 0, rfl, by simp, .inl rfl⟩, fun a ha => by cases ha⟩
  · simp only [List.cons.injEq, and_true] at hv
    subst hv
    have each : ∀ i, i < len → ∃ x : X, (∀ j u, x.cells[j]? = some u → w.cell? ((a.add (i * 7)).add j) = some u) ∧ InW w w.heap.size x := by
      intro i hi
      have h1 := hel i hi
      rw [cellsX, List.getElem?_eq_getElem (by rw [hlen]; exact hi)] at h1
      obtain ⟨cs', hc, ht⟩ := Option.bind_eq_some_iff.1 h1
      obtain ⟨-, hl7, hcell⟩ := World.cells?_some hc
      obtain ⟨x, rfl, hx⟩ := ih n2 (by omega) cs' _ ht
      refine ⟨x, fun j u hu => ?_, hx⟩
      have hj : j < 7 := by
        rw [← hl7]
        exact (List.getElem?_eq_some_iff.1 hu).1
      rw [hcell j hj]
      exact hu
    have inh : Inhabited X := ⟨.mk ⟨0, 0, ⟨#[]⟩, 0, ⟨#[]⟩, 0⟩ (.slice none 0 0) []⟩
    obtain ⟨f, hf⟩ := Deep.choose_lt each
    have hlm : len ≤ 9223372036854775807 := len_mid (Nat.le_trans hlc hcm)
    refine ⟨(List.range len).map f, ⟨some a, cap, by simp, by simpa using hlm, ?_⟩, fun x hx => ?_⟩
    · by_cases h0 : len = 0
      · left
        subst h0
        rfl
      · right
        obtain ⟨b, o, sp⟩ := a
        have h1 := (hf 0 (by omega)).1 0 _ rfl
        have hsp : sp = none := by
          have := World.cell?_spot h1
          simpa [Addr.add] using this
        subst hsp
        refine ⟨b, o, rfl, ?_, fun i x hx j u hu => ?_⟩
        · rw [Addr.add_mid, Addr.add_mid] at h1
          exact cell_lt h1
        · rw [List.getElem?_map] at hx
          obtain ⟨i', hi', rfl⟩ := Option.map_eq_some_iff.1 hx
          obtain ⟨hlt, he⟩ := List.getElem?_eq_some_iff.1 hi'
          have hil : i < len := by simpa using hlt
          have hii : i' = i := by simpa using he.symm
          subst hii
          have h2 := (hf i' hil).1 j u hu
          rw [Addr.add_mid, Addr.add_mid, Nat.add_assoc] at h2
          exact h2
    · obtain ⟨i, hi, rfl⟩ := List.mem_map.1 hx
      exact (hf i (List.mem_range.1 hi)).2

theorem open_x : ∀ (n : Nat) (cs : List Value) (y : DataW H × List MemPlace), DataW.trod enc Tryd.prog w 0 (fun _ => true) true n 33 cs = some y → ∃ x : X, cs = x.cells ∧ InW w w.heap.size x := by
  intro n
  induction n using Nat.strongRecOn with
  | _ n ih =>
    intro cs y h
    obtain ⟨xs, n1, hn1, -, hl, hlen, hf⟩ := DataW.trod_struct Tryd.underlying33 h
    obtain ⟨c0, c1, c2, c3, c4, c5, c6, rfl⟩ := list7 (hl.trans cellsX)
    obtain ⟨y0, y1, y2, y3, y4, rfl⟩ := list5 hlen
    have k0 : DataW.trod enc Tryd.prog w 0 (fun _ => true) true n1 30 [c0] = some y0 := by simpa [cellsK] using hf 0 _ rfl
    have k1 : DataW.trod enc Tryd.prog w 0 (fun _ => true) true n1 2 [c1] = some y1 := by simpa [cellsI] using hf 1 _ rfl
    have k2 : DataW.trod enc Tryd.prog w 0 (fun _ => true) true n1 9 [c2] = some y2 := by simpa [cellsS] using hf 2 _ rfl
    have k3 : DataW.trod enc Tryd.prog w 0 (fun _ => true) true n1 24 [c3, c4, c5] = some y3 := by simpa [cellsTy] using hf 3 _ rfl
    have k4 : DataW.trod enc Tryd.prog w 0 (fun _ => true) true n1 31 [c6] = some y4 := by simpa [cellsL] using hf 4 _ rfl
    obtain ⟨k, rfl, wk⟩ := cell_int (k := .u8) (by kernel_rfl) k0
    obtain ⟨i, rfl, wi⟩ := cell_int (k := .i64) (by kernel_rfl) k1
    obtain ⟨nm, rfl, wn⟩ := cell_str (by kernel_rfl) k2
    obtain ⟨ts, n2, -, -, -, hlen2, hf2⟩ := DataW.trod_struct Tryd.underlying24 k3
    obtain ⟨z0, z1, z2, rfl⟩ := list3 hlen2
    have t0' : DataW.trod enc Tryd.prog w 0 (fun _ => true) true n2 22 [c3] = some z0 := by simpa [cellsTk] using hf2 0 _ rfl
    have t1' : DataW.trod enc Tryd.prog w 0 (fun _ => true) true n2 9 [c4] = some z1 := by simpa [cellsS] using hf2 1 _ rfl
    have t2' : DataW.trod enc Tryd.prog w 0 (fun _ => true) true n2 3 [c5] = some z2 := by simpa [cellsN] using hf2 2 _ rfl
    obtain ⟨tk, rfl, -⟩ := cell_int (k := .u8) (by kernel_rfl) t0'
    obtain ⟨tn, rfl, wt⟩ := cell_str (by kernel_rfl) t1'
    obtain ⟨tz, rfl, wz⟩ := cell_int (k := .i64) (by kernel_rfl) t2'
    obtain ⟨l, hL, hIn⟩ := open_kids k4 (fun k hk cs y h => ih k (by omega) cs y h)
    exact ⟨.mk ⟨k, i, nm, tk, tn, tz⟩ c6 l, rfl, .mk _ _ _ ⟨wf_u8 wk, wf_i64 wi, len_mid wn, len_mid wt, wf_i64 wz⟩ hL hIn⟩
end
end Go.Proofs.YtflbplljlkpeiaaDoor
