/- Whatever reads as a program of graphs lies in the world. -/
import Derived.Test.YtgkjhnghibpeoaaDoorRows
import Derived.Test.YtgkjhnghibpeoaaDoorIrLeaf
import Derived.SizedLaws
import Derived.Lib.SmallJoins
import Derived.Deep.Slices
import Derived.Deep.MidRow
import Derived.ProofKit
import Derived.OpenShut
namespace Go.Proofs.YtgkjhnghibpeoaaDoor
open Go.RowKit

theorem wf_u8 {i : Int} (h : (Lit.int .u8 i).wf = true) : 0 ≤ i ∧ i ≤ 255 := by
  have e1 : IntKind.u8.min = 0 := rfl
  have e2 : IntKind.u8.max = 255 := rfl
  simp [Lit.wf, e1, e2] at h
  omega
theorem wf_i64 {i : Int} (h : (Lit.int .i64 i).wf = true) : -9223372036854775808 ≤ i ∧ i ≤ 9223372036854775807 := by
  have e1 : IntKind.i64.min = -9223372036854775808 := rfl
  have e2 : IntKind.i64.max = 9223372036854775807 := rfl
  simp [Lit.wf, e1, e2] at h
  omega
theorem cell_lt {w : World} {g off : Nat} {v : Value} (h : w.cell? ⟨g, off, none⟩ = some v) : g < w.heap.size := by
  by_cases hg : g < w.heap.size
  · exact hg
  · have hn : w.heap[g]? = none := Array.getElem?_eq_none (by omega)
    simp [World.cell?, hn] at h
theorem len_mid {n : Nat} (h : n ≤ maxLen) : n ≤ 9223372036854775807 := by unfold maxLen at h; omega

section
variable {H : Type} {enc : TypeId × Value → H} {w : World}
theorem cell_int {t : TypeId} {k : IntKind} {n : Nat} {v : Value} {y : DataW H × List MemPlace} (ht : Tryd.prog.underlying t = some (.int k)) (h : DataW.trod enc Tryd.prog w 0 (fun _ => true) true n t [v] = some y) : ∃ i, v = .int k i ∧ (Lit.int k i).wf = true := by
  cases n with
  | zero => cases h
  | succ n =>
    unfold DataW.trod at h
    rw [ht] at h
    cases v <;> simp at h
    rename_i k' i
    obtain ⟨⟨rfl, hw⟩, -⟩ := h
    exact ⟨i, rfl, hw⟩
theorem cell_bool {t : TypeId} {n : Nat} {v : Value} {y : DataW H × List MemPlace} (ht : Tryd.prog.underlying t = some .bool) (h : DataW.trod enc Tryd.prog w 0 (fun _ => true) true n t [v] = some y) : ∃ b, v = .bool b := by
  cases n with
  | zero => cases h
  | succ n =>
    unfold DataW.trod at h
    rw [ht] at h
    cases v <;> simp at h
    exact ⟨_, rfl⟩
/-- What a datum takes is within the reach. -/
def Wt (t : TypeId) (d : DataW H) : Prop := ∀ n ∈ d.weights Tryd.prog t, n ≤ reachBytes
theorem wt_all {e : TypeId} {n : Nat} : ∀ {ds : List (DataW H)} {d : DataW H}, d ∈ ds → n ∈ d.weights Tryd.prog e → n ∈ DataW.weightsAll Tryd.prog e ds
  | a :: r, d, hd, hn => by
    simp only [DataW.weightsAll, List.mem_append]
    rcases List.mem_cons.1 hd with rfl | hd
    · exact .inl hn
    · exact .inr (wt_all hd hn)
theorem wt_slice {t e : TypeId} {elems spare : List (DataW H)} (hu : Tryd.prog.underlying t = some (.slice e)) (h : Wt t (.slice elems spare)) : (elems.length + spare.length) * Tryd.prog.bytesOf e ≤ reachBytes ∧ ∀ d ∈ elems, Wt e d := by
  unfold Wt at h
  simp only [DataW.weights, hu, List.mem_cons, List.mem_append] at h
  exact ⟨h _ (.inl rfl), fun d hd n hn => h n (.inr (.inl (wt_all hd hn)))⟩
theorem wt_part {t : TypeId} {fs : Array Field} {parts : List (DataW H)} (hu : Tryd.prog.underlying t = some (.struct fs)) (h : Wt t (.agg parts)) {i : Nat} {f : Field} {d : DataW H} (hf : fs[i]? = some f) (hd : parts[i]? = some d) : Wt f.type d := by
  intro n hn
  refine h n ?_
  simp only [DataW.weights, hu]
  exact DataW.weights_mem_each (j := i) (by rw [List.getElem?_map, Array.getElem?_toList, hf]; rfl) hd n hn

theorem trod_len1 {t : TypeId} {n : Nat} {cs : List Value} {y : DataW H × List MemPlace} (ht : Tryd.prog.underlying t = some .bool) (h : DataW.trod enc Tryd.prog w 0 (fun _ => true) true n t cs = some y) : cs.length = 1 := by
  cases n with
  | zero => cases h
  | succ n =>
    unfold DataW.trod at h
    rw [ht] at h
    match cs with
    | [] => simp at h
    | [v] => rfl
    | a :: b :: r => cases a <;> simp at h
theorem open_list {α : Type} {cells : α → List Value} {kc : Nat} {t e : TypeId} {Q : α → Prop} (inh0 : α) (ht : Tryd.prog.underlying t = some (.slice e)) (hce : Tryd.prog.cellsOf e = kc) (hbe : 1 ≤ Tryd.prog.bytesOf e) (hk : 1 ≤ kc) (hlen : ∀ a, (cells a).length = kc) {n : Nat} {v : Value} {y : DataW H × List MemPlace}
    (h : DataW.trod enc Tryd.prog w 0 (fun _ => true) true n t [v] = some y) (hw : Wt t y.1)
    (ih : ∀ k, k < n → ∀ cs y, DataW.trod enc Tryd.prog w 0 (fun _ => true) true k e cs = some y → Wt e y.1 → ∃ x : α, cs = cells x ∧ Q x) :
    ∃ l : List α, LiesG cells kc w w.heap.size v l ∧ ∀ a ∈ l, Q a := by
  rcases DataW.trod_slice ht h with ⟨hv, -⟩ | ⟨a, len, cap, elems, rest, n2, hn2, hv, hy, -, hlc, hcm, hel0, hel, -, -⟩
  · simp only [List.cons.injEq, and_true] at hv
    subst hv
    exact ⟨[], ⟨none, 0, rfl, by simp, .inl rfl⟩, fun a ha => by cases ha⟩
  · simp only [List.cons.injEq, and_true] at hv
    subst hv
    rw [hy] at hw
    obtain ⟨hw1, hw2⟩ := wt_slice ht hw
    have hroom : len ≤ 140737488351232 := by
      rw [List.length_map, List.length_map, hel0] at hw1
      have h1 : len * 1 ≤ (len + rest.length) * Tryd.prog.bytesOf e := Nat.mul_le_mul (by omega) hbe
      have h2 : reachBytes ≤ 140737488351232 := by decide
      omega
    have each : ∀ i, i < len → ∃ x : α, (∀ j u, (cells x)[j]? = some u → w.cell? ((a.add (i * kc)).add j) = some u) ∧ Q x := by
      intro i hi
      have h1 := hel i hi
      rw [hce, List.getElem?_eq_getElem (by rw [hel0]; exact hi)] at h1
      obtain ⟨cs', hc, htr⟩ := Option.bind_eq_some_iff.1 h1
      obtain ⟨-, hl7, hcell⟩ := World.cells?_some hc
      obtain ⟨x, rfl, hx⟩ := ih n2 (by omega) cs' _ htr (hw2 _ (List.mem_map.2 ⟨_, List.getElem_mem _, rfl⟩))
      refine ⟨x, fun j u hu => ?_, hx⟩
      have hj : j < kc := by
        rw [← hl7]
        exact (List.getElem?_eq_some_iff.1 hu).1
      rw [hcell j hj]
      exact hu
    have inh : Inhabited α := ⟨inh0⟩
    obtain ⟨f, hf⟩ := Deep.choose_lt each
    refine ⟨(List.range len).map f, ⟨some a, cap, by simp, by simpa using hroom, ?_⟩, fun x hx => ?_⟩
    · by_cases h0 : len = 0
      · left
        subst h0
        rfl
      · right
        obtain ⟨b, o, sp⟩ := a
        obtain ⟨u0, hu0⟩ : ∃ u, (cells (f 0))[0]? = some u := ⟨_, List.getElem?_eq_getElem (by rw [hlen]; omega)⟩
        have h1 := (hf 0 (by omega)).1 0 _ hu0
        have hsp : sp = none := by
          have := World.cell?_spot h1
          simpa [Addr.add] using this
        subst hsp
        refine ⟨b, o, rfl, ?_, fun i x hx j u hu => ?_⟩
        · rw [Addr.add_mid, Addr.add_mid] at h1
          exact cell_lt h1
        · rw [List.getElem?_map] at hx
          obtain ⟨i', hi', rfl⟩ := Option.map_eq_some_iff.1 hx
          obtain ⟨hlt, he⟩ := List.getElem?_eq_some_iff.1 hi'
          have hil : i < len := by simpa using hlt
          have hii : i' = i := by simpa using he.symm
          subst hii
          have h2 := (hf i' hil).1 j u hu
          rw [Addr.add_mid, Addr.add_mid, Nat.add_assoc] at h2
          exact h2
    · obtain ⟨i, hi, rfl⟩ := List.mem_map.1 hx
      exact (hf i (List.mem_range.1 hi)).2

theorem g3 {α : Type} {l : List α} (h : l.length = 3) : ∃ a b c, l = [a, b, c] := by
  match l, h with
  | [a, b, c], _ => exact ⟨a, b, c, rfl⟩
theorem g2 {α : Type} {l : List α} (h : l.length = 2) : ∃ a b, l = [a, b] := by
  match l, h with
  | [a, b], _ => exact ⟨a, b, rfl⟩
theorem g4 {α : Type} {l : List α} (h : l.length = 4) : ∃ a b c d, l = [a, b, c, d] := by
  match l, h with
  | [a, b, c, d], _ => exact ⟨a, b, c, d, rfl⟩
theorem g5 {α : Type} {l : List α} (h : l.length = 5) : ∃ a b c d e, l = [a, b, c, d, e] := by
  match l, h with
  | [a, b, c, d, e], _ => exact ⟨a, b, c, d, e, rfl⟩
theorem g6 {α : Type} {l : List α} (h : l.length = 6) : ∃ a b c d e f, l = [a, b, c, d, e, f] := by
  match l, h with
  | [a, b, c, d, e, f], _ => exact ⟨a, b, c, d, e, f, rfl⟩
theorem g7 {α : Type} {l : List α} (h : l.length = 7) : ∃ a b c d e f g, l = [a, b, c, d, e, f, g] := by
  match l, h with
  | [a, b, c, d, e, f, g], _ => exact ⟨a, b, c, d, e, f, g, rfl⟩

theorem sIk : Tryd.prog.cellsOf 43 = 1 := by kernel_rfl
theorem sCa : Tryd.prog.cellsOf 44 = 1 := by kernel_rfl
theorem sLk : Tryd.prog.cellsOf 34 = 1 := by kernel_rfl
theorem sI : Tryd.prog.cellsOf 2 = 1 := by kernel_rfl
theorem sN : Tryd.prog.cellsOf 3 = 1 := by kernel_rfl
theorem sB : Tryd.prog.cellsOf 4 = 1 := by kernel_rfl
theorem sLB : Tryd.prog.cellsOf 22 = 1 := by kernel_rfl
theorem sLI : Tryd.prog.cellsOf 33 = 1 := by kernel_rfl
theorem sLK : Tryd.prog.cellsOf 23 = 1 := by kernel_rfl
theorem sLG : Tryd.prog.cellsOf 85 = 1 := by kernel_rfl
theorem sIn : Tryd.prog.cellsOf 46 = 6 := by kernel_rfl
theorem sBk : Tryd.prog.cellsOf 36 = 5 := by kernel_rfl
theorem sGr : Tryd.prog.cellsOf 25 = 3 := by kernel_rfl
theorem sCd : Tryd.prog.cellsOf 87 = 2 := by kernel_rfl
noncomputable def inIn : In := noI
noncomputable def inBk : Bk := ⟨.slice none 0 0, [], 0, 0, 0, 0⟩
noncomputable def inGr : Gr := ⟨.slice none 0 0, [], 0, .slice none 0 0, []⟩
theorem open_bo (n : Nat) (cs : List Value) (y : DataW H × List MemPlace) (hl : cs.length = 1) (h : DataW.trod enc Tryd.prog w 0 (fun _ => true) true n 4 cs = some y) : ∃ x : Bool, cs = Bcells x ∧ True := by
  match cs, hl with
  | [v], _ =>
    obtain ⟨b, rfl⟩ := cell_bool Tryd.underlying4 h
    exact ⟨b, rfl, trivial⟩
theorem open_in (n : Nat) (cs : List Value) (y : DataW H × List MemPlace) (h : DataW.trod enc Tryd.prog w 0 (fun _ => true) true n 46 cs = some y) : ∃ x : In, cs = x.cells ∧ InOk x := by
  obtain ⟨xs, n1, hn1, hy, hl, hlen, hf⟩ := DataW.trod_struct Tryd.underlying46 h
  obtain ⟨c0, c1, c2, c3, c4, c5, rfl⟩ := g6 (hl.trans sIn)
  obtain ⟨y0, y1, y2, y3, y4, y5, rfl⟩ := g6 hlen
  have k0 : DataW.trod enc Tryd.prog w 0 (fun _ => true) true n1 43 [c0] = some y0 := by simpa [sIk] using hf 0 _ rfl
  have k1 : DataW.trod enc Tryd.prog w 0 (fun _ => true) true n1 44 [c1] = some y1 := by simpa [sCa] using hf 1 _ rfl
  have k2 : DataW.trod enc Tryd.prog w 0 (fun _ => true) true n1 3 [c2] = some y2 := by simpa [sN] using hf 2 _ rfl
  have k3 : DataW.trod enc Tryd.prog w 0 (fun _ => true) true n1 3 [c3] = some y3 := by simpa [sN] using hf 3 _ rfl
  have k4 : DataW.trod enc Tryd.prog w 0 (fun _ => true) true n1 3 [c4] = some y4 := by simpa [sN] using hf 4 _ rfl
  have k5 : DataW.trod enc Tryd.prog w 0 (fun _ => true) true n1 2 [c5] = some y5 := by simpa [sI] using hf 5 _ rfl
  obtain ⟨a0, rfl, w0⟩ := cell_int (k := .u8) (by kernel_rfl) k0
  obtain ⟨a1, rfl, w1⟩ := cell_int (k := .u8) (by kernel_rfl) k1
  obtain ⟨a2, rfl, w2⟩ := cell_int (k := .i64) (by kernel_rfl) k2
  obtain ⟨a3, rfl, w3⟩ := cell_int (k := .i64) (by kernel_rfl) k3
  obtain ⟨a4, rfl, w4⟩ := cell_int (k := .i64) (by kernel_rfl) k4
  obtain ⟨a5, rfl, w5⟩ := cell_int (k := .i64) (by kernel_rfl) k5
  exact ⟨⟨a0, a1, a2, a3, a4, a5⟩, rfl, wf_u8 w0, wf_u8 w1, wf_i64 w2, wf_i64 w3, wf_i64 w4, wf_i64 w5⟩
theorem open_bk (n : Nat) (cs : List Value) (y : DataW H × List MemPlace) (h : DataW.trod enc Tryd.prog w 0 (fun _ => true) true n 36 cs = some y) (hw : Wt 36 y.1) : ∃ x : Bk, cs = x.cells ∧ BIn w w.heap.size x := by
  obtain ⟨xs, n1, hn1, hy, hl, hlen, hf⟩ := DataW.trod_struct Tryd.underlying36 h
  obtain ⟨c0, c1, c2, c3, c4, rfl⟩ := g5 (hl.trans sBk)
  obtain ⟨y0, y1, y2, y3, y4, rfl⟩ := g5 hlen
  rw [hy] at hw
  have k0 : DataW.trod enc Tryd.prog w 0 (fun _ => true) true n1 33 [c0] = some y0 := by simpa [sLI] using hf 0 _ rfl
  have k1 : DataW.trod enc Tryd.prog w 0 (fun _ => true) true n1 34 [c1] = some y1 := by simpa [sLk] using hf 1 _ rfl
  have k2 : DataW.trod enc Tryd.prog w 0 (fun _ => true) true n1 3 [c2] = some y2 := by simpa [sN] using hf 2 _ rfl
  have k3 : DataW.trod enc Tryd.prog w 0 (fun _ => true) true n1 3 [c3] = some y3 := by simpa [sN] using hf 3 _ rfl
  have k4 : DataW.trod enc Tryd.prog w 0 (fun _ => true) true n1 3 [c4] = some y4 := by simpa [sN] using hf 4 _ rfl
  have w0 : Wt 33 y0.1 := wt_part Tryd.underlying36 hw (i := 0) rfl rfl
  obtain ⟨l, hL, hI⟩ := open_list (cells := In.cells) (Q := InOk) inIn Tryd.underlying33 sIn (of_decide_eq_true (by kernel_rfl)) (by omega) (fun _ => rfl) k0 w0 (fun k _ cs y h _ => open_in k cs y h)
  obtain ⟨a1, rfl, v1⟩ := cell_int (k := .u8) (by kernel_rfl) k1
  obtain ⟨a2, rfl, v2⟩ := cell_int (k := .i64) (by kernel_rfl) k2
  obtain ⟨a3, rfl, v3⟩ := cell_int (k := .i64) (by kernel_rfl) k3
  obtain ⟨a4, rfl, v4⟩ := cell_int (k := .i64) (by kernel_rfl) k4
  exact ⟨⟨c0, l, a1, a2, a3, a4⟩, rfl, hL, ⟨wf_u8 v1, wf_i64 v2, wf_i64 v3, wf_i64 v4⟩, hI⟩
theorem open_gr (n : Nat) (cs : List Value) (y : DataW H × List MemPlace) (h : DataW.trod enc Tryd.prog w 0 (fun _ => true) true n 25 cs = some y) (hw : Wt 25 y.1) : ∃ x : Gr, cs = x.cells ∧ GIn w w.heap.size x := by
  obtain ⟨xs, n1, hn1, hy, hl, hlen, hf⟩ := DataW.trod_struct Tryd.underlying25 h
  obtain ⟨c0, c1, c2, rfl⟩ := g3 (hl.trans sGr)
  obtain ⟨y0, y1, y2, rfl⟩ := g3 hlen
  rw [hy] at hw
  have k0 : DataW.trod enc Tryd.prog w 0 (fun _ => true) true n1 22 [c0] = some y0 := by simpa [sLB] using hf 0 _ rfl
  have k1 : DataW.trod enc Tryd.prog w 0 (fun _ => true) true n1 3 [c1] = some y1 := by simpa [sN] using hf 1 _ rfl
  have k2 : DataW.trod enc Tryd.prog w 0 (fun _ => true) true n1 23 [c2] = some y2 := by simpa [sLK] using hf 2 _ rfl
  have w0 : Wt 22 y0.1 := wt_part Tryd.underlying25 hw (i := 0) rfl rfl
  have w2 : Wt 23 y2.1 := wt_part Tryd.underlying25 hw (i := 2) rfl rfl
  obtain ⟨rs, h1, -⟩ := open_list (cells := Bcells) (Q := fun _ => True) false Tryd.underlying22 sB (of_decide_eq_true (by kernel_rfl)) (by omega) (fun _ => rfl) k0 w0 (fun k _ cs y h _ => open_bo k cs y (trod_len1 Tryd.underlying4 h) h)
  obtain ⟨a1, rfl, v1⟩ := cell_int (k := .i64) (by kernel_rfl) k1
  obtain ⟨bs, h3, h4⟩ := open_list (cells := Bk.cells) (Q := BIn w w.heap.size) inBk Tryd.underlying23 sBk (of_decide_eq_true (by kernel_rfl)) (by omega) (fun _ => rfl) k2 w2 (fun k _ cs y h hw => open_bk k cs y h hw)
  exact ⟨⟨c0, rs, a1, c2, bs⟩, rfl, h1, wf_i64 v1, h3, h4⟩
/-- Graphs that read as data lie in the world, and their row has room for them. -/
theorem open_cd (n : Nat) (cs : List Value) (y : DataW H × List MemPlace) (h : DataW.trod enc Tryd.prog w 0 (fun _ => true) true n 87 cs = some y) (hw : Wt 87 y.1) : ∃ c : Cd, cs = c.cells ∧ CIn w w.heap.size c ∧ ∃ ao m cap, c.tv = .slice ao m cap ∧ m ≤ cap := by
  obtain ⟨xs, n1, hn1, hy, hl, hlen, hf⟩ := DataW.trod_struct Tryd.underlying87 h
  obtain ⟨c0, c1, rfl⟩ := g2 (hl.trans sCd)
  obtain ⟨y0, y1, rfl⟩ := g2 hlen
  rw [hy] at hw
  have k0 : DataW.trod enc Tryd.prog w 0 (fun _ => true) true n1 3 [c0] = some y0 := by simpa [sN] using hf 0 _ rfl
  have k1 : DataW.trod enc Tryd.prog w 0 (fun _ => true) true n1 85 [c1] = some y1 := by simpa [sLG] using hf 1 _ rfl
  have w1 : Wt 85 y1.1 := wt_part Tryd.underlying87 hw (i := 1) rfl rfl
  obtain ⟨a0, rfl, v0⟩ := cell_int (k := .i64) (by kernel_rfl) k0
  obtain ⟨gs, h3, h4⟩ := open_list (cells := Gr.cells) (Q := GIn w w.heap.size) inGr Tryd.underlying85 sGr (of_decide_eq_true (by kernel_rfl)) (by omega) (fun _ => rfl) k1 w1 (fun k _ cs y h hw => open_gr k cs y h hw)
  refine ⟨⟨a0, c1, gs⟩, rfl, ⟨wf_i64 v0, h3, h4⟩, ?_⟩
  rcases DataW.trod_slice Tryd.underlying85 k1 with ⟨hv, -⟩ | ⟨a, len, cap, elems, rest, n2, hn2, hv, hy, -, hlc, -⟩
  · simp only [List.cons.injEq, and_true] at hv
    exact ⟨none, 0, 0, hv, Nat.le_refl _⟩
  · simp only [List.cons.injEq, and_true] at hv
    exact ⟨_, len, cap, hv, hlc⟩
end
end Go.Proofs.YtgkjhnghibpeoaaDoor
