/- Whatever reads as a program of graphs lies in the world. -/
import Derived.Test.YtijciojipcgiaaaRows
import Derived.Test.YtijciojipcgiaaaIrIn
import Derived.SizedLaws
import Derived.Lib.SmallJoins
import Derived.Deep.Slices
import Derived.Deep.MidRow
import Derived.ProofKit
import Derived.OpenShut
import Derived.Test.YtijciojipcgiaaaWkRunE
import Derived.Deep.AppendLies
import Derived.Laws.AppendOwnNone
import Derived.Test.YtijciojipcgiaaaIrSizes
import Derived.Test.YtijciojipcgiaaaIrBoth
import Derived.Test.YtijciojipcgiaaaWkBack
import Derived.LoopTactic
import Derived.LoopN
import Derived.WalkKit
import Derived.WalkSpells
import Derived.WalkLawsBesides
import Derived.Lib.Hide
import Derived.OrdersHeld
import Derived.Deep.RegionHeld
import Derived.Deep.DrawnRows
import Derived.RegionTactic
import Derived.Deep.RegionHeld3
import Derived.IntWalk
namespace Go.Proofs.Ytijciojipcgiaaa
open Go.RowKit

theorem wf_u8 {i : Int} (h : (Lit.int .u8 i).wf = true) : 0 ≤ i ∧ i ≤ 255 := by
  have e1 : IntKind.u8.min = 0 := rfl
  have e2 : IntKind.u8.max = 255 := rfl
  simp [Lit.wf, e1, e2] at h
  omega
theorem wf_i64 {i : Int} (h : (Lit.int .i64 i).wf = true) : -9223372036854775808 ≤ i ∧ i ≤ 9223372036854775807 := by
  have e1 : IntKind.i64.min = -9223372036854775808 := rfl
  have e2 : IntKind.i64.max = 9223372036854775807 := rfl
  simp [Lit.wf, e1, e2] at h
  omega
theorem cell_lt {w : World} {g off : Nat} {v : Value} (h : w.cell? ⟨g, off, none⟩ = some v) : g < w.heap.size := by
  by_cases hg : g < w.heap.size
  · exact hg
  · have hn : w.heap[g]? = none := Array.getElem?_eq_none (by omega)
    simp [World.cell?, hn] at h
theorem len_mid {n : Nat} (h : n ≤ maxLen) : n ≤ 9223372036854775807 := by unfold maxLen at h; omega

section
variable {H : Type} {enc : TypeId × Value → H} {w : World}
theorem cell_int {t : TypeId} {k : IntKind} {n : Nat} {v : Value} {y : DataW H × List MemPlace} (ht : Try.prog.underlying t = some (.int k)) (h : DataW.trod enc Try.prog w 0 (fun _ => true) true n t [v] = some y) : ∃ i, v = .int k i ∧ (Lit.int k i).wf = true := by
  cases n with
  | zero => cases h
  | succ n =>
    unfold DataW.trod at h
    rw [ht] at h
    cases v <;> simp at h
    rename_i k' i
    obtain ⟨⟨rfl, hw⟩, -⟩ := h
    exact ⟨i, rfl, hw⟩
theorem cell_bool {t : TypeId} {n : Nat} {v : Value} {y : DataW H × List MemPlace} (ht : Try.prog.underlying t = some .bool) (h : DataW.trod enc Try.prog w 0 (fun _ => true) true n t [v] = some y) : ∃ b, v = .bool b := by
  cases n with
  | zero => cases h
  | succ n =>
    unfold DataW.trod at h
    rw [ht] at h
    cases v <;> simp at h
    exact ⟨_, rfl⟩
/-- What a datum takes is within the reach. -/
def Wt (t : TypeId) (d : DataW H) : Prop := ∀ n ∈ d.weights Try.prog t, n ≤ reachBytes
theorem wt_all {e : TypeId} {n : Nat} : ∀ {ds : List (DataW H)} {d : DataW H}, d ∈ ds → n ∈ d.weights Try.prog e → n ∈ DataW.weightsAll Try.prog e ds
  | a :: r, d, hd, hn => by
    simp only [DataW.weightsAll, List.mem_append]
    rcases List.mem_cons.1 hd with rfl | hd
    · exact .inl hn
    · exact .inr (wt_all hd hn)
theorem wt_slice {t e : TypeId} {elems spare : List (DataW H)} (hu : Try.prog.underlying t = some (.slice e)) (h : Wt t (.slice elems spare)) : (elems.length + spare.length) * Try.prog.bytesOf e ≤ reachBytes ∧ ∀ d ∈ elems, Wt e d := by
  unfold Wt at h
  simp only [DataW.weights, hu, List.mem_cons, List.mem_append] at h
  exact ⟨h _ (.inl rfl), fun d hd n hn => h n (.inr (.inl (wt_all hd hn)))⟩
theorem wt_part {t : TypeId} {fs : Array Field} {parts : List (DataW H)} (hu : Try.prog.underlying t = some (.struct fs)) (h : Wt t (.agg parts)) {i : Nat} {f : Field} {d : DataW H} (hf : fs[i]? = some f) (hd : parts[i]? = some d) : Wt f.type d := by
  intro n hn
  refine h n ?_
  simp only [DataW.weights, hu]
  exact DataW.weights_mem_each (j := i) (by rw [List.getElem?_map, Array.getElem?_toList, hf]; rfl) hd n hn

theorem trod_len1 {t : TypeId} {n : Nat} {cs : List Value} {y : DataW H × List MemPlace} (ht : Try.prog.underlying t = some .bool) (h : DataW.trod enc Try.prog w 0 (fun _ => true) true n t cs = some y) : cs.length = 1 := by
  cases n with
  | zero => cases h
  | succ n =>
    unfold DataW.trod at h
    rw [ht] at h
    match cs with
    | [] => simp at h
    | [v] => rfl
    | a :: b :: r => cases a <;> simp at h
theorem open_list {α : Type} {cells : α → List Value} {kc : Nat} {t e : TypeId} {Q : α → Prop} (inh0 : α) (ht : Try.prog.underlying t = some (.slice e)) (hce : Try.prog.cellsOf e = kc) (hbe : 1 ≤ Try.prog.bytesOf e) (hk : 1 ≤ kc) (hlen : ∀ a, (cells a).length = kc) {n : Nat} {v : Value} {y : DataW H × List MemPlace}
    (h : DataW.trod enc Try.prog w 0 (fun _ => true) true n t [v] = some y) (hw : Wt t y.1)
    (ih : ∀ k, k < n → ∀ cs y, DataW.trod enc Try.prog w 0 (fun _ => true) true k e cs = some y → Wt e y.1 → ∃ x : α, cs = cells x ∧ Q x) :
    ∃ l : List α, LiesG cells kc w w.heap.size v l ∧ ∀ a ∈ l, Q a := by
  rcases DataW.trod_slice ht h with ⟨hv, -⟩ | ⟨a, len, cap, elems, rest, n2, hn2, hv, hy, -, hlc, hcm, hel0, hel, -, -⟩
  · simp only [List.cons.injEq, and_true] at hv
    subst hv
    exact ⟨[], ⟨none, 0, rfl, by simp, .inl rfl⟩, fun a ha => by cases ha⟩
  · simp only [List.cons.injEq, and_true] at hv
    subst hv
    rw [hy] at hw
    obtain ⟨hw1, hw2⟩ := wt_slice ht hw
    have hroom : len ≤ 140737488351232 := by
      rw [List.length_map, List.length_map, hel0] at hw1
      have h1 : len * 1 ≤ (len + rest.length) * Try.prog.bytesOf e := Nat.mul_le_mul (by omega) hbe
      have h2 : reachBytes ≤ 140737488351232 := by decide
      omega
    have each : ∀ i, i < len → ∃ x : α, (∀ j u, (cells x)[j]? = some u → w.cell? ((a.add (i * kc)).add j) = some u) ∧ Q x := by
      intro i hi
      have h1 := hel i hi
      rw [hce, List.getElem?_eq_getElem (by rw [hel0]; exact hi)] at h1
      obtain ⟨cs', hc, htr⟩ := Option.bind_eq_some_iff.1 h1
      obtain ⟨-, hl7, hcell⟩ := World.cells?_some hc
      obtain ⟨x, rfl, hx⟩ := ih n2 (by omega) cs' _ htr (hw2 _ (List.mem_map.2 ⟨_, List.getElem_mem _, rfl⟩))
      refine ⟨x, fun j u hu => ?_, hx⟩
      have hj : j < kc := by
        rw [← hl7]
        exact (List.getElem?_eq_some_iff.1 hu).1
      rw [hcell j hj]
      exact hu
    have inh : Inhabited α := ⟨inh0⟩
    obtain ⟨f, hf⟩ := Deep.choose_lt each
    refine ⟨(List.range len).map f, ⟨some a, cap, by simp, by simpa using hroom, ?_⟩, fun x hx => ?_⟩
    · by_cases h0 : len = 0
      · left
        subst h0
        rfl
      · right
        obtain ⟨b, o, sp⟩ := a
        obtain ⟨u0, hu0⟩ : ∃ u, (cells (f 0))[0]? = some u := ⟨_, List.getElem?_eq_getElem (by rw [hlen]; omega)⟩
        have h1 := (hf 0 (by omega)).1 0 _ hu0
        have hsp : sp = none := by
          have := World.cell?_spot h1
          simpa [Addr.add] using this
        subst hsp
        refine ⟨b, o, rfl, ?_, fun i x hx j u hu => ?_⟩
        · rw [Addr.add_mid, Addr.add_mid] at h1
          exact cell_lt h1
        · rw [List.getElem?_map] at hx
          obtain ⟨i', hi', rfl⟩ := Option.map_eq_some_iff.1 hx
          obtain ⟨hlt, he⟩ := List.getElem?_eq_some_iff.1 hi'
          have hil : i < len := by simpa using hlt
          have hii : i' = i := by simpa using he.symm
          subst hii
          have h2 := (hf i' hil).1 j u hu
          rw [Addr.add_mid, Addr.add_mid, Nat.add_assoc] at h2
          exact h2
    · obtain ⟨i, hi, rfl⟩ := List.mem_map.1 hx
      exact (hf i (List.mem_range.1 hi)).2

theorem g3 {α : Type} {l : List α} (h : l.length = 3) : ∃ a b c, l = [a, b, c] := by
  match l, h with
  | [a, b, c], _ => exact ⟨a, b, c, rfl⟩
theorem g2 {α : Type} {l : List α} (h : l.length = 2) : ∃ a b, l = [a, b] := by
  match l, h with
  | [a, b], _ => exact ⟨a, b, rfl⟩
theorem g4 {α : Type} {l : List α} (h : l.length = 4) : ∃ a b c d, l = [a, b, c, d] := by
  match l, h with
  | [a, b, c, d], _ => exact ⟨a, b, c, d, rfl⟩
theorem g5 {α : Type} {l : List α} (h : l.length = 5) : ∃ a b c d e, l = [a, b, c, d, e] := by
  match l, h with
  | [a, b, c, d, e], _ => exact ⟨a, b, c, d, e, rfl⟩
theorem g6 {α : Type} {l : List α} (h : l.length = 6) : ∃ a b c d e f, l = [a, b, c, d, e, f] := by
  match l, h with
  | [a, b, c, d, e, f], _ => exact ⟨a, b, c, d, e, f, rfl⟩
theorem g7 {α : Type} {l : List α} (h : l.length = 7) : ∃ a b c d e f g, l = [a, b, c, d, e, f, g] := by
  match l, h with
  | [a, b, c, d, e, f, g], _ => exact ⟨a, b, c, d, e, f, g, rfl⟩

theorem sIk : Try.prog.cellsOf 50 = 1 := by kernel_rfl
theorem sCa : Try.prog.cellsOf 51 = 1 := by kernel_rfl
theorem sLk : Try.prog.cellsOf 47 = 1 := by kernel_rfl
theorem sI : Try.prog.cellsOf 2 = 1 := by kernel_rfl
theorem sN : Try.prog.cellsOf 3 = 1 := by kernel_rfl
theorem sB : Try.prog.cellsOf 4 = 1 := by kernel_rfl
theorem sLB : Try.prog.cellsOf 42 = 1 := by kernel_rfl
theorem sLI : Try.prog.cellsOf 46 = 1 := by kernel_rfl
theorem sLK : Try.prog.cellsOf 43 = 1 := by kernel_rfl
theorem sLG : Try.prog.cellsOf 22 = 1 := by kernel_rfl
theorem sIn : Try.prog.cellsOf 53 = 6 := by kernel_rfl
theorem sBk : Try.prog.cellsOf 49 = 5 := by kernel_rfl
theorem sGr : Try.prog.cellsOf 45 = 3 := by kernel_rfl
theorem sCd : Try.prog.cellsOf 24 = 2 := by kernel_rfl
noncomputable def inIn : In := noI
noncomputable def inBk : Bk := ⟨.slice none 0 0, [], 0, 0, 0, 0⟩
noncomputable def inGr : Gr := ⟨.slice none 0 0, [], 0, .slice none 0 0, []⟩
theorem open_bo (n : Nat) (cs : List Value) (y : DataW H × List MemPlace) (hl : cs.length = 1) (h : DataW.trod enc Try.prog w 0 (fun _ => true) true n 4 cs = some y) : ∃ x : Bool, cs = Bcells x ∧ True := by
  match cs, hl with
  | [v], _ =>
    obtain ⟨b, rfl⟩ := cell_bool Try.underlying4 h
    exact ⟨b, rfl, trivial⟩
theorem open_in (n : Nat) (cs : List Value) (y : DataW H × List MemPlace) (h : DataW.trod enc Try.prog w 0 (fun _ => true) true n 53 cs = some y) : ∃ x : In, cs = x.cells ∧ InOk x := by
  obtain ⟨xs, n1, hn1, hy, hl, hlen, hf⟩ := DataW.trod_struct Try.underlying53 h
  obtain ⟨c0, c1, c2, c3, c4, c5, rfl⟩ := g6 (hl.trans sIn)
  obtain ⟨y0, y1, y2, y3, y4, y5, rfl⟩ := g6 hlen
  have k0 : DataW.trod enc Try.prog w 0 (fun _ => true) true n1 50 [c0] = some y0 := by simpa [sIk] using hf 0 _ rfl
  have k1 : DataW.trod enc Try.prog w 0 (fun _ => true) true n1 51 [c1] = some y1 := by simpa [sCa] using hf 1 _ rfl
  have k2 : DataW.trod enc Try.prog w 0 (fun _ => true) true n1 3 [c2] = some y2 := by simpa [sN] using hf 2 _ rfl
  have k3 : DataW.trod enc Try.prog w 0 (fun _ => true) true n1 3 [c3] = some y3 := by simpa [sN] using hf 3 _ rfl
  have k4 : DataW.trod enc Try.prog w 0 (fun _ => true) true n1 3 [c4] = some y4 := by simpa [sN] using hf 4 _ rfl
  have k5 : DataW.trod enc Try.prog w 0 (fun _ => true) true n1 2 [c5] = some y5 := by simpa [sI] using hf 5 _ rfl
  obtain ⟨a0, rfl, w0⟩ := cell_int (k := .u8) (by kernel_rfl) k0
  obtain ⟨a1, rfl, w1⟩ := cell_int (k := .u8) (by kernel_rfl) k1
  obtain ⟨a2, rfl, w2⟩ := cell_int (k := .i64) (by kernel_rfl) k2
  obtain ⟨a3, rfl, w3⟩ := cell_int (k := .i64) (by kernel_rfl) k3
  obtain ⟨a4, rfl, w4⟩ := cell_int (k := .i64) (by kernel_rfl) k4
  obtain ⟨a5, rfl, w5⟩ := cell_int (k := .i64) (by kernel_rfl) k5
  exact ⟨⟨a0, a1, a2, a3, a4, a5⟩, rfl, wf_u8 w0, wf_u8 w1, wf_i64 w2, wf_i64 w3, wf_i64 w4, wf_i64 w5⟩
theorem open_bk (n : Nat) (cs : List Value) (y : DataW H × List MemPlace) (h : DataW.trod enc Try.prog w 0 (fun _ => true) true n 49 cs = some y) (hw : Wt 49 y.1) : ∃ x : Bk, cs = x.cells ∧ BIn w w.heap.size x := by
  obtain ⟨xs, n1, hn1, hy, hl, hlen, hf⟩ := DataW.trod_struct Try.underlying49 h
  obtain ⟨c0, c1, c2, c3, c4, rfl⟩ := g5 (hl.trans sBk)
  obtain ⟨y0, y1, y2, y3, y4, rfl⟩ := g5 hlen
  rw [hy] at hw
  have k0 : DataW.trod enc Try.prog w 0 (fun _ => true) true n1 46 [c0] = some y0 := by simpa [sLI] using hf 0 _ rfl
  have k1 : DataW.trod enc Try.prog w 0 (fun _ => true) true n1 47 [c1] = some y1 := by simpa [sLk] using hf 1 _ rfl
  have k2 : DataW.trod enc Try.prog w 0 (fun _ => true) true n1 3 [c2] = some y2 := by simpa [sN] using hf 2 _ rfl
  have k3 : DataW.trod enc Try.prog w 0 (fun _ => true) true n1 3 [c3] = some y3 := by simpa [sN] using hf 3 _ rfl
  have k4 : DataW.trod enc Try.prog w 0 (fun _ => true) true n1 3 [c4] = some y4 := by simpa [sN] using hf 4 _ rfl
  have w0 : Wt 46 y0.1 := wt_part Try.underlying49 hw (i := 0) rfl rfl
  obtain ⟨l, hL, hI⟩ := open_list (cells := In.cells) (Q := InOk) inIn Try.underlying46 sIn (of_decide_eq_true (by kernel_rfl)) (by omega) (fun _ => rfl) k0 w0 (fun k _ cs y h _ => open_in k cs y h)
  obtain ⟨a1, rfl, v1⟩ := cell_int (k := .u8) (by kernel_rfl) k1
  obtain ⟨a2, rfl, v2⟩ := cell_int (k := .i64) (by kernel_rfl) k2
  obtain ⟨a3, rfl, v3⟩ := cell_int (k := .i64) (by kernel_rfl) k3
  obtain ⟨a4, rfl, v4⟩ := cell_int (k := .i64) (by kernel_rfl) k4
  exact ⟨⟨c0, l, a1, a2, a3, a4⟩, rfl, hL, ⟨wf_u8 v1, wf_i64 v2, wf_i64 v3, wf_i64 v4⟩, hI⟩
theorem open_gr (n : Nat) (cs : List Value) (y : DataW H × List MemPlace) (h : DataW.trod enc Try.prog w 0 (fun _ => true) true n 45 cs = some y) (hw : Wt 45 y.1) : ∃ x : Gr, cs = x.cells ∧ GIn w w.heap.size x := by
  obtain ⟨xs, n1, hn1, hy, hl, hlen, hf⟩ := DataW.trod_struct Try.underlying45 h
  obtain ⟨c0, c1, c2, rfl⟩ := g3 (hl.trans sGr)
  obtain ⟨y0, y1, y2, rfl⟩ := g3 hlen
  rw [hy] at hw
  have k0 : DataW.trod enc Try.prog w 0 (fun _ => true) true n1 42 [c0] = some y0 := by simpa [sLB] using hf 0 _ rfl
  have k1 : DataW.trod enc Try.prog w 0 (fun _ => true) true n1 3 [c1] = some y1 := by simpa [sN] using hf 1 _ rfl
  have k2 : DataW.trod enc Try.prog w 0 (fun _ => true) true n1 43 [c2] = some y2 := by simpa [sLK] using hf 2 _ rfl
  have w0 : Wt 42 y0.1 := wt_part Try.underlying45 hw (i := 0) rfl rfl
  have w2 : Wt 43 y2.1 := wt_part Try.underlying45 hw (i := 2) rfl rfl
  obtain ⟨rs, h1, -⟩ := open_list (cells := Bcells) (Q := fun _ => True) false Try.underlying42 sB (of_decide_eq_true (by kernel_rfl)) (by omega) (fun _ => rfl) k0 w0 (fun k _ cs y h _ => open_bo k cs y (trod_len1 Try.underlying4 h) h)
  obtain ⟨a1, rfl, v1⟩ := cell_int (k := .i64) (by kernel_rfl) k1
  obtain ⟨bs, h3, h4⟩ := open_list (cells := Bk.cells) (Q := BIn w w.heap.size) inBk Try.underlying43 sBk (of_decide_eq_true (by kernel_rfl)) (by omega) (fun _ => rfl) k2 w2 (fun k _ cs y h hw => open_bk k cs y h hw)
  exact ⟨⟨c0, rs, a1, c2, bs⟩, rfl, h1, wf_i64 v1, h3, h4⟩
/-- Graphs that read as data lie in the world, and their row has room for them. -/
theorem open_cd (n : Nat) (cs : List Value) (y : DataW H × List MemPlace) (h : DataW.trod enc Try.prog w 0 (fun _ => true) true n 24 cs = some y) (hw : Wt 24 y.1) : ∃ c : Cd, cs = c.cells ∧ CIn w w.heap.size c ∧ ∃ ao m cap, c.tv = .slice ao m cap ∧ m ≤ cap := by
  obtain ⟨xs, n1, hn1, hy, hl, hlen, hf⟩ := DataW.trod_struct Try.underlying24 h
  obtain ⟨c0, c1, rfl⟩ := g2 (hl.trans sCd)
  obtain ⟨y0, y1, rfl⟩ := g2 hlen
  rw [hy] at hw
  have k0 : DataW.trod enc Try.prog w 0 (fun _ => true) true n1 3 [c0] = some y0 := by simpa [sN] using hf 0 _ rfl
  have k1 : DataW.trod enc Try.prog w 0 (fun _ => true) true n1 22 [c1] = some y1 := by simpa [sLG] using hf 1 _ rfl
  have w1 : Wt 22 y1.1 := wt_part Try.underlying24 hw (i := 1) rfl rfl
  obtain ⟨a0, rfl, v0⟩ := cell_int (k := .i64) (by kernel_rfl) k0
  obtain ⟨gs, h3, h4⟩ := open_list (cells := Gr.cells) (Q := GIn w w.heap.size) inGr Try.underlying22 sGr (of_decide_eq_true (by kernel_rfl)) (by omega) (fun _ => rfl) k1 w1 (fun k _ cs y h hw => open_gr k cs y h hw)
  refine ⟨⟨a0, c1, gs⟩, rfl, ⟨wf_i64 v0, h3, h4⟩, ?_⟩
  rcases DataW.trod_slice Try.underlying22 k1 with ⟨hv, -⟩ | ⟨a, len, cap, elems, rest, n2, hn2, hv, hy, -, hlc, -⟩
  · simp only [List.cons.injEq, and_true] at hv
    exact ⟨none, 0, 0, hv, Nat.le_refl _⟩
  · simp only [List.cons.injEq, and_true] at hv
    exact ⟨_, len, cap, hv, hlc⟩
end
end Go.Proofs.Ytijciojipcgiaaa
namespace Go.Proofs.Ytijciojipcgiaaa
open Go.RowKit
set_option maxRecDepth 100000
attribute [local go_sem ↓] bld_eq bls_eq

/-- A row of numbers, as it is read. -/
def Rd (w : World) (v : Value) (l : List Int) : Prop := ∃ q c, v = .slice q l.length c ∧ l.length ≤ 9223372036854775807 ∧ ((q = none ∧ c = 0 ∧ l = []) ∨ ∃ g off, q = some ⟨g, off, none⟩ ∧ g < w.heap.size ∧ l.length ≤ c ∧ c ≤ 9223372036854775807 ∧ ∀ (i : Nat) x, l[i]? = some x → w.cell? ⟨g, off + i, none⟩ = some (.int .i64 x))
theorem Tail.rd {ow : Nat → Nat} {w : World} {lab : Nat} {v : Value} {l : List Int} (h : Tail ow w lab v l) : Rd w v l := by
  rcases h with ⟨rfl, rfl⟩ | ⟨g, off, cap, cur, rfl, hg, -, h1, h2, h3, h4⟩
  · exact ⟨none, 0, rfl, by simp, .inl ⟨rfl, rfl, rfl⟩⟩
  · have hm : maxLen = 9223372036854775807 := by decide
    exact ⟨_, _, rfl, by omega, .inr ⟨g, off, rfl, heap_lt hg, h1, by omega, fun i x hx => by rw [Lib.cell_of_heap hg]; exact h4 i x hx⟩⟩
theorem Rd.below {w w' : World} {v : Value} {l : List Int} (h : Rd w v l) (hb : Below w.heap.size w w') : Rd w' v l := by
  obtain ⟨q, c, e, hl, h⟩ := h
  refine ⟨q, c, e, hl, ?_⟩
  rcases h with h | ⟨g, off, e2, hg, h1, h2, h3⟩
  · exact .inl h
  · exact .inr ⟨g, off, e2, Nat.lt_of_lt_of_le hg hb.size, h1, h2, fun i x hx => (hb.cell (p := ⟨g, off + i, none⟩) hg).trans (h3 i x hx)⟩
/-- The first ones of a row. -/
theorem Rd.cut {w : World} {v : Value} {l : List Int} (h : Rd w v l) (m : Nat) (hm : m ≤ l.length) : ∃ v', Rd w v' (l.take m) ∧ ∀ w1 : World, (Instr.sliceAt 35 v none (some (.int .i64 (m : Int))) none).run Try.prog w1 = .ok v' w1 := by
  obtain ⟨q, c, rfl, hl, h⟩ := h
  have hlen : (l.take m).length = m := by rw [List.length_take]; omega
  have hs : ∀ w1 : World, (sizeOf 2).run Try.prog w1 = .ok 1 w1 := fun w1 => by kernel_rfl
  rcases h with ⟨rfl, rfl, rfl⟩ | ⟨g, off, rfl, hg, h1, h2, h3⟩
  · have hm0 : m = 0 := by simpa using hm
    subst hm0
    refine ⟨.slice none 0 0, ⟨none, 0, rfl, by simp, .inl ⟨rfl, rfl, rfl⟩⟩, fun w1 => ?_⟩
    have hb : (Instr.sliceBounds true 0 0 none (some (.int .i64 ((0 : Nat) : Int))) none).run Try.prog w1 = .ok (0, 0, 0) w1 := by
      have e1 := run_sliceBound (P := Try.prog) w1 .i64 (0 : Int) 0 .sliceAcap (by omega) (by omega)
      simp [Instr.sliceBounds] at e1 ⊢
      simp [e1, Result.andThen]
    simp only [Instr.sliceAt, Instr.slice, Sem.run_bind, run_underlying Try.underlying35, Result.andThen, List.length_nil, hb, hs]
    simp
  · refine ⟨.slice (some ⟨g, off, none⟩) m c, ⟨_, c, by rw [hlen], by omega, .inr ⟨g, off, rfl, hg, by omega, h2, fun i x hx => ?_⟩⟩, fun w1 => ?_⟩
    · rw [List.getElem?_take] at hx
      split at hx
      · exact h3 i x hx
      · cases hx
    · have hb : (Instr.sliceBounds true l.length c none (some (.int .i64 (m : Int))) none).run Try.prog w1 = .ok (0, m, c) w1 := by
        have e1 := run_sliceBound (P := Try.prog) w1 .i64 (m : Int) c .sliceAcap (by omega) (by omega)
        rw [Int.toNat_natCast] at e1
        simp [Instr.sliceBounds, e1, Result.andThen]
      simp only [Instr.sliceAt, Instr.slice, Sem.run_bind, run_underlying Try.underlying35, Result.andThen, hb, hs]
      by_cases hc : c = 0
      · simp [hc]
      · simp [hc, Addr.add]
/-- Alike rows are found alike. -/
theorem rd_cell {w : World} {q : Option Addr} {c n : Nat} {l : List Int} (h : Rd w (.slice q n c) l) (i : Nat) (x : Int) (hx : l[i]? = some x) : ∃ g off, q = some ⟨g, off, none⟩ ∧ g < w.heap.size ∧ w.cell? ⟨g, off + i, none⟩ = some (.int .i64 x) := by
  obtain ⟨q', c', e, -, h⟩ := h
  cases e
  rcases h with ⟨-, -, rfl⟩ | ⟨g, off, rfl, hg, -, -, h3⟩
  · simp at hx
  · exact ⟨g, off, rfl, hg, h3 i x hx⟩
set_option maxHeartbeats 4000000 in
theorem sameWides_any (l : List Int) (va vb : Value) (w : World) (h1 : Rd w va l) (h2 : Rd w vb l) :
    Calls Try.prog 9 #[va, vb] w fun e w' => e = .returned (.bool true) ∧ Below w.heap.size w w' := by
  obtain ⟨qa, ca, rfl, hl, -⟩ := id h1
  obtain ⟨qb, cb, rfl, -, -⟩ := id h2
  have H1 := Lib.hid h1
  have H2 := Lib.hid h2
  obtain ⟨N, hN⟩ : ∃ N, N = l.length := ⟨_, rfl⟩
  rw [← hN] at H1 H2 hl ⊢
  have HN := Lib.hid hN
  clear h1 h2 hN
  go_enter Try.func9, Try.ntmps9
  go_wp2_with fail
  go_loopw [13] (fun q wr => ∃ k : Nat, k ≤ N ∧ q = .int .i64 (k : Int) ∧ Below w.heap.size w wr) (fun q _ => N - (intOf q).toNat)
  case atStart => exact ⟨0, by omega, rfl, Below.refl _ _⟩
  case round =>
    obtain ⟨k, hkN, rfl, hB⟩ := hrel
    by_cases hlt : k < N
    · obtain ⟨x, hx⟩ : ∃ x, l[k]? = some x := ⟨_, List.getElem?_eq_getElem (by rw [← HN.out]; exact hlt)⟩
      obtain ⟨ga, oa, rfl, hga, ca0⟩ := rd_cell H1.out k x hx
      obtain ⟨gb, ob, rfl, hgb, cb0⟩ := rd_cell H2.out k x hx
      have ca0 := (hB.cell (p := ⟨ga, oa + k, none⟩) hga).trans ca0
      have cb0 := (hB.cell (p := ⟨gb, ob + k, none⟩) hgb).trans cb0
      have hsz := hB.size
      have hga2 : ga < wr.heap.size := by omega
      have hgb2 : gb < wr.heap.size := by omega
      have HB := Lib.hid hB
      clear hx hB
      go_wp2_with fail
      refine wp_region_held_drew (S := SameOn (fun x => x = ga ∨ x = gb) wr) (by kernel_rfl) (SameOn.drew _ _) (fun hSw => ?_)
      refine wpAnyH_take (i := 0) (oi := { dst := some 16, op := Op.move (Operand.tmp 0), type := 35, pos := "twin.go:79", after := #[], guard := none }) (v := .slice (some ⟨ga, oa, none⟩) N ca) rfl (by kernel_rfl) (by kernel_rfl) (by kernel_rfl) (fun _ _ _ h => h) (Or.inl ⟨by rfl, fun W hW => ?_⟩) hSw ?_
      · first | (go_simp; done) | rfl
      try simp only [Act.put, List.setIfInBounds_toArray, List.set_cons_zero, List.set_cons_succ]
      refine wpAnyH_take (i := 1) (oi := { dst := some 17, op := Op.move (Operand.tmp 5), type := 3, pos := "twin.go:79", after := #[], guard := none }) (v := .int .i64 (k : Int)) rfl (by kernel_rfl) (by kernel_rfl) (by kernel_rfl) (fun _ _ _ h => h) (Or.inl ⟨by rfl, fun W hW => ?_⟩) hSw ?_
      · first | (go_simp; done) | rfl
      try simp only [Act.put, List.setIfInBounds_toArray, List.set_cons_zero, List.set_cons_succ]
      refine wpAnyH_take (i := 2) (oi := { dst := some 18, op := Op.indexAddr 35 (Operand.tmp 16) (Operand.tmp 17), type := 0, pos := "twin.go:79", after := #[{ on := 0, ground := Ground.data }, { on := 1, ground := Ground.data }], guard := none }) (v := .pointer (some ⟨ga, oa + k, none⟩)) rfl (by kernel_rfl) (by kernel_rfl) (by kernel_rfl) (fun _ _ _ h => h) (Or.inl ⟨by rfl, fun W hW => ?_⟩) hSw ?_
      · first | (go_simp; done) | rfl
      try simp only [Act.put, List.setIfInBounds_toArray, List.set_cons_zero, List.set_cons_succ]
      refine wpAnyH_take (i := 3) (oi := { dst := some 19, op := Op.load 2 (Operand.tmp 18), type := 2, pos := "twin.go:79", after := #[{ on := 2, ground := Ground.data }], guard := none }) (v := .int .i64 x) rfl (by kernel_rfl) (by kernel_rfl) (by kernel_rfl) (fun _ _ _ h => h) (Or.inl ⟨by rfl, fun W hW => ?_⟩) hSw ?_
      · have ca0 := hW.cell (by dsimp only; omega) ca0
        first | (go_simp; done) | rfl
      try simp only [Act.put, List.setIfInBounds_toArray, List.set_cons_zero, List.set_cons_succ]
      refine wpAnyH_take (i := 4) (oi := { dst := some 20, op := Op.move (Operand.tmp 1), type := 35, pos := "twin.go:79", after := #[], guard := none }) (v := .slice (some ⟨gb, ob, none⟩) N cb) rfl (by kernel_rfl) (by kernel_rfl) (by kernel_rfl) (fun _ _ _ h => h) (Or.inl ⟨by rfl, fun W hW => ?_⟩) hSw ?_
      · first | (go_simp; done) | rfl
      try simp only [Act.put, List.setIfInBounds_toArray, List.set_cons_zero, List.set_cons_succ]
      refine wpAnyH_take (i := 5) (oi := { dst := some 21, op := Op.move (Operand.tmp 5), type := 3, pos := "twin.go:79", after := #[], guard := none }) (v := .int .i64 (k : Int)) rfl (by kernel_rfl) (by kernel_rfl) (by kernel_rfl) (fun _ _ _ h => h) (Or.inl ⟨by rfl, fun W hW => ?_⟩) hSw ?_
      · first | (go_simp; done) | rfl
      try simp only [Act.put, List.setIfInBounds_toArray, List.set_cons_zero, List.set_cons_succ]
      refine wpAnyH_take (i := 6) (oi := { dst := some 22, op := Op.indexAddr 35 (Operand.tmp 20) (Operand.tmp 21), type := 0, pos := "twin.go:79", after := #[{ on := 4, ground := Ground.data }, { on := 5, ground := Ground.data }], guard := none }) (v := .pointer (some ⟨gb, ob + k, none⟩)) rfl (by kernel_rfl) (by kernel_rfl) (by kernel_rfl) (fun _ _ _ h => h) (Or.inl ⟨by rfl, fun W hW => ?_⟩) hSw ?_
      · first | (go_simp; done) | rfl
      try simp only [Act.put, List.setIfInBounds_toArray, List.set_cons_zero, List.set_cons_succ]
      refine wpAnyH_take (i := 7) (oi := { dst := some 23, op := Op.load 2 (Operand.tmp 22), type := 2, pos := "twin.go:79", after := #[{ on := 6, ground := Ground.data }], guard := none }) (v := .int .i64 x) rfl (by kernel_rfl) (by kernel_rfl) (by kernel_rfl) (fun _ _ _ h => h) (Or.inl ⟨by rfl, fun W hW => ?_⟩) hSw ?_
      · have cb0 := hW.cell (by dsimp only; omega) cb0
        first | (go_simp; done) | rfl
      try simp only [Act.put, List.setIfInBounds_toArray, List.set_cons_zero, List.set_cons_succ]
      refine wpAnyH_take (i := 8) (oi := { dst := some 24, op := Op.binOp BinOp.neq 2 (Operand.tmp 19) (Operand.tmp 23) 2, type := 4, pos := "twin.go:79", after := #[{ on := 3, ground := Ground.data }, { on := 7, ground := Ground.data }], guard := none }) (v := .bool false) rfl (by kernel_rfl) (by kernel_rfl) (by kernel_rfl) (fun _ _ _ h => h) (Or.inl ⟨by rfl, fun W hW => ?_⟩) hSw ?_
      · first | (go_simp; done) | rfl
      try simp only [Act.put, List.setIfInBounds_toArray, List.set_cons_zero, List.set_cons_succ]
      refine wpAnyH_done (by kernel_rfl) ?_ _
      go_wp2_with fail
      go_roundw
      case rel => exact ⟨k + 1, hlt, by go_num, below_drewN' HB.out⟩
      case measure => simp [intOf]; omega
    · have HB := Lib.hid hB
      clear hB
      go_wp2_with fail
      go_ret
      exact ⟨rfl, HB.out⟩
/-- What Run answered, as it is read: the i-th thread's two things. -/
theorem SeenAt.read {w : World} {sv : Value} {Ts : List TS} (h : SeenAt w sv Ts) : ∃ q c, sv = .slice q Ts.length c ∧ (0 < Ts.length → ∃ g, q = some ⟨g, 0, none⟩ ∧ g < w.heap.size ∧ ∀ (i : Nat) T, Ts[i]? = some T → ∃ tq tc, w.cell? ⟨g, i * 2, none⟩ = some (.slice tq T.told.length tc) ∧ w.cell? ⟨g, i * 2 + 1, none⟩ = some (.int .u8 T.fin) ∧ Rd w (.slice tq T.told.length tc) T.told) := by
  obtain ⟨L, cs, hown, hat⟩ := h
  have hl := hown.1
  rcases hown.2 with ⟨e, e2⟩ | ⟨g, cap, cur, e, hb, hg, _⟩
  · exact ⟨none, 0, by rw [e, e2], fun h0 => by omega⟩
  · refine ⟨_, _, e, fun h0 => ⟨g, rfl, heap_lt hg, fun i T hT => ?_⟩⟩
    subst e
    have hlt := (List.getElem?_eq_some_iff.1 hT).1
    obtain ⟨tv, c1, c2, ht⟩ := hat i T hT
    obtain ⟨tq, tc, e, hh⟩ := ht.rd
    have hrd : Rd w tv T.told := ⟨tq, tc, e, hh⟩
    subst e
    exact ⟨tq, tc, (hown.cellAt _ (by omega)).trans c1, (hown.cellAt _ (by omega)).trans c2, hrd⟩
theorem SeenAt.below {w w' : World} {sv : Value} {Ts : List TS} (h : SeenAt w sv Ts) (hb : Below w.heap.size w w') : SeenAt w' sv Ts := by
  obtain ⟨L, cs, hown, hat⟩ := h
  refine ⟨L, cs, ⟨hown.1, ?_⟩, fun i T hT => ?_⟩
  · rcases hown.2 with hn | ⟨g, cap, cur, e, hg0, hg, rest⟩
    · exact .inl hn
    · exact .inr ⟨g, cap, cur, e, hg0, (hb.block g (heap_lt hg)).trans hg, rest⟩
  · obtain ⟨tv, c1, c2, ht⟩ := hat i T hT
    exact ⟨tv, c1, c2, ht.keeps (But.of (ls := []) hb) (.refl _ _) (by simp)⟩
/-- Picks, as they are handed in. -/
def PickIn (w : World) (B : Nat) (v : Value) (l : List Int) : Prop := LiesG Icells 1 w B v l ∧ (∀ x ∈ l, -9223372036854775808 ≤ x ∧ x ≤ 9223372036854775807) ∧ (v = .slice none 0 0 ∨ ∃ a n c, v = .slice (some a) n c)
theorem PickIn.below {w w' : World} {B : Nat} {v : Value} {l : List Int} (h : PickIn w B v l) (hb : Below B w w') : PickIn w' B v l := ⟨h.1.below hb, h.2⟩
def ints (l : List Int) : List Value := l.map (Value.int .i64)
theorem infoInt : (Try.prog.info? 3).map (fun i => (i.zero, i.size, i.bytes)) = some (some (.int .i64 0), 1, 8) := by kernel_rfl
/-- Picks put behind others. -/
theorem app_picks (w : World) (L B : Nat) (v : Value) (n : Nat) (xs : List Value) (pv : Value) (l : List Int) (h : w.ownsRow L 3 1 v n xs) (hp : PickIn w B pv l) (hn : n ≤ 1000000) (hl : l.length ≤ 1000000) (hL : L ≤ w.heap.size) :
    ∃ v' w', (Builtin.append_ #[25, 25] 25 #[v, pv]).run Try.prog w = .ok v' w' ∧ w'.ownsRow L 3 1 v' (n + l.length) (xs ++ ints l) ∧ Below L w w' := by
  obtain ⟨i, hi, hz, hs, hb⟩ := info_parts infoInt
  obtain ⟨ao, cap, e, hlen, hc⟩ := hp.1
  rcases hp.2.2 with e2 | ⟨a, m, c, e2⟩
  · rw [e] at e2
    have hl0 : l = [] := by
      injection e2 with _ e3 _
      exact List.length_eq_zero_iff.1 e3
    subst hl0
    rw [e, e2]
    have hr := run_append_owned_none (P := Try.prog) (w := w) L 25 25 3 i 1 Try.underlying25 hi v n xs h
    exact ⟨v, w, hr, by simpa [ints] using h, Below.refl _ _⟩
  · have hae : ao = some a ∧ m = l.length ∧ c = cap := by rw [e] at e2; cases e2; exact ⟨rfl, rfl, rfl⟩
    obtain ⟨rfl, rfl, rfl⟩ := hae
    rw [e]
    have hnews : ∀ j u, (ints l)[j]? = some u → w.cell? (a.add j) = some u := by
      intro j u hu
      rcases hc with rfl | ⟨g, off, e1, hg, hc⟩
      · simp [ints] at hu
      · cases e1
        rw [ints, List.getElem?_map] at hu
        obtain ⟨y, hy, rfl⟩ := Option.map_eq_some_iff.1 hu
        have := hc j y hy 0 _ rfl
        rw [Addr.add_mid]
        simpa using this
    obtain ⟨v', w', hr, h2, h3, -⟩ := run_append_own_at (P := Try.prog) w L 25 25 3 i (.int .i64 0) 1 8 Try.underlying25 hi hz hs hb rfl (by omega) v n xs h a l.length c (ints l) (by simp [ints]) hnews (by intro u hu; simp [ints] at hu; obtain ⟨y, -, rfl⟩ := hu; rfl) (by unfold maxLen; omega) (by omega) hL
    refine ⟨v', w', hr, h2, h3.os, h3.tape, h3.output, h3.size, fun k hk => h3.block k (by omega) fun hq => ?_⟩
    have := (h.lt k hq.symm).1
    omega
/-- A row that is one's own, as picks. -/
theorem picks_own {w : World} {L n : Nat} {v : Value} {l : List Int} (h : w.ownsRow L 3 1 v n (ints l)) (hl : l.length ≤ 2000000) (hx : ∀ x ∈ l, -9223372036854775808 ≤ x ∧ x ≤ 9223372036854775807) : LiesG Icells 1 w w.heap.size v l ∧ n = l.length := by
  have hn : n = l.length := by have := h.1; simp [ints] at this; omega
  refine ⟨?_, hn⟩
  rcases h.2 with ⟨rfl, e⟩ | ⟨g, cap, cur, e, hb, hg, _⟩
  · have hl0 : l = [] := List.length_eq_zero_iff.1 (by omega)
    subst hl0
    exact ⟨none, 0, rfl, by simp, .inl rfl⟩
  · subst e
    refine ⟨_, cap, by rw [hn], by omega, .inr ⟨g, 0, rfl, heap_lt hg, fun i x hi j u hu => ?_⟩⟩
    have hil := (List.getElem?_eq_some_iff.1 hi).1
    cases j with
    | zero =>
      simp [Icells] at hu
      subst hu
      rw [Nat.zero_add, Nat.mul_one, Nat.add_zero, h.cellAt i (by omega), ints, List.getElem?_map, hi]
      rfl
    | succ j => simp [Icells] at hu
end Go.Proofs.Ytijciojipcgiaaa
namespace Go.Proofs.Ytijciojipcgiaaa
open Go.RowKit
theorem open_picks {H : Type} {enc : TypeId × Value → H} {w : World} (n : Nat) (v : Value) (y : DataW H × List MemPlace) (h : DataW.trod enc Try.prog w 0 (fun _ => true) true n 25 [v] = some y) (hw : Wt 25 y.1) : ∃ l : List Int, PickIn w w.heap.size v l := by
  obtain ⟨l, h1, h2⟩ := open_list (cells := Icells) (kc := 1) (Q := fun x => -9223372036854775808 ≤ x ∧ x ≤ 9223372036854775807) (0 : Int) Try.underlying25 (by kernel_rfl) (of_decide_eq_true (by kernel_rfl)) (by omega) (fun a => rfl) h hw
    (fun k _ cs y hy _ => by
      have hlen : cs.length = 1 := by
        cases k with
        | zero => cases hy
        | succ k =>
          unfold DataW.trod at hy
          rw [Try.underlying3] at hy
          match cs with
          | [] => simp at hy
          | [u] => rfl
          | a :: b :: r => cases a <;> simp at hy
      match cs, hlen with
      | [u], _ =>
        obtain ⟨i, rfl, hi⟩ := cell_int Try.underlying3 hy
        exact ⟨i, rfl, wf_i64 hi⟩)
  refine ⟨l, h1, h2, ?_⟩
  rcases DataW.trod_slice Try.underlying25 h with ⟨hv, -⟩ | ⟨a, len, cap, els, rest, m, -, hv, -⟩
  · simp only [List.cons.injEq, and_true] at hv
    exact .inl hv
  · simp only [List.cons.injEq, and_true] at hv
    exact .inr ⟨a, len, cap, hv⟩
end Go.Proofs.Ytijciojipcgiaaa
