/- A copy of a program without one of its threads. -/
import Derived.Test.YtcibiiddigpnfaaGreatDoorRows
import Derived.Test.YtcibiiddigpnfaaGreatDoorTypWt
import Derived.Test.YtcibiiddigpnfaaGreatDoorTypLawQ
import Derived.ArgAppend
import Derived.Deep.Upon
namespace Go.Proofs.YtcibiiddigpnfaaGreatDoor
set_option maxRecDepth 100000
open Go.RowKit
attribute [local go_sem ↓] bls_eq
theorem wp_append_run {P : Program} {w : World} {o : Oper} {a : Act} {K : Act → World → Prop} {Q : Exit → Act → World → Prop} (s x : Operand) (t : TypeId)
    (ho : o.op = .call { callee := .builtin .append, args := #[s, x], argTypes := #[t, t] }) {v1 v2 v : Value} {w' : World} (hs : a.eval s = v1) (hx : a.eval x = v2)
    (hr : (Builtin.append_ #[t, t] o.type #[v1, v2]).run P w = .ok v w') (h : K (a.put o.dst v) w') : o.wp P a w K Q := by
  unfold Oper.wp execOp
  simp only [ho, resolve, invoke, builtin, Sem.run_bind, Sem.run_pure, Result.andThen_ok, List.map_toArray, List.map_cons, List.map_nil, hs, hx, hr]
  exact h
theorem th_one (l : List Th) {w : World} {B : Nat} (h : ∀ t ∈ l, TIn w B t) : ∀ u ∈ l.flatMap Th.cells, u.oneCell' = true := by
  intro u hu
  obtain ⟨t, ht, hu⟩ := List.mem_flatMap.1 hu
  obtain ⟨ao, cap, e, -⟩ := (h t ht).lies.form
  have : u = t.v := by simpa [Th.cells] using hu
  rw [this, e]
  rfl
theorem flat_th : ∀ l : List Th, l.flatMap Th.cells = l.map (·.v)
  | [] => rfl
  | a :: r => by rw [List.flatMap_cons, flat_th r]; rfl
theorem cut_append {w : World} {ta k N c : Nat} {R : Array Value} {l : List Th} {T : List Value} {B : Nat} (hlt : ta < w.heap.size) (hr : w.heap[ta]? = some (.cells R 36 (0, 0))) (hR : R.toList = l.flatMap Th.cells ++ T) (hN : l.length = N) (hk : k < N) (hs : N ≤ 262144) (_hI : ∀ t ∈ l, TIn w B t) :
    ∃ v w', (Builtin.append_ #[25, 25] 25 #[.slice (some ⟨ta, 0, none⟩) k k, .slice (some ⟨ta, k + 1, none⟩) (N - (k + 1)) c]).run Tryz.prog w = .ok v w' ∧ (∀ u : World, u.heap[ta]? = w.heap[ta]? → (∀ g, w.heap.size ≤ g → g < w'.heap.size → u.heap[g]? = w'.heap[g]?) → LiesG Th.cells 1 u w'.heap.size v (l.take k ++ l.drop (k + 1))) ∧ Below w.heap.size w w' := by
  have hcell : ∀ u : World, u.heap[ta]? = w.heap[ta]? → ∀ j x, l[j]? = some x → u.cell? ⟨ta, j, none⟩ = some x.v := by
    intro u hu j x hx
    rw [Lib.cell_of_heap (hu.trans hr), ← Array.getElem?_toList, hR, flat_th]
    have hj := (List.getElem?_eq_some_iff.1 hx).1
    rw [List.getElem?_append_left (by rw [List.length_map]; exact hj), List.getElem?_map, hx]; rfl
  obtain ⟨i0, hi, hz0, hz1, hz2⟩ := info_parts twiT
  by_cases hm : k + 1 = N
  · have hsrc : (Builtin.append_ #[25, 25] 25 #[.slice (some ⟨ta, 0, none⟩) k k, .slice (some ⟨ta, k + 1, none⟩) (N - (k + 1)) c]).run Tryz.prog w = .ok (.slice (some ⟨ta, 0, none⟩) k k) w := by
      have h0 : N - (k + 1) = 0 := by omega
      rw [h0]
      have hfc := run_firstCells_some (P := Tryz.prog) w i0.size 0 ⟨ta, k + 1, none⟩ 0 c [] (by simp) (fun j u hu => by cases hu)
      simp [Builtin.append_, run_underlying Tryz.underlying25, sizeOf, typeInfo, hi, Builtin.lenOf, hfc, storeCells]
    refine ⟨_, _, hsrc, fun u hu1 _ => ?_, Below.refl _ _⟩
    have e : l.take k ++ l.drop (k + 1) = l.take k := by rw [List.drop_eq_nil_of_le (by omega), List.append_nil]
    rw [e]
    have hlen : (l.take k).length = k := by rw [List.length_take]; omega
    refine ⟨some ⟨ta, 0, none⟩, k, by rw [hlen], by rw [hlen]; omega, .inr ⟨ta, 0, rfl, hlt, fun i x hx j v hu => ?_⟩⟩
    rw [List.getElem?_take] at hx
    split at hx
    · have hj : j = 0 := by have := (List.getElem?_eq_some_iff.1 hu).1; simpa [Th.cells] using this
      subst hj
      obtain rfl : x.v = v := by simpa [Th.cells] using hu
      rw [show 0 + (i * 1 + 0) = i by omega]
      exact hcell u hu1 i x hx
    · cases hx
  · obtain ⟨v, w', hrun, hown, hgrow⟩ := run_append_arg_grows (P := Tryz.prog) w 25 25 36 i0 (.slice none 0 0) 1 24 Tryz.underlying25 hi hz0 hz1 hz2 rfl (by decide) ⟨ta, 0, none⟩ k k ((l.take k).map (·.v)) (by rw [List.length_map, List.length_take]; omega)
      (fun j u hu => by
        rw [List.getElem?_map, List.getElem?_take] at hu
        split at hu
        · obtain ⟨x, hx, rfl⟩ := Option.map_eq_some_iff.1 hu
          rw [Addr.add_mid, Nat.zero_add]
          exact hcell w rfl j x hx
        · cases hu)
      ⟨ta, k + 1, none⟩ (N - (k + 1)) c ((l.drop (k + 1)).map (·.v)) (by rw [List.length_map, List.length_drop]; omega)
      (fun j u hu => by
        rw [List.getElem?_map, List.getElem?_drop] at hu
        obtain ⟨x, hx, rfl⟩ := Option.map_eq_some_iff.1 hu
        rw [Addr.add_mid]
        exact hcell w rfl (k + 1 + j) x hx)
      (by omega) (by unfold maxLen; omega) (by omega)
    have hb : Below w.heap.size w w' := ⟨hgrow.os, hgrow.tape, hgrow.output, hgrow.size, fun g hg => hgrow.block g hg (by simp)⟩
    refine ⟨v, w', hrun, fun u _ hu2 => ?_, hb⟩
    have e : (l.take k).map (·.v) ++ (l.drop (k + 1)).map (·.v) = (l.take k ++ l.drop (k + 1)).map (·.v) := by rw [List.map_append]
    rw [e] at hown
    have hlen : (l.take k ++ l.drop (k + 1)).length = k + (N - (k + 1)) := by rw [List.length_append, List.length_take, List.length_drop]; omega
    rcases hown.2 with ⟨rfl, h0⟩ | ⟨g, cap, cur, rfl, h2, h3, h4, h5, h6, h7⟩
    · omega
    · refine ⟨some ⟨g, 0, none⟩, cap, by rw [hlen], by rw [hlen]; omega, .inr ⟨g, 0, rfl, (Array.getElem?_eq_some_iff.1 h3).1, fun i x hx j v hu => ?_⟩⟩
      have hj : j = 0 := by have := (List.getElem?_eq_some_iff.1 hu).1; simpa [Th.cells] using this
      subst hj
      obtain rfl : x.v = v := by simpa [Th.cells] using hu
      have hi2 : i < k + (N - (k + 1)) := by rw [← hlen]; exact (List.getElem?_eq_some_iff.1 hx).1
      rw [show 0 + (i * 1 + 0) = i by omega, Lib.cell_of_heap ((hu2 g h2 (Array.getElem?_eq_some_iff.1 h3).1).trans h3), ← Array.getElem?_toList]
      have h8 := congrArg (fun q => q[i]?) h7
      rw [List.getElem?_take_of_lt (by omega), List.getElem?_map, hx] at h8
      exact h8
def Sq (b : Nat) (v : Value) (W : World) : Prop := W.cell? ⟨b, 3, none⟩ = some v
def WoE (P : Pr) (k : Nat) (w : World) (e : Ending) (w' : World) : Prop := ∃ Q : Pr, e = .returned (.agg #[Q.e.rv, Q.e.sv, Q.e.fv, Q.tv]) ∧ Q.bare = (⟨P.e, P.tv, P.threads.take k ++ P.threads.drop (k + 1)⟩ : Pr).bare ∧ Below w.heap.size w w' ∧ PIn w' w'.heap.size Q
set_option maxHeartbeats 8000000 in
theorem without_any (P : Pr) (k : Nat) (B : Nat) (w : World) (hI : PIn w B P) (hBw : B ≤ w.heap.size) (hsz : sizeP P ≤ 262144) (hT : Tab w) (hk : k < P.threads.length) :
    Calls Tryz.prog 10 #[.agg #[P.e.rv, P.e.sv, P.e.fv, P.tv], .int .i64 (k : Int)] w (WoE P k w) := by
  obtain ⟨ro, rc, er, -⟩ := hI.e.rlies.form
  obtain ⟨so, sc, es, -⟩ := hI.e.slies.form
  obtain ⟨fo, fc, ef, -⟩ := hI.e.flies.form
  obtain ⟨to, tc, et, -⟩ := hI.tlies.form
  obtain ⟨W2, hW2⟩ : ∃ W2, W2 = (w.alloc (.cells #[P.e.rv, P.e.sv, P.e.fv, P.tv] 27)).alloc (.cells #[.slice none 0 0, .slice none 0 0, .slice none 0 0, .slice none 0 0] 27) := ⟨_, rfl⟩
  have hb1 := below_box w (.cells #[P.e.rv, P.e.sv, P.e.fv, P.tv] 27)
  have hb2 : Below w.heap.size w W2 := by rw [hW2]; exact hb1.alloc (by simp) _
  have hz2 : W2.heap.size = w.heap.size + 2 := by rw [hW2]; simp
  have hO2 : W2.heap[w.heap.size]? = some (.cells #[P.e.rv, P.e.sv, P.e.fv, P.tv] 27 (0, 0)) := by
    rw [hW2, Below.heap_alloc _ _ _ (by simp)]; exact (MapKept.heap_alloc _ _).1
  have hP2 : W2.heap[w.heap.size + 1]? = some (.cells #[.slice none 0 0, .slice none 0 0, .slice none 0 0, .slice none 0 0] 27 (0, 0)) := by
    rw [hW2]; have := (MapKept.heap_alloc (w.alloc (.cells #[P.e.rv, P.e.sv, P.e.fv, P.tv] 27)) (.cells #[.slice none 0 0, .slice none 0 0, .slice none 0 0, .slice none 0 0] 27)).1; simpa using this
  have hTW := twinProgram_any P B W2 (hI.keeps (hb2.mono hBw)) (by omega) hsz (hT.keeps hb2)
  have hsz4 : P.threads.length ≤ 262144 := by unfold sizeP at hsz; omega
  obtain ⟨q0, q1, q2, q3⟩ := prog4 _ _ _ _ hO2
  simp only [er, es, ef, et] at hTW hW2 q0 q1 q2 q3 ⊢
  obtain ⟨N1, hN1⟩ : ∃ N, N = P.e.records.length := ⟨_, rfl⟩
  obtain ⟨N2, hN2⟩ : ∃ N, N = P.e.shared.length := ⟨_, rfl⟩
  obtain ⟨N3, hN3⟩ : ∃ N, N = P.e.funcs.length := ⟨_, rfl⟩
  obtain ⟨N4, hN4⟩ : ∃ N, N = P.threads.length := ⟨_, rfl⟩
  rw [← hN1, ← hN2, ← hN3, ← hN4] at hTW hW2 ⊢
  rw [← hN1] at q0
  rw [← hN2] at q1
  rw [← hN3] at q2
  rw [← hN4] at q3 hk hsz4
  rw [hW2] at q0 q1 q2 q3
  have HTW := Lib.hid hTW
  have HW2 := Lib.hid hW2
  have HB2 := Lib.hid hb2
  have HZ2 := Lib.hid hz2
  have HP2 := Lib.hid hP2
  have HN := Lib.hid (And.intro hN1 (And.intro hN2 (And.intro hN3 hN4)))
  clear hTW hW2 hb1 hb2 hz2 hO2 hP2 hI hsz hT er es ef et hN1 hN2 hN3 hN4
  go_enter Tryz.func10, Tryz.ntmps10
  go_wp2_with fail
  rw [← HW2.out]
  refine HTW.out.mono ?_; intro e w3 hq
  obtain ⟨Q, rfl, hQ⟩ := hq
  obtain ⟨ra, sa, fa, ta, hQ⟩ := hQ.quad
  rw [hQ.rv, hQ.sv, hQ.fv, hQ.tv, ← HN.out.1, ← HN.out.2.1, ← HN.out.2.2.1, ← HN.out.2.2.2]
  have hb3 := hQ.tw.below
  have hs3 := hb3.size
  have HB3 := Lib.hid (HB2.out.trans (hb3.mono (by have := HZ2.out; omega)))
  have HP3 := Lib.hid ((hb3.block (w.heap.size + 1) (by have := HZ2.out; omega)).trans HP2.out)
  obtain ⟨w4, hw4⟩ : ∃ u, u = w3.alloc (.cells #[.slice (some ⟨ra, 0, none⟩) N1 (N1 + 2), .slice (some ⟨sa, 0, none⟩) N2 (N2 + 2), .slice (some ⟨fa, 0, none⟩) N3 (N3 + 2), .slice (some ⟨ta, 0, none⟩) N4 (N4 + 2)] 27) := ⟨_, rfl⟩
  have hb4 : Below w3.heap.size w3 w4 := by rw [hw4]; exact below_box w3 _
  have hz4 : w4.heap.size = w3.heap.size + 1 := by rw [hw4]; simp
  have hO4 : w4.heap[w3.heap.size]? = some (.cells #[.slice (some ⟨ra, 0, none⟩) N1 (N1 + 2), .slice (some ⟨sa, 0, none⟩) N2 (N2 + 2), .slice (some ⟨fa, 0, none⟩) N3 (N3 + 2), .slice (some ⟨ta, 0, none⟩) N4 (N4 + 2)] 27 (0, 0)) := by rw [hw4]; exact box4 _ _ _ _
  have hQI : PIn w3 w3.heap.size Q := hQ.tw.new.here
  have hQI4 := hQI.keeps hb4
  have d3 : Sq w3.heap.size (.slice (some ⟨ta, 0, none⟩) N4 (N4 + 2)) w4 := by unfold Sq; rw [Lib.cell_of_heap hO4]; rfl
  -- the threads' row in w4
  obtain ⟨a9, b9, R9, t1, t2, hTL, ha9, hk9⟩ := hQ.tw.threads
  have hta : ta = a9.heap.size := by
    have h1 := hTL.val
    rw [hQ.tv] at h1
    injection h1 with h2
    injection h2 with h3
    injection h3
  have hrow3 : w3.heap[ta]? = some (.cells R9 36 (0, 0)) := by rw [hta]; exact (hk9.2 _ (Nat.le_refl _) hTL.lt).trans hTL.row
  have htl3 : ta < w3.heap.size := (Array.getElem?_eq_some_iff.1 hrow3).1
  have hlen9 : Q.threads.length = N4 := by rw [hTL.len, ← HN.out.2.2.2]
  have hcut := cut_append (w := w4.drew) (ta := ta) (k := k) (N := N4) (c := N4 + 2 - (k + 1)) (R := R9) (l := Q.threads) (T := t1 ++ t2) (B := w3.heap.size) (by show ta < w4.heap.size; omega) ((hb4.block ta htl3).trans hrow3) hTL.list hlen9 hk hsz4 (fun t ht => (hQI4.threads t ht).keeps (Below.refl _ _).drew)
  obtain ⟨v5, w5, hrun, hL5, hb5⟩ := hcut
  obtain ⟨vo, vc, ev5, -⟩ := (hL5 w5 (hb5.block ta (by show ta < w4.heap.size; omega)) (fun _ _ _ => rfl)).form
  have hlen5 : (Q.threads.take k ++ Q.threads.drop (k + 1)).length = N4 - 1 := by rw [List.length_append, List.length_take, List.length_drop]; omega
  rw [hlen5] at ev5
  replace hb5 : Below w4.heap.size w4 w5 := (Below.refl _ _).drew.trans hb5
  have hs5 := hb5.size
  have hO5 := (hb5.block w3.heap.size (by omega)).trans hO4
  have hS5 : Sq w3.heap.size (.slice (some ⟨ta, 0, none⟩) N4 (N4 + 2)) w5 := by unfold Sq; rw [Lib.cell_of_heap hO5]; rfl
  have HP5b := Lib.hid ((hb5.block (w.heap.size + 1) (by have := HZ2.out; omega)).trans ((hb4.block (w.heap.size + 1) (by have := HZ2.out; omega)).trans HP3.out))
  have f5 := Lib.frozen_of_heap hO5 3
  have g0 : w5.cell? ⟨w3.heap.size, 0, none⟩ = some (.slice (some ⟨ra, 0, none⟩) N1 (N1 + 2)) := by rw [Lib.cell_of_heap hO5]; rfl
  have g1 : w5.cell? ⟨w3.heap.size, 1, none⟩ = some (.slice (some ⟨sa, 0, none⟩) N2 (N2 + 2)) := by rw [Lib.cell_of_heap hO5]; rfl
  have g2 : w5.cell? ⟨w3.heap.size, 2, none⟩ = some (.slice (some ⟨fa, 0, none⟩) N3 (N3 + 2)) := by rw [Lib.cell_of_heap hO5]; rfl
  have g3 : w5.cell? ⟨w3.heap.size, 3, none⟩ = some (.slice (some ⟨ta, 0, none⟩) N4 (N4 + 2)) := hS5
  have hQE := Lib.hid (hQI4.e.keeps (hb5.mono (by omega)))
  have hQT := Lib.hid (fun t (ht : t ∈ Q.threads.take k ++ Q.threads.drop (k + 1)) => (hQI4.threads t (by
    rcases List.mem_append.1 ht with h | h
    · exact List.mem_of_mem_take h
    · exact List.mem_of_mem_drop h)).keeps (hb5.mono (by omega)))
  have HRV := Lib.hid hQ.rv
  have HSV := Lib.hid hQ.sv
  have HFV := Lib.hid hQ.fv
  have HBARE := Lib.hid hQ.tw.bare
  have HNEW := Lib.hid hQ.tw.new
  have HTA := Lib.hid (show W2.heap.size < ta ∧ ta < w3.heap.size from ⟨by omega, htl3⟩)
  have HB4 := Lib.hid hb4
  have HB45 := Lib.hid hb5
  have HZ4 := Lib.hid hz4
  rw [ev5] at hrun hL5
  have HL5 := Lib.hid hL5
  have HRUN := Lib.hid hrun
  have HB5 := Lib.hid (HB3.out.trans ((hb4.trans (hb5.mono (by omega))).mono (by have := HZ2.out; omega)))
  have HO5 := Lib.hid hO5
  have HW4 := Lib.hid hw4
  have hz45 : w3.heap.size < w5.heap.size := by omega
  have hsz5 : w.heap.size + 1 < w3.heap.size := by have := HZ2.out; omega
  clear hQ hb3 hw4 hb4 hz4 hO4 hQI hQI4 hTL hta hrow3 htl3 hlen9 hlen5 hk9 ha9 ev5 hb5 hs5 hO5 hL5 hrun q0 q1 q2 q3
  go_wp2_with fail
  rw [← HW4.out]
  refine wp_region_late (S := Sq w3.heap.size (.slice (some ⟨ta, 0, none⟩) N4 (N4 + 2))) (fun j => decide (11 ≤ j)) (by kernel_rfl) d3 (fun hSw => ?_)
  refine wpAnyL_take (i := 0) (v := .pointer (some ⟨w3.heap.size, 3, none⟩)) rfl (by kernel_rfl) (by kernel_rfl) (by kernel_rfl) rfl (by kernel_rfl) (fun _ _ _ h => h) (Or.inl ⟨by rfl, fun W hW => ?_⟩) hSw ?_
  · first | (go_simp; done) | rfl
  try simp only [Act.put, q1]
  refine wpAnyL_take (i := 1) (v := .slice (some ⟨ta, 0, none⟩) N4 (N4 + 2)) rfl (by kernel_rfl) (by kernel_rfl) (by kernel_rfl) rfl (by kernel_rfl) (fun _ _ _ h => h) (Or.inl ⟨by rfl, fun W hW => ?_⟩) hSw ?_
  · have s0 : W.cell? _ = some _ := hW
    first | (go_simp; done) | rfl
  try simp only [Act.put]
  refine wpAnyL_take (i := 2) (v := .int .i64 (k : Int)) rfl (by kernel_rfl) (by kernel_rfl) (by kernel_rfl) rfl (by kernel_rfl) (fun _ _ _ h => h) (Or.inl ⟨by rfl, fun W hW => ?_⟩) hSw ?_
  · first | (go_simp; done) | rfl
  try simp only [Act.put]
  refine wpAnyL_take (i := 3) (v := .int .i64 (k : Int)) rfl (by kernel_rfl) (by kernel_rfl) (by kernel_rfl) rfl (by kernel_rfl) (fun _ _ _ h => h) (Or.inl ⟨by rfl, fun W hW => ?_⟩) hSw ?_
  · first | (go_simp; done) | rfl
  try simp only [Act.put]
  refine wpAnyL_take (i := 4) (v := .slice (some ⟨ta, 0, none⟩) k k) rfl (by kernel_rfl) (by kernel_rfl) (by kernel_rfl) rfl (by kernel_rfl) (fun _ _ _ h => h) (Or.inl ⟨by rfl, fun W hW => ?_⟩) hSw ?_
  · (go_simp; intro h; exfalso; omega)
  try simp only [Act.put]
  refine wpAnyL_take (i := 5) (v := .pointer (some ⟨w3.heap.size, 3, none⟩)) rfl (by kernel_rfl) (by kernel_rfl) (by kernel_rfl) rfl (by kernel_rfl) (fun _ _ _ h => h) (Or.inl ⟨by rfl, fun W hW => ?_⟩) hSw ?_
  · first | (go_simp; done) | rfl
  try simp only [Act.put]
  refine wpAnyL_take (i := 6) (v := .slice (some ⟨ta, 0, none⟩) N4 (N4 + 2)) rfl (by kernel_rfl) (by kernel_rfl) (by kernel_rfl) rfl (by kernel_rfl) (fun _ _ _ h => h) (Or.inl ⟨by rfl, fun W hW => ?_⟩) hSw ?_
  · have s0 : W.cell? _ = some _ := hW
    first | (go_simp; done) | rfl
  try simp only [Act.put]
  refine wpAnyL_take (i := 7) (v := .int .i64 (k : Int)) rfl (by kernel_rfl) (by kernel_rfl) (by kernel_rfl) rfl (by kernel_rfl) (fun _ _ _ h => h) (Or.inl ⟨by rfl, fun W hW => ?_⟩) hSw ?_
  · first | (go_simp; done) | rfl
  try simp only [Act.put]
  refine wpAnyL_take (i := 8) (v := .int .i64 ((k : Int) + 1)) rfl (by kernel_rfl) (by kernel_rfl) (by kernel_rfl) rfl (by kernel_rfl) (fun _ _ _ h => h) (Or.inl ⟨by rfl, fun W hW => ?_⟩) hSw ?_
  · (go_simp; exact IntWalk.i64_in _ (by omega))
  try simp only [Act.put]
  refine wpAnyL_take (i := 9) (v := .slice (some ⟨ta, k + 1, none⟩) (N4 - (k + 1)) (N4 + 2 - (k + 1))) rfl (by kernel_rfl) (by kernel_rfl) (by kernel_rfl) rfl (by kernel_rfl) (fun _ _ _ h => h) (Or.inl ⟨by rfl, fun W hW => ?_⟩) hSw ?_
  · (go_simp; rw [if_pos (by omega), if_neg (by omega)])
  try simp only [Act.put]
  refine wpAnyL_ready (rs := [10]) (by kernel_rfl) (by simp) (AllReadyL.cons rfl rfl (fun J hK => ?_) AllReadyL.nil)
  rw [if_pos (by rfl)]
  clear hSw
  refine wp_append_run (v1 := .slice (some ⟨ta, 0, none⟩) k k) (v2 := .slice (some ⟨ta, k + 1, none⟩) (N4 - (k + 1)) (N4 + 2 - (k + 1))) (.tmp 12) (.tmp 17) 25 rfl (by kernel_rfl) (by kernel_rfl) HRUN.out ?_
  refine hK.out _ _ (hS5) (fun hSw => ?_)
  clear hK J
  try simp only [Act.put]
  refine wpAnyL_only (rs := [11]) (by kernel_rfl) (by simp) (by rfl) ?_
  refine wpAny_one (i := 11) (by kernel_rfl) rfl (fun J hK => ?_)
  rw [if_pos (by rfl)]
  go_simp
  refine hK.out _ _ ?_
  clear hK J
  try simp only [Act.put, q1, q2, q3]
  refine wpAny_one (i := 12) (by kernel_rfl) rfl (fun J hK => ?_)
  rw [if_pos (by rfl)]
  go_simp
  refine hK.out _ _ ?_
  clear hK J
  try simp only [Act.put, q1, q2, q3]
  obtain ⟨w6, hw6⟩ : ∃ u, u = w5.setCell ⟨w3.heap.size, 3, none⟩ (.slice vo (N4 - 1) vc) := ⟨_, rfl⟩
  have hp5 := put_cell (o := 3) (v := .slice vo (N4 - 1) vc) HO5.out
  rw [← hw6] at hp5
  obtain ⟨q0, q1, q2, q3⟩ := prog4 _ _ _ _ (show w6.heap[w3.heap.size]? = some (.cells #[.slice (some ⟨ra, 0, none⟩) N1 (N1 + 2), .slice (some ⟨sa, 0, none⟩) N2 (N2 + 2), .slice (some ⟨fa, 0, none⟩) N3 (N3 + 2), .slice vo (N4 - 1) vc] 27 (0, 0)) by rw [hp5.at_b]; rfl)
  have HP6 := Lib.hid ((hp5.rest _ (by have := HZ2.out; omega)).trans HP5b.out)
  have HB6 := Lib.hid (show Below w.heap.size w w6 by rw [hw6]; exact HB5.out.setCell (show w.heap.size ≤ w3.heap.size by omega) _)
  have HP5 := Lib.hid hp5
  rw [← hw6]
  clear hp5 hw6
  refine wpAny_done (by kernel_rfl) ?_ _
  go_wp2_with (refine wpList_put rfl 27 (Operand.tmp 4) (Operand.tmp 20) rfl (w.heap.size + 1) 27 _ #[.slice (some ⟨ra, 0, none⟩) N1 (N1 + 2), .slice (some ⟨sa, 0, none⟩) N2 (N2 + 2), .slice (some ⟨fa, 0, none⟩) N3 (N3 + 2), .slice vo (N4 - 1) vc] rfl rfl HP6.out rfl (by kernel_rfl) (by simp [Value.oneCell']) ?_)
  intro wf hpf
  have HP := Lib.hid hpf
  clear hpf
  go_wp2_with fail
  refine bodyPost_ret (v := .agg #[.slice (some ⟨ra, 0, none⟩) N1 (N1 + 2), .slice (some ⟨sa, 0, none⟩) N2 (N2 + 2), .slice (some ⟨fa, 0, none⟩) N3 (N3 + 2), .slice vo (N4 - 1) vc]) (results_cell_row rfl _ _ (w.heap.size + 1) 27 _ (0, 0) _ rfl HP.out.at_b Tryz.underlying27 rfl (by kernel_rfl)) rfl ?_
  have z2 := HZ2.out
  have z4 := HZ4.out
  obtain ⟨ht1, ht2⟩ := HTA.out
  obtain ⟨e1, e2, e3, e4⟩ := HN.out
  have hsf : wf.heap.size = w5.heap.size := HP.out.size.trans HP5.out.size
  have hkf : ∀ g, g ≠ w.heap.size + 1 → g ≠ w3.heap.size → wf.heap[g]? = w5.heap[g]? := fun g h1 h2 => (HP.out.rest g h1).trans (HP5.out.rest g h2)
  have hPQ : PIn wf w3.heap.size Q := HNEW.out wf (fun g h1 h2 => (hkf g (by omega) (by omega)).trans ((HB45.out.block g (by omega)).trans (HB4.out.block g h2)))
  have hL := HL5.out wf ((hkf ta (by omega) (by omega)).trans (HB45.out.block ta (by omega))) (fun g h1 h2 => hkf g (by have : w4.heap.size ≤ g := h1; omega) (by have : w4.heap.size ≤ g := h1; omega))
  have hPU := hPQ.up (show w3.heap.size ≤ wf.heap.size by omega)
  refine ⟨⟨Q.e, .slice vo (N4 - 1) vc, Q.threads.take k ++ Q.threads.drop (k + 1)⟩, ?_, ?_, HP.out.below HB6.out (by omega), ⟨hPU.e, hL.up (by omega), fun t ht => hPU.threads t ?_⟩⟩
  · show Ending.returned (.agg #[.slice (some ⟨ra, 0, none⟩) N1 (N1 + 2), .slice (some ⟨sa, 0, none⟩) N2 (N2 + 2), .slice (some ⟨fa, 0, none⟩) N3 (N3 + 2), .slice vo (N4 - 1) vc]) = .returned (.agg #[Q.e.rv, Q.e.sv, Q.e.fv, .slice vo (N4 - 1) vc])
    rw [HRV.out, HSV.out, HFV.out, e1, e2, e3]
  · have hb := HBARE.out
    unfold Pr.bare at hb ⊢
    simp only [Pr.mk.injEq] at hb ⊢
    obtain ⟨h1, h2, h3⟩ := hb
    exact ⟨h1, h2, by simp only [List.map_append, List.map_take, List.map_drop, h3]⟩
  · rcases List.mem_append.1 ht with h | h
    · exact List.mem_of_mem_take h
    · exact List.mem_of_mem_drop h
end Go.Proofs.YtcibiiddigpnfaaGreatDoor
