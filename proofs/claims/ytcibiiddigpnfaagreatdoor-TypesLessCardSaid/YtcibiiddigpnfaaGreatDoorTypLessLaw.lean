/- The statement on a thread and a last statement less, at every program. -/
import Derived.Test.YtcibiiddigpnfaaGreatDoorRows
import Derived.Test.YtcibiiddigpnfaaGreatDoorTypWt
import Derived.Test.YtcibiiddigpnfaaGreatDoorTypWithout
import Derived.Test.YtcibiiddigpnfaaGreatDoorTypLessB
import Derived.Test.YtcibiiddigpnfaaGreatDoorTypBeyond
import Derived.Test.YtcibiiddigpnfaaGreatDoorTypAlive
namespace Go.Proofs.YtcibiiddigpnfaaGreatDoor
set_option maxRecDepth 100000
open Go.RowKit
attribute [local go_sem ↓] bls_eq
def Sw (b ta kk : Nat) (v u : Value) (W : World) : Prop := W.cell? ⟨b, 3, none⟩ = some v ∧ W.cell? ⟨ta, kk, none⟩ = some u
theorem less_copy (P : Pr) (h0 : (typesT P).2 = 0) (k : Nat) : typesT ⟨P.e, P.tv, P.threads.take k ++ P.threads.drop (k + 1)⟩ = (0, 0) := by
  obtain ⟨m, q, hc, hp⟩ := typesT_ok P h0
  exact fits_without P.e P.tv P.tv P.threads k m q hc hp
theorem less_cut (P Q : Pr) (hb : Q.bare = P.bare) (h0 : (typesT P).2 = 0) (k n : Nat) (t : Th) (ht : Q.threads[k]? = some t) (v v' : Value) : typesT ⟨Q.e, v, Q.threads.set k ⟨v', t.list.take n⟩⟩ = (0, 0) := by
  have h1 : (typesT Q).2 = 0 := by rw [typesT_alike hb]; exact h0
  obtain ⟨m, q, hc, hp⟩ := typesT_ok Q h1
  exact fits_less Q.e Q.tv v v' Q.threads k n m t q ht hc hp
theorem tmod_small (k : Int) (N : Nat) (hN : 0 < N) : -(N : Int) < k.tmod N ∧ k.tmod N < N := by
  have h1 := Int.tmod_lt_of_pos k (show (0 : Int) < (N : Int) by omega)
  have h2 := Int.tmod_lt_of_pos (-k) (show (0 : Int) < (N : Int) by omega)
  rw [Int.neg_tmod] at h2
  omega
theorem cut_thread {w w' : World} {B ta g off n lc N m kk : Nat} {Q : Pr} {R : Array Value} {T : List Value} (_hrow : w.heap[ta]? = some (.cells R 36 (0, 0))) (hlist : R.toList = Q.threads.flatMap Th.cells ++ T) (hN : Q.threads.length = N) (hroom : N ≤ 140737488351232)
    (t : Th) (ht : Q.threads[kk]? = some t) (htv : t.v = .slice (some ⟨g, off, none⟩) n lc) (hput : Put ta (.cells (R.setIfInBounds kk (.slice (some ⟨g, off, none⟩) m lc)) 36 (0, 0)) w w') (hta : ta < B) (hE : EIn w' B Q.e) (hT : ∀ t ∈ Q.threads, TIn w' B t) (hm : m ≤ t.list.length) :
    PIn w' B ⟨Q.e, .slice (some ⟨ta, 0, none⟩) N (N + 2), Q.threads.set kk ⟨.slice (some ⟨g, off, none⟩) m lc, t.list.take m⟩⟩ := by
  have hkk := (List.getElem?_eq_some_iff.1 ht).1
  have htm : t ∈ Q.threads := List.mem_of_getElem? ht
  have hlen : (Q.threads.set kk ⟨.slice (some ⟨g, off, none⟩) m lc, t.list.take m⟩).length = N := by rw [List.length_set]; exact hN
  refine ⟨hE, ⟨some ⟨ta, 0, none⟩, N + 2, by rw [hlen], by rw [hlen]; exact hroom, .inr ⟨ta, 0, rfl, hta, fun i x hx j u hu => ?_⟩⟩, fun a ha => ?_⟩
  · have hj : j = 0 := by have := (List.getElem?_eq_some_iff.1 hu).1; simpa [Th.cells] using this
    subst hj
    obtain rfl : x.v = u := by simpa [Th.cells] using hu
    have hi2 : i < Q.threads.length := by have := (List.getElem?_eq_some_iff.1 hx).1; rwa [List.length_set] at this
    rw [show 0 + (i * 1 + 0) = i by omega, Lib.cell_of_heap hput.at_b, ← Array.getElem?_toList, Array.toList_setIfInBounds, hlist, flat_th]
    rw [List.getElem?_set] at hx
    rw [List.getElem?_set]
    have hlm : i < (Q.threads.map (·.v) ++ T).length := by rw [List.length_append, List.length_map]; omega
    split at hx
    · next h =>
      subst h
      rw [if_pos rfl, if_pos hlm]
      rw [← Option.some.inj hx]
    · next h =>
      rw [if_neg h, List.getElem?_append_left (by rw [List.length_map]; exact hi2), List.getElem?_map, hx]; rfl
  · rcases List.mem_or_eq_of_mem_set ha with h | rfl
    · exact hT a h
    · have h1 := (hT t htm).lies
      rw [htv] at h1
      exact ⟨liesG_take h1 m lc hm, fun b hb => (hT t htm).list b (List.mem_of_mem_take hb)⟩
set_option maxHeartbeats 16000000 in
theorem less_law (P : Pr) (k : Int) (w : World) (hI : PIn w w.heap.size P) (_wk : (Lit.int .i64 k).wf = true) (hT : Tab w) :
    Calls Tryz.prog 3 #[.agg #[P.e.rv, P.e.sv, P.e.fv, P.tv], .int .i64 k] w fun e w' => e = .returned (.bool true) ∧ Below w.heap.size w w' := by
  obtain ⟨ro, rc, er, -⟩ := hI.e.rlies.form
  obtain ⟨so, sc, es, -⟩ := hI.e.slies.form
  obtain ⟨fo, fc, ef, -⟩ := hI.e.flies.form
  obtain ⟨to, tc, et, hlen, -⟩ := hI.tlies.form
  have hroom := hI.tlies.room
  have hPS := fun (u : World) (hu : Below w.heap.size w u) => psize_any P w.heap.size u (hI.keeps hu) hu.size
  have hPC := fun (u : World) (hu : Below w.heap.size w u) => types_check_any P w.heap.size u hu.size (hI.keeps hu)
  have hTW := fun (u : World) (hu : Below w.heap.size w u) (hs : sizeP P ≤ 262144) => twinProgram_any P w.heap.size u (hI.keeps hu) hu.size hs (hT.keeps hu)
  have hWO := fun (u : World) (hu : Below w.heap.size w u) (hs : sizeP P ≤ 262144) (kk : Nat) (hk : kk < P.threads.length) => without_any P kk w.heap.size u (hI.keeps hu) hu.size hs (hT.keeps hu) hk
  simp only [er, es, ef, et] at hPS hPC hTW hWO ⊢
  obtain ⟨N1, hN1⟩ : ∃ N, N = P.e.records.length := ⟨_, rfl⟩
  obtain ⟨N2, hN2⟩ : ∃ N, N = P.e.shared.length := ⟨_, rfl⟩
  obtain ⟨N3, hN3⟩ : ∃ N, N = P.e.funcs.length := ⟨_, rfl⟩
  obtain ⟨N4, hN4⟩ : ∃ N, N = P.threads.length := ⟨_, rfl⟩
  simp only [← hN1, ← hN2, ← hN3, ← hN4] at hPS hPC hTW hWO ⊢
  rw [← hN4] at hlen hroom
  obtain ⟨W0, hW0⟩ : ∃ W0, W0 = w.alloc (.cells #[.slice ro N1 rc, .slice so N2 sc, .slice fo N3 fc, .slice to N4 tc] 27) := ⟨_, rfl⟩
  have hB0 : Below w.heap.size w W0 := by rw [hW0]; exact below_box w _
  have hz0 : w.heap.size + 1 = W0.heap.size := by rw [hW0]; simp
  have hO : W0.heap[w.heap.size]? = some (.cells #[.slice ro N1 rc, .slice so N2 sc, .slice fo N3 fc, .slice to N4 tc] 27 (0, 0)) := by rw [hW0]; exact box4 _ _ _ _
  obtain ⟨q0, q1, q2, q3⟩ := prog4 _ _ _ _ hO
  have hps := hPS W0 hB0
  rw [hW0] at q0 q1 q2 q3
  have HPS := Lib.hid hps
  have HPC := Lib.hid hPC
  have HTW := Lib.hid hTW
  have HWO := Lib.hid hWO
  have HB0 := Lib.hid hB0
  have HZ0 := Lib.hid hz0
  have HO := Lib.hid hO
  have HW0 := Lib.hid hW0
  have HAL := Lib.hid (fun w => talive_any w)
  have HN := Lib.hid (And.intro hN1 (And.intro hN2 (And.intro hN3 hN4)))
  have hm := made_int
  clear hPS hPC hTW hWO hps hB0 hz0 hO hW0 hI hT er es ef et hN1 hN2 hN3 hN4
  go_enter Tryz.func3, Tryz.ntmps3
  go_wp2_with fail
  rw [← HW0.out]
  refine HPS.out.mono ?_; rintro e w1 ⟨⟨n, rfl, hn0, hn1, hns⟩, hb1⟩
  have hs1 := hb1.size
  have HB1 := Lib.hid (HB0.out.trans (hb1.mono (by have := HZ0.out; omega)))
  have HO1 := Lib.hid ((hb1.block _ (by have := HZ0.out; omega)).trans HO.out)
  have HBY := Lib.hid (beyond_any w1.heap.size n 3 (0, 0) (w1.alloc (.cells #[.int .i64 n] 3)) hn0 hn1 (MapKept.heap_alloc _ _).1)
  have HNS := Lib.hid hns
  have hlt1 : w.heap.size < w1.heap.size := by have := HZ0.out; omega
  clear hb1 hns q0 q1 q2 q3
  go_wp2_with fail
  refine HBY.out.mono ?_; rintro e w2 ⟨rfl, rfl⟩
  have HB2 := Lib.hid (HB1.out.trans ((below_box w1 (.cells #[.int .i64 n] 3)).mono HB1.out.size))
  have HO2 := Lib.hid (show (w1.alloc (.cells #[.int .i64 n] 3)).heap[w.heap.size]? = _ from (Below.heap_alloc _ _ _ (by omega)).trans HO1.out)
  by_cases hbig : 262144 < n
  · rw [decide_eq_true hbig]
    go_wp2_with fail
    go_ret
    exact ⟨rfl, HB2.out⟩
  rw [decide_eq_false hbig]
  have HSZ := Lib.hid (HNS.out (by omega))
  obtain ⟨q0, q1, q2, q3⟩ := prog4 _ _ _ _ HO2.out
  have HC := Lib.hid (HPC.out _ HB2.out)
  go_wp2_with fail
  refine HC.out.mono ?_; rintro e w3 ⟨rfl, hb3⟩
  have hs3 := hb3.size
  have hlt3 : w.heap.size < w3.heap.size := by simp at hs3; omega
  have HB3 := Lib.hid (HB2.out.trans (hb3.mono HB2.out.size))
  have HO3 := Lib.hid ((hb3.block _ (by simp; omega)).trans HO2.out)
  obtain ⟨r, hr⟩ : ∃ r, r = typesT P := ⟨_, rfl⟩
  obtain ⟨at', ee⟩ := r
  rw [← hr]
  clear hb3 hs3 q0 q1 q2 q3
  by_cases he0 : ee = 0
  rotate_left
  · have hq0 : (ee != 0) = true := bne_iff_ne.2 he0
    obtain ⟨q0, q1, q2, q3⟩ := prog4 _ _ _ _ HO3.out
    go_wp2_with fail
    refine (HAL.out _).mono ?_; rintro e w4 ⟨rfl, hb4⟩
    have HB4 := Lib.hid (HB3.out.trans (hb4.mono HB3.out.size))
    clear hb4
    go_wp2_with fail
    go_ret
    exact ⟨rfl, HB4.out⟩
  subst he0
  obtain ⟨q0, q1, q2, q3⟩ := prog4 _ _ _ _ HO3.out
  by_cases hN0 : N4 = 0
  · have hl0 : (N4 : Int) = 0 := by omega
    go_wp2_with fail
    refine (HAL.out _).mono ?_; rintro e w4 ⟨rfl, hb4⟩
    have HB4 := Lib.hid (HB3.out.trans (hb4.mono HB3.out.size))
    clear hb4
    go_wp2_with fail
    go_ret
    exact ⟨rfl, HB4.out⟩
  have h4 : 0 < N4 := by omega
  have hne : ((N4 : Int) == 0) = false := by simpa using hN0
  have HT0 := Lib.hid (show (typesT P).2 = 0 by rw [← hr])
  clear hr hN0
  obtain ⟨hlo, hhi⟩ := tmod_small k N4 h4
  obtain ⟨HLT3, HC4⟩ : Hid (w.heap.size < w3.heap.size) ∧ True := ⟨Lib.hid hlt3, trivial⟩
  obtain ⟨kk, hkk, hkv⟩ : ∃ kk : Nat, kk < N4 ∧ ((¬ k.tmod N4 < 0 ∧ k.tmod N4 = (kk : Int)) ∨ (k.tmod N4 < 0 ∧ -(k.tmod N4) = (kk : Int))) := ⟨(k.tmod N4).natAbs, by omega, by omega⟩
  rcases hkv with ⟨hsg, hkv⟩ | ⟨hsg, hkv⟩
  all_goals
    first
      | rw [hkv] at hsg
      | skip
    have HWOr := Lib.hid (HWO.out w3 HB3.out HSZ.out kk hkk)
    go_wp2_with fail
    refine HWOr.out.mono ?_; intro e w4 hq
    obtain ⟨Q, rfl, hbare, hb4, hQI⟩ := hq
    have HB4 := Lib.hid (HB3.out.trans (hb4.mono HB3.out.size))
    have HO4 := Lib.hid ((hb4.block _ HLT3.out).trans HO3.out)
    have htq : typesT Q = (0, 0) := by rw [typesT_alike hbare]; exact less_copy P HT0.out kk
    have hck := types_check_any Q w4.heap.size w4 (Nat.le_refl _) hQI
    rw [htq] at hck
    have HCK := Lib.hid hck
    have hlt4 : w.heap.size < w4.heap.size := by have := hb4.size; omega
    clear hb4 hQI hbare htq hck q0 q1 q2 q3
    go_wp2_with fail
    refine HCK.out.mono ?_; rintro e w5 ⟨rfl, hb5⟩
    have HB5 := Lib.hid (HB4.out.trans (hb5.mono HB4.out.size))
    have HO5 := Lib.hid ((hb5.block _ hlt4).trans HO4.out)
    have HTWr := Lib.hid (HTW.out w5 HB5.out HSZ.out)
    have hlt5 : w.heap.size < w5.heap.size := by have := hb5.size; omega
    obtain ⟨q0, q1, q2, q3⟩ := prog4 _ _ _ _ HO5.out
    clear hb5
    go_wp2_with fail
    refine HTWr.out.mono ?_; intro e w6 hq
    obtain ⟨Q2, rfl, hQ⟩ := hq
    obtain ⟨ra, sa, fa, tb, hQ⟩ := hQ.quad
    obtain ⟨ta, R9, t1, t2, hval, hlen9, hta0, hta1, hrow6, hlist, hE6, hT6⟩ := hQ.tw.split
    rw [hQ.rv, hQ.sv, hQ.fv, hval, ← HN.out.1, ← HN.out.2.1, ← HN.out.2.2.1, ← HN.out.2.2.2]
    have hb6 := hQ.tw.below
    have hs6 := hb6.size
    have HB6 := Lib.hid (HB5.out.trans (hb6.mono HB5.out.size))
    obtain ⟨w7, hw7⟩ : ∃ u, u = w6.alloc (.cells #[.slice (some ⟨ra, 0, none⟩) N1 (N1 + 2), .slice (some ⟨sa, 0, none⟩) N2 (N2 + 2), .slice (some ⟨fa, 0, none⟩) N3 (N3 + 2), .slice (some ⟨ta, 0, none⟩) N4 (N4 + 2)] 27) := ⟨_, rfl⟩
    have hb7 : Below w6.heap.size w6 w7 := by rw [hw7]; exact below_box w6 _
    have hz7 : w7.heap.size = w6.heap.size + 1 := by rw [hw7]; simp
    have hO7 : w7.heap[w6.heap.size]? = some (.cells #[.slice (some ⟨ra, 0, none⟩) N1 (N1 + 2), .slice (some ⟨sa, 0, none⟩) N2 (N2 + 2), .slice (some ⟨fa, 0, none⟩) N3 (N3 + 2), .slice (some ⟨ta, 0, none⟩) N4 (N4 + 2)] 27 (0, 0)) := by rw [hw7]; exact box4 _ _ _ _
    have hrow7 : w7.heap[ta]? = some (.cells R9 36 (0, 0)) := (hb7.block ta hta1).trans hrow6
    have hl9 : Q2.threads.length = N4 := by rw [hlen9, ← HN.out.2.2.2]
    obtain ⟨t, ht⟩ : ∃ t, Q2.threads[kk]? = some t := ⟨_, List.getElem?_eq_getElem (by rw [hl9]; exact hkk)⟩
    have hc7 : w7.cell? ⟨ta, kk, none⟩ = some t.v := by
      rw [Lib.cell_of_heap hrow7, ← Array.getElem?_toList, hlist, flat_th, List.getElem?_append_left (by rw [List.length_map, hl9]; exact hkk), List.getElem?_map, ht]; rfl
    have htI := hQ.tw.new.here.threads t (List.mem_of_getElem? ht)
    obtain ⟨lo, lc, etv, hl63, hlo'⟩ := htI.lies.form
    obtain ⟨-, lo2, lc2, etv2, hcap⟩ := hT6 t (List.mem_of_getElem? ht) w6 (fun _ _ _ => rfl)
    have hlc : t.list.length ≤ lc := by rw [etv] at etv2; injection etv2 with _ _ h3; rw [h3]; exact hcap
    clear etv2 hcap
    obtain ⟨n, hn⟩ : ∃ n, n = t.list.length := ⟨_, rfl⟩
    rw [← hn] at etv hl63 hlo' hlc
    rw [etv] at hc7
    obtain ⟨g0, g1, g2, g3⟩ := prog4 _ _ _ _ hO7
    have d3 := g3
    have HQ := Lib.hid hQ
    have HW7 := Lib.hid hw7
    have HO7 := Lib.hid hO7
    have HVAL := Lib.hid hval
    have dk := hc7
    rw [hw7] at g0 g1 g2 g3 hc7
    have HB7 := Lib.hid (HB6.out.trans (hb7.mono HB6.out.size))
    have HE6 := Lib.hid hE6
    have HT6 := Lib.hid hT6
    have HROW := Lib.hid (And.intro hrow7 (And.intro hlist (And.intro hl9 (And.intro ht (And.intro etv hn)))))
    have HIN7 := Lib.hid (hQ.tw.new.here.keeps hb7)
    have HB67 := Lib.hid hb7
    have HZ7 := Lib.hid (And.intro hz7 (And.intro hta0 (And.intro hta1 (And.intro hlo' hs6))))
    clear hQ hval hlen9 hta0 hta1 hrow6 hlist hE6 hT6 hb6 hw7 hb7 hz7 hO7 hrow7 hl9 ht etv hn htI hlo' q0 q1 q2 q3 hs6
    by_cases hn0 : 0 < n
    · obtain ⟨g, off, rfl, -⟩ := HZ7.out.2.2.2.1 hn0
      go_wp2_with fail
      rw [← HW7.out]
      refine wp_region_late (S := Sw w6.heap.size ta kk (.slice (some ⟨ta, 0, none⟩) N4 (N4 + 2)) (.slice (some ⟨g, off, none⟩) n lc)) (fun j => decide (11 ≤ j)) (by kernel_rfl) ⟨d3, dk⟩ (fun hSw => ?_)
      refine wpAnyL_take (i := 0) (v := .pointer (some ⟨w6.heap.size, 3, none⟩)) rfl (by kernel_rfl) (by kernel_rfl) (by kernel_rfl) rfl (by kernel_rfl) (fun _ _ _ h => h) (Or.inl ⟨by rfl, fun W hW => ?_⟩) hSw ?_
      · first | (go_simp; done) | rfl
      try simp only [Act.put, q1]
      refine wpAnyL_take (i := 1) (v := .slice (some ⟨ta, 0, none⟩) N4 (N4 + 2)) rfl (by kernel_rfl) (by kernel_rfl) (by kernel_rfl) rfl (by kernel_rfl) (fun _ _ _ h => h) (Or.inl ⟨by rfl, fun W hW => ?_⟩) hSw ?_
      · (obtain ⟨s0, s1⟩ := hW; first | (go_simp; done) | rfl)
      try simp only [Act.put]
      refine wpAnyL_take (i := 2) (v := .int .i64 (kk : Int)) rfl (by kernel_rfl) (by kernel_rfl) (by kernel_rfl) rfl (by kernel_rfl) (fun _ _ _ h => h) (Or.inl ⟨by rfl, fun W hW => ?_⟩) hSw ?_
      · first | (go_simp; done) | rfl
      try simp only [Act.put]
      refine wpAnyL_take (i := 3) (v := .pointer (some ⟨w6.heap.size, 3, none⟩)) rfl (by kernel_rfl) (by kernel_rfl) (by kernel_rfl) rfl (by kernel_rfl) (fun _ _ _ h => h) (Or.inl ⟨by rfl, fun W hW => ?_⟩) hSw ?_
      · first | (go_simp; done) | rfl
      try simp only [Act.put]
      refine wpAnyL_take (i := 4) (v := .slice (some ⟨ta, 0, none⟩) N4 (N4 + 2)) rfl (by kernel_rfl) (by kernel_rfl) (by kernel_rfl) rfl (by kernel_rfl) (fun _ _ _ h => h) (Or.inl ⟨by rfl, fun W hW => ?_⟩) hSw ?_
      · (obtain ⟨s0, s1⟩ := hW; first | (go_simp; done) | rfl)
      try simp only [Act.put]
      refine wpAnyL_take (i := 5) (v := .int .i64 (kk : Int)) rfl (by kernel_rfl) (by kernel_rfl) (by kernel_rfl) rfl (by kernel_rfl) (fun _ _ _ h => h) (Or.inl ⟨by rfl, fun W hW => ?_⟩) hSw ?_
      · first | (go_simp; done) | rfl
      try simp only [Act.put]
      refine wpAnyL_take (i := 6) (v := .pointer (some ⟨ta, kk, none⟩)) rfl (by kernel_rfl) (by kernel_rfl) (by kernel_rfl) rfl (by kernel_rfl) (fun _ _ _ h => h) (Or.inl ⟨by rfl, fun W hW => ?_⟩) hSw ?_
      · first | (go_simp; done) | rfl
      try simp only [Act.put]
      refine wpAnyL_take (i := 7) (v := .slice (some ⟨g, off, none⟩) n lc) rfl (by kernel_rfl) (by kernel_rfl) (by kernel_rfl) rfl (by kernel_rfl) (fun _ _ _ h => h) (Or.inl ⟨by rfl, fun W hW => ?_⟩) hSw ?_
      · (obtain ⟨s0, s1⟩ := hW; first | (go_simp; done) | rfl)
      try simp only [Act.put]
      refine wpAnyL_take (i := 8) (v := .int .i64 (n : Int)) rfl (by kernel_rfl) (by kernel_rfl) (by kernel_rfl) rfl (by kernel_rfl) (fun _ _ _ h => h) (Or.inl ⟨by rfl, fun W hW => ?_⟩) hSw ?_
      · first | (go_simp; done) | rfl
      try simp only [Act.put]
      refine wpAnyL_take (i := 9) (v := .int .i64 ((n : Int) - 1)) rfl (by kernel_rfl) (by kernel_rfl) (by kernel_rfl) rfl (by kernel_rfl) (fun _ _ _ h => h) (Or.inl ⟨by rfl, fun W hW => ?_⟩) hSw ?_
      · (go_simp; exact IntWalk.i64_in _ (by omega))
      try simp only [Act.put]
      refine wpAnyL_take (i := 10) (v := .slice (some ⟨g, off, none⟩) (n - 1) lc) rfl (by kernel_rfl) (by kernel_rfl) (by kernel_rfl) rfl (by kernel_rfl) (fun _ _ _ h => h) (Or.inl ⟨by rfl, fun W hW => ?_⟩) hSw ?_
      · (go_simp; intro h; exfalso; omega)
      try simp only [Act.put]
      have c8 : w7.drew.cell? ⟨ta, kk, none⟩ = some (.slice (some ⟨g, off, none⟩) n lc) := dk
      have f8 := Lib.frozen_of_heap (w := w7.drew) HROW.out.1 kk
      refine wpAnyL_only (rs := [11]) (by kernel_rfl) (by simp) (by rfl) ?_
      refine wpAny_one (i := 11) (by kernel_rfl) rfl (fun J hK => ?_)
      rw [if_pos (by rfl)]
      go_simp
      refine hK.out _ _ ?_
      clear hK J
      try simp only [Act.put, q1, q2, q3]
      refine wpAny_one (i := 12) (by kernel_rfl) rfl (fun J hK => ?_)
      rw [if_pos (by rfl)]
      go_simp
      refine hK.out _ _ ?_
      clear hK J
      try simp only [Act.put, q1, q2, q3]
      obtain ⟨w8, hw8⟩ : ∃ u, u = w7.setCell ⟨ta, kk, none⟩ (.slice (some ⟨g, off, none⟩) (n - 1) lc) := ⟨_, rfl⟩
      rw [← hw8]
      have hp8 := put_cell (w := w7) (o := kk) (v := .slice (some ⟨g, off, none⟩) (n - 1) lc) HROW.out.1
      rw [← hw8] at hp8
      obtain ⟨hrow7, hlist, hl9, ht, etv, hn⟩ := HROW.out
      obtain ⟨hz7, hta0, hta1, -, hs6⟩ := HZ7.out
      have hs8 : w8.heap.size = w6.heap.size + 1 := hp8.size.trans hz7
      have hPI := cut_thread hrow7 hlist hl9 (by omega) t ht etv hp8 hta1 (HE6.out w8 (fun g h1 h2 => (hp8.rest g (by omega)).trans (HB67.out.block g (by omega)))) (fun t ht => (HT6.out t ht w8 (fun g h1 h2 => (hp8.rest g (by omega)).trans (HB67.out.block g h2))).1) (by omega : n - 1 ≤ t.list.length)
      have hck := types_check_any _ w6.heap.size w8.drew (show w6.heap.size ≤ w8.heap.size by omega) (hPI.keeps (Below.refl _ _).drew)
      rw [less_cut P Q2 HQ.out.tw.bare HT0.out kk (n - 1) t ht] at hck
      simp only [HQ.out.rv, HQ.out.sv, HQ.out.fv, ← HN.out.1, ← HN.out.2.1, ← HN.out.2.2.1] at hck
      have HCK := Lib.hid hck
      obtain ⟨q0, q1, q2, q3⟩ := prog4 _ _ _ _ (show w8.drew.heap[w6.heap.size]? = _ from (hp8.rest w6.heap.size (by omega)).trans HO7.out)
      have HB8 := Lib.hid (show Below w.heap.size w w8.drew by rw [hw8]; exact (HB7.out.setCell (show w.heap.size ≤ ta by omega) _).drew)
      have hle8 : w.heap.size ≤ w8.drew.heap.size := HB8.out.size
      clear hw8 hp8 hrow7 hlist hl9 ht etv hn hz7 hta0 hta1 hs6 hs8 hPI hck
      refine wpAny_done (by kernel_rfl) ?_ _
      go_wp2_with fail
      refine HCK.out.mono ?_; rintro e w9 ⟨rfl, hb9⟩
      have HB9 := Lib.hid (HB8.out.trans (hb9.mono hle8))
      clear hb9
      go_wp2_with fail
      refine (HAL.out _).mono ?_; rintro e w10 ⟨rfl, hb10⟩
      have HB10 := Lib.hid (HB9.out.trans (hb10.mono HB9.out.size))
      clear hb10
      go_wp2_with fail
      go_ret
      exact ⟨rfl, HB10.out⟩
    · have hnz : n = 0 := by omega
      obtain ⟨a2, ha2⟩ : ∃ a, typesT Q2 = (a, 0) := ⟨(typesT Q2).1, Prod.ext rfl (by rw [typesT_alike HQ.out.tw.bare]; exact HT0.out)⟩
      have hck := types_check_any Q2 w6.heap.size w7 (by have := HZ7.out.1; omega) HIN7.out
      rw [ha2] at hck
      simp only [HQ.out.rv, HQ.out.sv, HQ.out.fv, HVAL.out, ← HN.out.1, ← HN.out.2.1, ← HN.out.2.2.1, ← HN.out.2.2.2] at hck
      have HCK := Lib.hid hck
      have hle7 : w.heap.size ≤ w7.heap.size := HB7.out.size
      subst hnz
      clear hck ha2 hn0
      go_wp2_with fail
      rw [← HW7.out]
      refine HCK.out.mono ?_; rintro e w9 ⟨rfl, hb9⟩
      have HB9 := Lib.hid (HB7.out.trans (hb9.mono hle7))
      clear hb9
      go_wp2_with fail
      refine (HAL.out _).mono ?_; rintro e w10 ⟨rfl, hb10⟩
      have HB10 := Lib.hid (HB9.out.trans (hb10.mono HB9.out.size))
      clear hb10
      go_wp2_with fail
      go_ret
      exact ⟨rfl, HB10.out⟩
end Go.Proofs.YtcibiiddigpnfaaGreatDoor
