/- The statement on a fault's first threads, at every program. -/
import Derived.Test.YtgkmfbemehjelaaGreatDoorRows
import Derived.Test.YtgkmfbemehjelaaGreatDoorGTwinB
import Derived.Test.YtgkmfbemehjelaaGreatDoorTypBeyond
import Derived.Test.YtgkmfbemehjelaaGreatDoorTypAlive
import Derived.Test.YtgkmfbemehjelaaGreatDoorGLess
namespace Go.Proofs.YtgkmfbemehjelaaGreatDoor
set_option maxRecDepth 100000
open Go.RowKit
attribute [local go_sem ↓] bls_eq
theorem liesG_take {α : Type} {cells : α → List Value} {k : Nat} {w : World} {B g off n c : Nat} {l : List α} (h : LiesG cells k w B (.slice (some ⟨g, off, none⟩) n c) l) (j c' : Nat) (hj : j ≤ l.length) : LiesG cells k w B (.slice (some ⟨g, off, none⟩) j c') (l.take j) := by
  obtain ⟨ao, cap, e, hl, hc⟩ := h
  injection e with e1 e2 e3
  have hlen : (l.take j).length = j := by rw [List.length_take]; omega
  refine ⟨some ⟨g, off, none⟩, c', by rw [hlen], by rw [hlen]; omega, ?_⟩
  rcases hc with hc | ⟨g2, off2, e4, hg, hc⟩
  · subst hc; left; simp
  · rw [← e1] at e4
    cases e4
    refine .inr ⟨g, off, rfl, hg, fun i x hx => hc i x ?_⟩
    rw [List.getElem?_take] at hx
    split at hx
    · exact hx
    · cases hx
theorem placesN_take (e : En) (tv tv' : Value) (ts : List Th) (j : Nat) : placesN ⟨e, tv', ts.take j⟩ ≤ placesN ⟨e, tv, ts⟩ := by
  unfold placesN
  simp only
  have h1 : (ts.take j).length ≤ ts.length := by rw [List.length_take]; omega
  have h2 : thsN (ts.take j) ≤ thsN ts := by
    conv => rhs; rw [← List.take_append_drop j ts, thsN_append]
    omega
  omega
theorem first_copy (P Q : Pr) (hb : Q.bare = P.bare) (h0 : (typesT P).2 ≠ 0) (h1 : (typesT P).2 ≠ 1) (j : Nat) (hj : j ≤ P.threads.length) (v : Value) :
    typesT ⟨Q.e, v, Q.threads.take j⟩ = (if (placesN ⟨Q.e, v, Q.threads.take j⟩ : Int) ≤ (typesT P).1 then (0, 0) else typesT P) ∧ placesN ⟨Q.e, v, Q.threads.take j⟩ ≤ 1000000 := by
  obtain ⟨m, hc, hp⟩ := typesT_no P h0 h1
  have hal : (⟨Q.e, v, Q.threads.take j⟩ : Pr).bare = (⟨P.e, P.tv, P.threads.take j⟩ : Pr).bare := by
    have he : Q.e.bare = P.e.bare := congrArg Pr.e hb
    have ht : Q.threads.map Th.bare = P.threads.map Th.bare := congrArg Pr.threads hb
    unfold Pr.bare
    simp only [he, List.map_take, ht]
  have hf := types_first P.e P.tv P.tv P.threads j m (typesT P) hj hc hp
  rw [typesT_alike hal, placesN_alike hal]
  refine ⟨hf, ?_⟩
  have h2 := placesN_take P.e P.tv P.tv P.threads j
  have h3 := (chkP_ok P m hc).2.2
  exact Nat.le_trans h2 h3
theorem box4 {w : World} (a b c d : Value) : (w.alloc (.cells #[a, b, c, d] 27)).heap[w.heap.size]? = some (.cells #[a, b, c, d] 27 (0, 0)) := (MapKept.heap_alloc _ _).1
structure TwQ (P : Pr) (w w' : World) (Q : Pr) (ra sa fa ta : Nat) : Prop where
  tw : TwP P w w' Q
  rv : Q.e.rv = .slice (some ⟨ra, 0, none⟩) P.e.records.length (P.e.records.length + 2)
  sv : Q.e.sv = .slice (some ⟨sa, 0, none⟩) P.e.shared.length (P.e.shared.length + 2)
  fv : Q.e.fv = .slice (some ⟨fa, 0, none⟩) P.e.funcs.length (P.e.funcs.length + 2)
  tv : Q.tv = .slice (some ⟨ta, 0, none⟩) P.threads.length (P.threads.length + 2)
theorem TwP.quad {P Q : Pr} {w w' : World} (h : TwP P w w' Q) : ∃ ra sa fa ta, TwQ P w w' Q ra sa fa ta := by
  obtain ⟨a, _, _, _, _, h1, _⟩ := h.recs
  obtain ⟨b, _, _, _, _, h2, _⟩ := h.shared
  obtain ⟨c, _, _, _, _, h3, _⟩ := h.funcs
  obtain ⟨d, _, _, _, _, h4, _⟩ := h.threads
  exact ⟨_, _, _, _, h, h1.val, h2.val, h3.val, h4.val⟩
set_option maxHeartbeats 8000000 in
theorem first_law (P : Pr) (w : World) (hI : PIn w w.heap.size P) (hT : Tab w) :
    Calls Tryz.prog 5 #[.agg #[P.e.rv, P.e.sv, P.e.fv, P.tv]] w fun e w' => e = .returned (.bool true) ∧ Below w.heap.size w w' := by
  obtain ⟨ro, rc, er, -⟩ := hI.e.rlies.form
  obtain ⟨so, sc, es, -⟩ := hI.e.slies.form
  obtain ⟨fo, fc, ef, -⟩ := hI.e.flies.form
  obtain ⟨to, tc, et, hlen, -⟩ := hI.tlies.form
  have hroom := hI.tlies.room
  have hPS := fun (u : World) (hu : Below w.heap.size w u) => psize_any P w.heap.size u (hI.keeps hu) hu.size
  have hPC := fun (u : World) (hu : Below w.heap.size w u) => types_check_any P w.heap.size u hu.size (hI.keeps hu)
  have hTW := fun (u : World) (hu : Below w.heap.size w u) (hs : sizeP P ≤ 262144) => twinProgram_any P w.heap.size u (hI.keeps hu) hu.size hs (hT.keeps hu)
  rw [er, es, ef, et] at hPS hPC hTW ⊢
  obtain ⟨N1, hN1⟩ : ∃ N, N = P.e.records.length := ⟨_, rfl⟩
  obtain ⟨N2, hN2⟩ : ∃ N, N = P.e.shared.length := ⟨_, rfl⟩
  obtain ⟨N3, hN3⟩ : ∃ N, N = P.e.funcs.length := ⟨_, rfl⟩
  obtain ⟨N4, hN4⟩ : ∃ N, N = P.threads.length := ⟨_, rfl⟩
  rw [← hN1, ← hN2, ← hN3, ← hN4] at hPS hPC hTW ⊢
  rw [← hN4] at hlen hroom
  obtain ⟨W0, hW0⟩ : ∃ W0, W0 = w.alloc (.cells #[.slice ro N1 rc, .slice so N2 sc, .slice fo N3 fc, .slice to N4 tc] 27) := ⟨_, rfl⟩
  have hB0 : Below w.heap.size w W0 := by rw [hW0]; exact below_box w _
  have hz0 : w.heap.size + 1 = W0.heap.size := by rw [hW0]; simp
  have hO : W0.heap[w.heap.size]? = some (.cells #[.slice ro N1 rc, .slice so N2 sc, .slice fo N3 fc, .slice to N4 tc] 27 (0, 0)) := by rw [hW0]; exact box4 _ _ _ _
  obtain ⟨q0, q1, q2, q3⟩ := prog4 _ _ _ _ hO
  have hps := hPS W0 hB0
  rw [hW0] at q0 q1 q2 q3
  have HPS := Lib.hid hps
  have HPC := Lib.hid hPC
  have HTW := Lib.hid hTW
  have HB0 := Lib.hid hB0
  have HZ0 := Lib.hid hz0
  have HO := Lib.hid hO
  have HW0 := Lib.hid hW0
  have HAL := Lib.hid (fun w => talive_any w)
  have HN := Lib.hid (And.intro hN1 (And.intro hN2 (And.intro hN3 hN4)))
  have hm := made_int
  clear hPS hPC hTW hps hB0 hz0 hO hW0 hI hT er es ef et hN1 hN2 hN3 hN4
  go_enter Tryz.func5, Tryz.ntmps5
  go_wp2_with fail
  rw [← HW0.out]
  refine HPS.out.mono ?_; rintro e w1 ⟨⟨n, rfl, hn0, hn1, hns⟩, hb1⟩
  have hs1 := hb1.size
  have HB1 := Lib.hid (HB0.out.trans (hb1.mono (by have := HZ0.out; omega)))
  have HO1 := Lib.hid ((hb1.block _ (by have := HZ0.out; omega)).trans HO.out)
  have HBY := Lib.hid (beyond_any w1.heap.size n 3 (0, 0) (w1.alloc (.cells #[.int .i64 n] 3)) hn0 hn1 (MapKept.heap_alloc _ _).1)
  have HNS := Lib.hid hns
  have hlt1 : w.heap.size < w1.heap.size := by have := HZ0.out; omega
  clear hb1 hns q0 q1 q2 q3
  go_wp2_with fail
  refine HBY.out.mono ?_; rintro e w2 ⟨rfl, rfl⟩
  have HB2 := Lib.hid (HB1.out.trans ((below_box w1 (.cells #[.int .i64 n] 3)).mono HB1.out.size))
  have HO2 := Lib.hid (show (w1.alloc (.cells #[.int .i64 n] 3)).heap[w.heap.size]? = _ from (Below.heap_alloc _ _ _ (by omega)).trans HO1.out)
  by_cases hbig : 262144 < n
  · rw [decide_eq_true hbig]
    go_wp2_with fail
    go_ret
    exact ⟨rfl, HB2.out⟩
  rw [decide_eq_false hbig]
  have HSZ := Lib.hid (HNS.out (by omega))
  obtain ⟨q0, q1, q2, q3⟩ := prog4 _ _ _ _ HO2.out
  have HC := Lib.hid (HPC.out _ HB2.out)
  go_wp2_with fail
  refine HC.out.mono ?_; rintro e w3 ⟨rfl, hb3⟩
  have hs3 := hb3.size
  have hlt3 : w.heap.size < w3.heap.size := by simp at hs3; omega
  have HB3 := Lib.hid (HB2.out.trans (hb3.mono HB2.out.size))
  have HO3 := Lib.hid ((hb3.block _ (by simp; omega)).trans HO2.out)
  obtain ⟨r, hr⟩ : ∃ r, r = typesT P := ⟨_, rfl⟩
  obtain ⟨at', ee⟩ := r
  rw [← hr]
  clear hb3 hs3 q0 q1 q2 q3
  by_cases he0 : ee = 0
  · subst he0
    go_wp2_with fail
    refine (HAL.out _).mono ?_; rintro e w4 ⟨rfl, hb4⟩
    have HB4 := Lib.hid (HB3.out.trans (hb4.mono HB3.out.size))
    clear hb4
    go_wp2_with fail
    go_ret
    exact ⟨rfl, HB4.out⟩
  by_cases he1 : ee = 1
  · subst he1
    go_wp2_with fail
    refine (HAL.out _).mono ?_; rintro e w4 ⟨rfl, hb4⟩
    have HB4 := Lib.hid (HB3.out.trans (hb4.mono HB3.out.size))
    clear hb4
    go_wp2_with fail
    go_ret
    exact ⟨rfl, HB4.out⟩
  have HFC := Lib.hid (fun (Q : Pr) (hb : Q.bare = P.bare) (j : Nat) (hj : j ≤ P.threads.length) (v : Value) => first_copy P Q hb (by rw [← hr]; exact he0) (by rw [← hr]; exact he1) j hj v)
  have HR := Lib.hid hr
  have hq0 : (ee == 0) = false := by simpa using he0
  have hq1 : (ee == 1) = false := by simpa using he1
  clear hr he0 he1
  go_wp2_with fail
  go_loopw [5] (fun i wr => ∃ k : Nat, k ≤ N4 + 1 ∧ i = .int .i64 k ∧ Below w.heap.size w wr ∧ Hid (wr.heap[w.heap.size]? = some (.cells #[.slice ro N1 rc, .slice so N2 sc, .slice fo N3 fc, .slice to N4 tc] 27 (0, 0)))) (fun i _ => N4 + 1 - (intOf i).toNat)
  case atStart => exact ⟨0, by omega, rfl, HB3.out, HO3⟩
  case round =>
    obtain ⟨k, hkN, rfl, hB, HOr⟩ := hrel
    have hsr := hB.size
    have hltr : w.heap.size < wr.heap.size := (Array.getElem?_eq_some_iff.1 HOr.out).1
    obtain ⟨q0, q1, q2, q3⟩ := prog4 _ _ _ _ HOr.out
    have HB := Lib.hid hB
    by_cases hk : k ≤ N4
    · have HTWr := Lib.hid (HTW.out wr hB HSZ.out)
      clear hB
      go_wp2_with fail
      refine HTWr.out.mono ?_; intro e w5 hq
      obtain ⟨Q, rfl, hQ⟩ := hq
      obtain ⟨ra, sa, fa, ta, hQ⟩ := hQ.quad
      rw [hQ.rv, hQ.sv, hQ.fv, hQ.tv, ← HN.out.1, ← HN.out.2.1, ← HN.out.2.2.1, ← HN.out.2.2.2]
      have hb5 := hQ.tw.below
      have hs5 := hb5.size
      have HB5 := Lib.hid (HB.out.trans (hb5.mono hsr))
      have hO5 := (hb5.block _ hltr).trans HOr.out
      obtain ⟨W6, hW6⟩ : ∃ W6, W6 = w5.alloc (.cells #[.slice (some ⟨ra, 0, none⟩) N1 (N1 + 2), .slice (some ⟨sa, 0, none⟩) N2 (N2 + 2), .slice (some ⟨fa, 0, none⟩) N3 (N3 + 2), .slice (some ⟨ta, 0, none⟩) k (N4 + 2)] 27) := ⟨_, rfl⟩
      have hb6 : Below w5.heap.size w5 W6 := by rw [hW6]; exact below_box w5 _
      have hz6 : W6.heap.size = w5.heap.size + 1 := by rw [hW6]; simp
      have hO6 : W6.heap[w5.heap.size]? = some (.cells #[.slice (some ⟨ra, 0, none⟩) N1 (N1 + 2), .slice (some ⟨sa, 0, none⟩) N2 (N2 + 2), .slice (some ⟨fa, 0, none⟩) N3 (N3 + 2), .slice (some ⟨ta, 0, none⟩) k (N4 + 2)] 27 (0, 0)) := by rw [hW6]; exact box4 _ _ _ _
      obtain ⟨Q', hQ'⟩ : ∃ q : Pr, q = ⟨Q.e, .slice (some ⟨ta, 0, none⟩) k (N4 + 2), Q.threads.take k⟩ := ⟨_, rfl⟩
      have hQI : PIn w5 w5.heap.size Q := hQ.tw.new.here
      have hql : k ≤ Q.threads.length := by
        have h1 := congrArg List.length (congrArg Pr.threads hQ.tw.bare)
        simp only [Pr.bare, List.length_map] at h1
        rw [h1, ← HN.out.2.2.2]; exact hk
      have hQI' : PIn w5 w5.heap.size Q' := by
        rw [hQ']
        have htl := hQI.tlies
        rw [hQ.tv] at htl
        exact ⟨hQI.e, liesG_take htl k (N4 + 2) hql, fun t ht => hQI.threads t (List.mem_of_mem_take ht)⟩
      obtain ⟨hv, hpn⟩ := HFC.out Q hQ.tw.bare k (by rw [← HN.out.2.2.2]; exact hk) (.slice (some ⟨ta, 0, none⟩) k (N4 + 2))
      rw [← hQ'] at hv hpn
      have hck := types_check_any Q' w5.heap.size W6 hb6.size (hQI'.keeps hb6)
      have hpl := fun (u : World) (hu : Below W6.heap.size W6 u) => places_any Q' w5.heap.size u (hQI'.keeps (hb6.trans (hu.mono hb6.size))) (by have := hu.size; omega) hpn
      have e1 : Q'.e.rv = .slice (some ⟨ra, 0, none⟩) N1 (N1 + 2) := by rw [hQ', HN.out.1]; exact hQ.rv
      have e2 : Q'.e.sv = .slice (some ⟨sa, 0, none⟩) N2 (N2 + 2) := by rw [hQ', HN.out.2.1]; exact hQ.sv
      have e3 : Q'.e.fv = .slice (some ⟨fa, 0, none⟩) N3 (N3 + 2) := by rw [hQ', HN.out.2.2.1]; exact hQ.fv
      have e4 : Q'.tv = .slice (some ⟨ta, 0, none⟩) k (N4 + 2) := by rw [hQ']
      rw [e1, e2, e3, e4] at hck hpl
      rw [hv, ← HR.out] at hck
      obtain ⟨pn, hpn2⟩ : ∃ p, p = placesN Q' := ⟨_, rfl⟩
      rw [← hpn2] at hck hpl
      have HCK := Lib.hid hck
      have HPL := Lib.hid hpl
      have HW6 := Lib.hid hW6
      have HB6 := Lib.hid (HB5.out.trans (hb6.mono (by omega)))
      have HO6 := Lib.hid hO6
      have HP6 := Lib.hid ((hb6.block w.heap.size (by omega)).trans hO5)
      have hlt6 : w5.heap.size < W6.heap.size := by omega
      clear hQ hb5 hO5 hW6 hb6 hz6 hO6 hQI hQI' hql hv hpn hck hpl e1 e2 e3 e4 hpn2 hQ' q0 q1 q2 q3
      go_wp2_with fail
      rw [← HW6.out]
      refine HCK.out.mono ?_; rintro e w7 ⟨rfl, hb7⟩
      have hs7 := hb7.size
      have hO7 := (hb7.block _ (by omega)).trans HO6.out
      obtain ⟨q0, q1, q2, q3⟩ := prog4 _ _ _ _ hO7
      have HPL2 := Lib.hid (HPL.out w7 hb7)
      have HB7 := Lib.hid (HB6.out.trans (hb7.mono (by have := HB6.out.size; omega)))
      have HP7 := Lib.hid ((hb7.block w.heap.size (by omega)).trans HP6.out)
      clear hb7 hO7
      by_cases hle : (pn : Int) ≤ at'
      all_goals
        first | rw [if_pos hle] | rw [if_neg hle]
        go_wp2_with fail
        refine HPL2.out.mono ?_; rintro e w8 ⟨rfl, hb8⟩
        have HB8 := Lib.hid (HB7.out.trans (hb8.mono (by have := HB7.out.size; omega)))
        have HP8 := Lib.hid ((hb8.block w.heap.size (by omega)).trans HP7.out)
        clear hb8 q0 q1 q2 q3
        go_wp2_with fail
        go_roundw
        case rel => exact ⟨k + 1, by omega, by go_num, HB8.out, HP8⟩
        case measure => simp [intOf]; omega
    · have HB9 := Lib.hid hB
      clear hB
      go_wp2_with fail
      refine (HAL.out _).mono ?_; rintro e w4 ⟨rfl, hb4⟩
      have HB4 := Lib.hid (HB9.out.trans (hb4.mono HB9.out.size))
      clear hb4
      go_wp2_with fail
      go_ret
      exact ⟨rfl, HB4.out⟩
end Go.Proofs.YtgkmfbemehjelaaGreatDoor
