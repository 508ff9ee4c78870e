/- The statement on words and places, at every program. -/
import Derived.Test.YtcibiiddigpnfaaGreatDoorRows
import Derived.Test.YtcibiiddigpnfaaGreatDoorTypWt
import Derived.Test.YtcibiiddigpnfaaGreatDoorShpAlive
import Derived.Test.YtcibiiddigpnfaaGreatDoorGTwinB
import Derived.Test.YtcibiiddigpnfaaGreatDoorTypBeyond
namespace Go.Proofs.YtcibiiddigpnfaaGreatDoor
set_option maxRecDepth 100000
open Go.RowKit
attribute [local go_sem ↓] bls_eq bld_eq
structure KeepS (w : World) (c : Array Value) (W : World) : Prop where
  below : Below w.heap.size w W
  own : W.heap[w.heap.size]? = some (.cells c 27 (0, 0))
theorem KeepS.lt {w W : World} {c : Array Value} (h : KeepS w c W) : w.heap.size < W.heap.size := (Array.getElem?_eq_some_iff.1 h.own).1
theorem KeepS.step {w W W' : World} {c : Array Value} (h : KeepS w c W) (hb : Below W.heap.size W W') : KeepS w c W' :=
  ⟨h.below.trans (hb.mono h.below.size), (hb.block _ h.lt).trans h.own⟩
theorem KeepS.alloc {w W : World} {c : Array Value} (h : KeepS w c W) (o : Obj) : KeepS w c (W.alloc o) := h.step (below_box W o)
theorem KeepS.drew {w W : World} {c : Array Value} (h : KeepS w c W) : KeepS w c W.drew := ⟨h.below.drew, h.own⟩
theorem words_off {P : Pr} (h : ¬ (typesT P).2 = 0) : wordsS P = (0, 1) := by unfold wordsS; rw [if_neg h]
theorem words_on {P : Pr} (h : (typesT P).2 = 0) : wordsS P = ((P.e.shared.length : Int), 0) := by unfold wordsS; rw [if_pos h]
theorem TwP.two {P Q : Pr} {w w' : World} (h : TwP P w w' Q) : ∃ ra sa fa ta, Q.e.rv = .slice (some ⟨ra, 0, none⟩) P.e.records.length (P.e.records.length + 2) ∧ Q.e.sv = .slice (some ⟨sa, 0, none⟩) P.e.shared.length (P.e.shared.length + 2) ∧
    Q.e.fv = .slice (some ⟨fa, 0, none⟩) P.e.funcs.length (P.e.funcs.length + 2) ∧ Q.tv = .slice (some ⟨ta, 0, none⟩) P.threads.length (P.threads.length + 2) := by
  obtain ⟨_, _, _, _, _, h1, _⟩ := h.recs
  obtain ⟨_, _, _, _, _, h2, _⟩ := h.shared
  obtain ⟨_, _, _, _, _, h3, _⟩ := h.funcs
  obtain ⟨_, _, _, _, _, h4, _⟩ := h.threads
  exact ⟨_, _, _, _, h1.val, h2.val, h3.val, h4.val⟩
set_option maxHeartbeats 16000000 in
theorem shape_law (P : Pr) (w : World) (hI : PIn w w.heap.size P) (hT : Tab w) :
    Calls Tryz.prog 5 #[.agg #[P.e.rv, P.e.sv, P.e.fv, P.tv]] w fun e w' => e = .returned (.bool true) ∧ Below w.heap.size w w' := by
  obtain ⟨ro, rc, er, hrl, hrg⟩ := hI.e.rlies.form
  obtain ⟨so, sc, es, hsl, hsg⟩ := hI.e.slies.form
  obtain ⟨fo, fc, ef, -⟩ := hI.e.flies.form
  obtain ⟨to, tc, et, -⟩ := hI.tlies.form
  have HI := Lib.hid hI
  have hroom1 := hI.e.rlies.room
  have hroom2 := hI.e.slies.room
  have hPS := fun (u : World) (hu : Below w.heap.size w u) => psize_any P w.heap.size u (hI.keeps hu) hu.size
  have hPC := fun (u : World) (hu : Below w.heap.size w u) => types_check_any P w.heap.size u hu.size (hI.keeps hu)
  have hTW := fun (u : World) (hu : Below w.heap.size w u) (hs : sizeP P ≤ 262144) => twinProgram_any P w.heap.size u (hI.keeps hu) hu.size hs (hT.keeps hu)
  have hWO := fun (u : World) (hu : Below w.heap.size w u) => words_any P w.heap.size u hu.size (hI.keeps hu)
  have hSH := fun (s : ByteArray) (u : World) (hu : Below w.heap.size w u) => shared_any s P w.heap.size u hu.size (hI.keeps hu)
  have hSZ := fun (t : Ty) (ht : TyOk t) (u : World) (hu : Below w.heap.size w u) => size_any t ht P w.heap.size u hu.size (hI.keeps hu)
  have hOF := fun (r f : ByteArray) (u : World) (hu : Below w.heap.size w u) => offset_any r f P w.heap.size u hu.size (hI.keeps hu)
  simp only [er, es, ef, et] at hPS hPC hTW hWO hSH hSZ hOF ⊢
  obtain ⟨N1, hN1⟩ : ∃ N, N = P.e.records.length := ⟨_, rfl⟩
  obtain ⟨N2, hN2⟩ : ∃ N, N = P.e.shared.length := ⟨_, rfl⟩
  obtain ⟨N3, hN3⟩ : ∃ N, N = P.e.funcs.length := ⟨_, rfl⟩
  obtain ⟨N4, hN4⟩ : ∃ N, N = P.threads.length := ⟨_, rfl⟩
  simp only [← hN1, ← hN2, ← hN3, ← hN4] at hPS hPC hTW hWO hSH hSZ hOF ⊢
  rw [← hN1] at hrl hroom1 hrg
  rw [← hN2] at hsl hroom2 hsg
  obtain ⟨W0, hW0⟩ : ∃ W0, W0 = w.alloc (.cells #[.slice ro N1 rc, .slice so N2 sc, .slice fo N3 fc, .slice to N4 tc] 27) := ⟨_, rfl⟩
  have hO : W0.heap[w.heap.size]? = some (.cells #[.slice ro N1 rc, .slice so N2 sc, .slice fo N3 fc, .slice to N4 tc] 27 (0, 0)) := by rw [hW0]; exact boxP4 _ _ _ _
  have hK0 : KeepS w #[.slice ro N1 rc, .slice so N2 sc, .slice fo N3 fc, .slice to N4 tc] W0 := ⟨by rw [hW0]; exact below_box w _, hO⟩
  obtain ⟨q0, q1, q2, q3⟩ := prog4 _ _ _ _ hO
  rw [hW0] at q0 q1 q2 q3
  have HPS := Lib.hid (hPS W0 hK0.below)
  have HPC := Lib.hid hPC
  have HTW := Lib.hid hTW
  have HWO := Lib.hid hWO
  have HSH := Lib.hid hSH
  have HSZ := Lib.hid hSZ
  have HOF := Lib.hid hOF
  have HK0 := Lib.hid hK0
  have HW0 := Lib.hid hW0
  have HAL := Lib.hid (fun w => shpalive_any w)
  have HN := Lib.hid (And.intro hN1 (And.intro hN2 (And.intro hN3 hN4)))
  have HSV := Lib.hid es
  have HRV := Lib.hid er
  have HRG := Lib.hid hrg
  have HSG := Lib.hid hsg
  have hm := made_int
  clear hPS hPC hTW hWO hSH hSZ hOF hK0 hO hW0 hI hT er es ef et hN1 hN2 hN3 hN4 hrg hsg
  go_enter Tryz.func5, Tryz.ntmps5
  go_wp2_with fail
  rw [← HW0.out]
  refine HPS.out.mono ?_; rintro e w1 ⟨⟨n, rfl, hn0, hn1, hns⟩, hb1⟩
  have HK1 := Lib.hid (HK0.out.step hb1)
  have HBY := Lib.hid (beyond_any w1.heap.size n 3 (0, 0) (w1.alloc (.cells #[.int .i64 n] 3)) hn0 hn1 (MapKept.heap_alloc _ _).1)
  have HNS := Lib.hid hns
  clear hb1 hns q0 q1 q2 q3
  go_wp2_with fail
  refine HBY.out.mono ?_; rintro e w2 ⟨rfl, rfl⟩
  have HK2 := Lib.hid (HK1.out.alloc (.cells #[.int .i64 n] 3))
  by_cases hbig : 262144 < n
  · rw [decide_eq_true hbig]
    go_wp2_with fail
    go_ret
    exact ⟨rfl, HK2.out.below⟩
  rw [decide_eq_false hbig]
  have HSI := Lib.hid (HNS.out (by omega))
  obtain ⟨q0, q1, q2, q3⟩ := prog4 _ _ _ _ HK2.out.own
  have HC := Lib.hid (HPC.out _ HK2.out.below)
  clear hn0 hn1
  go_wp2_with fail
  refine HC.out.mono ?_; rintro e w3 ⟨rfl, hb3⟩
  have HK3 := Lib.hid (HK2.out.step hb3)
  obtain ⟨r, hr⟩ : ∃ r, r = typesT P := ⟨_, rfl⟩
  obtain ⟨at', ee⟩ := r
  rw [← hr]
  clear hb3 q0 q1 q2 q3
  obtain ⟨q0, q1, q2, q3⟩ := prog4 _ _ _ _ HK3.out.own
  have HWO3 := Lib.hid (HWO.out w3 HK3.out.below)
  by_cases he0 : ee = 0
  rotate_left
  · have hwo : wordsS P = (0, 1) := words_off (by rw [← hr]; exact he0)
    rw [hwo] at HWO3
    have hq0 : (ee == 0) = false := by simpa using he0
    have hq1 : (ee != 0) = true := bne_iff_ne.2 he0
    clear hr he0 hwo
    go_wp2_with fail
    refine HWO3.out.mono ?_; rintro e w4 ⟨rfl, hb4⟩
    have HK4 := Lib.hid (HK3.out.step hb4)
    clear hb4
    go_wp2_with fail
    refine (HAL.out _).mono ?_; rintro e w5 ⟨rfl, hb5⟩
    have HK5 := Lib.hid (HK4.out.step hb5)
    clear hb5
    go_wp2_with fail
    go_ret
    exact ⟨rfl, HK5.out.below⟩
  subst he0
  have hT0 : (typesT P).2 = 0 := by rw [← hr]
  have HT0 := Lib.hid hT0
  have hwo : wordsS P = ((N2 : Int), 0) := by rw [words_on hT0, ← HN.out.2.1]
  rw [hwo] at HWO3
  clear hr hwo hT0
  go_wp2_with fail
  refine HWO3.out.mono ?_; rintro e w4 ⟨rfl, hb4⟩
  have HK4 := Lib.hid (HK3.out.step hb4)
  clear hb4 q0 q1 q2 q3
  obtain ⟨q0, q1, q2, q3⟩ := prog4 _ _ _ _ HK4.out.own
  have HTW4 := Lib.hid (HTW.out w4 HK4.out.below HSI.out)
  go_wp2_with fail
  refine HTW4.out.mono ?_; intro e w5 hq
  obtain ⟨Q, rfl, hQ⟩ := hq
  obtain ⟨ra, sa, fa, ta, eqr, eqs, eqf, eqt⟩ := hQ.two
  rw [eqr, eqs, eqf, eqt, ← HN.out.1, ← HN.out.2.1, ← HN.out.2.2.1, ← HN.out.2.2.2]
  have HK5 := Lib.hid (HK4.out.step hQ.below)
  have hQI : PIn w5 w5.heap.size Q := hQ.new.here
  have hbr : Q.e.records.map Rc.bare = P.e.records.map Rc.bare := by have h := congrArg (fun p : Pr => p.e.records) hQ.bare; exact h
  have hbs : Q.e.shared = P.e.shared := by have h := congrArg (fun p : Pr => p.e.shared) hQ.bare; exact h
  obtain ⟨W6, hW6⟩ : ∃ W6, W6 = w5.alloc (.cells #[.slice (some ⟨ra, 0, none⟩) N1 (N1 + 2), .slice (some ⟨sa, 0, none⟩) N2 (N2 + 2), .slice none 0 0, .slice none 0 0] 27) := ⟨_, rfl⟩
  have hb6 : Below w5.heap.size w5 W6 := by rw [hW6]; exact below_box w5 _
  have HK6 := Lib.hid (HK5.out.step hb6)
  have hO6 : W6.heap[w5.heap.size]? = some (.cells #[.slice (some ⟨ra, 0, none⟩) N1 (N1 + 2), .slice (some ⟨sa, 0, none⟩) N2 (N2 + 2), .slice none 0 0, .slice none 0 0] 27 (0, 0)) := by rw [hW6]; exact boxP4 _ _ _ _
  have hP6 : PIn w5 w5.heap.size ⟨⟨Q.e.rv, Q.e.records, Q.e.sv, Q.e.shared, .slice none 0 0, []⟩, .slice none 0 0, []⟩ := ⟨⟨hQI.e.rlies, hQI.e.records, hQI.e.slies, hQI.e.shared, nilS_lies, (fun a ha => by cases ha)⟩, nilS_lies, (fun a ha => by cases ha)⟩
  have hW6o := words_any _ w5.heap.size W6 hb6.size (hP6.keeps hb6)
  rw [words_on (bare_taken HT0.out _ _ _ _ _ _ hbr hbs)] at hW6o
  simp only [hbs, ← HN.out.2.1] at hW6o
  rw [eqr, eqs, ← HN.out.1, ← HN.out.2.1] at hW6o
  have HW6o := Lib.hid hW6o
  have HW6 := Lib.hid hW6
  obtain ⟨p0, p1, p2, p3⟩ := prog4 _ _ _ _ hO6
  rw [hW6] at p0 p1 p2 p3
  clear hQ eqr eqs eqf eqt hQI hbr hbs hW6 hb6 hO6 hP6 hW6o q0 q1 q2 q3
  go_wp2_with fail
  rw [← HW6.out]
  refine HW6o.out.mono ?_; rintro e w7 ⟨rfl, hb7⟩
  have HK7 := Lib.hid (HK6.out.step hb7)
  clear hb7 p0 p1 p2 p3
  obtain ⟨q0, q1, q2, q3⟩ := prog4 _ _ _ _ HK7.out.own
  go_wp2_with fail
  clear q0 q1 q2 q3
  go_loopw [10] (fun i wr => ∃ k : Nat, k ≤ N2 ∧ i = .int .i64 k ∧ KeepS w #[.slice ro N1 rc, .slice so N2 sc, .slice fo N3 fc, .slice to N4 tc] wr) (fun i _ => N2 - (intOf i).toNat)
  case atStart => exact ⟨0, by omega, rfl, HK7.out⟩
  case round =>
    obtain ⟨k, hkN, rfl, hK⟩ := hrel
    have HK := Lib.hid hK
    have hlt := hK.lt
    by_cases hk : k < N2
    · obtain ⟨g, off, rfl, hg⟩ := HSG.out (by omega)
      have hkx : k < P.e.shared.length := by rw [← HN.out.2.1]; exact hk
      have hat := ((HI.out.keeps hK.below).e.slies.at HSV.out k hkx).2
      have hfol := shared_follows HT0.out k P.e.shared[k] (List.getElem?_eq_getElem hkx)
      generalize P.e.shared[k] = a at hat hfol
      obtain ⟨p0, -, -, -⟩ := cells4S hat
      have hC := fun (u : World) (hu : KeepS w #[.slice ro N1 rc, .slice (some ⟨g, off, none⟩) N2 sc, .slice fo N3 fc, .slice to N4 tc] u) => HSH.out a.name u hu.below
      rw [hfol, Int.add_comm] at hC
      have HC := Lib.hid hC
      obtain ⟨q0, q1, q2, q3⟩ := prog4 _ _ _ _ hK.own
      have hgs : g < wr.heap.size := by omega
      clear hat hfol hC hK
      go_wp2_with fail
      refine wp_region_held_drew (S := SameTo (wr.heap.size) wr) (by kernel_rfl) (SameTo.drew _ _) (fun hSw => ?_)
      refine wt (i := 0) (oi := { dst := some 78, op := Op.load 27 (Operand.tmp 1), type := 27, pos := "law.go:63", after := #[], guard := none }) (v := .agg #[.slice ro N1 rc, .slice (some ⟨g, off, none⟩) N2 sc, .slice fo N3 fc, .slice to N4 tc]) (fun W hW => ?_) hSw ?_
      · have q0 := hW.cell (by dsimp only; omega) q0
        have q1 := hW.cell (by dsimp only; omega) q1
        have q2 := hW.cell (by dsimp only; omega) q2
        have q3 := hW.cell (by dsimp only; omega) q3
        first | (go_simp; done) | rfl
      try simp only [Act.put]
      refine wt (i := 1) (oi := { dst := some 79, op := Op.fieldAddr 27 (Operand.tmp 1) 1, type := 0, pos := "law.go:63", after := #[], guard := none }) (v := .pointer (some ⟨w.heap.size, 1, none⟩)) (fun W hW => ?_) hSw ?_
      · first | (go_simp; done) | rfl
      try simp only [Act.put]
      refine wt (i := 2) (oi := { dst := some 80, op := Op.load 23 (Operand.tmp 79), type := 23, pos := "law.go:63", after := #[gd 1], guard := none }) (v := .slice (some ⟨g, off, none⟩) N2 sc) (fun W hW => ?_) hSw ?_
      · have q1 := hW.cell (by dsimp only; omega) q1
        first | (go_simp; done) | rfl
      try simp only [Act.put]
      refine wt (i := 3) (oi := { dst := some 81, op := Op.move (Operand.tmp 10), type := 3, pos := "law.go:63", after := #[], guard := none }) (v := .int .i64 (k : Int)) (fun W hW => ?_) hSw ?_
      · first | (go_simp; done) | rfl
      try simp only [Act.put]
      refine wt (i := 4) (oi := { dst := some 82, op := Op.indexAddr 23 (Operand.tmp 80) (Operand.tmp 81), type := 0, pos := "law.go:63", after := #[gd 2, gd 3], guard := none }) (v := .pointer (some ⟨g, off + k * 4, none⟩)) (fun W hW => ?_) hSw ?_
      · first | (go_simp; done) | rfl
      try simp only [Act.put]
      refine wt (i := 5) (oi := { dst := some 83, op := Op.fieldAddr 49 (Operand.tmp 82) 0, type := 0, pos := "law.go:63", after := #[gd 4], guard := none }) (v := .pointer (some ⟨g, off + k * 4, none⟩)) (fun W hW => ?_) hSw ?_
      · first | (go_simp; done) | rfl
      try simp only [Act.put]
      refine wt (i := 6) (oi := { dst := some 84, op := Op.load 9 (Operand.tmp 83), type := 9, pos := "law.go:63", after := #[gd 5], guard := none }) (v := .string a.name) (fun W hW => ?_) hSw ?_
      · have p0 := hW.cell (by dsimp only; omega) p0
        first | (go_simp; done) | rfl
      try simp only [Act.put]
      refine wpAnyH_ready (rs := [7]) (by kernel_rfl) (by simp) ?_
      refine AllReadyH.cons (o := { dst := some 85, op := Op.call { callee := Callee.value (Operand.func 13), args := #[Operand.tmp 78, Operand.tmp 84], argTypes := #[27, 9] }, type := 31, pos := "law.go:63", after := #[gd 0, gd 6], guard := none }) rfl (fun K hK => ?_) AllReadyH.nil
      rw [if_pos (by rfl)]
      clear hSw
      go_simp
      refine (HC.out _ HK.out.drew).mono ?_; rintro e w5 ⟨rfl, hb5⟩
      have HK5 := Lib.hid (HK.out.drew.step hb5)
      have hle5 : wr.heap.size ≤ w5.heap.size := hb5.size
      have HS5 := Lib.hid (SameTo.of hb5)
      clear hb5
      refine hK.out _ _ (HS5.out) (fun hSw => ?_)
      clear hK K
      try simp only []
      refine wt (i := 8) (oi := { dst := some 77, op := Op.move (Operand.tmp 85), type := 31, pos := "law.go:63", after := #[gd 7], guard := none }) (v := .tuple #[.int .i64 ((k : Int) + 1), .int .i64 0]) (fun W hW => ?_) hSw ?_
      · first | (go_simp; done) | rfl
      try simp only [Act.put]
      refine wt (i := 9) (oi := { dst := some 86, op := Op.extract (Operand.tmp 77) 0, type := 3, pos := "law.go:63", after := #[gd 8], guard := none }) (v := .int .i64 ((k : Int) + 1)) (fun W hW => ?_) hSw ?_
      · first | (go_simp; done) | rfl
      try simp only [Act.put]
      refine wt (i := 10) (oi := { dst := some 87, op := Op.extract (Operand.tmp 77) 1, type := 30, pos := "law.go:63", after := #[gd 8, { on := 11, ground := Ground.gcOnly Departure.lateStores }], guard := none }) (v := .int .i64 0) (fun W hW => ?_) hSw ?_
      · first | (go_simp; done) | rfl
      try simp only [Act.put]
      refine wt (i := 11) (oi := { dst := some 11, op := Op.assign (Operand.tmp 86), type := 3, pos := "law.go:63", after := #[gd 9, gc 7, gp 0, gp 1, gp 2, gp 3, gp 4, gp 5, gp 6, gp 7, gp 8, gp 9, { on := 10, ground := Ground.textOnly Departure.lateStores }], guard := none }) (v := .int .i64 ((k : Int) + 1)) (fun W hW => ?_) hSw ?_
      · first | (go_simp; done) | rfl
      try simp only [Act.put]
      refine wt (i := 12) (oi := { dst := some 12, op := Op.assign (Operand.tmp 87), type := 30, pos := "law.go:63", after := #[gd 10, gc 11, gp 0, gp 1, gp 2, gp 3, gp 4, gp 5, gp 6, gp 7, gp 8, gp 9, gp 10, gp 11], guard := none }) (v := .int .i64 0) (fun W hW => ?_) hSw ?_
      · first | (go_simp; done) | rfl
      try simp only [Act.put]
      refine wpAnyH_done (by kernel_rfl) ?_ _
      clear q0 q1 q2 q3 p0
      go_wp2_with fail
      go_roundw
      case rel => exact ⟨k + 1, by omega, by go_num, HK5.out⟩
      case measure => simp [intOf]; omega
    · clear hK
      go_wp2_with fail
      go_loopw [13] (fun i wr => ∃ k : Nat, k ≤ N1 ∧ i = .int .i64 k ∧ KeepS w #[.slice ro N1 rc, .slice so N2 sc, .slice fo N3 fc, .slice to N4 tc] wr) (fun i _ => N1 - (intOf i).toNat)
      case atStart => exact ⟨0, by omega, rfl, HK.out⟩
      case round =>
        obtain ⟨k, hkN, rfl, hK⟩ := hrel
        obtain ⟨wo, rfl⟩ : ∃ wo, wo = wr := ⟨_, rfl⟩
        have HK := Lib.hid hK
        have hlt := hK.lt
        obtain ⟨q0, q1, q2, q3⟩ := prog4 _ _ _ _ hK.own
        by_cases hk : k < N1
        · obtain ⟨g, off, rfl, hg⟩ := HRG.out (by omega)
          have hkx : k < P.e.records.length := by rw [← HN.out.1]; exact hk
          have hat := ((HI.out.keeps hK.below).e.rlies.at HRV.out k hkx).2
          have hma := (HI.out.keeps hK.below).e.records _ (List.getElem_mem hkx)
          have hsz := size_follows HT0.out k P.e.records[k] (List.getElem?_eq_getElem hkx)
          have hof := fun j f => offset_follows HT0.out k P.e.records[k] (List.getElem?_eq_getElem hkx) j f
          generalize P.e.records[k] = a at hat hma hsz hof
          obtain ⟨t0, t1⟩ := cells2S hat
          obtain ⟨ao, cap, ea, hal, hag⟩ := hma.lies.form
          have hLA := hma.lies
          rw [ea] at t1 hLA
          have hnmx := hma.name
          obtain ⟨n, hn⟩ : ∃ n, n = a.fields.length := ⟨_, rfl⟩
          rw [← hn] at t1 hal hag hsz hLA
          obtain ⟨b, hbw⟩ : ∃ b, b = wo.heap.size := ⟨_, rfl⟩
          obtain ⟨W1, hW1⟩ : ∃ W1, W1 = wo.alloc (.cells #[.string a.name, .slice ao n cap] 51) := ⟨_, rfl⟩
          have hb1 : Below wo.heap.size wo W1 := by rw [hW1]; exact below_box wo _
          have hR1 : W1.heap[b]? = some (.cells #[.string a.name, .slice ao n cap] 51 (0, 0)) := by rw [hW1, hbw]; exact (MapKept.heap_alloc _ _).1
          have hz1 : W1.heap.size = wo.heap.size + 1 := by rw [hW1]; simp
          have HK1' := Lib.hid (hK.step hb1)
          obtain ⟨q0', q1', q2', q3'⟩ := prog4 _ _ _ _ (hK.step hb1).own
          have hS1 := HSZ.out ⟨2, a.name, 0⟩ ⟨by show (0 : Int) ≤ 2 ∧ (2 : Int) ≤ 255; omega, hnmx, by show (-9223372036854775808 : Int) ≤ 0 ∧ (0 : Int) ≤ 9223372036854775807; omega⟩ W1 (hK.step hb1).below
          rw [hsz] at hS1
          have HS1 := Lib.hid hS1
          have HLA := Lib.hid hLA
          have HOA := Lib.hid hof
          have HNA := Lib.hid hn
          have HGA := Lib.hid hag
          have HR1 := Lib.hid hR1
          have HW1 := Lib.hid hW1
          have HB1 := Lib.hid hb1
          have HBW := Lib.hid hbw
          have hgs : g < wo.heap.size := by omega
          have ebl := bld_of 40 #[(0, .int .u8 2), (1, .string a.name)] #[.int .u8 2, .string a.name, .int .i64 0] (by kernel_rfl)
          have hbz : b < W1.heap.size := by omega
          rw [hW1] at q0' q1' q2' q3'
          clear hat hma hsz hof ea hLA hnmx hn hS1 hag hW1 hb1 hR1 hbw hK
          go_wp2_with fail
          rw [← HW1.out]
          refine HS1.out.mono ?_; rintro e w3 ⟨rfl, hb3⟩
          have HK3' := Lib.hid (HK1'.out.step hb3)
          have HR3 := Lib.hid ((hb3.block b hbz).trans HR1.out)
          have hbz3 : b < w3.heap.size := by have := hb3.size; omega
          have HLB := Lib.hid (HB1.out.trans (hb3.mono (by omega)))
          rw [← HBW.out]
          obtain ⟨r0, r1⟩ := own2 HR3.out
          clear hb3 q0 q1 q2 q3 q0' q1' q2' q3' t0 t1 ebl
          go_wp2_with fail
          clear r0 r1
          go_loopw [17] (fun i wr => ∃ j : Nat, j ≤ n ∧ i = .int .i64 j ∧ KeepS w #[.slice (some ⟨g, off, none⟩) N1 rc, .slice so N2 sc, .slice fo N3 fc, .slice to N4 tc] wr ∧ wr.heap[b]? = some (.cells #[.string a.name, .slice ao n cap] 51 (0, 0)) ∧ Below wo.heap.size wo wr) (fun i _ => n - (intOf i).toNat)
          case atStart => exact ⟨0, by omega, rfl, HK3'.out, HR3.out, HLB.out⟩
          case round =>
            obtain ⟨j, hjn, rfl, hKq, hRq, hBq⟩ := hrel
            have HKq := Lib.hid hKq
            have HRB := Lib.hid hRq
            have HBq := Lib.hid hBq
            have hltq := hKq.lt
            have hbq : b < wr.heap.size := (Array.getElem?_eq_some_iff.1 hRq).1
            obtain ⟨q0, q1, q2, q3⟩ := prog4 _ _ _ _ hKq.own
            obtain ⟨r0, r1⟩ := own2 hRq
            by_cases hj : j < n
            · obtain ⟨g2, off2, rfl, hg2⟩ := HGA.out (by omega)
              have hjx : j < a.fields.length := by rw [← HNA.out]; exact hj
              have hat := ((HLA.out.below (hBq.mono (by omega))).at rfl j hjx).2
              have hof := HOA.out j a.fields[j] (List.getElem?_eq_getElem hjx)
              generalize a.fields[j] = f at hat hof
              obtain ⟨p0, -, -, -⟩ := cells4S hat
              have hC := fun (u : World) (hu : KeepS w #[.slice (some ⟨g, off, none⟩) N1 rc, .slice so N2 sc, .slice fo N3 fc, .slice to N4 tc] u) => HOF.out a.name f.name u hu.below
              rw [hof] at hC
              have HCO := Lib.hid hC
              have hgs2 : g2 < wr.heap.size := by have := hBq.size; omega
              clear hat hof hC hKq hRq hBq
              go_wp2_with fail
              refine wp_region_held_drew (S := SameTo (wr.heap.size) wr) (by kernel_rfl) (SameTo.drew _ _) (fun hSw => ?_)
              refine wt (i := 0) (oi := { dst := some 131, op := Op.load 27 (Operand.tmp 1), type := 27, pos := "law.go:75", after := #[], guard := none }) (v := .agg #[.slice (some ⟨g, off, none⟩) N1 rc, .slice so N2 sc, .slice fo N3 fc, .slice to N4 tc]) (fun W hW => ?_) hSw ?_
              · have q0 := hW.cell (by dsimp only; omega) q0
                have q1 := hW.cell (by dsimp only; omega) q1
                have q2 := hW.cell (by dsimp only; omega) q2
                have q3 := hW.cell (by dsimp only; omega) q3
                first | (go_simp; done) | rfl
              try simp only [Act.put]
              refine wt (i := 1) (oi := { dst := some 132, op := Op.fieldAddr 51 (Operand.tmp 14) 0, type := 0, pos := "law.go:75", after := #[], guard := none }) (v := .pointer (some ⟨b, 0, none⟩)) (fun W hW => ?_) hSw ?_
              · first | (go_simp; done) | rfl
              try simp only [Act.put]
              refine wt (i := 2) (oi := { dst := some 133, op := Op.load 9 (Operand.tmp 132), type := 9, pos := "law.go:75", after := #[gd 1], guard := none }) (v := .string a.name) (fun W hW => ?_) hSw ?_
              · have r0 := hW.cell (by dsimp only; omega) r0
                first | (go_simp; done) | rfl
              try simp only [Act.put]
              refine wt (i := 3) (oi := { dst := some 134, op := Op.fieldAddr 51 (Operand.tmp 14) 1, type := 0, pos := "law.go:75", after := #[], guard := none }) (v := .pointer (some ⟨b, 1, none⟩)) (fun W hW => ?_) hSw ?_
              · first | (go_simp; done) | rfl
              try simp only [Act.put]
              refine wt (i := 4) (oi := { dst := some 135, op := Op.load 23 (Operand.tmp 134), type := 23, pos := "law.go:75", after := #[gd 3], guard := none }) (v := .slice (some ⟨g2, off2, none⟩) n cap) (fun W hW => ?_) hSw ?_
              · have r1 := hW.cell (by dsimp only; omega) r1
                first | (go_simp; done) | rfl
              try simp only [Act.put]
              refine wt (i := 5) (oi := { dst := some 136, op := Op.move (Operand.tmp 17), type := 3, pos := "law.go:75", after := #[], guard := none }) (v := .int .i64 (j : Int)) (fun W hW => ?_) hSw ?_
              · first | (go_simp; done) | rfl
              try simp only [Act.put]
              refine wt (i := 6) (oi := { dst := some 137, op := Op.indexAddr 23 (Operand.tmp 135) (Operand.tmp 136), type := 0, pos := "law.go:75", after := #[gd 4, gd 5], guard := none }) (v := .pointer (some ⟨g2, off2 + j * 4, none⟩)) (fun W hW => ?_) hSw ?_
              · first | (go_simp; done) | rfl
              try simp only [Act.put]
              refine wt (i := 7) (oi := { dst := some 138, op := Op.fieldAddr 49 (Operand.tmp 137) 0, type := 0, pos := "law.go:75", after := #[gd 6], guard := none }) (v := .pointer (some ⟨g2, off2 + j * 4, none⟩)) (fun W hW => ?_) hSw ?_
              · first | (go_simp; done) | rfl
              try simp only [Act.put]
              refine wt (i := 8) (oi := { dst := some 139, op := Op.load 9 (Operand.tmp 138), type := 9, pos := "law.go:75", after := #[gd 7], guard := none }) (v := .string f.name) (fun W hW => ?_) hSw ?_
              · have p0 := hW.cell (by dsimp only; omega) p0
                first | (go_simp; done) | rfl
              try simp only [Act.put]
              refine wpAnyH_ready (rs := [9]) (by kernel_rfl) (by simp) ?_
              refine AllReadyH.cons (o := { dst := some 140, op := Op.call { callee := Callee.value (Operand.func 15), args := #[Operand.tmp 131, Operand.tmp 133, Operand.tmp 139], argTypes := #[27, 9, 9] }, type := 31, pos := "law.go:75", after := #[gd 0, gd 2, gd 8], guard := none }) rfl (fun K hK => ?_) AllReadyH.nil
              rw [if_pos (by rfl)]
              clear hSw
              go_simp
              refine (HCO.out _ HKq.out.drew).mono ?_; rintro e w7 ⟨rfl, hb7⟩
              have HK7 := Lib.hid (HKq.out.drew.step hb7)
              have HR7 := Lib.hid ((hb7.block b hbq).trans HRB.out)
              have hle7 : wr.heap.size ≤ w7.heap.size := hb7.size
              have HS7 := Lib.hid (SameTo.of hb7)
              have HD7 := Lib.hid (show Below wr.heap.size wr w7 from ((Below.refl _ _).drew).trans hb7)
              clear hb7
              refine hK.out _ _ (HS7.out) (fun hSw => ?_)
              clear hK K
              try simp only []
              refine wt (i := 10) (oi := { dst := some 130, op := Op.move (Operand.tmp 140), type := 31, pos := "law.go:75", after := #[gd 9], guard := none }) (v := .tuple #[.int .i64 (j : Int), .int .i64 0]) (fun W hW => ?_) hSw ?_
              · first | (go_simp; done) | rfl
              try simp only [Act.put]
              refine wt (i := 11) (oi := { dst := some 141, op := Op.extract (Operand.tmp 130) 0, type := 3, pos := "law.go:75", after := #[gd 10], guard := none }) (v := .int .i64 (j : Int)) (fun W hW => ?_) hSw ?_
              · first | (go_simp; done) | rfl
              try simp only [Act.put]
              refine wt (i := 12) (oi := { dst := some 142, op := Op.extract (Operand.tmp 130) 1, type := 30, pos := "law.go:75", after := #[gd 10, { on := 13, ground := Ground.gcOnly Departure.lateStores }], guard := none }) (v := .int .i64 0) (fun W hW => ?_) hSw ?_
              · first | (go_simp; done) | rfl
              try simp only [Act.put]
              refine wt (i := 13) (oi := { dst := some 18, op := Op.assign (Operand.tmp 141), type := 3, pos := "law.go:75", after := #[gd 11, gc 9, gp 0, gp 1, gp 2, gp 3, gp 4, gp 5, gp 6, gp 7, gp 8, gp 9, gp 10, gp 11, { on := 12, ground := Ground.textOnly Departure.lateStores }], guard := none }) (v := .int .i64 (j : Int)) (fun W hW => ?_) hSw ?_
              · first | (go_simp; done) | rfl
              try simp only [Act.put]
              refine wt (i := 14) (oi := { dst := some 19, op := Op.assign (Operand.tmp 142), type := 30, pos := "law.go:75", after := #[gd 12, gc 13, gp 0, gp 1, gp 2, gp 3, gp 4, gp 5, gp 6, gp 7, gp 8, gp 9, gp 10, gp 11, gp 12, gp 13], guard := none }) (v := .int .i64 0) (fun W hW => ?_) hSw ?_
              · first | (go_simp; done) | rfl
              try simp only [Act.put]
              refine wpAnyH_done (by kernel_rfl) ?_ _
              clear q0 q1 q2 q3 r0 r1 p0
              have HB7 := Lib.hid (HBq.out.trans (HD7.out.mono HBq.out.size))
              go_wp2_with fail
              go_roundw
              case rel => exact ⟨j + 1, by omega, by go_num, HK7.out, HR7.out, HB7.out⟩
              case measure => simp [intOf]; omega
            · clear hKq hRq hBq
              go_wp2_with fail
              go_roundw
              case rel => exact ⟨k + 1, by omega, by go_num, HKq.out⟩
              case measure => simp [intOf]; omega
        · clear hK
          go_wp2_with fail
          refine (HAL.out _).mono ?_; rintro e w4 ⟨rfl, hb4⟩
          have HK4 := Lib.hid (HK.out.step hb4)
          clear hb4
          go_wp2_with fail
          go_ret
          exact ⟨rfl, HK4.out.below⟩
end Go.Proofs.YtcibiiddigpnfaaGreatDoor
