/- The blocks to which one leads; the side on which one ends. -/
import Derived.Test.YtgkjhnghibpeoaaRows
import Derived.Test.YtgkjhnghibpeoaaFlMem
import Derived.Test.YtgkjhnghibpeoaaIrSizes
import Derived.Test.YtgkjhnghibpeoaaParseOrder
import Derived.LoopTactic
import Derived.LoopN
import Derived.Deep.LoopGhost
import Derived.WalkKit
import Derived.WalkSpells
import Derived.WalkLawsBesides
import Derived.Lib.Hide
import Derived.OrdersHeld
import Derived.Deep.RegionHeld
import Derived.Deep.DrawnRows
import Derived.RegionTactic
import Derived.Deep.RegionHeld3
import Derived.IntWalk
import Derived.Deep.QuietTactic
import Derived.BigQuiet
namespace Go.Proofs.Ytgkjhnghibpeoaa
open Go.RowKit
set_option maxRecDepth 1000000
attribute [local go_sem ↓] bld_eq bls_eq


/-- What next answers. -/
def NxE (b : Bk) (w : World) (e : Ending) (w' : World) : Prop := ∃ v, e = .returned v ∧ RowAt w' w.heap.size v (nextF b) ∧ Below w.heap.size w w'
theorem row_lit {W w' : World} {g : Nat} {l : List Int} {T : TypeId} {fr : Nat × Nat} (h : w'.heap[g]? = some (.cells (intA l) T fr)) (hg : W.heap.size ≤ g) (cap : Nat) : RowAt w' W.heap.size (.slice (some ⟨g, 0, none⟩) l.length cap) l :=
  ⟨_, _, rfl, fun _ => ⟨g, 0, rfl, hg, (Array.getElem?_eq_some_iff.1 h).1, fun k x hx => by rw [Nat.zero_add]; exact intA_at h hx⟩⟩
set_option maxHeartbeats 4000000 in
theorem fnext_any (b : Bk) (w : World) (hv : ∃ ao n cap, b.iv = .slice ao n cap) : Calls Try.prog 15 #[.agg #[b.iv, .int .u8 b.last, .int .i64 b.reg, .int .i64 b.yes, .int .i64 b.no]] w (NxE b w) := by
  obtain ⟨ao, n, cap, eiv⟩ := hv
  obtain ⟨iv, ins, last, reg, yes, no⟩ := b
  simp only at *
  subst eiv
  obtain ⟨U, hU⟩ : ∃ U, U = w.alloc (.cells #[.slice ao n cap, .int .u8 last, .int .i64 reg, .int .i64 yes, .int .i64 no] 41) := ⟨_, rfl⟩
  obtain ⟨p0, p1, p2, p3, p4⟩ := own5 (MapKept.heap_alloc w (.cells #[.slice ao n cap, .int .u8 last, .int .i64 reg, .int .i64 yes, .int .i64 no] 41)).1
  have hb : Below w.heap.size w U := by rw [hU]; exact below_box w _
  have hz : U.heap.size = w.heap.size + 1 := by rw [hU]; simp
  have e1 := bls_of 26 3 1 1 #[(0, .int .i64 yes)] #[.int .i64 yes] (by kernel_rfl) (by kernel_rfl) (by kernel_rfl) (by decide) (by decide) (by kernel_rfl) (by kernel_rfl) U
  have e2 := bls_of 26 3 2 1 #[(0, .int .i64 yes), (1, .int .i64 no)] #[.int .i64 yes, .int .i64 no] (by kernel_rfl) (by kernel_rfl) (by kernel_rfl) (by decide) (by decide) (by kernel_rfl) (by kernel_rfl) U
  have q1 := Lib.hid (show NxE ⟨.slice ao n cap, ins, last, reg, yes, no⟩ w (.returned (.slice (some ⟨w.heap.size + 1, 0, none⟩) 1 1)) (U.alloc (.cells #[.int .i64 yes] 3)) ∨ ¬ (last ≠ 3 ∧ (last = 1 ∨ yes = no)) from by
    by_cases h : last ≠ 3 ∧ (last = 1 ∨ yes = no)
    · refine .inl ⟨_, rfl, ?_, hb.alloc (by omega) _⟩
      have e : nextF ⟨.slice ao n cap, ins, last, reg, yes, no⟩ = [yes] := by unfold nextF; rw [if_neg h.1, if_pos h.2]
      rw [e]
      have h2 := (MapKept.heap_alloc U (.cells (intA [yes]) 3)).1; rw [hz] at h2; exact row_lit (W := w) (l := [yes]) h2 (by omega) 1
    · exact .inr h)
  have q2 := Lib.hid (show NxE ⟨.slice ao n cap, ins, last, reg, yes, no⟩ w (.returned (.slice (some ⟨w.heap.size + 1, 0, none⟩) 2 2)) (U.alloc (.cells #[.int .i64 yes, .int .i64 no] 3)) ∨ ¬ (last ≠ 3 ∧ ¬ (last = 1 ∨ yes = no)) from by
    by_cases h : last ≠ 3 ∧ ¬ (last = 1 ∨ yes = no)
    · refine .inl ⟨_, rfl, ?_, hb.alloc (by omega) _⟩
      have e : nextF ⟨.slice ao n cap, ins, last, reg, yes, no⟩ = [yes, no] := by unfold nextF; rw [if_neg h.1, if_neg h.2]
      rw [e]
      have h2 := (MapKept.heap_alloc U (.cells (intA [yes, no]) 3)).1; rw [hz] at h2; exact row_lit (W := w) (l := [yes, no]) h2 (by omega) 2
    · exact .inr h)
  have q3 := Lib.hid (show last = 3 → NxE ⟨.slice ao n cap, ins, last, reg, yes, no⟩ w (.returned (.slice none 0 0)) U from fun h => by
      have e : nextF ⟨.slice ao n cap, ins, last, reg, yes, no⟩ = [] := by unfold nextF; rw [if_pos h]
      exact ⟨_, rfl, by rw [e]; exact ⟨none, 0, rfl, fun h => by simp at h⟩, hb⟩)
  have HU := Lib.hid hU
  rw [hU] at e1 e2
  clear hb hz hU
  by_cases h3 : last = 3
  · have d3 : (last == 3) = true := by simpa using h3
    replace h3 := Lib.hid h3
    clear e1 e2 q1 q2
    go_enter Try.func15, Try.ntmps15
    go_wp2_with fail
    go_ret
    rw [← HU.out]
    exact q3.out h3.out
  · have d3 : (last == 3) = false := by simpa using h3
    replace h3 := Lib.hid h3
    clear q3
    by_cases h1 : last = 1
    · have d1 : (last == 1) = true := by simpa using h1
      replace h1 := Lib.hid h1
      clear e2 q2
      go_enter Try.func15, Try.ntmps15
      go_wp2_with fail
      go_ret
      rw [← HU.out]
      rcases q1.out with q | q
      · exact q
      · exact absurd ⟨h3.out, .inl h1.out⟩ q
    · have d1 : (last == 1) = false := by simpa using h1
      replace h1 := Lib.hid h1
      by_cases h2 : yes = no
      · have d2 : (yes == no) = true := by simpa using h2
        replace h2 := Lib.hid h2
        clear e2 q2
        go_enter Try.func15, Try.ntmps15
        go_wp2_with fail
        go_ret
        rw [← HU.out]
        rcases q1.out with q | q
        · exact q
        · exact absurd ⟨h3.out, .inr h2.out⟩ q
      · have d2 : (yes == no) = false := by simpa using h2
        replace h2 := Lib.hid h2
        clear e1 q1
        go_enter Try.func15, Try.ntmps15
        go_wp2_with fail
        go_ret
        rw [← HU.out]
        rcases q2.out with q | q
        · exact q
        · exact absurd ⟨h3.out, fun q => q.elim h1.out h2.out⟩ q

theorem endB_drop {l : List In} {k : Nat} {x : In} (hx : l[k]? = some x) (i : Bool) : endB (l.drop k) i = endB (l.drop (k + 1)) (if x.k = 13 then true else if x.k = 14 then false else i) := by
  obtain ⟨h, e⟩ := List.getElem?_eq_some_iff.1 hx
  rw [List.drop_eq_getElem_cons h, e, endB]
set_option maxHeartbeats 8000000 in
theorem ends_any (b : Bk) (i : Bool) (B : Nat) (w : World) (hI : BIn w B b) (hBw : B ≤ w.heap.size) : Calls Try.prog 20 #[.agg #[b.iv, .int .u8 b.last, .int .i64 b.reg, .int .i64 b.yes, .int .i64 b.no], .bool i] w fun e w' => e = .returned (.bool (endB b.ins i)) ∧ Below w.heap.size w w' := by
  obtain ⟨bo, bcp, eb, hbl, hbg⟩ := hI.lies.form
  have HL := Lib.hid hI.lies
  clear hI
  obtain ⟨iv, ins, last, reg, yes, no⟩ := b
  simp only at *
  subst eb
  obtain ⟨U, hU⟩ : ∃ U, U = w.alloc (.cells #[.slice bo ins.length bcp, .int .u8 last, .int .i64 reg, .int .i64 yes, .int .i64 no] 41) := ⟨_, rfl⟩
  have hBU : Below w.heap.size w U := by rw [hU]; exact below_box w _
  have hO : U.heap[w.heap.size]? = some (.cells #[.slice bo ins.length bcp, .int .u8 last, .int .i64 reg, .int .i64 yes, .int .i64 no] 41 (0, 0)) := by rw [hU]; exact (MapKept.heap_alloc _ _).1
  obtain ⟨p0, p1, p2, p3, p4⟩ := own5 hO
  have HLU := Lib.hid (HL.out.below (hBU.mono hBw))
  have HB := Lib.hid hBU
  have HU := Lib.hid hU
  have HG := Lib.hid hbg
  have hlU : w.heap.size < U.heap.size := by rw [hU]; simp
  have HZ := Lib.hid hlU
  rw [hU] at p0 p1 p2 p3 p4
  obtain ⟨N, hN⟩ : ∃ N, N = ins.length := ⟨_, rfl⟩
  rw [← hN] at p0 HU HG hbl ⊢
  have HN := Lib.hid hN
  rw [← hN] at p1 p2 p3 p4
  obtain ⟨Y, hY⟩ : ∃ Y, Y = endB ins i := ⟨_, rfl⟩
  rw [← hY]
  have HY := Lib.hid (show endB (ins.drop 0) i = Y from hY.symm)
  clear hBU hO hU hbg hN hlU hY
  go_enter Try.func20, Try.ntmps20
  go_wp2_with fail
  rw [← HU.out]
  clear p0 p1 p2 p3 p4
  go_loopw [1, 10] (fun o q wr => ∃ (k : Nat) (x : Bool), k ≤ N ∧ q = .int .i64 (k : Int) ∧ o = .bool x ∧ Below U.heap.size U wr ∧ Hid (endB (ins.drop k) x = Y)) (fun _ q _ => N - (intOf q).toNat)
  case atStart => exact ⟨0, i, Nat.zero_le _, rfl, rfl, Below.refl _ _, HY⟩
  case round =>
    obtain ⟨k, x, hk, rfl, rfl, hB, hD⟩ := hrel
    have hzr := hB.size
    have hd := hD.out
    by_cases hlk : k < N
    · have hkx : k < ins.length := by rw [← HN.out]; exact hlk
      obtain ⟨gi, offi, rfl, hgi⟩ := HG.out (by omega)
      have hati := ((HLU.out.below (hB.mono (by have := HZ.out; omega))).at rfl k hkx).2
      rw [endB_drop (List.getElem?_eq_getElem hkx)] at hd
      generalize ins[k] = j at hati hd
      obtain ⟨i0, i1, i2, i3, i4, i5⟩ := ic hati
      have hgiw : gi < wr.heap.size := by have := HZ.out; omega
      obtain ⟨W2, hW2⟩ : ∃ W2, W2 = wr.alloc (.cells #[.int .u8 j.k, .int .u8 j.o, .int .i64 j.a, .int .i64 j.b, .int .i64 j.c, .int .i64 j.n] 45) := ⟨_, rfl⟩
      have hb2 : Below wr.heap.size wr W2 := by rw [hW2]; exact below_box wr _
      have HB2 := Lib.hid (hB.trans (hb2.mono hzr))
      have hO2 : W2.heap[wr.heap.size]? = some (.cells #[.int .u8 j.k, .int .u8 j.o, .int .i64 j.a, .int .i64 j.b, .int .i64 j.c, .int .i64 j.n] 45 (0, 0)) := by rw [hW2]; exact (MapKept.heap_alloc _ _).1
      obtain ⟨y0, y1, y2, y3, y4, y5⟩ := own6 hO2
      have HW2 := Lib.hid hW2
      rw [hW2] at y0 y1 y2 y3 y4 y5
      have hwl : wr.heap.size < W2.heap.size := (Array.getElem?_eq_some_iff.1 hO2).1
      by_cases h13 : j.k = 13
      · have d13 : (j.k == 13) = true := by simpa using h13
        rw [if_pos h13] at hd
        have HDD := Lib.hid hd
        clear hB hD hd hati hW2 hb2 hO2 h13
        go_wp2_with fail
        rw [← HW2.out]
        go_roundw
        case rel => exact ⟨k + 1, true, hlk, by go_num, rfl, HB2.out, HDD⟩
        case measure => simp [intOf]; omega
      · have d13 : (j.k == 13) = false := by simpa using h13
        rw [if_neg h13] at hd
        by_cases h14 : j.k = 14
        · have d14 : (j.k == 14) = true := by simpa using h14
          rw [if_pos h14] at hd
          have HDD := Lib.hid hd
          clear hB hD hd hati hW2 hb2 hO2 h13 h14
          go_wp2_with fail
          rw [← HW2.out]
          go_roundw
          case rel => exact ⟨k + 1, false, hlk, by go_num, rfl, HB2.out, HDD⟩
          case measure => simp [intOf]; omega
        · have d14 : (j.k == 14) = false := by simpa using h14
          rw [if_neg h14] at hd
          have HDD := Lib.hid hd
          clear hB hD hd hati hW2 hb2 hO2 h13 h14
          go_wp2_with fail
          rw [← HW2.out]
          go_roundw
          case rel => exact ⟨k + 1, x, hlk, by go_num, rfl, HB2.out, HDD⟩
          case measure => simp [intOf]; omega
    · rw [show ins.drop k = [] from List.drop_eq_nil_of_le (by rw [← HN.out]; omega)] at hd
      have hxy : x = Y := hd
      have HE := Lib.hid (And.intro hxy (HB.out.trans (hB.mono (Nat.le_of_lt HZ.out))))
      clear hB hD hd hxy
      go_wp2_with fail
      go_ret
      exact ⟨by rw [HE.out.1]; rfl, HE.out.2⟩
end Go.Proofs.Ytgkjhnghibpeoaa
namespace Go.Proofs.Ytgkjhnghibpeoaa
open Go.RowKit
set_option maxRecDepth 1000000
attribute [local go_sem ↓] bld_eq bls_eq


/-- What Next answers. -/
def NxL (b : Bk) (w : World) (e : Ending) (w' : World) : Prop := ∃ v, e = .returned v ∧ RowAt w' w.heap.size v (nextL b) ∧ Below w.heap.size w w'
theorem nextL_len2 (b : Bk) : (nextL b).length ≤ 2 := by
  unfold nextL
  split
  · simp
  · split <;> simp
set_option maxHeartbeats 4000000 in
theorem lnextF_any (b : Bk) (w : World) (hv : ∃ ao n cap, b.iv = .slice ao n cap) : Calls Try.prog 11 #[.agg #[b.iv, .int .u8 b.last, .int .i64 b.reg, .int .i64 b.yes, .int .i64 b.no]] w (NxL b w) := by
  obtain ⟨ao, n, cap, eiv⟩ := hv
  obtain ⟨iv, ins, last, reg, yes, no⟩ := b
  simp only at *
  subst eiv
  obtain ⟨U, hU⟩ : ∃ U, U = w.alloc (.cells #[.slice ao n cap, .int .u8 last, .int .i64 reg, .int .i64 yes, .int .i64 no] 41) := ⟨_, rfl⟩
  obtain ⟨p0, p1, p2, p3, p4⟩ := own5 (MapKept.heap_alloc w (.cells #[.slice ao n cap, .int .u8 last, .int .i64 reg, .int .i64 yes, .int .i64 no] 41)).1
  have hb : Below w.heap.size w U := by rw [hU]; exact below_box w _
  have hz : U.heap.size = w.heap.size + 1 := by rw [hU]; simp
  have e1 := bls_of 26 3 1 1 #[(0, .int .i64 yes)] #[.int .i64 yes] (by kernel_rfl) (by kernel_rfl) (by kernel_rfl) (by decide) (by decide) (by kernel_rfl) (by kernel_rfl) U
  have e2 := bls_of 26 3 2 1 #[(0, .int .i64 yes), (1, .int .i64 no)] #[.int .i64 yes, .int .i64 no] (by kernel_rfl) (by kernel_rfl) (by kernel_rfl) (by decide) (by decide) (by kernel_rfl) (by kernel_rfl) U
  have q1 : last = 1 → NxL ⟨.slice ao n cap, ins, last, reg, yes, no⟩ w (.returned (.slice (some ⟨w.heap.size + 1, 0, none⟩) 1 1)) (U.alloc (.cells #[.int .i64 yes] 3)) := fun h => by
    refine ⟨_, rfl, ?_, hb.alloc (by omega) _⟩
    have e : nextL ⟨.slice ao n cap, ins, last, reg, yes, no⟩ = [yes] := by unfold nextL; rw [if_pos h]
    rw [e]
    have h2 := (MapKept.heap_alloc U (.cells (intA [yes]) 3)).1; rw [hz] at h2; exact row_lit (W := w) (l := [yes]) h2 (by omega) 1
  have q2 : last = 2 → NxL ⟨.slice ao n cap, ins, last, reg, yes, no⟩ w (.returned (.slice (some ⟨w.heap.size + 1, 0, none⟩) 2 2)) (U.alloc (.cells #[.int .i64 yes, .int .i64 no] 3)) := fun h => by
    refine ⟨_, rfl, ?_, hb.alloc (by omega) _⟩
    have e : nextL ⟨.slice ao n cap, ins, last, reg, yes, no⟩ = [yes, no] := by unfold nextL; rw [h]; rfl
    rw [e]
    have h2 := (MapKept.heap_alloc U (.cells (intA [yes, no]) 3)).1; rw [hz] at h2; exact row_lit (W := w) (l := [yes, no]) h2 (by omega) 2
  have q3 : last ≠ 1 → last ≠ 2 → NxL ⟨.slice ao n cap, ins, last, reg, yes, no⟩ w (.returned (.slice none 0 0)) U := fun h1 h2 => by
    have e : nextL ⟨.slice ao n cap, ins, last, reg, yes, no⟩ = [] := by unfold nextL; rw [if_neg h1, if_neg h2]
    exact ⟨_, rfl, by rw [e]; exact ⟨none, 0, rfl, fun h => by simp at h⟩, hb⟩
  have Q1 := Lib.hid q1
  have Q2 := Lib.hid q2
  have Q3 := Lib.hid q3
  have HU := Lib.hid hU
  rw [hU] at e1 e2
  clear hb hz hU q1 q2 q3
  by_cases h1 : last = 1
  · have d1 : (last == 1) = true := by simpa using h1
    replace h1 := Lib.hid h1
    clear e2
    go_enter Try.func11, Try.ntmps11
    go_wp2_with fail
    go_ret
    rw [← HU.out]
    exact Q1.out h1.out
  · have d1 : (last == 1) = false := by simpa using h1
    replace h1 := Lib.hid h1
    by_cases h2 : last = 2
    · have d2 : (last == 2) = true := by simpa using h2
      replace h2 := Lib.hid h2
      clear e1
      go_enter Try.func11, Try.ntmps11
      go_wp2_with fail
      go_ret
      rw [← HU.out]
      exact Q2.out h2.out
    · have d2 : (last == 2) = false := by simpa using h2
      replace h2 := Lib.hid h2
      clear e1 e2
      go_enter Try.func11, Try.ntmps11
      go_wp2_with fail
      go_ret
      rw [← HU.out]
      exact Q3.out h1.out h2.out
end Go.Proofs.Ytgkjhnghibpeoaa
