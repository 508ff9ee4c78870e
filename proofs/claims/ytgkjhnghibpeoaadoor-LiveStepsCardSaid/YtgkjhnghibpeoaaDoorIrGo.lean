/- The first spot that stands on the wrong side. -/
import Derived.Test.YtgkjhnghibpeoaaDoorRows
import Derived.Test.YtgkjhnghibpeoaaDoorIrBoth
import Derived.Test.YtgkjhnghibpeoaaDoorFlSize
import Derived.Test.YtgkjhnghibpeoaaDoorIrLeaf
import Derived.LoopTactic
import Derived.LoopN
import Derived.Deep.LoopGhost
import Derived.WalkKit
import Derived.WalkSpells
import Derived.WalkLawsBesides
import Derived.Lib.Hide
import Derived.Test.YtgkjhnghibpeoaaDoorIrNew
import Derived.Deep.AppendLies
import Derived.Laws.OwnMore
import Derived.Laws.MakeOwn
namespace Go.Proofs.YtgkjhnghibpeoaaDoor
open Go.RowKit
set_option maxRecDepth 100000
attribute [local go_sem ↓] bld_eq bls_eq

/-- What is said behind a block's instructions. -/
def misZ (B : List Nat) (n : Nat) (b : Bk) (l : List Bk) : Option Nat × Nat → Option (Nat × Nat)
  | (some k, _) => some (n, k)
  | (none, on) => if b.last = 3 ∧ on = 2 then some (n, b.ins.length) else misB B (n + 1) l
theorem misB_cons (B : List Nat) (n s : Nat) (b : Bk) (l : List Bk) (hs : (B[n]?).getD 0 = s) : misB B n (b :: l) = if s = 0 then misB B (n + 1) l else misZ B n b l (misI 0 s b.ins) := by
  subst hs
  rw [misB]
  generalize misI 0 ((B[n]?).getD 0) b.ins = Z
  obtain ⟨x, y⟩ := Z
  cases x <;> rfl
theorem misI_cons (k on : Nat) (i : In) (l : List In) : misI k on (i :: l) = if sideK i.k &&& on = 0 then (some k, on) else misI (k + 1) (behI i.k on) l := rfl
theorem sideK_of (k : Int) : sideK k = 1 ∨ sideK k = 2 ∨ sideK k = 3 := by
  unfold sideK
  split
  · exact .inr (.inl rfl)
  · split
    · exact .inl rfl
    · exact .inr (.inr rfl)
theorem behI_of (k : Int) {on : Nat} (h : on = 1 ∨ on = 2 ∨ on = 3) : behI k on = 1 ∨ behI k on = 2 ∨ behI k on = 3 := by
  unfold behI
  split
  · exact .inr (.inl rfl)
  · split
    · exact .inl rfl
    · exact h
set_option maxHeartbeats 16000000 in
theorem firstMisplaced_any (B : Nat) (g : Gr) (w : World) (gb n : Nat) (l : List Nat) (T : TypeId) (fr : Nat × Nat) (hI : GIn w B g) (hBw : B ≤ w.heap.size)
    (hl : w.heap[gb]? = some (.cells (l.map fun (s : Nat) => Value.int .u8 (s : Int)).toArray T fr)) (hn : n = l.length) (hnb : l.length = g.blocks.length) (hs3 : ∀ s ∈ l, s ≤ 3) (hn2 : n ≤ 4096) :
    Calls Tryd.prog 54 #[.agg #[g.rv, .int .i64 g.sites, g.bv], .slice (some ⟨gb, 0, none⟩) n n] w fun e w' => e = .returned (spotV (misB l 0 g.blocks)) ∧ Below w.heap.size w w' := by
  obtain ⟨Y, hY⟩ : ∃ Y, Y = misB l 0 g.blocks := ⟨_, rfl⟩
  rw [← hY]
  obtain ⟨ro, rc, er, -, -⟩ := hI.rlies.form
  obtain ⟨bo, bcp, eb, hbl, hbg⟩ := hI.blies.form
  have HBL := Lib.hid hI.blies
  have HBI := Lib.hid hI.blocks
  have hgs : gb < w.heap.size := (Array.getElem?_eq_some_iff.1 hl).1
  clear hI
  obtain ⟨rv, refs, sites, bv, blocks⟩ := g
  simp only at *
  subst er eb
  obtain ⟨N1, hN1⟩ : ∃ N, N = refs.length := ⟨_, rfl⟩
  obtain ⟨N2, hN2⟩ : ∃ N, N = blocks.length := ⟨_, rfl⟩
  have hnn : n = N2 := by omega
  subst hnn
  rw [← hN1, ← hN2]
  rw [← hN2] at hbl hbg HBL
  obtain ⟨W1, hW1⟩ : ∃ W1, W1 = w.alloc (.cells #[.slice ro N1 rc, .int .i64 sites, .slice bo n bcp] 25) := ⟨_, rfl⟩
  have hz1 : W1.heap.size = w.heap.size + 1 := by rw [hW1]; simp
  have hB1 : Below w.heap.size w W1 := by rw [hW1]; exact below_box w _
  have hO1 : W1.heap[w.heap.size]? = some (.cells #[.slice ro N1 rc, .int .i64 sites, .slice bo n bcp] 25 (0, 0)) := by rw [hW1]; exact (MapKept.heap_alloc _ _).1
  obtain ⟨W0, hW0⟩ : ∃ W0, W0 = W1.alloc (.cells #[.int .i64 0, .int .i64 0] 41) := ⟨_, rfl⟩
  have hz0 : W0.heap.size = w.heap.size + 2 := by rw [hW0]; simp [hz1]
  have hB0 : Below w.heap.size w W0 := by rw [hW0]; exact hB1.alloc (by omega) _
  have hO0 : W0.heap[w.heap.size]? = some (.cells #[.slice ro N1 rc, .int .i64 sites, .slice bo n bcp] 25 (0, 0)) := by rw [hW0, Below.heap_alloc _ _ _ (by omega)]; exact hO1
  have hS0 : W0.heap[w.heap.size + 1]? = some (.cells #[.int .i64 0, .int .i64 0] 41 (0, 0)) := by rw [hW0, ← hz1]; exact (MapKept.heap_alloc _ _).1
  obtain ⟨q0, q1, q2⟩ := own3 hO0
  rw [hW0, hW1] at q0 q1 q2
  have HL := Lib.hid ((hB0.block gb hgs).trans hl)
  have HN := Lib.hid hN2
  have HLN := Lib.hid hn
  have HS3 := Lib.hid hs3
  have HG2 := Lib.hid hbg
  have HY := Lib.hid hY
  have HB0 := Lib.hid hB0
  have HZ0 := Lib.hid hz0
  have HS0 := Lib.hid hS0
  have HW0 := Lib.hid (hW1 ▸ hW0)
  have e0 := fun (x y : Int) => bld_of 41 #[(0, .int .i64 x), (1, .int .i64 y)] #[.int .i64 x, .int .i64 y] (by kernel_rfl)
  have e1 := bld_of 41 #[] #[.int .i64 0, .int .i64 0] (by kernel_rfl)
  clear hl hN1 hN2 hbg hB0 hB1 hO1 hO0 hS0 hW0 hW1 hz0 hz1 hY hn hnb hs3
  go_enter Tryd.func54, Tryd.ntmps54
  go_wp2_with fail
  rw [← HW0.out]
  clear q0 q1 q2
  go_loopw [14] (fun q wr => ∃ p : Nat, p ≤ n ∧ q = .int .i64 p ∧ Below W0.heap.size W0 wr ∧ Hid (misB l p (blocks.drop p) = Y)) (fun q _ => n - (intOf q).toNat)
  case atStart => exact ⟨0, Nat.zero_le _, rfl, Below.refl _ _, Lib.hid HY.out.symm⟩
  case round =>
    obtain ⟨p, hp, rfl, hB, hD⟩ := hrel
    rename World => U
    have hzU := hB.size
    have hz0 := HZ0.out
    have hBw' : Below w.heap.size w U := HB0.out.trans (hB.mono (by omega))
    have hOU := (hB.block (w.heap.size + 1) (by omega)).trans HS0.out
    have f0 := Lib.frozen_of_heap hOU 0
    have f1 := Lib.frozen_of_heap hOU 1
    obtain ⟨s0, s1⟩ := own2 hOU
    by_cases hlt : p < n
    · have hpx : p < blocks.length := by rw [← HN.out]; exact hlt
      have hpl : p < l.length := by rw [← HLN.out]; exact hlt
      obtain ⟨g0, off, rfl, hg0⟩ := HG2.out (by omega)
      have hat := ((HBL.out.below (hBw'.mono hBw)).at rfl p hpx).2
      have hbi := HBI.out _ (List.getElem_mem hpx)
      have hd := hD.out
      rw [List.drop_eq_getElem_cons hpx, misB_cons l p l[p] _ _ (by rw [List.getElem?_eq_getElem hpl]; rfl)] at hd
      have hsp := HS3.out _ (List.getElem_mem hpl)
      have c0 := side_cell ((hB.block gb (by omega)).trans HL.out) p hpl
      generalize hbb : blocks[p] = b at hat hbi hd
      generalize l[p] = s at hd c0 hsp
      obtain ⟨io, icap, eiv, hilen, hig⟩ := hbi.lies.form
      have hilies := hbi.lies.below (hBw'.mono hBw)
      obtain ⟨m, hm⟩ : ∃ m, m = b.ins.length := ⟨_, rfl⟩
      rw [← hm] at eiv hilen hig
      obtain ⟨p0, p1, p2, p3, p4⟩ := bc hat
      rw [eiv] at p0 hilies
      have hg0U : g0 < U.heap.size := by omega
      have hgbU : gb < U.heap.size := by omega
      obtain ⟨U1, hU1⟩ : ∃ U1, U1 = U.alloc (.cells #[.slice io m icap, .int .u8 b.last, .int .i64 b.reg, .int .i64 b.yes, .int .i64 b.no] 36) := ⟨_, rfl⟩
      have hBU : Below U.heap.size U U1 := by rw [hU1]; exact below_box U _
      have hBX : U1.heap[U.heap.size]? = some (.cells #[.slice io m icap, .int .u8 b.last, .int .i64 b.reg, .int .i64 b.yes, .int .i64 b.no] 36 (0, 0)) := by rw [hU1]; exact (MapKept.heap_alloc _ _).1
      have HIL := Lib.hid hilies
      have HM := Lib.hid hm
      have HIG := Lib.hid hig
      have HBX := Lib.hid hBX
      have HU1 := Lib.hid hU1
      have HBU := Lib.hid hBU
      have HUU := Lib.hid (hB.trans (hBU.mono hzU))
      have HZU := Lib.hid (show U1.heap.size = U.heap.size + 1 by rw [hU1]; simp)
      by_cases hs : s = 0
      · subst hs
        rw [if_pos rfl] at hd
        have HD := Lib.hid hd
        clear hB hBw' hOU hat hbi hd hbb eiv hilies hm hig hBU hBX hU1 hD f0 f1 s0 s1
        go_wp2_with fail
        rw [← HU1.out]
        go_roundw
        case rel => exact ⟨p + 1, hlt, by go_num, HUU.out, HD⟩
        case measure => simp [intOf]; omega
      · rw [if_neg hs] at hd
        have hon : s = 1 ∨ s = 2 ∨ s = 3 := by omega
        have HD := Lib.hid hd
        have hs2 : (((s : Nat) : Int) == 0) = false := by simp only [beq_eq_false_iff_ne, ne_eq]; omega
        have HON := Lib.hid hon
        clear hB hBw' hOU hat hbi hd hbb eiv hilies hm hig hBU hBX hU1 hD f0 f1 s0 s1 hs hon
        go_wp2_with fail
        rw [← HU1.out]
        clear c0 hs2
        go_loopw [8, 28] (fun o q wr => ∃ k on : Nat, k ≤ m ∧ q = .int .i64 k ∧ o = .int .u8 (on : Int) ∧ Hid (on = 1 ∨ on = 2 ∨ on = 3) ∧ Below U1.heap.size U1 wr ∧ Hid (misZ l p b (blocks.drop (p + 1)) (misI k on (b.ins.drop k)) = Y)) (fun _ q _ => m - (intOf q).toNat)
        case atStart => exact ⟨0, s, Nat.zero_le _, rfl, rfl, HON, Below.refl _ _, HD⟩
        case round =>
          obtain ⟨k, on, hk, rfl, rfl, HO, hB2, hD2⟩ := hrel
          have hz2 := hB2.size
          have hzU := HZU.out
          have hBW := HUU.out.trans (hB2.mono (by have := HUU.out.size; omega))
          have hUW : Below U.heap.size U wr := HBU.out.trans (hB2.mono (by omega))
          have hSS := (hBW.block (w.heap.size + 1) (by omega)).trans HS0.out
          obtain ⟨x0, x1, x2, x3, x4⟩ := own5 ((hB2.block U.heap.size (by omega)).trans HBX.out)
          have hd2 := hD2.out
          by_cases hlk : k < m
          · have hkx : k < b.ins.length := by rw [← HM.out]; exact hlk
            obtain ⟨gi, offi, rfl, hgi⟩ := HIG.out (by omega)
            have hati := ((HIL.out.below (hUW.mono (by omega))).at rfl k hkx).2
            rw [List.drop_eq_getElem_cons hkx, misI_cons] at hd2
            generalize b.ins[k] = i at hati hd2
            obtain ⟨i0, i1, i2, i3, i4, i5⟩ := ic hati
            have hgiw : gi < wr.heap.size := by omega
            have hwr : w.heap.size + 1 < wr.heap.size := by omega
            obtain ⟨W2, hW2⟩ : ∃ W2, W2 = wr.alloc (.cells #[.int .u8 i.k, .int .u8 i.o, .int .i64 i.a, .int .i64 i.b, .int .i64 i.c, .int .i64 i.n] 46) := ⟨_, rfl⟩
            have hb2 : Below wr.heap.size wr W2 := by rw [hW2]; exact below_box wr _
            have hI2 : W2.heap[wr.heap.size]? = some (.cells #[.int .u8 i.k, .int .u8 i.o, .int .i64 i.a, .int .i64 i.b, .int .i64 i.c, .int .i64 i.n] 46 (0, 0)) := by rw [hW2]; exact (MapKept.heap_alloc _ _).1
            have hz3 := hb2.size
            have hzw : W2.heap.size = wr.heap.size + 1 := by rw [hW2]; simp
            have hSS2 := (hb2.block (w.heap.size + 1) (by omega)).trans hSS
            have HSS2 := Lib.hid hSS2
            have HBW2 := Lib.hid (hBW.trans (hb2.mono (by omega)))
            have HB2 := Lib.hid (hB2.trans (hb2.mono (by omega)))
            have HI2 := Lib.hid hI2
            obtain ⟨y0, y1, y2, y3, y4, y5⟩ := own6 hI2
            have HW2 := Lib.hid hW2
            have HO := HO
            have HDD := Lib.hid hd2
            clear hB2 hD2 hati hd2 hW2 hI2 hb2 hSS hSS2 hUW hBW x0 x1 x2 x3 x4
            rw [HW2.out] at y0 y1 y2 y3 y4 y5
            have hwr2 : wr.heap.size < W2.heap.size := by omega
            go_wp2_with fail
            rw [← HW2.out]
            clear y0 y1 y2 y3 y4 y5
            obtain ⟨y0, y1, y2, y3, y4, y5⟩ := own6 HI2.out
            have f0 := Lib.frozen_of_heap HSS2.out 0
            have f1 := Lib.frozen_of_heap HSS2.out 1
            obtain ⟨s0, s1⟩ := own2 HSS2.out
            refine (insSide_any i.k _).mono ?_; rintro e w5 ⟨rfl, rfl⟩
            by_cases hz : sideK i.k &&& on = 0
            · have hcomb : (sideK i.k = 1 ∧ on = 2) ∨ (sideK i.k = 2 ∧ on = 1) := by
                rcases sideK_of i.k with h | h | h <;> rcases HO.out with h' | h' | h' <;> (rw [h, h'] at hz ⊢; revert hz; decide)
              have HYY := Lib.hid (show Y = some (p, k) by rw [← HDD.out, if_pos hz]; rfl)
              clear hz
              rcases hcomb with ⟨h, rfl⟩ | ⟨h, rfl⟩
              all_goals
                rw [h]
                clear h
                go_wp2_with fail
                refine bodyPost_ret (v := .tuple #[.agg #[.int .i64 (p : Int), .int .i64 (k : Int)], .bool true]) (results_spot (p := 4) (u := 5) rfl _ _ (w.heap.size + 1) _ _ _ rfl rfl (put2 HSS2.out _ _)) rfl ?_
                exact ⟨by rw [HYY.out]; rfl, ((HB0.out.trans (HBW2.out.mono (by omega))).setCell (by show w.heap.size ≤ w.heap.size + 1; omega) _).setCell (by show w.heap.size ≤ w.heap.size + 1; omega) _⟩
            · have HZ2 := Lib.hid (show misZ l p b (blocks.drop (p + 1)) (misI (k + 1) (behI i.k on) (b.ins.drop (k + 1))) = Y by rw [← HDD.out, if_neg hz])
              have HON2 := Lib.hid (behI_of i.k HO.out)
              have HBH := Lib.hid (fun u => behind_any i on u)
              rcases HO.out with rfl | rfl | rfl <;> rcases sideK_of i.k with h | h | h
              all_goals first
                | exact absurd (by rw [h]; rfl) hz
                | (rw [h]
                   clear h hz f0 f1 s0 s1
                   go_wp2_with fail
                   refine (HBH.out _).mono ?_; rintro e w6 ⟨rfl, hb6⟩
                   have HB6 := Lib.hid (HB2.out.trans (hb6.mono (by have := HB2.out.size; omega)))
                   clear hb6 y0 y1 y2 y3 y4 y5
                   go_wp2_with fail
                   go_roundw
                   case rel => exact ⟨k + 1, _, hlk, by go_num, rfl, HON2, HB6.out, HZ2⟩
                   case measure => simp [intOf]; omega)
          · rw [show b.ins.drop k = [] from List.drop_eq_nil_of_le (by rw [← HM.out]; omega)] at hd2
            have hd3 : (if b.last = 3 ∧ on = 2 then some (p, b.ins.length) else misB l (p + 1) (blocks.drop (p + 1))) = Y := hd2
            rw [← HM.out] at hd3
            have HDD := Lib.hid hd3
            have HB9 := Lib.hid hBW
            have HSS := Lib.hid hSS
            have hwr : w.heap.size + 1 < wr.heap.size := by omega
            have hUr : U.heap.size < wr.heap.size := by omega
            have f0 := Lib.frozen_of_heap hSS 0
            have f1 := Lib.frozen_of_heap hSS 1
            obtain ⟨s0, s1⟩ := own2 hSS
            clear hB2 hD2 hd2 hd3 hUW hBW hSS
            by_cases h3 : b.last = 3
            · by_cases h2 : on = 2
              · have HYY := Lib.hid (show Y = some (p, m) by rw [← HDD.out, if_pos ⟨h3, h2⟩])
                have hb3 : (b.last == 3) = true := by rw [h3]; rfl
                subst h2
                clear h3
                go_wp2_with fail
                refine bodyPost_ret (v := .tuple #[.agg #[.int .i64 (p : Int), .int .i64 (m : Int)], .bool true]) (results_spot (p := 4) (u := 5) rfl _ _ (w.heap.size + 1) _ _ _ rfl rfl (put2 HSS.out _ _)) rfl ?_
                exact ⟨by rw [HYY.out]; rfl, ((HB0.out.trans (HB9.out.mono (by omega))).setCell (by show w.heap.size ≤ w.heap.size + 1; omega) _).setCell (by show w.heap.size ≤ w.heap.size + 1; omega) _⟩
              · have HYY := Lib.hid (show misB l (p + 1) (blocks.drop (p + 1)) = Y by rw [← HDD.out, if_neg (fun q => h2 q.2)])
                have hb3 : (b.last == 3) = true := by rw [h3]; rfl
                have hb2 : (((on : Nat) : Int) == 2) = false := by simp only [beq_eq_false_iff_ne, ne_eq]; omega
                clear h3 h2 f0 f1 s0 s1
                go_wp2_with fail
                go_roundw
                case rel => exact ⟨p + 1, hlt, by go_num, HB9.out, HYY⟩
                case measure => simp [intOf]; omega
            · have HYY := Lib.hid (show misB l (p + 1) (blocks.drop (p + 1)) = Y by rw [← HDD.out, if_neg (fun q => h3 q.1)])
              have hb3 : (b.last == 3) = false := by simp only [beq_eq_false_iff_ne, ne_eq]; exact h3
              clear h3 f0 f1 s0 s1
              go_wp2_with fail
              go_roundw
              case rel => exact ⟨p + 1, hlt, by go_num, HB9.out, HYY⟩
              case measure => simp [intOf]; omega
    · have hz := hD.out
      rw [List.drop_eq_nil_of_le (by rw [← HN.out]; omega)] at hz
      have HYY := Lib.hid (show Y = none from hz.symm)
      have HB9 := Lib.hid hB
      have HOU := Lib.hid hOU
      have hwr : w.heap.size + 1 < U.heap.size := by omega
      clear hB hD hz hBw' hOU
      go_wp2_with fail
      refine bodyPost_ret (v := .tuple #[.agg #[.int .i64 0, .int .i64 0], .bool false]) (results_spot (p := 4) (u := 5) rfl _ _ (w.heap.size + 1) _ _ _ rfl rfl (put2 HOU.out _ _)) rfl ?_
      exact ⟨by rw [HYY.out]; rfl, ((HB0.out.trans (HB9.out.mono (by omega))).setCell (by show w.heap.size ≤ w.heap.size + 1; omega) _).setCell (by show w.heap.size ≤ w.heap.size + 1; omega) _⟩
end Go.Proofs.YtgkjhnghibpeoaaDoor
namespace Go.Proofs.YtgkjhnghibpeoaaDoor
open Go.RowKit
set_option maxRecDepth 100000

def sidesA (l : List Nat) : Array Value := (l.map fun (s : Nat) => Value.int .u8 (s : Int)).toArray
def wayC (x : Nat × Nat) : List Value := [.int .i64 (x.1 : Int), .int .u8 (x.2 : Int)]
def rowS (S : List (Nat × Nat)) : List Value := S.reverse.flatMap wayC
theorem rowS_cons (x : Nat × Nat) (S : List (Nat × Nat)) : rowS (x :: S) = rowS S ++ wayC x := by simp [rowS, List.flatMap_append]
theorem rowS_len : ∀ S : List (Nat × Nat), (rowS S).length = S.length * 2 := by
  intro S
  induction S with
  | nil => rfl
  | cons x S ih => rw [rowS_cons, List.length_append, ih]; simp [wayC]; omega
def bitsN : List Nat → Nat
  | [] => 0
  | s :: l => (if s &&& 1 = 0 then 0 else 1) + (if s &&& 2 = 0 then 0 else 1) + bitsN l
theorem bitsN_le : ∀ l, bitsN l ≤ 2 * l.length := by
  intro l
  induction l with
  | nil => exact Nat.le_refl _
  | cons s l ih =>
    simp only [bitsN, List.length_cons]
    have : (if s &&& 1 = 0 then 0 else 1) ≤ 1 := by split <;> omega
    have : (if s &&& 2 = 0 then 0 else 1) ≤ 1 := by split <;> omega
    omega
theorem bits_more {s on : Nat} (hs : s ≤ 3) (hon : on = 1 ∨ on = 2) (hz : s &&& on = 0) :
    (if (s ||| on) &&& 1 = 0 then 0 else 1) + (if (s ||| on) &&& 2 = 0 then 0 else 1) = (if s &&& 1 = 0 then 0 else 1) + (if s &&& 2 = 0 then 0 else 1) + 1 := by
  have h : s = 0 ∨ s = 1 ∨ s = 2 ∨ s = 3 := by omega
  rcases h with rfl | rfl | rfl | rfl <;> rcases hon with rfl | rfl <;> first | rfl | (revert hz; decide)
theorem or_le {s on : Nat} (hs : s ≤ 3) (hon : on = 1 ∨ on = 2) : s ||| on ≤ 3 := by
  have h : s = 0 ∨ s = 1 ∨ s = 2 ∨ s = 3 := by omega
  rcases h with rfl | rfl | rfl | rfl <;> rcases hon with rfl | rfl <;> decide
theorem bitsN_set {on : Nat} (hon : on = 1 ∨ on = 2) : ∀ (l : List Nat) (t s : Nat), l[t]? = some s → s ≤ 3 → s &&& on = 0 → bitsN (l.set t (s ||| on)) = bitsN l + 1 := by
  intro l
  induction l with
  | nil => intro t s h; simp at h
  | cons a l ih =>
    intro t s h hs hz
    cases t with
    | zero =>
      simp at h; subst h
      have := bits_more hs hon hz
      simp only [List.set_cons_zero, bitsN]
      omega
    | succ t =>
      simp at h
      have := ih t s h hs hz
      simp only [List.set_cons_succ, bitsN]
      omega
/-- What is so of the work that is left. -/
structure Left (bl : List Bk) (Y : List Nat) (n f : Nat) (B : List Nat) (S : List (Nat × Nat)) : Prop where
  gives : goS bl f B S = Y
  len : B.length = n
  small : ∀ s ∈ B, s ≤ 3
  ways : ∀ x ∈ S, x.1 < n ∧ (x.2 = 1 ∨ x.2 = 2)
  fuel : 6 * n + S.length ≤ f + 3 * bitsN B
  most : f ≤ 6 * n + 1
theorem Left.done {bl : List Bk} {Y : List Nat} {n f : Nat} {B : List Nat} (h : Left bl Y n f B []) : B = Y := by
  have := h.gives
  cases f <;> exact this
theorem Left.more {bl : List Bk} {Y : List Nat} {n f : Nat} {B : List Nat} {x : Nat × Nat} {S : List (Nat × Nat)} (h : Left bl Y n f B (x :: S)) : ∃ f', f = f' + 1 := by
  have h1 := h.fuel
  have h2 := bitsN_le B
  rw [h.len] at h2
  simp only [List.length_cons] at h1
  exact ⟨f - 1, by omega⟩
theorem Left.short {bl : List Bk} {Y : List Nat} {n f : Nat} {B : List Nat} {S : List (Nat × Nat)} (h : Left bl Y n f B S) : S.length ≤ 6 * n + 1 := by
  have h1 := h.fuel
  have h2 := bitsN_le B
  have h3 := h.most
  rw [h.len] at h2
  omega
theorem Left.skip {bl : List Bk} {Y : List Nat} {n f t on s : Nat} {B : List Nat} {S : List (Nat × Nat)} (h : Left bl Y n (f + 1) B ((t, on) :: S)) (hs : B[t]? = some s) (hz : ¬ s &&& on = 0) : Left bl Y n f B S := by
  have h1 := h.fuel
  simp only [List.length_cons] at h1
  refine ⟨?_, h.len, h.small, fun x hx => h.ways x (List.mem_cons_of_mem _ hx), by omega, by have := h.most; omega⟩
  have := h.gives
  rw [goS, hs, Option.getD_some, if_neg hz] at this
  exact this
/-- The ways behind a block. -/
def waysB (b : Bk) (on : Nat) : List (Nat × Nat) := (nextL b).map fun y => (y.toNat, behL b.ins on)
theorem behL_of : ∀ (l : List In) {on : Nat}, on = 1 ∨ on = 2 → behL l on = 1 ∨ behL l on = 2 := by
  intro l
  induction l with
  | nil => intro on h; exact h
  | cons i l ih =>
    intro on h
    rw [behL]
    refine ih ?_
    unfold behI
    split
    · exact .inr rfl
    · split
      · exact .inl rfl
      · exact h
theorem nextL_len (b : Bk) : (nextL b).length ≤ 2 := by
  unfold nextL
  split
  · simp
  · split <;> simp
theorem Left.step {bl : List Bk} {Y : List Nat} {n f t on s : Nat} {B : List Nat} {S : List (Nat × Nat)} {b : Bk} (h : Left bl Y n (f + 1) B ((t, on) :: S)) (hs : B[t]? = some s) (hz : s &&& on = 0) (hb : bl[t]? = some b)
    (hy : ∀ y ∈ nextL b, 0 ≤ y ∧ y < (n : Int)) : Left bl Y n f (B.set t (s ||| on)) ((waysB b on).reverse ++ S) := by
  have h1 := h.fuel
  simp only [List.length_cons] at h1
  have hon := (h.ways _ (List.mem_cons_self ..)).2
  have hm := h.small s (List.mem_of_getElem? hs)
  have hb1 := bitsN_set hon B t s hs hm hz
  have hl := nextL_len b
  refine ⟨?_, by rw [List.length_set]; exact h.len, ?_, ?_, ?_, by have := h.most; omega⟩
  · have := h.gives
    rw [goS, hs, Option.getD_some, if_pos hz, hb] at this
    exact this
  · intro x hx
    rcases List.mem_or_eq_of_mem_set hx with hx | rfl
    · exact h.small x hx
    · exact or_le hm hon
  · intro x hx
    rcases List.mem_append.1 hx with hx | hx
    · rw [List.mem_reverse, waysB, List.mem_map] at hx
      obtain ⟨y, hy1, rfl⟩ := hx
      have := hy y hy1
      exact ⟨by simp only; omega, behL_of _ hon⟩
    · exact h.ways x (List.mem_cons_of_mem _ hx)
  · rw [List.length_append, List.length_reverse, waysB, List.length_map, hb1]
    omega

/-- How it lies in the world: the graph in a box, the sides, the ways. -/
structure BgAt (w : World) (o : Array Value) (v : Value) (B : List Nat) (S : List (Nat × Nat)) (wr : World) : Prop where
  below : Below w.heap.size w wr
  box : wr.heap[w.heap.size]? = some (.cells o 25 (0, 0))
  sides : wr.heap[w.heap.size + 1]? = some (.cells (sidesA B) 106 (0, 0))
  row : wr.ownsRow (w.heap.size + 2) 108 2 v S.length (rowS S)
theorem BgAt.size {w wr : World} {o : Array Value} {v : Value} {B : List Nat} {S : List (Nat × Nat)} (h : BgAt w o v B S wr) : w.heap.size + 1 < wr.heap.size := (Array.getElem?_eq_some_iff.1 h.sides).1
theorem BgAt.keeps {w wr wr' : World} {o : Array Value} {v : Value} {B : List Nat} {S : List (Nat × Nat)} (h : BgAt w o v B S wr) (hb : Below wr.heap.size wr wr') : BgAt w o v B S wr' := by
  have hz := h.size
  refine ⟨h.below.trans (hb.mono (by omega)), (hb.block _ (by omega)).trans h.box, (hb.block _ hz).trans h.sides, h.row.kept (row := none) ⟨hb.os, hb.tape, hb.output, hb.size, fun k hk _ => hb.block k hk⟩ ?_⟩
  cases hv : v.ownBlock <;> simp
theorem BgAt.grown {w wr wr' : World} {o : Array Value} {v v' : Value} {B : List Nat} {S S' : List (Nat × Nat)} (h : BgAt w o v B S wr) (hr : wr'.ownsRow (w.heap.size + 2) 108 2 v' S'.length (rowS S')) (hg : wr.grownBy wr' v.ownBlock) : BgAt w o v' B S' wr' := by
  have hz := h.size
  have hlo := h.row.lt
  have hne : ∀ k, k < w.heap.size + 2 → some k ≠ v.ownBlock := fun k hk e => by have := (hlo k e.symm).1; omega
  have hbl : ∀ k, k < w.heap.size + 2 → wr'.heap[k]? = wr.heap[k]? := fun k hk => hg.block k (by omega) (hne k hk)
  refine ⟨h.below.trans ⟨hg.os, hg.tape, hg.output, hg.size, fun k hk => hbl k (by omega)⟩ |> fun q => ?_, (hbl _ (by omega)).trans h.box, (hbl _ (by omega)).trans h.sides, hr⟩
  exact q
theorem BgAt.form {w wr : World} {o : Array Value} {v : Value} {B : List Nat} {S : List (Nat × Nat)} (h : BgAt w o v B S wr) : ∃ p c, v = .slice p S.length c := by
  rcases h.row.2 with ⟨rfl, h0⟩ | ⟨g, cap, cur, rfl, _⟩
  · exact ⟨none, 0, by rw [h0]⟩
  · exact ⟨_, _, rfl⟩
theorem BgAt.pop {w wr : World} {o : Array Value} {v : Value} {B : List Nat} {S : List (Nat × Nat)} {t on : Nat} (h : BgAt w o v B ((t, on) :: S) wr) :
    ∃ g cap, v = .slice (some ⟨g, 0, none⟩) (S.length + 1) cap ∧ g < wr.heap.size ∧ S.length + 1 ≤ cap ∧ cap ≤ maxLen ∧ wr.cell? ⟨g, S.length * 2, none⟩ = some (.int .i64 (t : Int)) ∧ wr.cell? ⟨g, S.length * 2 + 1, none⟩ = some (.int .u8 (on : Int)) ∧
      BgAt w o (.slice (some ⟨g, 0, none⟩) S.length cap) B S wr := by
  have hl := rowS_len S
  rcases h.row.2 with ⟨_, h0⟩ | ⟨g, cap, cur, rfl, hb, hg, hn, hm, hs, ht⟩
  · simp at h0
  simp only [List.length_cons] at hn ht
  have hc : ∀ j u, (wayC (t, on))[j]? = some u → wr.cell? ⟨g, S.length * 2 + j, none⟩ = some u := fun j u hu => by
    have hj : j < 2 := by
      rcases Nat.lt_or_ge j 2 with q | q
      · exact q
      · rw [List.getElem?_eq_none (by simp [wayC]; exact q)] at hu; cases hu
    rw [cell_of_row wr g _ cur _ (0, 0) hg, ← Array.getElem?_toList]
    have : (cur.toList.take ((S.length + 1) * 2))[S.length * 2 + j]? = some u := by rw [ht, rowS_cons, List.getElem?_append, if_neg (by omega), hl, Nat.add_sub_cancel_left]; exact hu
    rw [List.getElem?_take, if_pos (by omega)] at this
    exact this
  refine ⟨g, cap, rfl, (Array.getElem?_eq_some_iff.1 hg).1, hn, hm, hc 0 _ rfl, hc 1 _ rfl, h.below, h.box, h.sides, hl, .inr ⟨g, cap, cur, rfl, hb, hg, by omega, hm, hs, ?_⟩⟩
  have : (cur.toList.take ((S.length + 1) * 2)).take (S.length * 2) = rowS S := by rw [ht, rowS_cons, List.take_append_of_le_length (by omega), List.take_of_length_le (by omega)]
  rw [List.take_take, Nat.min_eq_left (by omega)] at this
  exact this
theorem BgAt.set {w wr : World} {o : Array Value} {v : Value} {B : List Nat} {S : List (Nat × Nat)} (h : BgAt w o v B S wr) (t x : Nat) : BgAt w o v (B.set t x) S (wr.setCell ⟨w.heap.size + 1, t, none⟩ (.int .u8 (x : Int))) := by
  have hlo := h.row.lt
  refine ⟨h.below.setCell (by show w.heap.size ≤ w.heap.size + 1; omega) _, ?_, ?_, h.row.kept (row := some (w.heap.size + 1)) ⟨rfl, rfl, rfl, by simp [World.setCell], fun k hk hne => Below.heap_setCell _ _ _ _ (by rintro rfl; exact hne rfl)⟩ ?_⟩
  · rw [Below.heap_setCell _ _ _ _ (by show w.heap.size ≠ w.heap.size + 1; omega)]; exact h.box
  · rw [heap_setCell_same wr _ t _ _ _ h.sides]
    unfold sidesA
    simp [List.map_set]
  · cases hv : v.ownBlock with
    | none => exact .inl rfl
    | some k => exact .inr (fun e => by have := (hlo k hv).1; cases e; omega)
theorem BgAt.side {w wr : World} {o : Array Value} {v : Value} {B : List Nat} {S : List (Nat × Nat)} (h : BgAt w o v B S wr) {t s : Nat} (ht : B[t]? = some s) : wr.cell? ⟨w.heap.size + 1, t, none⟩ = some (.int .u8 (s : Int)) := by
  rw [Lib.cell_of_heap h.sides]
  unfold sidesA
  simp [ht]
end Go.Proofs.YtgkjhnghibpeoaaDoor
