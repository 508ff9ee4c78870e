/- The blocks to which one leads; the side on which one ends. -/
import Derived.Test.YtgkjhnghibpeoaaDoorRows
import Derived.Test.YtgkjhnghibpeoaaDoorLvBack
import Derived.Test.YtgkjhnghibpeoaaDoorIrLeaf
import Derived.Test.YtgkjhnghibpeoaaDoorIrNew
import Derived.Test.YtgkjhnghibpeoaaDoorParseOrder
import Derived.LoopTactic
import Derived.LoopN
import Derived.Deep.LoopGhost
import Derived.WalkKit
import Derived.WalkSpells
import Derived.WalkLawsBesides
import Derived.Lib.Hide
import Derived.OrdersHeld
import Derived.Deep.RegionHeld
import Derived.Deep.DrawnRows
import Derived.RegionTactic
import Derived.Deep.RegionHeld3
import Derived.IntWalk
import Derived.Deep.QuietTactic
import Derived.BigQuiet
namespace Go.Proofs.YtgkjhnghibpeoaaDoor
open Go.RowKit
set_option maxRecDepth 1000000
attribute [local go_sem ↓] bld_eq bls_eq


/-- What next answers. -/
def NxE (b : Bk) (w : World) (e : Ending) (w' : World) : Prop := ∃ v, e = .returned v ∧ RowAt w' w.heap.size v (nextF b) ∧ Below w.heap.size w w'
theorem row_lit {W w' : World} {g : Nat} {l : List Int} {T : TypeId} {fr : Nat × Nat} (h : w'.heap[g]? = some (.cells (intA l) T fr)) (hg : W.heap.size ≤ g) (cap : Nat) : RowAt w' W.heap.size (.slice (some ⟨g, 0, none⟩) l.length cap) l :=
  ⟨_, _, rfl, fun _ => ⟨g, 0, rfl, hg, (Array.getElem?_eq_some_iff.1 h).1, fun k x hx => by rw [Nat.zero_add]; exact intA_at h hx⟩⟩
set_option maxHeartbeats 4000000 in
theorem fnext_any (b : Bk) (w : World) (hv : ∃ ao n cap, b.iv = .slice ao n cap) : Calls Tryd.prog 48 #[.agg #[b.iv, .int .u8 b.last, .int .i64 b.reg, .int .i64 b.yes, .int .i64 b.no]] w (NxE b w) := by
  obtain ⟨ao, n, cap, eiv⟩ := hv
  obtain ⟨iv, ins, last, reg, yes, no⟩ := b
  simp only at *
  subst eiv
  obtain ⟨U, hU⟩ : ∃ U, U = w.alloc (.cells #[.slice ao n cap, .int .u8 last, .int .i64 reg, .int .i64 yes, .int .i64 no] 36) := ⟨_, rfl⟩
  obtain ⟨p0, p1, p2, p3, p4⟩ := own5 (MapKept.heap_alloc w (.cells #[.slice ao n cap, .int .u8 last, .int .i64 reg, .int .i64 yes, .int .i64 no] 36)).1
  have hb : Below w.heap.size w U := by rw [hU]; exact below_box w _
  have hz : U.heap.size = w.heap.size + 1 := by rw [hU]; simp
  have e1 := bls_of 37 3 1 1 #[(0, .int .i64 yes)] #[.int .i64 yes] (by kernel_rfl) (by kernel_rfl) (by kernel_rfl) (by decide) (by decide) (by kernel_rfl) (by kernel_rfl) U
  have e2 := bls_of 37 3 2 1 #[(0, .int .i64 yes), (1, .int .i64 no)] #[.int .i64 yes, .int .i64 no] (by kernel_rfl) (by kernel_rfl) (by kernel_rfl) (by decide) (by decide) (by kernel_rfl) (by kernel_rfl) U
  have q1 := Lib.hid (show NxE ⟨.slice ao n cap, ins, last, reg, yes, no⟩ w (.returned (.slice (some ⟨w.heap.size + 1, 0, none⟩) 1 1)) (U.alloc (.cells #[.int .i64 yes] 3)) ∨ ¬ (last ≠ 3 ∧ (last = 1 ∨ yes = no)) from by
    by_cases h : last ≠ 3 ∧ (last = 1 ∨ yes = no)
    · refine .inl ⟨_, rfl, ?_, hb.alloc (by omega) _⟩
      have e : nextF ⟨.slice ao n cap, ins, last, reg, yes, no⟩ = [yes] := by unfold nextF; rw [if_neg h.1, if_pos h.2]
      rw [e]
      have h2 := (MapKept.heap_alloc U (.cells (intA [yes]) 3)).1; rw [hz] at h2; exact row_lit (W := w) (l := [yes]) h2 (by omega) 1
    · exact .inr h)
  have q2 := Lib.hid (show NxE ⟨.slice ao n cap, ins, last, reg, yes, no⟩ w (.returned (.slice (some ⟨w.heap.size + 1, 0, none⟩) 2 2)) (U.alloc (.cells #[.int .i64 yes, .int .i64 no] 3)) ∨ ¬ (last ≠ 3 ∧ ¬ (last = 1 ∨ yes = no)) from by
    by_cases h : last ≠ 3 ∧ ¬ (last = 1 ∨ yes = no)
    · refine .inl ⟨_, rfl, ?_, hb.alloc (by omega) _⟩
      have e : nextF ⟨.slice ao n cap, ins, last, reg, yes, no⟩ = [yes, no] := by unfold nextF; rw [if_neg h.1, if_neg h.2]
      rw [e]
      have h2 := (MapKept.heap_alloc U (.cells (intA [yes, no]) 3)).1; rw [hz] at h2; exact row_lit (W := w) (l := [yes, no]) h2 (by omega) 2
    · exact .inr h)
  have q3 := Lib.hid (show last = 3 → NxE ⟨.slice ao n cap, ins, last, reg, yes, no⟩ w (.returned (.slice none 0 0)) U from fun h => by
      have e : nextF ⟨.slice ao n cap, ins, last, reg, yes, no⟩ = [] := by unfold nextF; rw [if_pos h]
      exact ⟨_, rfl, by rw [e]; exact ⟨none, 0, rfl, fun h => by simp at h⟩, hb⟩)
  have HU := Lib.hid hU
  rw [hU] at e1 e2
  clear hb hz hU
  by_cases h3 : last = 3
  · have d3 : (last == 3) = true := by simpa using h3
    replace h3 := Lib.hid h3
    clear e1 e2 q1 q2
    go_enter Tryd.func48, Tryd.ntmps48
    go_wp2_with fail
    go_ret
    rw [← HU.out]
    exact q3.out h3.out
  · have d3 : (last == 3) = false := by simpa using h3
    replace h3 := Lib.hid h3
    clear q3
    by_cases h1 : last = 1
    · have d1 : (last == 1) = true := by simpa using h1
      replace h1 := Lib.hid h1
      clear e2 q2
      go_enter Tryd.func48, Tryd.ntmps48
      go_wp2_with fail
      go_ret
      rw [← HU.out]
      rcases q1.out with q | q
      · exact q
      · exact absurd ⟨h3.out, .inl h1.out⟩ q
    · have d1 : (last == 1) = false := by simpa using h1
      replace h1 := Lib.hid h1
      by_cases h2 : yes = no
      · have d2 : (yes == no) = true := by simpa using h2
        replace h2 := Lib.hid h2
        clear e2 q2
        go_enter Tryd.func48, Tryd.ntmps48
        go_wp2_with fail
        go_ret
        rw [← HU.out]
        rcases q1.out with q | q
        · exact q
        · exact absurd ⟨h3.out, .inr h2.out⟩ q
      · have d2 : (yes == no) = false := by simpa using h2
        replace h2 := Lib.hid h2
        clear e1 q1
        go_enter Tryd.func48, Tryd.ntmps48
        go_wp2_with fail
        go_ret
        rw [← HU.out]
        rcases q2.out with q | q
        · exact q
        · exact absurd ⟨h3.out, fun q => q.elim h1.out h2.out⟩ q

theorem endB_drop {l : List In} {k : Nat} {x : In} (hx : l[k]? = some x) (i : Bool) : endB (l.drop k) i = endB (l.drop (k + 1)) (if x.k = 13 then true else if x.k = 14 then false else i) := by
  obtain ⟨h, e⟩ := List.getElem?_eq_some_iff.1 hx
  rw [List.drop_eq_getElem_cons h, e, endB]
end Go.Proofs.YtgkjhnghibpeoaaDoor
namespace Go.Proofs.YtgkjhnghibpeoaaDoor
open Go.RowKit
set_option maxRecDepth 1000000
attribute [local go_sem ↓] bld_eq bls_eq


theorem row_nat {l : List Nat} {k : Nat} {x : Nat} : (List.replicate (k + 1) 0 ++ l).set k x = List.replicate k 0 ++ x :: l := by
  rw [List.set_append_left _ _ (by simp), List.replicate_succ', List.set_append_right _ _ (by simp)]
  simp
/-- The walk's memory: marks m, the row o behind free ones. -/
structure VAt (w : World) (b : Nat) (g : Gr) (m : List Bool) (o : List Nat) : Prop where
  gbc : w.heap[b]? = some (.cells #[g.rv, .int .i64 g.sites, g.bv] 25 (0, 0))
  mbc : w.heap[b + 1]? = some (.cells (boolA m) 4 (0, 0))
  mvc : w.heap[b + 2]? = some (.cells #[.slice (some ⟨b + 1, 0, none⟩) g.blocks.length g.blocks.length] 22 (0, 0))
  obc : w.heap[b + 3]? = some (.cells (natA (List.replicate (g.blocks.length - o.length) 0 ++ o)) 3 (0, 0))
  ovc : w.heap[b + 4]? = some (.cells #[.slice (some ⟨b + 3, 0, none⟩) g.blocks.length g.blocks.length] 37 (0, 0))
  fvc : w.heap[b + 5]? = some (.cells #[.int .i64 ((g.blocks.length - o.length : Nat) : Int)] 3 (0, 0))
  vvc : w.heap[b + 6]? = some (.cells #[.func (.func 47) #[] #[.pointer (some ⟨b + 2, 0, none⟩), .pointer (some ⟨b, 0, none⟩), .pointer (some ⟨b + 6, 0, none⟩), .pointer (some ⟨b + 5, 0, none⟩), .pointer (some ⟨b + 4, 0, none⟩)]] 68 (0, 0))
  len : m.length = g.blocks.length
  cnt : o.length ≤ cntT m
def Vs (b x : Nat) : Prop := x = b + 1 ∨ x = b + 3 ∨ x = b + 5
theorem VAt.keeps {w w' : World} {b : Nat} {g : Gr} {m : List Bool} {o : List Nat} (h : VAt w b g m o) (hb : Below w.heap.size w w') : VAt w' b g m o :=
  have k := fun (x : Nat) (c : Obj) (e : w.heap[x]? = some c) => (hb.block x (Array.getElem?_eq_some_iff.1 e).1).trans e
  ⟨k _ _ h.gbc, k _ _ h.mbc, k _ _ h.mvc, k _ _ h.obc, k _ _ h.ovc, k _ _ h.fvc, k _ _ h.vvc, h.len, h.cnt⟩
theorem VAt.mark {w : World} {b : Nat} {g : Gr} {m : List Bool} {o : List Nat} (h : VAt w b g m o) {n : Nat} (hn : m[n]? = some false) : VAt (w.setCell ⟨b + 1, n, none⟩ (.bool true)) b g (m.set n true) o := by
  have k := fun (x : Nat) (c : Obj) (hx : x ≠ b + 1) (e : w.heap[x]? = some c) => (Below.heap_setCell w ⟨b + 1, n, none⟩ (.bool true) x hx).trans e
  exact ⟨k _ _ (by omega) h.gbc, boolA_set h.mbc n true, k _ _ (by omega) h.mvc, k _ _ (by omega) h.obc, k _ _ (by omega) h.ovc, k _ _ (by omega) h.fvc, k _ _ (by omega) h.vvc, by simpa using h.len, by rw [cntT_set m n hn]; have := h.cnt; omega⟩
theorem VAt.size {w : World} {b : Nat} {g : Gr} {m : List Bool} {o : List Nat} (h : VAt w b g m o) : b + 6 < w.heap.size := (Array.getElem?_eq_some_iff.1 h.vvc).1
theorem VAt.put {w : World} {b : Nat} {g : Gr} {m : List Bool} {o : List Nat} (h : VAt w b g m o) (n F : Nat) (hF : g.blocks.length - o.length = F + 1) (hc : o.length + 1 ≤ cntT m) : VAt ((w.setCell ⟨b + 5, 0, none⟩ (.int .i64 (F : Int))).setCell ⟨b + 3, F, none⟩ (.int .i64 (n : Int))) b g m (n :: o) := by
  have k := fun (x : Nat) (c : Obj) (h1 : x ≠ b + 5) (h2 : x ≠ b + 3) (e : w.heap[x]? = some c) => (Below.heap_setCell (w.setCell ⟨b + 5, 0, none⟩ (.int .i64 (F : Int))) ⟨b + 3, F, none⟩ (.int .i64 (n : Int)) x h2).trans ((Below.heap_setCell w ⟨b + 5, 0, none⟩ (.int .i64 (F : Int)) x h1).trans e)
  have e1 : g.blocks.length - (n :: o).length = F := by simp only [List.length_cons]; omega
  refine ⟨k _ _ (by omega) (by omega) h.gbc, k _ _ (by omega) (by omega) h.mbc, k _ _ (by omega) (by omega) h.mvc, ?_, k _ _ (by omega) (by omega) h.ovc, ?_, k _ _ (by omega) (by omega) h.vvc, h.len, hc⟩
  · have h1 := h.obc
    rw [hF] at h1
    have h2 := natA_set ((Below.heap_setCell w ⟨b + 5, 0, none⟩ (.int .i64 (F : Int)) (b + 3) (by show b + 3 ≠ b + 5; omega)).trans h1) F n
    rw [row_nat] at h2
    rw [e1]
    exact h2
  · rw [e1, Below.heap_setCell _ _ _ _ (by show b + 5 ≠ b + 3; omega)]
    exact one_set h.fvc
/-- What the literal does. -/
def VisE (b : Nat) (g : Gr) (n : Nat) (m : List Bool) (o : List Nat) (w : World) (e : Ending) (w' : World) : Prop := e = .returned (.tuple #[]) ∧ ∃ pre m', VPost g.blocks n pre m m' ∧ VAt w' b g m' (pre ++ o) ∧ Wr (Vs b) w w'
set_option maxHeartbeats 16000000 in
theorem visit_any (b B : Nat) (g : Gr) (hg : FOk g.blocks) (hBb : B ≤ b) : ∀ (K : Nat) (w : World) (n : Nat) (m : List Bool) (o : List Nat), g.blocks.length - cntT m ≤ K → GIn w B g → VAt w b g m o → m[n]? = some false →
    Calls Tryd.prog 47 #[.int .i64 (n : Int), .pointer (some ⟨b + 2, 0, none⟩), .pointer (some ⟨b, 0, none⟩), .pointer (some ⟨b + 6, 0, none⟩), .pointer (some ⟨b + 5, 0, none⟩), .pointer (some ⟨b + 4, 0, none⟩)] w (VisE b g n m o w) := by
  intro K
  induction K with
  | zero => intro w n m o hK hI hV hn; have := cntT_lt m n hn; rw [hV.len] at this; omega
  | succ K ih =>
    intro w n m o hK hI hV hn
    have hnl : n < g.blocks.length := by rw [← hV.len]; exact some_lt hn
    obtain ⟨bo, bcp, eb, hbl, hbg⟩ := hI.blies.form
    obtain ⟨go, off, rfl, hgo⟩ := hbg (by omega)
    have hV1 := hV.mark hn
    have hW1 : Wr (Vs b) w (w.setCell ⟨b + 1, n, none⟩ (.bool true)) := Wr.set w (.inl rfl) _
    obtain ⟨w1, hw1⟩ : ∃ w1, w1 = w.setCell ⟨b + 1, n, none⟩ (.bool true) := ⟨_, rfl⟩
    rw [← hw1] at hV1 hW1
    have hb1 : Below B w w1 := hW1.below (fun x hx => by rcases hx with rfl | rfl | rfl <;> omega) (by have := hV.size; omega)
    have hI1 := hI.keeps hb1
    have hat := (hI.blies.at eb n hnl).2
    have hbi := hI1.blocks _ (List.getElem_mem hnl)
    have hbt : g.blocks[n]? = some g.blocks[n] := List.getElem?_eq_getElem hnl
    generalize g.blocks[n] = bk at hat hbi hbt
    obtain ⟨io, icap, eiv, -, -⟩ := hbi.lies.form
    have HNX := Lib.hid (fnext_any bk w1 ⟨_, _, _, eiv⟩)
    obtain ⟨IL, hIL⟩ : ∃ x, x = bk.ins.length := ⟨_, rfl⟩
    rw [← hIL] at eiv
    obtain ⟨p0, p1, p2, p3, p4⟩ := bc hat
    rw [eiv] at p0 HNX
    obtain ⟨BV, hBV⟩ : ∃ x, x = g.blocks.length := ⟨_, rfl⟩
    have mvc := one_at hV.mvc
    have f1 := Lib.frozen_of_heap hV.mbc n
    have f2 := boolA_at hV.mbc hn
    obtain ⟨q0, q1, q2⟩ := own3 hV.gbc
    rw [eb] at q2
    have hsz := hV.size
    have hs1 : w1.heap.size = w.heap.size := by rw [hw1, size_set]
    have hgs : go < w1.heap.size := by omega
    rw [hw1] at hgs
    have hgb : go < b := by omega
    have hbs : b + 1 < w.heap.size := by omega
    rw [← hBV] at mvc q2 hnl
    have HW1 := Lib.hid hw1
    have HI := Lib.hid hI
    have HV := Lib.hid hV
    have HV1 := Lib.hid hV1
    have HWR := Lib.hid hW1
    have HEQ := Lib.hid (And.intro eb (And.intro eiv (And.intro hIL hBV)))
    have HBT := Lib.hid hbt
    have HIH := Lib.hid ih
    have HN := Lib.hid hn
    have HK := Lib.hid hK
    have HG := Lib.hid hg
    have HX := Lib.hid hs1
    clear hV1 hW1 hw1 hb1 hI1 hat hbi hI hV hn ih hbt eiv hIL hBV hK hg hs1 hbl hbg eb
    go_enter Tryd.func47, Tryd.ntmps47
    go_wp2_with fail
    rw [← HW1.out]
    refine HNX.out.mono ?_; rintro e w2 ⟨v, rfl, hrow, hb2⟩
    obtain ⟨ao, cap, rfl⟩ := hrow.form
    have hc2 := nextF_len bk
    obtain ⟨c, hc⟩ : ∃ c, c = (nextF bk).length := ⟨_, rfl⟩
    rw [← hc] at hc2 ⊢
    have HV2 := Lib.hid (HV1.out.keeps hb2)
    have HWR2 := Lib.hid (HWR.out.trans (Wr.of hb2))
    have HROW := Lib.hid hrow
    have HC := Lib.hid hc
    have hs2 := hb2.size
    have HS2 := Lib.hid hs2
    clear hrow hb2 hc p0 p1 p2 p3 p4 q0 q1 q2 mvc f1 f2 hs2
    go_wp2_with fail
    go_loopw [19] (fun q wr => ∃ k : Nat, k ≤ c ∧ q = .int .i64 (k : Int) ∧ Hid (∃ pre m2, VLoop g.blocks n ((nextF bk).take k) pre (m.set n true) m2 ∧ VAt wr b g m2 (pre ++ o) ∧ Wr (Vs b) w2 wr)) (fun q _ => c - (intOf q).toNat)
    case atStart => exact ⟨0, Nat.zero_le _, rfl, Lib.hid ⟨[], m.set n true, VLoop.start _ _ _, HV2.out, Wr.refl _ _⟩⟩
    case round =>
      obtain ⟨k, hk, rfl, HR⟩ := hrel
      obtain ⟨pre, m2, hL, hv, hwr⟩ := HR.out
      have hzr := hwr.size
      have hszr := hv.size
      by_cases hlk : k < c
      · have hkx : k < (nextF bk).length := by rw [← HC.out]; exact hlk
        obtain ⟨gN, offN, rfl, hg1, hg2, hcell⟩ := (HROW.out.keeps hwr (fun x hx => by have := HX.out; rcases hx with rfl | rfl | rfl <;> omega)).get rfl hkx
        have hyl := HG.out.lt HBT.out (List.getElem_mem hkx)
        have htk : (nextF bk).take (k + 1) = (nextF bk).take k ++ [(nextF bk)[k]] := by rw [List.take_succ_eq_append_getElem hkx]
        have hym := List.getElem_mem hkx
        generalize (nextF bk)[k] = y at hcell hyl htk hym
        obtain ⟨y0, rfl⟩ : ∃ y0 : Nat, y = (y0 : Int) := ⟨y.toNat, by omega⟩
        have hy0 : y0 < m2.length := by rw [hv.len]; omega
        obtain ⟨bv, hbv⟩ : ∃ bv, m2[y0]? = some bv := ⟨_, List.getElem?_eq_getElem hy0⟩
        have mvc := one_at hv.mvc
        rw [← HEQ.out.2.2.2] at mvc
        have mc := boolA_at hv.mbc hbv
        have vvc := one_at hv.vvc
        have hyN : y0 < BV := by rw [HEQ.out.2.2.2, ← hv.len]; exact hy0
        have HL := Lib.hid hL
        have HVV := Lib.hid hv
        have HWW := Lib.hid hwr
        have HTK := Lib.hid htk
        have HYM := Lib.hid hym
        cases bv with
        | true =>
          have HBV := Lib.hid (bitAt_some hbv)
          clear hL hv hwr htk hym hbv hyl hy0 hkx HR
          go_wp2_with fail
          go_roundw
          case rel => exact ⟨k + 1, by omega, by go_num, Lib.hid ⟨pre, m2, by rw [HTK.out]; exact HL.out.pass (by simpa using HBV.out), HVV.out, HWW.out⟩⟩
          case measure => simp [intOf]; omega
        | false =>
          have hBw2 : Below B w wr := (HWR2.out.trans HWW.out).below (fun x hx => by rcases hx with rfl | rfl | rfl <;> omega) (by omega)
          have HREC := Lib.hid (HIH.out wr y0 m2 (pre ++ o) (by
            have h1 := HL.out.cnt
            rw [cntT_set m n HN.out] at h1
            have h2 := HK.out
            omega) (HI.out.keeps hBw2) HVV.out hbv)
          clear hL hv hwr htk hym hbv hyl hy0 hkx HR hBw2
          go_wp2_with fail
          refine HREC.out.mono ?_; rintro e w7 ⟨rfl, pre', m3, hp, hv7, hw7⟩
          have HP := Lib.hid hp
          have HV7 := Lib.hid hv7
          have HW7 := Lib.hid (HWW.out.trans hw7)
          clear hp hv7 hw7 mvc mc vvc hcell
          go_wp2_with fail
          go_roundw
          case rel => exact ⟨k + 1, by omega, by go_num, Lib.hid ⟨pre' ++ pre, m3, by rw [HTK.out]; exact HL.out.take HBT.out (by omega) HYM.out (by simpa using HP.out), by rw [List.append_assoc]; exact HV7.out, HW7.out⟩⟩
          case measure => simp [intOf]; omega
      · rw [List.take_of_length_le (by rw [← HC.out]; omega)] at hL
        have hP := hL.close HBT.out HN.out
        obtain ⟨F, hF⟩ : ∃ F, g.blocks.length - (pre ++ o).length = F + 1 := ⟨g.blocks.length - (pre ++ o).length - 1, by
          have h1 := hP.cnt
          have h2 := HV.out.cnt
          have h3 := cntT_le m2
          have h4 := hv.len
          simp only [List.length_append, List.length_cons] at h1 ⊢
          omega⟩
        have hcn : (pre ++ o).length + 1 ≤ cntT m2 := by
          have h1 := hP.cnt
          have h2 := HV.out.cnt
          simp only [List.length_append, List.length_cons] at h1 ⊢
          omega
        have hend := hv.put n F hF hcn
        have fvc := one_at hv.fvc
        have ovc := one_at hv.ovc
        have f1 := Lib.frozen_of_heap hv.fvc 0
        have f2 := Lib.frozen_of_heap hv.obc F
        obtain ⟨zF, hzF⟩ : ∃ z, (List.replicate (g.blocks.length - (pre ++ o).length) 0 ++ (pre ++ o))[F]? = some z := ⟨_, List.getElem?_eq_getElem (by rw [List.length_append, List.length_replicate]; omega)⟩
        have f3 := natA_at hv.obc hzF
        rw [hF] at fvc
        rw [← HEQ.out.2.2.2] at ovc
        have hbl2 : BV ≤ 4096 := by rw [HEQ.out.2.2.2]; exact HG.out.room
        have hFB : F < BV := by rw [HEQ.out.2.2.2]; omega
        have hwF := IntWalk.wrap64_in (F : Int) (by omega)
        have HP := Lib.hid hP
        have HEND := Lib.hid hend
        have HWE := Lib.hid (((HWR2.out.trans hwr).trans (Wr.set (i := 0) wr (.inr (.inr rfl)) (.int .i64 (F : Int)))).trans (Wr.set (S := Vs b) (i := F) _ (.inr (.inl rfl)) (.int .i64 (n : Int))))
        clear hL hv hwr hP hF hcn hend HR hzF
        go_wp2_with fail
        go_end0
        exact ⟨rfl, n :: pre, m2, HP.out, HEND.out, HWE.out⟩
end Go.Proofs.YtgkjhnghibpeoaaDoor
