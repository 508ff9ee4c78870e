/- A block is gone to, and all that it leads to: the function literal that calls itself. -/
import Derived.Test.YtgkjhnghibpeoaaRows
import Derived.Test.YtgkjhnghibpeoaaFlLnext
import Derived.Test.YtgkjhnghibpeoaaIrSizes
import Derived.Test.YtgkjhnghibpeoaaFlMem
import Derived.Test.YtgkjhnghibpeoaaParseOrder
import Derived.LoopTactic
import Derived.LoopN
import Derived.Deep.LoopGhost
import Derived.WalkKit
import Derived.WalkSpells
import Derived.WalkLawsBesides
import Derived.Lib.Hide
import Derived.OrdersHeld
import Derived.Deep.RegionHeld
import Derived.Deep.DrawnRows
import Derived.RegionTactic
import Derived.Deep.RegionHeld3
import Derived.IntWalk
import Derived.Deep.QuietTactic
import Derived.BigQuiet
import Derived.Laws.EntriesVeiled
namespace Go.Proofs.Ytgkjhnghibpeoaa
open Go.RowKit
set_option maxRecDepth 1000000
attribute [local go_sem ↓] bld_eq bls_eq


theorem row_nat {l : List Nat} {k : Nat} {x : Nat} : (List.replicate (k + 1) 0 ++ l).set k x = List.replicate k 0 ++ x :: l := by
  rw [List.set_append_left _ _ (by simp), List.replicate_succ', List.set_append_right _ _ (by simp)]
  simp
/-- The walk's memory: marks m, the row o behind free ones. -/
structure VAt (w : World) (b : Nat) (g : Gr) (m : List Bool) (o : List Nat) : Prop where
  gbc : w.heap[b]? = some (.cells #[g.rv, .int .i64 g.sites, g.bv] 25 (0, 0))
  mbc : w.heap[b + 1]? = some (.cells (boolA m) 4 (0, 0))
  mvc : w.heap[b + 2]? = some (.cells #[.slice (some ⟨b + 1, 0, none⟩) g.blocks.length g.blocks.length] 22 (0, 0))
  obc : w.heap[b + 3]? = some (.cells (natA (List.replicate (g.blocks.length - o.length) 0 ++ o)) 3 (0, 0))
  ovc : w.heap[b + 4]? = some (.cells #[.slice (some ⟨b + 3, 0, none⟩) g.blocks.length g.blocks.length] 26 (0, 0))
  fvc : w.heap[b + 5]? = some (.cells #[.int .i64 ((g.blocks.length - o.length : Nat) : Int)] 3 (0, 0))
  vvc : w.heap[b + 6]? = some (.cells #[.func (.func 24) #[] #[.pointer (some ⟨b + 2, 0, none⟩), .pointer (some ⟨b, 0, none⟩), .pointer (some ⟨b + 6, 0, none⟩), .pointer (some ⟨b + 5, 0, none⟩), .pointer (some ⟨b + 4, 0, none⟩)]] 56 (0, 0))
  len : m.length = g.blocks.length
  cnt : o.length ≤ cntT m
def Vs (b x : Nat) : Prop := x = b + 1 ∨ x = b + 3 ∨ x = b + 5
theorem VAt.keeps {w w' : World} {b : Nat} {g : Gr} {m : List Bool} {o : List Nat} (h : VAt w b g m o) (hb : Below w.heap.size w w') : VAt w' b g m o :=
  have k := fun (x : Nat) (c : Obj) (e : w.heap[x]? = some c) => (hb.block x (Array.getElem?_eq_some_iff.1 e).1).trans e
  ⟨k _ _ h.gbc, k _ _ h.mbc, k _ _ h.mvc, k _ _ h.obc, k _ _ h.ovc, k _ _ h.fvc, k _ _ h.vvc, h.len, h.cnt⟩
theorem VAt.mark {w : World} {b : Nat} {g : Gr} {m : List Bool} {o : List Nat} (h : VAt w b g m o) {n : Nat} (hn : m[n]? = some false) : VAt (w.setCell ⟨b + 1, n, none⟩ (.bool true)) b g (m.set n true) o := by
  have k := fun (x : Nat) (c : Obj) (hx : x ≠ b + 1) (e : w.heap[x]? = some c) => (Below.heap_setCell w ⟨b + 1, n, none⟩ (.bool true) x hx).trans e
  exact ⟨k _ _ (by omega) h.gbc, boolA_set h.mbc n true, k _ _ (by omega) h.mvc, k _ _ (by omega) h.obc, k _ _ (by omega) h.ovc, k _ _ (by omega) h.fvc, k _ _ (by omega) h.vvc, by simpa using h.len, by rw [cntT_set m n hn]; have := h.cnt; omega⟩
theorem VAt.size {w : World} {b : Nat} {g : Gr} {m : List Bool} {o : List Nat} (h : VAt w b g m o) : b + 6 < w.heap.size := (Array.getElem?_eq_some_iff.1 h.vvc).1
theorem VAt.put {w : World} {b : Nat} {g : Gr} {m : List Bool} {o : List Nat} (h : VAt w b g m o) (n F : Nat) (hF : g.blocks.length - o.length = F + 1) (hc : o.length + 1 ≤ cntT m) : VAt ((w.setCell ⟨b + 5, 0, none⟩ (.int .i64 (F : Int))).setCell ⟨b + 3, F, none⟩ (.int .i64 (n : Int))) b g m (n :: o) := by
  have k := fun (x : Nat) (c : Obj) (h1 : x ≠ b + 5) (h2 : x ≠ b + 3) (e : w.heap[x]? = some c) => (Below.heap_setCell (w.setCell ⟨b + 5, 0, none⟩ (.int .i64 (F : Int))) ⟨b + 3, F, none⟩ (.int .i64 (n : Int)) x h2).trans ((Below.heap_setCell w ⟨b + 5, 0, none⟩ (.int .i64 (F : Int)) x h1).trans e)
  have e1 : g.blocks.length - (n :: o).length = F := by simp only [List.length_cons]; omega
  refine ⟨k _ _ (by omega) (by omega) h.gbc, k _ _ (by omega) (by omega) h.mbc, k _ _ (by omega) (by omega) h.mvc, ?_, k _ _ (by omega) (by omega) h.ovc, ?_, k _ _ (by omega) (by omega) h.vvc, h.len, hc⟩
  · have h1 := h.obc
    rw [hF] at h1
    have h2 := natA_set ((Below.heap_setCell w ⟨b + 5, 0, none⟩ (.int .i64 (F : Int)) (b + 3) (by show b + 3 ≠ b + 5; omega)).trans h1) F n
    rw [row_nat] at h2
    rw [e1]
    exact h2
  · rw [e1, Below.heap_setCell _ _ _ _ (by show b + 5 ≠ b + 3; omega)]
    exact one_set h.fvc
/-- What the literal does. -/
def VisE (b : Nat) (g : Gr) (n : Nat) (m : List Bool) (o : List Nat) (w : World) (e : Ending) (w' : World) : Prop := e = .returned (.tuple #[]) ∧ ∃ pre m', VPost g.blocks n pre m m' ∧ VAt w' b g m' (pre ++ o) ∧ Wr (Vs b) w w'
set_option maxHeartbeats 16000000 in
theorem visit_any (b B : Nat) (g : Gr) (hg : FOk g.blocks) (hBb : B ≤ b) : ∀ (K : Nat) (w : World) (n : Nat) (m : List Bool) (o : List Nat), g.blocks.length - cntT m ≤ K → GIn w B g → VAt w b g m o → m[n]? = some false →
    Calls Try.prog 24 #[.int .i64 (n : Int), .pointer (some ⟨b + 2, 0, none⟩), .pointer (some ⟨b, 0, none⟩), .pointer (some ⟨b + 6, 0, none⟩), .pointer (some ⟨b + 5, 0, none⟩), .pointer (some ⟨b + 4, 0, none⟩)] w (VisE b g n m o w) := by
  intro K
  induction K with
  | zero => intro w n m o hK hI hV hn; have := cntT_lt m n hn; rw [hV.len] at this; omega
  | succ K ih =>
    intro w n m o hK hI hV hn
    have hnl : n < g.blocks.length := by rw [← hV.len]; exact some_lt hn
    obtain ⟨bo, bcp, eb, hbl, hbg⟩ := hI.blies.form
    obtain ⟨go, off, rfl, hgo⟩ := hbg (by omega)
    have hV1 := hV.mark hn
    have hW1 : Wr (Vs b) w (w.setCell ⟨b + 1, n, none⟩ (.bool true)) := Wr.set w (.inl rfl) _
    obtain ⟨w1, hw1⟩ : ∃ w1, w1 = w.setCell ⟨b + 1, n, none⟩ (.bool true) := ⟨_, rfl⟩
    rw [← hw1] at hV1 hW1
    have hb1 : Below B w w1 := hW1.below (fun x hx => by rcases hx with rfl | rfl | rfl <;> omega) (by have := hV.size; omega)
    have hI1 := hI.keeps hb1
    have hat := (hI.blies.at eb n hnl).2
    have hbi := hI1.blocks _ (List.getElem_mem hnl)
    have hbt : g.blocks[n]? = some g.blocks[n] := List.getElem?_eq_getElem hnl
    generalize g.blocks[n] = bk at hat hbi hbt
    obtain ⟨io, icap, eiv, -, -⟩ := hbi.lies.form
    have HNX := Lib.hid (fnext_any bk w1 ⟨_, _, _, eiv⟩)
    obtain ⟨IL, hIL⟩ : ∃ x, x = bk.ins.length := ⟨_, rfl⟩
    rw [← hIL] at eiv
    obtain ⟨p0, p1, p2, p3, p4⟩ := bc hat
    rw [eiv] at p0 HNX
    obtain ⟨BV, hBV⟩ : ∃ x, x = g.blocks.length := ⟨_, rfl⟩
    have mvc := one_at hV.mvc
    have f1 := Lib.frozen_of_heap hV.mbc n
    have f2 := boolA_at hV.mbc hn
    obtain ⟨q0, q1, q2⟩ := own3 hV.gbc
    rw [eb] at q2
    have hsz := hV.size
    have hs1 : w1.heap.size = w.heap.size := by rw [hw1, size_set]
    have hgs : go < w1.heap.size := by omega
    rw [hw1] at hgs
    have hgb : go < b := by omega
    have hbs : b + 1 < w.heap.size := by omega
    rw [← hBV] at mvc q2 hnl
    have HW1 := Lib.hid hw1
    have HI := Lib.hid hI
    have HV := Lib.hid hV
    have HV1 := Lib.hid hV1
    have HWR := Lib.hid hW1
    have HEQ := Lib.hid (And.intro eb (And.intro eiv (And.intro hIL hBV)))
    have HBT := Lib.hid hbt
    have HIH := Lib.hid ih
    have HN := Lib.hid hn
    have HK := Lib.hid hK
    have HG := Lib.hid hg
    have HX := Lib.hid hs1
    clear hV1 hW1 hw1 hb1 hI1 hat hbi hI hV hn ih hbt eiv hIL hBV hK hg hs1 hbl hbg eb
    go_enter Try.func24, Try.ntmps24
    go_wp2_with fail
    rw [← HW1.out]
    refine HNX.out.mono ?_; rintro e w2 ⟨v, rfl, hrow, hb2⟩
    obtain ⟨ao, cap, rfl⟩ := hrow.form
    have hc2 := nextF_len bk
    obtain ⟨c, hc⟩ : ∃ c, c = (nextF bk).length := ⟨_, rfl⟩
    rw [← hc] at hc2 ⊢
    have HV2 := Lib.hid (HV1.out.keeps hb2)
    have HWR2 := Lib.hid (HWR.out.trans (Wr.of hb2))
    have HROW := Lib.hid hrow
    have HC := Lib.hid hc
    have hs2 := hb2.size
    have HS2 := Lib.hid hs2
    clear hrow hb2 hc p0 p1 p2 p3 p4 q0 q1 q2 mvc f1 f2 hs2
    go_wp2_with fail
    go_loopw [19] (fun q wr => ∃ k : Nat, k ≤ c ∧ q = .int .i64 (k : Int) ∧ Hid (∃ pre m2, VLoop g.blocks n ((nextF bk).take k) pre (m.set n true) m2 ∧ VAt wr b g m2 (pre ++ o) ∧ Wr (Vs b) w2 wr)) (fun q _ => c - (intOf q).toNat)
    case atStart => exact ⟨0, Nat.zero_le _, rfl, Lib.hid ⟨[], m.set n true, VLoop.start _ _ _, HV2.out, Wr.refl _ _⟩⟩
    case round =>
      obtain ⟨k, hk, rfl, HR⟩ := hrel
      obtain ⟨pre, m2, hL, hv, hwr⟩ := HR.out
      have hzr := hwr.size
      have hszr := hv.size
      by_cases hlk : k < c
      · have hkx : k < (nextF bk).length := by rw [← HC.out]; exact hlk
        obtain ⟨gN, offN, rfl, hg1, hg2, hcell⟩ := (HROW.out.keeps hwr (fun x hx => by have := HX.out; rcases hx with rfl | rfl | rfl <;> omega)).get rfl hkx
        have hyl := HG.out.lt HBT.out (List.getElem_mem hkx)
        have htk : (nextF bk).take (k + 1) = (nextF bk).take k ++ [(nextF bk)[k]] := by rw [List.take_succ_eq_append_getElem hkx]
        have hym := List.getElem_mem hkx
        generalize (nextF bk)[k] = y at hcell hyl htk hym
        obtain ⟨y0, rfl⟩ : ∃ y0 : Nat, y = (y0 : Int) := ⟨y.toNat, by omega⟩
        have hy0 : y0 < m2.length := by rw [hv.len]; omega
        obtain ⟨bv, hbv⟩ : ∃ bv, m2[y0]? = some bv := ⟨_, List.getElem?_eq_getElem hy0⟩
        have mvc := one_at hv.mvc
        rw [← HEQ.out.2.2.2] at mvc
        have mc := boolA_at hv.mbc hbv
        have vvc := one_at hv.vvc
        have hyN : y0 < BV := by rw [HEQ.out.2.2.2, ← hv.len]; exact hy0
        have HL := Lib.hid hL
        have HVV := Lib.hid hv
        have HWW := Lib.hid hwr
        have HTK := Lib.hid htk
        have HYM := Lib.hid hym
        cases bv with
        | true =>
          have HBV := Lib.hid (bitAt_some hbv)
          clear hL hv hwr htk hym hbv hyl hy0 hkx HR
          go_wp2_with fail
          go_roundw
          case rel => exact ⟨k + 1, by omega, by go_num, Lib.hid ⟨pre, m2, by rw [HTK.out]; exact HL.out.pass (by simpa using HBV.out), HVV.out, HWW.out⟩⟩
          case measure => simp [intOf]; omega
        | false =>
          have hBw2 : Below B w wr := (HWR2.out.trans HWW.out).below (fun x hx => by rcases hx with rfl | rfl | rfl <;> omega) (by omega)
          have HREC := Lib.hid (HIH.out wr y0 m2 (pre ++ o) (by
            have h1 := HL.out.cnt
            rw [cntT_set m n HN.out] at h1
            have h2 := HK.out
            omega) (HI.out.keeps hBw2) HVV.out hbv)
          clear hL hv hwr htk hym hbv hyl hy0 hkx HR hBw2
          go_wp2_with fail
          refine HREC.out.mono ?_; rintro e w7 ⟨rfl, pre', m3, hp, hv7, hw7⟩
          have HP := Lib.hid hp
          have HV7 := Lib.hid hv7
          have HW7 := Lib.hid (HWW.out.trans hw7)
          clear hp hv7 hw7 mvc mc vvc hcell
          go_wp2_with fail
          go_roundw
          case rel => exact ⟨k + 1, by omega, by go_num, Lib.hid ⟨pre' ++ pre, m3, by rw [HTK.out]; exact HL.out.take HBT.out (by omega) HYM.out (by simpa using HP.out), by rw [List.append_assoc]; exact HV7.out, HW7.out⟩⟩
          case measure => simp [intOf]; omega
      · rw [List.take_of_length_le (by rw [← HC.out]; omega)] at hL
        have hP := hL.close HBT.out HN.out
        obtain ⟨F, hF⟩ : ∃ F, g.blocks.length - (pre ++ o).length = F + 1 := ⟨g.blocks.length - (pre ++ o).length - 1, by
          have h1 := hP.cnt
          have h2 := HV.out.cnt
          have h3 := cntT_le m2
          have h4 := hv.len
          simp only [List.length_append, List.length_cons] at h1 ⊢
          omega⟩
        have hcn : (pre ++ o).length + 1 ≤ cntT m2 := by
          have h1 := hP.cnt
          have h2 := HV.out.cnt
          simp only [List.length_append, List.length_cons] at h1 ⊢
          omega
        have hend := hv.put n F hF hcn
        have fvc := one_at hv.fvc
        have ovc := one_at hv.ovc
        have f1 := Lib.frozen_of_heap hv.fvc 0
        have f2 := Lib.frozen_of_heap hv.obc F
        obtain ⟨zF, hzF⟩ : ∃ z, (List.replicate (g.blocks.length - (pre ++ o).length) 0 ++ (pre ++ o))[F]? = some z := ⟨_, List.getElem?_eq_getElem (by rw [List.length_append, List.length_replicate]; omega)⟩
        have f3 := natA_at hv.obc hzF
        rw [hF] at fvc
        rw [← HEQ.out.2.2.2] at ovc
        have hbl2 : BV ≤ 4096 := by rw [HEQ.out.2.2.2]; exact HG.out.room
        have hFB : F < BV := by rw [HEQ.out.2.2.2]; omega
        have hwF := IntWalk.wrap64_in (F : Int) (by omega)
        have HP := Lib.hid hP
        have HEND := Lib.hid hend
        have HWE := Lib.hid (((HWR2.out.trans hwr).trans (Wr.set (i := 0) wr (.inr (.inr rfl)) (.int .i64 (F : Int)))).trans (Wr.set (S := Vs b) (i := F) _ (.inr (.inl rfl)) (.int .i64 (n : Int))))
        clear hL hv hwr hP hF hcn hend HR hzF
        go_wp2_with fail
        go_end0
        exact ⟨rfl, n :: pre, m2, HP.out, HEND.out, HWE.out⟩
end Go.Proofs.Ytgkjhnghibpeoaa
namespace Go.Proofs.Ytgkjhnghibpeoaa
open Go.RowKit
set_option maxRecDepth 1000000
attribute [local go_sem ↓] bld_eq bls_eq


theorem alloc7 (w : World) (o0 o1 o2 o3 o4 o5 o6 : Obj) : ∃ W, W = ((((((w.alloc o0).alloc o1).alloc o2).alloc o3).alloc o4).alloc o5).alloc o6 ∧ W.heap.size = w.heap.size + 7 ∧ W.heap[w.heap.size]? = some o0 ∧ W.heap[w.heap.size + 1]? = some o1 ∧ W.heap[w.heap.size + 2]? = some o2 ∧ W.heap[w.heap.size + 3]? = some o3 ∧ W.heap[w.heap.size + 4]? = some o4 ∧ W.heap[w.heap.size + 5]? = some o5 ∧ W.heap[w.heap.size + 6]? = some o6 ∧ Below w.heap.size w W := by
  have nw := fun (u : World) (o : Obj) (n : Nat) (e : u.heap.size = n) => show (u.alloc o).heap[n]? = some o from e ▸ (MapKept.heap_alloc u o).1
  have od := fun (u : World) (o c : Obj) (n : Nat) (h : u.heap[n]? = some c) => show (u.alloc o).heap[n]? = some c from (Below.heap_alloc u o n (Array.getElem?_eq_some_iff.1 h).1).trans h
  have z := fun (u : World) (o : Obj) (n : Nat) (e : u.heap.size = n) => show (u.alloc o).heap.size = n + 1 by simp [e]
  have z1 := z w o0 _ rfl
  have z2 := z _ o1 _ z1
  have z3 := z _ o2 _ z2
  have z4 := z _ o3 _ z3
  have z5 := z _ o4 _ z4
  have z6 := z _ o5 _ z5
  refine ⟨_, rfl, z _ o6 _ z6, ?_, ?_, ?_, ?_, ?_, ?_, nw _ _ _ z6, ?_⟩
  · exact od _ _ _ _ (od _ _ _ _ (od _ _ _ _ (od _ _ _ _ (od _ _ _ _ (od _ _ _ _ (nw w o0 _ rfl))))))
  · exact od _ _ _ _ (od _ _ _ _ (od _ _ _ _ (od _ _ _ _ (od _ _ _ _ (nw _ o1 _ z1)))))
  · exact od _ _ _ _ (od _ _ _ _ (od _ _ _ _ (od _ _ _ _ (nw _ o2 _ z2))))
  · exact od _ _ _ _ (od _ _ _ _ (od _ _ _ _ (nw _ o3 _ z3)))
  · exact od _ _ _ _ (od _ _ _ _ (nw _ o4 _ z4))
  · exact od _ _ _ _ (nw _ o5 _ z5)
  · exact ((((((below_box w _).alloc (by omega) _).alloc (by omega) _).alloc (by omega) _).alloc (by omega) _).alloc (by omega) _).alloc (by omega) _
/-- What ordered answers. -/
def OrdE (bl : List Bk) (w : World) (e : Ending) (w' : World) : Prop := ∃ o v, e = .returned v ∧ OrdP bl o ∧ o.length ≤ bl.length ∧ RowAt w' w.heap.size v (o.map fun (n : Nat) => (n : Int)) ∧ Below w.heap.size w w'
theorem make_bool (n : Nat) (hn : n ≤ 8192) (w : World) : (Instr.makeSlice 22 (.int .i64 (n : Int)) (.int .i64 (n : Int))).run Try.prog w = .ok (.slice (some ⟨w.heap.size, 0, none⟩) n n) (w.alloc (.cells (boolA (List.replicate n false)) 4)) := by
  rw [make_list 22 4 (.bool false) 1 (by kernel_rfl) rfl Try.underlying22 n hn (by decide)]
  unfold boolA
  rw [List.map_replicate]
theorem make_int (n : Nat) (hn : n ≤ 8192) (w : World) : (Instr.makeSlice 26 (.int .i64 (n : Int)) (.int .i64 (n : Int))).run Try.prog w = .ok (.slice (some ⟨w.heap.size, 0, none⟩) n n) (w.alloc (.cells (natA (List.replicate n 0)) 3)) := by
  rw [make_list 26 3 (.int .i64 0) 8 (by kernel_rfl) rfl Try.underlying26 n hn (by decide)]
  unfold natA
  rw [List.map_replicate]
  rfl
set_option maxHeartbeats 16000000 in
theorem ordered_any (B : Nat) (g : Gr) (w : World) (hg : FOk g.blocks) (hI : GIn w B g) (hBw : B ≤ w.heap.size) :
    Calls Try.prog 16 #[.agg #[g.rv, .int .i64 g.sites, g.bv]] w (OrdE g.blocks w) := by
  obtain ⟨bo, bcp, eb, hbl, -⟩ := hI.blies.form
  obtain ⟨N, hN⟩ : ∃ N, N = g.blocks.length := ⟨_, rfl⟩
  rw [← hN] at eb
  have hn8 : N ≤ 4096 := by rw [hN]; exact hg.room
  have m1 := make_bool N (by omega)
  have m2 := make_int N (by omega)
  have hv := visit_any w.heap.size B g hg hBw (g.blocks.length)
  have HI := Lib.hid hI
  have HG := Lib.hid hg
  have HN := Lib.hid hN
  have HV := Lib.hid hv
  have HEB := Lib.hid eb
  obtain ⟨M1, hM1⟩ : ∃ M, M = boolA (List.replicate N false) := ⟨_, rfl⟩
  obtain ⟨M2, hM2⟩ : ∃ M, M = natA (List.replicate N 0) := ⟨_, rfl⟩
  rw [← hM1] at m1
  rw [← hM2] at m2
  have HM := Lib.hid (And.intro hM1 hM2)
  obtain ⟨rv, hrv⟩ : ∃ x, x = g.rv := ⟨_, rfl⟩
  obtain ⟨st, hst⟩ : ∃ x, x = g.sites := ⟨_, rfl⟩
  have HR := Lib.hid (And.intro hrv hst)
  rw [eb, ← hrv, ← hst]
  obtain ⟨c0, c1, c2⟩ := own3 (MapKept.heap_alloc w (.cells #[rv, .int .i64 st, .slice bo N bcp] 25)).1
  clear hI hg hN hv eb hM1 hM2 hrv hst hbl
  go_enter Try.func16, Try.ntmps16
  go_wp2_with fail
  clear c0 c1 c2 m1 m2
  have hN := HN.out
  have hR := HR.out
  have hM := HM.out
  have hEB := HEB.out
  subst hN
  obtain ⟨hr1, hr2⟩ := hR
  obtain ⟨hm1, hm2⟩ := hM
  subst hr1 hr2 hm1 hm2
  obtain ⟨W, hW, hz, h0, h1, h2, h3, h4, h5, h6, hbW⟩ := alloc7 w (.cells #[g.rv, .int .i64 g.sites, .slice bo g.blocks.length bcp] 25) (.cells (boolA (List.replicate g.blocks.length false)) 4) (.cells #[.slice (some ⟨w.heap.size + 1, 0, none⟩) g.blocks.length g.blocks.length] 22)
    (.cells (natA (List.replicate g.blocks.length 0)) 3) (.cells #[.slice (some ⟨w.heap.size + 1 + 1 + 1, 0, none⟩) g.blocks.length g.blocks.length] 26) (.cells #[.int .i64 (g.blocks.length : Int)] 3)
    (.cells #[.func (.func 24) #[] #[.pointer (some ⟨w.heap.size + 1 + 1, 0, none⟩), .pointer (some ⟨w.heap.size, 0, none⟩), .pointer (some ⟨w.heap.size + 1 + 1 + 1 + 1 + 1 + 1, 0, none⟩), .pointer (some ⟨w.heap.size + 1 + 1 + 1 + 1 + 1, 0, none⟩), .pointer (some ⟨w.heap.size + 1 + 1 + 1 + 1, 0, none⟩)]] 56)
  rw [← hW]
  rw [← hEB] at h0
  have hVA : VAt W w.heap.size g (List.replicate g.blocks.length false) [] := ⟨h0, h1, h2, by simpa using h3, h4, h5, h6, by simp, by simp⟩
  have hrec := HV.out W 0 (List.replicate g.blocks.length false) [] (by omega) (HI.out.keeps (hbW.mono hBw)) hVA (by rw [List.getElem?_replicate, if_pos HG.out.pos])
  have HB := Lib.hid hbW
  have hzw : w.heap.size + 7 = W.heap.size := hz.symm
  clear hW h0 h1 h2 h3 h4 h5 h6 hVA hbW hEB hz
  refine hrec.mono ?_; rintro e w2 ⟨rfl, pre, m', hp, hva, hwr⟩
  rw [List.append_nil] at hva
  have ovc := one_at hva.ovc
  have fvc := one_at hva.fvc
  have hp0 : 0 < pre.length := (ordP_of hp).pos
  have hpl : pre.length ≤ g.blocks.length := by
    have h1 := hva.cnt
    have h2 := cntT_le m'
    have h3 := hva.len
    omega
  have hrow : RowAt w2 w.heap.size (.slice (some ⟨w.heap.size + 3, g.blocks.length - pre.length, none⟩) pre.length pre.length) (pre.map fun (n : Nat) => (n : Int)) :=
    ⟨_, _, by rw [List.length_map], fun _ => ⟨_, _, rfl, by omega, by have := hva.size; omega, fun k x hx => by
      rw [List.getElem?_map] at hx
      obtain ⟨y, hy, rfl⟩ := Option.map_eq_some_iff.1 hx
      exact natA_at hva.obc (by rw [List.getElem?_append_right (by simp), List.length_replicate, Nat.add_sub_cancel_left]; exact hy)⟩⟩
  have HE := Lib.hid (show OrdE g.blocks w (.returned (.slice (some ⟨w.heap.size + 3, g.blocks.length - pre.length, none⟩) pre.length pre.length)) w2 from
    ⟨pre, _, rfl, ordP_of hp, hpl, hrow, HB.out.trans (hwr.below (fun x hx => by rcases hx with rfl | rfl | rfl <;> omega) (by omega))⟩)
  obtain ⟨F, hF⟩ : ∃ F, F = g.blocks.length - pre.length := ⟨_, rfl⟩
  have hF1 : g.blocks.length - F = pre.length := by omega
  obtain ⟨N, hN⟩ : ∃ N, N = g.blocks.length := ⟨_, rfl⟩
  rw [← hF] at fvc HE
  rw [← hN] at hF1 ovc hn8
  have hFN : F < N := by omega
  have HNN := Lib.hid hN
  clear hrec hp hva hwr hrow hpl hF hN
  go_wp2_with fail
  go_ret
  exact HE.out
end Go.Proofs.Ytgkjhnghibpeoaa
