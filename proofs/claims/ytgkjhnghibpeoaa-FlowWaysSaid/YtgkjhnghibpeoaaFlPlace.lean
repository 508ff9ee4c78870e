/- The blocks that are reached, marked; the places of an order. -/
import Derived.Test.YtgkjhnghibpeoaaRows
import Derived.Test.YtgkjhnghibpeoaaFlOrd
import Derived.Test.YtgkjhnghibpeoaaIrSizes
import Derived.Test.YtgkjhnghibpeoaaFlMem
import Derived.Test.YtgkjhnghibpeoaaParseOrder
import Derived.LoopTactic
import Derived.LoopN
import Derived.Deep.LoopGhost
import Derived.WalkKit
import Derived.WalkSpells
import Derived.WalkLawsBesides
import Derived.Lib.Hide
import Derived.OrdersHeld
import Derived.Deep.RegionHeld
import Derived.Deep.DrawnRows
import Derived.RegionTactic
import Derived.Deep.RegionHeld3
import Derived.IntWalk
import Derived.Deep.QuietTactic
import Derived.BigQuiet
import Derived.Test.YtgkjhnghibpeoaaIrCheck
namespace Go.Proofs.Ytgkjhnghibpeoaa
open Go.RowKit
set_option maxRecDepth 1000000
attribute [local go_sem ↓] bld_eq bls_eq


/-- What reached answers. -/
def ReE (bl : List Bk) (w : World) (e : Ending) (w' : World) : Prop := ∃ R gR, e = .returned (.slice (some ⟨gR, 0, none⟩) bl.length bl.length) ∧ w.heap.size ≤ gR ∧ w'.heap[gR]? = some (.cells (boolA R) 4 (0, 0)) ∧ R.length = bl.length ∧ (∀ x, bitAt R x = true ↔ Rc bl x) ∧ Below w.heap.size w w'
theorem alloc2 (w : World) (o0 o1 : Obj) : ∃ W, W = (w.alloc o0).alloc o1 ∧ W.heap.size = w.heap.size + 2 ∧ W.heap[w.heap.size]? = some o0 ∧ W.heap[w.heap.size + 1]? = some o1 ∧ Below w.heap.size w W := by
  have z1 : (w.alloc o0).heap.size = w.heap.size + 1 := by simp
  refine ⟨_, rfl, by simp, (Below.heap_alloc (w.alloc o0) o1 _ (by omega)).trans (MapKept.heap_alloc w o0).1, ?_, (below_box w _).alloc (by omega) _⟩
  rw [← z1]; exact (MapKept.heap_alloc _ o1).1
theorem take_mem {o : List Nat} {k y x : Nat} (hy : o[k]? = some y) : x ∈ o.take (k + 1) ↔ x ∈ o.take k ∨ x = y := by
  rw [List.take_add_one, hy]; simp
set_option maxHeartbeats 16000000 in
theorem reached_any (B : Nat) (g : Gr) (w : World) (hg : FOk g.blocks) (hI : GIn w B g) (hBw : B ≤ w.heap.size) :
    Calls Try.prog 14 #[.agg #[g.rv, .int .i64 g.sites, g.bv]] w (ReE g.blocks w) := by
  obtain ⟨bo, bcp, eb, hbl, hbg⟩ := hI.blies.form
  obtain ⟨N, hN⟩ : ∃ N, N = g.blocks.length := ⟨_, rfl⟩
  rw [← hN] at eb hbg
  have hn8 : N ≤ 4096 := by rw [hN]; exact hg.room
  have HI := Lib.hid hI
  have HG := Lib.hid hg
  have HN := Lib.hid hN
  have HEB := Lib.hid eb
  obtain ⟨rv, hrv⟩ : ∃ x, x = g.rv := ⟨_, rfl⟩
  obtain ⟨st, hst⟩ : ∃ x, x = g.sites := ⟨_, rfl⟩
  have HRR := Lib.hid (And.intro hrv hst)
  rw [eb, ← hrv, ← hst]
  obtain ⟨q0, q1, q2⟩ := own3 (MapKept.heap_alloc w (.cells #[rv, .int .i64 st, .slice bo N bcp] 25)).1
  have m1 := make_bool N (by omega)
  obtain ⟨M1, hM1⟩ : ∃ M, M = boolA (List.replicate N false) := ⟨_, rfl⟩
  rw [← hM1] at m1
  obtain ⟨W, hW, hz, h0, h1, hbW⟩ := alloc2 w (.cells #[rv, .int .i64 st, .slice bo N bcp] 25) (.cells M1 4)
  have hor := ordered_any B g W hg (hI.keeps (hbW.mono hBw)) (by omega)
  rw [eb, ← hrv, ← hst] at hor
  have HOR := Lib.hid hor
  rw [hM1] at h1
  have H1 := Lib.hid h1
  have HW := Lib.hid hW
  have HB := Lib.hid hbW
  have HM := Lib.hid hM1
  have hzW : w.heap.size + 2 = W.heap.size := hz.symm
  unfold ReE
  rw [← hN]
  clear hI hg hN eb hM1 hrv hst hbl hW hz h0 h1 hbW hor
  go_enter Try.func14, Try.ntmps14
  go_wp2_with fail
  rw [← HW.out]
  clear q0 q1 q2
  refine HOR.out.mono ?_; rintro e w3 ⟨o, v, rfl, ho, hol, hrow, hb3⟩
  obtain ⟨ao, cap, rfl⟩ := hrow.form
  have hol2 : g.blocks.length ≤ 4096 := HG.out.room
  rw [List.length_map]
  obtain ⟨c, hc⟩ : ∃ c, c = o.length := ⟨_, rfl⟩
  rw [← hc] at hol ⊢
  have HC := Lib.hid hc
  have HO := Lib.hid ho
  have HROW := Lib.hid hrow
  have HB3 := Lib.hid (HB.out.trans (hb3.mono (by omega)))
  have H3 := Lib.hid ((hb3.block _ (by omega)).trans H1.out)
  have hs3 := hb3.size
  have hol3 : c ≤ 4096 := by omega
  clear hc ho hrow hb3 hol hol2
  go_wp2_with fail
  go_loopw [13] (fun q wr => ∃ k : Nat, k ≤ c ∧ q = .int .i64 (k : Int) ∧ Hid (∃ R, wr.heap[w.heap.size + 1]? = some (.cells (boolA R) 4 (0, 0)) ∧ R.length = N ∧ (∀ x, bitAt R x = true ↔ x ∈ o.take k) ∧ Wr (fun b => b = w.heap.size + 1) w3 wr)) (fun q _ => c - (intOf q).toNat)
  case atStart => exact ⟨0, Nat.zero_le _, rfl, Lib.hid ⟨_, H3.out, by simp, fun x => by rw [bitAt_new]; simp, Wr.refl _ _⟩⟩
  case round =>
    obtain ⟨k, hk, rfl, HR⟩ := hrel
    obtain ⟨R, hR, hRl, hRm, hwr⟩ := HR.out
    have hzr := hwr.size
    by_cases hlk : k < c
    · have hkx : k < o.length := by rw [← HC.out]; exact hlk
      obtain ⟨gN, offN, rfl, hg1, hg2, hcell⟩ := (HROW.out.keeps hwr (fun x hx => by omega)).get rfl (k := k) (by simpa using hkx)
      rw [List.getElem_map] at hcell
      have hok : o[k]? = some o[k] := List.getElem?_eq_getElem hkx
      generalize o[k] = y at hcell hok
      have hyN : y < N := by rw [HN.out]; exact HO.out.lt HG.out hok
      obtain ⟨bv, hbv⟩ : ∃ bv, R[y]? = some bv := ⟨_, List.getElem?_eq_getElem (by rw [hRl]; exact hyN)⟩
      have c1 := boolA_at hR hbv
      have f1 := Lib.frozen_of_heap hR y
      have HX := Lib.hid (show ∃ R', (wr.setCell ⟨w.heap.size + 1, y, none⟩ (.bool true)).heap[w.heap.size + 1]? = some (.cells (boolA R') 4 (0, 0)) ∧ R'.length = N ∧ (∀ x, bitAt R' x = true ↔ x ∈ o.take (k + 1)) ∧ Wr (fun b => b = w.heap.size + 1) w3 (wr.setCell ⟨w.heap.size + 1, y, none⟩ (.bool true)) from
        ⟨R.set y true, boolA_set hR y true, by simpa using hRl, fun x => by rw [bitAt_put _ _ _ (by rw [hRl]; exact hyN), take_mem hok]; simp [hRm, or_comm], hwr.trans (Wr.set (S := fun b => b = w.heap.size + 1) wr rfl _)⟩)
      clear hR hRl hRm hwr hbv hok hkx HR
      go_wp2_with fail
      go_roundw
      case rel => exact ⟨k + 1, by omega, by go_num, HX⟩
      case measure => simp [intOf]; omega
    · rw [List.take_of_length_le (by rw [← HC.out]; omega)] at hRm
      have HE := Lib.hid (show ∃ R gR, Ending.returned (.slice (some ⟨w.heap.size + 1, 0, none⟩) N N) = .returned (.slice (some ⟨gR, 0, none⟩) N N) ∧ w.heap.size ≤ gR ∧ wr.heap[gR]? = some (.cells (boolA R) 4 (0, 0)) ∧ R.length = N ∧ (∀ x, bitAt R x = true ↔ Rc g.blocks x) ∧ Below w.heap.size w wr from
        ⟨R, _, rfl, by omega, hR, hRl, fun x => (hRm x).trans (HO.out.mem x), HB3.out.trans (hwr.below (fun x hx => by omega) (by omega))⟩)
      clear hR hRl hRm hwr HR
      go_wp2_with fail
      go_ret
      exact HE.out
end Go.Proofs.Ytgkjhnghibpeoaa
namespace Go.Proofs.Ytgkjhnghibpeoaa
open Go.RowKit
set_option maxRecDepth 1000000
attribute [local go_sem ↓] bld_eq bls_eq


def mayB (g : Gr) : Bool := decide ((checkC 65536 [g]).2.2 = 0)
theorem bothT_no3 : ∀ (l : List Nat) (n : Nat), bothT n l = none → ∀ s ∈ l, s ≠ 3 := by
  intro l
  induction l with
  | nil => intro n _ s hs; simp at hs
  | cons a l ih =>
    intro n h s hs
    rw [bothT] at h
    by_cases e : a = 3
    · rw [if_pos e] at h; cases h
    · rw [if_neg e] at h
      rcases List.mem_cons.1 hs with rfl | hs
      · exact e
      · exact ih _ h s hs
theorem fok_of {g : Gr} (h : mayB g = true) : FOk g.blocks := by
  have h1 : (checkC 65536 [g]).2.2 = 0 := of_decide_eq_true h
  have h2 : (checkG 65536 g).2 = 0 := by
    unfold checkC checkL checkL at h1
    rw [if_neg (by simp), if_neg (by decide)] at h1
    by_cases e : (checkG 65536 g).2 = 0
    · exact e
    · rw [if_neg e] at h1; exact h1
  unfold checkG at h2
  by_cases hs : sizesE g = 0
  · rw [if_pos hs] at h2
    obtain ⟨hsi, hl1, hl2⟩ := sizes_ok hs
    cases hf : firstB g.refs 65536 g.blocks.length 0 (List.replicate g.sites.toNat false) g.blocks with
    | some a => rw [hf] at h2; simp at h2
    | none =>
      rw [hf] at h2
      simp only at h2
      have hl := firstB_none _ _ _ hf
      have hnext : ∀ b ∈ g.blocks, ∀ y ∈ nextL b, 0 ≤ y ∧ y < (g.blocks.length : Int) := fun b hb => leads_in (leads_of (hl b hb))
      refine ⟨hl1, hl2, fun b hb => ?_, hnext, fun t ht => ?_⟩
      · have := hl b hb
        unfold lastB at this
        simp only [Bool.and_eq_true] at this
        have := inB_of this.1
        omega
      · unfold sidesT at h2
        cases hb : bothT 0 (beginsT g.blocks) with
        | some n => rw [hb] at h2; simp at h2
        | none =>
          obtain ⟨b1, b2, b3⟩ := begins_reach hl1 hnext
          have m1 := (b3 t 1 (.inl rfl)).2 ht.1
          have m2 := (b3 t 2 (.inr rfl)).2 ht.2
          have hle := b2 t
          unfold Mk at m1 m2
          have h3 : markOf (beginsT g.blocks) t = 3 := by
            generalize markOf (beginsT g.blocks) t = v at m1 m2 hle
            have : v = 0 ∨ v = 1 ∨ v = 2 ∨ v = 3 := by omega
            rcases this with rfl | rfl | rfl | rfl <;> simp at m1 m2 ⊢
          unfold markOf at h3
          cases hq : (beginsT g.blocks)[t]? with
          | none => rw [hq] at h3; simp at h3
          | some v =>
            rw [hq] at h3
            exact bothT_no3 _ _ hb v (List.mem_of_getElem? hq) h3
  · rw [if_neg hs] at h2
    exact absurd h2 hs
theorem mayB_eq (er : Int) : (er == 0) = decide (er = 0) := by
  by_cases h : er = 0 <;> simp [h]
set_option maxHeartbeats 16000000 in
theorem may_any (B : Nat) (g : Gr) (w : World) (hI : GIn w B g) (hBw : B ≤ w.heap.size) :
    Calls Try.prog 13 #[.agg #[g.rv, .int .i64 g.sites, g.bv]] w fun e w' => e = .returned (.bool (mayB g)) ∧ Below w.heap.size w w' := by
  obtain ⟨bo, bcp, eb, hbl, hbg⟩ := hI.blies.form
  obtain ⟨ro, rcp, er, hrl, -⟩ := hI.rlies.form
  obtain ⟨W1, hW1⟩ : ∃ W1, W1 = w.alloc (.cells #[g.rv, .int .i64 g.sites, g.bv] 25) := ⟨_, rfl⟩
  obtain ⟨W2, hW2⟩ : ∃ W2, W2 = W1.alloc (.cells #[g.rv, .int .i64 g.sites, g.bv] 25) := ⟨_, rfl⟩
  have hb1 : Below w.heap.size w W1 := by rw [hW1]; exact below_box w _
  have hb2 : Below w.heap.size w W2 := by rw [hW2]; exact hb1.alloc hb1.size _
  have hz1 : W1.heap.size = w.heap.size + 1 := by rw [hW1]; simp
  have hz2 : W2.heap.size = w.heap.size + 2 := by rw [hW2]; simp [hz1]
  have hG2 : W2.heap[w.heap.size + 1]? = some (.cells #[g.rv, .int .i64 g.sites, g.bv] 25 (0, 0)) := by rw [hW2, ← hz1]; exact (MapKept.heap_alloc _ _).1
  have hC : CIn W2 W2.heap.size ⟨65536, .slice (some ⟨w.heap.size + 1, 0, none⟩) 1 1, [g]⟩ := by
    refine ⟨by show (-9223372036854775808 : Int) ≤ 65536 ∧ (65536 : Int) ≤ 9223372036854775807; decide, ⟨_, _, rfl, by simp, .inr ⟨_, _, rfl, by omega, fun i x hx j u hu => ?_⟩⟩, fun x hx => ?_⟩
    · cases i with
      | zero =>
        simp at hx; subst hx
        rw [Lib.cell_of_heap hG2]
        simp only [Nat.zero_mul, Nat.zero_add]
        unfold Gr.cells at hu
        simpa using hu
      | succ i => simp at hx
    · simp at hx; subst hx
      exact ((hI.keeps (hb2.mono hBw)).up (by omega))
  have HC := Lib.hid (check_any W2.heap.size _ W2 hC (Nat.le_refl _))
  simp only at HC
  obtain ⟨⟨t, ⟨a, k⟩, ee⟩, hr⟩ : ∃ r, checkC 65536 [g] = r := ⟨_, rfl⟩
  obtain ⟨MB, hMB⟩ : ∃ x, x = mayB g := ⟨_, rfl⟩
  have hY : MB = (ee == 0) := by rw [hMB]; unfold mayB; rw [hr, mayB_eq]
  rw [← hMB]
  clear hMB
  rw [hr] at HC
  have hck : ckV (t, (a, k), ee) = .tuple #[.int .i64 (t : Int), .agg #[.int .i64 (a : Int), .int .i64 (k : Int)], .int .i64 ee] := rfl
  rw [hck] at HC
  obtain ⟨rv, refs, st, bv, blocks⟩ := g
  simp only at *
  subst eb er
  obtain ⟨NR, hNR⟩ : ∃ x, x = refs.length := ⟨_, rfl⟩
  obtain ⟨NB, hNB⟩ : ∃ x, x = blocks.length := ⟨_, rfl⟩
  rw [← hNR, ← hNB] at hW1 hW2 ⊢
  obtain ⟨q0, q1, q2⟩ := own3 (MapKept.heap_alloc w (.cells #[.slice ro NR rcp, .int .i64 st, .slice bo NB bcp] 25)).1
  have e1 := bls_of 65 25 1 3 #[(0, .agg #[.slice ro NR rcp, .int .i64 st, .slice bo NB bcp])] #[.slice ro NR rcp, .int .i64 st, .slice bo NB bcp] (by kernel_rfl) (by kernel_rfl) (by kernel_rfl) (by decide) (by decide) (by kernel_rfl) (by kernel_rfl)
  have e2 := fun (x : Nat) => bld_of 67 #[(0, .int .i64 65536), (1, .slice (some ⟨x, 0, none⟩) 1 1)] #[.int .i64 65536, .slice (some ⟨x, 0, none⟩) 1 1] (by kernel_rfl)
  have HB2 := Lib.hid hb2
  have HW2 := Lib.hid (show W2 = (w.alloc (.cells #[.slice ro NR rcp, .int .i64 st, .slice bo NB bcp] 25)).alloc (.cells #[.slice ro NR rcp, .int .i64 st, .slice bo NB bcp] 25) by rw [hW2, hW1])
  have HY := Lib.hid hY
  clear hI hb1 hb2 hz1 hG2 hC hr hY hck hW1 hW2 hNR hNB hbl hbg hrl
  go_enter Try.func13, Try.ntmps13
  go_wp2_with fail
  rw [← HW2.out]
  refine HC.out.mono ?_; rintro e w2 ⟨rfl, hb3⟩
  have HB3 := Lib.hid (HB2.out.trans (hb3.mono HB2.out.size))
  have HB4 := Lib.hid (HB3.out.trans ((below_box w2 (.cells #[.int .i64 (a : Int), .int .i64 (k : Int)] 62)).mono HB3.out.size))
  clear hb3 q0 q1 q2
  go_wp2_with fail
  go_ret
  exact ⟨by rw [HY.out]; rfl, HB4.out⟩
end Go.Proofs.Ytgkjhnghibpeoaa
namespace Go.Proofs.Ytgkjhnghibpeoaa
open Go.RowKit
set_option maxRecDepth 1000000
attribute [local go_sem ↓] bld_eq bls_eq


/-- What placesIn answers. -/
def PlE (o : List Nat) (N : Nat) (w : World) (e : Ending) (w' : World) : Prop := ∃ P gP, e = .returned (.slice (some ⟨gP, 0, none⟩) N N) ∧ w.heap.size ≤ gP ∧ w'.heap[gP]? = some (.cells (natA P) 3 (0, 0)) ∧ P.length = N ∧ (∀ j x : Nat, o[j]? = some x → P[x]? = some j) ∧ Below w.heap.size w w'
set_option maxHeartbeats 16000000 in
theorem places_any (o : List Nat) (lo N : Nat) (v : Value) (w : World) (hv : RowAt w lo v (o.map fun (n : Nat) => (n : Int))) (hn : o.Nodup) (hx : ∀ x ∈ o, x < N) (hol : o.length ≤ 4096) (hN : N ≤ 4096) :
    Calls Try.prog 25 #[v, .int .i64 (N : Int)] w (PlE o N w) := by
  obtain ⟨ao, cap, rfl⟩ := hv.form
  have m1 := make_int N (by omega)
  obtain ⟨M1, hM1⟩ : ∃ M, M = natA (List.replicate N 0) := ⟨_, rfl⟩
  rw [← hM1] at m1
  obtain ⟨W, hW⟩ : ∃ W, W = w.alloc (.cells M1 3) := ⟨_, rfl⟩
  have hbW : Below w.heap.size w W := by rw [hW]; exact below_box w _
  have hz : w.heap.size + 1 = W.heap.size := by rw [hW]; simp
  have hw0 : W.heap[w.heap.size]? = some (.cells (natA (List.replicate N 0)) 3 (0, 0)) := by rw [hW, hM1]; exact (MapKept.heap_alloc _ _).1
  obtain ⟨c, hc⟩ : ∃ c, c = o.length := ⟨_, rfl⟩
  have HV := Lib.hid hv
  have HVW := Lib.hid (hv.belowK hbW)
  rw [List.length_map, ← hc]
  rw [← hc] at hol
  have HC := Lib.hid hc
  have HB := Lib.hid hbW
  have HW := Lib.hid hW
  have H0 := Lib.hid hw0
  have HND := Lib.hid hn
  have HX := Lib.hid hx
  clear hv hbW hW hw0 hn hx hc hM1
  go_enter Try.func25, Try.ntmps25
  go_wp2_with fail
  rw [← HW.out]
  go_loopw [12] (fun q wr => ∃ k : Nat, k ≤ c ∧ q = .int .i64 (k : Int) ∧ Hid (∃ P, wr.heap[w.heap.size]? = some (.cells (natA P) 3 (0, 0)) ∧ P.length = N ∧ (∀ j x : Nat, j < k → o[j]? = some x → P[x]? = some j) ∧ Wr (fun b => b = w.heap.size) W wr)) (fun q _ => c - (intOf q).toNat)
  case atStart => exact ⟨0, Nat.zero_le _, rfl, Lib.hid ⟨_, H0.out, by simp, fun j x h => by omega, Wr.refl _ _⟩⟩
  case round =>
    obtain ⟨k, hk, rfl, HR⟩ := hrel
    obtain ⟨P, hP, hPl, hPm, hwr⟩ := HR.out
    have hzr := hwr.size
    by_cases hlk : k < c
    · have hkx : k < o.length := by rw [← HC.out]; exact hlk
      have hbelow : Below w.heap.size w wr := HB.out.trans (hwr.below (fun x hx => by omega) (by omega))
      obtain ⟨gN, offN, rfl, hg1, hg2, hcell⟩ := (HV.out.belowK hbelow).get rfl (k := k) (by simpa using hkx)
      rw [List.getElem_map] at hcell
      have hok : o[k]? = some o[k] := List.getElem?_eq_getElem hkx
      have hyN := HX.out _ (List.getElem_mem hkx)
      generalize o[k] = y at hcell hok hyN
      obtain ⟨bv, hbv⟩ : ∃ bv, P[y]? = some bv := ⟨_, List.getElem?_eq_getElem (by rw [hPl]; exact hyN)⟩
      have c1 := natA_at hP hbv
      have f1 := Lib.frozen_of_heap hP y
      have HQ := Lib.hid (show ∃ P', (wr.setCell ⟨w.heap.size, y, none⟩ (.int .i64 (k : Int))).heap[w.heap.size]? = some (.cells (natA P') 3 (0, 0)) ∧ P'.length = N ∧ (∀ j x : Nat, j < k + 1 → o[j]? = some x → P'[x]? = some j) ∧ Wr (fun b => b = w.heap.size) W (wr.setCell ⟨w.heap.size, y, none⟩ (.int .i64 (k : Int))) from
        ⟨P.set y k, natA_set hP y k, by simpa using hPl, fun j x hj hjx => by
          rw [List.getElem?_set]
          by_cases e : y = x
          · subst e
            rw [if_pos rfl, if_pos (by rw [hPl]; exact hyN), nodup_at HND.out hok hjx]
          · rw [if_neg e]
            by_cases e2 : j = k
            · subst e2; rw [hok] at hjx; cases hjx; exact absurd rfl e
            · exact hPm j x (by omega) hjx, hwr.trans (Wr.set (S := fun b => b = w.heap.size) wr rfl _)⟩)
      clear hP hPl hPm hwr hbv hok hkx HR hbelow
      go_wp2_with fail
      go_roundw
      case rel => exact ⟨k + 1, by omega, by go_num, HQ⟩
      case measure => simp [intOf]; omega
    · have HE := Lib.hid (show PlE o N w (.returned (.slice (some ⟨w.heap.size, 0, none⟩) N N)) wr from
        ⟨P, _, rfl, Nat.le_refl _, hP, hPl, fun j x hj => hPm j x (by have := some_lt hj; have := HC.out; omega) hj, HB.out.trans (hwr.below (fun x hx => by omega) (by omega))⟩)
      clear hP hPl hPm hwr HR
      go_wp2_with fail
      go_ret
      exact HE.out
end Go.Proofs.Ytgkjhnghibpeoaa
