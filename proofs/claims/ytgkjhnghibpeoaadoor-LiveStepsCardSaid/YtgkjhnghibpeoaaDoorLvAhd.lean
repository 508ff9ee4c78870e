/- May a graph be? And which blocks are reached. -/
import Derived.Test.YtgkjhnghibpeoaaDoorRows
import Derived.Test.YtgkjhnghibpeoaaDoorFlReach
import Derived.Test.YtgkjhnghibpeoaaDoorIrCheck
import Derived.Test.YtgkjhnghibpeoaaDoorIrLeaf
import Derived.Test.YtgkjhnghibpeoaaDoorIrNew
import Derived.Test.YtgkjhnghibpeoaaDoorParseOrder
import Derived.LoopTactic
import Derived.LoopN
import Derived.Deep.LoopGhost
import Derived.WalkKit
import Derived.WalkSpells
import Derived.WalkLawsBesides
import Derived.Lib.Hide
import Derived.OrdersHeld
import Derived.Deep.RegionHeld
import Derived.Deep.DrawnRows
import Derived.RegionTactic
import Derived.Deep.RegionHeld3
import Derived.IntWalk
import Derived.Deep.QuietTactic
import Derived.BigQuiet
import Derived.Deep.AppendLies
import Derived.Laws.OwnMore
import Derived.Laws.MakeOwn
import Derived.Laws.AppendOwn
namespace Go.Proofs.YtgkjhnghibpeoaaDoor
open Go.RowKit
set_option maxRecDepth 1000000
attribute [local go_sem ↓] bld_eq bls_eq


def mayB (g : Gr) : Bool := decide ((checkC 65536 [g]).2.2 = 0)
theorem bothT_no3 : ∀ (l : List Nat) (n : Nat), bothT n l = none → ∀ s ∈ l, s ≠ 3 := by
  intro l
  induction l with
  | nil => intro n _ s hs; simp at hs
  | cons a l ih =>
    intro n h s hs
    rw [bothT] at h
    by_cases e : a = 3
    · rw [if_pos e] at h; cases h
    · rw [if_neg e] at h
      rcases List.mem_cons.1 hs with rfl | hs
      · exact e
      · exact ih _ h s hs
theorem fok_of {g : Gr} (h : mayB g = true) : FOk g.blocks := by
  have h1 : (checkC 65536 [g]).2.2 = 0 := of_decide_eq_true h
  have h2 : (checkG 65536 g).2 = 0 := by
    unfold checkC checkL checkL at h1
    rw [if_neg (by simp), if_neg (by decide)] at h1
    by_cases e : (checkG 65536 g).2 = 0
    · exact e
    · rw [if_neg e] at h1; exact h1
  unfold checkG at h2
  by_cases hs : sizesE g = 0
  · rw [if_pos hs] at h2
    obtain ⟨hsi, hl1, hl2⟩ := sizes_ok hs
    cases hf : firstB g.refs 65536 g.blocks.length 0 (List.replicate g.sites.toNat false) g.blocks with
    | some a => rw [hf] at h2; simp at h2
    | none =>
      rw [hf] at h2
      simp only at h2
      have hl := firstB_none _ _ _ hf
      have hnext : ∀ b ∈ g.blocks, ∀ y ∈ nextL b, 0 ≤ y ∧ y < (g.blocks.length : Int) := fun b hb => leads_in (leads_of (hl b hb))
      refine ⟨hl1, hl2, fun b hb => ?_, hnext, fun t ht => ?_⟩
      · have := hl b hb
        unfold lastB at this
        simp only [Bool.and_eq_true] at this
        have := inB_of this.1
        omega
      · unfold sidesT at h2
        cases hb : bothT 0 (beginsT g.blocks) with
        | some n => rw [hb] at h2; simp at h2
        | none =>
          obtain ⟨b1, b2, b3⟩ := begins_reach hl1 hnext
          have m1 := (b3 t 1 (.inl rfl)).2 ht.1
          have m2 := (b3 t 2 (.inr rfl)).2 ht.2
          have hle := b2 t
          unfold Mk at m1 m2
          have h3 : markOf (beginsT g.blocks) t = 3 := by
            generalize markOf (beginsT g.blocks) t = v at m1 m2 hle
            have : v = 0 ∨ v = 1 ∨ v = 2 ∨ v = 3 := by omega
            rcases this with rfl | rfl | rfl | rfl <;> simp at m1 m2 ⊢
          unfold markOf at h3
          cases hq : (beginsT g.blocks)[t]? with
          | none => rw [hq] at h3; simp at h3
          | some v =>
            rw [hq] at h3
            exact bothT_no3 _ _ hb v (List.mem_of_getElem? hq) h3
  · rw [if_neg hs] at h2
    exact absurd h2 hs
theorem mayB_eq (er : Int) : (er == 0) = decide (er = 0) := by
  by_cases h : er = 0 <;> simp [h]
set_option maxHeartbeats 16000000 in
theorem may_any (B : Nat) (g : Gr) (w : World) (hI : GIn w B g) (hBw : B ≤ w.heap.size) :
    Calls Tryd.prog 37 #[.agg #[g.rv, .int .i64 g.sites, g.bv]] w fun e w' => e = .returned (.bool (mayB g)) ∧ Below w.heap.size w w' := by
  obtain ⟨bo, bcp, eb, hbl, hbg⟩ := hI.blies.form
  obtain ⟨ro, rcp, er, hrl, -⟩ := hI.rlies.form
  obtain ⟨W1, hW1⟩ : ∃ W1, W1 = w.alloc (.cells #[g.rv, .int .i64 g.sites, g.bv] 25) := ⟨_, rfl⟩
  obtain ⟨W2, hW2⟩ : ∃ W2, W2 = W1.alloc (.cells #[g.rv, .int .i64 g.sites, g.bv] 25) := ⟨_, rfl⟩
  have hb1 : Below w.heap.size w W1 := by rw [hW1]; exact below_box w _
  have hb2 : Below w.heap.size w W2 := by rw [hW2]; exact hb1.alloc hb1.size _
  have hz1 : W1.heap.size = w.heap.size + 1 := by rw [hW1]; simp
  have hz2 : W2.heap.size = w.heap.size + 2 := by rw [hW2]; simp [hz1]
  have hG2 : W2.heap[w.heap.size + 1]? = some (.cells #[g.rv, .int .i64 g.sites, g.bv] 25 (0, 0)) := by rw [hW2, ← hz1]; exact (MapKept.heap_alloc _ _).1
  have hC : CIn W2 W2.heap.size ⟨65536, .slice (some ⟨w.heap.size + 1, 0, none⟩) 1 1, [g]⟩ := by
    refine ⟨by show (-9223372036854775808 : Int) ≤ 65536 ∧ (65536 : Int) ≤ 9223372036854775807; decide, ⟨_, _, rfl, by simp, .inr ⟨_, _, rfl, by omega, fun i x hx j u hu => ?_⟩⟩, fun x hx => ?_⟩
    · cases i with
      | zero =>
        simp at hx; subst hx
        rw [Lib.cell_of_heap hG2]
        simp only [Nat.zero_mul, Nat.zero_add]
        unfold Gr.cells at hu
        simpa using hu
      | succ i => simp at hx
    · simp at hx; subst hx
      exact ((hI.keeps (hb2.mono hBw)).up (by omega))
  have HC := Lib.hid (check_any W2.heap.size _ W2 hC (Nat.le_refl _))
  simp only at HC
  obtain ⟨⟨t, ⟨a, k⟩, ee⟩, hr⟩ : ∃ r, checkC 65536 [g] = r := ⟨_, rfl⟩
  obtain ⟨MB, hMB⟩ : ∃ x, x = mayB g := ⟨_, rfl⟩
  have hY : MB = (ee == 0) := by rw [hMB]; unfold mayB; rw [hr, mayB_eq]
  rw [← hMB]
  clear hMB
  rw [hr] at HC
  have hck : ckV (t, (a, k), ee) = .tuple #[.int .i64 (t : Int), .agg #[.int .i64 (a : Int), .int .i64 (k : Int)], .int .i64 ee] := rfl
  rw [hck] at HC
  obtain ⟨rv, refs, st, bv, blocks⟩ := g
  simp only at *
  subst eb er
  obtain ⟨NR, hNR⟩ : ∃ x, x = refs.length := ⟨_, rfl⟩
  obtain ⟨NB, hNB⟩ : ∃ x, x = blocks.length := ⟨_, rfl⟩
  rw [← hNR, ← hNB] at hW1 hW2 ⊢
  obtain ⟨q0, q1, q2⟩ := own3 (MapKept.heap_alloc w (.cells #[.slice ro NR rcp, .int .i64 st, .slice bo NB bcp] 25)).1
  have e1 := bls_of 85 25 1 3 #[(0, .agg #[.slice ro NR rcp, .int .i64 st, .slice bo NB bcp])] #[.slice ro NR rcp, .int .i64 st, .slice bo NB bcp] (by kernel_rfl) (by kernel_rfl) (by kernel_rfl) (by decide) (by decide) (by kernel_rfl) (by kernel_rfl)
  have e2 := fun (x : Nat) => bld_of 87 #[(0, .int .i64 65536), (1, .slice (some ⟨x, 0, none⟩) 1 1)] #[.int .i64 65536, .slice (some ⟨x, 0, none⟩) 1 1] (by kernel_rfl)
  have HB2 := Lib.hid hb2
  have HW2 := Lib.hid (show W2 = (w.alloc (.cells #[.slice ro NR rcp, .int .i64 st, .slice bo NB bcp] 25)).alloc (.cells #[.slice ro NR rcp, .int .i64 st, .slice bo NB bcp] 25) by rw [hW2, hW1])
  have HY := Lib.hid hY
  clear hI hb1 hb2 hz1 hG2 hC hr hY hck hW1 hW2 hNR hNB hbl hbg hrl
  go_enter Tryd.func37, Tryd.ntmps37
  go_wp2_with fail
  rw [← HW2.out]
  refine HC.out.mono ?_; rintro e w2 ⟨rfl, hb3⟩
  have HB3 := Lib.hid (HB2.out.trans (hb3.mono HB2.out.size))
  have HB4 := Lib.hid (HB3.out.trans ((below_box w2 (.cells #[.int .i64 (a : Int), .int .i64 (k : Int)] 41)).mono HB3.out.size))
  clear hb3 q0 q1 q2
  go_wp2_with fail
  go_ret
  exact ⟨by rw [HY.out]; rfl, HB4.out⟩
end Go.Proofs.YtgkjhnghibpeoaaDoor
namespace Go.Proofs.YtgkjhnghibpeoaaDoor
open Go.RowKit
set_option maxRecDepth 1000000
attribute [local go_sem ↓] bld_eq bls_eq


theorem reach_no (B : Nat) (g : Gr) (w : World) (hI : GIn w B g) (hBw : B ≤ w.heap.size) (hm : mayB g = false) :
    Calls Tryd.prog 25 #[.agg #[g.rv, .int .i64 g.sites, g.bv]] w fun e w' => e = .returned (.tuple #[.slice none 0 0, .int .i64 14]) ∧ Below w.heap.size w w' := by
  obtain ⟨bo, bcp, eb, hbl, hbg⟩ := hI.blies.form
  obtain ⟨N, hN⟩ : ∃ N, N = g.blocks.length := ⟨_, rfl⟩
  rw [← hN] at eb hbg
  have HI := Lib.hid hI
  have HN := Lib.hid hN
  have HEB := Lib.hid eb
  obtain ⟨rv, hrv⟩ : ∃ x, x = g.rv := ⟨_, rfl⟩
  obtain ⟨st, hst⟩ : ∃ x, x = g.sites := ⟨_, rfl⟩
  have HRR := Lib.hid (And.intro hrv hst)
  rw [eb, ← hrv, ← hst]
  obtain ⟨q0, q1, q2⟩ := own3 (MapKept.heap_alloc w (.cells #[rv, .int .i64 st, .slice bo N bcp] 25)).1
  obtain ⟨W1, hW1⟩ : ∃ W1, W1 = w.alloc (.cells #[rv, .int .i64 st, .slice bo N bcp] 25) := ⟨_, rfl⟩
  have hb1 : Below w.heap.size w W1 := by rw [hW1]; exact below_box w _
  have hz1 : W1.heap.size = w.heap.size + 1 := by rw [hW1]; simp
  have hG1 : W1.heap[w.heap.size]? = some (.cells #[rv, .int .i64 st, .slice bo N bcp] 25 (0, 0)) := by rw [hW1]; exact (MapKept.heap_alloc _ _).1
  have hmb := may_any B g W1 (hI.keeps (hb1.mono hBw)) (by omega)
  rw [eb, ← hrv, ← hst] at hmb
  have HMB := Lib.hid hmb
  have HW1 := Lib.hid hW1
  have HB1 := Lib.hid hb1
  have HG1 := Lib.hid hG1
  rw [hm] at HMB
  clear hI hN eb hrv hst hbl hW1 hb1 hG1 hmb hbg
  go_enter Tryd.func25, Tryd.ntmps25
  go_wp2_with fail
  rw [← HW1.out]
  clear q0 q1 q2
  refine HMB.out.mono ?_; rintro e W2 ⟨rfl, hb2⟩
  have HE := Lib.hid (HB1.out.trans (hb2.mono (by omega)))
  clear hb2
  go_wp2_with fail
  go_ret2
  exact ⟨rfl, HE.out⟩
/-- What Reach answers. -/
def RcE (bl : List Bk) (w : World) (e : Ending) (w' : World) : Prop := ∃ R gR, e = .returned (.tuple #[.slice (some ⟨gR, 0, none⟩) bl.length bl.length, .int .i64 0]) ∧ w.heap.size ≤ gR ∧ w'.heap[gR]? = some (.cells (boolA R) 4 (0, 0)) ∧ R.length = bl.length ∧ (∀ x, bitAt R x = true ↔ Rc bl x) ∧ Below w.heap.size w w'
set_option maxHeartbeats 16000000 in
theorem reach_any (B : Nat) (g : Gr) (w : World) (hI : GIn w B g) (hBw : B ≤ w.heap.size) (hm : mayB g = true) :
    Calls Tryd.prog 25 #[.agg #[g.rv, .int .i64 g.sites, g.bv]] w (RcE g.blocks w) := by
  have hg := fok_of hm
  obtain ⟨bo, bcp, eb, hbl, hbg⟩ := hI.blies.form
  obtain ⟨N, hN⟩ : ∃ N, N = g.blocks.length := ⟨_, rfl⟩
  rw [← hN] at eb hbg
  have hn8 : N ≤ 4096 := by rw [hN]; exact hg.room
  have HI := Lib.hid hI
  have HG := Lib.hid hg
  have HN := Lib.hid hN
  have HEB := Lib.hid eb
  obtain ⟨rv, hrv⟩ : ∃ x, x = g.rv := ⟨_, rfl⟩
  obtain ⟨st, hst⟩ : ∃ x, x = g.sites := ⟨_, rfl⟩
  have HRR := Lib.hid (And.intro hrv hst)
  rw [eb, ← hrv, ← hst]
  obtain ⟨q0, q1, q2⟩ := own3 (MapKept.heap_alloc w (.cells #[rv, .int .i64 st, .slice bo N bcp] 25)).1
  obtain ⟨W1, hW1⟩ : ∃ W1, W1 = w.alloc (.cells #[rv, .int .i64 st, .slice bo N bcp] 25) := ⟨_, rfl⟩
  have hb1 : Below w.heap.size w W1 := by rw [hW1]; exact below_box w _
  have hz1 : W1.heap.size = w.heap.size + 1 := by rw [hW1]; simp
  have hG1 : W1.heap[w.heap.size]? = some (.cells #[rv, .int .i64 st, .slice bo N bcp] 25 (0, 0)) := by rw [hW1]; exact (MapKept.heap_alloc _ _).1
  have hmb := may_any B g W1 (hI.keeps (hb1.mono hBw)) (by omega)
  rw [eb, ← hrv, ← hst] at hmb
  have HMB := Lib.hid hmb
  have HW1 := Lib.hid hW1
  have HB1 := Lib.hid hb1
  have HG1 := Lib.hid hG1
  rw [hm] at HMB
  unfold RcE
  rw [← hN]
  clear hI hg hN eb hrv hst hbl hW1 hb1 hG1 hmb hbg
  go_enter Tryd.func25, Tryd.ntmps25
  go_wp2_with fail
  rw [← HW1.out]
  clear q0 q1 q2
  refine HMB.out.mono ?_; rintro e W2 ⟨rfl, hb2⟩
  obtain ⟨q0, q1, q2⟩ := own3 ((hb2.block w.heap.size (by omega)).trans HG1.out)
  have hbb := HB1.out.trans (hb2.mono (by omega))
  have hre := reached_any B g W2 HG.out (HI.out.keeps (hbb.mono hBw)) (by have := hb2.size; omega)
  rw [HEB.out, ← HRR.out.1, ← HRR.out.2] at hre
  have HRE := Lib.hid hre
  have HBB := Lib.hid hbb
  have hs2 := hb2.size
  clear hb2 hbb hre
  go_wp2_with fail
  refine HRE.out.mono ?_; rintro e W3 ⟨R, gR, rfl, h1, h2, h3, h4, h5⟩
  rw [← HN.out] at h3 ⊢
  have HE := Lib.hid (show ∃ R gR', Ending.returned (.tuple #[.slice (some ⟨gR, 0, none⟩) N N, .int .i64 0]) = .returned (.tuple #[.slice (some ⟨gR', 0, none⟩) N N, .int .i64 0]) ∧ w.heap.size ≤ gR' ∧ W3.heap[gR']? = some (.cells (boolA R) 4 (0, 0)) ∧ R.length = N ∧ (∀ x, bitAt R x = true ↔ Rc g.blocks x) ∧ Below w.heap.size w W3 from
    ⟨R, gR, rfl, by omega, h2, h3, h4, HBB.out.trans (h5.mono (by omega))⟩)
  clear h1 h2 h3 h4 h5
  go_wp2_with fail
  go_ret2
  exact HE.out
end Go.Proofs.YtgkjhnghibpeoaaDoor
namespace Go.Proofs.YtgkjhnghibpeoaaDoor
open Go.RowKit
set_option maxRecDepth 1000000
attribute [local go_sem ↓] bld_eq bls_eq


theorem Wr.comp {S S' : Nat → Prop} {a b c : World} (h : Wr S a b) (k : Wr S' b c) (hS : ∀ x, x < a.heap.size → S' x → S x) : Wr S a c :=
  ⟨k.os.trans h.os, k.tape.trans h.tape, k.output.trans h.output, Nat.le_trans h.size k.size, fun g h1 h2 => (k.block g (Nat.lt_of_lt_of_le h1 h.size) (fun q => h2 (hS g h1 q))).trans (h.block g h1 h2)⟩
def natsV (r : List Nat) : List Value := r.map fun (n : Nat) => Value.int .i64 (n : Int)
/-- Rows that grow, each in a block of its own. -/
structure AhdM (w : World) (lo gA N : Nat) (vs : List Value) (A : List (List Nat)) : Prop where
  row : w.heap[gA]? = some (.cells vs.toArray 37 (0, 0))
  vlen : vs.length = N
  len : A.length = N
  own : ∀ (y : Nat) (v : Value) (r : List Nat), vs[y]? = some v → A[y]? = some r → w.ownsRow lo 3 1 v r.length (natsV r)
  sep : ∀ (y y' : Nat) (v v' : Value) (k : Nat), y ≠ y' → vs[y]? = some v → vs[y']? = some v' → v.ownBlock = some k → v'.ownBlock ≠ some k
  notA : ∀ (y : Nat) (v : Value), vs[y]? = some v → v.ownBlock ≠ some gA
theorem AhdM.keeps {w w' : World} {lo gA N : Nat} {vs : List Value} {A : List (List Nat)} (h : AhdM w lo gA N vs A) (hb : Below w.heap.size w w') : AhdM w' lo gA N vs A :=
  ⟨(hb.block _ (Array.getElem?_eq_some_iff.1 h.row).1).trans h.row, h.vlen, h.len, fun y v r h1 h2 => (h.own y v r h1 h2).kept (row := none) ⟨hb.os, hb.tape, hb.output, hb.size, fun k hk _ => hb.block k hk⟩ (by cases v.ownBlock <;> simp), h.sep, h.notA⟩
theorem infoIntF : (Tryd.prog.info? 3).map (fun i => (i.zero, i.size, i.bytes)) = some (some (.int .i64 0), 1, 8) := by kernel_rfl
theorem AhdM.push {w : World} {lo gA N : Nat} {vs : List Value} {A : List (List Nat)} (h : AhdM w lo gA N vs A) (hlo : lo ≤ w.heap.size) {y n : Nat} {v : Value} {r : List Nat} (hv : vs[y]? = some v) (hr : A[y]? = some r) (hl : r.length ≤ 4096) :
    ∃ gq cap w8, (Builtin.append_ #[37, 37] 37 #[v, .slice (some ⟨w.heap.size, 0, none⟩) 1 1]).run Tryd.prog (w.alloc (.cells #[.int .i64 (n : Int)] 3)) = .ok (.slice (some ⟨gq, 0, none⟩) (r.length + 1) cap) w8 ∧
      w8.cell? ⟨gA, y, none⟩ = some v ∧ w8.frozen? ⟨gA, y, none⟩ = false ∧ gA < w8.heap.size ∧
      AhdM (w8.setCell ⟨gA, y, none⟩ (.slice (some ⟨gq, 0, none⟩) (r.length + 1) cap)) lo gA N (vs.set y (.slice (some ⟨gq, 0, none⟩) (r.length + 1) cap)) (A.set y (r ++ [n])) ∧
      Wr (fun x => x = gA ∨ v.ownBlock = some x) w (w8.setCell ⟨gA, y, none⟩ (.slice (some ⟨gq, 0, none⟩) (r.length + 1) cap)) ∧ (v.ownBlock = some gq ∨ w.heap.size ≤ gq) ∧ (∀ x, x < w.heap.size → v.ownBlock ≠ some x → w8.heap[x]? = w.heap[x]?) := by
  obtain ⟨i, hi, hz, hs, hb⟩ := info_parts infoIntF
  have hgA := (Array.getElem?_eq_some_iff.1 h.row).1
  obtain ⟨U, hU⟩ : ∃ U, U = w.alloc (.cells #[.int .i64 (n : Int)] 3) := ⟨_, rfl⟩
  have hbU : Below w.heap.size w U := by rw [hU]; exact below_box w _
  have hzU : U.heap.size = w.heap.size + 1 := by rw [hU]; simp
  have hN : U.heap[w.heap.size]? = some (.cells #[.int .i64 (n : Int)] 3 (0, 0)) := by rw [hU]; exact (MapKept.heap_alloc _ _).1
  have hMU := h.keeps hbU
  have ho := hMU.own y v r hv hr
  rw [← hU]
  obtain ⟨gq, cap, w8, hrun, hown, hg, hat, hlt⟩ := run_append_lies (P := Tryd.prog) U 37 37 lo 3 i (.int .i64 0) 1 8 Tryd.underlying37 hi hz hs hb rfl (by decide) v r.length (natsV r) ho ⟨w.heap.size, 0, none⟩ 1 1 [.int .i64 (n : Int)] rfl
    (fun j u hu => by
      cases j with
      | zero => simp at hu; subst hu; rw [show (⟨w.heap.size, 0, none⟩ : Addr).add 0 = ⟨w.heap.size, 0, none⟩ by rfl, Lib.cell_of_heap hN]; rfl
      | succ j => simp at hu) (fun u hu => by simp at hu; subst hu; rfl) (by decide) (by unfold maxLen; omega) (by omega) (by omega) U.heap.size rfl
  refine ⟨gq, cap, w8, ?_⟩
  obtain ⟨nv, hnv⟩ : ∃ nv, nv = Value.slice (some ⟨gq, 0, none⟩) (r.length + 1) cap := ⟨_, rfl⟩
  rw [← hnv] at hrun hown ⊢
  have hnb : nv.ownBlock = some gq := by rw [hnv]; rfl
  have hne : v.ownBlock ≠ some gA := h.notA y v hv
  have hrow8 : w8.heap[gA]? = some (.cells vs.toArray 37 (0, 0)) := (hg.block gA (by omega) (fun q => hne q.symm)).trans hMU.row
  have hqA : gq ≠ gA := by
    rcases hat with q | q
    · intro e; subst e; exact hne q
    · omega
  have hlow : lo ≤ gq := by
    have := hown.lt gq hnb
    exact this.1
  have hyl := some_lt hv
  have hset := heap_setCell_same w8 gA y _ _ nv hrow8
  have hoth : ∀ x, x ≠ gA → (w8.setCell ⟨gA, y, none⟩ nv).heap[x]? = w8.heap[x]? := fun x hx => Below.heap_setCell _ _ _ _ hx
  have hgb : w8.grownBy (w8.setCell ⟨gA, y, none⟩ nv) (some gA) := ⟨rfl, rfl, rfl, by rw [size_set]; exact Nat.le_refl _, fun k hk hk2 => hoth k (fun e => hk2 (by rw [e]))⟩
  refine ⟨hrun, ?_, Lib.frozen_of_heap hrow8 y, (Array.getElem?_eq_some_iff.1 hrow8).1, ⟨?_, by simpa using h.vlen, by simpa using h.len, fun y' v' r' h1 h2 => ?_, fun y1 y2 v1 v2 k hne2 h1 h2 hk => ?_, fun y' v' h1 => ?_⟩, ⟨hg.os.trans hbU.os, hg.tape.trans hbU.tape, hg.output.trans hbU.output, by rw [size_set]; exact Nat.le_trans hbU.size hg.size, fun x hx hnx => ?_⟩, ?_, fun x hx hnx => by rw [hg.block x (by omega) (fun q => hnx q.symm)]; exact hbU.block x hx⟩
  · rw [Lib.cell_of_heap hrow8]; simpa using hv
  · rw [hset, List.setIfInBounds_toArray]
  · by_cases e : y' = y
    · subst e
      rw [List.getElem?_set, if_pos rfl, if_pos hyl] at h1
      rw [List.getElem?_set, if_pos rfl, if_pos (some_lt hr)] at h2
      cases h1; cases h2
      have := hown.kept hgb (.inr (by rw [hnb]; intro q; cases q; exact hqA rfl))
      rw [List.length_append, List.length_singleton, natsV, List.map_append]
      exact this
    · rw [List.getElem?_set, if_neg (fun q => e q.symm)] at h1 h2
      have h3 := hMU.own y' v' r' h1 h2
      have h4 : v'.ownBlock = none ∨ v'.ownBlock ≠ v.ownBlock := by
        cases hk : v'.ownBlock with
        | none => exact .inl rfl
        | some k => exact .inr (fun q => h.sep y' y v' v k e h1 hv hk q.symm)
      have h5 := h3.kept hg h4
      exact h5.kept hgb (by
        cases hk : v'.ownBlock with
        | none => exact .inl rfl
        | some k => exact .inr (fun q => h.notA y' v' h1 (hk.trans q)))
  · rw [List.getElem?_set] at h1 h2
    have hfar : ∀ y3 v3, y3 ≠ y → vs[y3]? = some v3 → v3.ownBlock ≠ some gq := fun y3 v3 hy3 hv3 q => by
      rcases hat with p | p
      · exact h.sep y3 y v3 v gq hy3 hv3 hv q p
      · have := ((hMU.own y3 v3 (A[y3]'(by rw [h.len, ← h.vlen]; exact some_lt hv3)) hv3 (List.getElem?_eq_getElem _)).lt gq q).2
        omega
    by_cases e1 : y = y1
    · subst e1
      rw [if_pos rfl, if_pos hyl] at h1
      cases h1
      rw [if_neg hne2] at h2
      rw [hnb] at hk
      cases hk
      exact hfar y2 v2 (fun q => hne2 q.symm) h2
    · rw [if_neg e1] at h1
      by_cases e2 : y = y2
      · subst e2
        rw [if_pos rfl, if_pos hyl] at h2
        cases h2
        rw [hnb]
        intro q
        cases q
        exact hfar y1 v1 (fun q => e1 q.symm) h1 hk
      · rw [if_neg e2] at h2
        exact h.sep y1 y2 v1 v2 k hne2 h1 h2 hk
  · rw [List.getElem?_set] at h1
    by_cases e1 : y = y'
    · rw [if_pos e1, if_pos hyl] at h1
      cases h1; rw [hnb]; intro q; cases q; exact hqA rfl
    · rw [if_neg e1] at h1
      exact h.notA y' v' h1
  · simp only [not_or] at hnx
    rw [hoth x hnx.1, hg.block x (by omega) (fun q => hnx.2 q.symm)]
    exact hbU.block x hx
  · rcases hat with q | q
    · exact .inl q
    · exact .inr (by omega)
theorem make_rows (n : Nat) (hn : n ≤ 8192) (w : World) : (Instr.makeSlice 28 (.int .i64 (n : Int)) (.int .i64 (n : Int))).run Tryd.prog w = .ok (.slice (some ⟨w.heap.size, 0, none⟩) n n) (w.alloc (.cells (List.replicate n (.slice none 0 0)).toArray 37)) :=
  make_list 28 37 (.slice none 0 0) 24 (by kernel_rfl) rfl (by kernel_rfl) n hn (by decide) w
theorem ahdR_len (bl : List Bk) (R : List Bool) (k y : Nat) : (ahdR bl R k y).length ≤ k := by
  unfold ahdR
  have := List.length_filter_le (fun n => bitAt R n && goesB bl n y) (List.range k)
  simpa using this
end Go.Proofs.YtgkjhnghibpeoaaDoor
