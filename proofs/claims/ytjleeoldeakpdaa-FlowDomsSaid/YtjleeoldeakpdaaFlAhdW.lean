/- Which blocks lead to each. -/
import Derived.Test.YtjleeoldeakpdaaRows
import Derived.Test.YtjleeoldeakpdaaFlIns
import Derived.Deep.AppendLies
import Derived.Laws.OwnMore
import Derived.Laws.MakeOwn
import Derived.Laws.AppendOwn
import Derived.Test.YtjleeoldeakpdaaIrLeaf
import Derived.Test.YtjleeoldeakpdaaFlMem
import Derived.Test.YtjleeoldeakpdaaParseOrder
import Derived.LoopTactic
import Derived.LoopN
import Derived.Deep.LoopGhost
import Derived.WalkKit
import Derived.WalkSpells
import Derived.WalkLawsBesides
import Derived.Lib.Hide
import Derived.OrdersHeld
import Derived.Deep.RegionHeld
import Derived.Deep.DrawnRows
import Derived.RegionTactic
import Derived.Deep.RegionHeld3
import Derived.IntWalk
import Derived.Deep.QuietTactic
import Derived.BigQuiet
import Derived.Lib.AppendZeros
namespace Go.Proofs.Ytjleeoldeakpdaa
open Go.RowKit
set_option maxRecDepth 1000000
attribute [local go_sem ↓] bld_eq bls_eq


theorem Wr.comp {S S' : Nat → Prop} {a b c : World} (h : Wr S a b) (k : Wr S' b c) (hS : ∀ x, x < a.heap.size → S' x → S x) : Wr S a c :=
  ⟨k.os.trans h.os, k.tape.trans h.tape, k.output.trans h.output, Nat.le_trans h.size k.size, fun g h1 h2 => (k.block g (Nat.lt_of_lt_of_le h1 h.size) (fun q => h2 (hS g h1 q))).trans (h.block g h1 h2)⟩
def natsV (r : List Nat) : List Value := r.map fun (n : Nat) => Value.int .i64 (n : Int)
/-- Rows that grow, each in a block of its own. -/
structure AhdM (w : World) (lo gA N : Nat) (vs : List Value) (A : List (List Nat)) : Prop where
  row : w.heap[gA]? = some (.cells vs.toArray 34 (0, 0))
  vlen : vs.length = N
  len : A.length = N
  own : ∀ (y : Nat) (v : Value) (r : List Nat), vs[y]? = some v → A[y]? = some r → w.ownsRow lo 3 1 v r.length (natsV r)
  sep : ∀ (y y' : Nat) (v v' : Value) (k : Nat), y ≠ y' → vs[y]? = some v → vs[y']? = some v' → v.ownBlock = some k → v'.ownBlock ≠ some k
  notA : ∀ (y : Nat) (v : Value), vs[y]? = some v → v.ownBlock ≠ some gA
theorem AhdM.keeps {w w' : World} {lo gA N : Nat} {vs : List Value} {A : List (List Nat)} (h : AhdM w lo gA N vs A) (hb : Below w.heap.size w w') : AhdM w' lo gA N vs A :=
  ⟨(hb.block _ (Array.getElem?_eq_some_iff.1 h.row).1).trans h.row, h.vlen, h.len, fun y v r h1 h2 => (h.own y v r h1 h2).kept (row := none) ⟨hb.os, hb.tape, hb.output, hb.size, fun k hk _ => hb.block k hk⟩ (by cases v.ownBlock <;> simp), h.sep, h.notA⟩
theorem infoIntF : (Try.prog.info? 3).map (fun i => (i.zero, i.size, i.bytes)) = some (some (.int .i64 0), 1, 8) := by kernel_rfl
theorem AhdM.push {w : World} {lo gA N : Nat} {vs : List Value} {A : List (List Nat)} (h : AhdM w lo gA N vs A) (hlo : lo ≤ w.heap.size) {y n : Nat} {v : Value} {r : List Nat} (hv : vs[y]? = some v) (hr : A[y]? = some r) (hl : r.length ≤ 4096) :
    ∃ gq cap w8, (Builtin.append_ #[34, 34] 34 #[v, .slice (some ⟨w.heap.size, 0, none⟩) 1 1]).run Try.prog (w.alloc (.cells #[.int .i64 (n : Int)] 3)) = .ok (.slice (some ⟨gq, 0, none⟩) (r.length + 1) cap) w8 ∧
      w8.cell? ⟨gA, y, none⟩ = some v ∧ w8.frozen? ⟨gA, y, none⟩ = false ∧ gA < w8.heap.size ∧
      AhdM (w8.setCell ⟨gA, y, none⟩ (.slice (some ⟨gq, 0, none⟩) (r.length + 1) cap)) lo gA N (vs.set y (.slice (some ⟨gq, 0, none⟩) (r.length + 1) cap)) (A.set y (r ++ [n])) ∧
      Wr (fun x => x = gA ∨ v.ownBlock = some x) w (w8.setCell ⟨gA, y, none⟩ (.slice (some ⟨gq, 0, none⟩) (r.length + 1) cap)) ∧ (v.ownBlock = some gq ∨ w.heap.size ≤ gq) := by
  obtain ⟨i, hi, hz, hs, hb⟩ := info_parts infoIntF
  have hgA := (Array.getElem?_eq_some_iff.1 h.row).1
  obtain ⟨U, hU⟩ : ∃ U, U = w.alloc (.cells #[.int .i64 (n : Int)] 3) := ⟨_, rfl⟩
  have hbU : Below w.heap.size w U := by rw [hU]; exact below_box w _
  have hzU : U.heap.size = w.heap.size + 1 := by rw [hU]; simp
  have hN : U.heap[w.heap.size]? = some (.cells #[.int .i64 (n : Int)] 3 (0, 0)) := by rw [hU]; exact (MapKept.heap_alloc _ _).1
  have hMU := h.keeps hbU
  have ho := hMU.own y v r hv hr
  rw [← hU]
  obtain ⟨gq, cap, w8, hrun, hown, hg, hat, hlt⟩ := run_append_lies (P := Try.prog) U 34 34 lo 3 i (.int .i64 0) 1 8 Try.underlying34 hi hz hs hb rfl (by decide) v r.length (natsV r) ho ⟨w.heap.size, 0, none⟩ 1 1 [.int .i64 (n : Int)] rfl
    (fun j u hu => by
      cases j with
      | zero => simp at hu; subst hu; rw [show (⟨w.heap.size, 0, none⟩ : Addr).add 0 = ⟨w.heap.size, 0, none⟩ by rfl, Lib.cell_of_heap hN]; rfl
      | succ j => simp at hu) (fun u hu => by simp at hu; subst hu; rfl) (by decide) (by unfold maxLen; omega) (by omega) (by omega) U.heap.size rfl
  refine ⟨gq, cap, w8, ?_⟩
  obtain ⟨nv, hnv⟩ : ∃ nv, nv = Value.slice (some ⟨gq, 0, none⟩) (r.length + 1) cap := ⟨_, rfl⟩
  rw [← hnv] at hrun hown ⊢
  have hnb : nv.ownBlock = some gq := by rw [hnv]; rfl
  have hne : v.ownBlock ≠ some gA := h.notA y v hv
  have hrow8 : w8.heap[gA]? = some (.cells vs.toArray 34 (0, 0)) := (hg.block gA (by omega) (fun q => hne q.symm)).trans hMU.row
  have hqA : gq ≠ gA := by
    rcases hat with q | q
    · intro e; subst e; exact hne q
    · omega
  have hlow : lo ≤ gq := by
    have := hown.lt gq hnb
    exact this.1
  have hyl := some_lt hv
  have hset := heap_setCell_same w8 gA y _ _ nv hrow8
  have hoth : ∀ x, x ≠ gA → (w8.setCell ⟨gA, y, none⟩ nv).heap[x]? = w8.heap[x]? := fun x hx => Below.heap_setCell _ _ _ _ hx
  have hgb : w8.grownBy (w8.setCell ⟨gA, y, none⟩ nv) (some gA) := ⟨rfl, rfl, rfl, by rw [size_set]; exact Nat.le_refl _, fun k hk hk2 => hoth k (fun e => hk2 (by rw [e]))⟩
  refine ⟨hrun, ?_, Lib.frozen_of_heap hrow8 y, (Array.getElem?_eq_some_iff.1 hrow8).1, ⟨?_, by simpa using h.vlen, by simpa using h.len, fun y' v' r' h1 h2 => ?_, fun y1 y2 v1 v2 k hne2 h1 h2 hk => ?_, fun y' v' h1 => ?_⟩, ⟨hg.os.trans hbU.os, hg.tape.trans hbU.tape, hg.output.trans hbU.output, by rw [size_set]; exact Nat.le_trans hbU.size hg.size, fun x hx hnx => ?_⟩, ?_⟩
  · rw [Lib.cell_of_heap hrow8]; simpa using hv
  · rw [hset, List.setIfInBounds_toArray]
  · by_cases e : y' = y
    · subst e
      rw [List.getElem?_set, if_pos rfl, if_pos hyl] at h1
      rw [List.getElem?_set, if_pos rfl, if_pos (some_lt hr)] at h2
      cases h1; cases h2
      have := hown.kept hgb (.inr (by rw [hnb]; intro q; cases q; exact hqA rfl))
      rw [List.length_append, List.length_singleton, natsV, List.map_append]
      exact this
    · rw [List.getElem?_set, if_neg (fun q => e q.symm)] at h1 h2
      have h3 := hMU.own y' v' r' h1 h2
      have h4 : v'.ownBlock = none ∨ v'.ownBlock ≠ v.ownBlock := by
        cases hk : v'.ownBlock with
        | none => exact .inl rfl
        | some k => exact .inr (fun q => h.sep y' y v' v k e h1 hv hk q.symm)
      have h5 := h3.kept hg h4
      exact h5.kept hgb (by
        cases hk : v'.ownBlock with
        | none => exact .inl rfl
        | some k => exact .inr (fun q => h.notA y' v' h1 (hk.trans q)))
  · rw [List.getElem?_set] at h1 h2
    have hfar : ∀ y3 v3, y3 ≠ y → vs[y3]? = some v3 → v3.ownBlock ≠ some gq := fun y3 v3 hy3 hv3 q => by
      rcases hat with p | p
      · exact h.sep y3 y v3 v gq hy3 hv3 hv q p
      · have := ((hMU.own y3 v3 (A[y3]'(by rw [h.len, ← h.vlen]; exact some_lt hv3)) hv3 (List.getElem?_eq_getElem _)).lt gq q).2
        omega
    by_cases e1 : y = y1
    · subst e1
      rw [if_pos rfl, if_pos hyl] at h1
      cases h1
      rw [if_neg hne2] at h2
      rw [hnb] at hk
      cases hk
      exact hfar y2 v2 (fun q => hne2 q.symm) h2
    · rw [if_neg e1] at h1
      by_cases e2 : y = y2
      · subst e2
        rw [if_pos rfl, if_pos hyl] at h2
        cases h2
        rw [hnb]
        intro q
        cases q
        exact hfar y1 v1 (fun q => e1 q.symm) h1 hk
      · rw [if_neg e2] at h2
        exact h.sep y1 y2 v1 v2 k hne2 h1 h2 hk
  · rw [List.getElem?_set] at h1
    by_cases e1 : y = y'
    · rw [if_pos e1, if_pos hyl] at h1
      cases h1; rw [hnb]; intro q; cases q; exact hqA rfl
    · rw [if_neg e1] at h1
      exact h.notA y' v' h1
  · simp only [not_or] at hnx
    rw [hoth x hnx.1, hg.block x (by omega) (fun q => hnx.2 q.symm)]
    exact hbU.block x hx
  · rcases hat with q | q
    · exact .inl q
    · exact .inr (by omega)
theorem make_rows (n : Nat) (hn : n ≤ 8192) (w : World) : (Instr.makeSlice 31 (.int .i64 (n : Int)) (.int .i64 (n : Int))).run Try.prog w = .ok (.slice (some ⟨w.heap.size, 0, none⟩) n n) (w.alloc (.cells (List.replicate n (.slice none 0 0)).toArray 34)) :=
  make_list 31 34 (.slice none 0 0) 24 (by kernel_rfl) rfl (by kernel_rfl) n hn (by decide) w
theorem ahdR_len (bl : List Bk) (R : List Bool) (k y : Nat) : (ahdR bl R k y).length ≤ k := by
  unfold ahdR
  have := List.length_filter_le (fun n => bitAt R n && goesB bl n y) (List.range k)
  simpa using this
end Go.Proofs.Ytjleeoldeakpdaa
namespace Go.Proofs.Ytjleeoldeakpdaa
open Go.RowKit
set_option maxRecDepth 1000000
attribute [local go_sem ↓] bld_eq bls_eq


/-- What Ahead answers. -/
def AhE (bl : List Bk) (w : World) (e : Ending) (w' : World) : Prop := ∃ gA vs A R lo, e = .returned (.tuple #[.slice (some ⟨gA, 0, none⟩) bl.length bl.length, .int .i64 0]) ∧ w.heap.size ≤ gA ∧ AhdM w' lo gA bl.length vs A ∧ w.heap.size ≤ lo ∧ (∀ x, bitAt R x = true ↔ Rc bl x) ∧ AhdI bl R bl.length A ∧ Below w.heap.size w w'
set_option maxHeartbeats 32000000 in
theorem ahead_any (B : Nat) (g : Gr) (w : World) (hI : GIn w B g) (hBw : B ≤ w.heap.size) (hm : mayB g = true) :
    Calls Try.prog 8 #[.agg #[g.rv, .int .i64 g.sites, g.bv]] w (AhE g.blocks w) := by
  have hg := fok_of hm
  obtain ⟨bo, bcp, eb, hbl, hbg⟩ := hI.blies.form
  obtain ⟨N, hN⟩ : ∃ N, N = g.blocks.length := ⟨_, rfl⟩
  rw [← hN] at eb hbg
  have hn8 : N ≤ 4096 := by rw [hN]; exact hg.room
  have HI := Lib.hid hI
  have HG := Lib.hid hg
  have HN := Lib.hid hN
  have HEB := Lib.hid eb
  obtain ⟨rv, hrv⟩ : ∃ x, x = g.rv := ⟨_, rfl⟩
  obtain ⟨st, hst⟩ : ∃ x, x = g.sites := ⟨_, rfl⟩
  have HRR := Lib.hid (And.intro hrv hst)
  rw [eb, ← hrv, ← hst]
  obtain ⟨q0, q1, q2⟩ := own3 (MapKept.heap_alloc w (.cells #[rv, .int .i64 st, .slice bo N bcp] 25)).1
  obtain ⟨W1, hW1⟩ : ∃ W1, W1 = w.alloc (.cells #[rv, .int .i64 st, .slice bo N bcp] 25) := ⟨_, rfl⟩
  have hb1 : Below w.heap.size w W1 := by rw [hW1]; exact below_box w _
  have hz1 : W1.heap.size = w.heap.size + 1 := by rw [hW1]; simp
  have hG1 : W1.heap[w.heap.size]? = some (.cells #[rv, .int .i64 st, .slice bo N bcp] 25 (0, 0)) := by rw [hW1]; exact (MapKept.heap_alloc _ _).1
  have hmb := may_any B g W1 (hI.keeps (hb1.mono hBw)) (by omega)
  rw [eb, ← hrv, ← hst] at hmb
  have HMB := Lib.hid hmb
  have HW1 := Lib.hid hW1
  have HB1 := Lib.hid hb1
  have HG1 := Lib.hid hG1
  rw [hm] at HMB
  have m1 := make_rows N (by omega)
  obtain ⟨M1, hM1⟩ : ∃ M, M = (List.replicate N (Value.slice none 0 0)).toArray := ⟨_, rfl⟩
  rw [← hM1] at m1
  have HM1 := Lib.hid hM1
  clear hI hg hN eb hrv hst hbl hW1 hb1 hG1 hmb hM1
  go_enter Try.func8, Try.ntmps8
  go_wp2_with fail
  rw [← HW1.out]
  clear q0 q1 q2
  refine HMB.out.mono ?_; rintro e W2 ⟨rfl, hb2⟩
  have hs2 := hb2.size
  obtain ⟨q0, q1, q2⟩ := own3 ((hb2.block w.heap.size (by omega)).trans HG1.out)
  obtain ⟨W3, hW3⟩ : ∃ W3, W3 = W2.alloc (.cells M1 34) := ⟨_, rfl⟩
  have hD3 : W3.heap[W2.heap.size]? = some (.cells (List.replicate N (Value.slice none 0 0)).toArray 34 (0, 0)) := by rw [hW3, HM1.out]; exact (MapKept.heap_alloc _ _).1
  have hz3 : W3.heap.size = W2.heap.size + 1 := by rw [hW3]; simp
  have hb23 : Below W2.heap.size W2 W3 := by rw [hW3]; exact below_box W2 _
  have hb3 := (HB1.out.trans (hb2.mono (by omega))).trans (hb23.mono (by omega))
  have hor := reached_any B g W3 HG.out (HI.out.keeps (hb3.mono hBw)) (by omega)
  rw [HEB.out, ← HRR.out.1, ← HRR.out.2] at hor
  have HOR := Lib.hid hor
  have HG3 := Lib.hid ((hb23.block w.heap.size (by omega)).trans ((hb2.block w.heap.size (by omega)).trans HG1.out))
  have HB3 := Lib.hid hb3
  have HD3 := Lib.hid hD3
  have HW3 := Lib.hid hW3
  have hlw : w.heap.size < W2.heap.size := by omega
  clear hb2 hD3 hW3 hb23 hb3 hor
  go_wp2_with fail
  rw [← HW3.out]
  clear q0 q1 q2
  refine HOR.out.mono ?_; rintro e W5 ⟨R, gR, rfl, hgR, hR, hRl, hRm, hb5⟩
  rw [← HN.out] at hRl ⊢
  have hs5 := hb5.size
  have hgRs : gR < W5.heap.size := (Array.getElem?_eq_some_iff.1 hR).1
  have hA5 : AhdM W5 W5.heap.size W2.heap.size N (List.replicate N (.slice none 0 0)) (List.replicate N []) := by
    have hnil : ∀ (y : Nat) (v : Value), (List.replicate N (Value.slice none 0 0))[y]? = some v → v = .slice none 0 0 := fun y v h => by
      rw [List.getElem?_replicate] at h
      split at h
      · cases h; rfl
      · cases h
    refine ⟨(hb5.block _ (by omega)).trans HD3.out, by simp, by simp, fun y v r h1 h2 => ?_, fun y y' v v' k _ h1 _ hk => ?_, fun y v h1 => ?_⟩
    · rw [hnil y v h1]
      rw [List.getElem?_replicate] at h2
      split at h2
      · cases h2; exact World.ownsRow_nil _ _ _ _
      · cases h2
    · rw [hnil y v h1] at hk; cases hk
    · rw [hnil y v h1]; intro q; cases q
  have HA5 := Lib.hid hA5
  have HR5 := Lib.hid hR
  have HRL := Lib.hid hRl
  have HRM := Lib.hid hRm
  have HG5 := Lib.hid ((hb5.block w.heap.size (by omega)).trans HG3.out)
  have HB5 := Lib.hid (HB3.out.trans (hb5.mono (by omega)))
  clear hA5 hR hRl hRm hb5
  go_wp2_with fail
  go_loopw [19] (fun q wr => ∃ k : Nat, k ≤ N ∧ q = .int .i64 (k : Int) ∧ Hid (∃ vs A, AhdM wr W5.heap.size W2.heap.size N vs A ∧ AhdI g.blocks R k A ∧ Wr (fun b => b = W2.heap.size) W5 wr)) (fun q _ => N - (intOf q).toNat)
  case atStart => exact ⟨0, Nat.zero_le _, rfl, Lib.hid ⟨_, _, HA5.out, by
    have h := AhdI.start g.blocks R
    rw [← HN.out] at h
    exact h, Wr.refl _ _⟩⟩
  case round =>
    rename World => V
    obtain ⟨k, hk, rfl, HR⟩ := hrel
    obtain ⟨vs, A, hAM, hAI, hwr⟩ := HR.out
    have hzr := hwr.size
    by_cases hlk : k < N
    · obtain ⟨bv, hbv⟩ : ∃ bv, R[k]? = some bv := ⟨_, List.getElem?_eq_getElem (by rw [HRL.out]; exact hlk)⟩
      have cR := boolA_at ((hwr.block gR hgRs (by omega)).trans HR5.out) hbv
      have hbe := bitAt_some hbv
      cases bv with
      | false =>
        have HQ := Lib.hid (And.intro hAM (And.intro (hAI.skip hbe) hwr))
        clear hAM hAI hwr HR hbv hbe
        go_wp2_with fail
        go_roundw
        case rel => exact ⟨k + 1, by omega, by go_num, Lib.hid ⟨_, _, HQ.out.1, HQ.out.2.1, HQ.out.2.2⟩⟩
        case measure => simp [intOf]; omega
      | true =>
        have hnl : k < g.blocks.length := by rw [← HN.out]; exact hlk
        have hbV : Below w.heap.size w V := HB5.out.trans (hwr.below (fun x hx => by omega) (by omega))
        have hIV := HI.out.keeps (hbV.mono hBw)
        obtain ⟨go, off, rfl, hgo⟩ := hbg (by omega)
        have hat := (hIV.blies.at HEB.out k hnl).2
        have hbi := hIV.blocks _ (List.getElem_mem hnl)
        have hbt : g.blocks[k]? = some g.blocks[k] := List.getElem?_eq_getElem hnl
        generalize g.blocks[k] = bk at hat hbi hbt
        obtain ⟨io, icap, eiv, -, -⟩ := hbi.lies.form
        have HNX := Lib.hid (fnext_any bk V ⟨_, _, _, eiv⟩)
        obtain ⟨IL, hIL⟩ : ∃ x, x = bk.ins.length := ⟨_, rfl⟩
        rw [← hIL] at eiv
        have hgV := (hwr.block w.heap.size (by omega) (by omega)).trans HG5.out
        obtain ⟨p0, p1, p2, p3, p4⟩ := bc hat
        rw [eiv] at p0 HNX
        obtain ⟨q0, q1, q2⟩ := own3 hgV
        have hgw : go < w.heap.size := by omega
        have HAM := Lib.hid hAM
        have HAI := Lib.hid hAI
        have HWR := Lib.hid hwr
        have HBT := Lib.hid hbt
        have HBE := Lib.hid hbe
        clear hAM hAI hwr HR hbV hIV hat hbi hbt eiv hbv hbe hIL hgV
        go_wp2_with fail
        refine HNX.out.mono ?_; rintro e V2 ⟨v2, rfl, hrow2, hb6⟩
        obtain ⟨ao2, cap2, rfl⟩ := hrow2.form
        have hc2 := nextF_len bk
        obtain ⟨c2, hcc⟩ : ∃ c, c = (nextF bk).length := ⟨_, rfl⟩
        rw [← hcc] at hc2 ⊢
        have hs6 := hb6.size
        have HC2 := Lib.hid hcc
        have HROW2 := Lib.hid hrow2
        have HB6 := Lib.hid hb6
        clear hrow2 hb6 hcc p0 p1 p2 p3 p4 q0 q1 q2 cR
        go_wp2_with fail
        go_loopw [33] (fun q wr => ∃ i : Nat, i ≤ c2 ∧ q = .int .i64 (i : Int) ∧ Hid (∃ vs A, AhdM wr W5.heap.size W2.heap.size N vs A ∧ AhdJ g.blocks R k ((nextF bk).take i) A ∧ Wr (fun b => b = W2.heap.size ∨ (W5.heap.size ≤ b ∧ b < V.heap.size)) V2 wr ∧ (∀ (y : Nat) (v : Value) (x : Nat), vs[y]? = some v → v.ownBlock = some x → x < V.heap.size ∨ V2.heap.size ≤ x))) (fun q _ => c2 - (intOf q).toNat)
        case atStart => exact ⟨0, Nat.zero_le _, rfl, Lib.hid ⟨vs, A, HAM.out.keeps HB6.out, HAI.out.begin, Wr.refl _ _, fun y v x h1 h2 => .inl (by
          obtain ⟨r, hr⟩ : ∃ r, A[y]? = some r := ⟨_, List.getElem?_eq_getElem (by rw [HAM.out.len, ← HAM.out.vlen]; exact some_lt h1)⟩
          exact ((HAM.out.own y v r h1 hr).lt x h2).2)⟩⟩
        case round =>
          obtain ⟨i, hi, rfl, HR2⟩ := hrel
          obtain ⟨vs2, A2, hM2, hJ, hwr2, hfar⟩ := HR2.out
          have hzr2 := hwr2.size
          by_cases hli : i < c2
          · have hix : i < (nextF bk).length := by rw [← HC2.out]; exact hli
            obtain ⟨gM, offM, rfl, hgm1, hgm2, hcell⟩ := (HROW2.out.keeps hwr2 (fun x hx => by omega)).get rfl hix
            have hyl := HG.out.lt HBT.out (List.getElem_mem hix)
            have htk : (nextF bk).take (i + 1) = (nextF bk).take i ++ [(nextF bk)[i]] := by rw [List.take_succ_eq_append_getElem hix]
            have hnd : (nextF bk)[i] ∉ (nextF bk).take i := fun hh => by
              obtain ⟨j, hj⟩ := List.mem_iff_getElem?.1 hh
              rw [List.getElem?_take] at hj
              split at hj
              · rename_i hji
                have hj2 := some_lt hj
                rw [List.getElem?_eq_getElem hj2] at hj
                injection hj with hj
                exact absurd hj ((List.pairwise_iff_getElem.1 (nextF_nodup bk)) j i hj2 hix hji)
              · cases hj
            generalize (nextF bk)[i] = y at hcell hyl htk hnd
            obtain ⟨y0, rfl⟩ : ∃ y0 : Nat, y = (y0 : Int) := ⟨y.toNat, by omega⟩
            have hyN : y0 < N := by rw [HN.out]; omega
            obtain ⟨v, hv⟩ : ∃ v, vs2[y0]? = some v := ⟨_, List.getElem?_eq_getElem (by rw [hM2.vlen]; exact hyN)⟩
            obtain ⟨hAy, hJ'⟩ := hJ.put (y := (y0 : Int)) (by omega) (by omega) hnd
            rw [Int.toNat_natCast] at hAy hJ'
            rw [← htk] at hJ'
            have hrl := ahdR_len g.blocks R k y0
            generalize ahdR g.blocks R k y0 = r at hAy hJ' hrl
            obtain ⟨gq, cap3, w8, hrun, hc8, hf8, hz8, hM9, hw9, hgq⟩ := hM2.push (n := k) (by omega) hv hAy (by omega)
            have cA : wr.cell? ⟨W2.heap.size, y0, none⟩ = some v := by rw [Lib.cell_of_heap hM2.row]; simpa using hv
            have hA2s : W2.heap.size < wr.heap.size := by omega
            obtain ⟨av, nv, cv, hvf⟩ : ∃ a n c, v = .slice a n c := by
              rcases (hM2.own y0 v r hv hAy).2 with ⟨q, _⟩ | ⟨_, _, _, q, _⟩
              · exact ⟨_, _, _, q⟩
              · exact ⟨_, _, _, q⟩
            have e1 := bls_of 34 3 1 1 #[(0, .int .i64 (k : Int))] #[.int .i64 (k : Int)] (by kernel_rfl) (by kernel_rfl) (by kernel_rfl) (by decide) (by decide) (by kernel_rfl) (by kernel_rfl) wr
            have hfar' : ∀ (y : Nat) (v' : Value) (x : Nat), (vs2.set y0 (.slice (some ⟨gq, 0, none⟩) (r.length + 1) cap3))[y]? = some v' → v'.ownBlock = some x → x < V.heap.size ∨ V2.heap.size ≤ x := fun y v' x h1 h2 => by
              rw [List.getElem?_set] at h1
              by_cases e : y0 = y
              · rw [if_pos e, if_pos (by rw [hM2.vlen]; exact hyN)] at h1
                cases h1
                have h3 : gq = x := by simpa [Value.ownBlock] using h2
                subst h3
                rcases hgq with q | q
                · exact hfar y0 v _ hv q
                · exact .inr (by omega)
              · rw [if_neg e] at h1
                exact hfar y v' x h1 h2
            have hwr9 := hwr2.comp hw9 (fun x hx q => by
              rcases q with q | q
              · exact .inl q
              · have h1 := ((hM2.own y0 v r hv hAy).lt x q).1
                rcases hfar y0 v x hv q with h2 | h2
                · exact .inr ⟨h1, h2⟩
                · omega)
            have HQ := Lib.hid (And.intro hM9 (And.intro hJ' (And.intro hwr9 hfar')))
            subst hvf
            have HRUN := Lib.hid hrun
            obtain ⟨RL, hRLe⟩ : ∃ x, x = r.length + 1 := ⟨_, rfl⟩
            rw [← hRLe] at HRUN HQ
            clear hM2 hJ hwr2 hfar HR2 hix hyl htk hnd hv hAy hJ' hrl hrun hM9 hw9 hgq hfar' hwr9 hRLe
            go_wp2_with (at_builtin; refine Lib.wpList_append_run _ rfl _ _ _ _ rfl _ _ rfl rfl _ _ HRUN.out ?_)
            go_roundw
            case rel => exact ⟨i + 1, by omega, by go_num, Lib.hid ⟨_, _, HQ.out.1, HQ.out.2.1, HQ.out.2.2.1, HQ.out.2.2.2⟩⟩
            case measure => simp [intOf]; omega
          · rw [List.take_of_length_le (by rw [← HC2.out]; omega)] at hJ
            have HQ := Lib.hid (And.intro hM2 (And.intro (hJ.next HBT.out HBE.out) (Wr.comp (HWR.out.trans (Wr.of HB6.out)) hwr2 (fun x hx q => by
              rcases q with q | ⟨q, _⟩
              · exact q
              · omega))))
            clear hM2 hJ hwr2 hfar HR2
            go_wp2_with fail
            go_roundw
            case rel => exact ⟨k + 1, by omega, by go_num, Lib.hid ⟨_, _, HQ.out.1, HQ.out.2.1, HQ.out.2.2⟩⟩
            case measure => simp [intOf]; omega
    · have hkN : k = N := by omega
      subst hkN
      rw [HN.out] at hAI
      have HE := Lib.hid (show AhE g.blocks w (.returned (.tuple #[.slice (some ⟨W2.heap.size, 0, none⟩) g.blocks.length g.blocks.length, .int .i64 0])) V from
        ⟨_, vs, A, R, W5.heap.size, rfl, by omega, by rw [← HN.out]; exact hAM, by omega, HRM.out, hAI, HB5.out.trans (hwr.below (fun x hx => by omega) (by omega))⟩)
      rw [← HN.out] at HE
      clear hAM hAI hwr HR
      go_wp2_with fail
      go_ret2
      exact HE.out
end Go.Proofs.Ytjleeoldeakpdaa
