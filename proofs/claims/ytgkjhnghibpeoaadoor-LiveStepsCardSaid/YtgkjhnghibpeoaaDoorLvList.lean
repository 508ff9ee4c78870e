/- The registers of a set as a row of their own. -/
import Derived.Test.YtgkjhnghibpeoaaDoorRows
import Derived.Test.YtgkjhnghibpeoaaDoorLvEach
import Derived.Test.YtgkjhnghibpeoaaDoorLvAhd
import Derived.Test.YtgkjhnghibpeoaaDoorLvLive
import Derived.RangeFuncNested
import Derived.RangeFuncBound
import Derived.RangeFuncCalls
import Derived.RangeFuncLeaves
import Derived.RangeFuncFrom
import Derived.Shelf.Abstract
import Derived.Shelf.RegionOpen
import Derived.OwnWalkIn
import Derived.TacticsInMore
import Derived.LoopNIn
import Derived.LoopIn
import Derived.Test.YtgkjhnghibpeoaaDoorIrLeaf
import Derived.Test.YtgkjhnghibpeoaaDoorIrNew
import Derived.Test.YtgkjhnghibpeoaaDoorParseOrder
import Derived.LoopTactic
import Derived.LoopN
import Derived.Deep.LoopGhost
import Derived.WalkKit
import Derived.WalkSpells
import Derived.WalkLawsBesides
import Derived.Lib.Hide
import Derived.OrdersHeld
import Derived.Deep.RegionHeld
import Derived.Deep.DrawnRows
import Derived.RegionTactic
import Derived.Deep.RegionHeld3
import Derived.IntWalk
import Derived.Deep.QuietTactic
import Derived.BigQuiet
namespace Go.Proofs.YtgkjhnghibpeoaaDoor
open Go.RowKit
set_option maxRecDepth 1000000
attribute [local go_sem ↓] bld_eq bls_eq


open Go.Shelf
attribute [local go_sem] Oper.semAt_some
theorem wpListIn_append_run {F : Fence} {n : Nat} {P : Program} {w : World} {ops : Array Oper} {rest : List Oper} {o : Oper} {a : Act} {Q : Exit → Act → World → Prop}
    (hg : o.guard = none) (s x : Operand) (t : TypeId) (hop : o.op = Op.call { callee := Callee.builtin Builtin.append, args := #[s, x], argTypes := #[t, t] })
    (v y r : Value) (w' : World) (hs : a.eval s = v) (hx : a.eval x = y) (hrun : (Builtin.append_ #[t, t] o.type #[v, y]).run P w = .ok r w')
    (hK : wpListIn F n P ops Q rest (a.put o.dst r) w') : wpListIn F n P ops Q (o :: rest) a w := by
  refine wpListIn_plain hg fun K hK' => ?_
  unfold Oper.wpIn
  refine ⟨?_, ?_⟩
  · simp [Oper.about, hop, resolve, Target.leads, Sem.run_pure]
  · rw [Oper.semAt_plain F _ _ (by rw [hop]; intro c hc'; cases hc')]
    simp [execOp, hop, resolve, invoke, builtin, hs, hx, hrun, Result.andThen]
    exact hK' _ _ hK
/-- Between two rounds: the row holds the first k. -/
def LstI (s : List Nat) (w : World) (gC B : Nat) (k : Nat) (W : World) : Prop :=
  ∃ v, W.heap[gC]? = some (.cells #[v] 37 (0, 0)) ∧ W.ownsRow (gC + 1) 3 1 v k (natsV ((listS s).take k)) ∧ Below w.heap.size w W ∧ B ≤ W.heap.size
theorem own_cells {W : World} {lo k : Nat} {v : Value} {xs : List Value} {e : TypeId} (h : W.ownsRow lo e 1 v k xs) {l : Nat} {o : Obj} (ho : W.heap[l]? = some o) (hn : o.isCells = false) : v.ownBlock = none ∨ v.ownBlock ≠ some l := by
  rcases h.2 with ⟨rfl, _⟩ | ⟨g, cap, cur, rfl, _, hg, _⟩
  · exact .inl rfl
  · refine .inr fun q => ?_
    have : g = l := by simpa [Value.ownBlock] using q
    subst this
    rw [ho] at hg
    cases hg
    cases hn
theorem LstI.mild {s : List Nat} {w : World} {gC B : Nat} (hg : gC < B) (hw : w.heap.size ≤ gC) : Mild B (LstI s w gC B) := by
  refine ⟨?_, ?_⟩
  · rintro k W o ⟨v, h1, h2, h3, h5⟩
    have hs := (Array.getElem?_eq_some_iff.1 h1).1
    have hb : Below W.heap.size W (W.alloc o) := (Below.refl _ W).alloc (Nat.le_refl _) _
    exact ⟨v, (Below.heap_alloc _ _ _ hs).trans h1, h2.kept (row := none) ⟨hb.os, hb.tape, hb.output, hb.size, fun k hk _ => hb.block k hk⟩ (by cases v.ownBlock <;> simp), h3.alloc h3.size _, Nat.le_trans h5 hb.size⟩
  · rintro k W l o o' ⟨v, h1, h2, h3, h5⟩ hl ho hn
    have hsz : (W.putObj l o').heap.size = W.heap.size := by simp
    refine ⟨v, (World.putObj_heap_other (by omega)).trans h1, h2.kept (row := some l) ⟨rfl, rfl, rfl, by rw [hsz]; exact Nat.le_refl _, fun k hk hk2 => World.putObj_heap_other (fun e => hk2 (by rw [e]))⟩ (own_cells h2 ho hn), ⟨h3.os, h3.tape, h3.output, by rw [hsz]; exact h3.size, fun g hg => (World.putObj_heap_other (by omega)).trans (h3.block g hg)⟩, by rw [hsz]; exact h5⟩
theorem LstI.push {s : List Nat} {w W : World} {gC B k x : Nat} (h : LstI s w gC B k W) (hw : w.heap.size ≤ gC) (hB : gC < B) (hx : (listS s)[k]? = some x) :
    ∃ v gq cap w8, W.cell? ⟨gC, 0, none⟩ = some v ∧ (Builtin.append_ #[37, 37] 37 #[v, .slice (some ⟨W.heap.size, 0, none⟩) 1 1]).run Tryd.prog (W.alloc (.cells #[.int .i64 (x : Int)] 3)) = .ok (.slice (some ⟨gq, 0, none⟩) (k + 1) cap) w8 ∧
      w8.cell? ⟨gC, 0, none⟩ = some v ∧ w8.frozen? ⟨gC, 0, none⟩ = false ∧ gC < w8.heap.size ∧
      LstI s w gC B (k + 1) (w8.setCell ⟨gC, 0, none⟩ (.slice (some ⟨gq, 0, none⟩) (k + 1) cap)) ∧ KeepsOthers W (w8.setCell ⟨gC, 0, none⟩ (.slice (some ⟨gq, 0, none⟩) (k + 1) cap)) ∧ Below w.heap.size w (w8.setCell ⟨gC, 0, none⟩ (.slice (some ⟨gq, 0, none⟩) (k + 1) cap)) := by
  obtain ⟨v, h1, h2, h3, h5⟩ := h
  obtain ⟨i, hi, hz, hs, hb⟩ := info_parts infoIntF
  have hgC := (Array.getElem?_eq_some_iff.1 h1).1
  have hk : k < 1024 := by have := (List.getElem?_eq_some_iff.1 hx).1; have := list_le s; omega
  obtain ⟨U, hU⟩ : ∃ U, U = W.alloc (.cells #[.int .i64 (x : Int)] 3) := ⟨_, rfl⟩
  have hbU : Below W.heap.size W U := by rw [hU]; exact below_box W _
  have hzU : U.heap.size = W.heap.size + 1 := by rw [hU]; simp
  have hN : U.heap[W.heap.size]? = some (.cells #[.int .i64 (x : Int)] 3 (0, 0)) := by rw [hU]; exact (MapKept.heap_alloc _ _).1
  have hoU := h2.kept (w' := U) (row := none) ⟨hbU.os, hbU.tape, hbU.output, hbU.size, fun k hk _ => hbU.block k hk⟩ (by cases v.ownBlock <;> simp)
  rw [← hU]
  obtain ⟨gq, cap, w8, hrun, hown, hg, hat, hlt⟩ := run_append_lies (P := Tryd.prog) U 37 37 (gC + 1) 3 i (.int .i64 0) 1 8 Tryd.underlying37 hi hz hs hb rfl (by decide) v k (natsV ((listS s).take k)) hoU ⟨W.heap.size, 0, none⟩ 1 1 [.int .i64 (x : Int)] rfl
    (fun j u hu => by
      cases j with
      | zero => simp at hu; subst hu; rw [show (⟨W.heap.size, 0, none⟩ : Addr).add 0 = ⟨W.heap.size, 0, none⟩ by rfl, Lib.cell_of_heap hN]; rfl
      | succ j => simp at hu) (fun u hu => by simp at hu; subst hu; rfl) (by decide) (by unfold maxLen; omega) (by omega) (by omega) U.heap.size rfl
  have hne : v.ownBlock ≠ some gC := fun q => by have := (h2.lt gC q).1; omega
  have hrow8 : w8.heap[gC]? = some (.cells #[v] 37 (0, 0)) := (hg.block gC (by omega) (fun q => hne q.symm)).trans ((hbU.block gC hgC).trans h1)
  have hlow := hown.lt gq rfl
  refine ⟨v, gq, cap, w8, ?_⟩
  obtain ⟨nv, hnv⟩ : ∃ nv, nv = Value.slice (some ⟨gq, 0, none⟩) (k + 1) cap := ⟨_, rfl⟩
  rw [← hnv] at hrun hown ⊢
  have hnb : nv.ownBlock = some gq := by rw [hnv]; rfl
  have hset := heap_setCell_same w8 gC 0 _ _ nv hrow8
  have hoth : ∀ y, y ≠ gC → (w8.setCell ⟨gC, 0, none⟩ nv).heap[y]? = w8.heap[y]? := fun y hy => Below.heap_setCell _ _ _ _ hy
  have hgb : w8.grownBy (w8.setCell ⟨gC, 0, none⟩ nv) (some gC) := ⟨rfl, rfl, rfl, by rw [size_set]; exact Nat.le_refl _, fun k hk hk2 => hoth k (fun e => hk2 (by rw [e]))⟩
  have hgcl : ∀ (j : Nat) (o : Obj), v.ownBlock = some j → U.heap[j]? = some o → o.isCells = true := fun j o hj ho => by
    cases hq : o.isCells with
    | true => rfl
    | false =>
      rcases own_cells hoU ho hq with q | q
      · rw [q] at hj; cases hj
      · exact absurd hj q
  have hsz8 : (w8.setCell ⟨gC, 0, none⟩ nv).heap.size = w8.heap.size := size_set _ _ _
  have hBel : Below w.heap.size w (w8.setCell ⟨gC, 0, none⟩ nv) := ⟨hg.os.trans (hbU.os.trans h3.os), hg.tape.trans (hbU.tape.trans h3.tape), hg.output.trans (hbU.output.trans h3.output), by rw [hsz8]; have := hg.size; have := h3.size; omega, fun y hy => by
    have := h3.size
    rw [hoth y (by omega), hg.block y (by omega) (fun q => by have := (h2.lt y q.symm).1; omega), hbU.block y (by omega), h3.block y hy]⟩
  refine ⟨one_at h1, hrun, by rw [Lib.cell_of_heap hrow8]; rfl, Lib.frozen_of_heap hrow8 0, (Array.getElem?_eq_some_iff.1 hrow8).1, ⟨nv, ?_, ?_, hBel, by rw [hsz8]; have := hg.size; omega⟩, ?_, hBel⟩
  · rw [hset]; rfl
  · have := hown.kept hgb (.inr (by rw [hnb]; intro q; cases q; omega))
    rw [List.take_add_one, hx]
    unfold natsV at this ⊢
    rw [List.map_append]
    exact this
  · exact ((KeepsOthers.alloc W _).trans (by rw [← hU]; exact KeepsOthers.of_grownBy hg hgcl)).trans (KeepsOthers.setCell _ _ _)
set_option maxHeartbeats 8000000 in
theorem list_any (s : List Nat) (hs : SOk s) (w : World) (hG : Good w) :
    Calls Tryd.prog 19 #[setV s] w fun e w' => ∃ v, e = .returned v ∧ RowAt w' w.heap.size v ((listS s).map fun (n : Nat) => (n : Int)) ∧ Below w.heap.size w w' := by
  have hmf : ∀ (fn : Go.Fn) (first cap : Array Value) (w : World), (Instr.makeFunc fn first cap).run Tryd.prog w = .ok (.func fn first cap) w := fun _ _ _ _ => rfl
  have hA1 := u64A_one s
  have hAs : (u64A s).size = 16 := by rw [u64A_size, hs.len]
  obtain ⟨A, hAe⟩ : ∃ A, A = u64A s := ⟨_, rfl⟩
  have hsv : setV s = .agg A := by rw [hAe]; rfl
  rw [← hAe] at hA1 hAs
  obtain ⟨W1, hW1⟩ : ∃ W1, W1 = (w.alloc (.cells A 58)).alloc (.cells #[.slice none 0 0] 37) := ⟨_, rfl⟩
  have z0 : (w.alloc (.cells A 58)).heap.size = w.heap.size + 1 := by simp
  have q0 : W1.heap[w.heap.size]? = some (.cells A 58 (0, 0)) := by rw [hW1]; exact (Below.heap_alloc _ _ _ (by omega)).trans (MapKept.heap_alloc _ _).1
  have q1 : W1.heap[w.heap.size + 1]? = some (.cells #[.slice none 0 0] 37 (0, 0)) := by
    have := (MapKept.heap_alloc (w.alloc (.cells A 58)) (.cells #[.slice none 0 0] 37)).1
    rw [z0] at this; rw [hW1]; exact this
  have hz1 : W1.heap.size = w.heap.size + 2 := by rw [hW1]; simp
  have hb1 : Below w.heap.size w W1 := by rw [hW1]; exact (below_box w _).alloc (by omega) _
  rw [hsv]
  have HW1 := Lib.hid hW1
  have HQ0 := Lib.hid q0
  have HQ1 := Lib.hid q1
  have HB1 := Lib.hid hb1
  have HAs := Lib.hid (And.intro hAs hA1)
  have HSV := Lib.hid hsv
  have HS := Lib.hid hs
  have HG := Lib.hid hG
  clear hW1 q0 q1 hb1 hAs hA1 hsv hs hG hAe z0
  refine (callsIn_wide (n := 7)).1 ?_
  refine callsIn_of_wp_marks Tryd.func19 rfl trivial ?_ rfl
  refine wpIn_wide.2 ?_
  simp only [Tryd.ntmps19, List.size_toArray, List.length_cons, List.length_nil, Nat.reduceAdd, Nat.reduceSub, Array.replicate_succ, Array.replicate_zero, List.push_toArray, List.append_toArray, List.nil_append, List.cons_append]
  go_wp2_with (first
    | (rw [← HW1.out])
    | (refine wpList_load_row rfl 58 (Operand.tmp 1) rfl w.heap.size rfl 58 A (0, 0) _ HQ0.out Tryd.underlying58 rfl (by rw [HAs.out.1]; kernel_rfl) ?_))
  refine (wpIn_wide (n := 7)).1 ?_
  obtain ⟨N, hN⟩ : ∃ N, N = (listS s).length := ⟨_, rfl⟩
  have hgl := HG.out.lt
  have HN := Lib.hid hN
  clear hN
  refine range_countF rfl (by decide) (gf := 33) (fb := #[.agg A]) (lb := #[]) rfl trivial (enters_of Tryd.func33 (by kernel_rfl) rfl)
    (eachV s) N (fun _ => rfl) KeepsG
    (fun l J W hW hJa hY hJ => by
      have h1 := each_in 6 (by decide) l s HS.out J hJa (fun k V hk hl => hY k V hk (by rw [HN.out]; exact hl)) W (HG.out.of (((hW.block _ (by omega)).trans (HB1.out.block _ hgl)))) hJ
      rw [HSV.out, ← HN.out] at h1
      exact h1)
    (fun h1 h2 => h2.trans h1) (fun W l ob ob' hl _ _ => World.putObj_heap_other (by omega))
    (LstI s w (w.heap.size + 1) (w.heap.size + 2)) (by rw [hz1]; exact LstI.mild (by omega) (by omega))
    ⟨.slice none 0 0, HQ1.out, ⟨rfl, .inl ⟨rfl, rfl⟩⟩, HB1.out, by omega⟩
    ?act1 ?assign1 ?body1 ?done1
  case assign1 =>
    intro l k W K hK
    gi_wp2
    exact hK
  case body1 => as_aux_lemma =>
    rintro l k W9 hI hk
    obtain ⟨x, hx⟩ : ∃ x, (listS s)[k]? = some x := ⟨_, List.getElem?_eq_getElem (by rw [← HN.out]; exact hk)⟩
    have hB0 := hI
    obtain ⟨v, gq, cap, w8, c0, hrun, c8, f8, hlt, hI2, hko, hbe⟩ := hI.push (by omega) (by omega) hx
    obtain ⟨v', h1', _, h3', _⟩ := hB0
    have HKG := Lib.hid (show KeepsG W9 (w8.setCell ⟨w.heap.size + 1, 0, none⟩ (.slice (some ⟨gq, 0, none⟩) (k + 1) cap)) from (hbe.block _ hgl).trans (h3'.block _ hgl).symm)
    have e1 := bls_of 37 3 1 1 #[(0, .int .i64 (x : Int))] #[.int .i64 (x : Int)] (by kernel_rfl) (by kernel_rfl) (by kernel_rfl) (by decide) (by decide) (by kernel_rfl) (by kernel_rfl) W9
    have HKO := Lib.hid hko
    have HI2 := Lib.hid hI2
    have HRUN := Lib.hid hrun
    have hxx : (((listS s)[k]?).getD 0 : Nat) = x := by rw [hx]; rfl
    unfold eachV
    rw [hxx]
    clear hko hI2 hbe h1' h3' hx hxx hI hrun
    gi_wp2_with (gi_at_builtin; refine wpListIn_append_run rfl _ _ _ rfl _ _ _ _ rfl rfl HRUN.out ?_)
    exact ⟨HKO.out, HKG.out, HI2.out⟩
  case done1 => as_aux_lemma =>
    rintro D W hD ⟨v, h1, h2, h3, h4⟩ hd
    have hc := one_at h1
    have f0 := Lib.frozen_of_heap h1 0
    have hlt := (Array.getElem?_eq_some_iff.1 h1).1
    have hv : ∃ ao cap, v = .slice ao N cap := by
      rcases h2.2 with ⟨rfl, h0⟩ | ⟨g, cap, cur, rfl, _⟩
      · exact ⟨none, 0, by rw [h0]⟩
      · exact ⟨_, cap, rfl⟩
    obtain ⟨ao, cap, rfl⟩ := hv
    have H1 := Lib.hid h1
    have H2 := Lib.hid h2
    have H3 := Lib.hid h3
    have HD := Lib.hid hd
    clear h1 h2 h3 hd
    have hDg : D ≠ w.heap.size + 1 := by omega
    go_wp2_with fail
    have hUD : (W.setCell ⟨w.heap.size + 1, 0, none⟩ (.slice ao N cap)).heap[D]? = some (.deferred (some [])) := (Below.heap_setCell _ _ _ _ hDg).trans HD.out
    refine ⟨by simp, .inl ⟨_, _, rfl, run_takeDeferred hUD, ?_⟩⟩
    have hUC : ((W.setCell ⟨w.heap.size + 1, 0, none⟩ (.slice ao N cap)).putObj D (.deferred none)).heap[w.heap.size + 1]? = some (.cells #[.slice ao N cap] 37 (0, 0)) := (World.putObj_heap_other (by omega)).trans (one_set H1.out)
    refine ⟨.slice ao N cap, ?_, ?_⟩
    · have c9 := one_at hUC
      simp [results, Tryd.f19, asAddr, go_sem, c9]
    · have hU0 : Below w.heap.size w ((W.setCell ⟨w.heap.size + 1, 0, none⟩ (.slice ao N cap)).putObj D (.deferred none)) := by
        have h3 := H3.out.setCell (p := ⟨w.heap.size + 1, 0, none⟩) (by dsimp only; omega) (.slice ao N cap)
        have e9 : ((W.setCell ⟨w.heap.size + 1, 0, none⟩ (.slice ao N cap)).putObj D (.deferred none)).heap.size = (W.setCell ⟨w.heap.size + 1, 0, none⟩ (.slice ao N cap)).heap.size := by simp
        exact ⟨h3.os, h3.tape, h3.output, by rw [e9]; exact h3.size, fun g hg => (World.putObj_heap_other (by omega)).trans (h3.block g hg)⟩
      refine ⟨_, rfl, ?_, hU0⟩
      refine ⟨ao, cap, by rw [List.length_map, HN.out], fun h0 => ?_⟩
      have h2 := H2.out
      rcases h2.2 with ⟨q, q0⟩ | ⟨g, cap', cur, q, hb, hg, hn, hc2, hs, ht⟩
      · rw [List.length_map, ← HN.out, q0] at h0; omega
      · cases q
        have hgD : g ≠ D := fun e => by rw [e, HD.out] at hg; cases hg
        have hg2 : ((W.setCell ⟨w.heap.size + 1, 0, none⟩ (.slice (some ⟨g, 0, none⟩) N cap)).putObj D (.deferred none)).heap[g]? = some (.cells cur 3 (0, 0)) := (World.putObj_heap_other hgD).trans ((Below.heap_setCell _ _ _ _ (by dsimp only; omega)).trans hg)
        refine ⟨g, 0, rfl, by omega, (Array.getElem?_eq_some_iff.1 hg2).1, fun k x hx => ?_⟩
        rw [Nat.zero_add, Lib.cell_of_heap hg2]
        have hk : k < N := by have := (List.getElem?_eq_some_iff.1 hx).1; rw [List.length_map, ← HN.out] at this; exact this
        have h5 : (cur.toList.take (N * 1))[k]? = cur[k]? := by rw [List.getElem?_take, if_pos (by omega)]; simp
        rw [← h5, ht]
        unfold natsV
        rw [List.getElem?_map, List.getElem?_take, if_pos hk]
        rw [List.getElem?_map] at hx
        cases hq : (listS s)[k]? with
        | none => rw [hq] at hx; cases hx
        | some y => rw [hq] at hx; simp at hx; subst hx; rfl
end Go.Proofs.YtgkjhnghibpeoaaDoor
