/- How far settling has come. -/
import Derived.Test.YtgkjhnghibpeoaaDoorRows
import Derived.Test.YtgkjhnghibpeoaaDoorLvGrow
import Derived.Test.YtgkjhnghibpeoaaDoorLvDeed
import Derived.Test.YtgkjhnghibpeoaaDoorIrLeaf
import Derived.Test.YtgkjhnghibpeoaaDoorIrNew
import Derived.Test.YtgkjhnghibpeoaaDoorParseOrder
import Derived.LoopTactic
import Derived.LoopN
import Derived.Deep.LoopGhost
import Derived.WalkKit
import Derived.WalkSpells
import Derived.WalkLawsBesides
import Derived.Lib.Hide
import Derived.OrdersHeld
import Derived.Deep.RegionHeld
import Derived.Deep.DrawnRows
import Derived.RegionTactic
import Derived.Deep.RegionHeld3
import Derived.IntWalk
import Derived.Deep.QuietTactic
import Derived.BigQuiet
namespace Go.Proofs.YtgkjhnghibpeoaaDoor
open Go.RowKit
set_option maxRecDepth 1000000
attribute [local go_sem ↓] bld_eq bls_eq


theorem vnext_nodup (b : Bk) : (nextF b).Nodup := by
  unfold nextF
  split
  · exact List.nodup_nil
  · split
    · simp
    · rename_i h; simp; intro q; exact h (.inr q)
/-- The blocks in which rows lie. -/
def RowB (vs : List Value) (x : Nat) : Prop := ∃ (y : Nat) (v : Value), vs[y]? = some v ∧ v.ownBlock = some x
def SX (b : Nat) (vs : List Value) (x : Nat) : Prop := x = b + 1 ∨ x = b + 3 ∨ x = b + 5 ∨ x = b + 8 ∨ RowB vs x
/-- From one state of what is settled to a later one. -/
structure Stl (b : Nat) (g : Gr) (M0 : List Bool) (dn0 : Nat → Prop) (vs0 : List Value) (w0 w : World) (S : List (List Nat)) (D : List Dd) (A : List (List Nat)) (M : List Bool) (vs : List Value) (dn : Nat → Prop) : Prop where
  bm : BM w b g S D A M vs
  sp : SetP g.blocks M dn S D A
  dm : ∀ m, dn0 m → dn m
  mm : ∀ m : Nat, M0[m]? = some true → M[m]? = some true
  new : ∀ m : Nat, M[m]? = some true → M0[m]? = some true ∨ dn m
  nw : ∀ m : Nat, dn m → dn0 m ∨ M0[m]? ≠ some true
  wr : Wr (SX b vs0) w0 w
  rb : ∀ x, RowB vs x → RowB vs0 x ∨ w0.heap.size ≤ x
section
variable {b : Nat} {g : Gr} {M0 M M1 M2 : List Bool} {dn0 dn dn1 dn2 : Nat → Prop} {vs0 vs vs1 vs2 : List Value} {w0 w w1 w2 : World} {S S1 S2 : List (List Nat)} {D D1 D2 : List Dd} {A A1 A2 : List (List Nat)}
theorem BM.rowlt (h : BM w b g S D A M vs) {x : Nat} (hx : RowB vs x) : b + 11 ≤ x ∧ x < w.heap.size := by
  obtain ⟨y, v, h1, h2⟩ := hx
  exact (h.amc.own y v (A[y]'(by rw [h.amc.len, ← h.amc.vlen]; exact some_lt h1)) h1 (List.getElem?_eq_getElem _)).lt x h2
theorem Stl.refl (h : BM w b g S D A M vs) (k : SetP g.blocks M dn S D A) : Stl b g M dn vs w w S D A M vs dn := ⟨h, k, fun _ q => q, fun _ q => q, fun _ q => .inl q, fun _ q => .inl q, Wr.refl _ _, fun _ q => .inl q⟩
theorem Stl.below (h : Stl b g M0 dn0 vs0 w0 w S D A M vs dn) (hb : Below w.heap.size w w1) : Stl b g M0 dn0 vs0 w0 w1 S D A M vs dn := ⟨h.bm.keeps hb, h.sp, h.dm, h.mm, h.new, h.nw, h.wr.trans (Wr.of hb), h.rb⟩
theorem Stl.trans (h : Stl b g M0 dn0 vs0 w0 w1 S1 D1 A1 M1 vs1 dn1) (k : Stl b g M1 dn1 vs1 w1 w2 S2 D2 A2 M2 vs2 dn2) : Stl b g M0 dn0 vs0 w0 w2 S2 D2 A2 M2 vs2 dn2 := by
  refine ⟨k.bm, k.sp, fun m q => k.dm m (h.dm m q), fun m q => k.mm m (h.mm m q), fun m q => ?_, fun m q => ?_, h.wr.comp k.wr (fun x hx q => ?_), fun x q => ?_⟩
  · rcases k.new m q with q | q
    · rcases h.new m q with q | q
      · exact .inl q
      · exact .inr (k.dm m q)
    · exact .inr q
  · rcases k.nw m q with q | q
    · exact h.nw m q
    · exact .inr (fun p => q (h.mm m p))
  · rcases q with q | q | q | q | q
    · exact .inl q
    · exact .inr (.inl q)
    · exact .inr (.inr (.inl q))
    · exact .inr (.inr (.inr (.inl q)))
    · rcases h.rb x q with p | p
      · exact .inr (.inr (.inr (.inr p)))
      · omega
  · rcases k.rb x q with q | q
    · exact h.rb x q
    · exact .inr (Nat.le_trans h.wr.size q)
end
theorem BM.setM {w : World} {b : Nat} {g : Gr} {S : List (List Nat)} {D : List Dd} {A : List (List Nat)} {M : List Bool} {vs : List Value} (h : BM w b g S D A M vs) (n : Nat) : BM (w.setCell ⟨b + 8, n, none⟩ (.bool true)) b g S D A (M.set n true) vs :=
  have hw : Wr (fun x => x = b + 8) w (w.setCell ⟨b + 8, n, none⟩ (.bool true)) := Wr.set (S := fun x => x = b + 8) w rfl _
  have k := fun (x : Nat) (c : Obj) (hx : x ≠ b + 8) (e : w.heap[x]? = some c) => (hw.block x (Array.getElem?_eq_some_iff.1 e).1 hx).trans e
  ⟨k _ _ (by omega) h.gbc, k _ _ (by omega) h.sbc, k _ _ (by omega) h.svc, k _ _ (by omega) h.dbc, k _ _ (by omega) h.dvc, h.amc.wr hw (by omega) (by omega), k _ _ (by omega) h.avc, k _ _ (by omega) h.gvc, boolA_set h.mbc n true, k _ _ (by omega) h.mvc, k _ _ (by omega) h.vvc, h.sl, h.dl, h.sok, h.dok⟩
/-- What lies in the argument: a block. -/
theorem blk_at {w : World} {B : Nat} {g : Gr} (hI : GIn w B g) {n : Nat} {bk : Bk} (hb : g.blocks[n]? = some bk) : ∃ go off cap, g.bv = .slice (some ⟨go, off, none⟩) g.blocks.length cap ∧ go < B ∧ ∀ V, Below B w V →
    V.cell? ⟨go, off + n * 5, none⟩ = some bk.iv ∧ V.cell? ⟨go, off + n * 5 + 1, none⟩ = some (.int .u8 bk.last) ∧ V.cell? ⟨go, off + n * 5 + 2, none⟩ = some (.int .i64 bk.reg) ∧ V.cell? ⟨go, off + n * 5 + 3, none⟩ = some (.int .i64 bk.yes) ∧ V.cell? ⟨go, off + n * 5 + 4, none⟩ = some (.int .i64 bk.no) := by
  have hn := (List.getElem?_eq_some_iff.1 hb).1
  obtain ⟨bo, bcp, eb, _, hbg⟩ := hI.blies.form
  obtain ⟨go, off, rfl, hgo⟩ := hbg (by omega)
  refine ⟨go, off, bcp, eb, hgo, fun V hV => ?_⟩
  have hat := ((hI.keeps hV).blies.at eb n hn).2
  have e : g.blocks[n] = bk := (List.getElem?_eq_some_iff.1 hb).2
  rw [e] at hat
  obtain ⟨p0, p1, p2, p3, p4⟩ := bc hat
  exact ⟨p0, p1, p2, p3, p4⟩
theorem wp_append_run {P : Program} {o : Oper} {a : Act} {w : World} {K : Act → World → Prop} {Q : Exit → Act → World → Prop} (s x : Operand) (t : TypeId) (hop : o.op = Op.call { callee := Callee.builtin Builtin.append, args := #[s, x], argTypes := #[t, t] })
    (v y r : Value) (w' : World) (hs : a.eval s = v) (hx : a.eval x = y) (hrun : (Builtin.append_ #[t, t] o.type #[v, y]).run P w = .ok r w') (h : K (a.put o.dst r) w') : o.wp P a w K Q := by
  unfold Oper.wp
  simp [execOp, hop, resolve, invoke, builtin, hs, hx, hrun, Result.andThen]
  exact h
/-- A row grows by one. -/
theorem BM.push {w : World} {b : Nat} {g : Gr} {S : List (List Nat)} {D : List Dd} {A : List (List Nat)} {M : List Bool} {vs : List Value} (h : BM w b g S D A M vs) {y n : Nat} {v : Value} (hv : vs[y]? = some v) (hl : (atA A y).length ≤ 4096) :
    ∃ gq cap w8, (Builtin.append_ #[37, 37] 37 #[v, .slice (some ⟨w.heap.size, 0, none⟩) 1 1]).run Tryd.prog (w.alloc (.cells #[.int .i64 (n : Int)] 3)) = .ok (.slice (some ⟨gq, 0, none⟩) ((atA A y).length + 1) cap) w8 ∧
      w8.cell? ⟨b + 5, y, none⟩ = some v ∧ w8.frozen? ⟨b + 5, y, none⟩ = false ∧ b + 5 < w8.heap.size ∧ (∀ x, x < w.heap.size → v.ownBlock ≠ some x → w8.heap[x]? = w.heap[x]?) ∧
      BM (w8.setCell ⟨b + 5, y, none⟩ (.slice (some ⟨gq, 0, none⟩) ((atA A y).length + 1) cap)) b g S D (A.set y (atA A y ++ [n])) M (vs.set y (.slice (some ⟨gq, 0, none⟩) ((atA A y).length + 1) cap)) ∧
      Wr (fun x => x = b + 5 ∨ v.ownBlock = some x) w (w8.setCell ⟨b + 5, y, none⟩ (.slice (some ⟨gq, 0, none⟩) ((atA A y).length + 1) cap)) ∧
      (∀ x, RowB (vs.set y (.slice (some ⟨gq, 0, none⟩) ((atA A y).length + 1) cap)) x → RowB vs x ∨ w.heap.size ≤ x) := by
  have hs := h.size
  have hyl : y < vs.length := some_lt hv
  have hr : A[y]? = some (atA A y) := get_atA (by rw [h.amc.len, ← h.amc.vlen]; exact hyl)
  obtain ⟨gq, cap, w8, hrun, hc8, hf8, hz8, hM9, hw9, hgq, hw8⟩ := h.amc.push (n := n) (by omega) hv hr hl
  have hob : ∀ x, v.ownBlock = some x → b + 11 ≤ x := fun x hx => (h.rowlt ⟨y, v, hv, hx⟩).1
  obtain ⟨nv, hnv⟩ : ∃ nv, nv = Value.slice (some ⟨gq, 0, none⟩) ((atA A y).length + 1) cap := ⟨_, rfl⟩
  have hnb : nv.ownBlock = some gq := by rw [hnv]; rfl
  have k := fun (x : Nat) (c : Obj) (hx : x ≠ b + 5) (hx2 : x < b + 11) (e : w.heap[x]? = some c) => (hw9.block x (Array.getElem?_eq_some_iff.1 e).1 (fun q => q.elim hx (fun q => by have := hob x q; omega))).trans e
  refine ⟨gq, cap, w8, hrun, hc8, hf8, hz8, hw8, ⟨k _ _ (by omega) (by omega) h.gbc, k _ _ (by omega) (by omega) h.sbc, k _ _ (by omega) (by omega) h.svc, k _ _ (by omega) (by omega) h.dbc, k _ _ (by omega) (by omega) h.dvc, hM9, k _ _ (by omega) (by omega) h.avc, k _ _ (by omega) (by omega) h.gvc, k _ _ (by omega) (by omega) h.mbc, k _ _ (by omega) (by omega) h.mvc, k _ _ (by omega) (by omega) h.vvc, h.sl, h.dl, h.sok, h.dok⟩, hw9, fun x hx => ?_⟩
  obtain ⟨y', v', h1, h2⟩ := hx
  rw [List.getElem?_set] at h1
  by_cases e : y = y'
  · rw [if_pos e, if_pos hyl] at h1
    cases h1
    have h3 : gq = x := by simpa [Value.ownBlock] using h2
    subst h3
    rcases hgq with q | q
    · exact .inl ⟨y, v, hv, q⟩
    · exact .inr q
  · rw [if_neg e] at h1
    exact .inl ⟨y', v', h1, h2⟩
/-- A block beside it is written. -/
theorem BM.wrZ {w w' : World} {b : Nat} {g : Gr} {S : List (List Nat)} {D : List Dd} {A : List (List Nat)} {M : List Bool} {vs : List Value} (h : BM w b g S D A M vs) {z : Nat} (hw : Wr (fun x => x = z) w w') (hz : b + 11 ≤ z) (hn : ¬ RowB vs z) : BM w' b g S D A M vs :=
  have k := fun (x : Nat) (c : Obj) (hx : x < b + 11) (e : w.heap[x]? = some c) => (hw.block x (Array.getElem?_eq_some_iff.1 e).1 (by omega)).trans e
  have ha := h.amc
  ⟨k _ _ (by omega) h.gbc, k _ _ (by omega) h.sbc, k _ _ (by omega) h.svc, k _ _ (by omega) h.dbc, k _ _ (by omega) h.dvc,
    ⟨(hw.block _ (Array.getElem?_eq_some_iff.1 ha.row).1 (by omega)).trans ha.row, ha.vlen, ha.len, fun y v r q1 q2 => (ha.own y v r q1 q2).kept (row := some z) ⟨hw.os, hw.tape, hw.output, hw.size, fun k hk hn => hw.block k hk (fun e => hn (by rw [e]))⟩ (by
      cases hv : v.ownBlock with
      | none => exact .inl rfl
      | some k => exact .inr (fun q => by cases q; exact hn ⟨y, v, q1, hv⟩)), ha.sep, ha.notA⟩,
    k _ _ (by omega) h.avc, k _ _ (by omega) h.gvc, k _ _ (by omega) h.mbc, k _ _ (by omega) h.mvc, k _ _ (by omega) h.vvc, h.sl, h.dl, h.sok, h.dok⟩
/-- What a block does is written down. -/
theorem BM.setD {w w' : World} {b : Nat} {g : Gr} {S : List (List Nat)} {D : List Dd} {A : List (List Nat)} {M : List Bool} {vs : List Value} (h : BM w b g S D A M vs) {D' : List Dd} (hw : Wr (fun x => x = b + 3) w w') (hs : w'.heap[b + 3]? = some (.cells (u64A (flatD D')) 67 (0, 0))) (hl : D'.length = D.length) (ho : ∀ d ∈ D', DOk d) : BM w' b g S D' A M vs :=
  have k := fun (x : Nat) (c : Obj) (hx : x ≠ b + 3) (e : w.heap[x]? = some c) => (hw.block x (Array.getElem?_eq_some_iff.1 e).1 hx).trans e
  ⟨k _ _ (by omega) h.gbc, k _ _ (by omega) h.sbc, k _ _ (by omega) h.svc, hs, k _ _ (by omega) h.dvc, h.amc.wr hw (by omega) (by omega), k _ _ (by omega) h.avc, k _ _ (by omega) h.gvc, k _ _ (by omega) h.mbc, k _ _ (by omega) h.mvc, k _ _ (by omega) h.vvc, h.sl, hl.trans h.dl, h.sok, ho⟩
theorem exec_deed {a : Act} {W : World} {x : Operand} {d : Option Tmp} {t : TypeId} {p : String} {af : Array Edge} {g : Option (Nat × Bool)} (b o : Nat) (L : List Nat) (s : Dd) (T : TypeId) (fr : Nat × Nat) (hx : a.eval x = .pointer (some ⟨b, o, none⟩)) (hb : W.heap[b]? = some (.cells (u64A L) T fr)) (hs : (L.drop o).take 32 = s.1 ++ s.2) (hl : DOk s) :
    (execOp a.eval ⟨d, .load 67 x, t, p, af, g⟩).run Tryd.prog W = .ok (.value (deedV s)) W := by
  have h1 := range_of hb o 32
  rw [hs] at h1
  have h2 := run_loadAt_mid (P := Tryd.prog) W b o 67 _ _ h1 Tryd.underlying67 rfl (by rw [Array.length_toList, u64A_size, List.length_append, hl.a.len, hl.c.len]; kernel_rfl)
  unfold execOp
  simp only [hx, Sem.run_bind, h2, Result.andThen_ok, Sem.run_pure]
  rfl
theorem BM.deed32 {w : World} {b : Nat} {g : Gr} {S : List (List Nat)} {D : List Dd} {A : List (List Nat)} {M : List Bool} {vs : List Value} (h : BM w b g S D A M vs) {n : Nat} (hn : n < D.length) : ((flatD D).drop (0 + n * 32)).take 32 = (atD D n).1 ++ (atD D n).2 := by
  rw [Nat.zero_add]
  exact flat_at (all32D h.dok) (by rw [List.getElem?_map, get_atD hn]; rfl)
/-- What is so of a graph that may be, for the sake of what is live. -/
structure GLv (R B : Nat) (g : Gr) : Prop where
  fok : FOk g.blocks
  fit : ∀ bk ∈ g.blocks, BFit R bk
  cap : ∀ bk ∈ g.blocks, CapB bk
  ins : ∀ bk ∈ g.blocks, bk.ins.length ≤ 8192
  reg : R ≤ 1024
end Go.Proofs.YtgkjhnghibpeoaaDoor
