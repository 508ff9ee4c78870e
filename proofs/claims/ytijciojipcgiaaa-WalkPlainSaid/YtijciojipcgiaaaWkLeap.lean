/- What stays so, step by step and leap by leap. Nothing here speaks of memory. -/
import Derived.Test.YtijciojipcgiaaaWkNext
import Derived.Test.YtijciojipcgiaaaRows
import Derived.Test.YtijciojipcgiaaaIrSizes
import Derived.Test.YtijciojipcgiaaaIrBoth
import Derived.Test.YtijciojipcgiaaaWkBack
import Derived.LoopTactic
import Derived.LoopN
import Derived.WalkKit
import Derived.WalkSpells
import Derived.WalkLawsBesides
import Derived.Lib.Hide
import Derived.OrdersHeld
import Derived.Deep.RegionHeld
import Derived.Deep.DrawnRows
import Derived.RegionTactic
import Derived.Deep.RegionHeld3
import Derived.IntWalk
namespace Go.Proofs.Ytijciojipcgiaaa
open Go Go.Lib Go.RowKit

/-- A graph that may be, as far as a walk leans on it. -/
structure GOk (g : Gr) : Prop where
  first : 0 < g.blocks.length
  fit : ∀ bk ∈ g.blocks, ∀ i ∈ bk.ins, Fits g.refs.length i
  last : ∀ bk ∈ g.blocks, LastOk g.refs.length g.blocks.length bk
/-- Where a thread stands is a place. -/
structure TOk (g : Gr) (T : TS) : Prop where
  regs : T.regs.length = g.refs.length
  bi : T.bi < g.blocks.length
  ii : ∀ bk, g.blocks[T.bi]? = some bk → T.ii ≤ bk.ins.length
/-- In the midst of a leap. -/
structure Mid (g : Gr) (L n : Nat) (W : WS) (T : TS) : Prop where
  ok : TOk g T
  un : UOk T.undo T.since W.words.length
  und : T.undo.length + n ≤ 1048576
  out : T.told.length + T.waiting.length + n ≤ 1048576
  l0 : L ≤ W.words.length
  l1 : 1 ≤ L
  cut : Un.cut ∈ T.undo → T.inside = true ∧ L ≤ T.since
/-- Between two leaps. -/
def Rest (T : TS) (n : Nat) : Prop := ∀ u ∈ T.undo, ∃ a x, u = Un.put a x ∧ a < n
structure Still (g : Gr) (n : Nat) (W : WS) (T : TS) : Prop where
  ok : TOk g T
  und : T.undo.length + n ≤ 1048576
  out : T.told.length + T.waiting.length + n ≤ 1048576
  rest : T.fin = 0 → Rest T W.words.length
theorem UOk.rest : ∀ {l : List Un} {s n : Nat}, UOk l s n → Un.cut ∉ l → ∀ u ∈ l, ∃ a x, u = Un.put a x ∧ a < n := by
  intro l
  induction l with
  | nil => intro s n _ _ u hu; simp at hu
  | cons v l ih =>
    intro s n h hc u hu
    cases v with
    | cut => exact absurd (List.mem_cons_self) hc
    | put a x =>
      rcases List.mem_cons.1 hu with rfl | hu
      · exact ⟨a, x, rfl, h.1⟩
      · exact ih h.2 (fun q => hc (List.mem_cons_of_mem _ q)) u hu
theorem rest_uok : ∀ {l : List Un} {s n : Nat}, (∀ u ∈ l, ∃ a x, u = Un.put a x ∧ a < n) → UOk l s n := by
  intro l
  induction l with
  | nil => intro s n _; exact trivial
  | cons v l ih =>
    intro s n h
    obtain ⟨a, x, rfl, ha⟩ := h v (List.mem_cons_self)
    exact ⟨ha, ih (fun u hu => h u (List.mem_cons_of_mem _ hu))⟩
theorem UOk.more : ∀ {l : List Un} {s n m : Nat}, UOk l s n → n ≤ m → UOk l s m := by
  intro l
  induction l with
  | nil => intro s n m _ _; exact trivial
  | cons v l ih =>
    intro s n m h hm
    cases v with
    | cut => exact ⟨⟨h.1.1, Nat.le_trans h.1.2 hm⟩, h.2⟩
    | put a x => exact ⟨Nat.lt_of_lt_of_le h.1 hm, ih h.2 hm⟩
theorem undoA_len : ∀ (l : List Un) (W : WS) (T : TS) (L : Nat), UOk l T.since W.words.length → (Un.cut ∈ l → L ≤ T.since) → L ≤ W.words.length → L ≤ (undoA l W T).1.words.length := by
  intro l
  induction l with
  | nil => intro W T L _ _ h; exact h
  | cons u l ih =>
    intro W T L h hc hL
    rw [undoA_cons]
    have hs := (unA_fix u W T).1
    refine ih _ _ L h.step (fun q => by rw [hs]; exact hc (List.mem_cons_of_mem _ q)) ?_
    cases u with
    | put a x => simpa [unA] using hL
    | cut =>
      have := hc (List.mem_cons_self)
      simp only [unA, List.length_take]
      omega
/-- What a step leaves: it goes on, or the leap is at its end. -/
structure After (g : Gr) (L n : Nat) (r : WS × TS × Bool) : Prop where
  on : r.2.2 = false → Mid g L n r.1 r.2.1
  off : r.2.2 = true → Still g n r.1 r.2.1
  l0 : L ≤ r.1.words.length
theorem Mid.still {g : Gr} {L n : Nat} {W : WS} {T : TS} (h : Mid g L n W T) (hi : Un.cut ∉ T.undo) : Still g n W T := ⟨h.ok, h.und, h.out, fun _ => h.un.rest hi⟩
theorem After.on' {g : Gr} {L n : Nat} {W : WS} {T : TS} (h : Mid g L n W T) : After g L n (W, T, false) := ⟨fun _ => h, fun q => (by cases q), h.l0⟩
theorem Mid.fail {g : Gr} {L n : Nat} {W : WS} {T : TS} (h : Mid g L n W T) (e : Int) (he : e ≠ 0) : After g L n (failT W T e) := by
  obtain ⟨f1, f2, f3, f4, f5, f6, f7⟩ := undoA_fix T.undo W T
  refine ⟨fun q => (by cases q), fun _ => ⟨⟨?_, ?_, ?_⟩, ?_, ?_, fun q => absurd q he⟩, undoA_len _ _ _ _ h.un (fun q => (h.cut q).2) h.l0⟩
  · show (undoA T.undo W T).2.regs.length = _; rw [f4]; exact h.ok.regs
  · show (undoA T.undo W T).2.bi < _; rw [f6]; exact h.ok.bi
  · intro bk hbk
    have hbk2 : g.blocks[(undoA T.undo W T).2.bi]? = some bk := hbk
    show (undoA T.undo W T).2.ii ≤ _
    rw [f6] at hbk2
    rw [f7]
    exact h.ok.ii bk hbk2
  · show (undoA T.undo W T).2.undo.length + n ≤ _; rw [f2]; exact h.und
  · show (undoA T.undo W T).2.told.length + (undoA T.undo W T).2.waiting.length + n ≤ _; rw [f3]; have := h.out; omega
theorem Mid.less {g : Gr} {L n m : Nat} {W : WS} {T : TS} (h : Mid g L n W T) (hm : m ≤ n) : Mid g L m W T := ⟨h.ok, h.un, by have := h.und; omega, by have := h.out; omega, h.l0, h.l1, h.cut⟩
theorem Mid.setR {g : Gr} {L n : Nat} {W : WS} {T : TS} (h : Mid g L n W T) (a x : Int) : Mid g L n W (T.setR a x) := ⟨⟨by simpa [TS.setR] using h.ok.regs, h.ok.bi, h.ok.ii⟩, h.un, h.und, h.out, h.l0, h.l1, h.cut⟩
theorem Mid.own {g : Gr} {L n : Nat} {W : WS} {T : TS} (h : Mid g L n W T) (i : In) : Mid g L n (ownT W T i) T := by
  have hw : (ownT W T i).words = W.words := by unfold ownT; split <;> rfl
  exact ⟨h.ok, by rw [hw]; exact h.un, h.und, h.out, by rw [hw]; exact h.l0, h.l1, h.cut⟩
theorem Mid.load {g : Gr} {L n : Nat} {W : WS} {T : TS} (h : Mid g L n W T) (i : In) : After g L n (loadT W T i) := by
  unfold loadT
  split
  · exact .on' (h.setR _ _)
  · exact h.fail 8 (by decide)
theorem has_lt {W : WS} {a : Int} (h : hasW W a = true) : a.toNat < W.words.length := by
  unfold hasW at h
  simp only [Bool.and_eq_true, decide_eq_true_eq] at h
  omega
theorem Mid.store {g : Gr} {L n : Nat} {W : WS} {T : TS} (h : Mid g L (n + 1) W T) (i : In) : After g L n (storeT W T i) := by
  unfold storeT
  split
  · rename_i hh
    have hl := has_lt hh
    refine .on' ⟨⟨h.ok.regs, h.ok.bi, h.ok.ii⟩, ?_, by have := h.und; simp; omega, by have := h.out; simp; omega, by simpa using h.l0, h.l1, fun q => ?_⟩
    · simp only [List.length_set]
      exact ⟨hl, h.un⟩
    · rcases List.mem_cons.1 q with q | q
      · cases q
      · exact h.cut q
  · exact (h.less (Nat.le_succ n)).fail 8 (by decide)
theorem After.ite {g : Gr} {L n : Nat} {c : Prop} [Decidable c] {a b : WS × TS × Bool} (h1 : c → After g L n a) (h2 : ¬c → After g L n b) : After g L n (if c then a else b) := by
  by_cases h : c
  · rw [if_pos h]; exact h1 h
  · rw [if_neg h]; exact h2 h
theorem UOk.again : ∀ {l : List Un} {s n m : Nat}, UOk l s n → n ≤ m → UOk l m m := by
  intro l
  induction l with
  | nil => intro s n m _ _; exact trivial
  | cons v l ih =>
    intro s n m h hm
    cases v with
    | cut => exact ⟨⟨by have := h.1; omega, Nat.le_refl _⟩, ih h.2 (by have := h.1; omega)⟩
    | put a x => exact ⟨Nat.lt_of_lt_of_le h.1 hm, ih h.2 hm⟩
theorem Mid.deed {g : Gr} {L n : Nat} {W : WS} {T : TS} (h : Mid g L (n + 1) W T) (i : In) (_hn : i.k = 7 → 0 ≤ i.n) : After g L n (deedT W T i) := by
  have hl := h.less (Nat.le_succ n)
  have hok : TOk g T := h.ok
  unfold deedT
  refine .ite (fun _ => .on' (hl.setR _ _)) fun _ => ?_
  refine .ite (fun _ => .on' (hl.setR _ _)) fun _ => ?_
  refine .ite (fun _ => .ite (fun _ => .on' (hl.setR _ _)) fun _ => hl.fail 2 (by decide)) fun _ => ?_
  refine .ite (fun _ => .ite (fun _ => hl.fail 3 (by decide)) fun _ => .on' hl) fun _ => ?_
  refine .ite (fun _ => .ite (fun _ => hl.fail 4 (by decide)) fun _ => .on' hl) fun _ => ?_
  refine .ite (fun _ => .ite (fun _ => hl.fail 5 (by decide)) fun _ => ?_) fun _ => ?_
  · refine .on' ⟨⟨by simpa [TS.setR] using h.ok.regs, h.ok.bi, h.ok.ii⟩, ?_, hl.und, hl.out, by have := h.l0; simp; omega, h.l1, h.cut⟩
    exact h.un.more (by simp)
  refine .ite (fun _ => hl.load i) fun _ => ?_
  refine .ite (fun _ => h.store i) fun _ => ?_
  refine .ite (fun _ => (hl.own i).load i) fun _ => ?_
  refine .ite (fun _ => (h.own i).store i) fun _ => ?_
  refine .ite (fun _ => .ite (fun _ => ?_) fun hin => ?_) fun _ => ?_
  · exact .on' ⟨⟨h.ok.regs, h.ok.bi, h.ok.ii⟩, h.un, hl.und, by have := h.out; simp; omega, h.l0, h.l1, h.cut⟩
  · have hnc : Un.cut ∉ T.undo := fun q => hin (h.cut q).1
    exact ⟨fun q => (by cases q), fun _ => ⟨⟨h.ok.regs, h.ok.bi, h.ok.ii⟩, hl.und, by have := h.out; simp; omega, fun _ => h.un.rest hnc⟩, h.l0⟩
  refine .ite (fun _ => ?_) fun _ => ?_
  · refine .on' ⟨⟨h.ok.regs, h.ok.bi, h.ok.ii⟩, ?_, by have := h.und; simp; omega, hl.out, h.l0, h.l1, fun _ => ⟨rfl, h.l0⟩⟩
    exact ⟨⟨Nat.le_trans h.l1 h.l0, Nat.le_refl _⟩, h.un.again (Nat.le_refl _)⟩
  · exact ⟨fun q => (by cases q), fun _ => ⟨⟨h.ok.regs, h.ok.bi, h.ok.ii⟩, by have := h.und; simp; omega, hl.out, fun _ u hu => by simp at hu⟩, h.l0⟩
theorem Mid.last {g : Gr} {L n : Nat} {W : WS} {T : TS} (h : Mid g L n W T) (bk : Bk) (hl : LastOk T.regs.length g.blocks.length bk) (_hfin : (lastT T bk).2 = true → (lastT T bk).1.fin ≠ 0) : After g L n (W, (lastT T bk).1, (lastT T bk).2) := by
  by_cases h3 : bk.last = 3
  · have e : lastT T bk = ({ T with fin := 1 }, true) := by simp [lastT, h3]
    rw [e]
    exact ⟨fun q => (by cases q), fun _ => ⟨⟨h.ok.regs, h.ok.bi, h.ok.ii⟩, h.und, h.out, fun q => by cases q⟩, h.l0⟩
  · have key : ∀ x : Int, RegN g.blocks.length x → After g L n (W, { T with bi := x.toNat, ii := 0 }, false) := fun x hx => .on' ⟨⟨h.ok.regs, by unfold RegN at hx; simp only; omega, fun bk _ => Nat.zero_le _⟩, h.un, h.und, h.out, h.l0, h.l1, h.cut⟩
    by_cases h2 : bk.last = 2 ∧ T.reg bk.reg = 0
    · have e : lastT T bk = ({ T with bi := bk.no.toNat, ii := 0 }, false) := by simp [lastT, h2]
      rw [e]
      exact key _ (hl.no h2.1)
    · have e : lastT T bk = ({ T with bi := bk.yes.toNat, ii := 0 }, false) := by simp only [lastT]; rw [if_neg h3, if_neg h2]
      rw [e]
      exact key _ (hl.yes h3)
theorem last_fin (T : TS) (bk : Bk) : (lastT T bk).2 = true → (lastT T bk).1.fin ≠ 0 := by
  unfold lastT
  split
  · intro _ q; cases q
  · split
    · intro q; cases q
    · intro q; cases q
/-- What comes next, in the midst of a leap. -/
theorem Mid.next {g : Gr} {L n : Nat} {W : WS} {T : TS} (hg : GOk g) (h : Mid g L (n + 1) W T) : After g L n (nextT g W T) := by
  obtain ⟨bk, hbk⟩ : ∃ bk, g.blocks[T.bi]? = some bk := ⟨_, List.getElem?_eq_getElem h.ok.bi⟩
  have hm : bk ∈ g.blocks := List.mem_of_getElem? hbk
  unfold nextT
  rw [hbk]
  dsimp only
  cases hi : bk.ins[T.ii]? with
  | none => exact (h.less (Nat.le_succ n)).last bk (by rw [h.ok.regs]; exact hg.last bk hm) (last_fin T bk)
  | some i =>
    have hlt := (List.getElem?_eq_some_iff.1 hi).1
    have h' : Mid g L (n + 1) W { T with ii := T.ii + 1 } := ⟨⟨h.ok.regs, h.ok.bi, fun bk' hb' => by rw [show g.blocks[T.bi]? = some bk' from hb'] at hbk; cases hbk; exact hlt⟩, h.un, h.und, h.out, h.l0, h.l1, h.cut⟩
    exact h'.deed i (fun q => ((hg.fit bk hm i (List.mem_of_getElem? hi)).n q).1)
/-- What a thread that goes on leaves. -/
theorem Mid.go {g : Gr} {L : Nat} (hg : GOk g) : ∀ (n : Nat) {W : WS} {T : TS}, Mid g L n W T → ((goT g n W T).2.2.2 = true → Still g (goT g n W T).1 (goT g n W T).2.1 (goT g n W T).2.2.1) ∧ L ≤ (goT g n W T).2.1.words.length ∧ (goT g n W T).1 ≤ n := by
  intro n
  induction n with
  | zero => intro W T h; exact ⟨fun q => (by cases q), h.l0, Nat.le_refl _⟩
  | succ n ih =>
    intro W T h
    have ha := h.next hg
    rw [goT]
    generalize nextT g W T = r at ha
    obtain ⟨W', T', b⟩ := r
    cases b with
    | true => exact ⟨fun _ => ha.off rfl, ha.l0, Nat.le_succ n⟩
    | false =>
      obtain ⟨i1, i2, i3⟩ := ih (ha.on rfl)
      exact ⟨i1, i2, Nat.le_succ_of_le i3⟩
theorem Still.mid {g : Gr} {n : Nat} {W : WS} {T : TS} (h : Still g n W T) (hf : T.fin = 0) (h1 : 1 ≤ W.words.length) : Mid g W.words.length n W T :=
  ⟨h.ok, rest_uok (h.rest hf), h.und, h.out, Nat.le_refl _, h1, fun q => by obtain ⟨a, x, e, _⟩ := h.rest hf _ q; cases e⟩
/-- A leap leaves what it found, but for its own. -/
theorem Still.leap {g : Gr} {n : Nat} {W : WS} {T : TS} (hg : GOk g) (h : Still g n W T) (h1 : 1 ≤ W.words.length) :
    ((leapT g n W T).2.2.2 = true → Still g (leapT g n W T).1 (leapT g n W T).2.1 (leapT g n W T).2.2.1) ∧ W.words.length ≤ (leapT g n W T).2.1.words.length ∧ (leapT g n W T).1 ≤ n := by
  unfold leapT
  split
  · rename_i x r hx
    exact ⟨fun _ => ⟨⟨h.ok.regs, h.ok.bi, h.ok.ii⟩, h.und, by have := h.out; rw [hx] at this; simp at this ⊢; omega, h.rest⟩, Nat.le_refl _, Nat.le_refl _⟩
  · split
    · exact ⟨fun _ => h, Nat.le_refl _, Nat.le_refl _⟩
    · rename_i hf
      exact (h.mid (by omega) h1).go hg n
theorem Still.other {g : Gr} {n m : Nat} {W W' : WS} {T : TS} (h : Still g n W T) (hm : m ≤ n) (hw : W.words.length ≤ W'.words.length) : Still g m W' T :=
  ⟨h.ok, by have := h.und; omega, by have := h.out; omega, fun hf u hu => by obtain ⟨a, x, e, ha⟩ := h.rest hf u hu; exact ⟨a, x, e, Nat.lt_of_lt_of_le ha hw⟩⟩
end Go.Proofs.Ytijciojipcgiaaa
namespace Go.Proofs.Ytijciojipcgiaaa
open Go.RowKit
set_option maxRecDepth 100000
attribute [local go_sem ↓] bld_eq bls_eq

/-- What a leap answers. -/
def LeapE (ow : Nat → Nat) (b j p : Nat) (g : Gr) (r : Nat × WS × TS × Bool) (w : World) (e : Ending) (w' : World) : Prop :=
  e = .returned (.bool r.2.2.2) ∧ ∃ ow' v rs us ts ws, Ext ow ow' w ∧ WAt ow' w' b r.2.1 r.1 v ∧ TAt ow' w' b j p g r.2.2.1 rs us ts ws ∧ Kp ow j w w'
/-- Where a thread goes on. -/
def GoR (ow : Nat → Nat) (b j p L : Nat) (g : Gr) (r : Nat × WS × TS × Bool) (w wr : World) : Prop :=
  ∃ m ow1 W1 T1 v rs us ts ws, r = goT g m W1 T1 ∧ Ext ow ow1 w ∧ WAt ow1 wr b W1 m v ∧ TAt ow1 wr b j p g T1 rs us ts ws ∧ Kp ow j w wr ∧ Mid g L m W1 T1
def fuelOf (b : Nat) (wr : World) : Nat := match wr.cell? ⟨b, 1, none⟩ with | some v => (intOf v).toNat | none => 0
theorem fuelOf_at {ow : Nat → Nat} {w : World} {b n : Nat} {W : WS} {v : Value} (h : WAt ow w b W n v) : fuelOf b w = n := by
  unfold fuelOf
  rw [h.cells.2.1]
  simp [intOf]
theorem Kp.low {ow : Nat → Nat} {j B : Nat} {w w' : World} (h : Kp ow j w w') (hB : B ≤ w.heap.size) (h0 : ∀ k, k < B → ow k = 0) : Below B w w' := ⟨h.os, h.tape, h.output, h.size, fun k hk => h.block k (by omega) (by rw [h0 k hk]; unfold Mine; omega)⟩
set_option maxHeartbeats 8000000 in
theorem goOn_any (ow : Nat → Nat) (w : World) (B b j p n L : Nat) (g : Gr) (W : WS) (T : TS) (v rs us ts ws : Value) (h1 : WAt ow w b W n v) (h2 : TAt ow w b j p g T rs us ts ws) (hB : B ≤ w.heap.size) (hlow : ∀ k, k < B → ow k = 0) (hg : GIn w B g) (hgo : GOk g) (hm : Mid g L n W T) :
    Calls Try.prog 24 #[.pointer (some ⟨p, 0, none⟩)] w (LeapE ow b j p g (goT g n W T) w) := by
  obtain ⟨R, hR⟩ : ∃ R, R = goT g n W T := ⟨_, rfl⟩
  have hrel0 : GoR ow b j p L g R w w := ⟨n, ow, W, T, v, rs, us, ts, ws, hR, .refl _ _, h1, h2, Kp.refl _ _ _, hm⟩
  rw [← hR]
  have HREL := Lib.hid hrel0
  have HG := Lib.hid hg
  have HGO := Lib.hid hgo
  have HLOW := Lib.hid hlow
  have HB := Lib.hid hB
  clear h1 h2 hB hlow hg hgo hm hR hrel0
  go_enter Try.func24, Try.ntmps24
  go_wp2_with fail
  go_loopw [2] (fun t wr => t = .bool false ∧ GoR ow b j p L g R w wr) (fun _ wr => fuelOf b wr)
  case atStart => exact ⟨rfl, HREL.out⟩
  case round =>
    obtain ⟨rfl, m, ow1, W1, T1, v1, rs1, us1, ts1, ws1, hR, he, g1, g2, g3, g4⟩ := hrel
    have d0 := g2.cells.1
    have hfu := fuelOf_at g1
    have hsz := g3.size
    have HE := Lib.hid he
    have HR1 := Lib.hid hR
    have HK := Lib.hid g3
    have HM := Lib.hid g4
    have HFU := Lib.hid hfu
    have H1 := Lib.hid g1
    have H2 := Lib.hid g2
    have hlow1 : ∀ k, k < B → ow1 k = 0 := fun k hk => by rw [HE.out k (by have := HB.out; omega)]; exact HLOW.out k hk
    have HGW := Lib.hid (HG.out.keeps (g3.low HB.out HLOW.out))
    have HL1 := Lib.hid hlow1
    clear he hR g3 g4 hfu hlow1
    cases m with
    | zero =>
      have HS := Lib.hid (step_no ow1 wr b W1 v1 g1)
      clear g1 g2
      go_wp2_with fail
      refine HS.out.mono ?_; rintro e w2 ⟨rfl, rfl⟩
      go_wp2_with fail
      go_ret
      rw [HR1.out]
      exact ⟨rfl, ow1, v1, rs1, us1, ts1, ws1, HE.out, H1.out, H2.out, HK.out⟩
    | succ m =>
      have HS := Lib.hid (step_yes ow1 wr b m W1 v1 g1)
      clear g1 g2
      go_wp2_with fail
      refine HS.out.mono ?_; rintro e w2 ⟨rfl, q1, q2⟩
      have q3 := H2.out.keeps q2 (.refl _ _) (by simp; omega)
      obtain ⟨bk, hbk⟩ : ∃ bk, g.blocks[T1.bi]? = some bk := ⟨_, List.getElem?_eq_getElem HM.out.ok.bi⟩
      have hbm : bk ∈ g.blocks := List.mem_of_getElem? hbk
      have hkk : Kp ow1 j wr w2 := q2.kp (by intro l hl; simp at hl; unfold Mine; omega)
      have hsz2 := hkk.size
      have HKK := Lib.hid (HK.out.trans HE.out hkk)
      have HN := Lib.hid (wnext_any ow1 w2 B b j p m g W1 T1 v1 rs1 us1 ts1 ws1 bk q1 q3 (by have := HB.out; omega) HL1.out (HGW.out.keeps (hkk.low (by have := HB.out; omega) HL1.out)) hbk (HM.out.ok.ii bk hbk) (by rw [HM.out.ok.regs]; exact HGO.out.fit bk hbm) (by rw [HM.out.ok.regs]; exact HGO.out.last bk hbm)
        ⟨HM.out.un, by have := HM.out.und; omega, by have := HM.out.out; omega, by have := HM.out.out; omega⟩)
      have d0 := q3.cells.1
      have HFU2 := Lib.hid (show fuelOf b wr = m + 1 from HFU.out)
      clear q1 q2 q3 hbk hbm hkk
      go_wp2_with fail
      refine HN.out.mono ?_; rintro e w3 ⟨rfl, ow3, v3, rs3, us3, ts3, ws3, t1, t2, t3, t4⟩
      have ha := HM.out.next HGO.out
      have hgt := HR1.out
      rw [goT] at hgt
      generalize nextT g W1 T1 = r at ha hgt t2 t3
      obtain ⟨W3, T3, bo⟩ := r
      have HT4 := Lib.hid (HKK.out.trans HE.out (t4))
      have HE3 := Lib.hid (show Ext ow ow3 w from fun k hk => (t1 k (by omega)).trans (HE.out k hk))
      have HT2 := Lib.hid t2
      have HT3 := Lib.hid t3
      have HHA := Lib.hid ha
      have HGT := Lib.hid hgt
      clear t1 t2 t3 t4 ha hgt
      cases bo with
      | true =>
        go_wp2_with fail
        go_ret
        rw [show R = (m, W3, T3, true) from HGT.out]
        exact ⟨rfl, ow3, v3, rs3, us3, ts3, ws3, HE3.out, HT2.out, HT3.out, HT4.out⟩
      | false =>
        go_wp2_with fail
        go_roundw
        case rel => exact ⟨rfl, m, ow3, W3, T3, v3, rs3, us3, ts3, ws3, HGT.out, HE3.out, HT2.out, HT3.out, HT4.out, HHA.out.on rfl⟩
        case measure => rw [HFU2.out, fuelOf_at HT2.out]; omega
end Go.Proofs.Ytijciojipcgiaaa
