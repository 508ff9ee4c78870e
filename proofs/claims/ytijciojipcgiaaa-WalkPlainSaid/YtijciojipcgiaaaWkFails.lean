/- A loop over an iterator whose k-th round has values that are known beforehand, and whose body is left at its end alone. -/
import Derived.Test.YtijciojipcgiaaaRows
import Derived.RangeFuncFrom
import Derived.RangeFuncCalls
import Derived.Test.YtijciojipcgiaaaWkBack
import Derived.Test.YtijciojipcgiaaaWkUndo
import Derived.Test.YtijciojipcgiaaaWkPush
import Derived.Outline
namespace Go.Proofs.Ytijciojipcgiaaa
open Go Go.RowKit

/-- What lies from L on and is no cells may change. -/
def Mild (L : Nat) (I : Nat → World → Prop) : Prop :=
  (∀ k W o, I k W → I k (W.alloc o)) ∧ ∀ k W l o o', I k W → L ≤ l → W.heap[l]? = some o → o.isCells = false → I k (W.putObj l o')
theorem range_count {F : Fence} {n : Nat} {P : Program} {g : Operand} {ps : Array Tmp} {assign body : Code} {Q : Exit → Act → World → Prop} {a : Act} {w : World}
    (hro : F.round = none) (h1 : 1 ≤ n) {gf : Nat} {lb : Array Value} (hg : a.eval g = .func (.func gf) #[] lb) (hFg : F.fn gf) (eg : ∀ args w, (callFunc gf args).run P w = .ok (.enter gf args) w)
    (vals : Nat → Array Value) (len : Nat) (hps : ∀ k, (vals k).size = ps.size) (Kp : World → World → Prop)
    (hit : ∀ (l : Nat) (J : Nat → World → Prop) (W : World), Below w.heap.size w W → (∀ k V, J k V → k < len → YieldAt F (n - 1 - 1) P l (vals k) V fun e V' => e = .returned (.bool true) ∧ J (k + 1) V' ∧ Kp V V') → J 0 W →
      CallsIn F (n - 1) P gf (#[.func (.yield l) #[] #[]] ++ lb) W fun e W' => (∃ v, e = .returned v) ∧ J len W')
    (hKt : ∀ {A B C : World}, Kp A B → Kp B C → Kp A C) (hKb : ∀ (V : World) (l : Nat) (o o' : Obj), w.heap.size ≤ l → V.heap[l]? = some o → o.isCells = false → Kp V (V.putObj l o'))
    (I : Nat → World → Prop) (hI : Mild w.heap.size I) (h0 : I 0 w) (a₁ : Nat → Act)
    (hassign : ∀ (l k : Nat) (W : World) (K : Act → World → Prop), K (a₁ k) W → assign.wpIn (F.inRound l) (n - 1 - 1) P (Exit.then K (fun _ _ _ => False)) { tmps := (ps.zip (vals k)).foldl (fun t (p, v) => t.setIfInBounds p v) a.tmps, defers := [] } W)
    (hbody : ∀ (l k : Nat) (W : World), I k W → k < len → body.wpIn (F.inRound l) (n - 1 - 1) P (fun e _ W' => e = .normal ∧ KeepsOthers W W' ∧ Kp W W' ∧ I (k + 1) W') (a₁ k) W)
    (hdone : ∀ (D : Nat) (W : World), w.heap.size ≤ D → I len W → W.heap[D]? = some (.deferred (some [])) → Q .normal { a with defers := { target := .collected D, args := #[] } :: a.defers } W) :
    (Code.rangeFunc g ps assign body).wpIn F n P Q a w := by
  refine wpIn_rangeFunc fun fn hfn => ?_
  rw [hro]
  have hsz : (w.alloc (.deferred (some []))).heap.size = w.heap.size + 1 := by simp
  generalize hL : Loop.mk .ready none fn a.tmps ps assign body w.heap.size = L
  have hLs : L.state = .ready ∧ L.pending = none ∧ L.params = ps ∧ L.fn = fn ∧ L.tmps = a.tmps ∧ L.assign = assign ∧ L.body = body := by subst hL; exact ⟨rfl, rfl, rfl, rfl, rfl, rfl, rfl⟩
  have hen := run_enterLoop_outer (P := P) (w := w) fn a.tmps ps assign body
  rw [hL] at hen
  have hd1 : ((w.alloc (.deferred (some []))).alloc (.loop L)).heap[w.heap.size]? = some (.deferred (some [])) := (Below.heap_alloc _ _ _ (by simp)).trans (World.alloc_heap_new w _)
  have hl1 : ((w.alloc (.deferred (some []))).alloc (.loop L)).heap[w.heap.size + 1]? = some (.loop L) := by
    have := World.alloc_heap_new (w.alloc (.deferred (some []))) (.loop L)
    rwa [hsz] at this
  have hb1 : Below w.heap.size w ((w.alloc (.deferred (some []))).alloc (.loop L)) := ((Below.refl _ w).alloc (Nat.le_refl _) _).alloc (by simp) _
  have hI1 : I 0 ((w.alloc (.deferred (some []))).alloc (.loop L)) := hI.1 _ _ _ (hI.1 _ _ _ h0)
  generalize (w.alloc (.deferred (some []))).alloc (.loop L) = W1 at hen hd1 hl1 hb1 hI1
  refine ⟨w.heap.size + 1, [{ target := .collected w.heap.size, args := #[] }], W1, { target := .fn (.func gf) lb, args := #[.func (.yield (w.heap.size + 1)) #[] #[]] }, W1, gf, #[.func (.yield (w.heap.size + 1)) #[] #[]] ++ lb, W1, hen, ?_, ?_, ?_, fun _ => h1, ?_⟩
  · simp only [resolve, hg]
    simp [go_sem]
  · intro f' hf'
    simp [Target.leads] at hf'
    subst hf'
    exact hFg
  · simp [invoke, go_sem, eg]
  refine (hit (w.heap.size + 1) (fun k W => I k W ∧ W.heap[w.heap.size + 1]? = some (.loop L) ∧ W.heap[w.heap.size]? = some (.deferred (some []))) W1 hb1 ?_ ⟨hI1, hl1, hd1⟩).mono ?_
  · rintro k V ⟨k1, k2, k3⟩ hk
    have hlt : w.heap.size + 1 < V.heap.size := (Array.getElem?_eq_some_iff.1 k2).1
    have hy := run_yield (P := P) (args := vals k) k2 (by rw [hLs.2.2.1]; exact hps k)
    rw [hLs.2.2.1, hLs.2.2.2.1, hLs.2.2.2.2.1, hLs.2.2.2.2.2.1, hLs.2.2.2.2.2.2] at hy
    refine ⟨fn, _, assign, body, hy, roundIn_of_wpIn hfn (hassign _ k V _ ⟨_, run_beginRound k2 hLs.1, ?_⟩)⟩
    refine wpIn_mono (hbody _ k _ (hI.2 _ _ _ _ _ k1 (by omega) k2 rfl) hk) ?_
    rintro e a3 W3 ⟨rfl, q1, q2, q3⟩
    have l3 : W3.heap[w.heap.size + 1]? = some (.loop { L with state := .busy }) := q1.same _ _ (World.putObj_heap_same hlt) rfl
    have d3 : W3.heap[w.heap.size]? = some (.deferred (some [])) := q1.same _ _ ((World.putObj_heap_other (by omega)).trans k3) rfl
    have hr := run_endRound (P := P) none l3
    have hback : ({ L with state := if (none : Option Code).isNone then LoopState.ready else .done, pending := none } : Loop) = L := by subst hL; rfl
    rw [show ({ ({ L with state := LoopState.busy } : Loop) with state := if (none : Option Code).isNone then LoopState.ready else .done, pending := none } : Loop) = L from hback] at hr
    refine ⟨_, _, hr, rfl, ⟨hI.2 _ _ _ _ _ q3 (by omega) l3 rfl, World.putObj_heap_same (Array.getElem?_eq_some_iff.1 l3).1, (World.putObj_heap_other (by omega)).trans d3⟩, ?_⟩
    exact hKt (hKt (hKb _ _ _ _ (by omega) k2 rfl) q2) (hKb _ _ _ _ (by omega) l3 rfl)
  · rintro e W2 ⟨⟨v, rfl⟩, k1, k2, k3⟩
    have hr := run_endLoop (P := P) k2 (by rw [hLs.1]; simp)
    rw [hLs.2.1] at hr
    exact ⟨none, _, hr, hdone _ _ (Nat.le_refl _) (hI.2 _ _ _ _ _ k1 (by omega) k2 rfl) ((World.putObj_heap_other (by omega)).trans k3)⟩
end Go.Proofs.Ytijciojipcgiaaa
namespace Go.Proofs.Ytijciojipcgiaaa
open Go.RowKit Go.Shelf
set_option maxRecDepth 100000
attribute [local go_sem] Oper.semAt_some

/-- What is to be taken back is there. -/
def UOk : List Un → Nat → Nat → Prop
  | [], _, _ => True
  | .put a _ :: l, s, n => a < n ∧ UOk l s n
  | .cut :: l, s, n => (1 ≤ s ∧ s ≤ n) ∧ UOk l s s
def unA : Un → WS → TS → WS × TS
  | .put a x, W, T => ({ W with words := W.words.set a x }, T)
  | .cut, W, T => ({ W with words := W.words.take T.since }, { T with waiting := [] })
theorem undoA_cons (u : Un) (l : List Un) (W : WS) (T : TS) : undoA (u :: l) W T = undoA l (unA u W T).1 (unA u W T).2 := by cases u <;> rfl
theorem undoA_append (l m : List Un) : ∀ (W : WS) (T : TS), undoA (l ++ m) W T = undoA m (undoA l W T).1 (undoA l W T).2 := by
  induction l with
  | nil => intro W T; rfl
  | cons u l ih => intro W T; rw [List.cons_append, undoA_cons, undoA_cons, ih]
theorem unA_fix (u : Un) (W : WS) (T : TS) : (unA u W T).2.since = T.since ∧ (unA u W T).2.undo = T.undo ∧ (unA u W T).2.told = T.told ∧ (unA u W T).2.regs = T.regs ∧ (unA u W T).2.waiting.length ≤ T.waiting.length ∧ (unA u W T).2.bi = T.bi ∧ (unA u W T).2.ii = T.ii := by cases u <;> exact ⟨rfl, rfl, rfl, rfl, by simp [unA], rfl, rfl⟩
theorem undoA_fix (l : List Un) : ∀ (W : WS) (T : TS), (undoA l W T).2.since = T.since ∧ (undoA l W T).2.undo = T.undo ∧ (undoA l W T).2.told = T.told ∧ (undoA l W T).2.regs = T.regs ∧ (undoA l W T).2.waiting.length ≤ T.waiting.length ∧ (undoA l W T).2.bi = T.bi ∧ (undoA l W T).2.ii = T.ii := by
  induction l with
  | nil => intro W T; exact ⟨rfl, rfl, rfl, rfl, Nat.le_refl _, rfl, rfl⟩
  | cons u l ih =>
    intro W T
    rw [undoA_cons]
    obtain ⟨a, b, c, d, e, f, g⟩ := ih (unA u W T).1 (unA u W T).2
    obtain ⟨a', b', c', d', e', f', g'⟩ := unA_fix u W T
    exact ⟨a.trans a', b.trans b', c.trans c', d.trans d', Nat.le_trans e e', f.trans f', g.trans g'⟩
theorem UOk.step {u : Un} {l : List Un} {W : WS} {T : TS} (h : UOk (u :: l) T.since W.words.length) : UOk l (unA u W T).2.since (unA u W T).1.words.length := by
  cases u with
  | put a x => simpa [unA] using h.2
  | cut =>
    obtain ⟨⟨_, h1⟩, h2⟩ := h
    simp only [unA, List.length_take]
    rw [Nat.min_eq_left h1]
    exact h2
theorem UOk.drop : ∀ (k : Nat) (l : List Un) (W : WS) (T : TS), UOk l T.since W.words.length → UOk (l.drop k) (undoA (l.take k) W T).2.since (undoA (l.take k) W T).1.words.length := by
  intro k
  induction k with
  | zero => intro l W T h; exact h
  | succ k ih =>
    intro l W T h
    cases l with
    | nil => exact trivial
    | cons u l =>
      rw [List.drop_succ_cons, List.take_succ_cons, undoA_cons]
      exact ih l _ _ h.step
theorem undoA_take (T : TS) (W : WS) (k : Nat) (u : Un) (hu : T.undo[k]? = some u) : undoA (T.undo.take (k + 1)) W T = unA u (undoA (T.undo.take k) W T).1 (undoA (T.undo.take k) W T).2 := by
  have hk := (List.getElem?_eq_some_iff.1 hu)
  obtain ⟨hk, e⟩ := hk
  rw [List.take_add_one, hu, Option.toList_some, undoA_append, undoA_cons]
  rfl
theorem unsAt_len {ow : Nat → Nat} {w : World} {j p : Nat} : ∀ {us : List Un} {l : List Value}, UnsAt ow w j p us l → l.length = us.length := by
  intro us
  induction us with
  | nil => intro l h; simp only [UnsAt] at h; subst h; rfl
  | cons u r ih => rintro l ⟨f, l', _, h2, rfl⟩; simp [ih h2]
theorem unsAt_get {ow : Nat → Nat} {w : World} {j p : Nat} : ∀ {us : List Un} {l : List Value}, UnsAt ow w j p us l → ∀ (k : Nat) u, us[k]? = some u → ∃ f, l[us.length - 1 - k]? = some f ∧ UnAt ow w j p u f := by
  intro us
  induction us with
  | nil => intro l h k u hu; simp at hu
  | cons u r ih =>
    rintro l ⟨f, l', h1, h2, rfl⟩ k v hv
    have hl := unsAt_len h2
    cases k with
    | zero =>
      simp at hv
      subst hv
      exact ⟨f, by rw [List.length_cons, List.getElem?_append_right (by omega)]; simp [hl], h1⟩
    | succ k =>
      rw [List.getElem?_cons_succ] at hv
      have hk := (List.getElem?_eq_some_iff.1 hv).1
      obtain ⟨f', e, h⟩ := ih h2 k v hv
      exact ⟨f', by rw [List.length_cons, List.getElem?_append_left (by omega), show r.length + 1 - 1 - (k + 1) = r.length - 1 - k by omega]; exact e, h⟩
/-- One word written. -/
theorem WAt.setW {ow : Nat → Nat} {w : World} {b n : Nat} {W : WS} {v : Value} (h : WAt ow w b W n v) (a : Nat) (ha : a < W.words.length) :
    ∃ wg cap y, v = .slice (some ⟨wg, 0, none⟩) W.words.length cap ∧ W.words.length ≤ cap ∧ wg < w.heap.size ∧ W.words[a]? = some y ∧ w.cell? ⟨wg, a, none⟩ = some (.int .i64 y) ∧ w.frozen? ⟨wg, a, none⟩ = false ∧ ow wg = 2 ∧
      ∀ x, WAt ow (w.setCell ⟨wg, a, none⟩ (.int .i64 x)) b { W with words := W.words.set a x } n v ∧ But ow [2] w (w.setCell ⟨wg, a, none⟩ (.int .i64 x)) := by
  rcases h.row.2 with ⟨_, h0⟩ | ⟨g, cap, cur, rfl, hb, hg, hn, hc, hs, ht⟩
  · omega
  · have hlab : ow g = 2 := h.labr g rfl
    rw [Nat.mul_one] at ht hs
    have hya : W.words[a]? = some W.words[a] := List.getElem?_eq_getElem ha
    have hca : cur[a]? = some (.int .i64 W.words[a]) := by
      have : (cur.toList.take W.words.length)[a]? = (wds W.words)[a]? := by rw [ht]
      rw [List.getElem?_take, if_pos ha, wds, List.getElem?_map, hya] at this
      simpa using this
    refine ⟨g, cap, _, rfl, hn, heap_lt hg, hya, by rw [Lib.cell_of_heap hg]; exact hca, Lib.frozen_of_heap hg a, hlab, fun x => ?_⟩
    have hbut : But ow [2] w (w.setCell ⟨g, a, none⟩ (.int .i64 x)) := (But.of (Below.refl _ _)).set (p := ⟨g, a, none⟩) (by simp [hlab]) _
    refine ⟨⟨(hbut.block b (heap_lt h.box) (by rw [h.lab]; simp)).trans h.box, ⟨by simp [wds], .inr ⟨g, cap, cur.setIfInBounds a (.int .i64 x), by simp, hb, heap_setCell_same w g a _ _ _ hg, by simpa using hn, hc, by simpa using hs, ?_⟩⟩, h.lab, h.labr, h.big, by simpa using h.many⟩, hbut⟩
    simp only [List.length_set, Nat.mul_one, Array.toList_setIfInBounds, wds, List.map_set]
    rw [List.take_set, ht]
    simp [wds]
theorem but_mono {ow : Nat → Nat} {l m : List Nat} {a b : World} (h : But ow l a b) (hl : ∀ x ∈ l, x ∈ m) : But ow m a b := ⟨h.os, h.tape, h.output, h.size, fun k hk hn => h.block k hk (fun q => hn (hl _ q))⟩
theorem but_then {ow : Nat → Nat} {ls : List Nat} {a b c : World} (h : But ow ls a b) (k : But ow ls b c) : But ow ls a c :=
  ⟨k.os.trans h.os, k.tape.trans h.tape, k.output.trans h.output, Nat.le_trans h.size k.size, fun i hi hn => (k.block i (Nat.lt_of_lt_of_le hi h.size) hn).trans (h.block i hi hn)⟩
/-- What one thing taken back leaves. -/
structure Undone (ow : Nat → Nat) (b j p n : Nat) (g : Gr) (W : WS) (T : TS) (rs us ts : Value) (w w' : World) : Prop where
  st : ∃ v ws, WAt ow w' b W n v ∧ TAt ow w' b j p g T rs us ts ws
  but : But ow [1, 2, 10 + 8 * j] w w'
  kept : KeepsOthers w w'
theorem store1_un (ow : Nat → Nat) (w : World) (b j p n : Nat) (g : Gr) (W : WS) (T : TS) (v rs us ts ws : Value) (h1 : WAt ow w b W n v) (h2 : TAt ow w b j p g T rs us ts ws) (c7 c2 c5 a : Nat) (x : Int) (ha : a < W.words.length)
    (k7 : w.heap[c7]? = some (.cells #[.int .i64 x] 2 (0, 0))) (k2 : w.heap[c2]? = some (.cells #[.pointer (some ⟨p, 0, none⟩)] 63 (0, 0))) (k5 : w.heap[c5]? = some (.cells #[.int .i64 (a : Int)] 2 (0, 0))) :
    Calls Try.prog 56 #[.pointer (some ⟨c7, 0, none⟩), .pointer (some ⟨c2, 0, none⟩), .pointer (some ⟨c5, 0, none⟩)] w fun e w' => e = .returned (.tuple #[]) ∧ Undone ow b j p n g (unA (.put a x) W T).1 (unA (.put a x) W T).2 rs us ts w w' := by
  obtain ⟨wg, cap, y, rfl, hcap, hwg, hy, hcell, hfz, hlab, hset⟩ := h1.setW a ha
  refine (store1_any w b p wg W.words.length cap c7 c2 c5 a x y (cellI k7 0 _ rfl) (cellI k2 0 _ rfl) (cellI k5 0 _ rfl) h2.cells.1 h1.cells.1 ha h1.many hcell hfz (heap_lt k7) (heap_lt k2) (heap_lt k5) (heap_lt h2.box) (heap_lt h1.box)).mono ?_
  rintro e w' ⟨rfl, rfl⟩
  obtain ⟨h3, hb⟩ := hset x
  have hd : But ow [] (w.setCell ⟨wg, a, none⟩ (.int .i64 x)) (w.setCell ⟨wg, a, none⟩ (.int .i64 x)).drew := But.of (below_drewN' (Below.refl _ _))
  exact ⟨rfl, ⟨_, ws, h3.keeps hd (.refl _ _) (by simp) (by simp), (h2.keeps hb (.refl _ _) (by simp; omega)).keeps hd (.refl _ _) (by simp)⟩, (but_mono hb (by simp)).drew, (KeepsOthers.setCell _ _ _).trans (KeepsOthers.drew _)⟩
theorem begin1_un (ow : Nat → Nat) (w : World) (b j p n : Nat) (g : Gr) (W : WS) (T : TS) (v rs us ts ws : Value) (h1 : WAt ow w b W n v) (h2 : TAt ow w b j p g T rs us ts ws) (c2 : Nat) (hs1 : 1 ≤ T.since) (hs2 : T.since ≤ W.words.length)
    (k2 : w.heap[c2]? = some (.cells #[.pointer (some ⟨p, 0, none⟩)] 63 (0, 0))) (l2 : ow c2 = 15 + 8 * j) :
    Calls Try.prog 58 #[.pointer (some ⟨c2, 0, none⟩)] w fun e w' => e = .returned (.tuple #[]) ∧ Undone ow b j p n g (unA .cut W T).1 (unA .cut W T).2 rs us ts w w' := by
  rcases h1.row.2 with ⟨_, h0⟩ | ⟨wg, cap, cur, rfl, hb, hg, hn, hc, hs, ht⟩
  · omega
  have hpb : p ≠ b := fun e => by have := h1.lab; have := h2.lab; rw [e] at this; omega
  have hcb : c2 ≠ b := fun e => by have := h1.lab; rw [← e] at this; omega
  refine (begin1_any w b p wg W.words.length cap c2 T.since ws (cellI k2 0 _ rfl) h2.cells.1 h1.cells.1 (Lib.frozen_of_heap h1.box 0) (cellI h2.box 8 _ rfl) (cellI h2.box 11 _ rfl) (Lib.frozen_of_heap h2.box 11) hs2 h1.many hn (heap_lt k2) (heap_lt h2.box) (heap_lt h1.box) hpb hcb).mono ?_
  rintro e w' ⟨rfl, rfl⟩
  have hlw : ow wg = 2 := h1.labr wg rfl
  have hb1 : But ow [1, 2, 10 + 8 * j] w (w.setCell ⟨b, 0, none⟩ (.slice (some ⟨wg, 0, none⟩) T.since cap)).drew := ((But.of (Below.refl _ _)).set (p := ⟨b, 0, none⟩) (by simp [h1.lab]) _).drew
  have hb2 : But ow [1, 2, 10 + 8 * j] w ((w.setCell ⟨b, 0, none⟩ (.slice (some ⟨wg, 0, none⟩) T.since cap)).drew.setCell ⟨p, 11, none⟩ (.slice none 0 0)) := hb1.set (p := ⟨p, 11, none⟩) (by simp [h2.lab]) _
  have hbx : But ow [1, 10 + 8 * j] w ((w.setCell ⟨b, 0, none⟩ (.slice (some ⟨wg, 0, none⟩) T.since cap)).drew.setCell ⟨p, 11, none⟩ (.slice none 0 0)) := (((But.of (Below.refl _ _)).set (p := ⟨b, 0, none⟩) (by simp [h1.lab]) _).drew).set (p := ⟨p, 11, none⟩) (by simp [h2.lab]) _
  have hno : ∀ k, k ≠ 0 → 10 + k + 8 * j ∉ [1, 10 + 8 * j] := fun k h0 q => by simp at q; omega
  have hbox1 : ((w.setCell ⟨b, 0, none⟩ (.slice (some ⟨wg, 0, none⟩) T.since cap)).drew).heap[p]? = _ := (Below.heap_setCell _ _ _ _ hpb).trans h2.box
  have hbb : (w.setCell ⟨b, 0, none⟩ (.slice (some ⟨wg, 0, none⟩) T.since cap)).heap[b]? = some (.cells (worldC (.slice (some ⟨wg, 0, none⟩) T.since cap) n W.strange) 69 (0, 0)) := by
    rw [heap_setCell_same w b 0 _ _ _ h1.box]; rfl
  refine ⟨rfl, ⟨.slice (some ⟨wg, 0, none⟩) T.since cap, .slice none 0 0, ⟨(Below.heap_setCell _ _ _ _ hpb.symm).trans hbb, ?_, h1.lab, ?_, h1.big, ?_⟩, ⟨?_, h2.lab, regs_keep h2.regs hbx (.refl _ _) (hno 1 (by omega)), undo_keep h2.undo hbx (.refl _ _) (hno 2 (by omega)) (hno 5 (by omega)), h2.told.keeps hbx (.refl _ _) (hno 3 (by omega)), .inl ⟨rfl, rfl⟩⟩⟩, hb2, ((KeepsOthers.setCell _ _ _).trans (KeepsOthers.drew _)).trans (KeepsOthers.setCell _ _ _)⟩
  · have hl : (W.words.take T.since).length = T.since := by rw [List.length_take, Nat.min_eq_left hs2]
    simp only [unA]
    refine ⟨by simp [wds], .inr ⟨wg, cap, cur, by rw [hl], hb, (hbx.block wg (heap_lt hg) (by rw [hlw]; simp; omega)).trans hg, by omega, hc, hs, ?_⟩⟩
    rw [hl, Nat.mul_one]
    have : cur.toList.take T.since = (cur.toList.take W.words.length).take T.since := by rw [List.take_take, Nat.min_eq_left hs2]
    rw [Nat.mul_one] at ht
    rw [this, ht, wds, wds, List.map_take]
  · intro k hk; cases hk; exact hlw
  · simp only [unA, List.length_take]; have := h1.many; omega
  · rw [heap_setCell_same _ p 11 _ _ _ hbox1]; rfl
/-- Between two things taken back. -/
def FailI (ow : Nat → Nat) (w : World) (b j p n : Nat) (g : Gr) (W : WS) (T : TS) (rs us ts : Value) (ul : List Value) (B : Nat) (k : Nat) (w' : World) : Prop :=
  (∃ v ws, WAt ow w' b (undoA (T.undo.take k) W T).1 n v ∧ TAt ow w' b j p g (undoA (T.undo.take k) W T).2 rs us ts ws) ∧ UnsAt ow w' j p T.undo ul ∧ But ow [1, 2, 10 + 8 * j] w w' ∧ B ≤ w'.heap.size
theorem FailI.of {ow : Nat → Nat} {w : World} {b j p n : Nat} {g : Gr} {W : WS} {T : TS} {rs us ts : Value} {ul : List Value} {B k : Nat} {A A' : World} (h : FailI ow w b j p n g W T rs us ts ul B k A) (hb : But ow [0] A A') (h0 : ∀ k, k < w.heap.size → ow k = 0 → A'.heap[k]? = A.heap[k]?) : FailI ow w b j p n g W T rs us ts ul B k A' := by
  obtain ⟨⟨v, ws, k1, k2⟩, k3, k4, k5⟩ := h
  refine ⟨⟨v, ws, k1.keeps hb (.refl _ _) (by simp) (by simp), k2.keeps hb (.refl _ _) (by simp; omega)⟩, k3.keeps hb (.refl _ _) (by simp), ⟨hb.os.trans k4.os, hb.tape.trans k4.tape, hb.output.trans k4.output, Nat.le_trans k4.size hb.size, fun i hi hn => ?_⟩, Nat.le_trans k5 hb.size⟩
  refine Eq.trans ?_ (k4.block i hi hn)
  by_cases e : ow i = 0
  · exact h0 i hi e
  · exact hb.block i (Nat.lt_of_lt_of_le hi k4.size) (by simp [e])
theorem below_box' (w : World) (o : Obj) : Below w.heap.size w (w.alloc o) := (Below.refl _ w).alloc (Nat.le_refl _) _
theorem FailI.mild (ow : Nat → Nat) (B : Nat) (h0 : ∀ k, B ≤ k → ow k = 0) (w : World) (hB : w.heap.size ≤ B) (b j p n : Nat) (g : Gr) (W : WS) (T : TS) (rs us ts : Value) (ul : List Value) : Mild B (FailI ow w b j p n g W T rs us ts ul B) := by
  refine ⟨fun k A o h => h.of (But.of (below_box' A o)) (fun i hi _ => Below.heap_alloc _ _ _ (Nat.lt_of_lt_of_le hi h.2.2.1.size)), fun k A l o o' h hl ho _ => h.of ⟨rfl, rfl, rfl, by simp, fun i _ hn => World.putObj_heap_other (fun e => hn (by rw [e, h0 l hl]; simp))⟩ (fun i hi _ => World.putObj_heap_other (by omega))⟩
set_option maxHeartbeats 8000000 in
theorem fails_any (ow : Nat → Nat) (w : World) (b j p n : Nat) (g : Gr) (W : WS) (T : TS) (v rs us ts ws : Value) (e : Int) (h1 : WAt ow w b W n v) (h2 : TAt ow w b j p g T rs us ts ws) (hok : UOk T.undo T.since W.words.length) (hu : T.undo.length ≤ 1048576) :
    Calls Try.prog 53 #[.pointer (some ⟨p, 0, none⟩), .int .u8 e] w (StepE ow b j p g n (failT W T e) w) := by
  obtain ⟨ul, hul, hus, hlu⟩ := h2.undo
  have hll := unsAt_len hus
  obtain ⟨NU, hNU⟩ : ∃ N, N = T.undo.length := ⟨_, rfl⟩
  obtain ⟨ao, cap, rfl, hcap1, hcap2, hao, hcell⟩ : ∃ ao cap, us = .slice ao NU cap ∧ NU ≤ cap ∧ cap ≤ 9223372036854775807 ∧ (∀ a, ao = some a → ow a.block = 12 + 8 * j ∧ a.block < w.heap.size) ∧ ∀ k, k < NU → ∃ b0, ao = some ⟨b0, 0, none⟩ ∧ w.cell? ⟨b0, k, none⟩ = some (ul[k]?.getD .nilFunc) := by
    rcases hul.2 with ⟨rfl, h0⟩ | ⟨q, cap, cur, rfl, _, hq, hn, hc, hs, ht⟩
    · exact ⟨none, 0, by rw [hNU, h0], by omega, by omega, (fun a e => by cases e), fun k hk => by omega⟩
    · refine ⟨_, cap, by rw [hNU], by omega, by unfold maxLen at hc; omega, (fun a e => by cases e; exact ⟨hlu q rfl, heap_lt hq⟩), fun k hk => ⟨q, rfl, ?_⟩⟩
      rw [hul.cellAt k (by omega), List.getElem?_eq_getElem (by omega)]
      rfl
  obtain ⟨ow1, how1⟩ : ∃ o : Nat → Nat, o = fun k => if k < w.heap.size then ow k else 0 := ⟨_, rfl⟩
  have hext : Ext ow ow1 w := fun k hk => by rw [how1]; simp [hk]
  have hzero : ∀ k, w.heap.size ≤ k → ow1 k = 0 := fun k hk => by rw [how1]; simp; omega
  have h1' : WAt ow1 w b W n v := h1.keeps (But.of (ls := []) (Below.refl _ _)) hext (by simp) (by simp)
  have h2' : TAt ow1 w b j p g T rs (.slice ao NU cap) ts ws := h2.keeps (But.of (ls := []) (Below.refl _ _)) hext (by simp)
  have hus' : UnsAt ow1 w j p T.undo ul := hus.keeps (But.of (ls := []) (Below.refl _ _)) hext (by simp)
  have hao1 : ∀ a, ao = some a → ow1 a.block = 12 + 8 * j ∧ a.block < w.heap.size := fun a e => by obtain ⟨q1, q2⟩ := hao a e; exact ⟨by rw [hext _ q2]; exact q1, q2⟩
  obtain ⟨d0, d3, d4, d5, d6, d7, d8, d9, d10, d11, d12⟩ := h2'.cells
  have hlp := heap_lt h2.box
  have H1 := Lib.hid h1'
  have H2 := Lib.hid h2'
  have HUS := Lib.hid hus'
  have HEXT := Lib.hid hext
  have HZ := Lib.hid hzero
  have HAO := Lib.hid hao1
  have HC := Lib.hid hcell
  have HLL := Lib.hid hll
  have HNU := Lib.hid hNU
  have HOK := Lib.hid hok
  have HU := Lib.hid hu
  have hNU2 : NU ≤ 1048576 := by omega
  clear h1 h2 hok hu hul hus hlu hll hNU hao hcell how1 hext hzero h1' h2' hus' hao1 d0 d3 d4 d5 d6 d7 d8 d10 d11 d12
  refine (callsIn_wide (n := 6)).1 ?_
  refine callsIn_of_wp_marks Try.func53 rfl trivial ?_ rfl
  refine wpIn_wide.2 ?_
  simp only [Try.ntmps53, List.size_toArray, List.length_cons, List.length_nil, Nat.reduceAdd, Nat.reduceSub, Array.replicate_succ, Array.replicate_zero, List.push_toArray, List.append_toArray, List.nil_append, List.cons_append]
  go_wp2_with fail
  refine (back_any ao NU cap w).mono ?_; rintro e8 w8 ⟨rfl, rfl⟩
  go_wp2_with fail
  obtain ⟨W8, hW8⟩ : ∃ W8, W8 = w.alloc (.cells #[.slice ao NU cap] 78) := ⟨_, rfl⟩
  have hb8 : Below w.heap.size w W8 := by rw [hW8]; exact below_box _ _
  have hz8 : W8.heap.size = w.heap.size + 1 := by rw [hW8]; simp
  have hB8 : W8.heap[w.heap.size]? = some (.cells #[.slice ao NU cap] 78 (0, 0)) := by rw [hW8]; exact (MapKept.heap_alloc _ _).1
  rw [← hW8]
  have HB8 := Lib.hid hb8
  have hROW8 : ∀ k, k < NU → ∃ b0 off, ao = some ⟨b0, off, none⟩ ∧ W8.cell? ⟨b0, off + k, none⟩ = some (ul[k]?.getD .nilFunc) := fun k hk => by
    obtain ⟨b0, q1, q2⟩ := HC.out k hk
    exact ⟨b0, 0, q1, by rw [Nat.zero_add]; exact (cell_of_same (hb8.block b0 (HAO.out _ q1).2) k).trans q2⟩
  clear hW8 hb8 d9
  refine (wpIn_wide (n := 6)).1 ?_
  refine range_count rfl (by decide) (gf := 80) (lb := #[.pointer (some ⟨w.heap.size, 0, none⟩)]) rfl trivial (enters_of Try.func80 (by kernel_rfl) rfl)
    (backV ul NU) NU (fun _ => rfl) (KeepsS w.heap.size ao)
    (fun l J W hW hY hJ => back1_in 5 (by decide) l w.heap.size NU cap ao ul (by omega) J hY W ((cell_of_same (hW.block _ (by omega)) 0).trans (cellI hB8 0 _ rfl)) (fun k hk => by
      obtain ⟨b0, off, q1, q2⟩ := hROW8 k hk
      exact ⟨b0, off, q1, (cell_of_same (hW.block b0 (by have := (HAO.out _ q1).2; dsimp only at this; omega)) (off + k)).trans q2⟩) hJ)
    (fun h1 h2 => h1.trans h2) (fun W l ob ob' hl _ _ => ⟨World.putObj_heap_other (by omega), fun a e => World.putObj_heap_other (by have := (HAO.out a e).2; omega)⟩)
    (FailI ow1 w b j p n g W T rs (.slice ao NU cap) ts ul W8.heap.size) (FailI.mild ow1 W8.heap.size (fun k hk => HZ.out k (by omega)) w (by omega) b j p n g W T rs _ ts ul)
    ⟨⟨v, ws, H1.out.keeps (But.of (ls := []) HB8.out) (.refl _ _) (by simp) (by simp), H2.out.keeps (But.of (ls := []) HB8.out) (.refl _ _) (by simp)⟩, HUS.out.keeps (But.of (ls := []) HB8.out) (.refl _ _) (by simp), But.of HB8.out, Nat.le_refl _⟩
    ?act1 ?assign1 ?body1 ?done1
  case assign1 =>
    intro l k W K hK
    gi_wp2
    exact hK
  case body1 =>
    rintro l k W9 ⟨⟨v9, ws9, k1, k2⟩, k3, k4, k5⟩ hk
    obtain ⟨u, hun⟩ : ∃ u, T.undo[k]? = some u := ⟨_, List.getElem?_eq_getElem (by rw [← HNU.out]; exact hk)⟩
    obtain ⟨f, hf, hua⟩ := unsAt_get k3 k u hun
    have hfv : ul[NU - 1 - k]?.getD .nilFunc = f := by rw [HNU.out, hf]; rfl
    have hoku := UOk.drop k T.undo W T HOK.out
    have hdr : T.undo.drop k = u :: T.undo.drop (k + 1) := by rw [List.drop_eq_getElem_cons (by rw [← HNU.out]; exact hk)]; congr 1; have := (List.getElem?_eq_some_iff.1 hun).2; exact this
    have hst := undoA_take T W k u hun
    rw [hdr] at hoku
    obtain ⟨Wk, hWk⟩ : ∃ Wk, Wk = (undoA (T.undo.take k) W T).1 := ⟨_, rfl⟩
    obtain ⟨Tk, hTk⟩ : ∃ Tk, Tk = (undoA (T.undo.take k) W T).2 := ⟨_, rfl⟩
    rw [← hWk] at k1 hoku hst
    rw [← hTk] at k2 hoku hst
    have HST := Lib.hid hst
    have HK3 := Lib.hid k3
    have HK4 := Lib.hid k4
    have hfin : ∀ W10, Undone ow1 b j p n g (unA u Wk Tk).1 (unA u Wk Tk).2 rs (.slice ao NU cap) ts W9 W10 → KeepsOthers W9 W10 ∧ KeepsS w.heap.size ao W9 W10 ∧ FailI ow1 w b j p n g W T rs (.slice ao NU cap) ts ul W8.heap.size (k + 1) W10 := by
      rintro W10 ⟨hs, hb, hko⟩
      have hsz := HK4.out.size
      refine ⟨hko, ⟨hb.block _ (by omega) (by rw [HZ.out _ (Nat.le_refl _)]; simp; omega), fun a e => hb.block _ (by have := (HAO.out a e).2; omega) (by rw [(HAO.out a e).1]; simp; omega)⟩, ?_, HK3.out.keeps hb (.refl _ _) (by simp; omega), but_then HK4.out hb, Nat.le_trans k5 hb.size⟩
      rw [HST.out]
      exact hs
    have HFIN := Lib.hid hfin
    clear k3 k4 hst hfin hdr hWk hTk hf hun
    rw [backV, hfv]
    cases u with
    | put a x =>
      obtain ⟨c7, c2, c5, rfl, ha, q7, q2, q5, l7, l2, l5⟩ := hua
      have HC := Lib.hid (store1_un ow1 W9 b j p n g Wk Tk v9 rs _ ts ws9 k1 k2 c7 c2 c5 a x hoku.1 q7 q2 q5)
      clear k1 k2 hoku q7 q2 q5 l7 l2 l5 hfv
      gi_wp2
      refine ⟨trivial, ((callsIn_wide.2 HC.out).inRound l).mono ?_⟩
      rintro e10 W10 ⟨rfl, hU10⟩
      have HU10 := Lib.hid (HFIN.out W10 hU10)
      clear hU10
      gi_wp2
      rw [← hz8]; exact HU10.out
    | cut =>
      obtain ⟨c2, rfl, q2, l2⟩ := hua
      have HC := Lib.hid (begin1_un ow1 W9 b j p n g Wk Tk v9 rs _ ts ws9 k1 k2 c2 hoku.1.1 hoku.1.2 q2 l2)
      clear k1 k2 hoku q2 l2 hfv
      gi_wp2
      refine ⟨trivial, ((callsIn_wide.2 HC.out).inRound l).mono ?_⟩
      rintro e10 W10 ⟨rfl, hU10⟩
      have HU10 := Lib.hid (HFIN.out W10 hU10)
      clear hU10
      gi_wp2
      rw [← hz8]; exact HU10.out
  case done1 =>
    rintro D W9 hD ⟨⟨v9, ws9, k1, k2⟩, k3, k4, k5⟩ hK
    have hlen : T.undo.take NU = T.undo := by rw [HNU.out, List.take_length]
    rw [hlen] at k1 k2
    obtain ⟨d0, d3, d4, d5, d6, d7, d8, d9, d10, d11, d12⟩ := k2.cells
    have f12 := Lib.frozen_of_heap k2.box 12
    have hlp9 := heap_lt k2.box
    have HK1 := Lib.hid k1
    have HK2 := Lib.hid k2
    have HK4 := Lib.hid k4
    have HK := Lib.hid hK
    clear k1 k2 k3 k4 hK d0 d3 d4 d5 d6 d7 d8 d9 d10 d11 hlen
    go_wp2_with fail
    have hD9 : D ≠ p := by omega
    have hKD : (W9.setCell ⟨p, 12, none⟩ (.int .u8 e)).heap[D]? = some (.deferred (some [])) := (Below.heap_setCell _ _ _ _ hD9).trans HK.out
    refine ⟨by simp, .inl ⟨_, _, rfl, run_takeDeferred hKD, ?_⟩⟩
    have hs12 : But ow1 [10 + 8 * j] W9 (W9.setCell ⟨p, 12, none⟩ (.int .u8 e)) := (But.of (Below.refl _ _)).set (p := ⟨p, 12, none⟩) (by simp [HK2.out.lab]) _
    have hs0 : But ow1 [0] (W9.setCell ⟨p, 12, none⟩ (.int .u8 e)) ((W9.setCell ⟨p, 12, none⟩ (.int .u8 e)).putObj D (.deferred none)) := ⟨rfl, rfl, rfl, by simp, fun i _ hn => World.putObj_heap_other (fun q => hn (by rw [q, HZ.out D (by omega)]; simp))⟩
    refine ⟨_, results_tmp rfl _ _ _, ?_⟩
    refine ⟨rfl, ow1, v9, rs, .slice ao NU cap, ts, ws9, HEXT.out, ?_, ?_, ?_⟩
    · exact (HK1.out.keeps hs12 (.refl _ _) (by simp; omega) (by simp; omega)).keeps hs0 (.refl _ _) (by simp) (by simp)
    · exact (HK2.out.rebox (T' := { (undoA T.undo W T).2 with fin := e }) hs12 (tset_box 12 _ HK2.out.box rfl) rfl rfl rfl rfl).keeps hs0 (.refl _ _) (by simp; omega)
    · have k4 := HK4.out
      refine ⟨k4.os, k4.tape, k4.output, Nat.le_trans k4.size (by simp [World.setCell]), fun k hk hm => ?_⟩
      have hnm : ow1 k ∉ [1, 2, 10 + 8 * j] := by
        rw [HEXT.out k hk]
        intro q
        simp at q
        exact hm (by unfold Mine; omega)
      have hkp : k ≠ p := fun q => hnm (by rw [q, HK2.out.lab]; simp)
      exact (World.putObj_heap_other (by omega)).trans ((Below.heap_setCell _ _ _ _ hkp).trans (k4.block k hk hnm))
end Go.Proofs.Ytijciojipcgiaaa
