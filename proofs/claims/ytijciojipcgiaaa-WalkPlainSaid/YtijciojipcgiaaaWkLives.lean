/- What graphs tell, leap by leap, as trees; and that leaps go on. Nothing here speaks of the program. -/
import Derived.Test.YtijciojipcgiaaaIrIn
import Derived.Test.YtijciojipcgiaaaWkWord
import Derived.Test.YtijciojipcgiaaaRows
import Derived.Test.YtijciojipcgiaaaIrSizes
import Derived.Deep.AppendLies
import Derived.Laws.OwnMore
import Derived.Laws.MakeOwn
import Derived.Lib.Hide
import Derived.Test.YtijciojipcgiaaaEv16
import Derived.KernelRfl
import Derived.Test.YtijciojipcgiaaaProg
namespace Go.Proofs.Ytijciojipcgiaaa
open Go Go.Lib Go.RowKit

/-- What a block has done: a word written, or that it has begun. The newest first. -/
inductive Un where
  | put (at' : Nat) (was : Int)
  | cut
structure TS where
  regs : List Int
  bi : Nat
  ii : Nat
  inside : Bool
  since : Nat
  undo : List Un
  told : List Int
  waiting : List Int
  fin : Int
structure WS where
  words : List Int
  strange : Bool
def TS.reg (T : TS) (r : Int) : Int := (T.regs[r.toNat]?).getD 0
def TS.setR (T : TS) (a n : Int) : TS := { T with regs := T.regs.set a.toNat n }
def metA (T : TS) (i : In) : Int := if 0 ≤ i.c then wrap64 (wrap64 (T.reg i.b + i.n) + T.reg i.c) else wrap64 (T.reg i.b + i.n)
def hasW (W : WS) (a : Int) : Bool := decide (0 < a) && decide (a < (W.words.length : Int))
def undoA : List Un → WS → TS → WS × TS
  | [], W, T => (W, T)
  | .put a x :: l, W, T => undoA l { W with words := W.words.set a x } T
  | .cut :: l, W, T => undoA l { W with words := W.words.take T.since } { T with waiting := [] }
def failT (W : WS) (T : TS) (e : Int) : WS × TS × Bool := ((undoA T.undo W T).1, { (undoA T.undo W T).2 with fin := e }, true)
def ownT (W : WS) (T : TS) (i : In) : WS := if hasW W (metA T i) = true ∧ metA T i < (T.since : Int) then { W with strange := true } else W
def loadT (W : WS) (T : TS) (i : In) : WS × TS × Bool := if hasW W (metA T i) = true then (W, T.setR i.a ((W.words[(metA T i).toNat]?).getD 0), false) else failT W T 8
def storeT (W : WS) (T : TS) (i : In) : WS × TS × Bool := if hasW W (metA T i) = true then
    ({ W with words := W.words.set (metA T i).toNat (T.reg i.a) }, { T with undo := .put (metA T i).toNat ((W.words[(metA T i).toNat]?).getD 0) :: T.undo }, false) else failT W T 8
def deedT (W : WS) (T : TS) (i : In) : WS × TS × Bool :=
  if i.k = 1 ∨ i.k = 6 then (W, T.setR i.a i.n, false)
  else if i.k = 2 then (W, T.setR i.a (T.reg i.b), false)
  else if i.k = 3 then (if doE i.o (T.reg i.c) = 0 then (W, T.setR i.a (doN i.o (T.reg i.b) (T.reg i.c)), false) else failT W T 2)
  else if i.k = 4 then (if T.reg i.b = 0 then failT W T 3 else (W, T, false))
  else if i.k = 5 then (if T.reg i.b < 0 ∨ i.n ≤ T.reg i.b then failT W T 4 else (W, T, false))
  else if i.k = 7 then (if 65536 < (W.words.length : Int) - 1 + i.n then failT W T 5 else ({ W with words := W.words ++ List.replicate i.n.toNat 0 }, T.setR i.a (W.words.length : Int), false))
  else if i.k = 8 then loadT W T i
  else if i.k = 9 then storeT W T i
  else if i.k = 10 then loadT (ownT W T i) T i
  else if i.k = 11 then storeT (ownT W T i) T i
  else if i.k = 12 then (if T.inside = true then (W, { T with waiting := T.waiting ++ [T.reg i.b] }, false) else (W, { T with told := T.told ++ [T.reg i.b] }, true))
  else if i.k = 13 then (W, { T with inside := true, since := W.words.length, undo := .cut :: T.undo }, false)
  else (W, { T with inside := false, undo := [] }, true)
def lastT (T : TS) (b : Bk) : TS × Bool :=
  if b.last = 3 then ({ T with fin := 1 }, true)
  else if b.last = 2 ∧ T.reg b.reg = 0 then ({ T with bi := b.no.toNat, ii := 0 }, false)
  else ({ T with bi := b.yes.toNat, ii := 0 }, false)
def nextT (g : Gr) (W : WS) (T : TS) : WS × TS × Bool := match g.blocks[T.bi]? with
  | none => (W, T, true)
  | some b => match b.ins[T.ii]? with
    | none => (W, (lastT T b).1, (lastT T b).2)
    | some i => deedT W { T with ii := T.ii + 1 } i
/-- A thread taken up where it stands, with so much fuel. -/
def goT (g : Gr) : Nat → WS → TS → Nat × WS × TS × Bool
  | 0, W, T => (0, W, T, false)
  | n + 1, W, T => match nextT g W T with
    | (W', T', true) => (n, W', T', true)
    | (W', T', false) => goT g n W' T'
def leapT (g : Gr) (n : Nat) (W : WS) (T : TS) : Nat × WS × TS × Bool := match T.waiting with
  | x :: r => (n, W, { T with told := T.told ++ [x], waiting := r }, true)
  | [] => if T.fin ≠ 0 then (n, W, T, true) else goT g n W T
/-- The fuel, the words, the threads. -/
structure RS where
  n : Nat
  W : WS
  T : List TS
def runP (gs : List Gr) : List Int → RS → RS × Bool
  | [], s => (s, false)
  | p :: ps, s => if p < 0 ∨ (gs.length : Int) ≤ p then runP gs ps s else match gs[p.toNat]?, s.T[p.toNat]? with
    | some g, some T => if (leapT g s.n s.W T).2.2.2 = true then runP gs ps ⟨(leapT g s.n s.W T).1, (leapT g s.n s.W T).2.1, s.T.set p.toNat (leapT g s.n s.W T).2.2.1⟩
        else (⟨(leapT g s.n s.W T).1, (leapT g s.n s.W T).2.1, s.T.set p.toNat (leapT g s.n s.W T).2.2.1⟩, true)
    | _, _ => runP gs ps s
theorem runP_append (gs : List Gr) : ∀ (ps qs : List Int) (s : RS), runP gs (ps ++ qs) s = if (runP gs ps s).2 = true then runP gs ps s else runP gs qs (runP gs ps s).1 := by
  intro ps
  induction ps with
  | nil => intro qs s; rfl
  | cons p ps ih =>
    intro qs s
    rw [List.cons_append, runP, runP]
    split
    · exact ih qs s
    · split
      · split
        · exact ih qs _
        · rw [if_pos rfl]
      · exact ih qs s

/-! ### Leaps go on -/
structure TS.Le (T T' : TS) : Prop where
  told : ∃ l, T'.told = T.told ++ l
  fin : T.fin ≠ 0 → T'.fin = T.fin
theorem TS.Le.refl (T : TS) : T.Le T := ⟨⟨[], by simp⟩, fun _ => rfl⟩
theorem TS.Le.trans {a b c : TS} (h : a.Le b) (k : b.Le c) : a.Le c := by
  obtain ⟨l, hl⟩ := h.told
  obtain ⟨m, hm⟩ := k.told
  refine ⟨⟨l ++ m, by rw [hm, hl, List.append_assoc]⟩, fun hf => ?_⟩
  have h1 := h.fin hf
  rw [k.fin (by rw [h1]; exact hf), h1]
def WS.Le (W W' : WS) : Prop := W.strange = true → W'.strange = true
theorem undoA_told : ∀ (l : List Un) (W : WS) (T : TS), (undoA l W T).2.told = T.told ∧ (undoA l W T).1.strange = W.strange := by
  intro l
  induction l with
  | nil => intro W T; exact ⟨rfl, rfl⟩
  | cons u l ih =>
    intro W T
    cases u with
    | put a x => exact ih _ _
    | cut => exact ih _ _
/-- A step from where no end is: what was told stays, strange stays. -/
structure StepLe (W : WS) (T : TS) (r : WS × TS × Bool) : Prop where
  told : ∃ l, r.2.1.told = T.told ++ l
  str : W.Le r.1
theorem StepLe.same {W W' : WS} {T T' : TS} {b : Bool} (h1 : T'.told = T.told) (h2 : W'.strange = W.strange) : StepLe W T (W', T', b) := ⟨⟨[], by simp [h1]⟩, fun h => by rw [h2]; exact h⟩
theorem failT_le (W : WS) (T : TS) (e : Int) : StepLe W T (failT W T e) := .same (undoA_told _ _ _).1 (undoA_told _ _ _).2
theorem ownT_le (W : WS) (T : TS) (i : In) : W.Le (ownT W T i) := by
  unfold ownT
  split
  · exact fun _ => rfl
  · exact id
theorem loadT_le (W : WS) (T : TS) (i : In) : StepLe W T (loadT W T i) := by
  unfold loadT
  split
  · exact .same rfl rfl
  · exact failT_le _ _ _
theorem storeT_le (W : WS) (T : TS) (i : In) : StepLe W T (storeT W T i) := by
  unfold storeT
  split
  · exact .same rfl rfl
  · exact failT_le _ _ _
theorem StepLe.own {W : WS} {T : TS} {i : In} {r : WS × TS × Bool} (h : StepLe (ownT W T i) T r) : StepLe W T r := ⟨h.told, fun q => h.str (ownT_le W T i q)⟩
theorem StepLe.ite {W : WS} {T : TS} {c : Prop} [Decidable c] {a b : WS × TS × Bool} (h1 : StepLe W T a) (h2 : StepLe W T b) : StepLe W T (if c then a else b) := by
  by_cases h : c
  · rw [if_pos h]; exact h1
  · rw [if_neg h]; exact h2
theorem deedT_le (W : WS) (T : TS) (i : In) : StepLe W T (deedT W T i) := by
  unfold deedT
  repeat' first | exact loadT_le _ _ _ | exact storeT_le _ _ _ | exact (loadT_le _ _ _).own | exact (storeT_le _ _ _).own | exact failT_le _ _ _ | apply StepLe.ite
  all_goals first
    | exact .same rfl rfl
    | exact failT_le _ _ _
    | exact loadT_le _ _ _
    | exact storeT_le _ _ _
    | exact (loadT_le _ _ _).own
    | exact (storeT_le _ _ _).own
    | exact ⟨⟨_, rfl⟩, id⟩
theorem lastT_told (T : TS) (b : Bk) : (lastT T b).1.told = T.told := by
  unfold lastT
  repeat' split
  all_goals rfl
theorem nextT_le (g : Gr) (W : WS) (T : TS) : StepLe W T (nextT g W T) := by
  unfold nextT
  split
  · exact .same rfl rfl
  · split
    · exact .same (lastT_told _ _) rfl
    · have h := deedT_le W { T with ii := T.ii + 1 } (by assumption)
      exact ⟨h.told, h.str⟩
theorem goT_le (g : Gr) : ∀ (n : Nat) (W : WS) (T : TS), (∃ l, (goT g n W T).2.2.1.told = T.told ++ l) ∧ W.Le (goT g n W T).2.1 := by
  intro n
  induction n with
  | zero => intro W T; exact ⟨⟨[], by simp [goT]⟩, id⟩
  | succ n ih =>
    intro W T
    have h := nextT_le g W T
    rw [goT]
    generalize nextT g W T = r at h
    obtain ⟨W', T', b⟩ := r
    cases b with
    | true => exact ⟨h.told, h.str⟩
    | false =>
      obtain ⟨⟨l, hl⟩, hs⟩ := ih W' T'
      obtain ⟨m, hm⟩ := h.told
      exact ⟨⟨m ++ l, by rw [hl]; simp only at hm; rw [hm, List.append_assoc]⟩, fun q => hs (h.str q)⟩
theorem leapT_le (g : Gr) (n : Nat) (W : WS) (T : TS) : T.Le (leapT g n W T).2.2.1 ∧ W.Le (leapT g n W T).2.1 := by
  unfold leapT
  split
  · exact ⟨⟨⟨_, rfl⟩, fun _ => rfl⟩, id⟩
  · split
    · exact ⟨.refl _, id⟩
    · rename_i hf
      obtain ⟨h1, h2⟩ := goT_le g n W T
      exact ⟨⟨h1, fun q => absurd q hf⟩, h2⟩
structure RS.Le (s s' : RS) : Prop where
  str : s.W.Le s'.W
  len : s'.T.length = s.T.length
  each : ∀ (i : Nat) T T', s.T[i]? = some T → s'.T[i]? = some T' → T.Le T'
theorem RS.Le.refl (s : RS) : s.Le s := ⟨id, rfl, fun i T T' h h' => by rw [h] at h'; cases h'; exact .refl _⟩
theorem RS.Le.trans {a b c : RS} (h : a.Le b) (k : b.Le c) : a.Le c := by
  refine ⟨fun q => k.str (h.str q), k.len.trans h.len, fun i T T' h1 h2 => ?_⟩
  have hi : i < b.T.length := by rw [h.len]; exact (List.getElem?_eq_some_iff.1 h1).1
  exact (h.each i T _ h1 (List.getElem?_eq_getElem hi)).trans (k.each i _ T' (List.getElem?_eq_getElem hi) h2)
theorem leap_le (g : Gr) (s : RS) (p : Nat) (T : TS) (hT : s.T[p]? = some T) : s.Le ⟨(leapT g s.n s.W T).1, (leapT g s.n s.W T).2.1, s.T.set p (leapT g s.n s.W T).2.2.1⟩ := by
  obtain ⟨h1, h2⟩ := leapT_le g s.n s.W T
  refine ⟨h2, by simp, fun i A A' hA hA' => ?_⟩
  simp only [List.getElem?_set] at hA'
  split at hA'
  · rename_i e
    subst e
    rw [hT] at hA
    cases hA
    split at hA'
    · cases hA'; exact h1
    · cases hA'
  · rw [hA] at hA'
    cases hA'
    exact .refl _
theorem runP_le (gs : List Gr) : ∀ (ps : List Int) (s : RS), s.Le (runP gs ps s).1 := by
  intro ps
  induction ps with
  | nil => intro s; exact .refl _
  | cons p ps ih =>
    intro s
    rw [runP]
    split
    · exact ih s
    · split
      · rename_i g T hg hT
        split
        · exact (leap_le g s _ T hT).trans (ih _)
        · exact leap_le g s _ T hT
      · exact ih s
/-- A beginning tells a beginning. -/
theorem goes (gs : List Gr) (ps qs : List Int) (s : RS) : (runP gs ps s).1.Le (runP gs (ps ++ qs) s).1 ∧ ((runP gs ps s).2 = true → (runP gs (ps ++ qs) s).2 = true) := by
  rw [runP_append]
  by_cases h : (runP gs ps s).2 = true
  · rw [if_pos h]; exact ⟨.refl _, id⟩
  · rw [if_neg h]; exact ⟨runP_le _ _ _, fun q => absurd q h⟩
end Go.Proofs.Ytijciojipcgiaaa
namespace Go.Proofs.Ytijciojipcgiaaa
open Go Go.Lib Go.RowKit
set_option maxRecDepth 100000

def wds (l : List Int) : List Value := l.map (Value.int .i64)
theorem wds_len (l : List Int) : (wds l).length = l.length := by simp [wds]
/-- The deeds, by the kinds of instructions. -/
noncomputable def fnV (f : FuncId) : Value := .func (.func f) #[] #[]
noncomputable def deedsL : List Value := [.nilFunc, fnV 29, fnV 30, fnV 31, fnV 32, fnV 33, fnV 29, fnV 34, fnV 35, fnV 36, fnV 37, fnV 38, fnV 39, fnV 40, fnV 41]
noncomputable def worldC (v : Value) (n : Nat) (s : Bool) : Array Value := (v :: .int .i64 (n : Int) :: .bool s :: deedsL).toArray
def threadC (b : Nat) (g : Gr) (rs : Value) (T : TS) (us ts ws : Value) : Array Value :=
  #[.pointer (some ⟨b, 0, none⟩), g.rv, .int .i64 g.sites, g.bv, rs, .int .i64 (T.bi : Int), .int .i64 (T.ii : Int), .bool T.inside, .int .i64 (T.since : Int), us, ts, ws, .int .u8 T.fin]

/-- Whose label: the world's, or the j-th thread's. -/
def Mine (j l : Nat) : Prop := l = 1 ∨ l = 2 ∨ (10 + 8 * j ≤ l ∧ l < 18 + 8 * j)
/-- What a thread's step may touch. -/
structure Kp (ow : Nat → Nat) (j : Nat) (w w' : World) : Prop where
  os : w'.os = w.os
  tape : w'.tape = w.tape
  output : w'.output = w.output
  size : w.heap.size ≤ w'.heap.size
  block : ∀ k, k < w.heap.size → ¬ Mine j (ow k) → w'.heap[k]? = w.heap[k]?
def Ext (ow ow' : Nat → Nat) (w : World) : Prop := ∀ k, k < w.heap.size → ow' k = ow k
theorem Kp.refl (ow : Nat → Nat) (j : Nat) (w : World) : Kp ow j w w := ⟨rfl, rfl, rfl, Nat.le_refl _, fun _ _ _ => rfl⟩
theorem Kp.of {ow : Nat → Nat} {j : Nat} {w w' : World} (h : Below w.heap.size w w') : Kp ow j w w' := ⟨h.os, h.tape, h.output, h.size, fun k hk _ => h.block k hk⟩
theorem Kp.trans {ow ow' : Nat → Nat} {j : Nat} {a b c : World} (h : Kp ow j a b) (he : Ext ow ow' a) (k : Kp ow' j b c) : Kp ow j a c :=
  ⟨k.os.trans h.os, k.tape.trans h.tape, k.output.trans h.output, Nat.le_trans h.size k.size, fun i hi hm => (k.block i (Nat.lt_of_lt_of_le hi h.size) (by rw [he i hi]; exact hm)).trans (h.block i hi hm)⟩
theorem Kp.drew {ow : Nat → Nat} {j : Nat} {a b : World} (h : Kp ow j a b) : Kp ow j a b.drew := ⟨h.os, h.tape, h.output, h.size, h.block⟩
theorem Ext.refl (ow : Nat → Nat) (w : World) : Ext ow ow w := fun _ _ => rfl
theorem Ext.trans {ow ow' ow'' : Nat → Nat} {a b : World} (h : Ext ow ow' a) (k : Ext ow' ow'' b) (hs : a.heap.size ≤ b.heap.size) : Ext ow ow'' a := fun i hi => (k i (by omega)).trans (h i hi)

/-- The world of a run. -/
structure WAt (ow : Nat → Nat) (w : World) (b : Nat) (W : WS) (n : Nat) (v : Value) : Prop where
  box : w.heap[b]? = some (.cells (worldC v n W.strange) 69 (0, 0))
  row : w.ownsRow 0 2 1 v W.words.length (wds W.words)
  lab : ow b = 1
  labr : ∀ k, v.ownBlock = some k → ow k = 2
  big : n ≤ 1048576
  many : W.words.length ≤ 65537
/-- What takes back one thing that a block has done. -/
def UnAt (ow : Nat → Nat) (w : World) (j p : Nat) : Un → Value → Prop
  | .put a x, f => ∃ c7 c2 c5, f = .func (.func 56) #[] #[.pointer (some ⟨c7, 0, none⟩), .pointer (some ⟨c2, 0, none⟩), .pointer (some ⟨c5, 0, none⟩)] ∧ a < 65537 ∧
      w.heap[c7]? = some (.cells #[.int .i64 x] 2 (0, 0)) ∧ w.heap[c2]? = some (.cells #[.pointer (some ⟨p, 0, none⟩)] 63 (0, 0)) ∧ w.heap[c5]? = some (.cells #[.int .i64 (a : Int)] 2 (0, 0)) ∧ ow c7 = 15 + 8 * j ∧ ow c2 = 15 + 8 * j ∧ ow c5 = 15 + 8 * j
  | .cut, f => ∃ c2, f = .func (.func 58) #[] #[.pointer (some ⟨c2, 0, none⟩)] ∧ w.heap[c2]? = some (.cells #[.pointer (some ⟨p, 0, none⟩)] 63 (0, 0)) ∧ ow c2 = 15 + 8 * j
/-- The newest first; in memory it is the last. -/
def UnsAt (ow : Nat → Nat) (w : World) (j p : Nat) : List Un → List Value → Prop
  | [], l => l = []
  | u :: r, l => ∃ f l', UnAt ow w j p u f ∧ UnsAt ow w j p r l' ∧ l = l' ++ [f]
/-- A row of numbers that begins somewhere in its block. -/
def Tail (ow : Nat → Nat) (w : World) (lab : Nat) (v : Value) (l : List Int) : Prop :=
  (v = .slice none 0 0 ∧ l = []) ∨ ∃ g off cap cur, v = .slice (some ⟨g, off, none⟩) l.length cap ∧ w.heap[g]? = some (.cells cur 2 (0, 0)) ∧ ow g = lab ∧ l.length ≤ cap ∧ cap ≤ maxLen ∧ off + cap ≤ cur.size ∧ ∀ (i : Nat) x, l[i]? = some x → cur[off + i]? = some (.int .i64 x)
/-- A thread of a run. -/
structure TAt (ow : Nat → Nat) (w : World) (b j p : Nat) (g : Gr) (T : TS) (rs us ts ws : Value) : Prop where
  box : w.heap[p]? = some (.cells (threadC b g rs T us ts ws) 80 (0, 0))
  lab : ow p = 10 + 8 * j
  regs : ∃ rg, rs = .slice (some ⟨rg, 0, none⟩) T.regs.length T.regs.length ∧ w.heap[rg]? = some (.cells (wds T.regs).toArray 2 (0, 0)) ∧ ow rg = 11 + 8 * j
  undo : ∃ ul, w.ownsRow 0 1 1 us T.undo.length ul ∧ UnsAt ow w j p T.undo ul ∧ ∀ k, us.ownBlock = some k → ow k = 12 + 8 * j
  told : Tail ow w (13 + 8 * j) ts T.told
  waiting : Tail ow w (14 + 8 * j) ws T.waiting
/-- What keeps still where only some labels are touched. -/
structure But (ow : Nat → Nat) (ls : List Nat) (w w' : World) : Prop where
  os : w'.os = w.os
  tape : w'.tape = w.tape
  output : w'.output = w.output
  size : w.heap.size ≤ w'.heap.size
  block : ∀ k, k < w.heap.size → ow k ∉ ls → w'.heap[k]? = w.heap[k]?
theorem But.of {ow : Nat → Nat} {ls : List Nat} {w w' : World} (h : Below w.heap.size w w') : But ow ls w w' := ⟨h.os, h.tape, h.output, h.size, fun k hk _ => h.block k hk⟩
theorem But.kp {ow : Nat → Nat} {ls : List Nat} {j : Nat} {w w' : World} (h : But ow ls w w') (hl : ∀ l ∈ ls, Mine j l) : Kp ow j w w' := ⟨h.os, h.tape, h.output, h.size, fun k hk hm => h.block k hk (fun q => hm (hl _ q))⟩
theorem But.drew {ow : Nat → Nat} {ls : List Nat} {a b : World} (h : But ow ls a b) : But ow ls a b.drew := ⟨h.os, h.tape, h.output, h.size, h.block⟩
theorem But.set {ow : Nat → Nat} {ls : List Nat} {a b : World} (h : But ow ls a b) {p : Addr} (hp : ow p.block ∈ ls) (v : Value) : But ow ls a (b.setCell p v) :=
  ⟨h.os, h.tape, h.output, by have := h.size; simpa [World.setCell] using this, fun k hk hm => (Below.heap_setCell _ _ _ _ (by rintro rfl; exact hm hp)).trans (h.block k hk hm)⟩
theorem owns_but {ow : Nat → Nat} {ls : List Nat} {w w' : World} {e : TypeId} {size : Nat} {v : Value} {n : Nat} {xs : List Value} {l : Nat} (h : w.ownsRow 0 e size v n xs) (hb : But ow ls w w') (hl : ∀ k, v.ownBlock = some k → ow k = l) (hn : l ∉ ls) : w'.ownsRow 0 e size v n xs := by
  refine ⟨h.1, ?_⟩
  rcases h.2 with hn' | ⟨g, cap, cur, rfl, hb', hgg, rest⟩
  · exact .inl hn'
  · refine .inr ⟨g, cap, cur, rfl, hb', ?_, rest⟩
    rw [hb.block g (Array.getElem?_eq_some_iff.1 hgg).1 (by rw [hl g rfl]; exact hn)]
    exact hgg
theorem lab_ext {ow ow' : Nat → Nat} {w : World} {e : TypeId} {size : Nat} {v : Value} {n : Nat} {xs : List Value} {l : Nat} (h : w.ownsRow 0 e size v n xs) (he : Ext ow ow' w) (hl : ∀ k, v.ownBlock = some k → ow k = l) : ∀ k, v.ownBlock = some k → ow' k = l := fun k hk => by
  rw [he k (h.lt k hk).2]; exact hl k hk
theorem heap_lt {w : World} {k : Nat} {o : Obj} (h : w.heap[k]? = some o) : k < w.heap.size := (Array.getElem?_eq_some_iff.1 h).1
theorem WAt.keeps {ow ow' : Nat → Nat} {ls : List Nat} {w w' : World} {b : Nat} {W : WS} {n : Nat} {v : Value} (h : WAt ow w b W n v) (hb : But ow ls w w') (he : Ext ow ow' w) (h1 : 1 ∉ ls) (h2 : 2 ∉ ls) : WAt ow' w' b W n v :=
  ⟨(hb.block b (heap_lt h.box) (by rw [h.lab]; exact h1)).trans h.box, owns_but h.row hb h.labr h2, by rw [he b (heap_lt h.box)]; exact h.lab, lab_ext h.row he h.labr, h.big, h.many⟩
theorem UnAt.keeps {ow ow' : Nat → Nat} {ls : List Nat} {w w' : World} {j p : Nat} {u : Un} {f : Value} (h : UnAt ow w j p u f) (hb : But ow ls w w') (he : Ext ow ow' w) (h5 : 15 + 8 * j ∉ ls) : UnAt ow' w' j p u f := by
  have key : ∀ {c : Nat} {o : Obj}, w.heap[c]? = some o → ow c = 15 + 8 * j → w'.heap[c]? = some o ∧ ow' c = 15 + 8 * j := fun {c o} hc hl => ⟨(hb.block c (heap_lt hc) (by rw [hl]; exact h5)).trans hc, by rw [he c (heap_lt hc)]; exact hl⟩
  cases u with
  | put a x =>
    obtain ⟨c7, c2, c5, e, ha, h7, h2, hc5, l7, l2, l5⟩ := h
    obtain ⟨a1, b1⟩ := key h7 l7
    obtain ⟨a2, b2⟩ := key h2 l2
    obtain ⟨a3, b3⟩ := key hc5 l5
    exact ⟨c7, c2, c5, e, ha, a1, a2, a3, b1, b2, b3⟩
  | cut =>
    obtain ⟨c2, e, h2, l2⟩ := h
    obtain ⟨a2, b2⟩ := key h2 l2
    exact ⟨c2, e, a2, b2⟩
theorem UnsAt.keeps {ow ow' : Nat → Nat} {ls : List Nat} {w w' : World} {j p : Nat} (hb : But ow ls w w') (he : Ext ow ow' w) (h5 : 15 + 8 * j ∉ ls) : ∀ {us : List Un} {l : List Value}, UnsAt ow w j p us l → UnsAt ow' w' j p us l := by
  intro us
  induction us with
  | nil => intro l h; exact h
  | cons u r ih => rintro l ⟨f, l', h1, h2, rfl⟩; exact ⟨f, l', h1.keeps hb he h5, ih h2, rfl⟩
theorem Tail.keeps {ow ow' : Nat → Nat} {ls : List Nat} {w w' : World} {lab : Nat} {v : Value} {l : List Int} (h : Tail ow w lab v l) (hb : But ow ls w w') (he : Ext ow ow' w) (hn : lab ∉ ls) : Tail ow' w' lab v l := by
  rcases h with h | ⟨g, off, cap, cur, e, hg, hl, r⟩
  · exact .inl h
  · exact .inr ⟨g, off, cap, cur, e, (hb.block g (heap_lt hg) (by rw [hl]; exact hn)).trans hg, by rw [he g (heap_lt hg)]; exact hl, r⟩
theorem regs_keep {ow ow' : Nat → Nat} {ls : List Nat} {w w' : World} {j : Nat} {rs : Value} {l : List Int} (h : ∃ rg, rs = .slice (some ⟨rg, 0, none⟩) l.length l.length ∧ w.heap[rg]? = some (.cells (wds l).toArray 2 (0, 0)) ∧ ow rg = 11 + 8 * j) (hb : But ow ls w w') (he : Ext ow ow' w) (hn : 11 + 8 * j ∉ ls) :
    ∃ rg, rs = .slice (some ⟨rg, 0, none⟩) l.length l.length ∧ w'.heap[rg]? = some (.cells (wds l).toArray 2 (0, 0)) ∧ ow' rg = 11 + 8 * j := by
  obtain ⟨rg, r1, r2, r3⟩ := h
  exact ⟨rg, r1, (hb.block rg (heap_lt r2) (by rw [r3]; exact hn)).trans r2, by rw [he rg (heap_lt r2)]; exact r3⟩
def UndoAt (ow : Nat → Nat) (w : World) (j p : Nat) (us : Value) (l : List Un) : Prop := ∃ ul, w.ownsRow 0 1 1 us l.length ul ∧ UnsAt ow w j p l ul ∧ ∀ k, us.ownBlock = some k → ow k = 12 + 8 * j
theorem undo_keep {ow ow' : Nat → Nat} {ls : List Nat} {w w' : World} {j p : Nat} {us : Value} {l : List Un} (h : UndoAt ow w j p us l) (hb : But ow ls w w') (he : Ext ow ow' w) (hn : 12 + 8 * j ∉ ls) (h5 : 15 + 8 * j ∉ ls) : UndoAt ow' w' j p us l := by
  obtain ⟨ul, u1, u2, u3⟩ := h
  exact ⟨ul, owns_but u1 hb u3 hn, u2.keeps hb he h5, lab_ext u1 he u3⟩
/-- A thread keeps still where nothing of its own is touched. -/
theorem TAt.keeps {ow ow' : Nat → Nat} {ls : List Nat} {w w' : World} {b j p : Nat} {g : Gr} {T : TS} {rs us ts ws : Value} (h : TAt ow w b j p g T rs us ts ws) (hb : But ow ls w w') (he : Ext ow ow' w) (hn : ∀ l ∈ ls, l < 10 + 8 * j ∨ 18 + 8 * j ≤ l) : TAt ow' w' b j p g T rs us ts ws := by
  have hno : ∀ x, x < 8 → 10 + x + 8 * j ∉ ls := fun x hx q => by have := hn _ q; omega
  exact ⟨(hb.block p (heap_lt h.box) (by rw [h.lab]; exact hno 0 (by omega))).trans h.box, by rw [he p (heap_lt h.box)]; exact h.lab, regs_keep h.regs hb he (hno 1 (by omega)),
    undo_keep h.undo hb he (hno 2 (by omega)) (hno 5 (by omega)), h.told.keeps hb he (hno 3 (by omega)), h.waiting.keeps hb he (hno 4 (by omega))⟩
end Go.Proofs.Ytijciojipcgiaaa
namespace Go.Proofs.Ytijciojipcgiaaa
open Go.RowKit
set_option maxRecDepth 100000
set_option maxHeartbeats 0
def retVal : Option Ev.CR → Option Value
  | some (.ret v) => Ev.toVal v
  | _ => none
theorem mixed : Try.prog.follows .mixedOrders = true := by kernel_rfl
theorem deeds_runs : retVal (((Ev.sys Try.prog (fun _ _ => none) (fun _ => none) 1000).call (fun _ => none) 23 [] Ev.st0).map (fun x => x.1)) = some (.agg deedsL.toArray) := by kernel_rfl
theorem closed_call {f : FuncId} {k : Nat} {u : Value} (h : retVal (((Ev.sys Try.prog (fun _ _ => none) (fun _ => none) k).call (fun _ => none) f [] Ev.st0).map (fun x => x.1)) = some u) (w : World) :
    Calls Try.prog f #[] w fun e w' => e = .returned u ∧ Below w.heap.size w w' := by
  cases hc : ((Ev.sys Try.prog (fun _ _ => none) (fun _ => none) k).call (fun _ => none) f [] Ev.st0).map (fun x => x.1) with
  | none => rw [hc] at h; cases h
  | some r =>
    rw [hc] at h
    cases r <;> first | (cases h; done) | skip
    rename_i v
    exact Ev.ev_calls Ev.COk.none mixed k (show Ev.FR Ev.env0 [] [] from rfl) (fun b o x h => by cases h) hc h
theorem deeds_call (w : World) : Calls Try.prog 23 #[] w fun e w' => e = .returned (.agg deedsL.toArray) ∧ Below w.heap.size w w' := closed_call deeds_runs w
end Go.Proofs.Ytijciojipcgiaaa
namespace Go.Proofs.Ytijciojipcgiaaa
open Go.RowKit
set_option maxRecDepth 100000
set_option maxHeartbeats 0
theorem lives_runs : ((Ev.sys Try.prog (fun _ _ => none) (fun _ => none) 8000).call (fun _ => none) 8 [] Ev.st0).map (fun x => x.1) = some (.ret (.bool true)) := by kernel_rfl
theorem lives_call (w : World) : Calls Try.prog 8 #[] w fun e w' => e = .returned (.bool true) ∧ Below w.heap.size w w' :=
  Ev.ev_calls Ev.COk.none mixed 8000 (show Ev.FR Ev.env0 [] [] from rfl) (fun b o x h => by cases h) lives_runs rfl
end Go.Proofs.Ytijciojipcgiaaa
