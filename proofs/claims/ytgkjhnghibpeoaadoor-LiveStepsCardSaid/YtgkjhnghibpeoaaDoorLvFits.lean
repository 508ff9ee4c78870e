/- Graphs as trees, and which of them may be. Nothing here speaks of the program. -/
import Derived.Lib.Strings
import Derived.Below
namespace Go.Proofs.YtgkjhnghibpeoaaDoor
open Go Go.Lib

/-- An instruction. -/
structure In where
  k : Int
  o : Int
  a : Int
  b : Int
  c : Int
  n : Int
deriving DecidableEq
def In.cells (i : In) : List Value := [.int .u8 i.k, .int .u8 i.o, .int .i64 i.a, .int .i64 i.b, .int .i64 i.c, .int .i64 i.n]
def In.val (i : In) : Value := .agg #[.int .u8 i.k, .int .u8 i.o, .int .i64 i.a, .int .i64 i.b, .int .i64 i.c, .int .i64 i.n]
def noI : In := ⟨0, 0, 0, 0, 0, 0⟩
/-- A block. -/
structure Bk where
  iv : Value
  ins : List In
  last : Int
  reg : Int
  yes : Int
  no : Int
def Bk.cells (b : Bk) : List Value := [b.iv, .int .u8 b.last, .int .i64 b.reg, .int .i64 b.yes, .int .i64 b.no]
/-- A graph. -/
structure Gr where
  rv : Value
  refs : List Bool
  sites : Int
  bv : Value
  blocks : List Bk
def Gr.cells (g : Gr) : List Value := [g.rv, .int .i64 g.sites, g.bv]
/-- A program as graphs. -/
structure Cd where
  words : Int
  tv : Value
  threads : List Gr
def Cd.cells (c : Cd) : List Value := [.int .i64 c.words, c.tv]

/-! ### Each thing by itself -/
def regB (R : List Bool) (r : Int) : Bool := decide (0 ≤ r) && decide (r < R.length)
def refB (R : List Bool) (r : Int) : Bool := (R[r.toNat]?).getD false
def inB (n a b : Int) : Bool := decide (a ≤ n) && decide (n ≤ b)
def insHas (k : Int) : ByteArray :=
  if k = 1 then ⟨#[65, 110]⟩ else if k = 2 then ⟨#[65, 66]⟩ else if k = 3 then ⟨#[111, 65, 66, 67]⟩ else if k = 4 then ⟨#[66]⟩ else if k = 5 then ⟨#[66, 110]⟩ else if k = 6 then ⟨#[65, 110]⟩ else if k = 7 then ⟨#[65, 110, 99]⟩
  else if k = 8 then ⟨#[65, 66, 45, 110]⟩ else if k = 9 then ⟨#[65, 66, 45, 110]⟩ else if k = 10 then ⟨#[65, 66, 45, 110]⟩ else if k = 11 then ⟨#[65, 66, 45, 110]⟩ else if k = 12 then ⟨#[66]⟩ else ⟨#[]⟩
def insNm (k : Int) : ByteArray :=
  if k = 1 then ⟨#[99, 111, 110, 115, 116]⟩ else if k = 2 then ⟨#[109, 111, 118, 101]⟩ else if k = 3 then ⟨#[99, 97, 108, 99]⟩ else if k = 4 then ⟨#[110, 105, 108]⟩ else if k = 5 then ⟨#[105, 110, 100, 101, 120]⟩ else if k = 6 then ⟨#[115, 104, 97, 114, 101, 100]⟩
  else if k = 7 then ⟨#[110, 101, 119]⟩ else if k = 8 then ⟨#[108, 111, 97, 100]⟩ else if k = 9 then ⟨#[115, 116, 111, 114, 101]⟩ else if k = 10 then ⟨#[111, 119, 110, 108, 111, 97, 100]⟩ else if k = 11 then ⟨#[111, 119, 110, 115, 116, 111, 114, 101]⟩
  else if k = 12 then ⟨#[112, 114, 105, 110, 116]⟩ else if k = 13 then ⟨#[98, 101, 103, 105, 110]⟩ else if k = 14 then ⟨#[101, 110, 100]⟩ else ⟨#[]⟩
def lastHas (k : Int) : ByteArray := if k = 1 then ⟨#[98]⟩ else if k = 2 then ⟨#[65, 98, 99]⟩ else ⟨#[]⟩
def lastNm (k : Int) : ByteArray := if k = 1 then ⟨#[106, 117, 109, 112]⟩ else if k = 2 then ⟨#[98, 114, 97, 110, 99, 104]⟩ else if k = 3 then ⟨#[104, 97, 108, 116]⟩ else ⟨#[]⟩
def calcNm (k : Int) : ByteArray :=
  if k = 1 then ⟨#[97, 100, 100]⟩ else if k = 2 then ⟨#[115, 117, 98]⟩ else if k = 3 then ⟨#[109, 117, 108]⟩ else if k = 4 then ⟨#[100, 105, 118]⟩ else if k = 5 then ⟨#[109, 111, 100]⟩ else if k = 6 then ⟨#[97, 110, 100]⟩ else if k = 7 then ⟨#[111, 114]⟩
  else if k = 8 then ⟨#[120, 111, 114]⟩ else if k = 9 then ⟨#[115, 104, 108]⟩ else if k = 10 then ⟨#[115, 104, 114]⟩ else if k = 11 then ⟨#[101, 113]⟩ else if k = 12 then ⟨#[110, 101]⟩ else if k = 13 then ⟨#[108, 116]⟩ else if k = 14 then ⟨#[108, 101]⟩ else ⟨#[]⟩
/-- One letter: its thing is there, and is nought now. -/
def shp1 (R : List Bool) (l : UInt8) (i : In) : Option In :=
  if l = 111 then some { i with o := 0 }
  else if l = 110 then some { i with n := 0 }
  else if l = 98 then some { i with b := 0 }
  else if l = 99 then some { i with c := 0 }
  else if l = 45 ∧ i.c = -1 then some { i with c := 0 }
  else if l = 65 then (if regB R i.a then some { i with a := 0 } else none)
  else if l = 66 then (if regB R i.b then some { i with b := 0 } else none)
  else (if regB R i.c then some { i with c := 0 } else none)
def shpS (R : List Bool) : List UInt8 → In → Option In
  | [], i => some i
  | l :: r, i => match shp1 R l i with
    | none => none
    | some j => shpS R r j
def shaped (R : List Bool) (i : In) (has : ByteArray) : Bool := decide (shpS R has.data.toList { i with k := 0 } = some noI)
def calcB (R : List Bool) (i : In) : Bool := inB i.o 1 14 && (!refB R i.a && ((refB R i.b == refB R i.c) && (!refB R i.b || (decide (i.o = 11) || decide (i.o = 12)))))
def makesB (M : List Bool) (s : Int) : Bool := decide (0 ≤ s) && (decide (s < M.length) && !refB M s)
def fitsB (R : List Bool) (W : Int) (M : List Bool) (i : In) : Bool :=
  if i.k = 1 then !refB R i.a || decide (i.n = 0)
  else if i.k = 2 then refB R i.a == refB R i.b
  else if i.k = 3 then calcB R i
  else if i.k = 4 then refB R i.b
  else if i.k = 5 then !refB R i.b && inB i.n 1 64
  else if i.k = 6 then refB R i.a && inB i.n 1 W
  else if i.k = 7 then refB R i.a && (inB i.n 1 64 && makesB M i.c)
  else if i.k = 8 ∨ i.k = 9 ∨ i.k = 10 ∨ i.k = 11 then refB R i.b && ((decide (i.c = -1) || !refB R i.c) && inB i.n 0 64)
  else if i.k = 12 then !refB R i.b
  else true
/-- The sites for which there is an InNew, behind an instruction. -/
def nextM (R : List Bool) (W : Int) (M : List Bool) (i : In) : List Bool := if i.k = 7 ∧ fitsB R W M i = true then M.set i.c.toNat true else M
def insB (R : List Bool) (W : Int) (M : List Bool) (i : In) : Bool := inB i.k 1 14 && (shaped R i (insHas i.k) && fitsB R W M i)
def endI (b : Bk) : In := ⟨0, 0, b.reg, b.yes, b.no, 0⟩
def blkB (n : Nat) (k : Int) : Bool := decide (0 ≤ k) && decide (k < n)
def leadsB (R : List Bool) (n : Nat) (b : Bk) : Bool := if b.last = 1 then blkB n b.yes else if b.last = 2 then !refB R b.reg && (blkB n b.yes && blkB n b.no) else true
def lastB (R : List Bool) (n : Nat) (b : Bk) : Bool := inB b.last 1 3 && (shaped R (endI b) (lastHas b.last) && leadsB R n b)
/-- The first instruction that may not be, or the sites behind them all. -/
def firstI (R : List Bool) (W : Int) : Nat → List Bool → List In → Option Nat × List Bool
  | _, M, [] => (none, M)
  | k, M, i :: l => if insB R W M i = true then firstI R W (k + 1) (nextM R W M i) l else (some k, M)
def firstB (R : List Bool) (W : Int) (nb : Nat) : Nat → List Bool → List Bk → Option (Nat × Nat)
  | _, _, [] => none
  | n, M, b :: l => match firstI R W 0 M b.ins with
    | (some k, _) => some (n, k)
    | (none, M') => if lastB R nb b = true then firstB R W nb (n + 1) M' l else some (n, b.ins.length)

/-! ### Sides -/
def behI (k : Int) (on : Nat) : Nat := if k = 13 then 2 else if k = 14 then 1 else on
def behL : List In → Nat → Nat
  | [], on => on
  | i :: l, on => behL l (behI i.k on)
def nextL (b : Bk) : List Int := if b.last = 1 then [b.yes] else if b.last = 2 then [b.yes, b.no] else []
/-- The rows of blocks that are still to be begun, the top ahead. -/
def goS (bl : List Bk) : Nat → List Nat → List (Nat × Nat) → List Nat
  | 0, B, _ => B
  | _ + 1, B, [] => B
  | f + 1, B, (t, on) :: S =>
    if (B[t]?).getD 0 &&& on = 0 then
      goS bl f (B.set t ((B[t]?).getD 0 ||| on)) (match bl[t]? with
        | none => S
        | some b => ((nextL b).map fun y => (y.toNat, behL b.ins on)).reverse ++ S)
    else goS bl f B S
def beginsT (bl : List Bk) : List Nat := goS bl (6 * bl.length + 1) (List.replicate bl.length 0) [(0, 1)]
def bothT : Nat → List Nat → Option Nat
  | _, [] => none
  | n, s :: l => if s = 3 then some n else bothT (n + 1) l
def sideK (k : Int) : Nat := if k = 7 ∨ k = 8 ∨ k = 9 ∨ k = 10 ∨ k = 11 ∨ k = 14 then 2 else if k = 13 then 1 else 3
/-- The first instruction on the wrong side, or the side behind them all. -/
def misI : Nat → Nat → List In → Option Nat × Nat
  | _, on, [] => (none, on)
  | k, on, i :: l => if sideK i.k &&& on = 0 then (some k, on) else misI (k + 1) (behI i.k on) l
def misB (B : List Nat) : Nat → List Bk → Option (Nat × Nat)
  | _, [] => none
  | n, b :: l => if (B[n]?).getD 0 = 0 then misB B (n + 1) l else match misI 0 ((B[n]?).getD 0) b.ins with
    | (some k, _) => some (n, k)
    | (none, on) => if b.last = 3 ∧ on = 2 then some (n, b.ins.length) else misB B (n + 1) l

/-! ### Whole graphs -/
def longB : Int → List Bk → Bool
  | _, [] => false
  | left, b :: l => if left < b.ins.length then true else longB (left - b.ins.length) l
def sizesE (g : Gr) : Int :=
  if 1024 < g.refs.length ∨ 4096 < g.blocks.length ∨ 8192 < g.sites then 3
  else if longB 8192 g.blocks = true then 3
  else if g.blocks.length = 0 ∨ g.sites < 0 then 14 else 0
def sidesT (bl : List Bk) : (Nat × Nat) × Int := match bothT 0 (beginsT bl) with
  | some n => ((n, 0), 14)
  | none => match misB (beginsT bl) 0 bl with
    | some at' => (at', 14)
    | none => ((0, 0), 0)
def checkG (W : Int) (g : Gr) : (Nat × Nat) × Int :=
  if sizesE g = 0 then match firstB g.refs W g.blocks.length 0 (List.replicate g.sites.toNat false) g.blocks with
    | some at' => (at', 14)
    | none => sidesT g.blocks
  else ((0, 0), sizesE g)
def checkL (W : Int) : Nat → List Gr → Nat × (Nat × Nat) × Int
  | _, [] => (0, (0, 0), 0)
  | n, g :: l => if (checkG W g).2 = 0 then checkL W (n + 1) l else (n, checkG W g)
def checkC (W : Int) (l : List Gr) : Nat × (Nat × Nat) × Int :=
  if 65536 < W ∨ 4 < l.length then (0, (0, 0), 3) else if W < 0 then (0, (0, 0), 14) else checkL W 0 l
end Go.Proofs.YtgkjhnghibpeoaaDoor
namespace Go.Proofs.YtgkjhnghibpeoaaDoor
open Go Go.Lib

/-- A block may begin on a side (1: outside, 2: inside). -/
inductive Rch (bl : List Bk) : Nat → Nat → Prop
  | base : Rch bl 0 1
  | step {t s : Nat} {b : Bk} {y : Int} : Rch bl t s → bl[t]? = some b → y ∈ nextL b → Rch bl y.toNat (behL b.ins s)
theorem behL_12 : ∀ (l : List In) (s : Nat), s = 1 ∨ s = 2 → behL l s = 1 ∨ behL l s = 2 := by
  intro l
  induction l with
  | nil => intro s h; exact h
  | cons i l ih =>
    intro s h
    rw [behL]
    refine ih _ ?_
    unfold behI
    split
    · exact .inr rfl
    · split
      · exact .inl rfl
      · exact h
theorem Rch.two {bl : List Bk} {t s : Nat} (h : Rch bl t s) : s = 1 ∨ s = 2 := by
  induction h with
  | base => exact .inl rfl
  | step _ _ _ ih => exact behL_12 _ _ ih
def markOf (B : List Nat) (t : Nat) : Nat := (B[t]?).getD 0
/-- A mark on a side. -/
def Mk (B : List Nat) (t s : Nat) : Prop := (markOf B t) &&& s ≠ 0
def left1 (v : Nat) : Nat := if v = 0 then 2 else if v = 3 then 0 else 1
def leftB (B : List Nat) : Nat := (B.map left1).sum
theorem leftB_set : ∀ (B : List Nat) (t x : Nat), t < B.length → leftB (B.set t x) + left1 (markOf B t) = leftB B + left1 x := by
  intro B
  induction B with
  | nil => intro t x h; simp at h
  | cons v B ih =>
    intro t x h
    cases t with
    | zero => simp [leftB, markOf]; omega
    | succ t =>
      have := ih t x (by simpa using h)
      simp only [leftB, markOf, List.set_cons_succ, List.map_cons, List.sum_cons, List.getElem?_cons_succ] at this ⊢
      omega
theorem or_left {v s : Nat} (hv : v ≤ 3) (hs : s = 1 ∨ s = 2) (h : v &&& s = 0) : left1 (v ||| s) + 1 = left1 v ∧ v ||| s ≤ 3 := by
  have : v = 0 ∨ v = 1 ∨ v = 2 ∨ v = 3 := by omega
  rcases this with rfl | rfl | rfl | rfl <;> rcases hs with rfl | rfl <;> simp [left1] at h ⊢
theorem or_mk {v s r : Nat} (hv : v ≤ 3) (hs : s = 1 ∨ s = 2) (hr : r = 1 ∨ r = 2) : (v ||| s) &&& r ≠ 0 ↔ v &&& r ≠ 0 ∨ r = s := by
  have : v = 0 ∨ v = 1 ∨ v = 2 ∨ v = 3 := by omega
  rcases this with rfl | rfl | rfl | rfl <;> rcases hs with rfl | rfl <;> rcases hr with rfl | rfl <;> simp
theorem mark_set {B : List Nat} {t x n : Nat} (h : t < B.length) : markOf (B.set t x) n = if n = t then x else markOf B n := by
  unfold markOf
  rw [List.getElem?_set]
  by_cases e : t = n
  · subst e; simp [h]
  · rw [if_neg e, if_neg (fun q => e q.symm)]
/-- How the marks and the rows that wait stand to what is reached. -/
structure SInv (bl : List Bk) (B : List Nat) (S : List (Nat × Nat)) : Prop where
  len : B.length = bl.length
  le3 : ∀ t, markOf B t ≤ 3
  snd : ∀ t s, s = 1 ∨ s = 2 → Mk B t s → Rch bl t s
  sndS : ∀ p ∈ S, Rch bl p.1 p.2 ∧ p.1 < bl.length
  base : Mk B 0 1 ∨ (0, 1) ∈ S
  cls : ∀ t s b y, s = 1 ∨ s = 2 → Mk B t s → bl[t]? = some b → y ∈ nextL b → Mk B y.toNat (behL b.ins s) ∨ (y.toNat, behL b.ins s) ∈ S
theorem nextL_two (b : Bk) : (nextL b).length ≤ 2 := by
  unfold nextL
  split
  · simp
  · split <;> simp
theorem goS_inv (bl : List Bk) (hv : ∀ b ∈ bl, ∀ y ∈ nextL b, 0 ≤ y ∧ y < (bl.length : Int)) : ∀ (f : Nat) (B : List Nat) (S : List (Nat × Nat)), SInv bl B S → S.length + 2 * leftB B ≤ f → SInv bl (goS bl f B S) [] := by
  intro f
  induction f with
  | zero =>
    intro B S h hf
    have : S = [] := List.length_eq_zero_iff.1 (by omega)
    subst this
    exact h
  | succ f ih =>
    intro B S h hf
    cases S with
    | nil => exact h
    | cons p S =>
      obtain ⟨t, on⟩ := p
      obtain ⟨hR, ht⟩ := h.sndS (t, on) (by simp)
      have hon := hR.two
      dsimp only at hR ht hon
      have htB : t < B.length := by rw [h.len]; exact ht
      rw [goS]
      split
      · rename_i hz
        have hz' : markOf B t &&& on = 0 := hz
        obtain ⟨b, hb⟩ : ∃ b, bl[t]? = some b := ⟨_, List.getElem?_eq_getElem ht⟩
        rw [hb]
        dsimp only
        obtain ⟨o1, o2⟩ := or_left (h.le3 t) hon hz'
        have hmk : ∀ n s, s = 1 ∨ s = 2 → (Mk (B.set t ((B[t]?).getD 0 ||| on)) n s ↔ Mk B n s ∨ (n = t ∧ s = on)) := fun n s hs => by
          unfold Mk
          rw [mark_set htB]
          by_cases e : n = t
          · subst e
            rw [if_pos rfl]
            have := or_mk (h.le3 n) hon hs
            unfold markOf at this ⊢
            rw [this]
            constructor
            · rintro (q | q)
              · exact .inl q
              · exact .inr ⟨rfl, q⟩
            · rintro (q | ⟨-, q⟩)
              · exact .inl q
              · exact .inr q
          · rw [if_neg e]
            constructor
            · exact fun q => .inl q
            · rintro (q | ⟨q, -⟩)
              · exact q
              · exact absurd q e
        refine ih _ _ ⟨by simpa using h.len, fun n => ?_, fun n s hs hm => ?_, fun p hp => ?_, ?_, fun n s b' y hs hm hb' hy => ?_⟩ ?_
        · rw [mark_set htB]
          split
          · exact o2
          · exact h.le3 n
        · rcases (hmk n s hs).1 hm with q | ⟨rfl, rfl⟩
          · exact h.snd n s hs q
          · exact hR
        · rcases List.mem_append.1 hp with hp | hp
          · obtain ⟨y, hy, rfl⟩ := List.mem_map.1 (List.mem_reverse.1 hp)
            have := hv b (List.mem_of_getElem? hb) y hy
            exact ⟨hR.step hb hy, by dsimp only; omega⟩
          · exact h.sndS p (List.mem_cons_of_mem _ hp)
        · rcases h.base with q | q
          · exact .inl ((hmk 0 1 (.inl rfl)).2 (.inl q))
          · rcases List.mem_cons.1 q with q | q
            · cases q
              exact .inl ((hmk 0 1 (.inl rfl)).2 (.inr ⟨rfl, rfl⟩))
            · exact .inr (List.mem_append.2 (.inr q))
        · have hbs := behL_12 b'.ins s hs
          rcases (hmk n s hs).1 hm with q | ⟨rfl, rfl⟩
          · rcases h.cls n s b' y hs q hb' hy with q | q
            · exact .inl ((hmk _ _ hbs).2 (.inl q))
            · rcases List.mem_cons.1 q with q | q
              · cases q
                exact .inl ((hmk _ _ hbs).2 (.inr ⟨rfl, rfl⟩))
              · exact .inr (List.mem_append.2 (.inr q))
          · rw [hb] at hb'
            cases hb'
            exact .inr (List.mem_append.2 (.inl (List.mem_reverse.2 (List.mem_map.2 ⟨y, hy, rfl⟩))))
        · have h1 := leftB_set B t ((B[t]?).getD 0 ||| on) htB
          have h2 := nextL_two b
          have h3 : left1 ((B[t]?).getD 0 ||| on) + 1 = left1 (markOf B t) := o1
          simp only [List.length_append, List.length_reverse, List.length_map, List.length_cons] at hf ⊢
          omega
      · rename_i hz
        have hm : Mk B t on := hz
        refine ih _ _ ⟨h.len, h.le3, h.snd, fun p hp => h.sndS p (List.mem_cons_of_mem _ hp), ?_, fun n s b' y hs hm' hb' hy => ?_⟩ ?_
        · rcases h.base with q | q
          · exact .inl q
          · rcases List.mem_cons.1 q with q | q
            · cases q; exact .inl hm
            · exact .inr q
        · rcases h.cls n s b' y hs hm' hb' hy with q | q
          · exact .inl q
          · rcases List.mem_cons.1 q with q | q
            · cases q; exact .inl hm
            · exact .inr q
        · simp only [List.length_cons] at hf
          omega
theorem leftB_new (n : Nat) : leftB (List.replicate n 0) = 2 * n := by
  unfold leftB
  induction n with
  | zero => rfl
  | succ n ih => rw [List.replicate_succ, List.map_cons, List.sum_cons, ih]; simp [left1]; omega
/-- The marks are what is reached. -/
theorem begins_reach {bl : List Bk} (h0 : 0 < bl.length) (hv : ∀ b ∈ bl, ∀ y ∈ nextL b, 0 ≤ y ∧ y < (bl.length : Int)) :
    (beginsT bl).length = bl.length ∧ (∀ t, markOf (beginsT bl) t ≤ 3) ∧ ∀ t s, s = 1 ∨ s = 2 → (Mk (beginsT bl) t s ↔ Rch bl t s) := by
  have hnew : ∀ t, markOf (List.replicate bl.length 0) t = 0 := fun t => by
    unfold markOf
    rw [List.getElem?_replicate]
    split <;> rfl
  have h := goS_inv bl hv (6 * bl.length + 1) (List.replicate bl.length 0) [(0, 1)]
    ⟨by simp, fun t => by rw [hnew]; omega, fun t s _ hm => by unfold Mk at hm; rw [hnew] at hm; simp at hm, fun p hp => by
      simp at hp; subst hp; exact ⟨.base, h0⟩, .inr (by simp), fun t s b y _ hm => by unfold Mk at hm; rw [hnew] at hm; simp at hm⟩ (by rw [leftB_new]; simp; omega)
  refine ⟨h.len, h.le3, fun t s hs => ⟨h.snd t s hs, fun hr => ?_⟩⟩
  clear hs
  induction hr with
  | base =>
    rcases h.base with q | q
    · exact q
    · simp at q
  | step hr hb hy ih =>
    rcases h.cls _ _ _ _ hr.two ih hb hy with q | q
    · exact q
    · simp at q
/-- Two rows of truths that are closed and hold nothing but what is reached are the marks. -/
theorem mark_of {bl : List Bk} (h0 : 0 < bl.length) (hv : ∀ b ∈ bl, ∀ y ∈ nextL b, 0 ≤ y ∧ y < (bl.length : Int)) {I O : List Bool} 
    (h1 : ∀ t : Nat, (I[t]?).getD false = true ↔ Rch bl t 2) (h2 : ∀ t : Nat, (O[t]?).getD false = true ↔ Rch bl t 1) (t : Nat) :
    markOf (beginsT bl) t = (if (I[t]?).getD false = true then 2 else 0) + (if (O[t]?).getD false = true then 1 else 0) := by
  obtain ⟨-, hle, hk⟩ := begins_reach h0 hv
  have a := (hk t 1 (.inl rfl)).trans (h2 t).symm
  have b := (hk t 2 (.inr rfl)).trans (h1 t).symm
  have hl := hle t
  unfold Mk at a b
  generalize markOf (beginsT bl) t = v at a b hl
  have : v = 0 ∨ v = 1 ∨ v = 2 ∨ v = 3 := by omega
  rcases this with rfl | rfl | rfl | rfl <;> simp at a b <;> simp [a, b]
end Go.Proofs.YtgkjhnghibpeoaaDoor
namespace Go.Proofs.YtgkjhnghibpeoaaDoor
open Go Go.Lib

def behF : List In → Bool → Bool → Bool × Bool
  | [], i, o => (i, o)
  | x :: l, i, o => if x.k = 13 then behF l true false else if x.k = 14 then behF l false true else behF l i o
def behB (b : Bk) (i o : Bool) : Bool × Bool := if (i || o) = true then behF b.ins i o else (i, o)
theorem behF_spec : ∀ (l : List In) (i o : Bool), (i || o) = true → ((behF l i o).1 = true ↔ (i = true ∧ behL l 2 = 2) ∨ (o = true ∧ behL l 1 = 2)) ∧ ((behF l i o).2 = true ↔ (i = true ∧ behL l 2 = 1) ∨ (o = true ∧ behL l 1 = 1)) := by
  intro l
  induction l with
  | nil => intro i o _; simp [behF, behL]
  | cons x l ih =>
    intro i o h
    rw [behF, behL, behL]
    by_cases h13 : x.k = 13
    · have := ih true false rfl
      simp only [h13, if_true, behI, true_and, false_and, or_false, Bool.false_eq_true] at this ⊢
      rw [this.1, this.2]
      cases i <;> cases o <;> simp at h ⊢
    · by_cases h14 : x.k = 14
      · have := ih false true rfl
        simp only [h14, if_true, behI, true_and, false_and, false_or, Bool.false_eq_true] at this ⊢
        simp only [show ¬ (14 : Int) = 13 by decide, if_false] at this ⊢
        rw [this.1, this.2]
        cases i <;> cases o <;> simp at h ⊢
      · have := ih i o h
        simp only [h13, h14, if_false, behI] at this ⊢
        exact this
def bitAt (l : List Bool) (t : Nat) : Bool := (l[t]?).getD false
/-- Nothing but what is reached. -/
def SndB (bl : List Bk) (I O : List Bool) : Prop := ∀ t, (bitAt I t = true → Rch bl t 2) ∧ (bitAt O t = true → Rch bl t 1)
/-- Where a block's sides lead is marked. -/
def ClsB (I O : List Bool) (t : Nat) (b : Bk) : Prop := ∀ y ∈ nextL b, ((behB b (bitAt I t) (bitAt O t)).1 = true → bitAt I y.toNat = true) ∧ ((behB b (bitAt I t) (bitAt O t)).2 = true → bitAt O y.toNat = true)
theorem behB_snd {bl : List Bk} {I O : List Bool} (h : SndB bl I O) {t : Nat} {b : Bk} (hb : bl[t]? = some b) {y : Int} (hy : y ∈ nextL b) :
    ((behB b (bitAt I t) (bitAt O t)).1 = true → Rch bl y.toNat 2) ∧ ((behB b (bitAt I t) (bitAt O t)).2 = true → Rch bl y.toNat 1) := by
  unfold behB
  by_cases ho : (bitAt I t || bitAt O t) = true
  · rw [if_pos ho]
    obtain ⟨h1, h2⟩ := behF_spec b.ins _ _ ho
    rw [h1, h2]
    constructor
    · rintro (⟨a, e⟩ | ⟨a, e⟩)
      · have := ((h t).1 a).step hb hy; rw [e] at this; exact this
      · have := ((h t).2 a).step hb hy; rw [e] at this; exact this
    · rintro (⟨a, e⟩ | ⟨a, e⟩)
      · have := ((h t).1 a).step hb hy; rw [e] at this; exact this
      · have := ((h t).2 a).step hb hy; rw [e] at this; exact this
  · rw [if_neg ho]
    simp only [Bool.or_eq_true, not_or, Bool.not_eq_true] at ho
    simp [ho.1, ho.2]
theorem reach_both {bl : List Bk} {I O : List Bool} (hs : SndB bl I O) (h0 : bitAt O 0 = true) (hc : ∀ t b, bl[t]? = some b → ClsB I O t b) : ∀ t, (bitAt I t = true ↔ Rch bl t 2) ∧ (bitAt O t = true ↔ Rch bl t 1) := by
  have key : ∀ t s, Rch bl t s → (s = 2 → bitAt I t = true) ∧ (s = 1 → bitAt O t = true) := by
    intro t s h
    induction h with
    | base => exact ⟨fun q => (by cases q), fun _ => h0⟩
    | @step t s b y hr hb hy ih =>
      obtain ⟨c1, c2⟩ := hc t b hb y hy
      have hs2 := hr.two
      have ho : (bitAt I t || bitAt O t) = true := by
        rcases hs2 with q | q
        · rw [ih.2 q]; simp
        · rw [ih.1 q]; simp
      obtain ⟨h1, h2⟩ := behF_spec b.ins _ _ ho
      unfold behB at c1 c2
      rw [if_pos ho] at c1 c2
      constructor
      · intro q
        refine c1 (h1.2 ?_)
        rcases hs2 with r | r
        · exact .inr ⟨ih.2 r, by rw [r] at q; exact q⟩
        · exact .inl ⟨ih.1 r, by rw [r] at q; exact q⟩
      · intro q
        refine c2 (h2.2 ?_)
        rcases hs2 with r | r
        · exact .inr ⟨ih.2 r, by rw [r] at q; exact q⟩
        · exact .inl ⟨ih.1 r, by rw [r] at q; exact q⟩
  exact fun t => ⟨⟨(hs t).1, fun q => (key t 2 q).1 rfl⟩, ⟨(hs t).2, fun q => (key t 1 q).2 rfl⟩⟩
/-- How many are not marked yet. -/
def offs (l : List Bool) : Nat := (l.filter (fun b => !b)).length
theorem bitAt_set {l : List Bool} {t n : Nat} {x : Bool} (h : t < l.length) : bitAt (l.set t x) n = if n = t then x else bitAt l n := by
  unfold bitAt
  rw [List.getElem?_set]
  by_cases e : t = n
  · subst e; simp [h]
  · rw [if_neg e, if_neg (fun q => e q.symm)]
theorem offs_set : ∀ (l : List Bool) (t : Nat) (x : Bool), t < l.length → (bitAt l t = true → x = true) → (bitAt l t = x → offs (l.set t x) = offs l) ∧ (bitAt l t ≠ x → offs (l.set t x) + 1 = offs l) := by
  intro l
  induction l with
  | nil => intro t x h; simp at h
  | cons a l ih =>
    intro t x h hx
    cases t with
    | zero =>
      simp only [bitAt, List.getElem?_cons_zero, Option.getD_some] at hx
      cases a <;> cases x <;> simp [offs, bitAt] at hx ⊢
    | succ t =>
      obtain ⟨i1, i2⟩ := ih t x (by simpa using h) (by simpa [bitAt] using hx)
      simp only [bitAt, List.getElem?_cons_succ, List.set_cons_succ] at i1 i2 ⊢
      refine ⟨fun e => ?_, fun e => ?_⟩
      · have := i1 e
        cases a <;> simp only [offs, List.filter_cons, Bool.not_false, Bool.not_true, if_true, if_false, List.length_cons, Bool.false_eq_true] at this ⊢ <;> omega
      · have := i2 e
        cases a <;> simp only [offs, List.filter_cons, Bool.not_false, Bool.not_true, if_true, if_false, List.length_cons, Bool.false_eq_true] at this ⊢ <;> omega
theorem offs_le : ∀ l : List Bool, offs l ≤ l.length := fun l => by unfold offs; exact List.length_filter_le _ _
end Go.Proofs.YtgkjhnghibpeoaaDoor
namespace Go.Proofs.YtgkjhnghibpeoaaDoor
open Go Go.Lib
set_option maxRecDepth 100000

def wrI (i : In) : Int := if i.k = 1 ∨ i.k = 2 ∨ i.k = 3 ∨ i.k = 6 ∨ i.k = 7 ∨ i.k = 8 ∨ i.k = 10 then i.a else -1
def ask0 (i : In) : Int := if i.k = 2 ∨ i.k = 4 ∨ i.k = 5 ∨ i.k = 12 ∨ i.k = 3 ∨ i.k = 8 ∨ i.k = 10 then i.b else if i.k = 9 ∨ i.k = 11 then i.a else -1
def ask1 (i : In) : Int := if i.k = 3 ∨ i.k = 8 ∨ i.k = 10 then i.c else if i.k = 9 ∨ i.k = 11 then i.b else -1
def ask2 (i : In) : Int := if i.k = 9 ∨ i.k = 11 then i.c else -1
/-- A register that is there, or none. -/
def Rg (R : Nat) (x : Int) : Prop := x = -1 ∨ 0 ≤ x ∧ x < (R : Int)
structure IFit (R : Nat) (i : In) : Prop where
  w : Rg R (wrI i)
  r0 : Rg R (ask0 i)
  r1 : Rg R (ask1 i)
  r2 : Rg R (ask2 i)
structure BFit (R : Nat) (b : Bk) : Prop where
  ins : ∀ i ∈ b.ins, IFit R i
  reg : b.last = 2 → 0 ≤ b.reg ∧ b.reg < (R : Int)
theorem vreg_of {R : List Bool} {x : Int} (h : regB R x = true) : Rg R.length x := by
  unfold regB at h
  simp only [Bool.and_eq_true, decide_eq_true_eq] at h
  exact .inr h
set_option maxHeartbeats 4000000 in
theorem vshaped_a {R : List Bool} {i : In} (h : shaped R i (insHas i.k) = true) (hk : i.k = 1 ∨ i.k = 2 ∨ i.k = 3 ∨ i.k = 6 ∨ i.k = 7 ∨ i.k = 8 ∨ i.k = 9 ∨ i.k = 10 ∨ i.k = 11) : regB R i.a = true := by
  cases hA : regB R i.a with
  | true => rfl
  | false =>
    exfalso
    unfold shaped at h
    rcases hk with e | e | e | e | e | e | e | e | e <;> rw [e] at h <;> simp [insHas, shpS, shp1, hA] at h
set_option maxHeartbeats 4000000 in
theorem vshaped_b {R : List Bool} {i : In} (h : shaped R i (insHas i.k) = true) (hk : i.k = 2 ∨ i.k = 3 ∨ i.k = 4 ∨ i.k = 5 ∨ i.k = 8 ∨ i.k = 9 ∨ i.k = 10 ∨ i.k = 11 ∨ i.k = 12) : regB R i.b = true := by
  cases hB : regB R i.b with
  | true => rfl
  | false =>
    exfalso
    unfold shaped at h
    cases hA : regB R i.a <;> rcases hk with e | e | e | e | e | e | e | e | e <;> rw [e] at h <;> simp [insHas, shpS, shp1, hA, hB] at h
set_option maxHeartbeats 4000000 in
theorem vshaped_c {R : List Bool} {i : In} (h : shaped R i (insHas i.k) = true) (hk : i.k = 3 ∨ (i.c ≠ -1 ∧ (i.k = 8 ∨ i.k = 9 ∨ i.k = 10 ∨ i.k = 11))) : regB R i.c = true := by
  cases hC : regB R i.c with
  | true => rfl
  | false =>
    exfalso
    unfold shaped at h
    rcases hk with e | ⟨hc, e | e | e | e⟩ <;> rw [e] at h <;> cases hA : regB R i.a <;> cases hB : regB R i.b <;> simp [insHas, shpS, shp1, *] at h
theorem vins_fit {R : List Bool} {W : Int} {M : List Bool} {i : In} (h : insB R W M i = true) : IFit R.length i := by
  unfold insB at h
  simp only [Bool.and_eq_true] at h
  obtain ⟨-, h2, -⟩ := h
  have hc : i.k = 3 ∨ i.k = 8 ∨ i.k = 9 ∨ i.k = 10 ∨ i.k = 11 → Rg R.length i.c := fun hk => by
    by_cases hc : i.c = -1
    · exact .inl hc
    · exact vreg_of (vshaped_c h2 (by omega))
  refine ⟨?_, ?_, ?_, ?_⟩
  · unfold wrI
    split
    · exact vreg_of (vshaped_a h2 (by omega))
    · exact .inl rfl
  · unfold ask0
    split
    · exact vreg_of (vshaped_b h2 (by omega))
    · split
      · exact vreg_of (vshaped_a h2 (by omega))
      · exact .inl rfl
  · unfold ask1
    split
    · exact hc (by omega)
    · split
      · exact vreg_of (vshaped_b h2 (by omega))
      · exact .inl rfl
  · unfold ask2
    split
    · exact hc (by omega)
    · exact .inl rfl
theorem vfirst_all {R : List Bool} {W : Int} : ∀ (l : List In) (k : Nat) (M : List Bool), (firstI R W k M l).1 = none → ∀ i ∈ l, IFit R.length i := by
  intro l
  induction l with
  | nil => intro k M _ i hi; simp at hi
  | cons a l ih =>
    intro k M h i hi
    rw [firstI] at h
    split at h
    · rename_i ha
      rcases List.mem_cons.1 hi with rfl | hi
      · exact vins_fit ha
      · exact ih _ _ h i hi
    · cases h
theorem vlast_fit {R : List Bool} {nb : Nat} {b : Bk} (h : lastB R nb b = true) : b.last = 2 → 0 ≤ b.reg ∧ b.reg < (R.length : Int) := fun e => by
  unfold lastB at h
  simp only [Bool.and_eq_true] at h
  obtain ⟨-, h2, -⟩ := h
  cases hA : regB R b.reg with
  | true =>
    unfold regB at hA
    simp only [Bool.and_eq_true, decide_eq_true_eq] at hA
    exact hA
  | false =>
    exfalso
    unfold shaped at h2
    rw [e] at h2
    simp [lastHas, shpS, shp1, endI, hA] at h2
theorem vblk_all {R : List Bool} {W : Int} {nb : Nat} : ∀ (l : List Bk) (n : Nat) (M : List Bool), firstB R W nb n M l = none → ∀ b ∈ l, BFit R.length b := by
  intro l
  induction l with
  | nil => intro n M _ b hb; simp at hb
  | cons a l ih =>
    intro n M h b hb
    rw [firstB] at h
    split at h
    · cases h
    · rename_i M' hM
      split at h
      · rename_i hl
        rcases List.mem_cons.1 hb with rfl | hb
        · exact ⟨vfirst_all _ _ _ (by rw [hM]), vlast_fit hl⟩
        · exact ih _ _ h b hb
      · cases h
/-- What a graph that may be is good for. -/
theorem vcheck_fit {g : Gr} (h : (checkC 65536 [g]).2.2 = 0) : g.refs.length ≤ 1024 ∧ (∀ b ∈ g.blocks, BFit g.refs.length b) ∧ ∀ b ∈ g.blocks, b.ins.length ≤ 8192 := by
  have h2 : (checkG 65536 g).2 = 0 := by
    unfold checkC checkL checkL at h
    rw [if_neg (by simp), if_neg (by decide)] at h
    by_cases e : (checkG 65536 g).2 = 0
    · exact e
    · rw [if_neg e] at h; exact h
  unfold checkG at h2
  split at h2
  · rename_i hs
    have hsz : ¬ (1024 < g.refs.length ∨ 4096 < g.blocks.length ∨ 8192 < g.sites) ∧ ¬ longB 8192 g.blocks = true := by
      unfold sizesE at hs
      split at hs
      · cases hs
      · split at hs
        · cases hs
        · exact ⟨by assumption, by assumption⟩
    have hlong : ∀ (l : List Bk) (n : Int), n ≤ 8192 → ¬ longB n l = true → ∀ b ∈ l, b.ins.length ≤ 8192 := by
      intro l
      induction l with
      | nil => intro n _ _ b hb; simp at hb
      | cons a l ih =>
        intro n hn hl b hb
        rw [longB] at hl
        split at hl
        · exact absurd rfl hl
        · rcases List.mem_cons.1 hb with rfl | hb
          · omega
          · exact ih _ (by omega) hl b hb
    cases hf : firstB g.refs 65536 g.blocks.length 0 (List.replicate g.sites.toNat false) g.blocks with
    | some at' => rw [hf] at h2; cases h2
    | none => exact ⟨by omega, vblk_all _ _ _ hf, hlong _ _ (by omega) hsz.2⟩
  · rename_i hs
    exact absurd h2 hs
end Go.Proofs.YtgkjhnghibpeoaaDoor
