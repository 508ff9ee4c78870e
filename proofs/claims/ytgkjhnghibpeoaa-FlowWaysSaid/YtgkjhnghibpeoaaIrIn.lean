/- Graphs as trees, and which of them may be. Nothing here speaks of the program. -/
import Derived.Lib.Strings
import Derived.Below
import Derived.Test.YtgkjhnghibpeoaaRows
import Derived.Deep.MidRow
import Derived.Deep.WholeRow
import Derived.WalkKit
import Derived.WalkSpells
import Derived.WalkLawsBesides
import Derived.Lib.Hide
namespace Go.Proofs.Ytgkjhnghibpeoaa
open Go Go.Lib

/-- An instruction. -/
structure In where
  k : Int
  o : Int
  a : Int
  b : Int
  c : Int
  n : Int
deriving DecidableEq
def In.cells (i : In) : List Value := [.int .u8 i.k, .int .u8 i.o, .int .i64 i.a, .int .i64 i.b, .int .i64 i.c, .int .i64 i.n]
def In.val (i : In) : Value := .agg #[.int .u8 i.k, .int .u8 i.o, .int .i64 i.a, .int .i64 i.b, .int .i64 i.c, .int .i64 i.n]
def noI : In := ⟨0, 0, 0, 0, 0, 0⟩
/-- A block. -/
structure Bk where
  iv : Value
  ins : List In
  last : Int
  reg : Int
  yes : Int
  no : Int
def Bk.cells (b : Bk) : List Value := [b.iv, .int .u8 b.last, .int .i64 b.reg, .int .i64 b.yes, .int .i64 b.no]
/-- A graph. -/
structure Gr where
  rv : Value
  refs : List Bool
  sites : Int
  bv : Value
  blocks : List Bk
def Gr.cells (g : Gr) : List Value := [g.rv, .int .i64 g.sites, g.bv]
/-- A program as graphs. -/
structure Cd where
  words : Int
  tv : Value
  threads : List Gr
def Cd.cells (c : Cd) : List Value := [.int .i64 c.words, c.tv]

/-! ### Each thing by itself -/
def regB (R : List Bool) (r : Int) : Bool := decide (0 ≤ r) && decide (r < R.length)
def refB (R : List Bool) (r : Int) : Bool := (R[r.toNat]?).getD false
def inB (n a b : Int) : Bool := decide (a ≤ n) && decide (n ≤ b)
def insHas (k : Int) : ByteArray :=
  if k = 1 then ⟨#[65, 110]⟩ else if k = 2 then ⟨#[65, 66]⟩ else if k = 3 then ⟨#[111, 65, 66, 67]⟩ else if k = 4 then ⟨#[66]⟩ else if k = 5 then ⟨#[66, 110]⟩ else if k = 6 then ⟨#[65, 110]⟩ else if k = 7 then ⟨#[65, 110, 99]⟩
  else if k = 8 then ⟨#[65, 66, 45, 110]⟩ else if k = 9 then ⟨#[65, 66, 45, 110]⟩ else if k = 10 then ⟨#[65, 66, 45, 110]⟩ else if k = 11 then ⟨#[65, 66, 45, 110]⟩ else if k = 12 then ⟨#[66]⟩ else ⟨#[]⟩
def insNm (k : Int) : ByteArray :=
  if k = 1 then ⟨#[99, 111, 110, 115, 116]⟩ else if k = 2 then ⟨#[109, 111, 118, 101]⟩ else if k = 3 then ⟨#[99, 97, 108, 99]⟩ else if k = 4 then ⟨#[110, 105, 108]⟩ else if k = 5 then ⟨#[105, 110, 100, 101, 120]⟩ else if k = 6 then ⟨#[115, 104, 97, 114, 101, 100]⟩
  else if k = 7 then ⟨#[110, 101, 119]⟩ else if k = 8 then ⟨#[108, 111, 97, 100]⟩ else if k = 9 then ⟨#[115, 116, 111, 114, 101]⟩ else if k = 10 then ⟨#[111, 119, 110, 108, 111, 97, 100]⟩ else if k = 11 then ⟨#[111, 119, 110, 115, 116, 111, 114, 101]⟩
  else if k = 12 then ⟨#[112, 114, 105, 110, 116]⟩ else if k = 13 then ⟨#[98, 101, 103, 105, 110]⟩ else if k = 14 then ⟨#[101, 110, 100]⟩ else ⟨#[]⟩
def lastHas (k : Int) : ByteArray := if k = 1 then ⟨#[98]⟩ else if k = 2 then ⟨#[65, 98, 99]⟩ else ⟨#[]⟩
def lastNm (k : Int) : ByteArray := if k = 1 then ⟨#[106, 117, 109, 112]⟩ else if k = 2 then ⟨#[98, 114, 97, 110, 99, 104]⟩ else if k = 3 then ⟨#[104, 97, 108, 116]⟩ else ⟨#[]⟩
def calcNm (k : Int) : ByteArray :=
  if k = 1 then ⟨#[97, 100, 100]⟩ else if k = 2 then ⟨#[115, 117, 98]⟩ else if k = 3 then ⟨#[109, 117, 108]⟩ else if k = 4 then ⟨#[100, 105, 118]⟩ else if k = 5 then ⟨#[109, 111, 100]⟩ else if k = 6 then ⟨#[97, 110, 100]⟩ else if k = 7 then ⟨#[111, 114]⟩
  else if k = 8 then ⟨#[120, 111, 114]⟩ else if k = 9 then ⟨#[115, 104, 108]⟩ else if k = 10 then ⟨#[115, 104, 114]⟩ else if k = 11 then ⟨#[101, 113]⟩ else if k = 12 then ⟨#[110, 101]⟩ else if k = 13 then ⟨#[108, 116]⟩ else if k = 14 then ⟨#[108, 101]⟩ else ⟨#[]⟩
/-- One letter: its thing is there, and is nought now. -/
def shp1 (R : List Bool) (l : UInt8) (i : In) : Option In :=
  if l = 111 then some { i with o := 0 }
  else if l = 110 then some { i with n := 0 }
  else if l = 98 then some { i with b := 0 }
  else if l = 99 then some { i with c := 0 }
  else if l = 45 ∧ i.c = -1 then some { i with c := 0 }
  else if l = 65 then (if regB R i.a then some { i with a := 0 } else none)
  else if l = 66 then (if regB R i.b then some { i with b := 0 } else none)
  else (if regB R i.c then some { i with c := 0 } else none)
def shpS (R : List Bool) : List UInt8 → In → Option In
  | [], i => some i
  | l :: r, i => match shp1 R l i with
    | none => none
    | some j => shpS R r j
def shaped (R : List Bool) (i : In) (has : ByteArray) : Bool := decide (shpS R has.data.toList { i with k := 0 } = some noI)
def calcB (R : List Bool) (i : In) : Bool := inB i.o 1 14 && (!refB R i.a && ((refB R i.b == refB R i.c) && (!refB R i.b || (decide (i.o = 11) || decide (i.o = 12)))))
def makesB (M : List Bool) (s : Int) : Bool := decide (0 ≤ s) && (decide (s < M.length) && !refB M s)
def fitsB (R : List Bool) (W : Int) (M : List Bool) (i : In) : Bool :=
  if i.k = 1 then !refB R i.a || decide (i.n = 0)
  else if i.k = 2 then refB R i.a == refB R i.b
  else if i.k = 3 then calcB R i
  else if i.k = 4 then refB R i.b
  else if i.k = 5 then !refB R i.b && inB i.n 1 64
  else if i.k = 6 then refB R i.a && inB i.n 1 W
  else if i.k = 7 then refB R i.a && (inB i.n 1 64 && makesB M i.c)
  else if i.k = 8 ∨ i.k = 9 ∨ i.k = 10 ∨ i.k = 11 then refB R i.b && ((decide (i.c = -1) || !refB R i.c) && inB i.n 0 64)
  else if i.k = 12 then !refB R i.b
  else true
/-- The sites for which there is an InNew, behind an instruction. -/
def nextM (R : List Bool) (W : Int) (M : List Bool) (i : In) : List Bool := if i.k = 7 ∧ fitsB R W M i = true then M.set i.c.toNat true else M
def insB (R : List Bool) (W : Int) (M : List Bool) (i : In) : Bool := inB i.k 1 14 && (shaped R i (insHas i.k) && fitsB R W M i)
def endI (b : Bk) : In := ⟨0, 0, b.reg, b.yes, b.no, 0⟩
def blkB (n : Nat) (k : Int) : Bool := decide (0 ≤ k) && decide (k < n)
def leadsB (R : List Bool) (n : Nat) (b : Bk) : Bool := if b.last = 1 then blkB n b.yes else if b.last = 2 then !refB R b.reg && (blkB n b.yes && blkB n b.no) else true
def lastB (R : List Bool) (n : Nat) (b : Bk) : Bool := inB b.last 1 3 && (shaped R (endI b) (lastHas b.last) && leadsB R n b)
/-- The first instruction that may not be, or the sites behind them all. -/
def firstI (R : List Bool) (W : Int) : Nat → List Bool → List In → Option Nat × List Bool
  | _, M, [] => (none, M)
  | k, M, i :: l => if insB R W M i = true then firstI R W (k + 1) (nextM R W M i) l else (some k, M)
def firstB (R : List Bool) (W : Int) (nb : Nat) : Nat → List Bool → List Bk → Option (Nat × Nat)
  | _, _, [] => none
  | n, M, b :: l => match firstI R W 0 M b.ins with
    | (some k, _) => some (n, k)
    | (none, M') => if lastB R nb b = true then firstB R W nb (n + 1) M' l else some (n, b.ins.length)

/-! ### Sides -/
def behI (k : Int) (on : Nat) : Nat := if k = 13 then 2 else if k = 14 then 1 else on
def behL : List In → Nat → Nat
  | [], on => on
  | i :: l, on => behL l (behI i.k on)
def nextL (b : Bk) : List Int := if b.last = 1 then [b.yes] else if b.last = 2 then [b.yes, b.no] else []
/-- The rows of blocks that are still to be begun, the top ahead. -/
def goS (bl : List Bk) : Nat → List Nat → List (Nat × Nat) → List Nat
  | 0, B, _ => B
  | _ + 1, B, [] => B
  | f + 1, B, (t, on) :: S =>
    if (B[t]?).getD 0 &&& on = 0 then
      goS bl f (B.set t ((B[t]?).getD 0 ||| on)) (match bl[t]? with
        | none => S
        | some b => ((nextL b).map fun y => (y.toNat, behL b.ins on)).reverse ++ S)
    else goS bl f B S
def beginsT (bl : List Bk) : List Nat := goS bl (6 * bl.length + 1) (List.replicate bl.length 0) [(0, 1)]
def bothT : Nat → List Nat → Option Nat
  | _, [] => none
  | n, s :: l => if s = 3 then some n else bothT (n + 1) l
def sideK (k : Int) : Nat := if k = 7 ∨ k = 8 ∨ k = 9 ∨ k = 10 ∨ k = 11 ∨ k = 14 then 2 else if k = 13 then 1 else 3
/-- The first instruction on the wrong side, or the side behind them all. -/
def misI : Nat → Nat → List In → Option Nat × Nat
  | _, on, [] => (none, on)
  | k, on, i :: l => if sideK i.k &&& on = 0 then (some k, on) else misI (k + 1) (behI i.k on) l
def misB (B : List Nat) : Nat → List Bk → Option (Nat × Nat)
  | _, [] => none
  | n, b :: l => if (B[n]?).getD 0 = 0 then misB B (n + 1) l else match misI 0 ((B[n]?).getD 0) b.ins with
    | (some k, _) => some (n, k)
    | (none, on) => if b.last = 3 ∧ on = 2 then some (n, b.ins.length) else misB B (n + 1) l

/-! ### Whole graphs -/
def longB : Int → List Bk → Bool
  | _, [] => false
  | left, b :: l => if left < b.ins.length then true else longB (left - b.ins.length) l
def sizesE (g : Gr) : Int :=
  if 1024 < g.refs.length ∨ 4096 < g.blocks.length ∨ 8192 < g.sites then 3
  else if longB 8192 g.blocks = true then 3
  else if g.blocks.length = 0 ∨ g.sites < 0 then 14 else 0
def sidesT (bl : List Bk) : (Nat × Nat) × Int := match bothT 0 (beginsT bl) with
  | some n => ((n, 0), 14)
  | none => match misB (beginsT bl) 0 bl with
    | some at' => (at', 14)
    | none => ((0, 0), 0)
def checkG (W : Int) (g : Gr) : (Nat × Nat) × Int :=
  if sizesE g = 0 then match firstB g.refs W g.blocks.length 0 (List.replicate g.sites.toNat false) g.blocks with
    | some at' => (at', 14)
    | none => sidesT g.blocks
  else ((0, 0), sizesE g)
def checkL (W : Int) : Nat → List Gr → Nat × (Nat × Nat) × Int
  | _, [] => (0, (0, 0), 0)
  | n, g :: l => if (checkG W g).2 = 0 then checkL W (n + 1) l else (n, checkG W g)
def checkC (W : Int) (l : List Gr) : Nat × (Nat × Nat) × Int :=
  if 65536 < W ∨ 4 < l.length then (0, (0, 0), 3) else if W < 0 then (0, (0, 0), 14) else checkL W 0 l
end Go.Proofs.Ytgkjhnghibpeoaa
namespace Go.Proofs.Ytgkjhnghibpeoaa
open Go Go.Lib Go.RowKit

/-- A list lies so in the world, below B: each thing takes k cells. -/
def LiesG {α : Type} (cells : α → List Value) (k : Nat) (w : World) (B : Nat) (s : Value) (l : List α) : Prop :=
  ∃ ao cap, s = .slice ao l.length cap ∧ l.length ≤ 140737488351232 ∧ (l = [] ∨ ∃ g off, ao = some ⟨g, off, none⟩ ∧ g < B ∧ ∀ i x, l[i]? = some x → ∀ j u, (cells x)[j]? = some u → w.cell? ⟨g, off + (i * k + j), none⟩ = some u)
theorem LiesG.below {α : Type} {cells : α → List Value} {k : Nat} {w w' : World} {B : Nat} {s : Value} {l : List α} (h : LiesG cells k w B s l) (hb : Below B w w') : LiesG cells k w' B s l := by
  obtain ⟨ao, cap, hs, hl, h⟩ := h
  refine ⟨ao, cap, hs, hl, ?_⟩
  rcases h with h | ⟨g, off, h1, h2, h3⟩
  · exact .inl h
  · exact .inr ⟨g, off, h1, h2, fun i x hx j u hu => by rw [hb.cell (p := ⟨g, _, none⟩) h2]; exact h3 i x hx j u hu⟩
theorem LiesG.up {α : Type} {cells : α → List Value} {k : Nat} {w : World} {B B' : Nat} {s : Value} {l : List α} (hB : B ≤ B') (h : LiesG cells k w B s l) : LiesG cells k w B' s l := by
  obtain ⟨ao, cap, hs, hl, h⟩ := h
  refine ⟨ao, cap, hs, hl, ?_⟩
  rcases h with h | ⟨g, off, q1, q2, q3⟩
  · exact .inl h
  · exact .inr ⟨g, off, q1, by omega, q3⟩
theorem LiesG.form {α : Type} {cells : α → List Value} {k : Nat} {w : World} {B : Nat} {s : Value} {l : List α} (h : LiesG cells k w B s l) :
    ∃ ao cap, s = .slice ao l.length cap ∧ l.length ≤ 9223372036854775807 ∧ (0 < l.length → ∃ g off, ao = some ⟨g, off, none⟩ ∧ g < B) := by
  obtain ⟨ao, cap, hs, hlen, hl⟩ := h
  refine ⟨ao, cap, hs, by omega, fun h0 => ?_⟩
  rcases hl with hl | ⟨g, off, e1, hg, _⟩
  · subst hl; exact absurd h0 (by simp)
  · exact ⟨g, off, e1, hg⟩
theorem LiesG.room {α : Type} {cells : α → List Value} {k : Nat} {w : World} {B : Nat} {s : Value} {l : List α} (h : LiesG cells k w B s l) : l.length ≤ 140737488351232 := by
  obtain ⟨_, _, _, h, _⟩ := h; exact h
/-- The cells of the i-th thing. -/
theorem LiesG.at {α : Type} {cells : α → List Value} {k : Nat} {w : World} {B : Nat} {s : Value} {l : List α} (h : LiesG cells k w B s l) {g off n c : Nat} (hs : s = .slice (some ⟨g, off, none⟩) n c) (i : Nat) (hi : i < l.length) :
    g < B ∧ ∀ j u, (cells l[i])[j]? = some u → w.cell? ⟨g, off + i * k + j, none⟩ = some u := by
  obtain ⟨ao, cap, hs', _, hl⟩ := h
  rcases hl with hl | ⟨g', off', e1, hg, hc⟩
  · subst hl; exact absurd hi (by simp)
  rw [hs] at hs'
  injection hs' with e2 _ _
  rw [e1] at e2
  cases e2
  exact ⟨hg, fun j u hu => by rw [Nat.add_assoc]; exact hc i l[i] (List.getElem?_eq_getElem hi) j u hu⟩


def Bcells (b : Bool) : List Value := [.bool b]
structure InOk (i : In) : Prop where
  k : 0 ≤ i.k ∧ i.k ≤ 255
  o : 0 ≤ i.o ∧ i.o ≤ 255
  a : -9223372036854775808 ≤ i.a ∧ i.a ≤ 9223372036854775807
  b : -9223372036854775808 ≤ i.b ∧ i.b ≤ 9223372036854775807
  c : -9223372036854775808 ≤ i.c ∧ i.c ≤ 9223372036854775807
  n : -9223372036854775808 ≤ i.n ∧ i.n ≤ 9223372036854775807
structure BkOk (b : Bk) : Prop where
  last : 0 ≤ b.last ∧ b.last ≤ 255
  reg : -9223372036854775808 ≤ b.reg ∧ b.reg ≤ 9223372036854775807
  yes : -9223372036854775808 ≤ b.yes ∧ b.yes ≤ 9223372036854775807
  no : -9223372036854775808 ≤ b.no ∧ b.no ≤ 9223372036854775807
structure BIn (w : World) (B : Nat) (b : Bk) : Prop where
  lies : LiesG In.cells 6 w B b.iv b.ins
  ok : BkOk b
  ins : ∀ i ∈ b.ins, InOk i
structure GIn (w : World) (B : Nat) (g : Gr) : Prop where
  rlies : LiesG Bcells 1 w B g.rv g.refs
  sites : -9223372036854775808 ≤ g.sites ∧ g.sites ≤ 9223372036854775807
  blies : LiesG Bk.cells 5 w B g.bv g.blocks
  blocks : ∀ b ∈ g.blocks, BIn w B b
structure CIn (w : World) (B : Nat) (c : Cd) : Prop where
  words : -9223372036854775808 ≤ c.words ∧ c.words ≤ 9223372036854775807
  tlies : LiesG Gr.cells 3 w B c.tv c.threads
  threads : ∀ g ∈ c.threads, GIn w B g
theorem BIn.keeps {w w' : World} {B : Nat} {r : Bk} (h : BIn w B r) (hb : Below B w w') : BIn w' B r := ⟨h.lies.below hb, h.ok, h.ins⟩
theorem GIn.keeps {w w' : World} {B : Nat} {r : Gr} (h : GIn w B r) (hb : Below B w w') : GIn w' B r := ⟨h.rlies.below hb, h.sites, h.blies.below hb, fun a ha => (h.blocks a ha).keeps hb⟩
theorem CIn.keeps {w w' : World} {B : Nat} {r : Cd} (h : CIn w B r) (hb : Below B w w') : CIn w' B r := ⟨h.words, h.tlies.below hb, fun a ha => (h.threads a ha).keeps hb⟩
theorem BIn.up {w : World} {B B' : Nat} {r : Bk} (hB : B ≤ B') (h : BIn w B r) : BIn w B' r := ⟨h.lies.up hB, h.ok, h.ins⟩
theorem GIn.up {w : World} {B B' : Nat} {r : Gr} (hB : B ≤ B') (h : GIn w B r) : GIn w B' r := ⟨h.rlies.up hB, h.sites, h.blies.up hB, fun a ha => (h.blocks a ha).up hB⟩
theorem CIn.up {w : World} {B B' : Nat} {r : Cd} (hB : B ≤ B') (h : CIn w B r) : CIn w B' r := ⟨h.words, h.tlies.up hB, fun a ha => (h.threads a ha).up hB⟩

theorem ic {w : World} {g o : Nat} {i : In} (h : ∀ j u, i.cells[j]? = some u → w.cell? ⟨g, o + j, none⟩ = some u) :
    w.cell? ⟨g, o, none⟩ = some (.int .u8 i.k) ∧ w.cell? ⟨g, o + 1, none⟩ = some (.int .u8 i.o) ∧ w.cell? ⟨g, o + 2, none⟩ = some (.int .i64 i.a) ∧ w.cell? ⟨g, o + 3, none⟩ = some (.int .i64 i.b) ∧ w.cell? ⟨g, o + 4, none⟩ = some (.int .i64 i.c) ∧ w.cell? ⟨g, o + 5, none⟩ = some (.int .i64 i.n) :=
  ⟨h 0 _ rfl, h 1 _ rfl, h 2 _ rfl, h 3 _ rfl, h 4 _ rfl, h 5 _ rfl⟩
theorem bc {w : World} {g o : Nat} {b : Bk} (h : ∀ j u, b.cells[j]? = some u → w.cell? ⟨g, o + j, none⟩ = some u) :
    w.cell? ⟨g, o, none⟩ = some b.iv ∧ w.cell? ⟨g, o + 1, none⟩ = some (.int .u8 b.last) ∧ w.cell? ⟨g, o + 2, none⟩ = some (.int .i64 b.reg) ∧ w.cell? ⟨g, o + 3, none⟩ = some (.int .i64 b.yes) ∧ w.cell? ⟨g, o + 4, none⟩ = some (.int .i64 b.no) :=
  ⟨h 0 _ rfl, h 1 _ rfl, h 2 _ rfl, h 3 _ rfl, h 4 _ rfl⟩
theorem gc3 {w : World} {g o : Nat} {b : Gr} (h : ∀ j u, b.cells[j]? = some u → w.cell? ⟨g, o + j, none⟩ = some u) :
    w.cell? ⟨g, o, none⟩ = some b.rv ∧ w.cell? ⟨g, o + 1, none⟩ = some (.int .i64 b.sites) ∧ w.cell? ⟨g, o + 2, none⟩ = some b.bv := ⟨h 0 _ rfl, h 1 _ rfl, h 2 _ rfl⟩
theorem own2 {w : World} {b : Nat} {T : TypeId} {fr : Nat × Nat} {a0 a1 : Value} (h : w.heap[b]? = some (.cells #[a0, a1] T fr)) : w.cell? ⟨b, 0, none⟩ = some a0 ∧ w.cell? ⟨b, 1, none⟩ = some a1 :=
  ⟨by rw [Lib.cell_of_heap h]; rfl, by rw [Lib.cell_of_heap h]; rfl⟩
theorem own3 {w : World} {b : Nat} {T : TypeId} {fr : Nat × Nat} {a0 a1 a2 : Value} (h : w.heap[b]? = some (.cells #[a0, a1, a2] T fr)) : w.cell? ⟨b, 0, none⟩ = some a0 ∧ w.cell? ⟨b, 1, none⟩ = some a1 ∧ w.cell? ⟨b, 2, none⟩ = some a2 :=
  ⟨by rw [Lib.cell_of_heap h]; rfl, by rw [Lib.cell_of_heap h]; rfl, by rw [Lib.cell_of_heap h]; rfl⟩
theorem own5 {w : World} {b : Nat} {T : TypeId} {fr : Nat × Nat} {a0 a1 a2 a3 a4 : Value} (h : w.heap[b]? = some (.cells #[a0, a1, a2, a3, a4] T fr)) : w.cell? ⟨b, 0, none⟩ = some a0 ∧ w.cell? ⟨b, 1, none⟩ = some a1 ∧ w.cell? ⟨b, 2, none⟩ = some a2 ∧ w.cell? ⟨b, 3, none⟩ = some a3 ∧ w.cell? ⟨b, 4, none⟩ = some a4 :=
  ⟨by rw [Lib.cell_of_heap h]; rfl, by rw [Lib.cell_of_heap h]; rfl, by rw [Lib.cell_of_heap h]; rfl, by rw [Lib.cell_of_heap h]; rfl, by rw [Lib.cell_of_heap h]; rfl⟩
theorem own6 {w : World} {b : Nat} {T : TypeId} {fr : Nat × Nat} {a0 a1 a2 a3 a4 a5 : Value} (h : w.heap[b]? = some (.cells #[a0, a1, a2, a3, a4, a5] T fr)) : w.cell? ⟨b, 0, none⟩ = some a0 ∧ w.cell? ⟨b, 1, none⟩ = some a1 ∧ w.cell? ⟨b, 2, none⟩ = some a2 ∧ w.cell? ⟨b, 3, none⟩ = some a3 ∧ w.cell? ⟨b, 4, none⟩ = some a4 ∧ w.cell? ⟨b, 5, none⟩ = some a5 :=
  ⟨by rw [Lib.cell_of_heap h]; rfl, by rw [Lib.cell_of_heap h]; rfl, by rw [Lib.cell_of_heap h]; rfl, by rw [Lib.cell_of_heap h]; rfl, by rw [Lib.cell_of_heap h]; rfl, by rw [Lib.cell_of_heap h]; rfl⟩
/-- The i-th sign of a row of Booleans. -/
theorem LiesG.bit {w : World} {B : Nat} {s : Value} {l : List Bool} (h : LiesG Bcells 1 w B s l) {g off n c : Nat} (hs : s = .slice (some ⟨g, off, none⟩) n c) (i : Nat) (hi : i < l.length) : w.cell? ⟨g, off + i, none⟩ = some (.bool (refB l (i : Int))) := by
  have h1 := (h.at hs i hi).2 0 (.bool l[i]) rfl
  rw [Nat.mul_one, Nat.add_zero] at h1
  rw [h1]
  unfold refB
  rw [Int.toNat_natCast, List.getElem?_eq_getElem hi]
  rfl
end Go.Proofs.Ytgkjhnghibpeoaa
