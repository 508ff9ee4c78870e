/- Graphs as trees, and which of them may be. Nothing here speaks of the program. -/
import Derived.Lib.Strings
import Derived.Below
namespace Go.Proofs.YtgndpcoplkhhgaaGreatDoor
open Go Go.Lib

/-- An instruction. -/
structure In where
  k : Int
  o : Int
  a : Int
  b : Int
  c : Int
  n : Int
deriving DecidableEq
def In.cells (i : In) : List Value := [.int .u8 i.k, .int .u8 i.o, .int .i64 i.a, .int .i64 i.b, .int .i64 i.c, .int .i64 i.n]
def In.val (i : In) : Value := .agg #[.int .u8 i.k, .int .u8 i.o, .int .i64 i.a, .int .i64 i.b, .int .i64 i.c, .int .i64 i.n]
def noI : In := ⟨0, 0, 0, 0, 0, 0⟩
/-- A block. -/
structure Bk where
  iv : Value
  ins : List In
  last : Int
  reg : Int
  yes : Int
  no : Int
def Bk.cells (b : Bk) : List Value := [b.iv, .int .u8 b.last, .int .i64 b.reg, .int .i64 b.yes, .int .i64 b.no]
/-- A graph. -/
structure Gr where
  rv : Value
  refs : List Bool
  sites : Int
  bv : Value
  blocks : List Bk
def Gr.cells (g : Gr) : List Value := [g.rv, .int .i64 g.sites, g.bv]
/-- A program as graphs. -/
structure Cd where
  words : Int
  tv : Value
  threads : List Gr
def Cd.cells (c : Cd) : List Value := [.int .i64 c.words, c.tv]

/-! ### Each thing by itself -/
def regB (R : List Bool) (r : Int) : Bool := decide (0 ≤ r) && decide (r < R.length)
def refB (R : List Bool) (r : Int) : Bool := (R[r.toNat]?).getD false
def inB (n a b : Int) : Bool := decide (a ≤ n) && decide (n ≤ b)
def insHas (k : Int) : ByteArray :=
  if k = 1 then ⟨#[65, 110]⟩ else if k = 2 then ⟨#[65, 66]⟩ else if k = 3 then ⟨#[111, 65, 66, 67]⟩ else if k = 4 then ⟨#[66]⟩ else if k = 5 then ⟨#[66, 110]⟩ else if k = 6 then ⟨#[65, 110]⟩ else if k = 7 then ⟨#[65, 110, 99]⟩
  else if k = 8 then ⟨#[65, 66, 45, 110]⟩ else if k = 9 then ⟨#[65, 66, 45, 110]⟩ else if k = 10 then ⟨#[65, 66, 45, 110]⟩ else if k = 11 then ⟨#[65, 66, 45, 110]⟩ else if k = 12 then ⟨#[66]⟩ else ⟨#[]⟩
def insNm (k : Int) : ByteArray :=
  if k = 1 then ⟨#[99, 111, 110, 115, 116]⟩ else if k = 2 then ⟨#[109, 111, 118, 101]⟩ else if k = 3 then ⟨#[99, 97, 108, 99]⟩ else if k = 4 then ⟨#[110, 105, 108]⟩ else if k = 5 then ⟨#[105, 110, 100, 101, 120]⟩ else if k = 6 then ⟨#[115, 104, 97, 114, 101, 100]⟩
  else if k = 7 then ⟨#[110, 101, 119]⟩ else if k = 8 then ⟨#[108, 111, 97, 100]⟩ else if k = 9 then ⟨#[115, 116, 111, 114, 101]⟩ else if k = 10 then ⟨#[111, 119, 110, 108, 111, 97, 100]⟩ else if k = 11 then ⟨#[111, 119, 110, 115, 116, 111, 114, 101]⟩
  else if k = 12 then ⟨#[112, 114, 105, 110, 116]⟩ else if k = 13 then ⟨#[98, 101, 103, 105, 110]⟩ else if k = 14 then ⟨#[101, 110, 100]⟩ else ⟨#[]⟩
def lastHas (k : Int) : ByteArray := if k = 1 then ⟨#[98]⟩ else if k = 2 then ⟨#[65, 98, 99]⟩ else ⟨#[]⟩
def lastNm (k : Int) : ByteArray := if k = 1 then ⟨#[106, 117, 109, 112]⟩ else if k = 2 then ⟨#[98, 114, 97, 110, 99, 104]⟩ else if k = 3 then ⟨#[104, 97, 108, 116]⟩ else ⟨#[]⟩
def calcNm (k : Int) : ByteArray :=
  if k = 1 then ⟨#[97, 100, 100]⟩ else if k = 2 then ⟨#[115, 117, 98]⟩ else if k = 3 then ⟨#[109, 117, 108]⟩ else if k = 4 then ⟨#[100, 105, 118]⟩ else if k = 5 then ⟨#[109, 111, 100]⟩ else if k = 6 then ⟨#[97, 110, 100]⟩ else if k = 7 then ⟨#[111, 114]⟩
  else if k = 8 then ⟨#[120, 111, 114]⟩ else if k = 9 then ⟨#[115, 104, 108]⟩ else if k = 10 then ⟨#[115, 104, 114]⟩ else if k = 11 then ⟨#[101, 113]⟩ else if k = 12 then ⟨#[110, 101]⟩ else if k = 13 then ⟨#[108, 116]⟩ else if k = 14 then ⟨#[108, 101]⟩ else ⟨#[]⟩
/-- One letter: its thing is there, and is nought now. -/
def shp1 (R : List Bool) (l : UInt8) (i : In) : Option In :=
  if l = 111 then some { i with o := 0 }
  else if l = 110 then some { i with n := 0 }
  else if l = 98 then some { i with b := 0 }
  else if l = 99 then some { i with c := 0 }
  else if l = 45 ∧ i.c = -1 then some { i with c := 0 }
  else if l = 65 then (if regB R i.a then some { i with a := 0 } else none)
  else if l = 66 then (if regB R i.b then some { i with b := 0 } else none)
  else (if regB R i.c then some { i with c := 0 } else none)
def shpS (R : List Bool) : List UInt8 → In → Option In
  | [], i => some i
  | l :: r, i => match shp1 R l i with
    | none => none
    | some j => shpS R r j
def shaped (R : List Bool) (i : In) (has : ByteArray) : Bool := decide (shpS R has.data.toList { i with k := 0 } = some noI)
def calcB (R : List Bool) (i : In) : Bool := inB i.o 1 14 && (!refB R i.a && ((refB R i.b == refB R i.c) && (!refB R i.b || (decide (i.o = 11) || decide (i.o = 12)))))
def makesB (M : List Bool) (s : Int) : Bool := decide (0 ≤ s) && (decide (s < M.length) && !refB M s)
def fitsB (R : List Bool) (W : Int) (M : List Bool) (i : In) : Bool :=
  if i.k = 1 then !refB R i.a || decide (i.n = 0)
  else if i.k = 2 then refB R i.a == refB R i.b
  else if i.k = 3 then calcB R i
  else if i.k = 4 then refB R i.b
  else if i.k = 5 then !refB R i.b && inB i.n 1 64
  else if i.k = 6 then refB R i.a && inB i.n 1 W
  else if i.k = 7 then refB R i.a && (inB i.n 1 64 && makesB M i.c)
  else if i.k = 8 ∨ i.k = 9 ∨ i.k = 10 ∨ i.k = 11 then refB R i.b && ((decide (i.c = -1) || !refB R i.c) && inB i.n 0 64)
  else if i.k = 12 then !refB R i.b
  else true
/-- The sites for which there is an InNew, behind an instruction. -/
def nextM (R : List Bool) (W : Int) (M : List Bool) (i : In) : List Bool := if i.k = 7 ∧ fitsB R W M i = true then M.set i.c.toNat true else M
def insB (R : List Bool) (W : Int) (M : List Bool) (i : In) : Bool := inB i.k 1 14 && (shaped R i (insHas i.k) && fitsB R W M i)
def endI (b : Bk) : In := ⟨0, 0, b.reg, b.yes, b.no, 0⟩
def blkB (n : Nat) (k : Int) : Bool := decide (0 ≤ k) && decide (k < n)
def leadsB (R : List Bool) (n : Nat) (b : Bk) : Bool := if b.last = 1 then blkB n b.yes else if b.last = 2 then !refB R b.reg && (blkB n b.yes && blkB n b.no) else true
def lastB (R : List Bool) (n : Nat) (b : Bk) : Bool := inB b.last 1 3 && (shaped R (endI b) (lastHas b.last) && leadsB R n b)
/-- The first instruction that may not be, or the sites behind them all. -/
def firstI (R : List Bool) (W : Int) : Nat → List Bool → List In → Option Nat × List Bool
  | _, M, [] => (none, M)
  | k, M, i :: l => if insB R W M i = true then firstI R W (k + 1) (nextM R W M i) l else (some k, M)
def firstB (R : List Bool) (W : Int) (nb : Nat) : Nat → List Bool → List Bk → Option (Nat × Nat)
  | _, _, [] => none
  | n, M, b :: l => match firstI R W 0 M b.ins with
    | (some k, _) => some (n, k)
    | (none, M') => if lastB R nb b = true then firstB R W nb (n + 1) M' l else some (n, b.ins.length)

/-! ### Sides -/
def behI (k : Int) (on : Nat) : Nat := if k = 13 then 2 else if k = 14 then 1 else on
def behL : List In → Nat → Nat
  | [], on => on
  | i :: l, on => behL l (behI i.k on)
def nextL (b : Bk) : List Int := if b.last = 1 then [b.yes] else if b.last = 2 then [b.yes, b.no] else []
/-- The rows of blocks that are still to be begun, the top ahead. -/
def goS (bl : List Bk) : Nat → List Nat → List (Nat × Nat) → List Nat
  | 0, B, _ => B
  | _ + 1, B, [] => B
  | f + 1, B, (t, on) :: S =>
    if (B[t]?).getD 0 &&& on = 0 then
      goS bl f (B.set t ((B[t]?).getD 0 ||| on)) (match bl[t]? with
        | none => S
        | some b => ((nextL b).map fun y => (y.toNat, behL b.ins on)).reverse ++ S)
    else goS bl f B S
def beginsT (bl : List Bk) : List Nat := goS bl (6 * bl.length + 1) (List.replicate bl.length 0) [(0, 1)]
def bothT : Nat → List Nat → Option Nat
  | _, [] => none
  | n, s :: l => if s = 3 then some n else bothT (n + 1) l
def sideK (k : Int) : Nat := if k = 7 ∨ k = 8 ∨ k = 9 ∨ k = 10 ∨ k = 11 ∨ k = 14 then 2 else if k = 13 then 1 else 3
/-- The first instruction on the wrong side, or the side behind them all. -/
def misI : Nat → Nat → List In → Option Nat × Nat
  | _, on, [] => (none, on)
  | k, on, i :: l => if sideK i.k &&& on = 0 then (some k, on) else misI (k + 1) (behI i.k on) l
def misB (B : List Nat) : Nat → List Bk → Option (Nat × Nat)
  | _, [] => none
  | n, b :: l => if (B[n]?).getD 0 = 0 then misB B (n + 1) l else match misI 0 ((B[n]?).getD 0) b.ins with
    | (some k, _) => some (n, k)
    | (none, on) => if b.last = 3 ∧ on = 2 then some (n, b.ins.length) else misB B (n + 1) l

/-! ### Whole graphs -/
def longB : Int → List Bk → Bool
  | _, [] => false
  | left, b :: l => if left < b.ins.length then true else longB (left - b.ins.length) l
def sizesE (g : Gr) : Int :=
  if 1024 < g.refs.length ∨ 4096 < g.blocks.length ∨ 8192 < g.sites then 3
  else if longB 8192 g.blocks = true then 3
  else if g.blocks.length = 0 ∨ g.sites < 0 then 14 else 0
def sidesT (bl : List Bk) : (Nat × Nat) × Int := match bothT 0 (beginsT bl) with
  | some n => ((n, 0), 14)
  | none => match misB (beginsT bl) 0 bl with
    | some at' => (at', 14)
    | none => ((0, 0), 0)
def checkG (W : Int) (g : Gr) : (Nat × Nat) × Int :=
  if sizesE g = 0 then match firstB g.refs W g.blocks.length 0 (List.replicate g.sites.toNat false) g.blocks with
    | some at' => (at', 14)
    | none => sidesT g.blocks
  else ((0, 0), sizesE g)
def checkL (W : Int) : Nat → List Gr → Nat × (Nat × Nat) × Int
  | _, [] => (0, (0, 0), 0)
  | n, g :: l => if (checkG W g).2 = 0 then checkL W (n + 1) l else (n, checkG W g)
def checkC (W : Int) (l : List Gr) : Nat × (Nat × Nat) × Int :=
  if 65536 < W ∨ 4 < l.length then (0, (0, 0), 3) else if W < 0 then (0, (0, 0), 14) else checkL W 0 l
end Go.Proofs.YtgndpcoplkhhgaaGreatDoor
