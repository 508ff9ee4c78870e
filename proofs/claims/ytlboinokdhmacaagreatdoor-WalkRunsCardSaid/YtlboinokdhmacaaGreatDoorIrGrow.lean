import Derived.Test.YtlboinokdhmacaaGreatDoorHd
import Derived.Deep.MidRow
import Derived.Deep.WholeRow
import Derived.SizedLaws
import Derived.Deep.Slices
import Derived.ProofKit
import Derived.OpenShut
namespace Go.Proofs.YtlboinokdhmacaaGreatDoor
set_option maxHeartbeats 64000000
set_option maxRecDepth 1000000
section
open Go Go.Lib
structure In where
 k:Int
 o:Int
 a:Int
 b:Int
 c:Int
 n:Int
deriving DecidableEq
def In.cells (i:In):List Value:=[.int .u8 i.k,.int .u8 i.o,.int .i64 i.a,.int .i64 i.b,.int .i64 i.c,.int .i64 i.n]
def In.val (i:In):Value:=.agg #[.int .u8 i.k,.int .u8 i.o,.int .i64 i.a,.int .i64 i.b,.int .i64 i.c,.int .i64 i.n]
def noI:In:=⟨0,0,0,0,0,0⟩
structure Bk where
 iv:Value
 ins:List In
 last:Int
 reg:Int
 yes:Int
 no:Int
def Bk.cells (b:Bk):List Value:=[b.iv,.int .u8 b.last,.int .i64 b.reg,.int .i64 b.yes,.int .i64 b.no]
structure Gr where
 rv:Value
 refs:List Bool
 sites:Int
 bv:Value
 blocks:List Bk
def Gr.cells (g:Gr):List Value:=[g.rv,.int .i64 g.sites,g.bv]
structure Cd where
 words:Int
 tv:Value
 threads:List Gr
def Cd.cells (c:Cd):List Value:=[.int .i64 c.words,c.tv]
def zg (R:List Bool) (r:Int):Bool:=decide (0≤r) && decide (r<R.length)
def zm (R:List Bool) (r:Int):Bool:=(R[r.toNat]?).getD false
def inB (n a b:Int):Bool:=decide (a≤n) && decide (n≤b)
def yY (k:Int):ByteArray:=
 if k=1 then ⟨#[65,110]⟩ else if k=2 then ⟨#[65,66]⟩ else if k=3 then ⟨#[111,65,66,67]⟩ else if k=4 then ⟨#[66]⟩ else if k=5 then ⟨#[66,110]⟩ else if k=6 then ⟨#[65,110]⟩ else if k=7 then ⟨#[65,110,99]⟩
 else if k=8 then ⟨#[65,66,45,110]⟩ else if k=9 then ⟨#[65,66,45,110]⟩ else if k=10 then ⟨#[65,66,45,110]⟩ else if k=11 then ⟨#[65,66,45,110]⟩ else if k=12 then ⟨#[66]⟩ else ⟨#[]⟩
def jE (k:Int):ByteArray:=
 if k=1 then ⟨#[99,111,110,115,116]⟩ else if k=2 then ⟨#[109,111,118,101]⟩ else if k=3 then ⟨#[99,97,108,99]⟩ else if k=4 then ⟨#[110,105,108]⟩ else if k=5 then ⟨#[105,110,100,101,120]⟩ else if k=6 then ⟨#[115,104,97,114,101,100]⟩
 else if k=7 then ⟨#[110,101,119]⟩ else if k=8 then ⟨#[108,111,97,100]⟩ else if k=9 then ⟨#[115,116,111,114,101]⟩ else if k=10 then ⟨#[111,119,110,108,111,97,100]⟩ else if k=11 then ⟨#[111,119,110,115,116,111,114,101]⟩
 else if k=12 then ⟨#[112,114,105,110,116]⟩ else if k=13 then ⟨#[98,101,103,105,110]⟩ else if k=14 then ⟨#[101,110,100]⟩ else ⟨#[]⟩
def wO (k:Int):ByteArray:=if k=1 then ⟨#[98]⟩ else if k=2 then ⟨#[65,98,99]⟩ else ⟨#[]⟩
def jD (k:Int):ByteArray:=if k=1 then ⟨#[106,117,109,112]⟩ else if k=2 then ⟨#[98,114,97,110,99,104]⟩ else if k=3 then ⟨#[104,97,108,116]⟩ else ⟨#[]⟩
def jL (k:Int):ByteArray:=
 if k=1 then ⟨#[97,100,100]⟩ else if k=2 then ⟨#[115,117,98]⟩ else if k=3 then ⟨#[109,117,108]⟩ else if k=4 then ⟨#[100,105,118]⟩ else if k=5 then ⟨#[109,111,100]⟩ else if k=6 then ⟨#[97,110,100]⟩ else if k=7 then ⟨#[111,114]⟩
 else if k=8 then ⟨#[120,111,114]⟩ else if k=9 then ⟨#[115,104,108]⟩ else if k=10 then ⟨#[115,104,114]⟩ else if k=11 then ⟨#[101,113]⟩ else if k=12 then ⟨#[110,101]⟩ else if k=13 then ⟨#[108,116]⟩ else if k=14 then ⟨#[108,101]⟩ else ⟨#[]⟩
def zF (R:List Bool) (l:UInt8) (i:In):Option In:=
 if l=111 then some { i with o:=0 }
 else if l=110 then some { i with n:=0 }
 else if l=98 then some { i with b:=0 }
 else if l=99 then some { i with c:=0 }
 else if l=45∧i.c = -1 then some { i with c:=0 }
 else if l=65 then (if zg R i.a then some { i with a:=0 } else none)
 else if l=66 then (if zg R i.b then some { i with b:=0 } else none)
 else (if zg R i.c then some { i with c:=0 } else none)
def xN (R:List Bool):List UInt8→In→Option In
 | [],i=>some i
 | l :: r,i=>match zF R l i with
  | none=>none
  | some j=>xN R r j
def shaped (R:List Bool) (i:In) (has:ByteArray):Bool:=decide (xN R has.data.toList { i with k:=0 }=some noI)
def je (R:List Bool) (i:In):Bool:=inB i.o 1 14 && (!zm R i.a && ((zm R i.b==zm R i.c) && (!zm R i.b || (decide (i.o=11) || decide (i.o=12)))))
def wM (M:List Bool) (s:Int):Bool:=decide (0≤s) && (decide (s<M.length) && !zm M s)
def zu (R:List Bool) (W:Int) (M:List Bool) (i:In):Bool:=
 if i.k=1 then !zm R i.a || decide (i.n=0)
 else if i.k=2 then zm R i.a==zm R i.b
 else if i.k=3 then je R i
 else if i.k=4 then zm R i.b
 else if i.k=5 then !zm R i.b && inB i.n 1 64
 else if i.k=6 then zm R i.a && inB i.n 1 W
 else if i.k=7 then zm R i.a && (inB i.n 1 64 && wM M i.c)
 else if i.k=8∨i.k=9∨i.k=10∨i.k=11 then zm R i.b && ((decide (i.c = -1) || !zm R i.c) && inB i.n 0 64)
 else if i.k=12 then !zm R i.b
 else true
def xC (R:List Bool) (W:Int) (M:List Bool) (i:In):List Bool:=if i.k=7∧zu R W M i=true then M.set i.c.toNat true else M
def yK (R:List Bool) (W:Int) (M:List Bool) (i:In):Bool:=inB i.k 1 14 && (shaped R i (yY i.k) && zu R W M i)
def xA (b:Bk):In:=⟨0,0,b.reg,b.yes,b.no,0⟩
def xY (n:Nat) (k:Int):Bool:=decide (0≤k) && decide (k<n)
def wX (R:List Bool) (n:Nat) (b:Bk):Bool:=if b.last=1 then xY n b.yes else if b.last=2 then !zm R b.reg && (xY n b.yes && xY n b.no) else true
def lastB (R:List Bool) (n:Nat) (b:Bk):Bool:=inB b.last 1 3 && (shaped R (xA b) (wO b.last) && wX R n b)
def xH (R:List Bool) (W:Int):Nat→List Bool→List In→Option Nat × List Bool
 | _,M,[]=>(none,M)
 | k,M,i :: l=>if yK R W M i=true then xH R W (k+1) (xC R W M i) l else (some k,M)
def yz (R:List Bool) (W:Int) (nb:Nat):Nat→List Bool→List Bk→Option (Nat × Nat)
 | _,_,[]=>none
 | n,M,b :: l=>match xH R W 0 M b.ins with
  | (some k,_)=>some (n,k)
  | (none,M')=>if lastB R nb b=true then yz R W nb (n+1) M' l else some (n,b.ins.length)
def yD (k:Int) (on:Nat):Nat:=if k=13 then 2 else if k=14 then 1 else on
def zD:List In→Nat→Nat
 | [],on=>on
 | i :: l,on=>zD l (yD i.k on)
def zC (b:Bk):List Int:=if b.last=1 then [b.yes] else if b.last=2 then [b.yes,b.no] else []
def goS (bl:List Bk):Nat→List Nat→List (Nat × Nat)→List Nat
 | 0,B,_=>B
 | _+1,B,[]=>B
 | f+1,B,(t,on) :: S =>
  if (B[t]?).getD 0 &&& on=0 then
   goS bl f (B.set t ((B[t]?).getD 0 ||| on)) (match bl[t]? with
    | none=>S
    | some b=>((zC b).map fun y=>(y.toNat,zD b.ins on)).reverse++S)
  else goS bl f B S
def yo (bl:List Bk):List Nat:=goS bl (6*bl.length+1) (List.replicate bl.length 0) [(0,1)]
def yZ:Nat→List Nat→Option Nat
 | _,[]=>none
 | n,s :: l=>if s=3 then some n else yZ (n+1) l
def yL (k:Int):Nat:=if k=7∨k=8∨k=9∨k=10∨k=11∨k=14 then 2 else if k=13 then 1 else 3
def zS:Nat→Nat→List In→Option Nat × Nat
 | _,on,[]=>(none,on)
 | k,on,i :: l=>if yL i.k &&& on=0 then (some k,on) else zS (k+1) (yD i.k on) l
def zU (B:List Nat):Nat→List Bk→Option (Nat × Nat)
 | _,[]=>none
 | n,b :: l=>if (B[n]?).getD 0=0 then zU B (n+1) l else match zS 0 ((B[n]?).getD 0) b.ins with
  | (some k,_)=>some (n,k)
  | (none,on)=>if b.last=3∧on=2 then some (n,b.ins.length) else zU B (n+1) l
def wy:Int→List Bk→Bool
 | _,[]=>false
 | left,b :: l=>if left<b.ins.length then true else wy (left - b.ins.length) l
def xM (g:Gr):Int:=
 if 1024<g.refs.length∨4096<g.blocks.length∨8192<g.sites then 3
 else if wy 8192 g.blocks=true then 3
 else if g.blocks.length=0∨g.sites<0 then 14 else 0
def wF (bl:List Bk):(Nat × Nat) × Int:=match yZ 0 (yo bl)with
 | some n=>((n,0),14)
 | none=>match zU (yo bl) 0 bl with
  | some at'=>(at',14)
  | none=>((0,0),0)
def yH (W:Int) (g:Gr):(Nat × Nat) × Int:=
 if xM g=0 then match yz g.refs W g.blocks.length 0 (List.replicate g.sites.toNat false) g.blocks with
  | some at'=>(at',14)
  | none=>wF g.blocks
 else ((0,0),xM g)
def xV (W:Int):Nat→List Gr→Nat × (Nat × Nat) × Int
 | _,[]=>(0,(0,0),0)
 | n,g :: l=>if (yH W g).2=0 then xV W (n+1) l else (n,yH W g)
def xW (W:Int) (l:List Gr):Nat × (Nat × Nat) × Int:=
 if 65536<W∨4<l.length then (0,(0,0),3) else if W<0 then (0,(0,0),14) else xV W 0 l
end
section
open Go Go.Lib Go.RowKit
def zB {α:Type} (cells:α→List Value) (k:Nat) (w:World) (B:Nat) (s:Value) (l:List α):Prop:=
 ∃ ao cap,s = .slice ao l.length cap∧l.length≤140737488351232∧(l=[]∨∃ g off,ao=some ⟨g,off,none⟩ ∧ g<B∧∀ i x,l[i]? = some x→∀ j u,(cells x)[j]? = some u→w.cell? ⟨g,off+(i*k+j),none⟩ = some u)
theorem zB.below {α:Type} {cells:α→List Value} {k:Nat} {w w':World} {B:Nat} {s:Value} {l:List α} (h:zB cells k w B s l) (hb:Below B w w'):zB cells k w' B s l:=by
 obtain⟨ao,cap,hs,hl,h⟩:=h;refine⟨ao,cap,hs,hl, ?_⟩;rcases h with h|⟨g,off,h1,h2,h3⟩
 · exact .inl h
 · exact .inr ⟨g,off,h1,h2,fun i x hx j u hu=>by rw[hb.cell (p:=⟨g,_,none⟩) h2];exact h3 i x hx j u hu⟩
theorem zB.up {α:Type} {cells:α→List Value} {k:Nat} {w:World} {B B':Nat} {s:Value} {l:List α} (hB:B≤B') (h:zB cells k w B s l):zB cells k w B' s l:=by
 obtain⟨ao,cap,hs,hl,h⟩:=h;refine⟨ao,cap,hs,hl, ?_⟩;rcases h with h|⟨g,off,q1,q2,q3⟩
 · exact .inl h
 · exact .inr ⟨g,off,q1,by omega,q3⟩
theorem zB.form {α:Type} {cells:α→List Value} {k:Nat} {w:World} {B:Nat} {s:Value} {l:List α} (h:zB cells k w B s l) :
 ∃ ao cap,s = .slice ao l.length cap∧l.length≤9223372036854775807∧(0<l.length→∃ g off,ao=some ⟨g,off,none⟩ ∧ g<B):=by
 obtain⟨ao,cap,hs,hlen,hl⟩:=h;refine⟨ao,cap,hs,by omega,fun h0=>?_⟩;rcases hl with hl|⟨g,off,e1,hg,_⟩
 · subst hl;exact absurd h0 (by simp)
 · exact⟨g,off,e1,hg⟩
theorem zB.room {α:Type} {cells:α→List Value} {k:Nat} {w:World} {B:Nat} {s:Value} {l:List α} (h:zB cells k w B s l):l.length≤140737488351232:=by
 obtain⟨_,_,_,h,_⟩:=h;exact h
theorem zB.at {α:Type} {cells:α→List Value} {k:Nat} {w:World} {B:Nat} {s:Value} {l:List α} (h:zB cells k w B s l) {g off n c:Nat} (hs:s = .slice (some ⟨g,off,none⟩) n c) (i:Nat) (hi:i<l.length) :
 g<B∧∀ j u,(cells l[i])[j]? = some u→w.cell? ⟨g,off+i*k+j,none⟩ = some u:=by
 obtain⟨ao,cap,hs',_,hl⟩:=h;rcases hl with hl|⟨g',off',e1,hg,hc⟩
 · subst hl;exact absurd hi (by simp)
 rw[hs]at hs';injection hs' with e2 _ _
 rw[e1]at e2;cases e2;exact⟨hg,fun j u hu=>by rw[Nat.add_assoc];exact hc i l[i] (List.getElem?_eq_getElem hi) j u hu⟩
def xL (b:Bool):List Value:=[.bool b]
structure qz (i:In):Prop where
 k:0≤i.k∧i.k≤255
 o:0≤i.o∧i.o≤255
 a:-9223372036854775808≤i.a∧i.a≤9223372036854775807
 b:-9223372036854775808≤i.b∧i.b≤9223372036854775807
 c:-9223372036854775808≤i.c∧i.c≤9223372036854775807
 n:-9223372036854775808≤i.n∧i.n≤9223372036854775807
structure BkOk (b:Bk):Prop where
 last:0≤b.last∧b.last≤255
 reg:-9223372036854775808≤b.reg∧b.reg≤9223372036854775807
 yes:-9223372036854775808≤b.yes∧b.yes≤9223372036854775807
 no:-9223372036854775808≤b.no∧b.no≤9223372036854775807
structure BIn (w:World) (B:Nat) (b:Bk):Prop where
 lies:zB In.cells 6 w B b.iv b.ins
 ok:BkOk b
 ins:∀ i ∈ b.ins,qz i
structure GIn (w:World) (B:Nat) (g:Gr):Prop where
 rlies:zB xL 1 w B g.rv g.refs
 sites:-9223372036854775808≤g.sites∧g.sites≤9223372036854775807
 blies:zB Bk.cells 5 w B g.bv g.blocks
 blocks:∀ b ∈ g.blocks,BIn w B b
structure CIn (w:World) (B:Nat) (c:Cd):Prop where
 words:-9223372036854775808≤c.words∧c.words≤9223372036854775807
 tlies:zB Gr.cells 3 w B c.tv c.threads
 threads:∀ g ∈ c.threads,GIn w B g
theorem BIn.keeps {w w':World} {B:Nat} {r:Bk} (h:BIn w B r) (hb:Below B w w'):BIn w' B r:=⟨h.lies.below hb,h.ok,h.ins⟩
theorem GIn.keeps {w w':World} {B:Nat} {r:Gr} (h:GIn w B r) (hb:Below B w w'):GIn w' B r:=⟨h.rlies.below hb,h.sites,h.blies.below hb,fun a ha=>(h.blocks a ha).keeps hb⟩
theorem CIn.keeps {w w':World} {B:Nat} {r:Cd} (h:CIn w B r) (hb:Below B w w'):CIn w' B r:=⟨h.words,h.tlies.below hb,fun a ha=>(h.threads a ha).keeps hb⟩
theorem BIn.up {w:World} {B B':Nat} {r:Bk} (hB:B≤B') (h:BIn w B r):BIn w B' r:=⟨h.lies.up hB,h.ok,h.ins⟩
theorem GIn.up {w:World} {B B':Nat} {r:Gr} (hB:B≤B') (h:GIn w B r):GIn w B' r:=⟨h.rlies.up hB,h.sites,h.blies.up hB,fun a ha=>(h.blocks a ha).up hB⟩
theorem CIn.up {w:World} {B B':Nat} {r:Cd} (hB:B≤B') (h:CIn w B r):CIn w B' r:=⟨h.words,h.tlies.up hB,fun a ha=>(h.threads a ha).up hB⟩
theorem ic {w:World} {g o:Nat} {i:In} (h:∀ j u,i.cells[j]? = some u→w.cell? ⟨g,o+j,none⟩ = some u) :
 w.cell? ⟨g,o,none⟩ = some (.int .u8 i.k)∧w.cell? ⟨g,o+1,none⟩ = some (.int .u8 i.o)∧w.cell? ⟨g,o+2,none⟩ = some (.int .i64 i.a)∧w.cell? ⟨g,o+3,none⟩ = some (.int .i64 i.b)∧w.cell? ⟨g,o+4,none⟩ = some (.int .i64 i.c)∧w.cell? ⟨g,o+5,none⟩ = some (.int .i64 i.n):=
 ⟨h 0 _ rfl,h 1 _ rfl,h 2 _ rfl,h 3 _ rfl,h 4 _ rfl,h 5 _ rfl⟩
theorem bc {w:World} {g o:Nat} {b:Bk} (h:∀ j u,b.cells[j]? = some u→w.cell? ⟨g,o+j,none⟩ = some u) :
 w.cell? ⟨g,o,none⟩ = some b.iv∧w.cell? ⟨g,o+1,none⟩ = some (.int .u8 b.last)∧w.cell? ⟨g,o+2,none⟩ = some (.int .i64 b.reg)∧w.cell? ⟨g,o+3,none⟩ = some (.int .i64 b.yes)∧w.cell? ⟨g,o+4,none⟩ = some (.int .i64 b.no):=
 ⟨h 0 _ rfl,h 1 _ rfl,h 2 _ rfl,h 3 _ rfl,h 4 _ rfl⟩
theorem gc3 {w:World} {g o:Nat} {b:Gr} (h:∀ j u,b.cells[j]? = some u→w.cell? ⟨g,o+j,none⟩ = some u) :
 w.cell? ⟨g,o,none⟩ = some b.rv∧w.cell? ⟨g,o+1,none⟩ = some (.int .i64 b.sites)∧w.cell? ⟨g,o+2,none⟩ = some b.bv:=⟨h 0 _ rfl,h 1 _ rfl,h 2 _ rfl⟩
theorem zt {w:World} {b:Nat} {T:TypeId} {fr:Nat × Nat} {a0 a1:Value} (h:w.heap[b]? = some (.cells #[a0,a1] T fr)):w.cell? ⟨b,0,none⟩ = some a0∧w.cell? ⟨b,1,none⟩ = some a1:=
 ⟨by rw[Lib.cell_of_heap h];rfl,by rw[Lib.cell_of_heap h];rfl⟩
theorem yl {w:World} {b:Nat} {T:TypeId} {fr:Nat × Nat} {a0 a1 a2:Value} (h:w.heap[b]? = some (.cells #[a0,a1,a2] T fr)):w.cell? ⟨b,0,none⟩ = some a0∧w.cell? ⟨b,1,none⟩ = some a1∧w.cell? ⟨b,2,none⟩ = some a2:=
 ⟨by rw[Lib.cell_of_heap h];rfl,by rw[Lib.cell_of_heap h];rfl,by rw[Lib.cell_of_heap h];rfl⟩
theorem zx {w:World} {b:Nat} {T:TypeId} {fr:Nat × Nat} {a0 a1 a2 a3 a4:Value} (h:w.heap[b]? = some (.cells #[a0,a1,a2,a3,a4] T fr)):w.cell? ⟨b,0,none⟩ = some a0∧w.cell? ⟨b,1,none⟩ = some a1∧w.cell? ⟨b,2,none⟩ = some a2∧w.cell? ⟨b,3,none⟩ = some a3∧w.cell? ⟨b,4,none⟩ = some a4:=
 ⟨by rw[Lib.cell_of_heap h];rfl,by rw[Lib.cell_of_heap h];rfl,by rw[Lib.cell_of_heap h];rfl,by rw[Lib.cell_of_heap h];rfl,by rw[Lib.cell_of_heap h];rfl⟩
theorem zl {w:World} {b:Nat} {T:TypeId} {fr:Nat × Nat} {a0 a1 a2 a3 a4 a5:Value} (h:w.heap[b]? = some (.cells #[a0,a1,a2,a3,a4,a5] T fr)):w.cell? ⟨b,0,none⟩ = some a0∧w.cell? ⟨b,1,none⟩ = some a1∧w.cell? ⟨b,2,none⟩ = some a2∧w.cell? ⟨b,3,none⟩ = some a3∧w.cell? ⟨b,4,none⟩ = some a4∧w.cell? ⟨b,5,none⟩ = some a5:=
 ⟨by rw[Lib.cell_of_heap h];rfl,by rw[Lib.cell_of_heap h];rfl,by rw[Lib.cell_of_heap h];rfl,by rw[Lib.cell_of_heap h];rfl,by rw[Lib.cell_of_heap h];rfl,by rw[Lib.cell_of_heap h];rfl⟩
theorem zB.bit {w:World} {B:Nat} {s:Value} {l:List Bool} (h:zB xL 1 w B s l) {g off n c:Nat} (hs:s = .slice (some ⟨g,off,none⟩) n c) (i:Nat) (hi:i<l.length):w.cell? ⟨g,off+i,none⟩ = some (.bool (zm l (i:Int))):=by
 have h1:=(h.at hs i hi).2 0 (.bool l[i]) rfl;rw[Nat.mul_one,Nat.add_zero]at h1;rw[h1];unfold zm;rw[Int.toNat_natCast,List.getElem?_eq_getElem hi]
 rfl
end
open Go.RowKit
theorem wf_u8 {i:Int} (h:(Lit.int .u8 i).wf=true):0≤i∧i≤255:=by
 have e1:IntKind.u8.min=0:=rfl;have e2:IntKind.u8.max=255:=rfl;simp[Lit.wf,e1,e2]at h;omega
theorem wf_i64 {i:Int} (h:(Lit.int .i64 i).wf=true):-9223372036854775808≤i∧i≤9223372036854775807:=by
 have e1:IntKind.i64.min = -9223372036854775808:=rfl;have e2:IntKind.i64.max=9223372036854775807:=rfl;simp[Lit.wf,e1,e2]at h;omega
theorem z1i {w:World} {g off:Nat} {v:Value} (h:w.cell? ⟨g,off,none⟩ = some v):g<w.heap.size:=by
 by_cases hg:g<w.heap.size
 · exact hg
 · have hn:w.heap[g]? = none:=Array.getElem?_eq_none (by omega)
   simp[World.cell?,hn]at h
section
variable {H:Type} {enc:TypeId × Value→H} {w:World}
theorem wT {t:TypeId} {k:IntKind} {n:Nat} {v:Value} {y:DataW H × List MemPlace} (ht:Tryz.prog.underlying t=some (.int k)) (h:DataW.trod enc Tryz.prog w 0 (fun _=>true) true n t [v]=some y):∃ i,v = .int k i∧(Lit.int k i).wf=true:=by
 cases n with
 | zero=>cases h
 | succ n =>
  unfold DataW.trod at h;rw[ht]at h;cases v <;> simp at h
  rename_i k' i;obtain⟨⟨rfl,hw⟩,-⟩:=h;exact⟨i,rfl,hw⟩
theorem z1j {t:TypeId} {n:Nat} {v:Value} {y:DataW H × List MemPlace} (ht:Tryz.prog.underlying t=some .bool) (h:DataW.trod enc Tryz.prog w 0 (fun _=>true) true n t [v]=some y):∃ b,v = .bool b:=by
 cases n with
 | zero=>cases h
 | succ n =>
  unfold DataW.trod at h;rw[ht]at h;cases v <;> simp at h
  exact⟨_,rfl⟩
def Wt (t:TypeId) (d:DataW H):Prop:=∀ n ∈ d.weights Tryz.prog t,n≤reachBytes
theorem uV {e:TypeId} {n:Nat}:∀ {ds:List (DataW H)} {d:DataW H},d ∈ ds→n ∈ d.weights Tryz.prog e→n ∈ DataW.weightsAll Tryz.prog e ds
 | a :: r,d,hd,hn=>by
  simp only[DataW.weightsAll,List.mem_append];rcases List.mem_cons.1 hd with rfl|hd
  · exact .inl hn
  · exact .inr (uV hd hn)
theorem Xh {t e:TypeId} {elems spare:List (DataW H)} (hu:Tryz.prog.underlying t=some (.slice e)) (h:Wt t (.slice elems spare)):(elems.length+spare.length)*Tryz.prog.bytesOf e≤reachBytes∧∀ d ∈ elems,Wt e d:=by
 unfold Wt at h;simp only[DataW.weights,hu,List.mem_cons,List.mem_append]at h;exact⟨h _ (.inl rfl),fun d hd n hn=>h n (.inr (.inl (uV hd hn)))⟩
theorem jQ {t:TypeId} {fs:Array Field} {parts:List (DataW H)} (hu:Tryz.prog.underlying t=some (.struct fs)) (h:Wt t (.agg parts)) {i:Nat} {f:Field} {d:DataW H} (hf:fs[i]? = some f) (hd:parts[i]? = some d):Wt f.type d:=by
 intro n hn;refine h n ?_;simp only[DataW.weights,hu];exact DataW.weights_mem_each (j:=i) (by rw[List.getElem?_map,Array.getElem?_toList,hf];rfl) hd n hn
theorem XQ {t:TypeId} {n:Nat} {cs:List Value} {y:DataW H × List MemPlace} (ht:Tryz.prog.underlying t=some .bool) (h:DataW.trod enc Tryz.prog w 0 (fun _=>true) true n t cs=some y):cs.length=1:=by
 cases n with
 | zero=>cases h
 | succ n =>
  unfold DataW.trod at h;rw[ht]at h
  match cs with
  | []=>simp at h
  | [v]=>rfl
  | a :: b :: r=>cases a <;> simp at h
theorem open_list {α:Type} {cells:α→List Value} {kc:Nat} {t e:TypeId} {Q:α→Prop} (inh0:α) (ht:Tryz.prog.underlying t=some (.slice e)) (hce:Tryz.prog.cellsOf e=kc) (hbe:1≤Tryz.prog.bytesOf e) (hk:1≤kc) (hlen:∀ a,(cells a).length=kc) {n:Nat} {v:Value} {y:DataW H × List MemPlace}
 (h:DataW.trod enc Tryz.prog w 0 (fun _=>true) true n t [v]=some y) (hw:Wt t y.1)
 (ih:∀ k,k<n→∀ cs y,DataW.trod enc Tryz.prog w 0 (fun _=>true) true k e cs=some y→Wt e y.1→∃ x:α,cs=cells x∧Q x) :
 ∃ l:List α,zB cells kc w w.heap.size v l∧∀ a ∈ l,Q a:=by
 rcases DataW.trod_slice ht h with ⟨hv,-⟩|⟨a,len,cap,elems,rest,n2,hn2,hv,hy,-,hlc,hcm,hel0,hel,-,-⟩
 · simp only[List.cons.injEq,and_true]at hv
   subst hv;exact⟨[],⟨none,0,rfl,by simp,.inl rfl⟩,fun a ha=>by cases ha⟩
 · simp only[List.cons.injEq,and_true]at hv
   subst hv;rw[hy]at hw;obtain⟨hw1,hw2⟩:=Xh ht hw
   have hroom:len≤140737488351232:=by
    rw[List.length_map,List.length_map,hel0]at hw1;have h1:len*1≤(len+rest.length)*Tryz.prog.bytesOf e:=Nat.mul_le_mul (by omega) hbe;have h2:reachBytes≤140737488351232:=by decide
    omega
   have each:∀ i,i<len→∃ x:α,(∀ j u,(cells x)[j]? = some u→w.cell? ((a.add (i*kc)).add j)=some u)∧Q x:=by
    intro i hi;have h1:=hel i hi;rw[hce,List.getElem?_eq_getElem (by rw[hel0];exact hi)]at h1;obtain⟨cs',hc,htr⟩:=Option.bind_eq_some_iff.1 h1;obtain⟨-,hl7,hcell⟩:=World.cells?_some hc;obtain⟨x,rfl,hx⟩:=ih n2 (by omega) cs' _ htr (hw2 _ (List.mem_map.2 ⟨_,List.getElem_mem _,rfl⟩));refine⟨x,fun j u hu=>?_,hx⟩
    have hj:j<kc:=by
     rw[←hl7];exact (List.getElem?_eq_some_iff.1 hu).1
    rw[hcell j hj];exact hu
   have inh:Inhabited α:=⟨inh0⟩
   obtain⟨f,hf⟩:=Deep.choose_lt each;refine⟨(List.range len).map f,⟨some a,cap,by simp,by simpa using hroom, ?_⟩,fun x hx=>?_⟩
   · by_cases h0:len=0
     · left
       subst h0
       rfl
     · right
       obtain⟨b,o,sp⟩:=a;obtain⟨u0,hu0⟩:∃ u,(cells (f 0))[0]? = some u:=⟨_,List.getElem?_eq_getElem (by rw[hlen];omega)⟩
       have h1:=(hf 0 (by omega)).1 0 _ hu0
       have hsp:sp=none:=by
        have:=World.cell?_spot h1
        simpa[Addr.add]using this
       subst hsp;refine⟨b,o,rfl, ?_,fun i x hx j u hu=>?_⟩
       · rw[Addr.add_mid,Addr.add_mid]at h1
         exact z1i h1
       · rw[List.getElem?_map]at hx
         obtain⟨i',hi',rfl⟩:=Option.map_eq_some_iff.1 hx;obtain⟨hlt,he⟩:=List.getElem?_eq_some_iff.1 hi';have hil:i<len:=by simpa using hlt
         have hii:i'=i:=by simpa using he.symm
         subst hii;have h2:=(hf i' hil).1 j u hu;rw[Addr.add_mid,Addr.add_mid,Nat.add_assoc]at h2;exact h2
   · obtain⟨i,hi,rfl⟩:=List.mem_map.1 hx
     exact (hf i (List.mem_range.1 hi)).2
theorem g3 {α:Type} {l:List α} (h:l.length=3):∃ a b c,l=[a,b,c]:=by
 match l,h with
 | [a,b,c],_=>exact⟨a,b,c,rfl⟩
theorem g2 {α:Type} {l:List α} (h:l.length=2):∃ a b,l=[a,b]:=by
 match l,h with
 | [a,b],_=>exact⟨a,b,rfl⟩
theorem g4 {α:Type} {l:List α} (h:l.length=4):∃ a b c d,l=[a,b,c,d]:=by
 match l,h with
 | [a,b,c,d],_=>exact⟨a,b,c,d,rfl⟩
theorem g5 {α:Type} {l:List α} (h:l.length=5):∃ a b c d e,l=[a,b,c,d,e]:=by
 match l,h with
 | [a,b,c,d,e],_=>exact⟨a,b,c,d,e,rfl⟩
theorem g6 {α:Type} {l:List α} (h:l.length=6):∃ a b c d e f,l=[a,b,c,d,e,f]:=by
 match l,h with
 | [a,b,c,d,e,f],_=>exact⟨a,b,c,d,e,f,rfl⟩
theorem sIk:Tryz.prog.cellsOf 156=1:=by kernel_rfl
theorem sCa:Tryz.prog.cellsOf 157=1:=by kernel_rfl
theorem sLk:Tryz.prog.cellsOf 116=1:=by kernel_rfl
theorem sI:Tryz.prog.cellsOf 2=1:=by kernel_rfl
theorem sN:Tryz.prog.cellsOf 3=1:=by kernel_rfl
theorem sB:Tryz.prog.cellsOf 4=1:=by kernel_rfl
theorem sLB:Tryz.prog.cellsOf 72=1:=by kernel_rfl
theorem sLI:Tryz.prog.cellsOf 115=1:=by kernel_rfl
theorem sLK:Tryz.prog.cellsOf 73=1:=by kernel_rfl
theorem sLG:Tryz.prog.cellsOf 22=1:=by kernel_rfl
theorem sIn:Tryz.prog.cellsOf 159=6:=by kernel_rfl
theorem sBk:Tryz.prog.cellsOf 118=5:=by kernel_rfl
theorem sGr:Tryz.prog.cellsOf 75=3:=by kernel_rfl
theorem sCd:Tryz.prog.cellsOf 24=2:=by kernel_rfl
noncomputable def inIn:In:=noI
noncomputable def inBk:Bk:=⟨.slice none 0 0,[],0,0,0,0⟩
noncomputable def inGr:Gr:=⟨.slice none 0 0,[],0,.slice none 0 0,[]⟩
theorem VL (n:Nat) (cs:List Value) (y:DataW H × List MemPlace) (hl:cs.length=1) (h:DataW.trod enc Tryz.prog w 0 (fun _=>true) true n 4 cs=some y):∃ x:Bool,cs=xL x∧True:=by
 match cs,hl with
 | [v],_ =>
  obtain⟨b,rfl⟩:=z1j Tryz.underlying4 h;exact⟨b,rfl,trivial⟩
theorem VI (n:Nat) (cs:List Value) (y:DataW H × List MemPlace) (h:DataW.trod enc Tryz.prog w 0 (fun _=>true) true n 159 cs=some y):∃ x:In,cs=x.cells∧qz x:=by
 obtain⟨xs,n1,hn1,hy,hl,hlen,hf⟩:=DataW.trod_struct Tryz.underlying159 h;obtain⟨c0,c1,c2,c3,c4,c5,rfl⟩:=g6 (hl.trans sIn);obtain⟨y0,y1,y2,y3,y4,y5,rfl⟩:=g6 hlen;have k0:DataW.trod enc Tryz.prog w 0 (fun _=>true) true n1 156 [c0]=some y0:=by simpa[sIk]using hf 0 _ rfl
 have k1:DataW.trod enc Tryz.prog w 0 (fun _=>true) true n1 157 [c1]=some y1:=by simpa[sCa]using hf 1 _ rfl
 have k2:DataW.trod enc Tryz.prog w 0 (fun _=>true) true n1 3 [c2]=some y2:=by simpa[sN]using hf 2 _ rfl
 have k3:DataW.trod enc Tryz.prog w 0 (fun _=>true) true n1 3 [c3]=some y3:=by simpa[sN]using hf 3 _ rfl
 have k4:DataW.trod enc Tryz.prog w 0 (fun _=>true) true n1 3 [c4]=some y4:=by simpa[sN]using hf 4 _ rfl
 have k5:DataW.trod enc Tryz.prog w 0 (fun _=>true) true n1 2 [c5]=some y5:=by simpa[sI]using hf 5 _ rfl
 obtain⟨a0,rfl,w0⟩:=wT (k:=.u8) (by kernel_rfl) k0;obtain⟨a1,rfl,w1⟩:=wT (k:=.u8) (by kernel_rfl) k1;obtain⟨a2,rfl,w2⟩:=wT (k:=.i64) (by kernel_rfl) k2;obtain⟨a3,rfl,w3⟩:=wT (k:=.i64) (by kernel_rfl) k3;obtain⟨a4,rfl,w4⟩:=wT (k:=.i64) (by kernel_rfl) k4;obtain⟨a5,rfl,w5⟩:=wT (k:=.i64) (by kernel_rfl) k5;exact⟨⟨a0,a1,a2,a3,a4,a5⟩,rfl,wf_u8 w0,wf_u8 w1,wf_i64 w2,wf_i64 w3,wf_i64 w4,wf_i64 w5⟩
theorem VM (n:Nat) (cs:List Value) (y:DataW H × List MemPlace) (h:DataW.trod enc Tryz.prog w 0 (fun _=>true) true n 118 cs=some y) (hw:Wt 118 y.1):∃ x:Bk,cs=x.cells∧BIn w w.heap.size x:=by
 obtain⟨xs,n1,hn1,hy,hl,hlen,hf⟩:=DataW.trod_struct Tryz.underlying118 h;obtain⟨c0,c1,c2,c3,c4,rfl⟩:=g5 (hl.trans sBk);obtain⟨y0,y1,y2,y3,y4,rfl⟩:=g5 hlen;rw[hy]at hw;have k0:DataW.trod enc Tryz.prog w 0 (fun _=>true) true n1 115 [c0]=some y0:=by simpa[sLI]using hf 0 _ rfl
 have k1:DataW.trod enc Tryz.prog w 0 (fun _=>true) true n1 116 [c1]=some y1:=by simpa[sLk]using hf 1 _ rfl
 have k2:DataW.trod enc Tryz.prog w 0 (fun _=>true) true n1 3 [c2]=some y2:=by simpa[sN]using hf 2 _ rfl
 have k3:DataW.trod enc Tryz.prog w 0 (fun _=>true) true n1 3 [c3]=some y3:=by simpa[sN]using hf 3 _ rfl
 have k4:DataW.trod enc Tryz.prog w 0 (fun _=>true) true n1 3 [c4]=some y4:=by simpa[sN]using hf 4 _ rfl
 have w0:Wt 115 y0.1:=jQ Tryz.underlying118 hw (i:=0) rfl rfl;obtain⟨l,hL,hI⟩:=open_list (cells:=In.cells) (Q:=qz) inIn Tryz.underlying115 sIn (of_decide_eq_true (by kernel_rfl)) (by omega) (fun _=>rfl) k0 w0 (fun k _ cs y h _=>VI k cs y h);obtain⟨a1,rfl,v1⟩:=wT (k:=.u8) (by kernel_rfl) k1;obtain⟨a2,rfl,v2⟩:=wT (k:=.i64) (by kernel_rfl) k2;obtain⟨a3,rfl,v3⟩:=wT (k:=.i64) (by kernel_rfl) k3;obtain⟨a4,rfl,v4⟩:=wT (k:=.i64) (by kernel_rfl) k4;exact⟨⟨c0,l,a1,a2,a3,a4⟩,rfl,hL,⟨wf_u8 v1,wf_i64 v2,wf_i64 v3,wf_i64 v4⟩,hI⟩
theorem VJ (n:Nat) (cs:List Value) (y:DataW H × List MemPlace) (h:DataW.trod enc Tryz.prog w 0 (fun _=>true) true n 75 cs=some y) (hw:Wt 75 y.1):∃ x:Gr,cs=x.cells∧GIn w w.heap.size x:=by
 obtain⟨xs,n1,hn1,hy,hl,hlen,hf⟩:=DataW.trod_struct Tryz.underlying75 h;obtain⟨c0,c1,c2,rfl⟩:=g3 (hl.trans sGr);obtain⟨y0,y1,y2,rfl⟩:=g3 hlen;rw[hy]at hw;have k0:DataW.trod enc Tryz.prog w 0 (fun _=>true) true n1 72 [c0]=some y0:=by simpa[sLB]using hf 0 _ rfl
 have k1:DataW.trod enc Tryz.prog w 0 (fun _=>true) true n1 3 [c1]=some y1:=by simpa[sN]using hf 1 _ rfl
 have k2:DataW.trod enc Tryz.prog w 0 (fun _=>true) true n1 73 [c2]=some y2:=by simpa[sLK]using hf 2 _ rfl
 have w0:Wt 72 y0.1:=jQ Tryz.underlying75 hw (i:=0) rfl rfl;have w2:Wt 73 y2.1:=jQ Tryz.underlying75 hw (i:=2) rfl rfl;obtain⟨rs,h1,-⟩:=open_list (cells:=xL) (Q:=fun _=>True) false Tryz.underlying72 sB (of_decide_eq_true (by kernel_rfl)) (by omega) (fun _=>rfl) k0 w0 (fun k _ cs y h _=>VL k cs y (XQ Tryz.underlying4 h) h);obtain⟨a1,rfl,v1⟩:=wT (k:=.i64) (by kernel_rfl) k1;obtain⟨bs,h3,h4⟩:=open_list (cells:=Bk.cells) (Q:=BIn w w.heap.size) inBk Tryz.underlying73 sBk (of_decide_eq_true (by kernel_rfl)) (by omega) (fun _=>rfl) k2 w2 (fun k _ cs y h hw=>VM k cs y h hw);exact⟨⟨c0,rs,a1,c2,bs⟩,rfl,h1,wf_i64 v1,h3,h4⟩
theorem VK (n:Nat) (cs:List Value) (y:DataW H × List MemPlace) (h:DataW.trod enc Tryz.prog w 0 (fun _=>true) true n 24 cs=some y) (hw:Wt 24 y.1):∃ c:Cd,cs=c.cells∧CIn w w.heap.size c∧∃ ao m cap,c.tv = .slice ao m cap∧m≤cap:=by
 obtain⟨xs,n1,hn1,hy,hl,hlen,hf⟩:=DataW.trod_struct Tryz.underlying24 h;obtain⟨c0,c1,rfl⟩:=g2 (hl.trans sCd);obtain⟨y0,y1,rfl⟩:=g2 hlen;rw[hy]at hw;have k0:DataW.trod enc Tryz.prog w 0 (fun _=>true) true n1 3 [c0]=some y0:=by simpa[sN]using hf 0 _ rfl
 have k1:DataW.trod enc Tryz.prog w 0 (fun _=>true) true n1 22 [c1]=some y1:=by simpa[sLG]using hf 1 _ rfl
 have w1:Wt 22 y1.1:=jQ Tryz.underlying24 hw (i:=1) rfl rfl;obtain⟨a0,rfl,v0⟩:=wT (k:=.i64) (by kernel_rfl) k0;obtain⟨gs,h3,h4⟩:=open_list (cells:=Gr.cells) (Q:=GIn w w.heap.size) inGr Tryz.underlying22 sGr (of_decide_eq_true (by kernel_rfl)) (by omega) (fun _=>rfl) k1 w1 (fun k _ cs y h hw=>VJ k cs y h hw);refine⟨⟨a0,c1,gs⟩,rfl,⟨wf_i64 v0,h3,h4⟩, ?_⟩;rcases DataW.trod_slice Tryz.underlying22 k1 with ⟨hv,-⟩|⟨a,len,cap,elems,rest,n2,hn2,hv,hy,-,hlc,-⟩
 · simp only[List.cons.injEq,and_true]at hv
   exact⟨none,0,0,hv,Nat.le_refl _⟩
 · simp only[List.cons.injEq,and_true]at hv
   exact⟨_,len,cap,hv,hlc⟩
end
