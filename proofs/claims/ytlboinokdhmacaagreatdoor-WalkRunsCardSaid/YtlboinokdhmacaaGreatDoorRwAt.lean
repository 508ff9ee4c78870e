import Derived.Test.YtlboinokdhmacaaGreatDoorWkOwn
namespace Go.Proofs.YtlboinokdhmacaaGreatDoor
set_option maxHeartbeats 64000000
set_option maxRecDepth 1000000
open Lib(hid)
section
open Go Go.Lib Go.RowKit
structure RT where
 bi:Nat
 ii:Nat
 regs:List Int
 wait:List Int
 out:List Int
 fin:Int
def RT.reg (T:RT) (r:Int):Int:=(T.regs[r.toNat]?).getD 0
def RT.setR (T:RT) (a n:Int):RT:={ T with regs:=T.regs.set a.toNat n }
def wH (T:RT) (i:In):Int:=if 0≤i.c then wrap64 (wrap64 (T.reg i.b+i.n)+T.reg i.c) else wrap64 (T.reg i.b+i.n)
def wz (W:WS) (a:Int):Bool:=decide (1≤a) && decide (a<(W.words.length:Int))
def wu (W:WS) (T:RT) (i:In) (mark:Nat):WS:=if (i.k=10∨i.k=11)∧wH T i<(mark:Int) then { W with strange:=true } else W
def zY (W:WS) (T:RT) (i:In) (mark:Nat):WS × RT × Int:=
 if wz W (wH T i)=true then
  (if i.k=8∨i.k=10 then (wu W T i mark,T.setR i.a ((W.words[(wH T i).toNat]?).getD 0),0)
   else ({ wu W T i mark with words:=W.words.set (wH T i).toNat (T.reg i.a) },T,0))
 else (W,T,8)
def doR (W:WS) (T:RT) (i:In) (mark:Nat):WS × RT × Int:=
 if i.k=1∨i.k=6 then (W,T.setR i.a i.n,0)
 else if i.k=2 then (W,T.setR i.a (T.reg i.b),0)
 else if i.k=3 then (if doE i.o (T.reg i.c)=0 then (W,T.setR i.a (doN i.o (T.reg i.b) (T.reg i.c)),0) else (W,T,2))
 else if i.k=4 then (if T.reg i.b=0 then (W,T,3) else (W,T,0))
 else if i.k=5 then (if T.reg i.b<0∨i.n≤T.reg i.b then (W,T,4) else (W,T,0))
 else if i.k=7 then (if 65536<(W.words.length:Int) - 1+i.n then (W,T,5) else ({ W with words:=W.words++List.replicate i.n.toNat 0 },T.setR i.a (W.words.length:Int),0))
 else if i.k=8∨i.k=9∨i.k=10∨i.k=11 then zY W T i mark
 else (W,T,0)
def yx (T:RT) (b:Bk):RT × Bool:=
 if b.last=1 then ({ T with bi:=b.yes.toNat,ii:=0 },true)
 else if b.last=2 then (if T.reg b.reg≠0 then ({ T with bi:=b.yes.toNat,ii:=0 },true) else ({ T with bi:=b.no.toNat,ii:=0 },true))
 else ({ T with ii:=0,fin:=1 },false)
def zy (g:Gr) (W:WS) (T:RT) (inside:Bool) (mark:Nat) (l:List Int):WS × RT × List Int × Nat:=match g.blocks[T.bi]? with
 | none=>(W,T,l,0)
 | some b=>match b.ins[T.ii]? with
  | none=>(W,(yx T b).1,l,if (yx T b).2=true then 0 else 1)
  | some i=>if i.k=12 then (W,{ T with ii:=T.ii+1 },l++[T.reg i.b],if inside=true then 0 else 3)
   else if i.k=14 then (W,{ T with ii:=T.ii+1 },l,2)
   else ((doR W { T with ii:=T.ii+1 } i mark).1,{ (doR W { T with ii:=T.ii+1 } i mark).2.1 with fin:=(doR W { T with ii:=T.ii+1 } i mark).2.2 },l,if (doR W { T with ii:=T.ii+1 } i mark).2.2=0 then 0 else 1)
def vK (g:Gr) (T:RT):Bool:=match g.blocks[T.bi]? with
 | none=>false
 | some b=>match b.ins[T.ii]? with
  | none=>false
  | some i=>decide (i.k=13)
structure Ks where
 inside:Bool
 was:List Int
 mark:Nat
def Ks.at (g:Gr) (W:WS) (T:RT) (K:Ks):Ks:=if vK g T=true then ⟨true,W.words,W.words.length⟩ else K
def y8 (W:WS) (T:RT) (K:Ks) (l:List Int) (c:Nat):WS × RT:=
 if c=1 then (if K.inside=true then { W with words:=K.was } else W,T)
 else if c=2 then (W,{ T with wait:=l })
 else (W,{ T with out:=T.out++l })
def goR (g:Gr):Nat→WS→RT→Ks→List Int→Nat × WS × RT × Bool
 | 0,W,T,_,_=>(0,W,T,false)
 | n+1,W,T,K,l=>match zy g W T (K.at g W T).inside (K.at g W T).mark l with
  | (W',T',l',0)=>goR g n W' T' (K.at g W T) l'
  | (W',T',l',c+1)=>(n,(y8 W' T' (K.at g W T) l' (c+1)).1,(y8 W' T' (K.at g W T) l' (c+1)).2,true)
def yG (g:Gr) (n:Nat) (W:WS) (T:RT):Nat × WS × RT × Bool:=match T.wait with
 | x :: r=>(n,W,{ T with out:=T.out++[x],wait:=r },true)
 | []=>goR g n W T ⟨false,[],0⟩ []
structure QS where
 n:Nat
 W:WS
 T:List RT
def yU (gs:List Gr):List Int→QS→QS × Bool
 | [],s=>(s,false)
 | p :: ps,s=>if p<0∨(gs.length:Int)≤p then yU gs ps s else match gs[p.toNat]?,s.T[p.toNat]? with
  | some g,some T=>if T.fin≠0 then yU gs ps s
   else if (yG g s.n s.W T).2.2.2=true then yU gs ps ⟨(yG g s.n s.W T).1,(yG g s.n s.W T).2.1,s.T.set p.toNat (yG g s.n s.W T).2.2.1⟩
   else (⟨s.n,(yG g s.n s.W T).2.1,s.T⟩,true)
  | _,_=>yU gs ps s
end
section
open Go.RowKit
attribute [local go_sem ↓] zL zJ
theorem VO (ow:Nat→Nat) (w:World) (b j p n:Nat) (g:Gr) (W:WS) (T:TS) (v rs us ts ws:Value) (k o:Int) (aa:Int) (bb:Nat) (cc x:Int) (h1:WAt ow w b W n v) (h2:TAt ow w b j p g T rs us ts ws) (hb:bb<T.regs.length) (hok:UOk T.undo T.since W.words.length) (hu:T.undo.length≤1048576) :
 Calls Tryz.prog 181 #[.pointer (some ⟨p,0,none⟩),.agg #[.int .u8 k,.int .u8 o,.int .i64 aa,.int .i64 (bb:Int),.int .i64 cc,.int .i64 x]] w (zN ow b j p g n (if T.reg (bb:Int)=0 then yN W T 3 else (W,T,false)) w):=by
 obtain⟨rg,er,hrg,hrl⟩:=h2.regs;have her:=er;obtain⟨U,hU⟩:∃ U,U=w.alloc (.cells #[.int .u8 k,.int .u8 o,.int .i64 aa,.int .i64 (bb:Int),.int .i64 cc,.int .i64 x] 159):=⟨_,rfl⟩
 have hBU:Below w.heap.size w U:=by rw[hU];exact ze w _
 have hzU:U.heap.size=w.heap.size+1:=by rw[hU];simp
 have hO:U.heap[w.heap.size]? = some (.cells #[.int .u8 k,.int .u8 o,.int .i64 aa,.int .i64 (bb:Int),.int .i64 cc,.int .i64 x] 159 (0,0)):=by rw[hU];exact (MapKept.heap_alloc _ _).1
 have h1U:=h1.keeps (But.of (ls:=[]) hBU) (.refl _ _) (by simp) (by simp);have h2U:=h2.keeps (But.of (ls:=[]) hBU) (.refl _ _) (by simp);have hlp:p<w.heap.size:=z8 h2.box;have hlb:b<w.heap.size:=z8 h1.box;have hlr:rg<w.heap.size:=z8 hrg;have hrgU:=(hBU.block rg hlr).trans hrg;obtain⟨d0,d3,d4,d5,d6,d7,d8,d9,d10,d11,d12⟩:=h2U.cells;obtain⟨e0,e1,e2⟩:=h1U.cells;rw[her]at d4;obtain⟨i0,i1,i2,i3,i4,i5⟩:=zl hO;have fr:=fun (q:Nat)=>Lib.frozen_of_heap hrgU q
 obtain⟨NR,hNR⟩:∃ N,N=T.regs.length:=⟨_,rfl⟩
 have hbx:bb<NR:=by rw[hNR];exact hb
 obtain⟨z,hz⟩:∃ z,T.regs[bb]? = some z:=⟨_,List.getElem?_eq_getElem hb⟩
 have s1:=zT hrgU bb z hz;rw[vB hz];have HF:=hid (fun (e:Int) (u:World) (hb:Below U.heap.size U u)=>jd ow u b j p n g W T v rs us ts ws e (h1U.keeps (But.of (ls:=[]) hb) (.refl _ _) (by simp) (by simp)) (h2U.keeps (But.of (ls:=[]) hb) (.refl _ _) (by simp)) hok hu);have H1:=hid h1U;have H2:=hid h2U;have HB:=hid hBU;have HU:=hid hU;have HER:=hid her;rw[←hNR]at d4;have HNR:=hid hNR;clear d3 d5 d6 d7 d8 d9 d10 d11 d12 e0 e1 e2;clear h1 h2 h1U h2U hBU hO hrg hrgU hrl er her hU hNR hb fr hz hok hu
 by_cases hz0:z=0
 · subst hz0
   rw[if_pos rfl];go_enter Tryz.func181,Tryz.ntmps181;go_wp2_with fail;rw[←HU.out];refine wp_region_held_drew (S:=zk (w.heap.size+1) U) (by kernel_rfl) (zk.drew _ _) (fun hSw=>?_);refine tH 0 (.pointer (some ⟨p,0,none⟩)) hSw ?_;(try simp only[nS]);refine tH 1 (.pointer (some ⟨p,0,none⟩)) hSw ?_;(try simp only[nS]);refine tH 2 (.pointer (some ⟨p,4,none⟩)) hSw ?_;(try simp only[nS]);refine tG 3 (.slice (some ⟨rg,0,none⟩) NR NR) hSw (fun W hW=>?_) ?_
   · have d4:=hW.cell (by dsimp only;omega) d4
     first|(go_simp;done)|rfl
   (try simp only[nS]);refine tH 4 (.pointer (some ⟨w.heap.size,3,none⟩)) hSw ?_;(try simp only[nS]);refine tG 5 (.int .i64 (bb:Int)) hSw (fun W hW=>?_) ?_
   · have i3:=hW.cell (by dsimp only;omega) i3
     first|(go_simp;done)|rfl
   (try simp only[nS]);refine tH 6 (.pointer (some ⟨rg,bb,none⟩)) hSw ?_;(try simp only[nS]);refine tG 7 (.int .i64 0) hSw (fun W hW=>?_) ?_
   · have s1:=hW.cell (by dsimp only;omega) s1
     first|(go_simp;done)|rfl
   (try simp only[nS]);refine tH 8 (.bool true) hSw ?_;(try simp only[nS]);refine wpAnyH_done (by kernel_rfl) ?_ _;go_wp2_with fail;refine (HF.out 3 U.drew (below_drewN' (Below.refl _ _))).mono ?_;rintro e w2 hE;obtain⟨rfl,hR⟩:=(show e = .returned (.bool true)∧zN ow b j p g n (yN W T 3) (U.drew) e w2 from⟨hE.1,hE⟩)
   have HR:=hid hR;clear hE hR;go_wp2_with fail;go_ret;exact ((HR.out.from (below_drewN' (Below.refl _ _))).from HB.out)
 · rw[if_neg hz0]
   have hz1:(z==0)=false:=by simp only[beq_eq_false_iff_ne,ne_eq];exact hz0
   clear hz0;go_enter Tryz.func181,Tryz.ntmps181;go_wp2_with fail;rw[←HU.out];refine wp_region_held_drew (S:=zk (w.heap.size+1) U) (by kernel_rfl) (zk.drew _ _) (fun hSw=>?_);refine tH 0 (.pointer (some ⟨p,0,none⟩)) hSw ?_;(try simp only[nS]);refine tH 1 (.pointer (some ⟨p,0,none⟩)) hSw ?_;(try simp only[nS]);refine tH 2 (.pointer (some ⟨p,4,none⟩)) hSw ?_;(try simp only[nS]);refine tG 3 (.slice (some ⟨rg,0,none⟩) NR NR) hSw (fun W hW=>?_) ?_
   · have d4:=hW.cell (by dsimp only;omega) d4
     first|(go_simp;done)|rfl
   (try simp only[nS]);refine tH 4 (.pointer (some ⟨w.heap.size,3,none⟩)) hSw ?_;(try simp only[nS]);refine tG 5 (.int .i64 (bb:Int)) hSw (fun W hW=>?_) ?_
   · have i3:=hW.cell (by dsimp only;omega) i3
     first|(go_simp;done)|rfl
   (try simp only[nS]);refine tH 6 (.pointer (some ⟨rg,bb,none⟩)) hSw ?_;(try simp only[nS]);refine tG 7 (.int .i64 z) hSw (fun W hW=>?_) ?_
   · have s1:=hW.cell (by dsimp only;omega) s1
     first|(go_simp;done)|rfl
   (try simp only[nS]);refine tH 8 (.bool false) hSw ?_;(try simp only[nS]);refine wpAnyH_done (by kernel_rfl) ?_ _;go_wp2_with fail;go_ret;exact⟨rfl,ow,v,rs,us,ts,ws,.refl _ _,H1.out.keeps (But.of (ls:=[]) (below_drewN' (Below.refl _ _))) (.refl _ _) (by simp) (by simp),H2.out.keeps (But.of (ls:=[]) (below_drewN' (Below.refl _ _))) (.refl _ _) (by simp),(Kp.of HB.out).drew⟩
theorem Ky (ow:Nat→Nat) (w:World) (b j p n:Nat) (g:Gr) (W:WS) (T:TS) (v rs us ts ws:Value) (k o:Int) (aa:Int) (bb:Nat) (cc x:Int) (h1:WAt ow w b W n v) (h2:TAt ow w b j p g T rs us ts ws) (hb:bb<T.regs.length) (hok:UOk T.undo T.since W.words.length) (hu:T.undo.length≤1048576) :
 Calls Tryz.prog 182 #[.pointer (some ⟨p,0,none⟩),.agg #[.int .u8 k,.int .u8 o,.int .i64 aa,.int .i64 (bb:Int),.int .i64 cc,.int .i64 x]] w (zN ow b j p g n (if T.reg (bb:Int)<0∨x≤T.reg (bb:Int) then yN W T 4 else (W,T,false)) w):=by
 obtain⟨rg,er,hrg,hrl⟩:=h2.regs;have her:=er;obtain⟨U,hU⟩:∃ U,U=w.alloc (.cells #[.int .u8 k,.int .u8 o,.int .i64 aa,.int .i64 (bb:Int),.int .i64 cc,.int .i64 x] 159):=⟨_,rfl⟩
 have hBU:Below w.heap.size w U:=by rw[hU];exact ze w _
 have hzU:U.heap.size=w.heap.size+1:=by rw[hU];simp
 have hO:U.heap[w.heap.size]? = some (.cells #[.int .u8 k,.int .u8 o,.int .i64 aa,.int .i64 (bb:Int),.int .i64 cc,.int .i64 x] 159 (0,0)):=by rw[hU];exact (MapKept.heap_alloc _ _).1
 have h1U:=h1.keeps (But.of (ls:=[]) hBU) (.refl _ _) (by simp) (by simp);have h2U:=h2.keeps (But.of (ls:=[]) hBU) (.refl _ _) (by simp);have hlp:p<w.heap.size:=z8 h2.box;have hlb:b<w.heap.size:=z8 h1.box;have hlr:rg<w.heap.size:=z8 hrg;have hrgU:=(hBU.block rg hlr).trans hrg;obtain⟨d0,d3,d4,d5,d6,d7,d8,d9,d10,d11,d12⟩:=h2U.cells;obtain⟨e0,e1,e2⟩:=h1U.cells;rw[her]at d4;obtain⟨i0,i1,i2,i3,i4,i5⟩:=zl hO;have fr:=fun (q:Nat)=>Lib.frozen_of_heap hrgU q
 obtain⟨NR,hNR⟩:∃ N,N=T.regs.length:=⟨_,rfl⟩
 have hbx:bb<NR:=by rw[hNR];exact hb
 obtain⟨z,hz⟩:∃ z,T.regs[bb]? = some z:=⟨_,List.getElem?_eq_getElem hb⟩
 have s1:=zT hrgU bb z hz;rw[vB hz];have HF:=hid (fun (e:Int) (u:World) (hb:Below U.heap.size U u)=>jd ow u b j p n g W T v rs us ts ws e (h1U.keeps (But.of (ls:=[]) hb) (.refl _ _) (by simp) (by simp)) (h2U.keeps (But.of (ls:=[]) hb) (.refl _ _) (by simp)) hok hu);have H1:=hid h1U;have H2:=hid h2U;have HB:=hid hBU;have HU:=hid hU;have HER:=hid her;rw[←hNR]at d4;have HNR:=hid hNR;clear d3 d5 d6 d7 d8 d9 d10 d11 d12 e0 e1 e2;clear h1 h2 h1U h2U hBU hO hrg hrgU hrl er her hU hNR hb fr hz hok hu
 by_cases hz0:z<0
 · rw[if_pos (.inl hz0)]
   go_enter Tryz.func182,Tryz.ntmps182;go_wp2_with fail;rw[←HU.out];refine wp_region_held_drew (S:=zk (w.heap.size+1) U) (by kernel_rfl) (zk.drew _ _) (fun hSw=>?_);refine tH 0 (.pointer (some ⟨p,0,none⟩)) hSw ?_;(try simp only[nS]);refine tH 1 (.pointer (some ⟨p,0,none⟩)) hSw ?_;(try simp only[nS]);refine tH 2 (.pointer (some ⟨p,4,none⟩)) hSw ?_;(try simp only[nS]);refine tG 3 (.slice (some ⟨rg,0,none⟩) NR NR) hSw (fun W hW=>?_) ?_
   · have d4:=hW.cell (by dsimp only;omega) d4
     first|(go_simp;done)|rfl
   (try simp only[nS]);refine tH 4 (.pointer (some ⟨w.heap.size,3,none⟩)) hSw ?_;(try simp only[nS]);refine tG 5 (.int .i64 (bb:Int)) hSw (fun W hW=>?_) ?_
   · have i3:=hW.cell (by dsimp only;omega) i3
     first|(go_simp;done)|rfl
   (try simp only[nS]);refine tH 6 (.pointer (some ⟨rg,bb,none⟩)) hSw ?_;(try simp only[nS]);refine tG 7 (.int .i64 z) hSw (fun W hW=>?_) ?_
   · have s1:=hW.cell (by dsimp only;omega) s1
     first|(go_simp;done)|rfl
   (try simp only[nS]);refine tH 8 (.int .i64 z) hSw ?_;(try simp only[nS]);refine wpAnyH_done (by kernel_rfl) ?_ _;go_wp2_with fail;refine (HF.out 4 U.drew (below_drewN' (Below.refl _ _))).mono ?_;rintro e w2 hE;obtain⟨rfl,hR⟩:=(show e = .returned (.bool true)∧zN ow b j p g n (yN W T 4) (U.drew) e w2 from⟨hE.1,hE⟩)
   have HR:=hid hR;clear hE hR;go_wp2_with fail;go_ret;exact ((HR.out.from (below_drewN' (Below.refl _ _))).from HB.out)
 by_cases hz1:x≤z
 · rw[if_pos (.inr hz1)]
   go_enter Tryz.func182,Tryz.ntmps182;go_wp2_with fail;rw[←HU.out];refine wp_region_held_drew (S:=zk (w.heap.size+1) U) (by kernel_rfl) (zk.drew _ _) (fun hSw=>?_);refine tH 0 (.pointer (some ⟨p,0,none⟩)) hSw ?_;(try simp only[nS]);refine tH 1 (.pointer (some ⟨p,0,none⟩)) hSw ?_;(try simp only[nS]);refine tH 2 (.pointer (some ⟨p,4,none⟩)) hSw ?_;(try simp only[nS]);refine tG 3 (.slice (some ⟨rg,0,none⟩) NR NR) hSw (fun W hW=>?_) ?_
   · have d4:=hW.cell (by dsimp only;omega) d4
     first|(go_simp;done)|rfl
   (try simp only[nS]);refine tH 4 (.pointer (some ⟨w.heap.size,3,none⟩)) hSw ?_;(try simp only[nS]);refine tG 5 (.int .i64 (bb:Int)) hSw (fun W hW=>?_) ?_
   · have i3:=hW.cell (by dsimp only;omega) i3
     first|(go_simp;done)|rfl
   (try simp only[nS]);refine tH 6 (.pointer (some ⟨rg,bb,none⟩)) hSw ?_;(try simp only[nS]);refine tG 7 (.int .i64 z) hSw (fun W hW=>?_) ?_
   · have s1:=hW.cell (by dsimp only;omega) s1
     first|(go_simp;done)|rfl
   (try simp only[nS]);refine tH 8 (.int .i64 z) hSw ?_;(try simp only[nS]);refine wpAnyH_done (by kernel_rfl) ?_ _;go_wp2_with fail;refine (HF.out 4 U.drew (below_drewN' (Below.refl _ _))).mono ?_;rintro e w2 hE;obtain⟨rfl,hR⟩:=(show e = .returned (.bool true)∧zN ow b j p g n (yN W T 4) (U.drew) e w2 from⟨hE.1,hE⟩)
   have HR:=hid hR;clear hE hR;go_wp2_with fail;go_ret;exact ((HR.out.from (below_drewN' (Below.refl _ _))).from HB.out)
 · rw[if_neg (by omega)]
   go_enter Tryz.func182,Tryz.ntmps182;go_wp2_with fail;rw[←HU.out];refine wp_region_held_drew (S:=zk (w.heap.size+1) U) (by kernel_rfl) (zk.drew _ _) (fun hSw=>?_);refine tH 0 (.pointer (some ⟨p,0,none⟩)) hSw ?_;(try simp only[nS]);refine tH 1 (.pointer (some ⟨p,0,none⟩)) hSw ?_;(try simp only[nS]);refine tH 2 (.pointer (some ⟨p,4,none⟩)) hSw ?_;(try simp only[nS]);refine tG 3 (.slice (some ⟨rg,0,none⟩) NR NR) hSw (fun W hW=>?_) ?_
   · have d4:=hW.cell (by dsimp only;omega) d4
     first|(go_simp;done)|rfl
   (try simp only[nS]);refine tH 4 (.pointer (some ⟨w.heap.size,3,none⟩)) hSw ?_;(try simp only[nS]);refine tG 5 (.int .i64 (bb:Int)) hSw (fun W hW=>?_) ?_
   · have i3:=hW.cell (by dsimp only;omega) i3
     first|(go_simp;done)|rfl
   (try simp only[nS]);refine tH 6 (.pointer (some ⟨rg,bb,none⟩)) hSw ?_;(try simp only[nS]);refine tG 7 (.int .i64 z) hSw (fun W hW=>?_) ?_
   · have s1:=hW.cell (by dsimp only;omega) s1
     first|(go_simp;done)|rfl
   (try simp only[nS]);refine tH 8 (.int .i64 z) hSw ?_;(try simp only[nS]);refine wpAnyH_done (by kernel_rfl) ?_ _;go_wp2_with fail;go_ret;exact⟨rfl,ow,v,rs,us,ts,ws,.refl _ _,H1.out.keeps (But.of (ls:=[]) (below_drewN' (Below.refl _ _))) (.refl _ _) (by simp) (by simp),H2.out.keeps (But.of (ls:=[]) (below_drewN' (Below.refl _ _))) (.refl _ _) (by simp),(Kp.of HB.out).drew⟩
theorem Xn (ow:Nat→Nat) (w:World) (b j p n:Nat) (g:Gr) (W:WS) (T:TS) (v rs us ts ws:Value) (k o:Int) (a bb cc:Nat) (x:Int) (h1:WAt ow w b W n v) (h2:TAt ow w b j p g T rs us ts ws) (ha:a<T.regs.length) (hb:bb<T.regs.length) (hc:cc<T.regs.length) (hok:UOk T.undo T.since W.words.length) (hu:T.undo.length≤1048576) :
 Calls Tryz.prog 180 #[.pointer (some ⟨p,0,none⟩),.agg #[.int .u8 k,.int .u8 o,.int .i64 (a:Int),.int .i64 (bb:Int),.int .i64 (cc:Int),.int .i64 x]] w (zN ow b j p g n (if doE o (T.reg (cc:Int))=0 then (W,T.setR (a:Int) (doN o (T.reg (bb:Int)) (T.reg (cc:Int))),false) else yN W T 2) w):=by
 obtain⟨rg,er,hrg,hrl⟩:=h2.regs;have her:=er;obtain⟨U,hU⟩:∃ U,U=w.alloc (.cells #[.int .u8 k,.int .u8 o,.int .i64 (a:Int),.int .i64 (bb:Int),.int .i64 (cc:Int),.int .i64 x] 159):=⟨_,rfl⟩
 have hBU:Below w.heap.size w U:=by rw[hU];exact ze w _
 have hzU:U.heap.size=w.heap.size+1:=by rw[hU];simp
 have hO:U.heap[w.heap.size]? = some (.cells #[.int .u8 k,.int .u8 o,.int .i64 (a:Int),.int .i64 (bb:Int),.int .i64 (cc:Int),.int .i64 x] 159 (0,0)):=by rw[hU];exact (MapKept.heap_alloc _ _).1
 have h1U:=h1.keeps (But.of (ls:=[]) hBU) (.refl _ _) (by simp) (by simp);have h2U:=h2.keeps (But.of (ls:=[]) hBU) (.refl _ _) (by simp);have hlp:p<w.heap.size:=z8 h2.box;have hlb:b<w.heap.size:=z8 h1.box;have hlr:rg<w.heap.size:=z8 hrg;have hrgU:=(hBU.block rg hlr).trans hrg;obtain⟨d0,d3,d4,d5,d6,d7,d8,d9,d10,d11,d12⟩:=h2U.cells;obtain⟨e0,e1,e2⟩:=h1U.cells;rw[her]at d4;obtain⟨i0,i1,i2,i3,i4,i5⟩:=zl hO;have fr:=fun (q:Nat)=>Lib.frozen_of_heap hrgU q
 obtain⟨NR,hNR⟩:∃ N,N=T.regs.length:=⟨_,rfl⟩
 have hax:a<NR:=by rw[hNR];exact ha
 have hbx:bb<NR:=by rw[hNR];exact hb
 have hcx:cc<NR:=by rw[hNR];exact hc
 have f0:=fr a;obtain⟨y,hy⟩:∃ y,T.regs[a]? = some y:=⟨_,List.getElem?_eq_getElem ha⟩
 obtain⟨z,hz⟩:∃ z,T.regs[bb]? = some z:=⟨_,List.getElem?_eq_getElem hb⟩
 obtain⟨z2,hz2⟩:∃ z,T.regs[cc]? = some z:=⟨_,List.getElem?_eq_getElem hc⟩
 have s0:=zT hrgU a y hy;have s1:=zT hrgU bb z hz;have s2:=zT hrgU cc z2 hz2;rw[vB hz,vB hz2];obtain⟨D,hD⟩:∃ D,D=doN o z z2:=⟨_,rfl⟩
 obtain⟨E,hE⟩:∃ E,E=doE o z2:=⟨_,rfl⟩
 have HC:=hid (fun (u:World)=>z0l o z z2 u);rw[←hD,←hE]at HC ⊢;have HF:=hid (fun (e:Int) (u:World) (hb:Below U.heap.size U u)=>jd ow u b j p n g W T v rs us ts ws e (h1U.keeps (But.of (ls:=[]) hb) (.refl _ _) (by simp) (by simp)) (h2U.keeps (But.of (ls:=[]) hb) (.refl _ _) (by simp)) hok hu);have H1:=hid h1U;have H2:=hid h2U;have HB:=hid hBU;have HU:=hid hU;have HER:=hid her;rw[←hNR]at d4;have HNR:=hid hNR;clear d3 d5 d6 d7 d8 d9 d10 d11 d12 e0 e1 e2;clear h1 h2 h1U h2U hBU hO hrg hrgU hrl er her hU hNR ha hb hc fr hy hz hz2 hD hE hok hu
 by_cases hE0:E=0
 · subst hE0
   rw[if_pos rfl];go_enter Tryz.func180,Tryz.ntmps180;go_wp2_with fail;rw[←HU.out];refine wp_region_held_drew (S:=zk (w.heap.size+1) U) (by kernel_rfl) (zk.drew _ _) (fun hSw=>?_);refine tH 0 (.pointer (some ⟨w.heap.size,1,none⟩)) hSw ?_;(try simp only[nS]);refine tG 1 (.int .u8 o) hSw (fun W hW=>?_) ?_
   · have i1:=hW.cell (by dsimp only;omega) i1
     first|(go_simp;done)|rfl
   (try simp only[nS]);refine tH 2 (.pointer (some ⟨p,0,none⟩)) hSw ?_;(try simp only[nS]);refine tH 3 (.pointer (some ⟨p,0,none⟩)) hSw ?_;(try simp only[nS]);refine tH 4 (.pointer (some ⟨p,4,none⟩)) hSw ?_;(try simp only[nS]);refine tG 5 (.slice (some ⟨rg,0,none⟩) NR NR) hSw (fun W hW=>?_) ?_
   · have d4:=hW.cell (by dsimp only;omega) d4
     first|(go_simp;done)|rfl
   (try simp only[nS]);refine tH 6 (.pointer (some ⟨w.heap.size,3,none⟩)) hSw ?_;(try simp only[nS]);refine tG 7 (.int .i64 (bb:Int)) hSw (fun W hW=>?_) ?_
   · have i3:=hW.cell (by dsimp only;omega) i3
     first|(go_simp;done)|rfl
   (try simp only[nS]);refine tH 8 (.pointer (some ⟨rg,bb,none⟩)) hSw ?_;(try simp only[nS]);refine tG 9 (.int .i64 z) hSw (fun W hW=>?_) ?_
   · have s1:=hW.cell (by dsimp only;omega) s1
     first|(go_simp;done)|rfl
   (try simp only[nS]);refine tH 10 (.pointer (some ⟨p,0,none⟩)) hSw ?_;(try simp only[nS]);refine tH 11 (.pointer (some ⟨p,0,none⟩)) hSw ?_;(try simp only[nS]);refine tH 12 (.pointer (some ⟨p,4,none⟩)) hSw ?_;(try simp only[nS]);refine tG 13 (.slice (some ⟨rg,0,none⟩) NR NR) hSw (fun W hW=>?_) ?_
   · have d4:=hW.cell (by dsimp only;omega) d4
     first|(go_simp;done)|rfl
   (try simp only[nS]);refine tH 14 (.pointer (some ⟨w.heap.size,4,none⟩)) hSw ?_;(try simp only[nS]);refine tG 15 (.int .i64 (cc:Int)) hSw (fun W hW=>?_) ?_
   · have i4:=hW.cell (by dsimp only;omega) i4
     first|(go_simp;done)|rfl
   (try simp only[nS]);refine tH 16 (.pointer (some ⟨rg,cc,none⟩)) hSw ?_;(try simp only[nS]);refine tG 17 (.int .i64 z2) hSw (fun W hW=>?_) ?_
   · have s2:=hW.cell (by dsimp only;omega) s2
     first|(go_simp;done)|rfl
   (try simp only[nS]);refine tR 18 (fun K hK=>?_);clear hSw;go_simp;refine (HC.out _).mono ?_;rintro e w2 ⟨rfl,rfl⟩;refine hK.out _ _ (fun _ _=>rfl) (fun hSw=>?_);clear hK K;(try simp only[nS]);refine tH 19 (.tuple #[.int .i64 D,.int .i64 0]) hSw ?_;(try simp only[nS]);refine tH 20 (.int .i64 D) hSw ?_;(try simp only[nS]);refine tH 21 (.int .i64 0) hSw ?_;(try simp only[nS]);refine tH 22 (.int .i64 D) hSw ?_;(try simp only[nS]);refine tH 23 (.int .i64 0) hSw ?_;(try simp only[nS]);refine wpAnyH_done (by kernel_rfl) ?_ _;go_wp2_with fail;obtain⟨U2,hU2⟩:∃ U2,U2=U.drew:=⟨_,rfl⟩
   rw[←hU2];have i2:U2.cell? ⟨w.heap.size,2,none⟩ = some (.int .i64 (a:Int)):=by rw[hU2];exact i2
   have d4:U2.cell? ⟨p,4,none⟩ = some (.slice (some ⟨rg,0,none⟩) NR NR):=by rw[hU2];exact d4
   have s0:U2.cell? ⟨rg,a,none⟩ = some (.int .i64 y):=by rw[hU2];exact s0
   have f0:U2.frozen? ⟨rg,a,none⟩ = false:=by rw[hU2];exact f0
   have hz2:U2.heap.size=w.heap.size+1:=by rw[hU2];exact hzU
   have H1':=hid (show WAt ow U2 b W n v by rw[hU2];exact H1.out.keeps (But.of (ls:=[]) (below_drewN' (Below.refl _ _))) (.refl _ _) (by simp) (by simp));have H2':=hid (show TAt ow U2 b j p g T rs us ts ws by rw[hU2];exact H2.out.keeps (But.of (ls:=[]) (below_drewN' (Below.refl _ _))) (.refl _ _) (by simp));have HB':=hid (show Below w.heap.size w U2 by rw[hU2];exact HB.out.drew);clear hU2 i0 i1 i3 i4 i5 s1 s2 d0;refine yO (S:=zk (w.heap.size+1) U2) (fun j=>decide (7≤j)) (by kernel_rfl) (zk.drew _ _) (fun hSw=>?_);refine lH 0 (.pointer (some ⟨p,0,none⟩)) hSw ?_;(try simp only[nS]);refine lH 1 (.pointer (some ⟨p,0,none⟩)) hSw ?_;(try simp only[nS]);refine lH 2 (.pointer (some ⟨p,4,none⟩)) hSw ?_;(try simp only[nS]);refine lG 3 (.slice (some ⟨rg,0,none⟩) NR NR) hSw (fun W hW=>?_) ?_
   · have d4:=hW.cell (by dsimp only;omega) d4
     first|(go_simp;done)|rfl
   (try simp only[nS]);refine lH 4 (.pointer (some ⟨w.heap.size,2,none⟩)) hSw ?_;(try simp only[nS]);refine lG 5 (.int .i64 (a:Int)) hSw (fun W hW=>?_) ?_
   · have i2:=hW.cell (by dsimp only;omega) i2
     first|(go_simp;done)|rfl
   (try simp only[nS]);refine lH 6 (.int .i64 D) hSw ?_;(try simp only[nS]);refine yP (rs:=[7]) (by kernel_rfl) (by simp) (by rfl) ?_;refine oR 7 (fun J hK=>?_);go_simp;refine hK.out _ _ ?_;clear hK J;(try simp only[nS]);refine oR 8 (fun J hK=>?_);go_simp;refine hK.out _ _ ?_;clear hK J;(try simp only[nS]);refine wpAny_done (by kernel_rfl) ?_ _;go_wp2_with fail;go_ret;exact jq HB'.out H1'.out H2'.out HER.out D rfl
 · rw[if_neg hE0]
   have hE1:(E==0)=false:=by simp only[beq_eq_false_iff_ne,ne_eq];exact hE0
   clear hE0;go_enter Tryz.func180,Tryz.ntmps180;go_wp2_with fail;rw[←HU.out];refine wp_region_held_drew (S:=zk (w.heap.size+1) U) (by kernel_rfl) (zk.drew _ _) (fun hSw=>?_);refine tH 0 (.pointer (some ⟨w.heap.size,1,none⟩)) hSw ?_;(try simp only[nS]);refine tG 1 (.int .u8 o) hSw (fun W hW=>?_) ?_
   · have i1:=hW.cell (by dsimp only;omega) i1
     first|(go_simp;done)|rfl
   (try simp only[nS]);refine tH 2 (.pointer (some ⟨p,0,none⟩)) hSw ?_;(try simp only[nS]);refine tH 3 (.pointer (some ⟨p,0,none⟩)) hSw ?_;(try simp only[nS]);refine tH 4 (.pointer (some ⟨p,4,none⟩)) hSw ?_;(try simp only[nS]);refine tG 5 (.slice (some ⟨rg,0,none⟩) NR NR) hSw (fun W hW=>?_) ?_
   · have d4:=hW.cell (by dsimp only;omega) d4
     first|(go_simp;done)|rfl
   (try simp only[nS]);refine tH 6 (.pointer (some ⟨w.heap.size,3,none⟩)) hSw ?_;(try simp only[nS]);refine tG 7 (.int .i64 (bb:Int)) hSw (fun W hW=>?_) ?_
   · have i3:=hW.cell (by dsimp only;omega) i3
     first|(go_simp;done)|rfl
   (try simp only[nS]);refine tH 8 (.pointer (some ⟨rg,bb,none⟩)) hSw ?_;(try simp only[nS]);refine tG 9 (.int .i64 z) hSw (fun W hW=>?_) ?_
   · have s1:=hW.cell (by dsimp only;omega) s1
     first|(go_simp;done)|rfl
   (try simp only[nS]);refine tH 10 (.pointer (some ⟨p,0,none⟩)) hSw ?_;(try simp only[nS]);refine tH 11 (.pointer (some ⟨p,0,none⟩)) hSw ?_;(try simp only[nS]);refine tH 12 (.pointer (some ⟨p,4,none⟩)) hSw ?_;(try simp only[nS]);refine tG 13 (.slice (some ⟨rg,0,none⟩) NR NR) hSw (fun W hW=>?_) ?_
   · have d4:=hW.cell (by dsimp only;omega) d4
     first|(go_simp;done)|rfl
   (try simp only[nS]);refine tH 14 (.pointer (some ⟨w.heap.size,4,none⟩)) hSw ?_;(try simp only[nS]);refine tG 15 (.int .i64 (cc:Int)) hSw (fun W hW=>?_) ?_
   · have i4:=hW.cell (by dsimp only;omega) i4
     first|(go_simp;done)|rfl
   (try simp only[nS]);refine tH 16 (.pointer (some ⟨rg,cc,none⟩)) hSw ?_;(try simp only[nS]);refine tG 17 (.int .i64 z2) hSw (fun W hW=>?_) ?_
   · have s2:=hW.cell (by dsimp only;omega) s2
     first|(go_simp;done)|rfl
   (try simp only[nS]);refine tR 18 (fun K hK=>?_);clear hSw;go_simp;refine (HC.out _).mono ?_;rintro e w2 ⟨rfl,rfl⟩;refine hK.out _ _ (fun _ _=>rfl) (fun hSw=>?_);clear hK K;(try simp only[nS]);refine tH 19 (.tuple #[.int .i64 D,.int .i64 E]) hSw ?_;(try simp only[nS]);refine tH 20 (.int .i64 D) hSw ?_;(try simp only[nS]);refine tH 21 (.int .i64 E) hSw ?_;(try simp only[nS]);refine tH 22 (.int .i64 D) hSw ?_;(try simp only[nS]);refine tH 23 (.int .i64 E) hSw ?_;(try simp only[nS]);refine wpAnyH_done (by kernel_rfl) ?_ _;go_wp2_with fail;refine (HF.out 2 U.drew (below_drewN' (Below.refl _ _))).mono ?_;rintro e w2 hE;obtain⟨rfl,hR⟩:=(show e = .returned (.bool true)∧zN ow b j p g n (yN W T 2) (U.drew) e w2 from⟨hE.1,hE⟩)
   have HR:=hid hR;clear hE hR;go_wp2_with fail;go_ret;exact ((HR.out.from (below_drewN' (Below.refl _ _))).from HB.out)
theorem Y3 (n:Int) (w:World):(bls 85 1 #[(0,.int .i64 n)]).run Tryz.prog w = .ok (.slice (some ⟨w.heap.size,0,none⟩) 1 1) (w.alloc (.cells #[.int .i64 n] 2)):=wP 85 2 1 1 #[(0,.int .i64 n)] #[.int .i64 n] (by kernel_rfl) (by kernel_rfl) (by kernel_rfl) (by omega) (by omega) (by kernel_rfl) (by kernel_rfl) w
theorem zI.form {ow:Nat→Nat} {w:World} {lab:Nat} {v:Value} {l:List Int} (h:zI ow w lab v l):∃ q c,v = .slice q l.length c:=by
 rcases h with ⟨rfl,rfl⟩|⟨g,off,cap,cur,rfl,_⟩
 · exact⟨none,0,rfl⟩
 · exact⟨_,_,rfl⟩
theorem Vz (ow:Nat→Nat) (w:World) (b j p n:Nat) (g:Gr) (W:WS) (T:TS) (v rs us ts ws:Value) (k o:Int) (aa:Int) (bb:Nat) (cc x:Int) (h1:WAt ow w b W n v) (h2:TAt ow w b j p g T rs us ts ws) (hb:bb<T.regs.length) (hin:T.inside=true) (hl:T.waiting.length≤1048576) :
 Calls Tryz.prog 188 #[.pointer (some ⟨p,0,none⟩),.agg #[.int .u8 k,.int .u8 o,.int .i64 aa,.int .i64 (bb:Int),.int .i64 cc,.int .i64 x]] w (zN ow b j p g n (W,{ T with waiting:=T.waiting++[T.reg (bb:Int)] },false) w):=by
 obtain⟨rg,er,hrg,hrl⟩:=h2.regs;have her:=er;obtain⟨U,hU⟩:∃ U,U=w.alloc (.cells #[.int .u8 k,.int .u8 o,.int .i64 aa,.int .i64 (bb:Int),.int .i64 cc,.int .i64 x] 159):=⟨_,rfl⟩
 have hBU:Below w.heap.size w U:=by rw[hU];exact ze w _
 have hzU:U.heap.size=w.heap.size+1:=by rw[hU];simp
 have hO:U.heap[w.heap.size]? = some (.cells #[.int .u8 k,.int .u8 o,.int .i64 aa,.int .i64 (bb:Int),.int .i64 cc,.int .i64 x] 159 (0,0)):=by rw[hU];exact (MapKept.heap_alloc _ _).1
 have h1U:=h1.keeps (But.of (ls:=[]) hBU) (.refl _ _) (by simp) (by simp);have h2U:=h2.keeps (But.of (ls:=[]) hBU) (.refl _ _) (by simp);have hlp:p<w.heap.size:=z8 h2.box;have hlb:b<w.heap.size:=z8 h1.box;have hlr:rg<w.heap.size:=z8 hrg;have hrgU:=(hBU.block rg hlr).trans hrg;obtain⟨d0,d3,d4,d5,d6,d7,d8,d9,d10,d11,d12⟩:=h2U.cells;obtain⟨e0,e1,e2⟩:=h1U.cells;rw[her]at d4;obtain⟨i0,i1,i2,i3,i4,i5⟩:=zl hO;have fr:=fun (q:Nat)=>Lib.frozen_of_heap hrgU q
 obtain⟨NR,hNR⟩:∃ N,N=T.regs.length:=⟨_,rfl⟩
 have hbx:bb<NR:=by rw[hNR];exact hb
 obtain⟨z,hz⟩:∃ z,T.regs[bb]? = some z:=⟨_,List.getElem?_eq_getElem hb⟩
 have s1:=zT hrgU bb z hz;rw[vB hz];rw[hin]at d7;have D7:=hid d7;have h1d:=h1U.keeps (But.of (ls:=[]) (below_drewN' (Below.refl _ _))) (.refl _ _) (by simp) (by simp);have h2d:=h2U.keeps (But.of (ls:=[]) (below_drewN' (Below.refl _ _))) (.refl _ _) (by simp);obtain⟨v',w4,hr,⟨q2,c2,hv⟩,g0,f0,ow',he,h1e,h2e,hk⟩:=Xv ow U.drew b j p n g W T v rs us ts ws h1d h2d z hl;obtain⟨q1,c1,hw1⟩:=h2.waiting.form;obtain⟨NL,hNL⟩:∃ N,N=T.waiting.length:=⟨_,rfl⟩
 have D11:=hid d11;have G0:=hid g0;have F0:=hid f0;have HR0:=hid hr;have HEND:=hid (And.intro he (And.intro h1e (And.intro h2e hk)));have HV:=hid hv;have HW1:=hid hw1;clear h1d h2d hr g0 f0 he h1e h2e hk hv hw1 hNL;have H1:=hid h1U;have H2:=hid h2U;have HB:=hid hBU;have HU:=hid hU;have HER:=hid her;rw[←hNR]at d4;have HNR:=hid hNR;clear d3 d5 d6 d7 d8 d9 d10 d11 d12 e0 e1 e2;clear h1 h2 h1U h2U hBU hO hrg hrgU hrl er her hU hNR hb fr hz hin hl;go_enter Tryz.func188,Tryz.ntmps188;go_wp2_with fail;rw[←HU.out];refine wp_region_held_drew (S:=zk (w.heap.size+1) U) (by kernel_rfl) (zk.drew _ _) (fun hSw=>?_);refine tH 0 (.pointer (some ⟨p,0,none⟩)) hSw ?_;(try simp only[nS]);refine tH 1 (.pointer (some ⟨p,0,none⟩)) hSw ?_;(try simp only[nS]);refine tH 2 (.pointer (some ⟨p,4,none⟩)) hSw ?_;(try simp only[nS]);refine tG 3 (.slice (some ⟨rg,0,none⟩) NR NR) hSw (fun W hW=>?_) ?_
 · have d4:=hW.cell (by dsimp only;omega) d4
   first|(go_simp;done)|rfl
 (try simp only[nS]);refine tH 4 (.pointer (some ⟨w.heap.size,3,none⟩)) hSw ?_;(try simp only[nS]);refine tG 5 (.int .i64 (bb:Int)) hSw (fun W hW=>?_) ?_
 · have i3:=hW.cell (by dsimp only;omega) i3
   first|(go_simp;done)|rfl
 (try simp only[nS]);refine tH 6 (.pointer (some ⟨rg,bb,none⟩)) hSw ?_;(try simp only[nS]);refine tG 7 (.int .i64 z) hSw (fun W hW=>?_) ?_
 · have s1:=hW.cell (by dsimp only;omega) s1
   first|(go_simp;done)|rfl
 (try simp only[nS]);refine tH 8 (.int .i64 z) hSw ?_;(try simp only[nS]);refine wpAnyH_done (by kernel_rfl) ?_ _;have d7:U.drew.cell? ⟨p,7,none⟩ = some (.bool true):=D7.out;have d11:U.drew.cell? ⟨p,11,none⟩ = some ws:=D11.out;have e3:=Y3;obtain⟨U2,hU2⟩:∃ U2,U2=U.drew:=⟨_,rfl⟩
 rw[←hU2]at d7 d11 HR0 ⊢;have HU2:=hid hU2;have hz2:U2.heap.size=w.heap.size+1:=by rw[hU2];exact hzU
 have hlp2:p<U2.heap.size:=by omega
 rw[hz2]at HR0;clear hU2 i0 i1 i2 i3 i4 i5 s1 d0 d4;have hw1:=HW1.out;subst hw1;go_wp2_with (at_builtin;refine wpList_plain rfl fun _ hK=>Lib.wp_append_run _ (Operand.tmp 22) (Operand.tmp 24) 85 85 rfl _ _ rfl rfl v' w4 HR0.out (hK _ _ ?_));have hv:=HV.out;subst hv;have g0:=G0.out;have f0:=F0.out;clear d7 d11 e3;go_wp2_with fail;go_ret;exact zN.from (HB.out.drew) ⟨rfl,ow',v,rs,us,ts,_,HEND.out.1,HEND.out.2.1,HEND.out.2.2.1,HEND.out.2.2.2⟩
theorem Vy (ow:Nat→Nat) (w:World) (b j p n:Nat) (g:Gr) (W:WS) (T:TS) (v rs us ts ws:Value) (k o:Int) (aa:Int) (bb:Nat) (cc x:Int) (h1:WAt ow w b W n v) (h2:TAt ow w b j p g T rs us ts ws) (hb:bb<T.regs.length) (hin:T.inside=false) (hl:T.told.length≤1048576) :
 Calls Tryz.prog 188 #[.pointer (some ⟨p,0,none⟩),.agg #[.int .u8 k,.int .u8 o,.int .i64 aa,.int .i64 (bb:Int),.int .i64 cc,.int .i64 x]] w (zN ow b j p g n (W,{ T with told:=T.told++[T.reg (bb:Int)] },true) w):=by
 obtain⟨rg,er,hrg,hrl⟩:=h2.regs;have her:=er;obtain⟨U,hU⟩:∃ U,U=w.alloc (.cells #[.int .u8 k,.int .u8 o,.int .i64 aa,.int .i64 (bb:Int),.int .i64 cc,.int .i64 x] 159):=⟨_,rfl⟩
 have hBU:Below w.heap.size w U:=by rw[hU];exact ze w _
 have hzU:U.heap.size=w.heap.size+1:=by rw[hU];simp
 have hO:U.heap[w.heap.size]? = some (.cells #[.int .u8 k,.int .u8 o,.int .i64 aa,.int .i64 (bb:Int),.int .i64 cc,.int .i64 x] 159 (0,0)):=by rw[hU];exact (MapKept.heap_alloc _ _).1
 have h1U:=h1.keeps (But.of (ls:=[]) hBU) (.refl _ _) (by simp) (by simp);have h2U:=h2.keeps (But.of (ls:=[]) hBU) (.refl _ _) (by simp);have hlp:p<w.heap.size:=z8 h2.box;have hlb:b<w.heap.size:=z8 h1.box;have hlr:rg<w.heap.size:=z8 hrg;have hrgU:=(hBU.block rg hlr).trans hrg;obtain⟨d0,d3,d4,d5,d6,d7,d8,d9,d10,d11,d12⟩:=h2U.cells;obtain⟨e0,e1,e2⟩:=h1U.cells;rw[her]at d4;obtain⟨i0,i1,i2,i3,i4,i5⟩:=zl hO;have fr:=fun (q:Nat)=>Lib.frozen_of_heap hrgU q
 obtain⟨NR,hNR⟩:∃ N,N=T.regs.length:=⟨_,rfl⟩
 have hbx:bb<NR:=by rw[hNR];exact hb
 obtain⟨z,hz⟩:∃ z,T.regs[bb]? = some z:=⟨_,List.getElem?_eq_getElem hb⟩
 have s1:=zT hrgU bb z hz;rw[vB hz];rw[hin]at d7;have D7:=hid d7;have h1d:=h1U.keeps (But.of (ls:=[]) (below_drewN' (Below.refl _ _))) (.refl _ _) (by simp) (by simp);have h2d:=h2U.keeps (But.of (ls:=[]) (below_drewN' (Below.refl _ _))) (.refl _ _) (by simp);obtain⟨v',w4,hr,⟨q2,c2,hv⟩,g0,f0,ow',he,h1e,h2e,hk⟩:=XT ow U.drew b j p n g W T v rs us ts ws h1d h2d z hl;obtain⟨q1,c1,hw1⟩:=h2.told.form;obtain⟨NL,hNL⟩:∃ N,N=T.told.length:=⟨_,rfl⟩
 have D10:=hid d10;have G0:=hid g0;have F0:=hid f0;have HR0:=hid hr;have HEND:=hid (And.intro he (And.intro h1e (And.intro h2e hk)));have HV:=hid hv;have HW1:=hid hw1;clear h1d h2d hr g0 f0 he h1e h2e hk hv hw1 hNL;have H1:=hid h1U;have H2:=hid h2U;have HB:=hid hBU;have HU:=hid hU;have HER:=hid her;rw[←hNR]at d4;have HNR:=hid hNR;clear d3 d5 d6 d7 d8 d9 d10 d11 d12 e0 e1 e2;clear h1 h2 h1U h2U hBU hO hrg hrgU hrl er her hU hNR hb fr hz hin hl;go_enter Tryz.func188,Tryz.ntmps188;go_wp2_with fail;rw[←HU.out];refine wp_region_held_drew (S:=zk (w.heap.size+1) U) (by kernel_rfl) (zk.drew _ _) (fun hSw=>?_);refine tH 0 (.pointer (some ⟨p,0,none⟩)) hSw ?_;(try simp only[nS]);refine tH 1 (.pointer (some ⟨p,0,none⟩)) hSw ?_;(try simp only[nS]);refine tH 2 (.pointer (some ⟨p,4,none⟩)) hSw ?_;(try simp only[nS]);refine tG 3 (.slice (some ⟨rg,0,none⟩) NR NR) hSw (fun W hW=>?_) ?_
 · have d4:=hW.cell (by dsimp only;omega) d4
   first|(go_simp;done)|rfl
 (try simp only[nS]);refine tH 4 (.pointer (some ⟨w.heap.size,3,none⟩)) hSw ?_;(try simp only[nS]);refine tG 5 (.int .i64 (bb:Int)) hSw (fun W hW=>?_) ?_
 · have i3:=hW.cell (by dsimp only;omega) i3
   first|(go_simp;done)|rfl
 (try simp only[nS]);refine tH 6 (.pointer (some ⟨rg,bb,none⟩)) hSw ?_;(try simp only[nS]);refine tG 7 (.int .i64 z) hSw (fun W hW=>?_) ?_
 · have s1:=hW.cell (by dsimp only;omega) s1
   first|(go_simp;done)|rfl
 (try simp only[nS]);refine tH 8 (.int .i64 z) hSw ?_;(try simp only[nS]);refine wpAnyH_done (by kernel_rfl) ?_ _;have d7:U.drew.cell? ⟨p,7,none⟩ = some (.bool false):=D7.out;have d10:U.drew.cell? ⟨p,10,none⟩ = some ts:=D10.out;have e3:=Y3;obtain⟨U2,hU2⟩:∃ U2,U2=U.drew:=⟨_,rfl⟩
 rw[←hU2]at d7 d10 HR0 ⊢;have HU2:=hid hU2;have hz2:U2.heap.size=w.heap.size+1:=by rw[hU2];exact hzU
 have hlp2:p<U2.heap.size:=by omega
 rw[hz2]at HR0;clear hU2 i0 i1 i2 i3 i4 i5 s1 d0 d4;have hw1:=HW1.out;subst hw1;go_wp2_with (at_builtin;refine wpList_plain rfl fun _ hK=>Lib.wp_append_run _ (Operand.tmp 32) (Operand.tmp 34) 85 85 rfl _ _ rfl rfl v' w4 HR0.out (hK _ _ ?_));have hv:=HV.out;subst hv;have g0:=G0.out;have f0:=F0.out;clear d7 d10 e3;go_wp2_with fail;go_ret;exact zN.from (HB.out.drew) ⟨rfl,ow',v,rs,us,_,ws,HEND.out.1,HEND.out.2.1,HEND.out.2.2.1,HEND.out.2.2.2⟩
end
section
open Go.RowKit
def yj (R:Nat) (x:Int):Prop:=0≤x∧x<(R:Int)
structure Fits (R:Nat) (i:In):Prop where
 k:1≤i.k∧i.k≤14
 a:i.k=1∨i.k=2∨i.k=3∨i.k=6∨i.k=7∨i.k=8∨i.k=9∨i.k=10∨i.k=11→yj R i.a
 b:i.k=2∨i.k=3∨i.k=4∨i.k=5∨i.k=8∨i.k=9∨i.k=10∨i.k=11∨i.k=12→yj R i.b
 c:i.k=3→yj R i.c
 m:i.k=8∨i.k=9∨i.k=10∨i.k=11→i.c<0∨yj R i.c
 n:i.k=7→0≤i.n∧i.n≤64
structure Safe (W:WS) (T:TS):Prop where
 un:UOk T.undo T.since W.words.length
 und:T.undo.length≤1048576
 told:T.told.length≤1048576
 wait:T.waiting.length≤1048576
theorem z0g (b j p n:Nat) (g:Gr) (W:WS) (T:TS) (i:In) (hi:Fits T.regs.length i) (hs:Safe W T) :
 ∃ F,ql[i.k.toNat]? = some (fnV F)∧(∀ args w,(callFunc F args).run Tryz.prog w = .ok (.enter F args) w) ∧
  ∀ (ow:Nat→Nat) (w:World) (v rs us ts ws:Value),WAt ow w b W n v→TAt ow w b j p g T rs us ts ws→Calls Tryz.prog F #[.pointer (some ⟨p,0,none⟩),i.val] w (zN ow b j p g n (yB W T i) w):=by
 obtain⟨k,o,a,bb,cc,x⟩:=i;have hk:=hi.k;have hA:=hi.a;have hB:=hi.b;have hC:=hi.c;have hM:=hi.m;have hN:=hi.n;dsimp only at hk hA hB hC hM hN;have nat:∀ {y:Int},yj T.regs.length y→∃ m:Nat,y=(m:Int)∧m<T.regs.length:=fun {y} h=>⟨y.toNat,by unfold yj at h;omega,by unfold yj at h;omega⟩
 have met:cc<0∨yj T.regs.length cc→cc<0∨cc.toNat<T.regs.length:=fun h=>h.elim .inl (fun q=>.inr (by unfold yj at q;omega))
 have h14:k=1∨k=2∨k=3∨k=4∨k=5∨k=6∨k=7∨k=8∨k=9∨k=10∨k=11∨k=12∨k=13∨k=14:=by omega
 rcases h14 with rfl|rfl|rfl|rfl|rfl|rfl|rfl|rfl|rfl|rfl|rfl|rfl|rfl|rfl
 · obtain⟨a,rfl,ha⟩:=nat (hA (by omega))
   exact⟨178,rfl,enters_of Tryz.func178 (by kernel_rfl) rfl,fun ow w v rs us ts ws h1 h2=>YK ow w b j p n g W T v rs us ts ws 1 o a bb cc x h1 h2 ha⟩
 · obtain⟨a,rfl,ha⟩:=nat (hA (by omega))
   obtain⟨bb,rfl,hb⟩:=nat (hB (by omega));exact⟨179,rfl,enters_of Tryz.func179 (by kernel_rfl) rfl,fun ow w v rs us ts ws h1 h2=>Q6 ow w b j p n g W T v rs us ts ws 2 o a bb cc x h1 h2 ha hb⟩
 · obtain⟨a,rfl,ha⟩:=nat (hA (by omega))
   obtain⟨bb,rfl,hb⟩:=nat (hB (by omega));obtain⟨cc,rfl,hc⟩:=nat (hC (by omega));exact⟨180,rfl,enters_of Tryz.func180 (by kernel_rfl) rfl,fun ow w v rs us ts ws h1 h2=>Xn ow w b j p n g W T v rs us ts ws 3 o a bb cc x h1 h2 ha hb hc hs.un hs.und⟩
 · obtain⟨bb,rfl,hb⟩:=nat (hB (by omega))
   exact⟨181,rfl,enters_of Tryz.func181 (by kernel_rfl) rfl,fun ow w v rs us ts ws h1 h2=>VO ow w b j p n g W T v rs us ts ws 4 o a bb cc x h1 h2 hb hs.un hs.und⟩
 · obtain⟨bb,rfl,hb⟩:=nat (hB (by omega))
   exact⟨182,rfl,enters_of Tryz.func182 (by kernel_rfl) rfl,fun ow w v rs us ts ws h1 h2=>Ky ow w b j p n g W T v rs us ts ws 5 o a bb cc x h1 h2 hb hs.un hs.und⟩
 · obtain⟨a,rfl,ha⟩:=nat (hA (by omega))
   exact⟨178,rfl,enters_of Tryz.func178 (by kernel_rfl) rfl,fun ow w v rs us ts ws h1 h2=>YK ow w b j p n g W T v rs us ts ws 6 o a bb cc x h1 h2 ha⟩
 · obtain⟨a,rfl,ha⟩:=nat (hA (by omega))
   obtain⟨m,rfl,hm⟩:∃ m:Nat,x=(m:Int)∧m≤64:=⟨x.toNat,by have:=hN rfl;omega,by have:=hN rfl;omega⟩
   exact⟨183,rfl,enters_of Tryz.func183 (by kernel_rfl) rfl,fun ow w v rs us ts ws h1 h2=>Qy ow w b j p n g W T v rs us ts ws 7 o a m bb cc h1 h2 ha hm hs.un hs.und⟩
 · obtain⟨a,rfl,ha⟩:=nat (hA (by omega))
   obtain⟨bb,rfl,hb⟩:=nat (hB (by omega));exact⟨184,rfl,enters_of Tryz.func184 (by kernel_rfl) rfl,fun ow w v rs us ts ws h1 h2=>Y7 ow w b j p n g W T v rs us ts ws 8 o a bb cc x h1 h2 ha hb (met (hM (by omega))) hs.un hs.und⟩
 · obtain⟨a,rfl,ha⟩:=nat (hA (by omega))
   obtain⟨bb,rfl,hb⟩:=nat (hB (by omega));exact⟨185,rfl,enters_of Tryz.func185 (by kernel_rfl) rfl,fun ow w v rs us ts ws h1 h2=>Z7 ow w b j p n g W T v rs us ts ws 9 o a bb cc x h1 h2 ha hb (met (hM (by omega))) hs.un hs.und⟩
 · obtain⟨a,rfl,ha⟩:=nat (hA (by omega))
   obtain⟨bb,rfl,hb⟩:=nat (hB (by omega));exact⟨186,rfl,enters_of Tryz.func186 (by kernel_rfl) rfl,fun ow w v rs us ts ws h1 h2=>VF ow w b j p n g W T v rs us ts ws 10 o a bb cc x h1 h2 ha hb (met (hM (by omega))) hs.un hs.und⟩
 · obtain⟨a,rfl,ha⟩:=nat (hA (by omega))
   obtain⟨bb,rfl,hb⟩:=nat (hB (by omega));exact⟨187,rfl,enters_of Tryz.func187 (by kernel_rfl) rfl,fun ow w v rs us ts ws h1 h2=>VD ow w b j p n g W T v rs us ts ws 11 o a bb cc x h1 h2 ha hb (met (hM (by omega))) hs.un hs.und⟩
 · obtain⟨bb,rfl,hb⟩:=nat (hB (by omega))
   refine⟨188,rfl,enters_of Tryz.func188 (by kernel_rfl) rfl,fun ow w v rs us ts ws h1 h2=>?_⟩
   by_cases hin:T.inside=true
   · have hd:yB W T ⟨12,o,a,(bb:Int),cc,x⟩ = (W,{ T with waiting:=T.waiting++[T.reg (bb:Int)] },false):=by simp[yB,hin]
     rw[hd];exact Vz ow w b j p n g W T v rs us ts ws 12 o a bb cc x h1 h2 hb hin hs.wait
   · have hin2:T.inside=false:=by simpa using hin
     have hd:yB W T ⟨12,o,a,(bb:Int),cc,x⟩ = (W,{ T with told:=T.told++[T.reg (bb:Int)] },true):=by simp[yB,hin2]
     rw[hd];exact Vy ow w b j p n g W T v rs us ts ws 12 o a bb cc x h1 h2 hb hin2 hs.told
 · exact⟨189,rfl,enters_of Tryz.func189 (by kernel_rfl) rfl,fun ow w v rs us ts ws h1 h2=>z2j ow w b j p n g W T v rs us ts ws 13 o a bb cc x h1 h2 hs.und⟩
 · exact⟨190,rfl,enters_of Tryz.func190 (by kernel_rfl) rfl,fun ow w v rs us ts ws h1 h2=>z0d ow w b j p n g W T v rs us ts ws 14 o a bb cc x h1 h2⟩
end
open Go.RowKit
attribute [local go_sem ↓] zL zJ
structure QW (ow:Nat→Nat) (w:World) (b:Nat) (wd:Int) (tv tw:Value) (W:WS) (n:Int) (v:Value):Prop where
 box:w.heap[b]? = some (.cells #[.int .i64 wd,tv,v,tw,.int .i64 n,.bool W.strange] 98 (0,0))
 row:w.ownsRow 0 2 1 v W.words.length (wds W.words)
 lab:ow b=1
 labr:∀ k,v.ownBlock=some k→ow k=2
 many:1≤W.words.length∧W.words.length≤65537
structure QT (ow:Nat→Nat) (w:World) (tb o j:Nat) (T:RT) (rs ws os:Value):Prop where
 row:∃ cur,w.heap[tb]? = some (.cells cur 101 (0,0))∧cur[o]? = some (.int .i64 (T.bi:Int))∧cur[o+1]? = some (.int .i64 (T.ii:Int))∧cur[o+2]? = some rs∧cur[o+3]? = some ws∧cur[o+4]? = some os∧cur[o+5]? = some (.int .u8 T.fin)
 lab:ow tb=3
 regs:∃ rg,rs = .slice (some ⟨rg,0,none⟩) T.regs.length T.regs.length∧w.heap[rg]? = some (.cells (wds T.regs).toArray 2 (0,0))∧ow rg=10+8*j
 wait:zI ow w (11+8*j) ws T.wait
 out:zI ow w (12+8*j) os T.out
theorem QW.keeps {ow ow':Nat→Nat} {ls:List Nat} {w w':World} {b:Nat} {wd:Int} {tv tw:Value} {W:WS} {n:Int} {v:Value} (h:QW ow w b wd tv tw W n v) (hb:But ow ls w w') (he:Ext ow ow' w) (h1:1 ∉ ls) (h2:2 ∉ ls):QW ow' w' b wd tv tw W n v:=
 ⟨(hb.block b (z8 h.box) (by rw[h.lab];exact h1)).trans h.box,zM h.row hb h.labr h2,by rw[he b (z8 h.box)];exact h.lab,yA h.row he h.labr,h.many⟩
theorem vU {ow ow':Nat→Nat} {ls:List Nat} {w w':World} {j:Nat} {rs:Value} {l:List Int} (h:∃ rg,rs = .slice (some ⟨rg,0,none⟩) l.length l.length∧w.heap[rg]? = some (.cells (wds l).toArray 2 (0,0))∧ow rg=10+8*j) (hb:But ow ls w w') (he:Ext ow ow' w) (hn:10+8*j ∉ ls) :
 ∃ rg,rs = .slice (some ⟨rg,0,none⟩) l.length l.length∧w'.heap[rg]? = some (.cells (wds l).toArray 2 (0,0))∧ow' rg=10+8*j:=by
 obtain⟨rg,r1,r2,r3⟩:=h;exact⟨rg,r1,(hb.block rg (z8 r2) (by rw[r3];exact hn)).trans r2,by rw[he rg (z8 r2)];exact r3⟩
theorem QT.keeps {ow ow':Nat→Nat} {ls:List Nat} {w w':World} {tb o j:Nat} {T:RT} {rs ws os:Value} (h:QT ow w tb o j T rs ws os) (hb:But ow ls w w') (he:Ext ow ow' w) (h3:3 ∉ ls) (h10:10+8*j ∉ ls) (h11:11+8*j ∉ ls) (h12:12+8*j ∉ ls):QT ow' w' tb o j T rs ws os:=by
 obtain⟨cur,hc,hr⟩:=h.row;exact⟨⟨cur,(hb.block tb (z8 hc) (by rw[h.lab];exact h3)).trans hc,hr⟩,by rw[he tb (z8 hc)];exact h.lab,vU h.regs hb he h10,h.wait.keeps hb he h11,h.out.keeps hb he h12⟩
theorem QT.cells {ow:Nat→Nat} {w:World} {tb o j:Nat} {T:RT} {rs ws os:Value} (h:QT ow w tb o j T rs ws os):tb<w.heap.size∧w.cell? ⟨tb,o,none⟩ = some (.int .i64 (T.bi:Int))∧w.cell? ⟨tb,o+1,none⟩ = some (.int .i64 (T.ii:Int))∧w.cell? ⟨tb,o+2,none⟩ = some rs∧w.cell? ⟨tb,o+3,none⟩ = some ws∧w.cell? ⟨tb,o+4,none⟩ = some os∧w.cell? ⟨tb,o+5,none⟩ = some (.int .u8 T.fin):=by
 obtain⟨cur,hc,r0,r1,r2,r3,r4,r5⟩:=h.row;exact⟨z8 hc,zh hc _ _ r0,zh hc _ _ r1,zh hc _ _ r2,zh hc _ _ r3,zh hc _ _ r4,zh hc _ _ r5⟩
theorem QT.frozen {ow:Nat→Nat} {w:World} {tb o j:Nat} {T:RT} {rs ws os:Value} (h:QT ow w tb o j T rs ws os) (i:Nat):w.frozen? ⟨tb,i,none⟩ = false:=by
 obtain⟨cur,hc,-⟩:=h.row;exact Lib.frozen_of_heap hc i
theorem wD {T:RT} {a:Nat} {y:Int} (h:T.regs[a]? = some y):T.reg (a:Int)=y:=by
 unfold RT.reg;rw[Int.toNat_natCast,h];rfl
theorem jY {ow:Nat→Nat} {w:World} {tb o j:Nat} {T:RT} {rs ws os:Value} (h:QT ow w tb o j T rs ws os) (k op a:Int) (bb:Nat) (c n:Int) (hb:bb<T.regs.length) (hc:c<0∨yj T.regs.length c) :
 Calls Tryz.prog 246 #[.pointer (some ⟨tb,o,none⟩),.agg #[.int .u8 k,.int .u8 op,.int .i64 a,.int .i64 (bb:Int),.int .i64 c,.int .i64 n]] w fun e w'=>e = .returned (.int .i64 (wH T ⟨k,op,a,(bb:Int),c,n⟩))∧Below w.heap.size w w':=by
 obtain⟨rg,er,hrg,hrl⟩:=h.regs;obtain⟨U,hU⟩:∃ U,U=w.alloc (.cells #[.int .u8 k,.int .u8 op,.int .i64 a,.int .i64 (bb:Int),.int .i64 c,.int .i64 n] 159):=⟨_,rfl⟩
 have hBU:Below w.heap.size w U:=by rw[hU];exact ze w _
 have hO:U.heap[w.heap.size]? = some (.cells #[.int .u8 k,.int .u8 op,.int .i64 a,.int .i64 (bb:Int),.int .i64 c,.int .i64 n] 159 (0,0)):=by rw[hU];exact (MapKept.heap_alloc _ _).1
 have hrgU:=(hBU.block rg (z8 hrg)).trans hrg;obtain⟨hlt,-,-,d2,-,-,-⟩:=(h.keeps (But.of (ls:=[]) hBU) (.refl _ _) (by simp) (by simp) (by simp) (by simp)).cells;rw[er]at d2;obtain⟨i0,i1,i2,i3,i4,i5⟩:=zl hO;have hlr:rg<U.heap.size:=z8 hrgU;obtain⟨NR,hNR⟩:∃ N,N=T.regs.length:=⟨_,rfl⟩
 obtain⟨z,hz⟩:∃ z,T.regs[bb]? = some z:=⟨_,List.getElem?_eq_getElem hb⟩
 have s1:=zT hrgU bb z hz;have hbx:bb<NR:=by rw[hNR];exact hb
 have HM:=hid (show wH T ⟨k,op,a,(bb:Int),c,n⟩ = if 0≤c then wrap64 (wrap64 (z+n)+T.reg c) else wrap64 (z+n)from by unfold wH;rw[wD hz]);rw[←hNR]at d2 hc;have HB:=hid hBU;have HU:=hid hU
 by_cases h0:0≤c
 · obtain⟨cc,rfl⟩:∃ m:Nat,c=(m:Int):=⟨c.toNat,by omega⟩
   have hcn:cc<NR:=by
    rcases hc with q|q
    · omega
    · unfold yj at q;omega
   obtain⟨y,hy⟩:∃ y,T.regs[cc]? = some y:=⟨_,List.getElem?_eq_getElem (by rw[←hNR];exact hcn)⟩
   have s2:=zT hrgU cc y hy;have HMF:=hid (show wH T ⟨k,op,a,(bb:Int),(cc:Int),n⟩ = wrap64 (wrap64 (z+n)+y)from by rw[HM.out,if_pos (by omega),wD hy]);clear h er hBU hO hrg hrgU hrl hz hy hb hc hU;go_enter Tryz.func246,Tryz.ntmps246;go_wp2_with fail;rw[←HU.out]
   go_quiet (fail)
   go_wp2_with fail
   go_quiet (fail)
   go_wp2_with fail;go_ret;exact⟨by rw[HMF.out];rfl,below_drewN (below_drewN HB.out _) _⟩
 · have hd:decide (0≤c)=false:=by simpa using h0
   have HMF:=hid (show wH T ⟨k,op,a,(bb:Int),c,n⟩ = wrap64 (z+n)from by rw[HM.out,if_neg h0]);clear h er hBU hO hrg hrgU hrl hz hb hc hU h0;go_enter Tryz.func246,Tryz.ntmps246;go_wp2_with fail;rw[←HU.out]
   go_quiet (fail)
   go_wp2_with fail;go_ret;exact⟨by rw[HMF.out];rfl,below_drewN HB.out _⟩
theorem jZ {ow:Nat→Nat} {w:World} {b:Nat} {wd:Int} {tv tw:Value} {W:WS} {n:Int} {v:Value} (h:QW ow w b wd tv tw W n v) (at':Int) :
 Calls Tryz.prog 247 #[.pointer (some ⟨b,0,none⟩),.int .i64 at'] w fun e w'=>e = .returned (.bool (wz W at'))∧w=w':=by
 obtain⟨q,c,hv⟩:∃ q c,v = .slice q W.words.length c:=by
  rcases h.row.2 with ⟨e,e2⟩|⟨g,cap,cur,e,_⟩
  · exact⟨none,0,by rw[e,e2]⟩
  · exact⟨_,_,e⟩
 have hq:=zh h.box 2 v rfl;have hlb:=z8 h.box;have hm:=h.many;rw[hv]at hq;obtain⟨N,hN⟩:∃ N,N=W.words.length:=⟨_,rfl⟩
 unfold wz;rw[←hN]at hq hm ⊢;clear h hv hN
 by_cases h0:1≤at'
 · go_enter Tryz.func247,Tryz.ntmps247
   go_wp2_with fail;go_ret;exact⟨by simp[h0],rfl⟩
 · have hd:decide (1≤at')=false:=by simpa using h0
   go_enter Tryz.func247,Tryz.ntmps247;go_wp2_with fail;go_ret;exact⟨by simp[h0],rfl⟩
