import Derived.Test.YtlboinokdhmacaaGreatDoorIrFit7
import Derived.Test.YtlboinokdhmacaaGreatDoorCdFlat
import Derived.StillTailTactics
namespace Go.Proofs.YtlboinokdhmacaaGreatDoor
set_option maxHeartbeats 64000000
set_option maxRecDepth 1000000
open Lib(hid)
section
open Go.RowKit
def zk (L:Nat) (w W:World):Prop:=∀ k,k<L→W.heap[k]? = w.heap[k]?
theorem zk.refl (L:Nat) (w:World):zk L w w:=fun _ _=>rfl
theorem zk.drew (L:Nat) (w:World):zk L w w.drew:=fun _ _=>rfl
theorem zk.cell {L:Nat} {w W:World} (h:zk L w W) {p:Addr} {v:Value} (hp:p.block<L) (hc:w.cell? p=some v):W.cell? p=some v:=by
 rw[←hc];simp only[World.cell?,h _ hp]
theorem zk.of {L:Nat} {w W:World} (h:Below L w W):zk L w W:=fun k hk=>h.block k hk
theorem zk.trans {L:Nat} {a b c:World} (h:zk L a b) (k:zk L b c):zk L a c:=fun i hi=>(k i hi).trans (h i hi)
end
section
open Go Go.RowKit
theorem yJ {P:Program} {id:Nat} {Q:Exit→Act→World→Prop} {a:Act} {w:World} {l:List Oper} (n:Nat) (hm:P.follows .mixedOrders=true) (hB:Region.lexTailB .any l.toArray n=true)
 (h:∀ w2:World,w2=w.drew→wpStill P l.toArray w2 (fun a'=>wpList P l.toArray Q (l.drop n) a' w2) (l.take n) a):(Code.region id l.toArray true).wp P Q a w:=
 wp_region_still_tail n hm hB (h _ rfl)
theorem dc {w w2:World} (h:w2=w.drew) {p:Addr} {v:Value} (hc:w.cell? p=some v):w2.cell? p=some v:=by rw[h];exact hc
theorem df {w w2:World} (h:w2=w.drew) {p:Addr} {b:Bool} (hc:w.frozen? p=b):w2.frozen? p=b:=by rw[h];exact hc
theorem dz {w w2:World} (h:w2=w.drew):w2.heap.size=w.heap.size:=by rw[h];rfl
theorem db {w w2:World} (h:w2=w.drew):Below w.heap.size w w2:=by rw[h];exact⟨rfl,rfl,rfl,Nat.le_refl _,fun _ _=>rfl⟩
end
section
open Go.RowKit
attribute [local go_sem ↓] zL zJ
theorem z0e:ql.toArray.all (·.oneCell')=true:=by kernel_rfl
theorem z0f (w:World):Calls Tryz.prog 118 #[] w fun e w'=>e = .returned (.agg ql.toArray)∧Below w.heap.size w w':=by
 have e5:=zH 88 #[(1,fnV 178),(2,fnV 179),(3,fnV 180),(4,fnV 181),(5,fnV 182),(6,fnV 178),(7,fnV 183),(8,fnV 184),(9,fnV 185),(10,fnV 186),(11,fnV 187),(12,fnV 188),(13,fnV 189),(14,fnV 190)] ql.toArray (by kernel_rfl);simp only[fnV]at e5;have hP:=(MapKept.heap_alloc w (.cells #[.nilFunc,.nilFunc,.nilFunc,.nilFunc,.nilFunc,.nilFunc,.nilFunc,.nilFunc,.nilFunc,.nilFunc,.nilFunc,.nilFunc,.nilFunc,.nilFunc,.nilFunc] 88)).1;have HP:=hid hP;have HB:=hid (ze w (.cells #[.nilFunc,.nilFunc,.nilFunc,.nilFunc,.nilFunc,.nilFunc,.nilFunc,.nilFunc,.nilFunc,.nilFunc,.nilFunc,.nilFunc,.nilFunc,.nilFunc,.nilFunc] 88));obtain⟨C,hC⟩:∃ C,C=ql.toArray:=⟨_,rfl⟩
 have hCs:C.size=15:=by rw[hC];rfl
 have hC1:C.all (·.oneCell')=true:=by rw[hC];exact z0e
 rw[←hC]at e5 ⊢;have HC:=hid (And.intro hCs hC1);clear hP hC hCs hC1;go_enter Tryz.func118,Tryz.ntmps118;go_wp2_with (refine qD rfl 88 (Operand.tmp 0) (Operand.tmp 1) rfl w.heap.size 88 _ C rfl rfl HP.out (by rw[HC.out.1];rfl) (by rw[HC.out.1];kernel_rfl) HC.out.2 ?_);intro w5 hp5;have HQ:=hid hp5;clear hp5;go_wp2_with fail;refine bodyPost_ret (v:=.agg C) (results_cell_row rfl _ _ w.heap.size 88 _ (0,0) _ rfl HQ.out.at_b Tryz.underlying88 rfl (by rw[HC.out.1];kernel_rfl)) rfl ?_;exact⟨rfl,HQ.out.below HB.out (Nat.le_refl _)⟩
end
section
open Go Go.Lib
def xS (R:List Bool) (r:Int):Bool:=zg R r && zm R r
def yE (R:List Bool) (r:Int):Bool:=zg R r && !zm R r
def zO (R:List Bool) (i:In):Bool:=
 if i.n≠0 then false else if yE R i.a=false then false else if i.o<1 then false else if 14<i.o then false
 else if (i.o=11∨i.o=12)∧xS R i.b=true∧xS R i.c=true then true else yE R i.b && yE R i.c
def yI (R:List Bool) (i:In):Bool:=
 if zg R i.a=false then false else if xS R i.b=false then false else if i.c ≠ -1∧yE R i.c=false then false else if i.n<0 then false else decide (i.n≤64)
def yT (R:List Bool) (M:List Bool) (i:In):Bool:=
 if xS R i.a=false then false else if i.b≠0 then false else if i.n<1 then false else if 64<i.n then false else if i.c<0 then false else if (M.length:Int)≤i.c then false else !zm M i.c
def zf (R:List Bool) (W:Int) (M:List Bool) (i:In):Bool:=
 if i.k≠3∧i.o≠0 then false
 else if i.k=1 then zg R i.a && (decide (i.b=0) && (decide (i.c=0) && (!zm R i.a || decide (i.n=0))))
 else if i.k=2 then zg R i.a && (zg R i.b && ((zm R i.a==zm R i.b) && (decide (i.c=0) && decide (i.n=0))))
 else if i.k=3 then zO R i
 else if i.k=4 then xS R i.b && (decide (i.a=0) && (decide (i.c=0) && decide (i.n=0)))
 else if i.k=5 then yE R i.b && (decide (i.a=0) && (decide (i.c=0) && (decide (1≤i.n) && decide (i.n≤64))))
 else if i.k=6 then xS R i.a && (decide (i.b=0) && (decide (i.c=0) && (decide (1≤i.n) && decide (i.n≤W))))
 else if i.k=7 then yT R M i
 else if i.k=8∨i.k=9∨i.k=10∨i.k=11 then yI R i
 else if i.k=12 then yE R i.b && (decide (i.a=0) && (decide (i.c=0) && decide (i.n=0)))
 else if i.k=13∨i.k=14 then decide (i.a=0) && (decide (i.b=0) && (decide (i.c=0) && decide (i.n=0)))
 else false
theorem Ke (R:List Bool) (W:Int) (M:List Bool) (i:In):zf R W M i=yK R W M i:=by
 obtain⟨k,o,a,b,c,n⟩:=i
 by_cases hk:1≤k∧k≤14
 · have h14:k=1∨k=2∨k=3∨k=4∨k=5∨k=6∨k=7∨k=8∨k=9∨k=10∨k=11∨k=12∨k=13∨k=14:=by omega
   clear hk;rcases Classical.em (c = -1)with hm|hm
   · subst hm
     rcases h14 with h|h|h|h|h|h|h|h|h|h|h|h|h|h <;> subst h <;>
      (cases hA:zg R a <;> cases hB:zg R b <;> cases hC:zg R (-1) <;> cases hRA:zm R a <;> cases hRB:zm R b <;> cases hRC:zm R (-1)) <;>
      rw[Bool.eq_iff_iff] <;> simp[zf,yK,zO,yI,yT,xS,yE,shaped,yY,xN,zF,zu,je,wM,inB,noI,hA,hB,hC,hRA,hRB,hRC] <;> (first|done|omega|(simp only[and_assoc];done)|skip)
   · rcases h14 with h|h|h|h|h|h|h|h|h|h|h|h|h|h <;> subst h <;>
      (cases hA:zg R a <;> cases hB:zg R b <;> cases hC:zg R c <;> cases hRA:zm R a <;> cases hRB:zm R b <;> cases hRC:zm R c) <;>
      rw[Bool.eq_iff_iff] <;> simp[zf,yK,zO,yI,yT,xS,yE,shaped,yY,xN,zF,zu,je,wM,inB,noI,hA,hB,hC,hRA,hRB,hRC,hm] <;> (first|done|omega|(simp only[and_assoc];done)|skip)
 · have h1:inB k 1 14=false:=by unfold inB;simp;omega
   unfold zf yK;dsimp only;rw[h1]
   repeat' split
   all_goals first|rfl|omega
def zX (R:List Bool) (n:Nat) (b:Bk):Bool:=
 if b.last=1 then decide (b.reg=0) && (decide (b.no=0) && (decide (0≤b.yes) && decide (b.yes<(n:Int))))
 else if b.last=2 then yE R b.reg && (decide (0≤b.yes) && (decide (b.yes<(n:Int)) && (decide (0≤b.no) && decide (b.no<(n:Int)))))
 else if b.last=3 then decide (b.reg=0) && (decide (b.yes=0) && decide (b.no=0))
 else false
theorem JV (R:List Bool) (n:Nat) (b:Bk):zX R n b=lastB R n b:=by
 obtain⟨iv,ins,k,r,y,z⟩:=b
 by_cases hk:1≤k∧k≤3
 · have h3:k=1∨k=2∨k=3:=by omega
   rcases h3 with h|h|h <;> subst h <;> cases hR:zg R r <;> cases hF:zm R r <;> rw[Bool.eq_iff_iff] <;>
    simp[zX,lastB,yE,inB,shaped,xA,wO,xN,zF,noI,wX,xY,hR,hF] <;> (first|done|omega|(simp only[and_assoc];done))
 · have h1:inB k 1 3=false:=by unfold inB;simp;omega
   unfold zX lastB;dsimp only;rw[h1]
   repeat' split
   all_goals first|rfl|omega
end
open Go.RowKit
attribute [local go_sem ↓] zL zJ
structure zG (w:World) (B c m:Nat) (g:Gr) (W:Int) (M:List Bool):Prop where
 box:w.heap[c]? = some (.cells #[g.rv,.int .i64 g.sites,g.bv,.int .i64 W,.slice (some ⟨m,0,none⟩) M.length M.length] 328 (0,0))
 made:w.heap[m]? = some (.cells (M.map Value.bool).toArray 4 (0,0))
 here:GIn w B g
 base:B≤c∧B≤m∧c≠m∧B≤w.heap.size
 words:-9223372036854775808≤W∧W≤9223372036854775807
 many:M.length≤8192
 sites:g.sites=(M.length:Int)
theorem zG.lt {w:World} {B c m:Nat} {g:Gr} {W:Int} {M:List Bool} (h:zG w B c m g W M):c<w.heap.size∧m<w.heap.size:=⟨(Array.getElem?_eq_some_iff.1 h.box).1,(Array.getElem?_eq_some_iff.1 h.made).1⟩
theorem zG.keeps {w w':World} {B c m:Nat} {g:Gr} {W:Int} {M:List Bool} (h:zG w B c m g W M) (hb:Below w.heap.size w w'):zG w' B c m g W M:=
 ⟨(hb.block _ h.lt.1).trans h.box,(hb.block _ h.lt.2).trans h.made,h.here.keeps (hb.mono h.base.2.2.2),⟨h.base.1,h.base.2.1,h.base.2.2.1,Nat.le_trans h.base.2.2.2 hb.size⟩,h.words,h.many,h.sites⟩
theorem jB {w:World} {B:Nat} {g:Gr} (h:GIn w B g) {r:Int} (hr:zg g.refs r=true):∃ b off cap,g.rv = .slice (some ⟨b,off,none⟩) g.refs.length cap∧b<B:=by
 unfold zg at hr;simp only[Bool.and_eq_true,decide_eq_true_eq]at hr;obtain⟨ao,cap,e,-,hg⟩:=h.rlies.form;obtain⟨b,off,rfl,hb⟩:=hg (by omega);exact⟨b,off,cap,e,hb⟩
theorem jC {R:List Bool} {r:Int} (h:zg R r=true):∃ n:Nat,r=(n:Int)∧n<R.length:=by
 unfold zg at h;simp only[Bool.and_eq_true,decide_eq_true_eq]at h;exact⟨r.toNat,by omega,by omega⟩
theorem y7 {w:World} {B c m:Nat} {g:Gr} {W:Int} {M:List Bool} (h:zG w B c m g W M) (r:Int) :
 Calls Tryz.prog 237 #[.pointer (some ⟨c,0,none⟩),.int .i64 r] w fun e w'=>e = .returned (.bool (zg g.refs r))∧w=w':=by
 obtain⟨ro,rc,er,hrl,-⟩:=h.here.rlies.form;have hq:=h.box;rw[er]at hq;obtain⟨q0,-,-,-,-⟩:=zx hq;clear hq h er;unfold zg
 by_cases h0:0≤r
 · go_enter Tryz.func237,Tryz.ntmps237
   go_wp2_with fail;go_ret;exact⟨by simp[h0],rfl⟩
 · have hd:decide (0≤r)=false:=by simpa using h0
   go_enter Tryz.func237,Tryz.ntmps237;go_wp2_with fail;go_ret;exact⟨by simp[h0],rfl⟩
theorem yS {w:World} {B c m:Nat} {g:Gr} {W:Int} {M:List Bool} (h:zG w B c m g W M) (r:Int) :
 Calls Tryz.prog 239 #[.pointer (some ⟨c,0,none⟩),.int .i64 r] w fun e w'=>e = .returned (.bool (xS g.refs r))∧w=w':=by
 have HR:=hid (y7 h r);unfold xS;cases hr:zg g.refs r with
 | true =>
  obtain⟨b0,off,cap,er,hb0⟩:=jB h.here hr;obtain⟨n,rfl,hn⟩:=jC hr;have t:=h.here.rlies.bit er n hn;have hq:=h.box;rw[er]at hq;obtain⟨q0,-,-,-,-⟩:=zx hq;have hlb:b0<w.heap.size:=by have:=h.base.2.2.2;omega
  rw[hr]at HR;generalize g.refs.length=N at *;clear hq h er hr hb0;go_enter Tryz.func239,Tryz.ntmps239;go_wp2_with fail;refine HR.out.mono ?_;rintro e w' ⟨rfl,rfl⟩;go_wp2_with fail;go_ret;exact⟨by simp,rfl⟩
 | false =>
  rw[hr]at HR;clear h hr;go_enter Tryz.func239,Tryz.ntmps239;go_wp2_with fail;refine HR.out.mono ?_;rintro e w' ⟨rfl,rfl⟩;go_wp2_with fail;go_ret;exact⟨by simp,rfl⟩
theorem wN {w:World} {B c m:Nat} {g:Gr} {W:Int} {M:List Bool} (h:zG w B c m g W M) (r:Int) :
 Calls Tryz.prog 240 #[.pointer (some ⟨c,0,none⟩),.int .i64 r] w fun e w'=>e = .returned (.bool (yE g.refs r))∧w=w':=by
 have HR:=hid (y7 h r);unfold yE;cases hr:zg g.refs r with
 | true =>
  obtain⟨b0,off,cap,er,hb0⟩:=jB h.here hr;obtain⟨n,rfl,hn⟩:=jC hr;have t:=h.here.rlies.bit er n hn;have hq:=h.box;rw[er]at hq;obtain⟨q0,-,-,-,-⟩:=zx hq;have hlb:b0<w.heap.size:=by have:=h.base.2.2.2;omega
  rw[hr]at HR;generalize g.refs.length=N at *;clear hq h er hr hb0;go_enter Tryz.func240,Tryz.ntmps240;go_wp2_with fail;refine HR.out.mono ?_;rintro e w' ⟨rfl,rfl⟩;go_wp2_with fail;go_ret;exact⟨by simp,rfl⟩
 | false =>
  rw[hr]at HR;clear h hr;go_enter Tryz.func240,Tryz.ntmps240;go_wp2_with fail;refine HR.out.mono ?_;rintro e w' ⟨rfl,rfl⟩;go_wp2_with fail;go_ret;exact⟨by simp,rfl⟩
theorem Jo {w:World} {B c m:Nat} {g:Gr} {W:Int} {M:List Bool} (h:zG w B c m g W M) (o a b cc n:Int) :
 Calls Tryz.prog 216 #[.pointer (some ⟨c,0,none⟩),.agg #[.int .u8 4,.int .u8 o,.int .i64 a,.int .i64 b,.int .i64 cc,.int .i64 n]] w fun e w'=>e = .returned (.bool (zf g.refs W M ⟨4,o,a,b,cc,n⟩))∧Below w.heap.size w w':=by
 obtain⟨U,hU⟩:∃ U,U=w.alloc (.cells #[.int .u8 4,.int .u8 o,.int .i64 a,.int .i64 b,.int .i64 cc,.int .i64 n] 159):=⟨_,rfl⟩
 have hBU:Below w.heap.size w U:=by rw[hU];exact ze w _
 have hO:U.heap[w.heap.size]? = some (.cells #[.int .u8 4,.int .u8 o,.int .i64 a,.int .i64 b,.int .i64 cc,.int .i64 n] 159 (0,0)):=by rw[hU];exact (MapKept.heap_alloc _ _).1
 have HK:=hid (fun (V:World) (hv:Below U.heap.size U V)=>(h.keeps hBU).keeps hv);have HN:=hid (fun r=>wN (h.keeps hBU) r);have HR:=hid (fun r=>yS (h.keeps hBU) r);have HG:=hid (fun r=>y7 (h.keeps hBU) r);have HH:=hid (h.keeps hBU).here;have HZ:=hid (h.keeps hBU).base.2.2.2;have hlc:=(h.keeps hBU).lt.1;obtain⟨p0,p1,p2,p3,p4⟩:=zx (h.keeps hBU).box;obtain⟨q0,q1,q2,q3,q4,q5⟩:=zl hO;have HB:=hid hBU;have HU:=hid hU;rw[hU]at q0 q1 q2 q3 q4 q5;clear hBU hO hU h
 by_cases h0:o=0
 · have d0a:(o==0)=true:=by simpa using h0
   have d0b:(o != 0)=false:=by simpa using h0
   replace h0:=hid h0
   cases h1:xS g.refs b with
   | false =>
    have HY:=hid (show zf g.refs W M ⟨4,o,a,b,cc,n⟩ = false from by simp[zf,h0.out,h1]);go_enter Tryz.func216,Tryz.ntmps216;go_wp2_with fail;rw[←HU.out];rw[←HU.out]at q0 q1 q2 q3 q4 q5;refine (HR.out _).mono ?_;rintro e w' ⟨rfl,rfl⟩;rw[h1];go_wp2_with fail;go_ret;exact⟨by rw[HY.out];rfl,HB.out⟩
   | true =>
    by_cases h2:a=0
    · have d2a:(a==0)=true:=by simpa using h2
      have d2b:(a != 0)=false:=by simpa using h2
      replace h2:=hid h2
      by_cases h3:cc=0
      · have d3a:(cc==0)=true:=by simpa using h3
        have d3b:(cc != 0)=false:=by simpa using h3
        replace h3:=hid h3
        by_cases h4:n=0
        · have d4a:(n==0)=true:=by simpa using h4
          have d4b:(n != 0)=false:=by simpa using h4
          replace h4:=hid h4
          have HY:=hid (show zf g.refs W M ⟨4,o,a,b,cc,n⟩ = true from by simp[zf,h0.out,h1,h2.out,h3.out,h4.out]);go_enter Tryz.func216,Tryz.ntmps216;go_wp2_with fail;rw[←HU.out];rw[←HU.out]at q0 q1 q2 q3 q4 q5;refine (HR.out _).mono ?_;rintro e w' ⟨rfl,rfl⟩;rw[h1];go_wp2_with fail;go_ret;exact⟨by rw[HY.out];rfl,HB.out⟩
        · have d4a:(n==0)=false:=by simpa using h4
          have d4b:(n != 0)=true:=by simpa using h4
          replace h4:=hid h4
          have HY:=hid (show zf g.refs W M ⟨4,o,a,b,cc,n⟩ = false from by simp[zf,h0.out,h1,h2.out,h3.out,h4.out]);go_enter Tryz.func216,Tryz.ntmps216;go_wp2_with fail;rw[←HU.out];rw[←HU.out]at q0 q1 q2 q3 q4 q5;refine (HR.out _).mono ?_;rintro e w' ⟨rfl,rfl⟩;rw[h1];go_wp2_with fail;go_ret;exact⟨by rw[HY.out];rfl,HB.out⟩
      · have d3a:(cc==0)=false:=by simpa using h3
        have d3b:(cc != 0)=true:=by simpa using h3
        replace h3:=hid h3
        have HY:=hid (show zf g.refs W M ⟨4,o,a,b,cc,n⟩ = false from by simp[zf,h0.out,h1,h2.out,h3.out]);go_enter Tryz.func216,Tryz.ntmps216;go_wp2_with fail;rw[←HU.out];rw[←HU.out]at q0 q1 q2 q3 q4 q5;refine (HR.out _).mono ?_;rintro e w' ⟨rfl,rfl⟩;rw[h1];go_wp2_with fail;go_ret;exact⟨by rw[HY.out];rfl,HB.out⟩
    · have d2a:(a==0)=false:=by simpa using h2
      have d2b:(a != 0)=true:=by simpa using h2
      replace h2:=hid h2
      have HY:=hid (show zf g.refs W M ⟨4,o,a,b,cc,n⟩ = false from by simp[zf,h0.out,h1,h2.out]);go_enter Tryz.func216,Tryz.ntmps216;go_wp2_with fail;rw[←HU.out];rw[←HU.out]at q0 q1 q2 q3 q4 q5;refine (HR.out _).mono ?_;rintro e w' ⟨rfl,rfl⟩;rw[h1];go_wp2_with fail;go_ret;exact⟨by rw[HY.out];rfl,HB.out⟩
 · have d0a:(o==0)=false:=by simpa using h0
   have d0b:(o != 0)=true:=by simpa using h0
   replace h0:=hid h0
   have HY:=hid (show zf g.refs W M ⟨4,o,a,b,cc,n⟩ = false from by simp[zf,h0.out]);go_enter Tryz.func216,Tryz.ntmps216;go_wp2_with fail;go_ret;exact⟨by rw[HY.out];rfl,by rw[←HU.out];exact HB.out⟩
theorem Jn {w:World} {B c m:Nat} {g:Gr} {W:Int} {M:List Bool} (h:zG w B c m g W M) (o a b cc n:Int) :
 Calls Tryz.prog 216 #[.pointer (some ⟨c,0,none⟩),.agg #[.int .u8 5,.int .u8 o,.int .i64 a,.int .i64 b,.int .i64 cc,.int .i64 n]] w fun e w'=>e = .returned (.bool (zf g.refs W M ⟨5,o,a,b,cc,n⟩))∧Below w.heap.size w w':=by
 obtain⟨U,hU⟩:∃ U,U=w.alloc (.cells #[.int .u8 5,.int .u8 o,.int .i64 a,.int .i64 b,.int .i64 cc,.int .i64 n] 159):=⟨_,rfl⟩
 have hBU:Below w.heap.size w U:=by rw[hU];exact ze w _
 have hO:U.heap[w.heap.size]? = some (.cells #[.int .u8 5,.int .u8 o,.int .i64 a,.int .i64 b,.int .i64 cc,.int .i64 n] 159 (0,0)):=by rw[hU];exact (MapKept.heap_alloc _ _).1
 have HK:=hid (fun (V:World) (hv:Below U.heap.size U V)=>(h.keeps hBU).keeps hv);have HN:=hid (fun r=>wN (h.keeps hBU) r);have HR:=hid (fun r=>yS (h.keeps hBU) r);have HG:=hid (fun r=>y7 (h.keeps hBU) r);have HH:=hid (h.keeps hBU).here;have HZ:=hid (h.keeps hBU).base.2.2.2;have hlc:=(h.keeps hBU).lt.1;obtain⟨p0,p1,p2,p3,p4⟩:=zx (h.keeps hBU).box;obtain⟨q0,q1,q2,q3,q4,q5⟩:=zl hO;have HB:=hid hBU;have HU:=hid hU;rw[hU]at q0 q1 q2 q3 q4 q5;clear hBU hO hU h
 by_cases h0:o=0
 · have d0a:(o==0)=true:=by simpa using h0
   have d0b:(o != 0)=false:=by simpa using h0
   replace h0:=hid h0
   cases h1:yE g.refs b with
   | false =>
    have HY:=hid (show zf g.refs W M ⟨5,o,a,b,cc,n⟩ = false from by simp[zf,h0.out,h1]);go_enter Tryz.func216,Tryz.ntmps216;go_wp2_with fail;rw[←HU.out];rw[←HU.out]at q0 q1 q2 q3 q4 q5;refine (HN.out _).mono ?_;rintro e w' ⟨rfl,rfl⟩;rw[h1];go_wp2_with fail;go_ret;exact⟨by rw[HY.out];rfl,HB.out⟩
   | true =>
    by_cases h2:a=0
    · have d2a:(a==0)=true:=by simpa using h2
      have d2b:(a != 0)=false:=by simpa using h2
      replace h2:=hid h2
      by_cases h3:cc=0
      · have d3a:(cc==0)=true:=by simpa using h3
        have d3b:(cc != 0)=false:=by simpa using h3
        replace h3:=hid h3
        by_cases h4:1≤n
        · have d4a:decide (1≤n)=true:=by simpa using h4
          replace h4:=hid h4
          by_cases h5:n≤64
          · have d5a:decide (n≤64)=true:=by simpa using h5
            replace h5:=hid h5
            have HY:=hid (show zf g.refs W M ⟨5,o,a,b,cc,n⟩ = true from by simp[zf,h0.out,h1,h2.out,h3.out,h4.out,h5.out]);go_enter Tryz.func216,Tryz.ntmps216;go_wp2_with fail;rw[←HU.out];rw[←HU.out]at q0 q1 q2 q3 q4 q5;refine (HN.out _).mono ?_;rintro e w' ⟨rfl,rfl⟩;rw[h1];go_wp2_with fail;go_ret;exact⟨by rw[HY.out];rfl,HB.out⟩
          · have d5a:decide (n≤64)=false:=by simpa using h5
            replace h5:=hid h5
            have HY:=hid (show zf g.refs W M ⟨5,o,a,b,cc,n⟩ = false from by simp[zf,h0.out,h1,h2.out,h3.out,h4.out,h5.out]);go_enter Tryz.func216,Tryz.ntmps216;go_wp2_with fail;rw[←HU.out];rw[←HU.out]at q0 q1 q2 q3 q4 q5;refine (HN.out _).mono ?_;rintro e w' ⟨rfl,rfl⟩;rw[h1];go_wp2_with fail;go_ret;exact⟨by rw[HY.out];rfl,HB.out⟩
        · have d4a:decide (1≤n)=false:=by simpa using h4
          replace h4:=hid h4
          have HY:=hid (show zf g.refs W M ⟨5,o,a,b,cc,n⟩ = false from by simp[zf,h0.out,h1,h2.out,h3.out,h4.out]);go_enter Tryz.func216,Tryz.ntmps216;go_wp2_with fail;rw[←HU.out];rw[←HU.out]at q0 q1 q2 q3 q4 q5;refine (HN.out _).mono ?_;rintro e w' ⟨rfl,rfl⟩;rw[h1];go_wp2_with fail;go_ret;exact⟨by rw[HY.out];rfl,HB.out⟩
      · have d3a:(cc==0)=false:=by simpa using h3
        have d3b:(cc != 0)=true:=by simpa using h3
        replace h3:=hid h3
        have HY:=hid (show zf g.refs W M ⟨5,o,a,b,cc,n⟩ = false from by simp[zf,h0.out,h1,h2.out,h3.out]);go_enter Tryz.func216,Tryz.ntmps216;go_wp2_with fail;rw[←HU.out];rw[←HU.out]at q0 q1 q2 q3 q4 q5;refine (HN.out _).mono ?_;rintro e w' ⟨rfl,rfl⟩;rw[h1];go_wp2_with fail;go_ret;exact⟨by rw[HY.out];rfl,HB.out⟩
    · have d2a:(a==0)=false:=by simpa using h2
      have d2b:(a != 0)=true:=by simpa using h2
      replace h2:=hid h2
      have HY:=hid (show zf g.refs W M ⟨5,o,a,b,cc,n⟩ = false from by simp[zf,h0.out,h1,h2.out]);go_enter Tryz.func216,Tryz.ntmps216;go_wp2_with fail;rw[←HU.out];rw[←HU.out]at q0 q1 q2 q3 q4 q5;refine (HN.out _).mono ?_;rintro e w' ⟨rfl,rfl⟩;rw[h1];go_wp2_with fail;go_ret;exact⟨by rw[HY.out];rfl,HB.out⟩
 · have d0a:(o==0)=false:=by simpa using h0
   have d0b:(o != 0)=true:=by simpa using h0
   replace h0:=hid h0
   have HY:=hid (show zf g.refs W M ⟨5,o,a,b,cc,n⟩ = false from by simp[zf,h0.out]);go_enter Tryz.func216,Tryz.ntmps216;go_wp2_with fail;go_ret;exact⟨by rw[HY.out];rfl,by rw[←HU.out];exact HB.out⟩
theorem Jq {w:World} {B c m:Nat} {g:Gr} {W:Int} {M:List Bool} (h:zG w B c m g W M) (o a b cc n:Int) :
 Calls Tryz.prog 216 #[.pointer (some ⟨c,0,none⟩),.agg #[.int .u8 2,.int .u8 o,.int .i64 a,.int .i64 b,.int .i64 cc,.int .i64 n]] w fun e w'=>e = .returned (.bool (zf g.refs W M ⟨2,o,a,b,cc,n⟩))∧Below w.heap.size w w':=by
 obtain⟨U,hU⟩:∃ U,U=w.alloc (.cells #[.int .u8 2,.int .u8 o,.int .i64 a,.int .i64 b,.int .i64 cc,.int .i64 n] 159):=⟨_,rfl⟩
 have hBU:Below w.heap.size w U:=by rw[hU];exact ze w _
 have hO:U.heap[w.heap.size]? = some (.cells #[.int .u8 2,.int .u8 o,.int .i64 a,.int .i64 b,.int .i64 cc,.int .i64 n] 159 (0,0)):=by rw[hU];exact (MapKept.heap_alloc _ _).1
 have HK:=hid (fun (V:World) (hv:Below U.heap.size U V)=>(h.keeps hBU).keeps hv);have HN:=hid (fun r=>wN (h.keeps hBU) r);have HR:=hid (fun r=>yS (h.keeps hBU) r);have HG:=hid (fun r=>y7 (h.keeps hBU) r);have HH:=hid (h.keeps hBU).here;have HZ:=hid (h.keeps hBU).base.2.2.2;have hlc:=(h.keeps hBU).lt.1;obtain⟨p0,p1,p2,p3,p4⟩:=zx (h.keeps hBU).box;obtain⟨q0,q1,q2,q3,q4,q5⟩:=zl hO;have HB:=hid hBU;have HU:=hid hU;rw[hU]at q0 q1 q2 q3 q4 q5;clear hBU hO hU h
 by_cases h0:o=0
 · have d0a:(o==0)=true:=by simpa using h0
   have d0b:(o != 0)=false:=by simpa using h0
   replace h0:=hid h0
   cases h1:zg g.refs a with
   | false =>
    have HY:=hid (show zf g.refs W M ⟨2,o,a,b,cc,n⟩ = false from by simp[zf,h0.out,h1]);have HC0:=hid (fun (n:Nat)=>((y7 (HK.out _ (below_drewN (Below.refl _ _) n)) a).mono fun e w' hh=>(show e = .returned (.bool false)∧∃ m,w'=U.drewN m from⟨by rw[hh.1,h1],n,hh.2.symm⟩):Calls Tryz.prog 237 #[.pointer (some ⟨c,0,none⟩),.int .i64 a] (U.drewN n) _));go_enter Tryz.func216,Tryz.ntmps216;go_wp2_with fail;rw[←HU.out];rw[←HU.out]at q0 q1 q2 q3 q4 q5
    go_quiet (first|(go_at_call 237;with_reducible exact HC0.out _))
    go_wp2_with fail;go_ret;exact⟨by rw[HY.out];rfl,below_drewN HB.out _⟩
   | true =>
    obtain⟨ba,offa,capa,era,hba⟩:=jB HH.out h1;obtain⟨na,ea,la⟩:=jC h1;subst ea;have ta:=HH.out.rlies.bit era na la;rw[era]at p0;have hlb:ba<U.heap.size:=by have:=HZ.out;omega
    cases h2:zg g.refs b with
    | false =>
     have HY:=hid (show zf g.refs W M ⟨2,o,(na:Int),b,cc,n⟩ = false from by simp[zf,h0.out,h1,h2]);have HC0:=hid (fun (n:Nat)=>((y7 (HK.out _ (below_drewN (Below.refl _ _) n)) (na:Int)).mono fun e w' hh=>(show e = .returned (.bool true)∧∃ m,w'=U.drewN m from⟨by rw[hh.1,h1],n,hh.2.symm⟩):Calls Tryz.prog 237 #[.pointer (some ⟨c,0,none⟩),.int .i64 (na:Int)] (U.drewN n) _));have HC1:=hid (fun (n:Nat)=>((y7 (HK.out _ (below_drewN (Below.refl _ _) n)) b).mono fun e w' hh=>(show e = .returned (.bool false)∧∃ m,w'=U.drewN m from⟨by rw[hh.1,h2],n,hh.2.symm⟩):Calls Tryz.prog 237 #[.pointer (some ⟨c,0,none⟩),.int .i64 b] (U.drewN n) _));go_enter Tryz.func216,Tryz.ntmps216;go_wp2_with fail;rw[←HU.out];rw[←HU.out]at q0 q1 q2 q3 q4 q5
     go_quiet (first|(go_at_call 237;with_reducible exact HC0.out _)|(go_at_call 237;with_reducible exact HC1.out _))
     go_wp2_with fail;go_ret;exact⟨by rw[HY.out];rfl,below_drewN HB.out _⟩
    | true =>
     obtain⟨bb,offb,capb,erb,hbb⟩:=jB HH.out h2;obtain⟨nb,eb,lb⟩:=jC h2;subst eb;have tb:=HH.out.rlies.bit erb nb lb;obtain⟨rfl,rfl,rfl⟩:bb=ba∧offb=offa∧capb=capa:=by rw[era]at erb;cases erb;exact⟨rfl,rfl,rfl⟩
     cases h3:zm g.refs (na:Int)with
     | false =>
      rw[h3]at ta;cases h4:zm g.refs (nb:Int)with
      | false =>
       rw[h4]at tb
       by_cases h5:cc=0
       · have d5a:(cc==0)=true:=by simpa using h5
         have d5b:(cc != 0)=false:=by simpa using h5
         replace h5:=hid h5
         by_cases h6:n=0
         · have d6a:(n==0)=true:=by simpa using h6
           have d6b:(n != 0)=false:=by simpa using h6
           replace h6:=hid h6
           have HY:=hid (show zf g.refs W M ⟨2,o,(na:Int),(nb:Int),cc,n⟩ = true from by simp[zf,h0.out,h1,h2,h3,h4,h5.out,h6.out]);have HC0:=hid (fun (n:Nat)=>((y7 (HK.out _ (below_drewN (Below.refl _ _) n)) (na:Int)).mono fun e w' hh=>(show e = .returned (.bool true)∧∃ m,w'=U.drewN m from⟨by rw[hh.1,h1],n,hh.2.symm⟩):Calls Tryz.prog 237 #[.pointer (some ⟨c,0,none⟩),.int .i64 (na:Int)] (U.drewN n) _));have HC1:=hid (fun (n:Nat)=>((y7 (HK.out _ (below_drewN (Below.refl _ _) n)) (nb:Int)).mono fun e w' hh=>(show e = .returned (.bool true)∧∃ m,w'=U.drewN m from⟨by rw[hh.1,h2],n,hh.2.symm⟩):Calls Tryz.prog 237 #[.pointer (some ⟨c,0,none⟩),.int .i64 (nb:Int)] (U.drewN n) _));go_enter Tryz.func216,Tryz.ntmps216;go_wp2_with fail;rw[←HU.out];rw[←HU.out]at q0 q1 q2 q3 q4 q5
           go_quiet (first|(go_at_call 237;with_reducible exact HC0.out _)|(go_at_call 237;with_reducible exact HC1.out _))
           go_wp2_with fail;go_ret;exact⟨by rw[HY.out];rfl,below_drewN HB.out _⟩
         · have d6a:(n==0)=false:=by simpa using h6
           have d6b:(n != 0)=true:=by simpa using h6
           replace h6:=hid h6
           have HY:=hid (show zf g.refs W M ⟨2,o,(na:Int),(nb:Int),cc,n⟩ = false from by simp[zf,h0.out,h1,h2,h3,h4,h5.out,h6.out]);have HC0:=hid (fun (n:Nat)=>((y7 (HK.out _ (below_drewN (Below.refl _ _) n)) (na:Int)).mono fun e w' hh=>(show e = .returned (.bool true)∧∃ m,w'=U.drewN m from⟨by rw[hh.1,h1],n,hh.2.symm⟩):Calls Tryz.prog 237 #[.pointer (some ⟨c,0,none⟩),.int .i64 (na:Int)] (U.drewN n) _));have HC1:=hid (fun (n:Nat)=>((y7 (HK.out _ (below_drewN (Below.refl _ _) n)) (nb:Int)).mono fun e w' hh=>(show e = .returned (.bool true)∧∃ m,w'=U.drewN m from⟨by rw[hh.1,h2],n,hh.2.symm⟩):Calls Tryz.prog 237 #[.pointer (some ⟨c,0,none⟩),.int .i64 (nb:Int)] (U.drewN n) _));go_enter Tryz.func216,Tryz.ntmps216;go_wp2_with fail;rw[←HU.out];rw[←HU.out]at q0 q1 q2 q3 q4 q5
           go_quiet (first|(go_at_call 237;with_reducible exact HC0.out _)|(go_at_call 237;with_reducible exact HC1.out _))
           go_wp2_with fail;go_ret;exact⟨by rw[HY.out];rfl,below_drewN HB.out _⟩
       · have d5a:(cc==0)=false:=by simpa using h5
         have d5b:(cc != 0)=true:=by simpa using h5
         replace h5:=hid h5
         have HY:=hid (show zf g.refs W M ⟨2,o,(na:Int),(nb:Int),cc,n⟩ = false from by simp[zf,h0.out,h1,h2,h3,h4,h5.out]);have HC0:=hid (fun (n:Nat)=>((y7 (HK.out _ (below_drewN (Below.refl _ _) n)) (na:Int)).mono fun e w' hh=>(show e = .returned (.bool true)∧∃ m,w'=U.drewN m from⟨by rw[hh.1,h1],n,hh.2.symm⟩):Calls Tryz.prog 237 #[.pointer (some ⟨c,0,none⟩),.int .i64 (na:Int)] (U.drewN n) _));have HC1:=hid (fun (n:Nat)=>((y7 (HK.out _ (below_drewN (Below.refl _ _) n)) (nb:Int)).mono fun e w' hh=>(show e = .returned (.bool true)∧∃ m,w'=U.drewN m from⟨by rw[hh.1,h2],n,hh.2.symm⟩):Calls Tryz.prog 237 #[.pointer (some ⟨c,0,none⟩),.int .i64 (nb:Int)] (U.drewN n) _));go_enter Tryz.func216,Tryz.ntmps216;go_wp2_with fail;rw[←HU.out];rw[←HU.out]at q0 q1 q2 q3 q4 q5
         go_quiet (first|(go_at_call 237;with_reducible exact HC0.out _)|(go_at_call 237;with_reducible exact HC1.out _))
         go_wp2_with fail;go_ret;exact⟨by rw[HY.out];rfl,below_drewN HB.out _⟩
      | true =>
       rw[h4]at tb;have HY:=hid (show zf g.refs W M ⟨2,o,(na:Int),(nb:Int),cc,n⟩ = false from by simp[zf,h0.out,h1,h2,h3,h4]);have HC0:=hid (fun (n:Nat)=>((y7 (HK.out _ (below_drewN (Below.refl _ _) n)) (na:Int)).mono fun e w' hh=>(show e = .returned (.bool true)∧∃ m,w'=U.drewN m from⟨by rw[hh.1,h1],n,hh.2.symm⟩):Calls Tryz.prog 237 #[.pointer (some ⟨c,0,none⟩),.int .i64 (na:Int)] (U.drewN n) _));have HC1:=hid (fun (n:Nat)=>((y7 (HK.out _ (below_drewN (Below.refl _ _) n)) (nb:Int)).mono fun e w' hh=>(show e = .returned (.bool true)∧∃ m,w'=U.drewN m from⟨by rw[hh.1,h2],n,hh.2.symm⟩):Calls Tryz.prog 237 #[.pointer (some ⟨c,0,none⟩),.int .i64 (nb:Int)] (U.drewN n) _));go_enter Tryz.func216,Tryz.ntmps216;go_wp2_with fail;rw[←HU.out];rw[←HU.out]at q0 q1 q2 q3 q4 q5
       go_quiet (first|(go_at_call 237;with_reducible exact HC0.out _)|(go_at_call 237;with_reducible exact HC1.out _))
       go_wp2_with fail;go_ret;exact⟨by rw[HY.out];rfl,below_drewN HB.out _⟩
     | true =>
      rw[h3]at ta;cases h4:zm g.refs (nb:Int)with
      | false =>
       rw[h4]at tb;have HY:=hid (show zf g.refs W M ⟨2,o,(na:Int),(nb:Int),cc,n⟩ = false from by simp[zf,h0.out,h1,h2,h3,h4]);have HC0:=hid (fun (n:Nat)=>((y7 (HK.out _ (below_drewN (Below.refl _ _) n)) (na:Int)).mono fun e w' hh=>(show e = .returned (.bool true)∧∃ m,w'=U.drewN m from⟨by rw[hh.1,h1],n,hh.2.symm⟩):Calls Tryz.prog 237 #[.pointer (some ⟨c,0,none⟩),.int .i64 (na:Int)] (U.drewN n) _));have HC1:=hid (fun (n:Nat)=>((y7 (HK.out _ (below_drewN (Below.refl _ _) n)) (nb:Int)).mono fun e w' hh=>(show e = .returned (.bool true)∧∃ m,w'=U.drewN m from⟨by rw[hh.1,h2],n,hh.2.symm⟩):Calls Tryz.prog 237 #[.pointer (some ⟨c,0,none⟩),.int .i64 (nb:Int)] (U.drewN n) _));go_enter Tryz.func216,Tryz.ntmps216;go_wp2_with fail;rw[←HU.out];rw[←HU.out]at q0 q1 q2 q3 q4 q5
       go_quiet (first|(go_at_call 237;with_reducible exact HC0.out _)|(go_at_call 237;with_reducible exact HC1.out _))
       go_wp2_with fail;go_ret;exact⟨by rw[HY.out];rfl,below_drewN HB.out _⟩
      | true =>
       rw[h4]at tb
       by_cases h5:cc=0
       · have d5a:(cc==0)=true:=by simpa using h5
         have d5b:(cc != 0)=false:=by simpa using h5
         replace h5:=hid h5
         by_cases h6:n=0
         · have d6a:(n==0)=true:=by simpa using h6
           have d6b:(n != 0)=false:=by simpa using h6
           replace h6:=hid h6
           have HY:=hid (show zf g.refs W M ⟨2,o,(na:Int),(nb:Int),cc,n⟩ = true from by simp[zf,h0.out,h1,h2,h3,h4,h5.out,h6.out]);have HC0:=hid (fun (n:Nat)=>((y7 (HK.out _ (below_drewN (Below.refl _ _) n)) (na:Int)).mono fun e w' hh=>(show e = .returned (.bool true)∧∃ m,w'=U.drewN m from⟨by rw[hh.1,h1],n,hh.2.symm⟩):Calls Tryz.prog 237 #[.pointer (some ⟨c,0,none⟩),.int .i64 (na:Int)] (U.drewN n) _));have HC1:=hid (fun (n:Nat)=>((y7 (HK.out _ (below_drewN (Below.refl _ _) n)) (nb:Int)).mono fun e w' hh=>(show e = .returned (.bool true)∧∃ m,w'=U.drewN m from⟨by rw[hh.1,h2],n,hh.2.symm⟩):Calls Tryz.prog 237 #[.pointer (some ⟨c,0,none⟩),.int .i64 (nb:Int)] (U.drewN n) _));go_enter Tryz.func216,Tryz.ntmps216;go_wp2_with fail;rw[←HU.out];rw[←HU.out]at q0 q1 q2 q3 q4 q5
           go_quiet (first|(go_at_call 237;with_reducible exact HC0.out _)|(go_at_call 237;with_reducible exact HC1.out _))
           go_wp2_with fail;go_ret;exact⟨by rw[HY.out];rfl,below_drewN HB.out _⟩
         · have d6a:(n==0)=false:=by simpa using h6
           have d6b:(n != 0)=true:=by simpa using h6
           replace h6:=hid h6
           have HY:=hid (show zf g.refs W M ⟨2,o,(na:Int),(nb:Int),cc,n⟩ = false from by simp[zf,h0.out,h1,h2,h3,h4,h5.out,h6.out]);have HC0:=hid (fun (n:Nat)=>((y7 (HK.out _ (below_drewN (Below.refl _ _) n)) (na:Int)).mono fun e w' hh=>(show e = .returned (.bool true)∧∃ m,w'=U.drewN m from⟨by rw[hh.1,h1],n,hh.2.symm⟩):Calls Tryz.prog 237 #[.pointer (some ⟨c,0,none⟩),.int .i64 (na:Int)] (U.drewN n) _));have HC1:=hid (fun (n:Nat)=>((y7 (HK.out _ (below_drewN (Below.refl _ _) n)) (nb:Int)).mono fun e w' hh=>(show e = .returned (.bool true)∧∃ m,w'=U.drewN m from⟨by rw[hh.1,h2],n,hh.2.symm⟩):Calls Tryz.prog 237 #[.pointer (some ⟨c,0,none⟩),.int .i64 (nb:Int)] (U.drewN n) _));go_enter Tryz.func216,Tryz.ntmps216;go_wp2_with fail;rw[←HU.out];rw[←HU.out]at q0 q1 q2 q3 q4 q5
           go_quiet (first|(go_at_call 237;with_reducible exact HC0.out _)|(go_at_call 237;with_reducible exact HC1.out _))
           go_wp2_with fail;go_ret;exact⟨by rw[HY.out];rfl,below_drewN HB.out _⟩
       · have d5a:(cc==0)=false:=by simpa using h5
         have d5b:(cc != 0)=true:=by simpa using h5
         replace h5:=hid h5
         have HY:=hid (show zf g.refs W M ⟨2,o,(na:Int),(nb:Int),cc,n⟩ = false from by simp[zf,h0.out,h1,h2,h3,h4,h5.out]);have HC0:=hid (fun (n:Nat)=>((y7 (HK.out _ (below_drewN (Below.refl _ _) n)) (na:Int)).mono fun e w' hh=>(show e = .returned (.bool true)∧∃ m,w'=U.drewN m from⟨by rw[hh.1,h1],n,hh.2.symm⟩):Calls Tryz.prog 237 #[.pointer (some ⟨c,0,none⟩),.int .i64 (na:Int)] (U.drewN n) _));have HC1:=hid (fun (n:Nat)=>((y7 (HK.out _ (below_drewN (Below.refl _ _) n)) (nb:Int)).mono fun e w' hh=>(show e = .returned (.bool true)∧∃ m,w'=U.drewN m from⟨by rw[hh.1,h2],n,hh.2.symm⟩):Calls Tryz.prog 237 #[.pointer (some ⟨c,0,none⟩),.int .i64 (nb:Int)] (U.drewN n) _));go_enter Tryz.func216,Tryz.ntmps216;go_wp2_with fail;rw[←HU.out];rw[←HU.out]at q0 q1 q2 q3 q4 q5
         go_quiet (first|(go_at_call 237;with_reducible exact HC0.out _)|(go_at_call 237;with_reducible exact HC1.out _))
         go_wp2_with fail;go_ret;exact⟨by rw[HY.out];rfl,below_drewN HB.out _⟩
 · have d0a:(o==0)=false:=by simpa using h0
   have d0b:(o != 0)=true:=by simpa using h0
   replace h0:=hid h0
   have HY:=hid (show zf g.refs W M ⟨2,o,a,b,cc,n⟩ = false from by simp[zf,h0.out]);go_enter Tryz.func216,Tryz.ntmps216;go_wp2_with fail;go_ret;exact⟨by rw[HY.out];rfl,by rw[←HU.out];exact HB.out⟩
theorem Jm {w:World} {B c m:Nat} {g:Gr} {W:Int} {M:List Bool} (h:zG w B c m g W M) (o a b cc n:Int) :
 Calls Tryz.prog 216 #[.pointer (some ⟨c,0,none⟩),.agg #[.int .u8 6,.int .u8 o,.int .i64 a,.int .i64 b,.int .i64 cc,.int .i64 n]] w fun e w'=>e = .returned (.bool (zf g.refs W M ⟨6,o,a,b,cc,n⟩))∧Below w.heap.size w w':=by
 obtain⟨U,hU⟩:∃ U,U=w.alloc (.cells #[.int .u8 6,.int .u8 o,.int .i64 a,.int .i64 b,.int .i64 cc,.int .i64 n] 159):=⟨_,rfl⟩
 have hBU:Below w.heap.size w U:=by rw[hU];exact ze w _
 have hO:U.heap[w.heap.size]? = some (.cells #[.int .u8 6,.int .u8 o,.int .i64 a,.int .i64 b,.int .i64 cc,.int .i64 n] 159 (0,0)):=by rw[hU];exact (MapKept.heap_alloc _ _).1
 have HK:=hid (fun (V:World) (hv:Below U.heap.size U V)=>(h.keeps hBU).keeps hv);have HN:=hid (fun r=>wN (h.keeps hBU) r);have HR:=hid (fun r=>yS (h.keeps hBU) r);have HG:=hid (fun r=>y7 (h.keeps hBU) r);have HH:=hid (h.keeps hBU).here;have HZ:=hid (h.keeps hBU).base.2.2.2;have hlc:=(h.keeps hBU).lt.1;obtain⟨p0,p1,p2,p3,p4⟩:=zx (h.keeps hBU).box;obtain⟨q0,q1,q2,q3,q4,q5⟩:=zl hO;have HB:=hid hBU;have HU:=hid hU;rw[hU]at q0 q1 q2 q3 q4 q5;clear hBU hO hU h
 by_cases h0:o=0
 · have d0a:(o==0)=true:=by simpa using h0
   have d0b:(o != 0)=false:=by simpa using h0
   replace h0:=hid h0
   cases h1:xS g.refs a with
   | false =>
    have HY:=hid (show zf g.refs W M ⟨6,o,a,b,cc,n⟩ = false from by simp[zf,h0.out,h1]);have HC0:=hid (fun (n:Nat)=>((yS (HK.out _ (below_drewN (Below.refl _ _) n)) a).mono fun e w' hh=>(show e = .returned (.bool false)∧∃ m,w'=U.drewN m from⟨by rw[hh.1,h1],n,hh.2.symm⟩):Calls Tryz.prog 239 #[.pointer (some ⟨c,0,none⟩),.int .i64 a] (U.drewN n) _));go_enter Tryz.func216,Tryz.ntmps216;go_wp2_with fail;rw[←HU.out];rw[←HU.out]at q0 q1 q2 q3 q4 q5
    go_quiet (first|(go_at_call 239;exact HC0.out _))
    go_wp2_with fail;go_ret;exact⟨by rw[HY.out];rfl,below_drewN HB.out _⟩
   | true =>
    by_cases h2:b=0
    · have d2a:(b==0)=true:=by simpa using h2
      have d2b:(b != 0)=false:=by simpa using h2
      replace h2:=hid h2
      by_cases h3:cc=0
      · have d3a:(cc==0)=true:=by simpa using h3
        have d3b:(cc != 0)=false:=by simpa using h3
        replace h3:=hid h3
        by_cases h4:1≤n
        · have d4a:decide (1≤n)=true:=by simpa using h4
          replace h4:=hid h4
          by_cases h5:n≤W
          · have d5a:decide (n≤W)=true:=by simpa using h5
            replace h5:=hid h5
            have HY:=hid (show zf g.refs W M ⟨6,o,a,b,cc,n⟩ = true from by simp[zf,h0.out,h1,h2.out,h3.out,h4.out,h5.out]);have HC0:=hid (fun (n:Nat)=>((yS (HK.out _ (below_drewN (Below.refl _ _) n)) a).mono fun e w' hh=>(show e = .returned (.bool true)∧∃ m,w'=U.drewN m from⟨by rw[hh.1,h1],n,hh.2.symm⟩):Calls Tryz.prog 239 #[.pointer (some ⟨c,0,none⟩),.int .i64 a] (U.drewN n) _));go_enter Tryz.func216,Tryz.ntmps216;go_wp2_with fail;rw[←HU.out];rw[←HU.out]at q0 q1 q2 q3 q4 q5
            go_quiet (first|(go_at_call 239;exact HC0.out _))
            go_wp2_with fail;go_ret;exact⟨by rw[HY.out];rfl,below_drewN HB.out _⟩
          · have d5a:decide (n≤W)=false:=by simpa using h5
            replace h5:=hid h5
            have HY:=hid (show zf g.refs W M ⟨6,o,a,b,cc,n⟩ = false from by simp[zf,h0.out,h1,h2.out,h3.out,h4.out,h5.out]);have HC0:=hid (fun (n:Nat)=>((yS (HK.out _ (below_drewN (Below.refl _ _) n)) a).mono fun e w' hh=>(show e = .returned (.bool true)∧∃ m,w'=U.drewN m from⟨by rw[hh.1,h1],n,hh.2.symm⟩):Calls Tryz.prog 239 #[.pointer (some ⟨c,0,none⟩),.int .i64 a] (U.drewN n) _));go_enter Tryz.func216,Tryz.ntmps216;go_wp2_with fail;rw[←HU.out];rw[←HU.out]at q0 q1 q2 q3 q4 q5
            go_quiet (first|(go_at_call 239;exact HC0.out _))
            go_wp2_with fail;go_ret;exact⟨by rw[HY.out];rfl,below_drewN HB.out _⟩
        · have d4a:decide (1≤n)=false:=by simpa using h4
          replace h4:=hid h4
          have HY:=hid (show zf g.refs W M ⟨6,o,a,b,cc,n⟩ = false from by simp[zf,h0.out,h1,h2.out,h3.out,h4.out]);have HC0:=hid (fun (n:Nat)=>((yS (HK.out _ (below_drewN (Below.refl _ _) n)) a).mono fun e w' hh=>(show e = .returned (.bool true)∧∃ m,w'=U.drewN m from⟨by rw[hh.1,h1],n,hh.2.symm⟩):Calls Tryz.prog 239 #[.pointer (some ⟨c,0,none⟩),.int .i64 a] (U.drewN n) _));go_enter Tryz.func216,Tryz.ntmps216;go_wp2_with fail;rw[←HU.out];rw[←HU.out]at q0 q1 q2 q3 q4 q5
          go_quiet (first|(go_at_call 239;exact HC0.out _))
          go_wp2_with fail;go_ret;exact⟨by rw[HY.out];rfl,below_drewN HB.out _⟩
      · have d3a:(cc==0)=false:=by simpa using h3
        have d3b:(cc != 0)=true:=by simpa using h3
        replace h3:=hid h3
        have HY:=hid (show zf g.refs W M ⟨6,o,a,b,cc,n⟩ = false from by simp[zf,h0.out,h1,h2.out,h3.out]);have HC0:=hid (fun (n:Nat)=>((yS (HK.out _ (below_drewN (Below.refl _ _) n)) a).mono fun e w' hh=>(show e = .returned (.bool true)∧∃ m,w'=U.drewN m from⟨by rw[hh.1,h1],n,hh.2.symm⟩):Calls Tryz.prog 239 #[.pointer (some ⟨c,0,none⟩),.int .i64 a] (U.drewN n) _));go_enter Tryz.func216,Tryz.ntmps216;go_wp2_with fail;rw[←HU.out];rw[←HU.out]at q0 q1 q2 q3 q4 q5
        go_quiet (first|(go_at_call 239;exact HC0.out _))
        go_wp2_with fail;go_ret;exact⟨by rw[HY.out];rfl,below_drewN HB.out _⟩
    · have d2a:(b==0)=false:=by simpa using h2
      have d2b:(b != 0)=true:=by simpa using h2
      replace h2:=hid h2
      have HY:=hid (show zf g.refs W M ⟨6,o,a,b,cc,n⟩ = false from by simp[zf,h0.out,h1,h2.out]);have HC0:=hid (fun (n:Nat)=>((yS (HK.out _ (below_drewN (Below.refl _ _) n)) a).mono fun e w' hh=>(show e = .returned (.bool true)∧∃ m,w'=U.drewN m from⟨by rw[hh.1,h1],n,hh.2.symm⟩):Calls Tryz.prog 239 #[.pointer (some ⟨c,0,none⟩),.int .i64 a] (U.drewN n) _));go_enter Tryz.func216,Tryz.ntmps216;go_wp2_with fail;rw[←HU.out];rw[←HU.out]at q0 q1 q2 q3 q4 q5
      go_quiet (first|(go_at_call 239;exact HC0.out _))
      go_wp2_with fail;go_ret;exact⟨by rw[HY.out];rfl,below_drewN HB.out _⟩
 · have d0a:(o==0)=false:=by simpa using h0
   have d0b:(o != 0)=true:=by simpa using h0
   replace h0:=hid h0
   have HY:=hid (show zf g.refs W M ⟨6,o,a,b,cc,n⟩ = false from by simp[zf,h0.out]);go_enter Tryz.func216,Tryz.ntmps216;go_wp2_with fail;go_ret;exact⟨by rw[HY.out];rfl,by rw[←HU.out];exact HB.out⟩
