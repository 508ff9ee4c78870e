import Derived.Test.YtlboinokdhmacaaGreatDoorIrBoth
namespace Go.Proofs.YtlboinokdhmacaaGreatDoor
set_option maxHeartbeats 64000000
set_option maxRecDepth 1000000
open Lib(hid)
section
open Go.RowKit
attribute [local go_sem ↓] zL zJ
def uh (B:List Nat) (n:Nat) (b:Bk) (l:List Bk):Option Nat × Nat→Option (Nat × Nat)
 | (some k,_)=>some (n,k)
 | (none,on)=>if b.last=3∧on=2 then some (n,b.ins.length) else zU B (n+1) l
theorem Qe (B:List Nat) (n s:Nat) (b:Bk) (l:List Bk) (hs:(B[n]?).getD 0=s):zU B n (b :: l)=if s=0 then zU B (n+1) l else uh B n b l (zS 0 s b.ins):=by
 subst hs;rw[zU];generalize zS 0 ((B[n]?).getD 0) b.ins=Z;obtain⟨x,y⟩:=Z;cases x <;> rfl
theorem Qa (k on:Nat) (i:In) (l:List In):zS k on (i :: l)=if yL i.k &&& on=0 then (some k,on) else zS (k+1) (yD i.k on) l:=rfl
theorem Zc (k:Int):yL k=1∨yL k=2∨yL k=3:=by
 unfold yL;split
 · exact .inr (.inl rfl)
 · split
   · exact .inl rfl
   · exact .inr (.inr rfl)
theorem z2d (k:Int) {on:Nat} (h:on=1∨on=2∨on=3):yD k on=1∨yD k on=2∨yD k on=3:=by
 unfold yD;split
 · exact .inr (.inl rfl)
 · split
   · exact .inl rfl
   · exact h
theorem UC (B:Nat) (g:Gr) (w:World) (gb n:Nat) (l:List Nat) (T:TypeId) (fr:Nat × Nat) (hI:GIn w B g) (hBw:B≤w.heap.size)
 (hl:w.heap[gb]? = some (.cells (l.map fun (s:Nat)=>Value.int .u8 (s:Int)).toArray T fr)) (hn:n=l.length) (hnb:l.length=g.blocks.length) (hs3:∀ s ∈ l,s≤3) (hn2:n≤4096) :
 Calls Tryz.prog 207 #[.agg #[g.rv,.int .i64 g.sites,g.bv],.slice (some ⟨gb,0,none⟩) n n] w fun e w'=>e = .returned (vP (zU l 0 g.blocks))∧Below w.heap.size w w':=by
 obtain⟨Y,hY⟩:∃ Y,Y=zU l 0 g.blocks:=⟨_,rfl⟩
 rw[←hY];obtain⟨ro,rc,er,-,-⟩:=hI.rlies.form;obtain⟨bo,bcp,eb,hbl,hbg⟩:=hI.blies.form;have HBL:=hid hI.blies;have HBI:=hid hI.blocks;have hgs:gb<w.heap.size:=(Array.getElem?_eq_some_iff.1 hl).1;clear hI;obtain⟨rv,refs,sites,bv,blocks⟩:=g;simp only at *;subst er eb;obtain⟨N1,hN1⟩:∃ N,N=refs.length:=⟨_,rfl⟩
 obtain⟨N2,hN2⟩:∃ N,N=blocks.length:=⟨_,rfl⟩
 have hnn:n=N2:=by omega
 subst hnn;rw[←hN1,←hN2];rw[←hN2]at hbl hbg HBL;obtain⟨W1,hW1⟩:∃ W1,W1=w.alloc (.cells #[.slice ro N1 rc,.int .i64 sites,.slice bo n bcp] 75):=⟨_,rfl⟩
 have hz1:W1.heap.size=w.heap.size+1:=by rw[hW1];simp
 have hB1:Below w.heap.size w W1:=by rw[hW1];exact ze w _
 have hO1:W1.heap[w.heap.size]? = some (.cells #[.slice ro N1 rc,.int .i64 sites,.slice bo n bcp] 75 (0,0)):=by rw[hW1];exact (MapKept.heap_alloc _ _).1
 obtain⟨W0,hW0⟩:∃ W0,W0=W1.alloc (.cells #[.int .i64 0,.int .i64 0] 92):=⟨_,rfl⟩
 have hz0:W0.heap.size=w.heap.size+2:=by rw[hW0];simp[hz1]
 have hB0:Below w.heap.size w W0:=by rw[hW0];exact hB1.alloc (by omega) _
 have hO0:W0.heap[w.heap.size]? = some (.cells #[.slice ro N1 rc,.int .i64 sites,.slice bo n bcp] 75 (0,0)):=by rw[hW0,Below.heap_alloc _ _ _ (by omega)];exact hO1
 have hS0:W0.heap[w.heap.size+1]? = some (.cells #[.int .i64 0,.int .i64 0] 92 (0,0)):=by rw[hW0,←hz1];exact (MapKept.heap_alloc _ _).1
 obtain⟨q0,q1,q2⟩:=yl hO0;rw[hW0,hW1]at q0 q1 q2;have HL:=hid ((hB0.block gb hgs).trans hl);have HN:=hid hN2;have HLN:=hid hn;have HS3:=hid hs3;have HG2:=hid hbg;have HY:=hid hY;have HB0:=hid hB0;have HZ0:=hid hz0;have HS0:=hid hS0;have HW0:=hid (hW1 ▸ hW0);have e0:=fun (x y:Int)=>zH 92 #[(0,.int .i64 x),(1,.int .i64 y)] #[.int .i64 x,.int .i64 y] (by kernel_rfl)
 have e1:=zH 92 #[] #[.int .i64 0,.int .i64 0] (by kernel_rfl);clear hl hN1 hN2 hbg hB0 hB1 hO1 hO0 hS0 hW0 hW1 hz0 hz1 hY hn hnb hs3;go_enter Tryz.func207,Tryz.ntmps207;go_wp2_with fail;rw[←HW0.out];clear q0 q1 q2
 go_loopw [14] (fun q wr=>∃ p:Nat,p≤n∧q = .int .i64 p∧Below W0.heap.size W0 wr∧Hid (zU l p (blocks.drop p)=Y)) (fun q _=>n - (intOf q).toNat)
 case atStart=>exact⟨0,Nat.zero_le _,rfl,Below.refl _ _,hid HY.out.symm⟩
 case round =>
  obtain⟨p,hp,rfl,hB,hD⟩:=hrel
  rename World=>U
  have hzU:=hB.size;have hz0:=HZ0.out;have hBw':Below w.heap.size w U:=HB0.out.trans (hB.mono (by omega));have hOU:=(hB.block (w.heap.size+1) (by omega)).trans HS0.out;have f0:=Lib.frozen_of_heap hOU 0;have f1:=Lib.frozen_of_heap hOU 1;obtain⟨s0,s1⟩:=zt hOU
  by_cases hlt:p<n
  · have hpx:p<blocks.length:=by rw[←HN.out];exact hlt
    have hpl:p<l.length:=by rw[←HLN.out];exact hlt
    obtain⟨g0,off,rfl,hg0⟩:=HG2.out (by omega);have hat:=((HBL.out.below (hBw'.mono hBw)).at rfl p hpx).2;have hbi:=HBI.out _ (List.getElem_mem hpx);have hd:=hD.out;rw[List.drop_eq_getElem_cons hpx,Qe l p l[p] _ _ (by rw[List.getElem?_eq_getElem hpl];rfl)]at hd;have hsp:=HS3.out _ (List.getElem_mem hpl);have c0:=Zb ((hB.block gb (by omega)).trans HL.out) p hpl;generalize hbb:blocks[p]=b at hat hbi hd;generalize l[p]=s at hd c0 hsp;obtain⟨io,icap,eiv,hilen,hig⟩:=hbi.lies.form;have hilies:=hbi.lies.below (hBw'.mono hBw);obtain⟨m,hm⟩:∃ m,m=b.ins.length:=⟨_,rfl⟩
    rw[←hm]at eiv hilen hig;obtain⟨p0,p1,p2,p3,p4⟩:=bc hat;rw[eiv]at p0 hilies;have hg0U:g0<U.heap.size:=by omega
    have hgbU:gb<U.heap.size:=by omega
    obtain⟨U1,hU1⟩:∃ U1,U1=U.alloc (.cells #[.slice io m icap,.int .u8 b.last,.int .i64 b.reg,.int .i64 b.yes,.int .i64 b.no] 118):=⟨_,rfl⟩
    have hBU:Below U.heap.size U U1:=by rw[hU1];exact ze U _
    have hBX:U1.heap[U.heap.size]? = some (.cells #[.slice io m icap,.int .u8 b.last,.int .i64 b.reg,.int .i64 b.yes,.int .i64 b.no] 118 (0,0)):=by rw[hU1];exact (MapKept.heap_alloc _ _).1
    have HIL:=hid hilies;have HM:=hid hm;have HIG:=hid hig;have HBX:=hid hBX;have HU1:=hid hU1;have HBU:=hid hBU;have HUU:=hid (hB.trans (hBU.mono hzU));have HZU:=hid (show U1.heap.size=U.heap.size+1 by rw[hU1];simp)
    by_cases hs:s=0
    · subst hs
      rw[if_pos rfl]at hd;have HD:=hid hd;clear hB hBw' hOU hat hbi hd hbb eiv hilies hm hig hBU hBX hU1 hD f0 f1 s0 s1;go_wp2_with fail;rw[←HU1.out];go_roundw
      case rel=>exact⟨p+1,hlt,by go_num,HUU.out,HD⟩
      case measure=>simp[intOf];omega
    · rw[if_neg hs]at hd
      have hon:s=1∨s=2∨s=3:=by omega
      have HD:=hid hd;have hs2:(((s:Nat):Int)==0)=false:=by simp only[beq_eq_false_iff_ne,ne_eq];omega
      have HON:=hid hon;clear hB hBw' hOU hat hbi hd hbb eiv hilies hm hig hBU hBX hU1 hD f0 f1 s0 s1 hs hon;go_wp2_with fail;rw[←HU1.out];clear c0 hs2
      go_loopw [8,28] (fun o q wr=>∃ k on:Nat,k≤m∧q = .int .i64 k∧o = .int .u8 (on:Int)∧Hid (on=1∨on=2∨on=3)∧Below U1.heap.size U1 wr∧Hid (uh l p b (blocks.drop (p+1)) (zS k on (b.ins.drop k))=Y)) (fun _ q _=>m - (intOf q).toNat)
      case atStart=>exact⟨0,s,Nat.zero_le _,rfl,rfl,HON,Below.refl _ _,HD⟩
      case round =>
       obtain⟨k,on,hk,rfl,rfl,HO,hB2,hD2⟩:=hrel;have hz2:=hB2.size;have hzU:=HZU.out;have hBW:=HUU.out.trans (hB2.mono (by have:=HUU.out.size;omega));have hUW:Below U.heap.size U wr:=HBU.out.trans (hB2.mono (by omega));have hSS:=(hBW.block (w.heap.size+1) (by omega)).trans HS0.out;obtain⟨x0,x1,x2,x3,x4⟩:=zx ((hB2.block U.heap.size (by omega)).trans HBX.out);have hd2:=hD2.out
       by_cases hlk:k<m
       · have hkx:k<b.ins.length:=by rw[←HM.out];exact hlk
         obtain⟨gi,offi,rfl,hgi⟩:=HIG.out (by omega);have hati:=((HIL.out.below (hUW.mono (by omega))).at rfl k hkx).2;rw[List.drop_eq_getElem_cons hkx,Qa]at hd2;generalize b.ins[k]=i at hati hd2;obtain⟨i0,i1,i2,i3,i4,i5⟩:=ic hati;have hgiw:gi<wr.heap.size:=by omega
         have hwr:w.heap.size+1<wr.heap.size:=by omega
         obtain⟨W2,hW2⟩:∃ W2,W2=wr.alloc (.cells #[.int .u8 i.k,.int .u8 i.o,.int .i64 i.a,.int .i64 i.b,.int .i64 i.c,.int .i64 i.n] 159):=⟨_,rfl⟩
         have hb2:Below wr.heap.size wr W2:=by rw[hW2];exact ze wr _
         have hI2:W2.heap[wr.heap.size]? = some (.cells #[.int .u8 i.k,.int .u8 i.o,.int .i64 i.a,.int .i64 i.b,.int .i64 i.c,.int .i64 i.n] 159 (0,0)):=by rw[hW2];exact (MapKept.heap_alloc _ _).1
         have hz3:=hb2.size;have hzw:W2.heap.size=wr.heap.size+1:=by rw[hW2];simp
         have hSS2:=(hb2.block (w.heap.size+1) (by omega)).trans hSS;have HSS2:=hid hSS2;have HBW2:=hid (hBW.trans (hb2.mono (by omega)));have HB2:=hid (hB2.trans (hb2.mono (by omega)));have HI2:=hid hI2;obtain⟨y0,y1,y2,y3,y4,y5⟩:=zl hI2;have HW2:=hid hW2;have HO:=HO;have HDD:=hid hd2;clear hB2 hD2 hati hd2 hW2 hI2 hb2 hSS hSS2 hUW hBW x0 x1 x2 x3 x4;rw[HW2.out]at y0 y1 y2 y3 y4 y5;have hwr2:wr.heap.size<W2.heap.size:=by omega
         go_wp2_with fail;rw[←HW2.out];clear y0 y1 y2 y3 y4 y5;obtain⟨y0,y1,y2,y3,y4,y5⟩:=zl HI2.out;have f0:=Lib.frozen_of_heap HSS2.out 0;have f1:=Lib.frozen_of_heap HSS2.out 1;obtain⟨s0,s1⟩:=zt HSS2.out;refine (Kc i.k _).mono ?_;rintro e w5 ⟨rfl,rfl⟩
         by_cases hz:yL i.k &&& on=0
         · have hcomb:(yL i.k=1∧on=2)∨(yL i.k=2∧on=1):=by
            rcases Zc i.k with h|h|h <;> rcases HO.out with h'|h'|h' <;> (rw[h,h']at hz ⊢;revert hz;decide)
           have HYY:=hid (show Y=some (p,k)by rw[←HDD.out,if_pos hz];rfl);clear hz;rcases hcomb with ⟨h,rfl⟩|⟨h,rfl⟩
           all_goals
            rw[h];clear h;go_wp2_with fail;refine bodyPost_ret (v:=.tuple #[.agg #[.int .i64 (p:Int),.int .i64 (k:Int)],.bool true]) (yw (p:=4) (u:=5) rfl _ _ (w.heap.size+1) _ _ _ rfl rfl (y9 HSS2.out _ _)) rfl ?_;exact⟨by rw[HYY.out];rfl,((HB0.out.trans (HBW2.out.mono (by omega))).setCell (by show w.heap.size≤w.heap.size+1;omega) _).setCell (by show w.heap.size≤w.heap.size+1;omega) _⟩
         · have HZ2:=hid (show uh l p b (blocks.drop (p+1)) (zS (k+1) (yD i.k on) (b.ins.drop (k+1)))=Y by rw[←HDD.out,if_neg hz])
           have HON2:=hid (z2d i.k HO.out);have HBH:=hid (fun u=>YV i on u);rcases HO.out with rfl|rfl|rfl <;> rcases Zc i.k with h|h|h
           all_goals first
            | exact absurd (by rw[h];rfl) hz
            | (rw[h]
               clear h hz f0 f1 s0 s1;go_wp2_with fail;refine (HBH.out _).mono ?_;rintro e w6 ⟨rfl,hb6⟩;have HB6:=hid (HB2.out.trans (hb6.mono (by have:=HB2.out.size;omega)));clear hb6 y0 y1 y2 y3 y4 y5;go_wp2_with fail;go_roundw
               case rel=>exact⟨k+1,_,hlk,by go_num,rfl,HON2,HB6.out,HZ2⟩
               case measure=>simp[intOf];omega)
       · rw[show b.ins.drop k=[]from List.drop_eq_nil_of_le (by rw[←HM.out];omega)]at hd2
         have hd3:(if b.last=3∧on=2 then some (p,b.ins.length) else zU l (p+1) (blocks.drop (p+1)))=Y:=hd2;rw[←HM.out]at hd3;have HDD:=hid hd3;have HB9:=hid hBW;have HSS:=hid hSS;have hwr:w.heap.size+1<wr.heap.size:=by omega
         have hUr:U.heap.size<wr.heap.size:=by omega
         have f0:=Lib.frozen_of_heap hSS 0;have f1:=Lib.frozen_of_heap hSS 1;obtain⟨s0,s1⟩:=zt hSS;clear hB2 hD2 hd2 hd3 hUW hBW hSS
         by_cases h3:b.last=3
         · by_cases h2:on=2
           · have HYY:=hid (show Y=some (p,m)by rw[←HDD.out,if_pos ⟨h3,h2⟩])
             have hb3:(b.last==3)=true:=by rw[h3];rfl
             subst h2;clear h3;go_wp2_with fail;refine bodyPost_ret (v:=.tuple #[.agg #[.int .i64 (p:Int),.int .i64 (m:Int)],.bool true]) (yw (p:=4) (u:=5) rfl _ _ (w.heap.size+1) _ _ _ rfl rfl (y9 HSS.out _ _)) rfl ?_;exact⟨by rw[HYY.out];rfl,((HB0.out.trans (HB9.out.mono (by omega))).setCell (by show w.heap.size≤w.heap.size+1;omega) _).setCell (by show w.heap.size≤w.heap.size+1;omega) _⟩
           · have HYY:=hid (show zU l (p+1) (blocks.drop (p+1))=Y by rw[←HDD.out,if_neg (fun q=>h2 q.2)])
             have hb3:(b.last==3)=true:=by rw[h3];rfl
             have hb2:(((on:Nat):Int)==2)=false:=by simp only[beq_eq_false_iff_ne,ne_eq];omega
             clear h3 h2 f0 f1 s0 s1;go_wp2_with fail;go_roundw
             case rel=>exact⟨p+1,hlt,by go_num,HB9.out,HYY⟩
             case measure=>simp[intOf];omega
         · have HYY:=hid (show zU l (p+1) (blocks.drop (p+1))=Y by rw[←HDD.out,if_neg (fun q=>h3 q.1)])
           have hb3:(b.last==3)=false:=by simp only[beq_eq_false_iff_ne,ne_eq];exact h3
           clear h3 f0 f1 s0 s1;go_wp2_with fail;go_roundw
           case rel=>exact⟨p+1,hlt,by go_num,HB9.out,HYY⟩
           case measure=>simp[intOf];omega
  · have hz:=hD.out
    rw[List.drop_eq_nil_of_le (by rw[←HN.out];omega)]at hz;have HYY:=hid (show Y=none from hz.symm);have HB9:=hid hB;have HOU:=hid hOU;have hwr:w.heap.size+1<U.heap.size:=by omega
    clear hB hD hz hBw' hOU;go_wp2_with fail;refine bodyPost_ret (v:=.tuple #[.agg #[.int .i64 0,.int .i64 0],.bool false]) (yw (p:=4) (u:=5) rfl _ _ (w.heap.size+1) _ _ _ rfl rfl (y9 HOU.out _ _)) rfl ?_;exact⟨by rw[HYY.out];rfl,((HB0.out.trans (HB9.out.mono (by omega))).setCell (by show w.heap.size≤w.heap.size+1;omega) _).setCell (by show w.heap.size≤w.heap.size+1;omega) _⟩
end
section
open Go.RowKit
def wW (l:List Nat):Array Value:=(l.map fun (s:Nat)=>Value.int .u8 (s:Int)).toArray
def jl (x:Nat × Nat):List Value:=[.int .i64 (x.1:Int),.int .u8 (x.2:Int)]
def rowS (S:List (Nat × Nat)):List Value:=S.reverse.flatMap jl
theorem jW (x:Nat × Nat) (S:List (Nat × Nat)):rowS (x :: S)=rowS S++jl x:=by simp[rowS,List.flatMap_append]
theorem WX:∀ S:List (Nat × Nat),(rowS S).length=S.length*2:=by
 intro S;induction S with
 | nil=>rfl
 | cons x S ih=>rw[jW,List.length_append,ih];simp[jl];omega
def qp:List Nat→Nat
 | []=>0
 | s :: l=>(if s &&& 1=0 then 0 else 1)+(if s &&& 2=0 then 0 else 1)+qp l
theorem YU:∀ l,qp l≤2*l.length:=by
 intro l;induction l with
 | nil=>exact Nat.le_refl _
 | cons s l ih =>
  simp only[qp,List.length_cons];have:(if s &&& 1=0 then 0 else 1)≤1:=by split <;> omega
  have:(if s &&& 2=0 then 0 else 1)≤1:=by split <;> omega
  omega
theorem z1v {s on:Nat} (hs:s≤3) (hon:on=1∨on=2) (hz:s &&& on=0) :
 (if (s ||| on) &&& 1=0 then 0 else 1)+(if (s ||| on) &&& 2=0 then 0 else 1)=(if s &&& 1=0 then 0 else 1)+(if s &&& 2=0 then 0 else 1)+1:=by
 have h:s=0∨s=1∨s=2∨s=3:=by omega
 rcases h with rfl|rfl|rfl|rfl <;> rcases hon with rfl|rfl <;> first|rfl|(revert hz;decide)
theorem or_le {s on:Nat} (hs:s≤3) (hon:on=1∨on=2):s ||| on≤3:=by
 have h:s=0∨s=1∨s=2∨s=3:=by omega
 rcases h with rfl|rfl|rfl|rfl <;> rcases hon with rfl|rfl <;> decide
theorem z1w {on:Nat} (hon:on=1∨on=2):∀ (l:List Nat) (t s:Nat),l[t]? = some s→s≤3→s &&& on=0→qp (l.set t (s ||| on))=qp l+1:=by
 intro l;induction l with
 | nil=>intro t s h;simp at h
 | cons a l ih =>
  intro t s h hs hz;cases t with
  | zero =>
   simp at h;subst h;have:=z1v hs hon hz;simp only[List.set_cons_zero,qp];omega
  | succ t =>
   simp at h;have:=ih t s h hs hz;simp only[List.set_cons_succ,qp];omega
structure Left (bl:List Bk) (Y:List Nat) (n f:Nat) (B:List Nat) (S:List (Nat × Nat)):Prop where
 gives:goS bl f B S=Y
 len:B.length=n
 small:∀ s ∈ B,s≤3
 ways:∀ x ∈ S,x.1<n∧(x.2=1∨x.2=2)
 fuel:6*n+S.length≤f+3*qp B
 most:f≤6*n+1
theorem Left.done {bl:List Bk} {Y:List Nat} {n f:Nat} {B:List Nat} (h:Left bl Y n f B []):B=Y:=by
 have:=h.gives;cases f <;> exact this
theorem Left.more {bl:List Bk} {Y:List Nat} {n f:Nat} {B:List Nat} {x:Nat × Nat} {S:List (Nat × Nat)} (h:Left bl Y n f B (x :: S)):∃ f',f=f'+1:=by
 have h1:=h.fuel;have h2:=YU B;rw[h.len]at h2;simp only[List.length_cons]at h1;exact⟨f - 1,by omega⟩
theorem Left.short {bl:List Bk} {Y:List Nat} {n f:Nat} {B:List Nat} {S:List (Nat × Nat)} (h:Left bl Y n f B S):S.length≤6*n+1:=by
 have h1:=h.fuel;have h2:=YU B;have h3:=h.most;rw[h.len]at h2;omega
theorem Left.skip {bl:List Bk} {Y:List Nat} {n f t on s:Nat} {B:List Nat} {S:List (Nat × Nat)} (h:Left bl Y n (f+1) B ((t,on) :: S)) (hs:B[t]? = some s) (hz:¬ s &&& on=0):Left bl Y n f B S:=by
 have h1:=h.fuel;simp only[List.length_cons]at h1;refine⟨?_,h.len,h.small,fun x hx=>h.ways x (List.mem_cons_of_mem _ hx),by omega,by have:=h.most;omega⟩;have:=h.gives;rw[goS,hs,Option.getD_some,if_neg hz]at this;exact this
def wm (b:Bk) (on:Nat):List (Nat × Nat):=(zC b).map fun y=>(y.toNat,zD b.ins on)
theorem z2a:∀ (l:List In) {on:Nat},on=1∨on=2→zD l on=1∨zD l on=2:=by
 intro l;induction l with
 | nil=>intro on h;exact h
 | cons i l ih =>
  intro on h;rw[zD];refine ih ?_;unfold yD;split
  · exact .inr rfl
  · split
    · exact .inl rfl
    · exact h
theorem ZO (b:Bk):(zC b).length≤2:=by
 unfold zC;split
 · simp
 · split <;> simp
theorem Left.step {bl:List Bk} {Y:List Nat} {n f t on s:Nat} {B:List Nat} {S:List (Nat × Nat)} {b:Bk} (h:Left bl Y n (f+1) B ((t,on) :: S)) (hs:B[t]? = some s) (hz:s &&& on=0) (hb:bl[t]? = some b)
 (hy:∀ y ∈ zC b,0≤y∧y<(n:Int)):Left bl Y n f (B.set t (s ||| on)) ((wm b on).reverse++S):=by
 have h1:=h.fuel;simp only[List.length_cons]at h1;have hon:=(h.ways _ (List.mem_cons_self ..)).2;have hm:=h.small s (List.mem_of_getElem? hs);have hb1:=z1w hon B t s hs hm hz;have hl:=ZO b;refine⟨?_,by rw[List.length_set];exact h.len, ?_, ?_, ?_,by have:=h.most;omega⟩
 · have:=h.gives
   rw[goS,hs,Option.getD_some,if_pos hz,hb]at this;exact this
 · intro x hx
   rcases List.mem_or_eq_of_mem_set hx with hx|rfl
   · exact h.small x hx
   · exact or_le hm hon
 · intro x hx
   rcases List.mem_append.1 hx with hx|hx
   · rw[List.mem_reverse,wm,List.mem_map]at hx
     obtain⟨y,hy1,rfl⟩:=hx;have:=hy y hy1;exact⟨by simp only;omega,z2a _ hon⟩
   · exact h.ways x (List.mem_cons_of_mem _ hx)
 · rw[List.length_append,List.length_reverse,wm,List.length_map,hb1]
   omega
structure xm (w:World) (o:Array Value) (v:Value) (B:List Nat) (S:List (Nat × Nat)) (wr:World):Prop where
 below:Below w.heap.size w wr
 box:wr.heap[w.heap.size]? = some (.cells o 75 (0,0))
 sides:wr.heap[w.heap.size+1]? = some (.cells (wW B) 361 (0,0))
 row:wr.ownsRow (w.heap.size+2) 363 2 v S.length (rowS S)
theorem xm.size {w wr:World} {o:Array Value} {v:Value} {B:List Nat} {S:List (Nat × Nat)} (h:xm w o v B S wr):w.heap.size+1<wr.heap.size:=(Array.getElem?_eq_some_iff.1 h.sides).1
theorem xm.keeps {w wr wr':World} {o:Array Value} {v:Value} {B:List Nat} {S:List (Nat × Nat)} (h:xm w o v B S wr) (hb:Below wr.heap.size wr wr'):xm w o v B S wr':=by
 have hz:=h.size;refine⟨h.below.trans (hb.mono (by omega)),(hb.block _ (by omega)).trans h.box,(hb.block _ hz).trans h.sides,h.row.kept (row:=none) ⟨hb.os,hb.tape,hb.output,hb.size,fun k hk _=>hb.block k hk⟩ ?_⟩;cases hv:v.ownBlock <;> simp
theorem xm.grown {w wr wr':World} {o:Array Value} {v v':Value} {B:List Nat} {S S':List (Nat × Nat)} (h:xm w o v B S wr) (hr:wr'.ownsRow (w.heap.size+2) 363 2 v' S'.length (rowS S')) (hg:wr.grownBy wr' v.ownBlock):xm w o v' B S' wr':=by
 have hz:=h.size;have hlo:=h.row.lt;have hne:∀ k,k<w.heap.size+2→some k≠v.ownBlock:=fun k hk e=>by have:=(hlo k e.symm).1;omega
 have hbl:∀ k,k<w.heap.size+2→wr'.heap[k]? = wr.heap[k]?:=fun k hk=>hg.block k (by omega) (hne k hk)
 refine⟨h.below.trans ⟨hg.os,hg.tape,hg.output,hg.size,fun k hk=>hbl k (by omega)⟩ |> fun q=>?_,(hbl _ (by omega)).trans h.box,(hbl _ (by omega)).trans h.sides,hr⟩;exact q
theorem xm.form {w wr:World} {o:Array Value} {v:Value} {B:List Nat} {S:List (Nat × Nat)} (h:xm w o v B S wr):∃ p c,v = .slice p S.length c:=by
 rcases h.row.2 with ⟨rfl,h0⟩|⟨g,cap,cur,rfl,_⟩
 · exact⟨none,0,by rw[h0]⟩
 · exact⟨_,_,rfl⟩
theorem xm.pop {w wr:World} {o:Array Value} {v:Value} {B:List Nat} {S:List (Nat × Nat)} {t on:Nat} (h:xm w o v B ((t,on) :: S) wr) :
 ∃ g cap,v = .slice (some ⟨g,0,none⟩) (S.length+1) cap∧g<wr.heap.size∧S.length+1≤cap∧cap≤maxLen∧wr.cell? ⟨g,S.length*2,none⟩ = some (.int .i64 (t:Int))∧wr.cell? ⟨g,S.length*2+1,none⟩ = some (.int .u8 (on:Int)) ∧
  xm w o (.slice (some ⟨g,0,none⟩) S.length cap) B S wr:=by
 have hl:=WX S;rcases h.row.2 with ⟨_,h0⟩|⟨g,cap,cur,rfl,hb,hg,hn,hm,hs,ht⟩
 · simp at h0
 simp only[List.length_cons]at hn ht
 have hc:∀ j u,(jl (t,on))[j]? = some u→wr.cell? ⟨g,S.length*2+j,none⟩ = some u:=fun j u hu=>by
  have hj:j<2:=by
   rcases Nat.lt_or_ge j 2 with q|q
   · exact q
   · rw[List.getElem?_eq_none (by simp[jl];exact q)]at hu;cases hu
  rw[cell_of_row wr g _ cur _ (0,0) hg,←Array.getElem?_toList];have:(cur.toList.take ((S.length+1)*2))[S.length*2+j]? = some u:=by rw[ht,jW,List.getElem?_append,if_neg (by omega),hl,Nat.add_sub_cancel_left];exact hu
  rw[List.getElem?_take,if_pos (by omega)]at this;exact this
 refine⟨g,cap,rfl,(Array.getElem?_eq_some_iff.1 hg).1,hn,hm,hc 0 _ rfl,hc 1 _ rfl,h.below,h.box,h.sides,hl,.inr ⟨g,cap,cur,rfl,hb,hg,by omega,hm,hs, ?_⟩⟩;have:(cur.toList.take ((S.length+1)*2)).take (S.length*2)=rowS S:=by rw[ht,jW,List.take_append_of_le_length (by omega),List.take_of_length_le (by omega)]
 rw[List.take_take,Nat.min_eq_left (by omega)]at this;exact this
theorem xm.set {w wr:World} {o:Array Value} {v:Value} {B:List Nat} {S:List (Nat × Nat)} (h:xm w o v B S wr) (t x:Nat):xm w o v (B.set t x) S (wr.setCell ⟨w.heap.size+1,t,none⟩ (.int .u8 (x:Int))):=by
 have hlo:=h.row.lt;refine⟨h.below.setCell (by show w.heap.size≤w.heap.size+1;omega) _, ?_, ?_,h.row.kept (row:=some (w.heap.size+1)) ⟨rfl,rfl,rfl,by simp[World.setCell],fun k hk hne=>Below.heap_setCell _ _ _ _ (by rintro rfl;exact hne rfl)⟩ ?_⟩
 · rw[Below.heap_setCell _ _ _ _ (by show w.heap.size≠w.heap.size+1;omega)];exact h.box
 · rw[heap_setCell_same wr _ t _ _ _ h.sides]
   unfold wW;simp[List.map_set]
 · cases hv:v.ownBlock with
   | none=>exact .inl rfl
   | some k=>exact .inr (fun e=>by have:=(hlo k hv).1;cases e;omega)
theorem xm.side {w wr:World} {o:Array Value} {v:Value} {B:List Nat} {S:List (Nat × Nat)} (h:xm w o v B S wr) {t s:Nat} (ht:B[t]? = some s):wr.cell? ⟨w.heap.size+1,t,none⟩ = some (.int .u8 (s:Int)):=by
 rw[Lib.cell_of_heap h.sides];unfold wW;simp[ht]
end
open Go.RowKit
attribute [local go_sem ↓] zL zJ
theorem Kt:(Tryz.prog.info? 361).map (fun i=>(i.zero,i.size,i.bytes))=some (some (.int .u8 0),1,1):=by kernel_rfl
theorem Ko:(Tryz.prog.info? 363).map (fun i=>(i.zero,i.size,i.bytes))=some (some (.agg #[.int .i64 0,.int .u8 0]),2,16):=by kernel_rfl
theorem Qp (n:Nat) (hn:n≤8192) (w:World):(Instr.makeSlice 339 (.int .i64 (n:Int)) (.int .i64 (n:Int))).run Tryz.prog w = .ok (.slice (some ⟨w.heap.size,0,none⟩) n n) (w.alloc (.cells (wW (List.replicate n 0)) 361)):=by
 obtain⟨i0,hi,hz0,hz1,hz2⟩:=info_parts Kt;have h:=run_make (P:=Tryz.prog) w 339 361 i0 (.int .u8 0) Tryz.underlying339 hi hz0 .i64 .i64 (n:Int) (n:Int) (by omega) (by omega) (by rw[hz2];omega) (by omega);rw[hz1,Int.toNat_natCast,Nat.mul_one]at h;have e:wW (List.replicate n 0)=(List.replicate n (Value.int .u8 0)).toArray:=by unfold wW;rw[List.map_replicate];rfl
 rw[h,e,←Y4]
 rfl
theorem YT {s on:Nat} (hs:s≤3) (hon:on=1∨on=2):bits BinOp.and .u8 (s:Int) (on:Int)=((s &&& on:Nat):Int):=by
 have h:s=0∨s=1∨s=2∨s=3:=by omega
 rcases h with rfl|rfl|rfl|rfl <;> rcases hon with rfl|rfl <;> rfl
theorem z1t {s on:Nat} (hs:s≤3) (hon:on=1∨on=2):bits BinOp.or .u8 (s:Int) (on:Int)=((s ||| on:Nat):Int):=by
 have h:s=0∨s=1∨s=2∨s=3:=by omega
 rcases h with rfl|rfl|rfl|rfl <;> rcases hon with rfl|rfl <;> rfl
theorem Xo (b:Bk) (on k:Nat) (h:k<(zC b).length) (hw:k<(wm b on).length):(wm b on)[k]=((zC b)[k].toNat,zD b.ins on):=by simp[wm]
def Xe (bl:List Bk) (w:World) (e:Ending) (w':World):Prop:=∃ gs,e = .returned (.slice (some ⟨gs,0,none⟩) bl.length bl.length)∧w.heap.size≤gs∧w'.heap[gs]? = some (.cells (wW (yo bl)) 361 (0,0))∧(yo bl).length=bl.length∧(∀ s ∈ yo bl,s≤3)∧Below w.heap.size w w'
theorem z2g (B0:Nat) (g:Gr) (w:World) (hI:GIn w B0 g) (hBw:B0≤w.heap.size) (hn1:1≤g.blocks.length∧g.blocks.length≤4096) (hok:∀ b ∈ g.blocks,∀ y ∈ zC b,0≤y∧y<(g.blocks.length:Int)) :
 Calls Tryz.prog 205 #[.agg #[g.rv,.int .i64 g.sites,g.bv]] w (Xe g.blocks w):=by
 obtain⟨Y,hY⟩:∃ Y,Y=yo g.blocks:=⟨_,rfl⟩
 unfold Xe;rw[←hY];obtain⟨i0,hi,hiz,his,hib⟩:=info_parts Ko;have HINF:=hid (And.intro hi (And.intro hiz (And.intro his hib)));clear hi hiz his hib;obtain⟨ro,rc,er,-,-⟩:=hI.rlies.form;obtain⟨bo,bcp,eb,hbl,hbg⟩:=hI.blies.form;have HBL:=hid hI.blies;have HBI:=hid hI.blocks;clear hI;obtain⟨rv,refs,sites,bv,blocks⟩:=g;simp only at *;subst er eb;obtain⟨N1,hN1⟩:∃ N,N=refs.length:=⟨_,rfl⟩
 obtain⟨n,hN2⟩:∃ N,N=blocks.length:=⟨_,rfl⟩
 rw[←hN1,←hN2];rw[←hN2]at hbl hbg HBL hn1 hok;obtain⟨G,hG⟩:∃ G:Array Value,G=#[.slice ro N1 rc,.int .i64 sites,.slice bo n bcp]:=⟨_,rfl⟩
 have hmk:=Qp n (by omega);have e0:=fun (x y:Int)=>zH 363 #[(0,.int .i64 x),(1,.int .u8 y)] #[.int .i64 x,.int .u8 y] (by kernel_rfl)
 have e1:=fun (x y:Int)=>wP 364 363 1 2 #[(0,.agg #[.int .i64 x,.int .u8 y])] #[.int .i64 x,.int .u8 y] (by kernel_rfl) (by kernel_rfl) (by kernel_rfl) (by omega) (by omega) (by kernel_rfl) (by kernel_rfl)
 obtain⟨W3,hW3⟩:∃ W3,W3=((w.alloc (.cells #[.slice ro N1 rc,.int .i64 sites,.slice bo n bcp] 75)).alloc (.cells (wW (List.replicate n 0)) 361)).alloc (.cells #[.int .i64 0,.int .u8 1] 363):=⟨_,rfl⟩
 have hS:xm w G (.slice (some ⟨w.heap.size+2,0,none⟩) 1 1) (List.replicate n 0) [(0,1)] W3:=by
  have h1:=(MapKept.heap_alloc w (.cells #[.slice ro N1 rc,.int .i64 sites,.slice bo n bcp] 75)).1;have h2:=(MapKept.heap_alloc (w.alloc (.cells #[.slice ro N1 rc,.int .i64 sites,.slice bo n bcp] 75)) (.cells (wW (List.replicate n 0)) 361)).1;have z1:(w.alloc (.cells #[.slice ro N1 rc,.int .i64 sites,.slice bo n bcp] 75)).heap.size=w.heap.size+1:=by simp
  have z2:((w.alloc (.cells #[.slice ro N1 rc,.int .i64 sites,.slice bo n bcp] 75)).alloc (.cells (wW (List.replicate n 0)) 361)).heap.size=w.heap.size+2:=by simp
  rw[z1]at h2;refine⟨?_, ?_, ?_, ?_⟩
  · rw[hW3];exact ((ze w _).alloc (by omega) _).alloc (by omega) _
  · rw[hW3,hG,Below.heap_alloc _ _ _ (by omega),Below.heap_alloc _ _ _ (by omega)];exact h1
  · rw[hW3,Below.heap_alloc _ _ _ (by omega)];exact h2
  · have h3:=World.ownsRow_lit (base:=w.heap.size+2) (e:=363) (size:=2) ((w.alloc (.cells #[.slice ro N1 rc,.int .i64 sites,.slice bo n bcp] 75)).alloc (.cells (wW (List.replicate n 0)) 361)) #[.int .i64 0,.int .u8 1] 1 (by omega) (by decide) rfl
    rw[z2]at h3;rw[hW3];exact h3
 have hL:Left blocks Y n (6*n+1) (List.replicate n 0) [(0,1)]:=by
  refine⟨?_,by simp,by intro s hs;rw[List.eq_of_mem_replicate hs];omega,by intro x hx;rw[List.mem_singleton.1 hx];exact⟨by simp only;omega,.inl rfl⟩,by simp,Nat.le_refl _⟩;rw[hY,yo,←hN2]
 have HG:=hid hG;have HN:=hid hN2;have HOK:=hid hok;have HG2:=hid hbg;have HS:=hid hS;have HL:=hid hL;have HW3:=hid hW3;obtain⟨q0,q1,q2⟩:=yl (MapKept.heap_alloc w (.cells #[.slice ro N1 rc,.int .i64 sites,.slice bo n bcp] 75)).1;clear hN1 hN2 hok hbg hS hL hW3 hY hG;go_enter Tryz.func205,Tryz.ntmps205;go_wp2_with fail;rw[←HW3.out];clear q0 q1 q2
 go_loopg [4] (6*n+1) (fun f v wr=>∃ B S,xm w G v B S wr∧Hid (Left blocks Y n f B S))
 case atStart=>exact⟨_,_,HS.out,HL⟩
 case round =>
  obtain⟨B,S,hA,HLF⟩:=hrel
  rename World=>V
  cases S with
  | nil =>
   obtain⟨p,c,rfl⟩:=hA.form;have HD:=hid HLF.out;have HA:=hid hA;clear hA hmk e0 e1;go_wp2_with fail;go_ret;have h:=HD.out.done;subst h;exact⟨_,rfl,by omega,HA.out.sides,HD.out.len,HD.out.small,HA.out.below⟩
  | cons x S =>
   obtain⟨t,on⟩:=x;obtain⟨f',hf'⟩:=HLF.out.more;subst hf';obtain⟨g1,cap,rfl,hg1,hcap,hcm,c0,c1,hP⟩:=hA.pop;obtain⟨htn,hon⟩:=HLF.out.ways _ (List.mem_cons_self ..);simp only at htn hon;have hsh:=HLF.out.short;simp only[List.length_cons]at hsh;obtain⟨s,hs⟩:∃ s,B[t]? = some s:=⟨_,List.getElem?_eq_getElem (show t<B.length by rw[HLF.out.len];exact htn)⟩
   have hs3:=HLF.out.small s (List.mem_of_getElem? hs);obtain⟨K,hK⟩:∃ K,K=S.length:=⟨_,rfl⟩
   rw[←hK]at c0 c1 hP hcap hsh;obtain⟨U,hU⟩:∃ U,U=V.alloc (.cells #[.int .i64 (t:Int),.int .u8 (on:Int)] 363):=⟨_,rfl⟩
   have hBU:Below V.heap.size V U:=by rw[hU];exact ze V _
   have hzU:U.heap.size=V.heap.size+1:=by rw[hU];simp
   have hPU:=hP.keeps hBU;have hWU:U.heap[V.heap.size]? = some (.cells #[.int .i64 (t:Int),.int .u8 (on:Int)] 363 (0,0)):=by rw[hU];exact (MapKept.heap_alloc _ _).1
   have hzV:=hA.size;have HU:=hid hU;have HPU:=hid hPU;have HWU:=hid hWU;have HK:=hid hK;have HON:=hid hon;have HS1:=hid hs;have HS3:=hid hs3;have hkl:(S.length+1:Nat)=K+1:=by omega
   rw[hkl];clear hA hP hU hBU hPU hWU hK hon hs hs3 hkl;go_wp2_with fail;rw[←HU.out];have hsd:=HPU.out.side HS1.out;obtain⟨a0,a1⟩:=zt HWU.out
   by_cases hz:s &&& on=0
   · have hb:bits BinOp.and .u8 (s:Int) (on:Int)=0:=by rw[YT HS3.out HON.out,hz];rfl
     have HZ:=hid hz;clear hz;refine wp_region_held_drew (S:=zk (V.heap.size+1) U) (by kernel_rfl) (zk.drew _ _) (fun hSw=>?_);refine tH 0 (.slice (some ⟨w.heap.size+1,0,none⟩) n n) hSw ?_;(try simp only[nS]);refine tH 1 (.pointer (some ⟨V.heap.size,0,none⟩)) hSw ?_;(try simp only[nS]);refine tG 2 (.int .i64 (t:Int)) hSw (fun W hW=>?_) ?_
     · have a0:=hW.cell (by dsimp only;omega) a0
       first|(go_simp;done)|rfl
     (try simp only[nS]);refine tH 3 (.pointer (some ⟨w.heap.size+1,t,none⟩)) hSw ?_;(try simp only[nS]);refine tG 4 (.int .u8 (s:Int)) hSw (fun W hW=>?_) ?_
     · have hsd:=hW.cell (by dsimp only;omega) hsd
       first|(go_simp;done)|rfl
     (try simp only[nS]);refine tH 5 (.pointer (some ⟨V.heap.size,1,none⟩)) hSw ?_;(try simp only[nS]);refine tG 6 (.int .u8 (on:Int)) hSw (fun W hW=>?_) ?_
     · have a1:=hW.cell (by dsimp only;omega) a1
       first|(go_simp;done)|rfl
     (try simp only[nS]);refine tH 7 (.int .u8 0) hSw ?_;(try simp only[nS]);refine tH 8 (.bool false) hSw ?_;(try simp only[nS]);refine wpAnyH_done (by kernel_rfl) ?_ _;clear hb hsd a0 a1;go_wp2_with fail;obtain⟨U2,hU2⟩:∃ U2,U2=U.drew:=⟨_,rfl⟩
     rw[←hU2];have hB2:Below U.heap.size U U2:=by rw[hU2];exact below_drewN (Below.refl _ _) 1
     have hP2:=HPU.out.keeps hB2;have hW2:U2.heap[V.heap.size]? = some (.cells #[.int .i64 (t:Int),.int .u8 (on:Int)] 363 (0,0)):=by rw[hU2];exact HWU.out
     have hz2:U2.heap.size=V.heap.size+1:=by rw[hU2];exact hzU
     have hsd:=hP2.side HS1.out;obtain⟨a0,a1⟩:=zt hW2;have f0:=Lib.frozen_of_heap hP2.sides t;obtain⟨X,hX⟩:∃ X,X=s ||| on:=⟨_,rfl⟩
     have hb:=z1t HS3.out HON.out;rw[←hX]at hb;have HX:=hid hX;have HP2:=hid hP2;have HW2:=hid hW2;clear hU2 hB2 hP2 hW2 hX;refine yO (S:=zk (V.heap.size+1) U2) (fun j=>decide (8≤j)) (by kernel_rfl) (zk.drew _ _) (fun hSw=>?_);refine lH 0 (.slice (some ⟨w.heap.size+1,0,none⟩) n n) hSw ?_;(try simp only[nS]);refine lH 1 (.pointer (some ⟨V.heap.size,0,none⟩)) hSw ?_;(try simp only[nS]);refine lG 2 (.int .i64 (t:Int)) hSw (fun W hW=>?_) ?_
     · have a0:=hW.cell (by dsimp only;omega) a0
       first|(go_simp;done)|rfl
     (try simp only[nS]);refine lH 3 (.pointer (some ⟨w.heap.size+1,t,none⟩)) hSw ?_;(try simp only[nS]);refine lG 4 (.int .u8 (s:Int)) hSw (fun W hW=>?_) ?_
     · have hsd:=hW.cell (by dsimp only;omega) hsd
       first|(go_simp;done)|rfl
     (try simp only[nS]);refine lH 5 (.pointer (some ⟨V.heap.size,1,none⟩)) hSw ?_;(try simp only[nS]);refine lG 6 (.int .u8 (on:Int)) hSw (fun W hW=>?_) ?_
     · have a1:=hW.cell (by dsimp only;omega) a1
       first|(go_simp;done)|rfl
     (try simp only[nS]);refine lH 7 (.int .u8 (X:Int)) hSw ?_;(try simp only[nS]);refine yP (rs:=[8]) (by kernel_rfl) (by simp) (by rfl) ?_;refine oR 8 (fun J hK=>?_);go_simp;refine hK.out _ _ ?_;clear hK J;(try simp only[nS]);refine oR 9 (fun J hK=>?_);go_simp;refine hK.out _ _ ?_;clear hK J;(try simp only[nS]);refine wpAny_done (by kernel_rfl) ?_ _;obtain⟨V2,hV2⟩:∃ V2,V2=(U2.setCell ⟨w.heap.size+1,t,none⟩ (.int .u8 (X:Int))).drew:=⟨_,rfl⟩
     rw[←hV2];have hP3:xm w G (.slice (some ⟨g1,0,none⟩) K cap) (B.set t X) S V2:=by rw[hV2];exact (HP2.out.set t X).keeps (below_drewN (Below.refl _ _) 1)
     have hz3:V2.heap.size=V.heap.size+1:=by rw[hV2];show (U2.setCell _ _).heap.size=_;simp[World.setCell,hz2]
     have hW3:V2.heap[V.heap.size]? = some (.cells #[.int .i64 (t:Int),.int .u8 (on:Int)] 363 (0,0)):=by rw[hV2];show (U2.setCell _ _).heap[V.heap.size]? = _;rw[Below.heap_setCell _ _ _ _ (by show V.heap.size≠w.heap.size+1;omega)];exact HW2.out
     have htx:t<blocks.length:=by rw[←HN.out];exact htn
     obtain⟨g0,off,rfl,hg0⟩:=HG2.out (by omega);have hat:=((HBL.out.below (hP3.below.mono hBw)).at rfl t htx).2;have hbi:=HBI.out _ (List.getElem_mem htx);have hyb:=HOK.out _ (List.getElem_mem htx);have hbt:blocks[t]? = some blocks[t]:=List.getElem?_eq_getElem htx;generalize blocks[t]=b at hat hbi hyb hbt;have hstep:=HLF.out.step HS1.out HZ.out hbt hyb;rw[←HX.out]at hstep;obtain⟨io,icap,eiv,hilen,hig⟩:=hbi.lies.form;have hilies:=hbi.lies.below (hP3.below.mono hBw);obtain⟨m,hm⟩:∃ m,m=b.ins.length:=⟨_,rfl⟩
     rw[←hm]at eiv hilen hig;have hbox:=hP3.box;rw[HG.out]at hbox;have HBOX:=hid hbox;have HPC:=hid hat;have HEV:=hid eiv;have HVV:=hid (show ∃ ao n' cap',b.iv = .slice ao n' cap' from⟨_,_,_,eiv⟩);have HNX:=hid (fun (u:World)=>VQ b u ⟨_,_,_,eiv⟩);obtain⟨p0,p1,p2,p3,p4⟩:=bc hat;rw[eiv]at p0 hilies;rw[eiv]at HNX;obtain⟨q0,q1,q2⟩:=yl hbox;obtain⟨a0,a1⟩:=zt hW3;obtain⟨ON,hONN⟩:∃ ON,ON=zD b.ins on:=⟨_,rfl⟩
     have HONN:=hid (show zD (b.ins.drop 0) on=ON from hONN.symm);have HONE:=hid hONN;have HIL:=hid hilies;have HM:=hid hm;have HIG:=hid hig;have HYB:=hid hyb;have HP3:=hid hP3;have HW3:=hid hW3;have HST:=hid hstep;have hgV:g0<V2.heap.size:=by omega
     clear hV2 hP3 hW3 hat hbi hyb hbt hstep eiv hilies hm hig hbox hONN hsd f0 hb;go_wp2_with fail
     go_loopw [6,59] (fun o q wr=>∃ k on':Nat,k≤m∧q = .int .i64 k∧o = .int .u8 (on':Int)∧Below V2.heap.size V2 wr∧Hid (zD (b.ins.drop k) on'=ON)) (fun _ q _=>m - (intOf q).toNat)
     case atStart=>exact⟨0,on,Nat.zero_le _,rfl,rfl,Below.refl _ _,HONN⟩
     case round =>
      obtain⟨k,on2,hk,rfl,rfl,hB,hD⟩:=hrel;have hzr:=hB.size;have hd:=hD.out;clear p0 p1 p2 p3 p4 q0 q1 q2 a0 a1
      by_cases hlk:k<m
      · have hkx:k<b.ins.length:=by rw[←HM.out];exact hlk
        obtain⟨gi,offi,rfl,hgi⟩:=HIG.out (by omega);have hati:=((HIL.out.below (hB.mono (by omega))).at rfl k hkx).2;rw[List.drop_eq_getElem_cons hkx,zD]at hd;generalize b.ins[k]=i at hati hd;obtain⟨i0',i1,i2,i3,i4,i5⟩:=ic hati;have hgiw:gi<wr.heap.size:=by omega
        obtain⟨W2,hW2⟩:∃ W2,W2=wr.alloc (.cells #[.int .u8 i.k,.int .u8 i.o,.int .i64 i.a,.int .i64 i.b,.int .i64 i.c,.int .i64 i.n] 159):=⟨_,rfl⟩
        have hb2:Below wr.heap.size wr W2:=by rw[hW2];exact ze wr _
        have HB2:=hid (hB.trans (hb2.mono hzr));obtain⟨y0,y1,y2,y3,y4,y5⟩:=zl (MapKept.heap_alloc wr (.cells #[.int .u8 i.k,.int .u8 i.o,.int .i64 i.a,.int .i64 i.b,.int .i64 i.c,.int .i64 i.n] 159)).1;have HBH:=hid (YV i on2 W2);have HW2:=hid hW2;have HDD:=hid hd;clear hB hD hd hati hW2 hb2;go_wp2_with fail;rw[←HW2.out];refine HBH.out.mono ?_;rintro e w6 ⟨rfl,hb6⟩;have HB6:=hid (HB2.out.trans (hb6.mono HB2.out.size));clear hb6 y0 y1 y2 y3 y4 y5;go_wp2_with fail;go_roundw
        case rel=>exact⟨k+1,_,hlk,by go_num,rfl,HB6.out,HDD⟩
        case measure=>simp[intOf];omega
      · rw[show b.ins.drop k=[]from List.drop_eq_nil_of_le (by rw[←HM.out];omega)]at hd
        have hon2:on2=ON:=hd;subst hon2;obtain⟨p0,p1,p2,p3,p4⟩:=bc (fun j u hu=>(World.cell?_of_block (hB.block _ hgV)).trans (HPC.out j u hu));rw[HEV.out]at p0;obtain⟨q0,q1,q2⟩:=yl ((hB.block w.heap.size (by omega)).trans HBOX.out);obtain⟨a0,a1⟩:=zt ((hB.block V.heap.size (by omega)).trans HW3.out);have hgr:g0<wr.heap.size:=by omega
        have HPR:=hid (HP3.out.keeps hB);have HC:=hid (HNX.out wr);have hzw:=HP3.out.size;clear hB hD hd;go_wp2_with fail;refine HC.out.mono ?_;rintro e w6 ⟨sv,rfl,⟨ao,ncap,rfl,hint⟩,hb6⟩;have hP6:=HPR.out.keeps hb6;have hlen2:=ZO b;obtain⟨c,hc⟩:∃ c,c=(zC b).length:=⟨_,rfl⟩
        rw[←hc]at hlen2
        have hint2:∀ j y,(zC b)[j]? = some y→∃ gN,ao=some ⟨gN,0,none⟩ ∧ gN≠g1∧gN<w6.heap.size∧w6.cell? ⟨gN,j,none⟩ = some (.int .i64 y):=fun j y hj=>by
         rcases hint with h|⟨gN,h1,h2,h3,h4⟩
         · rw[h]at hj;simp at hj
         · exact⟨gN,h1,by omega,h3,h4 j y hj⟩
        rw[←hc];have HCC:=hid hc;have HP6:=hid hP6;have HI6:=hid hint2;clear hP6 hint hint2 hb6 hc p0 p1 p2 p3 p4 q0 q1 q2 a0 a1;go_wp2_with fail
        go_loopw [4,75] (fun v q wr2=>∃ k g' cap':Nat,k≤c∧q = .int .i64 k∧v = .slice (some ⟨g',0,none⟩) (K+k) cap'∧xm w G v (B.set t X) (((wm b on).take k).reverse++S) wr2∧Hid (∀ j y,(zC b)[j]? = some y→∃ gN,ao=some ⟨gN,0,none⟩ ∧ gN≠g'∧gN<wr2.heap.size∧wr2.cell? ⟨gN,j,none⟩ = some (.int .i64 y))) (fun _ q _=>c - (intOf q).toNat)
        case atStart=>exact⟨0,g1,cap,Nat.zero_le _,rfl,rfl,HP6.out,HI6⟩
        case round =>
         obtain⟨k2,g2,cap2,hk2,rfl,rfl,hA2,hI2⟩:=hrel
         by_cases hlc:k2<c
         · have hkx2:k2<(zC b).length:=by rw[←HCC.out];exact hlc
           have hkw:k2<(wm b on).length:=by unfold wm;rw[List.length_map];exact hkx2
           have hwk:(wm b on)[k2]=((zC b)[k2].toNat,zD b.ins on):=Xo b on k2 hkx2 hkw;have hS2:((wm b on).take (k2+1)).reverse++S=(wm b on)[k2] :: (((wm b on).take k2).reverse++S):=by rw[List.take_succ_eq_append_getElem hkw,List.reverse_append];rfl
           obtain⟨gN,rfl,hgN,hgNz,hcN⟩:=hI2.out k2 _ (List.getElem?_eq_getElem hkx2);have hy0:=(HYB.out _ (List.getElem_mem hkx2)).1;obtain⟨yn,hyn⟩:∃ yn:Nat,(zC b)[k2]=(yn:Int):=⟨(zC b)[k2].toNat,by omega⟩
           rw[hyn]at hcN hwk;rw[Int.toNat_natCast,←HONE.out]at hwk;rw[hwk]at hS2;have hSl:(((wm b on).take k2).reverse++S).length=K+k2:=by rw[List.length_append,List.length_reverse,List.length_take,Nat.min_eq_left (by omega),←HK.out];omega
           have hrow:=hA2.row;rw[hSl]at hrow;have hAz:=hA2.size;have HAL:=hid (hA2.keeps (ze wr (.cells #[.int .i64 (yn:Int),.int .u8 (on2:Int)] 363)));have HA2:=hid hA2;have HS2:=hid hS2;have HSL:=hid hSl;have HRW:=hid hrow;clear hA2 hrow hS2 hSl hwk hyn hy0 hkw;go_wp2_with (at_builtin;refine wpList_append_lies _ rfl _ _ 364 rfl (w.heap.size+2) 363 i0 (.agg #[.int .i64 0,.int .u8 0]) 2 16 Tryz.underlying364 HINF.out.1 HINF.out.2.1 HINF.out.2.2.1 HINF.out.2.2.2 rfl (by decide) (.slice (some ⟨g2,0,none⟩) (K+k2) cap2) (K+k2) _ rfl (HRW.out.alloc _) ⟨wr.heap.size,0,none⟩ 1 1 [.int .i64 (yn:Int),.int .u8 (on2:Int)] rfl rfl ?c1 ?c2 ?c3 ?c4 ?c5 ?c6 _ rfl ?_)
           case c1=>exact World.news_of_block (MapKept.heap_alloc _ _).1
           case c2=>simp[Value.oneCell']
           case c3=>decide
           case c4=>unfold maxLen;omega
           case c5=>omega
           case c6=>simp;omega
           intro g3 cap3 w7 hown7 hgr7 hgo7 hlt7;have HO7:=hid hown7;have HG7:=hid hgr7;have HGO:=hid hgo7;clear hown7 hgr7 hgo7;go_wp2_with fail;go_roundw
           case rel =>
            refine⟨k2+1,g3,cap3,hlc,by go_num,rfl, ?_,hid fun j y hj=>?_⟩
            · rw[HS2.out]
              refine HAL.out.grown ?_ HG7.out;rw[List.length_cons,HSL.out,jW];exact HO7.out
            · obtain⟨gM,e1,e2,e3,e4⟩:=hI2.out j y hj
              cases e1
              have hne:gN≠g3:=by
               rcases HGO.out with h|h
               · cases h;exact e2
               · rw[h];simp;omega
              refine⟨gN,rfl,hne,Nat.lt_of_lt_of_le e3 (Nat.le_trans (by simp) HG7.out.size), ?_⟩;rw[World.cell?_of_block (a:=⟨gN,j,none⟩) (HG7.out.block gN (by simp;omega) (by intro q;cases q;exact e2 rfl)),World.cell?_of_block (a:=⟨gN,j,none⟩) (Below.heap_alloc _ _ _ e3)];exact e4
           case measure=>simp[intOf];omega
         · have hk3:k2=c:=by omega
           subst hk3;have htk:(wm b on).take k2=wm b on:=List.take_of_length_le (by unfold wm;rw[List.length_map,←HCC.out];exact Nat.le_refl _);rw[htk]at hA2;have HA2:=hid hA2;clear hA2 htk hI2;go_wp2_with fail
           go_roundg f'
           case rel=>exact⟨_,_,HA2.out,HST⟩
           case measure=>omega
   · obtain⟨c,hc⟩:∃ c:Int,c=((s &&& on:Nat):Int):=⟨_,rfl⟩
     have hb:bits BinOp.and .u8 (s:Int) (on:Int)=c:=by rw[YT HS3.out HON.out,hc]
     have hc0:(c==0)=false:=by simp only[beq_eq_false_iff_ne,ne_eq];omega
     have hc1:(c != 0)=true:=by simp only[bne_iff_ne,ne_eq];omega
     have HZ:=hid hz;clear hz hc hc0;refine wp_region_held_drew (S:=zk (V.heap.size+1) U) (by kernel_rfl) (zk.drew _ _) (fun hSw=>?_);refine tH 0 (.slice (some ⟨w.heap.size+1,0,none⟩) n n) hSw ?_;(try simp only[nS]);refine tH 1 (.pointer (some ⟨V.heap.size,0,none⟩)) hSw ?_;(try simp only[nS]);refine tG 2 (.int .i64 (t:Int)) hSw (fun W hW=>?_) ?_
     · have a0:=hW.cell (by dsimp only;omega) a0
       first|(go_simp;done)|rfl
     (try simp only[nS]);refine tH 3 (.pointer (some ⟨w.heap.size+1,t,none⟩)) hSw ?_;(try simp only[nS]);refine tG 4 (.int .u8 (s:Int)) hSw (fun W hW=>?_) ?_
     · have hsd:=hW.cell (by dsimp only;omega) hsd
       first|(go_simp;done)|rfl
     (try simp only[nS]);refine tH 5 (.pointer (some ⟨V.heap.size,1,none⟩)) hSw ?_;(try simp only[nS]);refine tG 6 (.int .u8 (on:Int)) hSw (fun W hW=>?_) ?_
     · have a1:=hW.cell (by dsimp only;omega) a1
       first|(go_simp;done)|rfl
     (try simp only[nS]);refine tH 7 (.int .u8 c) hSw ?_;(try simp only[nS]);refine tH 8 (.bool true) hSw ?_;(try simp only[nS]);refine wpAnyH_done (by kernel_rfl) ?_ _;clear hb hsd a0 a1 hc1;go_wp2_with fail
     go_roundg f'
     case rel=>exact⟨_,_,HPU.out.keeps (below_drewN (Below.refl _ _) 1),hid (HLF.out.skip HS1.out HZ.out)⟩
     case measure=>omega
