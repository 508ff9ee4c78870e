import Derived.Test.YtlboinokdhmacaaGreatDoorIrBoth
import Derived.Test.YtlboinokdhmacaaGreatDoorCdGr
namespace Go.Proofs.YtlboinokdhmacaaGreatDoor
set_option maxHeartbeats 64000000
set_option maxRecDepth 1000000
open Lib(hid)
section
open Go.RowKit
attribute [local go_sem ↓] zL zJ
theorem XR (B:Nat) (g:Gr) (w:World) (hI:GIn w B g) (hBw:B≤w.heap.size) :
 Calls Tryz.prog 226 #[.agg #[g.rv,.int .i64 g.sites,g.bv]] w fun e w'=>e = .returned (.bool (wy 8192 g.blocks))∧Below w.heap.size w w':=by
 obtain⟨Y,hY⟩:∃ Y,Y=wy 8192 g.blocks:=⟨_,rfl⟩
 rw[←hY];have r2:=hI.blies.room;obtain⟨ro,rc,er,hrl,-⟩:=hI.rlies.form;obtain⟨bo,bcp,eb,hbl,hbg⟩:=hI.blies.form;have HBL:=hid hI.blies;have HBI:=hid hI.blocks;clear hI;obtain⟨rv,refs,sites,bv,blocks⟩:=g;simp only at *;subst er eb;obtain⟨N1,hN1⟩:∃ N,N=refs.length:=⟨_,rfl⟩
 obtain⟨N2,hN2⟩:∃ N,N=blocks.length:=⟨_,rfl⟩
 rw[←hN1,←hN2];rw[←hN2]at hbl r2 hbg HBL;obtain⟨W0,hW0⟩:∃ W0,W0=w.alloc (.cells #[.slice ro N1 rc,.int .i64 sites,.slice bo N2 bcp] 75):=⟨_,rfl⟩
 have hB0:Below w.heap.size w W0:=by rw[hW0];exact ze w _
 have hlt0:w.heap.size+1=W0.heap.size:=by rw[hW0];simp
 have hO:W0.heap[w.heap.size]? = some (.cells #[.slice ro N1 rc,.int .i64 sites,.slice bo N2 bcp] 75 (0,0)):=by rw[hW0];exact (MapKept.heap_alloc _ _).1
 obtain⟨q0,q1,q2⟩:=yl hO;rw[hW0]at q0 q1 q2;have HN2:=hid hN2;have HG2:=hid hbg;have HB0:=hid hB0;have HZ0:=hid hlt0;have HY:=hid hY;have HW0:=hid hW0;clear hN1 hN2 hbg hB0 hlt0 hO hW0 hY hrl;go_enter Tryz.func226,Tryz.ntmps226;go_wp2_with fail;rw[←HW0.out];clear q0 q1 q2
 go_loopw [3,9] (fun m q wr=>∃ k:Nat,k≤N2∧q = .int .i64 k∧∃ r:Int,m = .int .i64 r∧0≤r∧r≤8192∧Hid (Y=wy r (blocks.drop k))∧Below W0.heap.size W0 wr) (fun _ q _=>N2 - (intOf q).toNat)
 case atStart=>exact⟨0,by omega,rfl,8192,rfl,by omega,by omega,HY,Below.refl _ _⟩
 case round =>
  obtain⟨k,hkN,rfl,r,rfl,hr0,hr1,HD,hB⟩:=hrel;have hsr:=hB.size;have hBw':Below w.heap.size w wr:=HB0.out.trans (hB.mono (by have:=HZ0.out;omega))
  by_cases hlt2:k<N2
  · obtain⟨g,off,rfl,hg⟩:=HG2.out (by omega)
    have hka:k<blocks.length:=by rw[←HN2.out];exact hlt2
    have hat:=((HBL.out.below (hBw'.mono hBw)).at rfl k hka).2;have ha:=HBI.out _ (List.getElem_mem hka);have hd:=HD.out;rw[List.drop_eq_getElem_cons hka]at hd;generalize blocks[k]=a at hat ha hd;have hgs:g<wr.heap.size:=by have:=HZ0.out;omega
    obtain⟨p0,p1,p2,p3,p4⟩:=bc hat;obtain⟨ao,ac,ea,-⟩:=ha.lies.form;have hra:=ha.lies.room;rw[ea]at p0;rw[wy]at hd;obtain⟨NA,hNA⟩:∃ N,N=a.ins.length:=⟨_,rfl⟩
    rw[←hNA]at p0 hra hd
    by_cases hlo:r<(NA:Int)
    · rw[if_pos hlo]at hd
      have HD2:=hid hd;have HB9:=hid (hBw'.alloc (o:=.cells #[.slice ao NA ac,.int .u8 a.last,.int .i64 a.reg,.int .i64 a.yes,.int .i64 a.no] 118) (by have:=hBw'.size;omega));clear hka hat ha ea hB hBw' hd HD hNA;go_wp2_with fail;go_ret;exact⟨by rw[HD2.out];rfl,HB9.out⟩
    · rw[if_neg hlo]at hd
      have HD2:=hid hd;have HB:=hid (hB.alloc (o:=.cells #[.slice ao NA ac,.int .u8 a.last,.int .i64 a.reg,.int .i64 a.yes,.int .i64 a.no] 118) hsr);clear hka hat ha ea hB hBw' hd HD hNA;go_wp2_with fail;go_roundw
      case rel=>exact⟨k+1,by omega,by go_num,r - (NA:Int),by go_num,by omega,by omega,HD2,HB.out⟩
      case measure=>simp[intOf];omega
  · have hd:=HD.out
    rw[List.drop_eq_nil_of_le (by rw[←HN2.out];omega)]at hd;have HD2:=hid (show Y=false from hd);have HB9:=hid hBw';clear hB hBw' hd HD;go_wp2_with fail;go_ret;exact⟨by rw[HD2.out];rfl,HB9.out⟩
theorem z18 (B:Nat) (g:Gr) (w:World) (hI:GIn w B g) (hBw:B≤w.heap.size) :
 Calls Tryz.prog 202 #[.agg #[g.rv,.int .i64 g.sites,g.bv]] w fun e w'=>e = .returned (.int .i64 (xM g))∧Below w.heap.size w w':=by
 obtain⟨Y,hY⟩:∃ Y,Y=xM g:=⟨_,rfl⟩
 rw[←hY];unfold xM at hY;have r1:=hI.rlies.room;have r2:=hI.blies.room;have r3:=hI.sites;obtain⟨ro,rc,er,hrl,-⟩:=hI.rlies.form;obtain⟨bo,bcp,eb,hbl,-⟩:=hI.blies.form;have HT:=hid (fun (u:World) (hu:Below w.heap.size w u)=>XR B g u (hI.keeps (hu.mono hBw)) (Nat.le_trans hBw hu.size));clear hI;obtain⟨rv,refs,sites,bv,blocks⟩:=g;simp only at *;subst er eb;generalize wy 8192 blocks=LB at *;obtain⟨N1,hN1⟩:∃ N,N=refs.length:=⟨_,rfl⟩
 obtain⟨N2,hN2⟩:∃ N,N=blocks.length:=⟨_,rfl⟩
 rw[←hN1,←hN2]at HT hY;rw[←hN1,←hN2];rw[←hN1]at r1;rw[←hN2]at r2;obtain⟨W0,hW0⟩:∃ W0,W0=w.alloc (.cells #[.slice ro N1 rc,.int .i64 sites,.slice bo N2 bcp] 75):=⟨_,rfl⟩
 have hB0:Below w.heap.size w W0:=by rw[hW0];exact ze w _
 have hO:W0.heap[w.heap.size]? = some (.cells #[.slice ro N1 rc,.int .i64 sites,.slice bo N2 bcp] 75 (0,0)):=by rw[hW0];exact (MapKept.heap_alloc _ _).1
 have hsz:w.heap.size<W0.heap.size:=by rw[hW0];simp
 have HZ:=hid hsz;have HO:=hid hO;have HC:=hid (HT.out W0 hB0);obtain⟨q0,q1,q2⟩:=yl hO;rw[hW0]at q0 q1 q2;have HB0:=hid hB0;have HW0:=hid hW0;clear hN1 hN2 hB0 hO hW0 HT hrl hbl hsz
 by_cases a1:1024<N1
 · rw[if_pos (.inl a1)]at hY
   have HY:=hid hY;clear hY;go_enter Tryz.func202,Tryz.ntmps202;go_wp2_with fail;go_ret;exact⟨by rw[HY.out];rfl,by rw[←HW0.out];exact HB0.out⟩
 by_cases a2:4096<N2
 · rw[if_pos (.inr (.inl a2))]at hY
   have HY:=hid hY;clear hY;go_enter Tryz.func202,Tryz.ntmps202;go_wp2_with fail;go_ret;exact⟨by rw[HY.out];rfl,by rw[←HW0.out];exact HB0.out⟩
 by_cases a3:8192<sites
 · rw[if_pos (.inr (.inr a3))]at hY
   have HY:=hid hY;clear hY;go_enter Tryz.func202,Tryz.ntmps202;go_wp2_with fail;go_ret;exact⟨by rw[HY.out];rfl,by rw[←HW0.out];exact HB0.out⟩
 rw[if_neg (by omega)]at hY;have HY:=hid hY;clear hY;go_enter Tryz.func202,Tryz.ntmps202;go_wp2_with fail;rw[←HW0.out];refine HC.out.mono ?_;rintro e w2 ⟨rfl,hb2⟩;have HB2:=hid (HB0.out.trans (hb2.mono (Nat.le_of_lt HZ.out)));obtain⟨q0,q1,q2⟩:=yl ((hb2.block w.heap.size HZ.out).trans HO.out);have hz2:w.heap.size<w2.heap.size:=Nat.lt_of_lt_of_le HZ.out hb2.size;clear hb2;cases LB with
 | true =>
  go_wp2_with fail;go_ret;exact⟨by rw[HY.out];rfl,HB2.out⟩
 | false =>
  have hY:=HY.out;rw[if_neg (by decide)]at hY
  by_cases a4:N2=0
  · rw[if_pos (.inl a4)]at hY
    subst a4;have HY2:=hid hY;clear hY HY;go_wp2_with fail;go_ret;exact⟨by rw[HY2.out];rfl,HB2.out⟩
  · by_cases a5:sites<0
    · rw[if_pos (.inr a5)]at hY
      have HY2:=hid hY;clear hY HY;go_wp2_with fail;go_ret;exact⟨by rw[HY2.out];rfl,HB2.out⟩
    · rw[if_neg (by omega)]at hY
      have HY2:=hid hY;have h4:(((N2:Nat):Int)==0)=false:=by simp only[beq_eq_false_iff_ne,ne_eq];omega
      clear hY HY;go_wp2_with fail;go_ret;exact⟨by rw[HY2.out];rfl,HB2.out⟩
end
section
open Go.Joins Go.RowKit
attribute [local go_sem ↓] zL zJ
structure KC (v:World) (B tb:Nat) (l:List Gr):Prop where
 row:∃ R,v.heap[tb]? = some (.cells R 75 (0,0))∧R.toList=l.flatMap Gr.cells++(xx l.length++xx (l.length+1))
 lt:tb<B
 each:∀ a ∈ l,KG v B a
 ord:(l.flatMap Gr.id).Pairwise (· < ·)
 up:∀ x ∈ l.flatMap Gr.id,tb<x
def TwCE (c:Cd) (w:World) (e:Ending) (w':World):Prop:=∃ tb l',e = .returned (.agg #[.int .i64 c.words,.slice (some ⟨tb,0,none⟩) l'.length (l'.length+2)])∧Gr.bares l'=Gr.bares c.threads∧Below w.heap.size w w'∧w.heap.size≤tb∧xK tb w' fun v=>KC v w'.heap.size tb l'
theorem XN (c:Cd) (B:Nat) (w:World) (hI:CIn w B c) (hBw:B≤w.heap.size) (hsz:c.threads.length≤262144∧∀ a ∈ c.threads,a.refs.length≤262144∧a.blocks.length≤262144∧∀ b ∈ a.blocks,b.ins.length≤262144) :
 Calls Tryz.prog 6 #[.agg #[.int .i64 c.words,c.tv]] w (TwCE c w):=by
 obtain⟨po,pc,ep,-⟩:=hI.tlies.form;obtain⟨W2,hW2⟩:∃ W2,W2=(w.alloc (.cells #[.int .i64 c.words,.slice po c.threads.length pc] 24)).alloc (.cells #[.int .i64 0,.slice none 0 0] 24):=⟨_,rfl⟩
 have hb1:=ze w (.cells #[.int .i64 c.words,.slice po c.threads.length pc] 24);have hb2:Below w.heap.size w W2:=by rw[hW2];exact hb1.alloc (by simp) _
 have hz2:W2.heap.size=w.heap.size+2:=by rw[hW2];simp
 have hO2:W2.heap[w.heap.size]? = some (.cells #[.int .i64 c.words,.slice po c.threads.length pc] 24 (0,0)):=by
  rw[hW2,Below.heap_alloc _ _ _ (by simp)];exact (MapKept.heap_alloc _ _).1
 have hP2:W2.heap[w.heap.size+1]? = some (.cells #[.int .i64 0,.slice none 0 0] 24 (0,0)):=by
  rw[hW2];have:=(MapKept.heap_alloc (w.alloc (.cells #[.int .i64 c.words,.slice po c.threads.length pc] 24)) (.cells #[.int .i64 0,.slice none 0 0] 24)).1;simpa using this
 have hK:=XK c.threads B c.tv W2 (hI.tlies.below (hb2.mono hBw)) (fun a ha=>(hI.threads a ha).keeps (hb2.mono hBw)) (by omega) hsz.1 hsz.2;have p1:W2.cell? ⟨w.heap.size,1,none⟩ = some (.slice po c.threads.length pc):=by rw[Lib.cell_of_heap hO2];rfl
 rw[ep]at hK ⊢;have HZ2:=hid hz2;rw[hW2]at p1;have HK:=hid hK;have HW2:=hid hW2;have HB2:=hid hb2;have HO2:=hid hO2;have HP2:=hid hP2;clear hK hW2 hb1 hb2 hO2 hP2 hz2 hI hsz ep;go_enter Tryz.func6,Tryz.ntmps6;go_wp2_with fail;rw[←HW2.out];refine HK.out.mono ?_;intro e w3 hq;obtain⟨v,l',R,t1,t2,rfl,⟨hsame,hord⟩,hT3⟩:=hq;have hv:=hT3.val;subst hv;have hb3:=hT3.below;have hs3:=hb3.size;have hO3:=(hb3.block w.heap.size (by have:=HZ2.out;omega)).trans HO2.out;have HP3:=hid ((hb3.block (w.heap.size+1) (by have:=HZ2.out;omega)).trans HP2.out);have hsz3:w.heap.size+2≤w3.heap.size:=by have:=HZ2.out;omega
 have f1:=Lib.frozen_of_heap hO3 1;have q0:w3.cell? ⟨w.heap.size,0,none⟩ = some (.int .i64 c.words):=by rw[Lib.cell_of_heap hO3];rfl
 have q1:w3.cell? ⟨w.heap.size,1,none⟩ = some (.slice po c.threads.length pc):=by rw[Lib.cell_of_heap hO3];rfl
 have HT3:=hid hT3;have HSAME:=hid hsame;have HORD:=hid hord;have HB3:=hid (HB2.out.trans (hb3.mono (by have:=HZ2.out;omega)));have HP4:=hid (show (w3.setCell ⟨w.heap.size,1,none⟩ (.slice (some ⟨W2.heap.size,0,none⟩) c.threads.length (c.threads.length+2))).heap[w.heap.size+1]? = some (.cells #[.int .i64 0,.slice none 0 0] 24 (0,0))from (Below.heap_setCell _ _ _ _ (by show w.heap.size+1≠w.heap.size;omega)).trans HP3.out);clear hT3 hb3 hO3 p1 hsame hord;go_wp2_with (refine qD rfl 24 (Operand.tmp 2) (Operand.tmp 7) rfl (w.heap.size+1) 24 _ #[.int .i64 c.words,.slice (some ⟨W2.heap.size,0,none⟩) c.threads.length (c.threads.length+2)] rfl rfl HP4.out rfl (by kernel_rfl) (by simp[Value.oneCell']) ?_);intro w5 hp5;have HP:=hid hp5;clear hp5;go_wp2_with fail;refine bodyPost_ret (v:=.agg #[.int .i64 c.words,.slice (some ⟨W2.heap.size,0,none⟩) c.threads.length (c.threads.length+2)]) (results_cell_row rfl _ _ (w.heap.size+1) 24 _ (0,0) _ rfl HP.out.at_b Tryz.underlying24 rfl (by kernel_rfl)) rfl ?_;have hz2:=HZ2.out;have hz5:w5.heap.size=w3.heap.size:=by rw[HP.out.size];simp[World.setCell]
 have hlen:=HT3.out.len;have hlt3:=HT3.out.lt;refine⟨W2.heap.size,l',by rw[hlen],HSAME.out, ?_,by omega, ?_⟩
 · exact HP.out.below ((HB3.out).setCell (show w.heap.size≤w.heap.size from Nat.le_refl _) _) (by omega)
 · intro u hu
   have hu2:∀ g,W2.heap.size≤g→g<w3.heap.size→u.heap[g]? = w3.heap[g]?:=fun g h1 h2=>(hu g h1 (by rw[hz5];exact h2)).trans ((HP.out.rest g (by omega)).trans (Below.heap_setCell _ _ _ _ (by show g≠w.heap.size;omega)))
   rw[hz5];have m1:=HT3.out.m1;have m2:=HT3.out.m2;unfold mkG at m1 m2;exact⟨⟨R,(hu2 _ (Nat.le_refl _) hlt3).trans HT3.out.row,by rw[HT3.out.list,m1,m2,hlen]⟩,hlt3,fun a ha=>HT3.out.all a ha u hu2,HORD.out.1,HORD.out.2⟩
end
section
open Go Go.Lib Go.RowKit
def yF (i:In):In:=if i.k=10 then { i with k:=8 } else if i.k=11 then { i with k:=9 } else i
def L2 {α β:Type} (R:α→β→Prop):List α→List β→Prop
 | [],[]=>True
 | a :: l,b :: m=>R a b∧L2 R l m
 | _,_=>False
theorem L2.length {α β:Type} {R:α→β→Prop}:∀ {l:List α} {m:List β},L2 R l m→m.length=l.length
 | [],[],_=>rfl
 | _ :: _,_ :: _,h=>by rw[List.length_cons,List.length_cons,L2.length h.2]
 | [],_ :: _,h=>h.elim
 | _ :: _,[],h=>h.elim
theorem L2.get {α β:Type} {R:α→β→Prop}:∀ {l:List α} {m:List β},L2 R l m→∀ (i:Nat),(l[i]? = none∧m[i]? = none)∨∃ a b,l[i]? = some a∧m[i]? = some b∧R a b
 | [],[],_,i=>.inl ⟨by simp,by simp⟩
 | a :: _,b :: _,h,0=>.inr ⟨a,b,rfl,rfl,h.1⟩
 | _ :: _,_ :: _,h,i+1=>by simpa using L2.get h.2 i
 | [],_ :: _,h,_=>h.elim
 | _ :: _,[],h,_=>h.elim
theorem L2.of_get {α β:Type} {R:α→β→Prop}:∀ {l:List α} {m:List β},m.length=l.length→(∀ (i:Nat) a b,l[i]? = some a→m[i]? = some b→R a b)→L2 R l m
 | [],[],_,_=>trivial
 | a :: _,b :: _,hl,h=>⟨h 0 a b rfl rfl,L2.of_get (by simpa using hl) fun i x y hx hy=>h (i+1) x y (by simpa using hx) (by simpa using hy)⟩
 | [],_ :: _,hl,_=>by simp at hl
 | _ :: _,[],hl,_=>by simp at hl
structure BR (b b':Bk):Prop where
 ins:b'.ins=b.ins.map yF
 last:b'.last=b.last
 reg:b'.reg=b.reg
 yes:b'.yes=b.yes
 no:b'.no=b.no
structure GR (g g':Gr):Prop where
 refs:g'.refs=g.refs
 sites:g'.sites=g.sites
 blocks:L2 BR g.blocks g'.blocks
theorem jw (i:In):(i.k=10∧yF i={ i with k:=8 })∨(i.k=11∧yF i={ i with k:=9 })∨(i.k≠10∧i.k≠11∧yF i=i):=by
 unfold yF
 by_cases h1:i.k=10
 · exact .inl ⟨h1,by rw[if_pos h1]⟩
 · by_cases h2:i.k=11
   · exact .inr (.inl ⟨h2,by rw[if_neg h1,if_pos h2]⟩)
   · exact .inr (.inr ⟨h1,h2,by rw[if_neg h1,if_neg h2]⟩)
theorem Kl (R:List Bool) (W:Int) (M:List Bool) (i:In):yK R W M (yF i)=yK R W M i:=by
 rcases jw i with ⟨h,e⟩|⟨h,e⟩|⟨-,-,e⟩
 · rw[e];simp[yK,inB,shaped,yY,zu,h]
 · rw[e];simp[yK,inB,shaped,yY,zu,h]
 · rw[e]
theorem VW (R:List Bool) (W:Int) (M:List Bool) (i:In):xC R W M (yF i)=xC R W M i:=by
 rcases jw i with ⟨h,e⟩|⟨h,e⟩|⟨-,-,e⟩
 · rw[e];simp[xC,h]
 · rw[e];simp[xC,h]
 · rw[e]
theorem UD (R:List Bool) (W:Int):∀ (l:List In) (k:Nat) (M:List Bool),xH R W k M (l.map yF)=xH R W k M l:=by
 intro l;induction l with
 | nil=>intro k M;rfl
 | cons i l ih =>
  intro k M;rw[List.map_cons,xH,xH,Kl,VW,ih]
theorem JY {b b':Bk} (h:BR b b') (R:List Bool) (nb:Nat):lastB R nb b'=lastB R nb b:=by
 unfold lastB wX xA;rw[h.last,h.reg,h.yes,h.no]
theorem UF (R:List Bool) (W:Int) (nb:Nat):∀ (l l':List Bk) (n:Nat) (M:List Bool),L2 BR l l'→yz R W nb n M l'=yz R W nb n M l:=by
 intro l;induction l with
 | nil=>intro l' n M h;cases l' with
  | nil=>rfl
  | cons _ _=>exact h.elim
 | cons b l ih =>
  intro l' n M h;cases l' with
  | nil=>exact h.elim
  | cons b' l' =>
   rw[yz,yz,h.1.ins,UD,JY h.1,List.length_map];generalize xH R W 0 M b.ins=r;obtain⟨x,y⟩:=r;cases x with
   | some k=>rfl
   | none=>simp only;rw[ih l' _ _ h.2]
theorem z1z:∀ (l:List In) (on:Nat),zD (l.map yF) on=zD l on:=by
 intro l;induction l with
 | nil=>intro on;rfl
 | cons i l ih =>
  intro on;rw[List.map_cons,zD,zD,ih]
  congr 1
  rcases jw i with ⟨h,e⟩|⟨h,e⟩|⟨-,-,e⟩
  · rw[e];simp[yD,h]
  · rw[e];simp[yD,h]
  · rw[e]
theorem VX {b b':Bk} (h:BR b b'):zC b'=zC b:=by
 unfold zC;rw[h.last,h.yes,h.no]
theorem Uk {l l':List Bk} (h:L2 BR l l'):∀ (f:Nat) (B:List Nat) (S:List (Nat × Nat)),goS l' f B S=goS l f B S:=by
 intro f;induction f with
 | zero=>intro B S;rfl
 | succ f ih =>
  intro B S;cases S with
  | nil=>rfl
  | cons t S =>
   obtain⟨t,on⟩:=t;rw[goS,goS];split
   · rw[ih]
     congr 1
     rcases h.get t with ⟨e1,e2⟩|⟨b,b',e1,e2,hb⟩
     · rw[e1,e2]
     · rw[e1,e2]
       simp only;rw[VX hb,hb.ins,z1z]
   · exact ih _ _
theorem z2h {l l':List Bk} (h:L2 BR l l'):yo l'=yo l:=by
 unfold yo;rw[h.length,Uk h]
theorem Wu (i:In):yL (yF i).k=yL i.k:=by
 rcases jw i with ⟨h,e⟩|⟨h,e⟩|⟨-,-,e⟩
 · rw[e];simp[yL,h]
 · rw[e];simp[yL,h]
 · rw[e]
theorem z2c (i:In) (on:Nat):yD (yF i).k on=yD i.k on:=by
 rcases jw i with ⟨h,e⟩|⟨h,e⟩|⟨-,-,e⟩
 · rw[e];simp[yD,h]
 · rw[e];simp[yD,h]
 · rw[e]
theorem Q9:∀ (l:List In) (k on:Nat),zS k on (l.map yF)=zS k on l:=by
 intro l;induction l with
 | nil=>intro k on;rfl
 | cons i l ih =>
  intro k on;rw[List.map_cons,zS,zS,Wu,z2c,ih]
theorem Qc (B:List Nat):∀ (l l':List Bk) (n:Nat),L2 BR l l'→zU B n l'=zU B n l:=by
 intro l;induction l with
 | nil=>intro l' n h;cases l' with
  | nil=>rfl
  | cons _ _=>exact h.elim
 | cons b l ih =>
  intro l' n h;cases l' with
  | nil=>exact h.elim
  | cons b' l' =>
   rw[zU,zU,h.1.ins,Q9,h.1.last,List.length_map,ih l' _ h.2]
theorem J7:∀ (l l':List Bk) (n:Int),L2 BR l l'→wy n l'=wy n l:=by
 intro l;induction l with
 | nil=>intro l' n h;cases l' with
  | nil=>rfl
  | cons _ _=>exact h.elim
 | cons b l ih =>
  intro l' n h;cases l' with
  | nil=>exact h.elim
  | cons b' l' =>
   rw[wy,wy,h.1.ins,List.length_map,ih l' _ h.2]
theorem z1f {g g':Gr} (h:GR g g') (W:Int):yH W g'=yH W g:=by
 have hs:xM g'=xM g:=by
  unfold xM;rw[h.refs,h.sites,h.blocks.length,J7 _ _ _ h.blocks]
 unfold yH wF;rw[hs,h.refs,h.sites,h.blocks.length,UF _ _ _ _ _ _ _ h.blocks,z2h h.blocks,Qc _ _ _ _ h.blocks]
theorem z19 (W:Int):∀ (l l':List Gr) (n:Nat),L2 GR l l'→xV W n l'=xV W n l:=by
 intro l;induction l with
 | nil=>intro l' n h;cases l' with
  | nil=>rfl
  | cons _ _=>exact h.elim
 | cons b l ih =>
  intro l' n h;cases l' with
  | nil=>exact h.elim
  | cons b' l'=>rw[xV,xV,z1f h.1,ih l' _ h.2]
theorem YO {l l':List Gr} (h:L2 GR l l') (W:Int):xW W l'=xW W l:=by
 unfold xW;rw[h.length,z19 W l l' 0 h]
structure SR (W W':WS):Prop where
 words:W'.words=W.words
 str:W'.strange=false
def DR (r r':WS × TS × Bool):Prop:=SR r.1 r'.1∧r'.2=r.2
theorem DR.ite {c:Prop} [Decidable c] {a b a' b':WS × TS × Bool} (h1:DR a a') (h2:DR b b'):DR (if c then a else b) (if c then a' else b'):=by
 by_cases h:c
 · rw[if_pos h,if_pos h];exact h1
 · rw[if_neg h,if_neg h];exact h2
theorem Zy {α:Type} {f:α→List Nat}:∀ {l:List α},(l.flatMap f).Pairwise (· < ·)→∀ a ∈ l,(f a).Pairwise (· < ·)
 | [],_,a,ha=>by cases ha
 | b :: l,h,a,ha=>by
  rw[List.flatMap_cons,List.pairwise_append]at h;rcases List.mem_cons.1 ha with rfl|ha
  · exact h.1
  · exact Zy h.2.1 a ha
theorem kX {α:Type} {f:α→List Nat}:∀ {l:List α},(l.flatMap f).Pairwise (· < ·)→∀ {i j:Nat} {a b:α} {x:Nat},l[i]? = some a→l[j]? = some b→x ∈ f a→x ∈ f b→i=j
 | [],_,i,_,_,_,_,ha,_,_,_=>by simp at ha
 | c :: l,h,i,j,a,b,x,ha,hb,hxa,hxb=>by
  rw[List.flatMap_cons,List.pairwise_append]at h;cases i with
  | zero =>
   cases j with
   | zero=>rfl
   | succ j =>
    simp at ha hb;subst ha;exact absurd (h.2.2 x hxa x (List.mem_flatMap.2 ⟨b,List.mem_of_getElem? hb,hxb⟩)) (Nat.lt_irrefl x)
  | succ i =>
   cases j with
   | zero =>
    simp at ha hb;subst hb;exact absurd (h.2.2 x hxb x (List.mem_flatMap.2 ⟨a,List.mem_of_getElem? ha,hxa⟩)) (Nat.lt_irrefl x)
   | succ j=>exact congrArg (· + 1) (kX h.2.1 (i:=i) (j:=j) (by simpa using ha) (by simpa using hb) hxa hxb)
def ky (l:List Gr):List Nat:=l.flatMap fun a=>a.blocks.flatMap Bk.id
theorem Kk {l:List Gr} {x:Nat} (h:x ∈ ky l):∃ (i:Nat) (a:Gr) (k:Nat) (b:Bk),l[i]? = some a∧a.blocks[k]? = some b∧x=xP b.iv:=by
 obtain⟨a,ha,hx⟩:=List.mem_flatMap.1 h;obtain⟨b,hb,hx⟩:=List.mem_flatMap.1 hx;obtain⟨i,hi,rfl⟩:=List.getElem_of_mem ha;obtain⟨k,hk,rfl⟩:=List.getElem_of_mem hb;exact⟨i,_,k,_,List.getElem?_eq_getElem hi,List.getElem?_eq_getElem hk,by simpa[Bk.id]using hx⟩
theorem Qh {l:List Gr} {i k:Nat} {a:Gr} {b:Bk} (ha:l[i]? = some a) (hb:a.blocks[k]? = some b):xP b.iv ∈ ky l:=
 List.mem_flatMap.2 ⟨a,List.mem_of_getElem? ha,List.mem_flatMap.2 ⟨b,List.mem_of_getElem? hb,by simp[Bk.id]⟩⟩
section
variable {v:World} {B tb:Nat} {l:List Gr}
theorem uA {a:Gr} {k:Nat} {b:Bk} (hb:a.blocks[k]? = some b):xP b.iv ∈ a.id:=by
 simp only[Gr.id,List.mem_cons];exact .inr (.inr (List.mem_flatMap.2 ⟨b,List.mem_of_getElem? hb,by simp[Bk.id]⟩))
theorem KC.inj (h:KC v B tb l) {i j k m:Nat} {a a':Gr} {b b':Bk} (ha:l[i]? = some a) (hb:a.blocks[k]? = some b) (ha':l[j]? = some a') (hb':a'.blocks[m]? = some b') (e:xP b.iv=xP b'.iv):i=j∧k=m:=by
 have hij:=kX h.ord ha ha' (uA hb) (e ▸ uA hb');subst hij;rw[ha]at ha';cases ha';have hp:=Zy h.ord a (List.mem_of_getElem? ha)
 have hp2:(a.blocks.flatMap Bk.id).Pairwise (· < ·):=by
  unfold Gr.id at hp;exact (List.pairwise_cons.1 (List.pairwise_cons.1 hp).2).2
 exact⟨rfl,kX (x:=xP b.iv) hp2 hb hb' (by simp[Bk.id]) (by rw[e];simp[Bk.id])⟩
theorem KC.bounds (h:KC v B tb l) {x:Nat} (hx:x ∈ ky l):tb<x∧x<B:=by
 obtain⟨i,a,k,b,ha,hb,rfl⟩:=Kk hx;have hm:=List.mem_of_getElem? ha;exact⟨h.up _ (List.mem_flatMap.2 ⟨a,hm,uA hb⟩),((h.each a hm).each b (List.mem_of_getElem? hb)).lt⟩
end
def vX (p:Nat × Nat × Nat) (i k:Nat) (l:List In):List In:=
 if i<p.1∨(i=p.1∧k<p.2.1) then l.map yF else if i=p.1∧k=p.2.1 then (l.take p.2.2).map yF++l.drop p.2.2 else l
theorem Yk (i k n:Nat) (l:List In):vX (i,k,n) i k l=(l.take n).map yF++l.drop n:=by
 unfold vX;rw[if_neg (by simp),if_pos ⟨rfl,rfl⟩]
theorem Kn (i' k':Nat) (l:List In):vX (0,0,0) i' k' l=l:=by
 unfold vX;rw[if_neg (by simp)];split
 · simp
 · rfl
structure PM (w5 wr:World) (l:List Gr) (p:Nat × Nat × Nat):Prop where
 os:wr.os=w5.os
 tape:wr.tape=w5.tape
 output:wr.output=w5.output
 size:wr.heap.size=w5.heap.size
 rest:∀ x,x ∉ ky l→wr.heap[x]? = w5.heap[x]?
 rows:∀ (i:Nat) a (k:Nat) b,l[i]? = some a→a.blocks[k]? = some b→∃ R t,wr.heap[xP b.iv]? = some (.cells R 159 (0,0))∧R.toList=(vX p i k b.ins).flatMap In.cells++t
theorem PM.start {w5:World} {B tb:Nat} {l:List Gr} (h:KC w5 B tb l):PM w5 w5 l (0,0,0):=
 ⟨rfl,rfl,rfl,rfl,fun _ _=>rfl,fun i a k b ha hb=>by
  obtain⟨ib,R,e,-,h1,h2,-⟩:=(h.each a (List.mem_of_getElem? ha)).each b (List.mem_of_getElem? hb);rw[e,Kn];exact⟨R,_,h1,h2⟩⟩
theorem PM.move {w5 wr:World} {l:List Gr} {p q:Nat × Nat × Nat} (h:PM w5 wr l p) (he:∀ (i:Nat) a (k:Nat) b,l[i]? = some a→a.blocks[k]? = some b→vX p i k b.ins=vX q i k b.ins):PM w5 wr l q:=
 ⟨h.os,h.tape,h.output,h.size,h.rest,fun i a k b ha hb=>by rw[←he i a k b ha hb];exact h.rows i a k b ha hb⟩
theorem PM.below {w5 wr:World} {l:List Gr} {p:Nat × Nat × Nat} {B tb:Nat} (h:PM w5 wr l p) (hk:KC w5 B tb l):Below (tb+1) w5 wr:=
 ⟨h.os,h.tape,h.output,by rw[h.size];exact Nat.le_refl _,fun x hx=>h.rest x fun hm=>by have:=(hk.bounds hm).1;omega⟩
theorem Uq (l:List In) (t:List Value) (n:Nat) (i:In) (hi:l[n]? = some i) (u:Int):(l.flatMap In.cells++t).set (n*6) (.int .u8 u)=(l.set n { i with k:=u }).flatMap In.cells++t:=by
 induction l generalizing n with
 | nil=>simp at hi
 | cons a l ih =>
  cases n with
  | zero =>
   simp at hi;subst hi;simp[In.cells]
  | succ n =>
   have e:(n+1)*6=6+n*6:=by omega
   rw[e];have h6:(In.cells a).length=6:=rfl;rw[List.flatMap_cons,List.append_assoc,List.set_append_right _ _ (by omega),h6,Nat.add_sub_cancel_left,ih n (by simpa using hi),List.set_cons_succ,List.flatMap_cons,List.append_assoc]
theorem set_self {α:Type}:∀ (l:List α) (n:Nat) (x:α),l[n]? = some x→l.set n x=l
 | [],n,x,h=>by simp at h
 | a :: l,0,x,h=>by simp at h;subst h;rfl
 | a :: l,n+1,x,h=>by rw[List.set_cons_succ,set_self l n x (by simpa using h)]
theorem take_set (l:List In) (n:Nat) (i:In) (hi:l[n]? = some i):((l.take n).map yF++l.drop n).set n (yF i)=(l.take (n+1)).map yF++l.drop (n+1):=by
 have hn:=(List.getElem?_eq_some_iff.1 hi).1;have hl:((l.take n).map yF).length=n:=by simp;omega
 rw[List.set_append_right _ _ (by omega),hl,Nat.sub_self,List.drop_eq_getElem_cons hn,List.set_cons_zero,List.take_succ_eq_append_getElem hn,(List.getElem?_eq_some_iff.1 hi).2];simp
theorem take_at (l:List In) (n:Nat) (i:In) (hi:l[n]? = some i):((l.take n).map yF++l.drop n)[n]? = some i:=by
 have hn:=(List.getElem?_eq_some_iff.1 hi).1;have hl:((l.take n).map yF).length=n:=by simp;omega
 rw[List.getElem?_append_right (by omega),hl,Nat.sub_self,List.drop_eq_getElem_cons hn,(List.getElem?_eq_some_iff.1 hi).2]
 rfl
structure PAt (w5 wr:World) (l:List Gr) (i k n ib:Nat) (x:In):Prop where
 cell:wr.cell? ⟨ib,n*6,none⟩ = some (.int .u8 x.k)
 frozen:wr.frozen? ⟨ib,n*6,none⟩ = false
 same:yF x=x→PM w5 wr l (i,k,n+1)
 other:∀ u,yF x={ x with k:=u }→PM w5 (wr.setCell ⟨ib,n*6,none⟩ (.int .u8 u)) l (i,k,n+1)
theorem PM.at {w5 wr:World} {B tb:Nat} {l:List Gr} {i k n:Nat} (h:PM w5 wr l (i,k,n)) (hk:KC w5 B tb l) {a:Gr} {b:Bk} {x:In} (ha:l[i]? = some a) (hb:a.blocks[k]? = some b) (hx:b.ins[n]? = some x):PAt w5 wr l i k n (xP b.iv) x:=by
 obtain⟨R,t,h1,h2⟩:=h.rows i a k b ha hb;rw[Yk]at h2;have hat:=take_at b.ins n x hx;have hc:=jH xz _ t n x hat 0 _ (show (In.cells x)[0]? = some (.int .u8 x.k)from rfl);rw[Nat.add_zero,←h2,Array.getElem?_toList]at hc
 have hset:∀ u,yF x={ x with k:=u }→PM w5 (wr.setCell ⟨xP b.iv,n*6,none⟩ (.int .u8 u)) l (i,k,n+1):=by
  intro u hu;refine⟨h.os,h.tape,h.output,by rw[←h.size];simp[World.setCell],fun y hy=>(Below.heap_setCell _ _ _ _ (fun e=>hy (by rw[show y=xP b.iv from e];exact Qh ha hb))).trans (h.rest y hy),fun i' a' k' b' ha' hb'=>?_⟩
  by_cases he:xP b'.iv=xP b.iv
  · obtain⟨rfl,rfl⟩:=hk.inj ha' hb' ha hb he
    rw[ha]at ha';cases ha';rw[hb]at hb';cases hb';refine⟨R.setIfInBounds (n*6) (.int .u8 u),t,(jv h1).at_b, ?_⟩;rw[Array.toList_setIfInBounds,h2,Uq _ t n x hat u,Yk,←hu,take_set b.ins n x hx]
  · obtain⟨R',t',h1',h2'⟩:=h.rows i' a' k' b' ha' hb'
    refine⟨R',t',(Below.heap_setCell _ _ _ _ (fun e=>he e)).trans h1', ?_⟩;rw[h2']
    congr 2
    unfold vX;simp only
    have hne:¬ (i'=i∧k'=k):=fun ⟨e1,e2⟩=>by
     subst e1 e2;rw[ha]at ha';cases ha';rw[hb]at hb';cases hb';exact he rfl
    rw[if_neg hne,if_neg hne]
 refine⟨by rw[Lib.cell_of_heap h1];exact hc,Lib.frozen_of_heap h1 _,fun hs=>h.move fun i' a' k' b' ha' hb'=>?_,hset⟩;unfold vX;simp only
 by_cases h1:i'<i∨(i'=i∧k'<k)
 · rw[if_pos h1,if_pos h1]
 · rw[if_neg h1,if_neg h1]
   by_cases h3:i'=i∧k'=k
   · obtain⟨rfl,rfl⟩:=h3
     rw[ha]at ha';cases ha';rw[hb]at hb';cases hb';rw[if_pos ⟨rfl,rfl⟩,if_pos ⟨rfl,rfl⟩,←take_set b.ins n x hx,hs,set_self _ n x hat]
   · rw[if_neg h3,if_neg h3]
end
open Go.RowKit
def uO (P:Prop) (e:Ending):Prop:=∃ n:Int,e = .returned (.int .i64 n)∧0≤n∧n≤262145∧(n≤262144→P)
theorem YJ (r:Int) (h0:-9223372036854775808≤r) (h1:r≤262144) (w:World):Calls Tryz.prog 17 #[.int .i64 r] w fun e w'=>uO (0≤r) e∧w=w':=by
 by_cases h:r<0
 · go_enter Tryz.func17,Tryz.ntmps17
   go_wp2_with fail;go_ret;exact⟨⟨262145,rfl,by omega,by omega,fun h=>by first|(exfalso;omega)|trivial⟩,rfl⟩
 · go_enter Tryz.func17,Tryz.ntmps17
   go_wp2_with fail;go_ret;exact⟨⟨262144 - r,rfl,by omega,by omega,fun _=>by first|trivial|omega⟩,rfl⟩
def GSm (g:Gr):Prop:=g.refs.length≤262144∧g.blocks.length≤262144∧∀ b ∈ g.blocks,b.ins.length≤262144
theorem KI (B:Nat) (g:Gr) (w:World) (hI:GIn w B g) (hBw:B≤w.heap.size) :
 Calls Tryz.prog 16 #[.agg #[g.rv,.int .i64 g.sites,g.bv]] w fun e w'=>uO (GSm g) e∧Below w.heap.size w w':=by
 have r1:=hI.rlies.room;have r2:=hI.blies.room;obtain⟨ro,rc,er,hrl,-⟩:=hI.rlies.form;obtain⟨bo,bcp,eb,hbl,hbg⟩:=hI.blies.form;have HBL:=hid hI.blies;have HBI:=hid hI.blocks;clear hI
 have hQ:∀ r:Int,0≤r→r≤262144 - (g.refs.length:Int) - (g.blocks.length:Int)→(∀ (j:Nat) b,j<g.blocks.length→g.blocks[j]? = some b→(b.ins.length:Int)≤262144 - r)→GSm g:=fun r hr h1 h2=>⟨by omega,by omega,fun b hb=>by
  obtain⟨j,hj,rfl⟩:=List.getElem_of_mem hb;have:=h2 j _ hj (List.getElem?_eq_getElem hj);omega⟩
 obtain⟨PG,hPG⟩:∃ P,P=GSm g:=⟨_,rfl⟩
 rw[←hPG]at hQ ⊢;clear hPG;obtain⟨rv,refs,sites,bv,blocks⟩:=g;simp only at *;subst er eb;obtain⟨N1,hN1⟩:∃ N,N=refs.length:=⟨_,rfl⟩
 obtain⟨N2,hN2⟩:∃ N,N=blocks.length:=⟨_,rfl⟩
 rw[←hN1,←hN2]at hQ ⊢;rw[←hN1]at hrl r1;rw[←hN2]at hbl r2 hbg HBL;obtain⟨W0,hW0⟩:∃ W0,W0=w.alloc (.cells #[.slice ro N1 rc,.int .i64 sites,.slice bo N2 bcp] 75):=⟨_,rfl⟩
 have hB0:Below w.heap.size w W0:=by rw[hW0];exact ze w _
 have hlt0:w.heap.size+1=W0.heap.size:=by rw[hW0];simp
 have hO:W0.heap[w.heap.size]? = some (.cells #[.slice ro N1 rc,.int .i64 sites,.slice bo N2 bcp] 75 (0,0)):=by rw[hW0];exact (MapKept.heap_alloc _ _).1
 obtain⟨q0,q1,q2⟩:=yl hO;rw[hW0]at q0 q1 q2;have HN2:=hid hN2;have HQ:=hid hQ;clear hQ;have HG2:=hid hbg;have HB0:=hid hB0;have HZ0:=hid hlt0;have HO:=hid hO;have HW0:=hid hW0;clear hN1 hN2 hbg hB0 hlt0 hO hW0;go_enter Tryz.func16,Tryz.ntmps16;go_wp2_with fail;rw[←HW0.out];clear q0 q1 q2
 go_loopw [3,4] (fun m q wr=>∃ k:Nat,k≤N2∧q = .int .i64 k∧∃ r:Int,m = .int .i64 r ∧ -600000000000000≤r∧r≤262144∧Hid (r≤262144 - (N1:Int) - (N2:Int)∧∀ (j:Nat) b,j<k→blocks[j]? = some b→(b.ins.length:Int)≤262144 - r)∧Below W0.heap.size W0 wr) (fun _ q _=>N2 - (intOf q).toNat)
 case atStart=>exact⟨0,by omega,rfl,262144 - (N1:Int) - (N2:Int),rfl,by omega,by omega,hid ⟨by omega,fun j b hj=>by omega⟩,Below.refl _ _⟩
 case round =>
  obtain⟨k,hkN,rfl,r,rfl,hr0,hr1,HI2,hB⟩:=hrel;have hsr:=hB.size;have hBw':Below w.heap.size w wr:=HB0.out.trans (hB.mono (by have:=HZ0.out;omega));have hsz:w.heap.size<wr.heap.size:=by have:=HZ0.out;omega
  have hOr:=(hB.block w.heap.size (by have:=HZ0.out;omega)).trans HO.out;obtain⟨q0,q1,q2⟩:=yl hOr;clear hOr
  by_cases hlt2:k<N2∧0≤r
  · obtain⟨hlt2,hrp⟩:=hlt2
    obtain⟨g,off,rfl,hg⟩:=HG2.out (by omega);have hka:k<blocks.length:=by rw[←HN2.out];exact hlt2
    have hat:=((HBL.out.below (hBw'.mono hBw)).at rfl k hka).2;have ha:=HBI.out _ (List.getElem_mem hka);have hbk:blocks[k]? = some blocks[k]:=List.getElem?_eq_getElem hka;generalize blocks[k]=a at hat ha hbk;have hgs:g<wr.heap.size:=by omega
    obtain⟨p0,p1,p2,p3,p4⟩:=bc hat;obtain⟨ao,ac,ea,-⟩:=ha.lies.form;have hra:=ha.lies.room;rw[ea]at p0;have HB:=hid hB
    have HI3:=hid (show r - (a.ins.length:Int)≤262144 - (N1:Int) - (N2:Int)∧∀ (j:Nat) b,j<k+1→blocks[j]? = some b→(b.ins.length:Int)≤262144 - (r - (a.ins.length:Int))from⟨by have:=HI2.out.1;omega,fun j b hj hb=>by
     by_cases hjk:j=k
     · subst hjk
       rw[hbk]at hb;cases hb;have:=HI2.out.1;omega
     · have:=HI2.out.2 j b (by omega) hb
       omega⟩)
    clear hbk;clear hka hat ha ea hB hBw' p1 p2 p3 p4;go_wp2_with fail;go_roundw
    case rel=>exact⟨k+1,by omega,by go_num,r - (a.ins.length:Int),by go_num,by omega,by omega,HI3,HB.out⟩
    case measure=>simp[intOf];omega
  · have hor:¬ k<N2∨(k<N2∧r<0):=by
     by_cases h:k<N2
     · exact .inr ⟨h,by by_cases h2:0≤r;exact absurd ⟨h,h2⟩ hlt2;omega⟩
     · exact .inl h
    have HB9:=hid hBw';have HC:=hid (YJ r (by omega) hr1 wr);clear hlt2 hB hBw';rcases hor with hor|⟨hor,hneg⟩
    all_goals
     go_wp2_with fail;refine HC.out.mono ?_;rintro e w3 ⟨⟨n,rfl,hn0,hn1,hn2⟩,rfl⟩;have HNQ:=hid hn2;clear hn2;go_wp2_with fail;go_ret;refine⟨⟨n,rfl,hn0,hn1,fun h=>?_⟩,HB9.out⟩
     first
      | (exfalso;have:=HNQ.out h;omega)
      | (have hkn:k=N2:=by omega
         subst hkn;exact HQ.out r (HNQ.out h) HI2.out.1 HI2.out.2)
theorem z0h (B:Nat) (c:Cd) (w:World) (hI:CIn w B c) (hBw:B≤w.heap.size) :
 Calls Tryz.prog 5 #[.agg #[.int .i64 c.words,c.tv]] w fun e w'=>uO (c.threads.length≤262144∧∀ g ∈ c.threads,GSm g) e∧Below w.heap.size w w':=by
 have r2:=hI.tlies.room;obtain⟨bo,bcp,eb,hbl,hbg⟩:=hI.tlies.form;have HBL:=hid hI.tlies;have HBI:=hid hI.threads;clear hI
 have hQ:∀ r:Int,0≤r→(c.threads.length:Int)≤262144 - r→(∀ (j:Nat) g,j<c.threads.length→c.threads[j]? = some g→GSm g)→(c.threads.length≤262144∧∀ g ∈ c.threads,GSm g):=fun r hr h1 h2=>⟨by omega,fun b hb=>by
  obtain⟨j,hj,rfl⟩:=List.getElem_of_mem hb;exact h2 j _ hj (List.getElem?_eq_getElem hj)⟩
 obtain⟨PG,hPG⟩:∃ P,P=(c.threads.length≤262144∧∀ g ∈ c.threads,GSm g):=⟨_,rfl⟩
 rw[←hPG]at hQ ⊢;clear hPG;obtain⟨words,tv,threads⟩:=c;simp only at *;subst eb;obtain⟨N2,hN2⟩:∃ N,N=threads.length:=⟨_,rfl⟩
 rw[←hN2]at hQ ⊢;rw[←hN2]at hbl r2 hbg HBL;obtain⟨W0,hW0⟩:∃ W0,W0=w.alloc (.cells #[.int .i64 words,.slice bo N2 bcp] 24):=⟨_,rfl⟩
 have hB0:Below w.heap.size w W0:=by rw[hW0];exact ze w _
 have hlt0:w.heap.size+1=W0.heap.size:=by rw[hW0];simp
 have hO:W0.heap[w.heap.size]? = some (.cells #[.int .i64 words,.slice bo N2 bcp] 24 (0,0)):=by rw[hW0];exact (MapKept.heap_alloc _ _).1
 have HN2:=hid hN2;have HQ:=hid hQ;clear hQ;have HG2:=hid hbg;have HB0:=hid hB0;have HZ0:=hid hlt0;have HO:=hid hO;have HW0:=hid hW0;clear hN2 hbg hB0 hlt0 hO hW0;go_enter Tryz.func5,Tryz.ntmps5;go_wp2_with fail;rw[←HW0.out]
 go_loopw [3,4] (fun m q wr=>∃ k:Nat,k≤N2∧q = .int .i64 k∧∃ r:Int,m = .int .i64 r ∧ -600000000000000≤r∧r≤262144∧Hid ((k:Int)≤262144 - r∧(0≤r→∀ (j:Nat) g,j<k→threads[j]? = some g→GSm g))∧Below W0.heap.size W0 wr) (fun _ q _=>N2 - (intOf q).toNat)
 case atStart=>exact⟨0,by omega,rfl,262144,rfl,by omega,by omega,hid ⟨by omega,fun _ j b hj=>by omega⟩,Below.refl _ _⟩
 case round =>
  obtain⟨k,hkN,rfl,r,rfl,hr0,hr1,HI2,hB⟩:=hrel;have hsr:=hB.size;have hBw':Below w.heap.size w wr:=HB0.out.trans (hB.mono (by have:=HZ0.out;omega));have hsz:w.heap.size<wr.heap.size:=by have:=HZ0.out;omega
  have hOr:=(hB.block w.heap.size (by have:=HZ0.out;omega)).trans HO.out;obtain⟨q0,q1⟩:=zt hOr;clear hOr
  by_cases hlt2:k<N2∧0≤r
  · obtain⟨hlt2,hrp⟩:=hlt2
    obtain⟨g,off,rfl,hg⟩:=HG2.out (by omega);have hka:k<threads.length:=by rw[←HN2.out];exact hlt2
    have hat:=((HBL.out.below (hBw'.mono hBw)).at rfl k hka).2;have ha:=(HBI.out _ (List.getElem_mem hka)).keeps (hBw'.mono hBw);have hbk:threads[k]? = some threads[k]:=List.getElem?_eq_getElem hka;generalize threads[k]=a at hat ha hbk;have hgs:g<wr.heap.size:=by omega
    obtain⟨p0,p1,p2⟩:=gc3 hat;have hG:=KI B a wr ha (by omega);obtain⟨ao,ac,ea,-⟩:=ha.rlies.form;obtain⟨do',dc,ed,-⟩:=ha.blies.form;rw[ea,ed]at hG;rw[ea]at p0;rw[ed]at p2;have HG:=hid hG;have HBK:=hid hbk;clear hbk;have HB:=hid hB;clear hka hat ha ea ed hB hBw' hG;go_wp2_with fail;refine HG.out.mono ?_;rintro e1 w1 ⟨⟨n,rfl,hn0,hn1,hn2⟩,hb1⟩
    have HI3:=hid (show ((k+1:Nat):Int)≤262144 - (r - 1 - n)∧(0≤r - 1 - n→∀ (j:Nat) g,j<k+1→threads[j]? = some g→GSm g)from⟨by have:=HI2.out.1;omega,fun h0 j b hj hb=>by
     by_cases hjk:j=k
     · subst hjk
       rw[HBK.out]at hb;cases hb;exact hn2 (by omega)
     · exact HI2.out.2 (by omega) j b (by omega) hb⟩)
    clear hn2;have HB1:=hid (HB.out.trans (hb1.mono hsr));clear hb1 p0 p1 p2 q0 q1;go_wp2_with fail;go_roundw
    case rel=>exact⟨k+1,by omega,by go_num,r - 1 - n,by go_num,by omega,by omega,HI3,HB1.out⟩
    case measure=>simp[intOf];omega
  · have hor:¬ k<N2∨(k<N2∧r<0):=by
     by_cases h:k<N2
     · exact .inr ⟨h,by by_cases h2:0≤r;exact absurd ⟨h,h2⟩ hlt2;omega⟩
     · exact .inl h
    have HB9:=hid hBw';have HC:=hid (YJ r (by omega) hr1 wr);clear hlt2 hB hBw';rcases hor with hor|⟨hor,hneg⟩
    all_goals
     go_wp2_with fail;refine HC.out.mono ?_;rintro e w3 ⟨⟨n,rfl,hn0,hn1,hn2⟩,rfl⟩;have HNQ:=hid hn2;clear hn2;go_wp2_with fail;go_ret;refine⟨⟨n,rfl,hn0,hn1,fun h=>?_⟩,HB9.out⟩
     first
      | (exfalso;have:=HNQ.out h;omega)
      | (have hkn:k=N2:=by omega
         subst hkn;exact HQ.out r (HNQ.out h) HI2.out.1 (HI2.out.2 (HNQ.out h)))
