import Derived.Test.YtlboinokdhmacaaGreatDoorIrBoth
import Derived.Test.YtlboinokdhmacaaGreatDoorRlSide
namespace Go.Proofs.YtlboinokdhmacaaGreatDoor
set_option maxHeartbeats 64000000
set_option maxRecDepth 1000000
open Lib(hid)
open Go.RowKit
attribute [local go_sem ↓] zL zJ
structure yt (w:World) (n:Nat) (G:Array Value) (bl:List Bk) (I O:List Bool) (wr:World):Prop where
 below:Below w.heap.size w wr
 box:wr.heap[w.heap.size]? = some (.cells G 75 (0,0))
 rI:wr.heap[w.heap.size+1]? = some (.cells (I.map Value.bool).toArray 4 (0,0))
 rO:wr.heap[w.heap.size+1+1]? = some (.cells (O.map Value.bool).toArray 4 (0,0))
 lI:I.length=n
 lO:O.length=n
 snd:uN bl I O
 zero:zo O 0=true
theorem yt.size {w wr:World} {n:Nat} {G:Array Value} {bl:List Bk} {I O:List Bool} (h:yt w n G bl I O wr):w.heap.size+1+1<wr.heap.size:=(Array.getElem?_eq_some_iff.1 h.rO).1
theorem yt.keeps {w wr wr':World} {n:Nat} {G:Array Value} {bl:List Bk} {I O:List Bool} (h:yt w n G bl I O wr) (hb:Below wr.heap.size wr wr'):yt w n G bl I O wr':=by
 have hz:=h.size;exact⟨h.below.trans (hb.mono (by omega)),(hb.block _ (by omega)).trans h.box,(hb.block _ (by omega)).trans h.rI,(hb.block _ hz).trans h.rO,h.lI,h.lO,h.snd,h.zero⟩
theorem qJ {w:World} {m:Nat} {I:List Bool} (h:w.heap[m]? = some (.cells (I.map Value.bool).toArray 4 (0,0))) {k:Nat} (hk:k<I.length):w.cell? ⟨m,k,none⟩ = some (.bool (zo I k)):=by
 rw[Lib.cell_of_heap h];unfold zo;simp[hk]
theorem yt.setI {w wr:World} {n:Nat} {G:Array Value} {bl:List Bk} {I O:List Bool} (h:yt w n G bl I O wr) (t:Nat) (x:Bool) (hx:x=true→Rch bl t 2) (ht:t<n):yt w n G bl (I.set t x) O (wr.setCell ⟨w.heap.size+1,t,none⟩ (.bool x)):=by
 have hb:∀ j,j≠w.heap.size+1→(wr.setCell ⟨w.heap.size+1,t,none⟩ (.bool x)).heap[j]? = wr.heap[j]?:=fun j hj=>Below.heap_setCell _ _ _ _ hj
 refine⟨h.below.setCell (by show w.heap.size≤w.heap.size+1;omega) _,(hb _ (by omega)).trans h.box, ?_,(hb _ (by omega)).trans h.rO,by simpa using h.lI,h.lO,fun k=>⟨fun q=>?_,(h.snd k).2⟩,h.zero⟩
 · simp only[World.setCell,Array.getElem?_modify,if_true,h.rI]
   simp
 · rw[jN (by rw[h.lI];exact ht)]at q
   split at q
   · rename_i e;rw[e];exact hx q
   · exact (h.snd k).1 q
theorem yt.setO {w wr:World} {n:Nat} {G:Array Value} {bl:List Bk} {I O:List Bool} (h:yt w n G bl I O wr) (t:Nat) (x:Bool) (hx:x=true→Rch bl t 1) (ht:t<n) (hz:zo O t=true→x=true):yt w n G bl I (O.set t x) (wr.setCell ⟨w.heap.size+1+1,t,none⟩ (.bool x)):=by
 have hb:∀ j,j≠w.heap.size+1+1→(wr.setCell ⟨w.heap.size+1+1,t,none⟩ (.bool x)).heap[j]? = wr.heap[j]?:=fun j hj=>Below.heap_setCell _ _ _ _ hj
 refine⟨h.below.setCell (by show w.heap.size≤w.heap.size+1+1;omega) _,(hb _ (by omega)).trans h.box,(hb _ (by omega)).trans h.rI, ?_,h.lI,by simpa using h.lO,fun k=>⟨(h.snd k).1,fun q=>?_⟩, ?_⟩
 · simp only[World.setCell,Array.getElem?_modify,if_true,h.rO]
   simp
 · rw[jN (by rw[h.lO];exact ht)]at q
   split at q
   · rename_i e;rw[e];exact hx q
   · exact (h.snd k).2 q
 · rw[jN (by rw[h.lO];exact ht)]
   split
   · rename_i e;subst e;exact hz h.zero
   · exact h.zero
structure Pass (bl:List Bk) (I O I' O':List Bool) (ch:Bool) (k:Nat):Prop where
 same:ch=false→I'=I∧O'=O∧∀ t b,t<k→bl[t]? = some b→kM I O t b
 le:yh I'+yh O'≤yh I+yh O
 lt:ch=true→yh I'+yh O'<yh I+yh O
structure vg (bl:List Bk) (I O I' O':List Bool) (ch:Bool) (k:Nat) (i o:Bool) (ys:List Int) (q:Nat):Prop where
 same:ch=false→I'=I∧O'=O∧(∀ t b,t<k→bl[t]? = some b→kM I O t b)∧∀ (j:Nat) y,j<q→ys[j]? = some y→(i=true→zo I y.toNat=true)∧(o=true→zo O y.toNat=true)
 le:yh I'+yh O'≤yh I+yh O
 lt:ch=true→yh I'+yh O'<yh I+yh O
theorem vg.done {bl:List Bk} {I O I' O':List Bool} {ch:Bool} {k:Nat} {b:Bk} (hb:bl[k]? = some b) {i o:Bool} (hio:ch=false→(i,o)=wU b (zo I k) (zo O k)) (h:vg bl I O I' O' ch k i o (zC b) (zC b).length):Pass bl I O I' O' ch (k+1):=by
 refine⟨fun hc=>?_,h.le,h.lt⟩;obtain⟨h1,h2,h3,h4⟩:=h.same hc;refine⟨h1,h2,fun t b' ht hb'=>?_⟩
 by_cases e:t=k
 · subst e
   rw[hb]at hb';cases hb';intro y hy;obtain⟨j,hj,rfl⟩:=List.mem_iff_getElem.1 hy;have:=h4 j _ hj (List.getElem?_eq_getElem hj);rw[←hio hc];exact this
 · exact h3 t b' (by omega) hb'
theorem vg.skip {bl:List Bk} {I O I' O':List Bool} {ch:Bool} {k:Nat} {i o:Bool} {ys:List Int} {q:Nat} {y:Int} (h:vg bl I O I' O' ch k i o ys q) (hy:ys[q]? = some y) (hn:(i && !zo I' y.toNat || o && !zo O' y.toNat)=false):vg bl I O I' O' ch k i o ys (q+1):=by
 refine⟨fun hc=>?_,h.le,h.lt⟩;obtain⟨h1,h2,h3,h4⟩:=h.same hc;refine⟨h1,h2,h3,fun j z hj hz=>?_⟩
 by_cases e:j=q
 · subst e
   rw[hy]at hz;cases hz;rw[h1,h2]at hn;constructor
   · intro q;rw[q]at hn;cases hh:zo I y.toNat with
     | true=>rfl
     | false=>rw[hh]at hn;simp at hn
   · intro q;rw[q]at hn;cases hh:zo O y.toNat with
     | true=>rfl
     | false=>rw[hh]at hn;simp at hn
 · exact h4 j z (by omega) hz
theorem vg.put {bl:List Bk} {I O I' O':List Bool} {ch:Bool} {k:Nat} {i o:Bool} {ys:List Int} {q:Nat} {t:Nat} (h:vg bl I O I' O' ch k i o ys q) (hI:t<I'.length) (hO:t<O'.length) (hn:(i && !zo I' t || o && !zo O' t)=true):vg bl I O (I'.set t (zo I' t || i)) (O'.set t (zo O' t || o)) true k i o ys (q+1):=by
 obtain⟨a1,a2⟩:=ZF I' t (zo I' t || i) hI (fun q=>by rw[q];rfl);obtain⟨b1,b2⟩:=ZF O' t (zo O' t || o) hO (fun q=>by rw[q];rfl);have hl:=h.le
 have key:yh (I'.set t (zo I' t || i))+yh (O'.set t (zo O' t || o))<yh I'+yh O':=by
  generalize zo I' t=x at *;generalize zo O' t=y at *;cases x <;> cases y <;> cases i <;> cases o <;> simp at a1 a2 b1 b2 hn ⊢ <;> omega
 exact⟨fun q=>(by cases q),by omega,fun _=>by omega⟩
def SdE (n:Nat) (bl:List Bk) (w:World) (e:Ending) (w':World):Prop:=∃ I O,e = .returned (.tuple #[.slice (some ⟨w.heap.size+1,0,none⟩) n n,.slice (some ⟨w.heap.size+1+1,0,none⟩) n n])∧w.heap.size+1+1<w'.heap.size ∧
 w'.heap[w.heap.size+1]? = some (.cells (I.map Value.bool).toArray 4 (0,0))∧w'.heap[w.heap.size+1+1]? = some (.cells (O.map Value.bool).toArray 4 (0,0))∧I.length=n∧O.length=n∧(∀ t,(zo I t=true↔Rch bl t 2)∧(zo O t=true↔Rch bl t 1))∧Below w.heap.size w w'
theorem QB (B:Nat) (g:Gr) (w:World) (hI:GIn w B g) (hBw:B≤w.heap.size) (h0:0<g.blocks.length) (hn:g.blocks.length≤4096) (hv:∀ b ∈ g.blocks,∀ y ∈ zC b,0≤y∧y<(g.blocks.length:Int)) :
 Calls Tryz.prog 218 #[.agg #[g.rv,.int .i64 g.sites,g.bv]] w (SdE g.blocks.length g.blocks w):=by
 obtain⟨ro,rc,er,-,-⟩:=hI.rlies.form;obtain⟨bo,bcp,eb,hbl,hbg⟩:=hI.blies.form;have HBL:=hid hI.blies;have HBI:=hid hI.blocks;clear hI;obtain⟨rv,refs,sites,bv,blocks⟩:=g;simp only at *;subst er eb;obtain⟨N1,hN1⟩:∃ N,N=refs.length:=⟨_,rfl⟩
 obtain⟨n,hN2⟩:∃ N,N=blocks.length:=⟨_,rfl⟩
 rw[←hN1,←hN2];rw[←hN2]at hbl hbg HBL hn h0 hv;obtain⟨G,hG⟩:∃ G:Array Value,G=#[.slice ro N1 rc,.int .i64 sites,.slice bo n bcp]:=⟨_,rfl⟩
 have hmk:=uu n (by omega);obtain⟨M,hM⟩:∃ M,M=((List.replicate n false).map Value.bool).toArray:=⟨_,rfl⟩
 have hM2:M.setIfInBounds 0 (.bool true)=(((List.replicate n false).set 0 true).map Value.bool).toArray:=by
  rw[hM];apply Array.toList_inj.1;simp
 rw[←hM]at hmk;obtain⟨W3,hW3⟩:∃ W3,W3=((w.alloc (.cells #[.slice ro N1 rc,.int .i64 sites,.slice bo n bcp] 75)).alloc (.cells M 4)).alloc (.cells (M.setIfInBounds 0 (.bool true)) 4):=⟨_,rfl⟩
 have z1:(w.alloc (.cells #[.slice ro N1 rc,.int .i64 sites,.slice bo n bcp] 75)).heap.size=w.heap.size+1:=by simp
 have z2:((w.alloc (.cells #[.slice ro N1 rc,.int .i64 sites,.slice bo n bcp] 75)).alloc (.cells M 4)).heap.size=w.heap.size+1+1:=by simp
 have hS:yt w n G blocks (List.replicate n false) ((List.replicate n false).set 0 true) W3:=by
  have hrep:∀ t,zo (List.replicate n false) t=false:=fun t=>by unfold zo;rw[List.getElem?_replicate];split <;> rfl
  have hz:zo ((List.replicate n false).set 0 true) 0=true:=by rw[jN (by simpa using h0)];rfl
  have h3:=(MapKept.heap_alloc ((w.alloc (.cells #[.slice ro N1 rc,.int .i64 sites,.slice bo n bcp] 75)).alloc (.cells M 4)) (.cells (M.setIfInBounds 0 (.bool true)) 4)).1;have h2:=(MapKept.heap_alloc (w.alloc (.cells #[.slice ro N1 rc,.int .i64 sites,.slice bo n bcp] 75)) (.cells M 4)).1;rw[z2]at h3;rw[z1]at h2;subst hW3;refine⟨((ze w _).alloc (by omega) _).alloc (by omega) _, ?_, ?_, ?_,by simp,by simp,fun t=>⟨fun q=>(by rw[hrep]at q;cases q),fun q=>?_⟩,hz⟩
  · rw[Below.heap_alloc _ _ _ (by omega),Below.heap_alloc _ _ _ (by omega),hG];exact (MapKept.heap_alloc _ _).1
  · rw[Below.heap_alloc _ _ _ (by omega),←hM];exact h2
  · rw[←hM2];exact h3
  · rw[jN (by simpa using h0)]at q
    split at q
    · rename_i e;rw[e];exact .base
    · rw[hrep]at q;cases q
 have HG:=hid hG;have HN:=hid hN2;have HV:=hid hv;have HG2:=hid hbg;have HS:=hid hS;have HW3:=hid hW3;obtain⟨q0,q1,q2⟩:=yl (MapKept.heap_alloc w (.cells #[.slice ro N1 rc,.int .i64 sites,.slice bo n bcp] 75)).1;have hz3:=(MapKept.heap_alloc ((w.alloc (.cells #[.slice ro N1 rc,.int .i64 sites,.slice bo n bcp] 75)).alloc (.cells M 4)) (.cells M 4)).1;rw[z2]at hz3;have fz:=Lib.frozen_of_heap hz3 0
 obtain⟨uz,cz⟩:∃ u,(((w.alloc (.cells #[.slice ro N1 rc,.int .i64 sites,.slice bo n bcp] 75)).alloc (.cells M 4)).alloc (.cells M 4)).cell? ⟨w.heap.size+1+1,0,none⟩ = some u:=by
  rw[hM]at hz3 ⊢;exact⟨_,qJ hz3 (by simpa using h0)⟩
 have HZ:=hid (And.intro z1 z2);clear hz3;clear hN1 hN2 hv hbg hS hW3 hG hM hM2 q0 q1 z1 z2;go_enter Tryz.func218,Tryz.ntmps218;go_wp2_with fail;rw[←HW3.out];clear q2 hmk fz cz
 go_loopg [6] (4*n+2) (fun f q wr=>∃ (I O:List Bool) (ch:Bool),q = .bool ch∧yt w n G blocks I O wr∧Hid (2*(yh I+yh O)+(if ch=true then 1 else 0)≤f∧(ch=false→∀ t b,blocks[t]? = some b→kM I O t b)))
 case atStart=>exact⟨_,_,true,rfl,HS.out,hid ⟨by
  have h1:=ZG (List.replicate n false);have h2:=ZG ((List.replicate n false).set 0 true);simp only[List.length_replicate,List.length_set]at h1 h2;simp;omega,fun q=>by cases q⟩⟩
 case round =>
  obtain⟨I,O,ch,rfl,hA,HF⟩:=hrel;cases ch with
  | false =>
   have HA:=hid hA;clear hA;go_wp2_with fail
   go_ret2
   have hA:=HA.out;exact⟨I,O,rfl,hA.size,hA.rI,hA.rO,hA.lI,hA.lO,Vd hA.snd hA.zero (HF.out.2 (by simp)),hA.below⟩
  | true =>
   have HA:=hid hA;clear hA;go_wp2_with fail
   go_loopw [6,7] (fun q6 q7 wr=>∃ (I' O':List Bool) (ch':Bool) (k:Nat),k≤n∧q6 = .bool ch'∧q7 = .int .i64 (k:Int)∧yt w n G blocks I' O' wr∧Hid (Pass blocks I O I' O' ch' k)) (fun _ q7 _=>n - (intOf q7).toNat)
   case atStart=>exact⟨I,O,false,0,by omega,rfl,rfl,HA.out,hid ⟨fun _=>⟨rfl,rfl,fun t b h=>by omega⟩,Nat.le_refl _,fun q=>by cases q⟩⟩
   case round =>
    obtain⟨I',O',ch',k,hk,rfl,rfl,hA',HP⟩:=hrel;have hbx:=hA'.box;rw[HG.out]at hbx;obtain⟨g0,g1,g2⟩:=yl hbx;have hsz:=hA'.size
    by_cases hlt:k<n
    · obtain⟨gb,goff,rfl,hgB⟩:=HG2.out (by omega)
      have hkl:k<blocks.length:=by rw[←HN.out];exact hlt
      obtain⟨b,eb⟩:∃ b,b=blocks[k]:=⟨_,rfl⟩
      have HEB:=hid (fun (h:k<blocks.length)=>(show List.get blocks ⟨k,h⟩ = b from by rw[eb];rfl));have hbk:blocks[k]? = some b:=by rw[eb];exact List.getElem?_eq_getElem hkl
      have hmem:b ∈ blocks:=List.mem_of_getElem? hbk;have hbel:=hA'.below;have hbI:=(HBI.out b hmem).keeps (hbel.mono hBw);have hc:=((HBL.out.below (hbel.mono hBw)).at rfl k hkl).2;rw[←eb]at hc;obtain⟨c0,c1,c2,c3,c4⟩:=bc hc;obtain⟨iq,ic,eiv,-,-⟩:=hbI.lies.form;have cI:=qJ hA'.rI (k:=k) (by rw[hA'.lI];exact hlt);have cO:=qJ hA'.rO (k:=k) (by rw[hA'.lO];exact hlt);have hgw:gb<wr.heap.size:=by omega
      have HBK:=hid (And.intro hbk hmem);have HBE:=hid (fun (u:World) (hu:Below wr.heap.size wr u)=>JP b (zo I' k) (zo O' k) w.heap.size u ((hbI.up hBw).keeps (hu.mono (by omega))) (by have:=hu.size;omega));have HNX:=hid (fun (u:World)=>J9 b u ⟨_,_,_,eiv⟩);have HA':=hid hA';rw[eiv]at c0 HBE HNX;obtain⟨il,hil⟩:∃ il,il=b.ins.length:=⟨_,rfl⟩
      rw[←hil]at c0 HBE HNX;obtain⟨bl_last,hl1⟩:∃ x,x=b.last:=⟨_,rfl⟩
      obtain⟨bl_reg,hl2⟩:∃ x,x=b.reg:=⟨_,rfl⟩
      obtain⟨bl_yes,hl3⟩:∃ x,x=b.yes:=⟨_,rfl⟩
      obtain⟨bl_no,hl4⟩:∃ x,x=b.no:=⟨_,rfl⟩
      rw[←hl1]at c1 HBE HNX;rw[←hl2]at c2 HBE HNX;rw[←hl3]at c3 HBE HNX;rw[←hl4]at c4 HBE HNX;obtain⟨bi,hbi⟩:∃ x,x=zo I' k:=⟨_,rfl⟩
      obtain⟨bo',hbo⟩:∃ x,x=zo O' k:=⟨_,rfl⟩
      rw[←hbi]at cI HBE;rw[←hbo]at cO HBE;obtain⟨r1,hr1⟩:∃ x,x=(wU b bi bo').1:=⟨_,rfl⟩
      obtain⟨r2,hr2⟩:∃ x,x=(wU b bi bo').2:=⟨_,rfl⟩
      rw[←hr1,←hr2]at HBE;have HBV:=hid (show b.iv = .slice iq il ic∧b.last=bl_last∧b.reg=bl_reg∧b.yes=bl_yes∧b.no=bl_no from⟨by rw[eiv,hil],hl1.symm,hl2.symm,hl3.symm,hl4.symm⟩);have HR:=hid (And.intro hbi (And.intro hbo (And.intro hr1 hr2)));clear hA' hbx hkl hbk hmem hbel hbI hc eiv hil hl1 hl2 hl3 hl4 hbi hbo hr1 hr2 eb;obtain⟨V,hV⟩:∃ V,V=wr:=⟨_,rfl⟩
      subst hV;go_wp2_with fail;refine wp_region_held_drew (S:=zk (V.heap.size) V) (by kernel_rfl) (zk.drew _ _) (fun hSw=>?_);refine tH 0 (.pointer (some ⟨w.heap.size,0+2,none⟩)) hSw ?_;(try simp only[nS]);refine tG 1 (.slice (some ⟨gb,goff,none⟩) n bcp) hSw (fun W hW=>?_) ?_
      · have g2:=hW.cell (by dsimp only;omega) g2
        first|(go_simp;done)|rfl
      (try simp only[nS]);refine tH 2 (.int .i64 (k:Int)) hSw ?_;(try simp only[nS]);refine tH 3 (.pointer (some ⟨gb,goff+k*5,none⟩)) hSw ?_;(try simp only[nS]);refine tG 4 (.agg #[.slice iq il ic,.int .u8 bl_last,.int .i64 bl_reg,.int .i64 bl_yes,.int .i64 bl_no]) hSw (fun W hW=>?_) ?_
      · have c0:=hW.cell (by dsimp only;omega) c0
        have c1:=hW.cell (by dsimp only;omega) c1;have c2:=hW.cell (by dsimp only;omega) c2;have c3:=hW.cell (by dsimp only;omega) c3;have c4:=hW.cell (by dsimp only;omega) c4
        first|(go_simp;done)|rfl
      (try simp only[nS]);refine tH 5 (.slice (some ⟨w.heap.size+1,0,none⟩) n n) hSw ?_;(try simp only[nS]);refine tH 6 (.int .i64 (k:Int)) hSw ?_;(try simp only[nS]);refine tH 7 (.pointer (some ⟨w.heap.size+1,0+k,none⟩)) hSw ?_;(try simp only[nS]);refine tG 8 (.bool bi) hSw (fun W hW=>?_) ?_
      · have cI:=hW.cell (by dsimp only;omega) cI
        first|(go_simp;done)|rfl
      (try simp only[nS]);refine tH 9 (.slice (some ⟨w.heap.size+1+1,0,none⟩) n n) hSw ?_;(try simp only[nS]);refine tH 10 (.int .i64 (k:Int)) hSw ?_;(try simp only[nS]);refine tH 11 (.pointer (some ⟨w.heap.size+1+1,0+k,none⟩)) hSw ?_;(try simp only[nS]);refine tG 12 (.bool bo') hSw (fun W hW=>?_) ?_
      · have cO:=hW.cell (by dsimp only;omega) cO
        first|(go_simp;done)|rfl
      (try simp only[nS]);refine tR 13 (fun K hK=>?_);clear hSw;go_simp;refine (HBE.out _ ((below_drewN (Below.refl _ _) 1))).mono ?_;rintro e w5 ⟨rfl,hb5⟩;have HA5:=hid ((HA'.out.keeps ((below_drewN (Below.refl _ _) 1))).keeps hb5);have hb6:Below V.heap.size V w5:=⟨hb5.os,hb5.tape,hb5.output,hb5.size,hb5.block⟩
      have HB6:=hid hb6;clear hb5 hb6;refine hK.out _ _ (fun k hk=>HB6.out.block k hk) (fun hSw=>?_);clear hK K;(try simp only[nS]);refine tH 14 (.tuple #[.bool r1,.bool r2]) hSw ?_;(try simp only[nS]);refine tH 15 (.bool r1) hSw ?_;(try simp only[nS]);refine tH 16 (.bool r2) hSw ?_;(try simp only[nS]);refine tH 17 (.bool r1) hSw ?_;(try simp only[nS]);refine tH 18 (.bool r2) hSw ?_;(try simp only[nS]);refine wpAnyH_done (by kernel_rfl) ?_ _;clear g0 g1 g2 c0 c1 c2 c3 c4 cI cO;have hbx5:=HA5.out.box;rw[HG.out]at hbx5;obtain⟨g0,g1,g2⟩:=yl hbx5;have hblk:=((HBL.out.below (HA5.out.below.mono hBw)).at rfl k (by rw[←HN.out];exact hlt)).2;rw[show blocks[k]=b from HEB.out _]at hblk;obtain⟨c0,c1,c2,c3,c4⟩:=bc hblk;rw[HBV.out.1]at c0;rw[HBV.out.2.1]at c1;rw[HBV.out.2.2.1]at c2;rw[HBV.out.2.2.2.1]at c3;rw[HBV.out.2.2.2.2]at c4;have hgw5:gb<w5.heap.size:=by have:=HB6.out.size;omega
      have hz5:w.heap.size+1+1<w5.heap.size:=HA5.out.size;clear hbx5 hblk;go_wp2_with fail;refine (HNX.out _).mono ?_;rintro e w6 ⟨s,rfl,⟨ao,cap,rfl,hys⟩,hb7⟩;have hA6:=HA5.out.keeps hb7
      have HYS:=hid (show zC b=[]∨∃ g,ao=some ⟨g,0,none⟩ ∧ w.heap.size+1+1<g∧g<w6.heap.size∧∀ (j:Nat) y,(zC b)[j]? = some y→w6.cell? ⟨g,j,none⟩ = some (.int .i64 y)from by
       rcases hys with h|⟨g,h1,h2,h3,h4⟩
       · exact .inl h
       · exact .inr ⟨g,h1,by omega,h3,h4⟩)
      have HA6:=hid hA6;obtain⟨ny,hny⟩:∃ x,x=(zC b).length:=⟨_,rfl⟩
      rw[←hny];have HNY:=hid hny;have hny2:ny≤2:=by rw[hny];exact ZN b
      have HP0:=hid (show vg blocks I O I' O' ch' k r1 r2 (zC b) 0 from⟨fun hc=>⟨(HP.out.same hc).1,(HP.out.same hc).2.1,(HP.out.same hc).2.2,fun j y hj=>by omega⟩,HP.out.le,HP.out.lt⟩)
      have HIO:=hid (show ch'=false→(r1,r2)=wU b (zo I k) (zo O k)from fun hc=>by
       rw[HR.out.2.2.1,HR.out.2.2.2,HR.out.1,HR.out.2.1,(HP.out.same hc).1,(HP.out.same hc).2.1])
      have HSN:=hid (show ∀ y ∈ zC b,(r1=true→Rch blocks y.toNat 2)∧(r2=true→Rch blocks y.toNat 1)from fun y hy=>by
       rw[HR.out.2.2.1,HR.out.2.2.2,HR.out.1,HR.out.2.1];exact z2f HA'.out.snd HBK.out.1 hy)
      clear hys hb7 hA6 hny g0 g1 g2 c0 c1 c2 c3 c4;go_wp2_with fail
      go_loopw [6,11] (fun q6 q11 wr=>∃ (I2 O2:List Bool) (ch2:Bool) (q:Nat),q≤ny∧q6 = .bool ch2∧q11 = .int .i64 (q:Int)∧yt w n G blocks I2 O2 wr∧Kept (w.heap.size+1+1+1) w6 wr∧Hid (vg blocks I O I2 O2 ch2 k r1 r2 (zC b) q∧(ch2=false→ch'=false))) (fun _ q11 _=>ny - (intOf q11).toNat)
      case atStart=>exact⟨I',O',ch',0,by omega,rfl,rfl,HA6.out,Kept.refl _ _,hid ⟨HP0.out,id⟩⟩
      case round =>
       obtain⟨I2,O2,ch2,q,hq,rfl,rfl,hA2,hKp,HQ⟩:=hrel
       by_cases hlq:q<ny
       · have hql:q<(zC b).length:=by rw[←HNY.out];exact hlq
         obtain⟨y,hy⟩:∃ y,(zC b)[q]? = some y:=⟨_,List.getElem?_eq_getElem hql⟩
         have hym:=List.mem_of_getElem? hy;obtain⟨t,ht⟩:∃ t:Nat,y=(t:Int):=⟨y.toNat,by have:=HV.out b HBK.out.2 y hym;omega⟩
         have htn:t<n:=by have:=HV.out b HBK.out.2 y hym;omega
         subst ht;rcases HYS.out with h0'|⟨gy,rfl,hgy1,hgy2,hcy⟩
         · rw[h0']at hql;simp at hql
         have cy:wr.cell? ⟨gy,q,none⟩ = some (.int .i64 (t:Int)):=by
          rw[World.cell?,hKp.2 gy (by omega) hgy2];exact hcy q _ hy
         have hgyw:gy<wr.heap.size:=Nat.lt_of_lt_of_le hgy2 hKp.1;obtain⟨xI,hxI⟩:∃ x,x=zo I2 t:=⟨_,rfl⟩
         obtain⟨xO,hxO⟩:∃ x,x=zo O2 t:=⟨_,rfl⟩
         have cI:=qJ hA2.rI (k:=t) (by rw[hA2.lI];exact htn);have cO:=qJ hA2.rO (k:=t) (by rw[hA2.lO];exact htn);rw[←hxI]at cI;rw[←hxO]at cO;have hz2:=hA2.size;have HYY:=hid (And.intro hy hym);have HX:=hid (And.intro hxI hxO);have HA2:=hid hA2;have HKP:=hid hKp;clear hql hy hym hxI hxO hA2 hKp hcy
         by_cases hch:(r1 && !xI || r2 && !xO)=true
         · have hchH:=hid hch
           have hF0:=Lib.frozen_of_heap HA2.out.rI t;have hF1:=Lib.frozen_of_heap HA2.out.rO t
           have HST:=hid (show ∀ V:World,yt w n G blocks I2 O2 V→yt w n G blocks (I2.set t (xI || r1)) (O2.set t (xO || r2)) ((V.setCell ⟨w.heap.size+1,t,none⟩ (.bool (xI || r1))).setCell ⟨w.heap.size+1+1,t,none⟩ (.bool (xO || r2)))from fun V hV=>by
            have hsn:=HSN.out _ HYY.out.2;rw[Int.toNat_natCast]at hsn;refine (hV.setI t _ (fun q=>?_) htn).setO t _ (fun q=>?_) htn (fun q=>?_)
            · cases hx:xI with
              | true=>rw[HX.out.1]at hx;exact (hV.snd t).1 hx
              | false=>rw[hx]at q;exact hsn.1 q
            · cases hx:xO with
              | true=>rw[HX.out.2]at hx;exact (hV.snd t).2 hx
              | false=>rw[hx]at q;exact hsn.2 q
            · rw[HX.out.2,q];rfl)
           have HPT:=hid (show vg blocks I O (I2.set t (xI || r1)) (O2.set t (xO || r2)) true k r1 r2 (zC b) (q+1)from by
            have h:=HQ.out.1.put (t:=t) (by rw[HA2.out.lI];exact htn) (by rw[HA2.out.lO];exact htn) (by rw[←HX.out.1,←HX.out.2];exact hch);rw[←HX.out.1,←HX.out.2]at h;exact h)
           obtain⟨V2,hV2⟩:∃ V2,V2=wr:=⟨_,rfl⟩
           subst hV2;have HC2:=hid HQ.out.2
           have hd:(r1=false∧r2=true∧xI=false∧xO=false)∨(r1=false∧r2=true∧xI=true∧xO=false)∨(r1=true∧r2=false∧xI=false∧xO=false)∨(r1=true∧r2=false∧xI=false∧xO=true)∨(r1=true∧r2=true∧xI=false∧xO=false)∨(r1=true∧r2=true∧xI=false∧xO=true)∨(r1=true∧r2=true∧xI=true∧xO=false):=by
            revert hch;cases r1 <;> cases r2 <;> cases xI <;> cases xO <;> simp
           clear hch;rcases hd with ⟨rfl,rfl,rfl,rfl⟩|⟨rfl,rfl,rfl,rfl⟩|⟨rfl,rfl,rfl,rfl⟩|⟨rfl,rfl,rfl,rfl⟩|⟨rfl,rfl,rfl,rfl⟩|⟨rfl,rfl,rfl,rfl⟩|⟨rfl,rfl,rfl,rfl⟩
           · have HST2:=hid (HST.out)
             go_wp2_with fail;refine yJ 16 (by kernel_rfl) (by kernel_rfl) (fun w2 hw2=>?_);have cy:=dc hw2 cy;have cI:=dc hw2 cI;have cO:=dc hw2 cO;have f0:=df hw2 hF0;have f1:=df hw2 hF1;have hA7:=HA2.out.keeps (db hw2);have HS7:=hid (show yt w n G blocks _ _ ((w2.setCell ⟨w.heap.size+1,t,none⟩ (.bool false)).setCell ⟨w.heap.size+1+1,t,none⟩ (.bool true))from HST.out w2 hA7);have HK7:=hid (HKP.out.trans (Kept.of_below (db hw2)));have hrO7:=hA7.rO;have hgy7:gy<w2.heap.size:=by rw[dz hw2];exact hgyw
             have hz7:w.heap.size+1+1<w2.heap.size:=hA7.size;clear hw2 hA7;simp only[List.take_succ_cons,List.take_zero,List.drop_succ_cons,List.drop_zero]
             repeat still_step
             refine wpStill_nil ?_;obtain⟨w3,hw3⟩:∃ w3,w3=w2.setCell ⟨w.heap.size+1,t,none⟩ (.bool false):=⟨_,rfl⟩
             have cy3:w3.cell? ⟨gy,q,none⟩ = some (.int .i64 (t:Int)):=by rw[hw3,World.cell?,Below.heap_setCell _ _ _ _ (by show gy≠w.heap.size+1;omega)];exact cy
             have cO3:w3.cell? ⟨w.heap.size+1+1,t,none⟩ = some (.bool false):=by rw[hw3,World.cell?,Below.heap_setCell _ _ _ _ (by show w.heap.size+1+1≠w.heap.size+1;omega)];exact cO
             have hr3:w3.heap[w.heap.size+1+1]? = some (.cells (O2.map Value.bool).toArray 4 (0,0)):=by rw[hw3,Below.heap_setCell _ _ _ _ (by show w.heap.size+1+1≠w.heap.size+1;omega)];exact hrO7
             have f3:=Lib.frozen_of_heap hr3 t;clear hr3 hrO7;have hgy3:gy<w3.heap.size:=by rw[hw3];simpa[World.setCell]using hgy7
             have hz3:w.heap.size+1+1<w3.heap.size:=by rw[hw3];simpa[World.setCell]using hz7
             have HK3:=hid (show Kept (w.heap.size+1+1+1) w6 w3 from by rw[hw3];exact HK7.out.trans (Kept.of_set (by omega)));have HW3':=hid hw3;clear f1;go_wp2_with fail;rw[←HW3'.out];rw[←HW3'.out]at HS7;clear cy cI cO f0 hgy7 hz7 hw3;refine yJ 16 (by kernel_rfl) (by kernel_rfl) (fun w4 hw4=>?_);have cy4:=dc hw4 cy3;have cO4:=dc hw4 cO3;have f4:=df hw4 f3;have hgy4:gy<w4.heap.size:=by rw[dz hw4];exact hgy3
             have hz4:w.heap.size+1+1<w4.heap.size:=by rw[dz hw4];exact hz3
             have HS4:=hid (show yt w n G blocks _ _ (w4.setCell ⟨w.heap.size+1+1,t,none⟩ (.bool true))from by
              have h:=HS7.out;rw[hw4];exact h.keeps ⟨rfl,rfl,rfl,Nat.le_refl _,fun _ _=>rfl⟩)
             have HK4:=hid (show Kept (w.heap.size+1+1+1) w6 (w4.setCell ⟨w.heap.size+1+1,t,none⟩ (.bool true))from (HK3.out.trans (Kept.of_below (db hw4))).trans (Kept.of_set (by omega)));clear hw4 cy3 cO3 f3 hgy3 hz3;simp only[List.take_succ_cons,List.take_zero,List.drop_succ_cons,List.drop_zero]
             repeat still_step
             refine wpStill_nil ?_;go_wp2_with fail;go_roundw
             case rel=>exact⟨_,_,true,q+1,hlq,rfl,by go_num,HS4.out,HK4.out,hid ⟨HPT.out,fun q=>(by cases q)⟩⟩
             case measure=>simp[intOf];omega
           · have HST2:=hid (HST.out)
             go_wp2_with fail;refine yJ 16 (by kernel_rfl) (by kernel_rfl) (fun w2 hw2=>?_);have cy:=dc hw2 cy;have cI:=dc hw2 cI;have cO:=dc hw2 cO;have f0:=df hw2 hF0;have f1:=df hw2 hF1;have hA7:=HA2.out.keeps (db hw2);have HS7:=hid (show yt w n G blocks _ _ ((w2.setCell ⟨w.heap.size+1,t,none⟩ (.bool true)).setCell ⟨w.heap.size+1+1,t,none⟩ (.bool true))from HST.out w2 hA7);have HK7:=hid (HKP.out.trans (Kept.of_below (db hw2)));have hrO7:=hA7.rO;have hgy7:gy<w2.heap.size:=by rw[dz hw2];exact hgyw
             have hz7:w.heap.size+1+1<w2.heap.size:=hA7.size;clear hw2 hA7;simp only[List.take_succ_cons,List.take_zero,List.drop_succ_cons,List.drop_zero]
             repeat still_step
             refine wpStill_nil ?_;obtain⟨w3,hw3⟩:∃ w3,w3=w2.setCell ⟨w.heap.size+1,t,none⟩ (.bool true):=⟨_,rfl⟩
             have cy3:w3.cell? ⟨gy,q,none⟩ = some (.int .i64 (t:Int)):=by rw[hw3,World.cell?,Below.heap_setCell _ _ _ _ (by show gy≠w.heap.size+1;omega)];exact cy
             have cO3:w3.cell? ⟨w.heap.size+1+1,t,none⟩ = some (.bool false):=by rw[hw3,World.cell?,Below.heap_setCell _ _ _ _ (by show w.heap.size+1+1≠w.heap.size+1;omega)];exact cO
             have hr3:w3.heap[w.heap.size+1+1]? = some (.cells (O2.map Value.bool).toArray 4 (0,0)):=by rw[hw3,Below.heap_setCell _ _ _ _ (by show w.heap.size+1+1≠w.heap.size+1;omega)];exact hrO7
             have f3:=Lib.frozen_of_heap hr3 t;clear hr3 hrO7;have hgy3:gy<w3.heap.size:=by rw[hw3];simpa[World.setCell]using hgy7
             have hz3:w.heap.size+1+1<w3.heap.size:=by rw[hw3];simpa[World.setCell]using hz7
             have HK3:=hid (show Kept (w.heap.size+1+1+1) w6 w3 from by rw[hw3];exact HK7.out.trans (Kept.of_set (by omega)));have HW3':=hid hw3;clear f1;go_wp2_with fail;rw[←HW3'.out];rw[←HW3'.out]at HS7;clear cy cI cO f0 hgy7 hz7 hw3;refine yJ 16 (by kernel_rfl) (by kernel_rfl) (fun w4 hw4=>?_);have cy4:=dc hw4 cy3;have cO4:=dc hw4 cO3;have f4:=df hw4 f3;have hgy4:gy<w4.heap.size:=by rw[dz hw4];exact hgy3
             have hz4:w.heap.size+1+1<w4.heap.size:=by rw[dz hw4];exact hz3
             have HS4:=hid (show yt w n G blocks _ _ (w4.setCell ⟨w.heap.size+1+1,t,none⟩ (.bool true))from by
              have h:=HS7.out;rw[hw4];exact h.keeps ⟨rfl,rfl,rfl,Nat.le_refl _,fun _ _=>rfl⟩)
             have HK4:=hid (show Kept (w.heap.size+1+1+1) w6 (w4.setCell ⟨w.heap.size+1+1,t,none⟩ (.bool true))from (HK3.out.trans (Kept.of_below (db hw4))).trans (Kept.of_set (by omega)));clear hw4 cy3 cO3 f3 hgy3 hz3;simp only[List.take_succ_cons,List.take_zero,List.drop_succ_cons,List.drop_zero]
             repeat still_step
             refine wpStill_nil ?_;go_wp2_with fail;go_roundw
             case rel=>exact⟨_,_,true,q+1,hlq,rfl,by go_num,HS4.out,HK4.out,hid ⟨HPT.out,fun q=>(by cases q)⟩⟩
             case measure=>simp[intOf];omega
           · have HST2:=hid (HST.out)
             go_wp2_with fail;refine yJ 16 (by kernel_rfl) (by kernel_rfl) (fun w2 hw2=>?_);have cy:=dc hw2 cy;have cI:=dc hw2 cI;have cO:=dc hw2 cO;have f0:=df hw2 hF0;have f1:=df hw2 hF1;have hA7:=HA2.out.keeps (db hw2);have HS7:=hid (show yt w n G blocks _ _ ((w2.setCell ⟨w.heap.size+1,t,none⟩ (.bool true)).setCell ⟨w.heap.size+1+1,t,none⟩ (.bool false))from HST.out w2 hA7);have HK7:=hid (HKP.out.trans (Kept.of_below (db hw2)));have hrO7:=hA7.rO;have hgy7:gy<w2.heap.size:=by rw[dz hw2];exact hgyw
             have hz7:w.heap.size+1+1<w2.heap.size:=hA7.size;clear hw2 hA7;simp only[List.take_succ_cons,List.take_zero,List.drop_succ_cons,List.drop_zero]
             repeat still_step
             refine wpStill_nil ?_;obtain⟨w3,hw3⟩:∃ w3,w3=w2.setCell ⟨w.heap.size+1,t,none⟩ (.bool true):=⟨_,rfl⟩
             have cy3:w3.cell? ⟨gy,q,none⟩ = some (.int .i64 (t:Int)):=by rw[hw3,World.cell?,Below.heap_setCell _ _ _ _ (by show gy≠w.heap.size+1;omega)];exact cy
             have cO3:w3.cell? ⟨w.heap.size+1+1,t,none⟩ = some (.bool false):=by rw[hw3,World.cell?,Below.heap_setCell _ _ _ _ (by show w.heap.size+1+1≠w.heap.size+1;omega)];exact cO
             have hr3:w3.heap[w.heap.size+1+1]? = some (.cells (O2.map Value.bool).toArray 4 (0,0)):=by rw[hw3,Below.heap_setCell _ _ _ _ (by show w.heap.size+1+1≠w.heap.size+1;omega)];exact hrO7
             have f3:=Lib.frozen_of_heap hr3 t;clear hr3 hrO7;have hgy3:gy<w3.heap.size:=by rw[hw3];simpa[World.setCell]using hgy7
             have hz3:w.heap.size+1+1<w3.heap.size:=by rw[hw3];simpa[World.setCell]using hz7
             have HK3:=hid (show Kept (w.heap.size+1+1+1) w6 w3 from by rw[hw3];exact HK7.out.trans (Kept.of_set (by omega)));have HW3':=hid hw3;clear f1;go_wp2_with fail;rw[←HW3'.out];rw[←HW3'.out]at HS7;clear cy cI cO f0 hgy7 hz7 hw3;refine yJ 16 (by kernel_rfl) (by kernel_rfl) (fun w4 hw4=>?_);have cy4:=dc hw4 cy3;have cO4:=dc hw4 cO3;have f4:=df hw4 f3;have hgy4:gy<w4.heap.size:=by rw[dz hw4];exact hgy3
             have hz4:w.heap.size+1+1<w4.heap.size:=by rw[dz hw4];exact hz3
             have HS4:=hid (show yt w n G blocks _ _ (w4.setCell ⟨w.heap.size+1+1,t,none⟩ (.bool false))from by
              have h:=HS7.out;rw[hw4];exact h.keeps ⟨rfl,rfl,rfl,Nat.le_refl _,fun _ _=>rfl⟩)
             have HK4:=hid (show Kept (w.heap.size+1+1+1) w6 (w4.setCell ⟨w.heap.size+1+1,t,none⟩ (.bool false))from (HK3.out.trans (Kept.of_below (db hw4))).trans (Kept.of_set (by omega)));clear hw4 cy3 cO3 f3 hgy3 hz3;simp only[List.take_succ_cons,List.take_zero,List.drop_succ_cons,List.drop_zero]
             repeat still_step
             refine wpStill_nil ?_;go_wp2_with fail;go_roundw
             case rel=>exact⟨_,_,true,q+1,hlq,rfl,by go_num,HS4.out,HK4.out,hid ⟨HPT.out,fun q=>(by cases q)⟩⟩
             case measure=>simp[intOf];omega
           · have HST2:=hid (HST.out)
             go_wp2_with fail;refine yJ 16 (by kernel_rfl) (by kernel_rfl) (fun w2 hw2=>?_);have cy:=dc hw2 cy;have cI:=dc hw2 cI;have cO:=dc hw2 cO;have f0:=df hw2 hF0;have f1:=df hw2 hF1;have hA7:=HA2.out.keeps (db hw2);have HS7:=hid (show yt w n G blocks _ _ ((w2.setCell ⟨w.heap.size+1,t,none⟩ (.bool true)).setCell ⟨w.heap.size+1+1,t,none⟩ (.bool true))from HST.out w2 hA7);have HK7:=hid (HKP.out.trans (Kept.of_below (db hw2)));have hrO7:=hA7.rO;have hgy7:gy<w2.heap.size:=by rw[dz hw2];exact hgyw
             have hz7:w.heap.size+1+1<w2.heap.size:=hA7.size;clear hw2 hA7;simp only[List.take_succ_cons,List.take_zero,List.drop_succ_cons,List.drop_zero]
             repeat still_step
             refine wpStill_nil ?_;obtain⟨w3,hw3⟩:∃ w3,w3=w2.setCell ⟨w.heap.size+1,t,none⟩ (.bool true):=⟨_,rfl⟩
             have cy3:w3.cell? ⟨gy,q,none⟩ = some (.int .i64 (t:Int)):=by rw[hw3,World.cell?,Below.heap_setCell _ _ _ _ (by show gy≠w.heap.size+1;omega)];exact cy
             have cO3:w3.cell? ⟨w.heap.size+1+1,t,none⟩ = some (.bool true):=by rw[hw3,World.cell?,Below.heap_setCell _ _ _ _ (by show w.heap.size+1+1≠w.heap.size+1;omega)];exact cO
             have hr3:w3.heap[w.heap.size+1+1]? = some (.cells (O2.map Value.bool).toArray 4 (0,0)):=by rw[hw3,Below.heap_setCell _ _ _ _ (by show w.heap.size+1+1≠w.heap.size+1;omega)];exact hrO7
             have f3:=Lib.frozen_of_heap hr3 t;clear hr3 hrO7;have hgy3:gy<w3.heap.size:=by rw[hw3];simpa[World.setCell]using hgy7
             have hz3:w.heap.size+1+1<w3.heap.size:=by rw[hw3];simpa[World.setCell]using hz7
             have HK3:=hid (show Kept (w.heap.size+1+1+1) w6 w3 from by rw[hw3];exact HK7.out.trans (Kept.of_set (by omega)));have HW3':=hid hw3;clear f1;go_wp2_with fail;rw[←HW3'.out];rw[←HW3'.out]at HS7;clear cy cI cO f0 hgy7 hz7 hw3;refine yJ 16 (by kernel_rfl) (by kernel_rfl) (fun w4 hw4=>?_);have cy4:=dc hw4 cy3;have cO4:=dc hw4 cO3;have f4:=df hw4 f3;have hgy4:gy<w4.heap.size:=by rw[dz hw4];exact hgy3
             have hz4:w.heap.size+1+1<w4.heap.size:=by rw[dz hw4];exact hz3
             have HS4:=hid (show yt w n G blocks _ _ (w4.setCell ⟨w.heap.size+1+1,t,none⟩ (.bool true))from by
              have h:=HS7.out;rw[hw4];exact h.keeps ⟨rfl,rfl,rfl,Nat.le_refl _,fun _ _=>rfl⟩)
             have HK4:=hid (show Kept (w.heap.size+1+1+1) w6 (w4.setCell ⟨w.heap.size+1+1,t,none⟩ (.bool true))from (HK3.out.trans (Kept.of_below (db hw4))).trans (Kept.of_set (by omega)));clear hw4 cy3 cO3 f3 hgy3 hz3;simp only[List.take_succ_cons,List.take_zero,List.drop_succ_cons,List.drop_zero]
             repeat still_step
             refine wpStill_nil ?_;go_wp2_with fail;go_roundw
             case rel=>exact⟨_,_,true,q+1,hlq,rfl,by go_num,HS4.out,HK4.out,hid ⟨HPT.out,fun q=>(by cases q)⟩⟩
             case measure=>simp[intOf];omega
           · have HST2:=hid (HST.out)
             go_wp2_with fail;refine yJ 16 (by kernel_rfl) (by kernel_rfl) (fun w2 hw2=>?_);have cy:=dc hw2 cy;have cI:=dc hw2 cI;have cO:=dc hw2 cO;have f0:=df hw2 hF0;have f1:=df hw2 hF1;have hA7:=HA2.out.keeps (db hw2);have HS7:=hid (show yt w n G blocks _ _ ((w2.setCell ⟨w.heap.size+1,t,none⟩ (.bool true)).setCell ⟨w.heap.size+1+1,t,none⟩ (.bool true))from HST.out w2 hA7);have HK7:=hid (HKP.out.trans (Kept.of_below (db hw2)));have hrO7:=hA7.rO;have hgy7:gy<w2.heap.size:=by rw[dz hw2];exact hgyw
             have hz7:w.heap.size+1+1<w2.heap.size:=hA7.size;clear hw2 hA7;simp only[List.take_succ_cons,List.take_zero,List.drop_succ_cons,List.drop_zero]
             repeat still_step
             refine wpStill_nil ?_;obtain⟨w3,hw3⟩:∃ w3,w3=w2.setCell ⟨w.heap.size+1,t,none⟩ (.bool true):=⟨_,rfl⟩
             have cy3:w3.cell? ⟨gy,q,none⟩ = some (.int .i64 (t:Int)):=by rw[hw3,World.cell?,Below.heap_setCell _ _ _ _ (by show gy≠w.heap.size+1;omega)];exact cy
             have cO3:w3.cell? ⟨w.heap.size+1+1,t,none⟩ = some (.bool false):=by rw[hw3,World.cell?,Below.heap_setCell _ _ _ _ (by show w.heap.size+1+1≠w.heap.size+1;omega)];exact cO
             have hr3:w3.heap[w.heap.size+1+1]? = some (.cells (O2.map Value.bool).toArray 4 (0,0)):=by rw[hw3,Below.heap_setCell _ _ _ _ (by show w.heap.size+1+1≠w.heap.size+1;omega)];exact hrO7
             have f3:=Lib.frozen_of_heap hr3 t;clear hr3 hrO7;have hgy3:gy<w3.heap.size:=by rw[hw3];simpa[World.setCell]using hgy7
             have hz3:w.heap.size+1+1<w3.heap.size:=by rw[hw3];simpa[World.setCell]using hz7
             have HK3:=hid (show Kept (w.heap.size+1+1+1) w6 w3 from by rw[hw3];exact HK7.out.trans (Kept.of_set (by omega)));have HW3':=hid hw3;clear f1;go_wp2_with fail;rw[←HW3'.out];rw[←HW3'.out]at HS7;clear cy cI cO f0 hgy7 hz7 hw3;refine yJ 16 (by kernel_rfl) (by kernel_rfl) (fun w4 hw4=>?_);have cy4:=dc hw4 cy3;have cO4:=dc hw4 cO3;have f4:=df hw4 f3;have hgy4:gy<w4.heap.size:=by rw[dz hw4];exact hgy3
             have hz4:w.heap.size+1+1<w4.heap.size:=by rw[dz hw4];exact hz3
             have HS4:=hid (show yt w n G blocks _ _ (w4.setCell ⟨w.heap.size+1+1,t,none⟩ (.bool true))from by
              have h:=HS7.out;rw[hw4];exact h.keeps ⟨rfl,rfl,rfl,Nat.le_refl _,fun _ _=>rfl⟩)
             have HK4:=hid (show Kept (w.heap.size+1+1+1) w6 (w4.setCell ⟨w.heap.size+1+1,t,none⟩ (.bool true))from (HK3.out.trans (Kept.of_below (db hw4))).trans (Kept.of_set (by omega)));clear hw4 cy3 cO3 f3 hgy3 hz3;simp only[List.take_succ_cons,List.take_zero,List.drop_succ_cons,List.drop_zero]
             repeat still_step
             refine wpStill_nil ?_;go_wp2_with fail;go_roundw
             case rel=>exact⟨_,_,true,q+1,hlq,rfl,by go_num,HS4.out,HK4.out,hid ⟨HPT.out,fun q=>(by cases q)⟩⟩
             case measure=>simp[intOf];omega
           · have HST2:=hid (HST.out)
             go_wp2_with fail;refine yJ 16 (by kernel_rfl) (by kernel_rfl) (fun w2 hw2=>?_);have cy:=dc hw2 cy;have cI:=dc hw2 cI;have cO:=dc hw2 cO;have f0:=df hw2 hF0;have f1:=df hw2 hF1;have hA7:=HA2.out.keeps (db hw2);have HS7:=hid (show yt w n G blocks _ _ ((w2.setCell ⟨w.heap.size+1,t,none⟩ (.bool true)).setCell ⟨w.heap.size+1+1,t,none⟩ (.bool true))from HST.out w2 hA7);have HK7:=hid (HKP.out.trans (Kept.of_below (db hw2)));have hrO7:=hA7.rO;have hgy7:gy<w2.heap.size:=by rw[dz hw2];exact hgyw
             have hz7:w.heap.size+1+1<w2.heap.size:=hA7.size;clear hw2 hA7;simp only[List.take_succ_cons,List.take_zero,List.drop_succ_cons,List.drop_zero]
             repeat still_step
             refine wpStill_nil ?_;obtain⟨w3,hw3⟩:∃ w3,w3=w2.setCell ⟨w.heap.size+1,t,none⟩ (.bool true):=⟨_,rfl⟩
             have cy3:w3.cell? ⟨gy,q,none⟩ = some (.int .i64 (t:Int)):=by rw[hw3,World.cell?,Below.heap_setCell _ _ _ _ (by show gy≠w.heap.size+1;omega)];exact cy
             have cO3:w3.cell? ⟨w.heap.size+1+1,t,none⟩ = some (.bool true):=by rw[hw3,World.cell?,Below.heap_setCell _ _ _ _ (by show w.heap.size+1+1≠w.heap.size+1;omega)];exact cO
             have hr3:w3.heap[w.heap.size+1+1]? = some (.cells (O2.map Value.bool).toArray 4 (0,0)):=by rw[hw3,Below.heap_setCell _ _ _ _ (by show w.heap.size+1+1≠w.heap.size+1;omega)];exact hrO7
             have f3:=Lib.frozen_of_heap hr3 t;clear hr3 hrO7;have hgy3:gy<w3.heap.size:=by rw[hw3];simpa[World.setCell]using hgy7
             have hz3:w.heap.size+1+1<w3.heap.size:=by rw[hw3];simpa[World.setCell]using hz7
             have HK3:=hid (show Kept (w.heap.size+1+1+1) w6 w3 from by rw[hw3];exact HK7.out.trans (Kept.of_set (by omega)));have HW3':=hid hw3;clear f1;go_wp2_with fail;rw[←HW3'.out];rw[←HW3'.out]at HS7;clear cy cI cO f0 hgy7 hz7 hw3;refine yJ 16 (by kernel_rfl) (by kernel_rfl) (fun w4 hw4=>?_);have cy4:=dc hw4 cy3;have cO4:=dc hw4 cO3;have f4:=df hw4 f3;have hgy4:gy<w4.heap.size:=by rw[dz hw4];exact hgy3
             have hz4:w.heap.size+1+1<w4.heap.size:=by rw[dz hw4];exact hz3
             have HS4:=hid (show yt w n G blocks _ _ (w4.setCell ⟨w.heap.size+1+1,t,none⟩ (.bool true))from by
              have h:=HS7.out;rw[hw4];exact h.keeps ⟨rfl,rfl,rfl,Nat.le_refl _,fun _ _=>rfl⟩)
             have HK4:=hid (show Kept (w.heap.size+1+1+1) w6 (w4.setCell ⟨w.heap.size+1+1,t,none⟩ (.bool true))from (HK3.out.trans (Kept.of_below (db hw4))).trans (Kept.of_set (by omega)));clear hw4 cy3 cO3 f3 hgy3 hz3;simp only[List.take_succ_cons,List.take_zero,List.drop_succ_cons,List.drop_zero]
             repeat still_step
             refine wpStill_nil ?_;go_wp2_with fail;go_roundw
             case rel=>exact⟨_,_,true,q+1,hlq,rfl,by go_num,HS4.out,HK4.out,hid ⟨HPT.out,fun q=>(by cases q)⟩⟩
             case measure=>simp[intOf];omega
           · have HST2:=hid (HST.out)
             go_wp2_with fail;refine yJ 16 (by kernel_rfl) (by kernel_rfl) (fun w2 hw2=>?_);have cy:=dc hw2 cy;have cI:=dc hw2 cI;have cO:=dc hw2 cO;have f0:=df hw2 hF0;have f1:=df hw2 hF1;have hA7:=HA2.out.keeps (db hw2);have HS7:=hid (show yt w n G blocks _ _ ((w2.setCell ⟨w.heap.size+1,t,none⟩ (.bool true)).setCell ⟨w.heap.size+1+1,t,none⟩ (.bool true))from HST.out w2 hA7);have HK7:=hid (HKP.out.trans (Kept.of_below (db hw2)));have hrO7:=hA7.rO;have hgy7:gy<w2.heap.size:=by rw[dz hw2];exact hgyw
             have hz7:w.heap.size+1+1<w2.heap.size:=hA7.size;clear hw2 hA7;simp only[List.take_succ_cons,List.take_zero,List.drop_succ_cons,List.drop_zero]
             repeat still_step
             refine wpStill_nil ?_;obtain⟨w3,hw3⟩:∃ w3,w3=w2.setCell ⟨w.heap.size+1,t,none⟩ (.bool true):=⟨_,rfl⟩
             have cy3:w3.cell? ⟨gy,q,none⟩ = some (.int .i64 (t:Int)):=by rw[hw3,World.cell?,Below.heap_setCell _ _ _ _ (by show gy≠w.heap.size+1;omega)];exact cy
             have cO3:w3.cell? ⟨w.heap.size+1+1,t,none⟩ = some (.bool false):=by rw[hw3,World.cell?,Below.heap_setCell _ _ _ _ (by show w.heap.size+1+1≠w.heap.size+1;omega)];exact cO
             have hr3:w3.heap[w.heap.size+1+1]? = some (.cells (O2.map Value.bool).toArray 4 (0,0)):=by rw[hw3,Below.heap_setCell _ _ _ _ (by show w.heap.size+1+1≠w.heap.size+1;omega)];exact hrO7
             have f3:=Lib.frozen_of_heap hr3 t;clear hr3 hrO7;have hgy3:gy<w3.heap.size:=by rw[hw3];simpa[World.setCell]using hgy7
             have hz3:w.heap.size+1+1<w3.heap.size:=by rw[hw3];simpa[World.setCell]using hz7
             have HK3:=hid (show Kept (w.heap.size+1+1+1) w6 w3 from by rw[hw3];exact HK7.out.trans (Kept.of_set (by omega)));have HW3':=hid hw3;clear f1;go_wp2_with fail;rw[←HW3'.out];rw[←HW3'.out]at HS7;clear cy cI cO f0 hgy7 hz7 hw3;refine yJ 16 (by kernel_rfl) (by kernel_rfl) (fun w4 hw4=>?_);have cy4:=dc hw4 cy3;have cO4:=dc hw4 cO3;have f4:=df hw4 f3;have hgy4:gy<w4.heap.size:=by rw[dz hw4];exact hgy3
             have hz4:w.heap.size+1+1<w4.heap.size:=by rw[dz hw4];exact hz3
             have HS4:=hid (show yt w n G blocks _ _ (w4.setCell ⟨w.heap.size+1+1,t,none⟩ (.bool true))from by
              have h:=HS7.out;rw[hw4];exact h.keeps ⟨rfl,rfl,rfl,Nat.le_refl _,fun _ _=>rfl⟩)
             have HK4:=hid (show Kept (w.heap.size+1+1+1) w6 (w4.setCell ⟨w.heap.size+1+1,t,none⟩ (.bool true))from (HK3.out.trans (Kept.of_below (db hw4))).trans (Kept.of_set (by omega)));clear hw4 cy3 cO3 f3 hgy3 hz3;simp only[List.take_succ_cons,List.take_zero,List.drop_succ_cons,List.drop_zero]
             repeat still_step
             refine wpStill_nil ?_;go_wp2_with fail;go_roundw
             case rel=>exact⟨_,_,true,q+1,hlq,rfl,by go_num,HS4.out,HK4.out,hid ⟨HPT.out,fun q=>(by cases q)⟩⟩
             case measure=>simp[intOf];omega
         · have hch':(r1 && !xI || r2 && !xO)=false:=by simpa using hch
           have HNP:=hid (HQ.out.1.skip HYY.out.1 (by rw[Int.toNat_natCast,←HX.out.1,←HX.out.2];exact hch'));have HC2:=hid HQ.out.2;clear hch
           cases r1 <;> cases r2 <;> cases xI <;> cases xO <;> first|(exfalso;simp at hch';done)|(
            clear hch';go_wp2_with fail;go_roundw
            case rel=>exact⟨I2,O2,ch2,q+1,hlq,rfl,by go_num,HA2.out,HKP.out,hid ⟨HNP.out,HC2.out⟩⟩
            case measure=>simp[intOf];omega)
       · have hqn:q=ny:=by omega
         subst hqn;have HPD:=hid (vg.done HBK.out.1 (fun hc=>HIO.out (HQ.out.2 hc)) (by rw[←HNY.out];exact HQ.out.1));have HA2:=hid hA2;clear hA2 hKp hlq;go_wp2_with fail;go_roundw
         case rel=>exact⟨I2,O2,ch2,k+1,hlt,rfl,by go_num,HA2.out,HPD⟩
         case measure=>simp[intOf];omega
    · have hkn:k=n:=by omega
      subst hkn;have HA2:=hid hA';clear hA' hbx g0 g1 hlt;go_wp2_with fail
      go_roundg (2*(yh I'+yh O')+(if ch'=true then 1 else 0))
      case measure =>
       have h1:=HF.out.1;simp only[if_true]at h1;cases ch' with
       | true=>have:=HP.out.lt rfl;simp;omega
       | false=>obtain⟨e1,e2,-⟩:=HP.out.same rfl;rw[e1,e2];simp;omega
      case rel =>
       refine⟨I',O',ch',rfl,HA2.out,hid ⟨Nat.le_refl _,fun hc t b hb=>?_⟩⟩;obtain⟨e1,e2,e3⟩:=HP.out.same hc;rw[e1,e2];exact e3 t b (by rw[HN.out];exact (List.getElem?_eq_some_iff.1 hb).1) hb
