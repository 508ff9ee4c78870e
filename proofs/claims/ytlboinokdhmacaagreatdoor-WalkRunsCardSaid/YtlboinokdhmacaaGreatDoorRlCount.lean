import Derived.Test.YtlboinokdhmacaaGreatDoorWkPush
import Derived.Test.YtlboinokdhmacaaGreatDoorIrBoth
import Derived.Outline
namespace Go.Proofs.YtlboinokdhmacaaGreatDoor
set_option maxHeartbeats 64000000
set_option maxRecDepth 1000000
open Lib(hid)
section
open Go.RowKit Go.Shelf
attribute [local go_sem] Oper.semAt_some
def UOk:List Un→Nat→Nat→Prop
 | [],_,_=>True
 | .put a _ :: l,s,n=>a<n∧UOk l s n
 | .cut :: l,s,n=>(1≤s∧s≤n)∧UOk l s s
def unA:Un→WS→TS→WS × TS
 | .put a x,W,T=>({ W with words:=W.words.set a x },T)
 | .cut,W,T=>({ W with words:=W.words.take T.since },{ T with waiting:=[] })
theorem qM (u:Un) (l:List Un) (W:WS) (T:TS):zW (u :: l) W T=zW l (unA u W T).1 (unA u W T).2:=by cases u <;> rfl
theorem XD (l m:List Un):∀ (W:WS) (T:TS),zW (l++m) W T=zW m (zW l W T).1 (zW l W T).2:=by
 induction l with
 | nil=>intro W T;rfl
 | cons u l ih=>intro W T;rw[List.cons_append,qM,qM,ih]
theorem Z4 (u:Un) (W:WS) (T:TS):(unA u W T).2.since=T.since∧(unA u W T).2.undo=T.undo∧(unA u W T).2.told=T.told∧(unA u W T).2.regs=T.regs∧(unA u W T).2.waiting.length≤T.waiting.length∧(unA u W T).2.bi=T.bi∧(unA u W T).2.ii=T.ii:=by cases u <;> exact⟨rfl,rfl,rfl,rfl,by simp[unA],rfl,rfl⟩
theorem XB (l:List Un):∀ (W:WS) (T:TS),(zW l W T).2.since=T.since∧(zW l W T).2.undo=T.undo∧(zW l W T).2.told=T.told∧(zW l W T).2.regs=T.regs∧(zW l W T).2.waiting.length≤T.waiting.length∧(zW l W T).2.bi=T.bi∧(zW l W T).2.ii=T.ii:=by
 induction l with
 | nil=>intro W T;exact⟨rfl,rfl,rfl,rfl,Nat.le_refl _,rfl,rfl⟩
 | cons u l ih =>
  intro W T;rw[qM];obtain⟨a,b,c,d,e,f,g⟩:=ih (unA u W T).1 (unA u W T).2;obtain⟨a',b',c',d',e',f',g'⟩:=Z4 u W T;exact⟨a.trans a',b.trans b',c.trans c',d.trans d',Nat.le_trans e e',f.trans f',g.trans g'⟩
theorem UOk.step {u:Un} {l:List Un} {W:WS} {T:TS} (h:UOk (u :: l) T.since W.words.length):UOk l (unA u W T).2.since (unA u W T).1.words.length:=by
 cases u with
 | put a x=>simpa[unA]using h.2
 | cut =>
  obtain⟨⟨_,h1⟩,h2⟩:=h;simp only[unA,List.length_take];rw[Nat.min_eq_left h1];exact h2
theorem UOk.drop:∀ (k:Nat) (l:List Un) (W:WS) (T:TS),UOk l T.since W.words.length→UOk (l.drop k) (zW (l.take k) W T).2.since (zW (l.take k) W T).1.words.length:=by
 intro k;induction k with
 | zero=>intro l W T h;exact h
 | succ k ih =>
  intro l W T h;cases l with
  | nil=>exact trivial
  | cons u l =>
   rw[List.drop_succ_cons,List.take_succ_cons,qM];exact ih l _ _ h.step
theorem Xz (T:TS) (W:WS) (k:Nat) (u:Un) (hu:T.undo[k]? = some u):zW (T.undo.take (k+1)) W T=unA u (zW (T.undo.take k) W T).1 (zW (T.undo.take k) W T).2:=by
 have hk:=(List.getElem?_eq_some_iff.1 hu)
 obtain⟨hk,e⟩:=hk;rw[List.take_add_one,hu,Option.toList_some,XD,qM]
 rfl
theorem uZ {ow:Nat→Nat} {w:World} {j p:Nat}:∀ {us:List Un} {l:List Value},vE ow w j p us l→l.length=us.length:=by
 intro us;induction us with
 | nil=>intro l h;simp only[vE]at h;subst h;rfl
 | cons u r ih=>rintro l ⟨f,l',_,h2,rfl⟩;simp[ih h2]
theorem Xw {ow:Nat→Nat} {w:World} {j p:Nat}:∀ {us:List Un} {l:List Value},vE ow w j p us l→∀ (k:Nat) u,us[k]? = some u→∃ f,l[us.length - 1 - k]? = some f∧qx ow w j p u f:=by
 intro us;induction us with
 | nil=>intro l h k u hu;simp at hu
 | cons u r ih =>
  rintro l ⟨f,l',h1,h2,rfl⟩ k v hv;have hl:=uZ h2;cases k with
  | zero =>
   simp at hv;subst hv;exact⟨f,by rw[List.length_cons,List.getElem?_append_right (by omega)];simp[hl],h1⟩
  | succ k =>
   rw[List.getElem?_cons_succ]at hv;have hk:=(List.getElem?_eq_some_iff.1 hv).1;obtain⟨f',e,h⟩:=ih h2 k v hv;exact⟨f',by rw[List.length_cons,List.getElem?_append_left (by omega),show r.length+1 - 1 - (k+1)=r.length - 1 - k by omega];exact e,h⟩
theorem WAt.setW {ow:Nat→Nat} {w:World} {b n:Nat} {W:WS} {v:Value} (h:WAt ow w b W n v) (a:Nat) (ha:a<W.words.length) :
 ∃ wg cap y,v = .slice (some ⟨wg,0,none⟩) W.words.length cap∧W.words.length≤cap∧wg<w.heap.size∧W.words[a]? = some y∧w.cell? ⟨wg,a,none⟩ = some (.int .i64 y)∧w.frozen? ⟨wg,a,none⟩ = false∧ow wg=2 ∧
  ∀ x,WAt ow (w.setCell ⟨wg,a,none⟩ (.int .i64 x)) b { W with words:=W.words.set a x } n v∧But ow [2] w (w.setCell ⟨wg,a,none⟩ (.int .i64 x)):=by
 rcases h.row.2 with ⟨_,h0⟩|⟨g,cap,cur,rfl,hb,hg,hn,hc,hs,ht⟩
 · omega
 · have hlab:ow g=2:=h.labr g rfl
   rw[Nat.mul_one]at ht hs;have hya:W.words[a]? = some W.words[a]:=List.getElem?_eq_getElem ha
   have hca:cur[a]? = some (.int .i64 W.words[a]):=by
    have:(cur.toList.take W.words.length)[a]? = (wds W.words)[a]?:=by rw[ht]
    rw[List.getElem?_take,if_pos ha,wds,List.getElem?_map,hya]at this
    simpa using this
   refine⟨g,cap,_,rfl,hn,z8 hg,hya,by rw[Lib.cell_of_heap hg];exact hca,Lib.frozen_of_heap hg a,hlab,fun x=>?_⟩;have hbut:But ow [2] w (w.setCell ⟨g,a,none⟩ (.int .i64 x)):=(But.of (Below.refl _ _)).set (p:=⟨g,a,none⟩) (by simp[hlab]) _;refine⟨⟨(hbut.block b (z8 h.box) (by rw[h.lab];simp)).trans h.box,⟨by simp[wds],.inr ⟨g,cap,cur.setIfInBounds a (.int .i64 x),by simp,hb,heap_setCell_same w g a _ _ _ hg,by simpa using hn,hc,by simpa using hs, ?_⟩⟩,h.lab,h.labr,h.big,by simpa using h.many⟩,hbut⟩;simp only[List.length_set,Nat.mul_one,Array.toList_setIfInBounds,wds,List.map_set];rw[List.take_set,ht];simp[wds]
theorem zi {ow:Nat→Nat} {l m:List Nat} {a b:World} (h:But ow l a b) (hl:∀ x ∈ l,x ∈ m):But ow m a b:=⟨h.os,h.tape,h.output,h.size,fun k hk hn=>h.block k hk (fun q=>hn (hl _ q))⟩
theorem zw {ow:Nat→Nat} {ls:List Nat} {a b c:World} (h:But ow ls a b) (k:But ow ls b c):But ow ls a c:=
 ⟨k.os.trans h.os,k.tape.trans h.tape,k.output.trans h.output,Nat.le_trans h.size k.size,fun i hi hn=>(k.block i (Nat.lt_of_lt_of_le hi h.size) hn).trans (h.block i hi hn)⟩
structure uM (ow:Nat→Nat) (b j p n:Nat) (g:Gr) (W:WS) (T:TS) (rs us ts:Value) (w w':World):Prop where
 st:∃ v ws,WAt ow w' b W n v∧TAt ow w' b j p g T rs us ts ws
 but:But ow [1,2,10+8*j] w w'
 kept:KeepsOthers w w'
theorem Wj (ow:Nat→Nat) (w:World) (b j p n:Nat) (g:Gr) (W:WS) (T:TS) (v rs us ts ws:Value) (h1:WAt ow w b W n v) (h2:TAt ow w b j p g T rs us ts ws) (c7 c2 c5 a:Nat) (x:Int) (ha:a<W.words.length)
 (k7:w.heap[c7]? = some (.cells #[.int .i64 x] 2 (0,0))) (k2:w.heap[c2]? = some (.cells #[.pointer (some ⟨p,0,none⟩)] 83 (0,0))) (k5:w.heap[c5]? = some (.cells #[.int .i64 (a:Int)] 2 (0,0))) :
 Calls Tryz.prog 212 #[.pointer (some ⟨c7,0,none⟩),.pointer (some ⟨c2,0,none⟩),.pointer (some ⟨c5,0,none⟩)] w fun e w'=>e = .returned (.tuple #[])∧uM ow b j p n g (unA (.put a x) W T).1 (unA (.put a x) W T).2 rs us ts w w':=by
 obtain⟨wg,cap,y,rfl,hcap,hwg,hy,hcell,hfz,hlab,hset⟩:=h1.setW a ha;refine (Wl w b p wg W.words.length cap c7 c2 c5 a x y (zh k7 0 _ rfl) (zh k2 0 _ rfl) (zh k5 0 _ rfl) h2.cells.1 h1.cells.1 ha h1.many hcell hfz (z8 k7) (z8 k2) (z8 k5) (z8 h2.box) (z8 h1.box)).mono ?_;rintro e w' ⟨rfl,rfl⟩;obtain⟨h3,hb⟩:=hset x;have hd:But ow [] (w.setCell ⟨wg,a,none⟩ (.int .i64 x)) (w.setCell ⟨wg,a,none⟩ (.int .i64 x)).drew:=But.of (below_drewN' (Below.refl _ _));exact⟨rfl,⟨_,ws,h3.keeps hd (.refl _ _) (by simp) (by simp),(h2.keeps hb (.refl _ _) (by simp;omega)).keeps hd (.refl _ _) (by simp)⟩,(zi hb (by simp)).drew,(KeepsOthers.setCell _ _ _).trans (KeepsOthers.drew _)⟩
theorem z2k (ow:Nat→Nat) (w:World) (b j p n:Nat) (g:Gr) (W:WS) (T:TS) (v rs us ts ws:Value) (h1:WAt ow w b W n v) (h2:TAt ow w b j p g T rs us ts ws) (c2:Nat) (hs1:1≤T.since) (hs2:T.since≤W.words.length)
 (k2:w.heap[c2]? = some (.cells #[.pointer (some ⟨p,0,none⟩)] 83 (0,0))) (l2:ow c2=15+8*j) :
 Calls Tryz.prog 214 #[.pointer (some ⟨c2,0,none⟩)] w fun e w'=>e = .returned (.tuple #[])∧uM ow b j p n g (unA .cut W T).1 (unA .cut W T).2 rs us ts w w':=by
 rcases h1.row.2 with ⟨_,h0⟩|⟨wg,cap,cur,rfl,hb,hg,hn,hc,hs,ht⟩
 · omega
 have hpb:p≠b:=fun e=>by have:=h1.lab;have:=h2.lab;rw[e]at this;omega
 have hcb:c2≠b:=fun e=>by have:=h1.lab;rw[←e]at this;omega
 refine (z2l w b p wg W.words.length cap c2 T.since ws (zh k2 0 _ rfl) h2.cells.1 h1.cells.1 (Lib.frozen_of_heap h1.box 0) (zh h2.box 8 _ rfl) (zh h2.box 11 _ rfl) (Lib.frozen_of_heap h2.box 11) hs2 h1.many hn (z8 k2) (z8 h2.box) (z8 h1.box) hpb hcb).mono ?_;rintro e w' ⟨rfl,rfl⟩;have hlw:ow wg=2:=h1.labr wg rfl;have hb1:But ow [1,2,10+8*j] w (w.setCell ⟨b,0,none⟩ (.slice (some ⟨wg,0,none⟩) T.since cap)).drew:=((But.of (Below.refl _ _)).set (p:=⟨b,0,none⟩) (by simp[h1.lab]) _).drew;have hb2:But ow [1,2,10+8*j] w ((w.setCell ⟨b,0,none⟩ (.slice (some ⟨wg,0,none⟩) T.since cap)).drew.setCell ⟨p,11,none⟩ (.slice none 0 0)):=hb1.set (p:=⟨p,11,none⟩) (by simp[h2.lab]) _;have hbx:But ow [1,10+8*j] w ((w.setCell ⟨b,0,none⟩ (.slice (some ⟨wg,0,none⟩) T.since cap)).drew.setCell ⟨p,11,none⟩ (.slice none 0 0)):=(((But.of (Below.refl _ _)).set (p:=⟨b,0,none⟩) (by simp[h1.lab]) _).drew).set (p:=⟨p,11,none⟩) (by simp[h2.lab]) _;have hno:∀ k,k≠0→10+k+8*j ∉ [1,10+8*j]:=fun k h0 q=>by simp at q;omega
 have hbox1:((w.setCell ⟨b,0,none⟩ (.slice (some ⟨wg,0,none⟩) T.since cap)).drew).heap[p]? = _:=(Below.heap_setCell _ _ _ _ hpb).trans h2.box
 have hbb:(w.setCell ⟨b,0,none⟩ (.slice (some ⟨wg,0,none⟩) T.since cap)).heap[b]? = some (.cells (wK (.slice (some ⟨wg,0,none⟩) T.since cap) n W.strange) 90 (0,0)):=by
  rw[heap_setCell_same w b 0 _ _ _ h1.box];rfl
 refine⟨rfl,⟨.slice (some ⟨wg,0,none⟩) T.since cap,.slice none 0 0,⟨(Below.heap_setCell _ _ _ _ hpb.symm).trans hbb, ?_,h1.lab, ?_,h1.big, ?_⟩,⟨?_,h2.lab,qh h2.regs hbx (.refl _ _) (hno 1 (by omega)),qF h2.undo hbx (.refl _ _) (hno 2 (by omega)) (hno 5 (by omega)),h2.told.keeps hbx (.refl _ _) (hno 3 (by omega)),.inl ⟨rfl,rfl⟩⟩⟩,hb2,((KeepsOthers.setCell _ _ _).trans (KeepsOthers.drew _)).trans (KeepsOthers.setCell _ _ _)⟩
 · have hl:(W.words.take T.since).length=T.since:=by rw[List.length_take,Nat.min_eq_left hs2]
   simp only[unA];refine⟨by simp[wds],.inr ⟨wg,cap,cur,by rw[hl],hb,(hbx.block wg (z8 hg) (by rw[hlw];simp;omega)).trans hg,by omega,hc,hs, ?_⟩⟩;rw[hl,Nat.mul_one];have:cur.toList.take T.since=(cur.toList.take W.words.length).take T.since:=by rw[List.take_take,Nat.min_eq_left hs2]
   rw[Nat.mul_one]at ht;rw[this,ht,wds,wds,List.map_take]
 · intro k hk;cases hk;exact hlw
 · simp only[unA,List.length_take];have:=h1.many;omega
 · rw[heap_setCell_same _ p 11 _ _ _ hbox1];rfl
def qA (ow:Nat→Nat) (w:World) (b j p n:Nat) (g:Gr) (W:WS) (T:TS) (rs us ts:Value) (ul:List Value) (B:Nat) (k:Nat) (w':World):Prop:=
 (∃ v ws,WAt ow w' b (zW (T.undo.take k) W T).1 n v∧TAt ow w' b j p g (zW (T.undo.take k) W T).2 rs us ts ws)∧vE ow w' j p T.undo ul∧But ow [1,2,10+8*j] w w'∧B≤w'.heap.size
theorem qA.of {ow:Nat→Nat} {w:World} {b j p n:Nat} {g:Gr} {W:WS} {T:TS} {rs us ts:Value} {ul:List Value} {B k:Nat} {A A':World} (h:qA ow w b j p n g W T rs us ts ul B k A) (hb:But ow [0] A A') (h0:∀ k,k<w.heap.size→ow k=0→A'.heap[k]? = A.heap[k]?):qA ow w b j p n g W T rs us ts ul B k A':=by
 obtain⟨⟨v,ws,k1,k2⟩,k3,k4,k5⟩:=h;refine⟨⟨v,ws,k1.keeps hb (.refl _ _) (by simp) (by simp),k2.keeps hb (.refl _ _) (by simp;omega)⟩,k3.keeps hb (.refl _ _) (by simp),⟨hb.os.trans k4.os,hb.tape.trans k4.tape,hb.output.trans k4.output,Nat.le_trans k4.size hb.size,fun i hi hn=>?_⟩,Nat.le_trans k5 hb.size⟩;refine Eq.trans ?_ (k4.block i hi hn)
 by_cases e:ow i=0
 · exact h0 i hi e
 · exact hb.block i (Nat.lt_of_lt_of_le hi k4.size) (by simp[e])
theorem z1y (w:World) (o:Obj):Below w.heap.size w (w.alloc o):=(Below.refl _ w).alloc (Nat.le_refl _) _
theorem qA.mild (ow:Nat→Nat) (B:Nat) (h0:∀ k,B≤k→ow k=0) (w:World) (hB:w.heap.size≤B) (b j p n:Nat) (g:Gr) (W:WS) (T:TS) (rs us ts:Value) (ul:List Value):Mild B (qA ow w b j p n g W T rs us ts ul B):=by
 refine⟨fun k A o h=>h.of (But.of (z1y A o)) (fun i hi _=>Below.heap_alloc _ _ _ (Nat.lt_of_lt_of_le hi h.2.2.1.size)),fun k A l o o' h hl ho _=>h.of ⟨rfl,rfl,rfl,by simp,fun i _ hn=>World.putObj_heap_other (fun e=>hn (by rw[e,h0 l hl];simp))⟩ (fun i hi _=>World.putObj_heap_other (by omega))⟩
theorem jd (ow:Nat→Nat) (w:World) (b j p n:Nat) (g:Gr) (W:WS) (T:TS) (v rs us ts ws:Value) (e:Int) (h1:WAt ow w b W n v) (h2:TAt ow w b j p g T rs us ts ws) (hok:UOk T.undo T.since W.words.length) (hu:T.undo.length≤1048576) :
 Calls Tryz.prog 209 #[.pointer (some ⟨p,0,none⟩),.int .u8 e] w (zN ow b j p g n (yN W T e) w):=by
 obtain⟨ul,hul,hus,hlu⟩:=h2.undo;have hll:=uZ hus;obtain⟨NU,hNU⟩:∃ N,N=T.undo.length:=⟨_,rfl⟩
 obtain⟨ao,cap,rfl,hcap1,hcap2,hao,hcell⟩:∃ ao cap,us = .slice ao NU cap∧NU≤cap∧cap≤9223372036854775807∧(∀ a,ao=some a→ow a.block=12+8*j∧a.block<w.heap.size)∧∀ k,k<NU→∃ b0,ao=some ⟨b0,0,none⟩ ∧ w.cell? ⟨b0,k,none⟩ = some (ul[k]?.getD .nilFunc):=by
  rcases hul.2 with ⟨rfl,h0⟩|⟨q,cap,cur,rfl,_,hq,hn,hc,hs,ht⟩
  · exact⟨none,0,by rw[hNU,h0],by omega,by omega,(fun a e=>by cases e),fun k hk=>by omega⟩
  · refine⟨_,cap,by rw[hNU],by omega,by unfold maxLen at hc;omega,(fun a e=>by cases e;exact⟨hlu q rfl,z8 hq⟩),fun k hk=>⟨q,rfl, ?_⟩⟩
    rw[hul.cellAt k (by omega),List.getElem?_eq_getElem (by omega)]
    rfl
 obtain⟨ow1,how1⟩:∃ o:Nat→Nat,o=fun k=>if k<w.heap.size then ow k else 0:=⟨_,rfl⟩
 have hext:Ext ow ow1 w:=fun k hk=>by rw[how1];simp[hk]
 have hzero:∀ k,w.heap.size≤k→ow1 k=0:=fun k hk=>by rw[how1];simp;omega
 have h1':WAt ow1 w b W n v:=h1.keeps (But.of (ls:=[]) (Below.refl _ _)) hext (by simp) (by simp);have h2':TAt ow1 w b j p g T rs (.slice ao NU cap) ts ws:=h2.keeps (But.of (ls:=[]) (Below.refl _ _)) hext (by simp);have hus':vE ow1 w j p T.undo ul:=hus.keeps (But.of (ls:=[]) (Below.refl _ _)) hext (by simp);have hao1:∀ a,ao=some a→ow1 a.block=12+8*j∧a.block<w.heap.size:=fun a e=>by obtain⟨q1,q2⟩:=hao a e;exact⟨by rw[hext _ q2];exact q1,q2⟩
 obtain⟨d0,d3,d4,d5,d6,d7,d8,d9,d10,d11,d12⟩:=h2'.cells;have hlp:=z8 h2.box;have H1:=hid h1';have H2:=hid h2';have HUS:=hid hus';have HEXT:=hid hext;have HZ:=hid hzero;have HAO:=hid hao1;have HC:=hid hcell;have HLL:=hid hll;have HNU:=hid hNU;have HOK:=hid hok;have HU:=hid hu;have hNU2:NU≤1048576:=by omega
 clear h1 h2 hok hu hul hus hlu hll hNU hao hcell how1 hext hzero h1' h2' hus' hao1 d0 d3 d4 d5 d6 d7 d8 d10 d11 d12;refine (callsIn_wide (n:=6)).1 ?_;refine callsIn_of_wp_marks Tryz.func209 rfl trivial ?_ rfl;refine wpIn_wide.2 ?_;simp only[Tryz.ntmps209,List.size_toArray,List.length_cons,List.length_nil,Nat.reduceAdd,Nat.reduceSub,Array.replicate_succ,Array.replicate_zero,List.push_toArray,List.append_toArray,List.nil_append,List.cons_append];go_wp2_with fail;refine (z2n ao NU cap w).mono ?_;rintro e8 w8 ⟨rfl,rfl⟩;go_wp2_with fail;obtain⟨W8,hW8⟩:∃ W8,W8=w.alloc (.cells #[.slice ao NU cap] 122):=⟨_,rfl⟩
 have hb8:Below w.heap.size w W8:=by rw[hW8];exact ze _ _
 have hz8:W8.heap.size=w.heap.size+1:=by rw[hW8];simp
 have hB8:W8.heap[w.heap.size]? = some (.cells #[.slice ao NU cap] 122 (0,0)):=by rw[hW8];exact (MapKept.heap_alloc _ _).1
 rw[←hW8];have HB8:=hid hb8
 have hROW8:∀ k,k<NU→∃ b0 off,ao=some ⟨b0,off,none⟩ ∧ W8.cell? ⟨b0,off+k,none⟩ = some (ul[k]?.getD .nilFunc):=fun k hk=>by
  obtain⟨b0,q1,q2⟩:=HC.out k hk;exact⟨b0,0,q1,by rw[Nat.zero_add];exact (jK (hb8.block b0 (HAO.out _ q1).2) k).trans q2⟩
 clear hW8 hb8 d9;refine (wpIn_wide (n:=6)).1 ?_
 refine Ve rfl (by decide) (gf:=256) (lb:=#[.pointer (some ⟨w.heap.size,0,none⟩)]) rfl trivial (enters_of Tryz.func256 (by kernel_rfl) rfl)
  (kI ul NU) NU (fun _=>rfl) (vF w.heap.size ao)
  (fun l J W hW hY hJ=>z2o 5 (by decide) l w.heap.size NU cap ao ul (by omega) J hY W ((jK (hW.block _ (by omega)) 0).trans (zh hB8 0 _ rfl)) (fun k hk=>by
   obtain⟨b0,off,q1,q2⟩:=hROW8 k hk;exact⟨b0,off,q1,(jK (hW.block b0 (by have:=(HAO.out _ q1).2;dsimp only at this;omega)) (off+k)).trans q2⟩) hJ)
  (fun h1 h2=>h1.trans h2) (fun W l ob ob' hl _ _=>⟨World.putObj_heap_other (by omega),fun a e=>World.putObj_heap_other (by have:=(HAO.out a e).2;omega)⟩)
  (qA ow1 w b j p n g W T rs (.slice ao NU cap) ts ul W8.heap.size) (qA.mild ow1 W8.heap.size (fun k hk=>HZ.out k (by omega)) w (by omega) b j p n g W T rs _ ts ul)
  ⟨⟨v,ws,H1.out.keeps (But.of (ls:=[]) HB8.out) (.refl _ _) (by simp) (by simp),H2.out.keeps (But.of (ls:=[]) HB8.out) (.refl _ _) (by simp)⟩,HUS.out.keeps (But.of (ls:=[]) HB8.out) (.refl _ _) (by simp),But.of HB8.out,Nat.le_refl _⟩
  ?act1 ?assign1 ?body1 ?done1
 case assign1 =>
  intro l k W K hK
  gi_wp2
  exact hK
 case body1 =>
  rintro l k W9 ⟨⟨v9,ws9,k1,k2⟩,k3,k4,k5⟩ hk;obtain⟨u,hun⟩:∃ u,T.undo[k]? = some u:=⟨_,List.getElem?_eq_getElem (by rw[←HNU.out];exact hk)⟩
  obtain⟨f,hf,hua⟩:=Xw k3 k u hun;have hfv:ul[NU - 1 - k]?.getD .nilFunc=f:=by rw[HNU.out,hf];rfl
  have hoku:=UOk.drop k T.undo W T HOK.out;have hdr:T.undo.drop k=u :: T.undo.drop (k+1):=by rw[List.drop_eq_getElem_cons (by rw[←HNU.out];exact hk)];congr 1;have:=(List.getElem?_eq_some_iff.1 hun).2;exact this
  have hst:=Xz T W k u hun;rw[hdr]at hoku;obtain⟨Wk,hWk⟩:∃ Wk,Wk=(zW (T.undo.take k) W T).1:=⟨_,rfl⟩
  obtain⟨Tk,hTk⟩:∃ Tk,Tk=(zW (T.undo.take k) W T).2:=⟨_,rfl⟩
  rw[←hWk]at k1 hoku hst;rw[←hTk]at k2 hoku hst;have HST:=hid hst;have HK3:=hid k3;have HK4:=hid k4
  have hfin:∀ W10,uM ow1 b j p n g (unA u Wk Tk).1 (unA u Wk Tk).2 rs (.slice ao NU cap) ts W9 W10→KeepsOthers W9 W10∧vF w.heap.size ao W9 W10∧qA ow1 w b j p n g W T rs (.slice ao NU cap) ts ul W8.heap.size (k+1) W10:=by
   rintro W10 ⟨hs,hb,hko⟩;have hsz:=HK4.out.size;refine⟨hko,⟨hb.block _ (by omega) (by rw[HZ.out _ (Nat.le_refl _)];simp;omega),fun a e=>hb.block _ (by have:=(HAO.out a e).2;omega) (by rw[(HAO.out a e).1];simp;omega)⟩, ?_,HK3.out.keeps hb (.refl _ _) (by simp;omega),zw HK4.out hb,Nat.le_trans k5 hb.size⟩;rw[HST.out];exact hs
  have HFIN:=hid hfin;clear k3 k4 hst hfin hdr hWk hTk hf hun;rw[kI,hfv];cases u with
  | put a x =>
   obtain⟨c7,c2,c5,rfl,ha,q7,q2,q5,l7,l2,l5⟩:=hua;have HC:=hid (Wj ow1 W9 b j p n g Wk Tk v9 rs _ ts ws9 k1 k2 c7 c2 c5 a x hoku.1 q7 q2 q5);clear k1 k2 hoku q7 q2 q5 l7 l2 l5 hfv
   gi_wp2
   refine⟨trivial,((callsIn_wide.2 HC.out).inRound l).mono ?_⟩;rintro e10 W10 ⟨rfl,hU10⟩;have HU10:=hid (HFIN.out W10 hU10);clear hU10
   gi_wp2
   rw[←hz8];exact HU10.out
  | cut =>
   obtain⟨c2,rfl,q2,l2⟩:=hua;have HC:=hid (z2k ow1 W9 b j p n g Wk Tk v9 rs _ ts ws9 k1 k2 c2 hoku.1.1 hoku.1.2 q2 l2);clear k1 k2 hoku q2 l2 hfv
   gi_wp2
   refine⟨trivial,((callsIn_wide.2 HC.out).inRound l).mono ?_⟩;rintro e10 W10 ⟨rfl,hU10⟩;have HU10:=hid (HFIN.out W10 hU10);clear hU10
   gi_wp2
   rw[←hz8];exact HU10.out
 case done1 =>
  rintro D W9 hD ⟨⟨v9,ws9,k1,k2⟩,k3,k4,k5⟩ hK;have hlen:T.undo.take NU=T.undo:=by rw[HNU.out,List.take_length]
  rw[hlen]at k1 k2;obtain⟨d0,d3,d4,d5,d6,d7,d8,d9,d10,d11,d12⟩:=k2.cells;have f12:=Lib.frozen_of_heap k2.box 12;have hlp9:=z8 k2.box;have HK1:=hid k1;have HK2:=hid k2;have HK4:=hid k4;have HK:=hid hK;clear k1 k2 k3 k4 hK d0 d3 d4 d5 d6 d7 d8 d9 d10 d11 hlen;go_wp2_with fail;have hD9:D≠p:=by omega
  have hKD:(W9.setCell ⟨p,12,none⟩ (.int .u8 e)).heap[D]? = some (.deferred (some [])):=(Below.heap_setCell _ _ _ _ hD9).trans HK.out;refine⟨by simp,.inl ⟨_,_,rfl,run_takeDeferred hKD, ?_⟩⟩;have hs12:But ow1 [10+8*j] W9 (W9.setCell ⟨p,12,none⟩ (.int .u8 e)):=(But.of (Below.refl _ _)).set (p:=⟨p,12,none⟩) (by simp[HK2.out.lab]) _;have hs0:But ow1 [0] (W9.setCell ⟨p,12,none⟩ (.int .u8 e)) ((W9.setCell ⟨p,12,none⟩ (.int .u8 e)).putObj D (.deferred none)):=⟨rfl,rfl,rfl,by simp,fun i _ hn=>World.putObj_heap_other (fun q=>hn (by rw[q,HZ.out D (by omega)];simp))⟩
  refine⟨_,results_tmp rfl _ _ _, ?_⟩;refine⟨rfl,ow1,v9,rs,.slice ao NU cap,ts,ws9,HEXT.out, ?_, ?_, ?_⟩
  · exact (HK1.out.keeps hs12 (.refl _ _) (by simp;omega) (by simp;omega)).keeps hs0 (.refl _ _) (by simp) (by simp)
  · exact (HK2.out.rebox (T':={ (zW T.undo W T).2 with fin:=e }) hs12 (vo 12 _ HK2.out.box rfl) rfl rfl rfl rfl).keeps hs0 (.refl _ _) (by simp;omega)
  · have k4:=HK4.out
    refine⟨k4.os,k4.tape,k4.output,Nat.le_trans k4.size (by simp[World.setCell]),fun k hk hm=>?_⟩
    have hnm:ow1 k ∉ [1,2,10+8*j]:=by
     rw[HEXT.out k hk];intro q;simp at q;exact hm (by unfold Mine;omega)
    have hkp:k≠p:=fun q=>hnm (by rw[q,HK2.out.lab];simp)
    exact (World.putObj_heap_other (by omega)).trans ((Below.heap_setCell _ _ _ _ hkp).trans (k4.block k hk hnm))
end
section
open Go.RowKit
theorem infoF:(Tryz.prog.info? 1).map (fun i=>(i.zero,i.size,i.bytes))=some (some .nilFunc,1,8):=by kernel_rfl
theorem Z0 (ow:Nat→Nat) (u:World) (b j p n:Nat) (g:Gr) (W:WS) (T:TS) (v rs us ts ws f:Value) (un:Un) (h1:WAt ow u b W n v) (h2:TAt ow u b j p g T rs us ts ws) (hf:qx ow u j p un f) (hf1:f.oneCell'=true) (hl:T.undo.length≤1048576) :
 ∃ v' w4,(Builtin.append_ #[122,122] 122 #[us,.slice (some ⟨u.heap.size,0,none⟩) 1 1]).run Tryz.prog (u.alloc (.cells #[f] 1)) = .ok v' w4∧(∃ q c,v' = .slice q (T.undo.length+1) c)∧w4.cell? ⟨p,9,none⟩ = some us∧w4.frozen? ⟨p,9,none⟩ = false∧u.heap.size<w4.heap.size ∧
  ∃ ow',Ext ow ow' u∧WAt ow' (w4.setCell ⟨p,9,none⟩ v') b W n v∧TAt ow' (w4.setCell ⟨p,9,none⟩ v') b j p g { T with undo:=un :: T.undo } rs v' ts ws∧But ow [12+8*j,10+8*j] u (w4.setCell ⟨p,9,none⟩ v')∧But ow [12+8*j] u w4:=by
 obtain⟨i,hi,hz,hs,hb⟩:=info_parts infoF;obtain⟨ul,hul,hus,hlu⟩:=h2.undo;have hB:=ze u (.cells #[f] 1);have hb0:But ow [] u (u.alloc (.cells #[f] 1)):=But.of hB;obtain⟨q,cap,w4,hr,hown,hg,hgo,hlt⟩:=run_append_lies (P:=Tryz.prog) (w:=u.alloc (.cells #[f] 1)) 122 122 0 1 i .nilFunc 1 8 Tryz.underlying122 hi hz hs hb rfl (by decide) us T.undo.length ul (hul.alloc _) ⟨u.heap.size,0,none⟩ 1 1 [f] rfl (World.news_of_block (MapKept.heap_alloc u _).1) (by simpa using hf1) (by decide) (by unfold maxLen;omega) (by omega) (by omega) _ rfl;have hz1:(u.alloc (.cells #[f] 1)).heap.size=u.heap.size+1:=by simp
 obtain⟨ow',how⟩:∃ o:Nat→Nat,o=fun k=>if k<u.heap.size then ow k else 12+8*j:=⟨_,rfl⟩
 have he:Ext ow ow' u:=fun k hk=>by rw[how];simp[hk]
 have hgrow:But ow [12+8*j] u w4:=by
  refine⟨hg.os,hg.tape,hg.output,by have:=hg.size;omega,fun k hk hn=>?_⟩;refine (hg.block k (by omega) (fun e=>hn ?_)).trans (hB.block k hk);rw[hlu k e.symm];simp
 have hq:ow' q=12+8*j:=by
  rcases hgo with h|h
  · rw[he q (hul.lt q h).2];exact hlu q h
  · rw[how,h,hz1];simp;omega
 have hp4:w4.heap[p]? = some (.cells (wL b g rs T us ts ws) 124 (0,0)):=(hgrow.block p (z8 h2.box) (by rw[h2.lab];simp <;> omega)).trans h2.box;have hlp:ow' p=10+8*j:=by rw[he p (z8 h2.box)];exact h2.lab
 have hs':But ow' [10+8*j] w4 (w4.setCell ⟨p,9,none⟩ (.slice (some ⟨q,0,none⟩) (T.undo.length+1) cap)):=xX _ _ hlp;have hall:=hgrow.trans he hs';have hno:∀ k,k≠0→k≠2→10+k+8*j ∉ [12+8*j]++[10+8*j]:=fun k h0 h3 q=>by simp at q;omega
 refine⟨_,w4,hr,⟨_,_,rfl⟩,zh hp4 9 _ rfl,Lib.frozen_of_heap hp4 9,by have:=hg.size;omega,ow',he,h1.keeps hall he (by simp;omega) (by simp;omega),⟨vo 9 _ hp4 rfl,hlp,qh h2.regs hall he (hno 1 (by omega) (by omega)),⟨ul++[f], ?_,⟨f,ul,hf.keeps hall he (hno 5 (by omega) (by omega)),hus.keeps hall he (hno 5 (by omega) (by omega)),rfl⟩, ?_⟩,h2.told.keeps hall he (hno 3 (by omega) (by omega)),h2.waiting.keeps hall he (hno 4 (by omega) (by omega))⟩,hall,hgrow⟩
 · exact zM hown hs' (fun k hk=>by cases hk;exact hq) (by simp <;> omega)
 · intro k hk;cases hk;exact hq
theorem ui (ow:Nat→Nat) (w:World) (b j p n:Nat) (g:Gr) (W:WS) (T:TS) (v rs us ts ws:Value) (k o:Int) (aa:Int) (bb:Nat) (cc:Int) (hc:cc<0∨cc.toNat<T.regs.length) (x:Int) (h1:WAt ow w b W n v) (h2:TAt ow w b j p g T rs us ts ws) (hb:bb<T.regs.length) :
 Calls Tryz.prog 211 #[.pointer (some ⟨p,0,none⟩),.agg #[.int .u8 k,.int .u8 o,.int .i64 aa,.int .i64 (bb:Int),.int .i64 cc,.int .i64 x]] w (qy ow j W T ⟨k,o,aa,(bb:Int),cc,x⟩ w):=by
 by_cases h:cc<0
 · exact Qg ow w b j p n g W T v rs us ts ws k o aa bb cc h x h1 h2 hb
 · have hc':cc=((cc.toNat:Nat):Int):=by omega
   have:=Qf ow w b j p n g W T v rs us ts ws k o aa bb cc.toNat x h1 h2 hb (hc.resolve_left h);rw[←hc']at this;exact this
def zn (Q:Nat→Prop) (w W:World):Prop:=∀ k,Q k→W.heap[k]? = w.heap[k]?
theorem zn.cell {Q:Nat→Prop} {w W:World} (h:zn Q w W) {a:Addr} {v:Value} (hq:Q a.block) (hc:w.cell? a=some v):W.cell? a=some v:=by
 rw[←hc];simp only[World.cell?,h a.block hq]
theorem zn.frozen {Q:Nat→Prop} {w W:World} (h:zn Q w W) {a:Addr} {v:Bool} (hq:Q a.block) (hc:w.frozen? a=v):W.frozen? a=v:=by
 rw[←hc];simp only[World.frozen?,h a.block hq]
theorem zn.drew (Q:Nat→Prop) (w:World):zn Q w w.drew:=fun _ _=>rfl
theorem zN.relab {ow ow1:Nat→Nat} {b j p n:Nat} {g:Gr} {r:WS × TS × Bool} {w w':World} {e:Ending} (he:Ext ow ow1 w) (h:zN ow1 b j p g n r w e w'):zN ow b j p g n r w e w':=by
 obtain⟨h0,ow',v,rs,us,ts,ws,h1,h2,h3,h4⟩:=h;exact⟨h0,ow',v,rs,us,ts,ws,fun k hk=>(h1 k hk).trans (he k hk),h2,h3,⟨h4.os,h4.tape,h4.output,h4.size,fun k hk hm=>h4.block k hk (by rw[he k hk];exact hm)⟩⟩
theorem zN.after {ow ow1:Nat→Nat} {b j p n:Nat} {g:Gr} {r:WS × TS × Bool} {w u w':World} {e:Ending} (hk:Kp ow j w u) (he:Ext ow ow1 w) (h:zN ow1 b j p g n r u e w'):zN ow b j p g n r w e w':=by
 obtain⟨h0,ow',v,rs,us,ts,ws,h1,h2,h3,h4⟩:=h;exact⟨h0,ow',v,rs,us,ts,ws,fun k hq=>(h1 k (Nat.lt_of_lt_of_le hq hk.size)).trans (he k hq),h2,h3,hk.trans he h4⟩
def low (ow:Nat→Nat) (N:Nat):Nat→Nat:=fun k=>if k<N then ow k else 0
theorem j6 (ow:Nat→Nat) (w:World):Ext ow (low ow w.heap.size) w:=fun k hk=>by simp[low,hk]
theorem kv (ow:Nat→Nat) (N k:Nat) (hk:N≤k):low ow N k=0:=by simp[low];omega
theorem WAt.low {ow:Nat→Nat} {w:World} {b n:Nat} {W:WS} {v:Value} (h:WAt ow w b W n v):WAt (low ow w.heap.size) w b W n v:=h.keeps (But.of (ls:=[]) (Below.refl _ _)) (j6 _ _) (by simp) (by simp)
theorem TAt.low {ow:Nat→Nat} {w:World} {b j p:Nat} {g:Gr} {T:TS} {rs us ts ws:Value} (h:TAt ow w b j p g T rs us ts ws):TAt (low ow w.heap.size) w b j p g T rs us ts ws:=h.keeps (But.of (ls:=[]) (Below.refl _ _)) (j6 _ _) (by simp)
end
open Go.RowKit
attribute [local go_sem ↓] zL zJ
def uQ (R:Nat) (x:Int):Prop:=0≤x∧x<(R:Int)
theorem TAt.spot {ow:Nat→Nat} {w:World} {b j p:Nat} {g:Gr} {T:TS} {rs us ts ws:Value} (h:TAt ow w b j p g T rs us ts ws) (x y:Nat) :
 TAt ow ((w.setCell ⟨p,5,none⟩ (.int .i64 (x:Int))).setCell ⟨p,6,none⟩ (.int .i64 (y:Int))) b j p g { T with bi:=x,ii:=y } rs us ts ws∧But ow [10+8*j] w ((w.setCell ⟨p,5,none⟩ (.int .i64 (x:Int))).setCell ⟨p,6,none⟩ (.int .i64 (y:Int))):=by
 have hs1:But ow [10+8*j] w ((w.setCell ⟨p,5,none⟩ (.int .i64 (x:Int))).setCell ⟨p,6,none⟩ (.int .i64 (y:Int))):=zw (xX _ _ h.lab) (xX _ _ h.lab);refine⟨h.rebox hs1 ?_ rfl rfl rfl rfl,hs1⟩;rw[heap_setCell_same _ p 6 _ _ _ (vo 5 _ h.box rfl)]
 rfl
theorem kR {ow:Nat→Nat} {w u u':World} {b j p n:Nat} {g:Gr} {W:WS} {T:TS} {v rs us ts ws:Value} (hb:Below w.heap.size w u) (h1:WAt ow u b W n v) (h2:TAt ow u b j p g T rs us ts ws) (x y:Nat) (hu:u'=(u.setCell ⟨p,5,none⟩ (.int .i64 (x:Int))).setCell ⟨p,6,none⟩ (.int .i64 (y:Int))) (r:Bool) :
 zN ow b j p g n (W,{ T with bi:=x,ii:=y },r) w (.returned (.bool r)) u':=by
 subst hu;obtain⟨h3,h4⟩:=h2.spot x y;exact⟨rfl,ow,v,rs,us,ts,ws,.refl _ _,h1.keeps h4 (.refl _ _) (by simp;omega) (by simp;omega),h3,(Kp.of hb).trans (.refl _ _) (h4.kp (by intro l hl;simp at hl;unfold Mine;omega))⟩
theorem jJ (L:Int) (k:Int) (h:L≠k):(L==k)=false:=by simpa using h
theorem Qt (x:Int):∀ w,(bld 92 #[(0,.int .i64 x)]).run Tryz.prog w = .ok (.agg #[.int .i64 x,.int .i64 0]) w:=zH 92 #[(0,.int .i64 x)] #[.int .i64 x,.int .i64 0] (by kernel_rfl)
theorem Xm (ow:Nat→Nat) (w:World) (b j p n:Nat) (g:Gr) (W:WS) (T:TS) (v rs us ts ws:Value) (bk:Bk) (bg off:Nat) (h1:WAt ow w b W n v) (h2:TAt ow w b j p g T rs us ts ws) (hlb:bg<w.heap.size)
 (hc:∀ q u,bk.cells[q]? = some u→w.cell? ⟨bg,off+q,none⟩ = some u) (hr:bk.last=2→uQ T.regs.length bk.reg) (hy:bk.last≠3→0≤bk.yes) (hn:bk.last=2→0≤bk.no) :
 Calls Tryz.prog 215 #[.pointer (some ⟨p,0,none⟩),.pointer (some ⟨bg,off,none⟩)] w (zN ow b j p g n (W,(lastT T bk).1,(lastT T bk).2) w):=by
 obtain⟨iv,ins,L,R,Y,NO⟩:=bk;dsimp only at hr hy hn;have k1:w.cell? ⟨bg,off+1,none⟩ = some (.int .u8 L):=hc 1 _ rfl;have k2:w.cell? ⟨bg,off+2,none⟩ = some (.int .i64 R):=hc 2 _ rfl;have k3:w.cell? ⟨bg,off+3,none⟩ = some (.int .i64 Y):=hc 3 _ rfl;have k4:w.cell? ⟨bg,off+4,none⟩ = some (.int .i64 NO):=hc 4 _ rfl;obtain⟨rg,er,hrg,hrl⟩:=h2.regs;have hlp:p<w.heap.size:=z8 h2.box;have hlr:rg<w.heap.size:=z8 hrg;obtain⟨d0,d3,d4,d5,d6,d7,d8,d9,d10,d11,d12⟩:=h2.cells;have f5:=Lib.frozen_of_heap h2.box 5;have f6:=Lib.frozen_of_heap h2.box 6;have f12:=Lib.frozen_of_heap h2.box 12;have b0:=Qt;obtain⟨NR,hNR⟩:∃ N,N=T.regs.length:=⟨_,rfl⟩
 have her:=er;rw[er,←hNR]at d4;have H1:=hid h1;have H2:=hid h2;have HRG:=hid hrg;have HNR:=hid hNR;clear h1 h2 hc hrg hrl d0 d3 d7 d8 d9 d10 d11 er hNR
 by_cases h3:L=3
 · subst h3
   have hl:lastT T ⟨iv,ins,3,R,Y,NO⟩ = ({ T with fin:=1 },true):=rfl;rw[hl];have hs1:But ow [10+8*j] w (w.setCell ⟨p,12,none⟩ (.int .u8 1)):=xX _ _ H2.out.lab
   have hfin:zN ow b j p g n (W,{ T with fin:=1 },true) w (.returned (.bool true)) (w.setCell ⟨p,12,none⟩ (.int .u8 1)):=
    ⟨rfl,ow,v,rs,us,ts,ws,.refl _ _,H1.out.keeps hs1 (.refl _ _) (by simp;omega) (by simp;omega),H2.out.rebox hs1 (vo 12 _ H2.out.box rfl) rfl rfl rfl rfl,hs1.kp (by intro l hl;simp at hl;unfold Mine;omega)⟩
   have HF:=hid hfin;clear hl hs1 hfin hr hy hn her;go_enter Tryz.func215,Tryz.ntmps215;go_wp2_with fail;go_ret;exact HF.out
 · have h3':=jJ L 3 h3
   obtain⟨Yn,rfl⟩:∃ y:Nat,Y=(y:Int):=⟨Y.toNat,by have:=hy h3;omega⟩
   by_cases h2':L=2
   · subst h2'
     obtain⟨rn,rfl,hrn⟩:∃ r:Nat,R=(r:Int)∧r<T.regs.length:=⟨R.toNat,by have:=hr rfl;unfold uQ at this;omega,by have:=hr rfl;unfold uQ at this;omega⟩
     obtain⟨Nn,rfl⟩:∃ y:Nat,NO=(y:Int):=⟨NO.toNat,by have:=hn rfl;omega⟩
     obtain⟨z,hz⟩:∃ z,T.regs[rn]? = some z:=⟨_,List.getElem?_eq_getElem hrn⟩
     have s0:=zT HRG.out rn z hz;have hrx:rn<NR:=by rw[HNR.out];exact hrn
     have hreg:T.reg (rn:Int)=z:=by unfold TS.reg;rw[Int.toNat_natCast,hz];rfl
     by_cases hz0:z=0
     · subst hz0
       have hl:lastT T ⟨iv,ins,2,(rn:Int),(Yn:Int),(Nn:Int)⟩ = ({ T with bi:=Nn,ii:=0 },false):=by simp[lastT,hreg]
       rw[hl];clear hl hr hy hn her hz hrn hreg h3 h3';go_enter Tryz.func215,Tryz.ntmps215;go_wp2_with fail;refine wp_region_held_drew (S:=zk (w.heap.size) w) (by kernel_rfl) (zk.drew _ _) (fun hSw=>?_);refine tH 0 (.pointer (some ⟨bg,off,none⟩)) hSw ?_;(try simp only[nS]);refine tH 1 (.pointer (some ⟨bg,off,none⟩)) hSw ?_;(try simp only[nS]);refine tH 2 (.pointer (some ⟨bg,off+1,none⟩)) hSw ?_;(try simp only[nS]);refine tG 3 (.int .u8 2) hSw (fun W hW=>?_) ?_
       · have k1:=hW.cell (by dsimp only;omega) k1
         first|(go_simp;done)|rfl
       (try simp only[nS]);refine tH 4 (.bool true) hSw ?_;(try simp only[nS]);refine tH 5 (.bool true) hSw ?_;(try simp only[nS]);refine tH 6 (.pointer (some ⟨p,0,none⟩)) hSw ?_;(try simp only[nS]);refine tH 7 (.pointer (some ⟨p,0,none⟩)) hSw ?_;(try simp only[nS]);refine tH 8 (.pointer (some ⟨p,4,none⟩)) hSw ?_;(try simp only[nS]);refine tG 9 (.slice (some ⟨rg,0,none⟩) NR NR) hSw (fun W hW=>?_) ?_
       · have d4:=hW.cell (by dsimp only;omega) d4
         first|(go_simp;done)|rfl
       (try simp only[nS]);refine tH 10 (.pointer (some ⟨bg,off,none⟩)) hSw ?_;(try simp only[nS]);refine tH 11 (.pointer (some ⟨bg,off,none⟩)) hSw ?_;(try simp only[nS]);refine tH 12 (.pointer (some ⟨bg,off+2,none⟩)) hSw ?_;(try simp only[nS]);refine tG 13 (.int .i64 (rn:Int)) hSw (fun W hW=>?_) ?_
       · have k2:=hW.cell (by dsimp only;omega) k2
         first|(go_simp;done)|rfl
       (try simp only[nS]);refine tH 14 (.pointer (some ⟨rg,rn,none⟩)) hSw ?_;(try simp only[nS]);refine tG 15 (.int .i64 0) hSw (fun W hW=>?_) ?_
       · have s0:=hW.cell (by dsimp only;omega) s0
         first|(go_simp;done)|rfl
       (try simp only[nS]);refine tH 16 (.bool true) hSw ?_;(try simp only[nS]);refine tH 17 (.bool true) hSw ?_;(try simp only[nS]);refine tH 18 (.bool true) hSw ?_;(try simp only[nS]);refine wpAnyH_done (by kernel_rfl) ?_ _;go_wp2_with fail;go_ret;exact kR (below_drewN' (Below.refl _ _)) (H1.out.keeps (But.of (ls:=[]) (below_drewN' (Below.refl _ _))) (.refl _ _) (by simp) (by simp)) (H2.out.keeps (But.of (ls:=[]) (below_drewN' (Below.refl _ _))) (.refl _ _) (by simp)) Nn 0 rfl false
     · have hl:lastT T ⟨iv,ins,2,(rn:Int),(Yn:Int),(Nn:Int)⟩ = ({ T with bi:=Yn,ii:=0 },false):=by simp[lastT,hreg,hz0]
       rw[hl];have hz1:=jJ z 0 hz0;clear hl hr hy hn her hz hrn hreg h3 h3' hz0;go_enter Tryz.func215,Tryz.ntmps215;go_wp2_with fail;refine wp_region_held_drew (S:=zk (w.heap.size) w) (by kernel_rfl) (zk.drew _ _) (fun hSw=>?_);refine tH 0 (.pointer (some ⟨bg,off,none⟩)) hSw ?_;(try simp only[nS]);refine tH 1 (.pointer (some ⟨bg,off,none⟩)) hSw ?_;(try simp only[nS]);refine tH 2 (.pointer (some ⟨bg,off+1,none⟩)) hSw ?_;(try simp only[nS]);refine tG 3 (.int .u8 2) hSw (fun W hW=>?_) ?_
       · have k1:=hW.cell (by dsimp only;omega) k1
         first|(go_simp;done)|rfl
       (try simp only[nS]);refine tH 4 (.bool true) hSw ?_;(try simp only[nS]);refine tH 5 (.bool true) hSw ?_;(try simp only[nS]);refine tH 6 (.pointer (some ⟨p,0,none⟩)) hSw ?_;(try simp only[nS]);refine tH 7 (.pointer (some ⟨p,0,none⟩)) hSw ?_;(try simp only[nS]);refine tH 8 (.pointer (some ⟨p,4,none⟩)) hSw ?_;(try simp only[nS]);refine tG 9 (.slice (some ⟨rg,0,none⟩) NR NR) hSw (fun W hW=>?_) ?_
       · have d4:=hW.cell (by dsimp only;omega) d4
         first|(go_simp;done)|rfl
       (try simp only[nS]);refine tH 10 (.pointer (some ⟨bg,off,none⟩)) hSw ?_;(try simp only[nS]);refine tH 11 (.pointer (some ⟨bg,off,none⟩)) hSw ?_;(try simp only[nS]);refine tH 12 (.pointer (some ⟨bg,off+2,none⟩)) hSw ?_;(try simp only[nS]);refine tG 13 (.int .i64 (rn:Int)) hSw (fun W hW=>?_) ?_
       · have k2:=hW.cell (by dsimp only;omega) k2
         first|(go_simp;done)|rfl
       (try simp only[nS]);refine tH 14 (.pointer (some ⟨rg,rn,none⟩)) hSw ?_;(try simp only[nS]);refine tG 15 (.int .i64 z) hSw (fun W hW=>?_) ?_
       · have s0:=hW.cell (by dsimp only;omega) s0
         first|(go_simp;done)|rfl
       (try simp only[nS]);refine tH 16 (.bool false) hSw ?_;(try simp only[nS]);refine tH 17 (.bool false) hSw ?_;(try simp only[nS]);refine tH 18 (.bool false) hSw ?_;(try simp only[nS]);refine wpAnyH_done (by kernel_rfl) ?_ _;go_wp2_with fail;go_ret;exact kR (below_drewN' (Below.refl _ _)) (H1.out.keeps (But.of (ls:=[]) (below_drewN' (Below.refl _ _))) (.refl _ _) (by simp) (by simp)) (H2.out.keeps (But.of (ls:=[]) (below_drewN' (Below.refl _ _))) (.refl _ _) (by simp)) Yn 0 rfl false
   · have hl:lastT T ⟨iv,ins,L,R,(Yn:Int),NO⟩ = ({ T with bi:=Yn,ii:=0 },false):=by simp[lastT,h3,h2']
     rw[hl];have hz1:=jJ L 2 h2';clear hl hr hy hn her h3 h2';go_enter Tryz.func215,Tryz.ntmps215;go_wp2_with fail;refine wp_region_held_drew (S:=zk (w.heap.size) w) (by kernel_rfl) (zk.drew _ _) (fun hSw=>?_);refine tH 0 (.pointer (some ⟨bg,off,none⟩)) hSw ?_;(try simp only[nS]);refine tH 1 (.pointer (some ⟨bg,off,none⟩)) hSw ?_;(try simp only[nS]);refine tH 2 (.pointer (some ⟨bg,off+1,none⟩)) hSw ?_;(try simp only[nS]);refine tG 3 (.int .u8 L) hSw (fun W hW=>?_) ?_
     · have k1:=hW.cell (by dsimp only;omega) k1
       first|(go_simp;done)|rfl
     (try simp only[nS]);refine tH 4 (.bool false) hSw ?_;(try simp only[nS]);refine tH 5 (.bool false) hSw ?_;(try simp only[nS]);refine tN 6 hSw ?_;(try simp only[nS]);refine tN 7 hSw ?_;(try simp only[nS]);refine tN 8 hSw ?_;(try simp only[nS]);refine tN 9 hSw ?_;(try simp only[nS]);refine tN 10 hSw ?_;(try simp only[nS]);refine tN 11 hSw ?_;(try simp only[nS]);refine tN 12 hSw ?_;(try simp only[nS]);refine tN 13 hSw ?_;(try simp only[nS]);refine tN 14 hSw ?_;(try simp only[nS]);refine tN 15 hSw ?_;(try simp only[nS]);refine tN 16 hSw ?_;(try simp only[nS]);refine tH 17 (.bool false) hSw ?_;(try simp only[nS]);refine tH 18 (.bool false) hSw ?_;(try simp only[nS]);refine wpAnyH_done (by kernel_rfl) ?_ _;go_wp2_with fail;go_ret;exact kR (below_drewN' (Below.refl _ _)) (H1.out.keeps (But.of (ls:=[]) (below_drewN' (Below.refl _ _))) (.refl _ _) (by simp) (by simp)) (H2.out.keeps (But.of (ls:=[]) (below_drewN' (Below.refl _ _))) (.refl _ _) (by simp)) Yn 0 rfl false
theorem J8 {l:List Bk} {k:Nat} {b:Bk} (hb:l[k]? = some b) (left:Int):wy left (l.drop k)=if left<(b.ins.length:Int) then true else wy (left - b.ins.length) (l.drop (k+1)):=by
 obtain⟨h,e⟩:=List.getElem?_eq_some_iff.1 hb;rw[List.drop_eq_getElem_cons h,e,wy]
theorem z0j (B:Nat) (g:Gr) (w:World) (hI:GIn w B g) (hBw:B≤w.heap.size) :
 Calls Tryz.prog 193 #[.agg #[g.rv,.int .i64 g.sites,g.bv]] w fun e w'=>e = .returned (.int .i64 (xM g))∧Below w.heap.size w w':=by
 obtain⟨Y,hY⟩:∃ Y,Y=xM g:=⟨_,rfl⟩
 rw[←hY];unfold xM at hY;have r1:=hI.rlies.room;have r2:=hI.blies.room;have r3:=hI.sites;obtain⟨ro,rc,er,hrl,-⟩:=hI.rlies.form;obtain⟨bo,bcp,eb,hbl,hbg⟩:=hI.blies.form;have HBL:=hid hI.blies;have HBI:=hid hI.blocks;clear hI;obtain⟨rv,refs,sites,bv,blocks⟩:=g;simp only at *;subst er eb;obtain⟨LB,hLB⟩:∃ x,x=wy 8192 blocks:=⟨_,rfl⟩
 rw[←hLB]at hY;have HLB:=hid hLB;obtain⟨N1,hN1⟩:∃ N,N=refs.length:=⟨_,rfl⟩
 obtain⟨N2,hN2⟩:∃ N,N=blocks.length:=⟨_,rfl⟩
 rw[←hN1,←hN2]at hY;rw[←hN1,←hN2];rw[←hN1]at r1;rw[←hN2]at r2 hbg HBL;obtain⟨W0,hW0⟩:∃ W0,W0=w.alloc (.cells #[.slice ro N1 rc,.int .i64 sites,.slice bo N2 bcp] 75):=⟨_,rfl⟩
 have hB0:Below w.heap.size w W0:=by rw[hW0];exact ze w _
 have hO:W0.heap[w.heap.size]? = some (.cells #[.slice ro N1 rc,.int .i64 sites,.slice bo N2 bcp] 75 (0,0)):=by rw[hW0];exact (MapKept.heap_alloc _ _).1
 have hsz:w.heap.size<W0.heap.size:=by rw[hW0];simp
 have HZ:=hid hsz;have HO:=hid hO;have HN2:=hid hN2;have HG:=hid hbg;obtain⟨q0,q1,q2⟩:=yl hO;rw[hW0]at q0 q1 q2;have HB0:=hid hB0;have HW0:=hid hW0;clear hN1 hN2 hB0 hO hW0 hrl hbl hsz hLB hbg
 by_cases a1:1024<N1
 · rw[if_pos (.inl a1)]at hY
   have HY:=hid hY;clear hY;go_enter Tryz.func193,Tryz.ntmps193;go_wp2_with fail;go_ret;exact⟨by rw[HY.out];rfl,by rw[←HW0.out];exact HB0.out⟩
 by_cases a2:4096<N2
 · rw[if_pos (.inr (.inl a2))]at hY
   have HY:=hid hY;clear hY;go_enter Tryz.func193,Tryz.ntmps193;go_wp2_with fail;go_ret;exact⟨by rw[HY.out];rfl,by rw[←HW0.out];exact HB0.out⟩
 by_cases a3:8192<sites
 · rw[if_pos (.inr (.inr a3))]at hY
   have HY:=hid hY;clear hY;go_enter Tryz.func193,Tryz.ntmps193;go_wp2_with fail;go_ret;exact⟨by rw[HY.out];rfl,by rw[←HW0.out];exact HB0.out⟩
 rw[if_neg (by omega)]at hY;have HY:=hid hY;clear hY;go_enter Tryz.func193,Tryz.ntmps193;go_wp2_with fail;rw[←HW0.out];rw[←HW0.out]at q0 q1 q2
 go_loopw [3,4] (fun q3 q4 wr=>∃ (s:Nat) (k:Nat),k≤N2∧s≤8192∧q3 = .int .i64 (s:Int)∧q4 = .int .i64 (k:Int)∧wr=W0∧Hid (LB=wy (8192 - (s:Int)) (blocks.drop k))) (fun _ q4 _=>N2 - (intOf q4).toNat)
 case atStart=>exact⟨0,0,by omega,by omega,rfl,rfl,rfl,hid HLB.out⟩
 case round =>
  obtain⟨s,k,hk,hs,rfl,rfl,rfl,HD⟩:=hrel;have hzz:=HZ.out
  by_cases hlt:k<N2
  · obtain⟨gb,goff,rfl,hgB⟩:=HG.out (by omega)
    have hkl:k<blocks.length:=by rw[←HN2.out];exact hlt
    obtain⟨b,hbk⟩:∃ b,blocks[k]? = some b:=⟨_,List.getElem?_eq_getElem hkl⟩
    have hc:=(HBL.out.below (HB0.out.mono hBw)).at rfl k hkl;obtain⟨iq,ic,eiv,hil,-⟩:=((HBI.out b (List.mem_of_getElem? hbk)).lies).form;have hroom:=((HBI.out b (List.mem_of_getElem? hbk)).lies).room;have c0:=hc.2 0 b.iv (by rw[show blocks[k]=b from (List.getElem?_eq_some_iff.1 hbk).2];rfl);rw[Nat.add_zero,eiv]at c0;have hgw:gb<wr.heap.size:=by omega
    have hst:=J8 hbk (8192 - (s:Int));rw[←HD.out]at hst;obtain⟨il,hel⟩:∃ il,il=b.ins.length:=⟨_,rfl⟩
    rw[←hel]at c0 hst hroom;have HST:=hid hst;clear hst hbk hkl hc eiv hel hil
    by_cases hx:8192<s+il
    · have hL:LB=true:=by rw[HST.out,if_pos (by omega)]
      have HYF:=hid (show Y=3 by rw[HY.out,if_pos hL]);clear hL;have i1:(8192:Int)<(s:Int)+(il:Int):=by omega
      go_wp2_with fail;go_ret;exact⟨by rw[HYF.out];rfl,HB0.out⟩
    · have HL:=hid (show LB=wy (8192 - ((s+il:Nat):Int)) (blocks.drop (k+1))by rw[HST.out,if_neg (by omega)];congr 1;omega)
      have i1:¬ (8192:Int)<(s:Int)+(il:Int):=by omega
      go_wp2_with fail;go_roundw
      case rel=>exact⟨s+il,k+1,hlt,by omega,by go_num,by go_num,trivial,HL⟩
      case measure=>simp[intOf];omega
  · have hkn:k=N2:=by omega
    subst hkn;have hL:LB=false:=by rw[HD.out,HN2.out,List.drop_length];rfl
    have hY:=HY.out;rw[hL,if_neg (by decide)]at hY;clear hlt
    by_cases a4:k=0
    · rw[if_pos (.inl a4)]at hY
      have HYF:=hid hY;clear hY;subst a4;go_wp2_with fail;go_ret;exact⟨by rw[HYF.out];rfl,HB0.out⟩
    · by_cases a5:sites<0
      · rw[if_pos (.inr a5)]at hY
        have HYF:=hid hY;have d4:((k:Int)==0)=false:=by simpa using a4
        clear hY;go_wp2_with fail;go_ret;exact⟨by rw[HYF.out];rfl,HB0.out⟩
      · rw[if_neg (by omega)]at hY
        have HYF:=hid hY;have d4:((k:Int)==0)=false:=by simpa using a4
        have d5:decide (sites<0)=false:=by simpa using a5
        clear hY;go_wp2_with fail;go_ret;exact⟨by rw[HYF.out];rfl,HB0.out⟩
