import Derived.Test.YtlboinokdhmacaaGreatDoorWkKeep
namespace Go.Proofs.YtlboinokdhmacaaGreatDoor
set_option maxHeartbeats 64000000
set_option maxRecDepth 1000000
open Lib(hid)
section
open Go Go.Lib Go.RowKit
theorem jr {R:List Bool} {x:Int} (h:zg R x=true):yj R.length x:=by
 unfold zg at h;simp only[Bool.and_eq_true,decide_eq_true_eq]at h;exact h
theorem jS {n a b:Int} (h:inB n a b=true):a≤n∧n≤b:=by
 unfold inB at h;simp only[Bool.and_eq_true,decide_eq_true_eq]at h;exact h
theorem Ww {R:List Bool} {i:In} (h:shaped R i (yY i.k)=true) (hk:i.k=1∨i.k=2∨i.k=3∨i.k=6∨i.k=7∨i.k=8∨i.k=9∨i.k=10∨i.k=11):zg R i.a=true:=by
 cases hA:zg R i.a with
 | true=>rfl
 | false =>
  exfalso;unfold shaped at h;rcases hk with e|e|e|e|e|e|e|e|e <;> rw[e]at h <;> simp[yY,xN,zF,hA]at h
theorem Wv {R:List Bool} {i:In} (h:shaped R i (yY i.k)=true) (hk:i.k=2∨i.k=3∨i.k=4∨i.k=5∨i.k=8∨i.k=9∨i.k=10∨i.k=11∨i.k=12):zg R i.b=true:=by
 cases hB:zg R i.b with
 | true=>rfl
 | false =>
  exfalso;unfold shaped at h;cases hA:zg R i.a <;> rcases hk with e|e|e|e|e|e|e|e|e <;> rw[e]at h <;> simp[yY,xN,zF,hA,hB]at h
theorem Zd {R:List Bool} {i:In} (h:shaped R i (yY i.k)=true) (hk:i.k=3∨(i.c ≠ -1∧(i.k=8∨i.k=9∨i.k=10∨i.k=11))):zg R i.c=true:=by
 cases hC:zg R i.c with
 | true=>rfl
 | false =>
  exfalso;unfold shaped at h;rcases hk with e|⟨hc,e|e|e|e⟩ <;> rw[e]at h <;> cases hA:zg R i.a <;> cases hB:zg R i.b <;> simp[yY,xN,zF, *]at h
theorem Km {R:List Bool} {W:Int} {M:List Bool} {i:In} (h:yK R W M i=true):Fits R.length i:=by
 unfold yK at h;simp only[Bool.and_eq_true]at h;obtain⟨h1,h2,h3⟩:=h;refine⟨jS h1,fun hk=>jr (Ww h2 hk),fun hk=>jr (Wv h2 hk),fun hk=>jr (Zd h2 (.inl hk)),fun hk=>?_,fun hk=>?_⟩
 · by_cases hc:i.c = -1
   · exact .inl (by omega)
   · exact .inr (jr (Zd h2 (.inr ⟨hc,hk⟩)))
 · unfold zu at h3
   rw[hk]at h3;simp only[Bool.and_eq_true]at h3;have h4:zm R i.a=true∧inB i.n 1 64=true∧wM M i.c=true:=by simpa using h3
   have:=jS h4.2.1;omega
theorem UE {R:List Bool} {W:Int}:∀ (l:List In) (k:Nat) (M:List Bool),(xH R W k M l).1=none→∀ i ∈ l,Fits R.length i:=by
 intro l;induction l with
 | nil=>intro k M _ i hi;simp at hi
 | cons a l ih =>
  intro k M h i hi;rw[xH]at h;split at h
  · rename_i ha
    rcases List.mem_cons.1 hi with rfl|hi
    · exact Km ha
    · exact ih _ _ h i hi
  · cases h
theorem YD {R:List Bool} {W:Int} {nb:Nat}:∀ (l:List Bk) (n:Nat) (M:List Bool),yz R W nb n M l=none→∀ b ∈ l,(∀ i ∈ b.ins,Fits R.length i)∧lastB R nb b=true:=by
 intro l;induction l with
 | nil=>intro n M _ b hb;simp at hb
 | cons a l ih =>
  intro n M h b hb;rw[yz]at h;split at h
  · cases h
  · rename_i M' hM
    split at h
    · rename_i hl
      rcases List.mem_cons.1 hb with rfl|hb
      · exact⟨UE _ _ _ (by rw[hM]),hl⟩
      · exact ih _ _ h b hb
    · cases h
theorem JZ {R:List Bool} {nb:Nat} {b:Bk} (h:lastB R nb b=true):qL R.length nb b:=by
 unfold lastB at h;simp only[Bool.and_eq_true]at h;obtain⟨h1,h2,h3⟩:=h;have hk:=jS h1
 have blk:∀ {x:Int},xY nb x=true→yj nb x:=fun {x} hx=>by
  unfold xY at hx;simp only[Bool.and_eq_true,decide_eq_true_eq]at hx;exact hx
 refine⟨fun e=>?_,fun e=>?_,fun e=>?_⟩
 · refine jr (R:=R) ?_
   cases hA:zg R b.reg with
   | true=>rfl
   | false =>
    exfalso;unfold shaped at h2;rw[e]at h2;simp[wO,xN,zF,xA,hA]at h2
 · unfold wX at h3
   have:b.last=1∨b.last=2:=by omega
   rcases this with e|e
   · rw[e,if_pos rfl]at h3
     exact blk h3
   · rw[e]at h3
     simp only[Bool.and_eq_true]at h3;have h4:zm R b.reg=false∧xY nb b.yes=true∧xY nb b.no=true:=by simpa using h3
     exact blk h4.2.1
 · unfold wX at h3
   rw[e]at h3;have h4:zm R b.reg=false∧xY nb b.yes=true∧xY nb b.no=true:=by simpa using h3
   exact blk h4.2.2
theorem YN {W:Int} {g:Gr} (h:(yH W g).2=0):GOk g∧g.refs.length≤1024∧g.blocks.length≤4096:=by
 unfold yH at h;split at h
 · rename_i hs
   have hsz:¬ (1024<g.refs.length∨4096<g.blocks.length∨8192<g.sites) ∧ ¬ (g.blocks.length=0∨g.sites<0):=by
    unfold xM at hs;split at hs
    · cases hs
    · split at hs
      · cases hs
      · split at hs
        · cases hs
        · exact⟨by assumption,by assumption⟩
   cases hf:yz g.refs W g.blocks.length 0 (List.replicate g.sites.toNat false) g.blocks with
   | some at'=>rw[hf]at h;cases h
   | none =>
    have ha:=YD _ _ _ hf;exact⟨⟨by omega,fun bk hb=>(ha bk hb).1,fun bk hb=>JZ (ha bk hb).2⟩,by omega,by omega⟩
 · rename_i hs
   exact absurd h hs
theorem YM {W:Int}:∀ (l:List Gr) (n:Nat),(xV W n l).2.2=0→∀ g ∈ l,(yH W g).2=0:=by
 intro l;induction l with
 | nil=>intro n _ g hg;simp at hg
 | cons a l ih =>
  intro n h g hg;rw[xV]at h;split at h
  · rename_i ha
    rcases List.mem_cons.1 hg with rfl|hg
    · exact ha
    · exact ih _ h g hg
  · rename_i ha
    exact absurd h ha
theorem uG {W:Int} {l:List Gr} (h:(xW W l).2.2=0):0≤W∧W≤65536∧l.length≤4∧∀ g ∈ l,GOk g∧g.refs.length≤1024∧g.blocks.length≤4096:=by
 unfold xW at h;split at h
 · cases h
 · split at h
   · cases h
   · exact⟨by omega,by omega,by omega,fun g hg=>YN (YM _ _ h g hg)⟩
end
section
open Go.RowKit
attribute [local go_sem ↓] zL zJ
def kL (ow:Nat→Nat) (b j p:Nat) (g:Gr) (r:Nat × WS × TS × Bool) (w:World) (e:Ending) (w':World):Prop:=
 e = .returned (.bool r.2.2.2)∧∃ ow' v rs us ts ws,Ext ow ow' w∧WAt ow' w' b r.2.1 r.1 v∧TAt ow' w' b j p g r.2.2.1 rs us ts ws∧Kp ow j w w'
def GoR (ow:Nat→Nat) (b j p L:Nat) (g:Gr) (r:Nat × WS × TS × Bool) (w wr:World):Prop:=
 ∃ m ow1 W1 T1 v rs us ts ws,r=goT g m W1 T1∧Ext ow ow1 w∧WAt ow1 wr b W1 m v∧TAt ow1 wr b j p g T1 rs us ts ws∧Kp ow j w wr∧Mid g L m W1 T1
def kE (b:Nat) (wr:World):Nat:=match wr.cell? ⟨b,1,none⟩with|some v=>(intOf v).toNat|none=>0
theorem Yx {ow:Nat→Nat} {w:World} {b n:Nat} {W:WS} {v:Value} (h:WAt ow w b W n v):kE b w=n:=by
 unfold kE;rw[h.cells.2.1];simp[intOf]
theorem Kp.low {ow:Nat→Nat} {j B:Nat} {w w':World} (h:Kp ow j w w') (hB:B≤w.heap.size) (h0:∀ k,k<B→ow k=0):Below B w w':=⟨h.os,h.tape,h.output,h.size,fun k hk=>h.block k (by omega) (by rw[h0 k hk];unfold Mine;omega)⟩
theorem Uo (ow:Nat→Nat) (w:World) (B b j p n L:Nat) (g:Gr) (W:WS) (T:TS) (v rs us ts ws:Value) (h1:WAt ow w b W n v) (h2:TAt ow w b j p g T rs us ts ws) (hB:B≤w.heap.size) (hlow:∀ k,k<B→ow k=0) (hg:GIn w B g) (hgo:GOk g) (hm:Mid g L n W T) :
 Calls Tryz.prog 119 #[.pointer (some ⟨p,0,none⟩)] w (kL ow b j p g (goT g n W T) w):=by
 obtain⟨R,hR⟩:∃ R,R=goT g n W T:=⟨_,rfl⟩
 have hrel0:GoR ow b j p L g R w w:=⟨n,ow,W,T,v,rs,us,ts,ws,hR,.refl _ _,h1,h2,Kp.refl _ _ _,hm⟩
 rw[←hR];have HREL:=hid hrel0;have HG:=hid hg;have HGO:=hid hgo;have HLOW:=hid hlow;have HB:=hid hB;clear h1 h2 hB hlow hg hgo hm hR hrel0;go_enter Tryz.func119,Tryz.ntmps119;go_wp2_with fail
 go_loopw [2] (fun t wr=>t = .bool false∧GoR ow b j p L g R w wr) (fun _ wr=>kE b wr)
 case atStart=>exact⟨rfl,HREL.out⟩
 case round =>
  obtain⟨rfl,m,ow1,W1,T1,v1,rs1,us1,ts1,ws1,hR,he,g1,g2,g3,g4⟩:=hrel;have d0:=g2.cells.1;have hfu:=Yx g1;have hsz:=g3.size;have HE:=hid he;have HR1:=hid hR;have HK:=hid g3;have HM:=hid g4;have HFU:=hid hfu;have H1:=hid g1;have H2:=hid g2;have hlow1:∀ k,k<B→ow1 k=0:=fun k hk=>by rw[HE.out k (by have:=HB.out;omega)];exact HLOW.out k hk
  have HGW:=hid (HG.out.keeps (g3.low HB.out HLOW.out));have HL1:=hid hlow1;clear he hR g3 g4 hfu hlow1;cases m with
  | zero =>
   have HS:=hid (Wo ow1 wr b W1 v1 g1);clear g1 g2;go_wp2_with fail;refine HS.out.mono ?_;rintro e w2 ⟨rfl,rfl⟩;go_wp2_with fail;go_ret;rw[HR1.out];exact⟨rfl,ow1,v1,rs1,us1,ts1,ws1,HE.out,H1.out,H2.out,HK.out⟩
  | succ m =>
   have HS:=hid (Wn ow1 wr b m W1 v1 g1);clear g1 g2;go_wp2_with fail;refine HS.out.mono ?_;rintro e w2 ⟨rfl,q1,q2⟩;have q3:=H2.out.keeps q2 (.refl _ _) (by simp;omega);obtain⟨bk,hbk⟩:∃ bk,g.blocks[T1.bi]? = some bk:=⟨_,List.getElem?_eq_getElem HM.out.ok.bi⟩
   have hbm:bk ∈ g.blocks:=List.mem_of_getElem? hbk;have hkk:Kp ow1 j wr w2:=q2.kp (by intro l hl;simp at hl;unfold Mine;omega);have hsz2:=hkk.size;have HKK:=hid (HK.out.trans HE.out hkk)
   have HN:=hid (Xl ow1 w2 B b j p m g W1 T1 v1 rs1 us1 ts1 ws1 bk q1 q3 (by have:=HB.out;omega) HL1.out (HGW.out.keeps (hkk.low (by have:=HB.out;omega) HL1.out)) hbk (HM.out.ok.ii bk hbk) (by rw[HM.out.ok.regs];exact HGO.out.fit bk hbm) (by rw[HM.out.ok.regs];exact HGO.out.last bk hbm)
    ⟨HM.out.un,by have:=HM.out.und;omega,by have:=HM.out.out;omega,by have:=HM.out.out;omega⟩)
   have d0:=q3.cells.1;have HFU2:=hid (show kE b wr=m+1 from HFU.out);clear q1 q2 q3 hbk hbm hkk;go_wp2_with fail;refine HN.out.mono ?_;rintro e w3 ⟨rfl,ow3,v3,rs3,us3,ts3,ws3,t1,t2,t3,t4⟩;have ha:=HM.out.next HGO.out;have hgt:=HR1.out;rw[goT]at hgt;generalize ww g W1 T1=r at ha hgt t2 t3;obtain⟨W3,T3,bo⟩:=r;have HT4:=hid (HKK.out.trans HE.out (t4));have HE3:=hid (show Ext ow ow3 w from fun k hk=>(t1 k (by omega)).trans (HE.out k hk));have HT2:=hid t2;have HT3:=hid t3;have HHA:=hid ha;have HGT:=hid hgt;clear t1 t2 t3 t4 ha hgt;cases bo with
   | true =>
    go_wp2_with fail;go_ret;rw[show R=(m,W3,T3,true)from HGT.out];exact⟨rfl,ow3,v3,rs3,us3,ts3,ws3,HE3.out,HT2.out,HT3.out,HT4.out⟩
   | false =>
    go_wp2_with fail;go_roundw
    case rel=>exact⟨rfl,m,ow3,W3,T3,v3,rs3,us3,ts3,ws3,HGT.out,HE3.out,HT2.out,HT3.out,HT4.out,HHA.out.on rfl⟩
    case measure=>rw[HFU2.out,Yx HT2.out];omega
theorem jA (n:Int) (w:World):(bls 85 1 #[(0,.int .i64 n)]).run Tryz.prog w = .ok (.slice (some ⟨w.heap.size,0,none⟩) 1 1) (w.alloc (.cells #[.int .i64 n] 2)):=wP 85 2 1 1 #[(0,.int .i64 n)] #[.int .i64 n] (by kernel_rfl) (by kernel_rfl) (by kernel_rfl) (by omega) (by omega) (by kernel_rfl) (by kernel_rfl) w
theorem zI.form' {ow:Nat→Nat} {w:World} {lab:Nat} {v:Value} {l:List Int} (h:zI ow w lab v l):∃ q c,v = .slice q l.length c:=by
 rcases h with ⟨rfl,rfl⟩|⟨g,off,cap,cur,rfl,_⟩
 · exact⟨none,0,rfl⟩
 · exact⟨_,_,rfl⟩
theorem zI.cons {ow:Nat→Nat} {w:World} {lab:Nat} {v:Value} {x:Int} {r:List Int} (h:zI ow w lab v (x :: r)):∃ wg off cap,v = .slice (some ⟨wg,off,none⟩) (r.length+1) cap∧r.length+1≤cap∧cap≤maxLen∧wg<w.heap.size∧ow wg=lab∧w.cell? ⟨wg,off,none⟩ = some (.int .i64 x) ∧
 ∀ (ow':Nat→Nat) (w':World),w'.heap[wg]? = w.heap[wg]? → ow' wg=lab→zI ow' w' lab (.slice (if cap=1 then some ⟨wg,off,none⟩ else some ⟨wg,off+1,none⟩) r.length (cap - 1)) r:=by
 rcases h with ⟨_,h⟩|⟨g,off,cap,cur,rfl,hg,hl,h1,h2,h3,h4⟩
 · cases h
 · rw[List.length_cons]at h1
   refine⟨g,off,cap,rfl,h1,h2,z8 hg,hl, ?_,fun ow' w' hk hl'=>.inr ?_⟩
   · rw[Lib.cell_of_heap hg]
     exact h4 0 x rfl
   · by_cases hc:cap=1
     · have hr:r=[]:=List.length_eq_zero_iff.1 (by omega)
       subst hr;exact⟨g,off,cap - 1,cur,by rw[if_pos hc],hk.trans hg,hl',by simp,by omega,by omega,fun i y hy=>by simp at hy⟩
     · exact⟨g,off+1,cap - 1,cur,by rw[if_neg hc],hk.trans hg,hl',by omega,by omega,by omega,fun i y hy=>by rw[Nat.add_assoc,Nat.add_comm 1 i];exact h4 (i+1) y (by simpa using hy)⟩
theorem JL (ow:Nat→Nat) (w:World) (B b j p n:Nat) (g:Gr) (W:WS) (T:TS) (v rs us ts ws:Value) (h1:WAt ow w b W n v) (h2:TAt ow w b j p g T rs us ts ws) (hB:B≤w.heap.size) (hlow:∀ k,k<B→ow k=0) (hg:GIn w B g) (hgo:GOk g) (hs:Still g n W T) (hw1:1≤W.words.length) :
 Calls Tryz.prog 23 #[.pointer (some ⟨p,0,none⟩)] w (kL ow b j p g (zA g n W T) w):=by
 have hlp:=z8 h2.box;have d10:=h2.cells.2.2.2.2.2.2.2.2.1;have d11:=h2.cells.2.2.2.2.2.2.2.2.2.1;have d12:=h2.cells.2.2.2.2.2.2.2.2.2.2;have ht:=h2.told.form';cases hwt:T.waiting with
 | nil =>
  have hws:∃ q c,ws = .slice q 0 c:=by
   have:=h2.waiting;rw[hwt]at this;rcases this with ⟨h,_⟩|⟨wg,off,cap,cur,h,_⟩
   · exact⟨_,_,h⟩
   · exact⟨_,_,h⟩
  obtain⟨q,c,rfl⟩:=hws
  by_cases hf:T.fin=0
  · have hr:zA g n W T=goT g n W T:=by unfold zA;rw[hwt];simp[hf]
    rw[hr];have HGO:=hid (Uo ow w B b j p n W.words.length g W T v rs us ts _ h1 h2 hB hlow hg hgo (hs.mid hf hw1));rw[hf]at d12;clear h1 h2 hB hlow hg hgo hs hw1 hr hf hwt ht d10;go_enter Tryz.func23,Tryz.ntmps23;go_wp2_with fail;refine HGO.out.mono ?_;rintro e w2 hE;obtain⟨r,hr⟩:=(show ∃ r,e = .returned (.bool r)from⟨_,hE.1⟩)
    subst hr;have HE:=hid hE;clear hE;go_wp2_with fail;go_ret;exact HE.out
  · have hr:zA g n W T=(n,W,T,true):=by unfold zA;rw[hwt];simp[hf]
    rw[hr];have hf1:=jJ T.fin 0 hf;have HFIN:=hid (show kL ow b j p g (n,W,T,true) w (.returned (.bool true)) w from⟨rfl,ow,v,rs,us,ts,_,.refl _ _,h1,h2,Kp.refl _ _ _⟩);obtain⟨fi,hfi⟩:∃ x,x=T.fin:=⟨_,rfl⟩
    rw[←hfi]at d12 hf1;clear h1 h2 hB hlow hg hgo hs hw1 hr hf hwt ht d10 hfi;go_enter Tryz.func23,Tryz.ntmps23;go_wp2_with fail;go_ret;exact HFIN.out
 | cons x r =>
  have hr:zA g n W T=(n,W,{ T with told:=T.told++[x],waiting:=r },true):=by unfold zA;rw[hwt]
  rw[hr];have hwa:=h2.waiting;rw[hwt]at hwa;obtain⟨wg,off,cap,rfl,hc1,hc2,hwg,hlw,hcell,hcut⟩:=hwa.cons;obtain⟨tp,tc,hts⟩:=ht;have h1d:=h1.keeps (But.of (ls:=[]) (below_drewN' (Below.refl _ _))) (.refl _ _) (by simp) (by simp);have h2d:=h2.keeps (But.of (ls:=[]) (below_drewN' (Below.refl _ _))) (.refl _ _) (by simp);obtain⟨v',w4,hrun,⟨q2,c2,hv⟩,g0,f0,ow',he,h1e,h2e,hk,hb4⟩:=Z6 ow w.drew b j p n g W T v rs us ts _ h1d h2d x (by have:=hs.out;omega);subst hv
  have hS4:jg (fun k off=>(k=p∧(off=10∨off=11))∨k=wg) w w4:=by
   have hpk:w4.heap[p]? = w.heap[p]?:=hb4.block p hlp (by rw[h2.lab];simp);have hwk:w4.heap[wg]? = w.heap[wg]?:=hb4.block wg hwg (by rw[hlw];simp);rintro k off2 (⟨rfl,_⟩|rfl)
   · simp only[World.cell?,hpk]
   · simp only[World.cell?,hwk]
  obtain⟨W5,hW5⟩:∃ V,V=w4.setCell ⟨p,10,none⟩ (.slice q2 (T.told.length+1) c2):=⟨_,rfl⟩
  rw[←hW5]at h1e h2e hk
  have hwk5:W5.heap[wg]? = w.heap[wg]?:=by
   rw[hW5];exact (Below.heap_setCell _ _ _ _ (fun e=>by have:=h2.lab;rw[←(show wg=p from e),hlw]at this;omega)).trans (hb4.block wg hwg (by rw[hlw];simp))
  have k11:=h2e.cells.2.2.2.2.2.2.2.2.2.1;have f11:=Lib.frozen_of_heap h2e.box 11;obtain⟨nv,hnv⟩:∃ nv,nv=Value.slice (if cap=1 then some ⟨wg,off,none⟩ else some ⟨wg,off+1,none⟩) r.length (cap - 1):=⟨_,rfl⟩
  have hs1:But ow' [10+8*j] W5 (W5.setCell ⟨p,11,none⟩ nv):=xX _ _ h2e.lab;have hno:∀ k,k≠0→10+k+8*j ∉ [10+8*j]:=fun k h0 q=>by simp at q;omega
  have hwp:wg≠p:=fun e=>by have:=h2.lab;rw[←e,hlw]at this;omega
  have hfin:kL ow b j p g (n,W,{ T with told:=T.told++[x],waiting:=r },true) w (.returned (.bool true)) (W5.setCell ⟨p,11,none⟩ nv):=by
   refine⟨rfl,ow',v,rs,us,_,nv,fun k hk=>he k hk,h1e.keeps hs1 (.refl _ _) (by simp;omega) (by simp;omega),⟨vo 11 _ h2e.box rfl,h2e.lab,qh h2e.regs hs1 (.refl _ _) (hno 1 (by omega)),qF h2e.undo hs1 (.refl _ _) (hno 2 (by omega)) (hno 5 (by omega)),h2e.told.keeps hs1 (.refl _ _) (hno 3 (by omega)), ?_⟩, ?_⟩
   · rw[hnv]
     exact hcut ow' _ ((Below.heap_setCell _ _ _ _ hwp).trans hwk5) (by rw[he wg hwg];exact hlw)
   · exact (show Kp ow j w W5 from⟨hk.os,hk.tape,hk.output,hk.size,hk.block⟩).trans (fun k hk=>he k hk) (hs1.kp (by intro l hl;simp at hl;unfold Mine;omega))
  have HRUN:=hid hrun;have HFIN:=hid hfin;have HS4:=hid hS4;have HW5:=hid hW5;have HNV:=hid hnv;have e3:=jA;obtain⟨NT,hNT⟩:∃ N,N=r.length:=⟨_,rfl⟩
  rw[←hNT]at hc1 d11 k11 HNV;have hrL:NT≤1048576:=by rw[hNT];have:=hs.out;rw[hwt]at this;simp at this;omega
  subst hts;clear h1 h2 hB hlow hg hgo hs hw1 hr hwt h1d h2d hrun he h1e h2e hk hb4 hS4 hW5 hwk5 hnv hs1 hno hfin hcut hlw hwa hNT d12 hwp;go_enter Tryz.func23,Tryz.ntmps23;go_wp2_with fail;refine yO (S:=jg (fun k off=>(k=p∧(off=10∨off=11))∨k=wg) w) (fun j=>decide (13≤j)) (by kernel_rfl) (fun _ _ _=>rfl) (fun hSw=>?_);refine lH 0 (.pointer (some ⟨p,0,none⟩)) hSw ?_;(try simp only[nS]);refine lH 1 (.pointer (some ⟨p,0,none⟩)) hSw ?_;(try simp only[nS]);refine lH 2 (.pointer (some ⟨p,0,none⟩)) hSw ?_;(try simp only[nS]);refine lH 3 (.pointer (some ⟨p,10,none⟩)) hSw ?_;(try simp only[nS]);refine lG 4 (.slice tp T.told.length tc) hSw (fun W hW=>?_) ?_
  · have d10:=hW.cell (by first|omega|(dsimp only;omega)) d10
    first|(go_simp;done)|rfl
  (try simp only[nS]);refine lH 5 (.pointer (some ⟨p,0,none⟩)) hSw ?_;(try simp only[nS]);refine lH 6 (.pointer (some ⟨p,0,none⟩)) hSw ?_;(try simp only[nS]);refine lH 7 (.pointer (some ⟨p,11,none⟩)) hSw ?_;(try simp only[nS]);refine lG 8 (.slice (some ⟨wg,off,none⟩) (NT+1) cap) hSw (fun W hW=>?_) ?_
  · have d11:=hW.cell (by first|omega|(dsimp only;omega)) d11
    first|(go_simp;done)|rfl
  (try simp only[nS]);refine lH 9 (.pointer (some ⟨wg,off,none⟩)) hSw ?_;(try simp only[nS]);refine lG 10 (.int .i64 x) hSw (fun W hW=>?_) ?_
  · have hcell:=hW.cell (by first|omega|(dsimp only;omega)) hcell
    first|(go_simp;done)|rfl
  (try simp only[nS]);refine lR 11 (fun J hK=>?_);clear hSw;go_simp;refine hK.out _ _ (fun k o2 hk=>by have h5:(w.alloc (.cells #[.int .i64 x] 2)).drew.heap[k]? = w.heap[k]?:=Below.heap_alloc w _ k (by rcases hk with ⟨rfl,_⟩|rfl <;> omega);simp only[World.cell?,h5]) (fun hSw=>?_);clear hK J;(try simp only[nS]);refine lR 12 (fun J hK=>?_);clear hSw;refine Lib.wp_append_run _ _ _ _ _ rfl _ _ rfl rfl _ w4 HRUN.out ?_;refine hK.out _ _ (HS4.out) (fun hSw=>?_);clear hK J;(try simp only[nS]);refine yP (rs:=[13]) (by kernel_rfl) (by simp) (by rfl) ?_;refine oR 13 (fun J hK=>?_);go_simp;refine hK.out _ _ ?_;clear hK J;(try simp only[nS]);refine oR 14 (fun J hK=>?_);go_simp;refine hK.out _ _ ?_;clear hK J;(try simp only[nS]);refine oR 15 (fun J hK=>?_);go_simp;refine hK.out _ _ ?_;clear hK J;(try simp only[nS]);refine wpAny_done (by kernel_rfl) ?_ _;rw[←HW5.out];clear d10 d11 hcell g0 f0 e3 hSw
  by_cases hcap:cap=1
  · have hnv:nv=Value.slice (some ⟨wg,off,none⟩) NT 0:=by rw[HNV.out,if_pos hcap,hcap]
    have HQ:=HFIN.out;rw[hnv]at HQ;have HQ2:=hid HQ;clear HQ hnv HNV HFIN;go_wp2_with fail;go_ret;exact HQ2.out
  · have hnv:nv=Value.slice (some ⟨wg,off+1,none⟩) NT (cap - 1):=by rw[HNV.out,if_neg hcap]
    have HQ:=HFIN.out;rw[hnv]at HQ;have HQ2:=hid HQ;clear HQ hnv HNV HFIN;go_wp2_with fail;go_ret;exact HQ2.out
end
open Go Go.Lib Go.RowKit
def kr (j:Nat):List Nat:=[1,2,10+8*j,11+8*j,12+8*j,13+8*j,14+8*j,15+8*j,16+8*j,17+8*j]
theorem ZT {j l:Nat}:Mine j l↔l ∈ kr j:=by
 unfold Mine kr;simp only[List.mem_cons,List.not_mem_nil,or_false];omega
theorem Kp.but {ow:Nat→Nat} {j:Nat} {w w':World} (h:Kp ow j w w'):But ow (kr j) w w':=⟨h.os,h.tape,h.output,h.size,fun k hk hm=>h.block k hk (fun q=>hm (ZT.1 q))⟩
theorem ZU {j i:Nat} (h:j≠i):∀ l ∈ kr j,l<10+8*i∨18+8*i≤l:=by
 intro l hl;have:=ZT.2 hl;unfold Mine at this;omega
def TS0 (g:Gr):TS:=⟨List.replicate g.refs.length 0,0,0,false,0,[],[],[],0⟩
def RS0 (W:Int) (gs:List Gr) (n:Nat):RS:=⟨n,⟨List.replicate (W.toNat+1) 0,false⟩,gs.map TS0⟩
theorem Wm (W:Int) (gs:List Gr) (n:Nat) (hn:n≤1048576) (g:Gr) (hg:GOk g):Still g n (RS0 W gs n).W (TS0 g):=
 ⟨⟨by simp[TS0],hg.first,fun bk _=>Nat.zero_le _⟩,by simpa[TS0]using hn,by simpa[TS0]using hn,fun _ u hu=>by simp[TS0]at hu⟩
structure xg (ow:Nat→Nat) (w:World) (B b:Nat) (gs:List Gr) (ps:List Nat) (s:RS) (v:Value):Prop where
 world:WAt ow w b s.W s.n v
 base:B≤w.heap.size
 low:∀ k,k<B→ow k=0
 tlen:s.T.length=gs.length
 plen:ps.length=gs.length
 words:1≤s.W.words.length
 each:∀ (j:Nat) g T p,gs[j]? = some g→s.T[j]? = some T→ps[j]? = some p→(∃ rs us ts ws,TAt ow w b j p g T rs us ts ws)∧Still g s.n s.W T
theorem xg.below {ow:Nat→Nat} {w w':World} {B b:Nat} {gs:List Gr} {ps:List Nat} {s:RS} {v:Value} (h:xg ow w B b gs ps s v) (hb:Below w.heap.size w w'):xg ow w' B b gs ps s v:=by
 have hbut:But ow [] w w':=But.of hb;refine⟨h.world.keeps hbut (.refl _ _) (by simp) (by simp),Nat.le_trans h.base hb.size,h.low,h.tlen,h.plen,h.words,fun j g T p h1 h2 h3=>?_⟩;obtain⟨⟨rs,us,ts,ws,ht⟩,hs⟩:=h.each j g T p h1 h2 h3;exact⟨⟨rs,us,ts,ws,ht.keeps hbut (.refl _ _) (by simp)⟩,hs⟩
theorem xg.leap {ow:Nat→Nat} {w w':World} {B b j p:Nat} {gs:List Gr} {ps:List Nat} {s:RS} {v:Value} {g:Gr} {T:TS} (h:xg ow w B b gs ps s v) (hg:gs[j]? = some g) (hT:s.T[j]? = some T) (hp:ps[j]? = some p) (hgo:GOk g)
 {ow':Nat→Nat} {v' rs us ts ws:Value} (he:Ext ow ow' w) (h1:WAt ow' w' b (zA g s.n s.W T).2.1 (zA g s.n s.W T).1 v') (h2:TAt ow' w' b j p g (zA g s.n s.W T).2.2.1 rs us ts ws) (hk:Kp ow j w w') (hmade:(zA g s.n s.W T).2.2.2=true) :
 xg ow' w' B b gs ps ⟨(zA g s.n s.W T).1,(zA g s.n s.W T).2.1,s.T.set j (zA g s.n s.W T).2.2.1⟩ v':=by
 obtain⟨-,hst⟩:=h.each j g T p hg hT hp;obtain⟨s1,s2,s3⟩:=hst.leap hgo h.words;refine⟨h1,Nat.le_trans h.base hk.size,fun k hkB=>by rw[he k (by have:=h.base;omega)];exact h.low k hkB,by simpa using h.tlen,h.plen,Nat.le_trans h.words s2,fun i g' T' p' e1 e2 e3=>?_⟩;simp only[List.getElem?_set]at e2
 by_cases hij:j=i
 · subst hij
   rw[if_pos rfl]at e2;split at e2
   · cases e2
     rw[hg]at e1;cases e1;rw[hp]at e3;cases e3;exact⟨⟨rs,us,ts,ws,h2⟩,s1 hmade⟩
   · cases e2
 · rw[if_neg hij]at e2
   obtain⟨⟨a,b',c,d,ht⟩,hs'⟩:=h.each i g' T' p' e1 e2 e3;exact⟨⟨a,b',c,d,ht.keeps hk.but he (ZU hij)⟩,hs'.other s3 s2⟩
structure qB (ow:Nat→Nat) (w:World) (b:Nat) (gs:List Gr) (ps:List Nat) (s:RS) (v:Value):Prop where
 world:WAt ow w b s.W s.n v
 tlen:s.T.length=gs.length
 each:∀ (j:Nat) g T p,gs[j]? = some g→s.T[j]? = some T→ps[j]? = some p→∃ rs us ts ws,TAt ow w b j p g T rs us ts ws
theorem xg.end {ow:Nat→Nat} {w:World} {B b:Nat} {gs:List Gr} {ps:List Nat} {s:RS} {v:Value} (h:xg ow w B b gs ps s v):qB ow w b gs ps s v:=
 ⟨h.world,h.tlen,fun j g T p h1 h2 h3=>(h.each j g T p h1 h2 h3).1⟩
theorem qB.below {ow:Nat→Nat} {w w':World} {b:Nat} {gs:List Gr} {ps:List Nat} {s:RS} {v:Value} (h:qB ow w b gs ps s v) (hb:Below w.heap.size w w'):qB ow w' b gs ps s v:=by
 have hbut:But ow [] w w':=But.of hb;refine⟨h.world.keeps hbut (.refl _ _) (by simp) (by simp),h.tlen,fun j g T p h1 h2 h3=>?_⟩;obtain⟨rs,us,ts,ws,ht⟩:=h.each j g T p h1 h2 h3;exact⟨rs,us,ts,ws,ht.keeps hbut (.refl _ _) (by simp)⟩
theorem xg.short {ow:Nat→Nat} {w w':World} {B b j p:Nat} {gs:List Gr} {ps:List Nat} {s:RS} {v:Value} {g:Gr} {T:TS} (h:xg ow w B b gs ps s v) (hg:gs[j]? = some g) (hp:ps[j]? = some p)
 {ow':Nat→Nat} {v' rs us ts ws:Value} (he:Ext ow ow' w) (h1:WAt ow' w' b (zA g s.n s.W T).2.1 (zA g s.n s.W T).1 v') (h2:TAt ow' w' b j p g (zA g s.n s.W T).2.2.1 rs us ts ws) (hk:Kp ow j w w') :
 qB ow' w' b gs ps ⟨(zA g s.n s.W T).1,(zA g s.n s.W T).2.1,s.T.set j (zA g s.n s.W T).2.2.1⟩ v':=by
 refine⟨h1,by simpa using h.tlen,fun i g' T' p' e1 e2 e3=>?_⟩;simp only[List.getElem?_set]at e2
 by_cases hij:j=i
 · subst hij
   rw[if_pos rfl]at e2;split at e2
   · cases e2
     rw[hg]at e1;cases e1;rw[hp]at e3;cases e3;exact⟨rs,us,ts,ws,h2⟩
   · cases e2
 · rw[if_neg hij]at e2
   obtain⟨⟨a,b',c,d,ht⟩,-⟩:=h.each i g' T' p' e1 e2 e3;exact⟨a,b',c,d,ht.keeps hk.but he (ZU hij)⟩
