import Derived.Test.YtlboinokdhmacaaGreatDoorWkRun2
import Derived.Test.YtlboinokdhmacaaGreatDoorRwRun
import Derived.Test.YtlboinokdhmacaaGreatDoorLfCode
import Derived.Test.YtlboinokdhmacaaGreatDoorBqApart
namespace Go.Proofs.YtlboinokdhmacaaGreatDoor
set_option maxHeartbeats 64000000
set_option maxRecDepth 1000000
open Lib(hid)
section
open Go Go.Lib Go.RowKit
def x8 (c:Cd) (picks:List Int) (fuel:Int):List TS:=if zV c.words c.threads picks.length fuel≠0 then [] else (zz c.threads picks (RS0 c.words c.threads fuel.toNat)).1.T
def vw (c:Cd) (picks:List Int) (fuel:Int):Bool:=if zV c.words c.threads picks.length fuel≠0 then false else (zz c.threads picks (RS0 c.words c.threads fuel.toNat)).2
def vv (c:Cd) (picks:List Int) (fuel:Int):Bool:=if zV c.words c.threads picks.length fuel≠0 then false else (zz c.threads picks (RS0 c.words c.threads fuel.toNat)).1.W.strange
theorem Va {c:Cd} {np:Nat} {fuel:Int} (h:zV c.words c.threads np fuel=0):(xW c.words c.threads).2.2=0∧1≤fuel∧fuel≤1048576:=by
 unfold zV at h;split at h
 · cases h
 · rename_i h1
   split at h
   · cases h
   · split at h
     · cases h
     · exact⟨by simpa using h1,by omega,by omega⟩
theorem kN (c:Cd) (picks:List Int) (fuel:Int):(x8 c picks fuel).length≤4∧(∀ T ∈ x8 c picks fuel,T.told.length≤1048576)∧(zV c.words c.threads picks.length fuel=0→(x8 c picks fuel).length=c.threads.length):=by
 unfold x8
 by_cases h:zV c.words c.threads picks.length fuel≠0
 · rw[if_pos h];exact⟨by simp,fun T hT=>by simp at hT,fun q=>absurd q h⟩
 · rw[if_neg h]
   have h0:zV c.words c.threads picks.length fuel=0:=by simpa using h
   obtain⟨hck,hf,hf2⟩:=Va h0;have hside:=kF hck;have hlen:=(kV c.threads (fun g hg=>(hside g hg).1) picks _ _ (kP c.words c.threads fuel.toNat (fun g hg=>(hside g hg).1))).2.2.1;obtain⟨-,-,h4,-⟩:=uG hck;exact⟨by rw[hlen];exact h4,XU (fun g hg=>⟨(hside g hg).1,(hside g hg).2.1⟩) (by omega),fun _=>hlen⟩
theorem Z5 {c d:Cd} (hw:d.words=c.words) (h:Gr.bares d.threads=Gr.bares c.threads) (picks:List Int) (fuel:Int):x8 d picks fuel=x8 c picks fuel∧vw d picks fuel=vw c picks fuel∧vv d picks fuel=vv c picks fuel∧zV d.words d.threads picks.length fuel=zV c.words c.threads picks.length fuel:=by
 have hr:zV d.words d.threads picks.length fuel=zV c.words c.threads picks.length fuel:=by rw[hw];exact Vb h _ _ _
 refine⟨?_, ?_, ?_,hr⟩
 · unfold x8;rw[hr,hw,kW h,kQ h]
 · unfold vw;rw[hr,hw,kW h,kQ h]
 · unfold vv;rw[hr,hw,kW h,kQ h]
def kJ (c:Cd) (picks:List Int) (fuel:Int) (w:World) (e:Ending) (w':World):Prop:=
 Below w.heap.size w w'∧∃ q cap,e = .returned (.tuple #[.agg #[.slice q (x8 c picks fuel).length cap,.bool (vw c picks fuel),.bool (vv c picks fuel)],.int .i64 (zV c.words c.threads picks.length fuel)]) ∧
  xB w' (.slice q (x8 c picks fuel).length cap) (x8 c picks fuel)∧qK w.heap.size w' (.slice q (x8 c picks fuel).length cap) (x8 c picks fuel)
theorem Zl (B:Nat) (c:Cd) (w:World) (pv:Value) (picks:List Int) (fuel:Int) (hI:CIn w B c) (hBw:B≤w.heap.size) (hP:zB xh 1 w B pv picks) (hf:-9223372036854775808≤fuel∧fuel≤9223372036854775807) (hxb:∀ x ∈ picks,-9223372036854775808≤x∧x≤9223372036854775807) :
 Calls Tryz.prog 8 #[.agg #[.int .i64 c.words,c.tv],pv,.int .i64 fuel] w (kJ c picks fuel w):=by
 refine (WO B c w pv picks fuel hI hBw hP hf hxb).mono ?_;rintro e w' ⟨hb,⟨h1,h2⟩|⟨h1,q,cap,h2,h3,h4⟩⟩
 · refine⟨hb,none,0, ?_⟩
   have e1:x8 c picks fuel=[]:=if_pos h1;have e2:vw c picks fuel=false:=if_pos h1;have e3:vv c picks fuel=false:=if_pos h1;rw[e1,e2,e3];exact⟨h2,⟨0,[],World.ownsRow_nil w' 0 _ 2,fun i T hT=>by simp at hT⟩,[],fun _=>0,World.ownsRow_nil w' _ _ 2,fun _ _=>rfl,fun _ _=>rfl,fun i T hT=>by simp at hT⟩
 · refine⟨hb,q,cap, ?_⟩
   have e1:x8 c picks fuel=(zz c.threads picks (RS0 c.words c.threads fuel.toNat)).1.T:=if_neg (by simp[h1]);have e2:vw c picks fuel=(zz c.threads picks (RS0 c.words c.threads fuel.toNat)).2:=if_neg (by simp[h1]);have e3:vv c picks fuel=(zz c.threads picks (RS0 c.words c.threads fuel.toNat)).1.W.strange:=if_neg (by simp[h1]);rw[(kN c picks fuel).2.2 h1,e1,e2,e3,h1];exact⟨h2,h3,h4⟩
def uP (c:Cd) (picks:List Int) (fuel:Int) (w:World) (e:Ending) (w':World):Prop:=
 Below w.heap.size w w'∧∃ q cap,e = .returned (.tuple #[.agg #[.slice q (x8 c picks fuel).length cap,.bool (vw c picks fuel),.bool (vv c picks fuel)],.int .i64 (zV c.words c.threads picks.length fuel)])∧xB w' (.slice q (x8 c picks fuel).length cap) (x8 c picks fuel)
theorem WP (B:Nat) (c:Cd) (w:World) (pv:Value) (picks:List Int) (fuel:Int) (hI:CIn w B c) (hBw:B≤w.heap.size) (hP:zB xh 1 w B pv picks) :
 Calls Tryz.prog 9 #[.agg #[.int .i64 c.words,c.tv],pv,.int .i64 fuel] w (uP c picks fuel w):=by
 have hor:Calls Tryz.prog 9 #[.agg #[.int .i64 c.words,c.tv],pv,.int .i64 fuel] w (jO c picks fuel w):=by
  by_cases h:zV c.words c.threads picks.length fuel=0
  · exact Vg B c w pv picks fuel hI hBw hP h
  · exact Vh B c w pv picks fuel hI hBw hP h
 refine hor.mono ?_;rintro e w' ⟨hb,⟨h1,h2⟩|⟨h1,q,cap,h2,h3⟩⟩
 · refine⟨hb,none,0, ?_⟩
   have e1:x8 c picks fuel=[]:=if_pos h1;have e2:vw c picks fuel=false:=if_pos h1;have e3:vv c picks fuel=false:=if_pos h1;rw[e1,e2,e3];exact⟨h2,⟨0,[],World.ownsRow_nil w' 0 _ 2,fun i T hT=>by simp at hT⟩⟩
 · refine⟨hb,q,cap, ?_⟩
   have e1:x8 c picks fuel=(zz c.threads picks (RS0 c.words c.threads fuel.toNat)).1.T:=if_neg (by simp[h1]);have e2:vw c picks fuel=(zz c.threads picks (RS0 c.words c.threads fuel.toNat)).2:=if_neg (by simp[h1]);have e3:vv c picks fuel=(zz c.threads picks (RS0 c.words c.threads fuel.toNat)).1.W.strange:=if_neg (by simp[h1]);rw[(kN c picks fuel).2.2 h1,e1,e2,e3,h1];exact⟨h2,h3⟩
theorem WF {cs:List Value} {L:List (Value × Int)} (hl:cs.length=L.length*2) (h:∀ (i:Nat) x,L[i]? = some x→cs[i*2]? = some x.1∧cs[i*2+1]? = some (.int .u8 x.2)):cs=yg L:=by
 apply List.ext_getElem?;intro j
 by_cases hj:j / 2<L.length
 · obtain⟨x,hx⟩:∃ x,L[j / 2]? = some x:=⟨_,List.getElem?_eq_getElem hj⟩
   obtain⟨a,b⟩:=h _ x hx;obtain⟨a',b'⟩:=qP L _ x hx;rcases (show j=j / 2*2∨j=j / 2*2+1 by omega)with e|e
   · rw[e,a,a']
   · rw[e,b,b']
 · rw[List.getElem?_eq_none (by omega),List.getElem?_eq_none (by rw[WG];omega)]
theorem Zh {B:Nat} {w:World} {sv:Value} {Ts:List TS} (h:qK B w sv Ts):∃ (L:List (Value × Int)) (ow:Nat→Nat),L.length=Ts.length∧w.ownsRow B 108 2 sv Ts.length (yg L)∧(∀ k,k<B→ow k=0)∧(∀ k,sv.ownBlock=some k→ow k=0) ∧
 ∀ (i:Nat) T x,Ts[i]? = some T→L[i]? = some x→zI ow w (13+8*i) x.1 T.told:=by
 obtain⟨cs,ow,ho,h1,h2,h3⟩:=h
 have hcs:cs=yg (Ts.mapIdx fun i T=>((cs[i*2]?).getD undef,T.fin)):=by
  refine WF (by simpa using ho.1) fun i x hx=>?_
  rw[List.getElem?_mapIdx]at hx;obtain⟨T,hT,rfl⟩:=Option.map_eq_some_iff.1 hx;obtain⟨tv,a,b,-⟩:=h3 i T hT;exact⟨by simp[a],b⟩
 refine⟨Ts.mapIdx fun i T=>((cs[i*2]?).getD undef,T.fin),ow,by simp,by rw[←hcs];exact ho,h1,h2,fun i T x hT hx=>?_⟩;rw[List.getElem?_mapIdx,hT,Option.map_some]at hx;cases hx;obtain⟨tv,a,b,c⟩:=h3 i T hT
 simpa[a]using c
def lbl (base:Nat) (x:Nat):Nat:=if 13≤x then 10+2*(base+(x - 13) / 8) else 0
theorem Yd (base i:Nat):lbl base (13+8*i)=10+2*(base+i):=by
 unfold lbl;rw[if_pos (by omega)];omega
theorem XH {Ba Bb K:Nat} {wa wb u:World} {sva svb:Value} {Ts:List TS} (h1:qK Ba wa sva Ts) (h2:qK Bb wb svb Ts) (hba:Ba≤wa.heap.size) (hab:wa.heap.size≤Bb) (hbb:Bb≤wb.heap.size) (hu1:Below wa.heap.size wa u) (hu2:Below wb.heap.size wb u) (hK:wb.heap.size≤K)
 (hbox:u.heap[K]? = some (.cells (kG ((0:Nat):Int) (.slice none 0 0) (.slice none 0 0)) 65 (0,0))) (ht:∀ T ∈ Ts,T.told.length≤1048576) :
 ∃ (ow:Nat→Nat) (c:Nat→List Int) (d:Nat→List (Value × Int)),(∀ k,k<Ba→ow k=0)∧(∀ k,wb.heap.size≤k→k≠K→ow k=0)∧BQ ow u K 0 (.slice none 0 0) (.slice none 0 0) [] c [] d∧(d 0).length=Ts.length∧(d 1).length=Ts.length ∧
  (u.ownsRow 0 108 2 sva Ts.length (yg (d 0))∧∀ k,sva.ownBlock=some k→ow k=11)∧(u.ownsRow 0 108 2 svb Ts.length (yg (d 1))∧∀ k,svb.ownBlock=some k→ow k=13) ∧
  (∀ (i:Nat) x,(d 0)[i]? = some x→zI ow u (10+2*i) x.1 (c i))∧(∀ (i:Nat) x,(d 1)[i]? = some x→zI ow u (10+2*(Ts.length+i)) x.1 (c (Ts.length+i)))∧(∀ i,(c i).length≤1048576)∧∀ j,2≤j→d j=[]:=by
 obtain⟨La,oa,la,ra,za,sa,ta⟩:=Zh h1;obtain⟨Lb,ob,lb,rb,zb,sb,tb⟩:=Zh h2;obtain⟨ow,how⟩:∃ ow:Nat→Nat,ow=fun k=>if k<wa.heap.size then (if sva.ownBlock=some k then 11 else lbl 0 (oa k)) else if k<Bb then 0 else if k<wb.heap.size then (if svb.ownBlock=some k then 13 else lbl Ts.length (ob k)) else if k=K then 1 else 0:=⟨_,rfl⟩
 have a0:∀ k,k<Ba→ow k=0:=fun k hk=>by
  rw[how];simp only;rw[if_pos (by omega),if_neg (fun e=>by have:=(ra.lt k e).1;omega),za k hk]
  rfl
 have hKl:ow K=1:=by
  rw[how];simp only;rw[if_neg (by omega),if_neg (by omega),if_neg (by omega)];simp
 have aS:∀ k,sva.ownBlock=some k→ow k=11:=fun k hk=>by
  have:=(ra.lt k hk).2;rw[how];simp only;rw[if_pos (by omega),if_pos hk]
 have bS:∀ k,svb.ownBlock=some k→ow k=13:=fun k hk=>by
  have h3:=rb.lt k hk;rw[how];simp only;rw[if_neg (by omega),if_neg (by omega),if_pos h3.2,if_pos hk]
 have aT:∀ (i:Nat) T x,Ts[i]? = some T→La[i]? = some x→zI ow u (10+2*i) x.1 T.told:=fun i T x hT hx=>by
  rcases ta i T x hT hx with e|⟨g,off,cap,cur,e,hg,hl,r⟩
  · exact .inl e
  · have hlt:=z8 hg
    refine .inr ⟨g,off,cap,cur,e,(hu1.block g hlt).trans hg, ?_,r⟩;rw[how];simp only;rw[if_pos hlt,if_neg (fun q=>by have:=sa g q;omega),hl,Yd];omega
 have bT:∀ (i:Nat) T x,Ts[i]? = some T→Lb[i]? = some x→zI ow u (10+2*(Ts.length+i)) x.1 T.told:=fun i T x hT hx=>by
  rcases tb i T x hT hx with e|⟨g,off,cap,cur,e,hg,hl,r⟩
  · exact .inl e
  · have hlt:=z8 hg
    have hge:Bb≤g:=by
     rcases Nat.lt_or_ge g Bb with q|q
     · have:=zb g q;omega
     · exact q
    refine .inr ⟨g,off,cap,cur,e,(hu2.block g hlt).trans hg, ?_,r⟩;rw[how];simp only;rw[if_neg (by omega),if_neg (by omega),if_pos hlt,if_neg (fun q=>by have:=sb g q;omega),hl,Yd]
 have base0:∀ {B:Nat} {w:World} {v:Value} {xs:List Value},w.ownsRow B 108 2 v Ts.length xs→Below w.heap.size w u→u.ownsRow 0 108 2 v Ts.length xs:=fun h hb=>by
  refine⟨h.1, ?_⟩;rcases h.2 with q|⟨g,cap,cur,e,-,hg,r⟩
  · exact .inl q
  · exact .inr ⟨g,cap,cur,e,Nat.zero_le _,(hb.block g (z8 hg)).trans hg,r⟩
 obtain⟨cf,hcf⟩:∃ cf:Nat→List Int,cf=fun i=>if i<Ts.length then ((Ts[i]?).map TS.told).getD [] else ((Ts[i - Ts.length]?).map TS.told).getD []:=⟨_,rfl⟩
 have hgd:∀ i:Nat,(((Ts[i]?).map TS.told).getD []).length≤1048576:=fun i=>by
  cases h:Ts[i]? with
  | none=>simp
  | some T=>simpa using ht T (List.mem_of_getElem? h)
 refine⟨ow,cf,fun j=>if j=0 then La else if j=1 then Lb else [],a0,(fun k hk hne=>by rw[how];simp only;rw[if_neg (by omega),if_neg (by omega),if_neg (by omega),if_neg hne]),⟨hbox,hKl,World.ownsRow_nil u 0 _ 2,(fun k hk=>by cases hk),World.ownsRow_nil u 0 _ 2,(fun k hk=>by cases hk),(fun i x hx=>by simp at hx),(fun i x hx=>by simp at hx)⟩,by simpa using la,by simpa using lb,
  ⟨by simpa using base0 ra hu1,aS⟩,⟨by simpa using base0 rb hu2,bS⟩,fun i x hx=>?_,fun i x hx=>?_,fun i=>?_,fun j hj=>?_⟩
 · have hx:La[i]? = some x:=by simpa using hx
   have hi:i<Ts.length:=by rw[←la];exact (List.getElem?_eq_some_iff.1 hx).1
   obtain⟨T,hT⟩:∃ T,Ts[i]? = some T:=⟨_,List.getElem?_eq_getElem hi⟩
   have:=aT i T x hT hx;rw[hcf];simp only;rw[if_pos hi,hT];exact this
 · have hx:Lb[i]? = some x:=by simpa using hx
   have hi:i<Ts.length:=by rw[←lb];exact (List.getElem?_eq_some_iff.1 hx).1
   obtain⟨T,hT⟩:∃ T,Ts[i]? = some T:=⟨_,List.getElem?_eq_getElem hi⟩
   have:=bT i T x hT hx;rw[hcf];simp only;rw[if_neg (by omega),Nat.add_sub_cancel_left,hT];exact this
 · rw[hcf]
   simp only;split <;> exact hgd _
 · simp only
   rw[if_neg (by omega),if_neg (by omega)]
end
open Go.RowKit
attribute [local go_sem ↓] zL zJ
theorem Zj (Ts:List TS) (qa qb:Option Addr) (ca cb:Nat) (x y:Bool) (w:World) (h1:xB w (.slice qa Ts.length ca) Ts) (h2:xB w (.slice qb Ts.length cb) Ts) (hl:Ts.length≤1000000) :
 Calls Tryz.prog 10 #[.agg #[.slice qa Ts.length ca,.bool x,.bool y],.agg #[.slice qb Ts.length cb,.bool x,.bool y]] w fun e w'=>e = .returned (.bool true)∧Below w.heap.size w w':=by
 have HSS:=hid (fun (u:World) (hu:Below w.heap.size w u)=>WH Ts _ _ u (h1.below hu) (h2.below hu) hl);obtain⟨N,hN⟩:∃ N,N=Ts.length:=⟨_,rfl⟩
 rw[←hN]at HSS ⊢;obtain⟨W2,hW2⟩:∃ W2,W2=(w.alloc (.cells #[.slice qa N ca,.bool x,.bool y] 32)).alloc (.cells #[.slice qb N cb,.bool x,.bool y] 32):=⟨_,rfl⟩
 have z1:(w.alloc (.cells #[.slice qa N ca,.bool x,.bool y] 32)).heap.size=w.heap.size+1:=by simp
 have hb2:Below w.heap.size w W2:=by rw[hW2];exact (ze w _).alloc (by simp) _
 have hX:W2.heap[w.heap.size]? = some (.cells #[.slice qa N ca,.bool x,.bool y] 32 (0,0)):=by rw[hW2,Below.heap_alloc _ _ _ (by omega)];exact (MapKept.heap_alloc _ _).1
 have hY:W2.heap[w.heap.size+1]? = some (.cells #[.slice qb N cb,.bool x,.bool y] 32 (0,0)):=by rw[hW2,←z1];exact (MapKept.heap_alloc _ _).1
 obtain⟨x0,x1,x2⟩:=xU hX;obtain⟨y0,y1,y2⟩:=xU hY;have hlY:=z8 hY;rw[hW2]at x0 x1 x2 y0 y1 y2 hlY;have HW2:=hid hW2;have HB2:=hid hb2;clear h1 h2 hN hW2 hb2 hX hY z1;go_enter Tryz.func10,Tryz.ntmps10;go_wp2_with fail;rw[←HW2.out];refine (HSS.out W2 HB2.out).mono ?_;rintro e w3 ⟨rfl,hb3⟩;have HB3:=hid (HB2.out.trans (hb3.mono HB2.out.size));clear hb3 x0 x1 x2 y0 y1 y2;go_wp2_with fail;go_ret;exact⟨rfl,HB3.out⟩
theorem Yo:∀ (L:List (Value × Int)) (n:Nat),∀ x ∈ xD n L,x.2<n+L.length:=by
 intro L;induction L with
 | nil=>intro n x hx;simp[xD]at hx
 | cons y L ih =>
  intro n x hx;rw[xD]at hx;rcases List.mem_cons.1 hx with rfl|hx
  · simp
  · have:=ih _ x hx;simp;omega
theorem ZI {nW:List (Value × Nat)} {M:Nat} (h:∀ x ∈ nW,x.2≤M) (j:Nat):numOf nW j≤M:=by
 unfold numOf;cases hx:nW[j]? with
 | none=>simp
 | some x=>exact h x (List.mem_of_getElem? hx)
theorem WM (HA:∀ w,Calls Tryz.prog 15 #[] w fun e w'=>e = .returned (.bool true)∧Below w.heap.size w w') (c:Cd) (w:World) (pv:Value) (picks:List Int) (fuel:Int) (hI:CIn w w.heap.size c) (hP:jh w w.heap.size pv picks) (hf:-9223372036854775808≤fuel∧fuel≤9223372036854775807) :
 Calls Tryz.prog 3 #[.agg #[.int .i64 c.words,c.tv],pv,.int .i64 fuel] w fun e w'=>e = .returned (.bool true)∧Below w.heap.size w w':=by
 have HA:=hid HA;have HI:=hid hI;have HP:=hid hP;have HF:=hid hf;obtain⟨pq,pc,epv,hpl,-⟩:=hP.1.form;obtain⟨bo,bcp,eb,hbl,-⟩:=hI.tlies.form;obtain⟨np,hnp⟩:∃ n,n=picks.length:=⟨_,rfl⟩
 subst epv;obtain⟨W0,hW0⟩:∃ W0,W0=w.alloc (.cells #[.int .i64 c.words,c.tv] 24):=⟨_,rfl⟩
 have hB0:Below w.heap.size w W0:=by rw[hW0];exact ze w _
 have hz0:w.heap.size<W0.heap.size:=by rw[hW0];simp
 have hG0:W0.heap[w.heap.size]? = some (.cells #[.int .i64 c.words,c.tv] 24 (0,0)):=by rw[hW0];exact (MapKept.heap_alloc _ _).1
 have HCS:=hid (z0h w.heap.size c W0 (hI.keeps hB0) hB0.size);obtain⟨q0,q1⟩:=zt hG0;have e2:=Qx;have HB0:=hid hB0;have HG0:=hid hG0;have HW0:=hid hW0;rw[hW0]at q0 q1;rw[eb]at HCS q0 q1 HW0 HG0 ⊢;obtain⟨WD,hWD⟩:∃ x,x=c.words:=⟨_,rfl⟩
 obtain⟨N,hN⟩:∃ N,N=c.threads.length:=⟨_,rfl⟩
 rw[←hWD,←hN]at HCS q0 q1 HW0 HG0 ⊢;rw[←hN]at hbl;rw[←hnp]at hpl ⊢;have HTW:=hid (fun (u:World) (hu:Below w.heap.size w u) (hs:c.threads.length≤262144∧∀ a ∈ c.threads,GSm a)=>XN c w.heap.size u (hI.keeps hu) hu.size hs);rw[eb,←hWD,←hN]at HTW;have HNL:=hid (And.intro hN hWD);have HNP:=hid hnp;have HEB:=hid eb;have HWB:=hid hI.words;clear hI hP hf hB0 hG0 hW0 hnp hN hWD eb;go_enter Tryz.func3,Tryz.ntmps3;go_wp2_with fail;rw[←HW0.out];clear q0 q1;refine HCS.out.mono ?_;rintro e V1 ⟨⟨n1,rfl,hn0,hn1,hsm⟩,hb1⟩;have HSM:=hid hsm;have HV1:=hid (HB0.out.trans (hb1.mono (Nat.le_of_lt hz0)));have HG1:=hid ((hb1.block w.heap.size hz0).trans HG0.out);have hz1:w.heap.size<V1.heap.size:=by have:=hb1.size;omega
 clear hb1 hsm;go_wp2_with fail;obtain⟨V2,hV2⟩:∃ V2,V2=V1.alloc (.cells #[.int .i64 n1,.int .i64 (np:Int)] 3):=⟨_,rfl⟩
 have hU2:Below w.heap.size w V2:=by rw[hV2];exact HV1.out.alloc (Nat.le_of_lt hz1) _
 have hg2:V2.heap[w.heap.size]? = some (.cells #[.int .i64 WD,.slice bo N bcp] 24 (0,0)):=by rw[hV2];exact (Below.heap_alloc _ _ _ hz1).trans HG1.out
 have HBY:=hid (z1x V1.heap.size n1 (np:Int) _ _ V2 (by rw[hV2];exact (MapKept.heap_alloc _ _).1));rw[←hV2];have HV2:=hid hU2;have HG2:=hid hg2;have hz2:w.heap.size<V2.heap.size:=z8 hg2;clear hV2 hU2;obtain⟨q0,q1⟩:=zt hg2;clear hg2;refine HBY.out.mono ?_;rintro e V2' ⟨rfl|⟨rfl,hy1,hy2⟩,rfl⟩
 · clear q0 q1
   go_wp2_with fail;go_ret;exact⟨rfl,HV2.out⟩
 have hsmall:=HSM.out hy1.2;have HSML:=hid (show c.threads.length≤262144∧∀ a ∈ c.threads,GSm a by rw[←HNL.out.1];exact hsmall);go_wp2_with fail;clear q0 q1;refine (HTW.out _ HV2.out hsmall).mono ?_;rintro e V3 ⟨tb,l,rfl,hbar,hb3,htb,hnw⟩;have hlN:l.length=N:=by rw[jf hbar,HNL.out.1]
 rw[hlN,←HNL.out.2];obtain⟨V4,hV4⟩:∃ V4,V4=V3.alloc (.cells #[.int .i64 WD,.slice (some ⟨tb,0,none⟩) N (N+2)] 24):=⟨_,rfl⟩
 have hb4:Below V3.heap.size V3 V4:=by rw[hV4];exact ze V3 _
 have hz4:V4.heap.size=V3.heap.size+1:=by rw[hV4];simp
 have hD4:V4.heap[V3.heap.size]? = some (.cells #[.int .i64 WD,.slice (some ⟨tb,0,none⟩) N (N+2)] 24 (0,0)):=by rw[hV4];exact (MapKept.heap_alloc _ _).1
 have hKC:KC V4 V3.heap.size tb l:=hnw V4 fun g _ hg=>hb4.block g hg
 have hg4:V4.heap[w.heap.size]? = some (.cells #[.int .i64 WD,.slice bo N bcp] 24 (0,0)):=(hb4.block _ (by have:=hb3.size;omega)).trans ((hb3.block _ hz2).trans HG2.out);have HV4:=hid ((HV2.out.trans (hb3.mono (Nat.le_of_lt hz2))).trans (hb4.mono (by have:=hb3.size;omega)));have hlNP:np≤262144:=by omega
 have HLNP:=hid hlNP;have HY2:=hid hy2;have HBAR:=hid hbar;have hS4:w.heap.size≤V3.heap.size:=by have:=hb3.size;omega
 have HNW:=hid (show ∀ v:World,(∀ g,tb≤g→g<V3.heap.size→v.heap[g]? = V3.heap[g]?)→KC v V3.heap.size tb l from hnw);have HTB:=hid htb;have HG4:=hid hg4;have HD4:=hid hD4;have hz4':V3.heap.size<V4.heap.size:=by omega
 have hw34:w.heap.size<V4.heap.size:=z8 hg4;have HTN:=hid (XI picks w.heap.size _ V4 (HP.out.below HV4.out).1 HV4.out.size (by rw[←HNP.out];exact hlNP));rw[←HNP.out]at HTN;have HB34:=hid (fun g hg=>hb4.block g hg);have HV4E:=hid hV4;clear hnw hbar hb3 hKC hb4 hD4 hV4 hg4 hlN;go_wp2_with fail;rw[←HV4E.out];refine HTN.out.mono ?_;rintro e V5 ⟨kb,KR,rfl,hb5,hk1,hk2,hk3,hk4⟩;have HV5:=hid (HV4.out.trans (hb5.mono HV4.out.size));have hS5:V4.heap.size≤V5.heap.size:=hb5.size;have HG5:=hid ((hb5.block _ hw34).trans HG4.out);have HD5:=hid ((hb5.block _ hz4').trans HD4.out);have HK5:=hid (And.intro hk3 hk4);have hnw5:∀ v:World,Below V5.heap.size V5 v→KC v V3.heap.size tb l:=fun v hv=>HNW.out v fun g _ hg=>(hv.block g (by omega)).trans ((hb5.block g (by omega)).trans (HB34.out g hg))
 have HNW5:=hid hnw5;have HS:=hid (Z5 (c:=c) (d:=⟨c.words,.slice (some ⟨tb,0,none⟩) l.length (l.length+2),l⟩) rfl HBAR.out picks fuel);have HSL:=hid (Wp HBAR.out HSML.out);obtain⟨Ts,hTs⟩:∃ T,T=x8 c picks fuel:=⟨_,rfl⟩
 obtain⟨er,her⟩:∃ e,e=zV c.words c.threads picks.length fuel:=⟨_,rfl⟩
 obtain⟨sh,hsh⟩:∃ e,e=vw c picks fuel:=⟨_,rfl⟩
 obtain⟨st,hst⟩:∃ e,e=vv c picks fuel:=⟨_,rfl⟩
 have hrw:∀ u e u',kJ ⟨c.words,.slice (some ⟨tb,0,none⟩) l.length (l.length+2),l⟩ picks fuel u e u'→Below u.heap.size u u'∧∃ q cap,e = .returned (.tuple #[.agg #[.slice q Ts.length cap,.bool sh,.bool st],.int .i64 er])∧xB u' (.slice q Ts.length cap) Ts∧qK u.heap.size u' (.slice q Ts.length cap) Ts:=fun u e u' h=>by
  unfold kJ at h;rw[HS.out.1,HS.out.2.1,HS.out.2.2.1,HS.out.2.2.2,←hTs,←her,←hsh,←hst]at h;exact h
 have HRU:=hid (fun (u:World) (hu:Below V5.heap.size V5 u)=>(Zl V5.heap.size ⟨c.words,.slice (some ⟨tb,0,none⟩) l.length (l.length+2),l⟩ u (.slice (some ⟨kb,0,none⟩) picks.length (picks.length+2)) picks fuel ((K8 (hnw5 u hu) HWB.out HSL.out).up (by omega)) hu.size ((wI vY hk3 hk4 hk2 (by rw[←HNP.out];omega)).below hu) HF.out HP.out.2.1).mono (hrw u))
 have hry:∀ u e u',uP c picks fuel u e u'→Below u.heap.size u u'∧∃ q cap,e = .returned (.tuple #[.agg #[.slice q Ts.length cap,.bool sh,.bool st],.int .i64 er])∧xB u' (.slice q Ts.length cap) Ts:=fun u e u' h=>by
  unfold uP at h;rw[←hTs,←her,←hsh,←hst]at h;exact h
 have HRY:=hid (fun (u:World) (hu:Below w.heap.size w u)=>(WP w.heap.size c u _ picks fuel (HI.out.keeps hu) hu.size (HP.out.below hu).1).mono (hry u));have hTL:=kN c picks fuel;rw[←hTs]at hTL;have HTL:=hid hTL;have hll:l.length=N:=by rw[jf HBAR.out,HNL.out.1]
 rw[hll,←HNL.out.2,←HNP.out]at HRU;rw[HEB.out,←HNL.out.2,←HNL.out.1,←HNP.out]at HRY;rw[←HNP.out];clear hb5 hk1 hk2 hk3 hk4 hnw5 hrw hry hTs her hsh hst hll;obtain⟨q0,q1⟩:=zt HD5.out;have hd5:V3.heap.size<V5.heap.size:=by omega
 go_wp2_with fail;refine (HRU.out V5 (Below.refl _ _)).mono ?_;rintro e V6 ⟨hb6,qa,ca,rfl,ha6,hn6⟩;clear q0 q1;obtain⟨V7,hV7⟩:∃ V,V=V6.alloc (.cells #[.slice qa Ts.length ca,.bool sh,.bool st] 32):=⟨_,rfl⟩
 have hb7:Below V6.heap.size V6 V7:=by rw[hV7];exact ze V6 _
 have hz7:V6.heap.size<V7.heap.size:=by rw[hV7];simp
 have hX7:V7.heap[V6.heap.size]? = some (.cells #[.slice qa Ts.length ca,.bool sh,.bool st] 32 (0,0)):=by rw[hV7];exact (MapKept.heap_alloc _ _).1
 have hS56:V5.heap.size≤V6.heap.size:=hb6.size;have hB57:Below V5.heap.size V5 V7:=hb6.trans (hb7.mono hS56);have hD7:=(hB57.block _ hd5).trans HD5.out;obtain⟨q0,q1⟩:=zt hD7;have hl7:=z8 hD7;rw[hV7]at q0 q1 hl7;have HV7E:=hid hV7;have HX7:=hid hX7;have HB57:=hid hB57;have HA7:=hid (And.intro ha6 hn6);have HB67:=hid hb7;have HB56:=hid hb6;clear hV7 hb7 hX7 hB57 hD7 ha6 hn6 hb6;go_wp2_with fail;rw[←HV7E.out];refine (HRU.out V7 HB57.out).mono ?_;rintro e V8 ⟨hb8,qb,cb,rfl,ha8,hn8⟩;clear q0 q1 hl7;obtain⟨V9,hV9⟩:∃ V,V=V8.alloc (.cells #[.slice qb Ts.length cb,.bool sh,.bool st] 32):=⟨_,rfl⟩
 have hb9:Below V8.heap.size V8 V9:=by rw[hV9];exact ze V8 _
 have hz9:V8.heap.size<V9.heap.size:=by rw[hV9];simp
 have hX9:V9.heap[V8.heap.size]? = some (.cells #[.slice qb Ts.length cb,.bool sh,.bool st] 32 (0,0)):=by rw[hV9];exact (MapKept.heap_alloc _ _).1
 have hS78:V7.heap.size≤V8.heap.size:=hb8.size;have hB79:Below V7.heap.size V7 V9:=hb8.trans (hb9.mono hS78);have hB59:Below V5.heap.size V5 V9:=HB57.out.trans (hB79.mono (by omega));have hV9w:Below w.heap.size w V9:=HV5.out.trans (hB59.mono (by omega));have hG9:=(hB59.block _ (by omega)).trans HG5.out;obtain⟨q0,q1⟩:=zt hG9;have hl9:=z8 hG9;rw[hV9]at q0 q1 hl9;have HV9E:=hid hV9;have HX9:=hid hX9;have HB79:=hid hB79;have HB59:=hid hB59;have HV9:=hid hV9w;have HA9:=hid (And.intro ha8 hn8);have HB89:=hid hb9;have HB78:=hid hb8;clear hV9 hb9 hX9 hB79 hB59 hV9w hG9 ha8 hn8 hb8;go_wp2_with fail;rw[←HV9E.out];refine (HRY.out V9 HV9.out).mono ?_;rintro e V10 ⟨hb10,qc,cc,rfl,ha10⟩;clear q0 q1 hl9;obtain⟨V11,hV11⟩:∃ V,V=V10.alloc (.cells #[.slice qc Ts.length cc,.bool sh,.bool st] 32):=⟨_,rfl⟩
 have hb11:Below V10.heap.size V10 V11:=by rw[hV11];exact ze V10 _
 have hz11:V10.heap.size<V11.heap.size:=by rw[hV11];simp
 have hX11:V11.heap[V10.heap.size]? = some (.cells #[.slice qc Ts.length cc,.bool sh,.bool st] 32 (0,0)):=by rw[hV11];exact (MapKept.heap_alloc _ _).1
 have hS910:V9.heap.size≤V10.heap.size:=hb10.size;have hB911:Below V9.heap.size V9 V11:=hb10.trans (hb11.mono hS910);have hB711:Below V7.heap.size V7 V11:=HB79.out.trans (hB911.mono (by omega));have hB511:Below V5.heap.size V5 V11:=HB57.out.trans (hB711.mono (by omega));have hx7:=(hB711.block _ hz7).trans HX7.out;have hx9:=(hB911.block _ hz9).trans HX9.out;have hsa:=HA7.out.1.below (HB67.out.trans (hB711.mono (by omega)));have hsb:=HA9.out.1.below (HB89.out.trans (hB911.mono (by omega)));have hsc:=ha10.below hb11;have HSA:=hid (fun (u:World) (hu:Below V11.heap.size V11 u)=>Zj Ts qa qc ca cc sh st u (hsa.below hu) (hsc.below hu) (by have:=HTL.out.1;omega));have HSB:=hid (fun (u:World) (hu:Below V11.heap.size V11 u)=>Zj Ts qb qc cb cc sh st u (hsb.below hu) (hsc.below hu) (by have:=HTL.out.1;omega));obtain⟨a0,a1,a2⟩:=xU hx7;obtain⟨c0,c1,c2⟩:=xU hX11;have hla:=z8 hx7;have hlc:=z8 hX11;rw[hV11]at a0 a1 a2 c0 c1 c2 hla hlc;have HV11E:=hid hV11;have HX11:=hid hX11;have HX9b:=hid hx9;have HX7b:=hid hx7;have HB511:=hid hB511;have HB711:=hid hB711;have HB911:=hid hB911;have hS911:V9.heap.size≤V11.heap.size:=hB911.size;clear hV11 hb11 hX11 hB911 hB711 hB511 hx7 hx9 hsa hsb hsc ha10 hb10;go_wp2_with fail;rw[←HV11E.out];refine (HSA.out V11 (Below.refl _ _)).mono ?_;rintro e V12 ⟨rfl,hb12⟩;have hx9:=(hb12.block _ (by omega)).trans HX9b.out;have hx11:=(hb12.block _ (by omega)).trans HX11.out;obtain⟨b0,b1,b2⟩:=xU hx9;obtain⟨c0,c1,c2⟩:=xU hx11;have hlb:=z8 hx9;have hlc:=z8 hx11;have HB12:=hid hb12;clear hx9 hx11 hb12 a0 a1 a2;go_wp2_with fail;refine (HSB.out V12 HB12.out).mono ?_;rintro e V13 ⟨rfl,hb13⟩;have hS13:V11.heap.size≤V13.heap.size:=Nat.le_trans HB12.out.size hb13.size;have HB1113:=hid (HB12.out.trans (hb13.mono HB12.out.size));clear hb13 b0 b1 b2 c0 c1 c2;obtain⟨V14,hV14⟩:∃ V,V=V13.alloc (.cells #[.int .i64 0,.slice none 0 0,.slice none 0 0,.slice none 0 0,.slice none 0 0,.slice none 0 0,.slice none 0 0,.slice none 0 0,.slice none 0 0,.slice none 0 0,.slice none 0 0,.slice none 0 0,.slice none 0 0,.slice none 0 0,.slice none 0 0,.slice none 0 0,.slice none 0 0,.slice none 0 0,.slice none 0 0,.slice none 0 0,.slice none 0 0,.slice none 0 0,.slice none 0 0,.slice none 0 0,.slice none 0 0,.slice none 0 0,.slice none 0 0,.slice none 0 0] 65):=⟨_,rfl⟩
 have hb14:Below V13.heap.size V13 V14:=by rw[hV14];exact ze V13 _
 have hX14:V14.heap[V13.heap.size]? = some (.cells (kG ((0:Nat):Int) (.slice none 0 0) (.slice none 0 0)) 65 (0,0)):=by rw[hV14];exact (MapKept.heap_alloc _ _).1
 have hB1114:Below V11.heap.size V11 V14:=HB1113.out.trans (hb14.mono hS13);have hB714:Below V7.heap.size V7 V14:=HB711.out.trans (hB1114.mono (by omega));have hB914:Below V9.heap.size V9 V14:=HB911.out.trans (hB1114.mono (by omega));have hB514:Below V5.heap.size V5 V14:=HB511.out.trans (hB1114.mono (by omega));obtain⟨ow,cf,d,z0,zK,hBQ,la,lb,⟨oa,sa⟩,⟨ob,sb⟩,ta,tb2,hcl,hdl⟩:=XH HA7.out.2 HA9.out.2 hS56 (by omega) hS78 (HB67.out.trans (hB714.mono (by omega))) (HB89.out.trans (hB914.mono (by omega))) (show V8.heap.size≤V13.heap.size by omega) hX14 HTL.out.2.1;have hn4:=HTL.out.1;have hse:=YP hBQ (by omega) (by simp) (by simp) (.slice qa Ts.length ca) (d 0) (by omega) rfl (by rw[la];exact oa) sa (fun i x hx=>by simpa using ta i x hx);rw[List.nil_append,List.nil_append,Nat.zero_add,la]at hse;have HSE:=hid hse;have hx7:=(hB1114.block _ (by omega)).trans HX7b.out;obtain⟨a0,a1,a2⟩:=xU hx7;have hla:=z8 hx7;rw[hV14]at a0 hla;have HV14E:=hid hV14;have hx9:=(hB1114.block _ (by omega)).trans HX9b.out;have HX9c:=hid hx9;have HZ0:=hid z0;have hz8:=zK V8.heap.size (Nat.le_refl _) (by omega);have HLA:=hid la;have HLB:=hid lb;have HOB:=hid (And.intro ob sb);have HTBB:=hid tb2;have HCL:=hid hcl;have HDL:=hid hdl;have HB514:=hid hB514;have hS514:V5.heap.size≤V14.heap.size:=hB514.size;have HZ8:=hid hz8;clear hV14 hb14 hX14 hB1114 hB714 hB914 hB514 z0 zK hBQ la lb oa sa ob sb ta tb2 hcl hdl hse hx7 hx9 a1 a2 hz8;go_wp2_with fail;rw[←HV14E.out];refine HSE.out.mono ?_;rintro e V15 ⟨rfl,ow1,vW1,vS1,p1,p2,p3⟩;have hlh:(xD 0 (d 0)).length=Ts.length:=by rw[kC];exact HLA.out
 have hse:=YP p3 (by omega) (by omega) (by simp) (.slice qb Ts.length cb) (d 1) (by rw[HLB.out];omega) rfl (by rw[HLB.out];exact zM HOB.out.1 p2 HOB.out.2 (by simp)) (yA HOB.out.1 p1 HOB.out.2) (fun i x hx=>by rw[hlh];exact (HTBB.out i x hx).keeps p2 p1 (by simp;omega));rw[HLB.out]at hse;have HSE2:=hid hse;have hx9:=(p2.block V8.heap.size (z8 HX9c.out) (by rw[HZ8.out];simp)).trans HX9c.out;obtain⟨b0,b1,b2⟩:=xU hx9;have hlb:=z8 hx9;have HP2:=hid (And.intro p1 p2);clear p1 p2 p3 hse hx9 a0 b1 b2;go_wp2_with fail;refine HSE2.out.mono ?_;rintro e V16 ⟨rfl,ow2,vW2,vS2,p1,p2,p3⟩
 have hnum:∀ x ∈ xD 0 (d 0)++xD (Ts.length+1) (d 1),x.2≤1000000:=fun x hx=>by
  rcases List.mem_append.1 hx with h|h
  · have:=Yo _ _ x h;rw[HLA.out]at this;omega
  · have:=Yo _ _ x h;rw[HLB.out]at this;omega
 have hap:=z3l p3 ⟨by rw[List.length_append,kC,kC,HLA.out,HLB.out];omega,by simp⟩ (ZI hnum) hnum (ZI (fun x hx=>by simp at hx;rcases hx with rfl|rfl <;> (simp only;omega))) (fun i=>by have:=HCL.out i;omega) (fun i=>by
  rcases (show i=0∨i=1∨2≤i by omega)with rfl|rfl|h
  · rw[HLA.out];omega
  · rw[HLB.out];omega
  · rw[HDL.out i h];simp)
 have HAP:=hid hap;have hz16:Zq ow V14 V16:=(Zq.of HP2.out.2 (by simp)).trans HP2.out.1 (Zq.of p2 (by simp));have HZ16:=hid hz16;have HE16:=hid (Ext.to HP2.out.1 p1 HP2.out.2.size);clear p1 p2 p3 hnum hap hz16 b0;go_wp2_with fail;refine HAP.out.mono ?_;rintro e V17 ⟨rfl,hz17⟩;have hB1417:Below V5.heap.size V14 V17:=(HZ16.out.trans HE16.out hz17).low hS514 HZ0.out;have hB517:Below V5.heap.size V5 V17:=HB514.out.trans hB1417;have hV17:Below w.heap.size w V17:=HV5.out.trans (hB517.mono (by omega));have hD17:=(hB517.block _ hd5).trans HD5.out;have hG17:=(hB517.block _ (by omega)).trans HG5.out;obtain⟨q0,q1⟩:=zt hD17;obtain⟨r0,r1⟩:=zt hG17;have hlq:=z8 hD17;have hlr:=z8 hG17;have hS517:=hB517.size;have hlc:=JE l c V3.heap.size tb V17 HBAR.out (HNW5.out V17 hB517) ((HI.out.keeps hV17).up hS4) (by omega) HSML.out;have hll:l.length=N:=by rw[jf HBAR.out,HNL.out.1]
 rw[hll,←HNL.out.2,HEB.out,←HNL.out.1]at hlc;have HLC:=hid hlc;have HB517:=hid hB517;have HV17:=hid hV17;clear hz17 hB1417 hB517 hV17 hD17 hG17 hlc hll;go_wp2_with fail;refine HLC.out.mono ?_;rintro e V18 ⟨rfl,hb18⟩;have hB518:Below V5.heap.size V5 V18:=HB517.out.trans (hb18.mono (by omega));have hV18:Below w.heap.size w V18:=HV17.out.trans (hb18.mono HV17.out.size);have hln:=Jz picks V5.heap.size kb KR _ V18 ((hB518.block kb (z8 HK5.out.1)).trans HK5.out.1) HK5.out.2 (z8 HK5.out.1) ((HP.out.below hV18).1.up (by omega)) hB518.size (by rw[←HNP.out];exact HLNP.out);rw[←HNP.out]at hln;have HLN:=hid hln;have HV18:=hid hV18;clear hb18 hB518 hV18 hln q0 q1 r0 r1;go_wp2_with fail;refine HLN.out.mono ?_;rintro e V19 ⟨rfl,hb19⟩;have HV19:=hid (HV18.out.trans (hb19.mono HV18.out.size));clear hb19;go_wp2_with fail;refine (HA.out V19).mono ?_;rintro e V20 ⟨rfl,hb20⟩;have HV20:=hid (HV19.out.trans (hb20.mono HV19.out.size));clear hb20;go_wp2_with fail;go_ret;exact⟨rfl,HV20.out⟩
