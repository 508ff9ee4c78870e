import Derived.Test.YtlboinokdhmacaaGreatDoorWkRunAt
namespace Go.Proofs.YtlboinokdhmacaaGreatDoor
set_option maxHeartbeats 64000000
set_option maxRecDepth 1000000
open Lib(hid)
open Go.RowKit
attribute [local go_sem ↓] zL zJ
theorem Y5 (z:Value) (n:Nat):madeCells #[z] n=(List.replicate n z).toArray:=by
 unfold madeCells;apply Array.ext
 · simp
 · intro i h1 h2
   simp[Nat.mod_one]
theorem Kv:(Tryz.prog.info? 2).map (fun i=>(i.zero,i.size,i.bytes))=some (some (.int .i64 0),1,8):=by kernel_rfl
theorem jy (n:Nat) (hn:n≤65537) (w:World):(Instr.makeSlice 85 (.int .i64 (n:Int)) (.int .i64 (n:Int))).run Tryz.prog w = .ok (.slice (some ⟨w.heap.size,0,none⟩) n n) (w.alloc (.cells (wds (List.replicate n 0)).toArray 2)):=by
 obtain⟨i0,hi,hz0,hz1,hz2⟩:=info_parts Kv;have h:=run_make (P:=Tryz.prog) w 85 2 i0 (.int .i64 0) Tryz.underlying85 hi hz0 .i64 .i64 (n:Int) (n:Int) (by omega) (by omega) (by rw[hz2];omega) (by omega);rw[hz1,Int.toNat_natCast,Nat.mul_one]at h;rw[h,wds,List.map_replicate,←Y5]
 rfl
def X7 (N n:Nat) (w:World) (e:Ending) (w':World):Prop:=∃ b s,e = .returned (.pointer (some ⟨b,0,none⟩))∧Below w.heap.size w w'∧w.heap.size≤b∧w.heap.size≤s∧b≠s ∧
 w'.heap[b]? = some (.cells (wK (.slice (some ⟨s,0,none⟩) N N) n false) 90 (0,0))∧w'.heap[s]? = some (.cells (wds (List.replicate N 0)).toArray 2 (0,0))
theorem Q0 (N n:Nat) (w:World) (hN:1≤N) (hN2:N≤65537) :
 Calls Tryz.prog 21 #[.int .i64 ((N:Int) - 1),.int .i64 (n:Int)] w (X7 N n w):=by
 have hmk:=jy N hN2;obtain⟨M,hM⟩:∃ M,M=(wds (List.replicate N 0)).toArray:=⟨_,rfl⟩
 rw[←hM]at hmk;have e5:=fun (b:Nat)=>zH 90 #[(0,.slice (some ⟨b,0,none⟩) N N),(1,.int .i64 (n:Int)),(3,.agg ql.toArray)] (wK (.slice (some ⟨b,0,none⟩) N N) n false) (by kernel_rfl)
 have HD:=hid z0f;unfold X7;rw[←hM];have HW:=hid (fun (b:Nat)=>(rfl:wK (.slice (some ⟨b,0,none⟩) N N) n false=wK (.slice (some ⟨b,0,none⟩) N N) n false));obtain⟨C,hC⟩:∃ C:Nat→Array Value,C=fun b=>wK (.slice (some ⟨b,0,none⟩) N N) n false:=⟨_,rfl⟩
 have hCe:∀ b,wK (.slice (some ⟨b,0,none⟩) N N) n false=C b:=fun b=>by rw[hC]
 simp only[hCe]at e5 ⊢;obtain⟨DA,hDA⟩:∃ D,D=ql.toArray:=⟨_,rfl⟩
 rw[←hDA]at e5 HD;have hwr:IntKind.wrap .i64 (1+((N:Int) - 1))=(N:Int):=by rw[show 1+((N:Int) - 1)=(N:Int)by omega];exact IntWalk.i64_in _ (by omega)
 clear hM hC hCe hDA HW;go_enter Tryz.func21,Tryz.ntmps21;go_wp2_with fail;refine wp_region_held_drew (S:=zk (w.heap.size) w) (by kernel_rfl) (zk.drew _ _) (fun hSw=>?_);refine tH 0 (.int .i64 ((N:Int) - 1)) hSw ?_;(try simp only[nS]);refine tG 1 (.int .i64 (N:Int)) hSw (fun W hW=>?_) ?_
 · first|(go_simp;done)|(go_simp;exact hwr)
 (try simp only[nS]);refine tH 3 (.int .i64 (n:Int)) hSw ?_;(try simp only[nS]);refine wpAnyH_ready (rs:=[2,4]) (by kernel_rfl) (by simp) ?_;refine AllReadyH.cons (o:={ dst:=some 7,op:=Op.makeSlice 85 (Operand.tmp 6) (Operand.tmp 6),type:=85,pos := "world.go:16", after:=#[{ on:=1,ground:=Ground.data },{ on:=1,ground:=Ground.data }],guard:=none }) rfl (fun K hK=>?_) (AllReadyH.cons (o:={ dst:=some 9,op:=Op.call { callee:=Callee.value (Operand.func 118),args:=#[],argTypes:=#[] },type:=88,pos := "world.go:16", after:=#[],guard:=none }) rfl (fun K hK=>?_) AllReadyH.nil)
 · rw[if_pos (by rfl)]
   clear hSw;go_simp;refine hK.out _ _ (fun k hk=>Below.heap_alloc _ _ _ hk) (fun hSw=>?_);clear hK K;(try simp only[nS]);refine tR 4 (fun K hK=>?_);clear hSw;go_simp;refine (HD.out _).mono ?_;rintro e w2 ⟨rfl,hb⟩;have hB2:Below w.heap.size w w2:=(ze w _).trans (Below.mono ⟨hb.os,hb.tape,hb.output,hb.size,hb.block⟩ (by show w.heap.size≤(w.alloc _).heap.size;simp));have hrow:w2.heap[w.heap.size]? = some (.cells M 2 (0,0)):=(hb.block _ (by show w.heap.size<(w.alloc _).heap.size;simp)).trans (MapKept.heap_alloc w _).1;have hzz:w.heap.size<w2.heap.size:=z8 hrow;have HB2:=hid hB2;have HROW:=hid hrow;clear hb hrow;refine hK.out _ _ (fun k hk=>hB2.block k hk) (fun hSw=>?_);clear hK K;(try simp only[nS]);have hSX:∀ k,k<w.heap.size→w2.heap[k]? = w.heap[k]?:=fun k hk=>HB2.out.block k hk
   refine tG 5 (.agg (C w.heap.size)) hSw (fun W hW=>?_) ?_
   · have e5x:=e5 w.heap.size;first|(go_simp;done)|rfl
   (try simp only[nS]);refine tR 6 (fun K hK=>?_);clear hSw;go_simp;refine hK.out _ _ (fun k hk=>(Below.heap_alloc _ _ _ (by first|(show k<w2.heap.size;omega)|(simp;omega))).trans (hSX k hk)) (fun hSw=>?_);clear hK K;(try simp only[nS]);refine tH 7 (.pointer (some ⟨w2.heap.size,0,none⟩)) hSw ?_;(try simp only[nS]);refine wpAnyH_done (by kernel_rfl) ?_ _;go_wp2_with fail;go_ret;refine⟨w2.heap.size,w.heap.size,rfl,HB2.out.alloc (by omega) _,by omega,by omega,by omega, ?_, ?_⟩
   · first|exact (MapKept.heap_alloc w2 _).1|(rw[←hz3];exact (MapKept.heap_alloc _ _).1)
   · exact (Below.heap_alloc w2 _ _ (by first|omega|(simp;omega))).trans HROW.out
 · rw[if_pos (by rfl)]
   clear hSw;go_simp;refine (HD.out _).mono ?_;rintro e w2 ⟨rfl,hb⟩;have hB2:Below w.heap.size w w2:=⟨hb.os,hb.tape,hb.output,hb.size,hb.block⟩
   have hzz:w.heap.size≤w2.heap.size:=hB2.size;have HB2:=hid hB2;clear hb;refine hK.out _ _ (fun k hk=>hB2.block k hk) (fun hSw=>?_);clear hK K;(try simp only[nS]);have hSX:∀ k,k<w.heap.size→w2.heap[k]? = w.heap[k]?:=fun k hk=>HB2.out.block k hk
   clear hB2;refine tR 2 (fun K hK=>?_);clear hSw;go_simp;have hz3:(w2.alloc (.cells M 2)).heap.size=w2.heap.size+1:=by simp
   have hrow:(w2.alloc (.cells M 2)).heap[w2.heap.size]? = some (.cells M 2 (0,0)):=(MapKept.heap_alloc w2 _).1;have HB3:=hid (HB2.out.alloc hzz (.cells M 2));have HROW:=hid hrow;clear hrow;refine hK.out _ _ (fun k hk=>(Below.heap_alloc _ _ _ (by omega)).trans (hSX k hk)) (fun hSw=>?_);clear hK K;(try simp only[nS]);refine tG 5 (.agg (C w2.heap.size)) hSw (fun W hW=>?_) ?_
   · have e5x:=e5 w2.heap.size;first|(go_simp;done)|rfl
   (try simp only[nS]);refine tR 6 (fun K hK=>?_);clear hSw;go_simp;refine hK.out _ _ (fun k hk=>(Below.heap_alloc _ _ _ (by simp;omega)).trans ((Below.heap_alloc _ _ _ (by omega)).trans (hSX k hk))) (fun hSw=>?_);clear hK K;(try simp only[nS]);refine tH 7 (.pointer (some ⟨w2.heap.size+1,0,none⟩)) hSw ?_;(try simp only[nS]);refine wpAnyH_done (by kernel_rfl) ?_ _;go_wp2_with fail;go_ret;refine⟨w2.heap.size+1,w2.heap.size,rfl,HB3.out.alloc (by rw[hz3];omega) _,by omega,by omega,by omega, ?_, ?_⟩
   · first|exact (MapKept.heap_alloc (w2.alloc (.cells M 2)) _).1|(rw[←hz3];exact (MapKept.heap_alloc _ _).1)
   · exact (Below.heap_alloc (w2.alloc (.cells M 2)) _ _ (by first|omega|(simp;omega))).trans HROW.out
def yV (p:Nat):Value:=.pointer (some ⟨p,0,none⟩)
theorem gr3 {w:World} {g n off:Nat} {cap:Nat} {B:Nat} {l:List Gr} (h:zB Gr.cells 3 w B (.slice (some ⟨g,off,none⟩) n cap) l) (i:Nat) (hi:i<l.length) :
 w.cell? ⟨g,off+i*3,none⟩ = some l[i].rv∧w.cell? ⟨g,off+i*3+1,none⟩ = some (.int .i64 l[i].sites)∧w.cell? ⟨g,off+i*3+2,none⟩ = some l[i].bv:=by
 have h1:=(h.at rfl i hi).2;exact⟨h1 0 _ rfl,h1 1 _ rfl,h1 2 _ rfl⟩
theorem xg.grow {ow:Nat→Nat} {w w':World} {B b k p r q:Nat} {WD:Int} {n:Nat} {gs:List Gr} {ps:List Nat} {v:Value} {g:Gr} (h:xg ow w B b (gs.take k) ps (RS0 WD (gs.take k) n) v) (hk:k≤gs.length) (hg:gs[k]? = some g) (hgo:GOk g) (hn:n≤1048576)
 (hb:But ow [3] w w') (hp:w.heap.size≤p) (hr:w.heap.size≤r) (hpr:p≠r) (hqp:q≠p) (hqr:q≠r) (hq:ow q=3∨w.heap.size≤q)
 (h1:w'.heap[p]? = some (.cells (wL b g (.slice (some ⟨r,0,none⟩) g.refs.length g.refs.length) (TS0 g) (.slice none 0 0) (.slice none 0 0) (.slice none 0 0)) 124 (0,0))) (h2:w'.heap[r]? = some (.cells (wds (List.replicate g.refs.length 0)).toArray 2 (0,0))) :
 ∃ ow',Ext ow ow' w∧xg ow' w' B b (gs.take (k+1)) (ps++[p]) (RS0 WD (gs.take (k+1)) n) v∧ow' q=3:=by
 obtain⟨ow',hw'⟩:∃ ow':Nat→Nat,ow'=fun x=>if x<w.heap.size then ow x else if x=p then 10+8*k else if x=r then 11+8*k else 3:=⟨_,rfl⟩
 have he:Ext ow ow' w:=fun x hx=>by rw[hw'];simp[hx]
 have hlk:(gs.take k).length=k:=by rw[List.length_take];omega
 have hkl:k<gs.length:=(List.getElem?_eq_some_iff.1 hg).1
 have htk:gs.take (k+1)=gs.take k++[g]:=by
  rw[List.take_succ_eq_append_getElem hkl];rw[List.getElem?_eq_getElem hkl]at hg;cases hg;rfl
 have op:ow' p=10+8*k:=by rw[hw'];simp[Nat.not_lt.2 hp]
 have or':ow' r=11+8*k:=by rw[hw'];simp[Nat.not_lt.2 hr,Ne.symm hpr]
 have hpl:=h.plen;rw[hlk]at hpl;refine⟨ow',he,⟨h.world.keeps hb he (by simp) (by simp),Nat.le_trans h.base hb.size,fun x hx=>by rw[he x (by have:=h.base;omega)];exact h.low x hx,by simp[RS0],by simp[hpl];omega,h.words,fun j g' T' p' e1 e2 e3=>?_⟩, ?_⟩
 · have e2':((gs.take (k+1)).map TS0)[j]? = some T':=e2
   rw[List.getElem?_map,e1]at e2';cases e2';rw[htk]at e1
   by_cases hj:j<k
   · rw[List.getElem?_append,if_pos (by omega)]at e1
     rw[List.getElem?_append,if_pos (by omega)]at e3;obtain⟨⟨a,b',c,d,ht⟩,hs⟩:=h.each j g' (TS0 g') p' e1 (by show ((gs.take k).map TS0)[j]? = _;rw[List.getElem?_map,e1];rfl) e3;exact⟨⟨a,b',c,d,ht.keeps hb he (by intro l hl;simp at hl;omega)⟩,hs⟩
   · have hlj:=(List.getElem?_eq_some_iff.1 e1).1
     have hjk:j=k:=by simp[hlk]at hlj;omega
     subst hjk;rw[List.getElem?_append,if_neg (by omega),hlk,Nat.sub_self]at e1;rw[List.getElem?_append,if_neg (by omega),hpl,Nat.sub_self]at e3;cases e1;cases e3;refine⟨⟨_,_,_,_,⟨h1,op,⟨r,by simp[TS0],by simpa[TS0]using h2,or'⟩,⟨[],⟨rfl,.inl ⟨rfl,rfl⟩⟩,rfl,fun x hx=>by cases hx⟩,.inl ⟨rfl,rfl⟩,.inl ⟨rfl,rfl⟩⟩⟩,Wm WD _ n hn g hgo⟩
 · rcases Nat.lt_or_ge q w.heap.size with hlt|hge
   · rw[he q hlt]
     rcases hq with hq|hq
     · exact hq
     · omega
   · rw[hw'];simp[Nat.not_lt.2 hge,hqp,hqr]
theorem Yl:(Tryz.prog.info? 83).map (fun i=>(i.zero,i.size,i.bytes))=some (some (.pointer none),1,8):=by kernel_rfl
theorem Q5 {ow:Nat→Nat} {L:Nat} {w0 w U:World} {B b k n:Nat} {WD:Int} {gs:List Gr} {ps:List Nat} {v tv:Value} {g:Gr} (h:xg ow w B b (gs.take k) ps (RS0 WD (gs.take k) n) v) (hg:gs[k]? = some g) (hgo:GOk g) (hn:n≤1048576) (hk4:k≤1000)
 (hL:L≤w.heap.size) (hL0:Below L w0 w) (hrow:w.ownsRow L 83 1 tv k (ps.map yV)) (hlab:∀ q,tv.ownBlock=some q→ow q=3) (hU:Below w.heap.size w U) (hUs:U.heap.size=w.heap.size+1) :
 ∃ gq cap w4,(Builtin.append_ #[81,81] 81 #[tv,.slice (some ⟨U.heap.size+2,0,none⟩) 1 1]).run Tryz.prog
  (((U.alloc (.cells (wds (List.replicate g.refs.length 0)).toArray 2)).alloc (.cells (wL b g (.slice (some ⟨U.heap.size,0,none⟩) g.refs.length g.refs.length) (TS0 g) (.slice none 0 0) (.slice none 0 0) (.slice none 0 0)) 124)).alloc (.cells #[yV (U.heap.size+1)] 83)).drew = .ok (.slice (some ⟨gq,0,none⟩) (k+1) cap) w4 ∧
  zn (fun x=>x=w.heap.size) U w4∧Below L w0 w4∧w4.ownsRow L 83 1 (.slice (some ⟨gq,0,none⟩) (k+1) cap) (k+1) ((ps++[U.heap.size+1]).map yV) ∧
  ∃ ow',Ext ow ow' w∧xg ow' w4 B b (gs.take (k+1)) (ps++[U.heap.size+1]) (RS0 WD (gs.take (k+1)) n) v∧ow' gq=3:=by
 obtain⟨O1,hO1⟩:∃ O,O=Obj.cells (wds (List.replicate g.refs.length 0)).toArray 2:=⟨_,rfl⟩
 obtain⟨O2,hO2⟩:∃ O,O=Obj.cells (wL b g (.slice (some ⟨U.heap.size,0,none⟩) g.refs.length g.refs.length) (TS0 g) (.slice none 0 0) (.slice none 0 0) (.slice none 0 0)) 124:=⟨_,rfl⟩
 rw[←hO1,←hO2];obtain⟨i,hi,hz,hs,hb⟩:=info_parts Yl
 have b1:Below U.heap.size U (((U.alloc O1).alloc O2).alloc (.cells #[yV (U.heap.size+1)] 83)).drew:=by
  exact below_drewN' (((ze U O1).alloc (by simp) _).alloc (by simp;omega) _)
 have s1:(U.alloc O1).heap.size=U.heap.size+1:=by simp
 have s2:((U.alloc O1).alloc O2).heap.size=U.heap.size+2:=by simp
 have s3:(((U.alloc O1).alloc O2).alloc (.cells #[yV (U.heap.size+1)] 83)).drew.heap.size=U.heap.size+3:=by show (((U.alloc O1).alloc O2).alloc (.cells #[yV (U.heap.size+1)] 83)).heap.size=_;simp
 have c0:(((U.alloc O1).alloc O2).alloc (.cells #[yV (U.heap.size+1)] 83)).drew.heap[U.heap.size]? = some O1:=by
  show (((U.alloc O1).alloc O2).alloc (.cells #[yV (U.heap.size+1)] 83)).heap[U.heap.size]? = some O1
  rw[Below.heap_alloc _ _ _ (by rw[s2];omega),Below.heap_alloc _ _ _ (by rw[s1];omega)];exact (MapKept.heap_alloc U O1).1
 have c1:(((U.alloc O1).alloc O2).alloc (.cells #[yV (U.heap.size+1)] 83)).drew.heap[U.heap.size+1]? = some O2:=by
  show (((U.alloc O1).alloc O2).alloc (.cells #[yV (U.heap.size+1)] 83)).heap[U.heap.size+1]? = some O2
  rw[Below.heap_alloc _ _ _ (by rw[s2];omega),←s1];exact (MapKept.heap_alloc _ O2).1
 have c2:(((U.alloc O1).alloc O2).alloc (.cells #[yV (U.heap.size+1)] 83)).drew.heap[U.heap.size+2]? = some (.cells #[yV (U.heap.size+1)] 83 (0,0)):=by
  show (((U.alloc O1).alloc O2).alloc (.cells #[yV (U.heap.size+1)] 83)).heap[U.heap.size+2]? = _
  rw[←s2];exact (MapKept.heap_alloc _ _).1
 generalize (((U.alloc O1).alloc O2).alloc (.cells #[yV (U.heap.size+1)] 83)).drew=W3 at b1 s3 c0 c1 c2;have bw3:Below w.heap.size w W3:=hU.trans (b1.mono (by omega))
 have hrow3:W3.ownsRow L 83 1 tv k (ps.map yV):=by
  refine⟨hrow.1, ?_⟩;rcases hrow.2 with hn'|⟨gg,cap,cur,e,hb',hgg,rest⟩
  · exact .inl hn'
  · exact .inr ⟨gg,cap,cur,e,hb',(bw3.block gg (z8 hgg)).trans hgg,rest⟩
 obtain⟨gq,cap,w4,hr,hown,hgrow,hat,hlt⟩:=run_append_lies (P:=Tryz.prog) W3 81 81 L 83 i (.pointer none) 1 8 Tryz.underlying81 hi hz hs hb rfl (by omega) tv k _ hrow3
  ⟨U.heap.size+2,0,none⟩ 1 1 [yV (U.heap.size+1)] rfl (World.news_of_block c2) (by intro u hu;simp at hu;subst hu;rfl) (by omega) (by unfold maxLen;omega) (by omega) (by omega) (U.heap.size+3) s3
 have htv:∀ x,tv.ownBlock=some x→L≤x∧x<w.heap.size:=fun x hx=>by
  rcases hrow.2 with ⟨e,-⟩|⟨gg,cap,cur,e,hb',hgg,-⟩
  · rw[e]at hx;cases hx
  · rw[e]at hx;cases hx;exact⟨hb',z8 hgg⟩
 have hkeep:∀ x,x<w.heap.size+4→ow x≠3∨w.heap.size≤x→w4.heap[x]? = W3.heap[x]?:=fun x hx hl=>hgrow.block x (by omega) (fun q=>by
  have hq:=q.symm;rcases hl with hl|hl
  · exact hl (hlab x hq)
  · have:=(htv x hq).2;omega)
 have hbut:But ow [3] w w4:=⟨hgrow.os.trans bw3.os,hgrow.tape.trans bw3.tape,hgrow.output.trans bw3.output,Nat.le_trans bw3.size hgrow.size,fun x hx hl=>(hkeep x (by omega) (.inl (by simpa using hl))).trans (bw3.block x hx)⟩
 have hqn:gq≠U.heap.size+1∧gq≠U.heap.size∧(ow gq=3∨w.heap.size≤gq):=by
  rcases hat with e|e
  · have:=(htv gq e).2
    exact⟨by omega,by omega,.inl (hlab gq e)⟩
  · exact⟨by omega,by omega,.inr (by omega)⟩
 obtain⟨ow',e1,e2,e3⟩:=h.grow (w':=w4) (p:=U.heap.size+1) (r:=U.heap.size) (q:=gq) (Nat.le_of_lt (List.getElem?_eq_some_iff.1 hg).1) hg hgo hn hbut (by omega) (by omega) (by omega) hqn.1 hqn.2.1 hqn.2.2
  (by rw[hkeep _ (by omega) (.inr (by omega)),c1,hO2]) (by rw[hkeep _ (by omega) (.inr (by omega)),c0,hO1])
 refine⟨gq,cap,w4,hr, ?_, ?_,by rw[List.map_append];exact hown,ow',e1,e2,e3⟩
 · rintro x rfl
   exact (hkeep _ (by omega) (.inr (Nat.le_refl _))).trans (b1.block _ (by omega))
 · refine⟨hbut.os.trans hL0.os,hbut.tape.trans hL0.tape,hbut.output.trans hL0.output,Nat.le_trans hL0.size hbut.size,fun x hx=>?_⟩
   refine ((hgrow.block x (by omega) fun q=>?_).trans (bw3.block x (by omega))).trans (hL0.block x hx);have:=(htv x q.symm).1;omega
theorem Qo (n:Nat) (hn:n≤1000) (w:World):(Instr.makeSlice 81 (.int .i64 0) (.int .i64 (n:Int))).run Tryz.prog w = .ok (.slice (some ⟨w.heap.size,0,none⟩) 0 n) (w.alloc (.cells (List.replicate n (.pointer none)).toArray 83)):=by
 obtain⟨i0,hi,hz0,hz1,hz2⟩:=info_parts Yl;have h:=run_make (P:=Tryz.prog) w 81 83 i0 (.pointer none) Tryz.underlying81 hi hz0 .i64 .i64 0 (n:Int) (by omega) (by omega) (by rw[hz2];omega) (by omega);rw[hz1,Int.toNat_natCast,Nat.mul_one]at h;rw[h,←Y5]
 rfl
theorem Qw (p:Nat) (w:World):(bls 81 1 #[(0,.pointer (some ⟨p,0,none⟩))]).run Tryz.prog w = .ok (.slice (some ⟨w.heap.size,0,none⟩) 1 1) (w.alloc (.cells #[.pointer (some ⟨p,0,none⟩)] 83)):=wP 81 83 1 1 #[(0,.pointer (some ⟨p,0,none⟩))] #[.pointer (some ⟨p,0,none⟩)] (by kernel_rfl) (by kernel_rfl) (by kernel_rfl) (by omega) (by omega) (by kernel_rfl) (by kernel_rfl) w
def NewTE (ow:Nat→Nat) (B b n:Nat) (WD:Int) (gs:List Gr) (v:Value) (w:World) (e:Ending) (w':World):Prop:=∃ ow' ps tv,e = .returned tv∧Below w.heap.size w w'∧Ext ow ow' w∧xg ow' w' B b gs ps (RS0 WD gs n) v ∧
 w'.ownsRow w.heap.size 83 1 tv gs.length (ps.map yV)∧∀ q,tv.ownBlock=some q→ow' q=3
theorem run0 {ow:Nat→Nat} {w W1:World} {B b n:Nat} {WD:Int} {gs:List Gr} {v:Value} (h1:WAt ow w b (RS0 WD gs n).W n v) (hB:B≤w.heap.size) (hlow:∀ k,k<B→ow k=0) (hb:Below w.heap.size w W1) :
 ∃ ow',Ext ow ow' w∧xg ow' W1 B b (gs.take 0) [] (RS0 WD (gs.take 0) n) v∧∀ q,w.heap.size≤q→ow' q=3:=by
 have he:Ext ow (fun x=>if x<w.heap.size then ow x else 3) w:=fun x hx=>by simp[hx]
 refine⟨_,he,⟨h1.keeps (But.of (ls:=[]) hb) he (by simp) (by simp),Nat.le_trans hB hb.size,fun x hx=>by simp[show x<w.heap.size by omega];exact hlow x hx,by simp[RS0],rfl,by simp[RS0],fun j g T p e1 _ _=>by simp at e1⟩,fun q hq=>by simp;omega⟩
theorem Q4 (ow:Nat→Nat) (w:World) (B b n:Nat) (c:Cd) (v:Value) (hI:CIn w B c) (h1:WAt ow w b (RS0 c.words c.threads n).W n v) (hB:B≤w.heap.size) (hlow:∀ k,k<B→ow k=0) (hok:∀ g ∈ c.threads,GOk g∧g.refs.length≤1024) (hn:n≤1048576) (h4:c.threads.length≤4) :
 Calls Tryz.prog 22 #[.agg #[.int .i64 c.words,c.tv],.pointer (some ⟨b,0,none⟩)] w (NewTE ow B b n c.words c.threads v w):=by
 obtain⟨bo,bcp,eb,hbl,hbg⟩:=hI.tlies.form;have HTL:=hid hI.tlies;have HTI:=hid hI.threads;clear hI;obtain⟨WD,tv,threads⟩:=c;simp only at *;subst eb;obtain⟨N,hN⟩:∃ N,N=threads.length:=⟨_,rfl⟩
 rw[←hN]at hbl hbg HTL h4;rw[←hN];obtain⟨W0,hW0⟩:∃ W0,W0=w.alloc (.cells #[.int .i64 WD,.slice bo N bcp] 24):=⟨_,rfl⟩
 have hz0:W0.heap.size=w.heap.size+1:=by rw[hW0];simp
 have hB0:Below w.heap.size w W0:=by rw[hW0];exact ze w _
 have hG0:W0.heap[w.heap.size]? = some (.cells #[.int .i64 WD,.slice bo N bcp] 24 (0,0)):=by rw[hW0];exact (MapKept.heap_alloc _ _).1
 obtain⟨O1,hO1⟩:∃ O,O=Obj.cells (List.replicate N (.pointer none)).toArray 83:=⟨_,rfl⟩
 obtain⟨W1,hW1⟩:∃ W1,W1=W0.alloc O1:=⟨_,rfl⟩
 have hB1:Below w.heap.size w W1:=by rw[hW1];exact hB0.alloc (by omega) _
 have hz1:W1.heap.size=w.heap.size+2:=by rw[hW1];simp[hz0]
 have hmk:=Qo N (by omega);rw[←hO1]at hmk;obtain⟨ow1,g1,g2,g3⟩:=run0 h1 hB hlow hB1
 have hrow1:W1.ownsRow w.heap.size 83 1 (.slice (some ⟨w.heap.size+1,0,none⟩) 0 N) 0 (([]:List Nat).map yV):=by
  have h:=World.ownsRow_made (base:=w.heap.size) W0 (List.replicate N (.pointer none)).toArray N (e:=83) (size:=1) (by omega) (by unfold maxLen;omega) (by simp);rw[hz0,←hO1,←hW1]at h;exact h
 have HG1:=hid g1;have HG2:=hid g2;have HG3:=hid (g3 (w.heap.size+1) (by omega));have HRW1:=hid hrow1;have HB1:=hid hB1;have HB:=hid hB;have HOK:=hid hok;have HNN:=hid hN;have HBG:=hid hbg;have HW1:=hid hW1;obtain⟨q0,q1⟩:=zt hG0;obtain⟨r0,r1⟩:=zt ((Below.heap_alloc W0 O1 w.heap.size (by omega)).trans hG0);rw[←hW1]at r0 r1;have HZ1:=hid hz1;have HW0:=hid hW0;rw[hW0]at q0 q1;clear h1 hB hlow hok g1 g2 g3 hrow1 hB0 hG0 hB1 hW0 hz0 hN hbg hO1 hz1 hW1;go_enter Tryz.func22,Tryz.ntmps22;go_wp2_with fail;rw[←HW0.out,←HW1.out];clear q0 q1 r0 r1
 go_loopw [5,15] (fun tv q wr=>∃ (k:Nat) (ps:List Nat) (ow2:Nat→Nat),k≤N∧q = .int .i64 k∧Below w.heap.size w wr∧Hid (Ext ow ow2 w∧xg ow2 wr B b (threads.take k) ps (RS0 WD (threads.take k) n) v∧wr.ownsRow w.heap.size 83 1 tv k (ps.map yV)∧∀ x,tv.ownBlock=some x→ow2 x=3)) (fun _ q _=>N - (intOf q).toNat)
 case atStart=>exact⟨0,[],ow1,by omega,rfl,HB1.out,hid ⟨HG1.out,HG2.out,HRW1.out,fun x hx=>by cases hx;exact HG3.out⟩⟩
 case round =>
  obtain⟨k,ps,ow2,hkN,rfl,hBr,hD⟩:=hrel
  by_cases hlt:k<N
  · obtain⟨g0,off,rfl,hg0⟩:=HBG.out (by omega)
    have hka:k<threads.length:=by rw[←HNN.out];exact hlt
    have hsr:=hBr.size;have hgk:threads[k]? = some threads[k]:=List.getElem?_eq_getElem hka;have hat:=gr3 (HTL.out.below (hBr.mono HB.out)) k hka;have hgi:=(HTI.out _ (List.getElem_mem hka)).keeps (hBr.mono HB.out);have hgo:=HOK.out _ (List.getElem_mem hka);generalize threads[k]=g at hat hgi hgo hgk;obtain⟨p0,p1,p2⟩:=hat;obtain⟨U,hU⟩:∃ U,U=wr.alloc (.cells #[g.rv,.int .i64 g.sites,g.bv] 75):=⟨_,rfl⟩
    have hBU:Below wr.heap.size wr U:=by rw[hU];exact ze wr _
    have hzU:U.heap.size=wr.heap.size+1:=by rw[hU];simp
    have hOU:U.heap[wr.heap.size]? = some (.cells #[g.rv,.int .i64 g.sites,g.bv] 75 (0,0)):=by rw[hU];exact (MapKept.heap_alloc _ _).1
    obtain⟨gq,cap,w4,hr,hsame,hb4,hown4,ow4,e4,hrun4,hq4⟩:=Q5 hD.out.2.1 hgk hgo.1 hn (by omega) hsr hBr hD.out.2.2.1 hD.out.2.2.2 hBU hzU;obtain⟨ro,rc,er,-,-⟩:=hgi.rlies.form;obtain⟨bo2,bc,ebb,-,-⟩:=hgi.blies.form;obtain⟨NR,hNR⟩:∃ N,N=g.refs.length:=⟨_,rfl⟩
    have hmi:=jy NR (by omega);obtain⟨OR,hOR⟩:∃ O,O=(wds (List.replicate NR 0)).toArray:=⟨_,rfl⟩
    have e7:=fun (r:Nat)=>zH 124 #[(0,.pointer (some ⟨b,0,none⟩)),(1,.agg #[g.rv,.int .i64 g.sites,g.bv]),(2,.slice (some ⟨r,0,none⟩) NR NR)] (wL b g (.slice (some ⟨r,0,none⟩) NR NR) (TS0 g) (.slice none 0 0) (.slice none 0 0) (.slice none 0 0)) (by kernel_rfl)
    obtain⟨C,hC⟩:∃ C:Nat→Array Value,C=fun r=>wL b g (.slice (some ⟨r,0,none⟩) NR NR) (TS0 g) (.slice none 0 0) (.slice none 0 0) (.slice none 0 0):=⟨_,rfl⟩
    have hCe:∀ r,wL b g (.slice (some ⟨r,0,none⟩) NR NR) (TS0 g) (.slice none 0 0) (.slice none 0 0) (.slice none 0 0)=C r:=fun r=>by rw[hC]
    simp only[hCe]at e7;rw[←hNR,hCe,←hOR]at hr;rw[←hOR]at hmi;have e9:=Qw;unfold yV at hr;obtain⟨y0,y1,y2⟩:=yl hOU;rw[er,←hNR]at p0 y0 e7;rw[ebb]at p2 y2 e7;have hU2:=hU;rw[er,←hNR,ebb]at hU2;have HU:=hid hU2;have HR:=hid hr;have HS:=hid hsame
    have HF:=hid (show k+1≤N∧Below w.heap.size w w4∧Hid (Ext ow ow4 w∧xg ow4 w4 B b (threads.take (k+1)) (ps++[U.heap.size+1]) (RS0 WD (threads.take (k+1)) n) v∧w4.ownsRow w.heap.size 83 1 (.slice (some ⟨gq,0,none⟩) (k+1) cap) (k+1) ((ps++[U.heap.size+1]).map yV)∧∀ x,(Value.slice (some ⟨gq,0,none⟩) (k+1) cap).ownBlock=some x→ow4 x=3)from
     ⟨hlt,hb4,hid ⟨fun x hx=>(e4 x (by omega)).trans (hD.out.1 x hx),hrun4,hown4,fun x hx=>by cases hx;exact hq4⟩⟩)
    have hgw:g0<wr.heap.size:=by have:=HB.out;omega
    have hlu:wr.heap.size<U.heap.size:=by omega
    have HD:=hid hD.out.2.2.1;clear hzU hBr hD hgk hgi hgo hU hU2 hBU hOU hr hsame hb4 hown4 e4 hrun4 hq4 er ebb hC hCe hNR hOR
    obtain⟨tq,tcap,htv⟩:∃ q c,u5 = .slice q k c:=by
     rcases HD.out.2 with ⟨e,e2⟩|⟨gg,cap,cur,e,_⟩
     · exact⟨none,0,by rw[e,e2]⟩
     · exact⟨_,_,e⟩
    subst htv;go_wp2_with fail;rw[←HU.out];refine wp_region_held_drew (S:=zn (fun x=>x=wr.heap.size∨x=wr.heap.size) U) (by kernel_rfl) (zn.drew _ _) (fun hSw=>?_);refine tH 0 (.slice tq k tcap) hSw ?_;(try simp only[nS]);refine tH 1 (.pointer (some ⟨b,0,none⟩)) hSw ?_;(try simp only[nS]);refine tG 2 (.agg #[.slice ro NR rc,.int .i64 g.sites,.slice bo2 g.blocks.length bc]) hSw (fun W hW=>?_) ?_
    · have y0:=hW.cell (by dsimp only;omega) y0
      have y1:=hW.cell (by dsimp only;omega) y1;have y2:=hW.cell (by dsimp only;omega) y2
      first|(go_simp;done)|rfl
    (try simp only[nS]);refine tH 3 (.pointer (some ⟨wr.heap.size,0,none⟩)) hSw ?_;(try simp only[nS]);refine tG 4 (.slice ro NR rc) hSw (fun W hW=>?_) ?_
    · have y0:=hW.cell (by dsimp only;omega) y0
      first|(go_simp;done)|rfl
    (try simp only[nS]);refine tH 5 (.int .i64 (NR:Int)) hSw ?_;(try simp only[nS]);refine tR 6 (fun K hK=>?_);clear hSw;go_simp;refine hK.out _ _ (fun x hx=>Below.heap_alloc U.drew _ x (by show x<U.heap.size;omega)) (fun hSw=>?_);clear hK K;(try simp only[nS]);refine tG 7 (.agg (C U.heap.size)) hSw (fun W hW=>?_) ?_
    · have e7x:=e7 U.heap.size;first|(go_simp;done)|rfl
    (try simp only[nS]);refine tR 8 (fun K hK=>?_);clear hSw;go_simp;refine hK.out _ _ (fun x hx=>(Below.heap_alloc _ _ _ (by simp;omega)).trans (Below.heap_alloc U.drew _ x (by show x<U.heap.size;omega))) (fun hSw=>?_);clear hK K;(try simp only[nS]);refine tR 9 (fun K hK=>?_);clear hSw;go_simp;refine hK.out _ _ (fun x hx=>(Below.heap_alloc _ _ _ (by simp;omega)).trans ((Below.heap_alloc _ _ _ (by simp;omega)).trans (Below.heap_alloc U.drew _ x (by show x<U.heap.size;omega)))) (fun hSw=>?_);clear hK K;(try simp only[nS]);refine tR 10 (fun K hK=>?_);clear hSw;refine Lib.wp_append_run _ _ _ _ _ rfl _ _ rfl rfl _ w4 HR.out ?_;refine hK.out _ _ (fun x hx=>HS.out x (by omega)) (fun hSw=>?_);clear hK K;(try simp only[nS]);refine tH 11 (.slice (some ⟨gq,0,none⟩) (k+1) cap) hSw ?_;(try simp only[nS]);refine wpAnyH_done (by kernel_rfl) ?_ _;go_wp2_with fail;go_roundw
    case rel=>exact⟨k+1,_,ow4,HF.out.1,by go_num,HF.out.2.1,HF.out.2.2⟩
    case measure=>simp[intOf];omega
  · have hk:k=N:=by omega
    subst hk;have HD:=hid hD.out;have HBR:=hid hBr;clear hBr hD;go_wp2_with fail;go_ret;have h:=HD.out;rw[show threads.take k=threads by rw[HNN.out];exact List.take_length]at h;exact⟨ow2,ps,u5,rfl,HBR.out,h.1,h.2.1,by rw[←HNN.out];exact h.2.2.1,h.2.2.2⟩
