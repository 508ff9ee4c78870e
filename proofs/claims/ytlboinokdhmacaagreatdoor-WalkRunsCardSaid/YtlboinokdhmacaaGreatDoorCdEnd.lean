import Derived.Test.YtlboinokdhmacaaGreatDoorRwLeap
import Derived.Test.YtlboinokdhmacaaGreatDoorWkNewW
import Derived.Test.YtlboinokdhmacaaGreatDoorIrCheck
namespace Go.Proofs.YtlboinokdhmacaaGreatDoor
set_option maxHeartbeats 64000000
set_option maxRecDepth 1000000
open Lib(hid)
section
open Go Go.Lib Go.RowKit
theorem VV {g:Gr} {W:WS} {T:RT} {inside:Bool} {mark:Nat} {l:List Int} (h:(zy g W T inside mark l).2.2.2=1):(zy g W T inside mark l).2.1.fin≠0:=by
 unfold zy at h ⊢;cases hb:g.blocks[T.bi]? with
 | none=>rw[hb]at h;simp at h
 | some bk =>
  rw[hb]at h;simp only at h ⊢;cases hx:bk.ins[T.ii]? with
  | none =>
   rw[hx]at h;simp only at h ⊢;unfold yx at h ⊢
   by_cases h1:bk.last=1
   · rw[if_pos h1]at h;simp at h
   · rw[if_neg h1]at h ⊢
     by_cases h2:bk.last=2
     · rw[if_pos h2]at h
       by_cases h3:T.reg bk.reg≠0
       · rw[if_pos h3]at h;simp at h
       · rw[if_neg h3]at h;simp at h
     · rw[if_neg h2];simp
  | some x =>
   rw[hx]at h;simp only at h ⊢
   by_cases h12:x.k=12
   · rw[if_pos h12]at h;simp only at h;split at h <;> omega
   · rw[if_neg h12]at h ⊢
     by_cases h14:x.k=14
     · rw[if_pos h14]at h;simp at h
     · rw[if_neg h14]at h ⊢
       simp only at h ⊢;intro h0;rw[if_pos h0]at h;omega
theorem VS {g:Gr} {W:WS} {T:RT} {inside:Bool} {mark:Nat} {l:List Int} (hg:GOk g) (h:ROk g T) (hon:(zy g W T inside mark l).2.2.2=2∨(zy g W T inside mark l).2.2.2=3):ROk g (zy g W T inside mark l).2.1:=by
 obtain⟨bk,hbk⟩:∃ bk,g.blocks[T.bi]? = some bk:=⟨_,List.getElem?_eq_getElem h.bi⟩
 unfold zy at hon ⊢;rw[hbk]at hon ⊢;simp only at hon ⊢;cases hx:bk.ins[T.ii]? with
 | none =>
  rw[hx]at hon;simp only at hon;split at hon <;> omega
 | some x =>
  rw[hx]at hon;simp only at hon ⊢
  have hst:∀ b2,g.blocks[T.bi]? = some b2→T.ii+1≤b2.ins.length:=fun b2 hb2=>by
   rw[hbk]at hb2;cases hb2;exact (List.getElem?_eq_some_iff.1 hx).1
  by_cases h12:x.k=12
  · rw[if_pos h12];exact⟨h.regs,h.bi,hst⟩
  · rw[if_neg h12]at hon ⊢
    by_cases h14:x.k=14
    · rw[if_pos h14];exact⟨h.regs,h.bi,hst⟩
    · rw[if_neg h14]at hon
      simp only at hon;split at hon <;> omega
theorem VU (g:Gr) (W:WS) (T:RT) (inside:Bool) (mark:Nat) (l:List Int):(zy g W T inside mark l).2.2.2=0∨(zy g W T inside mark l).2.2.2=1∨(zy g W T inside mark l).2.2.2=2∨(zy g W T inside mark l).2.2.2=3:=by
 unfold zy
 repeat' split
 all_goals simp
def LpK (g:Gr) (n:Nat) (T:RT) (k:Nat) (R:Nat × WS × RT × Bool):Prop:=
 R.1≤n∧(R.2.2.2=true→R.2.2.1.out.length+R.2.2.1.wait.length+R.1≤T.out.length+k+n∧R.2.2.1.regs.length=T.regs.length∧(R.2.2.1.fin=0→ROk g R.2.2.1))
theorem Um {g:Gr} (hg:GOk g):∀ (n:Nat) (W:WS) (T:RT) (K:Ks) (l:List Int),ROk g T→T.wait=[]→LpK g n T l.length (goR g n W T K l):=by
 intro n;induction n with
 | zero=>intro W T K l _ _;exact⟨Nat.le_refl _,fun h=>by simp[goR]at h⟩
 | succ m ih =>
  intro W T K l hok hw;obtain⟨K2,hK2⟩:∃ K2,K2=K.at g W T:=⟨_,rfl⟩
  have hk:=uf g W T K2.inside K2.mark l;have hc:=VU g W T K2.inside K2.mark l;have h0:(zy g W T K2.inside K2.mark l).2.2.2=0→ROk g (zy g W T K2.inside K2.mark l).2.1:=ZL hg hok;have h1:=VV (g:=g) (W:=W) (T:=T) (inside:=K2.inside) (mark:=K2.mark) (l:=l);have h2:=VS (W:=W) (inside:=K2.inside) (mark:=K2.mark) (l:=l) hg hok;rw[goR,←hK2];generalize zy g W T K2.inside K2.mark l=r at hk hc h0 h1 h2;obtain⟨W',T',l',c⟩:=r;simp only at hk hc h0 h1 h2;obtain⟨k1,k2,k3,k4⟩:=hk;rcases hc with rfl|rfl|rfl|rfl
  · show LpK g (m+1) T l.length (goR g m W' T' K2 l')
    obtain⟨a1,a2⟩:=ih W' T' K2 l' (h0 rfl) (k2.trans hw);refine⟨Nat.le_succ_of_le a1,fun hr=>?_⟩;obtain⟨b1,b2,b3⟩:=a2 hr;exact⟨by rw[k3]at b1;omega,b2.trans k1,b3⟩
  · refine⟨Nat.le_succ _,fun _=>?_⟩
    simp only[y8];exact⟨by simp[k2,hw,k3];omega,k1,fun hf=>absurd hf (h1 rfl)⟩
  · refine⟨Nat.le_succ _,fun _=>?_⟩
    have h:=h2 (.inl rfl);simp only[y8];exact⟨by simp[k3];omega,k1,fun _=>⟨h.regs,h.bi,h.ii⟩⟩
  · refine⟨Nat.le_succ _,fun _=>?_⟩
    have h:=h2 (.inr rfl);simp only[y8];exact⟨by simp[k2,hw,k3];omega,k1,fun _=>⟨h.regs,h.bi,h.ii⟩⟩
theorem Ya {g:Gr} (hg:GOk g) (n:Nat) (W:WS) (T:RT) (hok:ROk g T):LpK g n T T.wait.length (yG g n W T):=by
 unfold yG;cases hw:T.wait with
 | nil=>exact Um hg n W T _ [] hok hw
 | cons x r=>exact⟨Nat.le_refl _,fun _=>⟨by simp;omega,rfl,fun _=>⟨hok.regs,hok.bi,hok.ii⟩⟩⟩
end
section
open Go.RowKit
def QLc (ow:Nat→Nat) (b:Nat) (wd:Int) (tv tw:Value) (tb j:Nat) (rs:Value) (r:Nat × WS × RT × Bool) (w:World) (e:Ending) (w':World):Prop:=
 e = .returned (.bool r.2.2.2)∧∃ ow' v' ws' os' n',(r.2.2.2=true→n'=(r.1:Int))∧Ext ow ow' w∧QW ow' w' b wd tv tw r.2.1 n' v'∧QT ow' w' tb (j*6) j r.2.2.1 rs ws' os'∧But ow [1,2,3,4,5,6,10+8*j,11+8*j,12+8*j] w w'∧TbK tb (j*6) w w'∧(r.2.2.2=false→But ow [1,2,3,4,5,6,10+8*j] w w') ∧
  (∀ k,w'.heap.size≤k→ow' k=0)∧∀ k,ow' k≠4∧ow' k≠5∧ow' k≠6
theorem QLp.clean {ow:Nat→Nat} {b:Nat} {wd:Int} {tv tw:Value} {tb j:Nat} {rs:Value} {r:Nat × WS × RT × Bool} {w:World} {e:Ending} {w':World} (h:QLp ow b wd tv tw tb j rs r w e w') (hcl:∀ k,ow k≠4∧ow k≠5∧ow k≠6):QLc ow b wd tv tw tb j rs r w e w':=by
 obtain⟨he,ow',v',ws',os',n',hn,hx,q1,q2,q3,q4,q5⟩:=h;have q1r:QW (x9 0 0 ow') w' b wd tv tw r.2.1 n' v':=q1.rl;have q2r:QT (x9 0 0 ow') w' tb (j*6) j r.2.2.1 rs ws' os':=q2.rl;have hB:But (x9 0 0 ow') ([]:List Nat) w' w':=But.of (Below.refl _ _);have hc:Ext (x9 0 0 ow') (fun k=>if k<w'.heap.size then x9 0 0 ow' k else 0) w':=uE;refine⟨he,_,v',ws',os',n',hn,fun k hk=>?_,q1r.keeps hB hc (by simp) (by simp),q2r.keeps hB hc (by simp) (by simp) (by simp) (by simp),q3,q4,q5,fun k hk=>by simp[Nat.not_lt.2 hk],fun k=>?_⟩
 · have e:=hx k hk
   exact (hc k (Nat.lt_of_lt_of_le hk q3.size)).trans ((qg (by rw[e];exact hcl k)).trans e)
 · by_cases hk:k<w'.heap.size
   · simp only[hk,if_true,x9]
     refine⟨?_, ?_, ?_⟩ <;> (repeat' split) <;> omega
   · simp[hk]
theorem Vk {ow:Nat→Nat} {w:World} {B b:Nat} {wd:Int} {tv tw:Value} {tb j:Nat} {rs ws os:Value} {n:Nat} {W:WS} {T:RT} {v:Value} {g:Gr} {NT tc gt goff NG gc:Nat} (h:kK ow w B b wd tv tw tb j rs ws os n W T v g NT tc gt goff NG gc) (hGO:GOk g) (hkind:∀ bk ∈ g.blocks,1≤bk.last∧bk.last≤3) (hok:ROk g T) (hn:n≤1048576) :
 Calls Tryz.prog 27 #[.pointer (some ⟨b,0,none⟩),.int .i64 (j:Int)] w (QLc ow b wd tv tw tb j rs (yG g n W T) w):=by
 unfold yG;cases hw:T.wait with
 | nil=>exact (Vj h hw hGO hkind hok hn).mono fun e w' hq=>hq.clean h.clean
 | cons x r=>exact (Vi h hw).mono fun e w' hq=>hq.clean h.clean
end
section
open Go.RowKit
attribute [local go_sem ↓] zL zJ
theorem uC:(Tryz.prog.info? 108).map (fun i=>(i.zero,i.size,i.bytes))=some (some (.agg #[.slice none 0 0,.int .u8 0]),2,32):=by kernel_rfl
theorem Qq (n:Nat) (hn:n≤1000):∃ O,∀ w:World,(Instr.makeSlice 30 (.int .i64 0) (.int .i64 (n:Int))).run Tryz.prog w = .ok (.slice (some ⟨w.heap.size,0,none⟩) 0 n) (w.alloc O) ∧
 (w.alloc O).ownsRow w.heap.size 108 2 (.slice (some ⟨w.heap.size,0,none⟩) 0 n) 0 []:=by
 obtain⟨i0,hi,hz0,hz1,hz2⟩:=info_parts uC;refine⟨.cells (madeCells (Value.agg #[.slice none 0 0,.int .u8 0]).cells (n*2)) 108,fun w=>?_⟩;have h:=run_make (P:=Tryz.prog) w 30 108 i0 (.agg #[.slice none 0 0,.int .u8 0]) Tryz.underlying30 hi hz0 .i64 .i64 0 (n:Int) (by omega) (by omega) (by rw[hz2];omega) (by omega);rw[hz1,Int.toNat_natCast]at h;exact⟨h,World.ownsRow_made w _ n (Nat.le_refl _) (by unfold maxLen;omega) (size_madeCells _ _)⟩
theorem Y1 (q:Option Addr) (l c:Nat) (f:Int) (w:World):(bls 30 1 #[(0,.agg #[.slice q l c,.int .u8 f])]).run Tryz.prog w = .ok (.slice (some ⟨w.heap.size,0,none⟩) 1 1) (w.alloc (.cells #[.slice q l c,.int .u8 f] 108)):=wP 30 108 1 2 #[(0,.agg #[.slice q l c,.int .u8 f])] #[.slice q l c,.int .u8 f] (by kernel_rfl) (by kernel_rfl) (by kernel_rfl) (by omega) (by omega) (by kernel_rfl) (by kernel_rfl) w
theorem Zo {w:World} {L N:Nat} {tv:Value} {ps:List Nat} (h:w.ownsRow L 83 1 tv N (ps.map yV)):∃ q c,tv = .slice q N c∧(0<N→∃ g,q=some ⟨g,0,none⟩ ∧ g<w.heap.size∧tv.ownBlock=some g∧∀ (j p:Nat),ps[j]? = some p→w.cell? ⟨g,j,none⟩ = some (.pointer (some ⟨p,0,none⟩))):=by
 have hl:=h.1;rcases h.2 with ⟨e,e2⟩|⟨g,cap,cur,e,hb,hg,_⟩
 · exact⟨none,0,by rw[e,e2],fun h0=>by omega⟩
 · refine⟨_,_,e,fun h0=>⟨g,rfl,z8 hg,by rw[e];rfl,fun j p hj=>?_⟩⟩
   subst e;have hlt:=(List.getElem?_eq_some_iff.1 hj).1;rw[h.cellAt j (by rw[List.length_map]at hl;omega),List.getElem?_map,hj]
   rfl
def vG (w:World) (p:Nat):Value:=(w.cell? ⟨p,10,none⟩).getD undef
def seenCells (w:World) (ps:List Nat) (Ts:List TS):List Value:=(ps.zip Ts).flatMap fun x=>[vG w x.1,.int .u8 x.2.fin]
theorem Wy {w:World} {ps:List Nat} {Ts:List TS} {k p:Nat} {T:TS} (hp:ps[k]? = some p) (hT:Ts[k]? = some T):seenCells w (ps.take (k+1)) (Ts.take (k+1))=seenCells w (ps.take k) (Ts.take k)++[vG w p,.int .u8 T.fin]:=by
 obtain⟨h1,h1'⟩:=List.getElem?_eq_some_iff.1 hp;obtain⟨h2,h2'⟩:=List.getElem?_eq_some_iff.1 hT;unfold seenCells;rw[List.take_succ_eq_append_getElem h1,List.take_succ_eq_append_getElem h2,h1',h2',List.zip_append (by simp;omega),List.flatMap_append]
 rfl
def SeenE (ps:List Nat) (Ts:List TS) (w:World) (e:Ending) (w':World):Prop:=∃ sv,e = .returned sv∧Below w.heap.size w w'∧w'.ownsRow w.heap.size 108 2 sv Ts.length (seenCells w ps Ts)
theorem Zg (ow:Nat→Nat) (w:World) (b L:Nat) (gs:List Gr) (ps:List Nat) (s:RS) (v tv:Value) (h:qB ow w b gs ps s v) (hp:ps.length=gs.length) (hrow:w.ownsRow L 83 1 tv gs.length (ps.map yV)) (h4:gs.length≤4) :
 Calls Tryz.prog 24 #[tv] w (SeenE ps s.T w):=by
 obtain⟨q,c,rfl,hcell⟩:=Zo hrow;have htl:=h.tlen;obtain⟨N,hN⟩:∃ N,N=gs.length:=⟨_,rfl⟩
 rw[←hN]at h4 hcell htl hp ⊢;obtain⟨O,hO⟩:=Qq N (by omega);have hmk:=fun w=>(hO w).1
 have HEA:=hid h.each;have HGS:=hid hN;have HPL:=hid hp;have HTL:=hid htl;have HCE:=hid hcell;have HRW:=hid (hO w).2;have HB1:=hid ((Below.refl w.heap.size w).alloc (Nat.le_refl _) O);obtain⟨W1,hW1⟩:∃ W1,W1=w.alloc O:=⟨_,rfl⟩
 rw[←hW1]at HRW HB1;have HW1:=hid hW1;clear hO h hrow hcell htl hN hp hW1;go_enter Tryz.func24,Tryz.ntmps24;go_wp2_with fail;rw[←HW1.out]
 go_loopw [3,11] (fun sv q wr=>∃ k:Nat,k≤N∧q = .int .i64 k∧Below w.heap.size w wr∧Hid (wr.ownsRow w.heap.size 108 2 sv k (seenCells w (ps.take k) (s.T.take k)))) (fun _ q _=>N - (intOf q).toNat)
 case atStart=>exact⟨0,by omega,rfl,HB1.out,HRW⟩
 case round =>
  obtain⟨k,hkN,rfl,hBr,hD⟩:=hrel
  by_cases hlt:k<N
  · obtain⟨g0,rfl,hg0,-,hcl⟩:=HCE.out (by omega)
    obtain⟨p,hpk⟩:∃ p,ps[k]? = some p:=⟨_,List.getElem?_eq_getElem (by rw[HPL.out];exact hlt)⟩
    obtain⟨T,hTk⟩:∃ T,s.T[k]? = some T:=⟨_,List.getElem?_eq_getElem (by rw[HTL.out];exact hlt)⟩
    obtain⟨g,hgk⟩:∃ g,gs[k]? = some g:=⟨_,List.getElem?_eq_getElem (by rw[←HGS.out];exact hlt)⟩
    obtain⟨rs,us,ts,ws,ht⟩:=HEA.out k g T p hgk hTk hpk;have hlp:p<w.heap.size:=z8 ht.box;have hsr:=hBr.size;obtain⟨tq,tcap,hts⟩:=ht.told.form';have d10:=ht.cells.2.2.2.2.2.2.2.2.1;have d12:=ht.cells.2.2.2.2.2.2.2.2.2.2;have hto:vG w p=ts:=by unfold vG;rw[d10];rfl
    have d10:=(hBr.cell (p:=⟨p,10,none⟩) hlp).trans d10;have d12:=(hBr.cell (p:=⟨p,12,none⟩) hlp).trans d12;have hck:=(hBr.cell (p:=⟨g0,k,none⟩) hg0).trans (hcl k p hpk);have hsc:=Wy (w:=w) hpk hTk;rw[hto,hts]at hsc;rw[hts]at d10
    obtain⟨sq,scap,hsv⟩:∃ q c,u3 = .slice q k c:=by
     rcases hD.out.2 with ⟨e,e2⟩|⟨gg,cap,cur,e,_⟩
     · exact⟨none,0,by rw[e,e2]⟩
     · exact⟨_,_,e⟩
    subst hsv;obtain⟨f,hf⟩:∃ f,f=T.fin:=⟨_,rfl⟩
    obtain⟨nt,hnt⟩:∃ n,n=T.told.length:=⟨_,rfl⟩
    rw[←hf,←hnt]at hsc;rw[←hf]at d12;rw[←hnt]at d10;obtain⟨i,hi,hz,hs,hb⟩:=info_parts uC;have hlo:((wr.alloc (.cells #[.slice tq nt tcap,.int .u8 f] 108)).drew).ownsRow w.heap.size 108 2 (.slice sq k scap) k (seenCells w (ps.take k) (s.T.take k)):=(hD.out.alloc _).drew
    obtain⟨gq,cap,w4,hr,hown,hgrow,hat,-⟩:=run_append_lies (P:=Tryz.prog) ((wr.alloc (.cells #[.slice tq nt tcap,.int .u8 f] 108)).drew) 30 30 w.heap.size 108 i _ 2 32 Tryz.underlying30 hi hz hs hb rfl (by omega) (.slice sq k scap) k _ hlo
     ⟨wr.heap.size,0,none⟩ 1 1 [.slice tq nt tcap,.int .u8 f] rfl (World.news_of_block (MapKept.heap_alloc wr _).1) (by intro u hu;simp at hu;rcases hu with rfl|rfl <;> rfl) (by omega) (by unfold maxLen;omega) (by omega) (by show w.heap.size≤(wr.alloc _).heap.size;simp;omega) (wr.heap.size+1) (by show (wr.alloc _).heap.size=_;simp)
    have hlw:=hD.out.lt
    have hB4:Below w.heap.size w w4:=by
     have hba:=hBr.alloc hsr (.cells #[.slice tq nt tcap,.int .u8 f] 108);refine⟨hgrow.os.trans hba.os,hgrow.tape.trans hba.tape,hgrow.output.trans hba.output,Nat.le_trans hba.size hgrow.size,fun x hx=>(hgrow.block x (by show x<(wr.alloc _).heap.size;simp;omega) fun hq=>?_).trans (hba.block x hx)⟩;have:=(hlw x hq.symm).1;omega
    rw[←hsc]at hown
    have hsame:∀ x,x=p→w4.heap[x]? = wr.heap[x]?:=by
     rintro x rfl;refine (hgrow.block x (by show x<(wr.alloc _).heap.size;simp;omega) fun hq=>?_).trans (Below.heap_alloc wr _ x (by omega));have:=(hlw x hq.symm).1;omega
    have HS:=hid hsame;have HR:=hid hr;have HF:=hid (show k+1≤N∧Below w.heap.size w w4∧Hid (w4.ownsRow w.heap.size 108 2 (.slice (some ⟨gq,0,none⟩) (k+1) cap) (k+1) (seenCells w (ps.take (k+1)) (s.T.take (k+1))))from⟨hlt,hB4,hid hown⟩);have e7:=zH 108 #[(0,.slice tq nt tcap),(1,.int .u8 f)] #[.slice tq nt tcap,.int .u8 f] (by kernel_rfl);have e9:=Y1;have hgw:g0<wr.heap.size:=by omega
    have hpw:p<wr.heap.size:=by omega
    clear hBr hD hpk hTk hgk ht hts hto hcl hsc hf hnt hi hz hs hb hlo hr hown hgrow hat hlw hB4 hsr hsame;go_wp2_with fail;refine wp_region_held_drew (S:=zn (fun x=>x=p∨x=p) wr) (by kernel_rfl) (zn.drew _ _) (fun hSw=>?_);refine tH 0 (.slice sq k scap) hSw ?_;(try simp only[nS]);refine tH 1 (.pointer (some ⟨p,0,none⟩)) hSw ?_;(try simp only[nS]);refine tH 2 (.pointer (some ⟨p,0,none⟩)) hSw ?_;(try simp only[nS]);refine tH 3 (.pointer (some ⟨p,10,none⟩)) hSw ?_;(try simp only[nS]);refine tG 4 (.slice tq nt tcap) hSw (fun W hW=>?_) ?_
    · have d10:=hW.cell (by dsimp only;omega) d10
      first|(go_simp;done)|rfl
    (try simp only[nS]);refine tH 5 (.pointer (some ⟨p,0,none⟩)) hSw ?_;(try simp only[nS]);refine tH 6 (.pointer (some ⟨p,0,none⟩)) hSw ?_;(try simp only[nS]);refine tH 7 (.pointer (some ⟨p,12,none⟩)) hSw ?_;(try simp only[nS]);refine tG 8 (.int .u8 f) hSw (fun W hW=>?_) ?_
    · have d12:=hW.cell (by dsimp only;omega) d12
      first|(go_simp;done)|rfl
    (try simp only[nS]);refine tH 9 (.agg #[.slice tq nt tcap,.int .u8 f]) hSw ?_;(try simp only[nS]);refine tR 10 (fun K hK=>?_);clear hSw;go_simp;refine hK.out _ _ (fun x hx=>Below.heap_alloc wr _ x (by omega)) (fun hSw=>?_);clear hK K;(try simp only[nS]);refine tR 11 (fun K hK=>?_);clear hSw;refine Lib.wp_append_run _ _ _ _ _ rfl _ _ rfl rfl _ w4 HR.out ?_;refine hK.out _ _ (fun x hx=>HS.out x (by omega)) (fun hSw=>?_);clear hK K;(try simp only[nS]);refine tH 12 (.slice (some ⟨gq,0,none⟩) (k+1) cap) hSw ?_;(try simp only[nS]);refine wpAnyH_done (by kernel_rfl) ?_ _;go_wp2_with fail;go_roundw
    case rel=>exact⟨k+1,HF.out.1,by go_num,HF.out.2.1,HF.out.2.2⟩
    case measure=>simp[intOf];omega
  · have hk:k=N:=by omega
    subst hk;have HD:=hid hD.out;have HBR:=hid hBr;clear hBr hD;go_wp2_with fail;go_ret;have h:=HD.out;rw[show ps.take k=ps by rw[←HPL.out];exact List.take_length,show s.T.take k=s.T by rw[←HTL.out];exact List.take_length]at h;exact⟨u3,rfl,HBR.out,by rw[HTL.out];exact h⟩
def yg (L:List (Value × Int)):List Value:=L.flatMap fun x=>[x.1,.int .u8 x.2]
theorem Wz {L:List (Value × Int)} {k:Nat} {x:Value × Int} (h:L[k]? = some x):yg (L.take (k+1))=yg (L.take k)++[x.1,.int .u8 x.2]:=by
 obtain⟨h1,h1'⟩:=List.getElem?_eq_some_iff.1 h;unfold yg;rw[List.take_succ_eq_append_getElem h1,h1',List.flatMap_append]
 rfl
def z3n (L:List (Value × Int)) (NT:Nat) (w:World) (e:Ending) (w':World):Prop:=∃ sv,e = .returned sv∧Below w.heap.size w w'∧w'.ownsRow w.heap.size 108 2 sv NT (yg L)
theorem Vf {w:World} {b:Nat} {wd n:Int} {tv v:Value} {st:Bool} {tb NT tc:Nat} {tq:Option Addr} (hbox:w.heap[b]? = some (.cells #[.int .i64 wd,tv,v,.slice tq NT tc,.int .i64 n,.bool st] 98 (0,0))) (htq:0<NT→tq=some ⟨tb,0,none⟩ ∧ tb<w.heap.size) (h4:NT≤1000) {L:List (Value × Int)} (hL:L.length=NT)
 (hc:∀ i x,L[i]? = some x→(∃ q l c,x.1 = .slice q l c)∧w.cell? ⟨tb,i*6+4,none⟩ = some x.1∧w.cell? ⟨tb,i*6+5,none⟩ = some (.int .u8 x.2)) :
 Calls Tryz.prog 26 #[.pointer (some ⟨b,0,none⟩)] w (z3n L NT w):=by
 have HBX:=hid hbox;have HTQ:=hid htq;have HL:=hid hL;have HC:=hid hc;have hlb:=z8 hbox;clear hbox htq hL hc;go_enter Tryz.func26,Tryz.ntmps26;go_wp2_with fail
 go_loopw [3,4] (fun sv q wr=>∃ k:Nat,k≤NT∧q = .int .i64 k∧Below w.heap.size w wr∧Hid (wr.ownsRow w.heap.size 108 2 sv k (yg (L.take k)))) (fun _ q _=>NT - (intOf q).toNat)
 case atStart=>exact⟨0,by omega,rfl,Below.refl _ _,hid (World.ownsRow_nil w _ _ _)⟩
 case round =>
  obtain⟨k,hkN,rfl,hBr,hD⟩:=hrel;have k3:=zh ((hBr.block b hlb).trans HBX.out) 3 _ rfl;have hlbr:=Nat.lt_of_lt_of_le hlb hBr.size
  by_cases hlt:k<NT
  · obtain⟨rfl,htb⟩:=HTQ.out (by omega)
    obtain⟨x,hxk⟩:∃ x,L[k]? = some x:=⟨_,List.getElem?_eq_getElem (by rw[HL.out];exact hlt)⟩
    obtain⟨⟨oq,nt,oc,hx1⟩,d4,d5⟩:=HC.out k x hxk;obtain⟨xv,f⟩:=x;simp only at hx1;subst hx1;have hsr:=hBr.size;have d4:=(hBr.cell (p:=⟨tb,k*6+4,none⟩) htb).trans d4;have d5:=(hBr.cell (p:=⟨tb,k*6+5,none⟩) htb).trans d5;simp only at d4 d5;have hsc:=Wz hxk
    obtain⟨sq,scap,hsv⟩:∃ q c,u3 = .slice q k c:=by
     rcases hD.out.2 with ⟨e,e2⟩|⟨gg,cap,cur,e,_⟩
     · exact⟨none,0,by rw[e,e2]⟩
     · exact⟨_,_,e⟩
    subst hsv;obtain⟨i,hi,hz,hs,hb⟩:=info_parts uC;have hlo:((wr.alloc (.cells #[.slice oq nt oc,.int .u8 f] 108)).drew).ownsRow w.heap.size 108 2 (.slice sq k scap) k (yg (L.take k)):=(hD.out.alloc _).drew
    obtain⟨gq,cap,w4,hr,hown,hgrow,hat,-⟩:=run_append_lies (P:=Tryz.prog) ((wr.alloc (.cells #[.slice oq nt oc,.int .u8 f] 108)).drew) 30 30 w.heap.size 108 i _ 2 32 Tryz.underlying30 hi hz hs hb rfl (by omega) (.slice sq k scap) k _ hlo
     ⟨wr.heap.size,0,none⟩ 1 1 [.slice oq nt oc,.int .u8 f] rfl (World.news_of_block (MapKept.heap_alloc wr _).1) (by intro u hu;simp at hu;rcases hu with rfl|rfl <;> rfl) (by omega) (by unfold maxLen;omega) (by omega) (by show w.heap.size≤(wr.alloc _).heap.size;simp;omega) (wr.heap.size+1) (by show (wr.alloc _).heap.size=_;simp)
    have hlw:=hD.out.lt
    have hB4:Below w.heap.size w w4:=by
     have hba:=hBr.alloc hsr (.cells #[.slice oq nt oc,.int .u8 f] 108);refine⟨hgrow.os.trans hba.os,hgrow.tape.trans hba.tape,hgrow.output.trans hba.output,Nat.le_trans hba.size hgrow.size,fun x hx=>(hgrow.block x (by show x<(wr.alloc _).heap.size;simp;omega) fun hq=>?_).trans (hba.block x hx)⟩;have:=(hlw x hq.symm).1;omega
    simp only at hsc;rw[←hsc]at hown
    have hsame:∀ x,x<w.heap.size→w4.heap[x]? = wr.heap[x]?:=by
     intro x hx;refine (hgrow.block x (by show x<(wr.alloc _).heap.size;simp;omega) fun hq=>?_).trans (Below.heap_alloc wr _ x (by omega));have:=(hlw x hq.symm).1;omega
    have HS:=hid hsame;have HR:=hid hr;have HF:=hid (show k+1≤NT∧Below w.heap.size w w4∧Hid (w4.ownsRow w.heap.size 108 2 (.slice (some ⟨gq,0,none⟩) (k+1) cap) (k+1) (yg (L.take (k+1))))from⟨hlt,hB4,hid hown⟩);have e7:=zH 108 #[(0,.slice oq nt oc),(1,.int .u8 f)] #[.slice oq nt oc,.int .u8 f] (by kernel_rfl);have e9:=Y1;have htw:tb<wr.heap.size:=by omega
    have hlx:∀ x,(x=b∨x=tb)→x<w.heap.size:=by rintro x (rfl|rfl) <;> assumption
    have HLX:=hid hlx;have HSR:=hid hsr;clear hBr hD hxk hsc hi hz hs hb hlo hr hown hgrow hat hlw hB4 hsr hsame hlx;go_wp2_with fail;refine wp_region_held_drew (S:=zn (fun x=>x=b∨x=tb) wr) (by kernel_rfl) (zn.drew _ _) (fun hSw=>?_);refine tH 0 (.slice sq k scap) hSw ?_;(try simp only[nS]);refine tH 1 (.pointer (some ⟨b,0,none⟩)) hSw ?_;(try simp only[nS]);refine tH 2 (.pointer (some ⟨b,0,none⟩)) hSw ?_;(try simp only[nS]);refine tH 3 (.pointer (some ⟨b,0+3,none⟩)) hSw ?_;(try simp only[nS]);refine tG 4 (.slice (some ⟨tb,0,none⟩) NT tc) hSw (fun W hW=>?_) ?_
    · have k3:=hW.cell (by dsimp only;omega) k3
      first|(go_simp;done)|rfl
    (try simp only[nS]);refine tH 5 (.int .i64 (k:Int)) hSw ?_;(try simp only[nS]);refine tH 6 (.pointer (some ⟨tb,k*6,none⟩)) hSw ?_;(try simp only[nS]);refine tH 7 (.pointer (some ⟨tb,k*6+4,none⟩)) hSw ?_;(try simp only[nS]);refine tG 8 (.slice oq nt oc) hSw (fun W hW=>?_) ?_
    · have d4:=hW.cell (by dsimp only;omega) d4
      first|(go_simp;done)|rfl
    (try simp only[nS]);refine tH 9 (.pointer (some ⟨b,0,none⟩)) hSw ?_;(try simp only[nS]);refine tH 10 (.pointer (some ⟨b,0,none⟩)) hSw ?_;(try simp only[nS]);refine tH 11 (.pointer (some ⟨b,0+3,none⟩)) hSw ?_;(try simp only[nS]);refine tG 12 (.slice (some ⟨tb,0,none⟩) NT tc) hSw (fun W hW=>?_) ?_
    · have k3:=hW.cell (by dsimp only;omega) k3
      first|(go_simp;done)|rfl
    (try simp only[nS]);refine tH 13 (.int .i64 (k:Int)) hSw ?_;(try simp only[nS]);refine tH 14 (.pointer (some ⟨tb,k*6,none⟩)) hSw ?_;(try simp only[nS]);refine tH 15 (.pointer (some ⟨tb,k*6+5,none⟩)) hSw ?_;(try simp only[nS]);refine tG 16 (.int .u8 f) hSw (fun W hW=>?_) ?_
    · have d5:=hW.cell (by dsimp only;omega) d5
      first|(go_simp;done)|rfl
    (try simp only[nS]);refine tH 17 (.agg #[.slice oq nt oc,.int .u8 f]) hSw ?_;(try simp only[nS]);refine tR 18 (fun K hK=>?_);clear hSw;go_simp;refine hK.out _ _ (fun x hx=>Below.heap_alloc wr _ x (by have h1:=HLX.out x hx;have h2:=HSR.out;omega)) (fun hSw=>?_);clear hK K;(try simp only[nS]);refine tR 19 (fun K hK=>?_);clear hSw;refine Lib.wp_append_run _ _ _ _ _ rfl _ _ rfl rfl _ w4 HR.out ?_;refine hK.out _ _ (fun x hx=>HS.out x (HLX.out x hx)) (fun hSw=>?_);clear hK K;(try simp only[nS]);refine tH 20 (.slice (some ⟨gq,0,none⟩) (k+1) cap) hSw ?_;(try simp only[nS]);refine wpAnyH_done (by kernel_rfl) ?_ _;go_wp2_with fail;go_roundw
    case rel=>exact⟨k+1,HF.out.1,by go_num,HF.out.2.1,HF.out.2.2⟩
    case measure=>simp[intOf];omega
  · have hk:k=NT:=by omega
    subst hk;have HD:=hid hD.out;have HBR:=hid hBr;clear hBr hD;go_wp2_with fail;go_ret;have h:=HD.out;rw[show L.take k=L by rw[←HL.out];exact List.take_length]at h;exact⟨u3,rfl,HBR.out,h⟩
def zV (W:Int) (l:List Gr) (np:Nat) (fuel:Int):Int:=if (xW W l).2.2≠0 then 14 else if fuel<1 then 1 else if 65536<np∨1048576<fuel then 3 else 0
theorem WZ (B:Nat) (c:Cd) (w:World) (pq:Option Addr) (np pc:Nat) (fuel:Int) (hI:CIn w B c) (hBw:B≤w.heap.size) (hnp:np≤140737488351232) (hf:-9223372036854775808≤fuel∧fuel≤9223372036854775807) :
 Calls Tryz.prog 20 #[.agg #[.int .i64 c.words,c.tv],.slice pq np pc,.int .i64 fuel] w fun e w'=>e = .returned (.int .i64 (zV c.words c.threads np fuel))∧Below w.heap.size w w':=by
 obtain⟨Y,hY⟩:∃ Y,Y=zV c.words c.threads np fuel:=⟨_,rfl⟩
 rw[←hY];unfold zV at hY;obtain⟨W0,hW0⟩:∃ W0,W0=w.alloc (.cells #[.int .i64 c.words,c.tv] 24):=⟨_,rfl⟩
 have hB0:Below w.heap.size w W0:=by rw[hW0];exact ze w _
 have hG0:W0.heap[w.heap.size]? = some (.cells #[.int .i64 c.words,c.tv] 24 (0,0)):=by rw[hW0];exact (MapKept.heap_alloc _ _).1
 have HC:=hid (z16 B c W0 (hI.keeps (hB0.mono hBw)) (Nat.le_trans hBw hB0.size));obtain⟨⟨t,⟨a,k⟩,er⟩,hr⟩:∃ r,xW c.words c.threads=r:=⟨_,rfl⟩
 rw[hr]at HC hY;obtain⟨bo,bcp,eb,-,-⟩:=hI.tlies.form;obtain⟨q0,q1⟩:=zt hG0;have HB0:=hid hB0;have HW0:=hid hW0;rw[hW0]at q0 q1;rw[eb]at HC q1 HW0;rw[eb];have hck:ckV (t,(a,k),er) = .tuple #[.int .i64 (t:Int),.agg #[.int .i64 (a:Int),.int .i64 (k:Int)],.int .i64 er]:=rfl;rw[hck]at HC;rw[eb]at q0;clear hI hB0 hG0 hW0 hr eb hck;have hor:er≠0∨(er=0∧fuel<1)∨(er=0 ∧ ¬ fuel<1∧65536<np)∨(er=0 ∧ ¬ fuel<1 ∧ ¬ 65536<np∧1048576<fuel)∨(er=0 ∧ ¬ fuel<1 ∧ ¬ 65536<np ∧ ¬ 1048576<fuel):=by omega
 rcases hor with he|⟨rfl,h1⟩|⟨rfl,h1,h2⟩|⟨rfl,h1,h2,h3⟩|⟨rfl,h1,h2,h3⟩
 · have hy:Y=14:=by rw[hY,if_pos he]
   have he1:(er != 0)=true:=by simp only[bne_iff_ne,ne_eq];exact he
   subst hy;clear hY he;go_enter Tryz.func20,Tryz.ntmps20;go_wp2_with fail;rw[←HW0.out];refine HC.out.mono ?_;rintro e w2 ⟨rfl,hb2⟩;have HB2:=hid (HB0.out.trans (hb2.mono HB0.out.size));have HB3:=hid (HB2.out.trans ((ze w2 (.cells #[.int .i64 (a:Int),.int .i64 (k:Int)] 92)).mono HB2.out.size));clear hb2 q0 q1;go_wp2_with fail;go_ret;exact⟨rfl,HB3.out⟩
 all_goals
  have hy:Y=zV c.words c.threads np fuel→True:=fun _=>trivial
  have hz:=hY;simp only[ne_eq,not_true_eq_false,if_false]at hz
  first
   | (have h9:fuel<1:=by omega
      rw[if_pos h9]at hz)
   | (have h9:¬ fuel<1:=by omega
      have h8:65536<np∨1048576<fuel:=by omega
      rw[if_neg h9,if_pos h8]at hz)
   | (have h9:¬ fuel<1:=by omega
      have h8:¬ (65536<np∨1048576<fuel):=by omega
      rw[if_neg h9,if_neg h8]at hz)
  subst hz;clear hY hy
  try clear h8
  try clear h9
  go_enter Tryz.func20,Tryz.ntmps20;go_wp2_with fail;rw[←HW0.out];refine HC.out.mono ?_;rintro e w2 ⟨rfl,hb2⟩;have HB2:=hid (HB0.out.trans (hb2.mono HB0.out.size));have HB3:=hid (HB2.out.trans ((ze w2 (.cells #[.int .i64 (a:Int),.int .i64 (k:Int)] 92)).mono HB2.out.size));clear hb2 q0 q1;go_wp2_with fail;go_ret;exact⟨rfl,HB3.out⟩
end
open Go Go.Lib Go.RowKit
theorem Zm (gs:List Gr) (ps:List Int) (p:Int) (s s':RS) (h:zz gs ps s=(s',false)):zz gs (ps++[p]) s=zz gs [p] s':=by
 rw[Zn,h]
 rfl
theorem WW (gs:List Gr) (ps qs:List Int) (s s':RS) (h:zz gs ps s=(s',true)):zz gs (ps++qs) s=(s',true):=by
 rw[Zn,h]
 rfl
theorem WU (gs:List Gr) (p:Int) (s:RS) (h:p<0∨(gs.length:Int)≤p):zz gs [p] s=(s,false):=by
 rw[zz,if_pos h]
 rfl
theorem WV (gs:List Gr) (p:Nat) (s:RS) (g:Gr) (T:TS) (hg:gs[p]? = some g) (hT:s.T[p]? = some T) :
 zz gs [(p:Int)] s=(⟨(zA g s.n s.W T).1,(zA g s.n s.W T).2.1,s.T.set p (zA g s.n s.W T).2.2.1⟩,!(zA g s.n s.W T).2.2.2):=by
 have hlt:=(List.getElem?_eq_some_iff.1 hg).1;rw[zz,if_neg (by omega),Int.toNat_natCast,hg,hT];dsimp only;cases (zA g s.n s.W T).2.2.2
 · rfl
 · rfl
def kY (b:Bk):Bk:={ b with ins:=b.ins.map yF }
def plGr (a:Gr):Gr:={ a with blocks:=a.blocks.map kY }
theorem wI {α:Type} {cells:α→List Value} {kc:Nat} (hc:∀ a,(cells a).length=kc) {w:World} {B g cap:Nat} {E:TypeId} {R:Array Value} {l:List α} {t:List Value} (h:w.heap[g]? = some (.cells R E (0,0))) (hR:R.toList=l.flatMap cells++t) (hg:g<B) (hl:l.length≤140737488351232) :
 zB cells kc w B (.slice (some ⟨g,0,none⟩) l.length cap) l:=by
 refine⟨_,cap,rfl,hl,.inr ⟨g,0,rfl,hg,fun i x hx j u hu=>?_⟩⟩;rw[Lib.cell_of_heap h,Nat.zero_add,←Array.getElem?_toList,hR];exact jH hc l t i x hx j u hu
theorem jf {l m:List Gr} (h:Gr.bares m=Gr.bares l):m.length=l.length:=by
 have:=congrArg List.length h
 simpa[Gr.bares]using this
theorem YZ {l m:List Gr} (h:Gr.bares m=Gr.bares l) {i:Nat} {a b:Gr} (ha:l[i]? = some a) (hb:m[i]? = some b):b.bare=a.bare:=by
 have h1:(Gr.bares m)[i]? = some b.bare:=by unfold Gr.bares;rw[List.getElem?_map,hb];rfl
 have h2:(Gr.bares l)[i]? = some a.bare:=by unfold Gr.bares;rw[List.getElem?_map,ha];rfl
 rw[h,h2]at h1;exact (Option.some.inj h1).symm
theorem z2m {a b:Gr} (h:b.bare=a.bare) (hs:GSm a):GSm b:=by
 simp only[Gr.bare,Prod.mk.injEq]at h;obtain⟨h1,-,h3⟩:=h;have hl:b.blocks.length=a.blocks.length:=by have:=congrArg List.length h3;simpa[Bk.bares]using this
 refine⟨by rw[h1];exact hs.1,by rw[hl];exact hs.2.1,fun x hx=>?_⟩;obtain⟨k,hk,rfl⟩:=List.getElem_of_mem hx;have h4:(Bk.bares b.blocks)[k]? = some (b.blocks[k]).bare:=by unfold Bk.bares;rw[List.getElem?_map,List.getElem?_eq_getElem hk];rfl
 have hka:k<a.blocks.length:=by rw[←hl];exact hk
 have h5:(Bk.bares a.blocks)[k]? = some (a.blocks[k]).bare:=by unfold Bk.bares;rw[List.getElem?_map,List.getElem?_eq_getElem hka];rfl
 rw[h3,h5]at h4;have h6:=Option.some.inj h4;simp only[Bk.bare,Prod.mk.injEq]at h6;rw[←h6.1];exact hs.2.2 _ (List.getElem_mem hka)
theorem Wp {l m:List Gr} (h:Gr.bares m=Gr.bares l) (hs:l.length≤262144∧∀ a ∈ l,GSm a):m.length≤262144∧∀ a ∈ m,GSm a:=by
 have hl:=jf h;refine⟨by rw[hl];exact hs.1,fun b hb=>?_⟩;obtain⟨i,hi,rfl⟩:=List.getElem_of_mem hb;have hil:i<l.length:=by rw[←hl];exact hi
 exact z2m (YZ h (List.getElem?_eq_getElem hil) (List.getElem?_eq_getElem hi)) (hs.2 _ (List.getElem_mem hil))
theorem Zz {l m:List Gr} (h:Gr.bares m=Gr.bares l):L2 GR l (m.map plGr):=by
 refine L2.of_get (by rw[List.length_map,jf h]) fun i a b ha hb=>?_
 rw[List.getElem?_map]at hb;obtain⟨b0,hb0,rfl⟩:=Option.map_eq_some_iff.1 hb;have hbare:=YZ h ha hb0;simp only[Gr.bare,Prod.mk.injEq]at hbare;obtain⟨h1,h2,h3⟩:=hbare;have hl:b0.blocks.length=a.blocks.length:=by have:=congrArg List.length h3;simpa[Bk.bares]using this
 refine⟨h1,h2,L2.of_get (by show (b0.blocks.map kY).length=_;rw[List.length_map,hl]) fun k x y hx hy=>?_⟩;have hy2:(b0.blocks.map kY)[k]? = some y:=hy;rw[List.getElem?_map]at hy2;obtain⟨y0,hy0,rfl⟩:=Option.map_eq_some_iff.1 hy2;have h4:(Bk.bares b0.blocks)[k]? = some y0.bare:=by unfold Bk.bares;rw[List.getElem?_map,hy0];rfl
 have h5:(Bk.bares a.blocks)[k]? = some x.bare:=by unfold Bk.bares;rw[List.getElem?_map,hx];rfl
 rw[h3,h5]at h4;have h6:=Option.some.inj h4;simp only[Bk.bare,Prod.mk.injEq]at h6;obtain⟨e1,e2,e3,e4,e5⟩:=h6;exact⟨by show y0.ins.map yF=x.ins.map yF;rw[e1],e2.symm,e3.symm,e4.symm,e5.symm⟩
