import Derived.Test.YtlboinokdhmacaaGreatDoorCdEnd
import Derived.Laws.AppendOwnNone
namespace Go.Proofs.YtlboinokdhmacaaGreatDoor
set_option maxHeartbeats 64000000
set_option maxRecDepth 1000000
open Lib(hid)
section
open Go.RowKit
attribute [local go_sem ↓] zL zJ
def xh (x:Int):List Value:=[.int .i64 x]
def xB (w:World) (sv:Value) (Ts:List TS):Prop:=∃ L cs,w.ownsRow L 108 2 sv Ts.length cs∧∀ (i:Nat) T,Ts[i]? = some T→∃ tv,cs[i*2]? = some tv∧cs[i*2+1]? = some (.int .u8 T.fin)∧zI (fun _=>0) w 0 tv T.told
theorem Zi (w:World):∀ (ps:List Nat) (Ts:List TS) (i p:Nat) (T:TS),ps[i]? = some p→Ts[i]? = some T→(seenCells w ps Ts)[i*2]? = some (vG w p)∧(seenCells w ps Ts)[i*2+1]? = some (.int .u8 T.fin):=by
 intro ps;induction ps with
 | nil=>intro Ts i p T h;simp at h
 | cons q ps ih =>
  intro Ts i p T h1 h2;cases Ts with
  | nil=>simp at h2
  | cons S Ts =>
   have e:seenCells w (q :: ps) (S :: Ts)=vG w q :: .int .u8 S.fin :: seenCells w ps Ts:=rfl;rw[e];cases i with
   | zero=>simp at h1 h2;subst h1 h2;exact⟨rfl,rfl⟩
   | succ i =>
    obtain⟨a,b⟩:=ih Ts i p T (by simpa using h1) (by simpa using h2);rw[show (i+1)*2=i*2+1+1 by omega];exact⟨by simpa using a,by simpa using b⟩
structure Std (ow:Nat→Nat) (a b:World):Prop where
 os:b.os=a.os
 tape:b.tape=a.tape
 output:b.output=a.output
 size:a.heap.size≤b.heap.size
 block:∀ k,k<a.heap.size→ow k=0∨ow k=3→b.heap[k]? = a.heap[k]?
theorem Std.refl (ow:Nat→Nat) (a:World):Std ow a a:=⟨rfl,rfl,rfl,Nat.le_refl _,fun _ _ _=>rfl⟩
theorem Std.leap {ow ow2:Nat→Nat} {a b c:World} {j:Nat} (h:Std ow a b) (he:Ext ow ow2 a) (k:Kp ow2 j b c):Std ow a c:=
 ⟨k.os.trans h.os,k.tape.trans h.tape,k.output.trans h.output,Nat.le_trans h.size k.size,fun x hx hl=>(k.block x (Nat.lt_of_lt_of_le hx h.size) (by rw[he x hx];unfold Mine;omega)).trans (h.block x hx hl)⟩
theorem Std.low {ow:Nat→Nat} {L:Nat} {w a b:World} (h:Std ow a b) (hb:Below L w a) (hL:L≤a.heap.size) (h0:∀ k,k<L→ow k=0):Below L w b:=
 ⟨h.os.trans hb.os,h.tape.trans hb.tape,h.output.trans hb.output,Nat.le_trans hb.size h.size,fun k hk=>(h.block k (by omega) (.inl (h0 k hk))).trans (hb.block k hk)⟩
theorem ZB {ow:Nat→Nat} {a b:World} {L n size:Nat} {e:TypeId} {v:Value} {xs:List Value} (h:a.ownsRow L e size v n xs) (hs:Std ow a b) (hl:∀ q,v.ownBlock=some q→ow q=3):b.ownsRow L e size v n xs:=by
 refine⟨h.1, ?_⟩;rcases h.2 with hn|⟨g,cap,cur,rfl,hb,hg,rest⟩
 · exact .inl hn
 · exact .inr ⟨g,cap,cur,rfl,hb,(hs.block g (z8 hg) (.inr (hl g rfl))).trans hg,rest⟩
theorem Q3 {N n b s:Nat} {w w':World} {gs:List Gr} (hN:1≤N) (hN2:N≤65537) (hn:n≤1048576) (hb:w.heap.size≤b) (hs:w.heap.size≤s) (hbs:b≠s)
 (h1:w'.heap[b]? = some (.cells (wK (.slice (some ⟨s,0,none⟩) N N) n false) 90 (0,0))) (h2:w'.heap[s]? = some (.cells (wds (List.replicate N 0)).toArray 2 (0,0))) :
 ∃ ow:Nat→Nat,WAt ow w' b (RS0 ((N:Int) - 1) gs n).W n (.slice (some ⟨s,0,none⟩) N N)∧∀ k,k<w.heap.size→ow k=0:=by
 have hw:((N:Int) - 1).toNat+1=N:=by omega
 have hl:(RS0 ((N:Int) - 1) gs n).W.words=List.replicate N 0:=by simp only[RS0];rw[hw]
 refine⟨fun x=>if x=b then 1 else if x=s then 2 else 0,⟨h1, ?_,by simp,fun k hk=>by cases hk;simp[Ne.symm hbs],hn,by rw[hl];simp;omega⟩,fun k hk=>by simp[show k≠b by omega,show k≠s by omega]⟩;rw[hl];refine⟨by simp[wds],.inr ⟨s,N,_,by simp,Nat.zero_le _,h2,by simp,by unfold maxLen;omega,by simp[wds],by simp[wds]⟩⟩
theorem vT {fn:Func} {p u:Tmp} (h:fn.results=#[.cell p 32,.tmp u]) (tmps:Array Value) (w:World) (g:Nat) (a b c x:Value) (hp:tmps.getD p undef = .pointer (some ⟨g,0,none⟩)) (hu:tmps.getD u undef=x) (hr:w.heap[g]? = some (.cells #[a,b,c] 32 (0,0))) :
 (results fn tmps).run Tryz.prog w = .ok (.tuple #[.agg #[a,b,c],x]) w:=by
 rw[←hu];have h2:=run_loadVar_row (P:=Tryz.prog) w g 32 32 #[a,b,c] (0,0) ((Tryz.prog.underlying 32).getD (.array 0 0)) hr (by kernel_rfl) (by kernel_rfl) (by kernel_rfl);rw[results_cell_tmp h,hp];show ((loadVar 32 ⟨g,0,none⟩).run Tryz.prog w).andThen _=_
 rw[h2]
 rfl
theorem vI {w:World} {b:Nat} {T:TypeId} {fr:Nat × Nat} {x y z:Value} (h:w.heap[b]? = some (.cells #[x,y,z] T fr)) (u v t:Value):(((w.setCell ⟨b,0,none⟩ u).setCell ⟨b,1,none⟩ v).setCell ⟨b,2,none⟩ t).heap[b]? = some (.cells #[u,v,t] T fr):=by
 rw[qQ (qQ (qQ h 0 u) 1 v) 2 t];rfl
theorem xU {w:World} {g:Nat} {a b c:Value} {T:TypeId} {fr:Nat × Nat} (h:w.heap[g]? = some (.cells #[a,b,c] T fr)):w.cell? ⟨g,0,none⟩ = some a∧w.cell? ⟨g,1,none⟩ = some b∧w.cell? ⟨g,2,none⟩ = some c:=⟨zh h 0 _ rfl,zh h 1 _ rfl,zh h 2 _ rfl⟩
theorem run_end {ow:Nat→Nat} {wx w9 w10:World} {b rb:Nat} {gs:List Gr} {ps:List Nat} {s:RS} {v sv:Value} (h:qB ow wx b gs ps s v) (hpl:ps.length=gs.length) (hb:Below wx.heap.size wx w9) (hown:w9.ownsRow wx.heap.size 108 2 sv s.T.length (seenCells wx ps s.T))
 (hrb:rb<wx.heap.size) (hor:ow rb=0) (hsz:w9.heap.size≤w10.heap.size) (hos:w10.os=w9.os∧w10.tape=w9.tape∧w10.output=w9.output) (h10:∀ k,k≠rb→w10.heap[k]? = w9.heap[k]?):xB w10 sv s.T:=by
 have hbut:But ow [0] wx w10:=⟨hos.1.trans hb.os,hos.2.1.trans hb.tape,hos.2.2.trans hb.output,Nat.le_trans hb.size hsz,fun k hk hl=>(h10 k (by rintro rfl;exact hl (by simp[hor]))).trans (hb.block k hk)⟩
 refine⟨wx.heap.size,_,⟨hown.1, ?_⟩,fun i T hT=>?_⟩
 · rcases hown.2 with hn|⟨g,cap,cur,e,hg0,hg,rest⟩
   · exact .inl hn
   · exact .inr ⟨g,cap,cur,e,hg0,(h10 g (by omega)).trans hg,rest⟩
 · have hi:i<gs.length:=by rw[←h.tlen];exact (List.getElem?_eq_some_iff.1 hT).1
   obtain⟨p,hp⟩:∃ p,ps[i]? = some p:=⟨_,List.getElem?_eq_getElem (by omega)⟩
   obtain⟨rs,us,ts,ws,ht⟩:=h.each i gs[i] T p (List.getElem?_eq_getElem hi) hT hp;obtain⟨c1,c2⟩:=Zi wx ps s.T i p T hp hT;have hto:vG wx p=ts:=by unfold vG;rw[ht.cells.2.2.2.2.2.2.2.2.1];rfl
   rw[hto]at c1;refine⟨ts,c1,c2, ?_⟩;rcases ht.told.keeps hbut (.refl _ _) (by simp)with q|⟨g,off,cap,cur,q1,q2,-,q4⟩
   · exact .inl q
   · exact .inr ⟨g,off,cap,cur,q1,q2,rfl,q4⟩
def jO (c:Cd) (picks:List Int) (fuel:Int) (w:World) (e:Ending) (w':World):Prop:=
 Below w.heap.size w w'∧((zV c.words c.threads picks.length fuel≠0∧e = .returned (.tuple #[.agg #[.slice none 0 0,.bool false,.bool false],.int .i64 (zV c.words c.threads picks.length fuel)])) ∨
  (zV c.words c.threads picks.length fuel=0∧∃ q cap,e = .returned (.tuple #[.agg #[.slice q c.threads.length cap,.bool (zz c.threads picks (RS0 c.words c.threads fuel.toNat)).2,.bool (zz c.threads picks (RS0 c.words c.threads fuel.toNat)).1.W.strange],.int .i64 0]) ∧
   xB w' (.slice q c.threads.length cap) (zz c.threads picks (RS0 c.words c.threads fuel.toNat)).1.T))
end
section
open Go.RowKit
def qK (B:Nat) (w:World) (sv:Value) (Ts:List TS):Prop:=∃ cs ow,w.ownsRow B 108 2 sv Ts.length cs∧(∀ k,k<B→ow k=0)∧(∀ k,sv.ownBlock=some k→ow k=0) ∧
 ∀ (i:Nat) T,Ts[i]? = some T→∃ tv,cs[i*2]? = some tv∧cs[i*2+1]? = some (.int .u8 T.fin)∧zI ow w (13+8*i) tv T.told
theorem Zk {ow:Nat→Nat} {B:Nat} {wx w9 w10:World} {b rb:Nat} {gs:List Gr} {ps:List Nat} {s:RS} {v sv:Value} (h:qB ow wx b gs ps s v) (hpl:ps.length=gs.length) (hb:Below wx.heap.size wx w9) (hown:w9.ownsRow wx.heap.size 108 2 sv s.T.length (seenCells wx ps s.T))
 (hrb:rb<wx.heap.size) (hor:ow rb=0) (hsz:w9.heap.size≤w10.heap.size) (hos:w10.os=w9.os∧w10.tape=w9.tape∧w10.output=w9.output) (h10:∀ k,k≠rb→w10.heap[k]? = w9.heap[k]?) (hB:B≤wx.heap.size) (hlow:∀ k,k<B→ow k=0):qK B w10 sv s.T:=by
 have hbut:But ow [0] wx w10:=⟨hos.1.trans hb.os,hos.2.1.trans hb.tape,hos.2.2.trans hb.output,Nat.le_trans hb.size hsz,fun k hk hl=>(h10 k (by rintro rfl;exact hl (by simp[hor]))).trans (hb.block k hk)⟩
 refine⟨_,fun k=>if k<wx.heap.size then ow k else 0,⟨hown.1, ?_⟩,fun k hk=>?_,fun k hk=>?_,fun i T hT=>?_⟩
 · rcases hown.2 with hn|⟨g,cap,cur,e,hg0,hg,rest⟩
   · exact .inl hn
   · exact .inr ⟨g,cap,cur,e,Nat.le_trans hB hg0,(h10 g (by omega)).trans hg,rest⟩
 · simp only
   rw[if_pos (Nat.lt_of_lt_of_le hk hB)];exact hlow k hk
 · simp only
   rcases hown.2 with ⟨hn,-⟩|⟨g,cap,cur,e,hg0,-⟩
   · rw[hn]at hk;cases hk
   · rw[e]at hk
     have e2:g=k:=by simpa[Value.ownBlock]using hk
     have h2:¬ k<wx.heap.size:=by omega
     exact if_neg h2
 · have hi:i<gs.length:=by rw[←h.tlen];exact (List.getElem?_eq_some_iff.1 hT).1
   obtain⟨p,hp⟩:∃ p,ps[i]? = some p:=⟨_,List.getElem?_eq_getElem (by omega)⟩
   obtain⟨rs,us,ts,ws,ht⟩:=h.each i gs[i] T p (List.getElem?_eq_getElem hi) hT hp;obtain⟨c1,c2⟩:=Zi wx ps s.T i p T hp hT;have hto:vG wx p=ts:=by unfold vG;rw[ht.cells.2.2.2.2.2.2.2.2.1];rfl
   rw[hto]at c1;refine⟨ts,c1,c2, ?_⟩;rcases ht.told.keeps hbut (.refl _ _) (by simp)with q|⟨g,off,cap,cur,q1,q2,q3,q4⟩
   · exact .inl q
   · refine .inr ⟨g,off,cap,cur,q1,q2, ?_,q4⟩
     simp only;rw[if_pos]
     · exact q3
     · rcases ht.told with ⟨e,-⟩|⟨g',off',cap',cur',e,hg',-⟩
       · rw[e]at q1;cases q1
       · rw[e]at q1;cases q1;exact z8 hg'
def RunF (c:Cd) (picks:List Int) (fuel:Int) (w:World) (e:Ending) (w':World):Prop:=
 Below w.heap.size w w'∧((zV c.words c.threads picks.length fuel≠0∧e = .returned (.tuple #[.agg #[.slice none 0 0,.bool false,.bool false],.int .i64 (zV c.words c.threads picks.length fuel)])) ∨
  (zV c.words c.threads picks.length fuel=0∧∃ q cap,e = .returned (.tuple #[.agg #[.slice q c.threads.length cap,.bool (zz c.threads picks (RS0 c.words c.threads fuel.toNat)).2,.bool (zz c.threads picks (RS0 c.words c.threads fuel.toNat)).1.W.strange],.int .i64 0]) ∧
   xB w' (.slice q c.threads.length cap) (zz c.threads picks (RS0 c.words c.threads fuel.toNat)).1.T∧qK w.heap.size w' (.slice q c.threads.length cap) (zz c.threads picks (RS0 c.words c.threads fuel.toNat)).1.T))
end
open Go.RowKit
attribute [local go_sem ↓] zL zJ
def Rd (w:World) (v:Value) (l:List Int):Prop:=∃ q c,v = .slice q l.length c∧l.length≤9223372036854775807∧((q=none∧c=0∧l=[])∨∃ g off,q=some ⟨g,off,none⟩ ∧ g<w.heap.size∧l.length≤c∧c≤9223372036854775807∧∀ (i:Nat) x,l[i]? = some x→w.cell? ⟨g,off+i,none⟩ = some (.int .i64 x))
theorem zI.rd {ow:Nat→Nat} {w:World} {lab:Nat} {v:Value} {l:List Int} (h:zI ow w lab v l):Rd w v l:=by
 rcases h with ⟨rfl,rfl⟩|⟨g,off,cap,cur,rfl,hg,-,h1,h2,h3,h4⟩
 · exact⟨none,0,rfl,by simp,.inl ⟨rfl,rfl,rfl⟩⟩
 · have hm:maxLen=9223372036854775807:=by decide
   exact⟨_,_,rfl,by omega,.inr ⟨g,off,rfl,z8 hg,h1,by omega,fun i x hx=>by rw[Lib.cell_of_heap hg];exact h4 i x hx⟩⟩
theorem Rd.below {w w':World} {v:Value} {l:List Int} (h:Rd w v l) (hb:Below w.heap.size w w'):Rd w' v l:=by
 obtain⟨q,c,e,hl,h⟩:=h;refine⟨q,c,e,hl, ?_⟩;rcases h with h|⟨g,off,e2,hg,h1,h2,h3⟩
 · exact .inl h
 · exact .inr ⟨g,off,e2,Nat.lt_of_lt_of_le hg hb.size,h1,h2,fun i x hx=>(hb.cell (p:=⟨g,off+i,none⟩) hg).trans (h3 i x hx)⟩
theorem Rd.cut {w:World} {v:Value} {l:List Int} (h:Rd w v l) (m:Nat) (hm:m≤l.length):∃ v',Rd w v' (l.take m)∧∀ w1:World,(Instr.sliceAt 85 v none (some (.int .i64 (m:Int))) none).run Tryz.prog w1 = .ok v' w1:=by
 obtain⟨q,c,rfl,hl,h⟩:=h;have hlen:(l.take m).length=m:=by rw[List.length_take];omega
 have hs:∀ w1:World,(sizeOf 2).run Tryz.prog w1 = .ok 1 w1:=fun w1=>by kernel_rfl
 rcases h with ⟨rfl,rfl,rfl⟩|⟨g,off,rfl,hg,h1,h2,h3⟩
 · have hm0:m=0:=by simpa using hm
   subst hm0;refine⟨.slice none 0 0,⟨none,0,rfl,by simp,.inl ⟨rfl,rfl,rfl⟩⟩,fun w1=>?_⟩
   have hb:(Instr.sliceBounds true 0 0 none (some (.int .i64 ((0:Nat):Int))) none).run Tryz.prog w1 = .ok (0,0,0) w1:=by
    have e1:=run_sliceBound (P:=Tryz.prog) w1 .i64 (0:Int) 0 .sliceAcap (by omega) (by omega);simp[Instr.sliceBounds]at e1 ⊢;simp[e1,Result.andThen]
   simp only[Instr.sliceAt,Instr.slice,Sem.run_bind,run_underlying Tryz.underlying85,Result.andThen,List.length_nil,hb,hs];simp
 · refine⟨.slice (some ⟨g,off,none⟩) m c,⟨_,c,by rw[hlen],by omega,.inr ⟨g,off,rfl,hg,by omega,h2,fun i x hx=>?_⟩⟩,fun w1=>?_⟩
   · rw[List.getElem?_take]at hx
     split at hx
     · exact h3 i x hx
     · cases hx
   · have hb:(Instr.sliceBounds true l.length c none (some (.int .i64 (m:Int))) none).run Tryz.prog w1 = .ok (0,m,c) w1:=by
      have e1:=run_sliceBound (P:=Tryz.prog) w1 .i64 (m:Int) c .sliceAcap (by omega) (by omega);rw[Int.toNat_natCast]at e1;simp[Instr.sliceBounds,e1,Result.andThen]
     simp only[Instr.sliceAt,Instr.slice,Sem.run_bind,run_underlying Tryz.underlying85,Result.andThen,hb,hs]
     by_cases hc:c=0
     · simp[hc,Addr.add]
     · simp[hc,Addr.add]
theorem Zu {w:World} {q:Option Addr} {c n:Nat} {l:List Int} (h:Rd w (.slice q n c) l) (i:Nat) (x:Int) (hx:l[i]? = some x):∃ g off,q=some ⟨g,off,none⟩ ∧ g<w.heap.size∧w.cell? ⟨g,off+i,none⟩ = some (.int .i64 x):=by
 obtain⟨q',c',e,-,h⟩:=h;cases e;rcases h with ⟨-,-,rfl⟩|⟨g,off,rfl,hg,-,-,h3⟩
 · simp at hx
 · exact⟨g,off,rfl,hg,h3 i x hx⟩
theorem kU (l:List Int) (va vb:Value) (w:World) (h1:Rd w va l) (h2:Rd w vb l) :
 Calls Tryz.prog 114 #[va,vb] w fun e w'=>e = .returned (.bool true)∧Below w.heap.size w w':=by
 obtain⟨qa,ca,rfl,hl,-⟩:=id h1;obtain⟨qb,cb,rfl,-,-⟩:=id h2;have H1:=hid h1;have H2:=hid h2;obtain⟨N,hN⟩:∃ N,N=l.length:=⟨_,rfl⟩
 rw[←hN]at H1 H2 hl ⊢;have HN:=hid hN;clear h1 h2 hN;go_enter Tryz.func114,Tryz.ntmps114;go_wp2_with fail
 go_loopw [13] (fun q wr=>∃ k:Nat,k≤N∧q = .int .i64 (k:Int)∧Below w.heap.size w wr) (fun q _=>N - (intOf q).toNat)
 case atStart=>exact⟨0,by omega,rfl,Below.refl _ _⟩
 case round =>
  obtain⟨k,hkN,rfl,hB⟩:=hrel
  by_cases hlt:k<N
  · obtain⟨x,hx⟩:∃ x,l[k]? = some x:=⟨_,List.getElem?_eq_getElem (by rw[←HN.out];exact hlt)⟩
    obtain⟨ga,oa,rfl,hga,ca0⟩:=Zu H1.out k x hx;obtain⟨gb,ob,rfl,hgb,cb0⟩:=Zu H2.out k x hx;have ca0:=(hB.cell (p:=⟨ga,oa+k,none⟩) hga).trans ca0;have cb0:=(hB.cell (p:=⟨gb,ob+k,none⟩) hgb).trans cb0;have hsz:=hB.size;have hga2:ga<wr.heap.size:=by omega
    have hgb2:gb<wr.heap.size:=by omega
    have HB:=hid hB;clear hx hB;go_wp2_with fail;refine wp_region_held_drew (S:=zn (fun x=>x=ga∨x=gb) wr) (by kernel_rfl) (zn.drew _ _) (fun hSw=>?_);refine tH 0 (.slice (some ⟨ga,oa,none⟩) N ca) hSw ?_;(try simp only[nS]);refine tH 1 (.int .i64 (k:Int)) hSw ?_;(try simp only[nS]);refine tH 2 (.pointer (some ⟨ga,oa+k,none⟩)) hSw ?_;(try simp only[nS]);refine tG 3 (.int .i64 x) hSw (fun W hW=>?_) ?_
    · have ca0:=hW.cell (by dsimp only;omega) ca0
      first|(go_simp;done)|rfl
    (try simp only[nS]);refine tH 4 (.slice (some ⟨gb,ob,none⟩) N cb) hSw ?_;(try simp only[nS]);refine tH 5 (.int .i64 (k:Int)) hSw ?_;(try simp only[nS]);refine tH 6 (.pointer (some ⟨gb,ob+k,none⟩)) hSw ?_;(try simp only[nS]);refine tG 7 (.int .i64 x) hSw (fun W hW=>?_) ?_
    · have cb0:=hW.cell (by dsimp only;omega) cb0
      first|(go_simp;done)|rfl
    (try simp only[nS]);refine tH 8 (.bool false) hSw ?_;(try simp only[nS]);refine wpAnyH_done (by kernel_rfl) ?_ _;go_wp2_with fail;go_roundw
    case rel=>exact⟨k+1,hlt,by go_num,below_drewN' HB.out⟩
    case measure=>simp[intOf];omega
  · have HB:=hid hB
    clear hB;go_wp2_with fail;go_ret;exact⟨rfl,HB.out⟩
theorem xB.read {w:World} {sv:Value} {Ts:List TS} (h:xB w sv Ts):∃ q c,sv = .slice q Ts.length c∧(0<Ts.length→∃ g,q=some ⟨g,0,none⟩ ∧ g<w.heap.size∧∀ (i:Nat) T,Ts[i]? = some T→∃ tq tc,w.cell? ⟨g,i*2,none⟩ = some (.slice tq T.told.length tc)∧w.cell? ⟨g,i*2+1,none⟩ = some (.int .u8 T.fin)∧Rd w (.slice tq T.told.length tc) T.told):=by
 obtain⟨L,cs,hown,hat⟩:=h;have hl:=hown.1;rcases hown.2 with ⟨e,e2⟩|⟨g,cap,cur,e,hb,hg,_⟩
 · exact⟨none,0,by rw[e,e2],fun h0=>by omega⟩
 · refine⟨_,_,e,fun h0=>⟨g,rfl,z8 hg,fun i T hT=>?_⟩⟩
   subst e;have hlt:=(List.getElem?_eq_some_iff.1 hT).1;obtain⟨tv,c1,c2,ht⟩:=hat i T hT;obtain⟨tq,tc,e,hh⟩:=ht.rd;have hrd:Rd w tv T.told:=⟨tq,tc,e,hh⟩
   subst e;exact⟨tq,tc,(hown.cellAt _ (by omega)).trans c1,(hown.cellAt _ (by omega)).trans c2,hrd⟩
theorem xB.below {w w':World} {sv:Value} {Ts:List TS} (h:xB w sv Ts) (hb:Below w.heap.size w w'):xB w' sv Ts:=by
 obtain⟨L,cs,hown,hat⟩:=h;refine⟨L,cs,⟨hown.1, ?_⟩,fun i T hT=>?_⟩
 · rcases hown.2 with hn|⟨g,cap,cur,e,hg0,hg,rest⟩
   · exact .inl hn
   · exact .inr ⟨g,cap,cur,e,hg0,(hb.block g (z8 hg)).trans hg,rest⟩
 · obtain⟨tv,c1,c2,ht⟩:=hat i T hT
   exact⟨tv,c1,c2,ht.keeps (But.of (ls:=[]) hb) (.refl _ _) (by simp)⟩
def jh (w:World) (B:Nat) (v:Value) (l:List Int):Prop:=zB xh 1 w B v l∧(∀ x ∈ l,-9223372036854775808≤x∧x≤9223372036854775807)∧(v = .slice none 0 0∨∃ a n c,v = .slice (some a) n c)
theorem jh.below {w w':World} {B:Nat} {v:Value} {l:List Int} (h:jh w B v l) (hb:Below B w w'):jh w' B v l:=⟨h.1.below hb,h.2⟩
theorem Ku:(Tryz.prog.info? 3).map (fun i=>(i.zero,i.size,i.bytes))=some (some (.int .i64 0),1,8):=by kernel_rfl
theorem vJ {α:Type} {cells:α→List Value} {kc:Nat} {w:World} {B:Nat} {q:Option Addr} {n c:Nat} {l:List α} (h:zB cells kc w B (.slice q n c) l) (i:Nat) (x:α) (hx:l[i]? = some x) :
 ∃ g off,q=some ⟨g,off,none⟩ ∧ g<B∧∀ j u,(cells x)[j]? = some u→w.cell? ⟨g,off+i*kc+j,none⟩ = some u:=by
 obtain⟨ao,cap,e,-,h⟩:=h;cases e;rcases h with rfl|⟨g,off,rfl,hg,h3⟩
 · simp at hx
 · exact⟨g,off,rfl,hg,fun j u hu=>by rw[Nat.add_assoc];exact h3 i x hx j u hu⟩
theorem WJ (l:List Int) (B:Nat) (va vb:Value) (w:World) (h1:zB xh 1 w B va l) (h2:zB xh 1 w B vb l) (hBw:B≤w.heap.size) :
 Calls Tryz.prog 112 #[va,vb] w fun e w'=>e = .returned (.bool true)∧Below w.heap.size w w':=by
 obtain⟨qa,ca,rfl,hl,-⟩:=h1.form;obtain⟨qb,cb,rfl,-,-⟩:=h2.form;have H1:=hid h1;have H2:=hid h2;obtain⟨N,hN⟩:∃ N,N=l.length:=⟨_,rfl⟩
 rw[←hN]at H1 H2 hl ⊢;have HN:=hid hN;clear h1 h2 hN;go_enter Tryz.func112,Tryz.ntmps112;go_wp2_with fail
 go_loopw [13] (fun q wr=>∃ k:Nat,k≤N∧q = .int .i64 (k:Int)∧Below w.heap.size w wr) (fun q _=>N - (intOf q).toNat)
 case atStart=>exact⟨0,by omega,rfl,Below.refl _ _⟩
 case round =>
  obtain⟨k,hkN,rfl,hB⟩:=hrel
  by_cases hlt:k<N
  · obtain⟨x,hx⟩:∃ x,l[k]? = some x:=⟨_,List.getElem?_eq_getElem (by rw[←HN.out];exact hlt)⟩
    obtain⟨ga,oa,rfl,hga,ra⟩:=vJ H1.out k x hx;obtain⟨gb,ob,rfl,hgb,rb⟩:=vJ H2.out k x hx;have hsz:=hB.size;rw[Nat.mul_one]at ra rb;have ca0:=(hB.cell (p:=⟨ga,oa+k,none⟩) (by show ga<w.heap.size;omega)).trans (ra 0 _ rfl);have cb0:=(hB.cell (p:=⟨gb,ob+k,none⟩) (by show gb<w.heap.size;omega)).trans (rb 0 _ rfl);have hga2:ga<wr.heap.size:=by omega
    have hgb2:gb<wr.heap.size:=by omega
    have HB:=hid hB;clear hx hB ra rb;go_wp2_with fail;refine wp_region_held_drew (S:=zn (fun x=>x=ga∨x=gb) wr) (by kernel_rfl) (zn.drew _ _) (fun hSw=>?_);refine tH 0 (.slice (some ⟨ga,oa,none⟩) N ca) hSw ?_;(try simp only[nS]);refine tH 1 (.int .i64 (k:Int)) hSw ?_;(try simp only[nS]);refine tH 2 (.pointer (some ⟨ga,oa+k,none⟩)) hSw ?_;(try simp only[nS]);refine tG 3 (.int .i64 x) hSw (fun W hW=>?_) ?_
    · have ca0:=hW.cell (by dsimp only;omega) ca0
      first|(go_simp;done)|rfl
    (try simp only[nS]);refine tH 4 (.slice (some ⟨gb,ob,none⟩) N cb) hSw ?_;(try simp only[nS]);refine tH 5 (.int .i64 (k:Int)) hSw ?_;(try simp only[nS]);refine tH 6 (.pointer (some ⟨gb,ob+k,none⟩)) hSw ?_;(try simp only[nS]);refine tG 7 (.int .i64 x) hSw (fun W hW=>?_) ?_
    · have cb0:=hW.cell (by dsimp only;omega) cb0
      first|(go_simp;done)|rfl
    (try simp only[nS]);refine tH 8 (.bool false) hSw ?_;(try simp only[nS]);refine wpAnyH_done (by kernel_rfl) ?_ _;go_wp2_with fail;go_roundw
    case rel=>exact⟨k+1,hlt,by go_num,⟨HB.out.os,HB.out.tape,HB.out.output,HB.out.size,HB.out.block⟩⟩
    case measure=>simp[intOf];omega
  · go_wp2_with fail
    go_ret;exact⟨rfl,hB⟩
theorem WL (l:List Bool) (B:Nat) (va vb:Value) (w:World) (h1:zB xL 1 w B va l) (h2:zB xL 1 w B vb l) (hBw:B≤w.heap.size) :
 Calls Tryz.prog 223 #[va,vb] w fun e w'=>e = .returned (.bool true)∧Below w.heap.size w w':=by
 obtain⟨qa,ca,rfl,hl,-⟩:=h1.form;obtain⟨qb,cb,rfl,-,-⟩:=h2.form;have H1:=hid h1;have H2:=hid h2;obtain⟨N,hN⟩:∃ N,N=l.length:=⟨_,rfl⟩
 rw[←hN]at H1 H2 hl ⊢;have HN:=hid hN;clear h1 h2 hN;go_enter Tryz.func223,Tryz.ntmps223;go_wp2_with fail
 go_loopw [13] (fun q wr=>∃ k:Nat,k≤N∧q = .int .i64 (k:Int)∧Below w.heap.size w wr) (fun q _=>N - (intOf q).toNat)
 case atStart=>exact⟨0,by omega,rfl,Below.refl _ _⟩
 case round =>
  obtain⟨k,hkN,rfl,hB⟩:=hrel
  by_cases hlt:k<N
  · obtain⟨x,hx⟩:∃ x,l[k]? = some x:=⟨_,List.getElem?_eq_getElem (by rw[←HN.out];exact hlt)⟩
    obtain⟨ga,oa,rfl,hga,ra⟩:=vJ H1.out k x hx;obtain⟨gb,ob,rfl,hgb,rb⟩:=vJ H2.out k x hx;have hsz:=hB.size;rw[Nat.mul_one]at ra rb;have ca0:=(hB.cell (p:=⟨ga,oa+k,none⟩) (by show ga<w.heap.size;omega)).trans (ra 0 _ rfl);have cb0:=(hB.cell (p:=⟨gb,ob+k,none⟩) (by show gb<w.heap.size;omega)).trans (rb 0 _ rfl);have hga2:ga<wr.heap.size:=by omega
    have hgb2:gb<wr.heap.size:=by omega
    have HB:=hid hB;clear hx hB ra rb;go_wp2_with fail;refine wp_region_held_drew (S:=zn (fun x=>x=ga∨x=gb) wr) (by kernel_rfl) (zn.drew _ _) (fun hSw=>?_);refine tH 0 (.slice (some ⟨ga,oa,none⟩) N ca) hSw ?_;(try simp only[nS]);refine tH 1 (.int .i64 (k:Int)) hSw ?_;(try simp only[nS]);refine tH 2 (.pointer (some ⟨ga,oa+k,none⟩)) hSw ?_;(try simp only[nS]);refine tG 3 (.bool x) hSw (fun W hW=>?_) ?_
    · have ca0:=hW.cell (by dsimp only;omega) ca0
      first|(go_simp;done)|rfl
    (try simp only[nS]);refine tH 4 (.slice (some ⟨gb,ob,none⟩) N cb) hSw ?_;(try simp only[nS]);refine tH 5 (.int .i64 (k:Int)) hSw ?_;(try simp only[nS]);refine tH 6 (.pointer (some ⟨gb,ob+k,none⟩)) hSw ?_;(try simp only[nS]);refine tG 7 (.bool x) hSw (fun W hW=>?_) ?_
    · have cb0:=hW.cell (by dsimp only;omega) cb0
      first|(go_simp;done)|rfl
    (try simp only[nS]);refine tH 8 (.bool false) hSw ?_;(try simp only[nS]);refine wpAnyH_done (by kernel_rfl) ?_ _;go_wp2_with fail;go_roundw
    case rel=>exact⟨k+1,hlt,by go_num,⟨HB.out.os,HB.out.tape,HB.out.output,HB.out.size,HB.out.block⟩⟩
    case measure=>simp[intOf];omega
  · go_wp2_with fail
    go_ret;exact⟨rfl,hB⟩
theorem WK (l:List In) (B:Nat) (va vb:Value) (w:World) (h1:zB In.cells 6 w B va l) (h2:zB In.cells 6 w B vb l) (hBw:B≤w.heap.size) :
 Calls Tryz.prog 259 #[va,vb] w fun e w'=>e = .returned (.bool true)∧Below w.heap.size w w':=by
 obtain⟨qa,ca,rfl,hl,-⟩:=h1.form;obtain⟨qb,cb,rfl,-,-⟩:=h2.form;have H1:=hid h1;have H2:=hid h2;obtain⟨N,hN⟩:∃ N,N=l.length:=⟨_,rfl⟩
 rw[←hN]at H1 H2 hl ⊢;have HN:=hid hN;clear h1 h2 hN;go_enter Tryz.func259,Tryz.ntmps259;go_wp2_with fail
 go_loopw [13] (fun q wr=>∃ k:Nat,k≤N∧q = .int .i64 (k:Int)∧Below w.heap.size w wr) (fun q _=>N - (intOf q).toNat)
 case atStart=>exact⟨0,by omega,rfl,Below.refl _ _⟩
 case round =>
  obtain⟨k,hkN,rfl,hB⟩:=hrel
  by_cases hlt:k<N
  · obtain⟨x,hx⟩:∃ x,l[k]? = some x:=⟨_,List.getElem?_eq_getElem (by rw[←HN.out];exact hlt)⟩
    obtain⟨ga,oa,rfl,hga,ra⟩:=vJ H1.out k x hx;obtain⟨gb,ob,rfl,hgb,rb⟩:=vJ H2.out k x hx;have hsz:=hB.size;obtain⟨xk,xo,xa,xb,xc,xn⟩:=x;have ca0:=(hB.cell (p:=⟨ga,oa+k*6,none⟩) (by show ga<w.heap.size;omega)).trans (ra 0 _ rfl);have ca1:=(hB.cell (p:=⟨ga,oa+k*6+1,none⟩) (by show ga<w.heap.size;omega)).trans (ra 1 _ rfl);have ca2:=(hB.cell (p:=⟨ga,oa+k*6+2,none⟩) (by show ga<w.heap.size;omega)).trans (ra 2 _ rfl);have ca3:=(hB.cell (p:=⟨ga,oa+k*6+3,none⟩) (by show ga<w.heap.size;omega)).trans (ra 3 _ rfl);have ca4:=(hB.cell (p:=⟨ga,oa+k*6+4,none⟩) (by show ga<w.heap.size;omega)).trans (ra 4 _ rfl);have ca5:=(hB.cell (p:=⟨ga,oa+k*6+5,none⟩) (by show ga<w.heap.size;omega)).trans (ra 5 _ rfl);have cb0:=(hB.cell (p:=⟨gb,ob+k*6,none⟩) (by show gb<w.heap.size;omega)).trans (rb 0 _ rfl);have cb1:=(hB.cell (p:=⟨gb,ob+k*6+1,none⟩) (by show gb<w.heap.size;omega)).trans (rb 1 _ rfl);have cb2:=(hB.cell (p:=⟨gb,ob+k*6+2,none⟩) (by show gb<w.heap.size;omega)).trans (rb 2 _ rfl);have cb3:=(hB.cell (p:=⟨gb,ob+k*6+3,none⟩) (by show gb<w.heap.size;omega)).trans (rb 3 _ rfl);have cb4:=(hB.cell (p:=⟨gb,ob+k*6+4,none⟩) (by show gb<w.heap.size;omega)).trans (rb 4 _ rfl);have cb5:=(hB.cell (p:=⟨gb,ob+k*6+5,none⟩) (by show gb<w.heap.size;omega)).trans (rb 5 _ rfl);have hga2:ga<wr.heap.size:=by omega
    have hgb2:gb<wr.heap.size:=by omega
    have HB:=hid hB;clear hx hB ra rb;go_wp2_with fail;refine wp_region_held_drew (S:=zn (fun x=>x=ga∨x=gb) wr) (by kernel_rfl) (zn.drew _ _) (fun hSw=>?_);refine tH 0 (.slice (some ⟨ga,oa,none⟩) N ca) hSw ?_;(try simp only[nS]);refine tH 1 (.int .i64 (k:Int)) hSw ?_;(try simp only[nS]);refine tH 2 (.pointer (some ⟨ga,oa+k*6,none⟩)) hSw ?_;(try simp only[nS]);refine tG 3 (.agg #[.int .u8 xk,.int .u8 xo,.int .i64 xa,.int .i64 xb,.int .i64 xc,.int .i64 xn]) hSw (fun W hW=>?_) ?_
    · have ca0:=hW.cell (by dsimp only;omega) ca0
      have ca1:=hW.cell (by dsimp only;omega) ca1;have ca2:=hW.cell (by dsimp only;omega) ca2;have ca3:=hW.cell (by dsimp only;omega) ca3;have ca4:=hW.cell (by dsimp only;omega) ca4;have ca5:=hW.cell (by dsimp only;omega) ca5
      first|(go_simp;done)|rfl
    (try simp only[nS]);refine tH 4 (.slice (some ⟨gb,ob,none⟩) N cb) hSw ?_;(try simp only[nS]);refine tH 5 (.int .i64 (k:Int)) hSw ?_;(try simp only[nS]);refine tH 6 (.pointer (some ⟨gb,ob+k*6,none⟩)) hSw ?_;(try simp only[nS]);refine tG 7 (.agg #[.int .u8 xk,.int .u8 xo,.int .i64 xa,.int .i64 xb,.int .i64 xc,.int .i64 xn]) hSw (fun W hW=>?_) ?_
    · have cb0:=hW.cell (by dsimp only;omega) cb0
      have cb1:=hW.cell (by dsimp only;omega) cb1;have cb2:=hW.cell (by dsimp only;omega) cb2;have cb3:=hW.cell (by dsimp only;omega) cb3;have cb4:=hW.cell (by dsimp only;omega) cb4;have cb5:=hW.cell (by dsimp only;omega) cb5
      first|(go_simp;done)|rfl
    (try simp only[nS]);refine tH 8 (.bool false) hSw ?_;(try simp only[nS]);refine wpAnyH_done (by kernel_rfl) ?_ _;go_wp2_with fail;go_roundw
    case rel=>exact⟨k+1,hlt,by go_num,⟨HB.out.os,HB.out.tape,HB.out.output,HB.out.size,HB.out.block⟩⟩
    case measure=>simp[intOf];omega
  · go_wp2_with fail
    go_ret;exact⟨rfl,hB⟩
theorem ym {α:Type} {cells:α→List Value} {kc:Nat} (hc:∀ a,(cells a).length=kc) {w:World} {g:Nat} {E:TypeId} {R:Array Value} {l:List α} {t:List Value} (h:w.heap[g]? = some (.cells R E (0,0))) (hR:R.toList=l.flatMap cells++t) (j:Nat) (u:Value) (hu:t[j]? = some u):w.cell? ⟨g,l.length*kc+j,none⟩ = some u:=by
 rw[Lib.cell_of_heap h,←Array.getElem?_toList,hR,List.getElem?_append_right (by rw[wB hc l];omega),wB hc l,Nat.add_sub_cancel_left];exact hu
theorem vY (a:Int):(xh a).length=1:=rfl
theorem Qk (n:Nat) (h:n≤1000000) (w:World):Calls Tryz.prog 19 #[.int .i64 (n:Int)] w fun e w'=>e = .returned (.int .i64 (-1000 - (n:Int)))∧Below w.heap.size w w':=by
 go_enter Tryz.func19,Tryz.ntmps19;go_wp2_with fail;go_ret;exact⟨rfl,Below.refl _ _⟩
theorem Yf (n:Nat) (h:n≤1000000) (w:World):Calls Tryz.prog 111 #[.int .i64 (-1000 - (n:Int)),.int .i64 (n:Int)] w fun e w'=>e = .returned (.bool true)∧Below w.heap.size w w':=by
 have HM:=hid (fun w=>Qk n h w);go_enter Tryz.func111,Tryz.ntmps111;go_wp2_with fail;refine (HM.out _).mono ?_;rintro e w' ⟨rfl,hb⟩;have HB:=hid hb;clear hb;go_wp2_with fail;go_ret;exact⟨rfl,HB.out⟩
theorem Yg (n:Nat) (h:n≤1000000) (w:World):Calls Tryz.prog 151 #[.agg #[.int .u8 99,.int .u8 0,.int .i64 (-1000 - (n:Int)),.int .i64 0,.int .i64 0,.int .i64 0],.int .i64 (n:Int)] w fun e w'=>e = .returned (.bool true)∧Below w.heap.size w w':=by
 obtain⟨W1,hW1⟩:∃ W1,W1=w.alloc (.cells #[.int .u8 99,.int .u8 0,.int .i64 (-1000 - (n:Int)),.int .i64 0,.int .i64 0,.int .i64 0] 159):=⟨_,rfl⟩
 have hb1:Below w.heap.size w W1:=by rw[hW1];exact ze w _
 have hx:W1.heap[w.heap.size]? = some (.cells #[.int .u8 99,.int .u8 0,.int .i64 (-1000 - (n:Int)),.int .i64 0,.int .i64 0,.int .i64 0] 159 (0,0)):=by rw[hW1];exact (MapKept.heap_alloc _ _).1
 obtain⟨x0,x1,x2,x3,x4,x5⟩:=zl hx;have hl:=z8 hx;have HM:=hid (fun u=>show Calls Tryz.prog 127 #[.int .i64 (n:Int)] u fun e w'=>e = .returned (.agg #[.int .u8 99,.int .u8 0,.int .i64 (-1000 - (n:Int)),.int .i64 0,.int .i64 0,.int .i64 0])∧Below u.heap.size u w' from um n h u);have HW1:=hid hW1;have HB1:=hid hb1;clear hW1 hb1 hx;go_enter Tryz.func151,Tryz.ntmps151;go_wp2_with fail;rw[←HW1.out];refine wp_region_held_drew (S:=zn (fun x=>x=w.heap.size) W1) (by kernel_rfl) (zn.drew _ _) (fun hSw=>?_);refine tG 0 (.agg #[.int .u8 99,.int .u8 0,.int .i64 (-1000 - (n:Int)),.int .i64 0,.int .i64 0,.int .i64 0]) hSw (fun W hW=>?_) ?_
 · have x0:=hW.cell (by first|rfl|omega|(dsimp only;omega)) x0
   have x1:=hW.cell (by first|rfl|omega|(dsimp only;omega)) x1;have x2:=hW.cell (by first|rfl|omega|(dsimp only;omega)) x2;have x3:=hW.cell (by first|rfl|omega|(dsimp only;omega)) x3;have x4:=hW.cell (by first|rfl|omega|(dsimp only;omega)) x4;have x5:=hW.cell (by first|rfl|omega|(dsimp only;omega)) x5
   first|(go_simp;done)|rfl
 (try simp only[nS]);refine tH 1 (.int .i64 (n:Int)) hSw ?_;(try simp only[nS]);refine tR 2 (fun K hK=>?_);clear hSw;go_simp;refine (HM.out _).mono ?_;rintro e w2 ⟨rfl,hb2⟩;have HB2:=hid hb2;clear hb2;refine hK.out _ _ (fun x hx=>(HB2.out.block x (by show x<W1.heap.size;omega)).trans rfl) (fun hSw=>?_);clear hK K;(try simp only[nS]);refine tH 3 (.bool true) hSw ?_;(try simp only[nS]);refine tH 4 (.bool true) hSw ?_;(try simp only[nS]);refine wpAnyH_done (by kernel_rfl) ?_ _;go_wp2_with fail;go_ret;exact⟨rfl,HB1.out.trans ((Below.drew (Below.refl _ _)).trans (HB2.out.mono (by exact HB1.out.size)))⟩
theorem Jz (l:List Int) (B g:Nat) (R:Array Value) (vb:Value) (w:World) (hg:w.heap[g]? = some (.cells R 3 (0,0))) (hR:R.toList=l.flatMap xh++([.int .i64 (-1000 - ((l.length:Nat):Int))]++[.int .i64 (-1000 - (((l.length+1):Nat):Int))])) (hgB:g<B) (h2:zB xh 1 w B vb l) (hBw:B≤w.heap.size) (hsm:l.length≤262144) :
 Calls Tryz.prog 14 #[.slice (some ⟨g,0,none⟩) l.length (l.length+2),vb] w fun e w'=>e = .returned (.bool true)∧Below w.heap.size w w':=by
 have h1:zB xh 1 w B (.slice (some ⟨g,0,none⟩) l.length (l.length+2)) l:=wI vY hg hR hgB (by omega);have HSA:=hid (fun (u:World) (hu:Below w.heap.size w u)=>WJ l B _ _ u (h1.below (hu.mono hBw)) (h2.below (hu.mono hBw)) (Nat.le_trans hBw hu.size));obtain⟨qb,cb,rfl,hl,-⟩:=h2.form;have m0:=ym vY hg hR 0 _ (by rfl);have n0:=ym vY hg hR 1 _ (by rfl);obtain⟨N,hN⟩:∃ N,N=l.length:=⟨_,rfl⟩
 rw[←hN]at HSA hl hsm m0 n0 ⊢;have m0:w.cell? ⟨g,N,none⟩ = some (.int .i64 (-1000 - (N:Int))):=by have h:=m0;simpa using h
 have n0:w.cell? ⟨g,N+1,none⟩ = some (.int .i64 (-1000 - ((N+1:Nat):Int))):=by have h:=n0;rw[show N*1+1=N+1 by omega]at h;exact h
 have hlg:=z8 hg;have HK1:=hid (fun w=>Yf N (by omega) w);have HK2:=hid (fun w=>Yf (N+1) (by omega) w);have N0:=hid n0;clear h1 h2 hg hR hN n0;go_enter Tryz.func14,Tryz.ntmps14;go_wp2_with fail;refine wp_loop_rounds 3 ?_;rw[rounds_succ];go_wp2_with fail;refine (HK1.out _).mono ?_;rintro e w1 ⟨rfl,hb1⟩;have n0:=(hb1.cell (p:=⟨g,N+1,none⟩) hlg).trans N0.out;have hlg1:=Nat.lt_of_lt_of_le hlg hb1.size;have HB1:=hid hb1;have hn1:((N+1:Nat):Int)=(N:Int)+1:=by omega
 clear hb1 m0;go_wp2_with fail;rw[rounds_succ];go_wp2_with fail;refine (HK2.out _).mono ?_;rintro e w2 ⟨rfl,hb2⟩;have HB2:=hid (HB1.out.trans (hb2.mono HB1.out.size));clear hb2 n0;go_wp2_with fail;rw[rounds_succ];go_wp2_with fail;refine (HSA.out _ HB2.out).mono ?_;rintro e w3 ⟨rfl,hb3⟩;have HB3:=hid (HB2.out.trans (hb3.mono HB2.out.size));clear hb3;go_wp2_with fail;go_ret;exact⟨rfl,HB3.out⟩
theorem JA (l:List In) (B g:Nat) (R:Array Value) (vb:Value) (w:World) (hg:w.heap[g]? = some (.cells R 159 (0,0))) (hR:R.toList=l.flatMap In.cells++(xw l.length++xw (l.length+1))) (hgB:g<B) (h2:zB In.cells 6 w B vb l) (hBw:B≤w.heap.size) (hsm:l.length≤262144) :
 Calls Tryz.prog 249 #[.slice (some ⟨g,0,none⟩) l.length (l.length+2),vb] w fun e w'=>e = .returned (.bool true)∧Below w.heap.size w w':=by
 have h1:zB In.cells 6 w B (.slice (some ⟨g,0,none⟩) l.length (l.length+2)) l:=wI xz hg hR hgB (by omega);have HSA:=hid (fun (u:World) (hu:Below w.heap.size w u)=>WK l B _ _ u (h1.below (hu.mono hBw)) (h2.below (hu.mono hBw)) (Nat.le_trans hBw hu.size));obtain⟨qb,cb,rfl,hl,-⟩:=h2.form;have m0:=ym xz hg hR 0 _ (by rfl);have m1:=ym xz hg hR 1 _ (by rfl);have m2:=ym xz hg hR 2 _ (by rfl);have m3:=ym xz hg hR 3 _ (by rfl);have m4:=ym xz hg hR 4 _ (by rfl);have m5:=ym xz hg hR 5 _ (by rfl);have n0:=ym xz hg hR 6 _ (by rfl);have n1:=ym xz hg hR 7 _ (by rfl);have n2:=ym xz hg hR 8 _ (by rfl);have n3:=ym xz hg hR 9 _ (by rfl);have n4:=ym xz hg hR 10 _ (by rfl);have n5:=ym xz hg hR 11 _ (by rfl);obtain⟨N,hN⟩:∃ N,N=l.length:=⟨_,rfl⟩
 rw[←hN]at HSA hl hsm m0 m1 m2 m3 m4 m5 n0 n1 n2 n3 n4 n5 ⊢;have m0:w.cell? ⟨g,N*6,none⟩ = some (.int .u8 99):=by have h:=m0;simpa using h
 have n0:w.cell? ⟨g,(N+1)*6,none⟩ = some (.int .u8 99):=by have h:=n0;rw[show N*6+6=(N+1)*6 by omega]at h;exact h
 have m1:w.cell? ⟨g,N*6+1,none⟩ = some (.int .u8 0):=by have h:=m1;simpa using h
 have n1:w.cell? ⟨g,(N+1)*6+1,none⟩ = some (.int .u8 0):=by have h:=n1;rw[show N*6+7=(N+1)*6+1 by omega]at h;exact h
 have m2:w.cell? ⟨g,N*6+2,none⟩ = some (.int .i64 (-1000 - (N:Int))):=by have h:=m2;simpa using h
 have n2:w.cell? ⟨g,(N+1)*6+2,none⟩ = some (.int .i64 (-1000 - ((N+1:Nat):Int))):=by have h:=n2;rw[show N*6+8=(N+1)*6+2 by omega]at h;exact h
 have m3:w.cell? ⟨g,N*6+3,none⟩ = some (.int .i64 0):=by have h:=m3;simpa using h
 have n3:w.cell? ⟨g,(N+1)*6+3,none⟩ = some (.int .i64 0):=by have h:=n3;rw[show N*6+9=(N+1)*6+3 by omega]at h;exact h
 have m4:w.cell? ⟨g,N*6+4,none⟩ = some (.int .i64 0):=by have h:=m4;simpa using h
 have n4:w.cell? ⟨g,(N+1)*6+4,none⟩ = some (.int .i64 0):=by have h:=n4;rw[show N*6+10=(N+1)*6+4 by omega]at h;exact h
 have m5:w.cell? ⟨g,N*6+5,none⟩ = some (.int .i64 0):=by have h:=m5;simpa using h
 have n5:w.cell? ⟨g,(N+1)*6+5,none⟩ = some (.int .i64 0):=by have h:=n5;rw[show N*6+11=(N+1)*6+5 by omega]at h;exact h
 have hlg:=z8 hg;have HK1:=hid (fun w=>Yg N (by omega) w);have HK2:=hid (fun w=>Yg (N+1) (by omega) w);have N0:=hid n0;have N1:=hid n1;have N2:=hid n2;have N3:=hid n3;have N4:=hid n4;have N5:=hid n5;clear h1 h2 hg hR hN n0 n1 n2 n3 n4 n5;go_enter Tryz.func249,Tryz.ntmps249;go_wp2_with fail;refine wp_loop_rounds 3 ?_;rw[rounds_succ];go_wp2_with fail;refine (HK1.out _).mono ?_;rintro e w1 ⟨rfl,hb1⟩;have n0:=(hb1.cell (p:=⟨g,(N+1)*6,none⟩) hlg).trans N0.out;have n1:=(hb1.cell (p:=⟨g,(N+1)*6+1,none⟩) hlg).trans N1.out;have n2:=(hb1.cell (p:=⟨g,(N+1)*6+2,none⟩) hlg).trans N2.out;have n3:=(hb1.cell (p:=⟨g,(N+1)*6+3,none⟩) hlg).trans N3.out;have n4:=(hb1.cell (p:=⟨g,(N+1)*6+4,none⟩) hlg).trans N4.out;have n5:=(hb1.cell (p:=⟨g,(N+1)*6+5,none⟩) hlg).trans N5.out;have hlg1:=Nat.lt_of_lt_of_le hlg hb1.size;have HB1:=hid hb1;have hn1:((N+1:Nat):Int)=(N:Int)+1:=by omega
 clear hb1 m0 m1 m2 m3 m4 m5;go_wp2_with fail;rw[rounds_succ];go_wp2_with fail;refine (HK2.out _).mono ?_;rintro e w2 ⟨rfl,hb2⟩;have HB2:=hid (HB1.out.trans (hb2.mono HB1.out.size));clear hb2 n0 n1 n2 n3 n4 n5;go_wp2_with fail;rw[rounds_succ];go_wp2_with fail;refine (HSA.out _ HB2.out).mono ?_;rintro e w3 ⟨rfl,hb3⟩;have HB3:=hid (HB2.out.trans (hb3.mono HB2.out.size));clear hb3;go_wp2_with fail;go_ret;exact⟨rfl,HB3.out⟩
theorem JD (l:List Bool) (B g:Nat) (R:Array Value) (vb:Value) (w:World) (hg:w.heap[g]? = some (.cells R 4 (0,0))) (hR:R.toList=l.flatMap xL++([.bool true]++[.bool false])) (hgB:g<B) (h2:zB xL 1 w B vb l) (hBw:B≤w.heap.size) (hsm:l.length≤262144) :
 Calls Tryz.prog 199 #[.slice (some ⟨g,0,none⟩) l.length (l.length+2),vb] w fun e w'=>e = .returned (.bool true)∧Below w.heap.size w w':=by
 have h1:zB xL 1 w B (.slice (some ⟨g,0,none⟩) l.length (l.length+2)) l:=wI vL hg hR hgB (by omega);have HSA:=hid (fun (u:World) (hu:Below w.heap.size w u)=>WL l B _ _ u (h1.below (hu.mono hBw)) (h2.below (hu.mono hBw)) (Nat.le_trans hBw hu.size));obtain⟨qb,cb,rfl,hl,-⟩:=h2.form;have m0:=ym vL hg hR 0 _ (by rfl);have n0:=ym vL hg hR 1 _ (by rfl);obtain⟨N,hN⟩:∃ N,N=l.length:=⟨_,rfl⟩
 rw[←hN]at HSA hl hsm m0 n0 ⊢;rw[Nat.mul_one]at m0 n0;have hlg:=z8 hg;have M0:=hid m0;have N0:=hid n0;clear h1 h2 hg hR hN m0 n0;go_enter Tryz.func199,Tryz.ntmps199;go_wp2_with fail;refine (HSA.out _ (Below.refl _ _)).mono ?_;rintro e w1 ⟨rfl,hb1⟩;have m0:=(hb1.cell (p:=⟨g,N+0,none⟩) hlg).trans M0.out;have n0:=(hb1.cell (p:=⟨g,N+1,none⟩) hlg).trans N0.out;rw[Nat.add_zero]at m0;have hlg1:=Nat.lt_of_lt_of_le hlg hb1.size;have HB1:=hid hb1;clear hb1;go_wp2_with fail;go_ret;exact⟨rfl,HB1.out⟩
def X5 (l:List Int) (w:World) (e:Ending) (w':World):Prop:=∃ g R,e = .returned (.slice (some ⟨g,0,none⟩) l.length (l.length+2))∧Below w.heap.size w w'∧w.heap.size≤g∧g<w'.heap.size∧w'.heap[g]? = some (.cells R 3 (0,0))∧R.toList=l.flatMap xh++([.int .i64 (-1000 - ((l.length:Nat):Int))]++[.int .i64 (-1000 - (((l.length+1):Nat):Int))])
theorem ZX (n:Nat) (h:n≤1000000) (w:World):Calls Tryz.prog 19 #[.int .i64 (n:Int)] w fun e w'=>e = .returned (.int .i64 (-1000 - (n:Int)))∧w=w':=by
 go_enter Tryz.func19,Tryz.ntmps19;go_wp2_with fail;go_ret;exact⟨rfl,rfl⟩
theorem XI (l:List Int) (B:Nat) (v:Value) (w:World) (hL:zB xh 1 w B v l) (hBw:B≤w.heap.size) (hsm:l.length≤262144) :
 Calls Tryz.prog 7 #[v] w (X5 l w):=by
 obtain⟨ao,cap,rfl,hlen,hgo⟩:=hL.form;obtain⟨N,hN⟩:∃ N,N=l.length:=⟨_,rfl⟩
 have hNs:N≤262144:=by rw[hN];exact hsm
 obtain⟨i0,hi,hz0,hz1,hz2⟩:=info_parts Ku;obtain⟨M,hM⟩:∃ M,M=madeCells (Value.cells (.int .i64 0)) (((N:Int)+2).toNat*i0.size):=⟨_,rfl⟩
 have hMs:M.size=(N+2)*1:=by rw[hM,size_madeCells,hz1];congr 1
 have hmk:(Instr.makeSlice 25 (.int .i64 (N:Int)) (.int .i64 ((N:Int)+2))).run Tryz.prog w = .ok (.slice (some ⟨w.heap.size,0,none⟩) N (N+2)) (w.alloc (.cells M 3)):=by
  have h:=run_make (P:=Tryz.prog) w 25 3 i0 (.int .i64 0) Tryz.underlying25 hi hz0 .i64 .i64 (N:Int) ((N:Int)+2) (by omega) (by omega) (by rw[hz2];omega) (by omega);rw[←hM,show ((N:Int)+2).toNat=N+2 by omega]at h
  simpa using h
 obtain⟨W0,hW0⟩:∃ W0,W0=w.alloc (.cells M 3):=⟨_,rfl⟩
 have hb0:Below w.heap.size w W0:=by rw[hW0];exact ze w _
 have hg0:W0.heap[w.heap.size]? = some (.cells M 3 (0,0)):=by rw[hW0];exact (MapKept.heap_alloc _ _).1
 have hlt0:w.heap.size<W0.heap.size:=by rw[hW0];simp
 have hcp:=uF (P:=Tryz.prog) (by omega) vY (fun a u hu=>by simp only[xh,List.mem_cons,List.not_mem_nil,or_false]at hu;subst hu;rfl) 25 3 3 i0 Tryz.underlying25 hi hz1 (hL.below (hb0.mono hBw)) w.heap.size (N+2) M hMs (by omega) hg0;rw[←hN]at hcp;obtain⟨R,hR⟩:∃ A,A=(l.flatMap xh++M.toList.drop (N*1)).toArray:=⟨_,rfl⟩
 rw[←hR]at hcp;obtain⟨wr,hwr⟩:∃ u,u=W0.setRow w.heap.size R:=⟨_,rfl⟩
 have hrow:wr.heap[w.heap.size]? = some (.cells R 3 (0,0)):=by rw[hwr];exact setRow_heap _ _ M R 3 (0,0) hg0
 have hsr:wr.heap.size=W0.heap.size:=by rw[hwr];simp[World.setRow]
 have hbw:Below w.heap.size w wr:=hb0.trans ⟨by rw[hwr];rfl,by rw[hwr];rfl,by rw[hwr];rfl,by rw[hsr];exact Nat.le_refl _,fun k hk=>by rw[hwr];exact setRow_other _ _ _ _ (by omega)⟩;rw[←hwr]at hcp
 have hR2:R.toList=l.flatMap xh++[.int .i64 0]++[.int .i64 0]:=by
  have hM2:M.toList.drop (N*1)=[.int .i64 0,.int .i64 0]:=by
   have hMr:M=(List.replicate (N+2) (Value.int .i64 0)).toArray:=by
    rw[hM,hz1,show ((N:Int)+2).toNat*1=N+2 by omega];show madeCells #[.int .i64 0] (N+2)=_
    unfold madeCells;apply Array.ext
    · simp
    · intro i h1 h2
      simp[Nat.mod_one]
   rw[hMr,Nat.mul_one];show (List.replicate (N+2) (Value.int .i64 0)).drop N=_
   rw[List.drop_replicate,show N+2 - N=2 by omega]
   rfl
  rw[hR,hM2];simp
 have hrs:R.size=N+2:=by
  have:=wB vY l;rw[←Array.length_toList,hR2,List.length_append,List.length_append,this,hN];simp
 obtain⟨w9,hw9⟩:∃ u,u=(wr.setCell ⟨w.heap.size,N,none⟩ (.int .i64 (-1000 - (N:Int)))).setCell ⟨w.heap.size,N+1,none⟩ (.int .i64 (-1000 - ((N+1:Nat):Int))):=⟨_,rfl⟩
 have hrow1:=(jv (o:=N) (v:=.int .i64 (-1000 - (N:Int))) hrow).at_b;have hrow9:w9.heap[w.heap.size]? = some (.cells ((R.setIfInBounds N (.int .i64 (-1000 - (N:Int)))).setIfInBounds (N+1) (.int .i64 (-1000 - ((N+1:Nat):Int)))) 3 (0,0)):=by rw[hw9];exact (jv hrow1).at_b
 have hlist9:((R.setIfInBounds N (.int .i64 (-1000 - (N:Int)))).setIfInBounds (N+1) (.int .i64 (-1000 - ((N+1:Nat):Int)))).toList=l.flatMap xh++([.int .i64 (-1000 - (N:Int))]++[.int .i64 (-1000 - ((N+1:Nat):Int))]):=by
  have hfl:(l.flatMap xh).length=N:=by rw[wB vY l,hN,Nat.mul_one]
  rw[Array.toList_setIfInBounds,Array.toList_setIfInBounds,hR2,List.append_assoc,List.set_append_right _ _ (by omega),hfl,Nat.sub_self,List.set_append_right _ _ (by omega),hfl,show N+1 - N=1 by omega]
  rfl
 have hsz9:w9.heap.size=wr.heap.size:=by rw[hw9];simp[World.setCell]
 have hb9:Below w.heap.size w w9:=by rw[hw9];exact (hbw.setCell (by show w.heap.size≤w.heap.size;omega) _).setCell (by show w.heap.size≤w.heap.size;omega) _
 have HEND:=hid (show X5 l w (.returned (.slice (some ⟨w.heap.size,0,none⟩) N (N+2))) w9 from⟨w.heap.size,_,by rw[hN],hb9,Nat.le_refl _,by rw[hsz9,hsr];exact hlt0,hrow9,by rw[hlist9,hN]⟩);have HW9:=hid hw9
 have hzc:∀ j,j<2→wr.cell? ⟨w.heap.size,N+j,none⟩ = some (.int .i64 0):=fun j hj=>by
  rw[Lib.cell_of_heap hrow];rw[←Array.getElem?_toList,hR2,List.append_assoc,List.getElem?_append_right (by rw[wB vY l];omega),wB vY l];have:j=0∨j=1:=by omega
  rcases this with rfl|rfl <;> simp[hN]
 have f0:wr.frozen? ⟨w.heap.size,N,none⟩ = false:=Lib.frozen_of_heap hrow N;have f1:wr.frozen? ⟨w.heap.size,N+1,none⟩ = false:=Lib.frozen_of_heap hrow (N+1);have s0:wr.cell? ⟨w.heap.size,N,none⟩ = some (.int .i64 0):=hzc 0 (by omega);have s1:wr.cell? ⟨w.heap.size,N+1,none⟩ = some (.int .i64 0):=hzc 1 (by omega);have hlw:w.heap.size<wr.heap.size:=Yt hrow;have HK1:=hid (fun w=>ZX N (by omega) w);have HK2:=hid (fun w=>ZX (N+1) (by omega) w);have hn1:((N+1:Nat):Int)=(N:Int)+1:=by omega
 rw[←hN]at hlen;rw[←hN];rw[hW0]at hcp;clear hi hz0 hz1 hz2 hM hMs hb0 hg0 hlt0 hL hgo hR hwr hrow hrow1 hsr hbw hW0 hR2 hw9 hrow9 hlist9 hsz9 hb9 hrs hzc;have HNN:=hid hN;clear hN;go_enter Tryz.func7,Tryz.ntmps7;go_wp2_with fail;refine wp_loop_rounds 3 ?_;rw[rounds_succ];go_wp2_with fail;refine (HK1.out _).mono ?_;rintro e w1 ⟨rfl,rfl⟩;go_wp2_with fail;rw[rounds_succ];go_wp2_with fail;refine (HK2.out _).mono ?_;rintro e w2 ⟨rfl,rfl⟩;go_wp2_with fail;rw[rounds_succ];go_wp2_with fail;rw[←hn1];rw[←HW9.out];go_ret;exact HEND.out
