import Derived.Test.YtlboinokdhmacaaGreatDoorBqFillW
namespace Go.Proofs.YtlboinokdhmacaaGreatDoor
set_option maxHeartbeats 64000000
set_option maxRecDepth 1000000
open Lib(hid)
section
open Go.RowKit
def RT0 (g:Gr):RT:=⟨0,0,List.replicate g.refs.length 0,[],[],0⟩
def thC (x:Gr × Nat):List Value:=[.int .i64 0,.int .i64 0,.slice (some ⟨x.2,0,none⟩) x.1.refs.length x.1.refs.length,.slice none 0 0,.slice none 0 0,.int .u8 0]
theorem XW:∀ (L:List (Gr × Nat)) (i:Nat) (x:Gr × Nat) (q:Nat) (u:Value),L[i]? = some x→(thC x)[q]? = some u→(L.flatMap thC)[i*6+q]? = some u:=by
 intro L;induction L with
 | nil=>intro i x q u h;simp at h
 | cons y L ih =>
  intro i x q u h hu;have hl:(thC y).length=6:=rfl;have hq:q<6:=(List.getElem?_eq_some_iff.1 hu).1;rw[List.flatMap_cons];cases i with
  | zero =>
   simp at h;subst h;rw[List.getElem?_append_left (by omega)]
   simpa using hu
  | succ i =>
   rw[List.getElem?_append_right (by omega),hl,show (i+1)*6+q - 6=i*6+q by omega];exact ih i x q u (by simpa using h) hu
structure MkQ (lo:Nat) (w:World) (b mb:Nat) (wd:Int) (tv tw v:Value) (n:Int) (NW:Nat) (gs:List Gr) (rgs:List Nat):Prop where
 box:w.heap[b]? = some (.cells #[.int .i64 wd,tv,v,tw,.int .i64 n,.bool false] 98 (0,0))
 ev:v = .slice (some ⟨mb,0,none⟩) NW NW
 mem:w.heap[mb]? = some (.cells (wds (List.replicate NW 0)).toArray 2 (0,0))
 lb:lo≤b
 lm:lo≤mb
 row:w.ownsRow lo 101 6 tw rgs.length ((gs.zip rgs).flatMap thC)
 len:rgs.length≤gs.length
 regs:∀ (i:Nat) rg g,rgs[i]? = some rg→gs[i]? = some g→mb<rg∧w.heap[rg]? = some (.cells (wds (List.replicate g.refs.length 0)).toArray 2 (0,0))
 dist:rgs.Nodup
theorem MkQ.run {lo:Nat} {w:World} {b mb:Nat} {wd:Int} {tv tw v:Value} {n NW:Nat} {gs:List Gr} {rgs:List Nat} (h:MkQ lo w b mb wd tv tw v (n:Int) NW gs rgs) {w0:World} {B:Nat} (hall:rgs.length=gs.length) (hNW:1≤NW∧NW≤65537) (hn:n≤1048576) (hB:B≤w0.heap.size) (hlo:w0.heap.size≤lo) (hbel:Below B w0 w) (hok:∀ g ∈ gs,0<g.blocks.length) :
 ∃ ow tb tc,ve ow w0 w B b wd tv tw tb gs tc ⟨n,⟨List.replicate NW 0,false⟩,gs.map RT0⟩ v:=by
 have hbm:mb≠b:=fun e=>by
  have h1:=h.mem;rw[e,h.box]at h1;injection h1 with h2
  injection h2 with _ h3
  exact absurd h3 (by decide)
 have hrb:∀ (i:Nat) rg,rgs[i]? = some rg→∃ g,gs[i]? = some g∧mb<rg∧rg≠b∧w.heap[rg]? = some (.cells (wds (List.replicate g.refs.length 0)).toArray 2 (0,0)):=fun i rg hi=>by
  obtain⟨g,hg⟩:∃ g,gs[i]? = some g:=⟨_,List.getElem?_eq_getElem (by have:=(List.getElem?_eq_some_iff.1 hi).1;omega)⟩
  obtain⟨h1,h2⟩:=h.regs i rg g hi hg;refine⟨g,hg,h1,fun e=>?_,h2⟩;rw[e,h.box]at h2;injection h2 with h3
  injection h3 with _ h4
  exact absurd h4 (by decide)
 obtain⟨tq,tb,tc,etw,htq,htb⟩:∃ tq tb tc,tw = .slice tq gs.length tc∧(0<gs.length→tq=some ⟨tb,0,none⟩)∧(0<gs.length→lo≤tb∧∃ cur,w.heap[tb]? = some (.cells cur 101 (0,0))∧cur.toList.take (gs.length*6)=(gs.zip rgs).flatMap thC):=by
  rcases h.row.2 with ⟨e,e0⟩|⟨g,cap,cur,e,e1,e2,e3,e4,e5,e6⟩
  · exact⟨none,0,0,by rw[e,←hall,e0],fun q=>by omega,fun q=>by omega⟩
  · exact⟨_,g,cap,by rw[e,hall],fun _=>rfl,fun _=>⟨e1,cur,e2,by rw[←hall];exact e6⟩⟩
 obtain⟨ow,how⟩:∃ ow:Nat→Nat,ow=fun k=>if k=b then 1 else if k=mb then 2 else if k ∈ rgs then 10+8*rgs.idxOf k else if 0<gs.length∧k=tb then 3 else 0:=⟨_,rfl⟩
 have hreg:∀ (i:Nat) rg,rgs[i]? = some rg→ow rg=10+8*i:=fun i rg hi=>by
  obtain⟨g,-,h1,h2,-⟩:=hrb i rg hi;obtain⟨hl,he⟩:=List.getElem?_eq_some_iff.1 hi;have hm:rg ∈ rgs:=List.mem_of_getElem? hi;have hx:rgs.idxOf rg=i:=by rw[←he];exact h.dist.idxOf_getElem i hl
  rw[how];simp only[if_neg h2,if_neg (show rg≠mb by omega),if_pos hm,hx]
 have hin:∀ k,k ∈ rgs→∃ (i:Nat) (g:Gr),rgs[i]? = some k∧gs[i]? = some g∧mb<k∧w.heap[k]? = some (.cells (wds (List.replicate g.refs.length 0)).toArray 2 (0,0)):=fun k hk=>by
  obtain⟨i,hi⟩:=List.mem_iff_getElem?.1 hk;obtain⟨g,h1,h2,-,h3⟩:=hrb i k hi;exact⟨i,g,hi,h1,h2,h3⟩
 have htl:0<gs.length→ow tb=3:=fun h0=>by
  obtain⟨h1,cur,h2,-⟩:=htb h0;have e1:tb≠b:=fun e=>by rw[e,h.box]at h2;injection h2 with h3;injection h3 with _ h4;exact absurd h4 (by decide)
  have e2:tb≠mb:=fun e=>by rw[e,h.mem]at h2;injection h2 with h3;injection h3 with _ h4;exact absurd h4 (by decide)
  have e3:tb ∉ rgs:=fun e=>by
   obtain⟨i,g,-,-,-,h3⟩:=hin tb e;rw[h3]at h2;injection h2 with h4;injection h4 with _ h5;exact absurd h5 (by decide)
  rw[how];simp[e1,e2,e3,h0]
 have hz:∀ k,k≠b→k≠mb→k ∉ rgs → ¬ (0<gs.length∧k=tb)→ow k=0:=fun k h1 h2 h3 h4=>by rw[how];simp only[if_neg h1,if_neg h2,if_neg h3,if_neg h4]
 have hb1:ow b=1:=by rw[how];simp
 have hm2:ow mb=2:=by rw[how];simp[hbm]
 refine⟨ow,tb,tc,{ qw:=⟨h.box,⟨by simp[wds],.inr ⟨mb,NW,_,by rw[h.ev];simp,Nat.zero_le _,h.mem,by simp,by unfold maxLen;omega,by simp[wds],by simp[wds]⟩⟩,hb1,fun k hk=>?_,by simpa using hNW⟩,etw:=⟨tq,etw,htq⟩,len:=by simp,each:=fun i T hT=>?_,ok:=fun i T g hT hg _=>?_,bound:=fun T hT=>?_,bel:=hbel,base:=hB,low:=fun k hk=>?_,new:=fun k hk=>?_,clean:=fun k=>?_ }⟩
 · rw[h.ev]at hk
   cases hk;exact hm2
 · simp only[List.getElem?_map]at hT
   obtain⟨g,hg,rfl⟩:=Option.map_eq_some_iff.1 hT;have hi:=(List.getElem?_eq_some_iff.1 hg).1;obtain⟨rg,hr⟩:∃ rg,rgs[i]? = some rg:=⟨_,List.getElem?_eq_getElem (by omega)⟩
   obtain⟨h1,h2⟩:=h.regs i rg g hr hg;obtain⟨h3,cur,h4,h5⟩:=htb (by omega);have hzp:(gs.zip rgs)[i]? = some (g,rg):=by rw[List.getElem?_zip_eq_some];exact⟨hg,hr⟩
   have hat:∀ q u,(thC (g,rg))[q]? = some u→cur[i*6+q]? = some u:=fun q u hu=>by
    have e:=XW _ i _ q u hzp hu;rw[←h5,List.getElem?_take]at e;split at e
    · rw[←Array.getElem?_toList];exact e
    · cases e
   refine⟨.slice (some ⟨rg,0,none⟩) g.refs.length g.refs.length,.slice none 0 0,.slice none 0 0,⟨cur,h4,hat 0 _ rfl,hat 1 _ rfl,hat 2 _ rfl,hat 3 _ rfl,hat 4 _ rfl,hat 5 _ rfl⟩,htl (by omega),⟨rg,by simp[RT0],h2,hreg i rg hr⟩,.inl ⟨rfl,rfl⟩,.inl ⟨rfl,rfl⟩⟩
 · simp only[List.getElem?_map,hg,Option.map_some]at hT
   cases hT;exact⟨by simp[RT0],hok g (List.mem_of_getElem? hg),fun _ _=>Nat.zero_le _⟩
 · obtain⟨g,-,rfl⟩:=List.mem_map.1 hT
   simpa[RT0]using hn
 · have h1:=h.lb
   have h2:=h.lm;refine hz k (by omega) (by omega) (fun e=>?_) (fun ⟨e1,e2⟩=>?_)
   · obtain⟨i,g,-,-,h3,-⟩:=hin k e;omega
   · have:=(htb e1).1;omega
 · refine hz k (fun e=>?_) (fun e=>?_) (fun e=>?_) (fun ⟨e1,e2⟩=>?_)
   · have:=z8 h.box;omega
   · have:=z8 h.mem;omega
   · obtain⟨i,g,-,-,-,h3⟩:=hin k e
     have:=z8 h3;omega
   · obtain⟨-,cur,h3,-⟩:=htb e1
     have:=z8 h3;omega
 · rw[how]
   simp only;refine⟨?_, ?_, ?_⟩ <;> (repeat' split) <;> omega
end
section
open Go Go.Lib Go.RowKit
theorem z1e {W:Int} {g:Gr} (h:(yH W g).2=0):(wF g.blocks).2=0∧∀ b ∈ g.blocks,1≤b.last∧b.last≤3:=by
 unfold yH at h;split at h
 · cases hf:yz g.refs W g.blocks.length 0 (List.replicate g.sites.toNat false) g.blocks with
   | some at'=>rw[hf]at h;cases h
   | none =>
    rw[hf]at h;refine⟨h,fun b hb=>?_⟩;have hl:=(YD _ _ _ hf b hb).2;unfold lastB at hl;simp only[Bool.and_eq_true]at hl;exact jS hl.1
 · rename_i hs
   exact absurd h hs
theorem kF {W:Int} {l:List Gr} (h:(xW W l).2.2=0):∀ g ∈ l,vk g∧GOk g∧∀ bk ∈ g.blocks,1≤bk.last∧bk.last≤3:=by
 intro g hg
 have hG:(yH W g).2=0:=by
  unfold xW at h;split at h
  · cases h
  · split at h
    · cases h
    · exact YM _ _ h g hg
 obtain⟨hok,-⟩:=YN hG;obtain⟨hs,hla⟩:=z1e hG;refine⟨KJ hok.first hs (fun b hb i hi=>(hok.fit b hb i hi).k) hla (fun b hb y hy=>?_),hok,hla⟩;have hlo:=hok.last b hb;unfold zC at hy;split at hy
 · rename_i h1
   simp at hy;subst hy;have:=hlo.yes (by omega);unfold yj at this;exact this
 · split at hy
   · rename_i h1 h2
     simp at hy;rcases hy with rfl|rfl
     · have:=hlo.yes (by omega)
       unfold yj at this;exact this
     · have:=hlo.no h2
       unfold yj at this;exact this
   · simp at hy
def QS0 (W:Int) (gs:List Gr) (n:Nat):QS:=⟨n,⟨List.replicate (W.toNat+1) 0,false⟩,gs.map RT0⟩
theorem kP (W:Int) (gs:List Gr) (n:Nat) (hg:∀ g ∈ gs,vk g):RunR gs (RS0 W gs n) (QS0 W gs n):=by
 refine⟨rfl,rfl,by simp[RS0],by simp[QS0],fun i g T R hgi hT hR=>?_⟩;simp only[RS0,QS0,List.getElem?_map,hgi,Option.map_some]at hT hR;cases hT;cases hR;have h0:=(hg g (List.mem_of_getElem? hgi)).first;refine⟨rfl,rfl,rfl,fun h=>absurd rfl h,fun _=>⟨rfl,rfl,rfl,rfl,rfl,1,g.blocks[0],.base,by simp[TS0,h0],by simp[TS0],by simp[TS0,zD]⟩⟩
theorem WN {W:Int} {gs:List Gr} {n:Nat} {picks:List Int} {sx:QS} {bs:Bool} (hg:∀ g ∈ gs,vk g) (h:yU gs picks (QS0 W gs n)=(sx,bs)) :
 (zz gs picks (RS0 W gs n)).2=bs∧(zz gs picks (RS0 W gs n)).1.W.strange=sx.W.strange∧∀ ow w sv,wh ow w sv sx.T gs.length→xB w sv (zz gs picks (RS0 W gs n)).1.T:=by
 have hs:=kV gs hg picks _ _ (kP W gs n hg);rw[h]at hs;obtain⟨h1,h2,h3,h4,h5⟩:=hs;exact⟨h1,h2,fun ow w sv hq=>hq.at h4 _ h3 h5⟩
theorem WQ (gs:List Gr) (p:Int) (ps:List Int) (s:QS) (h:p<0∨(gs.length:Int)≤p):yU gs (p :: ps) s=yU gs ps s:=by
 rw[yU,if_pos h]
theorem WR (gs:List Gr) (p:Nat) (ps:List Int) (s:QS) {g:Gr} {T:RT} (hg:gs[p]? = some g) (hT:s.T[p]? = some T) :
 yU gs ((p:Int) :: ps) s=if T.fin≠0 then yU gs ps s
  else if (yG g s.n s.W T).2.2.2=true then yU gs ps ⟨(yG g s.n s.W T).1,(yG g s.n s.W T).2.1,s.T.set p (yG g s.n s.W T).2.2.1⟩
  else (⟨s.n,(yG g s.n s.W T).2.1,s.T⟩,true):=by
 have hlt:=(List.getElem?_eq_some_iff.1 hg).1;rw[yU,if_neg (by omega),Int.toNat_natCast,hg,hT]
theorem Yv {w:World} {B:Nat} {c:Cd} (h:CIn w B c) (hok:∀ g ∈ c.threads,GOk g∧∀ bk ∈ g.blocks,1≤bk.last∧bk.last≤3) (h0:0<c.threads.length):∃ gt goff gc,GrAt w B c.threads c.tv gt goff gc:=by
 obtain⟨ao,cap,es,-,hb⟩:=h.tlies.form;obtain⟨g,off,rfl,hgB⟩:=hb h0;refine⟨g,off,cap,es,hgB,fun j x hx=>?_,hok⟩;obtain⟨hj,rfl⟩:=List.getElem?_eq_some_iff.1 hx;have ha:=(h.tlies.at es j hj).2;refine⟨ha 0 _ rfl,ha 1 _ rfl,ha 2 _ rfl,h.threads _ (List.getElem_mem hj)⟩
theorem wh.put {ow:Nat→Nat} {w w':World} {sv:Value} {Ts:List RT} {N r:Nat} (h:wh ow w sv Ts N) {cs:Array Value} {X:TypeId} (hr:w.heap[r]? = some (.cells cs X (0,0))) (hX:X≠108) (h0:ow r=0) (hsz:w.heap.size≤w'.heap.size) (hos:w'.os=w.os∧w'.tape=w.tape∧w'.output=w.output) (hk:∀ k,k≠r→w'.heap[k]? = w.heap[k]?):wh ow w' sv Ts N:=by
 obtain⟨L,a,b,c⟩:=h;have hb:But ow [0] w w':=⟨hos.1,hos.2.1,hos.2.2,hsz,fun k _ hn=>hk k (by rintro rfl;exact hn (by simp[h0]))⟩
 refine⟨L,⟨a.1, ?_⟩,b,fun i T hT=>?_⟩
 · rcases a.2 with hn|⟨g,cap,cur,e,hg0,hg,rest⟩
   · exact .inl hn
   · exact .inr ⟨g,cap,cur,e,hg0,(hk g (by rintro rfl;rw[hr]at hg;injection hg with h1;injection h1 with _ h2;exact hX h2)).trans hg,rest⟩
 · obtain⟨x,x1,x2,x3⟩:=c i T hT
   exact⟨x,x1,x2,x3.keeps hb (.refl _ _) (by simp)⟩
theorem wh.form {ow:Nat→Nat} {w:World} {sv:Value} {Ts:List RT} {N:Nat} (h:wh ow w sv Ts N):∃ q c,sv = .slice q N c:=by
 obtain⟨L,a,-⟩:=h;rcases a.2 with ⟨e,e0⟩|⟨g,cap,cur,e,-⟩
 · exact⟨none,0,by rw[e,e0]⟩
 · exact⟨_,_,e⟩
theorem uH {a b:World} {g:Nat} (h:b.heap[g]? = a.heap[g]?) (j:Nat):b.cell? ⟨g,j,none⟩ = a.cell? ⟨g,j,none⟩:=by simp only[World.cell?,h]
theorem YS {a b:Bk} (h:a.bare=b.bare):a.ins=b.ins∧a.last=b.last∧a.reg=b.reg∧a.yes=b.yes∧a.no=b.no:=by
 simpa[Bk.bare]using h
theorem z1s {g g':Gr} (h:g'.bare=g.bare) (i:Nat):(g'.blocks[i]?).map Bk.bare=(g.blocks[i]?).map Bk.bare:=by
 have h2:Bk.bares g'.blocks=Bk.bares g.blocks:=by
  simp only[Gr.bare,Prod.mk.injEq]at h;exact h.2.2
 have:=congrArg (fun l=>l[i]?) h2
 simpa[Bk.bares]using this
theorem JU {a b:Bk} (h:a.bare=b.bare) (T:TS):lastT T a=lastT T b:=by
 obtain⟨-,h2,h3,h4,h5⟩:=YS h;unfold lastT;rw[h2,h3,h4,h5]
theorem VR {g g':Gr} (h:g'.bare=g.bare) (W:WS) (T:TS):ww g' W T=ww g W T:=by
 have hb:=z1s h T.bi;unfold ww;cases e':g'.blocks[T.bi]? with
 | none =>
  rw[e']at hb;cases e:g.blocks[T.bi]? with
  | none=>rfl
  | some b=>rw[e]at hb;simp at hb
 | some b' =>
  rw[e']at hb;cases e:g.blocks[T.bi]? with
  | none=>rw[e]at hb;simp at hb
  | some b =>
   rw[e]at hb;have hbb:b'.bare=b.bare:=by simpa using hb
   simp only[(YS hbb).1,JU hbb]
theorem Uj {g g':Gr} (h:g'.bare=g.bare):∀ (n:Nat) (W:WS) (T:TS),goT g' n W T=goT g n W T:=by
 intro n;induction n with
 | zero=>intro W T;rfl
 | succ n ih =>
  intro W T;rw[goT,goT,VR h];generalize ww g W T=r;obtain⟨a,b,c⟩:=r;cases c
  · exact ih a b
  · rfl
theorem JM {g g':Gr} (h:g'.bare=g.bare) (n:Nat) (W:WS) (T:TS):zA g' n W T=zA g n W T:=by
 unfold zA;split
 · rfl
 · rw[Uj h]
theorem kW {gs gs':List Gr} (h:Gr.bares gs'=Gr.bares gs):∀ (ps:List Int) (s:RS),zz gs' ps s=zz gs ps s:=by
 intro ps;induction ps with
 | nil=>intro s;rfl
 | cons p ps ih =>
  intro s;have hl:=jf h
  have hg:(gs'[p.toNat]?).map Gr.bare=(gs[p.toNat]?).map Gr.bare:=by
   have:=congrArg (fun l=>l[p.toNat]?) h
   simpa[Gr.bares]using this
  rw[zz,zz,hl]
  by_cases hp:p<0∨(gs.length:Int)≤p
  · rw[if_pos hp,if_pos hp,ih]
  · rw[if_neg hp,if_neg hp]
    cases e':gs'[p.toNat]? with
    | none =>
     rw[e']at hg;cases e:gs[p.toNat]? with
     | none=>simp only[ih]
     | some g=>rw[e]at hg;simp at hg
    | some g' =>
     rw[e']at hg;cases e:gs[p.toNat]? with
     | none=>rw[e]at hg;simp at hg
     | some g =>
      rw[e]at hg;have hgg:g'.bare=g.bare:=by simpa using hg
      cases s.T[p.toNat]? with
      | none=>simp only[ih]
      | some T=>simp only[JM hgg,ih]
theorem kQ {gs gs':List Gr} (h:Gr.bares gs'=Gr.bares gs) (W:Int) (n:Nat):RS0 W gs' n=RS0 W gs n:=by
 unfold RS0
 have:gs'.map TS0=gs.map TS0:=by
  apply List.ext_getElem?;intro i
  have hg:(gs'[i]?).map Gr.bare=(gs[i]?).map Gr.bare:=by
   have:=congrArg (fun l=>l[i]?) h
   simpa[Gr.bares]using this
  rw[List.getElem?_map,List.getElem?_map];cases e':gs'[i]? with
  | none =>
   rw[e']at hg;cases e:gs[i]? with
   | none=>rfl
   | some g=>rw[e]at hg;simp at hg
  | some g' =>
   rw[e']at hg;cases e:gs[i]? with
   | none=>rw[e]at hg;simp at hg
   | some g =>
    rw[e]at hg;have hgg:g'.bare=g.bare:=by simpa using hg
    have hr:g'.refs=g.refs:=by simp only[Gr.bare,Prod.mk.injEq]at hgg;exact hgg.1
    show some (TS0 g')=some (TS0 g)
    unfold TS0;rw[hr]
 rw[this]
theorem Vb {gs gs':List Gr} (h:Gr.bares gs'=Gr.bares gs) (W:Int) (np:Nat) (fuel:Int):zV W gs' np fuel=zV W gs np fuel:=by
 have h1:=YO (Zz h) W;have h2:=YO (Zz (rfl:Gr.bares gs'=Gr.bares gs')) W;unfold zV;rw[←h2,h1]
theorem K8 {w:World} {B tb:Nat} {l:List Gr} {words:Int} (h:KC w B tb l) (hw:-9223372036854775808≤words∧words≤9223372036854775807) (hs:l.length≤262144∧∀ a ∈ l,GSm a):CIn w B ⟨words,.slice (some ⟨tb,0,none⟩) l.length (l.length+2),l⟩:=by
 obtain⟨R,hR,hRL⟩:=h.row;refine⟨hw,wI wJ hR hRL h.lt (by have:=hs.1;show l.length≤_;omega),fun g hg=>?_⟩;have hk:=h.each g hg;obtain⟨s1,s2,s3⟩:=hs.2 g hg;obtain⟨rb,R1,e1,h1,h2,h3⟩:=hk.refs;obtain⟨bb,R2,e4,h4,h5,h6⟩:=hk.blocks;refine⟨by rw[e1];exact wI vL h2 h3 h1 (by omega),hk.sites,by rw[e4];exact wI xQ h5 h6 h4 (by omega),fun b hb=>?_⟩;obtain⟨ib,R3,e7,h7,h8,h9,hok,hin⟩:=hk.each b hb;exact⟨by rw[e7];exact wI xz h8 h9 h7 (by have:=s3 b hb;omega),hok,hin⟩
theorem WT (gs:List Gr) (hg:∀ g ∈ gs,GOk g):∀ (ps:List Int) (s:QS),s.T.length=gs.length→(∀ T ∈ s.T,T.out.length+T.wait.length+s.n≤1048576)→(∀ (i:Nat) T g,s.T[i]? = some T→gs[i]? = some g→T.fin=0→ROk g T) →
 ∀ T ∈ (yU gs ps s).1.T,T.out.length≤1048576:=by
 intro ps;induction ps with
 | nil=>intro s _ hb _ T hT;have:=hb T hT;omega
 | cons p ps ih =>
  intro s hl hb hok;rw[yU]
  by_cases hp:p<0∨(gs.length:Int)≤p
  · rw[if_pos hp];exact ih s hl hb hok
  · rw[if_neg hp]
    have hpl:p.toNat<gs.length:=by omega
    obtain⟨g,hgp⟩:∃ g,gs[p.toNat]? = some g:=⟨_,List.getElem?_eq_getElem hpl⟩
    obtain⟨R,hR⟩:∃ R,s.T[p.toNat]? = some R:=⟨_,List.getElem?_eq_getElem (by rw[hl];exact hpl)⟩
    rw[hgp,hR];dsimp only
    by_cases hf:R.fin≠0
    · rw[if_pos hf];exact ih s hl hb hok
    · rw[if_neg hf]
      obtain⟨l1,l2⟩:=Ya (hg g (List.mem_of_getElem? hgp)) s.n s.W R (hok _ R g hR hgp (by simpa using hf));have hbR:=hb R (List.mem_of_getElem? hR)
      by_cases hm:(yG g s.n s.W R).2.2.2=true
      · rw[if_pos hm]
        obtain⟨l3,l4,l5⟩:=l2 hm;refine ih _ (by simpa using hl) (fun T' hT'=>?_) (fun i T' g' hi hg' hf'=>?_)
        · show T'.out.length+T'.wait.length+(yG g s.n s.W R).1≤1048576
          rcases List.mem_or_eq_of_mem_set hT' with hm'|rfl
          · have:=hb T' hm';omega
          · omega
        · simp only[List.getElem?_set]at hi
          by_cases hij:p.toNat=i
          · subst hij
            rw[if_pos rfl,if_pos (by rw[hl];exact hpl)]at hi;cases hi;rw[hgp]at hg';cases hg';exact l5 hf'
          · rw[if_neg hij]at hi
            exact hok i T' g' hi hg' hf'
      · rw[if_neg hm]
        intro T hT;have:=hb T hT;omega
theorem XU {W:Int} {gs:List Gr} {n:Nat} {picks:List Int} (hg:∀ g ∈ gs,vk g∧GOk g) (hn:n≤1048576):∀ T ∈ (zz gs picks (RS0 W gs n)).1.T,T.told.length≤1048576:=by
 have hs:=kV gs (fun g h=>(hg g h).1) picks _ _ (kP W gs n (fun g h=>(hg g h).1))
 have hb:=WT gs (fun g h=>(hg g h).2) picks (QS0 W gs n) (by simp[QS0]) (fun T hT=>by
  obtain⟨g,-,rfl⟩:=List.mem_map.1 hT
  simpa[RT0,QS0]using hn) (fun i T g hT hgi _=>by
  simp only[QS0,List.getElem?_map,hgi,Option.map_some]at hT;cases hT;exact⟨by simp[RT0],(hg g (List.mem_of_getElem? hgi)).2.first,fun _ _=>Nat.zero_le _⟩)
 intro T hT;obtain⟨i,hi⟩:=List.mem_iff_getElem?.1 hT;have hlt:=(List.getElem?_eq_some_iff.1 hi).1;obtain⟨R,hR⟩:∃ R,(yU gs picks (QS0 W gs n)).1.T[i]? = some R:=⟨_,List.getElem?_eq_getElem (by rw[hs.2.2.2.1,←hs.2.2.1];exact hlt)⟩
 rw[(hs.2.2.2.2 i T R hi hR).1];exact hb R (List.mem_of_getElem? hR)
end
section
open Go.RowKit
theorem Kq:(Tryz.prog.info? 101).map (fun i=>(i.zero,i.size,i.bytes))=some (some (.agg #[.int .i64 0,.int .i64 0,.slice none 0 0,.slice none 0 0,.slice none 0 0,.int .u8 0]),6,96):=by kernel_rfl
theorem Qu (q:Option Addr) (l c:Nat) (w:World):(bls 96 1 #[(0,.agg #[.int .i64 0,.int .i64 0,.slice q l c,.slice none 0 0,.slice none 0 0,.int .u8 0])]).run Tryz.prog w = .ok (.slice (some ⟨w.heap.size,0,none⟩) 1 1) (w.alloc (.cells #[.int .i64 0,.int .i64 0,.slice q l c,.slice none 0 0,.slice none 0 0,.int .u8 0] 101)):=
 wP 96 101 1 6 #[(0,.agg #[.int .i64 0,.int .i64 0,.slice q l c,.slice none 0 0,.slice none 0 0,.int .u8 0])] #[.int .i64 0,.int .i64 0,.slice q l c,.slice none 0 0,.slice none 0 0,.int .u8 0] (by kernel_rfl) (by kernel_rfl) (by kernel_rfl) (by omega) (by omega) (by kernel_rfl) (by kernel_rfl) w
theorem MkQ.more {lo:Nat} {w:World} {b mb:Nat} {wd:Int} {tv tw v:Value} {n:Int} {NW:Nat} {gs:List Gr} {rgs:List Nat} (h:MkQ lo w b mb wd tv tw v n NW gs rgs) (hlo:lo≤w.heap.size) (h4:gs.length≤1000) {g:Gr} (hg:gs[rgs.length]? = some g) :
 ∃ gq cap w8,(Builtin.append_ #[96,96] 96 #[tw,.slice (some ⟨w.heap.size+1,0,none⟩) 1 1]).run Tryz.prog ((w.alloc (.cells (wds (List.replicate g.refs.length 0)).toArray 2)).alloc (.cells (thC (g,w.heap.size)).toArray 101)) = .ok (.slice (some ⟨gq,0,none⟩) (rgs.length+1) cap) w8 ∧
  Below lo w w8∧w8.heap[b]? = w.heap[b]? ∧ MkQ lo (w8.setCell ⟨b,3,none⟩ (.slice (some ⟨gq,0,none⟩) (rgs.length+1) cap)) b mb wd tv (.slice (some ⟨gq,0,none⟩) (rgs.length+1) cap) v n NW gs (rgs++[w.heap.size]):=by
 obtain⟨U,hU⟩:∃ U,U=(w.alloc (.cells (wds (List.replicate g.refs.length 0)).toArray 2)).alloc (.cells (thC (g,w.heap.size)).toArray 101):=⟨_,rfl⟩
 rw[←hU];have hz1:(w.alloc (.cells (wds (List.replicate g.refs.length 0)).toArray 2)).heap.size=w.heap.size+1:=by simp
 have hzU:U.heap.size=w.heap.size+2:=by rw[hU];simp
 have hrU:U.heap[w.heap.size]? = some (.cells (wds (List.replicate g.refs.length 0)).toArray 2 (0,0)):=by rw[hU,Below.heap_alloc _ _ _ (by omega)];exact (MapKept.heap_alloc w _).1
 have htU:U.heap[w.heap.size+1]? = some (.cells (thC (g,w.heap.size)).toArray 101 (0,0)):=by rw[hU,←hz1];exact (MapKept.heap_alloc _ _).1
 have hbU:Below w.heap.size w U:=by rw[hU];exact (ze w _).alloc (by omega) _
 have hrow:U.ownsRow lo 101 6 tw rgs.length ((gs.zip rgs).flatMap thC):=by rw[hU];exact (h.row.alloc _).alloc _
 have hk:rgs.length<gs.length:=(List.getElem?_eq_some_iff.1 hg).1;obtain⟨i,hi,hz,hs,hb⟩:=info_parts Kq
 obtain⟨gq,cap,w8,hr,hown,hgrow,hat,hlt⟩:=run_append_lies (P:=Tryz.prog) U 96 96 lo 101 i _ 6 96 Tryz.underlying96 hi hz hs hb rfl (by omega) tw rgs.length _ hrow
  ⟨w.heap.size+1,0,none⟩ 1 1 (thC (g,w.heap.size)) rfl (World.news_of_block htU) (by intro u hu;simp[thC]at hu;rcases hu with rfl|rfl|rfl|rfl|rfl|rfl <;> rfl) (by omega) (by unfold maxLen;omega) (by omega) (by omega) (w.heap.size+2) hzU
 have hne:∀ k,k<U.heap.size→(∀ cur,U.heap[k]? ≠ some (Obj.cells cur 101 (0,0)))→w8.heap[k]? = U.heap[k]?:=fun k hk hn=>hgrow.block k hk (fun q=>by
  rcases h.row.2 with ⟨e,-⟩|⟨g9,cap9,cur9,e,-,e2,-⟩
  · rw[e]at q;cases q
  · rw[e]at q
    cases q;exact hn cur9 ((hbU.block _ (z8 e2)).trans e2))
 have hbb:=z8 h.box;have hmm:=z8 h.mem
 have hb8:w8.heap[b]? = w.heap[b]?:=(hne b (by omega) (fun cur e=>by
  rw[hbU.block b hbb,h.box]at e;injection e with e2;injection e2 with _ e3;exact absurd e3 (by decide))).trans (hbU.block b hbb)
 have hi8:∀ (k:Nat) (l:List Int),U.heap[k]? = some (Obj.cells (wds l).toArray 2 (0,0))→w8.heap[k]? = some (Obj.cells (wds l).toArray 2 (0,0)):=fun k l hk=>(hne k (z8 hk) (fun cur e=>by
  rw[hk]at e;injection e with e2;injection e2 with _ e3;exact absurd e3 (by decide))).trans hk
 have hB:Below lo w w8:=⟨hgrow.os.trans hbU.os,hgrow.tape.trans hbU.tape,hgrow.output.trans hbU.output,Nat.le_trans hbU.size hgrow.size,fun k hk=>(hgrow.block k (by omega) (fun q=>by have:=(h.row.lt k q.symm).1;omega)).trans (hbU.block k (by omega))⟩
 have hq:gq≠b:=fun e=>by
  obtain⟨g2,cap2,e1,e2⟩:=hown.form (by omega);rcases hown.2 with ⟨e3,-⟩|⟨g9,cap9,cur9,e3,-,e4,-⟩
  · cases e3
  · cases e3
    rw[e,hb8,h.box]at e4;injection e4 with e5;injection e5 with _ e6;exact absurd e6 (by decide)
 have hst:∀ k,k≠b→(w8.setCell ⟨b,3,none⟩ (.slice (some ⟨gq,0,none⟩) (rgs.length+1) cap)).heap[k]? = w8.heap[k]?:=fun k hk=>Below.heap_setCell _ _ _ _ hk
 have hmb:mb≠b:=fun e=>by
  have h1:=h.mem;rw[e,h.box]at h1;injection h1 with h2;injection h2 with _ h3;exact absurd h3 (by decide)
 refine⟨gq,cap,w8,hr,hB,hb8, ?_⟩;refine { box:=?_,ev:=h.ev,mem:=?_,lb:=h.lb,lm:=h.lm,row:=?_,len:=by simp;omega,regs:=fun i rg g2 hi2 hg2=>?_,dist:=?_ }
 · rw[heap_setCell_same w8 b 3 _ _ _ (hb8.trans h.box)];rfl
 · rw[hst mb hmb];exact hi8 mb _ ((hbU.block mb hmm).trans h.mem)
 · rw[List.length_append,List.length_singleton]
   have e:((gs.zip (rgs++[w.heap.size])).flatMap thC)=((gs.zip rgs).flatMap thC)++thC (g,w.heap.size):=by
    have hg':gs=gs.take rgs.length++g :: gs.drop (rgs.length+1):=by
     rw[←(List.getElem?_eq_some_iff.1 hg).2,List.getElem_cons_drop,List.take_append_drop]
    have z1:gs.zip rgs=(gs.take rgs.length).zip rgs:=by
     conv=>lhs;rw[hg']
     rw[←List.append_nil rgs,List.zip_append (by simp;omega)];simp
    have z2:gs.zip (rgs++[w.heap.size])=(gs.take rgs.length).zip rgs++[(g,w.heap.size)]:=by
     conv=>lhs;rw[hg']
     rw[List.zip_append (by simp;omega)];simp
    rw[z1,z2,List.flatMap_append];simp
   rw[e];exact hown.kept (row:=some b) ⟨rfl,rfl,rfl,by simp[World.setCell],fun k _ hk=>Below.heap_setCell _ _ _ _ (by rintro rfl;exact hk rfl)⟩ (.inr (by intro q;cases q;exact hq rfl))
 · by_cases hik:i<rgs.length
   · rw[List.getElem?_append_left hik]at hi2
     obtain⟨h1,h2⟩:=h.regs i rg g2 hi2 hg2;have hrb:rg≠b:=fun e=>by rw[e,h.box]at h2;injection h2 with h3;injection h3 with _ h4;exact absurd h4 (by decide)
     exact⟨h1,by rw[hst rg hrb];exact hi8 rg _ ((hbU.block rg (z8 h2)).trans h2)⟩
   · rw[List.getElem?_append_right (by omega)]at hi2
     have e:i=rgs.length:=by
      rcases Nat.lt_or_ge (i - rgs.length) 1 with q|q
      · omega
      · rw[List.getElem?_eq_none (by simpa using q)]at hi2;cases hi2
     subst e;simp at hi2;subst hi2;rw[hg]at hg2;cases hg2;exact⟨hmm,by rw[hst _ (by omega)];exact hi8 _ _ hrU⟩
 · rw[List.nodup_append]
   refine⟨h.dist,by simp,fun x hx y hy=>?_⟩;simp at hy;subst hy;obtain⟨i,hi2⟩:=List.mem_iff_getElem?.1 hx;obtain⟨g2,hg2⟩:∃ g2,gs[i]? = some g2:=⟨_,List.getElem?_eq_getElem (by have:=(List.getElem?_eq_some_iff.1 hi2).1;omega)⟩
   have:=z8 (h.regs i x g2 hi2 hg2).2;omega
end
open Go.RowKit
attribute [local go_sem ↓] zL zJ
theorem QC {ow:Nat→Nat} {w:World} {K cnt:Nat} {vW vS:Value} {nW nS:List (Value × Nat)} {c:Nat→List Int} {d:Nat→List (Value × Int)} (h:BQ ow w K cnt vW vS nW c nS d) (hn:nW.length≤1000) (hnum:∀ j,numOf nW j≤1000000) (hall:∀ (i:Nat) x,nW[i]? = some x→∀ y ∈ c i,y=mW nW i) (hlen:∀ (i:Nat) x,nW[i]? = some x→(c i).length≤8000000) :
 Calls Tryz.prog 85 #[.pointer (some ⟨K,0,none⟩)] w fun e w'=>e = .returned (.bool true)∧Below w.heap.size w w':=by
 obtain⟨qW,cW,eW,-⟩:=wG h.rowW;subst eW;have k3:w.cell? ⟨K,3,none⟩ = some (.slice qW nW.length cW):=zh h.box 3 _ rfl;have hK:=z8 h.box;have HH:=hid h;have HNUM:=hid hnum;have HLEN:=hid hlen;have HALL:=hid hall;obtain⟨N,hN⟩:∃ N,N=nW.length:=⟨_,rfl⟩
 rw[←hN]at k3 hn;have HN:=hid hN;clear h hN hnum hlen hall;go_enter Tryz.func85,Tryz.ntmps85;go_wp2_with fail
 go_loopw [12] (fun iv wr=>∃ i:Nat,i≤N∧iv = .int .i64 (i:Int)∧Below w.heap.size w wr) (fun iv _=>N - (intOf iv).toNat)
 case atStart=>exact⟨0,by omega,rfl,Below.refl _ _⟩
 case round =>
  obtain⟨i,hiN,rfl,hR⟩:=hrel
  by_cases hlt:i<N
  · obtain⟨x,hx⟩:∃ x,nW[i]? = some x:=⟨_,List.getElem?_eq_getElem (by rw[←HN.out];exact hlt)⟩
    have hB:=HH.out.below hR;obtain⟨gW,rfl,hgW,-,h0,h1,-⟩:=hB.atW hx;have htl:=hB.wide i x hx;obtain⟨xq,xc,ex⟩:=htl.form';obtain⟨n,hn2⟩:∃ n,n=x.2:=⟨_,rfl⟩
    have hnn:numOf nW i=n:=by rw[qU hx,hn2]
    have hn6:n≤1000000:=by rw[←hnn];exact HNUM.out i
    have hmk:mW nW i = -1000 - (n:Int):=by unfold mW;rw[hnn]
    have hM8:(c i).length≤8000000:=HLEN.out i x hx;have HAL:=hid (fun y hy=>(HALL.out i x hx y hy).trans hmk);rw[ex]at h0 htl;rw[←hn2]at h1;obtain⟨M,hM⟩:∃ M,M=(c i).length:=⟨_,rfl⟩
    rw[←hM]at h0 htl hM8;have HM:=hid hM;have HTL:=hid htl;have HR:=hid hR;have HIS:=hid (fun u=>K9 n hn6 u);have hwz:=hR.size;clear hR hB htl ex hn2 hnn hmk hM hx;go_wp2_with fail;obtain⟨WB,hWB⟩:∃ WB,WB=wr.alloc (.cells #[.slice xq M xc,.int .i64 (n:Int)] 133):=⟨_,rfl⟩
    have hbB:Below wr.heap.size wr WB:=by rw[hWB];exact ze wr _
    have hXB:WB.heap[wr.heap.size]? = some (.cells #[.slice xq M xc,.int .i64 (n:Int)] 133 (0,0)):=by rw[hWB];exact (MapKept.heap_alloc wr _).1
    obtain⟨b,hb⟩:∃ b,b=wr.heap.size:=⟨_,rfl⟩
    rw[←hb]at hXB;have HXB:=hid hXB;have HBB:=hid (HR.out.trans (hbB.mono HR.out.size));have HTB:=hid ((HTL.out).keeps (But.of (ls:=[]) hbB) (.refl _ _) (by simp));have hWBs:=HBB.out.size;rw[←hb];have HWB:=hid hWB;have hlb:=z8 hXB;rw[←HWB.out];clear hbB hXB hWB h0 h1 hb
    go_loopw [19] (fun iv wi=>∃ k:Nat,k≤M∧iv = .int .i64 (k:Int)∧Below WB.heap.size WB wi) (fun iv _=>M - (intOf iv).toNat)
    case atStart=>exact⟨0,by omega,rfl,Below.refl _ _⟩
    case round =>
     obtain⟨k,hkM,rfl,hT⟩:=hrel
     by_cases hk:k<M
     · obtain⟨y,hy⟩:∃ y,(c i)[k]? = some y:=⟨_,List.getElem?_eq_getElem (by rw[←HM.out];exact hk)⟩
       have hym:=HAL.out y (List.mem_of_getElem? hy);subst hym;have htk:=HTB.out.keeps (But.of (ls:=[]) hT) (.refl _ _) (by simp)
       obtain⟨g,off,rfl,hg,hc⟩:∃ g off,xq=some ⟨g,off,none⟩ ∧ g<wr.heap.size∧wr.cell? ⟨g,off+k,none⟩ = some (.int .i64 (-1000 - (n:Int))):=by
        rcases htk with ⟨e,e0⟩|⟨g,off,cap,cur,e,hg,-,-,-,-,h4⟩
        · rw[e0]at hy;simp at hy
        · cases e
          exact⟨g,off,rfl,z8 hg,by rw[Lib.cell_of_heap hg];exact h4 k _ hy⟩
       have hXk:=(hT.block b hlb).trans HXB.out;obtain⟨b0,b1⟩:=zt hXk;have hlk:=z8 hXk;have HT:=hid hT;clear hT htk hy hXk;go_wp2_with fail;refine (HIS.out _).mono ?_;rintro e w2 ⟨rfl,hb2⟩;have HB2:=hid (HT.out.trans (hb2.mono HT.out.size));clear hb2 hc b0 b1;go_wp2_with fail;go_roundw
       case rel=>exact⟨k+1,hk,by go_num,HB2.out⟩
       case measure=>simp[intOf];omega
     · obtain rfl:M=k:=by omega
       have HT:=hid (HBB.out.trans (hT.mono HBB.out.size));clear hT;go_wp2_with fail;go_roundw
       case rel=>exact⟨i+1,hlt,by go_num,HT.out⟩
       case measure=>simp[intOf];omega
  · obtain rfl:N=i:=by omega
    go_wp2_with fail;go_ret;exact⟨rfl,hR⟩
