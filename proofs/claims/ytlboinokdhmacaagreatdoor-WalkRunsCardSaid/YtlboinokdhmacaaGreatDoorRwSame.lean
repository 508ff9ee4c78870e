import Derived.Test.YtlboinokdhmacaaGreatDoorRwAt
import Derived.Test.YtlboinokdhmacaaGreatDoorRlSide
namespace Go.Proofs.YtlboinokdhmacaaGreatDoor
set_option maxHeartbeats 64000000
set_option maxRecDepth 1000000
open Go Go.Lib Go.RowKit
structure vk (g:Gr):Prop where
 first:0<g.blocks.length
 mis:∀ n s b,Rch g.blocks n s→g.blocks[n]? = some b→(∀ i x,b.ins[i]? = some x→yL x.k &&& zD (b.ins.take i) s≠0) ∧ ¬ (b.last=3∧zD b.ins s=2)
 kind:∀ b ∈ g.blocks,∀ i ∈ b.ins,1≤i.k∧i.k≤14
 last:∀ b ∈ g.blocks,1≤b.last∧b.last≤3
 next:∀ b ∈ g.blocks,∀ y ∈ zC b,0≤y∧y<(g.blocks.length:Int)
theorem Q8:∀ (l:List In) (k on on':Nat),zS k on l=(none,on')→(∀ i x,l[i]? = some x→yL x.k &&& zD (l.take i) on≠0)∧on'=zD l on:=by
 intro l;induction l with
 | nil=>intro k on on' h;cases h;exact⟨fun i x hx=>by simp at hx,rfl⟩
 | cons y l ih =>
  intro k on on' h;rw[zS]at h;split at h
  · cases h
  · rename_i hne
    obtain⟨a,b⟩:=ih _ _ _ h;refine⟨fun i x hx=>?_,b⟩;cases i with
    | zero=>simp at hx;subst hx;exact hne
    | succ i=>exact a i x (by simpa using hx)
theorem Qb (B:List Nat):∀ (l:List Bk) (n:Nat),zU B n l=none→∀ i b,l[i]? = some b→zZ B (n+i)≠0→(∀ j x,b.ins[j]? = some x→yL x.k &&& zD (b.ins.take j) (zZ B (n+i))≠0) ∧ ¬ (b.last=3∧zD b.ins (zZ B (n+i))=2):=by
 intro l;induction l with
 | nil=>intro n _ i b hb;simp at hb
 | cons y l ih =>
  intro n h i b hb hm;rw[zU]at h
  have tail:zU B (n+1) l=none→∀ i b,(y :: l)[i+1]? = some b→zZ B (n+(i+1))≠0→(∀ j x,b.ins[j]? = some x→yL x.k &&& zD (b.ins.take j) (zZ B (n+(i+1)))≠0) ∧ ¬ (b.last=3∧zD b.ins (zZ B (n+(i+1)))=2):=fun ht i b hb hm=>by
   have e:n+(i+1)=n+1+i:=by omega
   rw[e]at hm ⊢;exact ih _ ht i b (by simpa using hb) hm
  cases i with
  | succ i =>
   split at h
   · exact tail h i b hb hm
   · split at h
     · cases h
     · split at h
       · cases h
       · exact tail h i b hb hm
  | zero =>
   simp at hb;subst hb;rw[Nat.add_zero]at hm ⊢;split at h
   · rename_i h0;exact absurd h0 hm
   · split at h
     · cases h
     · rename_i on hmis
       obtain⟨a,rfl⟩:=Q8 _ _ _ _ hmis;split at h
       · cases h
       · rename_i hne;exact⟨a,hne⟩
theorem YR:∀ (B:List Nat) (n:Nat),yZ n B=none→∀ i,zZ B i≠3:=by
 intro B;induction B with
 | nil=>intro n _ i;simp[zZ]
 | cons v B ih =>
  intro n h i;rw[yZ]at h;split at h
  · cases h
  · rename_i hv
    cases i with
    | zero=>simpa[zZ]using hv
    | succ i=>have:=ih _ h i;simpa[zZ]using this
theorem Ws {bl:List Bk} (h:(wF bl).2=0):(∀ i,zZ (yo bl) i≠3)∧zU (yo bl) 0 bl=none:=by
 unfold wF at h;split at h
 · cases h
 · rename_i hb
   refine⟨YR _ _ hb, ?_⟩;split at h
   · cases h
   · assumption
theorem KJ {g:Gr} (h0:0<g.blocks.length) (hs:(wF g.blocks).2=0) (hk:∀ b ∈ g.blocks,∀ i ∈ b.ins,1≤i.k∧i.k≤14) (hl:∀ b ∈ g.blocks,1≤b.last∧b.last≤3) (hn:∀ b ∈ g.blocks,∀ y ∈ zC b,0≤y∧y<(g.blocks.length:Int)):vk g:=by
 obtain⟨hb,hm⟩:=Ws hs;obtain⟨-,hle,hmk⟩:=uK h0 hn;refine⟨h0,fun n s b hr hbn=>?_,hk,hl,hn⟩
 have hmark:zZ (yo g.blocks) n=s:=by
  have h2:=hr.two;have h3:=(hmk n s h2).2 hr;have h4:=hb n;have h5:=hle n;unfold Mk at h3;generalize zZ (yo g.blocks) n=v at h3 h4 h5;have:v=0∨v=1∨v=2:=by omega
  rcases this with rfl|rfl|rfl <;> rcases h2 with rfl|rfl <;> simp at h3 ⊢
 have:=Qb _ _ _ hm n b hbn (by rw[Nat.zero_add,hmark];have:=hr.two;omega);rw[Nat.zero_add,hmark]at this;exact this
def xu:List Un→Nat→List Int→List Int
 | [],_,ws=>ws
 | .put a x :: l,s,ws=>xu l s (ws.set a x)
 | .cut :: l,s,ws=>xu l s (ws.take s)
def qj:List Un→Bool
 | []=>false
 | .put _ _ :: l=>qj l
 | .cut :: _=>true
theorem XC:∀ (l:List Un) (W:WS) (T:TS),zW l W T=({ W with words:=xu l T.since W.words },{ T with waiting:=if qj l=true then [] else T.waiting }):=by
 intro l;induction l with
 | nil=>intro W T;simp[zW,xu,qj]
 | cons u l ih =>
  intro W T;cases u with
  | put a x=>rw[zW,ih];rfl
  | cut=>rw[zW,ih];simp[xu,qj]
theorem KF:∀ us:List Un,qj (us++[.cut])=true:=by
 intro us;induction us with
 | nil=>rfl
 | cons u us ih=>cases u <;> simp[qj,ih]
theorem Xy (zs:List Int):∀ (us:List Un) (s:Nat) (ws:List Int),(∀ u ∈ us,∃ a x,u=Un.put a x∧a<ws.length)→s≤ws.length→xu (us++[.cut]) s (ws++zs)=xu (us++[.cut]) s ws:=by
 intro us;induction us with
 | nil=>intro s ws _ hs;simp[xu,List.take_append_of_le_length hs]
 | cons u us ih =>
  intro s ws h hs;obtain⟨a,x,rfl,ha⟩:=h u (by simp);rw[List.cons_append,xu,xu,List.set_append,if_pos ha];exact ih s (ws.set a x) (fun v hv=>by obtain⟨b,y,e,hb⟩:=h v (List.mem_cons_of_mem _ hv);exact⟨b,y,e,by simpa using hb⟩) (by simpa using hs)
theorem Xx (us:List Un) (s:Nat) (ws:List Int) (a:Nat) (v:Int) (h:a<ws.length):xu (.put a ((ws[a]?).getD 0) :: us) s (ws.set a v)=xu us s ws:=by
 rw[xu,List.set_set,List.getElem?_eq_getElem h,Option.getD_some,List.set_getElem_self]
def zQ (b:Bool):Nat:=if b=true then 2 else 1
structure vM (g:Gr) (W:WS) (T:TS) (R:RT) (K:Ks) (l:List Int) (out0:List Int):Prop where
 bi:R.bi=T.bi
 ii:R.ii=T.ii
 regs:R.regs=T.regs
 told:T.told=out0
 out:R.out=out0
 fin:T.fin=0
 finR:R.fin=0
 wait:R.wait=[]
 wl:T.waiting=l
 ins:T.inside=K.inside
 off:K.inside=false→T.undo=[]∧l=[]
 on:K.inside=true→K.mark=T.since∧T.since≤W.words.length∧(∃ us,T.undo=us++[Un.cut]∧∀ u ∈ us,∃ a x,u=Un.put a x∧a<W.words.length)∧xu T.undo T.since W.words=K.was
 side:∃ s b,Rch g.blocks T.bi s∧g.blocks[T.bi]? = some b∧T.ii≤b.ins.length∧zD (b.ins.take T.ii) s=zQ T.inside
structure jP (g:Gr) (T:TS) (R:RT):Prop where
 out:T.told=R.out
 fin:T.fin=R.fin
 wait:T.waiting=R.wait
 dead:T.fin≠0→R.wait=[]
 live:T.fin=0→R.bi=T.bi∧R.ii=T.ii∧R.regs=T.regs∧T.inside=false∧T.undo=[]∧∃ s b,Rch g.blocks T.bi s∧g.blocks[T.bi]? = some b∧T.ii≤b.ins.length∧zD (b.ins.take T.ii) s=1
structure wZ (g:Gr) (p:WS × TS × Bool) (q:WS × RT × List Int × Nat) (K:Ks) (out0:List Int):Prop where
 on:q.2.2.2=0→p.2.2=false∧p.1=q.1∧vM g p.1 p.2.1 q.2.1 K q.2.2.1 out0
 off:q.2.2.2≠0→p.2.2=true∧p.1=(y8 q.1 q.2.1 K q.2.2.1 q.2.2.2).1∧jP g p.2.1 (y8 q.1 q.2.1 K q.2.2.1 q.2.2.2).2
theorem kH:∀ (a b:List In) (s:Nat),zD (a++b) s=zD b (zD a s):=by
 intro a;induction a with
 | nil=>intro b s;rfl
 | cons x a ih=>intro b s;exact ih b _
theorem Wd {g:Gr} {W:WS} {T:TS} {R:RT} {K:Ks} {l out0:List Int} (e:Int) (he:e≠0) (htold:T.told=out0) (hout:R.out=out0) (hwait:R.wait=[]) (hwl:T.waiting=l)
 (off:K.inside=false→T.undo=[]∧l=[]) (on:K.inside=true→(∃ us,T.undo=us++[Un.cut])∧xu T.undo T.since W.words=K.was) :
 wZ g (yN W T e) (W,{ R with fin:=e },l,1) K out0:=by
 refine⟨fun h=>(by cases h),fun _=>?_⟩;unfold yN;rw[XC];cases hK:K.inside with
 | false =>
  obtain⟨hu,hl⟩:=off hK;rw[hu];simp only[xu,qj,y8,hK];refine⟨trivial,by simp,by simp[htold,hout],rfl,by simp[hwl,hl,hwait],fun _=>hwait,fun h=>absurd h he⟩
 | true =>
  obtain⟨⟨us,hu⟩,hw⟩:=on hK;have hc:qj T.undo=true:=by rw[hu];exact KF us
  simp only[y8,hK,hw,hc];refine⟨trivial,by simp,by simp[htold,hout],rfl,by simp[hwait],fun _=>hwait,fun h=>absurd h he⟩
theorem jm {g:Gr} {W:WS} {T:TS} {R:RT} {K:Ks} {l out0:List Int} (h:vM g W T R K l out0) {b:Bk} {i:In} (hb:g.blocks[T.bi]? = some b) (hi:b.ins[T.ii]? = some i) (h13:i.k≠13) (h14:i.k≠14)
 {W':WS} {rs:List Int} {un:List Un} (hun:(K.inside=false→un=T.undo)∧(K.inside=true→T.since≤W'.words.length∧(∃ us,un=us++[Un.cut]∧∀ u ∈ us,∃ a x,u=Un.put a x∧a<W'.words.length)∧xu un T.since W'.words=K.was)) :
 wZ g (W',{ T with ii:=T.ii+1,regs:=rs,undo:=un },false) (W',{ R with ii:=R.ii+1,regs:=rs,fin:=0 },l,0) K out0:=by
 obtain⟨s,b',hr,hb',hle,hs⟩:=h.side;rw[hb]at hb';cases hb';have hlt:=(List.getElem?_eq_some_iff.1 hi).1
 have htk:zD (b.ins.take (T.ii+1)) s=zD (b.ins.take T.ii) s:=by
  rw[List.take_add_one,hi,kH];simp[zD,yD,h13,h14]
 exact⟨fun _=>⟨rfl,rfl,⟨h.bi,by simp[h.ii],rfl,h.told,h.out,h.fin,rfl,h.wait,h.wl,h.ins,fun hk=>⟨(hun.1 hk).trans (h.off hk).1,(h.off hk).2⟩,fun hk=>⟨(h.on hk).1,hun.2 hk⟩,s,b,hr,hb,hlt,htk.trans hs⟩⟩,fun q=>absurd rfl q⟩
theorem KD (W:WS) (b:Bool) (a:Int):yM ⟨W.words,b⟩ a=yM W a:=rfl
theorem has_eq (W:WS) (a:Int):wz W a=yM W a:=by
 unfold wz yM
 congr 1
theorem vM.keep {g:Gr} {W:WS} {T:TS} {R:RT} {K:Ks} {l out0:List Int} (h:vM g W T R K l out0):(K.inside=false→T.undo=T.undo)∧(K.inside=true→T.since≤W.words.length∧(∃ us,T.undo=us++[Un.cut]∧∀ u ∈ us,∃ a x,u=Un.put a x∧a<W.words.length)∧xu T.undo T.since W.words=K.was):=
 ⟨fun _=>rfl,fun hk=>(h.on hk).2⟩
theorem vM.at {g:Gr} {W:WS} {T:TS} {R:RT} {K:Ks} {l out0:List Int} (h:vM g W T R K l out0) {b:Bk} {i:In} (hb:g.blocks[T.bi]? = some b) (hi:b.ins[T.ii]? = some i) (hg:vk g):yL i.k &&& zQ K.inside≠0:=by
 obtain⟨s,b',hr,hb',hle,hs⟩:=h.side;rw[hb]at hb';cases hb';have:=(hg.mis _ s b hr hb).1 T.ii i hi;rw[hs,h.ins]at this;exact this
theorem We {g:Gr} (hg:vk g) {W:WS} {T:TS} {R:RT} {K:Ks} {l out0:List Int} (h:vM g W T R K l out0) {b:Bk} {i:In} (hb:g.blocks[T.bi]? = some b) (hi:b.ins[T.ii]? = some i) (h12:i.k≠12) (h13:i.k≠13) (h14:i.k≠14) :
 wZ g (yB W { T with ii:=T.ii+1 } i) ((doR W { R with ii:=R.ii+1 } i K.mark).1,{ (doR W { R with ii:=R.ii+1 } i K.mark).2.1 with fin:=(doR W { R with ii:=R.ii+1 } i K.mark).2.2 },l,if (doR W { R with ii:=R.ii+1 } i K.mark).2.2=0 then 0 else 1) K out0:=by
 have hreg:∀ x:Int,({ T with ii:=T.ii+1 }:TS).reg x=({ R with ii:=R.ii+1 }:RT).reg x:=fun x=>by simp only[TS.reg,RT.reg,h.regs]
 have hmet:wH { R with ii:=R.ii+1 } i=yf { T with ii:=T.ii+1 } i:=by unfold wH yf;rw[hreg,hreg]
 have hk:=hg.kind b (List.mem_of_getElem? hb) i (List.mem_of_getElem? hi);have hside:=h.at hb hi hg
 have hfail:∀ e:Int,e≠0→wZ g (yN W { T with ii:=T.ii+1 } e) (W,{ R with ii:=R.ii+1,fin:=e },l,1) K out0:=fun e he =>
  Wd (T:={ T with ii:=T.ii+1 }) (R:={ R with ii:=R.ii+1 }) e he h.told h.out h.wait h.wl h.off (fun hk=>⟨by obtain⟨us,hu,-⟩:=(h.on hk).2.2.1;exact⟨us,hu⟩,(h.on hk).2.2.2⟩)
 have hsetr:∀ a x:Int,({ T with ii:=T.ii+1 }:TS).setR a x={ T with ii:=T.ii+1,regs:=R.regs.set a.toNat x,undo:=T.undo }:=fun a x=>by simp only[TS.setR,h.regs]
 have hskip:({ T with ii:=T.ii+1 }:TS)={ T with ii:=T.ii+1,regs:=R.regs,undo:=T.undo }:=by rw[h.regs]
 have hset:∀ a x:Int,wZ g (W,({ T with ii:=T.ii+1 }:TS).setR a x,false) (W,{ R with ii:=R.ii+1,regs:=R.regs.set a.toNat x,fin:=0 },l,0) K out0:=fun a x=>by rw[hsetr];exact jm h hb hi h13 h14 h.keep
 have hstay:wZ g (W,{ T with ii:=T.ii+1 },false) (W,{ R with ii:=R.ii+1,fin:=0 },l,0) K out0:=by
  have:=jm h hb hi h13 h14 (W':=W) (rs:=R.regs) (un:=T.undo) h.keep;rw[←hskip]at this;exact this
 have hins:i.k=7∨i.k=8∨i.k=9∨i.k=10∨i.k=11→K.inside=true:=fun q=>by
  cases hi':K.inside with
  | true=>rfl
  | false =>
   exfalso;rw[hi']at hside;rcases q with q|q|q|q|q <;> rw[q]at hside <;> simp[yL,zQ]at hside
 have h14':i.k=1∨i.k=2∨i.k=3∨i.k=4∨i.k=5∨i.k=6∨i.k=7∨i.k=8∨i.k=9∨i.k=10∨i.k=11:=by omega
 have hacc:i.k=8∨i.k=9∨i.k=10∨i.k=11→∀ W1:WS,wu W { R with ii:=R.ii+1 } i K.mark=W1→W1.words=W.words→yM W (yf { T with ii:=T.ii+1 } i)=true →
  ((i.k=8∨i.k=10)→wZ g (W1,({ T with ii:=T.ii+1 }:TS).setR i.a ((W.words[(yf { T with ii:=T.ii+1 } i).toNat]?).getD 0),false) (W1,{ R with ii:=R.ii+1,regs:=R.regs.set i.a.toNat ((W.words[(yf { T with ii:=T.ii+1 } i).toNat]?).getD 0),fin:=0 },l,0) K out0) ∧
  ((i.k=9∨i.k=11)→wZ g ({ W1 with words:=W.words.set (yf { T with ii:=T.ii+1 } i).toNat (({ T with ii:=T.ii+1 }:TS).reg i.a) },{ T with ii:=T.ii+1,undo:=.put (yf { T with ii:=T.ii+1 } i).toNat ((W.words[(yf { T with ii:=T.ii+1 } i).toNat]?).getD 0) :: T.undo },false)
   ({ W1 with words:=W.words.set (yf { T with ii:=T.ii+1 } i).toNat (({ T with ii:=T.ii+1 }:TS).reg i.a) },{ R with ii:=R.ii+1,fin:=0 },l,0) K out0):=fun hk4 W1 _ hw1 hhas=>by
  have hin:=hins (by omega)
  have hlt:(yf { T with ii:=T.ii+1 } i).toNat<W.words.length:=by
   unfold yM at hhas;simp only[Bool.and_eq_true,decide_eq_true_eq]at hhas;omega
  refine⟨fun _=>?_,fun _=>?_⟩
  · rw[hsetr]
    refine jm h hb hi h13 h14 ⟨fun _=>rfl,fun hk=>?_⟩;rw[hw1];exact (h.on hk).2
  · have hs2:({ T with ii:=T.ii+1,undo:=.put (yf { T with ii:=T.ii+1 } i).toNat ((W.words[(yf { T with ii:=T.ii+1 } i).toNat]?).getD 0) :: T.undo }:TS)={ T with ii:=T.ii+1,regs:=R.regs,undo:=.put (yf { T with ii:=T.ii+1 } i).toNat ((W.words[(yf { T with ii:=T.ii+1 } i).toNat]?).getD 0) :: T.undo }:=by rw[h.regs]
    rw[hs2];refine jm h hb hi h13 h14 ⟨fun hk=>(by rw[hin]at hk;cases hk),fun hk=>?_⟩;obtain⟨o1,o2,⟨us,hu,ho⟩,o4⟩:=h.on hk;refine⟨by simpa using o2,⟨.put (yf { T with ii:=T.ii+1 } i).toNat ((W.words[(yf { T with ii:=T.ii+1 } i).toNat]?).getD 0) :: us,by rw[hu];rfl,fun u hu'=>?_⟩, ?_⟩
    · rcases List.mem_cons.1 hu' with rfl|hu'
      · exact⟨_,_,rfl,by simpa using hlt⟩
      · obtain⟨a,x,e,ha⟩:=ho u hu'
        exact⟨a,x,e,by simpa using ha⟩
    · show xu (.put _ _ :: T.undo) T.since (W.words.set _ _)=K.was
      rw[Xx _ _ _ _ _ hlt];exact o4
 rcases h14' with q|q|q|q|q|q|q|q|q|q|q
 · simp only[yB,doR,q]
   simpa[RT.setR]using hset i.a i.n
 · simp only[yB,doR,q]
   have:=hset i.a (({ R with ii:=R.ii+1 }:RT).reg i.b)
   simpa[hreg,RT.setR]using this
 · simp only[yB,doR,q,hreg]
   by_cases he:doE i.o (({ R with ii:=R.ii+1 }:RT).reg i.c)=0
   · have:=hset i.a (doN i.o (({ R with ii:=R.ii+1 }:RT).reg i.b) (({ R with ii:=R.ii+1 }:RT).reg i.c))
     simpa[he,RT.setR]using this
   · simpa[he]using hfail 2 (by decide)
 · simp only[yB,doR,q,hreg]
   by_cases he:({ R with ii:=R.ii+1 }:RT).reg i.b=0
   · simpa[he]using hfail 3 (by decide)
   · simpa[he]using hstay
 · simp only[yB,doR,q,hreg]
   by_cases he:({ R with ii:=R.ii+1 }:RT).reg i.b<0∨i.n≤({ R with ii:=R.ii+1 }:RT).reg i.b
   · simpa[he]using hfail 4 (by decide)
   · simpa[he]using hstay
 · simp only[yB,doR,q]
   simpa[RT.setR]using hset i.a i.n
 · simp only[yB,doR,q]
   by_cases he:65536<(W.words.length:Int) - 1+i.n
   · simpa[he]using hfail 5 (by decide)
   · have hin:=hins (.inl q)
     have key:wZ g ({ W with words:=W.words++List.replicate i.n.toNat 0 },({ T with ii:=T.ii+1 }:TS).setR i.a (W.words.length:Int),false) ({ W with words:=W.words++List.replicate i.n.toNat 0 },{ R with ii:=R.ii+1,regs:=R.regs.set i.a.toNat (W.words.length:Int),fin:=0 },l,0) K out0:=by
      rw[hsetr];refine jm h hb hi h13 h14 ⟨fun _=>rfl,fun hk=>?_⟩;obtain⟨o1,o2,⟨us,hu,ho⟩,o4⟩:=h.on hk;refine⟨by simp;omega,⟨us,hu,fun u hu'=>?_⟩, ?_⟩
      · obtain⟨a,x,e,ha⟩:=ho u hu'
        exact⟨a,x,e,by simp;omega⟩
      · show xu T.undo T.since (W.words++_)=K.was
        rw[hu]at o4 ⊢;rw[Xy _ _ _ _ ho o2];exact o4
     simpa[he,RT.setR]using key
 all_goals
  have hin:=hins (by omega);have hmark:=(h.on hin).1;have hacc':=hacc (by omega)
  by_cases hhas:yM W (yf { T with ii:=T.ii+1 } i)=true
  · by_cases hlo:yf { T with ii:=T.ii+1 } i<(T.since:Int)
    · have a1:=(hacc' _ rfl (by unfold wu;split <;> rfl) hhas).1
      have a2:=(hacc' _ rfl (by unfold wu;split <;> rfl) hhas).2;simp[wu,q,hmet,hmark,hlo,hreg]at a1 a2;simp[yB,doR,zY,loadT,storeT,yQ,wu,q,KD,has_eq,hmet,hhas,hmark,hlo,hreg,RT.setR]
      first|exact a1|exact a2
    · have a1:=(hacc' _ rfl (by unfold wu;split <;> rfl) hhas).1
      have a2:=(hacc' _ rfl (by unfold wu;split <;> rfl) hhas).2;simp[wu,q,hmet,hmark,hlo,hreg]at a1 a2;simp[yB,doR,zY,loadT,storeT,yQ,wu,q,has_eq,hmet,hhas,hmark,hlo,hreg,RT.setR]
      first|exact a1|exact a2
  · have hf:=hfail 8 (by decide)
    have hh:yM W (yf { T with ii:=T.ii+1 } i)=false:=by simpa using hhas
    simp[yB,doR,zY,loadT,storeT,yQ,q,has_eq,hmet,hh];exact hf
theorem Wh {g:Gr} (hg:vk g) {W:WS} {T:TS} {R:RT} {K:Ks} {l out0:List Int} (h:vM g W T R K l out0) {b:Bk} (hb:g.blocks[T.bi]? = some b) (hi:b.ins[T.ii]? = none) :
 wZ g (W,(lastT T b).1,(lastT T b).2) (W,(yx R b).1,l,if (yx R b).2=true then 0 else 1) K out0:=by
 obtain⟨s,b',hr,hb',hle,hs⟩:=h.side;rw[hb]at hb';cases hb';have hall:b.ins.take T.ii=b.ins:=List.take_of_length_le (by rw[List.getElem?_eq_none_iff]at hi;exact hi);rw[hall]at hs;have hm:=List.mem_of_getElem? hb;have hl:=hg.last b hm;have hreg:∀ x:Int,T.reg x=R.reg x:=fun x=>by simp only[TS.reg,RT.reg,h.regs]
 have key:∀ y:Int,y ∈ zC b→wZ g (W,{ T with bi:=y.toNat,ii:=0 },false) (W,{ R with bi:=y.toNat,ii:=0 },l,0) K out0:=fun y hy=>by
  have hv:=hg.next b hm y hy;obtain⟨b2,hb2⟩:∃ b2,g.blocks[y.toNat]? = some b2:=⟨_,List.getElem?_eq_getElem (by omega)⟩
  refine⟨fun _=>⟨rfl,rfl,⟨rfl,rfl,h.regs,h.told,h.out,h.fin,h.finR,h.wait,h.wl,h.ins,h.off,h.on,zD b.ins s,b2,hr.step hb hy,hb2,Nat.zero_le _, ?_⟩⟩,fun q=>absurd rfl q⟩;rw[List.take_zero];exact hs
 have h3:b.last=1∨b.last=2∨b.last=3:=by omega
 rcases h3 with q|q|q
 · have:=key b.yes (by simp[zC,q])
   simp only[lastT,yx,q]
   simpa using this
 · by_cases hz:R.reg b.reg=0
   · have:=key b.no (by simp[zC,q])
     simp only[lastT,yx,q,hreg,hz]
     simpa using this
   · have:=key b.yes (by simp[zC,q])
     simp only[lastT,yx,q,hreg]
     simpa[hz]using this
 · have hout:T.inside=false:=by
    cases hin:T.inside with
    | false=>rfl
    | true=>rw[hin]at hs;exact absurd ⟨q,hs⟩ (hg.mis _ s b hr hb).2
   have hK:K.inside=false:=by rw[←h.ins];exact hout
   simp only[lastT,yx,q];refine⟨fun h=>(by simp at h),fun _=>⟨by simp,by simp[y8,hK],⟨by simp[y8,h.told,h.out],by simp[y8],by simp[y8,h.wl,(h.off hK).2,h.wait],fun _=>by simp[y8,h.wait],fun q=>by simp at q⟩⟩⟩
theorem stp {g:Gr} (hg:vk g) {W:WS} {T:TS} {R:RT} {K:Ks} {l out0:List Int} (h:vM g W T R K l out0) :
 wZ g (ww g W T) (zy g W R (K.at g W R).inside (K.at g W R).mark l) (K.at g W R) out0:=by
 obtain⟨s,b,hr,hb,hle,hs⟩:=h.side;have hbR:g.blocks[R.bi]? = some b:=by rw[h.bi];exact hb
 have hreg:∀ x:Int,({ T with ii:=T.ii+1 }:TS).reg x=R.reg x:=fun x=>by simp only[TS.reg,RT.reg,h.regs]
 unfold ww zy;rw[hb,hbR];dsimp only;cases hi:b.ins[T.ii]? with
 | none =>
  have hiR:b.ins[R.ii]? = none:=by rw[h.ii];exact hi
  have hK:K.at g W R=K:=by simp[Ks.at,vK,hbR,hiR]
  rw[hiR,hK];exact Wh hg h hb hi
 | some i =>
  have hiR:b.ins[R.ii]? = some i:=by rw[h.ii];exact hi
  have hk:=hg.kind b (List.mem_of_getElem? hb) i (List.mem_of_getElem? hi);have hside:=h.at hb hi hg;rw[hiR];dsimp only
  by_cases h13:i.k=13
  · have hK:K.at g W R=⟨true,W.words,W.words.length⟩:=by simp[Ks.at,vK,hbR,hiR,h13]
    have hin:K.inside=false:=by
     cases hin:K.inside with
     | false=>rfl
     | true=>rw[hin,h13]at hside;simp[yL,zQ]at hside
    have hd:yB W { T with ii:=T.ii+1 } i=(W,{ T with ii:=T.ii+1,inside:=true,since:=W.words.length,undo:=[.cut] },false):=by simp[yB,h13,(h.off hin).1]
    have hdo:doR W { R with ii:=R.ii+1 } i W.words.length=(W,{ R with ii:=R.ii+1 },0):=by simp[doR,h13]
    rw[hK,hd,if_neg (by omega),if_neg (by omega),hdo];have hlt:=(List.getElem?_eq_some_iff.1 hi).1;refine⟨fun _=>⟨rfl,rfl,⟨h.bi,by simp[h.ii],h.regs,h.told,h.out,h.fin,rfl,h.wait,h.wl,rfl,fun q=>(by cases q),fun _=>⟨rfl,Nat.le_refl _,⟨[],rfl,fun u hu=>by simp at hu⟩,by simp[xu]⟩,s,b,hr,hb,hlt, ?_⟩⟩,fun q=>absurd rfl q⟩;show zD (b.ins.take (T.ii+1)) s=2
    rw[List.take_add_one,hi,kH];simp[zD,yD,h13]
  · have hK:K.at g W R=K:=by simp[Ks.at,vK,hbR,hiR,h13]
    rw[hK]
    by_cases h12:i.k=12
    · rw[if_pos h12]
      have htk:zD (b.ins.take (T.ii+1)) s=zD (b.ins.take T.ii) s:=by
       rw[List.take_add_one,hi,kH];simp[zD,yD,h12]
      have hlt:=(List.getElem?_eq_some_iff.1 hi).1;have hregR:T.reg i.b=R.reg i.b:=by simp only[TS.reg,RT.reg,h.regs]
      cases hin:K.inside with
      | true =>
       have hd:yB W { T with ii:=T.ii+1 } i=(W,{ T with ii:=T.ii+1,waiting:=l++[R.reg i.b] },false):=by
        have:T.inside=true:=by rw[h.ins];exact hin
        simp[yB,h12,this,h.wl];exact hregR
       rw[hd,if_pos rfl];exact⟨fun _=>⟨rfl,rfl,⟨h.bi,by simp[h.ii],h.regs,h.told,h.out,h.fin,h.finR,h.wait,rfl,h.ins,fun q=>(by rw[hin]at q;cases q),h.on,s,b,hr,hb,hlt,htk.trans hs⟩⟩,fun q=>absurd rfl q⟩
      | false =>
       have hT:T.inside=false:=by rw[h.ins];exact hin
       have hl:=(h.off hin).2
       have hd:yB W { T with ii:=T.ii+1 } i=(W,{ T with ii:=T.ii+1,told:=T.told++[R.reg i.b] },true):=by
        simp[yB,h12,hT];exact hregR
       rw[hd,if_neg (by simp)];refine⟨fun q=>(by cases q),fun _=>⟨rfl,by simp[y8],⟨by simp[y8,h.told,h.out,hl],by simp[y8,h.fin,h.finR],by simp[y8,h.wl,hl,h.wait],fun _=>by simp[y8,h.wait],fun _=>⟨by simp[y8,h.bi],by simp[y8,h.ii],by simp[y8,h.regs],hT,(h.off hin).1,s,b,hr,hb,hlt,htk.trans (by rw[hs,hT];rfl)⟩⟩⟩⟩
    · rw[if_neg h12]
      by_cases h14:i.k=14
      · rw[if_pos h14]
        have hd:yB W { T with ii:=T.ii+1 } i=(W,{ T with ii:=T.ii+1,inside:=false,undo:=[] },true):=by simp[yB,h14]
        rw[hd];have hlt:=(List.getElem?_eq_some_iff.1 hi).1
        have htk:zD (b.ins.take (T.ii+1)) s=1:=by
         rw[List.take_add_one,hi,kH];simp[zD,yD,h14]
        exact⟨fun q=>(by cases q),fun _=>⟨rfl,by simp[y8],⟨by simp[y8,h.told,h.out],by simp[y8,h.fin,h.finR],by simp[y8,h.wl],fun q=>absurd h.fin q,fun _=>⟨by simp[y8,h.bi],by simp[y8,h.ii],by simp[y8,h.regs],rfl,rfl,s,b,hr,hb,hlt,htk⟩⟩⟩⟩
      · rw[if_neg h14]
        exact We hg h hb hi h12 h13 h14
theorem Ui {g:Gr} (hg:vk g) (out0:List Int):∀ (n:Nat) {W:WS} {T:TS} {R:RT} {K:Ks} {l:List Int},vM g W T R K l out0 →
 (goT g n W T).1=(goR g n W R K l).1∧(goT g n W T).2.1=(goR g n W R K l).2.1∧(goT g n W T).2.2.2=(goR g n W R K l).2.2.2 ∧
 ((goR g n W R K l).2.2.2=true→jP g (goT g n W T).2.2.1 (goR g n W R K l).2.2.1)∧((goR g n W R K l).2.2.2=false→(goT g n W T).2.2.1.told=out0∧(goT g n W T).2.2.1.fin=0):=by
 intro n;induction n with
 | zero=>intro W T R K l h;exact⟨rfl,rfl,rfl,fun q=>(by cases q),fun _=>⟨h.told,h.fin⟩⟩
 | succ n ih =>
  intro W T R K l h;have hs:=stp hg h;rw[goT,goR];generalize ww g W T=p at hs;generalize zy g W R (K.at g W R).inside (K.at g W R).mark l=q at hs;obtain⟨W1,T1,f1⟩:=p;obtain⟨W2,R2,l2,c2⟩:=q;cases c2 with
  | zero =>
   obtain⟨e1,e2,e3⟩:=hs.on rfl;simp only at e1 e2;subst e1 e2;exact ih e3
  | succ c2 =>
   obtain⟨e1,e2,e3⟩:=hs.off (by simp);simp only at e1 e2;subst e1 e2;exact⟨rfl,rfl,rfl,fun _=>e3,fun q=>by cases q⟩
theorem JK {g:Gr} (hg:vk g) (n:Nat) (W:WS) {T:TS} {R:RT} (h:jP g T R) (hf:R.fin=0) :
 (zA g n W T).1=(yG g n W R).1∧(zA g n W T).2.1=(yG g n W R).2.1∧(zA g n W T).2.2.2=(yG g n W R).2.2.2 ∧
 ((yG g n W R).2.2.2=true→jP g (zA g n W T).2.2.1 (yG g n W R).2.2.1)∧((yG g n W R).2.2.2=false→(zA g n W T).2.2.1.told=T.told∧(zA g n W T).2.2.1.fin=T.fin):=by
 have hfT:T.fin=0:=by rw[h.fin];exact hf
 obtain⟨l1,l2,l3,l4,l5,s,b,l6⟩:=h.live hfT;unfold zA yG;rw[h.wait];cases hw:R.wait with
 | cons x r=>exact⟨rfl,rfl,rfl,fun _=>⟨by simp[h.out],h.fin,rfl,fun q=>absurd hfT q,fun _=>⟨l1,l2,l3,l4,l5,s,b,l6⟩⟩,fun q=>by cases q⟩
 | nil =>
  simp only;rw[if_neg (by simp[hfT])];have:=Ui hg T.told n (W:=W) (T:=T) (R:=R) (K:=⟨false,[],0⟩) (l:=[]) ⟨l1,l2,l3,rfl,h.out.symm,hfT,hf,hw,by rw[h.wait];exact hw,l4,fun _=>⟨l5,rfl⟩,fun q=>(by cases q),s,b,l6.1,l6.2.1,l6.2.2.1,by rw[l6.2.2.2,l4];rfl⟩;rw[hfT];exact this
structure RunR (gs:List Gr) (s:RS) (q:QS):Prop where
 n:s.n=q.n
 W:s.W=q.W
 len:s.T.length=gs.length
 lenR:q.T.length=gs.length
 each:∀ (i:Nat) g T R,gs[i]? = some g→s.T[i]? = some T→q.T[i]? = some R→jP g T R
theorem kV (gs:List Gr) (hg:∀ g ∈ gs,vk g):∀ (ps:List Int) (s:RS) (q:QS),RunR gs s q →
 (zz gs ps s).2=(yU gs ps q).2∧(zz gs ps s).1.W.strange=(yU gs ps q).1.W.strange∧(zz gs ps s).1.T.length=gs.length∧(yU gs ps q).1.T.length=gs.length ∧
 ∀ (i:Nat) T R,(zz gs ps s).1.T[i]? = some T→(yU gs ps q).1.T[i]? = some R→T.told=R.out∧T.fin=R.fin:=by
 intro ps;induction ps with
 | nil =>
  intro s q h;refine⟨rfl,by rw[zz,yU,h.W],h.len,h.lenR,fun i T R hT hR=>?_⟩;have hi:i<gs.length:=by rw[←h.len];exact (List.getElem?_eq_some_iff.1 hT).1
  have:=h.each i gs[i] T R (List.getElem?_eq_getElem hi) hT hR;exact⟨this.out,this.fin⟩
 | cons p ps ih =>
  intro s q h;rw[zz,yU]
  by_cases hp:p<0∨(gs.length:Int)≤p
  · rw[if_pos hp,if_pos hp];exact ih s q h
  · rw[if_neg hp,if_neg hp]
    have hpl:p.toNat<gs.length:=by omega
    obtain⟨g,hgp⟩:∃ g,gs[p.toNat]? = some g:=⟨_,List.getElem?_eq_getElem hpl⟩
    obtain⟨T,hT⟩:∃ T,s.T[p.toNat]? = some T:=⟨_,List.getElem?_eq_getElem (by rw[h.len];exact hpl)⟩
    obtain⟨R,hR⟩:∃ R,q.T[p.toNat]? = some R:=⟨_,List.getElem?_eq_getElem (by rw[h.lenR];exact hpl)⟩
    rw[hgp,hT,hR];dsimp only;have hrest:=h.each _ g T R hgp hT hR
    by_cases hf:R.fin≠0
    · rw[if_pos hf]
      have hfT:T.fin≠0:=by rw[hrest.fin];exact hf
      have hl:zA g s.n s.W T=(s.n,s.W,T,true):=by
       unfold zA;rw[hrest.wait,hrest.dead hfT];simp only;rw[if_pos hfT]
      rw[hl];simp only;rw[if_pos trivial]
      have hset:s.T.set p.toNat T=s.T:=by
       obtain⟨hlt,e⟩:=List.getElem?_eq_some_iff.1 hT;rw[←e,List.set_getElem_self]
      rw[hset];exact ih s q h
    · rw[if_neg hf]
      have hf0:R.fin=0:=by simpa using hf
      obtain⟨a1,a2,a3,a4,a5⟩:=JK (hg g (List.mem_of_getElem? hgp)) s.n s.W hrest hf0;rw[←h.n,←h.W,a3,a1,a2]
      by_cases hm:(yG g s.n s.W R).2.2.2=true
      · rw[if_pos hm,if_pos hm]
        refine ih _ _ ⟨rfl,rfl,by simp[h.len],by simp[h.lenR],fun i g' T' R' hg' hT' hR'=>?_⟩;simp only[List.getElem?_set]at hT' hR'
        by_cases e:p.toNat=i
        · subst e
          rw[if_pos rfl,if_pos (by rw[h.len];exact hpl)]at hT';rw[if_pos rfl,if_pos (by rw[h.lenR];exact hpl)]at hR';cases hT';cases hR';rw[hgp]at hg';cases hg';exact a4 hm
        · rw[if_neg e]at hT' hR'
          exact h.each i g' T' R' hg' hT' hR'
      · rw[if_neg hm,if_neg hm]
        refine⟨rfl,rfl,by simp[h.len],h.lenR,fun i T' R' hT' hR'=>?_⟩;have hi:i<gs.length:=by rw[←h.lenR];exact (List.getElem?_eq_some_iff.1 hR').1
        simp only[List.getElem?_set]at hT'
        by_cases e:p.toNat=i
        · subst e
          rw[if_pos rfl,if_pos (by rw[h.len];exact hpl)]at hT';cases hT';simp only at hR';rw[hR]at hR';cases hR';obtain⟨b1,b2⟩:=a5 (by simpa using hm);exact⟨b1.trans hrest.out,b2.trans hrest.fin⟩
        · rw[if_neg e]at hT'
          have:=h.each i gs[i] T' R' (List.getElem?_eq_getElem hi) hT' hR';exact⟨this.out,this.fin⟩
