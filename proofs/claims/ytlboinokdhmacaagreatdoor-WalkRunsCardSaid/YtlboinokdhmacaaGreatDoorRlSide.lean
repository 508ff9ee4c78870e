import Derived.Test.YtlboinokdhmacaaGreatDoorRlInsE
namespace Go.Proofs.YtlboinokdhmacaaGreatDoor
set_option maxHeartbeats 64000000
set_option maxRecDepth 1000000
open Lib(hid)
section
open Go Go.Lib
inductive Rch (bl:List Bk):Nat→Nat→Prop
 | base:Rch bl 0 1
 | step {t s:Nat} {b:Bk} {y:Int}:Rch bl t s→bl[t]? = some b→y ∈ zC b→Rch bl y.toNat (zD b.ins s)
theorem YW:∀ (l:List In) (s:Nat),s=1∨s=2→zD l s=1∨zD l s=2:=by
 intro l;induction l with
 | nil=>intro s h;exact h
 | cons i l ih =>
  intro s h;rw[zD];refine ih _ ?_;unfold yD;split
  · exact .inr rfl
  · split
    · exact .inl rfl
    · exact h
theorem Rch.two {bl:List Bk} {t s:Nat} (h:Rch bl t s):s=1∨s=2:=by
 induction h with
 | base=>exact .inl rfl
 | step _ _ _ ih=>exact YW _ _ ih
def zZ (B:List Nat) (t:Nat):Nat:=(B[t]?).getD 0
def Mk (B:List Nat) (t s:Nat):Prop:=(zZ B t) &&& s≠0
def vV (v:Nat):Nat:=if v=0 then 2 else if v=3 then 0 else 1
def qH (B:List Nat):Nat:=(B.map vV).sum
theorem JH:∀ (B:List Nat) (t x:Nat),t<B.length→qH (B.set t x)+vV (zZ B t)=qH B+vV x:=by
 intro B;induction B with
 | nil=>intro t x h;simp at h
 | cons v B ih =>
  intro t x h;cases t with
  | zero=>simp[qH,zZ];omega
  | succ t =>
   have:=ih t x (by simpa using h);simp only[qH,zZ,List.set_cons_succ,List.map_cons,List.sum_cons,List.getElem?_cons_succ]at this ⊢;omega
theorem VG {v s:Nat} (hv:v≤3) (hs:s=1∨s=2) (h:v &&& s=0):vV (v ||| s)+1=vV v∧v ||| s≤3:=by
 have:v=0∨v=1∨v=2∨v=3:=by omega
 rcases this with rfl|rfl|rfl|rfl <;> rcases hs with rfl|rfl <;> simp[vV]at h ⊢
theorem or_mk {v s r:Nat} (hv:v≤3) (hs:s=1∨s=2) (hr:r=1∨r=2):(v ||| s) &&& r≠0↔v &&& r≠0∨r=s:=by
 have:v=0∨v=1∨v=2∨v=3:=by omega
 rcases this with rfl|rfl|rfl|rfl <;> rcases hs with rfl|rfl <;> rcases hr with rfl|rfl <;> simp
theorem ZV {B:List Nat} {t x n:Nat} (h:t<B.length):zZ (B.set t x) n=if n=t then x else zZ B n:=by
 unfold zZ;rw[List.getElem?_set]
 by_cases e:t=n
 · subst e;simp[h]
 · rw[if_neg e,if_neg (fun q=>e q.symm)]
structure SInv (bl:List Bk) (B:List Nat) (S:List (Nat × Nat)):Prop where
 len:B.length=bl.length
 le3:∀ t,zZ B t≤3
 snd:∀ t s,s=1∨s=2→Mk B t s→Rch bl t s
 sndS:∀ p ∈ S,Rch bl p.1 p.2∧p.1<bl.length
 base:Mk B 0 1∨(0,1) ∈ S
 cls:∀ t s b y,s=1∨s=2→Mk B t s→bl[t]? = some b→y ∈ zC b→Mk B y.toNat (zD b.ins s)∨(y.toNat,zD b.ins s) ∈ S
theorem ZN (b:Bk):(zC b).length≤2:=by
 unfold zC;split
 · simp
 · split <;> simp
theorem Ul (bl:List Bk) (hv:∀ b ∈ bl,∀ y ∈ zC b,0≤y∧y<(bl.length:Int)):∀ (f:Nat) (B:List Nat) (S:List (Nat × Nat)),SInv bl B S→S.length+2*qH B≤f→SInv bl (goS bl f B S) []:=by
 intro f;induction f with
 | zero =>
  intro B S h hf;have:S=[]:=List.length_eq_zero_iff.1 (by omega);subst this;exact h
 | succ f ih =>
  intro B S h hf;cases S with
  | nil=>exact h
  | cons p S =>
   obtain⟨t,on⟩:=p;obtain⟨hR,ht⟩:=h.sndS (t,on) (by simp);have hon:=hR.two;dsimp only at hR ht hon;have htB:t<B.length:=by rw[h.len];exact ht
   rw[goS];split
   · rename_i hz
     have hz':zZ B t &&& on=0:=hz;obtain⟨b,hb⟩:∃ b,bl[t]? = some b:=⟨_,List.getElem?_eq_getElem ht⟩
     rw[hb];dsimp only;obtain⟨o1,o2⟩:=VG (h.le3 t) hon hz'
     have hmk:∀ n s,s=1∨s=2→(Mk (B.set t ((B[t]?).getD 0 ||| on)) n s↔Mk B n s∨(n=t∧s=on)):=fun n s hs=>by
      unfold Mk;rw[ZV htB]
      by_cases e:n=t
      · subst e
        rw[if_pos rfl];have:=or_mk (h.le3 n) hon hs;unfold zZ at this ⊢;rw[this];constructor
        · rintro (q|q)
          · exact .inl q
          · exact .inr ⟨rfl,q⟩
        · rintro (q|⟨-,q⟩)
          · exact .inl q
          · exact .inr q
      · rw[if_neg e]
        constructor
        · exact fun q=>.inl q
        · rintro (q|⟨q,-⟩)
          · exact q
          · exact absurd q e
     refine ih _ _ ⟨by simpa using h.len,fun n=>?_,fun n s hs hm=>?_,fun p hp=>?_, ?_,fun n s b' y hs hm hb' hy=>?_⟩ ?_
     · rw[ZV htB]
       split
       · exact o2
       · exact h.le3 n
     · rcases (hmk n s hs).1 hm with q|⟨rfl,rfl⟩
       · exact h.snd n s hs q
       · exact hR
     · rcases List.mem_append.1 hp with hp|hp
       · obtain⟨y,hy,rfl⟩:=List.mem_map.1 (List.mem_reverse.1 hp)
         have:=hv b (List.mem_of_getElem? hb) y hy;exact⟨hR.step hb hy,by dsimp only;omega⟩
       · exact h.sndS p (List.mem_cons_of_mem _ hp)
     · rcases h.base with q|q
       · exact .inl ((hmk 0 1 (.inl rfl)).2 (.inl q))
       · rcases List.mem_cons.1 q with q|q
         · cases q
           exact .inl ((hmk 0 1 (.inl rfl)).2 (.inr ⟨rfl,rfl⟩))
         · exact .inr (List.mem_append.2 (.inr q))
     · have hbs:=YW b'.ins s hs
       rcases (hmk n s hs).1 hm with q|⟨rfl,rfl⟩
       · rcases h.cls n s b' y hs q hb' hy with q|q
         · exact .inl ((hmk _ _ hbs).2 (.inl q))
         · rcases List.mem_cons.1 q with q|q
           · cases q
             exact .inl ((hmk _ _ hbs).2 (.inr ⟨rfl,rfl⟩))
           · exact .inr (List.mem_append.2 (.inr q))
       · rw[hb]at hb'
         cases hb';exact .inr (List.mem_append.2 (.inl (List.mem_reverse.2 (List.mem_map.2 ⟨y,hy,rfl⟩))))
     · have h1:=JH B t ((B[t]?).getD 0 ||| on) htB
       have h2:=ZN b;have h3:vV ((B[t]?).getD 0 ||| on)+1=vV (zZ B t):=o1;simp only[List.length_append,List.length_reverse,List.length_map,List.length_cons]at hf ⊢;omega
   · rename_i hz
     have hm:Mk B t on:=hz;refine ih _ _ ⟨h.len,h.le3,h.snd,fun p hp=>h.sndS p (List.mem_cons_of_mem _ hp), ?_,fun n s b' y hs hm' hb' hy=>?_⟩ ?_
     · rcases h.base with q|q
       · exact .inl q
       · rcases List.mem_cons.1 q with q|q
         · cases q;exact .inl hm
         · exact .inr q
     · rcases h.cls n s b' y hs hm' hb' hy with q|q
       · exact .inl q
       · rcases List.mem_cons.1 q with q|q
         · cases q;exact .inl hm
         · exact .inr q
     · simp only[List.length_cons]at hf
       omega
theorem JI (n:Nat):qH (List.replicate n 0)=2*n:=by
 unfold qH;induction n with
 | zero=>rfl
 | succ n ih=>rw[List.replicate_succ,List.map_cons,List.sum_cons,ih];simp[vV];omega
theorem uK {bl:List Bk} (h0:0<bl.length) (hv:∀ b ∈ bl,∀ y ∈ zC b,0≤y∧y<(bl.length:Int)) :
 (yo bl).length=bl.length∧(∀ t,zZ (yo bl) t≤3)∧∀ t s,s=1∨s=2→(Mk (yo bl) t s↔Rch bl t s):=by
 have hnew:∀ t,zZ (List.replicate bl.length 0) t=0:=fun t=>by
  unfold zZ;rw[List.getElem?_replicate];split <;> rfl
 have h:=Ul bl hv (6*bl.length+1) (List.replicate bl.length 0) [(0,1)]
  ⟨by simp,fun t=>by rw[hnew];omega,fun t s _ hm=>by unfold Mk at hm;rw[hnew]at hm;simp at hm,fun p hp=>by
   simp at hp;subst hp;exact⟨.base,h0⟩,.inr (by simp),fun t s b y _ hm=>by unfold Mk at hm;rw[hnew]at hm;simp at hm⟩ (by rw[JI];simp;omega)
 refine⟨h.len,h.le3,fun t s hs=>⟨h.snd t s hs,fun hr=>?_⟩⟩;clear hs;induction hr with
 | base =>
  rcases h.base with q|q
  · exact q
  · simp at q
 | step hr hb hy ih =>
  rcases h.cls _ _ _ _ hr.two ih hb hy with q|q
  · exact q
  · simp at q
theorem Qj {bl:List Bk} (h0:0<bl.length) (hv:∀ b ∈ bl,∀ y ∈ zC b,0≤y∧y<(bl.length:Int)) {I O:List Bool}
 (h1:∀ t:Nat,(I[t]?).getD false=true↔Rch bl t 2) (h2:∀ t:Nat,(O[t]?).getD false=true↔Rch bl t 1) (t:Nat) :
 zZ (yo bl) t=(if (I[t]?).getD false=true then 2 else 0)+(if (O[t]?).getD false=true then 1 else 0):=by
 obtain⟨-,hle,hk⟩:=uK h0 hv;have a:=(hk t 1 (.inl rfl)).trans (h2 t).symm;have b:=(hk t 2 (.inr rfl)).trans (h1 t).symm;have hl:=hle t;unfold Mk at a b;generalize zZ (yo bl) t=v at a b hl;have:v=0∨v=1∨v=2∨v=3:=by omega
 rcases this with rfl|rfl|rfl|rfl <;> simp at a b <;> simp[a,b]
def xZ:List In→Bool→Bool→Bool × Bool
 | [],i,o=>(i,o)
 | x :: l,i,o=>if x.k=13 then xZ l true false else if x.k=14 then xZ l false true else xZ l i o
def wU (b:Bk) (i o:Bool):Bool × Bool:=if (i || o)=true then xZ b.ins i o else (i,o)
theorem YX:∀ (l:List In) (i o:Bool),(i || o)=true→((xZ l i o).1=true↔(i=true∧zD l 2=2)∨(o=true∧zD l 1=2))∧((xZ l i o).2=true↔(i=true∧zD l 2=1)∨(o=true∧zD l 1=1)):=by
 intro l;induction l with
 | nil=>intro i o _;simp[xZ,zD]
 | cons x l ih =>
  intro i o h;rw[xZ,zD,zD]
  by_cases h13:x.k=13
  · have:=ih true false rfl
    simp only[h13,if_true,yD,true_and,false_and,or_false,Bool.false_eq_true]at this ⊢;rw[this.1,this.2];cases i <;> cases o <;> simp at h ⊢
  · by_cases h14:x.k=14
    · have:=ih false true rfl
      simp only[h14,if_true,yD,true_and,false_and,false_or,Bool.false_eq_true]at this ⊢;simp only[show ¬ (14:Int)=13 by decide,if_false]at this ⊢;rw[this.1,this.2];cases i <;> cases o <;> simp at h ⊢
    · have:=ih i o h
      simp only[h13,h14,if_false,yD]at this ⊢;exact this
def zo (l:List Bool) (t:Nat):Bool:=(l[t]?).getD false
def uN (bl:List Bk) (I O:List Bool):Prop:=∀ t,(zo I t=true→Rch bl t 2)∧(zo O t=true→Rch bl t 1)
def kM (I O:List Bool) (t:Nat) (b:Bk):Prop:=∀ y ∈ zC b,((wU b (zo I t) (zo O t)).1=true→zo I y.toNat=true)∧((wU b (zo I t) (zo O t)).2=true→zo O y.toNat=true)
theorem z2f {bl:List Bk} {I O:List Bool} (h:uN bl I O) {t:Nat} {b:Bk} (hb:bl[t]? = some b) {y:Int} (hy:y ∈ zC b) :
 ((wU b (zo I t) (zo O t)).1=true→Rch bl y.toNat 2)∧((wU b (zo I t) (zo O t)).2=true→Rch bl y.toNat 1):=by
 unfold wU
 by_cases ho:(zo I t || zo O t)=true
 · rw[if_pos ho]
   obtain⟨h1,h2⟩:=YX b.ins _ _ ho;rw[h1,h2];constructor
   · rintro (⟨a,e⟩|⟨a,e⟩)
     · have:=((h t).1 a).step hb hy;rw[e]at this;exact this
     · have:=((h t).2 a).step hb hy;rw[e]at this;exact this
   · rintro (⟨a,e⟩|⟨a,e⟩)
     · have:=((h t).1 a).step hb hy;rw[e]at this;exact this
     · have:=((h t).2 a).step hb hy;rw[e]at this;exact this
 · rw[if_neg ho]
   simp only[Bool.or_eq_true,not_or,Bool.not_eq_true]at ho;simp[ho.1,ho.2]
theorem Vd {bl:List Bk} {I O:List Bool} (hs:uN bl I O) (h0:zo O 0=true) (hc:∀ t b,bl[t]? = some b→kM I O t b):∀ t,(zo I t=true↔Rch bl t 2)∧(zo O t=true↔Rch bl t 1):=by
 have key:∀ t s,Rch bl t s→(s=2→zo I t=true)∧(s=1→zo O t=true):=by
  intro t s h;induction h with
  | base=>exact⟨fun q=>(by cases q),fun _=>h0⟩
  | @step t s b y hr hb hy ih =>
   obtain⟨c1,c2⟩:=hc t b hb y hy;have hs2:=hr.two
   have ho:(zo I t || zo O t)=true:=by
    rcases hs2 with q|q
    · rw[ih.2 q];simp
    · rw[ih.1 q];simp
   obtain⟨h1,h2⟩:=YX b.ins _ _ ho;unfold wU at c1 c2;rw[if_pos ho]at c1 c2;constructor
   · intro q
     refine c1 (h1.2 ?_);rcases hs2 with r|r
     · exact .inr ⟨ih.2 r,by rw[r]at q;exact q⟩
     · exact .inl ⟨ih.1 r,by rw[r]at q;exact q⟩
   · intro q
     refine c2 (h2.2 ?_);rcases hs2 with r|r
     · exact .inr ⟨ih.2 r,by rw[r]at q;exact q⟩
     · exact .inl ⟨ih.1 r,by rw[r]at q;exact q⟩
 exact fun t=>⟨⟨(hs t).1,fun q=>(key t 2 q).1 rfl⟩,⟨(hs t).2,fun q=>(key t 1 q).2 rfl⟩⟩
def yh (l:List Bool):Nat:=(l.filter (fun b=>!b)).length
theorem jN {l:List Bool} {t n:Nat} {x:Bool} (h:t<l.length):zo (l.set t x) n=if n=t then x else zo l n:=by
 unfold zo;rw[List.getElem?_set]
 by_cases e:t=n
 · subst e;simp[h]
 · rw[if_neg e,if_neg (fun q=>e q.symm)]
theorem ZF:∀ (l:List Bool) (t:Nat) (x:Bool),t<l.length→(zo l t=true→x=true)→(zo l t=x→yh (l.set t x)=yh l)∧(zo l t≠x→yh (l.set t x)+1=yh l):=by
 intro l;induction l with
 | nil=>intro t x h;simp at h
 | cons a l ih =>
  intro t x h hx;cases t with
  | zero =>
   simp only[zo,List.getElem?_cons_zero,Option.getD_some]at hx;cases a <;> cases x <;> simp[yh,zo]at hx ⊢
  | succ t =>
   obtain⟨i1,i2⟩:=ih t x (by simpa using h) (by simpa[zo]using hx);simp only[zo,List.getElem?_cons_succ,List.set_cons_succ]at i1 i2 ⊢;refine⟨fun e=>?_,fun e=>?_⟩
   · have:=i1 e
     cases a <;> simp only[yh,List.filter_cons,Bool.not_false,Bool.not_true,if_true,if_false,List.length_cons,Bool.false_eq_true]at this ⊢ <;> omega
   · have:=i2 e
     cases a <;> simp only[yh,List.filter_cons,Bool.not_false,Bool.not_true,if_true,if_false,List.length_cons,Bool.false_eq_true]at this ⊢ <;> omega
theorem ZG:∀ l:List Bool,yh l≤l.length:=fun l=>by unfold yh;exact List.length_filter_le _ _
end
open Go.RowKit
attribute [local go_sem ↓] zL zJ
def vR (k:Int):Bool:=decide (k=7) || (decide (k=8) || (decide (k=9) || (decide (k=10) || (decide (k=11) || decide (k=14)))))
theorem Y6 (k:Int) (w:World):Calls Tryz.prog 219 #[.int .u8 k] w fun e w'=>e = .returned (.bool (vR k))∧w=w':=by
 by_cases hk:k=7∨k=8∨k=9∨k=10∨k=11∨k=14
 · rcases hk with rfl|rfl|rfl|rfl|rfl|rfl
   all_goals
    go_enter Tryz.func219,Tryz.ntmps219;go_wp2_with fail;go_ret;exact⟨rfl,rfl⟩
 · have h7:(k==7)=false:=by simp;omega
   have h8:(k==8)=false:=by simp;omega
   have h9:(k==9)=false:=by simp;omega
   have h10:(k==10)=false:=by simp;omega
   have h11:(k==11)=false:=by simp;omega
   have h14:(k==14)=false:=by simp;omega
   have hr:vR k=false:=by unfold vR;simp;omega
   rw[hr];clear hk hr;go_enter Tryz.func219,Tryz.ntmps219;go_wp2_with fail;go_ret;exact⟨rfl,rfl⟩
theorem J9 (b:Bk) (w:World) (hv:∃ ao n cap,b.iv = .slice ao n cap):Calls Tryz.prog 244 #[.agg #[b.iv,.int .u8 b.last,.int .i64 b.reg,.int .i64 b.yes,.int .i64 b.no]] w (X6 b w):=by
 obtain⟨ao,n,cap,eiv⟩:=hv;obtain⟨iv,ins,last,reg,yes,no⟩:=b;simp only at *;subst eiv;obtain⟨p0,p1,p2,p3,p4⟩:=zx (MapKept.heap_alloc w (.cells #[.slice ao n cap,.int .u8 last,.int .i64 reg,.int .i64 yes,.int .i64 no] 118)).1;have hb:=hid (ze w (.cells #[.slice ao n cap,.int .u8 last,.int .i64 reg,.int .i64 yes,.int .i64 no] 118));have e1:=wP 25 3 1 1 #[(0,.int .i64 yes)] #[.int .i64 yes] (by kernel_rfl) (by kernel_rfl) (by kernel_rfl) (by decide) (by decide) (by kernel_rfl) (by kernel_rfl) (w.alloc (.cells #[.slice ao n cap,.int .u8 last,.int .i64 reg,.int .i64 yes,.int .i64 no] 118));have e2:=wP 25 3 2 1 #[(0,.int .i64 yes),(1,.int .i64 no)] #[.int .i64 yes,.int .i64 no] (by kernel_rfl) (by kernel_rfl) (by kernel_rfl) (by decide) (by decide) (by kernel_rfl) (by kernel_rfl) (w.alloc (.cells #[.slice ao n cap,.int .u8 last,.int .i64 reg,.int .i64 yes,.int .i64 no] 118));have q1:=hid (kw hb.out (.int .i64 yes :: []) [yes] (by simp) (by simp) rfl (w.heap.size+1) 1 (by simp) rfl);have q2:=hid (kw hb.out (.int .i64 yes :: .int .i64 no :: []) [yes,no] (by simp) (by simp) rfl (w.heap.size+1) 2 (by simp) rfl)
 have hk:last=1∨last=2∨((last==1)=false∧(last==2)=false):=by
  by_cases h:last=1∨last=2
  · rcases h with rfl|rfl <;> simp
  · simp only[not_or]at h;simp only[beq_eq_false_iff_ne,ne_eq];simp[h]
 rcases hk with rfl|rfl|⟨h1,h2⟩
 · clear e2 q2
   go_enter Tryz.func244,Tryz.ntmps244;go_wp2_with fail;go_ret;exact⟨_,rfl,q1.out⟩
 · clear e1 q1
   go_enter Tryz.func244,Tryz.ntmps244;go_wp2_with fail;go_ret;exact⟨_,rfl,q2.out⟩
 · clear e1 q1 e2 q2
   go_enter Tryz.func244,Tryz.ntmps244;go_wp2_with fail;go_ret;refine⟨_,rfl,⟨none,0, ?_,.inl ?_⟩,hb.out⟩ <;> (simp only[beq_eq_false_iff_ne,ne_eq]at *;simp[zC, *])
theorem z2e {l:List In} {k:Nat} {x:In} (hx:l[k]? = some x) (i o:Bool):xZ (l.drop k) i o=if x.k=13 then xZ (l.drop (k+1)) true false else if x.k=14 then xZ (l.drop (k+1)) false true else xZ (l.drop (k+1)) i o:=by
 obtain⟨h,e⟩:=List.getElem?_eq_some_iff.1 hx;rw[List.drop_eq_getElem_cons h,e,xZ]
theorem JP (b:Bk) (i o:Bool) (B:Nat) (w:World) (hI:BIn w B b) (hBw:B≤w.heap.size):Calls Tryz.prog 243 #[.agg #[b.iv,.int .u8 b.last,.int .i64 b.reg,.int .i64 b.yes,.int .i64 b.no],.bool i,.bool o] w fun e w'=>e = .returned (.tuple #[.bool (wU b i o).1,.bool (wU b i o).2])∧Below w.heap.size w w':=by
 obtain⟨bo,bcp,eb,hbl,hbg⟩:=hI.lies.form;have HL:=hid hI.lies;clear hI;obtain⟨iv,ins,last,reg,yes,no⟩:=b;simp only at *;subst eb;obtain⟨U,hU⟩:∃ U,U=w.alloc (.cells #[.slice bo ins.length bcp,.int .u8 last,.int .i64 reg,.int .i64 yes,.int .i64 no] 118):=⟨_,rfl⟩
 have hBU:Below w.heap.size w U:=by rw[hU];exact ze w _
 have hO:U.heap[w.heap.size]? = some (.cells #[.slice bo ins.length bcp,.int .u8 last,.int .i64 reg,.int .i64 yes,.int .i64 no] 118 (0,0)):=by rw[hU];exact (MapKept.heap_alloc _ _).1
 obtain⟨p0,p1,p2,p3,p4⟩:=zx hO;have HLU:=hid (HL.out.below (hBU.mono hBw));have HB:=hid hBU;have HU:=hid hU;have HG:=hid hbg;have hlU:w.heap.size<U.heap.size:=by rw[hU];simp
 have HZ:=hid hlU;rw[hU]at p0 p1 p2 p3 p4;obtain⟨N,hN⟩:∃ N,N=ins.length:=⟨_,rfl⟩
 rw[←hN]at p0 HU HG hbl ⊢;have HN:=hid hN;rw[←hN]at p1 p2 p3 p4;clear hBU hO hU hbg hN hlU;unfold wU;cases hio:(i || o)with
 | false =>
  have hi:i=false:=by cases i <;> simp at hio ⊢
  have ho:o=false:=by cases o <;> simp at hio ⊢
  subst hi ho;clear hio;go_enter Tryz.func243,Tryz.ntmps243;go_wp2_with fail;rw[←HU.out];rw[←HU.out]at p0
  go_loopw [1,2,9] (fun q1 q2 q wr=>q1 = .bool false∧q2 = .bool false∧q = .int .i64 0∧wr=U) (fun _ _ _ _=>0)
  case atStart=>exact⟨rfl,rfl,rfl,rfl⟩
  case round =>
   obtain⟨rfl,rfl,rfl,rfl⟩:=hrel
   by_cases h0:0<N
   · go_wp2_with fail
     go_ret2
     exact⟨rfl,HB.out⟩
   · have h00:N=0:=by omega
     subst h00;go_wp2_with fail
     go_ret2
     exact⟨rfl,HB.out⟩
 | true =>
  rw[if_pos rfl];obtain⟨Y,hY⟩:∃ Y,Y=xZ ins i o:=⟨_,rfl⟩
  rw[←hY];have HY:=hid hY;clear hY;have hc1:i=true∨(i=false∧o=true):=by cases i <;> cases o <;> simp at hio ⊢
  rcases hc1 with rfl|⟨rfl,rfl⟩
  all_goals
   go_enter Tryz.func243,Tryz.ntmps243;go_wp2_with fail;rw[←HU.out];rw[←HU.out]at p0;clear hio
   go_loopw [1,2,9] (fun q1 q2 q wr=>∃ (i' o':Bool) (k:Nat),k≤N∧q1 = .bool i'∧q2 = .bool o'∧q = .int .i64 (k:Int)∧wr=U∧Hid (Y=xZ (ins.drop k) i' o')) (fun _ _ q _=>N - (intOf q).toNat)
   case atStart=>exact⟨_,_,0,by omega,rfl,rfl,rfl,rfl,hid HY.out⟩
   case round =>
    obtain⟨i',o',k,hk,rfl,rfl,rfl,rfl,HD⟩:=hrel
    by_cases hlt:k<N
    · obtain⟨g,off,rfl,hgB⟩:=HG.out (by omega)
      have hkl:k<ins.length:=by rw[←HN.out];exact hlt
      have hx:=List.getElem?_eq_getElem hkl;obtain⟨x,ex⟩:∃ x,x=ins[k]:=⟨_,rfl⟩
      rw[←ex]at hx;have hc:=(HLU.out.at rfl k hkl).2 0 (.int .u8 x.k) (by rw[←ex];rfl);rw[Nat.add_zero]at hc;have hgU:g<wr.heap.size:=by have:=HZ.out;omega
      have hst:=z2e hx i' o';rw[←HD.out]at hst;have HST:=hid hst;clear hst hx ex hkl
      by_cases h13:x.k=13
      · rw[h13]at hc
        have HS2:=hid (show Y=xZ (ins.drop (k+1)) true false by rw[HST.out,if_pos h13]);go_wp2_with fail;go_roundw
        case rel=>exact⟨true,false,k+1,hlt,rfl,rfl,by go_num,trivial,hid HS2.out⟩
        case measure=>simp[intOf];omega
      · by_cases h14:x.k=14
        · rw[h14]at hc
          have HS2:=hid (show Y=xZ (ins.drop (k+1)) false true by rw[HST.out,if_neg h13,if_pos h14]);go_wp2_with fail;go_roundw
          case rel=>exact⟨false,true,k+1,hlt,rfl,rfl,by go_num,trivial,hid HS2.out⟩
          case measure=>simp[intOf];omega
        · have HS2:=hid (show Y=xZ (ins.drop (k+1)) i' o' by rw[HST.out,if_neg h13,if_neg h14])
          have e13:(x.k==13)=false:=by simpa using h13
          have e14:(x.k==14)=false:=by simpa using h14
          clear h13 h14;go_wp2_with fail;go_roundw
          case rel=>exact⟨i',o',k+1,hlt,rfl,rfl,by go_num,trivial,hid HS2.out⟩
          case measure=>simp[intOf];omega
    · have hkN:k=N:=by omega
      subst hkN;have hy:=HD.out;rw[HN.out,List.drop_length]at hy;have HYF:=hid (show Y=(i',o')from hy);clear hy hlt;go_wp2_with fail
      go_ret2
      exact⟨by rw[HYF.out];rfl,HB.out⟩
