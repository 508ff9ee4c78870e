/- What functions do, which of them come back to themselves, and what stands where it may not. Nothing here speaks of the program. -/
import Derived.Test.YtdhieihcmnpneaaGreatDoorGPlain
namespace Go.Proofs.YtdhieihcmnpneaaGreatDoor
open Go Go.Lib
structure Ef where
  t:Bool
  o:Bool
  l:Bool
deriving DecidableEq
def Ef.val (a:Ef):Int:=(if a.t then 1 else 0)+(if a.o then 2 else 0)+(if a.l then 4 else 0)
def noE:Ef:=⟨false,false,false⟩
def touchE:Ef:=⟨true,false,false⟩
def Ef.or (a b:Ef):Ef:=⟨a.t || b.t,a.o || b.o,a.l || b.l⟩
def Ef.less (a:Ef):Ef:=⟨false,a.o,a.l⟩
def Ef.lessIf (i:Bool) (a:Ef):Ef:=if i=true then a.less else a
mutual
def X.flat:X→List X
  | .mk h s l=>.mk h s l :: X.flats l
def X.flats:List X→List X
  | []=>[]
  | a :: r=>X.flat a ++ X.flats r
end
theorem xflat_mk (h:Hd) (s:Value) (l:List X):X.flat (.mk h s l) = .mk h s l :: X.flats l:=by rw [X.flat]
theorem xflats_nil:X.flats [] = []:=by rw [X.flats]
theorem xflats_cons (a:X) (r:List X):X.flats (a :: r)=X.flat a ++ X.flats r:=by rw [X.flats]
theorem xflats_append:∀ a b:List X,X.flats (a ++ b)=X.flats a ++ X.flats b
  | [],b=>by rw [xflats_nil];rfl
  | x :: r,b=>by rw [List.cons_append,xflats_cons,xflats_cons,xflats_append r b,List.append_assoc]
mutual
def St.flat (i:Bool):St→List (St × Bool)
  | .mk h x y bv ev b e=>(.mk h x y bv ev b e,i) :: (St.flats (i || decide (h.k=5)) b ++ St.flats i e)
def St.flats (i:Bool):List St→List (St × Bool)
  | []=>[]
  | a :: r=>St.flat i a ++ St.flats i r
end
theorem sflat_mk (i:Bool) (h:Sh) (x y:X) (bv ev:Value) (b e:List St):St.flat i (.mk h x y bv ev b e)=(.mk h x y bv ev b e,i) :: (St.flats (i || decide (h.k=5)) b ++ St.flats i e):=by rw [St.flat]
theorem sflats_nil (i:Bool):St.flats i [] = []:=by rw [St.flats]
theorem sflats_cons (i:Bool) (a:St) (r:List St):St.flats i (a :: r)=St.flat i a ++ St.flats i r:=by rw [St.flats]
theorem sflats_append (i:Bool):∀ a b:List St,St.flats i (a ++ b)=St.flats i a ++ St.flats i b
  | [],b=>by rw [sflats_nil];rfl
  | x :: r,b=>by rw [List.cons_append,sflats_cons,sflats_cons,sflats_append i r b,List.append_assoc]
def St.exprs (s:St):List X:=X.flats [s.x,s.y]
def callsX (l:List X):List ByteArray:=(l.filter (fun x=>decide (x.hd.k=7))).map (·.hd.name)
def callsF (f:Fn):List ByteArray:=(St.flats false f.body).flatMap fun q=>callsX q.1.exprs
def fnN (fs:List Fn) (s:ByteArray):Option Fn:=fs.find? fun f=>decide (f.name=s)
def callsN (fs:List Fn) (s:ByteArray):List ByteArray:=match fnN fs s with|none=>[] | some f=>callsF f
def bodyN (fs:List Fn) (s:ByteArray):List St:=match fnN fs s with|none=>[] | some f=>f.body
def has (s:ByteArray) (l:List ByteArray):Bool:=l.any fun a=>decide (a=s)
theorem has_iff {s:ByteArray} {l:List ByteArray}:has s l=true ↔ s ∈ l:=by
  unfold has
  rw [List.any_eq_true]
  constructor
  · rintro ⟨a,ha,he⟩
    rw [← of_decide_eq_true he];exact ha
  · intro h
    exact⟨s,h,by simp⟩
theorem has_not {s:ByteArray} {l:List ByteArray}:has s l=false ↔ s ∉ l:=by
  rw [← has_iff];cases has s l <;> simp
/-! ### What comes back -/
def leadsL (go:ByteArray→List ByteArray→Bool × List ByteArray) (to:ByteArray):List ByteArray→List ByteArray→Bool × List ByteArray
  | [],met=>(false,met)
  | n :: r,met=>if n=to then (true,met) else if has n met=true then leadsL go to r met else
    match go n (n :: met) with
    | (true,m)=>(true,m)
    | (false,m)=>leadsL go to r m
def leadsN (fs:List Fn) (to:ByteArray):Nat→ByteArray→List ByteArray→Bool × List ByteArray
  | 0,_,met=>(false,met)
  | k+1,s,met=>leadsL (leadsN fs to k) to (callsN fs s) met
def ringAt (fs:List Fn) (s:ByteArray):Bool:=(leadsN fs s (fs.length+1) s []).1
def ringN (fs:List Fn):List Fn→Nat→Option Nat
  | [],_=>none
  | f :: r,i=>if ringAt fs f.name=true then some i else ringN fs r (i+1)
/-! ### What is done -/
def effX (sh:List ByteArray) (E:ByteArray→Ef) (x:X):Ef:=
  if x.hd.k=3 then (if has x.hd.name sh=true then touchE else noE)
  else if x.hd.k=4 ∨ x.hd.k=5 ∨ x.hd.k=6 then touchE
  else if x.hd.k=7 then E x.hd.name else noE
def effXs (sh:List ByteArray) (E:ByteArray→Ef):Ef→List X→Ef
  | a,[]=>a
  | a,x :: r=>effXs sh E (a.or (effX sh E x)) r
def effK (k:Int):Ef:=if k=5 then ⟨false,true,true⟩ else if k=6 then ⟨false,false,true⟩ else noE
def effS (sh:List ByteArray) (E:ByteArray→Ef) (s:St):Ef:=effXs sh E (effK s.h.k) s.exprs
def effSs (sh:List ByteArray) (E:ByteArray→Ef):Ef→List (St × Bool)→Ef
  | a,[]=>a
  | a,q :: r=>effSs sh E (a.or ((effS sh E q.1).lessIf q.2)) r
def effN (sh:List ByteArray) (fs:List Fn):Nat→ByteArray→Ef
  | 0,_=>noE
  | k+1,s=>effSs sh (effN sh fs k) noE (St.flats false (bodyN fs s))
def effF (e:En) (s:ByteArray):Ef:=effN (fnames e.shared) e.funcs (e.funcs.length+1) s
def effOne (e:En) (s:St):Ef:=effS (fnames e.shared) (effF e) s
/-! ### What may not stand there -/
def badF (e:En) (f:Fn) (q:St × Bool):Bool:=((effOne e q.1).o && (q.2 || (effF e f.name).t)) || (q.2 && decide (q.1.h.k=7))
def badsF (e:En) (f:Fn):List Bool:=(decide (f.res.k ≠ 0) && (effF e f.name).l) :: (St.flats false f.body).map (badF e f)
def badT (e:En) (q:St × Bool):Bool:=(if q.2=true then (effOne e q.1).o else (effOne e q.1).t) || decide (q.1.h.k=7)
def badsT (e:En) (t:Th):List Bool:=false :: (St.flats false t.list).map (badT e)
def bads (p:Pr):List Bool:=p.e.funcs.flatMap (badsF p.e) ++ p.threads.flatMap (badsT p.e)
def firstT:List Bool→Option Nat
  | []=>none
  | b :: r=>if b=true then some 0 else (firstT r).map (· + 1)
def placeF (p:Pr) (i:Nat):Nat:=p.e.records.length+p.e.shared.length+(p.e.funcs.take i).length+fnsN (p.e.funcs.take i)
def effectT (p:Pr):Int × Int:=
  if (typesT p).2 ≠ 0 then (0,1) else match ringN p.e.funcs p.e.funcs 0 with
  | some i=>(placeF p i,12)
  | none=>match firstT (bads p) with
    | some j=>(placeF p 0+j,11)
    | none=>(0,0)
end Go.Proofs.YtdhieihcmnpneaaGreatDoor
/- Where no function comes back to itself, what functions do is found: each thing that a function calls lies lower. Nothing here speaks of the program. -/
namespace Go.Proofs.YtdhieihcmnpneaaGreatDoor
open Go Go.Lib
inductive Way (fs:List Fn):ByteArray→ByteArray→Prop where
  | one {a b:ByteArray}:a ∈ callsN fs b→Way fs a b
  | more {a b c:ByteArray}:Way fs a b→b ∈ callsN fs c→Way fs a c
def names (fs:List Fn):List ByteArray:=nnames fs
def left (U met:List ByteArray):Nat:=(U.filter fun n=>!has n met).length
theorem left_cons {U met:List ByteArray} {n:ByteArray} (hU:n ∈ U) (hn:n ∉ met):left U (n :: met) < left U met:=by
  unfold left
  induction U with
  | nil=>cases hU
  | cons a r ih =>
    have hle:∀ l:List ByteArray,(l.filter fun m=>!has m (n :: met)).length≤(l.filter fun m=>!has m met).length:=by
      intro l
      induction l with
      | nil=>simp
      | cons b q ihq =>
        rw [List.filter_cons,List.filter_cons]
        by_cases h1:b ∈ met
        · have h2:b ∈ n :: met:=List.mem_cons_of_mem _ h1
          simp only [has_iff.2 h1,has_iff.2 h2,Bool.not_true,Bool.false_eq_true,if_false]
          exact ihq
        · simp only [has_not.2 h1,Bool.not_false,if_true]
          split
          · simp only [List.length_cons];omega
          · simp only [List.length_cons];omega
    rw [List.filter_cons,List.filter_cons]
    by_cases ha:a=n
    · subst ha
      have:=hle r
      simp only [has_iff.2 (show a ∈ a :: met by simp),Bool.not_true,Bool.false_eq_true,if_false,has_not.2 hn,Bool.not_false,if_true,List.length_cons]
      omega
    · have hr:n ∈ r:=by
        rcases List.mem_cons.1 hU with h|h
        · exact absurd h.symm ha
        · exact h
      have:=ih hr
      by_cases h1:a ∈ met
      · have h2:a ∈ n :: met:=List.mem_cons_of_mem _ h1
        simp only [has_iff.2 h1,has_iff.2 h2,Bool.not_true,Bool.false_eq_true,if_false]
        exact this
      · have h2:a ∉ n :: met:=by
          intro h
          rcases List.mem_cons.1 h with h|h
          · exact ha h
          · exact h1 h
        simp only [has_not.2 h1,has_not.2 h2,Bool.not_false,if_true,List.length_cons]
        omega
theorem left_le (U met:List ByteArray):left U met≤U.length:=by unfold left;exact List.length_filter_le _ _
theorem left_mono (U:List ByteArray) {met m:List ByteArray} (hsub:∀ x,x ∈ met→x ∈ m):left U m≤left U met:=by
  unfold left
  induction U with
  | nil=>simp
  | cons b q ihq =>
    rw [List.filter_cons,List.filter_cons]
    by_cases h1:b ∈ met
    · have h2:=hsub b h1
      simp only [has_iff.2 h1,has_iff.2 h2,Bool.not_true,Bool.false_eq_true,if_false]
      exact ihq
    · simp only [has_not.2 h1,Bool.not_false,if_true]
      split
      · simp only [List.length_cons];omega
      · simp only [List.length_cons];omega
structure Closed (fs:List Fn) (to:ByteArray) (L met met':List ByteArray):Prop where
  sub:∀ n ∈ met,n ∈ met'
  all:∀ c ∈ L,c ∈ met'∧c ≠ to
  new:∀ n ∈ met',n ∉ met→∀ c ∈ callsN fs n,c ∈ met'∧c ≠ to
theorem leadsL_closed (fs:List Fn) (to:ByteArray) (U:List ByteArray) (k:Nat) (go:ByteArray→List ByteArray→Bool × List ByteArray)
    (hgo:∀ n met met',n ∈ U→left U met < k→go n met=(false,met')→Closed fs to (callsN fs n) met met') :
    ∀ (L met met':List ByteArray),(∀ c ∈ L,c ∈ U)→left U met < k+1→leadsL go to L met=(false,met')→Closed fs to L met met':=by
  intro L
  induction L with
  | nil =>
    intro met met' _ _ h
    rw [leadsL] at h
    cases h
    exact⟨fun n h=>h,(fun c h=>by cases h),fun n h hn=>absurd h hn⟩
  | cons n r ih =>
    intro met met' hU hl h
    rw [leadsL] at h
    split at h
    · cases h
    rename_i hto
    split at h
    · rename_i hm0
      have hm:=has_iff.1 hm0
      have hc:=ih met met' (fun c hc=>hU c (List.mem_cons_of_mem _ hc)) hl h
      refine⟨hc.sub,fun c hcm=>?_,hc.new⟩
      rcases List.mem_cons.1 hcm with rfl|hcm
      · exact⟨hc.sub _ hm,hto⟩
      · exact hc.all c hcm
    · rename_i hm0
      have hm:n ∉ met:=fun h=>hm0 (has_iff.2 h)
      have hlt:=left_cons (hU n (by simp)) hm
      cases hg:go n (n :: met) with
      | mk b m =>
        rw [hg] at h
        cases b with
        | true=>cases h
        | false =>
          have h1:=hgo n (n :: met) m (hU n (by simp)) (by omega) hg
          have hsub:∀ x,x ∈ met→x ∈ m:=fun x hx=>h1.sub x (List.mem_cons_of_mem _ hx)
          have hle:=left_mono U hsub
          have h2:=ih m met' (fun c hc=>hU c (List.mem_cons_of_mem _ hc)) (by omega) h
          refine⟨fun x hx=>h2.sub x (hsub x hx),fun c hc=>?_,fun x hx hn c hc=>?_⟩
          · rcases List.mem_cons.1 hc with rfl|hc
            · exact⟨h2.sub _ (h1.sub _ (by simp)),hto⟩
            · exact h2.all c hc
          · by_cases hxm:x ∈ m
            · by_cases hxn:x=n
              · subst hxn
                obtain⟨p,q⟩:=h1.all c hc
                exact⟨h2.sub _ p,q⟩
              · have hxm2:x ∉ n :: met:=by
                  intro h
                  rcases List.mem_cons.1 h with h|h
                  · exact hxn h
                  · exact hn h
                obtain⟨p,q⟩:=h1.new x hxm hxm2 c hc
                exact⟨h2.sub _ p,q⟩
            · exact h2.new x hx hxm c hc
theorem leadsN_closed (fs:List Fn) (to:ByteArray) (U:List ByteArray) (hcl:∀ n ∈ U,∀ c ∈ callsN fs n,c ∈ U) :
    ∀ (k:Nat) (n:ByteArray) (met met':List ByteArray),n ∈ U→left U met < k→leadsN fs to k n met=(false,met')→Closed fs to (callsN fs n) met met':=by
  intro k
  induction k with
  | zero=>intro n met met' _ h;omega
  | succ k ih =>
    intro n met met' hn hl h
    rw [leadsN] at h
    exact leadsL_closed fs to U k (leadsN fs to k) (fun n met met' h1 h2 h3=>ih n met met' h1 h2 h3) _ _ _ (hcl n hn) hl h
def Own (fs:List Fn):Prop:=∀ n ∈ nnames fs,∀ c ∈ callsN fs n,c ∈ nnames fs
theorem no_way (fs:List Fn) (hO:Own fs) (s:ByteArray) (hs:s ∈ nnames fs) (h:ringAt fs s=false):¬ Way fs s s:=by
  unfold ringAt at h
  cases hg:leadsN fs s (fs.length+1) s [] with
  | mk b m =>
    rw [hg] at h
    simp only at h
    subst h
    have hl:left (nnames fs) [] < fs.length+1:=by
      have:=left_le (nnames fs) []
      have e:(nnames fs).length=fs.length:=by unfold nnames;simp
      omega
    have hc:=leadsN_closed fs s (nnames fs) hO (fs.length+1) s [] m hs hl hg
    have key:∀ a b,Way fs a b→(b=s ∨ b ∈ m)→a ∈ m∧a ≠ s:=by
      intro a b hw
      induction hw with
      | one hab =>
        intro hb
        rcases hb with rfl|hb
        · exact hc.all _ hab
        · exact hc.new _ hb (by simp) _ hab
      | more _ hbc ih =>
        intro hb
        refine ih (.inr ?_)
        rcases hb with rfl|hb
        · exact (hc.all _ hbc).1
        · exact (hc.new _ hb (by simp) _ hbc).1
    exact fun hw=>(key s s hw (.inl rfl)).2 rfl
open Classical in
noncomputable def rank (fs:List Fn) (s:ByteArray):Nat:=((nnames fs).filter fun n=>decide (Way fs n s)).length
theorem rank_le (fs:List Fn) (s:ByteArray):rank fs s≤fs.length:=by
  unfold rank
  refine Nat.le_trans (List.length_filter_le _ _) ?_
  unfold nnames;simp
def NoRing (fs:List Fn):Prop:=∀ n ∈ nnames fs,¬ Way fs n n
theorem rank_lt (fs:List Fn) (hO:Own fs) (hN:NoRing fs) {a b:ByteArray} (hb:b ∈ nnames fs) (h:a ∈ callsN fs b):rank fs a < rank fs b:=by
  have ha:a ∈ nnames fs:=hO b hb a h
  have hna:=hN a ha
  unfold rank
  have key:∀ (U:List ByteArray),(U.filter fun n=>@decide (Way fs n a) (Classical.propDecidable _)).length≤(U.filter fun n=>@decide (Way fs n b) (Classical.propDecidable _)).length:=by
    intro U
    induction U with
    | nil=>simp
    | cons x r ih =>
      rw [List.filter_cons,List.filter_cons]
      by_cases h1:Way fs x a
      · have h2:Way fs x b:=.more h1 h
        simp only [h1,h2,decide_true,if_true,List.length_cons]
        omega
      · simp only [h1,decide_false,Bool.false_eq_true,if_false]
        split
        · simp only [List.length_cons];omega
        · exact ih
  have key2:∀ (U:List ByteArray),a ∈ U→(U.filter fun n=>@decide (Way fs n a) (Classical.propDecidable _)).length < (U.filter fun n=>@decide (Way fs n b) (Classical.propDecidable _)).length:=by
    intro U
    induction U with
    | nil=>intro h;cases h
    | cons x r ih =>
      intro hx
      rw [List.filter_cons,List.filter_cons]
      by_cases hxa:x=a
      · subst hxa
        have h2:Way fs x b:=.one h
        have:=key r
        simp only [hna,h2,decide_true,decide_false,Bool.false_eq_true,if_true,if_false,List.length_cons]
        omega
      · have hr:a ∈ r:=by
          rcases List.mem_cons.1 hx with h|h
          · exact absurd h.symm hxa
          · exact h
        have:=ih hr
        by_cases h1:Way fs x a
        · have h2:Way fs x b:=.more h1 h
          simp only [h1,h2,decide_true,if_true,List.length_cons]
          omega
        · simp only [h1,decide_false,Bool.false_eq_true,if_false]
          split
          · simp only [List.length_cons];omega
          · exact this
  exact key2 (nnames fs) ha
/-! ### What functions do, whatever is taken for those that they call -/
theorem effX_same {sh:List ByteArray} {E E':ByteArray→Ef} (x:X) (h:x.hd.k=7→E x.hd.name=E' x.hd.name):effX sh E x=effX sh E' x:=by
  unfold effX
  by_cases h7:x.hd.k=7
  · rw [h h7]
  · simp only [h7,if_false]
theorem effXs_same {sh:List ByteArray} {E E':ByteArray→Ef}:∀ (l:List X) (a:Ef),(∀ c ∈ callsX l,E c=E' c)→effXs sh E a l=effXs sh E' a l
  | [],_,_=>rfl
  | x :: r,a,h=>by
    have h1:∀ c ∈ callsX r,E c=E' c:=fun c hc=>h c (by
      unfold callsX at hc ⊢
      rw [List.filter_cons]
      split
      · exact List.mem_cons_of_mem _ hc
      · exact hc)
    have h2:x.hd.k=7→E x.hd.name=E' x.hd.name:=fun h7=>h _ (by
      unfold callsX
      rw [List.filter_cons,if_pos (by simpa using h7)]
      simp)
    rw [effXs,effXs,effX_same x h2,effXs_same r _ h1]
theorem effS_same {sh:List ByteArray} {E E':ByteArray→Ef} (s:St) (h:∀ c ∈ callsX s.exprs,E c=E' c):effS sh E s=effS sh E' s:=effXs_same _ _ h
theorem effSs_same {sh:List ByteArray} {E E':ByteArray→Ef}:∀ (l:List (St × Bool)) (a:Ef),(∀ q ∈ l,∀ c ∈ callsX q.1.exprs,E c=E' c)→effSs sh E a l=effSs sh E' a l
  | [],_,_=>rfl
  | q :: r,a,h=>by rw [effSs,effSs,effS_same q.1 (h q (by simp)),effSs_same r _ fun q hq=>h q (List.mem_cons_of_mem _ hq)]
theorem calls_in {fs:List Fn} {s:ByteArray} {q:St × Bool} {c:ByteArray} (hq:q ∈ St.flats false (bodyN fs s)) (hc:c ∈ callsX q.1.exprs):c ∈ callsN fs s:=by
  unfold bodyN at hq
  unfold callsN
  split at hq
  · rw [sflats_nil] at hq;cases hq
  · rename_i f hf
    show c ∈ callsF f
    unfold callsF
    exact List.mem_flatMap.2 ⟨q,hq,hc⟩
theorem effN_stable (sh:List ByteArray) (fs:List Fn) (hO:Own fs) (hN:NoRing fs):∀ (r:Nat) (s:ByteArray),s ∈ nnames fs→rank fs s≤r→∀ k k',r < k→r < k'→effN sh fs k s=effN sh fs k' s:=by
  intro r
  induction r using Nat.strongRecOn with
  | _ r ih =>
    intro s hs hr k k' hk hk'
    match k,k',hk,hk' with
    | k+1,k'+1,hk,hk' =>
      rw [effN,effN]
      refine effSs_same _ _ fun q hq c hc=>?_
      have h1:=calls_in hq hc
      have h2:=rank_lt fs hO hN hs h1
      exact ih (rank fs c) (by omega) c (hO s hs c h1) (Nat.le_refl _) k k' (by omega) (by omega)
theorem effF_eq (e:En) (hO:Own e.funcs) (hN:NoRing e.funcs) (s:ByteArray) (hs:s ∈ nnames e.funcs):effF e s=effSs (fnames e.shared) (effF e) noE (St.flats false (bodyN e.funcs s)):=by
  unfold effF
  conv=>lhs;rw [effN]
  refine effSs_same _ _ fun q hq c hc=>?_
  have h1:=calls_in hq hc
  have h2:=rank_lt e.funcs hO hN hs h1
  have h3:=rank_le e.funcs s
  exact effN_stable _ _ hO hN (rank e.funcs c) c (hO s hs c h1) (Nat.le_refl _) _ _ (by omega) (by omega)
theorem ringN_none (fs:List Fn):∀ (l:List Fn) (i:Nat),ringN fs l i=none→∀ f ∈ l,ringAt fs f.name=false
  | [],_,_,f,hf=>by cases hf
  | a :: r,i,h,f,hf=>by
    rw [ringN] at h
    split at h
    · cases h
    rename_i ha
    rcases List.mem_cons.1 hf with rfl|hf
    · simpa using ha
    · exact ringN_none fs r (i+1) h f hf
theorem noRing_of (fs:List Fn) (hO:Own fs) (h:ringN fs fs 0=none):NoRing fs:=by
  intro n hn
  obtain⟨f,hf,rfl⟩:=List.mem_map.1 hn
  exact no_way fs hO f.name hn (ringN_none fs fs 0 h f hf)
end Go.Proofs.YtdhieihcmnpneaaGreatDoor
