/- Where nothing stands where it may not: no function both touches and opens, what opens tells, none with a result opens or tells. Nothing here speaks of the program. -/
import Derived.Test.YtcibiiddigpnfaaEffOwn
namespace Go.Proofs.Ytcibiiddigpnfaa
open Go Go.Lib
theorem firstT_none:∀ {l:List Bool},firstT l=none→∀ b ∈ l,b=false
  | [],_,b,hb=>by cases hb
  | a :: r,h,b,hb=>by
    rw [firstT] at h
    split at h
    · cases h
    rename_i ha
    rcases List.mem_cons.1 hb with rfl|hb
    · simpa using ha
    · exact firstT_none (Option.map_eq_none_iff.1 h) b hb
def OL (a:Ef):Prop:=a.o=true→a.l=true
theorem OL.or {a b:Ef} (h1:OL a) (h2:OL b):OL (a.or b):=by
  intro h
  simp only [Ef.or,Bool.or_eq_true] at h ⊢
  rcases h with h|h
  · exact .inl (h1 h)
  · exact .inr (h2 h)
theorem OL.lessIf {a:Ef} (h:OL a) (i:Bool):OL (a.lessIf i):=by
  unfold Ef.lessIf
  split
  · exact h
  · exact h
theorem effXs_OL {sh:List ByteArray} {E:ByteArray→Ef}:∀ (l:List X) (a:Ef),OL a→(∀ x ∈ l,x.hd.k=7→OL (E x.hd.name))→OL (effXs sh E a l)
  | [],a,h,_=>h
  | x :: r,a,h,hl=>by
    rw [effXs]
    refine effXs_OL r _ (h.or ?_) fun y hy=>hl y (List.mem_cons_of_mem _ hy)
    unfold effX
    split
    · split
      · intro h;cases h
      · intro h;cases h
    · split
      · intro h;cases h
      · split
        · exact hl x (by simp) (by assumption)
        · intro h;cases h
theorem effS_OL {sh:List ByteArray} {E:ByteArray→Ef} (s:St) (hl:∀ x ∈ s.exprs,x.hd.k=7→OL (E x.hd.name)):OL (effS sh E s):=by
  refine effXs_OL _ _ ?_ hl
  unfold effK
  split
  · intro _;rfl
  · split
    · intro _;rfl
    · intro h;cases h
theorem effSs_OL {sh:List ByteArray} {E:ByteArray→Ef}:∀ (l:List (St × Bool)) (a:Ef),OL a→(∀ q ∈ l,∀ x ∈ q.1.exprs,x.hd.k=7→OL (E x.hd.name))→OL (effSs sh E a l)
  | [],_,h,_=>h
  | q :: r,a,h,hl=>by
    rw [effSs]
    exact effSs_OL r _ (h.or ((effS_OL q.1 (hl q (by simp))).lessIf q.2)) fun z hz=>hl z (List.mem_cons_of_mem _ hz)
theorem body_at (P:Pr) (hF:Fits P) {f:Fn} (hf:f ∈ P.e.funcs):bodyN P.e.funcs f.name=f.body:=by
  unfold bodyN
  rw [hF.first f hf]
theorem callsN_at (P:Pr) (hF:Fits P) {f:Fn} (hf:f ∈ P.e.funcs):callsN P.e.funcs f.name=callsF f:=by
  unfold callsN
  rw [hF.first f hf]
theorem call_in {f:Fn} {q:St × Bool} {x:X} (hq:q ∈ St.flats false f.body) (hx:x ∈ q.1.exprs) (hk:x.hd.k=7):x.hd.name ∈ callsF f:=by
  unfold callsF
  refine List.mem_flatMap.2 ⟨q,hq, ?_⟩
  unfold callsX
  exact List.mem_map.2 ⟨x,List.mem_filter.2 ⟨hx,by simpa using hk⟩,rfl⟩
theorem effF_body (P:Pr) (hF:Fits P) (hN:NoRing P.e.funcs) {f:Fn} (hf:f ∈ P.e.funcs):effF P.e f.name=effSs (fnames P.e.shared) (effF P.e) noE (St.flats false f.body):=by
  rw [effF_eq P.e hF.own hN f.name (List.mem_map.2 ⟨f,hf,rfl⟩),body_at P hF hf]
theorem fn_OL (P:Pr) (hF:Fits P) (hN:NoRing P.e.funcs):∀ (r:Nat) (f:Fn),f ∈ P.e.funcs→rank P.e.funcs f.name≤r→OL (effF P.e f.name):=by
  intro r
  induction r using Nat.strongRecOn with
  | _ r ih =>
    intro f hf hr
    rw [effF_body P hF hN hf]
    refine effSs_OL _ _ (fun h=>by cases h) fun q hq x hx hk=>?_
    have h1:=call_in hq hx hk
    rw [← callsN_at P hF hf] at h1
    have hfn:f.name ∈ nnames P.e.funcs:=List.mem_map.2 ⟨f,hf,rfl⟩
    have h2:=rank_lt P.e.funcs hF.own hN hfn h1
    obtain⟨g,hg,hgn⟩:=List.mem_map.1 (hF.own f.name hfn _ h1)
    rw [← hgn] at h2 ⊢
    exact ih (rank P.e.funcs g.name) (by omega) g hg (Nat.le_refl _)
theorem effSs_o {sh:List ByteArray} {E:ByteArray→Ef}:∀ (l:List (St × Bool)) (a:Ef),(effSs sh E a l).o=true→a.o=true ∨ ∃ q ∈ l,(effS sh E q.1).o=true
  | [],_,h=>.inl h
  | q :: r,a,h=>by
    rw [effSs] at h
    rcases effSs_o r _ h with h|⟨z,hz,h⟩
    · simp only [Ef.or,Bool.or_eq_true] at h
      rcases h with h|h
      · exact .inl h
      · refine .inr ⟨q,by simp, ?_⟩
        unfold Ef.lessIf at h
        split at h
        · exact h
        · exact h
    · exact .inr ⟨z,List.mem_cons_of_mem _ hz,h⟩
structure FnGood (f:Fn) (a:Ef):Prop where
  both:¬ (a.t=true∧a.o=true)
  opens:a.o=true→a.l=true
  res:f.res.k ≠ 0→a.o=false∧a.l=false
theorem effect_whole (P:Pr) (h:effectT P=(0,0)):Fits P∧NoRing P.e.funcs∧∀ f ∈ P.e.funcs,FnGood f (effF P.e f.name):=by
  unfold effectT at h
  split at h
  · cases h
  rename_i h0
  have hF:=fits_of P (Classical.not_not.1 h0)
  cases hr:ringN P.e.funcs P.e.funcs 0 with
  | some i=>rw [hr] at h;exact absurd (congrArg Prod.snd h) (by simp)
  | none =>
    rw [hr] at h
    simp only at h
    have hN:=noRing_of P.e.funcs hF.own hr
    cases hb:firstT (bads P) with
    | some j=>rw [hb] at h;exact absurd (congrArg Prod.snd h) (by simp)
    | none =>
      have hall:=firstT_none hb
      have hmem:∀ f ∈ P.e.funcs,∀ b ∈ badsF P.e f,b=false:=fun f hf b hbm=>hall b (by
        unfold bads
        exact List.mem_append_left _ (List.mem_flatMap.2 ⟨f,hf,hbm⟩))
      refine⟨hF,hN,fun f hf=>?_⟩
      have hol:=fn_OL P hF hN _ f hf (Nat.le_refl _)
      have h1:=hmem f hf (decide (f.res.k ≠ 0) && (effF P.e f.name).l) (by unfold badsF;simp)
      refine⟨fun ⟨ht,ho⟩=>?_,hol,fun hk=>?_⟩
      · rw [effF_body P hF hN hf] at ho
        rcases effSs_o _ _ ho with ho|⟨q,hq,ho⟩
        · cases ho
        · have h2:=hmem f hf (badF P.e f q) (by unfold badsF;exact List.mem_cons_of_mem _ (List.mem_map.2 ⟨q,hq,rfl⟩))
          unfold badF at h2
          have ho2:(effOne P.e q.1).o=true:=ho
          rw [ho2,ht] at h2
          simp at h2
      · have hl:(effF P.e f.name).l=false:=by
          have hd:decide (f.res.k ≠ 0)=true:=by simpa using hk
          rw [hd] at h1
          simpa using h1
        refine⟨?_,hl⟩
        cases ho:(effF P.e f.name).o with
        | false=>rfl
        | true=>have:=hol ho;rw [hl] at this;cases this
end Go.Proofs.Ytcibiiddigpnfaa
