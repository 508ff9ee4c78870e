/- Pure: a program that may be, may be with less in it; what has gone before does not matter but for the count. -/
import Derived.Test.YtdhieihcmnpneaaGreatDoorGPlaces
namespace Go.Proofs.YtdhieihcmnpneaaGreatDoor
open Go.RowKit
end Go.Proofs.YtdhieihcmnpneaaGreatDoor
/- Pure: where a list of statements begins moves the places of its faults, and nothing else. -/
namespace Go.Proofs.YtdhieihcmnpneaaGreatDoor
open Go.RowKit
end Go.Proofs.YtdhieihcmnpneaaGreatDoor
/- Pure: where a fault stands among the threads. -/
namespace Go.Proofs.YtdhieihcmnpneaaGreatDoor
open Go.RowKit
inductive NoVar:St→Prop where
  | mk (h:Sh) (x y:X) (bv ev:Value) (b e:List St):(h.k=1→b = [] ∧ e = [])→(∀ a ∈ b,NoVar a)→(∀ a ∈ e,NoVar a)→NoVar (.mk h x y bv ev b e)
theorem novar_of {h:Sh} {x y:X} {b l:List St} (hf:sform h x y b.length l.length=0) (hk:h.k=1):b = [] ∧ l = []:=by
  unfold sform at hf
  rw [hk] at hf
  simp only [swants,wss] at hf
  simp at hf
  constructor
  · cases b with
    | nil=>rfl
    | cons a r=>simp at hf
  · cases l with
    | nil=>rfl
    | cons a r=>simp at hf
end Go.Proofs.YtdhieihcmnpneaaGreatDoor
/- Pure: where a fault stands in a program, and what is left of it where threads are taken away. -/
namespace Go.Proofs.YtdhieihcmnpneaaGreatDoor
open Go.RowKit
theorem recsT_err (e:En):∀ (l:List Rc) (i:Nat) (k:Int × Int),recsT e i l = .error k→k.1 < (i:Int)+l.length
  | [],_,_,h=>by cases h
  | r :: l,i,k,h=>by
    rw [recsT_cons] at h
    split at h
    · cases h;simp only [List.length_cons];push_cast;omega
    · have:=recsT_err e l (i+1) k h
      simp only [List.length_cons];push_cast at this ⊢;omega
theorem sharesT_err (e:En):∀ (l:List Fd) (i:Nat) (k:Int × Int),sharesT e i l = .error k→k.1 < (e.records.length:Int)+i+l.length
  | [],_,_,h=>by cases h
  | r :: l,i,k,h=>by
    rw [sharesT_cons] at h
    split at h
    · cases h;simp only [List.length_cons];push_cast;omega
    · have:=sharesT_err e l (i+1) k h
      simp only [List.length_cons];push_cast at this ⊢;omega
end Go.Proofs.YtdhieihcmnpneaaGreatDoor
/- Pure: the errors that the checker of types tells. -/
namespace Go.Proofs.YtdhieihcmnpneaaGreatDoor
open Go.RowKit
def Cd (k:Int):Prop:=k=8 ∨ k=9 ∨ k=10
theorem cd8:Cd 8:=.inl rfl
theorem cd9:Cd 9:=.inr (.inl rfl)
theorem cd10:Cd 10:=.inr (.inr rfl)
theorem namedT_code {e:En} {loc:List Fd} {s:ByteArray} {k:Int} (h:namedT e loc s = .error k):Cd k:=by
  unfold namedT at h
  repeat' split at h
  all_goals cases h
  all_goals exact cd9
theorem fieldT_code {e:En} {t:Ty} {s:ByteArray} {k:Int} (h:fieldT e t s = .error k):Cd k:=by
  unfold fieldT at h
  repeat' split at h
  all_goals cases h
  all_goals first|exact cd9|exact cd10
theorem elemT_code {t u:Ty} {k:Int} (h:elemT t u = .error k):Cd k:=by
  unfold elemT at h
  split at h
  · cases h;exact cd10
  split at h
  · cases h;exact cd10
  · cases h
theorem callT_code {e:En} {s:ByteArray} {ts:List Ty} {k:Int} (h:callT e s ts = .error k):Cd k:=by
  unfold callT at h
  repeat' split at h
  all_goals cases h
  all_goals first|exact cd9|exact cd10
theorem ownT_code {e:En} {loc:List Fd} {hd:Hd} {ts:List Ty} {k:Int} (h:ownT e loc hd ts = .error k):Cd k:=by
  unfold ownT at h
  split at h
  · cases h
  split at h
  · exact namedT_code h
  split at h
  · exact fieldT_code h
  split at h
  · exact elemT_code h
  split at h
  · split at h
    · cases h
    · cases h;exact cd9
  split at h
  · exact callT_code h
  split at h
  · split at h
    · cases h
    · cases h;exact cd10
  split at h
  · cases h
  · cases h;exact cd10
theorem valT_code {r:Except Int Ty} (hr:∀ k,r = .error k→Cd k) {k:Int} (h:valT r = .error k):Cd k:=by
  cases r with
  | error k'=>cases h;exact hr _ rfl
  | ok t =>
    unfold valT at h
    simp only at h
    split at h
    · cases h;exact cd10
    · cases h
theorem exprT_code (e:En) (loc:List Fd):∀ x,∀ k,exprT e loc x = .error k→Cd k:=by
  refine X.ind fun h s l ih k e1=>?_
  have key:∀ l:List X,(∀ a ∈ l,∀ k,exprT e loc a = .error k→Cd k)→∀ k,argsT e loc l = .error k→Cd k:=by
    intro l
    induction l with
    | nil=>intro _ k h;rw [argsT_nil] at h;cases h
    | cons a r ihr =>
      intro hl k h
      rw [argsT_cons] at h
      cases ha:valT (exprT e loc a) with
      | error k'=>rw [ha] at h;cases h;exact valT_code (hl a (by simp)) ha
      | ok t =>
        rw [ha] at h
        simp only at h
        cases hr:argsT e loc r with
        | error k'=>rw [hr] at h;cases h;exact ihr (fun b hb=>hl b (by simp [hb])) _ hr
        | ok ts=>rw [hr] at h;cases h
  rw [exprT_mk] at e1
  cases ha:argsT e loc l with
  | error k'=>rw [ha] at e1;cases e1;exact key l ih _ ha
  | ok ts=>rw [ha] at e1;exact ownT_code e1
theorem valueT_code {e:En} {loc:List Fd} {x:X} {k:Int} (h:valueT e loc x = .error k):Cd k:=valT_code (exprT_code e loc x) h
theorem declE_code (e:En) (loc:List Fd) (f:Fd) (h:declE e loc f ≠ 0):Cd (declE e loc f):=by
  unfold declE at h ⊢
  split
  · exact cd8
  split
  · rename_i h1 h2;rw [if_neg h1,if_pos h2] at h;exact absurd rfl h
  · exact cd9
theorem plainT_code {e:En} {res:Ty} {loc:List Fd} {h:Sh} {x y:X} {k:Int} (e1:plainT e res loc h x y = .error k):Cd k:=by
  unfold plainT at e1
  repeat' split at e1
  all_goals first
    | (cases e1;done)
    | (cases e1;first|exact cd10|exact declE_code _ _ _ (by assumption)|exact valueT_code (by assumption)|exact exprT_code _ _ _ _ (by assumption))
theorem stsT_code_of (e:En) (res:Ty) (l:List St) (hl:∀ a ∈ l,∀ loc p k,stT e res loc p a = .error k→Cd k.2):∀ loc p k,stsT e res loc p l = .error k→Cd k.2:=by
  induction l with
  | nil=>intro loc p k h;rw [stsT_nil] at h;cases h
  | cons a r ihr =>
    intro loc p k h
    rw [stsT_cons] at h
    cases ha:stT e res loc (p+1) a with
    | error k'=>rw [ha] at h;cases h;exact hl a (by simp) _ _ _ ha
    | ok q=>rw [ha] at h;exact ihr (fun b hb=>hl b (by simp [hb])) _ _ _ h
theorem stT_code (e:En) (res:Ty):∀ s,∀ loc p k,stT e res loc p s = .error k→Cd k.2:=by
  refine St.ind fun h x y bv ev b l ih1 ih2 loc p k e1=>?_
  rw [stT_mk] at e1
  cases hp:plainT e res loc h x y with
  | error k'=>rw [hp] at e1;cases e1;exact plainT_code hp
  | ok loc' =>
    rw [hp] at e1
    simp only at e1
    by_cases hk:h.k=1
    · rw [if_pos hk] at e1;cases e1
    · rw [if_neg hk] at e1
      cases hb:stsT e res loc p b with
      | error k'=>rw [hb] at e1;cases e1;exact stsT_code_of e res b ih1 _ _ _ hb
      | ok q =>
        rw [hb] at e1
        simp only at e1
        cases hl:stsT e res loc q l with
        | error k'=>rw [hl] at e1;cases e1;exact stsT_code_of e res l ih2 _ _ _ hl
        | ok q'=>rw [hl] at e1;cases e1
theorem stsT_code (e:En) (res:Ty) (l:List St):∀ loc p k,stsT e res loc p l = .error k→Cd k.2:=stsT_code_of e res l fun a _=>stT_code e res a
theorem fieldsE_code (e:En) (all:List ByteArray):∀ (l:List Fd) (j:Nat),fieldsE e all j l ≠ 0→Cd (fieldsE e all j l)
  | [],_,h=>absurd rfl h
  | f :: r,j,h=>by
    rw [fieldsE] at h ⊢
    split
    · exact cd8
    rename_i h1
    rw [if_neg h1] at h
    split
    · rename_i h2
      rw [if_pos h2] at h
      exact fieldsE_code e all r (j+1) h
    · exact cd9
theorem recsT_code (e:En):∀ (l:List Rc) (i:Nat) (k:Int × Int),recsT e i l = .error k→Cd k.2
  | [],_,_,h=>by cases h
  | r :: l,i,k,h=>by
    rw [recsT_cons] at h
    split at h
    · rename_i hr
      cases h
      simp only
      unfold recE at hr ⊢
      split
      · exact cd8
      · rename_i h1
        rw [if_neg h1] at hr
        exact fieldsE_code _ _ _ _ hr
    · exact recsT_code e l (i+1) k h
theorem sharesT_code (e:En):∀ (l:List Fd) (i:Nat) (k:Int × Int),sharesT e i l = .error k→Cd k.2
  | [],_,_,h=>by cases h
  | r :: l,i,k,h=>by
    rw [sharesT_cons] at h
    split at h
    · rename_i hr
      cases h
      simp only
      unfold shareE at hr ⊢
      split
      · exact cd8
      · rename_i h1
        rw [if_neg h1] at hr
        split
        · rename_i h2;rw [if_pos h2] at hr;exact absurd rfl hr
        · exact cd9
    · exact sharesT_code e l (i+1) k h
theorem parsT_code (e:En):∀ (l loc:List Fd) (k:Int),parsT e loc l = .error k→Cd k
  | [],_,_,h=>by cases h
  | f :: r,loc,k,h=>by
    rw [parsT] at h
    split at h
    · rename_i hd;cases h;exact declE_code _ _ _ hd
    · exact parsT_code e r _ k h
theorem fnT_code (e:En) (i:Nat) (p:Int) (f:Fn) (k:Int × Int) (h:fnT e i p f = .error k):Cd k.2:=by
  unfold fnT at h
  split at h
  · cases h;exact cd8
  split at h
  · rename_i hp;cases h;exact parsT_code _ _ _ _ hp
  split at h
  · exact stsT_code _ _ _ _ _ _ h
  · cases h;exact cd9
theorem fnsT_code (e:En):∀ (l:List Fn) (i:Nat) (p:Int) (k:Int × Int),fnsT e i p l = .error k→Cd k.2
  | [],_,_,_,h=>by cases h
  | f :: r,i,p,k,h=>by
    rw [fnsT_cons] at h
    cases ht:fnT e i (p+1) f with
    | error k'=>rw [ht] at h;cases h;exact fnT_code _ _ _ _ _ ht
    | ok u=>rw [ht] at h;exact fnsT_code e r (i+1) u k h
theorem thsT_code (e:En):∀ (l:List Th) (p:Int) (k:Int × Int),thsT e p l = .error k→Cd k.2
  | [],_,_,h=>by cases h
  | t :: r,p,k,h=>by
    rw [thsT_cons] at h
    cases ht:stsT e noT [] (p+1) t.list with
    | error k'=>rw [ht] at h;cases h;exact stsT_code _ _ _ _ _ _ ht
    | ok u=>rw [ht] at h;exact thsT_code e r u k h
theorem progT_code (P:Pr) (k:Int × Int) (h:progT P = .error k):Cd k.2:=by
  unfold progT headT at h
  cases hr:recsT P.e 0 P.e.records with
  | error k'=>rw [hr] at h;cases h;exact recsT_code _ _ _ _ hr
  | ok u =>
  rw [hr] at h
  simp only at h
  cases hs:sharesT P.e 0 P.e.shared with
  | error k'=>rw [hs] at h;cases h;exact sharesT_code _ _ _ _ hs
  | ok u =>
  rw [hs] at h
  simp only at h
  cases hf:fnsT P.e 0 ((P.e.records.length:Int)+P.e.shared.length - 1) P.e.funcs with
  | error k'=>rw [hf] at h;cases h;exact fnsT_code _ _ _ _ _ hf
  | ok u=>rw [hf] at h;exact thsT_code _ _ _ _ h
theorem typesT_ok (P:Pr) (h:(typesT P).2=0):∃ m q,chkP P = .ok m∧progT P = .ok q:=by
  unfold typesT at h
  cases hc:chkP P with
  | error k=>rw [hc] at h;simp at h
  | ok m =>
    rw [hc] at h
    simp only at h
    cases hp:progT P with
    | error k =>
      rw [hp] at h
      simp only at h
      rcases progT_code P k hp with e|e|e <;> (rw [e] at h;cases h)
    | ok q=>exact⟨m,q,rfl,rfl⟩
end Go.Proofs.YtdhieihcmnpneaaGreatDoor
