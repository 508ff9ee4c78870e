/- Maps by name: a store under a name that is there, and one that is not; what package effect keeps of functions. -/
import Derived.Test.YtdhieihcmnpneaaGreatDoorRows
import Derived.Test.YtdhieihcmnpneaaGreatDoorGEff
import Derived.Test.YtdhieihcmnpneaaGreatDoorEffStm
import Derived.Test.YtdhieihcmnpneaaGreatDoorTypNames
import Derived.Test.YtdhieihcmnpneaaGreatDoorGFits
namespace Go.Proofs.YtdhieihcmnpneaaGreatDoor
open Go.RowKit
set_option maxRecDepth 100000
theorem find_at (k:ByteArray):∀ (l:List (ByteArray × Value)) (n i0 j:Nat) (old:Value),Instr.findNow .string (.string k) (entsT n l) i0=some (some (j,old)) →
    ∃ i,j=i0+i∧i < l.length∧l[i]? = some (k,old)∧∀ v s,lookT s (l.set i (k,v))=if s=k then some v else lookT s l
  | [],n,i0,j,old,h=>by cases h
  | (k0,v0) :: r,n,i0,j,old,h=>by
    by_cases hk:k=k0
    · subst hk
      simp [entsT,Instr.findNow,same_text] at h
      obtain⟨rfl,rfl⟩:=h
      refine⟨0,rfl,by simp,rfl,fun v s=>?_⟩
      simp only [List.set_cons_zero,lookT]
      split <;> rfl
    · have h2:Instr.findNow .string (.string k) (entsT (n+1) r) (i0+1)=some (some (j,old)):=by
        simpa [entsT,Instr.findNow,same_text,hk] using h
      obtain⟨i,e,hi,hg,hl⟩:=find_at k r (n+1) (i0+1) j old h2
      refine⟨i+1,by omega,by simp;omega,by simpa using hg,fun v s=>?_⟩
      simp only [List.set_cons_succ,lookT]
      by_cases hs:s=k0
      · subst hs
        rw [if_pos rfl,if_neg (fun e=>hk e.symm),if_pos rfl]
      · rw [if_neg hs,hl,if_neg hs]
theorem ents_set (k:ByteArray) (v:Value):∀ (l:List (ByteArray × Value)) (n i:Nat),i < l.length→(entsT n l).modify i (fun e=>{ e with key:=.string k,val:=v })=entsT n (l.set i (k,v))
  | [],_,_,h=>by simp at h
  | (k0,v0) :: r,n,0,_=>rfl
  | (k0,v0) :: r,n,i+1,h=>by
    show _ :: (entsT (n+1) r).modify i _=_ :: entsT (n+1) (r.set i (k,v))
    rw [ents_set k v r (n+1) i (by simpa using h)]
section
variable {P:Program} {t kt et:TypeId}
theorem run_updT (ht:P.underlying t=some (.map kt et)) (hk:P.underlying kt=some .string) {w:World} {b:Nat} {l:List (ByteArray × Value)} (h:IsMapT w b l) (k:ByteArray) (v:Value) :
    ∃ w' l',(Instr.mapUpdate t (.map (some b)) (.string k) v).run P w = .ok () w'∧IsMapT w' b l'∧(∀ s,lookT s l'=if s=k then some v else lookT s l)∧w.grownBy w' (some b):=by
  cases hv:lookT k l with
  | none =>
    obtain⟨w',h1,h2,h3⟩:=run_putT ht hk h k v hv
    refine⟨w',_,h1,h2,fun s=>?_,h3⟩
    rw [lookT_snoc]
    by_cases hs:s=k
    · subst hs;rw [hv]
    · simp only [if_neg hs]
      cases lookT s l <;> rfl
  | some v0 =>
    have hlt:=h.lt
    obtain⟨es,clock,hb,he,hcl⟩:=h
    obtain⟨o,h1,h2⟩:=find_entsT k l 0 0
    rw [hv] at h2
    obtain⟨⟨j,v'⟩,rfl,rfl⟩:=Option.map_eq_some_iff.1 h2
    obtain⟨i,hi,hil,hg,hl⟩:=find_at k l 0 0 j v' h1
    obtain rfl:j=i:=by omega
    have hf:=MapKept.run_findKey (P:=P) (w:=w) hk h1
    have hc:=MapKept.run_checkKey (P:=P) (w:=w) (k:=.string k) hk (by trivial) false 9999
    have hst:=MapKept.run_keyThatStays (P:=P) (w:=w) (d:=.string) (k:=.string k) (by trivial)
    rw [← he] at hf
    have hkey:((es[j]?).map (·.key)).getD (.string k) = .string k:=by
      have hj:es[j]? = es.toList[j]?:=by simp
      rw [hj,he]
      have:∀ (l:List (ByteArray × Value)) (n i:Nat) (x:ByteArray × Value),l[i]? = some x→(entsT n l)[i]?.map (·.key)=some (.string x.1):=by
        intro l
        induction l with
        | nil=>intro n i x h;simp at h
        | cons a r ih =>
          intro n i x h
          obtain⟨ak,av⟩:=a
          cases i with
          | zero=>simp at h;subst h;rfl
          | succ i=>exact ih (n+1) i x (by simpa using h)
      rw [this l 0 j (k,v') hg];rfl
    refine⟨{ w with heap:=w.heap.setIfInBounds b (.map (es.modify j fun e=>{ e with key:=.string k,val:=v }) clock) },l.set j (k,v), ?_,⟨es.modify j fun e=>{ e with key:=.string k,val:=v },clock, ?_, ?_, ?_⟩,hl v,⟨rfl,rfl,rfl,by simp,fun i _ hi=>?_⟩⟩
    · simp [Instr.mapUpdate,run_underlying ht,MapKept.run_getObj_map hb,hc,hf,hkey,hst,MapKept.run_setObj_map _ hb,Result.andThen]
    · simp [hlt]
    · rw [Array.toList_modify,he,ents_set k v l 0 j hil]
    · simp [hcl]
    · simp only [Array.getElem?_setIfInBounds]
      rw [if_neg (fun e=>hi (by rw [e]))]
end
theorem Wr.of_grown {S:Nat→Prop} {b:Nat} {w w':World} (h:w.grownBy w' (some b)) (hS:S b):Wr S w w':=by
  exact⟨h.os,h.tape,h.output,h.size,fun g hg hs=>h.block g hg (fun e=>hs (by cases e;exact hS))⟩
theorem Wr.mono {S S':Nat→Prop} {w w':World} (h:Wr S w w') (k:∀ g,S g→S' g):Wr S' w w':=⟨h.os,h.tape,h.output,h.size,fun g h1 h2=>h.block g h1 fun h3=>h2 (k g h3)⟩
theorem Wr.of_put {S:Nat→Prop} {b:Nat} {o:Obj} {w w':World} (h:Put b o w w') (hS:S b):Wr S w w':=
  ⟨h.os,h.tape,h.output,by rw [h.size];exact Nat.le_refl _,fun g _ h2=>h.rest g (fun e=>h2 (by rw [e];exact hS))⟩
theorem uSetF:Tryz.prog.underlying 79=some (.map 9 84):=Tryz.underlying79
theorem uBodF:Tryz.prog.underlying 80=some (.map 9 31):=Tryz.underlying80
theorem uEffF:Tryz.prog.underlying 81=some (.map 9 54):=Tryz.underlying81
theorem zeroUF (w:World):(zeroValue 84).run Tryz.prog w = .ok (.agg #[]) w:=by kernel_rfl
theorem zeroBF (w:World):(zeroValue 31).run Tryz.prog w = .ok (.slice none 0 0) w:=by kernel_rfl
theorem zeroEF (w:World):(zeroValue 54).run Tryz.prog w = .ok (.int .u8 0) w:=by kernel_rfl
def IsSt (w:World) (m:Nat) (Q:ByteArray→Bool):Prop:=∃ kv,IsMapT w m kv∧∀ s,lookT s kv=if Q s=true then some (.agg #[]) else none
theorem IsSt.of {w w':World} {m:Nat} {Q:ByteArray→Bool} (h:IsSt w m Q) (e:w'.heap[m]? = w.heap[m]?):IsSt w' m Q:=by obtain⟨kv,h,h2⟩:=h;exact⟨kv,h.of e,h2⟩
theorem IsSt.lt {w:World} {m:Nat} {Q:ByteArray→Bool} (h:IsSt w m Q):m < w.heap.size:=by obtain⟨kv,h,_⟩:=h;exact h.lt
theorem look_st {w:World} {m:Nat} {Q:ByteArray→Bool} (h:IsSt w m Q) (s:ByteArray) (W:World) (hW:W.heap[m]? = w.heap[m]?) :
    (Instr.lookup 79 (.map (some m)) (.string s) true).run Tryz.prog W = .ok (.tuple #[.agg #[],.bool (Q s)]) W:=by
  obtain⟨kv,h,h2⟩:=h
  have h3:=h2 s
  cases hq:Q s with
  | false=>rw [hq,if_neg (by decide)] at h3;exact run_lookT_none uSetF uKeyN (h.of hW) true s _ (zeroUF W) h3
  | true=>rw [hq,if_pos rfl] at h3;exact run_lookT uSetF uKeyN (h.of hW) true s _ h3
def bvN (fs:List Fn) (s:ByteArray):Value:=((fnN fs s).map (·.bv)).getD (.slice none 0 0)
def IsBd (w:World) (m:Nat) (fs:List Fn):Prop:=∃ kv,IsMapT w m kv∧∀ s,lookT s kv=(fnN fs s).map (·.bv)
theorem IsBd.of {w w':World} {m:Nat} {fs:List Fn} (h:IsBd w m fs) (e:w'.heap[m]? = w.heap[m]?):IsBd w' m fs:=by obtain⟨kv,h,h2⟩:=h;exact⟨kv,h.of e,h2⟩
theorem IsBd.lt {w:World} {m:Nat} {fs:List Fn} (h:IsBd w m fs):m < w.heap.size:=by obtain⟨kv,h,_⟩:=h;exact h.lt
theorem look_bd {w:World} {m:Nat} {fs:List Fn} (h:IsBd w m fs) (s:ByteArray) (W:World) (hW:W.heap[m]? = w.heap[m]?) :
    (Instr.lookup 80 (.map (some m)) (.string s) false).run Tryz.prog W = .ok (bvN fs s) W:=by
  obtain⟨kv,h,h2⟩:=h
  have h3:=h2 s
  unfold bvN
  cases hq:fnN fs s with
  | none=>rw [hq] at h3;exact run_lookT_none uBodF uKeyN (h.of hW) false s _ (zeroBF W) h3
  | some f=>rw [hq] at h3;exact run_lookT uBodF uKeyN (h.of hW) false s _ h3
def IsMt (w:World) (m:Nat) (e:En):Prop:=∃ kv,IsMapT w m kv∧∀ s v,lookT s kv=some v→v = .int .u8 (effF e s).val
theorem IsMt.of {w w':World} {m:Nat} {e:En} (h:IsMt w m e) (q:w'.heap[m]? = w.heap[m]?):IsMt w' m e:=by obtain⟨kv,h,h2⟩:=h;exact⟨kv,h.of q,h2⟩
theorem IsMt.lt {w:World} {m:Nat} {e:En} (h:IsMt w m e):m < w.heap.size:=by obtain⟨kv,h,_⟩:=h;exact h.lt
theorem look_mt {w:World} {m:Nat} {e:En} (h:IsMt w m e) (s:ByteArray):∃ r:Bool,∀ W,W.heap[m]? = w.heap[m]? →
    (Instr.lookup 81 (.map (some m)) (.string s) true).run Tryz.prog W = .ok (.tuple #[.int .u8 (if r=true then (effF e s).val else 0),.bool r]) W:=by
  obtain⟨kv,h,h2⟩:=h
  cases hq:lookT s kv with
  | none=>exact⟨false,fun W hW=>run_lookT_none uEffF uKeyN (h.of hW) true s _ (zeroEF W) hq⟩
  | some v =>
    obtain rfl:=h2 s v hq
    exact⟨true,fun W hW=>run_lookT uEffF uKeyN (h.of hW) true s _ hq⟩
theorem put_mt {w:World} {m:Nat} {e:En} (h:IsMt w m e) (s:ByteArray):∃ w',(Instr.mapUpdate 81 (.map (some m)) (.string s) (.int .u8 (effF e s).val)).run Tryz.prog w = .ok () w'∧IsMt w' m e∧w.grownBy w' (some m):=by
  obtain⟨kv,h,h2⟩:=h
  obtain⟨w',l',h3,h4,h5,h6⟩:=run_updT (P:=Tryz.prog) uEffF uKeyN h s (.int .u8 (effF e s).val)
  refine⟨w',h3,⟨l',h4,fun q v hq=>?_⟩,h6⟩
  rw [h5] at hq
  split at hq
  · rename_i hs;cases hq;rw [hs]
  · exact h2 q v hq
structure Ds (e:En) (B d ms mb mm:Nat) (w:World):Prop where
  own:w.heap[d]? = some (.cells #[.map (some ms),.map (some mb),.map (some mm)] 83 (0,0))
  shared:IsSt w ms (fun s=>has s (fnames e.shared))
  bodies:IsBd w mb e.funcs
  met:IsMt w mm e
  nd:mm ≠ d
  ns:mm ≠ ms
  nb:mm ≠ mb
  far:B≤mm
theorem Ds.lt {e:En} {B d ms mb mm:Nat} {w:World} (h:Ds e B d ms mb mm w):d < w.heap.size∧ms < w.heap.size∧mb < w.heap.size∧mm < w.heap.size:=⟨(Array.getElem?_eq_some_iff.1 h.own).1,h.shared.lt,h.bodies.lt,h.met.lt⟩
theorem Ds.after {e:En} {B d ms mb mm:Nat} {w w':World} {S:Nat→Prop} (h:Ds e B d ms mb mm w) (k:Wr S w w') (hS:∀ g,S g→g ≠ d∧g ≠ ms∧g ≠ mb) (hm:IsMt w' mm e):Ds e B d ms mb mm w':=by
  obtain⟨l1,l2,l3,l4⟩:=h.lt
  exact⟨(k.block d l1 fun q=>(hS d q).1 rfl).trans h.own,h.shared.of (k.block ms l2 fun q=>(hS ms q).2.1 rfl),h.bodies.of (k.block mb l3 fun q=>(hS mb q).2.2 rfl),hm,h.nd,h.ns,h.nb,h.far⟩
theorem Ds.keeps {e:En} {B d ms mb mm:Nat} {w w':World} (h:Ds e B d ms mb mm w) (k:Below w.heap.size w w'):Ds e B d ms mb mm w':=
  h.after (S:=fun _=>False) (Wr.of_below k) (fun _g hg=>hg.elim) (h.met.of (k.block _ h.lt.2.2.2))
end Go.Proofs.YtdhieihcmnpneaaGreatDoor
