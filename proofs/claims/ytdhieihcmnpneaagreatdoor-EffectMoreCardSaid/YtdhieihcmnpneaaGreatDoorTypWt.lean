/- Short forms of the moves of a walk over a region that draws its order. Nothing here speaks of the program. -/
import Derived.OrdersHeld
import Derived.Deep.RegionHeld
import Derived.WalkKit
namespace Go.Proofs.YtdhieihcmnpneaaGreatDoor
open Go Go.RowKit
@[reducible] def gd (n:Nat):Edge:={ on:=n,ground:=Ground.data }
@[reducible] def gp (n:Nat):Edge:={ on:=n,ground:=Ground.phase }
@[reducible] def gc (n:Nat):Edge:={ on:=n,ground:=Ground.chain }
theorem wt {P:Program} {ops:Array Oper} {Q:Exit→Act→World→Prop} {md:Region.Mode} {S:World→Prop} {i:Nat} {oi:Oper} {v:Value} {fuel:Nat} {listed:Array Bool} {a:Act} {w:World}
    (hy:∀ W,S W→(execOp a.eval oi).run P W = .ok (.value v) W) (hS:S w)
    (h:wpAnyH P md ops Q S fuel (listed.setIfInBounds i true) (a.put oi.dst v) w)
    (hi:ops[i]? = some oi:=by rfl) (hs:Region.noSelect ops=true:=by kernel_rfl) (hf:Region.free md ops listed i=true:=by kernel_rfl) (hr:(Region.ready md ops listed).contains i=true:=by kernel_rfl)
    (hQ:∀ c a w,Q (.panic c) (a.put oi.dst v) w→Q (.panic c) a w:=by exact fun _ _ _ h=>h) (hw:Region.wanted oi (yielded ops a.tmps)=true:=by rfl):wpAnyH P md ops Q S (fuel+1) listed a w:=
  wpAnyH_take hi hs hf hr hQ (Or.inl ⟨hw,hy⟩) hS h
theorem q1 {α:Type} {l:List α} {i:Nat} {a:α}:l.toArray.setIfInBounds i a=(l.set i a).toArray:=List.setIfInBounds_toArray ..
theorem q2 {α:Type} {xs:List α} {b x:α}:(x :: xs).set 0 b=b :: xs:=rfl
theorem q3 {α:Type} {xs:List α} {n:Nat} {b x:α}:(x :: xs).set (n+1) b=x :: xs.set n b:=rfl
end Go.Proofs.YtdhieihcmnpneaaGreatDoor
