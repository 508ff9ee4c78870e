/- Graphs tell what the document says they tell, by any leaps, with any fuel: WalkRuns returns true whatever the graphs, the picks and the fuel: what walk.Run answers is what the run by definition answers, what was handed in stays as it was, and what is answered twice lies in memory of its own. The listed variables of the library are tied to the text of the program (the pruned copy that the translation holds); no other condition. -/
import Derived.Test.YtlboinokdhmacaaGreatDoorWkRunsLift
import Derived.Test.YtlboinokdhmacaaGreatDoorWkRunsFacts
namespace Go.Proofs.YtlboinokdhmacaaGreatDoor
set_option maxHeartbeats 64000000
set_option maxRecDepth 1000000
open Go.ChangeAt Go.ChangeShapes Go.Joins Go.RowKit Go.WideElems Go.WideMaps Go.WideShapes
theorem Xq:Rows.WalkRunsSaid:=
 OpenClaim.holds_of_wide 3 Tryz.f3 rfl rfl rfl rfl rfl rfl rfl ⟨rfl,rfl,rfl,rfl,rfl⟩ rfl rfl rfl rfl rfl (by kernel_rfl) Tryz.func3 Xt
  (of_decide_eq_true (by kernel_rfl)) (by unfold Func.isWrapper;first|(rw[if_pos (by decide +kernel)];kernel_rfl)|(rw[if_neg (by decide +kernel)];exact⟨rfl,rfl⟩))
  (fun os started H enc _=>Xr os started H enc)
theorem walkRuns_holds:Rows.WalkRunsCardSaid:=
 Claim7.holds_tied_plain_at .later [] [.data,.data,.data] true Rows.walkRunsCard.stood.harness false
  Xq (fun _ h=>by cases h) (by kernel_rfl) (fun _ h=>by cases h) walkRuns_row_tie rfl ⟨rfl,rfl⟩ (by kernel_rfl) rfl
  (fun f fn hf hfn=>by
   obtain rfl:f=3:=Option.some.inj ((show Tryz.prog.funcNamed Rows.walkRunsRow.func=some 3 by kernel_rfl).symm.trans hf) |>.symm
   obtain rfl:fn=Tryz.f3:=(Option.some.inj (Tryz.func3.symm.trans hfn)).symm
   exact⟨by kernel_rfl,fun j t ht=>by
    rw[Tryz.params3]at ht;have hm:t ∈ [24,25,3]:=by simpa using Array.mem_of_getElem? ht
    have hall:([24,25,3].all fun u=>!Tryz.prog.wantsStandIn u)=true:=by kernel_rfl
    exact (show Tryz.prog.wantsStandIn t=false by simpa using List.all_eq_true.1 hall t hm)⟩)
  (by kernel_rfl)
