/- Words are 1 to how many shared variables there are, places 0 to a record's size less 1, each once, and functions and threads make no difference: the statement on package shape. The listed variables of the library are tied to the text of the program (the pruned copy that the translation holds); no other condition. -/
import Derived.Test.YtcibiiddigpnfaaGreatDoorRows
import Derived.Test.YtcibiiddigpnfaaGreatDoorCards
import Derived.Test.YtcibiiddigpnfaaGreatDoorTie
import Derived.Test.YtcibiiddigpnfaaGreatDoorShpLaid
import Derived.Test.YtcibiiddigpnfaaGreatDoorTypGrow
import Derived.Test.YtcibiiddigpnfaaGreatDoorShpLaw
import Derived.SevenTiedAt
namespace Go.Proofs.YtcibiiddigpnfaaGreatDoor
set_option maxRecDepth 100000
open Go.ChangeShapes Go.WideShapes Go.ChangeAt Go.WideMaps Go.WideElems Go.RowKit
open Go.Joins
theorem shapeWhole_lifted (os : Os) (started : os.Started) (H : Type) (enc : TypeId × Value → H) :
    ReturnsInHanded {} Tryz.checked os 5 .any (fun w args => (Rows.shapeWholeSpec.pre enc Tryz.prog Tryz.f5 [] false w args ∧ laidMetH Tryz.prog Rows.shapeWholeRow.laid w) ∧ sizedMet enc Tryz.prog Tryz.f5 (OpenSpec.ofChange Rows.shapeWholeSpec) false w args)
      (Rows.shapeWholeSpec.post enc Tryz.prog Tryz.f5 false true false false) := by
  refine returnsInHanded_of_change_and (C := Tryz.checked) (X := fun w _ => laidMetH Tryz.prog Rows.shapeWholeRow.laid w) (fun _ _ _ hh h => h.of_heap hh) ownS started (by kernel_rfl) Tryz.func5
    (ChangeSpec.witness_shaped (enc := enc) (C := Tryz.checked) (os := os) (X := fun w _ => laidMetH Tryz.prog Rows.shapeWholeRow.laid w) false (World.doorLaid Tryz.prog 400 os) #[.agg #[.slice none 0 0, .slice none 0 0, .slice none 0 0, .slice none 0 0]] 8 rfl (World.shaped_of_RefB (by kernel_rfl) (by kernel_rfl)) (by kernel_rfl) (by kernel_rfl) (by kernel_rfl) (doorS_met os _)) ?_
  intro W base args ds gs before hval0 hW _ hz0 hL _
  have hG := tabS_of_laid hL
  have hval : ∀ (j : Nat) t v, Tryz.f5.params[j]? = some t → args[j]? = some v → Value.okWide Tryz.prog W .any base t v := hval0
  have hW' := hW
  obtain ⟨p, q, hA0, hV, rfl, _, _⟩ := hW
  have hA : DataW.TrodAll enc Tryz.prog W 0 (fun _ => true) true Tryz.f5.params.toList args.toList ds p := hA0
  rw [Tryz.params5] at hA hval
  obtain ⟨v0, d0, rfl, rfl, h0⟩ := trodAll_one hA
  obtain ⟨rfl, rfl⟩ := trodVars_none hV
  have hlt0 : ∀ x ∈ p, x.block < W.heap.size := by
    obtain ⟨fuel, hf⟩ := h0
    exact DataW.trod_lt _ _ _ _ hf
  have hkeep0 : ∀ W', Below W.heap.size W W' → DataW.Trod enc Tryz.prog W' 0 (fun b => decide (b < W.heap.size)) true 27 v0 d0 p :=
    fun W' hb => Below.trod (by kernel_rfl) (by kernel_rfl) (of_decide_eq_true (by kernel_rfl)) h0 hb hlt0
  have hw0 : Wt 27 d0 := fun n hn => by have := List.all_eq_true.1 hz0 n (DataW.weights_mem_each (j := 0) (t := 27) rfl rfl n hn); simpa using this
  obtain ⟨cs0, rfl, -⟩ := okWide_struct Tryz.underlying27 (hval 0 27 v0 rfl rfl)
  obtain ⟨P, rfl, hIP⟩ : ∃ P : Pr, cs0 = #[P.e.rv, P.e.sv, P.e.fv, P.tv] ∧ PIn W W.heap.size P := by
    obtain ⟨fuel, hf⟩ := h0
    obtain ⟨P, hc, hi⟩ := open_prog fuel _ _ hf hw0
    refine ⟨P, ?_, hi⟩
    have hc2 : cs0.toList = P.cells := by simpa [Value.cells] using hc
    apply Array.toList_inj.1
    rw [hc2]
    rfl
  clear hA0 hval0 hL hz0
  simp only [List.append_nil] at hW'
  refine (shape_law P W hIP hG).mono fun e W' ⟨he, hnx⟩ => ?_
  subst he
  refine ⟨_, rfl, _, _, _, [], _, [], hW', ?_, trodAll_mk1 (hkeep0 W' hnx), rfl, hnx.frame _, fun h => by cases h⟩
  exact trodAll_mk1 (shut_bool Tryz.underlying4 _)
theorem shapeWhole_row : Rows.ShapeWholeSaid :=
  OpenClaim.holds_of_wide 5 Tryz.f5 rfl rfl rfl rfl rfl rfl rfl ⟨rfl, rfl, rfl, rfl, rfl⟩ rfl rfl rfl rfl rfl (by kernel_rfl) Tryz.func5 (by kernel_rfl)
    (of_decide_eq_true (by kernel_rfl)) (by unfold Func.isWrapper; first | (rw [if_pos (by decide +kernel)]; kernel_rfl) | (rw [if_neg (by decide +kernel)]; exact ⟨rfl, rfl⟩))
    (fun os started H enc _ => shapeWhole_lifted os started H enc)
theorem shapeWhole_holds : Rows.ShapeWholeCardSaid :=
  Claim7.holds_tied_plain_at .later [] [.data, .data, .data] true Rows.shapeWholeCard.stood.harness true
    shapeWhole_row (fun _ h => by cases h) (by kernel_rfl) (fun _ h => by cases h) shapeWhole_row_tie rfl ⟨rfl, rfl⟩ (by kernel_rfl) rfl
    (fun f fn hf hfn => by
      obtain rfl : f = 5 := Option.some.inj ((show Tryz.prog.funcNamed Rows.shapeWholeRow.func = some 5 by kernel_rfl).symm.trans hf) |>.symm
      obtain rfl : fn = Tryz.f5 := (Option.some.inj (Tryz.func5.symm.trans hfn)).symm
      exact ⟨by kernel_rfl, fun j t ht => by
        rw [Tryz.params5] at ht
        have hm : t ∈ [27] := by simpa using Array.mem_of_getElem? ht
        have hall : ([27].all fun u => !Tryz.prog.wantsStandIn u) = true := by kernel_rfl
        exact (show Tryz.prog.wantsStandIn t = false by simpa using List.all_eq_true.1 hall t hm)⟩)
    (by kernel_rfl)
end Go.Proofs.YtcibiiddigpnfaaGreatDoor
