/- Whatever graph and whatever picks are handed in: on the way through the graph that the picks tell each block is reached, begins on the side that the way says, has the one ahead of it among those that lie ahead, and has met the one that lies next on every way: FlowWays returns true for every input. No condition on anything. -/
import Derived.Test.YtgkjhnghibpeoaaRows
import Derived.Test.YtgkjhnghibpeoaaFlPicks
import Derived.Test.YtgkjhnghibpeoaaFlAlive
import Derived.ProofKit
import Derived.LaidMore
import Derived.OpenShut
import Derived.Carry
import Derived.SizedLaws
import Derived.JoinedOf
import Derived.JoinedAt
import Derived.Lib.SmallJoins
namespace Go.Proofs.Ytgkjhnghibpeoaa
open Go.ChangeShapes Go.WideShapes Go.ChangeAt Go.WideMaps Go.WideElems Go.RowKit

theorem own : ownKnob Try.prog.godebug = none := by kernel_rfl

set_option maxRecDepth 100000 in
theorem flowWays_lifted (os : Os) (started : os.Started) (H : Type) (enc : TypeId × Value → H) :
    ReturnsInHanded {} Try.checked os 3 .any (Rows.flowWaysSpec.pre6 enc Try.prog Try.f3 [] false)
      (Rows.flowWaysSpec.post enc Try.prog Try.f3 false true false false) := by
  refine returnsInHanded_of_change_sized (C := Try.checked) own started (by kernel_rfl) Try.func3
    (ChangeSpec.witness6 (enc := enc) (C := Try.checked) false ⟨#[], #[.agg #[.slice none 0 0, .int .i64 0, .slice none 0 0], .slice none 0 0], []⟩ 8 (by kernel_rfl) (by kernel_rfl) (by kernel_rfl) (by kernel_rfl)) ?_
  intro W base args ds gs before hval0 hW _ hz0 _
  have hval : ∀ (j : Nat) t v, Try.f3.params[j]? = some t → args[j]? = some v → Value.okWide Try.prog W .any base t v := hval0
  have hW' := hW
  obtain ⟨p, q, hA0, hV, rfl, _, _⟩ := hW
  have hA : DataW.TrodAll enc Try.prog W 0 (fun _ => true) true Try.f3.params.toList args.toList ds p := hA0
  rw [Try.params3] at hA hval
  obtain ⟨v0, v1, d0, d1, p0, p1, rfl, rfl, rfl, h0, h1⟩ := trodAll_two hA
  obtain ⟨rfl, rfl⟩ := trodVars_none hV
  have hlt : ∀ {t v d ps}, DataW.Trod enc Try.prog W 0 (fun _ => true) true t v d ps → ∀ x ∈ ps, x.block < W.heap.size := fun ⟨fuel, hf⟩ => DataW.trod_lt _ _ _ _ hf
  have hkeep : ∀ {t v d ps}, Try.prog.readableRec t = true → t < Try.prog.types.size → DataW.Trod enc Try.prog W 0 (fun _ => true) true t v d ps → ∀ W', Below W.heap.size W W' → DataW.Trod enc Try.prog W' 0 (fun b => decide (b < W.heap.size)) true t v d ps :=
    fun hr ht h W' hb => Below.trod (by kernel_rfl) hr ht h hb (hlt h)
  have hw0 : Wt 25 d0 := fun n hn => by have := List.all_eq_true.1 hz0 n (DataW.weights_mem_each (j := 0) (t := 25) rfl rfl n hn); simpa using this
  have hw1 : Wt 26 d1 := fun n hn => by have := List.all_eq_true.1 hz0 n (DataW.weights_mem_each (j := 1) (t := 26) rfl rfl n hn); simpa using this
  obtain ⟨cs0, rfl, -⟩ := okWide_struct Try.underlying25 (hval 0 25 v0 rfl rfl)
  obtain ⟨g, rfl, hIG⟩ : ∃ g : Gr, cs0 = #[g.rv, .int .i64 g.sites, g.bv] ∧ GIn W W.heap.size g := by
    obtain ⟨fuel, hf⟩ := h0
    obtain ⟨g, hc, hi⟩ := open_gr fuel _ _ hf hw0
    refine ⟨g, ?_, hi⟩
    have hc2 : cs0.toList = g.cells := by simpa [Value.cells] using hc
    apply Array.toList_inj.1
    rw [hc2]
    rfl
  have one : ∀ {v : Value} {d : DataW H} {ps : List MemPlace}, Value.okWide Try.prog W .any base 26 v → DataW.Trod enc Try.prog W 0 (fun _ => true) true 26 v d ps → Wt 26 d → ∃ l : List Int, PicIn W W.heap.size v l := by
    rintro v d ps ho ⟨fuel, hf⟩ hwt
    have hc : v.cells = #[v] := by
      obtain ⟨a, n, c, rfl⟩ := okWide_slice Try.underlying26 ho
      rfl
    exact open_pics fuel v _ (by simpa [hc] using hf) hwt
  obtain ⟨picks, hP⟩ := one (hval 1 26 v1 rfl rfl) h1 hw1
  clear hA0 hval0 hz0
  simp only [List.append_nil] at hW'
  refine (ways_law alive_call g W v1 picks hIG hP).mono fun e W' ⟨he, hnx⟩ => ?_
  subst he
  refine ⟨_, rfl, _, _, _, [], _, [], hW', ?_, trodAll_mk2 (hkeep (by kernel_rfl) (of_decide_eq_true (by kernel_rfl)) h0 W' hnx) (hkeep (by kernel_rfl) (of_decide_eq_true (by kernel_rfl)) h1 W' hnx), rfl, hnx.frame _, fun h => by cases h⟩
  exact trodAll_mk1 (shut_bool Try.underlying4 _)

/-- The given statement. -/
theorem flowWays_holds : Rows.FlowWaysSaid :=
  OpenClaim.holds_of_wide 3 Try.f3 rfl rfl rfl rfl rfl rfl rfl ⟨rfl, rfl, rfl, rfl, rfl⟩ rfl rfl rfl rfl rfl (by kernel_rfl) Try.func3 (by kernel_rfl)
    (of_decide_eq_true (by kernel_rfl)) (by unfold Func.isWrapper; first | (rw [if_pos (by decide +kernel)]; kernel_rfl) | (rw [if_neg (by decide +kernel)]; exact ⟨rfl, rfl⟩))
    (fun os started H enc _ => flowWays_lifted os started H enc)
end Go.Proofs.Ytgkjhnghibpeoaa
