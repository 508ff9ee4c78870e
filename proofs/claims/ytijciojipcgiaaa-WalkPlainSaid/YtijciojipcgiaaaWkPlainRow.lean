/- With the transaction's loads and stores in place of own ones a run tells the same, and is not strange: WalkPlain returns true whatever the graphs, the picks and the fuel. No condition on anything. -/
import Derived.Test.YtijciojipcgiaaaRows
import Derived.Test.YtijciojipcgiaaaWkPicks
import Derived.Test.YtijciojipcgiaaaWkPlainLaw
import Derived.Test.YtijciojipcgiaaaWkLives
import Derived.ProofKit
import Derived.LaidMore
import Derived.OpenShut
import Derived.Carry
import Derived.SizedLaws
import Derived.JoinedOf
import Derived.JoinedAt
import Derived.Lib.SmallJoins
namespace Go.Proofs.Ytijciojipcgiaaa
open Go.ChangeShapes Go.WideShapes Go.ChangeAt Go.WideMaps Go.WideElems Go.RowKit

theorem own : ownKnob Try.prog.godebug = none := by kernel_rfl

set_option maxRecDepth 100000 in
theorem walkPlain_lifted (os : Os) (started : os.Started) (H : Type) (enc : TypeId × Value → H) :
    ReturnsInHanded {} Try.checked os 4 .any (Rows.walkPlainSpec.pre6 enc Try.prog Try.f4 [] false)
      (Rows.walkPlainSpec.post enc Try.prog Try.f4 false true false false) := by
  refine returnsInHanded_of_change_sized (C := Try.checked) own started (by kernel_rfl) Try.func4
    (ChangeSpec.witness6 (enc := enc) (C := Try.checked) false ⟨#[], #[.agg #[.int .i64 0, .slice none 0 0], .slice none 0 0, .int .i64 0], []⟩ 8 (by kernel_rfl) (by kernel_rfl) (by kernel_rfl) (by kernel_rfl)) ?_
  intro W base args ds gs before hval0 hW _ hz0 _
  have hval : ∀ (j : Nat) t v, Try.f4.params[j]? = some t → args[j]? = some v → Value.okWide Try.prog W .any base t v := hval0
  have hW' := hW
  obtain ⟨p, q, hA0, hV, rfl, _, _⟩ := hW
  have hA : DataW.TrodAll enc Try.prog W 0 (fun _ => true) true Try.f4.params.toList args.toList ds p := hA0
  rw [Try.params4] at hA hval
  obtain ⟨v0, v1, v3, d0, d1, d3, p0, p1, p3, rfl, rfl, rfl, h0, h1, h3⟩ := trodAll_three hA
  obtain ⟨rfl, rfl⟩ := trodVars_none hV
  have hlt : ∀ {t v d ps}, DataW.Trod enc Try.prog W 0 (fun _ => true) true t v d ps → ∀ x ∈ ps, x.block < W.heap.size := fun ⟨fuel, hf⟩ => DataW.trod_lt _ _ _ _ hf
  have hkeep : ∀ {t v d ps}, Try.prog.readableRec t = true → t < Try.prog.types.size → DataW.Trod enc Try.prog W 0 (fun _ => true) true t v d ps → ∀ W', Below W.heap.size W W' → DataW.Trod enc Try.prog W' 0 (fun b => decide (b < W.heap.size)) true t v d ps :=
    fun hr ht h W' hb => Below.trod (by kernel_rfl) hr ht h hb (hlt h)
  have hw0 : Wt 24 d0 := fun n hn => by have := List.all_eq_true.1 hz0 n (DataW.weights_mem_each (j := 0) (t := 24) rfl rfl n hn); simpa using this
  have hw1 : Wt 25 d1 := fun n hn => by have := List.all_eq_true.1 hz0 n (DataW.weights_mem_each (j := 1) (t := 25) rfl rfl n hn); simpa using this
  obtain ⟨cs0, rfl, -⟩ := okWide_struct Try.underlying24 (hval 0 24 v0 rfl rfl)
  obtain ⟨c, rfl, hIC⟩ : ∃ c : Cd, cs0 = #[.int .i64 c.words, c.tv] ∧ CIn W W.heap.size c := by
    obtain ⟨fuel, hf⟩ := h0
    obtain ⟨c, hc, hi, hp⟩ := open_cd fuel _ _ hf hw0
    refine ⟨c, ?_, hi⟩
    have hc2 : cs0.toList = c.cells := by simpa [Value.cells] using hc
    apply Array.toList_inj.1
    rw [hc2]
    rfl
  have one : ∀ {v : Value} {d : DataW H} {ps : List MemPlace}, Value.okWide Try.prog W .any base 25 v → DataW.Trod enc Try.prog W 0 (fun _ => true) true 25 v d ps → Wt 25 d → ∃ l : List Int, PickIn W W.heap.size v l := by
    rintro v d ps ho ⟨fuel, hf⟩ hwt
    have hc : v.cells = #[v] := by
      obtain ⟨a, n, c, rfl⟩ := okWide_slice Try.underlying25 ho
      rfl
    exact open_picks fuel v _ (by simpa [hc] using hf) hwt
  obtain ⟨picks, hP⟩ := one (hval 1 25 v1 rfl rfl) h1 hw1
  obtain ⟨k, rfl, rfl, rfl, wk⟩ := open_int Try.underlying3 (hval 2 3 v3 rfl rfl) h3
  clear hA0 hval0 hz0
  simp only [List.append_nil] at hW'
  refine (plain_law lives_call c W v1 picks k hIC hP (wf_i64 wk)).mono fun e W' ⟨he, hnx⟩ => ?_
  subst he
  have hps : p0 ++ (p1 ++ []) = p0 ++ p1 := by simp
  refine ⟨_, rfl, _, _, _, [], _, [], hW', ?_, hps ▸ trodAll_mk3 (hkeep (by kernel_rfl) (of_decide_eq_true (by kernel_rfl)) h0 W' hnx) (hkeep (by kernel_rfl) (of_decide_eq_true (by kernel_rfl)) h1 W' hnx) (shut_int Try.underlying3 wk), rfl, hnx.frame _, fun h => by cases h⟩
  exact trodAll_mk1 (shut_bool Try.underlying4 _)

/-- The given statement. -/
theorem walkPlain_holds : Rows.WalkPlainSaid :=
  OpenClaim.holds_of_wide 4 Try.f4 rfl rfl rfl rfl rfl rfl rfl ⟨rfl, rfl, rfl, rfl, rfl⟩ rfl rfl rfl rfl rfl (by kernel_rfl) Try.func4 (by kernel_rfl)
    (of_decide_eq_true (by kernel_rfl)) (by unfold Func.isWrapper; first | (rw [if_pos (by decide +kernel)]; kernel_rfl) | (rw [if_neg (by decide +kernel)]; exact ⟨rfl, rfl⟩))
    (fun os started H enc _ => walkPlain_lifted os started H enc)
end Go.Proofs.Ytijciojipcgiaaa
