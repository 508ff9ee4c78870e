/- Whatever graph and whatever number of a block are handed in: LiveSteps returns true. The library's table is tied to the text of the program. -/
import Derived.Test.YtgkjhnghibpeoaaDoorRows
import Derived.Test.YtgkjhnghibpeoaaDoorCards
import Derived.Test.YtgkjhnghibpeoaaDoorTie
import Derived.Test.YtgkjhnghibpeoaaDoorIrGrow
import Derived.Test.YtgkjhnghibpeoaaDoorLvSteps
import Derived.Test.YtgkjhnghibpeoaaDoorLvAlive
import Derived.Carry
import Derived.JoinedAt
import Derived.JoinedOf
import Derived.LaidMore
import Derived.Lay
import Derived.Lib.LaidTab
import Derived.Lib.SmallJoins
import Derived.OpenShut
import Derived.ProofKit
import Derived.SevenTiedAt
import Derived.SizedLaws
import Derived.Stop.Joined
import Derived.Stop.LaidErr
namespace Go.Proofs.YtgkjhnghibpeoaaDoor
open Go.ChangeShapes Go.WideShapes Go.ChangeAt Go.WideMaps Go.WideElems Go.RowKit
open Go.Joins

section
variable {H : Type} {enc : TypeId × Value → H} {w : World}
theorem open_bk2 (n : Nat) (cs : List Value) (y : DataW H × List MemPlace) (h : DataW.trod enc Tryd.prog w 0 (fun _ => true) true n 36 cs = some y) (hw : Wt 36 y.1) : ∃ x : Bk, cs = x.cells ∧ BIn w w.heap.size x ∧ CapB x := by
  obtain ⟨x, rfl, hx⟩ := open_bk n cs y h hw
  refine ⟨x, rfl, hx, ?_⟩
  obtain ⟨xs, n1, hn1, hy, hl, hlen, hf⟩ := DataW.trod_struct Tryd.underlying36 h
  obtain ⟨y0, y1, y2, y3, y4, rfl⟩ := g5 hlen
  have k0 : DataW.trod enc Tryd.prog w 0 (fun _ => true) true n1 33 [x.iv] = some y0 := by simpa [sLI, Bk.cells] using hf 0 _ rfl
  intro ao m cap e
  rcases DataW.trod_slice Tryd.underlying33 k0 with ⟨e2, -⟩ | ⟨a, len, cap2, els, rest, q, -, e2, -, -, hlc, -⟩
  · have e3 := List.singleton_inj.1 e2
    rw [e] at e3
    injection e3 with _ e4 e5
    omega
  · have e3 := List.singleton_inj.1 e2
    rw [e] at e3
    injection e3 with _ e4 e5
    omega
theorem open_gr2 (n : Nat) (cs : List Value) (y : DataW H × List MemPlace) (h : DataW.trod enc Tryd.prog w 0 (fun _ => true) true n 25 cs = some y) (hw : Wt 25 y.1) : ∃ x : Gr, cs = x.cells ∧ GIn w w.heap.size x ∧ ∀ bk ∈ x.blocks, CapB bk := by
  obtain ⟨xs, n1, hn1, hy, hl, hlen, hf⟩ := DataW.trod_struct Tryd.underlying25 h
  obtain ⟨c0, c1, c2, rfl⟩ := g3 (hl.trans sGr)
  obtain ⟨y0, y1, y2, rfl⟩ := g3 hlen
  rw [hy] at hw
  have k0 : DataW.trod enc Tryd.prog w 0 (fun _ => true) true n1 22 [c0] = some y0 := by simpa [sLB] using hf 0 _ rfl
  have k1 : DataW.trod enc Tryd.prog w 0 (fun _ => true) true n1 3 [c1] = some y1 := by simpa [sN] using hf 1 _ rfl
  have k2 : DataW.trod enc Tryd.prog w 0 (fun _ => true) true n1 23 [c2] = some y2 := by simpa [sLK] using hf 2 _ rfl
  have w0 : Wt 22 y0.1 := wt_part Tryd.underlying25 hw (i := 0) rfl rfl
  have w2 : Wt 23 y2.1 := wt_part Tryd.underlying25 hw (i := 2) rfl rfl
  obtain ⟨rs, h1, -⟩ := open_list (cells := Bcells) (Q := fun _ => True) false Tryd.underlying22 sB (of_decide_eq_true (by kernel_rfl)) (by omega) (fun _ => rfl) k0 w0 (fun k _ cs y h _ => open_bo k cs y (trod_len1 Tryd.underlying4 h) h)
  obtain ⟨a1, rfl, v1⟩ := cell_int (k := .i64) (by kernel_rfl) k1
  obtain ⟨bs, h3, h4⟩ := open_list (cells := Bk.cells) (Q := fun b => BIn w w.heap.size b ∧ CapB b) inBk Tryd.underlying23 sBk (of_decide_eq_true (by kernel_rfl)) (by omega) (fun _ => rfl) k2 w2 (fun k _ cs y h hw => open_bk2 k cs y h hw)
  exact ⟨⟨c0, rs, a1, c2, bs⟩, rfl, ⟨h1, wf_i64 v1, h3, fun b hb => (h4 b hb).1⟩, fun b hb => (h4 b hb).2⟩
end
theorem own : ownKnob Tryd.prog.godebug = none := by kernel_rfl
theorem tLow : (Tryd.prog.globals[0]?).map (·.type) = some 90 := by kernel_rfl
theorem cellsU8 : Tryd.prog.cellsOf 5 = 1 := by kernel_rfl
theorem cellsA64 : Tryd.prog.cellsOf 90 = 64 := by kernel_rfl
theorem low_same : (Rows.laid_math_bits_deBruijn64tab : DataW Unit) = Lib.tabData .u8 (lowTab.map fun (n : Nat) => (n : Int)) := by rfl
/-- A start that has the listed variable meets the row's condition. -/
theorem laid_met (os : Os) (args : Array Value) : laidMetH Tryd.prog Rows.liveStepsRow.laid ((World.laidAll Tryd.prog os Rows.liveStepsRow.laid).forCall (fun _ _ => 0) ⟨#[], args, []⟩).memory := by
  rw [MakeChecks.laidMetH_plain _ _ _ (by kernel_rfl)]
  exact laidMet_laidAll _ (by kernel_rfl) (by kernel_rfl)
/-- What the condition gives the walks. -/
theorem good_of_laid {W : World} (h : laidMetH Tryd.prog Rows.liveStepsRow.laid W) : Good W := by
  rw [MakeChecks.laidMetH_plain _ _ _ (by kernel_rfl)] at h
  have h3 : laidMet Tryd.prog (("math/bits.deBruijn64tab", Rows.laid_math_bits_deBruijn64tab) :: []) W := h
  rw [low_same] at h3
  exact Lib.tabIs_of_head gLow tLow Tryd.underlying90 Tryd.underlying5 cellsU8 cellsA64 h3
set_option maxRecDepth 100000 in
theorem liveSteps_lifted (os : Os) (started : os.Started) (H : Type) (enc : TypeId × Value → H) :
    ReturnsInHanded {} Tryd.checked os 3 .any (fun w args => (Rows.liveStepsSpec.pre enc Tryd.prog Tryd.f3 [] false w args ∧ laidMetH Tryd.prog Rows.liveStepsRow.laid w) ∧ sizedMet enc Tryd.prog Tryd.f3 (OpenSpec.ofChange Rows.liveStepsSpec) false w args)
      (Rows.liveStepsSpec.post enc Tryd.prog Tryd.f3 false true false false) := by
  refine returnsInHanded_of_change_and (C := Tryd.checked) (X := fun w _ => laidMetH Tryd.prog Rows.liveStepsRow.laid w) (fun _ _ _ hh h => h.of_heap hh) own started (by kernel_rfl) Tryd.func3
    (ChangeSpec.witness_shaped (enc := enc) (C := Tryd.checked) (os := os) (X := fun w _ => laidMetH Tryd.prog Rows.liveStepsRow.laid w) false (World.laidAll Tryd.prog os Rows.liveStepsRow.laid) #[.agg #[.slice none 0 0, .int .i64 0, .slice none 0 0], .int .i64 0] 8 (World.laidAll_os _ _ _) (World.shaped_of_ZipB (by kernel_rfl) (by kernel_rfl)) (by kernel_rfl) (by kernel_rfl) (by kernel_rfl) (laid_met os _)) ?_
  intro W base args ds gs before hval0 hW _ hz0 hL _
  have hG := good_of_laid hL
  have hval : ∀ (j : Nat) t v, Tryd.f3.params[j]? = some t → args[j]? = some v → Value.okWide Tryd.prog W .any base t v := hval0
  have hW' := hW
  obtain ⟨p, q, hA0, hV, rfl, _, _⟩ := hW
  have hA : DataW.TrodAll enc Tryd.prog W 0 (fun _ => true) true Tryd.f3.params.toList args.toList ds p := hA0
  rw [Tryd.params3] at hA hval
  obtain ⟨v0, v1, d0, d1, p0, p1, rfl, rfl, rfl, h0, h1⟩ := trodAll_two hA
  obtain ⟨rfl, rfl⟩ := trodVars_none hV
  have hlt : ∀ {t v d ps}, DataW.Trod enc Tryd.prog W 0 (fun _ => true) true t v d ps → ∀ x ∈ ps, x.block < W.heap.size := fun ⟨fuel, hf⟩ => DataW.trod_lt _ _ _ _ hf
  have hkeep : ∀ {t v d ps}, Tryd.prog.readableRec t = true → t < Tryd.prog.types.size → DataW.Trod enc Tryd.prog W 0 (fun _ => true) true t v d ps → ∀ W', Below W.heap.size W W' → DataW.Trod enc Tryd.prog W' 0 (fun b => decide (b < W.heap.size)) true t v d ps :=
    fun hr ht h W' hb => Below.trod (by kernel_rfl) hr ht h hb (hlt h)
  have hw0 : Wt 25 d0 := fun n hn => by have := List.all_eq_true.1 hz0 n (DataW.weights_mem_each (j := 0) (t := 25) rfl rfl n hn); simpa using this
  obtain ⟨cs0, rfl, -⟩ := okWide_struct Tryd.underlying25 (hval 0 25 v0 rfl rfl)
  obtain ⟨g, rfl, hIG, hcap⟩ : ∃ g : Gr, cs0 = #[g.rv, .int .i64 g.sites, g.bv] ∧ GIn W W.heap.size g ∧ ∀ bk ∈ g.blocks, CapB bk := by
    obtain ⟨fuel, hf⟩ := h0
    obtain ⟨g, hc, hi, hcp⟩ := open_gr2 fuel _ _ hf hw0
    refine ⟨g, ?_, hi, hcp⟩
    have hc2 : cs0.toList = g.cells := by simpa [Value.cells] using hc
    apply Array.toList_inj.1
    rw [hc2]
    rfl
  obtain ⟨k, rfl, rfl, rfl, wk⟩ := open_int Tryd.underlying3 (hval 1 3 v1 rfl rfl) h1
  clear hA0 hval0 hz0 hL
  simp only [List.append_nil] at hW'
  refine (steps_law alive_call g k W hcap hG hIG).mono fun e W' ⟨he, hnx⟩ => ?_
  subst he
  have hps : p0 ++ [] = p0 := by simp
  refine ⟨_, rfl, _, _, _, [], _, [], hW', ?_, hps ▸ trodAll_mk2 (hkeep (by kernel_rfl) (of_decide_eq_true (by kernel_rfl)) h0 W' hnx) (shut_int Tryd.underlying3 wk), rfl, hnx.frame _, fun h => by cases h⟩
  exact trodAll_mk1 (shut_bool Tryd.underlying4 _)
theorem liveSteps_facts : joinedFacts Tryd.prog 3 Tryd.f3 Rows.liveStepsSpec Rows.liveStepsRow = true := by kernel_rfl
theorem liveSteps_row : Rows.LiveStepsSaid :=
  OpenClaim.holds_of_wide 3 Tryd.f3 rfl rfl rfl rfl rfl rfl rfl ⟨rfl, rfl, rfl, rfl, rfl⟩ rfl rfl rfl rfl rfl (by kernel_rfl) Tryd.func3 liveSteps_facts
    (of_decide_eq_true (by kernel_rfl)) (by unfold Func.isWrapper; first | (rw [if_pos (by decide +kernel)]; kernel_rfl) | (rw [if_neg (by decide +kernel)]; exact ⟨rfl, rfl⟩))
    (fun os started H enc _ => liveSteps_lifted os started H enc)
/-- The tied card. -/
theorem liveSteps_holds : Rows.LiveStepsCardSaid :=
  Claim7.holds_tied_plain_at .later [] [.data] true Rows.liveStepsCard.stood.harness false
    liveSteps_row (fun _ h => by cases h) (by kernel_rfl) (fun _ h => by cases h) liveSteps_row_tie rfl ⟨rfl, rfl⟩ (by kernel_rfl) rfl
    (fun f fn hf hfn => by
      obtain rfl : f = 3 := Option.some.inj ((show Tryd.prog.funcNamed Rows.liveStepsRow.func = some 3 by kernel_rfl).symm.trans hf) |>.symm
      obtain rfl : fn = Tryd.f3 := (Option.some.inj (Tryd.func3.symm.trans hfn)).symm
      exact ⟨by kernel_rfl, fun j t ht => by
        rw [Tryd.params3] at ht
        have hm : t ∈ [25, 3] := by simpa using Array.mem_of_getElem? ht
        have hall : ([25, 3].all fun u => !Tryd.prog.wantsStandIn u) = true := by kernel_rfl
        exact (show Tryd.prog.wantsStandIn t = false by simpa using List.all_eq_true.1 hall t hm)⟩)
    (by kernel_rfl)
end Go.Proofs.YtgkjhnghibpeoaaDoor
