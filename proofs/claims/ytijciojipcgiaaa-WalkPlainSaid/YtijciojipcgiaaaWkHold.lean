/- What a block has done is noted; what a load or a store meets. -/
import Derived.Test.YtijciojipcgiaaaRows
import Derived.Test.YtijciojipcgiaaaWkFails
import Derived.Test.YtijciojipcgiaaaWkReg2
import Derived.Deep.AppendLies
namespace Go.Proofs.Ytijciojipcgiaaa
open Go.RowKit
set_option maxRecDepth 100000

theorem infoF : (Try.prog.info? 1).map (fun i => (i.zero, i.size, i.bytes)) = some (some .nilFunc, 1, 8) := by kernel_rfl
/-- A new box, and what is put into it. -/
theorem boxed (w : World) (v0 v : Value) (T : TypeId) : Below w.heap.size w ((w.alloc (.cells #[v0] T)).setCell ⟨w.heap.size, 0, none⟩ v) ∧ ((w.alloc (.cells #[v0] T)).setCell ⟨w.heap.size, 0, none⟩ v).heap[w.heap.size]? = some (.cells #[v] T (0, 0)) ∧ ((w.alloc (.cells #[v0] T)).setCell ⟨w.heap.size, 0, none⟩ v).heap.size = w.heap.size + 1 := by
  have h := (MapKept.heap_alloc w (.cells #[v0] T)).1
  refine ⟨⟨rfl, rfl, rfl, by simp [World.setCell], fun k hk => (Below.heap_setCell _ _ _ _ (by show k ≠ w.heap.size; omega)).trans (Below.heap_alloc _ _ _ hk)⟩, ?_, by simp [World.setCell]⟩
  rw [heap_setCell_same _ w.heap.size 0 _ _ _ h]
  rfl
theorem but_push {ow ow' : Nat → Nat} {ls : List Nat} {w w' : World} (h : But ow ls w w') (he : Ext ow ow' w) : But ow' ls w w' := ⟨h.os, h.tape, h.output, h.size, fun k hk hn => h.block k hk (by rw [← he k hk]; exact hn)⟩
theorem undo_push (ow : Nat → Nat) (u : World) (b j p n : Nat) (g : Gr) (W : WS) (T : TS) (v rs us ts ws f : Value) (un : Un) (h1 : WAt ow u b W n v) (h2 : TAt ow u b j p g T rs us ts ws) (hf : UnAt ow u j p un f) (hf1 : f.oneCell' = true) (hl : T.undo.length ≤ 1048576) :
    ∃ v' w4, (Builtin.append_ #[78, 78] 78 #[us, .slice (some ⟨u.heap.size, 0, none⟩) 1 1]).run Try.prog (u.alloc (.cells #[f] 1)) = .ok v' w4 ∧ (∃ q c, v' = .slice q (T.undo.length + 1) c) ∧ w4.cell? ⟨p, 9, none⟩ = some us ∧ w4.frozen? ⟨p, 9, none⟩ = false ∧ u.heap.size < w4.heap.size ∧
      ∃ ow', Ext ow ow' u ∧ WAt ow' (w4.setCell ⟨p, 9, none⟩ v') b W n v ∧ TAt ow' (w4.setCell ⟨p, 9, none⟩ v') b j p g { T with undo := un :: T.undo } rs v' ts ws ∧ But ow [12 + 8 * j, 10 + 8 * j] u (w4.setCell ⟨p, 9, none⟩ v') ∧ But ow [12 + 8 * j] u w4 := by
  obtain ⟨i, hi, hz, hs, hb⟩ := info_parts infoF
  obtain ⟨ul, hul, hus, hlu⟩ := h2.undo
  have hB := below_box u (.cells #[f] 1)
  have hb0 : But ow [] u (u.alloc (.cells #[f] 1)) := But.of hB
  obtain ⟨q, cap, w4, hr, hown, hg, hgo, hlt⟩ := run_append_lies (P := Try.prog) (w := u.alloc (.cells #[f] 1)) 78 78 0 1 i .nilFunc 1 8 Try.underlying78 hi hz hs hb rfl (by decide) us T.undo.length ul (hul.alloc _) ⟨u.heap.size, 0, none⟩ 1 1 [f] rfl (World.news_of_block (MapKept.heap_alloc u _).1) (by simpa using hf1) (by decide) (by unfold maxLen; omega) (by omega) (by omega) _ rfl
  have hz1 : (u.alloc (.cells #[f] 1)).heap.size = u.heap.size + 1 := by simp
  obtain ⟨ow', how⟩ : ∃ o : Nat → Nat, o = fun k => if k < u.heap.size then ow k else 12 + 8 * j := ⟨_, rfl⟩
  have he : Ext ow ow' u := fun k hk => by rw [how]; simp [hk]
  have hgrow : But ow [12 + 8 * j] u w4 := by
    refine ⟨hg.os, hg.tape, hg.output, by have := hg.size; omega, fun k hk hn => ?_⟩
    refine (hg.block k (by omega) (fun e => hn ?_)).trans (hB.block k hk)
    rw [hlu k e.symm]; simp
  have hq : ow' q = 12 + 8 * j := by
    rcases hgo with h | h
    · rw [he q (hul.lt q h).2]; exact hlu q h
    · rw [how, h, hz1]; simp; omega
  have hp4 : w4.heap[p]? = some (.cells (threadC b g rs T us ts ws) 80 (0, 0)) := (hgrow.block p (heap_lt h2.box) (by rw [h2.lab]; simp <;> omega)).trans h2.box
  have hlp : ow' p = 10 + 8 * j := by rw [he p (heap_lt h2.box)]; exact h2.lab
  have hs' : But ow' [10 + 8 * j] w4 (w4.setCell ⟨p, 9, none⟩ (.slice (some ⟨q, 0, none⟩) (T.undo.length + 1) cap)) := but_set _ _ hlp
  have hall := hgrow.trans he hs'
  have hno : ∀ k, k ≠ 0 → k ≠ 2 → 10 + k + 8 * j ∉ [12 + 8 * j] ++ [10 + 8 * j] := fun k h0 h3 q => by simp at q; omega
  refine ⟨_, w4, hr, ⟨_, _, rfl⟩, cellI hp4 9 _ rfl, Lib.frozen_of_heap hp4 9, by have := hg.size; omega, ow', he, h1.keeps hall he (by simp; omega) (by simp; omega), ⟨tset_box 9 _ hp4 rfl, hlp, regs_keep h2.regs hall he (hno 1 (by omega) (by omega)), ⟨ul ++ [f], ?_, ⟨f, ul, hf.keeps hall he (hno 5 (by omega) (by omega)), hus.keeps hall he (hno 5 (by omega) (by omega)), rfl⟩, ?_⟩, h2.told.keeps hall he (hno 3 (by omega) (by omega)), h2.waiting.keeps hall he (hno 4 (by omega) (by omega))⟩, hall, hgrow⟩
  · exact owns_but hown hs' (fun k hk => by cases hk; exact hq) (by simp <;> omega)
  · intro k hk; cases hk; exact hq
theorem met_any (ow : Nat → Nat) (w : World) (b j p n : Nat) (g : Gr) (W : WS) (T : TS) (v rs us ts ws : Value) (k o : Int) (aa : Int) (bb : Nat) (cc : Int) (hc : cc < 0 ∨ cc.toNat < T.regs.length) (x : Int) (h1 : WAt ow w b W n v) (h2 : TAt ow w b j p g T rs us ts ws) (hb : bb < T.regs.length) :
    Calls Try.prog 55 #[.pointer (some ⟨p, 0, none⟩), .agg #[.int .u8 k, .int .u8 o, .int .i64 aa, .int .i64 (bb : Int), .int .i64 cc, .int .i64 x]] w (MetE ow j W T ⟨k, o, aa, (bb : Int), cc, x⟩ w) := by
  by_cases h : cc < 0
  · exact met_none_any ow w b j p n g W T v rs us ts ws k o aa bb cc h x h1 h2 hb
  · have hc' : cc = ((cc.toNat : Nat) : Int) := by omega
    have := met_some_any ow w b j p n g W T v rs us ts ws k o aa bb cc.toNat x h1 h2 hb (hc.resolve_left h)
    rw [← hc'] at this
    exact this
/-- Some blocks are as they were. -/
def SameOn (Q : Nat → Prop) (w W : World) : Prop := ∀ k, Q k → W.heap[k]? = w.heap[k]?
theorem SameOn.cell {Q : Nat → Prop} {w W : World} (h : SameOn Q w W) {a : Addr} {v : Value} (hq : Q a.block) (hc : w.cell? a = some v) : W.cell? a = some v := by
  rw [← hc]; simp only [World.cell?, h a.block hq]
theorem SameOn.frozen {Q : Nat → Prop} {w W : World} (h : SameOn Q w W) {a : Addr} {v : Bool} (hq : Q a.block) (hc : w.frozen? a = v) : W.frozen? a = v := by
  rw [← hc]; simp only [World.frozen?, h a.block hq]
theorem SameOn.drew (Q : Nat → Prop) (w : World) : SameOn Q w w.drew := fun _ _ => rfl
theorem StepE.relab {ow ow1 : Nat → Nat} {b j p n : Nat} {g : Gr} {r : WS × TS × Bool} {w w' : World} {e : Ending} (he : Ext ow ow1 w) (h : StepE ow1 b j p g n r w e w') : StepE ow b j p g n r w e w' := by
  obtain ⟨h0, ow', v, rs, us, ts, ws, h1, h2, h3, h4⟩ := h
  exact ⟨h0, ow', v, rs, us, ts, ws, fun k hk => (h1 k hk).trans (he k hk), h2, h3, ⟨h4.os, h4.tape, h4.output, h4.size, fun k hk hm => h4.block k hk (by rw [he k hk]; exact hm)⟩⟩
theorem StepE.after {ow ow1 : Nat → Nat} {b j p n : Nat} {g : Gr} {r : WS × TS × Bool} {w u w' : World} {e : Ending} (hk : Kp ow j w u) (he : Ext ow ow1 w) (h : StepE ow1 b j p g n r u e w') : StepE ow b j p g n r w e w' := by
  obtain ⟨h0, ow', v, rs, us, ts, ws, h1, h2, h3, h4⟩ := h
  exact ⟨h0, ow', v, rs, us, ts, ws, fun k hq => (h1 k (Nat.lt_of_lt_of_le hq hk.size)).trans (he k hq), h2, h3, hk.trans he h4⟩
/-- New blocks bear no label. -/
def low (ow : Nat → Nat) (N : Nat) : Nat → Nat := fun k => if k < N then ow k else 0
theorem low_ext (ow : Nat → Nat) (w : World) : Ext ow (low ow w.heap.size) w := fun k hk => by simp [low, hk]
theorem low_new (ow : Nat → Nat) (N k : Nat) (hk : N ≤ k) : low ow N k = 0 := by simp [low]; omega
theorem WAt.low {ow : Nat → Nat} {w : World} {b n : Nat} {W : WS} {v : Value} (h : WAt ow w b W n v) : WAt (low ow w.heap.size) w b W n v := h.keeps (But.of (ls := []) (Below.refl _ _)) (low_ext _ _) (by simp) (by simp)
theorem TAt.low {ow : Nat → Nat} {w : World} {b j p : Nat} {g : Gr} {T : TS} {rs us ts ws : Value} (h : TAt ow w b j p g T rs us ts ws) : TAt (low ow w.heap.size) w b j p g T rs us ts ws := h.keeps (But.of (ls := []) (Below.refl _ _)) (low_ext _ _) (by simp)
end Go.Proofs.Ytijciojipcgiaaa
