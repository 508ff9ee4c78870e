/- What the threads have told and how they stand, laid in a row. -/
import Derived.Test.YtijciojipcgiaaaRows
import Derived.Test.YtijciojipcgiaaaWkNewW
import Derived.Test.YtijciojipcgiaaaIrSizes
import Derived.Test.YtijciojipcgiaaaIrBoth
import Derived.Test.YtijciojipcgiaaaWkBack
import Derived.LoopTactic
import Derived.LoopN
import Derived.WalkKit
import Derived.WalkSpells
import Derived.WalkLawsBesides
import Derived.Lib.Hide
import Derived.OrdersHeld
import Derived.Deep.RegionHeld
import Derived.Deep.DrawnRows
import Derived.RegionTactic
import Derived.Deep.RegionHeld3
import Derived.IntWalk
namespace Go.Proofs.Ytijciojipcgiaaa
open Go.RowKit
set_option maxRecDepth 100000
attribute [local go_sem ↓] bld_eq bls_eq

theorem infoSeen : (Try.prog.info? 38).map (fun i => (i.zero, i.size, i.bytes)) = some (some (.agg #[.slice none 0 0, .int .u8 0]), 2, 32) := by kernel_rfl
theorem make_seen (n : Nat) (hn : n ≤ 1000) : ∃ O, ∀ w : World, (Instr.makeSlice 28 (.int .i64 0) (.int .i64 (n : Int))).run Try.prog w = .ok (.slice (some ⟨w.heap.size, 0, none⟩) 0 n) (w.alloc O) ∧
    (w.alloc O).ownsRow w.heap.size 38 2 (.slice (some ⟨w.heap.size, 0, none⟩) 0 n) 0 [] := by
  obtain ⟨i0, hi, hz0, hz1, hz2⟩ := info_parts infoSeen
  refine ⟨.cells (madeCells (Value.agg #[.slice none 0 0, .int .u8 0]).cells (n * 2)) 38, fun w => ?_⟩
  have h := run_make (P := Try.prog) w 28 38 i0 (.agg #[.slice none 0 0, .int .u8 0]) Try.underlying28 hi hz0 .i64 .i64 0 (n : Int) (by omega) (by omega) (by rw [hz2]; omega) (by omega)
  rw [hz1, Int.toNat_natCast] at h
  exact ⟨h, World.ownsRow_made w _ n (Nat.le_refl _) (by unfold maxLen; omega) (size_madeCells _ _)⟩
theorem made_oneSeen (q : Option Addr) (l c : Nat) (f : Int) (w : World) : (bls 28 1 #[(0, .agg #[.slice q l c, .int .u8 f])]).run Try.prog w = .ok (.slice (some ⟨w.heap.size, 0, none⟩) 1 1) (w.alloc (.cells #[.slice q l c, .int .u8 f] 38)) := bls_of 28 38 1 2 #[(0, .agg #[.slice q l c, .int .u8 f])] #[.slice q l c, .int .u8 f] (by kernel_rfl) (by kernel_rfl) (by kernel_rfl) (by omega) (by omega) (by kernel_rfl) (by kernel_rfl) w
/-- A row of pointers, as it is read. -/
theorem row_ptrs {w : World} {L N : Nat} {tv : Value} {ps : List Nat} (h : w.ownsRow L 63 1 tv N (ps.map ptrV)) : ∃ q c, tv = .slice q N c ∧ (0 < N → ∃ g, q = some ⟨g, 0, none⟩ ∧ g < w.heap.size ∧ tv.ownBlock = some g ∧ ∀ (j p : Nat), ps[j]? = some p → w.cell? ⟨g, j, none⟩ = some (.pointer (some ⟨p, 0, none⟩))) := by
  have hl := h.1
  rcases h.2 with ⟨e, e2⟩ | ⟨g, cap, cur, e, hb, hg, _⟩
  · exact ⟨none, 0, by rw [e, e2], fun h0 => by omega⟩
  · refine ⟨_, _, e, fun h0 => ⟨g, rfl, heap_lt hg, by rw [e]; rfl, fun j p hj => ?_⟩⟩
    subst e
    have hlt := (List.getElem?_eq_some_iff.1 hj).1
    rw [h.cellAt j (by rw [List.length_map] at hl; omega), List.getElem?_map, hj]
    rfl
/-- Where a thread's told numbers lie. -/
def tsOf (w : World) (p : Nat) : Value := (w.cell? ⟨p, 10, none⟩).getD undef
def seenCells (w : World) (ps : List Nat) (Ts : List TS) : List Value := (ps.zip Ts).flatMap fun x => [tsOf w x.1, .int .u8 x.2.fin]
theorem seenCells_succ {w : World} {ps : List Nat} {Ts : List TS} {k p : Nat} {T : TS} (hp : ps[k]? = some p) (hT : Ts[k]? = some T) : seenCells w (ps.take (k + 1)) (Ts.take (k + 1)) = seenCells w (ps.take k) (Ts.take k) ++ [tsOf w p, .int .u8 T.fin] := by
  obtain ⟨h1, h1'⟩ := List.getElem?_eq_some_iff.1 hp
  obtain ⟨h2, h2'⟩ := List.getElem?_eq_some_iff.1 hT
  unfold seenCells
  rw [List.take_succ_eq_append_getElem h1, List.take_succ_eq_append_getElem h2, h1', h2', List.zip_append (by simp; omega), List.flatMap_append]
  rfl
/-- What seen answers. -/
def SeenE (ps : List Nat) (Ts : List TS) (w : World) (e : Ending) (w' : World) : Prop := ∃ sv, e = .returned sv ∧ Below w.heap.size w w' ∧ w'.ownsRow w.heap.size 38 2 sv Ts.length (seenCells w ps Ts)
set_option maxHeartbeats 8000000 in
theorem seen_any (ow : Nat → Nat) (w : World) (b L : Nat) (gs : List Gr) (ps : List Nat) (s : RS) (v tv : Value) (h : EndAt ow w b gs ps s v) (hp : ps.length = gs.length) (hrow : w.ownsRow L 63 1 tv gs.length (ps.map ptrV)) (h4 : gs.length ≤ 4) :
    Calls Try.prog 18 #[tv] w (SeenE ps s.T w) := by
  obtain ⟨q, c, rfl, hcell⟩ := row_ptrs hrow
  have htl := h.tlen
  obtain ⟨N, hN⟩ : ∃ N, N = gs.length := ⟨_, rfl⟩
  rw [← hN] at h4 hcell htl hp ⊢
  obtain ⟨O, hO⟩ := make_seen N (by omega)
  have hmk := fun w => (hO w).1
  have HEA := Lib.hid h.each
  have HGS := Lib.hid hN
  have HPL := Lib.hid hp
  have HTL := Lib.hid htl
  have HCE := Lib.hid hcell
  have HRW := Lib.hid (hO w).2
  have HB1 := Lib.hid ((Below.refl w.heap.size w).alloc (Nat.le_refl _) O)
  obtain ⟨W1, hW1⟩ : ∃ W1, W1 = w.alloc O := ⟨_, rfl⟩
  rw [← hW1] at HRW HB1
  have HW1 := Lib.hid hW1
  clear hO h hrow hcell htl hN hp hW1
  go_enter Try.func18, Try.ntmps18
  go_wp2_with fail
  rw [← HW1.out]
  go_loopw [3, 11] (fun sv q wr => ∃ k : Nat, k ≤ N ∧ q = .int .i64 k ∧ Below w.heap.size w wr ∧ Hid (wr.ownsRow w.heap.size 38 2 sv k (seenCells w (ps.take k) (s.T.take k)))) (fun _ q _ => N - (intOf q).toNat)
  case atStart => exact ⟨0, by omega, rfl, HB1.out, HRW⟩
  case round =>
    obtain ⟨k, hkN, rfl, hBr, hD⟩ := hrel
    by_cases hlt : k < N
    · obtain ⟨g0, rfl, hg0, -, hcl⟩ := HCE.out (by omega)
      obtain ⟨p, hpk⟩ : ∃ p, ps[k]? = some p := ⟨_, List.getElem?_eq_getElem (by rw [HPL.out]; exact hlt)⟩
      obtain ⟨T, hTk⟩ : ∃ T, s.T[k]? = some T := ⟨_, List.getElem?_eq_getElem (by rw [HTL.out]; exact hlt)⟩
      obtain ⟨g, hgk⟩ : ∃ g, gs[k]? = some g := ⟨_, List.getElem?_eq_getElem (by rw [← HGS.out]; exact hlt)⟩
      obtain ⟨rs, us, ts, ws, ht⟩ := HEA.out k g T p hgk hTk hpk
      have hlp : p < w.heap.size := heap_lt ht.box
      have hsr := hBr.size
      obtain ⟨tq, tcap, hts⟩ := ht.told.form'
      have d10 := ht.cells.2.2.2.2.2.2.2.2.1
      have d12 := ht.cells.2.2.2.2.2.2.2.2.2.2
      have hto : tsOf w p = ts := by unfold tsOf; rw [d10]; rfl
      have d10 := (hBr.cell (p := ⟨p, 10, none⟩) hlp).trans d10
      have d12 := (hBr.cell (p := ⟨p, 12, none⟩) hlp).trans d12
      have hck := (hBr.cell (p := ⟨g0, k, none⟩) hg0).trans (hcl k p hpk)
      have hsc := seenCells_succ (w := w) hpk hTk
      rw [hto, hts] at hsc
      rw [hts] at d10
      obtain ⟨sq, scap, hsv⟩ : ∃ q c, u3 = .slice q k c := by
        rcases hD.out.2 with ⟨e, e2⟩ | ⟨gg, cap, cur, e, _⟩
        · exact ⟨none, 0, by rw [e, e2]⟩
        · exact ⟨_, _, e⟩
      subst hsv
      obtain ⟨f, hf⟩ : ∃ f, f = T.fin := ⟨_, rfl⟩
      obtain ⟨nt, hnt⟩ : ∃ n, n = T.told.length := ⟨_, rfl⟩
      rw [← hf, ← hnt] at hsc
      rw [← hf] at d12
      rw [← hnt] at d10
      obtain ⟨i, hi, hz, hs, hb⟩ := info_parts infoSeen
      have hlo : ((wr.alloc (.cells #[.slice tq nt tcap, .int .u8 f] 38)).drew).ownsRow w.heap.size 38 2 (.slice sq k scap) k (seenCells w (ps.take k) (s.T.take k)) := (hD.out.alloc _).drew
      obtain ⟨gq, cap, w4, hr, hown, hgrow, hat, -⟩ := run_append_lies (P := Try.prog) ((wr.alloc (.cells #[.slice tq nt tcap, .int .u8 f] 38)).drew) 28 28 w.heap.size 38 i _ 2 32 Try.underlying28 hi hz hs hb rfl (by omega) (.slice sq k scap) k _ hlo
        ⟨wr.heap.size, 0, none⟩ 1 1 [.slice tq nt tcap, .int .u8 f] rfl (World.news_of_block (MapKept.heap_alloc wr _).1) (by intro u hu; simp at hu; rcases hu with rfl | rfl <;> rfl) (by omega) (by unfold maxLen; omega) (by omega) (by show w.heap.size ≤ (wr.alloc _).heap.size; simp; omega) (wr.heap.size + 1) (by show (wr.alloc _).heap.size = _; simp)
      have hlw := hD.out.lt
      have hB4 : Below w.heap.size w w4 := by
        have hba := hBr.alloc hsr (.cells #[.slice tq nt tcap, .int .u8 f] 38)
        refine ⟨hgrow.os.trans hba.os, hgrow.tape.trans hba.tape, hgrow.output.trans hba.output, Nat.le_trans hba.size hgrow.size, fun x hx => (hgrow.block x (by show x < (wr.alloc _).heap.size; simp; omega) fun hq => ?_).trans (hba.block x hx)⟩
        have := (hlw x hq.symm).1
        omega
      rw [← hsc] at hown
      have hsame : ∀ x, x = p → w4.heap[x]? = wr.heap[x]? := by
        rintro x rfl
        refine (hgrow.block x (by show x < (wr.alloc _).heap.size; simp; omega) fun hq => ?_).trans (Below.heap_alloc wr _ x (by omega))
        have := (hlw x hq.symm).1
        omega
      have HS := Lib.hid hsame
      have HR := Lib.hid hr
      have HF := Lib.hid (show k + 1 ≤ N ∧ Below w.heap.size w w4 ∧ Hid (w4.ownsRow w.heap.size 38 2 (.slice (some ⟨gq, 0, none⟩) (k + 1) cap) (k + 1) (seenCells w (ps.take (k + 1)) (s.T.take (k + 1)))) from ⟨hlt, hB4, Lib.hid hown⟩)
      have e7 := bld_of 38 #[(0, .slice tq nt tcap), (1, .int .u8 f)] #[.slice tq nt tcap, .int .u8 f] (by kernel_rfl)
      have e9 := made_oneSeen
      have hgw : g0 < wr.heap.size := by omega
      have hpw : p < wr.heap.size := by omega
      clear hBr hD hpk hTk hgk ht hts hto hcl hsc hf hnt hi hz hs hb hlo hr hown hgrow hat hlw hB4 hsr hsame
      go_wp2_with fail
      refine wp_region_held_drew (S := SameOn (fun x => x = p ∨ x = p) wr) (by kernel_rfl) (SameOn.drew _ _) (fun hSw => ?_)
      refine wpAnyH_take (i := 0) (oi := { dst := some 15, op := Op.move (Operand.tmp 3), type := 28, pos := "walk.go:45", after := #[], guard := none }) (v := .slice sq k scap) rfl (by kernel_rfl) (by kernel_rfl) (by kernel_rfl) (fun _ _ _ h => h) (Or.inl ⟨by rfl, fun W hW => ?_⟩) hSw ?_
      · first | (go_simp; done) | rfl
      try simp only [Act.put, List.setIfInBounds_toArray, List.set_cons_zero, List.set_cons_succ]
      refine wpAnyH_take (i := 1) (oi := { dst := some 16, op := Op.move (Operand.tmp 5), type := 63, pos := "walk.go:45", after := #[], guard := none }) (v := .pointer (some ⟨p, 0, none⟩)) rfl (by kernel_rfl) (by kernel_rfl) (by kernel_rfl) (fun _ _ _ h => h) (Or.inl ⟨by rfl, fun W hW => ?_⟩) hSw ?_
      · first | (go_simp; done) | rfl
      try simp only [Act.put, List.setIfInBounds_toArray, List.set_cons_zero, List.set_cons_succ]
      refine wpAnyH_take (i := 2) (oi := { dst := some 17, op := Op.nilCheck (Operand.tmp 16), type := 0, pos := "walk.go:45", after := #[{ on := 1, ground := Ground.data }], guard := none }) (v := .pointer (some ⟨p, 0, none⟩)) rfl (by kernel_rfl) (by kernel_rfl) (by kernel_rfl) (fun _ _ _ h => h) (Or.inl ⟨by rfl, fun W hW => ?_⟩) hSw ?_
      · first | (go_simp; done) | rfl
      try simp only [Act.put, List.setIfInBounds_toArray, List.set_cons_zero, List.set_cons_succ]
      refine wpAnyH_take (i := 3) (oi := { dst := some 18, op := Op.fieldAddr 80 (Operand.tmp 17) 7, type := 0, pos := "walk.go:45", after := #[{ on := 2, ground := Ground.data }], guard := none }) (v := .pointer (some ⟨p, 10, none⟩)) rfl (by kernel_rfl) (by kernel_rfl) (by kernel_rfl) (fun _ _ _ h => h) (Or.inl ⟨by rfl, fun W hW => ?_⟩) hSw ?_
      · first | (go_simp; done) | rfl
      try simp only [Act.put, List.setIfInBounds_toArray, List.set_cons_zero, List.set_cons_succ]
      refine wpAnyH_take (i := 4) (oi := { dst := some 19, op := Op.load 35 (Operand.tmp 18), type := 35, pos := "walk.go:45", after := #[{ on := 3, ground := Ground.data }], guard := none }) (v := .slice tq nt tcap) rfl (by kernel_rfl) (by kernel_rfl) (by kernel_rfl) (fun _ _ _ h => h) (Or.inl ⟨by rfl, fun W hW => ?_⟩) hSw ?_
      · have d10 := hW.cell (by dsimp only; omega) d10
        first | (go_simp; done) | rfl
      try simp only [Act.put, List.setIfInBounds_toArray, List.set_cons_zero, List.set_cons_succ]
      refine wpAnyH_take (i := 5) (oi := { dst := some 20, op := Op.move (Operand.tmp 5), type := 63, pos := "walk.go:45", after := #[], guard := none }) (v := .pointer (some ⟨p, 0, none⟩)) rfl (by kernel_rfl) (by kernel_rfl) (by kernel_rfl) (fun _ _ _ h => h) (Or.inl ⟨by rfl, fun W hW => ?_⟩) hSw ?_
      · first | (go_simp; done) | rfl
      try simp only [Act.put, List.setIfInBounds_toArray, List.set_cons_zero, List.set_cons_succ]
      refine wpAnyH_take (i := 6) (oi := { dst := some 21, op := Op.nilCheck (Operand.tmp 20), type := 0, pos := "walk.go:45", after := #[{ on := 5, ground := Ground.data }], guard := none }) (v := .pointer (some ⟨p, 0, none⟩)) rfl (by kernel_rfl) (by kernel_rfl) (by kernel_rfl) (fun _ _ _ h => h) (Or.inl ⟨by rfl, fun W hW => ?_⟩) hSw ?_
      · first | (go_simp; done) | rfl
      try simp only [Act.put, List.setIfInBounds_toArray, List.set_cons_zero, List.set_cons_succ]
      refine wpAnyH_take (i := 7) (oi := { dst := some 22, op := Op.fieldAddr 80 (Operand.tmp 21) 9, type := 0, pos := "walk.go:45", after := #[{ on := 6, ground := Ground.data }], guard := none }) (v := .pointer (some ⟨p, 12, none⟩)) rfl (by kernel_rfl) (by kernel_rfl) (by kernel_rfl) (fun _ _ _ h => h) (Or.inl ⟨by rfl, fun W hW => ?_⟩) hSw ?_
      · first | (go_simp; done) | rfl
      try simp only [Act.put, List.setIfInBounds_toArray, List.set_cons_zero, List.set_cons_succ]
      refine wpAnyH_take (i := 8) (oi := { dst := some 23, op := Op.load 36 (Operand.tmp 22), type := 36, pos := "walk.go:45", after := #[{ on := 7, ground := Ground.data }], guard := none }) (v := .int .u8 f) rfl (by kernel_rfl) (by kernel_rfl) (by kernel_rfl) (fun _ _ _ h => h) (Or.inl ⟨by rfl, fun W hW => ?_⟩) hSw ?_
      · have d12 := hW.cell (by dsimp only; omega) d12
        first | (go_simp; done) | rfl
      try simp only [Act.put, List.setIfInBounds_toArray, List.set_cons_zero, List.set_cons_succ]
      refine wpAnyH_take (i := 9) (oi := { dst := some 24, op := Op.build 38 #[(0, Operand.tmp 19), (1, Operand.tmp 23)], type := 38, pos := "walk.go:45", after := #[{ on := 4, ground := Ground.data }, { on := 8, ground := Ground.data }], guard := none }) (v := .agg #[.slice tq nt tcap, .int .u8 f]) rfl (by kernel_rfl) (by kernel_rfl) (by kernel_rfl) (fun _ _ _ h => h) (Or.inl ⟨by rfl, fun W hW => ?_⟩) hSw ?_
      · first | (go_simp; done) | rfl
      try simp only [Act.put, List.setIfInBounds_toArray, List.set_cons_zero, List.set_cons_succ]
      refine wpAnyH_ready (rs := [10]) (by kernel_rfl) (by simp) ?_
      refine AllReadyH.cons (o := { dst := some 25, op := Op.buildSlice 28 1 #[(0, Operand.tmp 24)], type := 28, pos := "walk.go:45", after := #[{ on := 9, ground := Ground.data }], guard := none }) rfl (fun K hK => ?_) AllReadyH.nil
      rw [if_pos (by rfl)]
      clear hSw
      go_simp
      refine hK.out _ _ (fun x hx => Below.heap_alloc wr _ x (by omega)) (fun hSw => ?_)
      clear hK K
      try simp only [Act.put, List.setIfInBounds_toArray, List.set_cons_zero, List.set_cons_succ]
      refine wpAnyH_ready (rs := [11]) (by kernel_rfl) (by simp) ?_
      refine AllReadyH.cons (o := { dst := some 26, op := Op.call { callee := Callee.builtin Builtin.append, args := #[Operand.tmp 15, Operand.tmp 25], argTypes := #[28, 28] }, type := 28, pos := "walk.go:45", after := #[{ on := 0, ground := Ground.data }, { on := 10, ground := Ground.data }], guard := none }) rfl (fun K hK => ?_) AllReadyH.nil
      rw [if_pos (by rfl)]
      clear hSw
      refine Lib.wp_append_run _ _ _ _ _ rfl _ _ rfl rfl _ w4 HR.out ?_
      refine hK.out _ _ (fun x hx => HS.out x (by omega)) (fun hSw => ?_)
      clear hK K
      try simp only [Act.put, List.setIfInBounds_toArray, List.set_cons_zero, List.set_cons_succ]
      refine wpAnyH_take (i := 12) (oi := { dst := some 3, op := Op.assign (Operand.tmp 26), type := 28, pos := "walk.go:45", after := #[{ on := 11, ground := Ground.data }, { on := 11, ground := Ground.chain }, { on := 0, ground := Ground.phase }, { on := 1, ground := Ground.phase }, { on := 2, ground := Ground.phase }, { on := 3, ground := Ground.phase }, { on := 4, ground := Ground.phase }, { on := 5, ground := Ground.phase }, { on := 6, ground := Ground.phase }, { on := 7, ground := Ground.phase }, { on := 8, ground := Ground.phase }, { on := 9, ground := Ground.phase }, { on := 10, ground := Ground.phase }, { on := 11, ground := Ground.phase }], guard := none }) (v := .slice (some ⟨gq, 0, none⟩) (k + 1) cap) rfl (by kernel_rfl) (by kernel_rfl) (by kernel_rfl) (fun _ _ _ h => h) (Or.inl ⟨by rfl, fun W hW => ?_⟩) hSw ?_
      · first | (go_simp; done) | rfl
      try simp only [Act.put, List.setIfInBounds_toArray, List.set_cons_zero, List.set_cons_succ]
      refine wpAnyH_done (by kernel_rfl) ?_ _
      go_wp2_with fail
      go_roundw
      case rel => exact ⟨k + 1, HF.out.1, by go_num, HF.out.2.1, HF.out.2.2⟩
      case measure => simp [intOf]; omega
    · have hk : k = N := by omega
      subst hk
      have HD := Lib.hid hD.out
      have HBR := Lib.hid hBr
      clear hBr hD
      go_wp2_with fail
      go_ret
      have h := HD.out
      rw [show ps.take k = ps by rw [← HPL.out]; exact List.take_length, show s.T.take k = s.T by rw [← HTL.out]; exact List.take_length] at h
      exact ⟨u3, rfl, HBR.out, by rw [HTL.out]; exact h⟩
end Go.Proofs.Ytijciojipcgiaaa
