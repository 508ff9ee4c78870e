/- The world of a run, made. -/
import Derived.Test.YtijciojipcgiaaaRows
import Derived.Test.YtijciojipcgiaaaWkLives
import Derived.Test.YtijciojipcgiaaaWkPush
import Derived.Test.YtijciojipcgiaaaIrSizes
import Derived.Test.YtijciojipcgiaaaIrBoth
import Derived.Test.YtijciojipcgiaaaWkBack
import Derived.LoopTactic
import Derived.LoopN
import Derived.WalkKit
import Derived.WalkSpells
import Derived.WalkLawsBesides
import Derived.Lib.Hide
import Derived.OrdersHeld
import Derived.Deep.RegionHeld
import Derived.Deep.DrawnRows
import Derived.RegionTactic
import Derived.Deep.RegionHeld3
import Derived.IntWalk
import Derived.Test.YtijciojipcgiaaaWkLawP
import Derived.Deep.AppendLies
namespace Go.Proofs.Ytijciojipcgiaaa
open Go.RowKit
set_option maxRecDepth 100000
attribute [local go_sem ↓] bld_eq bls_eq

theorem made_cells (z : Value) (n : Nat) : madeCells #[z] n = (List.replicate n z).toArray := by
  unfold madeCells
  apply Array.ext
  · simp
  · intro i h1 h2
    simp [Nat.mod_one]
theorem infoI64 : (Try.prog.info? 2).map (fun i => (i.zero, i.size, i.bytes)) = some (some (.int .i64 0), 1, 8) := by kernel_rfl
theorem make_ints (n : Nat) (hn : n ≤ 65537) (w : World) : (Instr.makeSlice 35 (.int .i64 (n : Int)) (.int .i64 (n : Int))).run Try.prog w = .ok (.slice (some ⟨w.heap.size, 0, none⟩) n n) (w.alloc (.cells (wds (List.replicate n 0)).toArray 2)) := by
  obtain ⟨i0, hi, hz0, hz1, hz2⟩ := info_parts infoI64
  have h := run_make (P := Try.prog) w 35 2 i0 (.int .i64 0) Try.underlying35 hi hz0 .i64 .i64 (n : Int) (n : Int) (by omega) (by omega) (by rw [hz2]; omega) (by omega)
  rw [hz1, Int.toNat_natCast, Nat.mul_one] at h
  rw [h, wds, List.map_replicate, ← made_cells]
  rfl
/-- What newWorld answers. -/
def NewWE (N n : Nat) (w : World) (e : Ending) (w' : World) : Prop := ∃ b s, e = .returned (.pointer (some ⟨b, 0, none⟩)) ∧ Below w.heap.size w w' ∧ w.heap.size ≤ b ∧ w.heap.size ≤ s ∧ b ≠ s ∧
  w'.heap[b]? = some (.cells (worldC (.slice (some ⟨s, 0, none⟩) N N) n false) 69 (0, 0)) ∧ w'.heap[s]? = some (.cells (wds (List.replicate N 0)).toArray 2 (0, 0))
set_option maxHeartbeats 8000000 in
theorem newWorld_any (N n : Nat) (w : World) (hN : 1 ≤ N) (hN2 : N ≤ 65537) :
    Calls Try.prog 15 #[.int .i64 ((N : Int) - 1), .int .i64 (n : Int)] w (NewWE N n w) := by
  have hmk := make_ints N hN2
  obtain ⟨M, hM⟩ : ∃ M, M = (wds (List.replicate N 0)).toArray := ⟨_, rfl⟩
  rw [← hM] at hmk
  have e5 := fun (b : Nat) => bld_of 69 #[(0, .slice (some ⟨b, 0, none⟩) N N), (1, .int .i64 (n : Int)), (3, .agg deedsL.toArray)] (worldC (.slice (some ⟨b, 0, none⟩) N N) n false) (by kernel_rfl)
  have HD := Lib.hid deeds_call
  unfold NewWE
  rw [← hM]
  have HW := Lib.hid (fun (b : Nat) => (rfl : worldC (.slice (some ⟨b, 0, none⟩) N N) n false = worldC (.slice (some ⟨b, 0, none⟩) N N) n false))
  obtain ⟨C, hC⟩ : ∃ C : Nat → Array Value, C = fun b => worldC (.slice (some ⟨b, 0, none⟩) N N) n false := ⟨_, rfl⟩
  have hCe : ∀ b, worldC (.slice (some ⟨b, 0, none⟩) N N) n false = C b := fun b => by rw [hC]
  simp only [hCe] at e5 ⊢
  obtain ⟨DA, hDA⟩ : ∃ D, D = deedsL.toArray := ⟨_, rfl⟩
  rw [← hDA] at e5 HD
  have hwr : IntKind.wrap .i64 (1 + ((N : Int) - 1)) = (N : Int) := by rw [show 1 + ((N : Int) - 1) = (N : Int) by omega]; exact IntWalk.i64_in _ (by omega)
  clear hM hC hCe hDA HW
  go_enter Try.func15, Try.ntmps15
  go_wp2_with fail
  refine wp_region_held_drew (S := SameTo (w.heap.size) w) (by kernel_rfl) (SameTo.drew _ _) (fun hSw => ?_)
  refine wpAnyH_take (i := 0) (oi := { dst := some 5, op := Op.move (Operand.tmp 0), type := 3, pos := "world.go:16", after := #[], guard := none }) (v := .int .i64 ((N : Int) - 1)) rfl (by kernel_rfl) (by kernel_rfl) (by kernel_rfl) (fun _ _ _ h => h) (Or.inl ⟨by rfl, fun W hW => ?_⟩) hSw ?_
  · first | (go_simp; done) | rfl
  try simp only [Act.put, List.setIfInBounds_toArray, List.set_cons_zero, List.set_cons_succ]
  refine wpAnyH_take (i := 1) (oi := { dst := some 6, op := Op.binOp BinOp.add 3 (Operand.const (Value.int IntKind.i64 1)) (Operand.tmp 5) 3, type := 3, pos := "world.go:16", after := #[{ on := 0, ground := Ground.data }], guard := none }) (v := .int .i64 (N : Int)) rfl (by kernel_rfl) (by kernel_rfl) (by kernel_rfl) (fun _ _ _ h => h) (Or.inl ⟨by rfl, fun W hW => ?_⟩) hSw ?_
  · first | (go_simp; done) | (go_simp; exact hwr)
  try simp only [Act.put, List.setIfInBounds_toArray, List.set_cons_zero, List.set_cons_succ]
  refine wpAnyH_take (i := 3) (oi := { dst := some 8, op := Op.move (Operand.tmp 1), type := 3, pos := "world.go:16", after := #[], guard := none }) (v := .int .i64 (n : Int)) rfl (by kernel_rfl) (by kernel_rfl) (by kernel_rfl) (fun _ _ _ h => h) (Or.inl ⟨by rfl, fun W hW => ?_⟩) hSw ?_
  · first | (go_simp; done) | rfl
  try simp only [Act.put, List.setIfInBounds_toArray, List.set_cons_zero, List.set_cons_succ]
  refine wpAnyH_ready (rs := [2, 4]) (by kernel_rfl) (by simp) ?_
  refine AllReadyH.cons (o := { dst := some 7, op := Op.makeSlice 35 (Operand.tmp 6) (Operand.tmp 6), type := 35, pos := "world.go:16", after := #[{ on := 1, ground := Ground.data }, { on := 1, ground := Ground.data }], guard := none }) rfl (fun K hK => ?_) (AllReadyH.cons (o := { dst := some 9, op := Op.call { callee := Callee.value (Operand.func 23), args := #[], argTypes := #[] }, type := 67, pos := "world.go:16", after := #[], guard := none }) rfl (fun K hK => ?_) AllReadyH.nil)
  · rw [if_pos (by rfl)]
    clear hSw
    go_simp
    refine hK.out _ _ (fun k hk => Below.heap_alloc _ _ _ hk) (fun hSw => ?_)
    clear hK K
    try simp only [Act.put, List.setIfInBounds_toArray, List.set_cons_zero, List.set_cons_succ]
    refine wpAnyH_ready (rs := [4]) (by kernel_rfl) (by simp) ?_
    refine AllReadyH.cons (o := { dst := some 9, op := Op.call { callee := Callee.value (Operand.func 23), args := #[], argTypes := #[] }, type := 67, pos := "world.go:16", after := #[], guard := none }) rfl (fun K hK => ?_) AllReadyH.nil
    rw [if_pos (by rfl)]
    clear hSw
    go_simp
    refine (HD.out _).mono ?_; rintro e w2 ⟨rfl, hb⟩
    have hB2 : Below w.heap.size w w2 := (below_box w _).trans (Below.mono ⟨hb.os, hb.tape, hb.output, hb.size, hb.block⟩ (by show w.heap.size ≤ (w.alloc _).heap.size; simp))
    have hrow : w2.heap[w.heap.size]? = some (.cells M 2 (0, 0)) := (hb.block _ (by show w.heap.size < (w.alloc _).heap.size; simp)).trans (MapKept.heap_alloc w _).1
    have hzz : w.heap.size < w2.heap.size := heap_lt hrow
    have HB2 := Lib.hid hB2
    have HROW := Lib.hid hrow
    clear hb hrow
    refine hK.out _ _ (fun k hk => hB2.block k hk) (fun hSw => ?_)
    clear hK K
    try simp only [Act.put, List.setIfInBounds_toArray, List.set_cons_zero, List.set_cons_succ]
    have hSX : ∀ k, k < w.heap.size → w2.heap[k]? = w.heap[k]? := fun k hk => HB2.out.block k hk
    refine wpAnyH_take (i := 5) (oi := { dst := some 10, op := Op.build 69 #[(0, Operand.tmp 7), (1, Operand.tmp 8), (3, Operand.tmp 9)], type := 69, pos := "world.go:16", after := #[{ on := 2, ground := Ground.data }, { on := 3, ground := Ground.data }, { on := 4, ground := Ground.data }], guard := none }) (v := .agg (C w.heap.size)) rfl (by kernel_rfl) (by kernel_rfl) (by kernel_rfl) (fun _ _ _ h => h) (Or.inl ⟨by rfl, fun W hW => ?_⟩) hSw ?_
    · have e5x := e5 w.heap.size; first | (go_simp; done) | rfl
    try simp only [Act.put, List.setIfInBounds_toArray, List.set_cons_zero, List.set_cons_succ]
    refine wpAnyH_ready (rs := [6]) (by kernel_rfl) (by simp) ?_
    refine AllReadyH.cons (o := { dst := some 11, op := Op.box 69 (Operand.tmp 10), type := 59, pos := "world.go:16", after := #[{ on := 5, ground := Ground.data }], guard := none }) rfl (fun K hK => ?_) AllReadyH.nil
    rw [if_pos (by rfl)]
    clear hSw
    go_simp
    refine hK.out _ _ (fun k hk => (Below.heap_alloc _ _ _ (by first | (show k < w2.heap.size; omega) | (simp; omega))).trans (hSX k hk)) (fun hSw => ?_)
    clear hK K
    try simp only [Act.put, List.setIfInBounds_toArray, List.set_cons_zero, List.set_cons_succ]
    refine wpAnyH_take (i := 7) (oi := { dst := some 4, op := Op.assign (Operand.tmp 11), type := 59, pos := "world.go:16", after := #[{ on := 6, ground := Ground.data }, { on := 4, ground := Ground.chain }, { on := 0, ground := Ground.phase }, { on := 1, ground := Ground.phase }, { on := 2, ground := Ground.phase }, { on := 3, ground := Ground.phase }, { on := 4, ground := Ground.phase }, { on := 5, ground := Ground.phase }, { on := 6, ground := Ground.phase }], guard := none }) (v := .pointer (some ⟨w2.heap.size, 0, none⟩)) rfl (by kernel_rfl) (by kernel_rfl) (by kernel_rfl) (fun _ _ _ h => h) (Or.inl ⟨by rfl, fun W hW => ?_⟩) hSw ?_
    · first | (go_simp; done) | rfl
    try simp only [Act.put, List.setIfInBounds_toArray, List.set_cons_zero, List.set_cons_succ]
    refine wpAnyH_done (by kernel_rfl) ?_ _
    go_wp2_with fail
    go_ret
    refine ⟨w2.heap.size, w.heap.size, rfl, HB2.out.alloc (by omega) _, by omega, by omega, by omega, ?_, ?_⟩
    · first | exact (MapKept.heap_alloc w2 _).1 | (rw [← hz3]; exact (MapKept.heap_alloc _ _).1)
    · exact (Below.heap_alloc w2 _ _ (by first | omega | (simp; omega))).trans HROW.out
  · rw [if_pos (by rfl)]
    clear hSw
    go_simp
    refine (HD.out _).mono ?_; rintro e w2 ⟨rfl, hb⟩
    have hB2 : Below w.heap.size w w2 := ⟨hb.os, hb.tape, hb.output, hb.size, hb.block⟩
    have hzz : w.heap.size ≤ w2.heap.size := hB2.size
    have HB2 := Lib.hid hB2
    clear hb
    refine hK.out _ _ (fun k hk => hB2.block k hk) (fun hSw => ?_)
    clear hK K
    try simp only [Act.put, List.setIfInBounds_toArray, List.set_cons_zero, List.set_cons_succ]
    have hSX : ∀ k, k < w.heap.size → w2.heap[k]? = w.heap[k]? := fun k hk => HB2.out.block k hk
    clear hB2
    refine wpAnyH_ready (rs := [2]) (by kernel_rfl) (by simp) ?_
    refine AllReadyH.cons (o := { dst := some 7, op := Op.makeSlice 35 (Operand.tmp 6) (Operand.tmp 6), type := 35, pos := "world.go:16", after := #[{ on := 1, ground := Ground.data }, { on := 1, ground := Ground.data }], guard := none }) rfl (fun K hK => ?_) AllReadyH.nil
    rw [if_pos (by rfl)]
    clear hSw
    go_simp
    have hz3 : (w2.alloc (.cells M 2)).heap.size = w2.heap.size + 1 := by simp
    have hrow : (w2.alloc (.cells M 2)).heap[w2.heap.size]? = some (.cells M 2 (0, 0)) := (MapKept.heap_alloc w2 _).1
    have HB3 := Lib.hid (HB2.out.alloc hzz (.cells M 2))
    have HROW := Lib.hid hrow
    clear hrow
    refine hK.out _ _ (fun k hk => (Below.heap_alloc _ _ _ (by omega)).trans (hSX k hk)) (fun hSw => ?_)
    clear hK K
    try simp only [Act.put, List.setIfInBounds_toArray, List.set_cons_zero, List.set_cons_succ]
    refine wpAnyH_take (i := 5) (oi := { dst := some 10, op := Op.build 69 #[(0, Operand.tmp 7), (1, Operand.tmp 8), (3, Operand.tmp 9)], type := 69, pos := "world.go:16", after := #[{ on := 2, ground := Ground.data }, { on := 3, ground := Ground.data }, { on := 4, ground := Ground.data }], guard := none }) (v := .agg (C w2.heap.size)) rfl (by kernel_rfl) (by kernel_rfl) (by kernel_rfl) (fun _ _ _ h => h) (Or.inl ⟨by rfl, fun W hW => ?_⟩) hSw ?_
    · have e5x := e5 w2.heap.size; first | (go_simp; done) | rfl
    try simp only [Act.put, List.setIfInBounds_toArray, List.set_cons_zero, List.set_cons_succ]
    refine wpAnyH_ready (rs := [6]) (by kernel_rfl) (by simp) ?_
    refine AllReadyH.cons (o := { dst := some 11, op := Op.box 69 (Operand.tmp 10), type := 59, pos := "world.go:16", after := #[{ on := 5, ground := Ground.data }], guard := none }) rfl (fun K hK => ?_) AllReadyH.nil
    rw [if_pos (by rfl)]
    clear hSw
    go_simp
    refine hK.out _ _ (fun k hk => (Below.heap_alloc _ _ _ (by simp; omega)).trans ((Below.heap_alloc _ _ _ (by omega)).trans (hSX k hk))) (fun hSw => ?_)
    clear hK K
    try simp only [Act.put, List.setIfInBounds_toArray, List.set_cons_zero, List.set_cons_succ]
    refine wpAnyH_take (i := 7) (oi := { dst := some 4, op := Op.assign (Operand.tmp 11), type := 59, pos := "world.go:16", after := #[{ on := 6, ground := Ground.data }, { on := 4, ground := Ground.chain }, { on := 0, ground := Ground.phase }, { on := 1, ground := Ground.phase }, { on := 2, ground := Ground.phase }, { on := 3, ground := Ground.phase }, { on := 4, ground := Ground.phase }, { on := 5, ground := Ground.phase }, { on := 6, ground := Ground.phase }], guard := none }) (v := .pointer (some ⟨w2.heap.size + 1, 0, none⟩)) rfl (by kernel_rfl) (by kernel_rfl) (by kernel_rfl) (fun _ _ _ h => h) (Or.inl ⟨by rfl, fun W hW => ?_⟩) hSw ?_
    · first | (go_simp; done) | rfl
    try simp only [Act.put, List.setIfInBounds_toArray, List.set_cons_zero, List.set_cons_succ]
    refine wpAnyH_done (by kernel_rfl) ?_ _
    go_wp2_with fail
    go_ret
    refine ⟨w2.heap.size + 1, w2.heap.size, rfl, HB3.out.alloc (by rw [hz3]; omega) _, by omega, by omega, by omega, ?_, ?_⟩
    · first | exact (MapKept.heap_alloc (w2.alloc (.cells M 2)) _).1 | (rw [← hz3]; exact (MapKept.heap_alloc _ _).1)
    · exact (Below.heap_alloc (w2.alloc (.cells M 2)) _ _ (by first | omega | (simp; omega))).trans HROW.out
end Go.Proofs.Ytijciojipcgiaaa
namespace Go.Proofs.Ytijciojipcgiaaa
open Go.RowKit
set_option maxRecDepth 100000
attribute [local go_sem ↓] bld_eq bls_eq

def ptrV (p : Nat) : Value := .pointer (some ⟨p, 0, none⟩)
theorem gr3 {w : World} {g n off : Nat} {cap : Nat} {B : Nat} {l : List Gr} (h : LiesG Gr.cells 3 w B (.slice (some ⟨g, off, none⟩) n cap) l) (i : Nat) (hi : i < l.length) :
    w.cell? ⟨g, off + i * 3, none⟩ = some l[i].rv ∧ w.cell? ⟨g, off + i * 3 + 1, none⟩ = some (.int .i64 l[i].sites) ∧ w.cell? ⟨g, off + i * 3 + 2, none⟩ = some l[i].bv := by
  have h1 := (h.at rfl i hi).2
  exact ⟨h1 0 _ rfl, h1 1 _ rfl, h1 2 _ rfl⟩
/-- One thread more. -/
theorem RunAt.grow {ow : Nat → Nat} {w w' : World} {B b k p r q : Nat} {WD : Int} {n : Nat} {gs : List Gr} {ps : List Nat} {v : Value} {g : Gr} (h : RunAt ow w B b (gs.take k) ps (RS0 WD (gs.take k) n) v) (hk : k ≤ gs.length) (hg : gs[k]? = some g) (hgo : GOk g) (hn : n ≤ 1048576)
    (hb : But ow [3] w w') (hp : w.heap.size ≤ p) (hr : w.heap.size ≤ r) (hpr : p ≠ r) (hqp : q ≠ p) (hqr : q ≠ r) (hq : ow q = 3 ∨ w.heap.size ≤ q)
    (h1 : w'.heap[p]? = some (.cells (threadC b g (.slice (some ⟨r, 0, none⟩) g.refs.length g.refs.length) (TS0 g) (.slice none 0 0) (.slice none 0 0) (.slice none 0 0)) 80 (0, 0))) (h2 : w'.heap[r]? = some (.cells (wds (List.replicate g.refs.length 0)).toArray 2 (0, 0))) :
    ∃ ow', Ext ow ow' w ∧ RunAt ow' w' B b (gs.take (k + 1)) (ps ++ [p]) (RS0 WD (gs.take (k + 1)) n) v ∧ ow' q = 3 := by
  obtain ⟨ow', hw'⟩ : ∃ ow' : Nat → Nat, ow' = fun x => if x < w.heap.size then ow x else if x = p then 10 + 8 * k else if x = r then 11 + 8 * k else 3 := ⟨_, rfl⟩
  have he : Ext ow ow' w := fun x hx => by rw [hw']; simp [hx]
  have hlk : (gs.take k).length = k := by rw [List.length_take]; omega
  have hkl : k < gs.length := (List.getElem?_eq_some_iff.1 hg).1
  have htk : gs.take (k + 1) = gs.take k ++ [g] := by
    rw [List.take_succ_eq_append_getElem hkl]
    rw [List.getElem?_eq_getElem hkl] at hg
    cases hg; rfl
  have op : ow' p = 10 + 8 * k := by rw [hw']; simp [Nat.not_lt.2 hp]
  have or' : ow' r = 11 + 8 * k := by rw [hw']; simp [Nat.not_lt.2 hr, Ne.symm hpr]
  have hpl := h.plen
  rw [hlk] at hpl
  refine ⟨ow', he, ⟨h.world.keeps hb he (by simp) (by simp), Nat.le_trans h.base hb.size, fun x hx => by rw [he x (by have := h.base; omega)]; exact h.low x hx, by simp [RS0], by simp [hpl]; omega, h.words, fun j g' T' p' e1 e2 e3 => ?_⟩, ?_⟩
  · have e2' : ((gs.take (k + 1)).map TS0)[j]? = some T' := e2
    rw [List.getElem?_map, e1] at e2'
    cases e2'
    rw [htk] at e1
    by_cases hj : j < k
    · rw [List.getElem?_append, if_pos (by omega)] at e1
      rw [List.getElem?_append, if_pos (by omega)] at e3
      obtain ⟨⟨a, b', c, d, ht⟩, hs⟩ := h.each j g' (TS0 g') p' e1 (by show ((gs.take k).map TS0)[j]? = _; rw [List.getElem?_map, e1]; rfl) e3
      exact ⟨⟨a, b', c, d, ht.keeps hb he (by intro l hl; simp at hl; omega)⟩, hs⟩
    · have hlj := (List.getElem?_eq_some_iff.1 e1).1
      have hjk : j = k := by simp [hlk] at hlj; omega
      subst hjk
      rw [List.getElem?_append, if_neg (by omega), hlk, Nat.sub_self] at e1
      rw [List.getElem?_append, if_neg (by omega), hpl, Nat.sub_self] at e3
      cases e1
      cases e3
      refine ⟨⟨_, _, _, _, ⟨h1, op, ⟨r, by simp [TS0], by simpa [TS0] using h2, or'⟩, ⟨[], ⟨rfl, .inl ⟨rfl, rfl⟩⟩, rfl, fun x hx => by cases hx⟩, .inl ⟨rfl, rfl⟩, .inl ⟨rfl, rfl⟩⟩⟩, still0 WD _ n hn g hgo⟩
  · rcases Nat.lt_or_ge q w.heap.size with hlt | hge
    · rw [he q hlt]
      rcases hq with hq | hq
      · exact hq
      · omega
    · rw [hw']; simp [Nat.not_lt.2 hge, hqp, hqr]
theorem infoTh : (Try.prog.info? 63).map (fun i => (i.zero, i.size, i.bytes)) = some (some (.pointer none), 1, 8) := by kernel_rfl
/-- A round of newThreads: its append, and what it leaves. -/
theorem newT_round {ow : Nat → Nat} {L : Nat} {w0 w U : World} {B b k n : Nat} {WD : Int} {gs : List Gr} {ps : List Nat} {v tv : Value} {g : Gr} (h : RunAt ow w B b (gs.take k) ps (RS0 WD (gs.take k) n) v) (hg : gs[k]? = some g) (hgo : GOk g) (hn : n ≤ 1048576) (hk4 : k ≤ 1000)
    (hL : L ≤ w.heap.size) (hL0 : Below L w0 w) (hrow : w.ownsRow L 63 1 tv k (ps.map ptrV)) (hlab : ∀ q, tv.ownBlock = some q → ow q = 3) (hU : Below w.heap.size w U) (hUs : U.heap.size = w.heap.size + 1) :
    ∃ gq cap w4, (Builtin.append_ #[61, 61] 61 #[tv, .slice (some ⟨U.heap.size + 2, 0, none⟩) 1 1]).run Try.prog
        (((U.alloc (.cells (wds (List.replicate g.refs.length 0)).toArray 2)).alloc (.cells (threadC b g (.slice (some ⟨U.heap.size, 0, none⟩) g.refs.length g.refs.length) (TS0 g) (.slice none 0 0) (.slice none 0 0) (.slice none 0 0)) 80)).alloc (.cells #[ptrV (U.heap.size + 1)] 63)).drew = .ok (.slice (some ⟨gq, 0, none⟩) (k + 1) cap) w4 ∧
      SameOn (fun x => x = w.heap.size) U w4 ∧ Below L w0 w4 ∧ w4.ownsRow L 63 1 (.slice (some ⟨gq, 0, none⟩) (k + 1) cap) (k + 1) ((ps ++ [U.heap.size + 1]).map ptrV) ∧
      ∃ ow', Ext ow ow' w ∧ RunAt ow' w4 B b (gs.take (k + 1)) (ps ++ [U.heap.size + 1]) (RS0 WD (gs.take (k + 1)) n) v ∧ ow' gq = 3 := by
  obtain ⟨O1, hO1⟩ : ∃ O, O = Obj.cells (wds (List.replicate g.refs.length 0)).toArray 2 := ⟨_, rfl⟩
  obtain ⟨O2, hO2⟩ : ∃ O, O = Obj.cells (threadC b g (.slice (some ⟨U.heap.size, 0, none⟩) g.refs.length g.refs.length) (TS0 g) (.slice none 0 0) (.slice none 0 0) (.slice none 0 0)) 80 := ⟨_, rfl⟩
  rw [← hO1, ← hO2]
  obtain ⟨i, hi, hz, hs, hb⟩ := info_parts infoTh
  have b1 : Below U.heap.size U (((U.alloc O1).alloc O2).alloc (.cells #[ptrV (U.heap.size + 1)] 63)).drew := by
    exact below_drewN' (((below_box U O1).alloc (by simp) _).alloc (by simp; omega) _)
  have s1 : (U.alloc O1).heap.size = U.heap.size + 1 := by simp
  have s2 : ((U.alloc O1).alloc O2).heap.size = U.heap.size + 2 := by simp
  have s3 : (((U.alloc O1).alloc O2).alloc (.cells #[ptrV (U.heap.size + 1)] 63)).drew.heap.size = U.heap.size + 3 := by show (((U.alloc O1).alloc O2).alloc (.cells #[ptrV (U.heap.size + 1)] 63)).heap.size = _; simp
  have c0 : (((U.alloc O1).alloc O2).alloc (.cells #[ptrV (U.heap.size + 1)] 63)).drew.heap[U.heap.size]? = some O1 := by
    show (((U.alloc O1).alloc O2).alloc (.cells #[ptrV (U.heap.size + 1)] 63)).heap[U.heap.size]? = some O1
    rw [Below.heap_alloc _ _ _ (by rw [s2]; omega), Below.heap_alloc _ _ _ (by rw [s1]; omega)]
    exact (MapKept.heap_alloc U O1).1
  have c1 : (((U.alloc O1).alloc O2).alloc (.cells #[ptrV (U.heap.size + 1)] 63)).drew.heap[U.heap.size + 1]? = some O2 := by
    show (((U.alloc O1).alloc O2).alloc (.cells #[ptrV (U.heap.size + 1)] 63)).heap[U.heap.size + 1]? = some O2
    rw [Below.heap_alloc _ _ _ (by rw [s2]; omega), ← s1]
    exact (MapKept.heap_alloc _ O2).1
  have c2 : (((U.alloc O1).alloc O2).alloc (.cells #[ptrV (U.heap.size + 1)] 63)).drew.heap[U.heap.size + 2]? = some (.cells #[ptrV (U.heap.size + 1)] 63 (0, 0)) := by
    show (((U.alloc O1).alloc O2).alloc (.cells #[ptrV (U.heap.size + 1)] 63)).heap[U.heap.size + 2]? = _
    rw [← s2]
    exact (MapKept.heap_alloc _ _).1
  generalize (((U.alloc O1).alloc O2).alloc (.cells #[ptrV (U.heap.size + 1)] 63)).drew = W3 at b1 s3 c0 c1 c2
  have bw3 : Below w.heap.size w W3 := hU.trans (b1.mono (by omega))
  have hrow3 : W3.ownsRow L 63 1 tv k (ps.map ptrV) := by
    refine ⟨hrow.1, ?_⟩
    rcases hrow.2 with hn' | ⟨gg, cap, cur, e, hb', hgg, rest⟩
    · exact .inl hn'
    · exact .inr ⟨gg, cap, cur, e, hb', (bw3.block gg (heap_lt hgg)).trans hgg, rest⟩
  obtain ⟨gq, cap, w4, hr, hown, hgrow, hat, hlt⟩ := run_append_lies (P := Try.prog) W3 61 61 L 63 i (.pointer none) 1 8 Try.underlying61 hi hz hs hb rfl (by omega) tv k _ hrow3
    ⟨U.heap.size + 2, 0, none⟩ 1 1 [ptrV (U.heap.size + 1)] rfl (World.news_of_block c2) (by intro u hu; simp at hu; subst hu; rfl) (by omega) (by unfold maxLen; omega) (by omega) (by omega) (U.heap.size + 3) s3
  have htv : ∀ x, tv.ownBlock = some x → L ≤ x ∧ x < w.heap.size := fun x hx => by
    rcases hrow.2 with ⟨e, -⟩ | ⟨gg, cap, cur, e, hb', hgg, -⟩
    · rw [e] at hx; cases hx
    · rw [e] at hx; cases hx; exact ⟨hb', heap_lt hgg⟩
  have hkeep : ∀ x, x < w.heap.size + 4 → ow x ≠ 3 ∨ w.heap.size ≤ x → w4.heap[x]? = W3.heap[x]? := fun x hx hl => hgrow.block x (by omega) (fun q => by
    have hq := q.symm
    rcases hl with hl | hl
    · exact hl (hlab x hq)
    · have := (htv x hq).2; omega)
  have hbut : But ow [3] w w4 := ⟨hgrow.os.trans bw3.os, hgrow.tape.trans bw3.tape, hgrow.output.trans bw3.output, Nat.le_trans bw3.size hgrow.size, fun x hx hl => (hkeep x (by omega) (.inl (by simpa using hl))).trans (bw3.block x hx)⟩
  have hqn : gq ≠ U.heap.size + 1 ∧ gq ≠ U.heap.size ∧ (ow gq = 3 ∨ w.heap.size ≤ gq) := by
    rcases hat with e | e
    · have := (htv gq e).2
      exact ⟨by omega, by omega, .inl (hlab gq e)⟩
    · exact ⟨by omega, by omega, .inr (by omega)⟩
  obtain ⟨ow', e1, e2, e3⟩ := h.grow (w' := w4) (p := U.heap.size + 1) (r := U.heap.size) (q := gq) (Nat.le_of_lt (List.getElem?_eq_some_iff.1 hg).1) hg hgo hn hbut (by omega) (by omega) (by omega) hqn.1 hqn.2.1 hqn.2.2
    (by rw [hkeep _ (by omega) (.inr (by omega)), c1, hO2]) (by rw [hkeep _ (by omega) (.inr (by omega)), c0, hO1])
  refine ⟨gq, cap, w4, hr, ?_, ?_, by rw [List.map_append]; exact hown, ow', e1, e2, e3⟩
  · rintro x rfl
    exact (hkeep _ (by omega) (.inr (Nat.le_refl _))).trans (b1.block _ (by omega))
  · refine ⟨hbut.os.trans hL0.os, hbut.tape.trans hL0.tape, hbut.output.trans hL0.output, Nat.le_trans hL0.size hbut.size, fun x hx => ?_⟩
    refine ((hgrow.block x (by omega) fun q => ?_).trans (bw3.block x (by omega))).trans (hL0.block x hx)
    have := (htv x q.symm).1
    omega
end Go.Proofs.Ytijciojipcgiaaa
