/- What is live ahead of a stretch. -/
import Derived.Test.YtgkjhnghibpeoaaDoorRows
import Derived.Test.YtgkjhnghibpeoaaDoorLvOps
import Derived.Test.YtgkjhnghibpeoaaDoorLvLive
import Derived.Test.YtgkjhnghibpeoaaDoorIrLeaf
import Derived.Test.YtgkjhnghibpeoaaDoorIrNew
import Derived.Test.YtgkjhnghibpeoaaDoorParseOrder
import Derived.LoopTactic
import Derived.LoopN
import Derived.Deep.LoopGhost
import Derived.WalkKit
import Derived.WalkSpells
import Derived.WalkLawsBesides
import Derived.Lib.Hide
import Derived.OrdersHeld
import Derived.Deep.RegionHeld
import Derived.Deep.DrawnRows
import Derived.RegionTactic
import Derived.Deep.RegionHeld3
import Derived.IntWalk
import Derived.Deep.QuietTactic
import Derived.BigQuiet
import Derived.Test.YtgkjhnghibpeoaaDoorLvAhd
namespace Go.Proofs.YtgkjhnghibpeoaaDoor
open Go.RowKit
set_option maxRecDepth 1000000
attribute [local go_sem ↓] bld_eq bls_eq


def deedV (d : Dd) : Value := .agg (u64A (d.1 ++ d.2))
theorem u64A_sub (L : List Nat) (o n : Nat) : (u64A L).extract o (o + n) = u64A ((L.drop o).take n) := by
  apply Array.ext'
  simp [u64A, List.map_take, List.map_drop, Array.toList_extract, List.extract]
theorem range_of {W : World} {b : Nat} {L : List Nat} {T : TypeId} {fr : Nat × Nat} (hb : W.heap[b]? = some (.cells (u64A L) T fr)) (o n : Nat) : W.rangeAt b o (u64A ((L.drop o).take n)).toList := by
  have := World.rangeAt_of_block hb o n
  rw [u64A_sub] at this
  exact this
theorem exec_set {a : Act} {W : World} {x : Operand} {d : Option Tmp} {t : TypeId} {p : String} {af : Array Edge} {g : Option (Nat × Bool)} (b o : Nat) (L s : List Nat) (T : TypeId) (fr : Nat × Nat) (hx : a.eval x = .pointer (some ⟨b, o, none⟩)) (hb : W.heap[b]? = some (.cells (u64A L) T fr)) (hs : (L.drop o).take 16 = s) (hl : s.length = 16) :
    (execOp a.eval ⟨d, .load 58 x, t, p, af, g⟩).run Tryd.prog W = .ok (.value (setV s)) W := by
  have h1 := range_of hb o 16
  rw [hs] at h1
  have h2 := run_loadAt_mid (P := Tryd.prog) W b o 58 _ _ h1 Tryd.underlying58 rfl (by rw [Array.length_toList, u64A_size, hl]; kernel_rfl)
  unfold execOp
  simp only [hx, Sem.run_bind, h2, Result.andThen_ok, Sem.run_pure]
  rfl
theorem app_left {a c : List Nat} (h : a.length = 16) : ((a ++ c).drop 0).take 16 = a := by rw [List.drop_zero, List.take_append_of_le_length (by omega), List.take_of_length_le (by omega)]
theorem app_right {a c : List Nat} (h : a.length = 16) (k : c.length = 16) : ((a ++ c).drop 16).take 16 = c := by rw [List.drop_append_of_le_length (by omega), List.drop_eq_nil_of_le (by omega), List.nil_append, List.take_of_length_le (by omega)]
theorem all16 {s : List Nat} (h : s.length = 16) : (s.drop 0).take 16 = s := by rw [List.drop_zero, List.take_of_length_le (by omega)]
set_option maxHeartbeats 8000000 in
theorem ahead_set_any (d : Dd) (s : List Nat) (w : World) (hd : DOk d) (hs : SOk s) :
    Calls Tryd.prog 32 #[deedV d, setV s] w fun e w' => e = .returned (setV (aheadS d s)) ∧ Below w.heap.size w w' := by
  obtain ⟨da, dc⟩ := d
  have hda : SOk da := hd.a
  have hdc : SOk dc := hd.c
  obtain ⟨⟨hz, hb⟩, q0, q1, q2⟩ := three_box w (u64A (da ++ dc)) (u64A s) #[.int .u64 0, .int .u64 0, .int .u64 0, .int .u64 0, .int .u64 0, .int .u64 0, .int .u64 0, .int .u64 0, .int .u64 0, .int .u64 0, .int .u64 0, .int .u64 0, .int .u64 0, .int .u64 0, .int .u64 0, .int .u64 0] 67 58 58
  obtain ⟨A, hAe⟩ : ∃ A, A = u64A (da ++ dc) := ⟨_, rfl⟩
  obtain ⟨B, hBe⟩ : ∃ B, B = u64A s := ⟨_, rfl⟩
  rw [← hAe, ← hBe] at hz hb q0 q1 q2
  obtain ⟨W, hW⟩ : ∃ W, W = ((w.alloc (.cells A 67)).alloc (.cells B 58)).alloc (.cells #[.int .u64 0, .int .u64 0, .int .u64 0, .int .u64 0, .int .u64 0, .int .u64 0, .int .u64 0, .int .u64 0, .int .u64 0, .int .u64 0, .int .u64 0, .int .u64 0, .int .u64 0, .int .u64 0, .int .u64 0, .int .u64 0] 58) := ⟨_, rfl⟩
  rw [← hW] at hz hb q0 q1 q2
  have HD1 := Lib.hid q0
  have HD2 := Lib.hid q1
  have HD3 := Lib.hid q2
  rw [hAe] at HD1
  rw [hBe] at HD2
  have HB := Lib.hid hb
  have HC1 := Lib.hid (fun W => setless_any s dc W hs hdc)
  have HC2 := Lib.hid (fun W => setwith_any (lessS s dc) da W (hs.less hdc) hda)
  have HR := Lib.hid (show aheadS (da, dc) s = withS (lessS s dc) da from rfl)
  have HO := Lib.hid (show SOk (aheadS (da, dc) s) from ahead_ok hd hs)
  have HL := Lib.hid (show da.length = 16 ∧ dc.length = 16 ∧ s.length = 16 from ⟨hda.len, hdc.len, hs.len⟩)
  have hva : deedV (da, dc) = .agg A := by rw [hAe]; rfl
  have hvb : setV s = .agg B := by rw [hBe]; rfl
  rw [hva, hvb]
  have HVB := Lib.hid hvb
  have HW := Lib.hid hW
  clear hW q0 q1 q2 hb hs hd hda hdc hva hvb hAe hBe
  go_enter Tryd.func32, Tryd.ntmps32
  go_wp2_with (rw [← HW.out])
  refine wp_region_held_drew (S := SameTo (w.heap.size + 2) W) (by kernel_rfl) (SameTo.drew _ _) (fun hSw => ?_)
  refine tG 0 (setV s) hSw (fun V hV => exec_set (w.heap.size + 1) 0 s s 58 (0, 0) rfl ((hV _ (by omega)).trans HD2.out) (all16 HL.out.2.2) HL.out.2.2) ?_
  try simp only [nS]
  refine tH 1 (.pointer (some ⟨w.heap.size, 16, none⟩)) hSw ?_
  try simp only [nS]
  refine tG 2 (setV dc) hSw (fun V hV => exec_set w.heap.size 16 (da ++ dc) dc 67 (0, 0) rfl ((hV _ (by omega)).trans HD1.out) (app_right HL.out.1 HL.out.2.1) HL.out.2.1) ?_
  try simp only [nS]
  refine tH 4 (.pointer (some ⟨w.heap.size, 0, none⟩)) hSw ?_
  try simp only [nS]
  refine tG 5 (setV da) hSw (fun V hV => exec_set w.heap.size 0 (da ++ dc) da 67 (0, 0) rfl ((hV _ (by omega)).trans HD1.out) (app_left HL.out.1) HL.out.1) ?_
  try simp only [nS]
  refine tR 3 (fun K hK => ?_)
  clear hSw
  go_simp
  refine (HC1.out _).mono ?_; rintro e V1 ⟨rfl, hb1⟩
  have HB1 := Lib.hid (show Below W.heap.size W V1 from ⟨hb1.os, hb1.tape, hb1.output, hb1.size, hb1.block⟩)
  clear hb1
  refine hK.out _ _ (fun k hk => HB1.out.block k (by omega)) (fun hSw => ?_)
  clear hK K
  try simp only [nS]
  refine tR 6 (fun K hK => ?_)
  clear hSw
  go_simp
  refine (HC2.out _).mono ?_; rintro e V2 ⟨rfl, hb2⟩
  have HB2 := Lib.hid (HB1.out.trans (hb2.mono HB1.out.size))
  clear hb2
  refine hK.out _ _ (fun k hk => HB2.out.block k (by omega)) (fun hSw => ?_)
  clear hK K
  try simp only [nS]
  rw [← HR.out]
  obtain ⟨R, hR⟩ : ∃ R, R = aheadS (da, dc) s := ⟨_, rfl⟩
  have HRe := Lib.hid hR
  have hRz : (u64A R).size = 16 := by rw [u64A_size, hR, HO.out.len]
  have hR1 := u64A_one R
  have HRz := Lib.hid (And.intro hRz hR1)
  rw [← hR]
  clear hR hRz hR1
  refine tR 7 (fun K hK => ?_)
  clear hSw
  refine wp_put 58 (Operand.tmp 4) (Operand.tmp 11) rfl (w.heap.size + 2) 58 _ (u64A R) rfl rfl ((HB2.out.block _ (by omega)).trans HD3.out) (by rw [HRz.out.1]; rfl) (by rw [HRz.out.1]; kernel_rfl) HRz.out.2 ?_
  intro w5 hp5
  have HP := Lib.hid hp5
  refine hK.out _ _ (fun k hk => (hp5.rest k (by omega)).trans (HB2.out.block k (by omega))) (fun hSw => ?_)
  clear hK K hp5
  try simp only [nS]
  refine wpAnyH_done (by kernel_rfl) ?_ _
  go_wp2_with fail
  refine bodyPost_ret (v := setV R) (results_cell_row rfl _ _ (w.heap.size + 2) 58 _ (0, 0) _ rfl HP.out.at_b Tryd.underlying58 rfl (by rw [HRz.out.1]; kernel_rfl)) rfl ?_
  exact ⟨by rw [HRe.out], HP.out.below (HB.out.trans (HB2.out.mono HB.out.size)) (by omega)⟩
end Go.Proofs.YtgkjhnghibpeoaaDoor
namespace Go.Proofs.YtgkjhnghibpeoaaDoor
open Go.RowKit
set_option maxRecDepth 1000000
attribute [local go_sem ↓] bld_eq bls_eq


/-- All but some blocks below L are as they were. -/
def SameX (X : Nat → Prop) (L : Nat) (w W : World) : Prop := ∀ k, k < L → ¬ X k → W.heap[k]? = w.heap[k]?
theorem SameX.drew (X : Nat → Prop) (L : Nat) (w : World) : SameX X L w w.drew := fun _ _ _ => rfl
theorem SameX.cell {X : Nat → Prop} {L : Nat} {w W : World} (h : SameX X L w W) {p : Addr} {v : Value} (hp : p.block < L) (hx : ¬ X p.block) (hc : w.cell? p = some v) : W.cell? p = some v := by
  rw [World.cell?_of_block (h p.block hp hx)]; exact hc
theorem SameX.row {X : Nat → Prop} {L : Nat} {w W : World} (h : SameX X L w W) {k : Nat} {o : Obj} (hp : k < L) (hx : ¬ X k) (hc : w.heap[k]? = some o) : W.heap[k]? = some o := (h k hp hx).trans hc
theorem flat_len {W : Nat} : ∀ (S : List (List Nat)), (∀ s ∈ S, s.length = W) → S.flatten.length = S.length * W := by
  intro S
  induction S with
  | nil => intro _; simp
  | cons a S ih =>
    intro h
    rw [List.flatten_cons, List.length_append, ih (fun s hs => h s (by simp [hs])), h a (by simp), List.length_cons, Nat.succ_mul]; omega
theorem flat_split {W : Nat} : ∀ (S : List (List Nat)), (∀ s ∈ S, s.length = W) → ∀ (n : Nat) (s : List Nat), S[n]? = some s → S.flatten = (S.take n).flatten ++ s ++ (S.drop (n + 1)).flatten ∧ (S.take n).flatten.length = n * W := by
  intro S h n s hs
  have hn := (List.getElem?_eq_some_iff.1 hs).1
  have e : S = S.take n ++ s :: S.drop (n + 1) := by
    have := List.take_append_drop n S
    rw [List.drop_eq_getElem_cons hn] at this
    have e2 : S[n] = s := (List.getElem?_eq_some_iff.1 hs).2
    rw [e2] at this
    exact this.symm
  refine ⟨?_, ?_⟩
  · have e3 : S.flatten = (S.take n ++ s :: S.drop (n + 1)).flatten := congrArg _ e
    rw [e3, List.flatten_append, List.flatten_cons, List.append_assoc]
  · rw [flat_len (W := W) _ (fun x hx => h x (List.mem_of_mem_take hx)), List.length_take, Nat.min_eq_left (by omega)]
theorem flat_at {W : Nat} {S : List (List Nat)} (h : ∀ s ∈ S, s.length = W) {n : Nat} {s : List Nat} (hs : S[n]? = some s) : (S.flatten.drop (n * W)).take W = s := by
  obtain ⟨h1, h2⟩ := flat_split S h n s hs
  rw [h1, List.append_assoc, ← h2, List.drop_left]
  have := h s (List.mem_of_getElem? hs)
  rw [List.take_append_of_le_length (by omega), List.take_of_length_le (by omega)]
theorem flat_set {W : Nat} {S : List (List Nat)} (h : ∀ s ∈ S, s.length = W) {n : Nat} {s t : List Nat} (hs : S[n]? = some s) (ht : t.length = W) : (S.set n t).flatten = S.flatten.take (n * W) ++ t ++ S.flatten.drop (n * W + W) := by
  obtain ⟨h1, h2⟩ := flat_split S h n s hs
  have hn := (List.getElem?_eq_some_iff.1 hs).1
  have hsl := h s (List.mem_of_getElem? hs)
  have e1 : (S.set n t).take n = S.take n := by rw [List.take_set_of_le (Nat.le_refl _)]
  have e2 : (S.set n t).drop (n + 1) = S.drop (n + 1) := by rw [List.drop_set_of_lt (by omega)]
  obtain ⟨g1, g2⟩ := flat_split (S.set n t) (fun x hx => by
    rcases List.mem_or_eq_of_mem_set hx with q | q
    · exact h x q
    · rw [q]; exact ht) n t (by simp [hn])
  rw [g1, e1, e2]
  have e3 : S.flatten.take (n * W) = (S.take n).flatten := by rw [h1, List.append_assoc, ← h2, List.take_left]
  have e4 : S.flatten.drop (n * W + W) = (S.drop (n + 1)).flatten := by
    have : n * W + W = ((S.take n).flatten ++ s).length := by rw [List.length_append, h2, hsl]
    rw [h1, this, List.drop_left]
  rw [e3, e4]
theorem u64A_put (L s : List Nat) (o : Nat) (ho : o + s.length ≤ L.length) : u64A (L.take o ++ s ++ L.drop (o + s.length)) = (u64A L).extract 0 o ++ u64A s ++ (u64A L).extract (o + (u64A s).size) (u64A L).size := by
  apply Array.ext'
  simp [u64A, List.map_take, List.map_drop, Array.toList_extract, List.extract]
  rw [List.take_of_length_le (by simp)]
def flatS (S : List (List Nat)) : List Nat := S.flatten
def flatD (D : List Dd) : List Nat := (D.map fun d => d.1 ++ d.2).flatten
theorem all16S {S : List (List Nat)} (h : AllOk S) : ∀ s ∈ S, s.length = 16 := fun s hs => (h s hs).len
theorem all32D {D : List Dd} (h : ∀ d ∈ D, DOk d) : ∀ s ∈ D.map (fun d => d.1 ++ d.2), s.length = 32 := fun s hs => by
  obtain ⟨d, hd, rfl⟩ := List.mem_map.1 hs
  rw [List.length_append, (h d hd).a.len, (h d hd).c.len]
/-- The base b: the graph, the sets, what blocks do, what leads to each, what is met, and the two that go. -/
structure BM (w : World) (b : Nat) (g : Gr) (S : List (List Nat)) (D : List Dd) (A : List (List Nat)) (M : List Bool) (vs : List Value) : Prop where
  gbc : w.heap[b]? = some (.cells #[g.rv, .int .i64 g.sites, g.bv] 25 (0, 0))
  sbc : w.heap[b + 1]? = some (.cells (u64A (flatS S)) 58 (0, 0))
  svc : w.heap[b + 2]? = some (.cells #[.slice (some ⟨b + 1, 0, none⟩) g.blocks.length g.blocks.length] 54 (0, 0))
  dbc : w.heap[b + 3]? = some (.cells (u64A (flatD D)) 67 (0, 0))
  dvc : w.heap[b + 4]? = some (.cells #[.slice (some ⟨b + 3, 0, none⟩) g.blocks.length g.blocks.length] 64 (0, 0))
  amc : AhdM w (b + 11) (b + 5) g.blocks.length vs A
  avc : w.heap[b + 6]? = some (.cells #[.slice (some ⟨b + 5, 0, none⟩) g.blocks.length g.blocks.length] 28 (0, 0))
  gvc : w.heap[b + 7]? = some (.cells #[.func (.func 26) #[] #[.pointer (some ⟨b + 2, 0, none⟩), .pointer (some ⟨b + 6, 0, none⟩), .pointer (some ⟨b + 7, 0, none⟩), .pointer (some ⟨b + 4, 0, none⟩)]] 65 (0, 0))
  mbc : w.heap[b + 8]? = some (.cells (boolA M) 4 (0, 0))
  mvc : w.heap[b + 9]? = some (.cells #[.slice (some ⟨b + 8, 0, none⟩) g.blocks.length g.blocks.length] 22 (0, 0))
  vvc : w.heap[b + 10]? = some (.cells #[.func (.func 29) #[] #[.pointer (some ⟨b + 9, 0, none⟩), .pointer (some ⟨b, 0, none⟩), .pointer (some ⟨b + 10, 0, none⟩), .pointer (some ⟨b + 2, 0, none⟩), .pointer (some ⟨b + 6, 0, none⟩), .pointer (some ⟨b + 4, 0, none⟩), .pointer (some ⟨b + 7, 0, none⟩)]] 68 (0, 0))
  sl : S.length = g.blocks.length
  dl : D.length = g.blocks.length
  sok : AllOk S
  dok : ∀ d ∈ D, DOk d
theorem BM.keeps {w w' : World} {b : Nat} {g : Gr} {S : List (List Nat)} {D : List Dd} {A : List (List Nat)} {M : List Bool} {vs : List Value} (h : BM w b g S D A M vs) (hb : Below w.heap.size w w') : BM w' b g S D A M vs :=
  have k := fun (x : Nat) (c : Obj) (e : w.heap[x]? = some c) => (hb.block x (Array.getElem?_eq_some_iff.1 e).1).trans e
  ⟨k _ _ h.gbc, k _ _ h.sbc, k _ _ h.svc, k _ _ h.dbc, k _ _ h.dvc, h.amc.keeps hb, k _ _ h.avc, k _ _ h.gvc, k _ _ h.mbc, k _ _ h.mvc, k _ _ h.vvc, h.sl, h.dl, h.sok, h.dok⟩
theorem BM.size {w : World} {b : Nat} {g : Gr} {S : List (List Nat)} {D : List Dd} {A : List (List Nat)} {M : List Bool} {vs : List Value} (h : BM w b g S D A M vs) : b + 11 ≤ w.heap.size := (Array.getElem?_eq_some_iff.1 h.vvc).1
theorem AhdM.wr {w w' : World} {lo gA N : Nat} {vs : List Value} {A : List (List Nat)} (h : AhdM w lo gA N vs A) {z : Nat} (hw : Wr (fun x => x = z) w w') (h1 : gA ≠ z) (h2 : z < lo) : AhdM w' lo gA N vs A :=
  ⟨(hw.block _ (Array.getElem?_eq_some_iff.1 h.row).1 h1).trans h.row, h.vlen, h.len, fun y v r q1 q2 => (h.own y v r q1 q2).kept (row := some z) ⟨hw.os, hw.tape, hw.output, hw.size, fun k hk hn => hw.block k hk (fun e => hn (by rw [e]))⟩ (by
    cases hv : v.ownBlock with
    | none => exact .inl rfl
    | some k => exact .inr (fun q => by cases q; have := ((h.own y v r q1 q2).lt _ hv).1; omega)), h.sep, h.notA⟩
/-- One set is written over. -/
theorem BM.setS {w w' : World} {b : Nat} {g : Gr} {S : List (List Nat)} {D : List Dd} {A : List (List Nat)} {M : List Bool} {vs : List Value} (h : BM w b g S D A M vs) {S' : List (List Nat)} (hw : Wr (fun x => x = b + 1) w w') (hs : w'.heap[b + 1]? = some (.cells (u64A (flatS S')) 58 (0, 0))) (hl : S'.length = S.length) (ho : AllOk S') : BM w' b g S' D A M vs :=
  have k := fun (x : Nat) (c : Obj) (hx : x ≠ b + 1) (e : w.heap[x]? = some c) => (hw.block x (Array.getElem?_eq_some_iff.1 e).1 hx).trans e
  ⟨k _ _ (by omega) h.gbc, hs, k _ _ (by omega) h.svc, k _ _ (by omega) h.dbc, k _ _ (by omega) h.dvc, h.amc.wr hw (by omega) (by omega), k _ _ (by omega) h.avc, k _ _ (by omega) h.gvc, k _ _ (by omega) h.mbc, k _ _ (by omega) h.mvc, k _ _ (by omega) h.vvc, hl.trans h.sl, h.dl, ho, h.dok⟩
theorem all_range_nat : ∀ (xs ys : List Nat), xs.length = ys.length → ((List.range xs.length).all fun i => xs.getD i 0 == ys.getD i 0) = (xs == ys)
  | [], [], _ => rfl
  | x :: xs, y :: ys, h => by
    have ih := all_range_nat xs ys (by simpa using h)
    rw [List.length_cons, List.range_succ_eq_map, List.all_cons, List.all_map]
    simp only [List.getD_cons_zero, Function.comp_def, List.getD_cons_succ, ih]
    simp [List.cons_beq_cons]
  | [], _ :: _, h => by simp at h
  | _ :: _, [], h => by simp at h
theorem u64A_getD {s : List Nat} {i : Nat} (h : i < s.length) : (u64A s)[i]? = some (.int .u64 ((s.getD i 0 : Nat) : Int)) := by
  simp [u64A, List.getElem?_eq_getElem h, List.getD]
theorem eql_set (s t : List Nat) (hs : SOk s) (ht : SOk t) (w : World) : (binOp .eql 58 (.agg (u64A s)) (.agg (u64A t))).run Tryd.prog w = .ok (.bool (s == t)) w := by
  have hq : (Op.equalIn (9998 + 2) 58 (.agg (u64A s)) (.agg (u64A t))).run Tryd.prog w = .ok (s == t) w := by
    obtain ⟨i0, hi0, hc0⟩ : ∃ i, Tryd.prog.info? 56 = some i ∧ Tryd.prog.cellsOf 56 = 1 := by
      have h1 : (Tryd.prog.info? 56).isSome = true := by kernel_rfl
      obtain ⟨i, hi⟩ := Option.isSome_iff_exists.1 h1
      exact ⟨i, hi, by kernel_rfl⟩
    rw [run_equalIn_array w 9999 (u64A s) (u64A t) Tryd.underlying58 hi0, hc0, ← all_range_nat s t (hs.len.trans ht.len.symm), hs.len]
    have hl : ∀ i ∈ List.range 16, i < 16 := fun i hi => List.mem_range.1 hi
    generalize List.range 16 = l at hl ⊢
    induction l with
    | nil => simp [Op.eqItems]
    | cons i l ih =>
      have hi : i < 16 := hl i (by simp)
      have px := run_part_plain (P := Tryd.prog) (e := 56) (by kernel_rfl) (u64A_getD (s := s) (i := i) (by rw [hs.len]; exact hi)) (w := w)
      have py := run_part_plain (P := Tryd.prog) (e := 56) (by kernel_rfl) (u64A_getD (s := t) (i := i) (by rw [ht.len]; exact hi)) (w := w)
      have pe := run_equalIn_int (P := Tryd.prog) w 9998 56 .u64 .u64 ((s.getD i 0 : Nat) : Int) ((t.getD i 0 : Nat) : Int) Tryd.underlying56
      have pb : (((s.getD i 0 : Nat) : Int) == ((t.getD i 0 : Nat) : Int)) = (s.getD i 0 == t.getD i 0) := by
        rw [Bool.eq_iff_iff]; simp; omega
      rw [pb] at pe
      simp only [Op.eqItems, Nat.mul_one, Sem.run_bind, px, py, pe, Result.andThen_ok, List.all_cons]
      cases hb : (s.getD i 0 == t.getD i 0)
      · simp
      · simp only [Bool.not_true, Bool.false_eq_true, if_false, Bool.true_and]
        exact ih fun j hj => hl j (by simp [hj])
  rw [run_eql_struct, hq]
  rfl
end Go.Proofs.YtgkjhnghibpeoaaDoor
