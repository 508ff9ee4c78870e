/- What the functions of package shape answer, of any program that lies in memory. -/
import Derived.Test.YtcibiiddigpnfaaGreatDoorRows
import Derived.Test.YtcibiiddigpnfaaGreatDoorShpPlain
import Derived.Test.YtcibiiddigpnfaaGreatDoorGNew
import Derived.Test.YtcibiiddigpnfaaGreatDoorGTw
import Derived.LoopN
namespace Go.Proofs.YtcibiiddigpnfaaGreatDoor
open Go.RowKit
set_option maxRecDepth 100000
attribute [local go_sem ↓] bld_eq bls_eq
theorem nilS_lies {α : Type} {cells : α → List Value} {k : Nat} {w : World} {B : Nat} : LiesG cells k w B (.slice none 0 0) ([] : List α) := ⟨none, 0, rfl, by simp, .inl rfl⟩
theorem oneS_lies {α : Type} {cells : α → List Value} {k : Nat} {w : World} {B b : Nat} {R : Array Value} {T : TypeId} {x : α} (hb : b < B) (hr : w.heap[b]? = some (.cells R T (0, 0))) (hR : R.toList = cells x) : LiesG cells k w B (.slice (some ⟨b, 0, none⟩) 1 1) [x] := by
  refine ⟨some ⟨b, 0, none⟩, 1, rfl, by simp, .inr ⟨b, 0, rfl, hb, fun i y hy j u hu => ?_⟩⟩
  have hi : i = 0 := by have := (List.getElem?_eq_some_iff.1 hy).1; simpa using this
  subst hi
  obtain rfl : x = y := by simpa using hy
  rw [Lib.cell_of_heap hr, Nat.zero_mul, Nat.zero_add, Nat.zero_add, ← Array.getElem?_toList, hR]
  exact hu
theorem str_eqS (a b : ByteArray) : (a.toList == b.toList) = decide (a = b) := str_eq a b
/-! ### Is it taken? -/
set_option maxHeartbeats 1000000 in
theorem taken_any (P : Pr) (B : Nat) (w : World) (hBw : B ≤ w.heap.size) (hI : PIn w B P) :
    Calls Tryz.prog 35 #[.agg #[P.e.rv, P.e.sv, P.e.fv, P.tv]] w fun e w' => e = .returned (.bool (decide ((typesT P).2 = 0))) ∧ Below w.heap.size w w' := by
  have hB1 := below_box w (.cells #[P.e.rv, P.e.sv, P.e.fv, P.tv] 27)
  obtain ⟨W1, hW1⟩ : ∃ W1, W1 = w.alloc (.cells #[P.e.rv, P.e.sv, P.e.fv, P.tv] 27) := ⟨_, rfl⟩
  have hO : W1.heap[w.heap.size]? = some (.cells #[P.e.rv, P.e.sv, P.e.fv, P.tv] 27 (0, 0)) := by rw [hW1]; exact (MapKept.heap_alloc _ _).1
  rw [← hW1] at hB1
  have HC := Lib.hid (types_check_any P B W1 (by have := hB1.size; omega) (hI.keeps (hB1.mono hBw)))
  have hs1 := hB1.size
  have HB := Lib.hid hB1
  have HW := Lib.hid hW1
  obtain ⟨q0, q1, q2, q3⟩ := cells_prog _ _ _ _ hO
  obtain ⟨r, hr⟩ : ∃ r, r = typesT P := ⟨_, rfl⟩
  obtain ⟨r1, r2⟩ := r
  rw [← hr] at HC ⊢
  clear hB1 hI hO hW1 hr
  go_enter Tryz.func35, Tryz.ntmps35
  go_wp2_with fail
  rw [← HW.out]
  refine HC.out.mono ?_; rintro e w2 ⟨rfl, hb2⟩
  have HB2 := Lib.hid (HB.out.trans (hb2.mono hs1))
  clear hb2 q0 q1 q2 q3
  by_cases h0 : r2 = 0
  · subst h0
    go_wp2_with fail
    go_ret
    exact ⟨rfl, HB2.out⟩
  · have hq : (r2 == 0) = false := by simpa using h0
    have hd : decide (r2 = 0) = false := by simpa using h0
    go_wp2_with fail
    go_ret
    exact ⟨by rw [hd]; rfl, HB2.out⟩
/-! ### Where a name stands -/
set_option maxHeartbeats 1000000 in
theorem ahead1_any (s : ByteArray) (b : Nat) (f : Fd) (w : World) (T : TypeId) (fr : Nat × Nat) (hb : w.heap[b]? = some (.cells #[.string s] T fr)) :
    Calls Tryz.prog 73 #[.agg #[.string f.name, .int .u8 f.t.k, .string f.t.n, .int .i64 f.t.z], .pointer (some ⟨b, 0, none⟩)] w fun e w' => e = .returned (.bool (decide (f.name = s))) ∧ Below w.heap.size w w' := by
  have hlt : b < w.heap.size := (Array.getElem?_eq_some_iff.1 hb).1
  have HB := Lib.hid (below_box w (.cells #[.string f.name, .int .u8 f.t.k, .string f.t.n, .int .i64 f.t.z] 49))
  have hc : (w.alloc (.cells #[.string f.name, .int .u8 f.t.k, .string f.t.n, .int .i64 f.t.z] 49)).cell? ⟨b, 0, none⟩ = some (.string s) := by
    rw [Lib.cell_of_heap ((HB.out.block _ hlt).trans hb)]; rfl
  clear hb
  by_cases hs : f.name = s
  all_goals
    have hq := str_eqS f.name s
    first | rw [decide_eq_true hs] at hq ⊢ | rw [decide_eq_false hs] at hq ⊢
    clear hs
    go_enter Tryz.func73, Tryz.ntmps73
    go_wp2_with fail
    go_ret
    exact ⟨rfl, HB.out⟩
def ixI (s : ByteArray) (l : List Fd) : Int := match idx s (fnames l) with
  | none => -1
  | some i => (i : Int)
theorem idx_app (s : ByteArray) : ∀ (a b : List ByteArray) (i : Nat), idx s a = some i → idx s (a ++ b) = some i
  | [], _, _, h => by cases h
  | x :: a, b, i, h => by
    rw [idx] at h
    rw [List.cons_append, idx]
    split at h
    · rename_i h0
      rw [if_pos h0]; exact h
    · rename_i h0
      rw [if_neg h0]
      cases hi : idx s a with
      | none => rw [hi] at h; cases h
      | some j => rw [hi] at h; rw [idx_app s a b j hi]; exact h
theorem idx_here (s : ByteArray) (l : List Fd) (p : Nat) (hp : p < l.length) (h : idx s (fnames (l.take p)) = none) (hs : l[p].name = s) : ixI s l = (p : Int) := by
  have h1 : fnames (l.take (p + 1)) = fnames (l.take p) ++ [l[p].name] := by unfold fnames; rw [List.take_succ_eq_append_getElem hp, List.map_append]; rfl
  have h2 : idx s (fnames (l.take (p + 1))) = some p := by
    rw [h1, idx_snoc, h]
    simp only [hs, if_true]
    unfold fnames
    rw [List.length_map, List.length_take, Nat.min_eq_left (by omega)]
  have h3 : fnames l = fnames (l.take (p + 1)) ++ fnames (l.drop (p + 1)) := by unfold fnames; rw [← List.map_append, List.take_append_drop]
  unfold ixI
  rw [h3, idx_app s _ _ p h2]
theorem idx_on (s : ByteArray) (l : List Fd) (p : Nat) (hp : p < l.length) (h : idx s (fnames (l.take p)) = none) (hs : ¬ l[p].name = s) : idx s (fnames (l.take (p + 1))) = none := by
  have h1 : fnames (l.take (p + 1)) = fnames (l.take p) ++ [l[p].name] := by unfold fnames; rw [List.take_succ_eq_append_getElem hp, List.map_append]; rfl
  rw [h1, idx_snoc, h]
  simp only [hs, if_false]
theorem cells4S {f : Fd} {w : World} {g o : Nat} (h : ∀ j u, f.cells[j]? = some u → w.cell? ⟨g, o + j, none⟩ = some u) :
    w.cell? ⟨g, o, none⟩ = some (.string f.name) ∧ w.cell? ⟨g, o + 1, none⟩ = some (.int .u8 f.t.k) ∧ w.cell? ⟨g, o + 2, none⟩ = some (.string f.t.n) ∧ w.cell? ⟨g, o + 3, none⟩ = some (.int .i64 f.t.z) :=
  ⟨h 0 _ rfl, h 1 _ rfl, h 2 _ rfl, h 3 _ rfl⟩
set_option maxHeartbeats 4000000 in
theorem index_any (s : ByteArray) (l : List Fd) (B b : Nat) (v : Value) (w : World) (T : TypeId) (fr : Nat × Nat) (hL : LiesG Fd.cells 4 w B v l) (hBw : B ≤ w.heap.size) (hb : w.heap[b]? = some (.cells #[.string s] T fr)) :
    Calls Tryz.prog 72 #[v, .func (.func 73) #[] #[.pointer (some ⟨b, 0, none⟩)]] w fun e w' => e = .returned (.int .i64 (ixI s l)) ∧ Below w.heap.size w w' := by
  obtain ⟨ao0, cap0, rfl, hlen, hgo⟩ := hL.form
  obtain ⟨N, hN⟩ : ∃ N, N = l.length := ⟨_, rfl⟩
  rw [← hN] at hlen hgo ⊢
  have hlt : b < w.heap.size := (Array.getElem?_eq_some_iff.1 hb).1
  have HLI := Lib.hid hL
  have HG := Lib.hid hgo
  have HN := Lib.hid hN
  have HO := Lib.hid hb
  have hN0 : (0 : Int) ≤ (N : Int) := by omega
  clear hL hgo hN hb
  go_enter Tryz.func72, Tryz.ntmps72
  go_wp2_with fail
  go_loopw [8] (fun q wr => ∃ p : Nat, p ≤ N ∧ q = .int .i64 p ∧ Below w.heap.size w wr ∧ Hid (idx s (fnames (l.take p)) = none)) (fun q _ => N - (intOf q).toNat)
  case atStart => exact ⟨0, by omega, rfl, Below.refl _ _, Lib.hid rfl⟩
  case round =>
    obtain ⟨p, hp, rfl, hB, hF⟩ := hrel
    have hsr := hB.size
    by_cases hlt2 : p < N
    · have hpx : p < l.length := by rw [← HN.out]; exact hlt2
      obtain ⟨g, off, rfl, hg⟩ := HG.out (by omega)
      have hat := ((HLI.out.below (hB.mono hBw)).at rfl p hpx).2
      have HX := Lib.hid (fun h => idx_here s l p hpx hF.out h)
      have HY := Lib.hid (fun h => idx_on s l p hpx hF.out h)
      generalize l[p] = a at hat HX HY
      obtain ⟨p0, p1, p2, p3⟩ := cells4S hat
      have HC := Lib.hid (ahead1_any s b a wr T fr ((hB.block _ hlt).trans HO.out))
      have hgs : g < wr.heap.size := by omega
      have HB := Lib.hid hB
      clear hat hF hB
      go_wp2_with fail
      refine HC.out.mono ?_; rintro e w5 ⟨rfl, hb5⟩
      have HB5 := Lib.hid (HB.out.trans (hb5.mono hsr))
      clear hb5 p0 p1 p2 p3
      by_cases hs : a.name = s
      · have HR := Lib.hid (HX.out hs)
        rw [decide_eq_true hs]
        go_wp2_with fail
        go_ret
        exact ⟨by rw [HR.out]; rfl, HB5.out⟩
      · have HR := Lib.hid (HY.out hs)
        rw [decide_eq_false hs]
        go_wp2_with fail
        go_roundw
        case rel => exact ⟨p + 1, by omega, by go_num, HB5.out, HR⟩
        case measure => simp [intOf]; omega
    · have HR := Lib.hid (show ixI s l = -1 by
        have e : l.take p = l := List.take_of_length_le (by rw [← HN.out]; omega)
        have h := hF.out
        rw [e] at h
        unfold ixI
        rw [h])
      have HB5 := Lib.hid hB
      clear hB hF
      go_wp2_with fail
      go_ret
      exact ⟨by rw [HR.out]; rfl, HB5.out⟩
theorem ixI_cases (s : ByteArray) (l : List Fd) (hl : l.length ≤ 140737488351232) : (ixI s l = -1 ∧ aheadS s l = (0, 9)) ∨ ∃ i : Nat, i ≤ 140737488351232 ∧ ixI s l = (i : Int) ∧ aheadS s l = ((i : Int), 0) := by
  unfold ixI aheadS
  cases h : idx s (fnames l) with
  | none => exact .inl ⟨rfl, rfl⟩
  | some i =>
    refine .inr ⟨i, ?_, rfl, rfl⟩
    have hh : ∀ (m : List ByteArray) (i : Nat), idx s m = some i → i < m.length := by
      intro m
      induction m with
      | nil => intro i h; cases h
      | cons x r ih =>
        intro i h
        rw [idx] at h
        split at h
        · cases h; simp
        · cases hi : idx s r with
          | none => rw [hi] at h; cases h
          | some j => rw [hi] at h; obtain rfl : j + 1 = i := by simpa using h
                      have := ih j hi; simp; omega
    have := hh _ i h
    unfold fnames at this
    rw [List.length_map] at this
    omega
set_option maxHeartbeats 1000000 in
theorem ahead_any (s : ByteArray) (l : List Fd) (B : Nat) (v : Value) (w : World) (hL : LiesG Fd.cells 4 w B v l) (hBw : B ≤ w.heap.size) :
    Calls Tryz.prog 36 #[v, .string s] w fun e w' => e = .returned (.tuple #[.int .i64 (aheadS s l).1, .int .i64 (aheadS s l).2]) ∧ Below w.heap.size w w' := by
  have hmf : ∀ (fn : Go.Fn) (first cap : Array Value) (w : World), (Instr.makeFunc fn first cap).run Tryz.prog w = .ok (.func fn first cap) w := fun _ _ _ _ => rfl
  have hB1 := below_box w (.cells #[.string s] 9)
  obtain ⟨W1, hW1⟩ : ∃ W1, W1 = w.alloc (.cells #[.string s] 9) := ⟨_, rfl⟩
  have hO : W1.heap[w.heap.size]? = some (.cells #[.string s] 9 (0, 0)) := by rw [hW1]; exact (MapKept.heap_alloc _ _).1
  rw [← hW1] at hB1
  have HC := Lib.hid (index_any s l B w.heap.size v W1 9 (0, 0) (hL.below (hB1.mono hBw)) (by have := hB1.size; omega) hO)
  have hs1 := hB1.size
  have HB := Lib.hid hB1
  have HW := Lib.hid hW1
  have hcs := ixI_cases s l hL.room
  clear hB1 hL hO hW1
  rcases hcs with ⟨h1, h2⟩ | ⟨i, hi, h1, h2⟩
  all_goals
    rw [h1] at HC
    rw [h2]
    clear h1 h2
    go_enter Tryz.func36, Tryz.ntmps36
    go_wp2_with fail
    rw [← HW.out]
    refine HC.out.mono ?_; rintro e w2 ⟨rfl, hb2⟩
    have HB2 := Lib.hid (HB.out.trans (hb2.mono hs1))
    clear hb2
    go_wp2_with fail
    go_ret2
    exact ⟨rfl, HB2.out⟩
end Go.Proofs.YtcibiiddigpnfaaGreatDoor
