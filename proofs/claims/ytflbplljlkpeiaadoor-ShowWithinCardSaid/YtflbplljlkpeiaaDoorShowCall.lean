/- What the show layer's writer writes of a call. -/
import Derived.Test.YtflbplljlkpeiaaDoorRows
import Derived.Test.YtflbplljlkpeiaaDoorShowSigned
import Derived.LoopTactic
import Derived.WalkKit
import Derived.WalkSpells
import Derived.WalkLawsBesides
import Derived.Lib.Hide
namespace Go.Proofs.YtflbplljlkpeiaaDoor
open Go.RowKit

theorem commas_snoc (t : List UInt8) : ∀ ts : List (List UInt8), ts ≠ [] → commas (ts ++ [t]) = commas ts ++ ([44, 32] ++ t)
  | [], h => absurd rfl h
  | [u], _ => rfl
  | u :: v :: r, _ => by
    have ih := commas_snoc t (v :: r) (by simp)
    show u ++ ([44, 32] ++ commas (v :: r ++ [t])) = (u ++ ([44, 32] ++ commas (v :: r))) ++ _
    rw [ih]
    simp [List.append_assoc]
theorem txts_next (l : List X) (k : Nat) (h : k < l.length) : txts (l.take (k + 1)) = txts (l.take k) ++ [l[k].txt] := by
  rw [txts_map, txts_map, List.take_succ_eq_append_getElem h, List.map_append]; rfl
theorem sizes_append : ∀ a b : List X, X.sizes (a ++ b) = X.sizes a + X.sizes b
  | [], b => by rw [sizes_nil]; simp
  | x :: r, b => by rw [List.cons_append, sizes_cons, sizes_cons, sizes_append r b]; omega
theorem sizes_next (l : List X) (k : Nat) (h : k < l.length) : X.sizes (l.take k) + X.size l[k] ≤ X.sizes l := by
  have e : l = l.take k ++ (l[k] :: l.drop (k + 1)) := by rw [← List.drop_eq_getElem_cons h, List.take_append_drop]
  conv => rhs; rw [e]
  rw [sizes_append, sizes_cons]
  omega
theorem sizes_take (l : List X) (k : Nat) : X.sizes (l.take k) ≤ X.sizes l := by
  have e : l = l.take k ++ l.drop k := (List.take_append_drop k l).symm
  conv => rhs; rw [e]
  rw [sizes_append]
  omega
theorem commas_short : ∀ l : List X, (∀ a ∈ l, a.txt.length + 40 ≤ 100 * X.size a) → (commas (txts l)).length ≤ 100 * X.sizes l := by
  intro l hl
  refine Nat.le_trans (commas_len _) ?_
  induction l with
  | nil => simp [txts_nil]
  | cons a r ihr =>
    have h1 := hl a (by simp)
    have h2 := ihr fun b hb => hl b (by simp [hb])
    rw [txts_cons, sizes_cons, List.map_cons, List.sum_cons]
    omega

/-- A part of an expression, as it lies in memory. -/
theorem kidk {w : World} {B : Nat} {h : Hd} {s : Value} {l : List X} (hI : InW w B (.mk h s l)) {g off len cap : Nat} (hs : s = .slice (some ⟨g, off, none⟩) len cap) (k : Nat) (hk : k < l.length) : ∃ ao n2 c2, l[k].s = .slice ao n2 c2 ∧
    w.cell? ⟨g, off + k * 7, none⟩ = some (.int .u8 l[k].hd.k) ∧ w.cell? ⟨g, off + k * 7 + 1, none⟩ = some (.int .i64 l[k].hd.n) ∧ w.cell? ⟨g, off + k * 7 + 2, none⟩ = some (.string l[k].hd.name) ∧ w.cell? ⟨g, off + k * 7 + 3, none⟩ = some (.int .u8 l[k].hd.tk) ∧
    w.cell? ⟨g, off + k * 7 + 4, none⟩ = some (.string l[k].hd.tn) ∧ w.cell? ⟨g, off + k * 7 + 5, none⟩ = some (.int .i64 l[k].hd.tz) ∧ w.cell? ⟨g, off + k * 7 + 6, none⟩ = some (.slice ao n2 c2) := by
  cases hI with
  | mk _ _ _ _ hl hin =>
    obtain ⟨ao, n2, c2, e⟩ := slice_of (hin l[k] (List.getElem_mem hk))
    obtain ⟨ao', cap', hs', _, hl⟩ := hl
    rcases hl with hl | ⟨g', off', e1, _, hc⟩
    · subst hl; exact absurd hk (by simp)
    rw [hs] at hs'
    injection hs' with e2 _ _
    rw [e1] at e2
    cases e2
    have hb : ∀ j u, l[k].cells[j]? = some u → w.cell? ⟨g, off + k * 7 + j, none⟩ = some u := fun j u hu => by
      have := hc k l[k] (List.getElem?_eq_getElem hk) j u hu
      rw [← Nat.add_assoc] at this
      exact this
    obtain ⟨p0, p1, p2, p3, p4, p5, p6⟩ := cells7 hb
    exact ⟨ao, n2, c2, e, p0, p1, p2, p3, p4, p5, by rw [← e]; exact p6⟩
theorem lies_form {w : World} {B : Nat} {h : Hd} {s : Value} {l : List X} (hI : InW w B (.mk h s l)) : ∃ ao cap, s = .slice ao l.length cap ∧ l.length ≤ 9223372036854775807 ∧ (0 < l.length → ∃ g off, ao = some ⟨g, off, none⟩ ∧ g < B) := by
  cases hI with
  | mk _ _ _ _ hl hin =>
    obtain ⟨ao, cap, hs, hlen, hl⟩ := hl
    refine ⟨ao, cap, hs, hlen, fun h0 => ?_⟩
    rcases hl with hl | ⟨g, off, e1, hg, _⟩
    · subst hl; exact absurd h0 (by simp)
    · exact ⟨g, off, e1, hg⟩

set_option maxHeartbeats 2000000 in
theorem call_any (h : Hd) (s : Value) (xs : List X) (hE : ∀ a ∈ xs, EX a) (hf : Fine (.mk h s xs)) (B c : Nat) (l : List UInt8) (d : Int) (w : World) (hw : Wr B c l d w) (hBw : B ≤ w.heap.size) (hI : InW w B (.mk h s xs)) (hK : Knows B w)
    (hl : l.length + 100 * X.size (.mk h s xs) ≤ 1000000000) (hs : ∀ a ∈ xs, a.txt.length + 40 ≤ 100 * X.size a) :
    Calls Tryd.prog 48 #[.pointer (some ⟨c, 0, none⟩), X.val (.mk h s xs)] w (Wrote B c l ((h.name.data.toList ++ [40]) ++ (commas (txts xs) ++ [41])) d w) := by
  have hnm := form_name (fine_kids hf).1
  obtain ⟨k, n, nm, tk, tn, tz⟩ := h
  obtain ⟨ao, cap, rfl, hlen, hgo⟩ := lies_form hI
  have hc := hw.lt
  rw [size_mk] at hl
  obtain ⟨W1, hW1⟩ : ∃ W1, W1 = w.alloc (.cells #[.int .u8 k, .int .i64 n, .string nm, .int .u8 tk, .string tn, .int .i64 tz, .slice ao xs.length cap] 33) := ⟨_, rfl⟩
  have hz1 : W1.heap.size = w.heap.size + 1 := by rw [hW1]; simp
  have hD : Did B c w W1 := by rw [hW1]; exact (Did.refl B c w).alloc hBw _
  have hw1 : Wr B c l d W1 := by rw [hW1]; exact hw.alloc _
  have hOX : W1.heap[w.heap.size]? = some (.cells #[.int .u8 k, .int .i64 n, .string nm, .int .u8 tk, .string tn, .int .i64 tz, .slice ao xs.length cap] 33 (0, 0)) := by
    rw [hW1]
    exact (MapKept.heap_alloc _ _).1
  have hnm' : nm.size ≤ 16 := by rw [← size_of]; exact hnm
  have hX := write2 B c l d nm ⟨#[40]⟩ (w.heap.size + 1) W1 (by omega) hw1 (by omega) (by show _ + (_ + 1) ≤ _; omega)
  rw [hW1] at hX
  have HX := Lib.hid hX
  have HO := Lib.hid hOX
  have HD := Lib.hid hD
  have HI := Lib.hid hI
  have HK := Lib.hid hK
  have HE := Lib.hid hE
  have HF := Lib.hid (fine_kids hf).2
  have HS := Lib.hid hs
  have HZ := Lib.hid hW1
  have HG := Lib.hid hgo
  obtain ⟨N, hN⟩ : ∃ N, N = xs.length := ⟨_, rfl⟩
  rw [← hN] at hlen
  have HN := Lib.hid hN
  obtain ⟨L1, hL1⟩ : ∃ L1, L1 = l ++ (nm.data.toList ++ [40]) := ⟨_, rfl⟩
  have hL1' : L1.length ≤ l.length + 17 := by rw [hL1]; simp only [List.length_append, size_of]; show _ + (_ + 1) ≤ _; omega
  have HL := Lib.hid hL1
  show Calls Tryd.prog 48 #[.pointer (some ⟨c, 0, none⟩), .agg #[.int .u8 k, .int .i64 n, .string nm, .int .u8 tk, .string tn, .int .i64 tz, .slice ao xs.length cap]] w _
  rw [← hN] at HO ⊢
  rw [← hN] at HX
  rw [← hN] at HZ
  rw [← hN] at HG
  clear hw hI hK hE hf hX hOX hD hw1 hW1 hs hgo hN hnm hL1
  go_enter Tryd.func48, Tryd.ntmps48
  go_wp2_with fail
  refine HX.out.mono ?_; rintro e w2 ⟨rfl, hW2, hD2⟩
  have hD2' := hD2
  rw [← HZ.out] at hD2'
  rw [← HL.out] at hW2
  have hs2 := hD2'.below.size
  have hO2 := hD2'.rest _ _ _ _ HO.out (by omega) (by decide)
  obtain ⟨q0, q1, q2, q3, q4, q5, q6⟩ := own7 hO2
  have HW2 := Lib.hid hW2
  have HD2 := Lib.hid (HD.out.trans hD2')
  clear hW2 hD2 hO2 hD2'
  go_wp2_with fail
  go_loopw [14] (fun i wr => ∃ k : Nat, k ≤ N ∧ i = .int .i64 k ∧ Wr B c (L1 ++ commas (txts (xs.take k))) d wr ∧ Did B c w wr) (fun i _ => N - (intOf i).toNat)
  case atStart => exact ⟨0, by omega, rfl, by simpa [txts_nil, commas] using HW2.out, HD2.out⟩
  case round =>
    obtain ⟨k, hk, rfl, hW, hD⟩ := hrel
    have hBr : B ≤ wr.heap.size := Nat.le_trans hBw hD.below.size
    have hsr := hD.below.size
    have hcr := hW.lt
    clear q0 q1 q2 q3 q4 q5 q6
    by_cases hlt : k < N
    · have hkx : k < xs.length := by rw [← HN.out]; exact hlt
      obtain ⟨g, off, rfl, hg⟩ := HG.out (by omega)
      obtain ⟨ao2, n2, c2, ea, p0, p1, p2, p3, p4, p5, p6⟩ := kidk (InW.keeps hD.below _ HI.out) rfl k hkx
      have hma := List.getElem_mem hkx
      have hsz := sizes_next xs k hkx
      have hcl := commas_short (xs.take k) fun b hb => HS.out b (List.mem_of_mem_take hb)
      have hna := HS.out _ hma
      have HTX := Lib.hid (txts_next xs k hkx)
      have hIa := InW.keeps hD.below _ ((in_kids HI.out).2 _ hma)
      have hFa := HF.out _ hma
      have hEa := HE.out _ hma
      generalize xs[k] = a at *
      have HOA := Lib.hid (MapKept.heap_alloc wr (.cells #[.int .u8 a.hd.k, .int .i64 a.hd.n, .string a.hd.name, .int .u8 a.hd.tk, .string a.hd.tn, .int .i64 a.hd.tz, .slice ao2 n2 c2] 33)).1
      have hD1 := (Did.refl B c wr).alloc hBr (.cells #[.int .u8 a.hd.k, .int .i64 a.hd.n, .string a.hd.name, .int .u8 a.hd.tk, .string a.hd.tn, .int .i64 a.hd.tz, .slice ao2 n2 c2] 33)
      have hW1 := hW.alloc (.cells #[.int .u8 a.hd.k, .int .i64 a.hd.n, .string a.hd.name, .int .u8 a.hd.tk, .string a.hd.tn, .int .i64 a.hd.tz, .slice ao2 n2 c2] 33)
      have hEE := fun l' w' h1 h2 h3 h4 h5 => hEa B c l' d w' h1 h2 h3 h4 h5
      rw [val_of ea] at hEE
      have HEE := Lib.hid hEE
      have HIA := Lib.hid hIa
      have HKR := Lib.hid (HK.out.below hD.below)
      have HDR := Lib.hid hD
      have HD1 := Lib.hid hD1
      have HW1 := Lib.hid hW1
      have hgs : g < wr.heap.size := by omega
      clear hma hIa hFa hEa hEE hD hD1 hW hW1 ea
      rcases Nat.eq_zero_or_pos k with rfl | hk0
      · simp only [Nat.zero_mul, Nat.add_zero] at p0 p1 p2 p3 p4 p5 p6
        have HCL := Lib.hid (show L1 ++ commas (txts (xs.take 0)) ++ a.txt = L1 ++ commas (txts (xs.take (0 + 1))) by rw [HTX.out]; simp [txts_nil, commas])
        have hEx := HEE.out _ _ HW1.out (by simp; omega) (InW.keeps HD1.out.below _ HIA.out) (HKR.out.below HD1.out.below) (by simp [txts_nil, commas]; omega)
        have HEX := Lib.hid hEx
        clear hEx
        go_wp2_with fail
        refine (comma_first c _).mono ?_; rintro e w3 ⟨rfl, rfl⟩
        go_wp2_with fail
        refine HEX.out.mono ?_; rintro e w4 ⟨rfl, hW4, hD4⟩
        rw [HCL.out] at hW4
        have HW4 := Lib.hid hW4
        have HD4 := Lib.hid (HDR.out.trans (HD1.out.trans hD4))
        clear hW4 hD4
        go_wp2_with fail
        go_roundw
        case rel => exact ⟨0 + 1, by omega, by go_num, HW4.out, HD4.out⟩
        case measure => simp [intOf]; omega
      · have HCL := Lib.hid (show L1 ++ commas (txts (xs.take k)) ++ [44, 32] ++ a.txt = L1 ++ commas (txts (xs.take (k + 1))) by
          rw [HTX.out, commas_snoc _ _ (by rw [txts_map]; intro e; have := congrArg List.length e; rw [List.length_map, List.length_take, List.length_nil] at this; omega)]
          simp [List.append_assoc])
        have hkp : (0 : Int) < (k : Int) := by omega
        have HCM := Lib.hid (comma_more B c _ d k _ HW1.out (by simp; omega) (by rw [List.length_append]; omega) hkp)
        go_wp2_with fail
        refine HCM.out.mono ?_; rintro e w3 ⟨rfl, hW3, hD3⟩
        have hs3 := hD3.below.size
        simp at hs3
        obtain ⟨q0, q1, q2, q3, q4, q5, q6⟩ := own7 (hD3.rest _ _ _ _ HOA.out (by omega) (by decide))
        have hD3' := HD1.out.trans hD3
        have hEx := HEE.out _ _ hW3 (by omega) (InW.keeps hD3'.below _ HIA.out) (HKR.out.below hD3'.below) (by rw [List.length_append, List.length_append]; show _ + _ + 2 + _ ≤ _; omega)
        have HEX := Lib.hid hEx
        have HD3 := Lib.hid hD3'
        clear hEx hD3 hW3 hD3'
        go_wp2_with fail
        refine HEX.out.mono ?_; rintro e w4 ⟨rfl, hW4, hD4⟩
        rw [HCL.out] at hW4
        have HW4 := Lib.hid hW4
        have HD4 := Lib.hid (HDR.out.trans (HD3.out.trans hD4))
        clear hW4 hD4 q0 q1 q2 q3 q4 q5 q6
        go_wp2_with fail
        go_roundw
        case rel => exact ⟨k + 1, by omega, by go_num, HW4.out, HD4.out⟩
        case measure => simp [intOf]; omega
    · have HT := Lib.hid (show txts (xs.take k) = txts xs by rw [List.take_of_length_le (by rw [← HN.out]; omega)])
      have hcl := commas_short xs HS.out
      have hX2 := write1 B c _ d ⟨#[41]⟩ wr.heap.size _ rfl hW hBr (by rw [List.length_append, HT.out]; show _ + _ + 1 ≤ _; omega)
      have HX2 := Lib.hid hX2
      have HDR := Lib.hid hD
      clear hW hD hX2
      go_wp2_with (go_at_call 36; refine HX2.out.mono ?_; rintro e w4 ⟨rfl, hW4, hD4⟩)
      go_end0
      refine ⟨rfl, ?_, HDR.out.trans hD4⟩
      rw [HL.out, HT.out] at hW4
      simpa [List.append_assoc] using hW4
end Go.Proofs.YtflbplljlkpeiaaDoor
