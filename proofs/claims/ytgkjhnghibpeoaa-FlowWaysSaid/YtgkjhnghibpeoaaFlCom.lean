/- What a set has in common with that of one that leads to it: the function literal. -/
import Derived.Test.YtgkjhnghibpeoaaRows
import Derived.Test.YtgkjhnghibpeoaaFlSets
import Derived.Test.YtgkjhnghibpeoaaIrSizes
import Derived.Test.YtgkjhnghibpeoaaFlMem
import Derived.Test.YtgkjhnghibpeoaaParseOrder
import Derived.LoopTactic
import Derived.LoopN
import Derived.Deep.LoopGhost
import Derived.WalkKit
import Derived.WalkSpells
import Derived.WalkLawsBesides
import Derived.Lib.Hide
import Derived.OrdersHeld
import Derived.Deep.RegionHeld
import Derived.Deep.DrawnRows
import Derived.RegionTactic
import Derived.Deep.RegionHeld3
import Derived.IntWalk
import Derived.Deep.QuietTactic
import Derived.BigQuiet
namespace Go.Proofs.Ytgkjhnghibpeoaa
open Go.RowKit
set_option maxRecDepth 1000000
attribute [local go_sem ↓] bld_eq bls_eq


theorem mix_set {C A : List Nat} {k c : Nat} (hl : C.length = A.length) (hk : C[k]? = some c) : (C.take k ++ A.drop k).set k c = C.take (k + 1) ++ A.drop (k + 1) := by
  have h1 := some_lt hk
  have h2 : k < A.length := by omega
  rw [List.set_append_right _ _ (by simp; omega), List.length_take, Nat.min_eq_left (by omega), Nat.sub_self, List.drop_eq_getElem_cons h2, List.set_cons_zero, List.take_add_one, hk]
  simp
theorem mix_at {C A : List Nat} {k a : Nat} (hl : C.length = A.length) (hk : A[k]? = some a) : (C.take k ++ A.drop k)[k]? = some a := by
  have h1 := some_lt hk
  rw [List.getElem?_append_right (by rw [List.length_take]; omega), List.length_take, Nat.min_eq_left (by omega), Nat.sub_self, List.getElem?_drop, Nat.add_zero]
  exact hk
theorem map_u64 : ∀ (A B : List Nat), A.map (fun (n : Nat) => Value.int .u64 (n : Int)) = B.map (fun (n : Nat) => Value.int .u64 (n : Int)) → A = B := by
  intro A
  induction A with
  | nil => intro B h; cases B with
    | nil => rfl
    | cons b B => simp at h
  | cons a A ih =>
    intro B h
    cases B with
    | nil => simp at h
    | cons b B =>
      simp only [List.map_cons, List.cons.injEq] at h
      obtain ⟨h1, h2⟩ := h
      injection h1 with _ h3
      rw [ih B h2, Int.ofNat_inj.1 h3]
/-- What the literal answers. -/
def ComE (lo gS m W : Nat) (bs : List Nat) (S : List (List Nat)) (to b : Nat) (A B : List Nat) (w : World) (e : Ending) (w' : World) : Prop :=
  e = .returned (.bool (decide (comL to 0 A B ≠ A))) ∧ SetM w' lo gS m W bs (S.set to (comL to 0 A B)) ∧ Wr (fun x => x = b) w w'
set_option maxHeartbeats 64000000 in
theorem common_any (lo gS ob m W : Nat) (bs : List Nat) (S : List (List Nat)) (w : World) (h : SetM w lo gS m W bs S) (hm : bs.length = m) (hm2 : m ≤ 4096) (hW2 : W ≤ 8192)
    (hob : w.heap[ob]? = some (.cells #[.slice (some ⟨gS, 0, none⟩) m m] 52 (0, 0))) (hon : ob ∉ bs) (i to b bi : Nat) (A B : List Nat) (hb : bs[to]? = some b) (hbi : bs[i]? = some bi) (hA : S[to]? = some A) (hB : S[i]? = some B) (hA2 : ∀ x ∈ A, x < 2 ^ 64) (hB2 : ∀ x ∈ B, x < 2 ^ 64) :
    Calls Try.prog 27 #[.int .i64 (i : Int), .int .i64 (to : Int), .pointer (some ⟨ob, 0, none⟩)] w (ComE lo gS m W bs S to b A B w) := by
  have hAl := h.rlen A (List.mem_of_getElem? hA)
  have hBl := h.rlen B (List.mem_of_getElem? hB)
  have hrA := h.at' to b A hb hA
  have hrB := h.at' i bi B hbi hB
  have hgs : gS < w.heap.size := (Array.getElem?_eq_some_iff.1 h.row).1
  have hobs : ob < w.heap.size := (Array.getElem?_eq_some_iff.1 hob).1
  have hbs := h.lt (List.mem_of_getElem? hb)
  have hbis := h.lt (List.mem_of_getElem? hbi)
  have hgb : gS ≠ b := fun q => h.notin (q ▸ List.mem_of_getElem? hb)
  have hobb : ob ≠ b := fun q => hon (q ▸ List.mem_of_getElem? hb)
  have o0 := one_at hob
  have g0 := setC_at h.row hb
  have g1 := setC_at h.row hbi
  have htm : to < m := by rw [← hm]; exact some_lt hb
  have him : i < m := by rw [← hm]; exact some_lt hbi
  obtain ⟨C, hC⟩ : ∃ C, C = comL to 0 A B := ⟨_, rfl⟩
  have hCl : C.length = A.length := by rw [hC]; exact comL_len to A 0 B
  have hCk : ∀ (k x y : Nat), A[k]? = some x → B[k]? = some y → C[k]? = some (comW to k x y) := fun k x y h1 h2 => by rw [hC, comL_at to A 0 B k x y h1 h2, Nat.zero_add]
  obtain ⟨q, hq⟩ : ∃ q, q = to / 64 := ⟨_, rfl⟩
  obtain ⟨r, hr⟩ : ∃ r, r = to % 64 := ⟨_, rfl⟩
  have hr64 : r < 64 := by omega
  have e1 : (to : Int) / 64 = (q : Int) := by omega
  have e2 : (to : Int).tmod 64 = (r : Int) := by rw [hr]; exact rem64 to
  have e3 := shl64 r hr64
  obtain ⟨P, hP⟩ : ∃ P : Nat, P = 2 ^ r := ⟨_, rfl⟩
  have hP2 : P < 2 ^ 64 := by rw [hP]; exact pow64 hr64
  rw [← hP] at e3
  have HS := Lib.hid h
  have HB := Lib.hid hb
  have HA := Lib.hid hrA
  have HRB := Lib.hid hrB
  have HA2 := Lib.hid hA2
  have HB2 := Lib.hid hB2
  have HCL := Lib.hid hCl
  have HCK := Lib.hid hCk
  have HC := Lib.hid hC
  have HL := Lib.hid (And.intro hAl hBl)
  have HQ := Lib.hid (And.intro hq (And.intro hr hP))
  have HO0 := Lib.hid o0
  have HG0 := Lib.hid g0
  have HG1 := Lib.hid g1
  clear h hm hob hon hb hbi hA hB hA2 hB2 hrA hrB hAl hBl hC hCl hCk hq hr hP
  go_enter Try.func27, Try.ntmps27
  go_wp2_with fail
  clear o0 g0 g1
  go_loopw [5, 14] (fun o q wr => ∃ (k : Nat) (lb : Bool), k ≤ W ∧ q = .int .i64 (k : Int) ∧ o = .bool lb ∧ Hid (lb = decide (C.take k ≠ A.take k) ∧ wr.heap[b]? = some (.cells (u64A (C.take k ++ A.drop k)) 70 (0, 0)) ∧ Wr (fun x => x = b) w wr)) (fun _ q _ => W - (intOf q).toNat)
  case atStart => exact ⟨0, false, Nat.zero_le _, rfl, rfl, Lib.hid ⟨by simp, by simpa using HA.out, Wr.refl _ _⟩⟩
  case round =>
    obtain ⟨k, lb, hk, rfl, rfl, HR⟩ := hrel
    obtain ⟨hlb, hrow, hwr⟩ := HR.out
    have hzr := hwr.size
    by_cases hlk : k < W
    · obtain ⟨a, ha⟩ : ∃ a, A[k]? = some a := ⟨_, List.getElem?_eq_getElem (by rw [HL.out.1]; exact hlk)⟩
      obtain ⟨y, hy⟩ : ∃ y, B[k]? = some y := ⟨_, List.getElem?_eq_getElem (by rw [HL.out.2]; exact hlk)⟩
      have o0 := (World.cell?_of_block (hwr.block ob hobs hobb)).trans HO0.out
      have g0 := (World.cell?_of_block (hwr.block gS hgs hgb)).trans HG0.out
      have g1 := (World.cell?_of_block (hwr.block gS hgs hgb)).trans HG1.out
      have ca := u64A_at hrow (mix_at HCL.out ha)
      have fa := Lib.frozen_of_heap hrow k
      have cb : wr.cell? ⟨bi, k, none⟩ = some (.int .u64 (y : Int)) := by
        by_cases e : bi = b
        · subst e
          have e2 := HA.out.symm.trans HRB.out
          have e4 : A = B := by
            injection e2 with e2
            injection e2 with e2 _ _
            unfold u64A at e2
            have e5 := congrArg Array.toList e2
            simp only at e5
            exact map_u64 A B e5
          rw [← e4, ha] at hy
          cases hy
          exact ca
        · exact (World.cell?_of_block (hwr.block bi hbis e)).trans (u64A_at HRB.out hy)
      have ha2 := HA2.out a (List.mem_of_getElem? ha)
      have hy2 := HB2.out y (List.mem_of_getElem? hy)
      have hand := bits64_and a y ha2 hy2
      obtain ⟨AB, hAB⟩ : ∃ x, x = a &&& y := ⟨_, rfl⟩
      rw [← hAB] at hand
      have hab2 : AB < 2 ^ 64 := by rw [hAB]; exact Nat.lt_of_le_of_lt Nat.and_le_left ha2
      have hor := bits64_or AB P hab2 hP2
      obtain ⟨L, hL⟩ : ∃ x, x = comW to k a y := ⟨_, rfl⟩
      have hck := HCK.out k a y ha hy
      rw [← hL] at hck
      have hnext : ∀ lb', lb' = (lb || decide (L ≠ a)) → (lb' = decide (C.take (k + 1) ≠ A.take (k + 1)) ∧ (wr.setCell ⟨b, k, none⟩ (.int .u64 (L : Int))).heap[b]? = some (.cells (u64A (C.take (k + 1) ++ A.drop (k + 1))) 70 (0, 0)) ∧ Wr (fun x => x = b) w (wr.setCell ⟨b, k, none⟩ (.int .u64 (L : Int)))) := fun lb' hl' => by
        refine ⟨?_, ?_, hwr.trans (Wr.set (S := fun x => x = b) wr rfl _)⟩
        · rw [hl', hlb, List.take_add_one, List.take_add_one, hck, ha]
          simp only [Option.toList_some]
          have hlen : (C.take k).length = (A.take k).length := by simp [HCL.out]
          by_cases e1 : C.take k = A.take k
          · by_cases e2 : L = a
            · simp [e1, e2]
            · simp [e1, e2]
          · have : ¬ C.take k ++ [L] = A.take k ++ [a] := fun e => e1 (List.append_inj e hlen).1
            simp [e1, this]
        · have h1 := u64A_set hrow k L
          rw [mix_set HCL.out hck] at h1
          exact h1
      have HN := Lib.hid hnext
      have hcase : (((k : Int) == (q : Int)) = true ∧ L = AB ||| P) ∨ (((k : Int) == (q : Int)) = false ∧ L = AB) := by
        by_cases e : k = q
        · refine .inl ⟨by rw [e]; simp, ?_⟩
          rw [hL, hAB, HQ.out.2.2, HQ.out.2.1]
          unfold comW
          rw [if_pos (by rw [e, HQ.out.1])]
        · refine .inr ⟨by simp only [beq_eq_false_iff_ne, ne_eq]; omega, ?_⟩
          rw [hL, hAB]
          unfold comW
          rw [if_neg (by rw [← HQ.out.1]; exact e)]
      have hcmp : (((L : Int) != (a : Int)) = true ∧ decide (L ≠ a) = true) ∨ (((L : Int) != (a : Int)) = false ∧ decide (L ≠ a) = false) := by
        by_cases e : L = a
        · exact .inr ⟨by simp [e], by simp [e]⟩
        · exact .inl ⟨by simp; omega, by simp [e]⟩
      clear hlb hrow hwr ha hy ha2 hy2 hAB hab2 hL hck hnext HR
      rcases hcase with ⟨hkq, hLe⟩ | ⟨hkq, hLe⟩
      · rw [← hLe] at hor
        clear hLe
        rcases hcmp with ⟨hne, hd⟩ | ⟨hne, hd⟩
        · rw [hd] at HN
          clear hd
          cases lb
          · go_wp2_with fail
            go_roundw
            case rel => exact ⟨k + 1, true, by omega, by go_num, rfl, Lib.hid (HN.out _ rfl)⟩
            case measure => simp [intOf]; omega
          · go_wp2_with fail
            go_roundw
            case rel => exact ⟨k + 1, true, by omega, by go_num, rfl, Lib.hid (HN.out _ rfl)⟩
            case measure => simp [intOf]; omega
        · rw [hd] at HN
          clear hd
          cases lb
          · go_wp2_with fail
            go_roundw
            case rel => exact ⟨k + 1, false, by omega, by go_num, rfl, Lib.hid (HN.out _ rfl)⟩
            case measure => simp [intOf]; omega
          · go_wp2_with fail
            go_roundw
            case rel => exact ⟨k + 1, true, by omega, by go_num, rfl, Lib.hid (HN.out _ rfl)⟩
            case measure => simp [intOf]; omega
      · subst hLe
        clear hor
        rcases hcmp with ⟨hne, hd⟩ | ⟨hne, hd⟩
        · rw [hd] at HN
          clear hd
          cases lb
          · go_wp2_with fail
            go_roundw
            case rel => exact ⟨k + 1, true, by omega, by go_num, rfl, Lib.hid (HN.out _ rfl)⟩
            case measure => simp [intOf]; omega
          · go_wp2_with fail
            go_roundw
            case rel => exact ⟨k + 1, true, by omega, by go_num, rfl, Lib.hid (HN.out _ rfl)⟩
            case measure => simp [intOf]; omega
        · rw [hd] at HN
          clear hd
          cases lb
          · go_wp2_with fail
            go_roundw
            case rel => exact ⟨k + 1, false, by omega, by go_num, rfl, Lib.hid (HN.out _ rfl)⟩
            case measure => simp [intOf]; omega
          · go_wp2_with fail
            go_roundw
            case rel => exact ⟨k + 1, true, by omega, by go_num, rfl, Lib.hid (HN.out _ rfl)⟩
            case measure => simp [intOf]; omega
    · have hkW : k = W := by omega
      subst hkW
      rw [List.take_of_length_le (by rw [HCL.out, HL.out.1]; omega), List.take_of_length_le (by rw [HL.out.1]; omega)] at hlb
      rw [List.take_of_length_le (by rw [HCL.out, HL.out.1]; omega), List.drop_eq_nil_of_le (by rw [HL.out.1]; omega), List.append_nil] at hrow
      have HE := Lib.hid (show ComE lo gS m k bs S to b A B w (.returned (.bool lb)) wr from
        ⟨by rw [hlb, HC.out], HS.out.setRow HB.out hwr hrow (by rw [HCL.out, HL.out.1]) (by rw [HC.out]), hwr⟩)
      clear hlb hrow hwr HR
      go_wp2_with fail
      go_ret
      exact HE.out
end Go.Proofs.Ytgkjhnghibpeoaa
