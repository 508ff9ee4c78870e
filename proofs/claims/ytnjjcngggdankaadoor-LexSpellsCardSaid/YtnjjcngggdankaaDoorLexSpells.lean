/- The statement of tokens' own texts, called at any text, answers true and leaves what there was, wherever the library's variables read as laid. -/
import Derived.Test.YtnjjcngggdankaaDoorRows
import Derived.Test.YtnjjcngggdankaaDoorLexJoinP
import Derived.Test.YtnjjcngggdankaaDoorLexAlive
import Derived.Deep.QuietTactic
import Derived.Deep.Draws
import Derived.BigQuiet
import Derived.WalkKit
import Derived.WalkSpells
import Derived.WalkLawsBesides
import Derived.Lib.Hide
namespace Go.Proofs.YtnjjcngggdankaaDoor
open Go.RowKit Go.Joins

def flat (t : Tok) : Tok := { t with line := 0 }
theorem spell_next (ts : List Tok) (k : Nat) (h : k < ts.length) : spell (ts.take (k + 1)) = spell (ts.take k) ++ (ts[k].text ++ [32]) := by
  rw [List.take_succ_eq_append_getElem h, spell_append, spell_cons, spell_nil]
theorem sum_take (ts : List Tok) (k : Nat) : ((ts.take k).map fun t => t.text.length).sum ≤ (ts.map fun t => t.text.length).sum := by
  have e : ts = ts.take k ++ ts.drop k := (List.take_append_drop k ts).symm
  conv => rhs; rw [e]
  rw [List.map_append, List.sum_append]
  omega
theorem spell_take (ts : List Tok) (k m : Nat) (hS : ∀ t ∈ ts, Sound t) (h : (ts.map fun t => t.text.length).sum ≤ m) : (spell (ts.take k)).length ≤ 2 * m := by
  have h1 := spell_len (ts.take k) fun t ht => hS t (List.mem_of_mem_take ht)
  have h2 := sum_take ts k
  omega
/-- What the loop over the tokens asks of each. -/
structure Asked (t : Tok) : Prop where
  name : decide (t.kind = 1) = isName t.text
  word : decide (t.kind = 2) = isWord t.text
  pos : 1 ≤ t.text.length
theorem asked_of {t : Tok} (h : Sound t) : Asked t := ⟨(sound_kind h).1, (sound_kind h).2.1, sound_pos h⟩

theorem spells_known {l : List UInt8} {ts : List Tok} (h : lexL 0 l = .ok ts) : (∀ t ∈ ts, Sound t) ∧ (ts.map fun t => t.text.length).sum ≤ l.length := by
  obtain ⟨g1, g2⟩ := lex_all l.length 0 l (Nat.le_refl _) ts h
  exact ⟨fun t ht => (g1 t ht).1, g2⟩

set_option maxRecDepth 1000000 in
set_option maxHeartbeats 1000000 in
theorem spells_no (s : ByteArray) (k : Nat) (c : Int) (hc2 : ((c : Int) != 0) = true) (ht : ∀ w, Good w → Calls Tryd.prog 11 #[.string s] w fun e w' => e = .returned (.tuple #[.slice none 0 0, .int .i64 (k : Int), .int .i64 c]) ∧ Below w.heap.size w w') (w : World) (hG : Good w) :
    Calls Tryd.prog 5 #[.string s] w fun e w' => e = .returned (.bool true) ∧ Below w.heap.size w w' := by
  have HT := Lib.hid ht
  clear ht
  go_enter Tryd.func5, Tryd.ntmps5
  go_wp2_with fail
  refine (HT.out _ hG).mono ?_; rintro e w1 ⟨rfl, b1⟩
  have G1 := hG.keeps b1
  go_wp2_with fail
  refine (alive_any _ G1).mono ?_; rintro e w2 ⟨rfl, b2⟩
  go_wp2_with fail
  go_ret
  exact ⟨rfl, b1.trans (b2.mono b1.size)⟩

theorem concat_list (a b : ByteArray) : (a ++ b ++ (⟨#[32]⟩ : ByteArray)).data.toList = a.data.toList ++ (b.data.toList ++ [32]) := by
  simp
theorem below_drew {B : Nat} {a w : World} (h : Below B a w) (n : Nat) : Below B a (w.drewN n) := ⟨h.os, h.tape, h.output, h.size, h.block⟩
theorem own_draws {w : World} {base : Nat} {e : TypeId} {size n : Nat} {v : Value} {xs : List Value} (h : w.ownsRow base e size v n xs) (k : Nat) : (w.drewN k).ownsRow base e size v n xs := h

set_option maxRecDepth 1000000 in
set_option maxHeartbeats 1000000 in
theorem spells_yes (s : ByteArray) (hs : s.size ≤ 32768) (ts : List Tok) (h : lexL 0 s.data.toList = .ok ts) (w : World) (hG : Good w) :
    Calls Tryd.prog 5 #[.string s] w fun e w' => e = .returned (.bool true) ∧ Below w.heap.size w w' := by
  obtain ⟨hk1, _⟩ := lex_known h
  rw [size_of] at hk1
  obtain ⟨hS, hsum⟩ := spells_known h
  rw [size_of] at hsum
  obtain ⟨n, hn⟩ : ∃ n, n = ts.length := ⟨_, rfl⟩
  rw [← hn] at hk1
  have HSP := Lib.hid (fun k => spell_take ts k s.size hS hsum)
  have HS := Lib.hid hS
  have HN := Lib.hid hn
  have H1 := Lib.hid (tokens_ok s (by omega) ts h)
  clear h hS hsum hn
  go_enter Tryd.func5, Tryd.ntmps5
  go_wp2_with fail
  refine (H1.out _ hG).mono ?_; rintro e w1 ⟨v1, rfl, b1, o1⟩
  have G1 := hG.keeps b1
  rw [← HN.out] at o1
  have HT := Lib.hid (twin_any ts n v1 w.heap.size w1 (by omega) o1)
  obtain ⟨A, c1, rfl⟩ := own_slice o1
  have O1 := Lib.hid o1
  have s1 := b1.size
  have B1 := Lib.hid b1
  clear o1 b1
  go_wp2_with fail
  refine HT.out.mono ?_; rintro e w2 ⟨g, c, rfl, b2, o2⟩
  have hgl := o2.lt g rfl
  have o1' := own_below O1.out b2
  have c2 := B1.out.trans (b2.mono s1)
  have OA := Lib.hid o1'
  have OB := Lib.hid o2
  have C2 := Lib.hid c2
  have s2 := b2.size
  clear o1' o2 c2 b2
  go_wp2_with fail
  go_loopw [6, 8] (fun tv i wr => ∃ (k : Nat) (tt : ByteArray), k ≤ n ∧ i = .int .i64 k ∧ tv = .string tt ∧ Hid (tt.data.toList = spell (ts.take k)) ∧ wr.ownsRow w.heap.size 35 4 (.slice A n c1) n (rowOf ts) ∧ wr.ownsRow w1.heap.size 35 4 (.slice (some ⟨g, 0, none⟩) n c) n (rowOf (part flat k ts)) ∧ Below w.heap.size w wr) (fun _ i _ => n - (intOf i).toNat)
  case atStart => exact ⟨0, ⟨#[]⟩, by omega, rfl, rfl, Lib.hid rfl, OA.out, by rw [part_none]; exact OB.out, C2.out⟩
  case round =>
    obtain ⟨k, tt, hk, rfl, rfl, HTT, oa, ob, hbl⟩ := hrel
    have htz : tt.size ≤ 65536 := by
      have h1 := HSP.out k
      rw [← HTT.out, size_of] at h1
      omega
    by_cases hlt : k < n
    · have hkt : k < ts.length := by rw [← HN.out]; exact hlt
      obtain ⟨g1, cap, he, _, _⟩ := oa.form (by omega)
      injection he with he _ hcap
      subst he
      subst hcap
      have hg1 := (O1.out.lt g1 rfl).2
      have hne : g1 ≠ g := by omega
      obtain ⟨p1, p2, -, -⟩ := own_at oa k _ (List.getElem?_eq_getElem hkt)
      obtain ⟨-, -, -, q4⟩ := own_at ob k _ (part_at flat k ts hkt)
      have f4 := ob.frozenAt (k * 4 + 3)
      have hA := asked_of (HS.out _ (List.getElem_mem hkt))
      have hst := (ob.stored (k * 4 + 3) (.int .i64 ((flat ts[k]).line : Int))).1
      rw [set_row (part flat k ts) k _ (flat ts[k]) (part_at flat k ts hkt) rfl rfl rfl, part_next flat k ts hkt] at hst
      have hsa := own_cell oa ⟨g, k * 4 + 3, none⟩ (by simp [Value.ownBlock]; exact hne) (.int .i64 0)
      have HSA := Lib.hid hsa
      have HSB : Hid ((wr.setCell ⟨g, k * 4 + 3, none⟩ (.int .i64 0)).ownsRow w1.heap.size 35 4 (.slice (some ⟨g, 0, none⟩) n c) n (rowOf (part flat (k + 1) ts))) := Lib.hid hst
      have hBg : w.heap.size ≤ g := by omega
      have hbl2 := hbl.setCell (p := ⟨g, k * 4 + 3, none⟩) (by simpa using hBg) (.int .i64 0)
      have HB := Lib.hid hbl2
      obtain ⟨T, hT⟩ : ∃ T : ByteArray, T = ⟨(ts[k]'hkt).text.toArray⟩ := ⟨_, rfl⟩
      have hTl : T.data.toList = (ts[k]'hkt).text := by rw [hT]
      have hTs : T.size = (ts[k]'hkt).text.length := by rw [← size_of, hTl]
      have hTz : T.size ≤ 65536 := by
        have h1 := HSP.out (k + 1)
        rw [spell_next ts k hkt, List.length_append, List.length_append, ← hTs] at h1
        omega
      have HTN := Lib.hid (show (tt ++ T ++ (⟨#[32]⟩ : ByteArray)).data.toList = spell (ts.take (k + 1)) by
        rw [concat_list, HTT.out, hTl, spell_next ts k hkt])
      have hemp : T.toList.isEmpty = false := by
        rw [bytes_list, hTl]
        have := hA.pos
        cases hx : (ts[k]'hkt).text with
        | nil => rw [hx] at this; simp at this
        | cons _ _ => rfl
      have hnm : ∀ W : World, Calls Tryd.prog 8 #[.string T] W fun e w' => e = .returned (.bool (isName T.data.toList)) ∧ w' = W := fun W => (name_any T (by omega) W).mono fun _ _ ⟨he, hw⟩ => ⟨he, hw.symm⟩
      have hwd : ∀ W : World, Calls Tryd.prog 6 #[.string T] W fun e w' => e = .returned (.bool (isWord T.data.toList)) ∧ w' = W := fun W => (word_any T W).mono fun _ _ ⟨he, hw⟩ => ⟨he, hw.symm⟩
      rw [hTl, ← hA.name] at hnm
      rw [hTl, ← hA.word] at hwd
      rw [← hT] at p2
      obtain ⟨K, hK⟩ : ∃ K : Int, K = ((ts[k]'hkt).kind : Int) := ⟨_, rfl⟩
      obtain ⟨nB, hnB⟩ : ∃ b, b = decide ((ts[k]'hkt).kind = 1) := ⟨_, rfl⟩
      obtain ⟨wB, hwB⟩ : ∃ b, b = decide ((ts[k]'hkt).kind = 2) := ⟨_, rfl⟩
      have k1 : (K == 1) = nB := by rw [hnB, Bool.eq_iff_iff, beq_iff_eq, decide_eq_true_eq]; omega
      have k2 : (K == 2) = wB := by rw [hwB, Bool.eq_iff_iff, beq_iff_eq, decide_eq_true_eq]; omega
      rw [← hnB] at hnm
      rw [← hwB] at hwd
      rw [← hK] at p1
      have HNM := Lib.hid hnm
      have HWD := Lib.hid hwd
      clear hA hst hsa hbl2 hbl hT hTl hTs hnm hwd hnB hwB hK oa ob
      cases nB <;> cases wB
      all_goals
        go_wp2_with fail
        go_quiet ((first | (go_at_call 8; exact Calls.quiet_of_same (HNM.out _)) | (go_at_call 6; exact Calls.quiet_of_same (HWD.out _))))
        go_wp2_with fail
        go_roundw
        case rel => exact ⟨k + 1, _, by omega, by go_num, rfl, HTN, own_draws HSA.out _, own_draws HSB.out _, below_drew HB.out _⟩
        case measure => simp [intOf]; omega
    · obtain rfl : k = n := by omega
      have hall : ts.take k = ts := List.take_of_length_le (by rw [← HN.out]; exact Nat.le_refl _)
      have hlx : lexL 0 tt.data.toList = .ok (ts.map flat) := by
        rw [HTT.out, hall]
        exact lex_spell ts HS.out
      have HL := Lib.hid (tokens_ok tt htz (ts.map flat) hlx)
      have hpa := part_all flat ts
      rw [← HN.out] at hpa
      rw [hpa] at ob
      have OC := Lib.hid ob
      have HBB := Lib.hid hbl
      have Gr := hG.keeps hbl
      have hgr := (ob.lt g rfl).2
      have hlen : k = (ts.map flat).length := by rw [List.length_map]; exact HN.out
      have HLEN := Lib.hid hlen
      clear hall hlx hpa ob oa hbl hlen
      go_wp2_with fail
      refine (HL.out _ Gr).mono ?_; rintro e w5 ⟨v5, rfl, b5, o5⟩
      have G5 := Gr.keeps b5
      rw [← HLEN.out] at o5
      have HSS := Lib.hid (same_any (ts.map flat) k v5 _ _ _ w5 HLEN.out (by omega) o5 (own_below OC.out b5))
      have c5 := HBB.out.trans (b5.mono HBB.out.size)
      clear o5 b5
      go_wp2_with fail
      refine HSS.out.mono ?_; rintro e w7 ⟨rfl, b7⟩
      have G7 := G5.keeps b7
      go_wp2_with fail
      refine (alive_any _ G7).mono ?_; rintro e w8 ⟨rfl, b8⟩
      go_wp2_with fail
      go_ret
      have c7 := c5.trans (b7.mono c5.size)
      exact ⟨rfl, c7.trans (b8.mono c7.size)⟩

set_option maxRecDepth 1000000 in
set_option maxHeartbeats 1000000 in
theorem spells_long (s : ByteArray) (hs : s.size ≤ 65536) (hl : 32768 < s.size) (ts : List Tok) (h : lexL 0 s.data.toList = .ok ts) (w : World) (hG : Good w) :
    Calls Tryd.prog 5 #[.string s] w fun e w' => e = .returned (.bool true) ∧ Below w.heap.size w w' := by
  have H1 := Lib.hid (tokens_ok s hs ts h)
  clear h
  go_enter Tryd.func5, Tryd.ntmps5
  go_wp2_with fail
  refine (H1.out _ hG).mono ?_; rintro e w1 ⟨v1, rfl, b1, _⟩
  have G1 := hG.keeps b1
  go_wp2_with fail
  refine (alive_any _ G1).mono ?_; rintro e w2 ⟨rfl, b2⟩
  go_wp2_with fail
  go_ret
  exact ⟨rfl, b1.trans (b2.mono b1.size)⟩

theorem spells_law (s : ByteArray) (w : World) (hG : Good w) :
    Calls Tryd.prog 5 #[.string s] w fun e w' => e = .returned (.bool true) ∧ Below w.heap.size w w' := by
  by_cases h6 : 65536 < s.size
  · exact spells_no s 0 3 rfl (fun w _ => (tokens_long s h6 w).mono fun _ _ ⟨he, hw⟩ => ⟨he, by rw [← hw]; exact Below.refl _ _⟩) w hG
  cases h : lexL 0 s.data.toList with
  | error k => exact spells_no s k 5 rfl (tokens_err s (by omega) k h) w hG
  | ok ts =>
    by_cases h3 : 32768 < s.size
    · exact spells_long s (by omega) h3 ts h w hG
    · exact spells_yes s (by omega) ts h w hG
end Go.Proofs.YtnjjcngggdankaaDoor
