/- The statement of texts behind one another, where both are taken: it answers true and leaves what there was. -/
import Derived.Test.YtnjjcngggdankaaDoorRows
import Derived.Test.YtnjjcngggdankaaDoorLexJoinA
import Derived.Test.YtnjjcngggdankaaDoorLexAlive
import Derived.Laws.AppendOwn
import Derived.WalkKit
import Derived.WalkSpells
import Derived.WalkLawsBesides
import Derived.Lib.Hide
namespace Go.Proofs.YtnjjcngggdankaaDoor
open Go.RowKit Go.Joins

set_option maxRecDepth 1000000 in
set_option maxHeartbeats 1000000 in
theorem joins_both (a b : ByteArray) (hl : a.size + b.size < 65536) (l m : List Tok) (h : lexL 0 a.data.toList = .ok l) (h2 : lexL 0 b.data.toList = .ok m) (w : World) (hG : Good w) :
    Calls Tryd.prog 4 #[.string a, .string b] w fun e w' => e = .returned (.bool true) ∧ Below w.heap.size w w' := by
  have hf := feeds_le a.data.toList
  rw [size_of] at hf
  obtain ⟨hk1, _⟩ := lex_known h
  obtain ⟨hk2, hk3⟩ := lex_known h2
  rw [size_of] at hk1 hk2
  have hlin : ∀ t ∈ m, t.line ≤ 1000000 := fun t ht => by have := (hk3 t ht).2; rw [size_of] at this; omega
  have HLI := Lib.hid hlin
  have H1 := Lib.hid (tokens_ok a (by omega) l h)
  have H2 := Lib.hid (tokens_ok b (by omega) m h2)
  have H3 := tokens_ok (a ++ (⟨#[10]⟩ : ByteArray) ++ b) (by rw [join_size]; omega) _ (by rw [join_list]; exact join_both h h2)
  have HF := feeds_any a (by omega)
  obtain ⟨f, hff⟩ : ∃ f, f = feeds a.data.toList := ⟨_, rfl⟩
  rw [← hff] at H3 HF hf
  obtain ⟨nl, hnl⟩ : ∃ n, n = l.length := ⟨_, rfl⟩
  obtain ⟨nm, hnm⟩ : ∃ n, n = m.length := ⟨_, rfl⟩
  have H3' := Lib.hid H3
  have HF' := Lib.hid HF
  have HNL := Lib.hid hnl
  have HNM := Lib.hid hnm
  rw [← hnl] at hk1
  rw [← hnm] at hk2
  obtain ⟨i0, hi, hz0, hz1, hz2⟩ := info_parts tokInfo
  have HI := Lib.hid (And.intro hi (And.intro hz0 (And.intro hz1 hz2)))
  clear h h2 H3 HF hff hnl hnm hk3 hlin hi hz0 hz1 hz2
  go_enter Tryd.func4, Tryd.ntmps4
  go_wp2_with fail
  refine (H1.out _ hG).mono ?_; rintro e w1 ⟨v1, rfl, b1, o1⟩
  have G1 := hG.keeps b1
  go_wp2_with fail
  refine (H2.out _ G1).mono ?_; rintro e w2 ⟨v2, rfl, b2, o2⟩
  have G2 := G1.keeps b2
  go_wp2_with fail
  refine (H3'.out _ G2).mono ?_; rintro e w3 ⟨v3, rfl, b3, o3⟩
  have G3 := G2.keeps b3
  go_wp2_with fail
  refine (HF'.out _).mono ?_; rintro e w' ⟨rfl, rfl⟩
  have c2 := b1.trans (b2.mono b1.size)
  have c3 := c2.trans (b3.mono c2.size)
  have o1' := own_below (own_below o1 b2) b3
  have o2' := own_below o2 b3
  rw [← HNL.out] at o1'
  rw [← HNM.out] at o2'
  have HT := Lib.hid (twin_any l nl v1 w.heap.size w3 (by omega) o1')
  have O2 := Lib.hid o2'
  have O3 := Lib.hid o3
  have C3 := Lib.hid c3
  have s3 := c3.size
  have s31 := b1.size
  have s32 := b2.size
  have s33 := b3.size
  clear o1 o2 o3 o1' o2' b1 b2 b3 c2 c3 hG G1 G2
  go_wp2_with fail
  refine HT.out.mono ?_; rintro e w4 ⟨g4, p4, rfl, b4, o4⟩
  have HL := Lib.hid (later_any m nm (f + 1) v2 w1.heap.size w4 HNM.out (by omega) (by omega) HLI.out (own_below O2.out b4))
  have G4 := G3.keeps b4
  have s4 := b4.size
  have B4 := Lib.hid b4
  have O4 := Lib.hid o4
  clear b4 o4
  go_wp2_with fail
  refine HL.out.mono ?_; rintro e w5 ⟨g5, p5, rfl, b5, o5⟩
  have G5 := G4.keeps b5
  have s5 := b5.size
  have o45 := own_below O4.out b5
  have O45 := Lib.hid o45
  have O5 := Lib.hid o5
  have B5 := Lib.hid b5
  have s45 := o45.lt g4 rfl
  clear o45 o5 b5
  go_wp2_with (at_builtin; refine wpList_append_wanted rfl _ _ 24 rfl w3.heap.size 35 i0 (.agg #[.int .u8 0, .string ⟨#[]⟩, .int .i64 0, .int .i64 0]) 4 40 Tryd.underlying24 HI.out.1 HI.out.2.1 HI.out.2.2.1 HI.out.2.2.2 rfl (by decide) _ nl _ rfl O45.out ⟨g5, 0, none⟩ nm p5 (rowOf (m.map (shiftTok (f + 1)))) rfl O5.out.1 (O5.out.cells (g := g5) rfl) (row_one _) ?c3 ?c4 ?c5 ?_)
  case c3 => unfold maxLen; omega
  case c4 => omega
  case c5 => omega
  intro v6 w6 o6 gr6 _
  have hlen : (l ++ m.map (shiftTok (f + 1))).length = nl + nm := by rw [List.length_append, List.length_map, HNL.out, HNM.out]
  have o3 := O3.out
  have n3 : v3.ownBlock ≠ some g4 := fun e => by have := (o3.lt _ e).2; omega
  rw [hlen] at o3
  have o3' := (own_below (own_below o3 B4.out) B5.out).kept gr6 (.inr n3)
  rw [← row_append] at o6
  have HS := Lib.hid (same_any (l ++ m.map (shiftTok (f + 1))) (nl + nm) v3 v6 _ _ w6 hlen.symm (by omega) o3' o6)
  have c46 : Below w3.heap.size w3 w6 := (B4.out.trans (B5.out.mono s4)).grown gr6 (by omega) (fun k e => by
    obtain rfl : g4 = k := by simpa [Value.ownBlock] using e
    omega)
  have G6 := G3.keeps c46
  have c6 := C3.out.trans (c46.mono s3)
  clear o6 gr6 hlen o3 n3 o3' c46 G4 G5
  go_wp2_with fail
  refine HS.out.mono ?_; rintro e w7 ⟨rfl, b7⟩
  have G7 := G6.keeps b7
  go_wp2_with fail
  refine (alive_any _ G7).mono ?_; rintro e w8 ⟨rfl, b8⟩
  go_wp2_with fail
  go_ret
  have c7 := c6.trans (b7.mono c6.size)
  exact ⟨rfl, c7.trans (b8.mono c7.size)⟩

theorem joins_law (a b : ByteArray) (ha : a.size ≤ 140737488351232) (hb : b.size ≤ 140737488351232) (w : World) (hG : Good w) :
    Calls Tryd.prog 4 #[.string a, .string b] w fun e w' => e = .returned (.bool true) ∧ Below w.heap.size w w' := by
  by_cases hl : 65536 ≤ a.size + b.size
  · exact joins_long a b ha hb hl w hG
  cases h : lexL 0 a.data.toList with
  | error k => exact joins_first a b (by omega) k h w hG
  | ok l =>
    cases h2 : lexL 0 b.data.toList with
    | error k => exact joins_second a b (by omega) l k h h2 w hG
    | ok m => exact joins_both a b (by omega) l m h h2 w hG
end Go.Proofs.YtnjjcngggdankaaDoor
