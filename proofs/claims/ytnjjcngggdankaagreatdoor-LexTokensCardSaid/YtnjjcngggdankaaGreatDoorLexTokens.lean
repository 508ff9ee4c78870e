/- What the lex layer's Tokens answers, at every text, wherever the library's variables read as laid: the tokens in memory of their own, or the line. It leaves what there was. -/
import Derived.Test.YtnjjcngggdankaaGreatDoorRows
import Derived.Test.YtnjjcngggdankaaGreatDoorLexOne
import Derived.Shelf.Strconv.Clone
import Derived.Shelf.Strings.Count
import Derived.Laws.AppendOwn
import Derived.WalkKit
import Derived.WalkSpells
import Derived.WalkLawsBesides
import Derived.Lib.Hide
namespace Go.Proofs.YtnjjcngggdankaaGreatDoor
open Go.RowKit

theorem grown_of_below {a w : World} (h : Below a.heap.size a w) (row : Option Nat) : a.grownBy w row := ⟨h.os, h.tape, h.output, h.size, fun i hi _ => h.block i hi⟩
theorem own_below {a w : World} {base : Nat} {e : TypeId} {size : Nat} {v : Value} {n : Nat} {xs : List Value} (h : a.ownsRow base e size v n xs) (hb : Below a.heap.size a w) : w.ownsRow base e size v n xs :=
  h.kept (grown_of_below hb none) (by cases hv : v.ownBlock <;> simp)
theorem own_cell {a : World} {base : Nat} {e : TypeId} {size : Nat} {v : Value} {n : Nat} {xs : List Value} (h : a.ownsRow base e size v n xs) (p : Addr) (hp : v.ownBlock ≠ some p.block) (u : Value) : (a.setCell p u).ownsRow base e size v n xs :=
  h.kept (row := some p.block) ⟨rfl, rfl, rfl, by simp [World.setCell], fun i _ hne => Below.heap_setCell a p u i (fun g => hne (by rw [g]))⟩ (.inr hp)

/-- A token's cells, and those of some. -/
def tokCells (t : Tok) : List Value := [.int .u8 (t.kind : Int), .string ⟨t.text.toArray⟩, .int .i64 t.n, .int .i64 (t.line : Int)]
def rowOf (ts : List Tok) : List Value := ts.flatMap tokCells
theorem row_nil : rowOf [] = [] := rfl
theorem row_snoc (ts : List Tok) (t : Tok) : rowOf (ts ++ [t]) = rowOf ts ++ tokCells t := by simp [rowOf]
theorem row_len : ∀ ts : List Tok, (rowOf ts).length = ts.length * 4
  | [] => rfl
  | t :: ts => by
    have := row_len ts
    show (tokCells t ++ rowOf ts).length = _
    rw [List.length_append, this, List.length_cons]
    show 4 + _ = _
    omega

def strSize : Value → Nat
  | .string s => s.size
  | _ => 0

theorem tokInfo : (Tryz.prog.info? 63).map (fun i => (i.zero, i.size, i.bytes)) = some (some (.agg #[.int .u8 0, .string ⟨#[]⟩, .int .i64 0, .int .i64 0]), 4, 40) := by kernel_rfl

set_option maxHeartbeats 400000 in
theorem clone_any (s : ByteArray) (hs : s.size ≤ 65536) (w : World) :
    Calls Tryz.prog 13 #[.string s] w fun e w' => e = .returned (.string s) ∧ Below w.heap.size w w' := by
  have hc : ∀ w, Calls Tryz.prog 110 #[.string s] w fun e w' => e = .returned (.string s) ∧ Below w.heap.size w w' := fun w => Any.stringslite_Clone Tryz.laysM316 s w (by omega)
  have HC := Lib.hid hc
  clear hc
  go_enter Tryz.func13, Tryz.ntmps13
  go_wp2_with (go_at_call 110; refine (HC.out _).mono ?_; rintro e w' ⟨rfl, hb⟩)
  go_ret
  exact ⟨rfl, hb⟩
theorem count_any (s : ByteArray) (w : World) :
    Calls Tryz.prog 11 #[.string s, .string ⟨#[10]⟩] w fun e w' => e = .returned (.int .i64 ((feeds s.data.toList : Nat) : Int)) ∧ w = w' := by
  have h := Any.strings_Count_one Tryz.lays138 s 10 w
  rw [count_feed] at h
  exact h.mono fun _ _ ⟨he, hw⟩ => ⟨he, hw.symm⟩

theorem four_one (K N M : Int) (T : ByteArray) : ∀ u ∈ [Value.int .u8 K, .string T, .int .i64 N, .int .i64 M], u.oneCell' = true := by
  intro u hu
  simp at hu
  rcases hu with rfl | rfl | rfl | rfl <;> rfl
theorem four_cells (w : World) (t : TypeId) (a b c d : Value) (n : Nat) (hn : n = w.heap.size) : ∀ j u, [a, b, c, d][j]? = some u → (w.alloc (.cells #[a, b, c, d] t)).cell? ((⟨n, 0, none⟩ : Addr).add j) = some u := by
  subst hn
  intro j u h
  match j, h with
  | 0, h => simp at h; subst h; go_simp
  | 1, h => simp at h; subst h; go_simp
  | 2, h => simp at h; subst h; go_simp
  | 3, h => simp at h; subst h; go_simp
  | j + 4, h => simp at h
/-- What Tokens answers. -/
def Lexed (x : Except Nat (List Tok)) (w : World) (e : Ending) (w' : World) : Prop :=
  Below w.heap.size w w' ∧ match x with
    | .error k => e = .returned (.tuple #[.slice none 0 0, .int .i64 (k : Int), .int .i64 5])
    | .ok ts => ∃ v, e = .returned (.tuple #[v, .int .i64 0, .int .i64 0]) ∧ w'.ownsRow w.heap.size 63 4 v ts.length (rowOf ts)
theorem lexed_err {x : Except Nat (List Tok)} {k : Nat} {w w' : World} (h : x = .error k) (hb : Below w.heap.size w w') : Lexed x w (.returned (.tuple #[.slice none 0 0, .int .i64 (k : Int), .int .i64 5])) w' := by
  subst h; exact ⟨hb, rfl⟩
theorem lexed_ok {x : Except Nat (List Tok)} {ts : List Tok} {v : Value} {w w' : World} (h : x = .ok ts) (hb : Below w.heap.size w w') (ho : w'.ownsRow w.heap.size 63 4 v ts.length (rowOf ts)) : Lexed x w (.returned (.tuple #[v, .int .i64 0, .int .i64 0])) w' := by
  subst h; exact ⟨hb, v, rfl, ho⟩

set_option maxHeartbeats 400000 in
theorem tokens_long (s : ByteArray) (hs : 65536 < s.size) (w : World) :
    Calls Tryz.prog 4 #[.string s] w fun e w' => e = .returned (.tuple #[.slice none 0 0, .int .i64 0, .int .i64 3]) ∧ w = w' := by
  go_enter Tryz.func4, Tryz.ntmps4
  go_wp2_with fail
  go_ret3
  exact ⟨rfl, rfl⟩

set_option maxHeartbeats 1000000 in
theorem tokens_any (s : ByteArray) (hs : s.size ≤ 65536) (w : World) (hG : Good w) :
    Calls Tryz.prog 4 #[.string s] w (Lexed (lexL 0 s.data.toList) w) := by
  obtain ⟨x, hx⟩ : ∃ x, x = lexL 0 s.data.toList := ⟨_, rfl⟩
  rw [← hx]
  have HX := Lib.hid (show x = preTok [] (lexL 0 s.data.toList) by rw [pre_nil, hx])
  clear hx
  obtain ⟨i0, hi, hz0, hz1, hz2⟩ := info_parts tokInfo
  have HI := Lib.hid (And.intro hi (And.intro hz0 (And.intro hz1 hz2)))
  clear hi hz0 hz1 hz2
  go_enter Tryz.func4, Tryz.ntmps4
  go_wp2_with fail
  go_loopw [2, 3, 5] (fun v ln rest wr => ∃ (acc : List Tok) (k : Nat) (rs : ByteArray), wr.ownsRow w.heap.size 63 4 v acc.length (rowOf acc) ∧ ln = .int .i64 k ∧ rest = .string rs ∧ Hid (x = preTok acc (lexL k rs.data.toList)) ∧ acc.length + rs.size ≤ 65536 ∧ k + rs.size ≤ 65536 ∧ Below w.heap.size w wr) (fun _ _ rest _ => strSize rest)
  case atStart => exact ⟨[], 0, s, World.ownsRow_nil _ _ _ _, rfl, rfl, HX, by simpa using hs, by omega, Below.refl _ _⟩
  case round =>
    obtain ⟨acc, k, rs, hown, rfl, rfl, HR, ha, hk, hb⟩ := hrel
    have hsz := size_of rs
    have hgs := gap_is rs.data.toList
    have hgc := gap_any rs (by omega)
    obtain ⟨g, hg⟩ : ∃ g, g = gapN rs.data.toList := ⟨_, rfl⟩
    rw [← hg] at hgc
    have hgle : g ≤ rs.size := by rw [hg, ← hsz]; exact hgs.le
    have hlex := hgs.lex k
    have hstop := hgs.stop
    rw [← hg] at hlex hstop
    have hcnt := count_any (rs.extract 0 g)
    rw [head_to] at hcnt
    have hfl := feeds_le (rs.data.toList.take g)
    rw [List.length_take] at hfl
    obtain ⟨f, hf⟩ : ∃ f, f = feeds (rs.data.toList.take g) := ⟨_, rfl⟩
    rw [← hf] at hcnt hlex hfl
    have htl := tail_at rs g
    have hts : (rs.extract g rs.size).size = rs.size - g := by rw [ByteArray.size_extract]; omega
    rw [← htl] at hlex hstop
    have HG := Lib.hid hgc
    have HC := Lib.hid hcnt
    have hR := HR.out
    rw [hlex] at hR
    have hGr := hG.keeps hb
    rcases hstop with he | ⟨c, r, he, hcb, hcr⟩
    · have k1 : (rs.extract g rs.size).toList.isEmpty = true := by rw [bytes_list, he]; rfl
      have HF := Lib.hid (show x = .ok acc by rw [hR, he, lexL_nil]; simp [preTok])
      clear hgs hgc hg hlex hcnt hf htl hts hR hsz HR he
      go_wp2_with fail
      refine (HG.out _).mono ?_; rintro e w' ⟨rfl, rfl⟩
      go_wp2_with fail
      refine (HC.out _).mono ?_; rintro e w' ⟨rfl, rfl⟩
      go_wp2_with fail
      go_ret3
      exact lexed_ok HF.out hb hown
    have k1 : (rs.extract g rs.size).toList.isEmpty = false := by rw [bytes_list, he]; rfl
    have hpos : 0 < (rs.extract g rs.size).size := by have := size_of (rs.extract g rs.size); rw [he] at this; simp at this; omega
    have hfst := first_any (rs.extract g rs.size) hpos (by omega)
    obtain ⟨y, hy⟩ : ∃ y, y = oneTok 0 (rs.extract g rs.size).data.toList := ⟨_, rfl⟩
    have hyl := one_line 0 (k + f) (c :: r)
    rw [← he, ← hy] at hyl
    rw [← hy] at hfst
    cases hyy : y with
    | none =>
      rw [hyy] at hyl hfst
      have HF := Lib.hid (show x = .error (k + f) by rw [hR, he, lexL_bad _ c r hcb hcr (by rw [← he, hyl]; rfl)]; rfl)
      have H1 : Hid (∀ w, Good w → Calls Tryz.prog 12 #[.string (rs.extract g rs.size)] w fun e w' => e = .returned (.tuple #[.agg #[.int .u8 0, .string ⟨#[]⟩, .int .i64 0, .int .i64 0], .bool false]) ∧ Below w.heap.size w w') := Lib.hid hfst
      have HT := Lib.hid hts
      clear hgs hgc hg hlex hcnt hf htl hts hR hsz HR he hfst hy hyl hyy
      go_wp2_with fail
      refine (HG.out _).mono ?_; rintro e w' ⟨rfl, rfl⟩
      go_wp2_with fail
      refine (HC.out _).mono ?_; rintro e w' ⟨rfl, rfl⟩
      go_wp2_with fail
      refine (H1.out _ hGr).mono ?_; rintro e w1 ⟨rfl, hb1⟩
      go_wp2_with fail
      go_ret3
      exact lexed_err HF.out (((hb.trans (hb1.mono hb.size)).alloc (hb.trans (hb1.mono hb.size)).size _))
    | some t =>
      rw [hyy] at hyl hfst
      have hB := one_begins (hy.symm.trans hyy)
      have hn1 := hB.pos
      have hn2 := hB.le
      rw [size_of, hts] at hn2
      obtain ⟨K, hK⟩ : ∃ K : Int, K = (t.kind : Int) := ⟨_, rfl⟩
      obtain ⟨N, hN⟩ : ∃ N, N = t.n := ⟨_, rfl⟩
      obtain ⟨T, hT⟩ : ∃ T : ByteArray, T = ⟨t.text.toArray⟩ := ⟨_, rfl⟩
      have hTs : T.size = t.text.length := by rw [hT]; simp [ByteArray.size]
      have hft : ∀ w, Good w → Calls Tryz.prog 12 #[.string (rs.extract g rs.size)] w fun e w' => e = .returned (.tuple #[.agg #[.int .u8 K, .string T, .int .i64 N, .int .i64 0], .bool true]) ∧ Below w.heap.size w w' := by
        subst hK; subst hN; subst hT
        exact hfst
      have HF := Lib.hid (show x = preTok (acc ++ [{ t with line := k + f }]) (lexL (k + f) ((rs.extract g rs.size).extract T.size (rs.size - g)).data.toList) by
        rw [← hts, tail_at, hR, he, lexL_tok _ c r _ hcb hcr (by rw [← he, hyl]; rfl), pre_pre, hTs]
        have h2 := hB.pos
        obtain ⟨j, hj⟩ : ∃ j, t.text.length = j + 1 := ⟨t.text.length - 1, by omega⟩
        simp only
        rw [hj]
        rfl)
      have HRow := Lib.hid (show rowOf (acc ++ [{ t with line := k + f }]) = rowOf acc ++ [.int .u8 K, .string T, .int .i64 N, .int .i64 ((k : Int) + (f : Int))] by
        rw [row_snoc, hK, hT, hN]; rfl)
      have HC2 := Lib.hid (clone_any T (by omega))
      have H1 := Lib.hid hft
      have hT1 : 1 ≤ T.size := by omega
      have hT2 : T.size ≤ rs.size - g := by omega
      have HT := Lib.hid hts
      have HZ := Lib.hid (show ((rs.extract g rs.size).extract T.size (rs.size - g)).size = rs.size - g - T.size by rw [ByteArray.size_extract, hts]; omega)
      clear hgs hgc hg hlex hcnt hf htl hts hR hsz HR he hfst hy hyl hyy hB hn1 hn2 hK hN hT hTs hft
      go_wp2_with fail
      refine (HG.out _).mono ?_; rintro e w' ⟨rfl, rfl⟩
      go_wp2_with fail
      refine (HC.out _).mono ?_; rintro e w' ⟨rfl, rfl⟩
      go_wp2_with fail
      refine (H1.out _ hGr).mono ?_; rintro e w1 ⟨rfl, hb1⟩
      go_wp2_with fail
      refine (HC2.out _).mono ?_; rintro e w2 ⟨rfl, hb2⟩
      obtain ⟨hc2, hf2⟩ := old_block hb2 w1.heap.size (by simp)
      have hs1 := hb1.size
      have hs2 : w1.heap.size + 1 ≤ w2.heap.size := by have := hb2.size; simp at this; omega
      have hs0 := hb.size
      have hne : u2.ownBlock ≠ some w1.heap.size := fun e => by have := (hown.lt _ e).2; omega
      have hlo : ∀ j, u2.ownBlock = some j → w.heap.size ≤ j := fun j e => (hown.lt j e).1
      have hown2 := own_below ((own_below hown hb1).alloc _) hb2
      have hbb : Below w.heap.size w w2 := (((hb.trans (hb1.mono hb.size)).alloc (hb.trans (hb1.mono hb.size)).size _).trans (hb2.mono (by simp; omega)))
      clear hown hb hb1 hb2
      go_wp2_with (at_builtin; refine wpList_append_own _ rfl _ _ 22 rfl w.heap.size 63 i0 (.agg #[.int .u8 0, .string ⟨#[]⟩, .int .i64 0, .int .i64 0]) 4 40 Tryz.underlying22 HI.out.1 HI.out.2.1 HI.out.2.2.1 HI.out.2.2.2 rfl (by decide) _ _ _ rfl ((own_cell (own_cell hown2 _ hne _) _ hne _).alloc _) ⟨w2.heap.size, 0, none⟩ 1 1 [.int .u8 K, .string T, .int .i64 N, .int .i64 ((k : Int) + (f : Int))] rfl rfl ?c1 ?c2 ?c3 ?c4 ?c5 ?_)
      case c1 => exact four_cells _ _ _ _ _ _ _ (by simp)
      case c2 => exact four_one _ _ _ _
      case c3 => unfold maxLen; omega
      case c4 => omega
      case c5 => simp; omega
      intro v' w3 hown3 hgrow _
      have HO := Lib.hid hown3
      have HW := Lib.hid hgrow
      clear hown3 hgrow
      go_wp2_with fail
      go_roundw
      case rel =>
        refine ⟨acc ++ [{ t with line := k + f }], k + f, _, by rw [HRow.out]; simpa using HO.out, rfl, rfl, HF, ?_, ?_, ?_⟩
        · rw [HZ.out, List.length_append, List.length_singleton]; omega
        · rw [HZ.out]; omega
        · have b1 := (((hbb.setCell (p := ⟨w1.heap.size, 1, none⟩) (by simp; omega) (.string T)).setCell (p := ⟨w1.heap.size, 3, none⟩) (by simp; omega) (.int .i64 ((k : Int) + (f : Int)))).alloc (by simp; omega) (.cells #[.int .u8 K, .string T, .int .i64 N, .int .i64 ((k : Int) + (f : Int))] 63))
          exact b1.grown HW.out (by simp; omega) fun j e => hlo j e
      case measure => show ((rs.extract g rs.size).extract T.size (rs.size - g)).size < rs.size; rw [HZ.out]; omega
end Go.Proofs.YtnjjcngggdankaaGreatDoor
