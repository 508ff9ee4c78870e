/- The statement of tokens, called at any text, answers true and leaves what there was, wherever the library's variables read as laid. -/
import Derived.Test.YtnjjcngggdankaaGreatDoorRows
import Derived.Test.YtnjjcngggdankaaGreatDoorLexRefTok
import Derived.Test.YtnjjcngggdankaaGreatDoorLexAlive
import Derived.Test.YtnjjcngggdankaaGreatDoorBookApart
import Derived.Deep.MidRow
import Derived.WalkKit
import Derived.WalkSpells
import Derived.WalkLawsBesides
import Derived.Lib.Hide
namespace Go.Proofs.YtnjjcngggdankaaGreatDoor
open Go.RowKit Go.Joins

/-- An answer of Tokens, refused or not. -/
def Gives (L c : Int) (ts : List Tok) (w : World) (e : Ending) (w' : World) : Prop :=
  ∃ v, e = .returned (.tuple #[v, .int .i64 L, .int .i64 c]) ∧ Below w.heap.size w w' ∧ w'.ownsRow w.heap.size 63 4 v ts.length (rowOf ts)
theorem gives_err {k : Nat} {w w' : World} {e : Ending} (h : Lexed (.error k) w e w') : Gives (k : Int) 5 [] w e w' := ⟨_, h.2, h.1, World.ownsRow_nil _ _ _ _⟩
theorem gives_ok {ts : List Tok} {w w' : World} {e : Ending} (h : Lexed (.ok ts) w e w') : Gives 0 0 ts w e w' := by
  obtain ⟨hb, v, he, ho⟩ := h
  exact ⟨v, he, hb, ho⟩

theorem both_give (s : ByteArray) : ∃ (L c : Int) (ts : List Tok), ts.length ≤ 65536 ∧
    (∀ w, Good w → Calls Tryz.prog 4 #[.string s] w (Gives L c ts w)) ∧ (∀ w, Calls Tryz.prog 5 #[.string s] w (Gives L c ts w)) := by
  by_cases h6 : 65536 < s.size
  · refine ⟨0, 3, [], by simp, fun w _ => ?_, fun w => ?_⟩
    · exact (tokens_long s h6 w).mono fun _ _ ⟨he, hw⟩ => ⟨_, he, by rw [← hw]; exact Below.refl _ _, World.ownsRow_nil _ _ _ _⟩
    · exact (rtokens_long s h6 w).mono fun _ _ ⟨he, hw⟩ => ⟨_, he, by rw [← hw]; exact Below.refl _ _, World.ownsRow_nil _ _ _ _⟩
  · have hs : s.size ≤ 65536 := by omega
    cases h : lexL 0 s.data.toList with
    | error k =>
      refine ⟨(k : Int), 5, [], by simp, fun w hG => ?_, fun w => ?_⟩
      · have t := tokens_any s hs w hG
        rw [h] at t
        exact t.mono fun _ _ x => gives_err x
      · have t := rtokens_any s hs w
        rw [h] at t
        exact t.mono fun _ _ x => gives_err x
    | ok ts =>
      obtain ⟨g1, g2⟩ := lex_all s.data.toList.length 0 s.data.toList (Nat.le_refl _) ts h
      have g3 := count_le ts fun t ht => (g1 t ht).1
      rw [size_of] at g2
      refine ⟨0, 0, ts, by omega, fun w hG => ?_, fun w => ?_⟩
      · have t := tokens_any s hs w hG
        rw [h] at t
        exact t.mono fun _ _ x => gives_ok x
      · have t := rtokens_any s hs w
        rw [h] at t
        exact t.mono fun _ _ x => gives_ok x

set_option maxHeartbeats 400000 in
theorem told_any (B K n : Nat) (vT : Value) (A : Option Addr) (m c : Nat) (hs : List Value) (w : World) (hn : n ≤ 100) (hK : Bk w K (n : Int) vT) (hBK : B ≤ K) (hB : B ≤ w.heap.size) (ho : w.ownsRow B 80 2 vT n hs) :
    Calls Tryz.prog 7 #[.pointer (some ⟨K, 0, none⟩), .slice A m c] w (Kept B K n hs (.slice A m c) w) := by
  have HK := Lib.hid (keep_any B K n vT A m c hs w hn hK hBK hB ho)
  clear hK ho
  go_enter Tryz.func7, Tryz.ntmps7
  go_wp2_with fail
  refine HK.out.mono ?_; rintro e w' ⟨g, cap, rfl, h1, h2, h3, h4⟩
  go_wp2_with fail
  go_end0
  exact ⟨g, cap, rfl, h1, h2, h3, h4⟩

theorem own_base {w : World} {b b' s m : Nat} {e : TypeId} {u : Value} {xs : List Value} (h : w.ownsRow b e s u m xs) (hb : b' ≤ b) : w.ownsRow b' e s u m xs := by
  refine ⟨h.1, ?_⟩
  rcases h.2 with h' | ⟨g, cap, cur, e1, e2, r⟩
  · exact .inl h'
  · exact .inr ⟨g, cap, cur, e1, Nat.le_trans hb e2, r⟩

/-- A new Book; it is written over with what it holds. -/
theorem bk_new (w : World) : Bk (w.alloc (.cells (bookArr 0 (.slice none 0 0)) 55)) w.heap.size 0 (.slice none 0 0) := heap_alloc_new w _
theorem bk_there {w : World} {K : Nat} {cnt : Int} {v : Value} (h : Bk w K cnt v) : w.there K 0 (bookArr cnt v).size := fun j hj => by
  rw [Nat.zero_add, h.cell j, Array.getElem?_eq_getElem hj]
  exact ⟨rfl, h.frozen j⟩
theorem cells_same (K : Nat) (T : TypeId) (cs : Array Value) : ∀ (vs : List Value) (o : Nat) (w : World), w.heap[K]? = some (.cells cs T (0, 0)) → (∀ j v, vs[j]? = some v → cs[o + j]? = some v) → (w.setCells K o vs).heap[K]? = some (.cells cs T (0, 0))
  | [], _, _, h, _ => h
  | v :: vs, o, w, h, hv => by
    have h0 : cs[o]? = some v := hv 0 v rfl
    have hs : cs.setIfInBounds o v = cs := by
      apply Array.ext_getElem?
      intro i
      rw [Array.getElem?_setIfInBounds]
      by_cases e : o = i
      · subst e
        have hlt := (Array.getElem?_eq_some_iff.1 h0).1
        rw [if_pos rfl, if_pos hlt, h0]
      · rw [if_neg e]
    have h1 : (w.setCell ⟨K, o, none⟩ v).heap[K]? = some (.cells cs T (0, 0)) := by
      have := heap_setCell_same w K o cs T v h
      rw [hs] at this
      exact this
    exact cells_same K T cs vs (o + 1) _ h1 fun j u hu => by
      have := hv (j + 1) u hu
      rw [show o + 1 + j = o + (j + 1) by omega]
      exact this
theorem bk_same {w : World} {K : Nat} {cnt : Int} {v : Value} (h : Bk w K cnt v) : Bk (w.setCells K 0 (bookArr cnt v).toList) K cnt v :=
  cells_same K _ _ _ 0 w h fun j u hu => by rw [Nat.zero_add]; simpa using hu
theorem below_cells {B K : Nat} (hB : B ≤ K) : ∀ (vs : List Value) (o : Nat) (a w : World), Below B a w → Below B a (w.setCells K o vs)
  | [], _, _, _, h => h
  | v :: vs, o, a, _, h => below_cells hB vs (o + 1) a _ (h.setCell (p := ⟨K, o, none⟩) hB v)
theorem bookOne : (bookArr 0 (.slice none 0 0)).all (·.oneCell') = true := all_oneCell_toArray (cs := (bookArr 0 (.slice none 0 0)).toList) (by
  intro v hv
  simp [bookArr] at hv
  rcases hv with rfl | rfl <;> rfl)
theorem bookInfo : (Tryz.prog.info? 55).map (·.size) = some (bookArr 0 (.slice none 0 0)).size := by kernel_rfl

/-- A new Book's store, taken as one step: what is behind it is known by the Book's block alone. -/
theorem wpList_store_book {ops : Array Oper} {rest : List Oper} {op : Oper} {a : Act} {w : World} {Q : Exit → Act → World → Prop} (hgd : op.guard = none) (x y : Operand) (ho : op.op = .store 55 x y)
    (K : Nat) (hx : a.eval x = .pointer (some ⟨K, 0, none⟩)) (hy : a.eval y = .agg (bookArr 0 (.slice none 0 0))) (hb : Bk w K 0 (.slice none 0 0))
    (h : ∀ w', Bk w' K 0 (.slice none 0 0) → Below K w w' → wpList Tryz.prog ops Q rest (a.put op.dst undef) w') : wpList Tryz.prog ops Q (op :: rest) a w :=
  wpList_store_mid hgd _ x y ho K 0 _ hx hy (bk_there hb) bookInfo bookOne (h _ (bk_same hb) (below_cells (Nat.le_refl _) _ _ _ _ (Below.refl _ _)))

set_option maxRecDepth 1000000 in
set_option maxHeartbeats 4000000 in
theorem tokens_law (s : ByteArray) (w : World) (hG : Good w) :
    Calls Tryz.prog 3 #[.string s] w fun e w' => e = .returned (.bool true) ∧ Below w.heap.size w w' := by
  obtain ⟨L, c, ts, hts, h1, h2⟩ := both_give s
  obtain ⟨n, hn⟩ : ∃ n, n = ts.length := ⟨_, rfl⟩
  rw [← hn] at hts
  have HN := Lib.hid hn
  have H1 := Lib.hid h1
  have H2 := Lib.hid h2
  clear h1 h2 hn
  go_enter Tryz.func3, Tryz.ntmps3
  go_wp2_with fail
  refine (H1.out _ hG).mono ?_; rintro e w1 ⟨v1, rfl, b1, o1⟩
  have G1 := hG.keeps b1
  go_wp2_with fail
  refine (H1.out _ G1).mono ?_; rintro e w2 ⟨v2, rfl, b2, o2⟩
  have G2 := G1.keeps b2
  go_wp2_with fail
  refine (H2.out _).mono ?_; rintro e w3 ⟨v3, rfl, b3, o3⟩
  have G3 := G2.keeps b3
  rw [← HN.out] at o1 o2 o3
  have s1 := b1.size
  have s2 := b2.size
  have s3 := b3.size
  have hap : v1.ownBlock = none ∨ v1.ownBlock ≠ v2.ownBlock := by
    cases e1 : v1.ownBlock with
    | none => exact .inl rfl
    | some g =>
      refine .inr fun e => ?_
      have := (o1.lt g e1).2
      have := (o2.lt g e.symm).1
      omega
  have p1 := own_below (own_below o1 b2) b3
  have p2 := own_below o2 b3
  have c2 := b1.trans (b2.mono s1)
  have c3 := c2.trans (b3.mono (by omega))
  obtain ⟨A1, k1, rfl⟩ := own_slice o1
  obtain ⟨A2, k2, rfl⟩ := own_slice o2
  have HS1 := Lib.hid (same_any ts n _ v3 _ _ w3 HN.out (by omega) p1 o3)
  have HAP := Lib.hid hap
  have P1 := Lib.hid p1
  have P2 := Lib.hid p2
  have P3 := Lib.hid o3
  have C3 := Lib.hid c3
  have HG := Lib.hid hG
  clear o1 o2 o3 p1 p2 b1 b2 b3 c2 c3 hap hG G1 G2
  go_wp2_with fail
  refine HS1.out.mono ?_; rintro e w4 ⟨rfl, b4⟩
  have G4 := G3.keeps b4
  have s4 := b4.size
  have HS2 := Lib.hid (same_any ts n _ v3 _ _ w4 HN.out (by omega) (own_below P2.out b4) (own_below P3.out b4))
  have B4 := Lib.hid b4
  clear b4
  go_wp2_with fail
  refine HS2.out.mono ?_; rintro e w5 ⟨rfl, b5⟩
  have G5 := G4.keeps b5
  have s5 := b5.size
  have B5 := Lib.hid b5
  clear b5
  go_wp2_with (refine wpList_store_book rfl (.tmp 12) (.tmp 61) rfl w5.heap.size rfl rfl (bk_new w5) ?_; intro w6 bk6 b6)
  have h56 : Below w5.heap.size w5 w6 := ((Below.refl _ _).alloc (Nat.le_refl _) _).trans b6
  have s6 := h56.size
  have c6 : Below w.heap.size w w6 := ((C3.out.trans (B4.out.mono (by omega))).trans (B5.out.mono (by omega))).trans (h56.mono (by omega))
  have q1 := own_below (own_below (own_below P1.out B4.out) B5.out) h56
  have q2 := own_below (own_below (own_below P2.out B4.out) B5.out) h56
  have Q1 := Lib.hid q1
  have Q2 := Lib.hid q2
  have C6 := Lib.hid c6
  have HT1 := Lib.hid (told_any w.heap.size w5.heap.size 0 (.slice none 0 0) A1 n k1 [] w6 (by omega) bk6 (by omega) (by omega) (World.ownsRow_nil _ _ _ _))
  clear b6 h56 q1 q2 c6 bk6
  go_wp2_with fail
  refine HT1.out.mono ?_; clear HT1; rintro e w7 ⟨g1, p1, rfl, bk7, oT7, b7, rows7⟩
  have s7 := b7.size
  have R7 := Lib.hid rows7
  have B7 := Lib.hid b7
  have HT2 := Lib.hid (told_any w.heap.size w5.heap.size 1 (.slice (some ⟨g1, 0, none⟩) 1 p1) A2 n k2 [.slice A1 n k1, .int .i64 0] w7 (by omega) bk7 (by omega) (by omega) oT7)
  clear b7 rows7 bk7 oT7
  go_wp2_with fail
  refine HT2.out.mono ?_; clear HT2; rintro e w8 ⟨gT, cT, rfl, bk8, oT8, b8, rows8⟩
  have s8 := b8.size
  have hTwo : Two w.heap.size w w8 w5.heap.size gT cT (.slice A1 n k1) (.slice A2 n k2) n n (rowOf ts) (rowOf ts) :=
    ⟨(C6.out.trans B7.out).trans b8, by omega, bk8, by omega, oT8, rows8 _ _ _ _ (R7.out _ _ _ _ Q1.out), own_base (rows8 _ _ _ _ (R7.out _ _ _ _ Q2.out)) (by omega), HAP.out⟩
  have HT := Lib.hid hTwo
  clear hTwo b8 rows8 bk8 oT8
  go_wp2_with fail
  refine (apart_two w.heap.size w _ w5.heap.size gT cT _ _ n n _ _ (by omega) (by omega) HT.out).mono ?_; rintro e w9 ⟨rfl, c9⟩
  have C9 := Lib.hid c9
  have G9 := HG.out.keeps c9
  clear c9
  go_wp2_with fail
  refine (alive_any _ G9).mono ?_; rintro e w10 ⟨rfl, b10⟩
  go_wp2_with fail
  go_ret
  exact ⟨rfl, C9.out.trans (b10.mono C9.out.size)⟩
end Go.Proofs.YtnjjcngggdankaaGreatDoor
