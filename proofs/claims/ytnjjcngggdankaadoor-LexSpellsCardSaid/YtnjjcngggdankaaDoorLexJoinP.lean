/- Plain facts on texts behind one another, what is known of a text's tokens, and Tokens' answer in two forms. -/
import Derived.Test.YtnjjcngggdankaaDoorRows
import Derived.Test.YtnjjcngggdankaaDoorLexLater
import Derived.Test.YtnjjcngggdankaaDoorLexAlive
import Derived.Laws.AppendOwn
import Derived.WalkKit
import Derived.WalkSpells
import Derived.WalkLawsBesides
import Derived.Lib.Hide
namespace Go.Proofs.YtnjjcngggdankaaDoor
open Go.RowKit Go.Joins

theorem join_list (a b : ByteArray) : (a ++ (⟨#[10]⟩ : ByteArray) ++ b).data.toList = a.data.toList ++ 10 :: b.data.toList := by
  simp
theorem join_size (a b : ByteArray) : (a ++ (⟨#[10]⟩ : ByteArray) ++ b).size = a.size + 1 + b.size := by
  rw [ByteArray.size_append, ByteArray.size_append]; rfl

theorem join_err {a b : List UInt8} {e : Nat} (h : lexL 0 a = .error e) : lexL 0 (a ++ 10 :: b) = .error e := by
  rw [lex_join b a.length 0 a (Nat.le_refl _), h]
theorem join_second {a b : List UInt8} {l : List Tok} {e : Nat} (h : lexL 0 a = .ok l) (h2 : lexL 0 b = .error e) : lexL 0 (a ++ 10 :: b) = .error (e + (feeds a + 1)) := by
  rw [lex_join b a.length 0 a (Nat.le_refl _), h]
  simp only
  rw [show 0 + feeds a + 1 = 0 + (feeds a + 1) by omega, lexL_shift (feeds a + 1) b.length 0 b (Nat.le_refl _), h2]
  rfl
theorem join_both {a b : List UInt8} {l m : List Tok} (h : lexL 0 a = .ok l) (h2 : lexL 0 b = .ok m) : lexL 0 (a ++ 10 :: b) = .ok (l ++ m.map (shiftTok (feeds a + 1))) := by
  rw [lex_join b a.length 0 a (Nat.le_refl _), h]
  simp only
  rw [show 0 + feeds a + 1 = 0 + (feeds a + 1) by omega, lexL_shift (feeds a + 1) b.length 0 b (Nat.le_refl _), h2]
  rfl

/-- What is known of a text's tokens. -/
theorem lex_known {l : List UInt8} {ts : List Tok} (h : lexL 0 l = .ok ts) : ts.length ≤ l.length ∧ (∀ t ∈ ts, Sound t ∧ t.line ≤ l.length) := by
  obtain ⟨g1, g2⟩ := lex_all l.length 0 l (Nat.le_refl _) ts h
  have g3 := count_le ts fun t ht => (g1 t ht).1
  exact ⟨by omega, fun t ht => ⟨(g1 t ht).1, by have := (g1 t ht).2; have := feeds_le l; omega⟩⟩
theorem err_known {l : List UInt8} {e : Nat} (h : lexL 0 l = .error e) : e ≤ l.length := by
  have := err_line l.length 0 l (Nat.le_refl _) e h
  have := feeds_le l
  omega

theorem tokens_err (s : ByteArray) (hs : s.size ≤ 65536) (k : Nat) (h : lexL 0 s.data.toList = .error k) (w : World) (hG : Good w) :
    Calls Tryd.prog 11 #[.string s] w fun e w' => e = .returned (.tuple #[.slice none 0 0, .int .i64 (k : Int), .int .i64 5]) ∧ Below w.heap.size w w' := by
  have e := tokens_any s hs w hG
  rw [h] at e
  exact e.mono fun _ _ ⟨hb, he⟩ => ⟨he, hb⟩
def Told (ts : List Tok) (w : World) (e : Ending) (w' : World) : Prop := ∃ v, e = .returned (.tuple #[v, .int .i64 0, .int .i64 0]) ∧ Below w.heap.size w w' ∧ w'.ownsRow w.heap.size 35 4 v ts.length (rowOf ts)
theorem tokens_ok (s : ByteArray) (hs : s.size ≤ 65536) (ts : List Tok) (h : lexL 0 s.data.toList = .ok ts) (w : World) (hG : Good w) :
    Calls Tryd.prog 11 #[.string s] w (Told ts w) := by
  have e := tokens_any s hs w hG
  rw [h] at e
  exact e.mono fun _ _ ⟨hb, v, he, ho⟩ => ⟨v, he, hb, ho⟩

theorem row_append (a b : List Tok) : rowOf (a ++ b) = rowOf a ++ rowOf b := by simp [rowOf]

theorem wpList_wanted {P : Program} {ops : Array Oper} {rest : List Oper} {o : Oper} {a : Act} {w : World} {Q : Exit → Act → World → Prop} (hw : Region.wanted o (yielded ops a.tmps) = true)
    (h : ∀ K : Act → World → Prop, (∀ a w, wpList P ops Q rest a w → K a w) → o.wp P a w K Q) : wpList P ops Q (o :: rest) a w :=
  wpList_step fun K hK => by rw [if_pos hw]; exact h K hK
/-- An append behind a guard that is met. -/
theorem wpList_append_wanted {P : Program} {w : World} {ops : Array Oper} {rest : List Oper} {o : Oper} {a : Act} {Q : Exit → Act → World → Prop} (hw : Region.wanted o (yielded ops a.tmps) = true) (s x : Operand) (t : TypeId)
    (ho : o.op = .call { callee := .builtin .append, args := #[s, x], argTypes := #[t, t] })
    (base : Nat) (e : TypeId) (i : TypeInfo) (z : Value) (size bytes : Nat) (ht : P.underlying t = some (.slice e)) (hi : P.info? e = some i) (hz : i.zero = some z)
    (hsize : i.size = size) (hby : i.bytes = bytes) (hzs : z.cells.size = size) (hsz : 0 < size)
    (v : Value) (n : Nat) (xs : List Value) (hs : a.eval s = v) (hown : w.ownsRow base e size v n xs)
    (ad : Addr) (m c : Nat) (news : List Value) (hx : a.eval x = .slice (some ad) m c) (hl : news.length = m * size) (hnews : ∀ j u, news[j]? = some u → w.cell? (ad.add j) = some u) (h1 : ∀ u ∈ news, u.oneCell' = true)
    (h63 : n + m ≤ maxLen) (hbytes : (n + m) * bytes ≤ 140737488355328) (hbase : base ≤ w.heap.size)
    (h : ∀ v' w', w'.ownsRow base e size v' (n + m) (xs ++ news) → w.grownBy w' v.ownBlock → (v' = .slice none 0 0 ↔ v = .slice none 0 0 ∧ m = 0) → wpList P ops Q rest (a.put o.dst v') w') : wpList P ops Q (o :: rest) a w :=
  wpList_wanted hw fun _ hK => wp_append_own w s x t ho base e i z size bytes ht hi hz hsize hby hzs hsz v n xs hs hown ad m c news hx hl hnews h1 h63 hbytes hbase fun v' w' h2 h3 h4 => hK _ _ (h v' w' h2 h3 h4)
end Go.Proofs.YtnjjcngggdankaaDoor
