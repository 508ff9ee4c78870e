/- That two lists of the same tokens are told to be the same. Nothing of what there was changes. -/
import Derived.Test.YtnjjcngggdankaaGreatDoorRows
import Derived.Test.YtnjjcngggdankaaGreatDoorLexTokens
import Derived.Laws.OwnMore
import Derived.Deep.AppendLies
import Derived.Deep.QuietTactic
import Derived.Deep.Draws
import Derived.BigQuiet
import Derived.Lib.SmallJoins
import Derived.RegionTactic
import Derived.WalkKit
import Derived.WalkSpells
import Derived.WalkLawsBesides
import Derived.Lib.Hide
namespace Go.Proofs.YtnjjcngggdankaaGreatDoor
open Go.RowKit Go.Joins

theorem row_at : ∀ (ts : List Tok) (k : Nat) (t : Tok) (j : Nat), ts[k]? = some t → j < 4 → (rowOf ts)[k * 4 + j]? = (tokCells t)[j]?
  | [], k, t, j, h, _ => by simp at h
  | t0 :: ts, 0, t, j, h, hj => by
    simp at h
    subst h
    show (tokCells t0 ++ rowOf ts)[0 * 4 + j]? = _
    rw [List.getElem?_append_left (by show 0 * 4 + j < 4; omega)]
    simp
  | t0 :: ts, k + 1, t, j, h, hj => by
    have ih := row_at ts k t j (by simpa using h) hj
    show (tokCells t0 ++ rowOf ts)[(k + 1) * 4 + j]? = _
    rw [List.getElem?_append_right (by show 4 ≤ _; omega), ← ih]
    congr 1
    show (k + 1) * 4 + j - 4 = _
    omega

theorem below_draws (w : World) (d : Nat) : Below w.heap.size w (w.drewN d) := ⟨rfl, rfl, rfl, Nat.le_refl _, fun _ _ => rfl⟩

/-- A cell of a row, at the address of an element and a field. -/
theorem own_at {w : World} {base : Nat} {e : TypeId} {n g cap : Nat} {ts : List Tok} (h : w.ownsRow base e 4 (.slice (some ⟨g, 0, none⟩) n cap) n (rowOf ts)) (k : Nat) (t : Tok) (hk : ts[k]? = some t) :
    w.cell? ⟨g, k * 4, none⟩ = some (.int .u8 (t.kind : Int)) ∧ w.cell? ⟨g, k * 4 + 1, none⟩ = some (.string ⟨t.text.toArray⟩) ∧ w.cell? ⟨g, k * 4 + 2, none⟩ = some (.int .i64 t.n) ∧ w.cell? ⟨g, k * 4 + 3, none⟩ = some (.int .i64 (t.line : Int)) := by
  have hx : ∀ j u, (rowOf ts)[j]? = some u → w.cell? ⟨g, j, none⟩ = some u := fun j u hu => by
    have e := h.cells (g := g) rfl j u hu
    rw [← e]
    congr 1
    unfold Addr.add
    split <;> simp_all
  exact ⟨hx _ _ (row_at ts k t 0 hk (by omega)), hx _ _ (row_at ts k t 1 hk (by omega)), hx _ _ (row_at ts k t 2 hk (by omega)), hx _ _ (row_at ts k t 3 hk (by omega))⟩

set_option maxHeartbeats 1000000 in
theorem same_any (ts : List Tok) (n : Nat) (v1 v2 : Value) (B1 B2 : Nat) (w : World) (hn : n = ts.length) (hb : n ≤ 1000000) (h1 : w.ownsRow B1 63 4 v1 n (rowOf ts)) (h2 : w.ownsRow B2 63 4 v2 n (rowOf ts)) :
    Calls Tryz.prog 6 #[v1, v2] w fun e w' => e = .returned (.bool true) ∧ Below w.heap.size w w' := by
  by_cases h0 : n = 0
  · subst h0
    rcases ownsRow_forms h1 with ⟨rfl, _⟩ | ⟨g1, c1, rfl⟩ <;> rcases ownsRow_forms h2 with ⟨rfl, _⟩ | ⟨g2, c2, rfl⟩
    all_goals
      clear h1 h2 hn
      go_enter Tryz.func6, Tryz.ntmps6
      go_wp2
      go_loop [13] (fun i => i = .int .i64 0) (fun _ => 0)
      case atStart => rfl
      case round =>
        subst hrel
        go_wp2_with fail
        go_ret
        exact ⟨rfl, Below.refl _ _⟩
  obtain ⟨g1, c1, rfl, _, hl1⟩ := h1.form (by omega)
  obtain ⟨g2, c2, rfl, _, hl2⟩ := h2.form (by omega)
  have H1 := Lib.hid (own_at h1)
  have H2 := Lib.hid (own_at h2)
  have hN := Lib.hid hn
  clear h1 h2 hn h0
  go_enter Tryz.func6, Tryz.ntmps6
  go_wp2
  go_loopw [13] (fun i wr => ∃ k d : Nat, k ≤ n ∧ i = .int .i64 k ∧ wr = w.drewN d) (fun i _ => n - (intOf i).toNat)
  case atStart => exact ⟨0, 0, by omega, rfl, rfl⟩
  case round =>
    obtain ⟨k, d, hk, rfl, rfl⟩ := hrel
    by_cases hlt : k < n
    · have hts : k < ts.length := by rw [← hN.out]; exact hlt
      obtain ⟨p1, p2, p3, p4⟩ := H1.out k _ (List.getElem?_eq_getElem hts)
      obtain ⟨q1, q2, q3, q4⟩ := H2.out k _ (List.getElem?_eq_getElem hts)
      generalize ((ts[k]'hts).kind : Int) = K at *
      generalize (⟨(ts[k]'hts).text.toArray⟩ : ByteArray) = T at *
      generalize (ts[k]'hts).n = N at *
      generalize ((ts[k]'hts).line : Int) = M at *
      clear hts
      go_wp2_with fail
      go_quiet (fail)
      go_wp2_with fail
      go_roundw
      case rel => exact ⟨k + 1, _, by omega, by go_num, rfl⟩
      case measure => simp [intOf]; omega
    · go_wp2_with fail
      go_ret
      exact ⟨rfl, below_draws w d⟩
end Go.Proofs.YtnjjcngggdankaaGreatDoor
