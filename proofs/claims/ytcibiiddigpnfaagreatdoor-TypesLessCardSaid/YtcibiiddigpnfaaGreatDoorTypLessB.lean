/- Pure: a program that may be, may be with less in it; what has gone before does not matter but for the count. -/
import Derived.Test.YtcibiiddigpnfaaGreatDoorGPlaces
namespace Go.Proofs.YtcibiiddigpnfaaGreatDoor
open Go.RowKit
theorem chks_mono_of (l : List X) (hl : ∀ a ∈ l, ∀ d c m, chk d c a = .ok m → ∀ c', c' ≤ c → ∃ m', m' ≤ m ∧ chk d c' a = .ok m') : ∀ d c m, chks d c l = .ok m → ∀ c', c' ≤ c → ∃ m', m' ≤ m ∧ chks d c' l = .ok m' := by
  induction l with
  | nil => intro d c m e c' h; rw [chks_nil] at e; cases e; exact ⟨c', h, by rw [chks_nil]⟩
  | cons a r ihr =>
    intro d c m e c' h
    rw [chks_cons] at e
    cases ha : chk d c a with
    | error k => rw [ha] at e; cases e
    | ok c1 =>
      rw [ha] at e
      obtain ⟨m1, h1, h2⟩ := hl a (by simp) d c c1 ha c' h
      obtain ⟨m2, g1, g2⟩ := ihr (fun b hb => hl b (by simp [hb])) d c1 m e m1 h1
      exact ⟨m2, g1, by rw [chks_cons, h2]; exact g2⟩
theorem chk_mono : ∀ x, ∀ d c m, chk d c x = .ok m → ∀ c', c' ≤ c → ∃ m', m' ≤ m ∧ chk d c' x = .ok m' := by
  refine X.ind fun h s l ih d c m e c' hc => ?_
  rw [chk_mk] at e ⊢
  split at e
  · cases e
  rename_i hd
  split at e
  case isFalse => cases e
  rename_i hf
  rw [if_neg (by omega), if_pos hf]
  exact chks_mono_of l ih (d + 1) (c + 1) m e (c' + 1) (by omega)
theorem chkSs_mono_of (l : List St) (hl : ∀ a ∈ l, ∀ d c m, chkS d c a = .ok m → ∀ c', c' ≤ c → ∃ m', m' ≤ m ∧ chkS d c' a = .ok m') : ∀ d c m, chkSs d c l = .ok m → ∀ c', c' ≤ c → ∃ m', m' ≤ m ∧ chkSs d c' l = .ok m' := by
  induction l with
  | nil => intro d c m e c' h; rw [chkSs_nil] at e; cases e; exact ⟨c', h, by rw [chkSs_nil]⟩
  | cons a r ihr =>
    intro d c m e c' h
    rw [chkSs_cons] at e
    cases ha : chkS d c a with
    | error k => rw [ha] at e; cases e
    | ok c1 =>
      rw [ha] at e
      obtain ⟨m1, h1, h2⟩ := hl a (by simp) d c c1 ha c' h
      obtain ⟨m2, g1, g2⟩ := ihr (fun b hb => hl b (by simp [hb])) d c1 m e m1 h1
      exact ⟨m2, g1, by rw [chkSs_cons, h2]; exact g2⟩
theorem goes_mono (b : Bool) (x : X) (c m : Nat) (e : (if b = true then chk 1 c x else Except.ok c) = .ok m) (c' : Nat) (h : c' ≤ c) : ∃ m', m' ≤ m ∧ (if b = true then chk 1 c' x else Except.ok c') = .ok m' := by
  cases b with
  | true => simpa using chk_mono x 1 c m (by simpa using e) c' h
  | false => simp at e; subst e; exact ⟨c', h, by simp⟩
theorem chkS_mono : ∀ s, ∀ d c m, chkS d c s = .ok m → ∀ c', c' ≤ c → ∃ m', m' ≤ m ∧ chkS d c' s = .ok m' := by
  refine St.ind fun h x y bv ev b l ih1 ih2 d c m e c' hc => ?_
  rw [chkS_mk] at e ⊢
  split at e
  · cases e
  rename_i hd
  split at e
  case isFalse => cases e
  rename_i hf
  rw [if_neg (by omega), if_pos hf]
  cases hx : (if goesX h x = true then chk 1 (c + 1) x else Except.ok (c + 1)) with
  | error k => rw [hx] at e; cases e
  | ok c1 =>
  rw [hx] at e
  simp only at e
  cases hy : (if goesY h = true then chk 1 c1 y else Except.ok c1) with
  | error k => rw [hy] at e; cases e
  | ok c2 =>
  rw [hy] at e
  simp only at e
  cases hb : chkSs (d + 1) c2 b with
  | error k => rw [hb] at e; cases e
  | ok c3 =>
  rw [hb] at e
  simp only at e
  obtain ⟨m1, h1, e1⟩ := goes_mono _ x _ _ hx (c' + 1) (by omega)
  obtain ⟨m2, h2, e2⟩ := goes_mono _ y _ _ hy m1 h1
  obtain ⟨m3, h3, e3⟩ := chkSs_mono_of b ih1 _ _ _ hb m2 h2
  obtain ⟨m4, h4, e4⟩ := chkSs_mono_of l ih2 _ _ _ e m3 h3
  exact ⟨m4, h4, by rw [e1]; simp only; rw [e2]; simp only; rw [e3]; exact e4⟩
theorem chkSs_mono (l : List St) : ∀ d c m, chkSs d c l = .ok m → ∀ c', c' ≤ c → ∃ m', m' ≤ m ∧ chkSs d c' l = .ok m' := chkSs_mono_of l fun a _ => chkS_mono a
theorem chkSs_take (l : List St) : ∀ (n d c m : Nat), c ≤ 1024 → chkSs d c l = .ok m → ∃ m', m' ≤ m ∧ chkSs d c (l.take n) = .ok m' := by
  induction l with
  | nil => intro n d c m _ e; exact ⟨m, Nat.le_refl _, by simpa using e⟩
  | cons a r ih =>
    intro n d c m hc e
    have hm := (fchkSs _ d c m hc e).2
    cases n with
    | zero => exact ⟨c, by omega, by rw [List.take_zero, chkSs_nil]⟩
    | succ n =>
      rw [chkSs_cons] at e
      cases ha : chkS d c a with
      | error k => rw [ha] at e; cases e
      | ok c1 =>
        rw [ha] at e
        obtain ⟨m1, g1, g2⟩ := ih n d c1 m (fchkS a d c c1 ha).2.2 e
        exact ⟨m1, g1, by rw [List.take_succ_cons, chkSs_cons, ha]; exact g2⟩
theorem chkT_mono : ∀ (l : List Th) (i c m : Nat), chkT i c l = .ok m → ∀ i' c', i' ≤ i → c' ≤ c → ∃ m', m' ≤ m ∧ chkT i' c' l = .ok m'
  | [], i, c, m, e, i', c', hi, hc => by cases e; exact ⟨c', hc, rfl⟩
  | t :: r, i, c, m, e, i', c', hi, hc => by
    rw [chkT] at e ⊢
    split at e
    · cases e
    rw [if_neg (by omega)]
    cases ht : chkSs 1 c t.list with
    | error k => rw [ht] at e; cases e
    | ok c1 =>
      rw [ht] at e
      obtain ⟨m1, h1, e1⟩ := chkSs_mono t.list 1 c c1 ht c' hc
      obtain ⟨m2, h2, e2⟩ := chkT_mono r (i + 1) c1 m e (i' + 1) m1 (by omega) h1
      exact ⟨m2, h2, by rw [e1]; exact e2⟩
theorem chkT_without : ∀ (l : List Th) (k i c m : Nat), i ≤ 4 → c ≤ 1024 → chkT i c l = .ok m → ∃ m', m' ≤ m ∧ chkT i c (l.take k ++ l.drop (k + 1)) = .ok m'
  | [], k, i, c, m, _, _, e => ⟨m, Nat.le_refl _, by simpa using e⟩
  | t :: r, 0, i, c, m, hi, hc, e => by
    have hm := chkT_ok (t :: r) i c m hi hc e
    rw [chkT] at e
    split at e
    · cases e
    cases ht : chkSs 1 c t.list with
    | error k => rw [ht] at e; cases e
    | ok c1 =>
      rw [ht] at e
      have hc1 := (fchkSs t.list 1 c c1 hc ht).2.1
      simpa using chkT_mono r (i + 1) c1 m e i c (by omega) (by omega)
  | t :: r, k + 1, i, c, m, hi, hc, e => by
    rw [chkT] at e
    split at e
    · cases e
    rename_i h4
    cases ht : chkSs 1 c t.list with
    | error k => rw [ht] at e; cases e
    | ok c1 =>
      rw [ht] at e
      obtain ⟨m1, h1, e1⟩ := chkT_without r k (i + 1) c1 m (by omega) (fchkSs t.list 1 c c1 hc ht).2.2 e
      refine ⟨m1, h1, ?_⟩
      rw [List.take_succ_cons, List.drop_succ_cons, List.cons_append, chkT, if_neg h4, ht]
      exact e1
theorem chkT_take : ∀ (l : List Th) (k i c m : Nat), i ≤ 4 → c ≤ 1024 → chkT i c l = .ok m → ∃ m', m' ≤ m ∧ chkT i c (l.take k) = .ok m'
  | [], k, i, c, m, _, _, e => ⟨m, Nat.le_refl _, by simpa using e⟩
  | t :: r, 0, i, c, m, hi, hc, e => ⟨c, by have := chkT_ok (t :: r) i c m hi hc e; omega, rfl⟩
  | t :: r, k + 1, i, c, m, hi, hc, e => by
    rw [chkT] at e
    split at e
    · cases e
    rename_i h4
    cases ht : chkSs 1 c t.list with
    | error k => rw [ht] at e; cases e
    | ok c1 =>
      rw [ht] at e
      obtain ⟨m1, h1, e1⟩ := chkT_take r k (i + 1) c1 m (by omega) (fchkSs t.list 1 c c1 hc ht).2.2 e
      exact ⟨m1, h1, by rw [List.take_succ_cons, chkT, if_neg h4, ht]; exact e1⟩
end Go.Proofs.YtcibiiddigpnfaaGreatDoor
namespace Go.Proofs.YtcibiiddigpnfaaGreatDoor
open Go.RowKit
def upT {α : Type} (f : α → α) (δ : Int) : Except (Int × Int) α → Except (Int × Int) α
  | .error k => .error (k.1 + δ, k.2)
  | .ok q => .ok (f q)
theorem stsT_shift_of (e : En) (res : Ty) (δ : Int) (l : List St) (hl : ∀ a ∈ l, ∀ loc p, stT e res loc (p + δ) a = upT (fun q => (q.1 + δ, q.2)) δ (stT e res loc p a)) : ∀ loc p, stsT e res loc (p + δ) l = upT (· + δ) δ (stsT e res loc p l) := by
  induction l with
  | nil => intro loc p; rw [stsT_nil, stsT_nil]; rfl
  | cons a r ihr =>
    intro loc p
    rw [stsT_cons, stsT_cons, show p + δ + 1 = p + 1 + δ by omega, hl a (by simp)]
    cases stT e res loc (p + 1) a with
    | error k => rfl
    | ok q => exact ihr (fun b hb => hl b (by simp [hb])) q.2 q.1
theorem stT_shift (e : En) (res : Ty) (δ : Int) : ∀ s, ∀ loc p, stT e res loc (p + δ) s = upT (fun q => (q.1 + δ, q.2)) δ (stT e res loc p s) := by
  refine St.ind fun h x y bv ev b l ih1 ih2 loc p => ?_
  rw [stT_mk, stT_mk]
  cases plainT e res loc h x y with
  | error k => rfl
  | ok loc' =>
    simp only
    by_cases hk : h.k = 1
    · rw [if_pos hk, if_pos hk]; rfl
    · rw [if_neg hk, if_neg hk, stsT_shift_of e res δ b ih1]
      cases stsT e res loc p b with
      | error k => rfl
      | ok q =>
        simp only [upT]
        rw [stsT_shift_of e res δ l ih2]
        cases stsT e res loc q l with
        | error k => rfl
        | ok q => rfl
theorem stsT_shift (e : En) (res : Ty) (δ : Int) (l : List St) : ∀ loc p, stsT e res loc (p + δ) l = upT (· + δ) δ (stsT e res loc p l) := stsT_shift_of e res δ l fun a _ => stT_shift e res δ a
theorem stsT_from (e : En) (res : Ty) (l : List St) (loc : List Fd) (p p' q : Int) (h : stsT e res loc p l = .ok q) : stsT e res loc p' l = .ok (q + (p' - p)) := by
  have := stsT_shift e res (p' - p) l loc p
  rw [show p + (p' - p) = p' by omega, h] at this
  exact this
theorem stsT_take (e : En) (res : Ty) (l : List St) : ∀ (n : Nat) (loc : List Fd) (p q : Int), stsT e res loc p l = .ok q → ∃ q', stsT e res loc p (l.take n) = .ok q' := by
  induction l with
  | nil => intro n loc p q h; exact ⟨q, by simpa using h⟩
  | cons a r ih =>
    intro n loc p q h
    cases n with
    | zero => exact ⟨p, by rw [List.take_zero, stsT_nil]⟩
    | succ n =>
      rw [stsT_cons] at h
      cases ha : stT e res loc (p + 1) a with
      | error k => rw [ha] at h; cases h
      | ok u =>
        rw [ha] at h
        obtain ⟨q', h'⟩ := ih n u.2 u.1 q h
        exact ⟨q', by rw [List.take_succ_cons, stsT_cons, ha]; exact h'⟩
theorem thsT_from (e : En) : ∀ (l : List Th) (p p' q : Int), thsT e p l = .ok q → ∃ q', thsT e p' l = .ok q'
  | [], _, p', _, _ => ⟨p', rfl⟩
  | t :: r, p, p', q, h => by
    rw [thsT_cons] at h
    cases ht : stsT e noT [] (p + 1) t.list with
    | error k => rw [ht] at h; cases h
    | ok u =>
      rw [ht] at h
      obtain ⟨q', h'⟩ := thsT_from e r u (u + ((p' + 1) - (p + 1))) q h
      exact ⟨q', by rw [thsT_cons, stsT_from e noT t.list [] (p + 1) (p' + 1) u ht]; exact h'⟩
theorem thsT_without (e : En) : ∀ (l : List Th) (k : Nat) (p q : Int), thsT e p l = .ok q → ∃ q', thsT e p (l.take k ++ l.drop (k + 1)) = .ok q'
  | [], _, _, q, h => ⟨q, by simpa using h⟩
  | t :: r, 0, p, q, h => by
    rw [thsT_cons] at h
    cases ht : stsT e noT [] (p + 1) t.list with
    | error k => rw [ht] at h; cases h
    | ok u => rw [ht] at h; simpa using thsT_from e r u p q h
  | t :: r, k + 1, p, q, h => by
    rw [thsT_cons] at h
    cases ht : stsT e noT [] (p + 1) t.list with
    | error k => rw [ht] at h; cases h
    | ok u =>
      rw [ht] at h
      obtain ⟨q', h'⟩ := thsT_without e r k u q h
      exact ⟨q', by rw [List.take_succ_cons, List.drop_succ_cons, List.cons_append, thsT_cons, ht]; exact h'⟩
theorem thsT_less (e : En) : ∀ (l : List Th) (k n : Nat) (v : Value) (p q : Int), thsT e p l = .ok q → ∀ t, l[k]? = some t → ∃ q', thsT e p (l.set k ⟨v, t.list.take n⟩) = .ok q'
  | [], _, _, _, _, _, _, _, h => by simp at h
  | t :: r, 0, n, v, p, q, h, a, ha => by
    simp at ha
    subst ha
    rw [thsT_cons] at h
    cases ht : stsT e noT [] (p + 1) t.list with
    | error k => rw [ht] at h; cases h
    | ok u =>
      rw [ht] at h
      obtain ⟨u', hu⟩ := stsT_take e noT t.list n [] (p + 1) u ht
      obtain ⟨q', h'⟩ := thsT_from e r u u' q h
      exact ⟨q', by rw [List.set_cons_zero, thsT_cons, hu]; exact h'⟩
  | t :: r, k + 1, n, v, p, q, h, a, ha => by
    rw [thsT_cons] at h
    cases ht : stsT e noT [] (p + 1) t.list with
    | error k => rw [ht] at h; cases h
    | ok u =>
      rw [ht] at h
      obtain ⟨q', h'⟩ := thsT_less e r k n v u q h a (by simpa using ha)
      exact ⟨q', by rw [List.set_cons_succ, thsT_cons, ht]; exact h'⟩
theorem chkT_less : ∀ (l : List Th) (k n i c m : Nat) (v : Value), i ≤ 4 → c ≤ 1024 → chkT i c l = .ok m → ∀ t, l[k]? = some t → ∃ m', m' ≤ m ∧ chkT i c (l.set k ⟨v, t.list.take n⟩) = .ok m'
  | [], _, _, _, _, _, _, _, _, _, _, h => by simp at h
  | t :: r, 0, n, i, c, m, v, hi, hc, e, a, ha => by
    simp at ha
    subst ha
    rw [chkT] at e
    split at e
    · cases e
    rename_i h4
    cases ht : chkSs 1 c t.list with
    | error k => rw [ht] at e; cases e
    | ok c1 =>
      rw [ht] at e
      obtain ⟨m1, h1, e1⟩ := chkSs_take t.list n 1 c c1 hc ht
      obtain ⟨m2, h2, e2⟩ := chkT_mono r (i + 1) c1 m e (i + 1) m1 (Nat.le_refl _) h1
      exact ⟨m2, h2, by rw [List.set_cons_zero, chkT, if_neg h4, e1]; exact e2⟩
  | t :: r, k + 1, n, i, c, m, v, hi, hc, e, a, ha => by
    rw [chkT] at e
    split at e
    · cases e
    rename_i h4
    cases ht : chkSs 1 c t.list with
    | error k => rw [ht] at e; cases e
    | ok c1 =>
      rw [ht] at e
      obtain ⟨m1, h1, e1⟩ := chkT_less r k n (i + 1) c1 m v (by omega) (fchkSs t.list 1 c c1 hc ht).2.2 e a (by simpa using ha)
      exact ⟨m1, h1, by rw [List.set_cons_succ, chkT, if_neg h4, ht]; exact e1⟩
theorem fits_without (e : En) (tv tv' : Value) (ts : List Th) (k m : Nat) (q : Int) (hc : chkP ⟨e, tv, ts⟩ = .ok m) (hp : progT ⟨e, tv, ts⟩ = .ok q) : typesT ⟨e, tv', ts.take k ++ ts.drop (k + 1)⟩ = (0, 0) := by
  unfold chkP at hc
  unfold progT at hp
  cases he : chkE e with
  | error k => rw [he] at hc; cases hc
  | ok c =>
  cases hh : headT e with
  | error k => rw [hh] at hp; cases hp
  | ok u =>
  rw [he] at hc
  rw [hh] at hp
  have hcc : c ≤ 1024 := by
    unfold chkE at he
    split at he
    · cases he
    split at he
    · cases he
    exact (chkFs_ok e.funcs 0 0 c (by omega) (by omega) he).2.2.2
  obtain ⟨m', -, hm⟩ := chkT_without ts k 0 c m (by omega) hcc hc
  obtain ⟨q', hq⟩ := thsT_without e ts k u q hp
  unfold typesT chkP progT
  simp only
  rw [he, hh]
  simp only
  rw [hm, hq]
theorem fits_less (e : En) (tv tv' v : Value) (ts : List Th) (k n m : Nat) (t : Th) (q : Int) (ht : ts[k]? = some t) (hc : chkP ⟨e, tv, ts⟩ = .ok m) (hp : progT ⟨e, tv, ts⟩ = .ok q) : typesT ⟨e, tv', ts.set k ⟨v, t.list.take n⟩⟩ = (0, 0) := by
  unfold chkP at hc
  unfold progT at hp
  cases he : chkE e with
  | error k => rw [he] at hc; cases hc
  | ok c =>
  cases hh : headT e with
  | error k => rw [hh] at hp; cases hp
  | ok u =>
  rw [he] at hc
  rw [hh] at hp
  have hcc : c ≤ 1024 := by
    unfold chkE at he
    split at he
    · cases he
    split at he
    · cases he
    exact (chkFs_ok e.funcs 0 0 c (by omega) (by omega) he).2.2.2
  obtain ⟨m', -, hm⟩ := chkT_less ts k n 0 c m v (by omega) hcc hc t ht
  obtain ⟨q', hq⟩ := thsT_less e ts k n v u q hp t ht
  unfold typesT chkP progT
  simp only
  rw [he, hh]
  simp only
  rw [hm, hq]
end Go.Proofs.YtcibiiddigpnfaaGreatDoor
namespace Go.Proofs.YtcibiiddigpnfaaGreatDoor
open Go.RowKit
def Cd (k : Int) : Prop := k = 8 ∨ k = 9 ∨ k = 10
theorem cd8 : Cd 8 := .inl rfl
theorem cd9 : Cd 9 := .inr (.inl rfl)
theorem cd10 : Cd 10 := .inr (.inr rfl)
theorem namedT_code {e : En} {loc : List Fd} {s : ByteArray} {k : Int} (h : namedT e loc s = .error k) : Cd k := by
  unfold namedT at h
  repeat' split at h
  all_goals cases h
  all_goals exact cd9
theorem fieldT_code {e : En} {t : Ty} {s : ByteArray} {k : Int} (h : fieldT e t s = .error k) : Cd k := by
  unfold fieldT at h
  repeat' split at h
  all_goals cases h
  all_goals first | exact cd9 | exact cd10
theorem elemT_code {t u : Ty} {k : Int} (h : elemT t u = .error k) : Cd k := by
  unfold elemT at h
  split at h
  · cases h; exact cd10
  split at h
  · cases h; exact cd10
  · cases h
theorem callT_code {e : En} {s : ByteArray} {ts : List Ty} {k : Int} (h : callT e s ts = .error k) : Cd k := by
  unfold callT at h
  repeat' split at h
  all_goals cases h
  all_goals first | exact cd9 | exact cd10
theorem ownT_code {e : En} {loc : List Fd} {hd : Hd} {ts : List Ty} {k : Int} (h : ownT e loc hd ts = .error k) : Cd k := by
  unfold ownT at h
  split at h
  · cases h
  split at h
  · exact namedT_code h
  split at h
  · exact fieldT_code h
  split at h
  · exact elemT_code h
  split at h
  · split at h
    · cases h
    · cases h; exact cd9
  split at h
  · exact callT_code h
  split at h
  · split at h
    · cases h
    · cases h; exact cd10
  split at h
  · cases h
  · cases h; exact cd10
theorem valT_code {r : Except Int Ty} (hr : ∀ k, r = .error k → Cd k) {k : Int} (h : valT r = .error k) : Cd k := by
  cases r with
  | error k' => cases h; exact hr _ rfl
  | ok t =>
    unfold valT at h
    simp only at h
    split at h
    · cases h; exact cd10
    · cases h
theorem exprT_code (e : En) (loc : List Fd) : ∀ x, ∀ k, exprT e loc x = .error k → Cd k := by
  refine X.ind fun h s l ih k e1 => ?_
  have key : ∀ l : List X, (∀ a ∈ l, ∀ k, exprT e loc a = .error k → Cd k) → ∀ k, argsT e loc l = .error k → Cd k := by
    intro l
    induction l with
    | nil => intro _ k h; rw [argsT_nil] at h; cases h
    | cons a r ihr =>
      intro hl k h
      rw [argsT_cons] at h
      cases ha : valT (exprT e loc a) with
      | error k' => rw [ha] at h; cases h; exact valT_code (hl a (by simp)) ha
      | ok t =>
        rw [ha] at h
        simp only at h
        cases hr : argsT e loc r with
        | error k' => rw [hr] at h; cases h; exact ihr (fun b hb => hl b (by simp [hb])) _ hr
        | ok ts => rw [hr] at h; cases h
  rw [exprT_mk] at e1
  cases ha : argsT e loc l with
  | error k' => rw [ha] at e1; cases e1; exact key l ih _ ha
  | ok ts => rw [ha] at e1; exact ownT_code e1
theorem valueT_code {e : En} {loc : List Fd} {x : X} {k : Int} (h : valueT e loc x = .error k) : Cd k := valT_code (exprT_code e loc x) h
theorem declE_code (e : En) (loc : List Fd) (f : Fd) (h : declE e loc f ≠ 0) : Cd (declE e loc f) := by
  unfold declE at h ⊢
  split
  · exact cd8
  split
  · rename_i h1 h2; rw [if_neg h1, if_pos h2] at h; exact absurd rfl h
  · exact cd9
theorem plainT_code {e : En} {res : Ty} {loc : List Fd} {h : Sh} {x y : X} {k : Int} (e1 : plainT e res loc h x y = .error k) : Cd k := by
  unfold plainT at e1
  repeat' split at e1
  all_goals first
    | (cases e1; done)
    | (cases e1; first | exact cd10 | exact declE_code _ _ _ (by assumption) | exact valueT_code (by assumption) | exact exprT_code _ _ _ _ (by assumption))
theorem stsT_code_of (e : En) (res : Ty) (l : List St) (hl : ∀ a ∈ l, ∀ loc p k, stT e res loc p a = .error k → Cd k.2) : ∀ loc p k, stsT e res loc p l = .error k → Cd k.2 := by
  induction l with
  | nil => intro loc p k h; rw [stsT_nil] at h; cases h
  | cons a r ihr =>
    intro loc p k h
    rw [stsT_cons] at h
    cases ha : stT e res loc (p + 1) a with
    | error k' => rw [ha] at h; cases h; exact hl a (by simp) _ _ _ ha
    | ok q => rw [ha] at h; exact ihr (fun b hb => hl b (by simp [hb])) _ _ _ h
theorem stT_code (e : En) (res : Ty) : ∀ s, ∀ loc p k, stT e res loc p s = .error k → Cd k.2 := by
  refine St.ind fun h x y bv ev b l ih1 ih2 loc p k e1 => ?_
  rw [stT_mk] at e1
  cases hp : plainT e res loc h x y with
  | error k' => rw [hp] at e1; cases e1; exact plainT_code hp
  | ok loc' =>
    rw [hp] at e1
    simp only at e1
    by_cases hk : h.k = 1
    · rw [if_pos hk] at e1; cases e1
    · rw [if_neg hk] at e1
      cases hb : stsT e res loc p b with
      | error k' => rw [hb] at e1; cases e1; exact stsT_code_of e res b ih1 _ _ _ hb
      | ok q =>
        rw [hb] at e1
        simp only at e1
        cases hl : stsT e res loc q l with
        | error k' => rw [hl] at e1; cases e1; exact stsT_code_of e res l ih2 _ _ _ hl
        | ok q' => rw [hl] at e1; cases e1
theorem stsT_code (e : En) (res : Ty) (l : List St) : ∀ loc p k, stsT e res loc p l = .error k → Cd k.2 := stsT_code_of e res l fun a _ => stT_code e res a
theorem fieldsE_code (e : En) (all : List ByteArray) : ∀ (l : List Fd) (j : Nat), fieldsE e all j l ≠ 0 → Cd (fieldsE e all j l)
  | [], _, h => absurd rfl h
  | f :: r, j, h => by
    rw [fieldsE] at h ⊢
    split
    · exact cd8
    rename_i h1
    rw [if_neg h1] at h
    split
    · rename_i h2
      rw [if_pos h2] at h
      exact fieldsE_code e all r (j + 1) h
    · exact cd9
theorem recsT_code (e : En) : ∀ (l : List Rc) (i : Nat) (k : Int × Int), recsT e i l = .error k → Cd k.2
  | [], _, _, h => by cases h
  | r :: l, i, k, h => by
    rw [recsT_cons] at h
    split at h
    · rename_i hr
      cases h
      simp only
      unfold recE at hr ⊢
      split
      · exact cd8
      · rename_i h1
        rw [if_neg h1] at hr
        exact fieldsE_code _ _ _ _ hr
    · exact recsT_code e l (i + 1) k h
theorem sharesT_code (e : En) : ∀ (l : List Fd) (i : Nat) (k : Int × Int), sharesT e i l = .error k → Cd k.2
  | [], _, _, h => by cases h
  | r :: l, i, k, h => by
    rw [sharesT_cons] at h
    split at h
    · rename_i hr
      cases h
      simp only
      unfold shareE at hr ⊢
      split
      · exact cd8
      · rename_i h1
        rw [if_neg h1] at hr
        split
        · rename_i h2; rw [if_pos h2] at hr; exact absurd rfl hr
        · exact cd9
    · exact sharesT_code e l (i + 1) k h
theorem parsT_code (e : En) : ∀ (l loc : List Fd) (k : Int), parsT e loc l = .error k → Cd k
  | [], _, _, h => by cases h
  | f :: r, loc, k, h => by
    rw [parsT] at h
    split at h
    · rename_i hd; cases h; exact declE_code _ _ _ hd
    · exact parsT_code e r _ k h
theorem fnT_code (e : En) (i : Nat) (p : Int) (f : Fn) (k : Int × Int) (h : fnT e i p f = .error k) : Cd k.2 := by
  unfold fnT at h
  split at h
  · cases h; exact cd8
  split at h
  · rename_i hp; cases h; exact parsT_code _ _ _ _ hp
  split at h
  · exact stsT_code _ _ _ _ _ _ h
  · cases h; exact cd9
theorem fnsT_code (e : En) : ∀ (l : List Fn) (i : Nat) (p : Int) (k : Int × Int), fnsT e i p l = .error k → Cd k.2
  | [], _, _, _, h => by cases h
  | f :: r, i, p, k, h => by
    rw [fnsT_cons] at h
    cases ht : fnT e i (p + 1) f with
    | error k' => rw [ht] at h; cases h; exact fnT_code _ _ _ _ _ ht
    | ok u => rw [ht] at h; exact fnsT_code e r (i + 1) u k h
theorem thsT_code (e : En) : ∀ (l : List Th) (p : Int) (k : Int × Int), thsT e p l = .error k → Cd k.2
  | [], _, _, h => by cases h
  | t :: r, p, k, h => by
    rw [thsT_cons] at h
    cases ht : stsT e noT [] (p + 1) t.list with
    | error k' => rw [ht] at h; cases h; exact stsT_code _ _ _ _ _ _ ht
    | ok u => rw [ht] at h; exact thsT_code e r u k h
theorem progT_code (P : Pr) (k : Int × Int) (h : progT P = .error k) : Cd k.2 := by
  unfold progT headT at h
  cases hr : recsT P.e 0 P.e.records with
  | error k' => rw [hr] at h; cases h; exact recsT_code _ _ _ _ hr
  | ok u =>
  rw [hr] at h
  simp only at h
  cases hs : sharesT P.e 0 P.e.shared with
  | error k' => rw [hs] at h; cases h; exact sharesT_code _ _ _ _ hs
  | ok u =>
  rw [hs] at h
  simp only at h
  cases hf : fnsT P.e 0 ((P.e.records.length : Int) + P.e.shared.length - 1) P.e.funcs with
  | error k' => rw [hf] at h; cases h; exact fnsT_code _ _ _ _ _ hf
  | ok u => rw [hf] at h; exact thsT_code _ _ _ _ h
theorem typesT_ok (P : Pr) (h : (typesT P).2 = 0) : ∃ m q, chkP P = .ok m ∧ progT P = .ok q := by
  unfold typesT at h
  cases hc : chkP P with
  | error k => rw [hc] at h; simp at h
  | ok m =>
    rw [hc] at h
    simp only at h
    cases hp : progT P with
    | error k =>
      rw [hp] at h
      simp only at h
      rcases progT_code P k hp with e | e | e <;> (rw [e] at h; cases h)
    | ok q => exact ⟨m, q, rfl, rfl⟩
end Go.Proofs.YtcibiiddigpnfaaGreatDoor
