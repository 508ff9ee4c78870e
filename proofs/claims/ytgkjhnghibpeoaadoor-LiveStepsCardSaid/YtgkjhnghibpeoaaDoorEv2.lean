/- Abstract values, a trie, and how they lie in a world. -/
import Derived.OrdersHeld
import Derived.Below
import Derived.Laws.Cells
import Derived.Laws.CopyRow
import Derived.Deep.MidRow
namespace Go.Ev
noncomputable section
open Go Go.RowKit

inductive AV where
  | bool (b : Bool)
  | int (k : IntKind) (n : Int)
  | str (s : ByteArray)
  | nilp
  | nils
  | nilm
  | nilf
  | nili
  | ptr (b o : Nat)
  | sl (b o n c z : Nat) (x : Bool)
  | sle
  | mp (b : Nat)
  | gptr (b o : Nat)
  | clo (f : Fn) (a c : AV)
  | ifc (t : TypeId) (x : AV)
  | agg (l : AV)
  | tup (l : AV)
  | yl (b : Nat)
  | sym (i : Nat)
  | nil
  | cons (h t : AV)
deriving DecidableEq

/-! ### A trie -/
inductive Tr (α : Type) where
  | e
  | n (l : Tr α) (o : Option α) (r : Tr α)
deriving DecidableEq
def Tr.get {α : Type} (t : Tr α) : Nat → Option α :=
  Tr.rec (motive := fun _ => Nat → Option α) (fun _ => none) (fun _ o _ gl gr k => Bool.rec (motive := fun _ => Option α) (Bool.rec (motive := fun _ => Option α) (gr (k / 2 - 1)) (gl (k / 2)) (Nat.beq (k % 2) 1)) o (Nat.beq k 0)) t
theorem Tr.get_e {α : Type} (k : Nat) : (Tr.e : Tr α).get k = none := rfl
theorem Tr.get_n {α : Type} (l : Tr α) (o : Option α) (r : Tr α) (k : Nat) : (Tr.n l o r).get k = bif Nat.beq k 0 then o else bif Nat.beq (k % 2) 1 then l.get (k / 2) else r.get (k / 2 - 1) := by
  delta Tr.get
  dsimp only
  generalize Nat.beq k 0 = a
  generalize Nat.beq (k % 2) 1 = b
  cases a <;> cases b <;> rfl
def Tr.sing {α : Type} (f k : Nat) (v : α) : Tr α :=
  Nat.rec (motive := fun _ => Nat → Tr α) (fun _ => .n .e (some v) .e) (fun _ g k => Bool.rec (motive := fun _ => Tr α) (Bool.rec (motive := fun _ => Tr α) (.n .e none (g (k / 2 - 1))) (.n (g (k / 2)) none .e) (Nat.beq (k % 2) 1)) (.n .e (some v) .e) (Nat.beq k 0)) f k
theorem Tr.sing_z {α : Type} (k : Nat) (v : α) : Tr.sing 0 k v = .n .e (some v) .e := rfl
theorem Tr.sing_s {α : Type} (f k : Nat) (v : α) : Tr.sing (f + 1) k v = bif Nat.beq k 0 then .n .e (some v) .e else bif Nat.beq (k % 2) 1 then .n (Tr.sing f (k / 2) v) none .e else .n .e none (Tr.sing f (k / 2 - 1) v) := by
  delta Tr.sing
  dsimp only
  generalize Nat.beq k 0 = a
  generalize Nat.beq (k % 2) 1 = b
  cases a <;> cases b <;> rfl
def Tr.set {α : Type} (t : Tr α) (k : Nat) (v : α) : Tr α :=
  Tr.rec (motive := fun _ => Nat → Tr α) (fun k => Tr.sing k k v) (fun l o r gl gr k => Bool.rec (motive := fun _ => Tr α) (Bool.rec (motive := fun _ => Tr α) (.n l o (gr (k / 2 - 1))) (.n (gl (k / 2)) o r) (Nat.beq (k % 2) 1)) (.n l (some v) r) (Nat.beq k 0)) t k
theorem Tr.set_e {α : Type} (k : Nat) (v : α) : (Tr.e : Tr α).set k v = Tr.sing k k v := rfl
theorem Tr.set_n {α : Type} (l : Tr α) (o : Option α) (r : Tr α) (k : Nat) (v : α) : (Tr.n l o r).set k v = bif Nat.beq k 0 then .n l (some v) r else bif Nat.beq (k % 2) 1 then .n (l.set (k / 2) v) o r else .n l o (r.set (k / 2 - 1) v) := by
  delta Tr.set
  dsimp only
  generalize Nat.beq k 0 = a
  generalize Nat.beq (k % 2) 1 = b
  cases a <;> cases b <;> rfl
theorem beq_iff (a b : Nat) : Nat.beq a b = true ↔ a = b := by
  constructor
  · exact Nat.eq_of_beq_eq_true
  · rintro rfl; exact Nat.beq_refl a
theorem beq_dec (a b : Nat) : Nat.beq a b = decide (a = b) := by
  rw [Bool.eq_iff_iff, beq_iff]; simp
theorem Tr.get_sing {α : Type} (v : α) : ∀ (f k j : Nat), k ≤ f → (Tr.sing f k v).get j = if j = k then some v else none := by
  intro f
  induction f with
  | zero =>
    intro k j hk
    have : k = 0 := by omega
    subst this
    simp only [Tr.sing_z, Tr.get_e, Tr.get_n, beq_dec]
    by_cases h : j = 0 <;> simp [h]
  | succ f ih =>
    intro k j hk
    simp only [Tr.sing_s, beq_dec]
    by_cases h0 : k = 0
    · subst h0
      simp only [decide_true, cond_true, Tr.get_e, Tr.get_n, beq_dec]
      by_cases h : j = 0 <;> simp [h]
    · by_cases h1 : k % 2 = 1
      · simp only [h0, decide_false, cond_false, h1, decide_true, cond_true, Tr.get_e, Tr.get_n, beq_dec, ih (k / 2) _ (by omega)]
        by_cases hj : j = 0
        · subst hj; simp; omega
        · by_cases hj2 : j % 2 = 1
          · simp only [hj, hj2, decide_true, decide_false, cond_true, cond_false]
            have : (j / 2 = k / 2) ↔ j = k := by omega
            simp only [this]
          · simp only [hj, hj2, decide_false, cond_false]
            rw [if_neg (by omega)]
      · simp only [h0, decide_false, cond_false, h1, Tr.get_e, Tr.get_n, beq_dec, ih (k / 2 - 1) _ (by omega)]
        by_cases hj : j = 0
        · subst hj; simp; omega
        · by_cases hj2 : j % 2 = 1
          · simp only [hj, hj2, decide_true, decide_false, cond_true, cond_false]
            rw [if_neg (by omega)]
          · simp only [hj, hj2, decide_false, cond_false]
            have : (j / 2 - 1 = k / 2 - 1) ↔ j = k := by omega
            simp only [this]
theorem Tr.get_set {α : Type} (v : α) : ∀ (t : Tr α) (k j : Nat), (t.set k v).get j = if j = k then some v else t.get j := by
  intro t
  induction t with
  | e => intro k j; simp only [Tr.set_e, Tr.get_sing v k k j (Nat.le_refl _), Tr.get_e]
  | n l o r ihl ihr =>
    intro k j
    simp only [Tr.set_n, beq_dec]
    by_cases h0 : k = 0
    · subst h0
      simp only [decide_true, cond_true, Tr.get_n, beq_dec]
      by_cases h : j = 0 <;> simp [h]
    · by_cases h1 : k % 2 = 1
      · simp only [h0, decide_false, cond_false, h1, decide_true, cond_true, Tr.get_n, beq_dec, ihl]
        by_cases hj : j = 0
        · subst hj; simp; omega
        · by_cases hj2 : j % 2 = 1
          · simp only [hj, hj2, decide_true, decide_false, cond_true, cond_false]
            have : (j / 2 = k / 2) ↔ j = k := by omega
            simp only [this]
          · simp only [hj, hj2, decide_false, cond_false]
            rw [if_neg (by omega)]
      · simp only [h0, decide_false, cond_false, h1, Tr.get_n, beq_dec, ihr]
        by_cases hj : j = 0
        · subst hj; simp; omega
        · by_cases hj2 : j % 2 = 1
          · simp only [hj, hj2, decide_true, decide_false, cond_true, cond_false]
            rw [if_neg (by omega)]
          · simp only [hj, hj2, decide_false, cond_false]
            have : (j / 2 - 1 = k / 2 - 1) ↔ j = k := by omega
            simp only [this]

/-! ### What an abstract value stands for -/
structure Env where
  dom : Nat → Prop
  blk : Nat → Nat
  sh : Nat → Nat
  lim : Nat → Nat
  sym : Nat → Value

mutual
def VR (ρ : Env) : AV → Value → Prop
  | .bool b, v => v = .bool b
  | .int k n, v => v = .int k n
  | .str s, v => v = .string s
  | .nilp, v => v = .pointer none
  | .nils, v => v = .slice none 0 0
  | .nilm, v => v = .map none
  | .nilf, v => v = .nilFunc
  | .nili, v => v = .nilIface
  | .ptr b o, v => ρ.dom b ∧ v = .pointer (some ⟨ρ.blk b, ρ.sh b + o, none⟩)
  | .sl b o n c z x, v => ρ.dom b ∧ ∃ c', (c ≤ c' ∧ (x = true → c' = c)) ∧ ρ.sh b + o + c' * z ≤ ρ.lim b ∧ v = .slice (some ⟨ρ.blk b, ρ.sh b + o, none⟩) n c'
  | .sle, v => ∃ a c', v = .slice (some a) 0 c'
  | .mp b, v => ρ.dom b ∧ v = .map (some (ρ.blk b))
  | .gptr b o, v => v = .pointer (some ⟨b, o, none⟩)
  | .clo f a c, v => ∃ xs cs, LR ρ a xs ∧ LR ρ c cs ∧ v = .func f xs.toArray cs.toArray
  | .ifc t x, v => ∃ u, VR ρ x u ∧ v = .iface t u
  | .agg l, v => ∃ us, LR ρ l us ∧ v = .agg us.toArray
  | .tup l, v => ∃ us, LR ρ l us ∧ v = .tuple us.toArray
  | .yl b, v => ρ.dom b ∧ v = .func (.yield (ρ.blk b)) #[] #[]
  | .sym i, v => v = ρ.sym i
  | .nil, _ => False
  | .cons _ _, _ => False
def LR (ρ : Env) : AV → List Value → Prop
  | .nil, l => l = []
  | .cons h t, l => ∃ v l', VR ρ h v ∧ LR ρ t l' ∧ l = v :: l'
  | _, _ => False
end

structure Env.Le (ρ ρ' : Env) : Prop where
  dom : ∀ b, ρ.dom b → ρ'.dom b
  blk : ∀ b, ρ.dom b → ρ'.blk b = ρ.blk b
  sh : ∀ b, ρ.dom b → ρ'.sh b = ρ.sh b
  lim : ∀ b, ρ.dom b → ρ'.lim b = ρ.lim b
  sym : ρ'.sym = ρ.sym
theorem Env.Le.refl (ρ : Env) : ρ.Le ρ := ⟨fun _ h => h, fun _ _ => rfl, fun _ _ => rfl, fun _ _ => rfl, rfl⟩
theorem Env.Le.trans {a b c : Env} (h : a.Le b) (k : b.Le c) : a.Le c :=
  ⟨fun x hx => k.dom x (h.dom x hx), fun x hx => (k.blk x (h.dom x hx)).trans (h.blk x hx), fun x hx => (k.sh x (h.dom x hx)).trans (h.sh x hx),
   fun x hx => (k.lim x (h.dom x hx)).trans (h.lim x hx), k.sym.trans h.sym⟩

mutual
theorem VR.mono {ρ ρ' : Env} (h : ρ.Le ρ') : ∀ {a : AV} {v : Value}, VR ρ a v → VR ρ' a v := by
  intro a v hv
  cases a with
  | ptr b o =>
    simp only [VR] at hv ⊢
    obtain ⟨hd, rfl⟩ := hv
    exact ⟨h.dom b hd, by rw [h.blk b hd, h.sh b hd]⟩
  | sl b o n c z x =>
    simp only [VR] at hv ⊢
    obtain ⟨hd, c', h1, h2, rfl⟩ := hv
    exact ⟨h.dom b hd, c', h1, by rw [h.sh b hd, h.lim b hd]; exact h2, by rw [h.blk b hd, h.sh b hd]⟩
  | mp b =>
    simp only [VR] at hv ⊢
    obtain ⟨hd, rfl⟩ := hv
    exact ⟨h.dom b hd, by rw [h.blk b hd]⟩
  | yl b =>
    simp only [VR] at hv ⊢
    obtain ⟨hd, rfl⟩ := hv
    exact ⟨h.dom b hd, by rw [h.blk b hd]⟩
  | clo f x c =>
    simp only [VR] at hv ⊢
    obtain ⟨xs, cs, h1, h2, rfl⟩ := hv
    exact ⟨xs, cs, LR.mono h h1, LR.mono h h2, rfl⟩
  | ifc t x =>
    simp only [VR] at hv ⊢
    obtain ⟨u, h1, rfl⟩ := hv
    exact ⟨u, VR.mono h h1, rfl⟩
  | agg l =>
    simp only [VR] at hv ⊢
    obtain ⟨u, h1, rfl⟩ := hv
    exact ⟨u, LR.mono h h1, rfl⟩
  | tup l =>
    simp only [VR] at hv ⊢
    obtain ⟨u, h1, rfl⟩ := hv
    exact ⟨u, LR.mono h h1, rfl⟩
  | sym i => simp only [VR] at hv ⊢; rw [h.sym]; exact hv
  | nil => simp only [VR] at hv
  | cons _ _ => simp only [VR] at hv
  | _ => simpa only [VR] using hv
theorem LR.mono {ρ ρ' : Env} (h : ρ.Le ρ') : ∀ {a : AV} {l : List Value}, LR ρ a l → LR ρ' a l := by
  intro a l hv
  cases a with
  | nil => simpa only [LR] using hv
  | cons x t =>
    simp only [LR] at hv ⊢
    obtain ⟨v, l', h1, h2, rfl⟩ := hv
    exact ⟨v, l', VR.mono h h1, LR.mono h h2, rfl⟩
  | _ => simp only [LR] at hv
end

/-- Lists of abstract values, pointwise. -/
def FR (ρ : Env) : List AV → List Value → Prop
  | [], l => l = []
  | a :: t, l => ∃ v l', VR ρ a v ∧ FR ρ t l' ∧ l = v :: l'
theorem FR.mono {ρ ρ' : Env} (h : ρ.Le ρ') : ∀ {a : List AV} {l : List Value}, FR ρ a l → FR ρ' a l := by
  intro a
  induction a with
  | nil => intro l hl; exact hl
  | cons x t ih => rintro l ⟨v, l', h1, h2, rfl⟩; exact ⟨v, l', h1.mono h, ih h2, rfl⟩
theorem FR.length {ρ : Env} : ∀ {a : List AV} {l : List Value}, FR ρ a l → l.length = a.length := by
  intro a
  induction a with
  | nil => intro l hl; cases hl; rfl
  | cons x t ih => rintro l ⟨v, l', h1, h2, rfl⟩; simp [ih h2]
theorem FR.get {ρ : Env} : ∀ {a : List AV} {l : List Value}, FR ρ a l → ∀ {i : Nat} {x : AV}, a[i]? = some x → ∃ v, l[i]? = some v ∧ VR ρ x v := by
  intro a
  induction a with
  | nil => intro l _ i x hx; simp at hx
  | cons y t ih =>
    rintro l ⟨v, l', h1, h2, rfl⟩ i x hx
    cases i with
    | zero => simp at hx; subst hx; exact ⟨v, rfl, h1⟩
    | succ i => simp at hx; obtain ⟨u, hu, hv⟩ := ih h2 hx; exact ⟨u, by simpa using hu, hv⟩
theorem FR.of_get {ρ : Env} : ∀ {a : List AV} {l : List Value}, l.length = a.length → (∀ (i : Nat) x, a[i]? = some x → ∃ v, l[i]? = some v ∧ VR ρ x v) → FR ρ a l := by
  intro a
  induction a with
  | nil => intro l hl _; simpa [FR] using hl
  | cons y t ih =>
    intro l hl h
    cases l with
    | nil => simp at hl
    | cons v l' =>
      obtain ⟨u, hu, hv⟩ := h 0 y rfl
      simp at hu; subst hu
      exact ⟨v, l', hv, ih (by simpa using hl) (fun i x hx => by have := h (i + 1) x (by simpa using hx); simpa using this), rfl⟩
theorem FR.append {ρ : Env} : ∀ {a b : List AV} {l m : List Value}, FR ρ a l → FR ρ b m → FR ρ (a ++ b) (l ++ m) := by
  intro a
  induction a with
  | nil => intro b l m h1 h2; cases h1; exact h2
  | cons x t ih => rintro b l m ⟨v, l', h1, h2, rfl⟩ h3; exact ⟨v, l' ++ m, h1, ih h2 h3, rfl⟩

/-- The list behind a chain of `cons`. -/
def AV.list : AV → Option (List AV)
  | .nil => some []
  | .cons h t => match t.list with
    | some l => some (h :: l)
    | none => none
  | _ => none
def AV.of : List AV → AV
  | [] => .nil
  | h :: t => .cons h (AV.of t)
theorem LR.fr {ρ : Env} : ∀ {a : AV} {xs : List AV} {l : List Value}, a.list = some xs → LR ρ a l → FR ρ xs l := by
  intro a
  induction a with
  | nil => intro xs l h hl; simp only [AV.list, Option.some.injEq] at h; subst h; simpa only [LR, FR] using hl
  | cons x t _ ih =>
    intro xs l h hl
    simp only [AV.list] at h
    split at h
    · rename_i ys hy
      simp only [Option.some.injEq] at h; subst h
      simp only [LR] at hl
      obtain ⟨v, l', h1, h2, rfl⟩ := hl
      exact ⟨v, l', h1, ih hy h2, rfl⟩
    · cases h
  | _ => intro xs l h; simp only [AV.list, reduceCtorEq] at h
theorem FR.lr {ρ : Env} : ∀ {xs : List AV} {l : List Value}, FR ρ xs l → LR ρ (AV.of xs) l := by
  intro xs
  induction xs with
  | nil => intro l h; simpa only [AV.of, LR, FR] using h
  | cons x t ih => rintro l ⟨v, l', h1, h2, rfl⟩; simp only [AV.of, LR]; exact ⟨v, l', h1, ih h2, rfl⟩

/-! ### Closed values -/
def ofVal1 : Value → Option AV
  | .bool b => some (.bool b)
  | .int k n => some (.int k n)
  | .string s => some (.str s)
  | .pointer none => some .nilp
  | .slice none n c => bif Nat.beq n 0 && Nat.beq c 0 then some .nils else none
  | .map none => some .nilm
  | .nilFunc => some .nilf
  | .nilIface => some .nili
  | .func f a c => bif a.isEmpty && c.isEmpty then some (.clo f .nil .nil) else none
  | _ => none
def ofCells : List Value → Option AV
  | [] => some .nil
  | v :: t => match ofVal1 v with
    | some a => match ofCells t with
      | some l => some (.cons a l)
      | none => none
    | none => none
def ofVal (v : Value) : Option AV :=
  match v with
  | .agg cs => match ofCells cs.toList with
    | some l => some (.agg l)
    | none => none
  | .tuple cs => match ofCells cs.toList with
    | some l => some (.tup l)
    | none => none
  | v => ofVal1 v
theorem ofVal1_VR {ρ : Env} {v : Value} {a : AV} (h : ofVal1 v = some a) : VR ρ a v := by
  cases v with
  | pointer p => cases p <;> simp only [ofVal1, Option.some.injEq, reduceCtorEq] at h; subst h; simp only [VR]
  | slice p n c =>
    cases p <;> simp only [ofVal1, reduceCtorEq] at h
    simp only [beq_dec] at h
    by_cases h1 : n = 0 <;> by_cases h2 : c = 0 <;> simp [h1, h2] at h
    subst h; subst h1; subst h2; simp only [VR]
  | map p => cases p <;> simp only [ofVal1, Option.some.injEq, reduceCtorEq] at h; subst h; simp only [VR]
  | func f x c =>
    simp only [ofVal1] at h
    by_cases h1 : x.isEmpty = true <;> by_cases h2 : c.isEmpty = true <;> simp [h1, h2] at h
    subst h
    simp only [VR]
    refine ⟨[], [], rfl, rfl, ?_⟩
    simp at h1 h2; subst h1; subst h2; rfl
  | _ => simp only [ofVal1, Option.some.injEq, reduceCtorEq] at h <;> (subst h; simp only [VR])
theorem ofCells_LR {ρ : Env} : ∀ {l : List Value} {a : AV}, ofCells l = some a → LR ρ a l := by
  intro l
  induction l with
  | nil => intro a h; simp only [ofCells, Option.some.injEq] at h; subst h; simp only [LR]
  | cons v t ih =>
    intro a h
    simp only [ofCells] at h
    split at h
    · rename_i x hx
      split at h
      · rename_i y hy
        simp only [Option.some.injEq] at h; subst h
        simp only [LR]
        exact ⟨v, t, ofVal1_VR hx, ih hy, rfl⟩
      · cases h
    · cases h
theorem ofVal_VR {ρ : Env} {v : Value} {a : AV} (h : ofVal v = some a) : VR ρ a v := by
  unfold ofVal at h
  split at h
  · split at h
    · rename_i l hl
      simp only [Option.some.injEq] at h; subst h
      simp only [VR]
      exact ⟨_, ofCells_LR hl, rfl⟩
    · cases h
  · split at h
    · rename_i l hl
      simp only [Option.some.injEq] at h; subst h
      simp only [VR]
      exact ⟨_, ofCells_LR hl, rfl⟩
    · cases h
  · exact ofVal1_VR h

mutual
def toVal : AV → Option Value
  | .bool b => some (.bool b)
  | .int k n => some (.int k n)
  | .str s => some (.string s)
  | .nilp => some (.pointer none)
  | .nils => some (.slice none 0 0)
  | .nilm => some (.map none)
  | .nilf => some .nilFunc
  | .nili => some .nilIface
  | .gptr b o => some (.pointer (some ⟨b, o, none⟩))
  | .clo f a c => match toVals a, toVals c with
    | some xs, some cs => some (.func f xs.toArray cs.toArray)
    | _, _ => none
  | .ifc t x => match toVal x with
    | some u => some (.iface t u)
    | none => none
  | .agg l => match toVals l with
    | some us => some (.agg us.toArray)
    | none => none
  | .tup l => match toVals l with
    | some us => some (.tuple us.toArray)
    | none => none
  | _ => none
def toVals : AV → Option (List Value)
  | .nil => some []
  | .cons h t => match toVal h, toVals t with
    | some v, some l => some (v :: l)
    | _, _ => none
  | _ => none
end
mutual
theorem toVal_eq {ρ : Env} : ∀ {a : AV} {u v : Value}, toVal a = some u → VR ρ a v → v = u := by
  intro a u v h hv
  cases a with
  | clo f x c =>
    simp only [toVal] at h
    split at h
    · rename_i xs cs h1 h2
      simp only [Option.some.injEq] at h; subst h
      simp only [VR] at hv
      obtain ⟨xs', cs', h3, h4, rfl⟩ := hv
      rw [toVals_eq h1 h3, toVals_eq h2 h4]
    · cases h
  | ifc t x =>
    simp only [toVal] at h
    split at h
    · rename_i y hy
      simp only [Option.some.injEq] at h; subst h
      simp only [VR] at hv
      obtain ⟨u', h3, rfl⟩ := hv
      rw [toVal_eq hy h3]
    · cases h
  | agg l =>
    simp only [toVal] at h
    split at h
    · rename_i y hy
      simp only [Option.some.injEq] at h; subst h
      simp only [VR] at hv
      obtain ⟨u', h3, rfl⟩ := hv
      rw [toVals_eq hy h3]
    · cases h
  | tup l =>
    simp only [toVal] at h
    split at h
    · rename_i y hy
      simp only [Option.some.injEq] at h; subst h
      simp only [VR] at hv
      obtain ⟨u', h3, rfl⟩ := hv
      rw [toVals_eq hy h3]
    · cases h
  | _ => simp only [toVal, Option.some.injEq, reduceCtorEq] at h <;> (subst h; simpa only [VR] using hv)
theorem toVals_eq {ρ : Env} : ∀ {a : AV} {u v : List Value}, toVals a = some u → LR ρ a v → v = u := by
  intro a u v h hv
  cases a with
  | nil => simp only [toVals, Option.some.injEq] at h; subst h; simpa only [LR] using hv
  | cons x t =>
    simp only [toVals] at h
    split at h
    · rename_i y l hy hl
      simp only [Option.some.injEq] at h; subst h
      simp only [LR] at hv
      obtain ⟨v', l', h1, h2, rfl⟩ := hv
      rw [toVal_eq hy h1, toVals_eq hl h2]
    · cases h
  | _ => simp only [toVals, reduceCtorEq] at h
end
end
end Go.Ev
namespace Go.Ev
noncomputable section
open Go Go.RowKit

theorem ble_dec (a b : Nat) : Nat.ble a b = decide (a ≤ b) := by
  rw [Bool.eq_iff_iff, Nat.ble_eq]; simp

/-- A program of the machine that asks nothing of the world. -/
def rp {α : Type} (P : Program) : Sem α → Option α
  | .pure a => some a
  | .program k => rp P (k P)
  | .mark _ k => rp P k
  | _ => none
theorem rp_run {α : Type} {P : Program} : ∀ {e : Sem α} {a : α}, rp P e = some a → ∀ w, e.run P w = .ok a w := by
  intro e
  induction e with
  | pure a => intro b h w; simp only [rp, Option.some.injEq] at h; subst h; rfl
  | program k ih => intro b h w; simp only [rp] at h; exact ih P h w
  | mark m k ih => intro b h w; simp only [rp] at h; exact ih h w
  | _ => intro b h; simp only [rp, reduceCtorEq] at h

def sizeA (P : Program) (t : TypeId) : Option Nat := (P.info? t).map (·.size)
theorem run_sizeA {P : Program} {t : TypeId} {n : Nat} (h : sizeA P t = some n) (w : World) : (sizeOf t).run P w = .ok n w := by
  unfold sizeA at h
  cases hi : P.info? t with
  | none => simp [hi] at h
  | some i => simp [hi] at h; simp [sizeOf, typeInfo, hi, h]
def zeroA (P : Program) (t : TypeId) : Option AV := ((P.info? t).bind (·.zero)).bind ofVal
theorem run_zeroA {P : Program} {t : TypeId} {a : AV} {ρ : Env} (h : zeroA P t = some a) : ∃ v, VR ρ a v ∧ ∀ w, (zeroValue t).run P w = .ok v w := by
  unfold zeroA at h
  cases hi : P.info? t with
  | none => simp [hi] at h
  | some i =>
    cases hz : i.zero with
    | none => simp [hi, hz] at h
    | some v => simp [hi, hz] at h; exact ⟨v, ofVal_VR h, fun w => by simp [zeroValue, typeInfo, hi, hz]⟩
def aggT : TypeDesc → Bool
  | .struct _ | .array _ _ => true
  | _ => false
def isAggA (P : Program) (t : TypeId) : Option Bool := (P.underlying t).map aggT
theorem run_isAggA {P : Program} {t : TypeId} {b : Bool} (h : isAggA P t = some b) (w : World) : (isAgg t).run P w = .ok b w := by
  unfold isAggA at h
  cases hu : P.underlying t with
  | none => simp [hu] at h
  | some d =>
    simp [hu] at h
    simp only [isAgg, Sem.run_bind, run_underlying hu w, Result.andThen_ok]
    subst h
    cases d <;> rfl

def partA (P : Program) (t : TypeId) (xs : List AV) (off : Nat) : Option AV :=
  match isAggA P t with
  | some true => match sizeA P t with
    | some n => bif Nat.ble (off + n) xs.length then some (.agg (.of ((xs.drop off).take n))) else none
    | none => none
  | some false => xs[off]?
  | none => none
theorem FR.drop {ρ : Env} : ∀ {a : List AV} {l : List Value} (n : Nat), FR ρ a l → FR ρ (a.drop n) (l.drop n) := by
  intro a
  induction a with
  | nil => rintro l n h; cases h; simp [FR]
  | cons x t ih =>
    rintro l n ⟨v, l', h1, h2, rfl⟩
    cases n with
    | zero => exact ⟨v, l', h1, h2, rfl⟩
    | succ n => exact ih n h2
theorem FR.take {ρ : Env} : ∀ {a : List AV} {l : List Value} (n : Nat), FR ρ a l → FR ρ (a.take n) (l.take n) := by
  intro a
  induction a with
  | nil => rintro l n h; cases h; simp [FR]
  | cons x t ih =>
    rintro l n ⟨v, l', h1, h2, rfl⟩
    cases n with
    | zero => simp [FR]
    | succ n => exact ⟨v, l'.take n, h1, ih n h2, rfl⟩
theorem run_partA {P : Program} {t : TypeId} {xs : List AV} {off : Nat} {a : AV} {ρ : Env} {us : List Value} (h : partA P t xs off = some a) (hl : FR ρ xs us) :
    ∃ v, VR ρ a v ∧ ∀ w, (part t us.toArray off).run P w = .ok v w := by
  unfold partA at h
  split at h
  · rename_i hg
    split at h
    · rename_i n hn
      simp only [ble_dec] at h
      by_cases hle : off + n ≤ xs.length
      case neg => simp [hle] at h
      simp only [hle, decide_true, cond_true, Option.some.injEq] at h; subst h
      refine ⟨.agg ((us.drop off).take n).toArray, ?_, fun w => ?_⟩
      · simp only [VR]; exact ⟨_, ((hl.drop off).take n).lr, rfl⟩
      · simp only [part, Sem.run_bind, run_isAggA hg w, Result.andThen_ok, if_true, run_sizeA hn w, Sem.run_pure]
        congr 2
        apply Array.ext'
        simp [List.take_drop]
    · cases h
  · rename_i hg
    obtain ⟨v, hv, hr⟩ := hl.get h
    exact ⟨v, hr, fun w => by simp [part, Sem.run_bind, run_isAggA hg w, hv]⟩
  · cases h

/-- The operands as abstract values. -/
def EvOk (ρ : Env) (ev : Operand → Option AV) (r : Operand → Value) : Prop := ∀ x a, ev x = some a → VR ρ a (r x)

def fldA (P : Program) (s : TypeId) (f : Nat) : Option Field := match P.underlying s with
  | some (.struct fs) => fs[f]?
  | _ => none
def evs (ev : Operand → Option AV) : List Operand → Option (List AV)
  | [] => some []
  | x :: t => match ev x with
    | some a => match evs ev t with
      | some l => some (a :: l)
      | none => none
    | none => none
theorem evs_FR {ρ : Env} {ev : Operand → Option AV} {r : Operand → Value} (he : EvOk ρ ev r) : ∀ {xs : List Operand} {l : List AV}, evs ev xs = some l → FR ρ l (xs.map r) := by
  intro xs
  induction xs with
  | nil => intro l h; simp only [evs, Option.some.injEq] at h; subst h; rfl
  | cons x t ih =>
    intro l h
    simp only [evs] at h
    split at h
    · rename_i a ha
      split at h
      · rename_i l' hl
        simp only [Option.some.injEq] at h; subst h
        exact ⟨r x, t.map r, he x a ha, ih hl, rfl⟩
      · cases h
    · cases h

/-- Bounds of a slice: low, high, max. -/
def optI (ev : Operand → Option AV) (d : Nat) : Option Operand → Option Nat
  | none => some d
  | some x => match ev x with
    | some (.int _ (.ofNat n)) => some n
    | _ => none
def slA (P : Program) (ev : Operand → Option AV) (t : TypeId) (x : Operand) (lo hi mx : Option Operand) : Option AV :=
  match P.underlying t, ev x, mx with
  | some (.slice e), some (.sl b o n c z x), none => match optI ev 0 lo, optI ev n hi, sizeA P e with
    | some l, some h, some z' => bif Nat.beq z z' && (Nat.ble l h && Nat.ble h c) then
        (bif Nat.ble l 0 then some (.sl b o h c z x) else bif Nat.ble (l + 1) c then some (.sl b (o + l * z) (h - l) (c - l) z x) else bif Nat.beq h l then some .sle else none) else none
    | _, _, _ => none
  | some (.slice e), some (.sl b o n c z _x), some m => match optI ev 0 lo, optI ev n hi, optI ev n (some m), sizeA P e with
    | some l, some h, some m, some z' => bif hi.isSome && (Nat.beq z z' && (Nat.ble l h && (Nat.ble h m && Nat.ble m c)) && Nat.ble (l + 1) m) then
        some (.sl b (o + l * z) (h - l) (m - l) z true) else none
    | _, _, _, _ => none
  | some (.slice e), some .nils, none => match optI ev 0 lo, optI ev 0 hi with
    | some l, some h => match sizeA P e with
      | some _ => bif Nat.beq l 0 && Nat.beq h 0 then some .nils else none
      | none => none
    | _, _ => none
  | _, _, _ => none
theorem optI_run {ρ : Env} {ev : Operand → Option AV} {r : Operand → Value} (he : EvOk ρ ev r) {d n : Nat} {x : Operand} (h : optI ev d (some x) = some n) : ∃ k, r x = .int k n := by
  unfold optI at h
  split at h
  · rename_i q; cases q
  · rename_i y hy
    cases hy
    split at h
    · rename_i k m hm
      simp only [Option.some.injEq] at h; subst h
      have := he x _ hm
      simp only [VR] at this
      exact ⟨k, by simpa using this⟩
    · cases h
theorem run_bound {P : Program} {w : World} {k : IntKind} {n y : Nat} {c : BoundsCode} (h : n ≤ y) : (Instr.sliceBound (.int k n) y c).run P w = .ok n w := by
  simp only [Instr.sliceBound, asIntOf, Sem.run_bind, Sem.run_pure, Result.andThen_ok]
  rw [if_pos (by omega)]
  simp
theorem run_bounds {P : Program} {w : World} {ρ : Env} {ev : Operand → Option AV} {r : Operand → Value} (he : EvOk ρ ev r) {n c l h m : Nat} {lo hi mx : Option Operand}
    (hl : optI ev 0 lo = some l) (hh : optI ev n hi = some h) (hm : match mx with | none => m = c | some x => optI ev n (some x) = some m ∧ hi.isSome) (h1 : l ≤ h) (h2 : h ≤ m) (h3 : m ≤ c) :
    (Instr.sliceBounds true n c (lo.map r) (hi.map r) (mx.map r)).run P w = .ok (l, h, m) w := by
  cases mx with
  | none =>
    simp only at hm; subst hm
    cases hi with
    | none =>
      simp only [optI, Option.some.injEq] at hh; subst hh
      cases lo with
      | none => simp only [optI, Option.some.injEq] at hl; subst hl; simp [Instr.sliceBounds]
      | some x =>
        obtain ⟨k, hk⟩ := optI_run he hl
        simp [Instr.sliceBounds, hk, run_bound h1]
    | some y =>
      obtain ⟨k, hk⟩ := optI_run he hh
      cases lo with
      | none => simp only [optI, Option.some.injEq] at hl; subst hl; simp [Instr.sliceBounds, hk, run_bound h2]
      | some x =>
        obtain ⟨k', hk'⟩ := optI_run he hl
        simp [Instr.sliceBounds, hk, hk', run_bound h1, run_bound h2]
  | some z =>
    obtain ⟨hm, hs⟩ := hm
    obtain ⟨kz, hkz⟩ := optI_run he hm
    cases hi with
    | none => simp at hs
    | some y =>
      obtain ⟨k, hk⟩ := optI_run he hh
      cases lo with
      | none => simp only [optI, Option.some.injEq] at hl; subst hl; simp [Instr.sliceBounds, hk, hkz, run_bound h2, run_bound h3]
      | some x =>
        obtain ⟨k', hk'⟩ := optI_run he hl
        simp [Instr.sliceBounds, hk, hk', hkz, run_bound h1, run_bound h2, run_bound h3]
end
end Go.Ev
