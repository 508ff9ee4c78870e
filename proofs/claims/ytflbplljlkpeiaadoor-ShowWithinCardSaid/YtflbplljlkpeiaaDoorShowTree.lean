/- Trees of expressions with where their parts lie, which of them may be, how many items they have, and their texts. Nothing here speaks of the program. -/
import Derived.Test.YtflbplljlkpeiaaDoorLexPlain
import Derived.Below
namespace Go.Proofs.YtflbplljlkpeiaaDoor
open Go Go.Lib

/-- An expression's own fields, but for its Args. -/
structure Hd where
  k : Int
  n : Int
  name : ByteArray
  tk : Int
  tn : ByteArray
  tz : Int

/-- An expression: its own fields, the value of its Args, and what these are. -/
inductive X where
  | mk (h : Hd) (s : Value) (args : List X)

def X.hd : X → Hd | .mk h _ _ => h
def X.s : X → Value | .mk _ s _ => s
def X.args : X → List X | .mk _ _ l => l
def X.cells (x : X) : List Value := [.int .u8 x.hd.k, .int .i64 x.hd.n, .string x.hd.name, .int .u8 x.hd.tk, .string x.hd.tn, .int .i64 x.hd.tz, x.s]
abbrev X.val (x : X) : Value := .agg #[.int .u8 x.hd.k, .int .i64 x.hd.n, .string x.hd.name, .int .u8 x.hd.tk, .string x.hd.tn, .int .i64 x.hd.tz, x.s]

theorem X.ind {P : X → Prop} (h : ∀ hd s l, (∀ a ∈ l, P a) → P (.mk hd s l)) : ∀ x, P x :=
  X.rec (motive_1 := P) (motive_2 := fun l => ∀ a ∈ l, P a) (fun hd s l ih => h hd s l ih) (fun a ha => by cases ha) (fun a l ha hl b hb => by
    rcases List.mem_cons.1 hb with rfl | hb
    · exact ha
    · exact hl b hb)

mutual
def X.size : X → Nat
  | .mk _ _ l => 1 + X.sizes l
def X.sizes : List X → Nat
  | [] => 0
  | a :: r => X.size a + X.sizes r
end

/-- What is wrong with a type's form: 0, if nothing is. -/
def tyForm (tk : Int) (tn : List UInt8) (tz : Int) : Int :=
  if tk = 1 then (if tn = [] ∧ tz = 0 then 0 else 1)
  else if tk = 2 then (if isName tn = true ∧ tz = 0 then 0 else 1)
  else if tk = 3 then (if (tn = [] ∨ isName tn = true) ∧ 0 < tz then (if 64 < tz then 3 else 0) else 1)
  else 1

/-- What a kind of expression wants. -/
structure Wx where
  args : Int
  number : Bool
  name : Bool
  made : Bool
  sign : ByteArray

def Wx.val (x : Wx) : Value := .agg #[.int .i64 x.args, .bool x.number, .bool x.name, .bool x.made, .string x.sign]

/-- The kinds in their order, from 1 on. -/
def wxs : List Wx := [⟨0, true, false, false, ⟨#[]⟩⟩, ⟨0, false, false, false, ⟨#[]⟩⟩, ⟨0, false, true, false, ⟨#[]⟩⟩, ⟨1, false, true, false, ⟨#[]⟩⟩, ⟨2, false, false, false, ⟨#[]⟩⟩,
  ⟨0, false, false, true, ⟨#[]⟩⟩, ⟨-1, false, true, false, ⟨#[]⟩⟩, ⟨1, false, false, false, ⟨#[]⟩⟩, ⟨1, false, false, false, ⟨#[]⟩⟩, ⟨2, false, false, false, ⟨#[43]⟩⟩, ⟨2, false, false, false, ⟨#[45]⟩⟩,
  ⟨2, false, false, false, ⟨#[42]⟩⟩, ⟨2, false, false, false, ⟨#[47]⟩⟩, ⟨2, false, false, false, ⟨#[37]⟩⟩, ⟨2, false, false, false, ⟨#[61, 61]⟩⟩, ⟨2, false, false, false, ⟨#[33, 61]⟩⟩,
  ⟨2, false, false, false, ⟨#[60]⟩⟩, ⟨2, false, false, false, ⟨#[60, 61]⟩⟩, ⟨2, false, false, false, ⟨#[62]⟩⟩, ⟨2, false, false, false, ⟨#[62, 61]⟩⟩, ⟨2, false, false, false, ⟨#[38, 38]⟩⟩, ⟨2, false, false, false, ⟨#[124, 124]⟩⟩]

def wants (k : Int) : Option Wx := if 1 ≤ k then wxs[(k - 1).toNat]? else none

/-- What is wrong with an expression's own form. -/
def form (h : Hd) (len : Nat) : Int :=
  match wants h.k with
  | none => 1
  | some w =>
    if ¬ (w.args = -1 ∨ (len : Int) = w.args) then 1
    else if ¬ (w.number = true ∨ h.n = 0) then 1
    else if (w.name = true ∧ isName h.name.data.toList = false) ∨ (w.name = false ∧ h.name.data.toList ≠ []) then 1
    else if w.made = true then (if h.tk = 2 ∨ h.tk = 3 then tyForm h.tk h.tn.data.toList h.tz else 1)
    else if h.tk = 0 ∧ h.tn.data.toList = [] ∧ h.tz = 0 then 0 else 1

mutual
/-- An expression is gone through: so deep, behind so many items: the first thing that is wrong, or how many items there are then. -/
def chk (d c : Nat) : X → Except Int Nat
  | .mk h _ l => if 16 < d ∨ 1024 < c + 1 then .error 3 else if form h l.length = 0 then chks (d + 1) (c + 1) l else .error (form h l.length)
def chks (d c : Nat) : List X → Except Int Nat
  | [] => .ok c
  | a :: r => match chk d c a with
    | .error e => .error e
    | .ok c' => chks d c' r
end

/-- In an expression that may be, each part is of the right form. -/
inductive Fine : X → Prop where
  | mk (h : Hd) (s : Value) (l : List X) : form h l.length = 0 → (∀ a ∈ l, Fine a) → Fine (.mk h s l)

theorem chk_mk (d c : Nat) (h : Hd) (s : Value) (l : List X) : chk d c (.mk h s l) = if 16 < d ∨ 1024 < c + 1 then .error 3 else if form h l.length = 0 then chks (d + 1) (c + 1) l else .error (form h l.length) := by
  rw [chk]
theorem chks_nil (d c : Nat) : chks d c [] = .ok c := by rw [chks]
theorem chks_cons (d c : Nat) (a : X) (r : List X) : chks d c (a :: r) = match chk d c a with | .error e => .error e | .ok c' => chks d c' r := by rw [chks]
theorem size_mk (h : Hd) (s : Value) (l : List X) : X.size (.mk h s l) = 1 + X.sizes l := by rw [X.size]
theorem sizes_nil : X.sizes [] = 0 := by rw [X.sizes]
theorem sizes_cons (a : X) (r : List X) : X.sizes (a :: r) = X.size a + X.sizes r := by rw [X.sizes]

theorem chk_ok : ∀ x, ∀ d c m, chk d c x = .ok m → m = c + X.size x ∧ Fine x ∧ m ≤ 1024 := by
  refine X.ind fun h s l ih d c m e => ?_
  rw [chk_mk] at e
  split at e
  · cases e
  rename_i hdc
  split at e
  · rename_i hf
    have key : ∀ (l : List X), (∀ a ∈ l, ∀ d c m, chk d c a = .ok m → m = c + X.size a ∧ Fine a ∧ m ≤ 1024) → ∀ d c m, c ≤ 1024 → chks d c l = .ok m → m = c + X.sizes l ∧ (∀ a ∈ l, Fine a) ∧ m ≤ 1024 := by
      intro l
      induction l with
      | nil => intro _ d c m hc e; rw [chks_nil] at e; cases e; exact ⟨by rw [sizes_nil]; rfl, (fun a ha => by cases ha), hc⟩
      | cons a r ihr =>
        intro hl d c m _ e
        rw [chks_cons] at e
        split at e
        · cases e
        rename_i c' he
        obtain ⟨h1, h2, h3⟩ := hl a (by simp) d c c' he
        obtain ⟨g1, g2, g3⟩ := ihr (fun b hb => hl b (by simp [hb])) d c' m h3 e
        refine ⟨by rw [sizes_cons]; omega, fun b hb => ?_, g3⟩
        rcases List.mem_cons.1 hb with rfl | hb
        · exact h2
        · exact g2 b hb
    obtain ⟨k1, k2, k3⟩ := key l ih (d + 1) (c + 1) m (by omega) e
    exact ⟨by rw [size_mk]; omega, .mk h s l hf k2, k3⟩
  · cases e

theorem chk_next : ∀ x, ∀ d c, (∀ m, chk d c x = .ok m → (m + 1 ≤ 1024 → chk d (c + 1) x = .ok (m + 1)) ∧ (1024 < m + 1 → chk d (c + 1) x = .error 3)) ∧
    (∀ e, chk d c x = .error e → chk d (c + 1) x = .error e ∨ (chk d (c + 1) x = .error 3 ∧ 1024 < c + 1 + X.size x)) := by
  refine X.ind fun h s l ih d c => ?_
  have key : ∀ (l : List X), (∀ a ∈ l, ∀ d c, (∀ m, chk d c a = .ok m → (m + 1 ≤ 1024 → chk d (c + 1) a = .ok (m + 1)) ∧ (1024 < m + 1 → chk d (c + 1) a = .error 3)) ∧ (∀ e, chk d c a = .error e → chk d (c + 1) a = .error e ∨ (chk d (c + 1) a = .error 3 ∧ 1024 < c + 1 + X.size a))) →
      ∀ d c, c + 1 ≤ 1024 → (∀ m, chks d c l = .ok m → (m + 1 ≤ 1024 → chks d (c + 1) l = .ok (m + 1)) ∧ (1024 < m + 1 → chks d (c + 1) l = .error 3)) ∧ (∀ e, chks d c l = .error e → chks d (c + 1) l = .error e ∨ (chks d (c + 1) l = .error 3 ∧ 1024 < c + 1 + X.sizes l)) := by
    intro l
    induction l with
    | nil =>
      intro _ d c hc
      refine ⟨fun m e => ?_, fun e he => by rw [chks_nil] at he; cases he⟩
      rw [chks_nil] at e
      cases e
      exact ⟨fun _ => by rw [chks_nil], fun h => by omega⟩
    | cons a r ihr =>
      intro hl d c hc
      obtain ⟨p1, p2⟩ := hl a (by simp) d c
      have ihr' := ihr fun b hb => hl b (by simp [hb])
      rw [chks_cons, chks_cons, sizes_cons]
      cases ha : chk d c a with
      | error e0 =>
        refine ⟨(fun m e => by cases e), fun e he => ?_⟩
        cases he
        rcases p2 e0 ha with q | ⟨q, hq⟩
        · rw [q]; exact .inl rfl
        · rw [q]; exact .inr ⟨rfl, by omega⟩
      | ok c' =>
        obtain ⟨q1, q2⟩ := p1 c' ha
        have hk := (chk_ok a d c c' ha).1
        by_cases hc' : c' + 1 ≤ 1024
        · rw [q1 hc']
          obtain ⟨r1, r2⟩ := ihr' d c' hc'
          refine ⟨r1, fun e he => ?_⟩
          rcases r2 e he with z | ⟨z, hz⟩
          · exact .inl z
          · exact .inr ⟨z, by omega⟩
        · rw [q2 (by omega)]
          refine ⟨fun m e => ⟨fun hm => ?_, fun _ => rfl⟩, fun e he => .inr ⟨rfl, by omega⟩⟩
          exfalso
          have hle : ∀ (l : List X) (d c m : Nat), chks d c l = .ok m → c ≤ m := by
            intro l
            induction l with
            | nil => intro d c m e; rw [chks_nil] at e; cases e; omega
            | cons a r ih2 =>
              intro d c m e
              rw [chks_cons] at e
              split at e
              · cases e
              rename_i c2 h2
              have := (chk_ok a d c c2 h2).1
              have := ih2 d c2 m e
              omega
          have := hle r d c' m e
          omega
  have kl := key l ih (d + 1) (c + 1)
  rw [chk_mk, chk_mk, size_mk]
  by_cases h1 : 16 < d ∨ 1024 < c + 1
  · rw [if_pos h1, if_pos (by omega)]
    exact ⟨(fun m e => by cases e), fun e he => Or.inl he⟩
  rw [if_neg h1]
  by_cases h2 : 16 < d ∨ 1024 < c + 1 + 1
  · rw [if_pos h2]
    refine ⟨fun m e => ⟨fun hm => ?_, fun _ => rfl⟩, fun e he => .inr ⟨rfl, by omega⟩⟩
    exfalso
    have := (chk_ok (.mk h s l) d c m (by rw [chk_mk, if_neg h1]; exact e)).1
    rw [size_mk] at this
    omega
  rw [if_neg h2]
  by_cases hf : form h l.length = 0
  · rw [if_pos hf, if_pos hf]
    obtain ⟨k1, k2⟩ := kl (by omega)
    refine ⟨k1, fun e he => ?_⟩
    rcases k2 e he with z | ⟨z, hz⟩
    · exact .inl z
    · exact .inr ⟨z, by omega⟩
  · rw [if_neg hf, if_neg hf]
    exact ⟨(fun m e => by cases e), fun e he => Or.inl he⟩

theorem size_pos (x : X) : 1 ≤ X.size x := by cases x; rw [size_mk]; omega
end Go.Proofs.YtflbplljlkpeiaaDoor
