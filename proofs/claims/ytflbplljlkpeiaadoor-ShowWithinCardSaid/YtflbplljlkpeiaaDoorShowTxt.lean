/- Expressions' texts as the document has them, and where an expression lies in memory. Nothing here is a walk. -/
import Derived.Test.YtflbplljlkpeiaaDoorShowTree
import Derived.Test.YtflbplljlkpeiaaDoorShowTell
namespace Go.Proofs.YtflbplljlkpeiaaDoor
open Go Go.Lib Go.RowKit

def signK (k : Int) : ByteArray := ((wants k).map (·.sign)).getD ⟨#[]⟩
/-- Two operands with a sign between? -/
def pairK (k : Int) : Bool := !(signK k).data.toList.isEmpty
def headK (k : Int) : Bool := pairK k || decide (k = 8) || decide (k = 9)

mutual
def X.dig : X → Bool
  | .mk h _ l => if h.k = 4 ∨ h.k = 5 then digs l else decide (h.k = 1 ∧ 0 ≤ h.n)
def digs : List X → Bool
  | [] => false
  | a :: _ => X.dig a
end
theorem dig_mk (h : Hd) (s : Value) (l : List X) : X.dig (.mk h s l) = if h.k = 4 ∨ h.k = 5 then digs l else decide (h.k = 1 ∧ 0 ≤ h.n) := by rw [X.dig]
theorem digs_cons (a : X) (r : List X) : digs (a :: r) = a.dig := by rw [digs]

def partT (b : Bool) (t : List UInt8) : List UInt8 := if b then [40] ++ (t ++ [41]) else t
def kdAt (l : List X) (i : Nat) : Int := (l[i]?.map fun a => a.hd.k).getD 0
def txAt (ts : List (List UInt8)) (i : Nat) : List UInt8 := ts[i]?.getD []
/-- Texts with commas between each two. -/
def commas : List (List UInt8) → List UInt8
  | [] => []
  | [t] => t
  | t :: r => t ++ ([44, 32] ++ commas r)

/-- The text of an expression out of its parts' texts. -/
def nodeT (h : Hd) (l : List X) (ts : List (List UInt8)) : List UInt8 :=
  if h.k = 1 then Lib.itoa h.n
  else if h.k = 2 then [110, 105, 108]
  else if h.k = 3 then h.name.data.toList
  else if h.k = 4 then partT (headK (kdAt l 0)) (txAt ts 0) ++ ([46] ++ h.name.data.toList)
  else if h.k = 5 then partT (headK (kdAt l 0)) (txAt ts 0) ++ ([91] ++ (txAt ts 1 ++ [93]))
  else if h.k = 6 then [110, 101, 119, 32] ++ tyText h.tk h.tn.data.toList h.tz
  else if h.k = 7 then (h.name.data.toList ++ [40]) ++ (commas ts ++ [41])
  else if h.k = 8 then [45] ++ partT (pairK (kdAt l 0) || digs l) (txAt ts 0)
  else if h.k = 9 then [33] ++ partT (pairK (kdAt l 0)) (txAt ts 0)
  else partT (pairK (kdAt l 0)) (txAt ts 0) ++ (([32] ++ ((signK h.k).data.toList ++ [32])) ++ partT (pairK (kdAt l 1)) (txAt ts 1))

mutual
def X.txt : X → List UInt8
  | .mk h _ l => nodeT h l (txts l)
def txts : List X → List (List UInt8)
  | [] => []
  | a :: r => X.txt a :: txts r
end
theorem txt_mk (h : Hd) (s : Value) (l : List X) : X.txt (.mk h s l) = nodeT h l (txts l) := by rw [X.txt]
theorem txts_nil : txts [] = [] := by rw [txts]
theorem txts_cons (a : X) (r : List X) : txts (a :: r) = a.txt :: txts r := by rw [txts]
theorem txts_map (l : List X) : txts l = l.map X.txt := by
  induction l with
  | nil => rw [txts_nil]; rfl
  | cons a r ih => rw [txts_cons, ih]; rfl

/-! ### How long texts are -/
theorem part_len (b : Bool) (t : List UInt8) : (partT b t).length ≤ t.length + 2 := by
  cases b <;> simp [partT]
theorem commas_len : ∀ ts : List (List UInt8), (commas ts).length ≤ (ts.map fun t => t.length + 2).sum
  | [] => by simp [commas]
  | [t] => by simp [commas]
  | t :: u :: r => by
    have ih := commas_len (u :: r)
    simp only [commas, List.length_append, List.map_cons, List.sum_cons, List.length_cons, List.length_nil] at ih ⊢
    omega
theorem name_short {l : List UInt8} (h : isName l = true) : l.length ≤ 16 := by
  unfold isName at h
  simp at h
  omega
theorem form_name {h : Hd} {n : Nat} (hf : form h n = 0) : h.name.data.toList.length ≤ 16 := by
  unfold form at hf
  split at hf
  · cases hf
  rename_i w hw
  split at hf
  · cases hf
  split at hf
  · cases hf
  split at hf
  · cases hf
  rename_i h3
  cases hn : isName h.name.data.toList with
  | true => exact name_short hn
  | false =>
    have e : h.name.data.toList = [] := by
      rcases hwn : w.name with _ | _
      · by_cases e : h.name.data.toList = []
        · exact e
        · exact absurd (Or.inr ⟨hwn, e⟩) h3
      · exact absurd (Or.inl ⟨hwn, hn⟩) h3
    rw [e]; simp
theorem tyForm_name {tk tz : Int} {tn : List UInt8} (h : tyForm tk tn tz = 0) : tn.length ≤ 16 ∧ tz ≤ 64 ∧ 0 ≤ tz := by
  unfold tyForm at h
  split at h
  · split at h
    · rename_i e
      rw [e.1, e.2]; simp
    · cases h
  · split at h
    · split at h
      · rename_i e
        exact ⟨name_short e.1, by omega, by omega⟩
      · cases h
    · split at h
      · split at h
        · rename_i e
          split at h
          · cases h
          · refine ⟨?_, by omega, by omega⟩
            rcases e.1 with e1 | e1
            · rw [e1]; simp
            · exact name_short e1
        · cases h
      · cases h
theorem form_type {h : Hd} {n : Nat} (hf : form h n = 0) : h.tn.data.toList.length ≤ 16 ∧ h.tz ≤ 64 ∧ 0 ≤ h.tz := by
  unfold form at hf
  split at hf
  · cases hf
  split at hf
  · cases hf
  split at hf
  · cases hf
  split at hf
  · cases hf
  split at hf
  · split at hf
    · exact tyForm_name hf
    · cases hf
  · split at hf
    · rename_i e
      rw [e.2.1, e.2.2]; simp
    · cases hf
theorem sign_short (k : Int) : (signK k).data.toList.length ≤ 2 := by
  unfold signK wants
  split
  · rename_i h1
    by_cases h2 : (k - 1).toNat < wxs.length
    · have : (k - 1).toNat < 22 := h2
      have hall : ∀ n < 22, (((wxs[n]?).map Wx.sign).getD (⟨#[]⟩ : ByteArray)).data.toList.length ≤ 2 := by decide
      exact hall _ this
    · rw [List.getElem?_eq_none (by omega)]
      show (0 : Nat) ≤ 2
      omega
  · show (0 : Nat) ≤ 2
    omega
theorem tyText_len (tk tz : Int) (tn : List UInt8) (h : tn.length ≤ 16) (h0 : 0 ≤ tz) (h1 : tz ≤ 64) : (tyText tk tn tz).length ≤ 50 := by
  have := itoa_len tz (by omega) (by omega)
  unfold tyText
  split <;> split <;> simp <;> omega

/-! ### Where an expression lies -/
structure HdOk (h : Hd) : Prop where
  k : 0 ≤ h.k ∧ h.k ≤ 255
  n : -9223372036854775808 ≤ h.n ∧ h.n ≤ 9223372036854775807
  name : h.name.size ≤ 9223372036854775807
  tn : h.tn.size ≤ 9223372036854775807
  tz : -9223372036854775808 ≤ h.tz ∧ h.tz ≤ 9223372036854775807

/-- The Args lie so in the world, below B. -/
def Lies (w : World) (B : Nat) (s : Value) (l : List X) : Prop :=
  ∃ ao cap, s = .slice ao l.length cap ∧ l.length ≤ 9223372036854775807 ∧ (l = [] ∨ ∃ g off, ao = some ⟨g, off, none⟩ ∧ g < B ∧ ∀ i x, l[i]? = some x → ∀ j u, x.cells[j]? = some u → w.cell? ⟨g, off + (i * 7 + j), none⟩ = some u)

inductive InW (w : World) (B : Nat) : X → Prop where
  | mk (h : Hd) (s : Value) (l : List X) : HdOk h → Lies w B s l → (∀ a ∈ l, InW w B a) → InW w B (.mk h s l)

theorem Lies.below {w w' : World} {B : Nat} {s : Value} {l : List X} (h : Lies w B s l) (hb : Below B w w') : Lies w' B s l := by
  obtain ⟨ao, cap, hs, hl, h⟩ := h
  refine ⟨ao, cap, hs, hl, ?_⟩
  rcases h with h | ⟨g, off, h1, h2, h3⟩
  · exact .inl h
  · exact .inr ⟨g, off, h1, h2, fun i x hx j u hu => by rw [hb.cell (p := ⟨g, _, none⟩) h2]; exact h3 i x hx j u hu⟩
theorem InW.keeps {w w' : World} {B : Nat} (hb : Below B w w') : ∀ x, InW w B x → InW w' B x := by
  refine X.ind fun h s l ih hx => ?_
  cases hx with
  | mk _ _ _ h1 h2 h3 => exact .mk h s l h1 (h2.below hb) fun a ha => ih a ha (h3 a ha)
theorem InW.up {w : World} {B B' : Nat} (hB : B ≤ B') : ∀ x, InW w B x → InW w B' x := by
  refine X.ind fun h s l ih hx => ?_
  cases hx with
  | mk _ _ _ h1 h2 h3 =>
    refine .mk h s l h1 ?_ fun a ha => ih a ha (h3 a ha)
    obtain ⟨ao, cap, hs, hl, h⟩ := h2
    refine ⟨ao, cap, hs, hl, ?_⟩
    rcases h with h | ⟨g, off, q1, q2, q3⟩
    · exact .inl h
    · exact .inr ⟨g, off, q1, by omega, q3⟩
theorem InW.ok {w : World} {B : Nat} {x : X} (h : InW w B x) : HdOk x.hd := by cases h with | mk _ _ _ h1 _ _ => exact h1

theorem txt_short {w : World} {B : Nat} : ∀ x, Fine x → InW w B x → x.txt.length + 40 ≤ 100 * X.size x := by
  refine X.ind fun h s l ih hf hx => ?_
  cases hf with
  | mk _ _ _ hform hfl =>
  cases hx with
  | mk _ _ _ hok hlies hin =>
  have hl : ∀ a ∈ l, a.txt.length + 40 ≤ 100 * X.size a := fun a ha => ih a ha (hfl a ha) (hin a ha)
  have h0 : (txAt (txts l) 0).length + 40 ≤ 100 * X.sizes l ∨ l = [] := by
    cases l with
    | nil => exact .inr rfl
    | cons a r =>
      left
      have := hl a (by simp)
      rw [txts_cons, sizes_cons]
      show a.txt.length + 40 ≤ _
      omega
  have h01 : (txAt (txts l) 0).length + (txAt (txts l) 1).length ≤ 100 * X.sizes l := by
    match l, hl with
    | [], _ => simp [txts_nil, txAt]
    | [a], hl =>
      have := hl a (by simp)
      rw [txts_cons, sizes_cons]
      show a.txt.length + (txAt (a.txt :: txts []) 1).length ≤ _
      rw [txts_nil]
      show a.txt.length + 0 ≤ _
      omega
    | a :: b :: r, hl =>
      have h1 := hl a (by simp)
      have h2 := hl b (by simp)
      rw [txts_cons, txts_cons, sizes_cons, sizes_cons]
      show a.txt.length + b.txt.length ≤ _
      omega
  have hc : (commas (txts l)).length ≤ 100 * X.sizes l := by
    refine Nat.le_trans (commas_len _) ?_
    clear h0 h01 ih hin hfl hform hlies
    induction l with
    | nil => simp [txts_nil]
    | cons a r ihr =>
      have h1 := hl a (by simp)
      have h2 := ihr fun b hb => hl b (by simp [hb])
      rw [txts_cons, sizes_cons, List.map_cons, List.sum_cons]
      omega
  have hn := form_name hform
  obtain ⟨ht1, ht2, ht3⟩ := form_type hform
  have hi := itoa_len h.n hok.n.1 hok.n.2
  have hy := tyText_len h.tk h.tz _ ht1 ht3 ht2
  have hs := sign_short h.k
  have p0 := fun b => part_len b (txAt (txts l) 0)
  have p1 := fun b => part_len b (txAt (txts l) 1)
  rw [txt_mk, size_mk]
  unfold nodeT
  repeat' split
  all_goals try simp only [List.length_append, List.length_cons, List.length_nil]
  · omega
  · omega
  · omega
  · have := p0 (headK (kdAt l 0)); omega
  · have := p0 (headK (kdAt l 0)); omega
  · omega
  · omega
  · have := p0 (pairK (kdAt l 0) || digs l); omega
  · have := p0 (pairK (kdAt l 0)); omega
  · have := p0 (pairK (kdAt l 0)); have := p1 (pairK (kdAt l 1)); omega
end Go.Proofs.YtflbplljlkpeiaaDoor
