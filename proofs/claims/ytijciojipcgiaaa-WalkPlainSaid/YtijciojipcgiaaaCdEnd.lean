/- With the transaction's loads and stores in place of own ones graphs are found alike, and tell the same. Nothing here speaks of memory. -/
import Derived.Test.YtijciojipcgiaaaWkLives
import Derived.Test.YtijciojipcgiaaaRows
import Derived.Test.YtijciojipcgiaaaCdCode
import Derived.Test.YtijciojipcgiaaaIrBoth
import Derived.Test.YtijciojipcgiaaaIrSizes
import Derived.LoopTactic
import Derived.LoopN
import Derived.WalkKit
import Derived.WalkSpells
import Derived.WalkLawsBesides
import Derived.Lib.Hide
namespace Go.Proofs.Ytijciojipcgiaaa
open Go Go.Lib Go.RowKit

def plainI (i : In) : In := if i.k = 10 then { i with k := 8 } else if i.k = 11 then { i with k := 9 } else i
def L2 {α β : Type} (R : α → β → Prop) : List α → List β → Prop
  | [], [] => True
  | a :: l, b :: m => R a b ∧ L2 R l m
  | _, _ => False
theorem L2.length {α β : Type} {R : α → β → Prop} : ∀ {l : List α} {m : List β}, L2 R l m → m.length = l.length
  | [], [], _ => rfl
  | _ :: _, _ :: _, h => by rw [List.length_cons, List.length_cons, L2.length h.2]
  | [], _ :: _, h => h.elim
  | _ :: _, [], h => h.elim
theorem L2.get {α β : Type} {R : α → β → Prop} : ∀ {l : List α} {m : List β}, L2 R l m → ∀ (i : Nat), (l[i]? = none ∧ m[i]? = none) ∨ ∃ a b, l[i]? = some a ∧ m[i]? = some b ∧ R a b
  | [], [], _, i => .inl ⟨by simp, by simp⟩
  | a :: _, b :: _, h, 0 => .inr ⟨a, b, rfl, rfl, h.1⟩
  | _ :: _, _ :: _, h, i + 1 => by simpa using L2.get h.2 i
  | [], _ :: _, h, _ => h.elim
  | _ :: _, [], h, _ => h.elim
theorem L2.of_get {α β : Type} {R : α → β → Prop} : ∀ {l : List α} {m : List β}, m.length = l.length → (∀ (i : Nat) a b, l[i]? = some a → m[i]? = some b → R a b) → L2 R l m
  | [], [], _, _ => trivial
  | a :: _, b :: _, hl, h => ⟨h 0 a b rfl rfl, L2.of_get (by simpa using hl) fun i x y hx hy => h (i + 1) x y (by simpa using hx) (by simpa using hy)⟩
  | [], _ :: _, hl, _ => by simp at hl
  | _ :: _, [], hl, _ => by simp at hl
structure BR (b b' : Bk) : Prop where
  ins : b'.ins = b.ins.map plainI
  last : b'.last = b.last
  reg : b'.reg = b.reg
  yes : b'.yes = b.yes
  no : b'.no = b.no
structure GR (g g' : Gr) : Prop where
  refs : g'.refs = g.refs
  sites : g'.sites = g.sites
  blocks : L2 BR g.blocks g'.blocks

/-! ### They are found alike -/
theorem plain_cases (i : In) : (i.k = 10 ∧ plainI i = { i with k := 8 }) ∨ (i.k = 11 ∧ plainI i = { i with k := 9 }) ∨ (i.k ≠ 10 ∧ i.k ≠ 11 ∧ plainI i = i) := by
  unfold plainI
  by_cases h1 : i.k = 10
  · exact .inl ⟨h1, by rw [if_pos h1]⟩
  · by_cases h2 : i.k = 11
    · exact .inr (.inl ⟨h2, by rw [if_neg h1, if_pos h2]⟩)
    · exact .inr (.inr ⟨h1, h2, by rw [if_neg h1, if_neg h2]⟩)
theorem insB_plain (R : List Bool) (W : Int) (M : List Bool) (i : In) : insB R W M (plainI i) = insB R W M i := by
  rcases plain_cases i with ⟨h, e⟩ | ⟨h, e⟩ | ⟨-, -, e⟩
  · rw [e]; simp [insB, inB, shaped, insHas, fitsB, h]
  · rw [e]; simp [insB, inB, shaped, insHas, fitsB, h]
  · rw [e]
theorem nextM_plain (R : List Bool) (W : Int) (M : List Bool) (i : In) : nextM R W M (plainI i) = nextM R W M i := by
  rcases plain_cases i with ⟨h, e⟩ | ⟨h, e⟩ | ⟨-, -, e⟩
  · rw [e]; simp [nextM, h]
  · rw [e]; simp [nextM, h]
  · rw [e]
theorem firstI_plain (R : List Bool) (W : Int) : ∀ (l : List In) (k : Nat) (M : List Bool), firstI R W k M (l.map plainI) = firstI R W k M l := by
  intro l
  induction l with
  | nil => intro k M; rfl
  | cons i l ih =>
    intro k M
    rw [List.map_cons, firstI, firstI, insB_plain, nextM_plain, ih]
theorem lastB_plain {b b' : Bk} (h : BR b b') (R : List Bool) (nb : Nat) : lastB R nb b' = lastB R nb b := by
  unfold lastB leadsB endI
  rw [h.last, h.reg, h.yes, h.no]
theorem firstB_plain (R : List Bool) (W : Int) (nb : Nat) : ∀ (l l' : List Bk) (n : Nat) (M : List Bool), L2 BR l l' → firstB R W nb n M l' = firstB R W nb n M l := by
  intro l
  induction l with
  | nil => intro l' n M h; cases l' with
    | nil => rfl
    | cons _ _ => exact h.elim
  | cons b l ih =>
    intro l' n M h
    cases l' with
    | nil => exact h.elim
    | cons b' l' =>
      rw [firstB, firstB, h.1.ins, firstI_plain, lastB_plain h.1, List.length_map]
      generalize firstI R W 0 M b.ins = r
      obtain ⟨x, y⟩ := r
      cases x with
      | some k => rfl
      | none => simp only; rw [ih l' _ _ h.2]
theorem behL_plain : ∀ (l : List In) (on : Nat), behL (l.map plainI) on = behL l on := by
  intro l
  induction l with
  | nil => intro on; rfl
  | cons i l ih =>
    intro on
    rw [List.map_cons, behL, behL, ih]
    congr 1
    rcases plain_cases i with ⟨h, e⟩ | ⟨h, e⟩ | ⟨-, -, e⟩
    · rw [e]; simp [behI, h]
    · rw [e]; simp [behI, h]
    · rw [e]
theorem nextL_plain {b b' : Bk} (h : BR b b') : nextL b' = nextL b := by
  unfold nextL
  rw [h.last, h.yes, h.no]
theorem goS_plain {l l' : List Bk} (h : L2 BR l l') : ∀ (f : Nat) (B : List Nat) (S : List (Nat × Nat)), goS l' f B S = goS l f B S := by
  intro f
  induction f with
  | zero => intro B S; rfl
  | succ f ih =>
    intro B S
    cases S with
    | nil => rfl
    | cons t S =>
      obtain ⟨t, on⟩ := t
      rw [goS, goS]
      split
      · rw [ih]
        congr 1
        rcases h.get t with ⟨e1, e2⟩ | ⟨b, b', e1, e2, hb⟩
        · rw [e1, e2]
        · rw [e1, e2]
          simp only
          rw [nextL_plain hb, hb.ins, behL_plain]
      · exact ih _ _
theorem beginsT_plain {l l' : List Bk} (h : L2 BR l l') : beginsT l' = beginsT l := by
  unfold beginsT
  rw [h.length, goS_plain h]
theorem sideK_plain (i : In) : sideK (plainI i).k = sideK i.k := by
  rcases plain_cases i with ⟨h, e⟩ | ⟨h, e⟩ | ⟨-, -, e⟩
  · rw [e]; simp [sideK, h]
  · rw [e]; simp [sideK, h]
  · rw [e]
theorem behI_plain (i : In) (on : Nat) : behI (plainI i).k on = behI i.k on := by
  rcases plain_cases i with ⟨h, e⟩ | ⟨h, e⟩ | ⟨-, -, e⟩
  · rw [e]; simp [behI, h]
  · rw [e]; simp [behI, h]
  · rw [e]
theorem misI_plain : ∀ (l : List In) (k on : Nat), misI k on (l.map plainI) = misI k on l := by
  intro l
  induction l with
  | nil => intro k on; rfl
  | cons i l ih =>
    intro k on
    rw [List.map_cons, misI, misI, sideK_plain, behI_plain, ih]
theorem misB_plain (B : List Nat) : ∀ (l l' : List Bk) (n : Nat), L2 BR l l' → misB B n l' = misB B n l := by
  intro l
  induction l with
  | nil => intro l' n h; cases l' with
    | nil => rfl
    | cons _ _ => exact h.elim
  | cons b l ih =>
    intro l' n h
    cases l' with
    | nil => exact h.elim
    | cons b' l' =>
      rw [misB, misB, h.1.ins, misI_plain, h.1.last, List.length_map, ih l' _ h.2]
theorem longB_plain : ∀ (l l' : List Bk) (n : Int), L2 BR l l' → longB n l' = longB n l := by
  intro l
  induction l with
  | nil => intro l' n h; cases l' with
    | nil => rfl
    | cons _ _ => exact h.elim
  | cons b l ih =>
    intro l' n h
    cases l' with
    | nil => exact h.elim
    | cons b' l' =>
      rw [longB, longB, h.1.ins, List.length_map, ih l' _ h.2]
theorem checkG_plain {g g' : Gr} (h : GR g g') (W : Int) : checkG W g' = checkG W g := by
  have hs : sizesE g' = sizesE g := by
    unfold sizesE
    rw [h.refs, h.sites, h.blocks.length, longB_plain _ _ _ h.blocks]
  unfold checkG sidesT
  rw [hs, h.refs, h.sites, h.blocks.length, firstB_plain _ _ _ _ _ _ _ h.blocks, beginsT_plain h.blocks, misB_plain _ _ _ _ h.blocks]
theorem checkL_plain (W : Int) : ∀ (l l' : List Gr) (n : Nat), L2 GR l l' → checkL W n l' = checkL W n l := by
  intro l
  induction l with
  | nil => intro l' n h; cases l' with
    | nil => rfl
    | cons _ _ => exact h.elim
  | cons b l ih =>
    intro l' n h
    cases l' with
    | nil => exact h.elim
    | cons b' l' => rw [checkL, checkL, checkG_plain h.1, ih l' _ h.2]
theorem checkC_plain {l l' : List Gr} (h : L2 GR l l') (W : Int) : checkC W l' = checkC W l := by
  unfold checkC
  rw [h.length, checkL_plain W l l' 0 h]

/-! ### They tell the same -/
structure SR (W W' : WS) : Prop where
  words : W'.words = W.words
  str : W'.strange = false
theorem undoA_rel : ∀ (l : List Un) (W W' : WS) (T : TS), SR W W' → SR (undoA l W T).1 (undoA l W' T).1 ∧ (undoA l W' T).2 = (undoA l W T).2 := by
  intro l
  induction l with
  | nil => intro W W' T h; exact ⟨h, rfl⟩
  | cons u l ih =>
    intro W W' T h
    cases u with
    | put a x => exact ih _ _ _ ⟨by show W'.words.set a x = W.words.set a x; rw [h.words], h.str⟩
    | cut => exact ih _ _ _ ⟨by show W'.words.take T.since = W.words.take T.since; rw [h.words], h.str⟩
def DR (r r' : WS × TS × Bool) : Prop := SR r.1 r'.1 ∧ r'.2 = r.2
theorem failT_rel {W W' : WS} (h : SR W W') (T : TS) (e : Int) : DR (failT W T e) (failT W' T e) := by
  obtain ⟨h1, h2⟩ := undoA_rel T.undo W W' T h
  refine ⟨h1, ?_⟩
  unfold failT
  simp only [h2]
theorem hasW_rel {W W' : WS} (h : SR W W') (a : Int) : hasW W' a = hasW W a := by unfold hasW; rw [h.words]
theorem loadT_rel {W W' : WS} (h : SR W W') (T : TS) (i j : In) (ha : j.a = i.a) (hm : metA T j = metA T i) : DR (loadT W T i) (loadT W' T j) := by
  unfold loadT
  rw [hm, ha, hasW_rel h, h.words]
  split
  · exact ⟨h, rfl⟩
  · exact failT_rel h T 8
theorem storeT_rel {W W' : WS} (h : SR W W') (T : TS) (i j : In) (ha : j.a = i.a) (hm : metA T j = metA T i) : DR (storeT W T i) (storeT W' T j) := by
  unfold storeT
  rw [hm, ha, hasW_rel h, h.words]
  split
  · exact ⟨⟨rfl, h.str⟩, rfl⟩
  · exact failT_rel h T 8
theorem ownT_words (W : WS) (T : TS) (i : In) : (ownT W T i).words = W.words := by unfold ownT; split <;> rfl
theorem DR.ite {c : Prop} [Decidable c] {a b a' b' : WS × TS × Bool} (h1 : DR a a') (h2 : DR b b') : DR (if c then a else b) (if c then a' else b') := by
  by_cases h : c
  · rw [if_pos h, if_pos h]; exact h1
  · rw [if_neg h, if_neg h]; exact h2
theorem deedT_rel {W W' : WS} (h : SR W W') (T : TS) (i : In) : DR (deedT W T i) (deedT W' T (plainI i)) := by
  rcases plain_cases i with ⟨hk, e⟩ | ⟨hk, e⟩ | ⟨h1, h2, e⟩
  · rw [e]
    have e1 : deedT W T i = loadT (ownT W T i) T i := by simp [deedT, hk]
    have e2 : deedT W' T { i with k := 8 } = loadT W' T { i with k := 8 } := by simp [deedT]
    rw [e1, e2]
    exact loadT_rel ⟨by rw [ownT_words]; exact h.words, h.str⟩ T i _ rfl rfl
  · rw [e]
    have e1 : deedT W T i = storeT (ownT W T i) T i := by simp [deedT, hk]
    have e2 : deedT W' T { i with k := 9 } = storeT W' T { i with k := 9 } := by simp [deedT]
    rw [e1, e2]
    exact storeT_rel ⟨by rw [ownT_words]; exact h.words, h.str⟩ T i _ rfl rfl
  · rw [e]
    unfold deedT
    rw [h.words, if_neg h1, if_neg h1, if_neg h2, if_neg h2]
    repeat' first | exact loadT_rel h T i i rfl rfl | exact storeT_rel h T i i rfl rfl | exact failT_rel h T _ | apply DR.ite
    all_goals first
      | exact ⟨h, rfl⟩
      | exact ⟨⟨rfl, h.str⟩, rfl⟩
      | exact loadT_rel h T i i rfl rfl
      | exact storeT_rel h T i i rfl rfl
      | exact failT_rel h T _
theorem lastT_plain {b b' : Bk} (h : BR b b') (T : TS) : lastT T b' = lastT T b := by
  unfold lastT
  rw [h.last, h.reg, h.yes, h.no]
theorem nextT_rel {g g' : Gr} (hg : GR g g') {W W' : WS} (h : SR W W') (T : TS) : DR (nextT g W T) (nextT g' W' T) := by
  unfold nextT
  rcases hg.blocks.get T.bi with ⟨e1, e2⟩ | ⟨b, b', e1, e2, hb⟩
  · rw [e1, e2]; exact ⟨h, rfl⟩
  · rw [e1, e2]
    simp only
    rw [hb.ins, List.getElem?_map]
    cases b.ins[T.ii]? with
    | none => exact ⟨h, by rw [lastT_plain hb]; rfl⟩
    | some i => exact deedT_rel h _ i
theorem goT_rel {g g' : Gr} (hg : GR g g') : ∀ (n : Nat) {W W' : WS} (T : TS), SR W W' → (goT g' n W' T).1 = (goT g n W T).1 ∧ SR (goT g n W T).2.1 (goT g' n W' T).2.1 ∧ (goT g' n W' T).2.2 = (goT g n W T).2.2 := by
  intro n
  induction n with
  | zero => intro W W' T h; exact ⟨rfl, h, rfl⟩
  | succ n ih =>
    intro W W' T h
    have hr := nextT_rel hg h T
    rw [goT, goT]
    generalize nextT g W T = r at hr
    generalize nextT g' W' T = r' at hr
    obtain ⟨W1, T1, b1⟩ := r
    obtain ⟨W2, T2, b2⟩ := r'
    obtain ⟨h1, h2⟩ := hr
    simp only [Prod.mk.injEq] at h2
    obtain ⟨rfl, rfl⟩ := h2
    cases b2 with
    | true => exact ⟨rfl, h1, rfl⟩
    | false => exact ih _ h1
theorem leapT_rel {g g' : Gr} (hg : GR g g') (n : Nat) {W W' : WS} (T : TS) (h : SR W W') : (leapT g' n W' T).1 = (leapT g n W T).1 ∧ SR (leapT g n W T).2.1 (leapT g' n W' T).2.1 ∧ (leapT g' n W' T).2.2 = (leapT g n W T).2.2 := by
  unfold leapT
  cases T.waiting with
  | cons x r => exact ⟨rfl, h, rfl⟩
  | nil =>
    simp only
    split
    · exact ⟨rfl, h, rfl⟩
    · exact goT_rel hg n T h
structure RR (s s' : RS) : Prop where
  n : s'.n = s.n
  W : SR s.W s'.W
  T : s'.T = s.T
theorem runP_rel {gs gs' : List Gr} (hg : L2 GR gs gs') : ∀ (ps : List Int) (s s' : RS), RR s s' → RR (runP gs ps s).1 (runP gs' ps s').1 ∧ (runP gs' ps s').2 = (runP gs ps s).2 := by
  intro ps
  induction ps with
  | nil => intro s s' h; exact ⟨h, rfl⟩
  | cons p ps ih =>
    intro s s' h
    rw [runP, runP, hg.length]
    split
    · exact ih s s' h
    · rw [h.T]
      rcases hg.get p.toNat with ⟨e1, e2⟩ | ⟨g, g', e1, e2, hgg⟩
      · rw [e1, e2]; exact ih s s' h
      · rw [e1, e2]
        cases s.T[p.toNat]? with
        | none => exact ih s s' h
        | some T =>
          simp only
          obtain ⟨h1, h2, h3⟩ := leapT_rel hgg s.n T h.W
          rw [h.n, h1, h3]
          split
          · exact ih _ _ ⟨rfl, h2, rfl⟩
          · exact ⟨⟨rfl, h2, rfl⟩, rfl⟩
end Go.Proofs.Ytijciojipcgiaaa
namespace Go.Proofs.Ytijciojipcgiaaa
open Go Go.Lib Go.RowKit
set_option maxRecDepth 100000

theorem pw_sub {α : Type} {f : α → List Nat} : ∀ {l : List α}, (l.flatMap f).Pairwise (· < ·) → ∀ a ∈ l, (f a).Pairwise (· < ·)
  | [], _, a, ha => by cases ha
  | b :: l, h, a, ha => by
    rw [List.flatMap_cons, List.pairwise_append] at h
    rcases List.mem_cons.1 ha with rfl | ha
    · exact h.1
    · exact pw_sub h.2.1 a ha
theorem pw_flat {α : Type} {f : α → List Nat} : ∀ {l : List α}, (l.flatMap f).Pairwise (· < ·) → ∀ {i j : Nat} {a b : α} {x : Nat}, l[i]? = some a → l[j]? = some b → x ∈ f a → x ∈ f b → i = j
  | [], _, i, _, _, _, _, ha, _, _, _ => by simp at ha
  | c :: l, h, i, j, a, b, x, ha, hb, hxa, hxb => by
    rw [List.flatMap_cons, List.pairwise_append] at h
    cases i with
    | zero =>
      cases j with
      | zero => rfl
      | succ j =>
        simp at ha hb
        subst ha
        exact absurd (h.2.2 x hxa x (List.mem_flatMap.2 ⟨b, List.mem_of_getElem? hb, hxb⟩)) (Nat.lt_irrefl x)
    | succ i =>
      cases j with
      | zero =>
        simp at ha hb
        subst hb
        exact absurd (h.2.2 x hxb x (List.mem_flatMap.2 ⟨a, List.mem_of_getElem? ha, hxa⟩)) (Nat.lt_irrefl x)
      | succ j => exact congrArg (· + 1) (pw_flat h.2.1 (i := i) (j := j) (by simpa using ha) (by simpa using hb) hxa hxb)
/-- The blocks of memory that hold instructions. -/
def insIds (l : List Gr) : List Nat := l.flatMap fun a => a.blocks.flatMap Bk.id
theorem insIds_mem {l : List Gr} {x : Nat} (h : x ∈ insIds l) : ∃ (i : Nat) (a : Gr) (k : Nat) (b : Bk), l[i]? = some a ∧ a.blocks[k]? = some b ∧ x = ibOf b.iv := by
  obtain ⟨a, ha, hx⟩ := List.mem_flatMap.1 h
  obtain ⟨b, hb, hx⟩ := List.mem_flatMap.1 hx
  obtain ⟨i, hi, rfl⟩ := List.getElem_of_mem ha
  obtain ⟨k, hk, rfl⟩ := List.getElem_of_mem hb
  exact ⟨i, _, k, _, List.getElem?_eq_getElem hi, List.getElem?_eq_getElem hk, by simpa [Bk.id] using hx⟩
theorem mem_insIds {l : List Gr} {i k : Nat} {a : Gr} {b : Bk} (ha : l[i]? = some a) (hb : a.blocks[k]? = some b) : ibOf b.iv ∈ insIds l :=
  List.mem_flatMap.2 ⟨a, List.mem_of_getElem? ha, List.mem_flatMap.2 ⟨b, List.mem_of_getElem? hb, by simp [Bk.id]⟩⟩
section
variable {v : World} {B tb : Nat} {l : List Gr}
theorem ins_id {a : Gr} {k : Nat} {b : Bk} (hb : a.blocks[k]? = some b) : ibOf b.iv ∈ a.id := by
  simp only [Gr.id, List.mem_cons]
  exact .inr (.inr (List.mem_flatMap.2 ⟨b, List.mem_of_getElem? hb, by simp [Bk.id]⟩))
theorem KC.inj (h : KC v B tb l) {i j k m : Nat} {a a' : Gr} {b b' : Bk} (ha : l[i]? = some a) (hb : a.blocks[k]? = some b) (ha' : l[j]? = some a') (hb' : a'.blocks[m]? = some b') (e : ibOf b.iv = ibOf b'.iv) : i = j ∧ k = m := by
  have hij := pw_flat h.ord ha ha' (ins_id hb) (e ▸ ins_id hb')
  subst hij
  rw [ha] at ha'
  cases ha'
  have hp := pw_sub h.ord a (List.mem_of_getElem? ha)
  have hp2 : (a.blocks.flatMap Bk.id).Pairwise (· < ·) := by
    unfold Gr.id at hp
    exact (List.pairwise_cons.1 (List.pairwise_cons.1 hp).2).2
  exact ⟨rfl, pw_flat (x := ibOf b.iv) hp2 hb hb' (by simp [Bk.id]) (by rw [e]; simp [Bk.id])⟩
theorem KC.bounds (h : KC v B tb l) {x : Nat} (hx : x ∈ insIds l) : tb < x ∧ x < B := by
  obtain ⟨i, a, k, b, ha, hb, rfl⟩ := insIds_mem hx
  have hm := List.mem_of_getElem? ha
  exact ⟨h.up _ (List.mem_flatMap.2 ⟨a, hm, ins_id hb⟩), ((h.each a hm).each b (List.mem_of_getElem? hb)).lt⟩
theorem KC.head (h : KC v B tb l) {a : Gr} (ha : a ∈ l) : ibOf a.rv ∉ insIds l ∧ ibOf a.bv ∉ insIds l := by
  obtain ⟨i, hi, rfl⟩ := List.getElem_of_mem ha
  have hg : l[i]? = some l[i] := List.getElem?_eq_getElem hi
  have hp := pw_sub h.ord _ ha
  unfold Gr.id at hp
  have h1 := List.pairwise_cons.1 hp
  have h2 := List.pairwise_cons.1 h1.2
  constructor
  · intro hx
    obtain ⟨j, a', k, b, ha', hb, e⟩ := insIds_mem hx
    have hij := pw_flat h.ord hg ha' (x := ibOf l[i].rv) (by simp [Gr.id]) (e ▸ ins_id hb)
    subst hij
    rw [hg] at ha'
    cases ha'
    have := h1.1 (ibOf b.iv) (List.mem_cons.2 (.inr (List.mem_flatMap.2 ⟨b, List.mem_of_getElem? hb, by simp [Bk.id]⟩)))
    omega
  · intro hx
    obtain ⟨j, a', k, b, ha', hb, e⟩ := insIds_mem hx
    have hij := pw_flat h.ord hg ha' (x := ibOf l[i].bv) (by simp [Gr.id]) (e ▸ ins_id hb)
    subst hij
    rw [hg] at ha'
    cases ha'
    have := h2.1 (ibOf b.iv) (List.mem_flatMap.2 ⟨b, List.mem_of_getElem? hb, by simp [Bk.id]⟩)
    omega
end
/-- The instructions of block k' of thread i', when the writing stands at p. -/
def insAt (p : Nat × Nat × Nat) (i k : Nat) (l : List In) : List In :=
  if i < p.1 ∨ (i = p.1 ∧ k < p.2.1) then l.map plainI else if i = p.1 ∧ k = p.2.1 then (l.take p.2.2).map plainI ++ l.drop p.2.2 else l
theorem insAt_len (p : Nat × Nat × Nat) (i k : Nat) (l : List In) : (insAt p i k l).length = l.length := by
  unfold insAt
  split
  · simp
  · split
    · simp; omega
    · rfl
theorem insAt_here (i k n : Nat) (l : List In) : insAt (i, k, n) i k l = (l.take n).map plainI ++ l.drop n := by
  unfold insAt
  rw [if_neg (by simp), if_pos ⟨rfl, rfl⟩]
theorem insAt_block {i k n i' k' : Nat} {l : List In} (h : i' = i → k' = k → l.length ≤ n) : insAt (i, k, n) i' k' l = insAt (i, k + 1, 0) i' k' l := by
  unfold insAt
  simp only
  by_cases h1 : i' < i ∨ (i' = i ∧ k' < k)
  · rw [if_pos h1, if_pos (by omega)]
  · by_cases h2 : i' = i ∧ k' = k
    · have := h h2.1 h2.2
      rw [if_neg h1, if_pos h2, if_pos (by omega), List.take_of_length_le this, List.drop_of_length_le this, List.append_nil]
    · rw [if_neg h1, if_neg h2, if_neg (by omega)]
      by_cases h3 : i' = i ∧ k' = k + 1
      · rw [if_pos h3]; simp
      · rw [if_neg h3]
theorem insAt_thread {i m i' k' : Nat} {l : List In} (h : i' = i → k' < m) : insAt (i, m, 0) i' k' l = insAt (i + 1, 0, 0) i' k' l := by
  unfold insAt
  simp only
  by_cases h1 : i' < i ∨ (i' = i ∧ k' < m)
  · rw [if_pos h1, if_pos (by omega)]
  · have h2 : ¬ i' = i := fun e => h1 (.inr ⟨e, h e⟩)
    rw [if_neg h1, if_neg (by omega), if_neg (by omega)]
    by_cases h3 : i' = i + 1 ∧ k' = 0
    · rw [if_pos h3]; simp
    · rw [if_neg h3]
theorem insAt_start (i' k' : Nat) (l : List In) : insAt (0, 0, 0) i' k' l = l := by
  unfold insAt
  rw [if_neg (by simp)]
  split
  · simp
  · rfl
theorem insAt_end {N i' k' : Nat} {l : List In} (h : i' < N) : insAt (N, 0, 0) i' k' l = l.map plainI := by
  unfold insAt
  rw [if_pos (.inl h)]
/-- The writing stands at p. -/
structure PM (w5 wr : World) (l : List Gr) (p : Nat × Nat × Nat) : Prop where
  os : wr.os = w5.os
  tape : wr.tape = w5.tape
  output : wr.output = w5.output
  size : wr.heap.size = w5.heap.size
  rest : ∀ x, x ∉ insIds l → wr.heap[x]? = w5.heap[x]?
  rows : ∀ (i : Nat) a (k : Nat) b, l[i]? = some a → a.blocks[k]? = some b → ∃ R t, wr.heap[ibOf b.iv]? = some (.cells R 53 (0, 0)) ∧ R.toList = (insAt p i k b.ins).flatMap In.cells ++ t
theorem PM.start {w5 : World} {B tb : Nat} {l : List Gr} (h : KC w5 B tb l) : PM w5 w5 l (0, 0, 0) :=
  ⟨rfl, rfl, rfl, rfl, fun _ _ => rfl, fun i a k b ha hb => by
    obtain ⟨ib, R, e, -, h1, h2, -⟩ := (h.each a (List.mem_of_getElem? ha)).each b (List.mem_of_getElem? hb)
    rw [e, insAt_start]
    exact ⟨R, _, h1, h2⟩⟩
theorem PM.move {w5 wr : World} {l : List Gr} {p q : Nat × Nat × Nat} (h : PM w5 wr l p) (he : ∀ (i : Nat) a (k : Nat) b, l[i]? = some a → a.blocks[k]? = some b → insAt p i k b.ins = insAt q i k b.ins) : PM w5 wr l q :=
  ⟨h.os, h.tape, h.output, h.size, h.rest, fun i a k b ha hb => by rw [← he i a k b ha hb]; exact h.rows i a k b ha hb⟩
theorem PM.below {w5 wr : World} {l : List Gr} {p : Nat × Nat × Nat} {B tb : Nat} (h : PM w5 wr l p) (hk : KC w5 B tb l) : Below (tb + 1) w5 wr :=
  ⟨h.os, h.tape, h.output, by rw [h.size]; exact Nat.le_refl _, fun x hx => h.rest x fun hm => by have := (hk.bounds hm).1; omega⟩
/-- The instruction at which the writing stands: its kind is read, and the row with another kind in its place. -/
theorem flat_set (l : List In) (t : List Value) (n : Nat) (i : In) (hi : l[n]? = some i) (u : Int) : (l.flatMap In.cells ++ t).set (n * 6) (.int .u8 u) = (l.set n { i with k := u }).flatMap In.cells ++ t := by
  induction l generalizing n with
  | nil => simp at hi
  | cons a l ih =>
    cases n with
    | zero =>
      simp at hi
      subst hi
      simp [In.cells]
    | succ n =>
      have e : (n + 1) * 6 = 6 + n * 6 := by omega
      rw [e]
      have h6 : (In.cells a).length = 6 := rfl
      rw [List.flatMap_cons, List.append_assoc, List.set_append_right _ _ (by omega), h6, Nat.add_sub_cancel_left, ih n (by simpa using hi), List.set_cons_succ, List.flatMap_cons, List.append_assoc]
theorem set_self {α : Type} : ∀ (l : List α) (n : Nat) (x : α), l[n]? = some x → l.set n x = l
  | [], n, x, h => by simp at h
  | a :: l, 0, x, h => by simp at h; subst h; rfl
  | a :: l, n + 1, x, h => by rw [List.set_cons_succ, set_self l n x (by simpa using h)]
theorem take_set (l : List In) (n : Nat) (i : In) (hi : l[n]? = some i) : ((l.take n).map plainI ++ l.drop n).set n (plainI i) = (l.take (n + 1)).map plainI ++ l.drop (n + 1) := by
  have hn := (List.getElem?_eq_some_iff.1 hi).1
  have hl : ((l.take n).map plainI).length = n := by simp; omega
  rw [List.set_append_right _ _ (by omega), hl, Nat.sub_self, List.drop_eq_getElem_cons hn, List.set_cons_zero, List.take_succ_eq_append_getElem hn, (List.getElem?_eq_some_iff.1 hi).2]
  simp
theorem take_at (l : List In) (n : Nat) (i : In) (hi : l[n]? = some i) : ((l.take n).map plainI ++ l.drop n)[n]? = some i := by
  have hn := (List.getElem?_eq_some_iff.1 hi).1
  have hl : ((l.take n).map plainI).length = n := by simp; omega
  rw [List.getElem?_append_right (by omega), hl, Nat.sub_self, List.drop_eq_getElem_cons hn, (List.getElem?_eq_some_iff.1 hi).2]
  rfl
structure PAt (w5 wr : World) (l : List Gr) (i k n ib : Nat) (x : In) : Prop where
  cell : wr.cell? ⟨ib, n * 6, none⟩ = some (.int .u8 x.k)
  frozen : wr.frozen? ⟨ib, n * 6, none⟩ = false
  same : plainI x = x → PM w5 wr l (i, k, n + 1)
  other : ∀ u, plainI x = { x with k := u } → PM w5 (wr.setCell ⟨ib, n * 6, none⟩ (.int .u8 u)) l (i, k, n + 1)
theorem PM.at {w5 wr : World} {B tb : Nat} {l : List Gr} {i k n : Nat} (h : PM w5 wr l (i, k, n)) (hk : KC w5 B tb l) {a : Gr} {b : Bk} {x : In} (ha : l[i]? = some a) (hb : a.blocks[k]? = some b) (hx : b.ins[n]? = some x) : PAt w5 wr l i k n (ibOf b.iv) x := by
  obtain ⟨R, t, h1, h2⟩ := h.rows i a k b ha hb
  rw [insAt_here] at h2
  have hat := take_at b.ins n x hx
  have hc := flat_at kcells_len _ t n x hat 0 _ (show (In.cells x)[0]? = some (.int .u8 x.k) from rfl)
  rw [Nat.add_zero, ← h2, Array.getElem?_toList] at hc
  have hset : ∀ u, plainI x = { x with k := u } → PM w5 (wr.setCell ⟨ibOf b.iv, n * 6, none⟩ (.int .u8 u)) l (i, k, n + 1) := by
    intro u hu
    refine ⟨h.os, h.tape, h.output, by rw [← h.size]; simp [World.setCell], fun y hy => (Below.heap_setCell _ _ _ _ (fun e => hy (by rw [show y = ibOf b.iv from e]; exact mem_insIds ha hb))).trans (h.rest y hy), fun i' a' k' b' ha' hb' => ?_⟩
    by_cases he : ibOf b'.iv = ibOf b.iv
    · obtain ⟨rfl, rfl⟩ := hk.inj ha' hb' ha hb he
      rw [ha] at ha'
      cases ha'
      rw [hb] at hb'
      cases hb'
      refine ⟨R.setIfInBounds (n * 6) (.int .u8 u), t, (put_cell h1).at_b, ?_⟩
      rw [Array.toList_setIfInBounds, h2, flat_set _ t n x hat u, insAt_here, ← hu, take_set b.ins n x hx]
    · obtain ⟨R', t', h1', h2'⟩ := h.rows i' a' k' b' ha' hb'
      refine ⟨R', t', (Below.heap_setCell _ _ _ _ (fun e => he e)).trans h1', ?_⟩
      rw [h2']
      congr 2
      unfold insAt
      simp only
      have hne : ¬ (i' = i ∧ k' = k) := fun ⟨e1, e2⟩ => by
        subst e1 e2
        rw [ha] at ha'
        cases ha'
        rw [hb] at hb'
        cases hb'
        exact he rfl
      rw [if_neg hne, if_neg hne]
  refine ⟨by rw [Lib.cell_of_heap h1]; exact hc, Lib.frozen_of_heap h1 _, fun hs => h.move fun i' a' k' b' ha' hb' => ?_, hset⟩
  unfold insAt
  simp only
  by_cases h1 : i' < i ∨ (i' = i ∧ k' < k)
  · rw [if_pos h1, if_pos h1]
  · rw [if_neg h1, if_neg h1]
    by_cases h3 : i' = i ∧ k' = k
    · obtain ⟨rfl, rfl⟩ := h3
      rw [ha] at ha'
      cases ha'
      rw [hb] at hb'
      cases hb'
      rw [if_pos ⟨rfl, rfl⟩, if_pos ⟨rfl, rfl⟩, ← take_set b.ins n x hx, hs, set_self _ n x hat]
    · rw [if_neg h3, if_neg h3]
end Go.Proofs.Ytijciojipcgiaaa
namespace Go.Proofs.Ytijciojipcgiaaa
open Go.RowKit
set_option maxRecDepth 100000
/-- A size; where it is not too much, so it is. -/
def SizeQ (P : Prop) (e : Ending) : Prop := ∃ n : Int, e = .returned (.int .i64 n) ∧ 0 ≤ n ∧ n ≤ 262145 ∧ (n ≤ 262144 → P)
theorem counted_q (r : Int) (h0 : -9223372036854775808 ≤ r) (h1 : r ≤ 262144) (w : World) : Calls Try.prog 13 #[.int .i64 r] w fun e w' => SizeQ (0 ≤ r) e ∧ w = w' := by
  by_cases h : r < 0
  · go_enter Try.func13, Try.ntmps13
    go_wp2_with fail
    go_ret
    exact ⟨⟨262145, rfl, by omega, by omega, fun h => by first | (exfalso; omega) | trivial⟩, rfl⟩
  · go_enter Try.func13, Try.ntmps13
    go_wp2_with fail
    go_ret
    exact ⟨⟨262144 - r, rfl, by omega, by omega, fun _ => by first | trivial | omega⟩, rfl⟩
/-- No row of a graph is longer than what is copied at most. -/
def GSm (g : Gr) : Prop := g.refs.length ≤ 262144 ∧ g.blocks.length ≤ 262144 ∧ ∀ b ∈ g.blocks, b.ins.length ≤ 262144
set_option maxHeartbeats 8000000 in
theorem gsize_q (B : Nat) (g : Gr) (w : World) (hI : GIn w B g) (hBw : B ≤ w.heap.size) :
    Calls Try.prog 12 #[.agg #[g.rv, .int .i64 g.sites, g.bv]] w fun e w' => SizeQ (GSm g) e ∧ Below w.heap.size w w' := by
  have r1 := hI.rlies.room
  have r2 := hI.blies.room
  obtain ⟨ro, rc, er, hrl, -⟩ := hI.rlies.form
  obtain ⟨bo, bcp, eb, hbl, hbg⟩ := hI.blies.form
  have HBL := Lib.hid hI.blies
  have HBI := Lib.hid hI.blocks
  clear hI
  have hQ : ∀ r : Int, 0 ≤ r → r ≤ 262144 - (g.refs.length : Int) - (g.blocks.length : Int) → (∀ (j : Nat) b, j < g.blocks.length → g.blocks[j]? = some b → (b.ins.length : Int) ≤ 262144 - r) → GSm g := fun r hr h1 h2 => ⟨by omega, by omega, fun b hb => by
    obtain ⟨j, hj, rfl⟩ := List.getElem_of_mem hb
    have := h2 j _ hj (List.getElem?_eq_getElem hj)
    omega⟩
  obtain ⟨PG, hPG⟩ : ∃ P, P = GSm g := ⟨_, rfl⟩
  rw [← hPG] at hQ ⊢
  clear hPG
  obtain ⟨rv, refs, sites, bv, blocks⟩ := g
  simp only at *
  subst er eb
  obtain ⟨N1, hN1⟩ : ∃ N, N = refs.length := ⟨_, rfl⟩
  obtain ⟨N2, hN2⟩ : ∃ N, N = blocks.length := ⟨_, rfl⟩
  rw [← hN1, ← hN2] at hQ ⊢
  rw [← hN1] at hrl r1
  rw [← hN2] at hbl r2 hbg HBL
  obtain ⟨W0, hW0⟩ : ∃ W0, W0 = w.alloc (.cells #[.slice ro N1 rc, .int .i64 sites, .slice bo N2 bcp] 45) := ⟨_, rfl⟩
  have hB0 : Below w.heap.size w W0 := by rw [hW0]; exact below_box w _
  have hlt0 : w.heap.size + 1 = W0.heap.size := by rw [hW0]; simp
  have hO : W0.heap[w.heap.size]? = some (.cells #[.slice ro N1 rc, .int .i64 sites, .slice bo N2 bcp] 45 (0, 0)) := by rw [hW0]; exact (MapKept.heap_alloc _ _).1
  obtain ⟨q0, q1, q2⟩ := own3 hO
  rw [hW0] at q0 q1 q2
  have HN2 := Lib.hid hN2
  have HQ := Lib.hid hQ
  clear hQ
  have HG2 := Lib.hid hbg
  have HB0 := Lib.hid hB0
  have HZ0 := Lib.hid hlt0
  have HO := Lib.hid hO
  have HW0 := Lib.hid hW0
  clear hN1 hN2 hbg hB0 hlt0 hO hW0
  go_enter Try.func12, Try.ntmps12
  go_wp2_with fail
  rw [← HW0.out]
  clear q0 q1 q2
  go_loopw [3, 4] (fun m q wr => ∃ k : Nat, k ≤ N2 ∧ q = .int .i64 k ∧ ∃ r : Int, m = .int .i64 r ∧ -600000000000000 ≤ r ∧ r ≤ 262144 ∧ Hid (r ≤ 262144 - (N1 : Int) - (N2 : Int) ∧ ∀ (j : Nat) b, j < k → blocks[j]? = some b → (b.ins.length : Int) ≤ 262144 - r) ∧ Below W0.heap.size W0 wr) (fun _ q _ => N2 - (intOf q).toNat)
  case atStart => exact ⟨0, by omega, rfl, 262144 - (N1 : Int) - (N2 : Int), rfl, by omega, by omega, Lib.hid ⟨by omega, fun j b hj => by omega⟩, Below.refl _ _⟩
  case round =>
    obtain ⟨k, hkN, rfl, r, rfl, hr0, hr1, HI2, hB⟩ := hrel
    have hsr := hB.size
    have hBw' : Below w.heap.size w wr := HB0.out.trans (hB.mono (by have := HZ0.out; omega))
    have hsz : w.heap.size < wr.heap.size := by have := HZ0.out; omega
    have hOr := (hB.block w.heap.size (by have := HZ0.out; omega)).trans HO.out
    obtain ⟨q0, q1, q2⟩ := own3 hOr
    clear hOr
    by_cases hlt2 : k < N2 ∧ 0 ≤ r
    · obtain ⟨hlt2, hrp⟩ := hlt2
      obtain ⟨g, off, rfl, hg⟩ := HG2.out (by omega)
      have hka : k < blocks.length := by rw [← HN2.out]; exact hlt2
      have hat := ((HBL.out.below (hBw'.mono hBw)).at rfl k hka).2
      have ha := HBI.out _ (List.getElem_mem hka)
      have hbk : blocks[k]? = some blocks[k] := List.getElem?_eq_getElem hka
      generalize blocks[k] = a at hat ha hbk
      have hgs : g < wr.heap.size := by omega
      obtain ⟨p0, p1, p2, p3, p4⟩ := bc hat
      obtain ⟨ao, ac, ea, -⟩ := ha.lies.form
      have hra := ha.lies.room
      rw [ea] at p0
      have HB := Lib.hid hB
      have HI3 := Lib.hid (show r - (a.ins.length : Int) ≤ 262144 - (N1 : Int) - (N2 : Int) ∧ ∀ (j : Nat) b, j < k + 1 → blocks[j]? = some b → (b.ins.length : Int) ≤ 262144 - (r - (a.ins.length : Int)) from ⟨by have := HI2.out.1; omega, fun j b hj hb => by
        by_cases hjk : j = k
        · subst hjk
          rw [hbk] at hb
          cases hb
          have := HI2.out.1
          omega
        · have := HI2.out.2 j b (by omega) hb
          omega⟩)
      clear hbk
      clear hka hat ha ea hB hBw' p1 p2 p3 p4
      go_wp2_with fail
      go_roundw
      case rel => exact ⟨k + 1, by omega, by go_num, r - (a.ins.length : Int), by go_num, by omega, by omega, HI3, HB.out⟩
      case measure => simp [intOf]; omega
    · have hor : ¬ k < N2 ∨ (k < N2 ∧ r < 0) := by
        by_cases h : k < N2
        · exact .inr ⟨h, by by_cases h2 : 0 ≤ r; exact absurd ⟨h, h2⟩ hlt2; omega⟩
        · exact .inl h
      have HB9 := Lib.hid hBw'
      have HC := Lib.hid (counted_q r (by omega) hr1 wr)
      clear hlt2 hB hBw'
      rcases hor with hor | ⟨hor, hneg⟩
      all_goals
        go_wp2_with fail
        refine HC.out.mono ?_; rintro e w3 ⟨⟨n, rfl, hn0, hn1, hn2⟩, rfl⟩
        have HNQ := Lib.hid hn2
        clear hn2
        go_wp2_with fail
        go_ret
        refine ⟨⟨n, rfl, hn0, hn1, fun h => ?_⟩, HB9.out⟩
        first
          | (exfalso; have := HNQ.out h; omega)
          | (have hkn : k = N2 := by omega
             subst hkn
             exact HQ.out r (HNQ.out h) HI2.out.1 HI2.out.2)
set_option maxHeartbeats 8000000 in
theorem csize_q (B : Nat) (c : Cd) (w : World) (hI : CIn w B c) (hBw : B ≤ w.heap.size) :
    Calls Try.prog 6 #[.agg #[.int .i64 c.words, c.tv]] w fun e w' => SizeQ (c.threads.length ≤ 262144 ∧ ∀ g ∈ c.threads, GSm g) e ∧ Below w.heap.size w w' := by
  have r2 := hI.tlies.room
  obtain ⟨bo, bcp, eb, hbl, hbg⟩ := hI.tlies.form
  have HBL := Lib.hid hI.tlies
  have HBI := Lib.hid hI.threads
  clear hI
  have hQ : ∀ r : Int, 0 ≤ r → (c.threads.length : Int) ≤ 262144 - r → (∀ (j : Nat) g, j < c.threads.length → c.threads[j]? = some g → GSm g) → (c.threads.length ≤ 262144 ∧ ∀ g ∈ c.threads, GSm g) := fun r hr h1 h2 => ⟨by omega, fun b hb => by
    obtain ⟨j, hj, rfl⟩ := List.getElem_of_mem hb
    exact h2 j _ hj (List.getElem?_eq_getElem hj)⟩
  obtain ⟨PG, hPG⟩ : ∃ P, P = (c.threads.length ≤ 262144 ∧ ∀ g ∈ c.threads, GSm g) := ⟨_, rfl⟩
  rw [← hPG] at hQ ⊢
  clear hPG
  obtain ⟨words, tv, threads⟩ := c
  simp only at *
  subst eb
  obtain ⟨N2, hN2⟩ : ∃ N, N = threads.length := ⟨_, rfl⟩
  rw [← hN2] at hQ ⊢
  rw [← hN2] at hbl r2 hbg HBL
  obtain ⟨W0, hW0⟩ : ∃ W0, W0 = w.alloc (.cells #[.int .i64 words, .slice bo N2 bcp] 24) := ⟨_, rfl⟩
  have hB0 : Below w.heap.size w W0 := by rw [hW0]; exact below_box w _
  have hlt0 : w.heap.size + 1 = W0.heap.size := by rw [hW0]; simp
  have hO : W0.heap[w.heap.size]? = some (.cells #[.int .i64 words, .slice bo N2 bcp] 24 (0, 0)) := by rw [hW0]; exact (MapKept.heap_alloc _ _).1
  have HN2 := Lib.hid hN2
  have HQ := Lib.hid hQ
  clear hQ
  have HG2 := Lib.hid hbg
  have HB0 := Lib.hid hB0
  have HZ0 := Lib.hid hlt0
  have HO := Lib.hid hO
  have HW0 := Lib.hid hW0
  clear hN2 hbg hB0 hlt0 hO hW0
  go_enter Try.func6, Try.ntmps6
  go_wp2_with fail
  rw [← HW0.out]
  go_loopw [3, 4] (fun m q wr => ∃ k : Nat, k ≤ N2 ∧ q = .int .i64 k ∧ ∃ r : Int, m = .int .i64 r ∧ -600000000000000 ≤ r ∧ r ≤ 262144 ∧ Hid ((k : Int) ≤ 262144 - r ∧ (0 ≤ r → ∀ (j : Nat) g, j < k → threads[j]? = some g → GSm g)) ∧ Below W0.heap.size W0 wr) (fun _ q _ => N2 - (intOf q).toNat)
  case atStart => exact ⟨0, by omega, rfl, 262144, rfl, by omega, by omega, Lib.hid ⟨by omega, fun _ j b hj => by omega⟩, Below.refl _ _⟩
  case round =>
    obtain ⟨k, hkN, rfl, r, rfl, hr0, hr1, HI2, hB⟩ := hrel
    have hsr := hB.size
    have hBw' : Below w.heap.size w wr := HB0.out.trans (hB.mono (by have := HZ0.out; omega))
    have hsz : w.heap.size < wr.heap.size := by have := HZ0.out; omega
    have hOr := (hB.block w.heap.size (by have := HZ0.out; omega)).trans HO.out
    obtain ⟨q0, q1⟩ := own2 hOr
    clear hOr
    by_cases hlt2 : k < N2 ∧ 0 ≤ r
    · obtain ⟨hlt2, hrp⟩ := hlt2
      obtain ⟨g, off, rfl, hg⟩ := HG2.out (by omega)
      have hka : k < threads.length := by rw [← HN2.out]; exact hlt2
      have hat := ((HBL.out.below (hBw'.mono hBw)).at rfl k hka).2
      have ha := (HBI.out _ (List.getElem_mem hka)).keeps (hBw'.mono hBw)
      have hbk : threads[k]? = some threads[k] := List.getElem?_eq_getElem hka
      generalize threads[k] = a at hat ha hbk
      have hgs : g < wr.heap.size := by omega
      obtain ⟨p0, p1, p2⟩ := gc3 hat
      have hG := gsize_q B a wr ha (by omega)
      obtain ⟨ao, ac, ea, -⟩ := ha.rlies.form
      obtain ⟨do', dc, ed, -⟩ := ha.blies.form
      rw [ea, ed] at hG
      rw [ea] at p0
      rw [ed] at p2
      have HG := Lib.hid hG
      have HBK := Lib.hid hbk
      clear hbk
      have HB := Lib.hid hB
      clear hka hat ha ea ed hB hBw' hG
      go_wp2_with fail
      refine HG.out.mono ?_; rintro e1 w1 ⟨⟨n, rfl, hn0, hn1, hn2⟩, hb1⟩
      have HI3 := Lib.hid (show ((k + 1 : Nat) : Int) ≤ 262144 - (r - 1 - n) ∧ (0 ≤ r - 1 - n → ∀ (j : Nat) g, j < k + 1 → threads[j]? = some g → GSm g) from ⟨by have := HI2.out.1; omega, fun h0 j b hj hb => by
        by_cases hjk : j = k
        · subst hjk
          rw [HBK.out] at hb
          cases hb
          exact hn2 (by omega)
        · exact HI2.out.2 (by omega) j b (by omega) hb⟩)
      clear hn2
      have HB1 := Lib.hid (HB.out.trans (hb1.mono hsr))
      clear hb1 p0 p1 p2 q0 q1
      go_wp2_with fail
      go_roundw
      case rel => exact ⟨k + 1, by omega, by go_num, r - 1 - n, by go_num, by omega, by omega, HI3, HB1.out⟩
      case measure => simp [intOf]; omega
    · have hor : ¬ k < N2 ∨ (k < N2 ∧ r < 0) := by
        by_cases h : k < N2
        · exact .inr ⟨h, by by_cases h2 : 0 ≤ r; exact absurd ⟨h, h2⟩ hlt2; omega⟩
        · exact .inl h
      have HB9 := Lib.hid hBw'
      have HC := Lib.hid (counted_q r (by omega) hr1 wr)
      clear hlt2 hB hBw'
      rcases hor with hor | ⟨hor, hneg⟩
      all_goals
        go_wp2_with fail
        refine HC.out.mono ?_; rintro e w3 ⟨⟨n, rfl, hn0, hn1, hn2⟩, rfl⟩
        have HNQ := Lib.hid hn2
        clear hn2
        go_wp2_with fail
        go_ret
        refine ⟨⟨n, rfl, hn0, hn1, fun h => ?_⟩, HB9.out⟩
        first
          | (exfalso; have := HNQ.out h; omega)
          | (have hkn : k = N2 := by omega
             subst hkn
             exact HQ.out r (HNQ.out h) HI2.out.1 (HI2.out.2 (HNQ.out h)))
end Go.Proofs.Ytijciojipcgiaaa
namespace Go.Proofs.Ytijciojipcgiaaa
open Go Go.Lib Go.RowKit
set_option maxRecDepth 100000

def plBk (b : Bk) : Bk := { b with ins := b.ins.map plainI }
def plGr (a : Gr) : Gr := { a with blocks := a.blocks.map plBk }
theorem plBk_cells (b : Bk) : (plBk b).cells = b.cells := rfl
theorem plGr_cells (a : Gr) : (plGr a).cells = a.cells := rfl
theorem flat_pl {α : Type} {f : α → α} {cells : α → List Value} (h : ∀ a, cells (f a) = cells a) (l : List α) : (l.map f).flatMap cells = l.flatMap cells := by
  induction l with
  | nil => rfl
  | cons a l ih => rw [List.map_cons, List.flatMap_cons, List.flatMap_cons, ih, h]
theorem lies_row {α : Type} {cells : α → List Value} {kc : Nat} (hc : ∀ a, (cells a).length = kc) {w : World} {B g cap : Nat} {E : TypeId} {R : Array Value} {l : List α} {t : List Value} (h : w.heap[g]? = some (.cells R E (0, 0))) (hR : R.toList = l.flatMap cells ++ t) (hg : g < B) (hl : l.length ≤ 140737488351232) :
    LiesG cells kc w B (.slice (some ⟨g, 0, none⟩) l.length cap) l := by
  refine ⟨_, cap, rfl, hl, .inr ⟨g, 0, rfl, hg, fun i x hx j u hu => ?_⟩⟩
  rw [Lib.cell_of_heap h, Nat.zero_add, ← Array.getElem?_toList, hR]
  exact flat_at hc l t i x hx j u hu
theorem inOk_plain {i : In} (h : InOk i) : InOk (plainI i) := by
  rcases plain_cases i with ⟨_, e⟩ | ⟨_, e⟩ | ⟨-, -, e⟩
  · rw [e]; exact ⟨by simp, h.o, h.a, h.b, h.c, h.n⟩
  · rw [e]; exact ⟨by simp, h.o, h.a, h.b, h.c, h.n⟩
  · rw [e]; exact h
theorem pm_end {w5 wr : World} {B tb : Nat} {l : List Gr} {words : Int} (hk : KC w5 B tb l) (h : PM w5 wr l (l.length, 0, 0)) (hw : -9223372036854775808 ≤ words ∧ words ≤ 9223372036854775807) (hs : l.length ≤ 262144 ∧ ∀ a ∈ l, GSm a) :
    CIn wr B ⟨words, .slice (some ⟨tb, 0, none⟩) l.length (l.length + 2), l.map plGr⟩ := by
  have old : ∀ x, x ∉ insIds l → wr.heap[x]? = w5.heap[x]? := h.rest
  refine ⟨hw, ?_, fun g hg => ?_⟩
  · obtain ⟨R, h1, h2⟩ := hk.row
    have hlt : tb ∉ insIds l := fun hm => by have := (hk.bounds hm).1; omega
    have := lies_row (cells := Gr.cells) (kc := 3) gcells_len (B := B) (cap := l.length + 2) (l := l.map plGr) (t := markGr l.length ++ markGr (l.length + 1)) ((old tb hlt).trans h1) (by rw [flat_pl plGr_cells]; exact h2) hk.lt (by simp; omega)
    simpa using this
  · obtain ⟨a, ha, rfl⟩ := List.mem_map.1 hg
    obtain ⟨i, hi, hai⟩ := List.getElem_of_mem ha
    have hai2 : l[i]? = some a := by rw [← hai]; exact List.getElem?_eq_getElem hi
    obtain ⟨n1, n2⟩ := hk.head ha
    obtain ⟨⟨rb, R, e1, e2, e3, e4⟩, hsit, ⟨bb, R2, f1, f2, f3, f4⟩, he⟩ := hk.each a ha
    obtain ⟨s1, s2, s3⟩ := hs.2 a ha
    refine ⟨?_, hsit, ?_, fun b hb => ?_⟩
    · show LiesG Bcells 1 wr B a.rv a.refs
      rw [e1] at n1 ⊢
      exact lies_row bcells_len ((old rb n1).trans e3) e4 e2 (by omega)
    · show LiesG Bk.cells 5 wr B a.bv (a.blocks.map plBk)
      rw [f1] at n2 ⊢
      have := lies_row (cells := Bk.cells) (kc := 5) bkcells_len (B := B) (cap := a.blocks.length + 2) (l := a.blocks.map plBk) ((old bb n2).trans f3) (by rw [flat_pl plBk_cells]; exact f4) f2 (by simp; omega)
      simpa using this
    · obtain ⟨b0, hb0, rfl⟩ := List.mem_map.1 (show b ∈ a.blocks.map plBk from hb)
      obtain ⟨k, hk2, hbk⟩ := List.getElem_of_mem hb0
      have hbk2 : a.blocks[k]? = some b0 := by rw [← hbk]; exact List.getElem?_eq_getElem hk2
      obtain ⟨Rr, t, h1, h2⟩ := h.rows i a k b0 hai2 hbk2
      rw [insAt_end hi] at h2
      obtain ⟨ib, R3, g1, g2, -, -, g5, g6⟩ := he b0 hb0
      refine ⟨?_, ⟨g5.last, g5.reg, g5.yes, g5.no⟩, fun x hx => ?_⟩
      · show LiesG In.cells 6 wr B b0.iv (b0.ins.map plainI)
        rw [g1] at h1 ⊢
        have := lies_row (cells := In.cells) (kc := 6) kcells_len (B := B) (cap := b0.ins.length + 2) h1 h2 g2 (by have := s3 b0 hb0; simp; omega)
        simpa [ibOf] using this
      · obtain ⟨y, hy, rfl⟩ := List.mem_map.1 (show x ∈ b0.ins.map plainI from hx)
        exact inOk_plain (g6 y hy)
theorem bares_len {l m : List Gr} (h : Gr.bares m = Gr.bares l) : m.length = l.length := by
  have := congrArg List.length h
  simpa [Gr.bares] using this
theorem bare_at {l m : List Gr} (h : Gr.bares m = Gr.bares l) {i : Nat} {a b : Gr} (ha : l[i]? = some a) (hb : m[i]? = some b) : b.bare = a.bare := by
  have h1 : (Gr.bares m)[i]? = some b.bare := by unfold Gr.bares; rw [List.getElem?_map, hb]; rfl
  have h2 : (Gr.bares l)[i]? = some a.bare := by unfold Gr.bares; rw [List.getElem?_map, ha]; rfl
  rw [h, h2] at h1
  exact (Option.some.inj h1).symm
theorem bare_small {a b : Gr} (h : b.bare = a.bare) (hs : GSm a) : GSm b := by
  simp only [Gr.bare, Prod.mk.injEq] at h
  obtain ⟨h1, -, h3⟩ := h
  have hl : b.blocks.length = a.blocks.length := by have := congrArg List.length h3; simpa [Bk.bares] using this
  refine ⟨by rw [h1]; exact hs.1, by rw [hl]; exact hs.2.1, fun x hx => ?_⟩
  obtain ⟨k, hk, rfl⟩ := List.getElem_of_mem hx
  have h4 : (Bk.bares b.blocks)[k]? = some (b.blocks[k]).bare := by unfold Bk.bares; rw [List.getElem?_map, List.getElem?_eq_getElem hk]; rfl
  have hka : k < a.blocks.length := by rw [← hl]; exact hk
  have h5 : (Bk.bares a.blocks)[k]? = some (a.blocks[k]).bare := by unfold Bk.bares; rw [List.getElem?_map, List.getElem?_eq_getElem hka]; rfl
  rw [h3, h5] at h4
  have h6 := Option.some.inj h4
  simp only [Bk.bare, Prod.mk.injEq] at h6
  rw [← h6.1]
  exact hs.2.2 _ (List.getElem_mem hka)
theorem small_all {l m : List Gr} (h : Gr.bares m = Gr.bares l) (hs : l.length ≤ 262144 ∧ ∀ a ∈ l, GSm a) : m.length ≤ 262144 ∧ ∀ a ∈ m, GSm a := by
  have hl := bares_len h
  refine ⟨by rw [hl]; exact hs.1, fun b hb => ?_⟩
  obtain ⟨i, hi, rfl⟩ := List.getElem_of_mem hb
  have hil : i < l.length := by rw [← hl]; exact hi
  exact bare_small (bare_at h (List.getElem?_eq_getElem hil) (List.getElem?_eq_getElem hi)) (hs.2 _ (List.getElem_mem hil))
theorem plain_rel {l m : List Gr} (h : Gr.bares m = Gr.bares l) : L2 GR l (m.map plGr) := by
  refine L2.of_get (by rw [List.length_map, bares_len h]) fun i a b ha hb => ?_
  rw [List.getElem?_map] at hb
  obtain ⟨b0, hb0, rfl⟩ := Option.map_eq_some_iff.1 hb
  have hbare := bare_at h ha hb0
  simp only [Gr.bare, Prod.mk.injEq] at hbare
  obtain ⟨h1, h2, h3⟩ := hbare
  have hl : b0.blocks.length = a.blocks.length := by have := congrArg List.length h3; simpa [Bk.bares] using this
  refine ⟨h1, h2, L2.of_get (by show (b0.blocks.map plBk).length = _; rw [List.length_map, hl]) fun k x y hx hy => ?_⟩
  have hy2 : (b0.blocks.map plBk)[k]? = some y := hy
  rw [List.getElem?_map] at hy2
  obtain ⟨y0, hy0, rfl⟩ := Option.map_eq_some_iff.1 hy2
  have h4 : (Bk.bares b0.blocks)[k]? = some y0.bare := by unfold Bk.bares; rw [List.getElem?_map, hy0]; rfl
  have h5 : (Bk.bares a.blocks)[k]? = some x.bare := by unfold Bk.bares; rw [List.getElem?_map, hx]; rfl
  rw [h3, h5] at h4
  have h6 := Option.some.inj h4
  simp only [Bk.bare, Prod.mk.injEq] at h6
  obtain ⟨e1, e2, e3, e4, e5⟩ := h6
  exact ⟨by show y0.ins.map plainI = x.ins.map plainI; rw [e1], e2.symm, e3.symm, e4.symm, e5.symm⟩
end Go.Proofs.Ytijciojipcgiaaa
