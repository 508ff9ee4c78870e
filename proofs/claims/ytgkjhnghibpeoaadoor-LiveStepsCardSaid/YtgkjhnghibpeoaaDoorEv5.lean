/- How abstract blocks lie in a world, and what new blocks, stores and appends make of that. -/
import Derived.Test.YtgkjhnghibpeoaaDoorEv3
import Derived.Laws.Append
import Derived.Laws.AppendOwn
namespace Go.Ev
noncomputable section
open Go Go.RowKit

/-- How a round was left for good. -/
inductive JX where
  | ret
  | exit (id : Nat)
  | goto (l : Nat)
deriving DecidableEq
def JX.code : JX → Code
  | .ret => .ret
  | .exit id => .exit id
  | .goto l => .goto l
/-- The slots of a frame. -/
def tmGet (tm : Tr AV) (t : Nat) : AV := (tm.get t).getD (.tup .nil)
structure TR (ρ : Env) (n : Nat) (tm : Tr AV) (tmps : Array Value) : Prop where
  size : tmps.size = n
  get : ∀ t, VR ρ (tmGet tm t) (tmps.getD t undef)
  out : ∀ t, n ≤ t → tm.get t = none
theorem TR.mono {ρ ρ' : Env} {n : Nat} {tm : Tr AV} {tmps : Array Value} (h : TR ρ n tm tmps) (hl : ρ.Le ρ') : TR ρ' n tm tmps := ⟨h.size, fun t => (h.get t).mono hl, h.out⟩
/-- A loop over a function: its frame's slots, where each round's values go, and its code. -/
structure LoopRec where
  n : Nat
  tm : Tr AV
  params : List Tmp
  assign : Code
  body : Code
inductive Bl where
  | row (cs : List AV)
  | ro (cs : List AV)
  | it (s : ByteArray) (p : Nat)
  | mp (es : List (AV × AV × Nat)) (clock : Nat)
  | df
  | lp (s : LoopState) (j : Option JX)
  | dead
deriving DecidableEq
/-- The abstract heap, the next number, and how often each block was written. -/
structure St where
  h : Tr Bl
  next : Nat
  wc : Tr Nat
deriving DecidableEq
def St.cnt (s : St) (b : Nat) : Nat := (s.wc.get b).getD 0
def St.put (s : St) (b : Nat) (x : Bl) : St := ⟨s.h.set b x, s.next, s.wc.set b (s.cnt b + 1)⟩
def St.add (s : St) (b : Nat) (x : Bl) : St := ⟨s.h.set b x, bif Nat.beq b s.next then s.next + 1 else s.next, s.wc⟩

/-- A row of cells: from `sh` on the cells `us`. -/
def RowAt (w : World) (g sh lim : Nat) (us : List Value) : Prop :=
  ∃ c e, w.heap[g]? = some (.cells c e (0, 0)) ∧ c.size = lim ∧ sh + us.length ≤ lim ∧ ∀ (i : Nat) u, us[i]? = some u → c[sh + i]? = some u
/-- Likewise, whatever of it is frozen. -/
def RowF (w : World) (g sh lim : Nat) (us : List Value) : Prop :=
  ∃ c e fr, w.heap[g]? = some (.cells c e fr) ∧ c.size = lim ∧ sh + us.length ≤ lim ∧ ∀ (i : Nat) u, us[i]? = some u → c[sh + i]? = some u
theorem RowAt.f {w : World} {g sh lim : Nat} {us : List Value} (h : RowAt w g sh lim us) : RowF w g sh lim us := by
  obtain ⟨c, e, h1, h2⟩ := h
  exact ⟨c, e, _, h1, h2⟩
theorem RowF.congr {w w' : World} {g sh lim : Nat} {us : List Value} (h : RowF w g sh lim us) (hw : w'.heap[g]? = w.heap[g]?) : RowF w' g sh lim us := by
  obtain ⟨c, e, fr, h1, h2⟩ := h
  exact ⟨c, e, fr, hw.trans h1, h2⟩
def ER (ρ : Env) : List (AV × AV × Nat) → List MapEntry → Prop
  | [], l => l = []
  | a :: t, l => ∃ (e : MapEntry) (l' : List MapEntry), VR ρ a.1 e.key ∧ VR ρ a.2.1 e.val ∧ e.born = a.2.2 ∧ ER ρ t l' ∧ l = e :: l'
theorem ER.mono {ρ ρ' : Env} (h : ρ.Le ρ') : ∀ {a : List (AV × AV × Nat)} {l : List MapEntry}, ER ρ a l → ER ρ' a l := by
  intro a
  induction a with
  | nil => intro l hl; exact hl
  | cons x t ih => rintro l ⟨e, l', h1, h2, h3, h4, rfl⟩; exact ⟨e, l', h1.mono h, h2.mono h, h3, ih h4, rfl⟩
variable {Y : Nat → Option LoopRec}
/-- One block. -/
def BR (Y : Nat → Option LoopRec) (ρ : Env) (w : World) (b : Nat) : Bl → Prop
  | .row cs => ∃ us, FR ρ cs us ∧ RowAt w (ρ.blk b) (ρ.sh b) (ρ.lim b) us
  | .ro cs => ∃ us, FR ρ cs us ∧ RowF w (ρ.blk b) (ρ.sh b) (ρ.lim b) us
  | .it s p => ρ.sh b = 0 ∧ w.heap[ρ.blk b]? = some (.stringIter s p)
  | .mp es k => ∃ l, ER ρ es l ∧ w.heap[ρ.blk b]? = some (.map l.toArray k)
  | .df => w.heap[ρ.blk b]? = some (.deferred (some []))
  | .lp s j => ∃ y fn tmps df, Y b = some y ∧ TR ρ y.n y.tm tmps ∧ w.heap[ρ.blk b]? = some (.loop { state := s, pending := j.map JX.code, fn := fn, tmps := tmps, params := y.params.toArray, assign := y.assign, body := y.body, defers := df })
  | .dead => True
theorem BR.congr {ρ : Env} {w w' : World} {b : Nat} {x : Bl} (h : BR Y ρ w b x) (hw : w'.heap[ρ.blk b]? = w.heap[ρ.blk b]?) : BR Y ρ w' b x := by
  cases x with
  | row cs =>
    obtain ⟨us, h1, c, e, h2, h3⟩ := h
    exact ⟨us, h1, c, e, by rw [hw]; exact h2, h3⟩
  | ro cs => obtain ⟨us, h1, h2⟩ := h; exact ⟨us, h1, h2.congr hw⟩
  | it s p => exact ⟨h.1, hw.trans h.2⟩
  | mp es k => obtain ⟨l, h1, h2⟩ := h; exact ⟨l, h1, hw.trans h2⟩
  | df => exact hw.trans h
  | lp s j => obtain ⟨y, fn, tmps, df, h1, h2, h3⟩ := h; exact ⟨y, fn, tmps, df, h1, h2, hw.trans h3⟩
  | dead => trivial
theorem BR.mono {ρ ρ' : Env} {w : World} {b : Nat} {x : Bl} (h : BR Y ρ w b x) (hl : ρ.Le ρ') (hb : ρ.dom b) : BR Y ρ' w b x := by
  cases x with
  | row cs =>
    obtain ⟨us, h1, h2⟩ := h
    exact ⟨us, h1.mono hl, by rw [hl.blk b hb, hl.sh b hb, hl.lim b hb]; exact h2⟩
  | ro cs => obtain ⟨us, h1, h2⟩ := h; exact ⟨us, h1.mono hl, by rw [hl.blk b hb, hl.sh b hb, hl.lim b hb]; exact h2⟩
  | it s p => exact ⟨by rw [hl.sh b hb]; exact h.1, by rw [hl.blk b hb]; exact h.2⟩
  | mp es k => obtain ⟨l, h1, h2⟩ := h; exact ⟨l, h1.mono hl, by rw [hl.blk b hb]; exact h2⟩
  | df => show _ = _; rw [hl.blk b hb]; exact h
  | lp s j => obtain ⟨y, fn, tmps, df, h1, h2, h3⟩ := h; exact ⟨y, fn, tmps, df, h1, h2.mono hl, by rw [hl.blk b hb]; exact h3⟩
  | dead => trivial
theorem BR.there {ρ : Env} {w : World} {b : Nat} {x : Bl} (h : BR Y ρ w b x) (hx : x ≠ .dead) : ρ.blk b < w.heap.size := by
  cases x with
  | row cs => obtain ⟨us, h1, c, e, h2, h3⟩ := h; exact (Array.getElem?_eq_some_iff.1 h2).1
  | ro cs => obtain ⟨us, h1, c, e, fr, h2, h3⟩ := h; exact (Array.getElem?_eq_some_iff.1 h2).1
  | it s p => exact (Array.getElem?_eq_some_iff.1 h.2).1
  | mp es k => obtain ⟨l, h1, h2⟩ := h; exact (Array.getElem?_eq_some_iff.1 h2).1
  | df => exact (Array.getElem?_eq_some_iff.1 h).1
  | lp s j => obtain ⟨y, fn, tmps, df, h1, h2, h3⟩ := h; exact (Array.getElem?_eq_some_iff.1 h3).1
  | dead => exact absurd rfl hx

/-- The abstract heap lies in the world, all of it from B on; G: what is known of old cells. -/
structure HR (Y : Nat → Option LoopRec) (G : Nat → Nat → Option AV) (B : Nat) (ρ : Env) (t : Tr Bl) (w : World) : Prop where
  base : B ≤ w.heap.size
  dom : ∀ b, ρ.dom b → (t.get b).isSome = true
  live : ∀ b x, t.get b = some x → x ≠ .dead → ρ.dom b ∧ B ≤ ρ.blk b
  inj : ∀ b b' x x', t.get b = some x → t.get b' = some x' → x ≠ .dead → x' ≠ .dead → ρ.blk b = ρ.blk b' → b = b'
  blk : ∀ b x, t.get b = some x → BR Y ρ w b x
  glob : ∀ b o v, G b o = some v → b < B ∧ ∃ u, w.cell? ⟨b, o, none⟩ = some u ∧ VR ρ v u

variable {G : Nat → Nat → Option AV} {B : Nat} {ρ : Env} {t : Tr Bl} {w : World}
def rowOf : Bl → Option (List AV)
  | .row cs => some cs
  | .ro cs => some cs
  | _ => none
theorem HR.rowF (h : HR Y G B ρ t w) {b : Nat} {cs : List AV} (hb : (t.get b).bind rowOf = some cs) : ∃ us, FR ρ cs us ∧ RowF w (ρ.blk b) (ρ.sh b) (ρ.lim b) us := by
  cases hx : t.get b with
  | none => simp [hx] at hb
  | some x =>
    rw [hx] at hb
    have := h.blk b x hx
    cases x <;> simp [rowOf] at hb <;> subst hb
    · obtain ⟨us, h1, h2⟩ := this; exact ⟨us, h1, h2.f⟩
    · exact this

theorem HR.heap {w' : World} (h : HR Y G B ρ t w) (hw : w'.heap = w.heap) : HR Y G B ρ t w' :=
  ⟨by rw [hw]; exact h.base, h.dom, h.live, h.inj, fun b x hb => (h.blk b x hb).congr (by rw [hw]), fun b o v hv => by
    obtain ⟨h1, u, h2, h3⟩ := h.glob b o v hv
    exact ⟨h1, u, by rw [← h2]; exact World.cell?_of_block (by rw [hw]), h3⟩⟩

/-- The environment with one block more. -/
def Env.ext (ρ : Env) (b g sh lim : Nat) : Env :=
  { dom := fun k => ρ.dom k ∨ k = b, blk := fun k => if k = b then g else ρ.blk k, sh := fun k => if k = b then sh else ρ.sh k, lim := fun k => if k = b then lim else ρ.lim k, sym := ρ.sym }
theorem Env.le_ext (ρ : Env) (b g sh lim : Nat) (hb : ¬ ρ.dom b) : ρ.Le (ρ.ext b g sh lim) :=
  ⟨fun _ h => .inl h, fun k h => by simp [Env.ext]; rintro rfl; exact absurd h hb, fun k h => by simp [Env.ext]; rintro rfl; exact absurd h hb, fun k h => by simp [Env.ext]; rintro rfl; exact absurd h hb, rfl⟩
theorem HR.fresh (h : HR Y G B ρ t w) {b : Nat} (hb : t.get b = none) : ¬ ρ.dom b := fun hd => by
  have := h.dom b hd; rw [hb] at this; cases this

/-- The general step: the world turns in one block at most (an own one), the abstract heap in `k`, and `k'` dies. -/
theorem HR.put {ρ' : Env} {w' : World} (h : HR Y G B ρ t w) (k : Nat) (x : Bl) (g : Nat) (hg : B ≤ g) (_hx : x ≠ .dead) (kill : Nat → Prop) (h' : Tr Bl)
    (hk : h'.get k = some x) (ho : ∀ b y, b ≠ k → h'.get b = some y → y ≠ .dead → t.get b = some y ∧ ¬ kill b) (hsome : ∀ b, (t.get b).isSome = true → (h'.get b).isSome = true)
    (hl : ρ.Le ρ') (hd : ∀ b, ρ'.dom b → ρ.dom b ∨ b = k) (hdk : ρ'.dom k) (hgk : ρ'.blk k = g)
    (huniq : ∀ b y, b ≠ k → t.get b = some y → y ≠ .dead → ¬ kill b → ρ.blk b ≠ g)
    (hw : ∀ j, j ≠ g → j < w.heap.size → w'.heap[j]? = w.heap[j]?) (hs : w.heap.size ≤ w'.heap.size) (hB : BR Y ρ' w' k x) : HR Y G B ρ' h' w' := by
  refine ⟨Nat.le_trans h.base hs, ?_, ?_, ?_, ?_, ?_⟩
  · intro b hb
    rcases hd b hb with hb | rfl
    · exact hsome b (h.dom b hb)
    · show (h'.get b).isSome = true; rw [hk]; rfl
  · intro b y hb hy
    by_cases hbk : b = k
    · subst hbk; exact ⟨hdk, by rw [hgk]; exact hg⟩
    · obtain ⟨h1, h2⟩ := ho b y hbk hb hy
      obtain ⟨h3, h4⟩ := h.live b y h1 hy
      exact ⟨hl.dom b h3, by rw [hl.blk b h3]; exact h4⟩
  · intro b b' y y' hb hb' hy hy' he
    by_cases hbk : b = k
    · by_cases hbk' : b' = k
      · rw [hbk, hbk']
      · obtain ⟨h1, h2⟩ := ho b' y' hbk' hb' hy'
        rw [hbk, hgk, hl.blk b' (h.live b' y' h1 hy').1] at he
        exact absurd he.symm (huniq b' y' hbk' h1 hy' h2)
    · obtain ⟨h1, h2⟩ := ho b y hbk hb hy
      by_cases hbk' : b' = k
      · rw [hbk', hgk, hl.blk b (h.live b y h1 hy).1] at he
        exact absurd he (huniq b y hbk h1 hy h2)
      · obtain ⟨h3, h4⟩ := ho b' y' hbk' hb' hy'
        rw [hl.blk b (h.live b y h1 hy).1, hl.blk b' (h.live b' y' h3 hy').1] at he
        exact h.inj b b' y y' h1 h3 hy hy' he
  · intro b y hb
    by_cases hbk : b = k
    · subst hbk
      have : x = y := Option.some.inj (hk.symm.trans hb)
      subst this
      exact hB
    · by_cases hy : y = .dead
      · subst hy; trivial
      · obtain ⟨h1, h2⟩ := ho b y hbk hb hy
        have hbd := (h.live b y h1 hy).1
        have hB := h.blk b y h1
        refine (hB.congr (w' := w') (hw _ (huniq b y hbk h1 hy h2) (hB.there hy))).mono hl hbd
  · intro b o v hv
    obtain ⟨h1, u, h2, h3⟩ := h.glob b o v hv
    refine ⟨h1, u, ?_, h3.mono hl⟩
    rw [← h2]
    exact World.cell?_of_block (hw b (by omega) (by have := h.base; omega))

/-- A new block. -/
theorem HR.new (h : HR Y G B ρ t w) {id : Nat} (hid : t.get id = none) (o : Obj) (x : Bl) (hx : x ≠ .dead) (sh lim : Nat)
    (hB : BR Y (ρ.ext id w.heap.size sh lim) (w.alloc o) id x) : HR Y G B (ρ.ext id w.heap.size sh lim) (t.set id x) (w.alloc o) := by
  refine h.put id x w.heap.size h.base hx (fun _ => False) _ (by rw [Tr.get_set, if_pos rfl]) ?_ ?_ (ρ.le_ext _ _ _ _ (h.fresh hid)) (fun b hb => hb) (.inr rfl) (by simp [Env.ext]) ?_ ?_ (by simp) hB
  · intro b y hb hy hyd
    rw [Tr.get_set, if_neg hb] at hy
    exact ⟨hy, fun f => f⟩
  · intro b hb
    rw [Tr.get_set]
    split
    · rfl
    · exact hb
  · intro b y hb hy hyd _ he
    have := (h.blk b y hy).there hyd
    omega
  · intro j hj hlt
    exact Below.heap_alloc w o j hlt
/-- A block is written. -/
theorem HR.set {w' : World} (h : HR Y G B ρ t w) {k : Nat} {y x : Bl} (hk : t.get k = some y) (hy : y ≠ .dead) (hx : x ≠ .dead)
    (hw : ∀ j, j ≠ ρ.blk k → j < w.heap.size → w'.heap[j]? = w.heap[j]?) (hs : w.heap.size ≤ w'.heap.size) (hB : BR Y ρ w' k x) : HR Y G B ρ (t.set k x) w' := by
  obtain ⟨h1, h2⟩ := h.live k y hk hy
  refine h.put k x (ρ.blk k) h2 hx (fun _ => False) _ (by rw [Tr.get_set, if_pos rfl]) ?_ ?_ (.refl _) (fun b hb => .inl hb) h1 rfl ?_ hw hs hB
  · intro b z hb hz hzd
    rw [Tr.get_set, if_neg hb] at hz
    exact ⟨hz, fun f => f⟩
  · intro b hb
    rw [Tr.get_set]
    split
    · rfl
    · exact hb
  · intro b z hb hz hzd _ he
    exact hb (h.inj b k z y hz hk hzd hy he)
theorem HR.below {w' : World} (h : HR Y G B ρ t w) {k : Nat} {y : Bl} (hk : t.get k = some y) (hy : y ≠ .dead) (he : w'.os = w.os ∧ w'.tape = w.tape ∧ w'.output = w.output)
    (hw : ∀ j, j ≠ ρ.blk k → j < w.heap.size → w'.heap[j]? = w.heap[j]?) (hs : w.heap.size ≤ w'.heap.size) : Below B w w' :=
  ⟨he.1, he.2.1, he.2.2, hs, fun j hj => hw j (by have := (h.live k y hk hy).2; omega) (by have := h.base; omega)⟩
/-- What was not written stands. -/
structure TK (ρ : Env) (s : St) (w : World) (s' : St) (w' : World) : Prop where
  mono : ∀ b, s.cnt b ≤ s'.cnt b
  keep : ∀ b x, s.h.get b = some x → x ≠ .dead → s'.cnt b = s.cnt b → s'.h.get b = some x ∧ w'.heap[ρ.blk b]? = w.heap[ρ.blk b]?
theorem St.cnt_put (s : St) (k : Nat) (x : Bl) (b : Nat) : (s.put k x).cnt b = if b = k then s.cnt k + 1 else s.cnt b := by
  unfold St.cnt St.put
  simp only [Tr.get_set]
  split <;> rfl
theorem St.get_put (s : St) (k : Nat) (x : Bl) (b : Nat) : (s.put k x).h.get b = if b = k then some x else s.h.get b := Tr.get_set _ _ _ _
theorem St.get_add (s : St) (k : Nat) (x : Bl) (b : Nat) : (s.add k x).h.get b = if b = k then some x else s.h.get b := Tr.get_set _ _ _ _
theorem St.cnt_add (s : St) (k : Nat) (x : Bl) (b : Nat) : (s.add k x).cnt b = s.cnt b := rfl
theorem TK.put {s : St} {w' : World} (h : HR Y G B ρ s.h w) {k : Nat} {y x : Bl} (hk : s.h.get k = some y) (hy : y ≠ .dead)
    (hw : ∀ j, j ≠ ρ.blk k → j < w.heap.size → w'.heap[j]? = w.heap[j]?) : TK ρ s w (s.put k x) w' := by
  refine ⟨fun b => ?_, fun b z hz hzd hc => ?_⟩
  · rw [St.cnt_put]; split
    · rename_i e; subst e; omega
    · exact Nat.le_refl _
  · rw [St.cnt_put] at hc
    split at hc
    · rename_i e; subst e; omega
    · rename_i e
      rw [St.get_put, if_neg e]
      exact ⟨hz, hw _ (fun he => e (h.inj b k z y hz hk hzd hy he)) ((h.blk b z hz).there hzd)⟩
theorem TK.add {s : St} {w' : World} (h : HR Y G B ρ s.h w) {k : Nat} {x : Bl} (hk : s.h.get k = none)
    (hw : ∀ j, j < w.heap.size → w'.heap[j]? = w.heap[j]?) : TK ρ s w (s.add k x) w' := by
  refine ⟨fun b => Nat.le_refl _, fun b z hz hzd _ => ?_⟩
  rw [St.get_add, if_neg (by rintro rfl; rw [hk] at hz; cases hz)]
  exact ⟨hz, hw _ ((h.blk b z hz).there hzd)⟩

/-- One step, or many, of the abstract heap beside the world. -/
structure Step (Y : Nat → Option LoopRec) (G : Nat → Nat → Option AV) (B : Nat) (ρ : Env) (s : St) (w : World) (ρ' : Env) (s' : St) (w' : World) : Prop where
  le : ρ.Le ρ'
  hr : HR Y G B ρ' s'.h w'
  below : Below B w w'
  tk : TK ρ s w s' w'
theorem Step.refl {s : St} (h : HR Y G B ρ s.h w) : Step Y G B ρ s w ρ s w := ⟨.refl _, h, Below.refl _ _, fun _ => Nat.le_refl _, fun _ _ hx _ _ => ⟨hx, rfl⟩⟩
theorem Step.drew {s : St} (h : HR Y G B ρ s.h w) : Step Y G B ρ s w ρ s w.drew := ⟨.refl _, h.heap rfl, (Below.refl _ _).drew, fun _ => Nat.le_refl _, fun _ _ hx _ _ => ⟨hx, rfl⟩⟩
theorem Step.trans {ρ₁ ρ₂ : Env} {s s₁ s₂ : St} {w₁ w₂ : World} (h0 : HR Y G B ρ s.h w) (h : Step Y G B ρ s w ρ₁ s₁ w₁) (k : Step Y G B ρ₁ s₁ w₁ ρ₂ s₂ w₂) : Step Y G B ρ s w ρ₂ s₂ w₂ := by
  refine ⟨h.le.trans k.le, k.hr, h.below.trans k.below, fun b => Nat.le_trans (h.tk.mono b) (k.tk.mono b), fun b x hx hd hc => ?_⟩
  have h1 := h.tk.mono b
  have h2 := k.tk.mono b
  obtain ⟨g1, g2⟩ := h.tk.keep b x hx hd (by omega)
  obtain ⟨g3, g4⟩ := k.tk.keep b x g1 hd (by omega)
  refine ⟨g3, ?_⟩
  rw [h.le.blk b (h0.live b x hx hd).1] at g4
  exact g4.trans g2
end
end Go.Ev
namespace Go.Ev
noncomputable section
open Go Go.RowKit

inductive AN where
  | val (v : AV)
  | skip
  | enter (f : FuncId) (args : List AV)
  | round (l : Nat) (args : List AV)

def isOne : AV → Bool
  | .agg _ | .tup _ | .sym _ | .nil | .cons _ _ => false
  | _ => true
theorem isOne_run {ρ : Env} {a : AV} {v : Value} (h : isOne a = true) (hv : VR ρ a v) : v.oneCell' = true ∧ v.cells = #[v] := by
  cases a <;> simp only [isOne, Bool.false_eq_true] at h <;> simp only [VR] at hv <;> first
    | (subst hv; exact ⟨rfl, rfl⟩)
    | (replace hv := hv.2; subst hv; exact ⟨rfl, rfl⟩)
    | (replace hv := hv.2; obtain ⟨_, _, _, hv⟩ := hv; subst hv; exact ⟨rfl, rfl⟩)
    | (obtain ⟨_, _, hv⟩ := hv; subst hv; exact ⟨rfl, rfl⟩)
    | (obtain ⟨_, _, _, _, hv⟩ := hv; subst hv; exact ⟨rfl, rfl⟩)
def cellsA (a : AV) : Option (List AV) := match a with
  | .agg l => l.list
  | a => bif isOne a then some [a] else none
theorem cellsA_run {ρ : Env} {a : AV} {v : Value} {xs : List AV} (h : cellsA a = some xs) (hv : VR ρ a v) : FR ρ xs v.cells.toList := by
  unfold cellsA at h
  split at h
  · simp only [VR] at hv
    obtain ⟨us, h1, rfl⟩ := hv
    exact LR.fr h h1
  · rename_i ha
    cases h1 : isOne a with
    | false => simp [h1] at h
    | true =>
      simp [h1] at h; subst h
      rw [(isOne_run h1 hv).2]
      exact ⟨v, [], hv, rfl, rfl⟩
def setL (cs : List AV) (o : Nat) (vs : List AV) : List AV := cs.take o ++ vs ++ cs.drop (o + vs.length)

variable {Y : Nat → Option LoopRec} {G : Nat → Nat → Option AV} {B : Nat} {ρ : Env} {t0 : Tr Bl} {w : World} {P : Program}

theorem RowF.cell {g sh lim : Nat} {us : List Value} (h : RowF w g sh lim us) (i : Nat) (u : Value) (hu : us[i]? = some u) : w.cell? ⟨g, sh + i, none⟩ = some u := by
  obtain ⟨c, e, fr, h1, h2, h3, h4⟩ := h
  simp [World.cell?, h1, h4 i u hu]
theorem FR.all {xs : List AV} {us : List Value} (h : FR ρ xs us) (h1 : xs.all isOne = true) : ∀ u ∈ us, u.oneCell' = true := by
  induction xs generalizing us with
  | nil => cases h; simp
  | cons x t ih =>
    obtain ⟨v, l', h2, h3, rfl⟩ := h
    simp only [List.all_cons, Bool.and_eq_true] at h1
    intro u hu
    rcases List.mem_cons.1 hu with rfl | hu
    · exact (isOne_run h1.1 h2).1
    · exact ih h3 h1.2 u hu
theorem run_load_row (h : HR Y G B ρ t0 w) {b o : Nat} {t : TypeId} {cs : List AV} {a : AV} (hb : (t0.get b).bind rowOf = some cs) (hp : partA P t cs o = some a) :
    ∃ v, VR ρ a v ∧ ∀ W : World, W.heap[ρ.blk b]? = w.heap[ρ.blk b]? → (loadVar t ⟨ρ.blk b, ρ.sh b + o, none⟩).run P W = .ok v W := by
  obtain ⟨us, hus, hr⟩ := h.rowF hb
  unfold partA at hp
  split at hp
  · rename_i hg
    split at hp
    · rename_i n hn
      simp only [ble_dec] at hp
      by_cases hle : o + n ≤ cs.length
      case neg => simp [hle] at hp
      simp only [hle, decide_true, cond_true, Option.some.injEq] at hp; subst hp
      refine ⟨.agg ((us.drop o).take n).toArray, ?_, fun W hW => ?_⟩
      · simp only [VR]; exact ⟨_, ((hus.drop o).take n).lr, rfl⟩
      · have hlen : ((us.drop o).take n).length = n := by have := hus.length; simp; omega
        have := run_loadCells_list (P := P) W ⟨ρ.blk b, ρ.sh b + o, none⟩ ((us.drop o).take n) (fun j v hv => by
          rw [Addr.add_mid, Nat.add_assoc]
          refine (hr.congr hW).cell _ _ ?_
          rw [List.getElem?_take] at hv
          split at hv
          · rw [List.getElem?_drop] at hv; exact hv
          · cases hv)
        rw [hlen] at this
        simp only [loadVar, Sem.run_bind, run_isAggA hg W, Result.andThen_ok, if_true, run_sizeA hn W, Sem.run_pure, this]
    · cases hp
  · rename_i hg
    obtain ⟨v, hv, hx⟩ := hus.get hp
    exact ⟨v, hx, fun W hW => by simp [loadVar, Sem.run_bind, run_isAggA hg W, (hr.congr hW).cell _ _ hv]⟩
  · cases hp
theorem setL_length {cs vs : List AV} {o : Nat} (h : o + vs.length ≤ cs.length) : (setL cs o vs).length = cs.length := by
  simp [setL]; omega
/-- Cells go into a row. -/
theorem HR.store {s : St} (h : HR Y G B ρ s.h w) {b o : Nat} {cs vs : List AV} {us : List Value} (hb : s.h.get b = some (.row cs)) (hv : FR ρ vs us) (h1 : vs.all isOne = true) (hle : o + vs.length ≤ cs.length) :
    ∃ w', (storeCells ⟨ρ.blk b, ρ.sh b + o, none⟩ us).run P w = .ok () w' ∧ Step Y G B ρ s w ρ (s.put b (.row (setL cs o vs))) w' := by
  obtain ⟨cu, hcu, c, e, hg, hlim, hsh, hcell⟩ := h.blk b _ hb
  have hl := hv.length
  have hl2 := hcu.length
  have hst := run_storeCells_at P (ρ.blk b) (ρ.sh b + o) e us 0 c w hg (by omega) (hv.all h1)
  simp only [Nat.add_zero] at hst
  refine ⟨_, hst, .refl _, ?_, ?_, TK.put h hb (by simp) (fun j hj _ => setRow_other w _ j _ hj)⟩
  · refine h.set hb (by simp) (by simp) (fun j hj _ => setRow_other w _ j _ hj) (by simp) ?_
    refine ⟨cu.take o ++ us ++ cu.drop (o + us.length), ?_, _, e, setRow_heap w _ c _ e _ hg, ?_, ?_, ?_⟩
    · rw [hl]; exact ((hcu.take o).append hv).append (hcu.drop _)
    · simp; omega
    · simp; omega
    · intro i u hu
      simp only [List.getElem?_toArray]
      rw [List.getElem?_append] at hu ⊢
      rw [List.getElem?_append] at hu ⊢
      simp only [List.length_append, List.length_take, Array.length_toList] at hu ⊢
      rw [Nat.min_eq_left (by omega)] at hu ⊢
      by_cases q1 : i < o + us.length
      · rw [if_pos q1] at hu
        rw [if_pos (by omega)]
        by_cases q2 : i < o
        · rw [if_pos q2, List.getElem?_take, if_pos q2] at hu
          rw [if_pos (by omega), List.getElem?_take, if_pos (by omega)]
          simpa using hcell i u hu
        · rw [if_neg q2] at hu
          rw [if_neg (by omega), show ρ.sh b + i - (ρ.sh b + o) = i - o by omega]
          exact hu
      · rw [if_neg q1, List.getElem?_drop] at hu
        rw [if_neg (by omega), List.getElem?_drop, show ρ.sh b + o + us.length + (ρ.sh b + i - (ρ.sh b + o + us.length)) = ρ.sh b + i by omega]
        have := hcell i u (by rw [← hu]; congr 1; omega)
        simpa using this
  · exact h.below hb (by simp) ⟨rfl, rfl, rfl⟩ (fun j hj _ => setRow_other w _ j _ hj) (by simp)
/-- A new row. -/
theorem HR.newRow {s : St} (h : HR Y G B ρ s.h w) {id : Nat} (hid : s.h.get id = none) {cs : List AV} {us : List Value} (hc : FR ρ cs us) (e : TypeId) (rest : List Value) :
    Step Y G B ρ s w (ρ.ext id w.heap.size 0 (us.length + rest.length)) (s.add id (.row cs)) (w.alloc (.cells (us ++ rest).toArray e)) := by
  have hle := ρ.le_ext id w.heap.size 0 (us.length + rest.length) (h.fresh hid)
  refine ⟨hle, h.new hid _ (.row cs) (by simp) _ _ ?_, (Below.refl B w).alloc h.base _, TK.add h hid (fun j hj => Below.heap_alloc w _ j hj)⟩
  refine ⟨us, hc.mono hle, (us ++ rest).toArray, e, ?_, by simp [Env.ext], by simp [Env.ext], ?_⟩
  · simp only [Env.ext, if_true]; exact heap_alloc_new w _
  · intro i u hu
    simp only [Env.ext, if_true, Nat.zero_add, List.getElem?_toArray]
    rw [List.getElem?_append_left (by rcases Nat.lt_or_ge i us.length with q | q; exact q; rw [List.getElem?_eq_none q] at hu; cases hu)]
    exact hu
end
end Go.Ev
