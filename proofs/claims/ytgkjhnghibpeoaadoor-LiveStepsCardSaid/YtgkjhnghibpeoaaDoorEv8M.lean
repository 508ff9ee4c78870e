/- Maps, abstractly, and that the machine does each so. -/
import Derived.Test.YtgkjhnghibpeoaaDoorEv8
import Derived.MapKept
namespace Go.Ev
noncomputable section
open Go Go.RowKit
variable {Y : Nat → Option LoopRec} {G : Nat → Nat → Option AV} {B : Nat} {ρ : Env} {w : World} {P : Program}

theorem bits_int (n : Nat) (k : IntKind) (a : Int) : Instr.sameBits n (.int k a) (.int k a) = true := by cases n <;> simp [Instr.sameBits]
theorem bits_str (n : Nat) (a : ByteArray) : Instr.sameBits n (.string a) (.string a) = true := by
  have h : (a == a) = true := (MapKept.bytes_beq a a).2 rfl
  cases n <;> simp only [Instr.sameBits, h]
theorem bits_bool (n : Nat) (a : Bool) : Instr.sameBits n (.bool a) (.bool a) = true := by cases n <;> simp [Instr.sameBits]
theorem nowA_same {d : TypeDesc} {k e : AV} {kv ev : Value} {b : Bool} (h : nowA d k e = some b) (hk : VR ρ k kv) (he : VR ρ e ev) : Instr.sameNow d kv ev = some b ∧ (b = true → Instr.sameBits 10000 ev kv = true) := by
  unfold nowA at h
  split at h
  · simp only [VR] at hk he
    subst hk; subst he
    split at h
    case isFalse => cases h
    rename_i hkk
    subst hkk
    simp only [Option.some.injEq] at h; subst h
    refine ⟨by simp only [Instr.sameNow, if_true]; rfl, fun q => ?_⟩
    have := of_decide_eq_true q
    subst this
    exact bits_int _ _ _
  · simp only [VR] at hk he
    subst hk; subst he
    simp only [Option.some.injEq] at h; subst h
    rename_i s t
    have hd : eqBs s.data.toList t.data.toList = (s == t) := by
      rw [Bool.eq_iff_iff, MapKept.bytes_beq]
      constructor
      · intro hq
        have := eqBs_ok hq
        cases s; cases t; congr 1; exact Array.ext' this
      · rintro rfl
        have : ∀ l : List UInt8, eqBs l l = true := by
          intro l; induction l with
          | nil => rfl
          | cons a l ih => simp [eqBs, ih]
        exact this _
    refine ⟨by simp only [Instr.sameNow, hd], fun q => ?_⟩
    rw [hd, MapKept.bytes_beq] at q
    subst q
    exact bits_str _ _
  · simp only [VR] at hk he
    subst hk; subst he
    simp only [Option.some.injEq] at h; subst h
    refine ⟨by simp [Instr.sameNow], fun q => ?_⟩
    have := eq_of_beq q
    subst this
    exact bits_bool _ _
  · cases h
theorem findA_none {d : TypeDesc} {k : AV} {kv : Value} (hk : VR ρ k kv) : ∀ {es : List (AV × AV × Nat)} {l : List MapEntry} {i : Nat}, ER ρ es l → findA d k es i = some none → Instr.findNow d kv l i = some none := by
  intro es
  induction es with
  | nil => intro l i hl h; cases hl; rfl
  | cons x t ih =>
    rintro l i ⟨e, l', h1, h2, h3, h4, rfl⟩ h
    simp only [findA] at h
    split at h
    · cases h
    · rename_i hn
      obtain ⟨g1, _⟩ := nowA_same hn hk h1
      simp only [Instr.findNow, g1]
      exact ih h4 h
    · cases h
theorem findA_some {d : TypeDesc} {k : AV} {kv : Value} (hk : VR ρ k kv) {v : AV} {j : Nat} : ∀ {es : List (AV × AV × Nat)} {l : List MapEntry} {i : Nat}, ER ρ es l → findA d k es i = some (some (j, v)) →
    ∃ u e, VR ρ v u ∧ Instr.findNow d kv l i = some (some (j, u)) ∧ i ≤ j ∧ l[j - i]? = some e ∧ Instr.sameBits 10000 e.key kv = true := by
  intro es
  induction es with
  | nil => intro l i hl h; simp [findA] at h
  | cons x t ih =>
    rintro l i ⟨e, l', h1, h2, h3, h4, rfl⟩ h
    simp only [findA] at h
    split at h
    · rename_i hn
      obtain ⟨g1, g2⟩ := nowA_same hn hk h1
      simp only [Option.some.injEq, Prod.mk.injEq] at h
      obtain ⟨rfl, rfl⟩ := h
      refine ⟨e.val, e, h2, by simp only [Instr.findNow, g1], Nat.le_refl _, by simp, g2 rfl⟩
    · rename_i hn
      obtain ⟨g1, _⟩ := nowA_same hn hk h1
      obtain ⟨u, e', q1, q2, q3, q4, q5⟩ := ih h4 h
      refine ⟨u, e', q1, by simp only [Instr.findNow, g1]; exact q2, by omega, ?_, q5⟩
      rw [show j - i = (j - (i + 1)) + 1 by omega]
      simpa using q4
    · cases h
theorem ER.push {es : List (AV × AV × Nat)} {l : List MapEntry} (h : ER ρ es l) {k v : AV} {kv vv : Value} {n : Nat} (hk : VR ρ k kv) (hv : VR ρ v vv) : ER ρ (es ++ [(k, v, n)]) (l ++ [{ key := kv, val := vv, born := n }]) := by
  induction es generalizing l with
  | nil => cases h; exact ⟨_, _, hk, hv, rfl, rfl, rfl⟩
  | cons x t ih =>
    obtain ⟨e, l', h1, h2, h3, h4, rfl⟩ := h
    exact ⟨e, _, h1, h2, h3, ih h4, rfl⟩
theorem ER.mod {k v : AV} {kv vv : Value} (hk : VR ρ k kv) (hv : VR ρ v vv) : ∀ {es : List (AV × AV × Nat)} {l : List MapEntry} (j : Nat), ER ρ es l → ER ρ (modA es j k v) (l.modify j fun e => { e with key := kv, val := vv }) := by
  intro es
  induction es with
  | nil => intro l j h; cases h; cases j <;> rfl
  | cons x t ih =>
    rintro l j ⟨e, l', h1, h2, h3, h4, rfl⟩
    cases j with
    | zero => exact ⟨{ e with key := kv, val := vv }, l', hk, hv, h3, h4, by simp⟩
    | succ j => exact ⟨e, _, h1, h2, h3, ih j h4, by simp⟩
theorem plain_key_n {d : TypeDesc} (hd : plainK d = true) {kt : TypeId} (hu : P.underlying kt = some d) (b : Bool) (v : Value) (w : World) (n : Nat) : (Instr.checkKey b (n + 1) kt v).run P w = .ok () w := by
  cases d <;> simp [plainK] at hd <;> (unfold Instr.checkKey; simp only [Sem.run_bind, run_underlying hu, Result.andThen_ok]; cases v <;> rfl)
theorem plain_key {d : TypeDesc} (hd : plainK d = true) {kt : TypeId} (hu : P.underlying kt = some d) (b : Bool) (v : Value) (w : World) : (Instr.checkKey b 10000 kt v).run P w = .ok () w := plain_key_n hd hu b v w 9999
theorem run_findNow {d : TypeDesc} {kt : TypeId} (hu : P.underlying kt = some d) {kv : Value} {l : List MapEntry} {r : Option (Nat × Value)} (h : Instr.findNow d kv l 0 = some r) (w : World) :
    (Instr.findKey kt kv l).run P w = .ok r w := by
  simp [Instr.findKey, run_underlying hu, h]
theorem entsA_ok {st : St} (h : HR Y G B ρ st.h w) {m : AV} {mv : Value} (hm : VR ρ m mv) {es : List (AV × AV × Nat)} (he : entsA st m = some es) :
    ∃ l : List MapEntry, ER ρ es l ∧ ((mv = .map none ∧ l = []) ∨ ∃ r c, mv = .map (some r) ∧ w.heap[r]? = some (.map l.toArray c)) := by
  unfold entsA at he
  split at he
  · simp only [Option.some.injEq] at he; subst he
    simp only [VR] at hm; subst hm
    exact ⟨[], rfl, .inl ⟨rfl, rfl⟩⟩
  · rename_i b
    split at he
    case h_2 => cases he
    rename_i es' c hb
    simp only [Option.some.injEq] at he; subst he
    simp only [VR] at hm
    obtain ⟨_, rfl⟩ := hm
    obtain ⟨l, h1, h2⟩ := h.blk b _ hb
    exact ⟨l, h1, .inr ⟨_, c, rfl, h2⟩⟩
  · cases he
theorem run_look {t kt et : TypeId} {d : TypeDesc} {mv kv v : Value} {ok b : Bool} {l : List MapEntry} (hu : P.underlying t = some (.map kt et)) (hp : plainK d = true) (hd : P.underlying kt = some d)
    (hm : (mv = .map none ∧ l = []) ∨ ∃ r c, mv = .map (some r) ∧ w.heap[r]? = some (.map l.toArray c))
    (hf : (∃ j, (Instr.findKey kt kv l).run P w = .ok (some (j, v)) w ∧ b = true) ∨ ((Instr.findKey kt kv l).run P w = .ok none w ∧ (zeroValue et).run P w = .ok v w ∧ b = false)) :
    (Instr.lookup t mv kv ok).run P w = .ok (if ok then .tuple #[v, .bool b] else v) w := by
  rcases hm with ⟨rfl, rfl⟩ | ⟨r, c, rfl, hb⟩
  · rcases hf with ⟨j, h1, rfl⟩ | ⟨h1, h2, rfl⟩
    · simp [Instr.lookup, run_underlying hu, plain_key hp hd, h1]
    · simp [Instr.lookup, run_underlying hu, plain_key hp hd, h1, h2]
  · rcases hf with ⟨j, h1, rfl⟩ | ⟨h1, h2, rfl⟩
    · simp [Instr.lookup, run_underlying hu, getObj, Sem.run, hb, plain_key hp hd, h1]
    · simp [Instr.lookup, run_underlying hu, getObj, Sem.run, hb, plain_key hp hd, h1, h2]
theorem lookV {a z : AV} {u : Value} {ok b : Bool} (hr : (bif ok then AV.tup (AV.of [z, .bool b]) else z) = a) (hz : VR ρ z u) : VR ρ a (if ok then .tuple #[u, .bool b] else u) := by
  subst hr
  cases ok with
  | true => simp only [cond_true, if_true, VR]; refine ⟨[_, _], ?_, rfl⟩; simp only [AV.of, LR, VR]; exact ⟨_, _, hz, ⟨_, _, rfl, rfl, rfl⟩, rfl⟩
  | false => exact hz
theorem run_lookA {st : St} (h : HR Y G B ρ st.h w) {t : TypeId} {m k : AV} {mv kv : Value} {ok : Bool} {a : AV} (hr : lookA P st t m k ok = some a) (hm : VR ρ m mv) (hk : VR ρ k kv) :
    ∃ v, VR ρ a v ∧ (Instr.lookup t mv kv ok).run P w = .ok v w := by
  unfold lookA at hr
  split at hr
  case h_2 => cases hr
  rename_i kt et hu
  split at hr
  case h_2 => cases hr
  rename_i d es hd hes
  cases hp : plainK d with
  | false => simp [hp] at hr
  | true =>
  simp only [hp, cond_true] at hr
  obtain ⟨l, h1, h2⟩ := entsA_ok h hm hes
  split at hr
  · rename_i j v hf
    simp only [Option.some.injEq] at hr
    obtain ⟨u, e, q1, q2, _⟩ := findA_some hk h1 hf
    exact ⟨_, lookV hr q1, run_look hu hp hd h2 (.inl ⟨j, run_findNow hd q2 w, rfl⟩)⟩
  · rename_i hf
    have q2 := findA_none hk h1 hf
    split at hr
    case h_2 => cases hr
    rename_i z hz
    simp only [Option.some.injEq] at hr
    obtain ⟨u, q1, hz'⟩ := run_zeroA (ρ := ρ) hz
    exact ⟨_, lookV hr q1, run_look hu hp hd h2 (.inr ⟨run_findNow hd q2 w, hz' w, rfl⟩)⟩
  · cases hr
theorem run_updA {st st' : St} (h : HR Y G B ρ st.h w) {t : TypeId} {m k x : AV} {mv kv xv : Value} (hr : updA P st t m k x = some st') (hm : VR ρ m mv) (hk : VR ρ k kv) (hx : VR ρ x xv) :
    ∃ w', (Instr.mapUpdate t mv kv xv).run P w = .ok () w' ∧ Step Y G B ρ st w ρ st' w' := by
  unfold updA at hr
  split at hr
  case h_2 => cases hr
  rename_i kt et b hu
  split at hr
  case h_2 => cases hr
  rename_i d es c hd hb
  cases hp : plainK d with
  | false => simp [hp] at hr
  | true =>
  simp only [hp, cond_true] at hr
  simp only [VR] at hm
  obtain ⟨_, rfl⟩ := hm
  obtain ⟨l, h1, h2⟩ := h.blk b _ hb
  have hsz := (Array.getElem?_eq_some_iff.1 h2).1
  have fin : ∀ (es' : List (AV × AV × Nat)) (l' : List MapEntry) (c' : Nat), ER ρ es' l' → Step Y G B ρ st w ρ (st.put b (.mp es' c')) { w with heap := w.heap.setIfInBounds (ρ.blk b) (.map l'.toArray c') } := by
    intro es' l' c' hl
    have hw : ∀ j, j ≠ ρ.blk b → j < w.heap.size → (w.heap.setIfInBounds (ρ.blk b) (.map l'.toArray c'))[j]? = w.heap[j]? := fun j hj _ => by
      rw [Array.getElem?_setIfInBounds_ne (by omega)]
    exact ⟨.refl _, h.set hb (by simp) (by simp) hw (by simp) ⟨l', hl, by simp [hsz]⟩, h.below hb (by simp) ⟨rfl, rfl, rfl⟩ hw (by simp), TK.put h hb (by simp) hw⟩
  split at hr
  · rename_i j v hf
    simp only [Option.some.injEq] at hr; subst hr
    obtain ⟨u, e, q1, q2, _, q4, q5⟩ := findA_some hk h1 hf
    have h3 := run_findNow hd q2 w
    refine ⟨_, ?_, fin _ _ c (ER.mod hk hx j h1)⟩
    have hl : l.toArray[j]? = some e := by simpa using q4
    simp [Instr.mapUpdate, run_underlying hu, getObj, setObj, Sem.run, h2, plain_key hp hd, h3, Instr.keyThatStays]
    intro q7
    have q4' : l[j]? = some e := by simpa using q4
    have q6 : Instr.sameBits 10000 ((Option.map (fun x => x.key) l[j]?).getD kv) kv = true := by rw [q4']; exact q5
    rw [q6] at q7
    cases q7
  · rename_i hf
    simp only [Option.some.injEq] at hr; subst hr
    have q2 := findA_none hk h1 hf
    have h3 := run_findNow hd q2 w
    refine ⟨_, ?_, fin _ _ (c + 1) (h1.push hk hx)⟩
    simp [Instr.mapUpdate, run_underlying hu, getObj, setObj, Sem.run, h2, plain_key hp hd, h3]
  · cases hr
end
end Go.Ev
