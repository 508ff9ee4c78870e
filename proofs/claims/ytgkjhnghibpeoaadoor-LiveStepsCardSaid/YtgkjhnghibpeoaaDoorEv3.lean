/- Operations that yield a value in whatever world. -/
import Derived.Test.YtgkjhnghibpeoaaDoorEv2
import Derived.IntWalk
namespace Go.Ev
noncomputable section
open Go Go.RowKit

theorem run_slA {P : Program} {ev : Operand → Option AV} {ρ : Env} {r : Operand → Value} (he : EvOk ρ ev r) {t : TypeId} {x : Operand} {lo hi mx : Option Operand} {a : AV}
    (h : slA P ev t x lo hi mx = some a) : ∃ v, VR ρ a v ∧ ∀ w, (Instr.sliceAt t (r x) (lo.map r) (hi.map r) (mx.map r)).run P w = .ok v w := by
  unfold slA at h
  split at h
  · rename_i e b o n c z ex hu hx
    split at h
    · rename_i l hh z' hl hhi hz
      simp only [beq_dec, ble_dec, ← Bool.decide_and, Bool.cond_decide] at h
      have hv := he x _ hx
      simp only [VR] at hv
      obtain ⟨hd, c', ⟨hc, hex⟩, hlim, hv⟩ := hv
      by_cases q : z = z' ∧ l ≤ hh ∧ hh ≤ c
      case neg => rw [if_neg q] at h; cases h
      rw [if_pos q] at h
      obtain ⟨rfl, q1, q2⟩ := q
      have hb : ∀ w, (Instr.sliceBounds true n c' (lo.map r) (hi.map r) (none : Option Value)).run P w = .ok (l, hh, c') w := fun w =>
        run_bounds (P := P) (w := w) (mx := none) he hl hhi rfl q1 (by omega) (Nat.le_refl _)
      have hr : ∀ w, (Instr.sliceAt t (r x) (lo.map r) (hi.map r) ((none : Option Operand).map r)).run P w = .ok (.slice (if c' = l then some ⟨ρ.blk b, ρ.sh b + o, none⟩ else some ⟨ρ.blk b, ρ.sh b + o + l * z, none⟩) (hh - l) (c' - l)) w := fun w => by
        simp only [Instr.sliceAt, Sem.run_bind, run_underlying hu w, Result.andThen_ok, Instr.slice, hv, hb w, Option.map_none, run_sizeA hz w, Sem.run_pure, Option.map_some, Addr.add_mid]
      refine ⟨_, ?_, hr⟩
      by_cases q3 : l ≤ 0
      · have : l = 0 := by omega
        subst this
        simp only [if_true, Nat.le_refl, Option.some.injEq] at h; subst h
        simp only [VR]
        refine ⟨hd, c', ⟨hc, hex⟩, hlim, ?_⟩
        simp
      · by_cases q4 : l + 1 ≤ c
        · simp only [q3, q4, if_true, if_false, Option.some.injEq] at h; subst h
          simp only [VR]
          refine ⟨hd, c' - l, ⟨by omega, fun e => by rw [hex e]⟩, ?_, ?_⟩
          · have : l * z + (c' - l) * z = c' * z := by rw [← Nat.add_mul]; congr 1; omega
            omega
          · rw [if_neg (by omega), Nat.add_assoc]
        · by_cases q5 : hh = l
          · simp only [q3, q4, q5, if_true, if_false, Option.some.injEq] at h; subst h
            simp only [VR]
            rw [q5, Nat.sub_self]
            split <;> exact ⟨_, _, rfl⟩
          · simp [q3, q4, q5] at h
    · cases h
  · rename_i e b o n c z ex m0 hu hx
    split at h
    · rename_i l hh m z' hl hhi hm hz
      have hv := he x _ hx
      simp only [VR] at hv
      obtain ⟨hd, c', ⟨hc, hex⟩, hlim, hv⟩ := hv
      by_cases q0 : hi.isSome = true
      case neg => simp [q0] at h
      simp only [q0, Bool.true_and, beq_dec, ble_dec, ← Bool.decide_and, Bool.cond_decide] at h
      split at h
      case isFalse => cases h
      rename_i q
      obtain ⟨⟨rfl, q1, q2, q3⟩, q4⟩ := q
      simp only [Option.some.injEq] at h; subst h
      have hb : ∀ w, (Instr.sliceBounds true n c' (lo.map r) (hi.map r) ((some m0).map r)).run P w = .ok (l, hh, m) w := fun w =>
        run_bounds (P := P) (w := w) (mx := some m0) he hl hhi ⟨hm, q0⟩ q1 q2 (by omega)
      refine ⟨.slice (some ⟨ρ.blk b, ρ.sh b + o + l * z, none⟩) (hh - l) (m - l), ?_, fun w => ?_⟩
      · simp only [VR]
        refine ⟨hd, m - l, ⟨Nat.le_refl _, fun _ => rfl⟩, ?_, by rw [Nat.add_assoc]⟩
        have e1 : l * z + (m - l) * z = m * z := by rw [← Nat.add_mul]; congr 1; omega
        have e2 : m * z ≤ c' * z := Nat.mul_le_mul_right z (by omega)
        omega
      · have := hb w
        simp only [Option.map_some] at this
        simp only [Instr.sliceAt, Sem.run_bind, run_underlying hu w, Result.andThen_ok, Instr.slice, hv, Option.map_some, this, run_sizeA hz w, Sem.run_pure, Addr.add_mid]
        rw [if_neg (by omega)]
    · cases h
  · rename_i e hu hx
    split at h
    · rename_i l hh hl hhi
      split at h
      case h_2 => cases h
      rename_i z hz
      simp only [beq_dec, ← Bool.decide_and, Bool.cond_decide] at h
      split at h
      case isFalse => cases h
      rename_i q
      obtain ⟨rfl, rfl⟩ := q
      simp only [Option.some.injEq] at h; subst h
      have hv := he x _ hx
      simp only [VR] at hv
      · refine ⟨.slice none 0 0, by simp only [VR], fun w => ?_⟩
        have hb := run_bounds (P := P) (w := w) (mx := none) (c := 0) he hl hhi rfl (Nat.le_refl _) (Nat.le_refl _) (Nat.le_refl _)
        simp only [Option.map_none] at hb
        simp only [Instr.sliceAt, Sem.run_bind, run_underlying hu w, Result.andThen_ok, Instr.slice, hv, hb, Option.map_none, run_sizeA hz w, Sem.run_pure, Nat.sub_self, if_true]
    · cases h
  · cases h

def lenA (ev : Operand → Option AV) (x : Operand) : Option Nat := match ev x with
  | some (.sl _ _ n _ _ _) => some n
  | some .nils => some 0
  | some .sle => some 0
  | _ => none
/-- Is this equal to nil, or to this? Only where no memory is asked. -/
def undIs (P : Program) (t : TypeId) (f : TypeDesc → Bool) (r : Bool) : Option Bool := match P.underlying t with
  | some d => bif f d then some r else none
  | none => none
def isPtr : TypeDesc → Bool | .pointer _ => true | _ => false
def isSli : TypeDesc → Bool | .slice _ => true | _ => false
def isMap : TypeDesc → Bool | .map _ _ => true | _ => false
def isFun : TypeDesc → Bool | .func _ _ _ => true | _ => false
def isIfc : TypeDesc → Bool | .interface _ => true | _ => false
def eqA (P : Program) (t : TypeId) (a b : AV) : Option Bool :=
  match a, b with
  | .nilp, .nilp => undIs P t isPtr true
  | .nilp, .ptr _ _ => undIs P t isPtr false
  | .ptr _ _, .nilp => undIs P t isPtr false
  | .nilp, .gptr _ _ => undIs P t isPtr false
  | .gptr _ _, .nilp => undIs P t isPtr false
  | .nils, .nils => undIs P t isSli true
  | .nils, .sl _ _ _ _ _ _ => undIs P t isSli false
  | .sl _ _ _ _ _ _, .nils => undIs P t isSli false
  | .nils, .sle => undIs P t isSli false
  | .sle, .nils => undIs P t isSli false
  | .nilm, .nilm => undIs P t isMap true
  | .nilm, .mp _ => undIs P t isMap false
  | .mp _, .nilm => undIs P t isMap false
  | .nilf, .nilf => undIs P t isFun true
  | .nilf, .clo _ _ _ => undIs P t isFun false
  | .clo _ _ _, .nilf => undIs P t isFun false
  | .nili, .ifc _ _ => undIs P t isIfc false
  | .ifc _ _, .nili => undIs P t isIfc false
  | _, _ => none
def pickA (ev : Operand → Option AV) (c a b : Operand) : Option AV := match ev c with
  | some (.bool t) => bif t then ev a else ev b
  | _ => none
def nilA (ev : Operand → Option AV) (x : Operand) : Option AV := match ev x with
  | some (.ptr b o) => some (.ptr b o)
  | some (.gptr b o) => some (.gptr b o)
  | some (.clo (.func f) a c) => some (.clo (.func f) a c)
  | some (.ifc t v) => some (.ifc t v)
  | some (.yl b) => some (.yl b)
  | _ => none
def faddrA (P : Program) (ev : Operand → Option AV) (s : TypeId) (x : Operand) (f : Nat) : Option AV := match fldA P s f with
  | some fd => match sizeA P fd.type with
    | some (_ + 1) => match ev x with
      | some (.ptr b o) => some (.ptr b (o + fd.offset))
      | some (.gptr b o) => some (.gptr b (o + fd.offset))
      | _ => none
    | _ => none
  | none => none
def fieldA (P : Program) (ev : Operand → Option AV) (t : TypeId) (x : Operand) (f : Nat) : Option AV := match fldA P t f with
  | some fd => match ev x with
    | some (.agg l) => match l.list with
      | some xs => partA P fd.type xs fd.offset
      | none => none
    | _ => none
  | none => none
def iaddrA (P : Program) (ev : Operand → Option AV) (t : TypeId) (x i : Operand) : Option AV := match P.underlying t, ev x, ev i with
  | some (.slice e), some (.sl b o n _c _z _), some (.int _ (.ofNat i)) => match sizeA P e with
    | some z' => bif Nat.ble (i + 1) n then some (.ptr b (o + i * z')) else none
    | none => none
  | some (.array n e), some (.ptr b o), some (.int _ (.ofNat i)) => match sizeA P e with
    | some z' => bif Nat.ble (i + 1) n then some (.ptr b (o + i * z')) else none
    | none => none
  | some (.array n e), some (.gptr b o), some (.int _ (.ofNat i)) => match sizeA P e with
    | some z' => bif Nat.ble (i + 1) n then some (.gptr b (o + i * z')) else none
    | none => none
  | _, _, _ => none
def indexA (P : Program) (ev : Operand → Option AV) (t : TypeId) (x i : Operand) : Option AV := match P.underlying t, ev x, ev i with
  | some (.array n e), some (.agg l), some (.int _ (.ofNat i)) => match sizeA P e, l.list with
    | some z, some xs => bif Nat.ble (i + 1) n then partA P e xs (i * z) else none
    | _, _ => none
  | _, _, _ => none
def mkifA (P : Program) (ev : Operand → Option AV) (t : TypeId) (x : Operand) : Option AV := match P.underlying t, ev x with
  | some (.interface _), _ => none
  | some _, some a => some (.ifc t a)
  | _, _ => none
def mkfnA (ev : Operand → Option AV) (f : Fn) (a c : List Operand) : Option AV := match evs ev a, evs ev c with
  | some xs, some cs => some (.clo f (.of xs) (.of cs))
  | _, _ => none
def extrA (ev : Operand → Option AV) (x : Operand) (i : Nat) : Option AV := match ev x with
  | some (.tup l) => match l.list with
    | some xs => xs[i]?
    | none => none
  | _ => none
/-- Numbers, quickly. -/
def smallI (k : IntKind) (n : Int) : Option AV := match k, n with
  | .i64, .ofNat m => bif Nat.ble m 9223372036854775807 then some (.int .i64 (.ofNat m)) else none
  | .u64, .ofNat m => bif Nat.ble m 9223372036854775807 then some (.int .u64 (.ofNat m)) else none
  | _, _ => none
def intA (op : BinOp) (k : IntKind) (a b : Int) : Option AV := match op with
  | .add => smallI k (a + b)
  | .sub => smallI k (a - b)
  | .mul => smallI k (a * b)
  | .eql => some (.bool (a == b))
  | .neq => some (.bool (a != b))
  | .lss => some (.bool (decide (a < b)))
  | .leq => some (.bool (decide (a ≤ b)))
  | .gtr => some (.bool (decide (a > b)))
  | .geq => some (.bool (decide (a ≥ b)))
  | _ => none
def cmpA (P : Program) (op : BinOp) (t : TypeId) (a b : AV) : Option AV := match op with
  | .eql => (eqA P t a b).map .bool
  | .neq => (eqA P t a b).map fun q => .bool (!q)
  | _ => none
def binA (P : Program) (op : BinOp) (t : TypeId) (a b : AV) : Option AV := match a, b with
  | .int k x, .int k' y => bif k == k' then intA op k x y else none
  | .str _, _ => none
  | .bool _, _ => none
  | a, b => cmpA P op t a b
def binO (P : Program) (ev : Operand → Option AV) (op : BinOp) (t : TypeId) (x y : Operand) : Option AV := match ev x, ev y with
  | some a, some b => binA P op t a b
  | _, _ => none
def lenO (P : Program) (ev : Operand → Option AV) (c : Call) : Option AV := match c.callee with
  | .builtin .len => match c.argTypes[0]?, c.args[0]? with
    | some t, some x => match P.underlying t with
      | some (.slice _) => (lenA ev x).map fun n => .int .i64 n
      | _ => none
    | _, _ => none
  | _ => none
def purA (P : Program) (ev : Operand → Option AV) (o : Oper) : Option AV :=
  match o.op with
  | .move x => ev x
  | .assign x => ev x
  | .pick c a b => pickA ev c a b
  | .nilCheck x => nilA ev x
  | .fieldAddr s x f => faddrA P ev s x f
  | .field t x f => fieldA P ev t x f
  | .indexAddr t x i => iaddrA P ev t x i
  | .index t x i => indexA P ev t x i
  | .slice t x lo hi mx => slA P ev t x lo hi mx
  | .makeInterface t x => mkifA P ev t x
  | .makeFunc f a c => mkfnA ev f a.toList c.toList
  | .extract x i => extrA ev x i
  | .binOp op t x y _ => binO P ev op t x y
  | .call c => lenO P ev c
  | _ => none
theorem wrap_small {k : IntKind} {n : Int} {a : AV} (h : smallI k n = some a) : a = .int k n ∧ k.wrap n = n := by
  unfold smallI at h
  split at h
  · rename_i m
    simp only [ble_dec, Bool.cond_decide] at h
    split at h
    case isFalse => cases h
    simp only [Option.some.injEq] at h; subst h
    exact ⟨rfl, IntWalk.i64_in _ (by simp; omega)⟩
  · rename_i m
    simp only [ble_dec, Bool.cond_decide] at h
    split at h
    case isFalse => cases h
    simp only [Option.some.injEq] at h; subst h
    exact ⟨rfl, IntWalk.u64_in _ (by simp; omega)⟩
  · cases h
theorem intA_run {P : Program} {op : BinOp} {k : IntKind} {x y : Int} {t : TypeId} {a : AV} {ρ : Env} (h : intA op k x y = some a) :
    ∃ v, VR ρ a v ∧ ∀ p q w, ((eqGuard op t p q (.int k x) (.int k y)) >>= fun _ => binOp op t (.int k x) (.int k y)).run P w = .ok v w := by
  unfold intA at h
  split at h
  · obtain ⟨rfl, hw⟩ := wrap_small h
    exact ⟨.int k (x + y), by simp only [VR], fun p q w => by simp [eqGuard, binOp, Op.intArith, hw]⟩
  · obtain ⟨rfl, hw⟩ := wrap_small h
    exact ⟨.int k (x - y), by simp only [VR], fun p q w => by simp [eqGuard, binOp, Op.intArith, hw]⟩
  · obtain ⟨rfl, hw⟩ := wrap_small h
    exact ⟨.int k (x * y), by simp only [VR], fun p q w => by simp [eqGuard, binOp, Op.intArith, hw]⟩
  all_goals first
    | (simp only [Option.some.injEq] at h; subst h
       refine ⟨.bool _, by simp only [VR]; rfl, fun p q w => ?_⟩
       simp [eqGuard, binOp, Op.intCmp])
    | cases h
theorem equal_run {P : Program} {ρ : Env} {t : TypeId} {a b : AV} {q : Bool} {u v : Value} (h : eqA P t a b = some q) (ha : VR ρ a u) (hb : VR ρ b v) :
    (∀ w, (Op.equal t u v).run P w = .ok q w) ∧ (∀ f x y w, (eqGuard f t x y u v).run P w = .ok () w) ∧
      (∀ w, (binOp .eql t u v).run P w = .ok (.bool q) w) ∧ (∀ w, (binOp .neq t u v).run P w = .ok (.bool !q) w) := by
  have key : (∀ d w, (Op.equalIn (d + 1) t u v).run P w = .ok q w) ∧ (∀ f x y w, (eqGuard f t x y u v).run P w = .ok () w) ∧
      binOp .eql t u v = (do pure (.bool (← Op.equal t u v))) ∧ binOp .neq t u v = (do pure (.bool (!(← Op.equal t u v)))) := by
    unfold eqA at h
    split at h
    all_goals first | (cases h; done) | skip
    all_goals
      unfold undIs at h
      split at h
      case h_2 => cases h
      rename_i d hu
      cases d <;> simp only [isPtr, isSli, isMap, isFun, isIfc, cond_false, cond_true, reduceCtorEq, Option.some.injEq] at h
      subst h
      simp only [VR] at ha hb
      first
        | subst ha
        | (replace ha := ha.2; subst ha)
        | (replace ha := ha.2; obtain ⟨_, _, _, ha⟩ := ha; subst ha)
        | (obtain ⟨_, _, ha⟩ := ha; subst ha)
        | (obtain ⟨_, _, _, _, ha⟩ := ha; subst ha)
      first
        | subst hb
        | (replace hb := hb.2; subst hb)
        | (replace hb := hb.2; obtain ⟨_, _, _, hb⟩ := hb; subst hb)
        | (obtain ⟨_, _, hb⟩ := hb; subst hb)
        | (obtain ⟨_, _, _, _, hb⟩ := hb; subst hb)
      refine ⟨fun d w => ?_, fun f x y w => ?_, rfl, rfl⟩
      · simp [Op.equalIn, run_underlying hu w]
      · cases f <;> simp [eqGuard]
  obtain ⟨h1, h2, h3, h4⟩ := key
  have h5 : ∀ w, (Op.equal t u v).run P w = .ok q w := h1 9999
  exact ⟨h5, h2, fun w => by rw [h3]; simp [h5 w], fun w => by rw [h4]; simp [h5 w]⟩
theorem lenA_run {ρ : Env} {ev : Operand → Option AV} {r : Operand → Value} (he : EvOk ρ ev r) {x : Operand} {n : Nat} (h : lenA ev x = some n) : ∃ p c, r x = .slice p n c := by
  unfold lenA at h
  split at h
  · rename_i hx
    simp only [Option.some.injEq] at h; subst h
    have := he x _ hx
    simp only [VR] at this
    obtain ⟨_, c', _, _, h⟩ := this
    exact ⟨_, _, h⟩
  · rename_i hx
    simp only [Option.some.injEq] at h; subst h
    have := he x _ hx
    simp only [VR] at this
    exact ⟨_, _, this⟩
  · rename_i hx
    simp only [Option.some.injEq] at h; subst h
    have := he x _ hx
    simp only [VR] at this
    obtain ⟨_, _, h⟩ := this
    exact ⟨_, _, h⟩
  · cases h
theorem run_fieldPlace {P : Program} {fd : Field} {n : Nat} (hn : sizeA P fd.type = some (n + 1)) (b o : Nat) (w : World) : (fieldPlace ⟨b, o, none⟩ fd).run P w = .ok ⟨b, o + fd.offset, none⟩ w := by
  simp [fieldPlace, run_sizeA hn w, Addr.add_mid]
theorem run_fldA {P : Program} {s : TypeId} {f : Nat} {fd : Field} (h : fldA P s f = some fd) : ∃ fs : Array Field, P.underlying s = some (.struct fs) ∧ fs[f]? = some fd := by
  unfold fldA at h
  split at h
  · rename_i fs hu; exact ⟨fs, hu, h⟩
  · cases h
set_option maxHeartbeats 1000000 in
theorem purA_run {P : Program} {ρ : Env} {ev : Operand → Option AV} {r : Operand → Value} (he : EvOk ρ ev r) {o : Oper} {a : AV} (h : purA P ev o = some a) :
    ∃ v, VR ρ a v ∧ ∀ w, (execOp r o).run P w = .ok (.value v) w := by
  obtain ⟨dst, op, type, pos, after, guard⟩ := o
  unfold purA at h
  simp only at h
  split at h
  · rename_i x
    exact ⟨r x, he x a h, fun w => rfl⟩
  · rename_i x
    exact ⟨r x, he x a h, fun w => rfl⟩
  · rename_i c x y
    unfold pickA at h
    split at h
    · rename_i t ht
      have hc := he c _ ht
      simp only [VR] at hc
      cases t
      · exact ⟨r y, he y a h, fun w => by simp [execOp, hc, asBool]⟩
      · exact ⟨r x, he x a h, fun w => by simp [execOp, hc, asBool]⟩
    · cases h
  · rename_i x
    unfold nilA at h
    split at h
    · rename_i b o hx
      simp only [Option.some.injEq] at h; subst h
      have hv := he x _ hx
      refine ⟨r x, hv, fun w => ?_⟩
      simp only [VR] at hv
      simp [execOp, hv.2]
    · rename_i b o hx
      simp only [Option.some.injEq] at h; subst h
      have hv := he x _ hx
      refine ⟨r x, hv, fun w => ?_⟩
      simp only [VR] at hv
      simp [execOp, hv]
    · rename_i f p c hx
      simp only [Option.some.injEq] at h; subst h
      have hv := he x _ hx
      refine ⟨r x, hv, fun w => ?_⟩
      simp only [VR] at hv
      obtain ⟨xs, cs, _, _, hv⟩ := hv
      simp [execOp, hv]
    · rename_i t p hx
      simp only [Option.some.injEq] at h; subst h
      have hv := he x _ hx
      refine ⟨r x, hv, fun w => ?_⟩
      simp only [VR] at hv
      obtain ⟨u, _, hv⟩ := hv
      simp [execOp, hv]
    · rename_i b hx
      simp only [Option.some.injEq] at h; subst h
      have hv := he x _ hx
      refine ⟨r x, hv, fun w => ?_⟩
      simp only [VR] at hv
      simp [execOp, hv.2]
    · cases h
  · rename_i s x f
    unfold faddrA at h
    split at h
    · rename_i fd hf
      obtain ⟨fs, hu, hfs⟩ := run_fldA hf
      split at h
      · rename_i n hn
        split at h
        · rename_i b o hx
          simp only [Option.some.injEq] at h; subst h
          have hv := he x _ hx
          simp only [VR] at hv
          obtain ⟨hd, hv⟩ := hv
          refine ⟨.pointer (some ⟨ρ.blk b, ρ.sh b + o + fd.offset, none⟩), by simp only [VR]; exact ⟨hd, by rw [Nat.add_assoc]⟩, fun w => ?_⟩
          simp [execOp, Instr.fieldAt, run_underlying hu w, hfs, hv, Instr.sureAddr, run_fieldPlace hn]
        · rename_i b o hx
          simp only [Option.some.injEq] at h; subst h
          have hv := he x _ hx
          simp only [VR] at hv
          refine ⟨.pointer (some ⟨b, o + fd.offset, none⟩), by simp only [VR], fun w => ?_⟩
          simp [execOp, Instr.fieldAt, run_underlying hu w, hfs, hv, Instr.sureAddr, run_fieldPlace hn]
        · cases h
      · cases h
    · cases h
  · rename_i t x f
    unfold fieldA at h
    split at h
    · rename_i fd hf
      obtain ⟨fs, hu, hfs⟩ := run_fldA hf
      split at h
      · rename_i l hx
        split at h
        · rename_i xs hl
          have hv := he x _ hx
          simp only [VR] at hv
          obtain ⟨us, hus, hv⟩ := hv
          obtain ⟨v, hr, hp⟩ := run_partA h (LR.fr hl hus)
          exact ⟨v, hr, fun w => by simp [execOp, Instr.field, run_underlying hu w, hfs, hv, asAgg, hp w]⟩
        · cases h
      · cases h
    · cases h
  · rename_i t x i
    unfold iaddrA at h
    split at h
    · rename_i e b o n c z ex k j hu hx hi
      split at h
      · rename_i z' hz
        simp only [ble_dec, Bool.cond_decide] at h
        split at h
        case isFalse => cases h
        rename_i hlt
        simp only [Option.some.injEq] at h; subst h
        have hv := he x _ hx
        have hj := he i _ hi
        simp only [VR] at hv hj
        obtain ⟨hd, c', _, _, hv⟩ := hv
        refine ⟨.pointer (some ⟨ρ.blk b, ρ.sh b + o + j * z', none⟩), by simp only [VR]; exact ⟨hd, by rw [Nat.add_assoc]⟩, fun w => ?_⟩
        simp [execOp, Instr.indexAt, hj, asIntOf, run_underlying hu w, hv, run_sizeA hz w, Addr.add_mid]
        omega
      · cases h
    · rename_i n e b o k j hu hx hi
      split at h
      · rename_i z' hz
        simp only [ble_dec, Bool.cond_decide] at h
        split at h
        case isFalse => cases h
        rename_i hlt
        simp only [Option.some.injEq] at h; subst h
        have hv := he x _ hx
        have hj := he i _ hi
        simp only [VR] at hv hj
        obtain ⟨hd, hv⟩ := hv
        refine ⟨.pointer (some ⟨ρ.blk b, ρ.sh b + o + j * z', none⟩), by simp only [VR]; exact ⟨hd, by rw [Nat.add_assoc]⟩, fun w => ?_⟩
        simp [execOp, Instr.indexAt, hj, asIntOf, run_underlying hu w, hv, run_sizeA hz w, Addr.add_mid, Instr.sureAddr]
        omega
      · cases h
    · rename_i n e b o k j hu hx hi
      split at h
      · rename_i z' hz
        simp only [ble_dec, Bool.cond_decide] at h
        split at h
        case isFalse => cases h
        rename_i hlt
        simp only [Option.some.injEq] at h; subst h
        have hv := he x _ hx
        have hj := he i _ hi
        simp only [VR] at hv hj
        refine ⟨.pointer (some ⟨b, o + j * z', none⟩), by simp only [VR], fun w => ?_⟩
        simp [execOp, Instr.indexAt, hj, asIntOf, run_underlying hu w, hv, run_sizeA hz w, Addr.add_mid, Instr.sureAddr]
        omega
      · cases h
    · cases h
  · rename_i t x i
    unfold indexA at h
    split at h
    · rename_i n e l k j hu hx hi
      split at h
      · rename_i z xs hz hl
        simp only [ble_dec, Bool.cond_decide] at h
        split at h
        case isFalse => cases h
        rename_i hlt
        have hv := he x _ hx
        have hj := he i _ hi
        simp only [VR] at hv hj
        obtain ⟨us, hus, hv⟩ := hv
        obtain ⟨v, hr, hp⟩ := run_partA h (LR.fr hl hus)
        refine ⟨v, hr, fun w => ?_⟩
        have h1 : (0 : Int) ≤ (j : Int) ∧ (j : Int) < n := by omega
        simp [execOp, Instr.index, hj, asIntOf, run_underlying hu w, hv, run_sizeA hz w, h1, hp w]
        (try (intro hh; omega))
      · cases h
    · cases h
  · rename_i t x lo hi mx
    obtain ⟨v, hr, hp⟩ := run_slA he h
    exact ⟨v, hr, fun w => by simp [execOp, hp w]⟩
  · rename_i t x
    unfold mkifA at h
    split at h
    · cases h
    · rename_i d y hn hu hx
      simp only [Option.some.injEq] at h; subst h
      have hv := he x _ hx
      refine ⟨.iface t (r x), by simp only [VR]; exact ⟨_, hv, rfl⟩, fun w => ?_⟩
      simp only [execOp, Instr.makeInterface, Sem.run_bind, run_underlying hu w, Result.andThen_ok]
      rfl
    · cases h
  · rename_i f x c
    unfold mkfnA at h
    split at h
    · rename_i xs cs hx hc
      simp only [Option.some.injEq] at h; subst h
      have h1 := evs_FR he hx
      have h2 := evs_FR he hc
      refine ⟨.func f (x.map r) (c.map r), ?_, fun w => rfl⟩
      simp only [VR]
      exact ⟨_, _, h1.lr, h2.lr, by simp [← Array.toList_map]⟩
    · cases h
  · rename_i x i
    unfold extrA at h
    split at h
    · rename_i l hx
      split at h
      · rename_i xs hl
        have hv := he x _ hx
        simp only [VR] at hv
        obtain ⟨us, hus, hv⟩ := hv
        obtain ⟨v, h1, h2⟩ := (LR.fr hl hus).get h
        exact ⟨v, h2, fun w => by simp [execOp, Instr.extract, hv, h1]⟩
      · cases h
    · cases h
  · rename_i op t x y yt
    unfold binO at h
    split at h
    · rename_i p q hx hy
      unfold binA at h
      have hp := he x _ hx
      have hq := he y _ hy
      have cmp : cmpA P op t p q = some a → ∃ v, VR ρ a v ∧ ∀ w, Sem.run P (execOp r { dst := dst, op := .binOp op t x y yt, type := type, pos := pos, after := after, guard := guard }) w = .ok (.value v) w := by
        intro h
        unfold cmpA at h
        split at h
        · cases hq : eqA P t p q with
          | none => simp [hq] at h
          | some d =>
            simp [hq] at h; subst h
            obtain ⟨_, h2, h3, _⟩ := equal_run hq (he x _ hx) (he y _ hy)
            exact ⟨.bool d, by simp only [VR], fun w => by simp [execOp, h2, h3]⟩
        · cases hq : eqA P t p q with
          | none => simp [hq] at h
          | some d =>
            simp [hq] at h; subst h
            obtain ⟨_, h2, _, h3⟩ := equal_run hq (he x _ hx) (he y _ hy)
            exact ⟨.bool !d, by simp only [VR], fun w => by simp [execOp, h2, h3]⟩
        · cases h
      split at h
      · rename_i k i k' j
        by_cases hk : k = k'
        · subst hk
          simp only [beq_self_eq_true, cond_true] at h
          simp only [VR] at hp hq
          obtain ⟨v, h1, h2⟩ := intA_run (P := P) (t := t) (ρ := ρ) h
          refine ⟨v, h1, fun w => ?_⟩
          have := h2 x y w
          simp only [execOp, hp, hq]
          rw [Sem.run_bind, this]
          rfl
        · have : (k == k') = false := by simpa using hk
          rw [this] at h
          cases h
      · cases h
      · cases h
      · exact cmp h
    · cases h
  · rename_i c
    unfold lenO at h
    split at h
    case h_2 => cases h
    rename_i hcb
    split at h
    · rename_i t x ht hx
      split at h
      · rename_i e hu
        cases hn : lenA ev x with
        | none => simp [hn] at h
        | some n =>
          simp [hn] at h; subst h
          obtain ⟨p, c, hv⟩ := lenA_run he hn
          refine ⟨.int .i64 n, by simp only [VR], fun w => ?_⟩
          simp [execOp, resolve, hcb, invoke, builtin, Builtin.len_, ht, hx, run_underlying hu w, hv, goInt]
      · cases h
    · cases h
  · cases h
end
end Go.Ev
