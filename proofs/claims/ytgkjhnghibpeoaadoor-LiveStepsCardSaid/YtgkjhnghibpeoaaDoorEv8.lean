/- Structs and slices made of parts; make; copy. -/
import Derived.Test.YtgkjhnghibpeoaaDoorEv6
import Derived.Test.YtgkjhnghibpeoaaDoorEv4B
import Derived.IntWalk
namespace Go.Ev
noncomputable section
open Go Go.RowKit
variable {Y : Nat → Option LoopRec} {G : Nat → Nat → Option AV} {B : Nat} {ρ : Env} {w : World} {P : Program}

theorem foldl_set (off : Nat) : ∀ (vs : List Value) (k : Nat) (cs : Array Value), off + k + vs.length ≤ cs.size →
    ((vs.zipIdx k).foldl (fun (cs : Array Value) (x : Value × Nat) => cs.setIfInBounds (off + x.2) x.1) cs).toList = cs.toList.take (off + k) ++ vs ++ cs.toList.drop (off + k + vs.length) := by
  intro vs
  induction vs with
  | nil => intro k cs _; simp
  | cons v t ih =>
    intro k cs h
    simp only [List.length_cons] at h
    simp only [List.zipIdx_cons, List.foldl_cons]
    rw [ih (k + 1) _ (by simp; omega)]
    have e := list_seg_step cs.toList (off + k) v t (by simp; omega)
    simpa [Array.toList_setIfInBounds, Nat.add_assoc] using e
theorem fill_one (off : Nat) (v : Array Value) (cs : Array Value) (h : off + v.size ≤ cs.size) :
    (v.zipIdx.foldl (fun cs (x : Value × Nat) => cs.setIfInBounds (off + x.2) x.1) cs).toList = cs.toList.take off ++ v.toList ++ cs.toList.drop (off + v.size) := by
  have := foldl_set off v.toList 0 cs (by simpa using h)
  rw [← Array.foldl_toList, Array.toList_zipIdx]
  simpa using this
def fillA (place : Nat → Option (Nat × Nat)) (cells : List AV) : List (Nat × AV) → Option (List AV)
  | [] => some cells
  | (i, v) :: rest => match place i, cellsA v with
    | some (off, size), some xs => bif Nat.beq xs.length size && Nat.ble (off + xs.length) cells.length then fillA place (setL cells off xs) rest else none
    | _, _ => none
/-- Parts, pointwise. -/
def PR (ρ : Env) : List (Nat × AV) → List (Nat × Value) → Prop
  | [], l => l = []
  | a :: t, l => ∃ v l', VR ρ a.2 v ∧ PR ρ t l' ∧ l = (a.1, v) :: l'
theorem run_fillA {place : Nat → Option (Nat × Nat)} : ∀ {ps : List (Nat × AV)} {qs : List (Nat × Value)} {cells out : List AV} {cs : Array Value}, PR ρ ps qs → FR ρ cells cs.toList → fillA place cells ps = some out →
    ∃ os, Instr.fill place cs qs = some os ∧ FR ρ out os.toList := by
  intro ps
  induction ps with
  | nil =>
    intro qs cells out cs hq hc h
    cases hq
    simp only [fillA, Option.some.injEq] at h; subst h
    exact ⟨cs, rfl, hc⟩
  | cons p t ih =>
    obtain ⟨i, a⟩ := p
    rintro qs cells out cs ⟨v, l', hv, hl, rfl⟩ hc h
    simp only [fillA] at h
    split at h
    case h_2 => cases h
    rename_i off size xs hp hx
    simp only [beq_dec, ble_dec, ← Bool.decide_and, Bool.cond_decide] at h
    split at h
    case isFalse => cases h
    rename_i q
    obtain ⟨rfl, hle⟩ := q
    have hx' := cellsA_run hx hv
    have h1 := hx'.length
    have h2 := hc.length
    simp only [Array.length_toList] at h1 h2
    have hFR : FR ρ (setL cells off xs) (v.cells.zipIdx.foldl (fun (cs : Array Value) (x : Value × Nat) => cs.setIfInBounds (off + x.2) x.1) cs).toList := by
      rw [fill_one off v.cells cs (by omega)]
      show FR ρ (cells.take off ++ xs ++ cells.drop (off + xs.length)) _
      rw [← h1]
      exact ((hc.take off).append hx').append (hc.drop _)
    obtain ⟨os, ho, hr⟩ := ih hl hFR h
    refine ⟨os, ?_, hr⟩
    simp only [Instr.fill, hp]
    rw [if_neg (by simp; omega)]
    exact ho
def evps (ev : Operand → Option AV) : List (Nat × Operand) → Option (List (Nat × AV))
  | [] => some []
  | x :: t => match ev x.2 with
    | some a => match evps ev t with
      | some l => some ((x.1, a) :: l)
      | none => none
    | none => none
theorem evps_PR {ev : Operand → Option AV} {r : Operand → Value} (he : EvOk ρ ev r) : ∀ {xs : List (Nat × Operand)} {l : List (Nat × AV)}, evps ev xs = some l → PR ρ l (xs.map fun x => (x.1, r x.2)) := by
  intro xs
  induction xs with
  | nil => intro l h; simp only [evps, Option.some.injEq] at h; subst h; rfl
  | cons x t ih =>
    intro l h
    simp only [evps] at h
    split at h
    · rename_i a ha
      split at h
      · rename_i l' hl
        simp only [Option.some.injEq] at h; subst h
        exact ⟨r x.2, _, he x.2 a ha, ih hl, rfl⟩
      · cases h
    · cases h
def placesA (P : Program) : List Field → Option (List (Nat × Nat))
  | [] => some []
  | f :: t => match sizeA P f.type, placesA P t with
    | some n, some l => some ((f.offset, n) :: l)
    | _, _ => none
theorem run_placesA : ∀ {fs : List Field} {l : List (Nat × Nat)}, placesA P fs = some l → ∀ w, (fs.mapM (m := Sem) fun (f : Field) => do pure (f.offset, ← sizeOf f.type)).run P w = .ok l w := by
  intro fs
  induction fs with
  | nil => intro l h w; simp only [placesA, Option.some.injEq] at h; subst h; simp
  | cons f t ih =>
    intro l h w
    simp only [placesA] at h
    split at h
    · rename_i n l' hn hl
      simp only [Option.some.injEq] at h; subst h
      have := ih hl w
      simp at this
      simp [List.mapM_cons, run_sizeA hn w, this]
    · cases h
def buildA (P : Program) (ev : Operand → Option AV) (t : TypeId) (parts : List (Nat × Operand)) : Option AV :=
  match zeroA P t with
  | some z => match cellsA z, evps ev parts with
    | some zs, some ps => match P.underlying t with
      | some (.struct fs) => match placesA P fs.toList with
        | some pl => match fillA (fun i => pl[i]?) zs ps with
          | some cs => some (.agg (.of cs))
          | none => none
        | none => none
      | some (.array _ e) => match sizeA P e with
        | some n => match fillA (fun i => some (i * n, n)) zs ps with
          | some cs => some (.agg (.of cs))
          | none => none
        | none => none
      | _ => none
    | _, _ => none
  | none => none
theorem run_buildA {ev : Operand → Option AV} {r : Operand → Value} (he : EvOk ρ ev r) {t : TypeId} {parts : Array (Nat × Operand)} {a : AV} (h : buildA P ev t parts.toList = some a) :
    ∃ v, VR ρ a v ∧ ∀ w, (Instr.build t (parts.map fun (i, x) => (i, r x))).run P w = .ok v w := by
  unfold buildA at h
  split at h
  case h_2 => cases h
  rename_i z hz
  split at h
  case h_2 => cases h
  rename_i zs ps hzs hps
  obtain ⟨zv, hzr, hzw⟩ := run_zeroA (ρ := ρ) hz
  have hc := cellsA_run hzs hzr
  have hq : PR ρ ps (parts.map fun (i, x) => (i, r x)).toList := by simpa using evps_PR he hps
  split at h
  · rename_i fs hu
    split at h
    case h_2 => cases h
    rename_i pl hpl
    split at h
    case h_2 => cases h
    rename_i cs hf
    simp only [Option.some.injEq] at h; subst h
    obtain ⟨os, ho, hr⟩ := run_fillA hq hc hf
    refine ⟨.agg os, ?_, fun w => ?_⟩
    · simp only [VR]; exact ⟨_, hr.lr, by simp⟩
    · have hm := run_placesA hpl w
      have ho' : Instr.fill (fun x => pl.toArray[x]?) zv.cells (parts.map fun (i, x) => (i, r x)).toList = some os := by simpa using ho
      simp [] at hm ho'
      simp [Instr.build, hzw w, run_underlying hu w, Array.mapM_eq_mapM_toList, hm, ho']
  · rename_i k e hu
    split at h
    case h_2 => cases h
    rename_i n hn
    split at h
    case h_2 => cases h
    rename_i cs hf
    simp only [Option.some.injEq] at h; subst h
    obtain ⟨os, ho, hr⟩ := run_fillA hq hc hf
    refine ⟨.agg os, ?_, fun w => ?_⟩
    · simp only [VR]; exact ⟨_, hr.lr, by simp⟩
    · simp at ho
      simp [Instr.build, hzw w, run_underlying hu w, run_sizeA hn w, ho]
  · cases h
end
end Go.Ev
namespace Go.Ev
noncomputable section
open Go Go.RowKit
variable {Y : Nat → Option LoopRec} {G : Nat → Nat → Option AV} {B : Nat} {ρ : Env} {w : World} {P : Program}

def NR (Y : Nat → Option LoopRec) (ρ : Env) : AN → Next → Prop
  | .val a, n => ∃ v, n = .value v ∧ VR ρ a v
  | .skip, n => n = .skip
  | .enter f as, n => ∃ vs, n = .enter f vs.toArray ∧ FR ρ as vs
  | .round l as, n => ∃ y fn tmps vs, Y l = some y ∧ ρ.dom l ∧ TR ρ y.n y.tm tmps ∧ FR ρ as vs ∧
      n = .round (ρ.blk l) fn ((y.params.zip vs).foldl (fun (ts : Array Value) (x : Tmp × Value) => ts.setIfInBounds x.1 x.2) tmps) y.assign y.body

/-- Operations on closed values: the machine's own. -/
def groundA (P : Program) (ev : Operand → Option AV) (o : Oper) : Option AV :=
  bif o.op.operands.toList.all fun x => ((ev x).bind toVal).isSome then
    (match o.op with
     | .select _ _ => none
     | _ => match rp P (execOp (fun x => ((ev x).bind toVal).getD undef) o) with
       | some (.value v) => ofVal v
       | _ => none)
  else none
theorem run_groundA {ev : Operand → Option AV} {r : Operand → Value} (he : EvOk ρ ev r) {o : Oper} {a : AV} (h : groundA P ev o = some a) :
    ∃ v, VR ρ a v ∧ ∀ w, (execOp r o).run P w = .ok (.value v) w := by
  unfold groundA at h
  cases hall : o.op.operands.toList.all fun x => ((ev x).bind toVal).isSome with
  | false => simp [hall] at h
  | true =>
  rw [hall] at h
  simp only [cond_true] at h
  have hns : ∀ cs b, o.op ≠ .select cs b := by
    intro cs b e
    rw [e] at h
    simp at h
  have h' : (match rp P (execOp (fun x => ((ev x).bind toVal).getD undef) o) with | some (.value v) => ofVal v | _ => none) = some a := by
    cases ho : o.op with
    | select cs b => exact absurd ho (hns cs b)
    | _ => rw [ho] at h; exact h
  split at h'
  · rename_i v hv
    refine ⟨v, ofVal_VR h', fun w => ?_⟩
    rw [← rp_run hv w]
    refine congrArg (fun e => Sem.run P e w) (execOp_congr o hns fun x hx => ?_)
    have h1 := List.all_eq_true.1 hall x (by simpa using hx)
    cases hx : ev x with
    | none => simp [hx] at h1
    | some y =>
      simp [hx] at h1 ⊢
      obtain ⟨u, hu⟩ := Option.isSome_iff_exists.1 h1
      rw [hu]
      exact toVal_eq hu (he x y hx)
  · cases h'

/-- A type assertion to a type that is no interface. -/
def assertA (P : Program) (x : Option AV) (t : TypeId) (ok : Bool) : Option AV := match P.underlying t with
  | some (.interface _) => none
  | some _ => match x with
    | some (.ifc d v) => bif Nat.beq d t then some (bif ok then .tup (.of [v, .bool true]) else v) else bif ok then (match zeroA P t with | some z => some (.tup (.of [z, .bool false])) | none => none) else none
    | some .nili => bif ok then (match zeroA P t with | some z => some (.tup (.of [z, .bool false])) | none => none) else none
    | _ => none
  | none => none
theorem tupV {z : AV} {u : Value} {b : Bool} (hz : VR ρ z u) : VR ρ (AV.tup (AV.of [z, .bool b])) (.tuple #[u, .bool b]) := by
  simp only [VR]; refine ⟨[_, _], ?_, rfl⟩; simp only [AV.of, LR, VR]; exact ⟨_, _, hz, ⟨_, _, rfl, rfl, rfl⟩, rfl⟩
theorem run_assertA {x : AV} {xv : Value} {t xt : TypeId} {ok : Bool} {a : AV} (h : assertA P (some x) t ok = some a) (hx : VR ρ x xv) : ∃ v, VR ρ a v ∧ ∀ w, (Instr.typeAssert xv xt t ok).run P w = .ok v w := by
  unfold assertA at h
  split at h
  · cases h
  · rename_i d hni hu
    have hu' : P.underlying t = some d := hu
    split at h
    · rename_i d' v heq
      cases heq
      simp only [VR] at hx
      obtain ⟨u, h1, rfl⟩ := hx
      simp only [beq_dec, Bool.cond_decide] at h
      split at h
      · rename_i e
        subst e
        simp only [Option.some.injEq] at h; subst h
        cases ok with
        | true => exact ⟨_, tupV h1, fun w => by cases d <;> first | exact absurd rfl (hni _) | simp [Instr.typeAssert, run_underlying hu']⟩
        | false => exact ⟨_, h1, fun w => by cases d <;> first | exact absurd rfl (hni _) | simp [Instr.typeAssert, run_underlying hu']⟩
      · rename_i e
        cases ok with
        | false => cases h
        | true =>
          simp only [cond_true] at h
          split at h
          case h_2 => cases h
          rename_i z hz
          simp only [Option.some.injEq] at h; subst h
          obtain ⟨zv, g1, g2⟩ := run_zeroA (ρ := ρ) hz
          exact ⟨_, tupV g1, fun w => by cases d <;> first | exact absurd rfl (hni _) | simp [Instr.typeAssert, run_underlying hu', e, g2 w]⟩
    · rename_i heq
      cases heq
      simp only [VR] at hx
      subst hx
      cases ok with
      | false => cases h
      | true =>
        simp only [cond_true] at h
        split at h
        case h_2 => cases h
        rename_i z hz
        simp only [Option.some.injEq] at h; subst h
        obtain ⟨zv, g1, g2⟩ := run_zeroA (ρ := ρ) hz
        exact ⟨_, tupV g1, fun w => by cases d <;> first | exact absurd rfl (hni _) | simp [Instr.typeAssert, run_underlying hu', g2 w]⟩
    · cases h
  · cases h
def restO (P : Program) (ev : Operand → Option AV) (o : Oper) : Option AV := match o.op with
  | .build t parts => buildA P ev t parts.toList
  | .typeAssert x _ t ok => assertA P (ev x) t ok
  | _ => groundA P ev o
def pureA (P : Program) (ev : Operand → Option AV) (o : Oper) : Option AV :=
  match purA P ev o with
  | some a => some a
  | none => restO P ev o
theorem run_pureA {ev : Operand → Option AV} {r : Operand → Value} (he : EvOk ρ ev r) {o : Oper} {a : AV} (h : pureA P ev o = some a) :
    ∃ v, VR ρ a v ∧ ∀ w, (execOp r o).run P w = .ok (.value v) w := by
  unfold pureA at h
  split at h
  · rename_i b hb
    simp only [Option.some.injEq] at h; subst h
    exact purA_run he hb
  · unfold restO at h
    split at h
    · rename_i t parts ho
      obtain ⟨v, hr, hp⟩ := run_buildA he h
      refine ⟨v, hr, fun w => ?_⟩
      have := hp w
      simp only [execOp, ho, Sem.run_bind, this, Result.andThen_ok, Sem.run_pure]
    · rename_i x xt t ok ho
      cases hx : ev x with
      | none => rw [hx] at h; unfold assertA at h; split at h <;> simp at h
      | some xa =>
        rw [hx] at h
        obtain ⟨v, hr, hp⟩ := run_assertA (xt := xt) h (he x _ hx)
        exact ⟨v, hr, fun w => by simp only [execOp, ho, Sem.run_bind, hp w, Result.andThen_ok, Sem.run_pure]⟩
    · exact run_groundA he h

def valO (st : St) (a : Option AV) : Option (AN × St) := match a with
  | some a => some (.val a, st)
  | none => none
def loadA (P : Program) (G : Nat → Nat → Option AV) (ev : Operand → Option AV) (st : St) (t : TypeId) (x : Operand) : Option (AN × St) := match ev x with
  | some (.ptr b o) => match (st.h.get b).bind rowOf with
    | some cs => match partA P t cs o with
      | some a => some (.val a, st)
      | none => none
    | _ => none
  | some (.gptr b o) => match G b o, isAggA P t with
    | some a, some false => some (.val a, st)
    | _, _ => none
  | _ => none
def storeA (P : Program) (ev : Operand → Option AV) (st : St) (t : TypeId) (x y : Operand) : Option (AN × St) := match ev x, ev y with
  | some (.ptr b o), some v => match st.h.get b, cellsA v, sizeA P t with
    | some (.row cs), some vs, some n => bif Nat.beq vs.length n && (Nat.ble (o + vs.length) cs.length && vs.all isOne) then some (.skip, st.put b (.row (setL cs o vs))) else none
    | _, _, _ => none
  | _, _ => none
def boxA (st : St) (id : Nat) (z : Option AV) : Option (AN × St) := match z with
  | some z => match cellsA z, st.h.get id with
    | some cs, none => some (.val (.ptr id 0), st.add id (.row cs))
    | _, _ => none
  | none => none
def bsliceA (P : Program) (ev : Operand → Option AV) (st : St) (id : Nat) (t : TypeId) (len : Nat) (parts : List (Nat × Operand)) : Option (AN × St) := match P.underlying t with
  | some (.slice e) => match sizeA P e, zeroA P e, evps ev parts with
    | some n, some z, some ps => match cellsA z, st.h.get id with
      | some zs, none => bif Nat.ble (len * n) 16777216 && Nat.ble 1 zs.length then
          (match fillA (fun i => some (i * n, n)) (cyc zs (len * n)) ps with
           | some cs => bif Nat.beq cs.length (len * n) then some (.val (.sl id 0 len len n true), st.add id (.row cs)) else none
           | none => none) else none
      | _, _ => none
    | _, _, _ => none
  | _ => none
def msliceA (P : Program) (ev : Operand → Option AV) (st : St) (id : Nat) (t : TypeId) (l c : Operand) : Option (AN × St) := match P.underlying t, ev l, ev c with
  | some (.slice e), some (.int _ (.ofNat l)), some (.int _ (.ofNat c)) => match P.info? e, zeroA P e with
    | some i, some z => match cellsA z, st.h.get id with
      | some zs, none => bif Nat.ble l c && (Nat.ble (i.bytes * c) 281474976710656 && (Nat.ble c 9223372036854775807 && Nat.ble 1 zs.length)) then
          some (.val (.sl id 0 l c i.size true), st.add id (.row (cyc zs (c * i.size)))) else none
      | _, _ => none
    | _, _ => none
  | _, _, _ => none
def appO (P : Program) (ev : Operand → Option AV) (st : St) (id : Nat) (args : List Operand) (argTypes : List TypeId) : Option (AN × St) := match args, argTypes with
  | [s, x], [t, xt] => match ev s, ev x with
    | some s, some x => match appA P st id t xt s x with
      | some (a, st') => some (.val a, st')
      | none => none
    | _, _ => none
  | _, _ => none
def convO (P : Program) (ev : Operand → Option AV) (st : St) (id : Nat) (s d : TypeId) (x : Operand) : Option (AN × St) := match P.underlying s, P.underlying d, ev x with
  | some .string, some (.slice e), some (.str b) => match P.underlying e, st.h.get id with
    | some (.int .u8), none => some (.val (.sl id 0 b.size b.size 1 false), st.add id (.ro (b.data.toList.map fun x => .int .u8 x.toNat)))
    | _, _ => none
  | _, _, _ => none
def convA (P : Program) (ev : Operand → Option AV) (st : St) (id : Nat) (s d : TypeId) (x : Operand) (o : Oper) : Option (AN × St) := match groundA P ev o with
  | some a => some (.val a, st)
  | none => convO P ev st id s d x
def rangeA (P : Program) (ev : Operand → Option AV) (st : St) (id : Nat) (t : TypeId) (x : Operand) : Option (AN × St) := match P.underlying t, ev x, st.h.get id with
  | some .string, some (.str s), none => some (.val (.ptr id 0), st.add id (.it s 0))
  | _, _, _ => none
def nextA (ev : Operand → Option AV) (st : St) (x : Operand) : Option (AN × St) := match ev x with
  | some (.ptr b 0) => match st.h.get b with
    | some (.it s p) => bif Nat.ble (p + 1) s.size then
        some (.val (.tup (.of [.bool true, .int .i64 p, .int .i32 (Utf8.decode s p).1])), st.put b (.it s (p + (Utf8.decode s p).2)))
      else some (.val (.tup (.of [.bool false])), st)
    | _ => none
  | _ => none
def enterO (P : Program) (ev : Operand → Option AV) (st : St) (o : Oper) (g : Nat) (a c : AV) (xs : List AV) : Option (AN × St) := match P.funcs[g]?, a.list, c.list with
  | some fn, some fs, some cs => bif fn.body.isSome && !(fn.name == "runtime.NumGoroutine") then some (.enter g (fs ++ xs ++ cs), st) else valO st (groundA P ev o)
  | _, _, _ => none
def roundO (Y : Nat → Option LoopRec) (st : St) (b : Nat) (xs : List AV) : Option (AN × St) := match Y b, st.h.get b with
  | some y, some (.lp _ _) => bif Nat.beq xs.length y.params.length then some (.round b xs, st) else none
  | _, _ => none
/-! ### Methods -/
def recvA (P : Program) (t : TypeId) (pr : Bool) : Bool := match P.underlying t with
  | some (.pointer _) => pr
  | some _ => !pr
  | none => false
def methA (P : Program) (t : TypeId) (name : String) : Option FuncId := match P.info? t with
  | some i => match i.methods.find? (fun m => m.name == name) with
    | some m => bif m.path.isEmpty then (match m.func with
      | some (f, pr) => bif recvA P t pr then some f else none
      | none => none) else none
    | none => none
  | none => none
def goA (P : Program) (st : St) (f : FuncId) (xs : List AV) : Option (AN × St) := match P.funcs[f]? with
  | some fn => bif fn.body.isSome && !(fn.name == "runtime.NumGoroutine") then some (.enter f xs, st) else none
  | none => none
def methO (P : Program) (st : St) (t : TypeId) (name : String) (x : AV) (xs : List AV) : Option (AN × St) := match methA P t name with
  | some f => goA P st f (x :: xs)
  | none => none
def invokeO (P : Program) (st : St) (name : String) : Option AV → Option (List AV) → Option (AN × St)
  | some (.ifc t x), some xs => methO P st t name x xs
  | _, _ => none
def methOfO (P : Program) (st : St) (t : TypeId) (name : String) : List AV → Option (AN × St)
  | r :: rest => match P.underlying t with
    | some (.interface _) => match r with
      | .ifc t' x => methO P st t' name x rest
      | _ => none
    | some _ => methO P st t name r rest
    | none => none
  | [] => none
def viaO (P : Program) (st : St) (t : TypeId) (path : Array FieldStep) (f : FuncId) (pr : Bool) : List AV → Option (AN × St)
  | r :: rest => bif path.isEmpty && recvA P t pr then goA P st f (r :: rest) else none
  | [] => none
def withA (a : AV) (xs : List AV) (k : List AV → Option (AN × St)) : Option (AN × St) := match a.list with
  | some fs => k (fs ++ xs)
  | none => none
def valueO (P : Program) (Y : Nat → Option LoopRec) (ev : Operand → Option AV) (st : St) (o : Oper) (f : Operand) (args : List Operand) : Option (AN × St) := match ev f, evs ev args with
  | some (.clo (.func g) a c), some xs => enterO P ev st o g a c xs
  | some (.yl b), some xs => roundO Y st b xs
  | some (.clo (.methodOf t name) a _), some xs => withA a xs (methOfO P st t name)
  | some (.clo (.via t path g pr) a _), some xs => withA a xs (viaO P st t path g pr)
  | _, _ => none
def callO (P : Program) (Y : Nat → Option LoopRec) (ev : Operand → Option AV) (st : St) (id : Nat) (o : Oper) (c : Call) : Option (AN × St) := match c.callee with
  | .value f => valueO P Y ev st o f c.args.toList
  | .builtin .append => appO P ev st id c.args.toList c.argTypes.toList
  | .invoke r name => invokeO P st name (ev r) (evs ev c.args.toList)
  | _ => valO st (pureA P ev o)

/-! ### Maps -/
def plainK : TypeDesc → Bool
  | .int _ | .string | .bool => true
  | _ => false
def nowA : TypeDesc → AV → AV → Option Bool
  | .int _, .int k a, .int k' b => if k = k' then some (decide (a = b)) else none
  | .string, .str a, .str b => some (eqBs a.data.toList b.data.toList)
  | .bool, .bool a, .bool b => some (a == b)
  | _, _, _ => none
def findA (d : TypeDesc) (k : AV) : List (AV × AV × Nat) → Nat → Option (Option (Nat × AV))
  | [], _ => some none
  | e :: es, i => match nowA d k e.1 with
    | some true => some (some (i, e.2.1))
    | some false => findA d k es (i + 1)
    | none => none
def modA : List (AV × AV × Nat) → Nat → AV → AV → List (AV × AV × Nat)
  | [], _, _, _ => []
  | e :: es, 0, k, v => (k, v, e.2.2) :: es
  | e :: es, i + 1, k, v => e :: modA es i k v
def entsA (st : St) : AV → Option (List (AV × AV × Nat))
  | .nilm => some []
  | .mp b => match st.h.get b with
    | some (.mp es _) => some es
    | _ => none
  | _ => none
def lookA (P : Program) (st : St) (t : TypeId) (m k : AV) (ok : Bool) : Option AV := match P.underlying t with
  | some (.map kt et) => match P.underlying kt, entsA st m with
    | some d, some es => bif plainK d then
        (match findA d k es 0 with
         | some (some (_, v)) => some (bif ok then .tup (.of [v, .bool true]) else v)
         | some none => match zeroA P et with
           | some z => some (bif ok then .tup (.of [z, .bool false]) else z)
           | none => none
         | none => none) else none
    | _, _ => none
  | _ => none
def updA (P : Program) (st : St) (t : TypeId) (m k x : AV) : Option St := match P.underlying t, m with
  | some (.map kt _), .mp b => match P.underlying kt, st.h.get b with
    | some d, some (.mp es c) => bif plainK d then
        (match findA d k es 0 with
         | some (some (j, _)) => some (st.put b (.mp (modA es j k x) c))
         | some none => some (st.put b (.mp (es ++ [(k, x, c)]) (c + 1)))
         | none => none) else none
    | _, _ => none
  | _, _ => none
def lookO (P : Program) (ev : Operand → Option AV) (st : St) (t : TypeId) (m k : Operand) (ok : Bool) : Option (AN × St) := match ev m, ev k with
  | some m, some k => valO st (lookA P st t m k ok)
  | _, _ => none
def updO (P : Program) (ev : Operand → Option AV) (st : St) (t : TypeId) (m k x : Operand) : Option (AN × St) := match ev m, ev k, ev x with
  | some m, some k, some x => match updA P st t m k x with
    | some st' => some (.skip, st')
    | none => none
  | _, _, _ => none
def mmapA (P : Program) (ev : Operand → Option AV) (st : St) (id : Nat) (t : TypeId) (r : Option Operand) : Option (AN × St) := match P.underlying t, st.h.get id with
  | some (.map _ _), none => match r with
    | none => some (.val (.mp id), st.add id (.mp [] 0))
    | some x => match ev x with
      | some (.int _ _) => some (.val (.mp id), st.add id (.mp [] 0))
      | _ => none
  | _, _ => none
def wopA (P : Program) (Y : Nat → Option LoopRec) (G : Nat → Nat → Option AV) (ev : Operand → Option AV) (st : St) (id : Nat) (o : Oper) : Option (AN × St) :=
  match o.op with
  | .load t x => loadA P G ev st t x
  | .store t x y => storeA P ev st t x y
  | .alloc e => boxA st id (zeroA P e)
  | .box _ x => boxA st id (ev x)
  | .buildSlice t len parts => bsliceA P ev st id t len parts.toList
  | .makeSlice t l c => msliceA P ev st id t l c
  | .call c => callO P Y ev st id o c
  | .range t x => rangeA P ev st id t x
  | .next x b => bif b then nextA ev st x else none
  | .convert s d x => convA P ev st id s d x o
  | .makeMap t r => mmapA P ev st id t r
  | .lookup t m k ok => lookO P ev st t m k ok
  | .mapUpdate t m k x => updO P ev st t m k x
  | .insert t m k x => updO P ev st t m k x
  | _ => valO st (pureA P ev o)
end
end Go.Ev
