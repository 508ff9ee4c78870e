/- Regions, code, calls and rounds, abstractly. -/
import Derived.Test.YtgkjhnghibpeoaaDoorEv10
import Derived.Test.YtgkjhnghibpeoaaDoorEv4B
namespace Go.Ev
noncomputable section
open Go Go.RowKit

inductive EX where
  | normal
  | ret
  | exit (id : Nat)
  | goto (l : Nat)
  | pan (v : AV)
/-- What a frame has deferred: a loop's mark, or a call. -/
inductive DF where
  | mk (b : Nat)
  | fn (g : Nat) (c a : AV)
structure FS where
  tm : Tr AV
  mks : List DF
/-- How a frame leaves: returning, or panicking (has it recovered?). -/
abbrev MD := Option (AV × Bool)
inductive CR where
  | ret (v : AV)
  | pan (v : AV)
/-- A region's end. -/
inductive RE where
  | go (fs : FS)
  | pan (v : AV)

def eqDF : DF → DF → Bool
  | .mk a, .mk b => Nat.beq a b
  | .fn g c a, .fn h d b => Nat.beq g h && (eqA' c d && eqA' a b)
  | _, _ => false
theorem eqDF_ok {f g : DF} (h : eqDF f g = true) : f = g := by
  cases f <;> cases g <;> simp only [eqDF, Bool.false_eq_true, Bool.and_eq_true] at h
  · rw [nb h]
  · rw [nb h.1, eqA'_ok h.2.1, eqA'_ok h.2.2]
def eqFS (f g : FS) : Bool := eqT eqA' f.tm g.tm && eqL eqDF f.mks g.mks
theorem eqFS_ok {f g : FS} (h : eqFS f g = true) : f = g := by
  unfold eqFS at h
  simp only [Bool.and_eq_true] at h
  cases f; cases g
  simp only at h
  rw [eqT_ok eqA'_ok h.1, eqL_ok eqDF_ok h.2]
def eqRE : RE → RE → Bool
  | .go f, .go g => eqFS f g
  | .pan v, .pan w => eqA' v w
  | _, _ => false
theorem eqRE_ok {f g : RE} (h : eqRE f g = true) : f = g := by
  cases f <;> cases g <;> simp only [eqRE, Bool.false_eq_true] at h
  · rw [eqFS_ok h]
  · rw [eqA'_ok h]
/-- What panics. -/
def panA (ev : Operand → Option AV) (o : Oper) : Option AV := match o.op with
  | .panic x => match ev x with
    | some (.ifc t y) => some (.ifc t y)
    | _ => none
  | _ => none
def Tr.del {α : Type} : Tr α → Nat → Tr α
  | .e, _ => .e
  | .n l o r, k => bif Nat.beq k 0 then .n l none r else bif Nat.beq (k % 2) 1 then .n (l.del (k / 2)) o r else .n l o (r.del (k / 2 - 1))
theorem Tr.get_del {α : Type} : ∀ (t : Tr α) (k j : Nat), (t.del k).get j = if j = k then none else t.get j := by
  intro t
  induction t with
  | e => intro k j; simp only [Tr.del, Tr.get_e]; split <;> rfl
  | n l o r ihl ihr =>
    intro k j
    simp only [Tr.del, beq_dec]
    by_cases h0 : k = 0
    · subst h0
      simp only [decide_true, cond_true, Tr.get_n, beq_dec]
      by_cases h : j = 0 <;> simp [h]
    · by_cases h1 : k % 2 = 1
      · simp only [h0, decide_false, cond_false, h1, decide_true, cond_true, Tr.get_n, beq_dec, ihl]
        by_cases hj : j = 0
        · subst hj; simp; omega
        · by_cases hj2 : j % 2 = 1
          · simp only [hj, hj2, decide_true, decide_false, cond_true, cond_false]
            have : (j / 2 = k / 2) ↔ j = k := by omega
            simp only [this]
          · simp only [hj, hj2, decide_false, cond_false]
            rw [if_neg (by omega)]
      · simp only [h0, decide_false, cond_false, h1, Tr.get_n, beq_dec, ihr]
        by_cases hj : j = 0
        · subst hj; simp; omega
        · by_cases hj2 : j % 2 = 1
          · simp only [hj, hj2, decide_true, decide_false, cond_true, cond_false]
            rw [if_neg (by omega)]
          · simp only [hj, hj2, decide_false, cond_false]
            have : (j / 2 - 1 = k / 2 - 1) ↔ j = k := by omega
            simp only [this]
/-- What is sure of a frame's slots, wherever in a region it stands. -/
def eraseT : List Oper → Tr AV → Tr AV
  | [], tm => tm
  | o :: t, tm => match o.dst with
    | some d => eraseT t (tm.del d)
    | none => eraseT t tm
theorem erase_sub : ∀ (l : List Oper) {tm : Tr AV} {t : Nat} {a : AV}, (eraseT l tm).get t = some a → tm.get t = some a := by
  intro l
  induction l with
  | nil => intro tm t a h; exact h
  | cons o l ih =>
    intro tm t a h
    unfold eraseT at h
    split at h
    · have := ih h
      rw [Tr.get_del] at this
      split at this
      · cases this
      · exact this
    · exact ih h
theorem erase_dst : ∀ (l : List Oper) {tm : Tr AV} {o : Oper} {d : Nat}, o ∈ l → o.dst = some d → (eraseT l tm).get d = none := by
  intro l
  induction l with
  | nil => intro tm o d h; cases h
  | cons x l ih =>
    intro tm o d ho hd
    rcases List.mem_cons.1 ho with rfl | ho
    · unfold eraseT
      rw [hd]
      cases hx : (eraseT l (tm.del d)).get d with
      | none => rfl
      | some a =>
        have := erase_sub l hx
        rw [Tr.get_del, if_pos rfl] at this
        cases this
    · unfold eraseT
      split
      · exact ih ho hd
      · exact ih ho hd
def evA (tm : Tr AV) : Operand → Option AV
  | .tmp t => some (tmGet tm t)
  | .const v => ofVal v
  | .global g => some (.gptr g 0)
  | .func f => some (.clo (.func f) .nil .nil)
def wantA (ops : Array Oper) (tm : Tr AV) (o : Oper) : Option Bool :=
  match o.guard with
  | none => some true
  | some (j, want) => match (ops[j]?).bind (·.dst) with
    | none => some false
    | some t => match tmGet tm t with
      | .bool b => some (b == want)
      | .sym _ => none
      | _ => some false
def putA (n : Nat) (tm : Tr AV) (dst : Option Tmp) (v : AV) : Option (Tr AV) :=
  match dst with
  | none => some tm
  | some d => bif Nat.ble (d + 1) n then some (tm.set d v) else none

structure Sys where
  exec : Option Nat → (Nat → Option LoopRec) → Nat → Code → FS → St → Option (EX × FS × St)
  call : (Nat → Option LoopRec) → FuncId → List AV → St → Option (CR × St)
  dcall : (Nat → Option LoopRec) → FuncId → List AV → MD → St → Option (MD × St)
  round : (Nat → Option LoopRec) → Nat → List AV → St → Option (AV × St)

def undA : AV := .tup .nil
def goP (n : Nat) (fs : FS) (dst : Option Tmp) (v : AV) (st : St) : Option (RE × St) := match putA n fs.tm dst v with
  | some tm => some (.go ⟨tm, fs.mks⟩, st)
  | none => none
def wopR (s : Sys) (Y : Nat → Option LoopRec) (n : Nat) (o : Oper) (fs : FS) : Option (AN × St) → Option (RE × St)
  | none => none
  | some (.val v, st) => goP n fs o.dst v st
  | some (.skip, st) => goP n fs o.dst undA st
  | some (.enter f as, st) => match s.call Y f as st with
    | some (.ret v, st) => goP n fs o.dst v st
    | some (.pan v, st) => some (.pan v, st)
    | none => none
  | some (.round l as, st) => match s.round Y l as st with
    | some (v, st) => goP n fs o.dst v st
    | none => none
/-- One operation of a frame. -/
def opA (P : Program) (G : Nat → Nat → Option AV) (s : Sys) (Y : Nat → Option LoopRec) (n : Nat) (ops : Array Oper) (id : Nat) (o : Oper) (fs : FS) (st : St) : Option (RE × St) :=
  match wantA ops fs.tm o with
  | none => none
  | some false => goP n fs o.dst undA st
  | some true => match panA (evA fs.tm) o with
    | some v => some (.pan v, st)
    | none => wopR s Y n o fs (wopA P Y G (evA fs.tm) st id o)
def opsA (P : Program) (G : Nat → Nat → Option AV) (s : Sys) (Y : Nat → Option LoopRec) (n : Nat) (ops : Array Oper) : List Oper → FS → St → Option (RE × St)
  | [], fs, st => some (.go fs, st)
  | o :: rest, fs, st => match opA P G s Y n ops st.next o fs st with
    | some (.go fs, st) => opsA P G s Y n ops rest fs st
    | r => r
/-- A deferred call. -/
def dferA (ev : Operand → Option AV) (o : Oper) : Option DF := match o.op with
  | .defer c => match c.callee with
    | .value f => match ev f, evs ev c.args.toList with
      | some (.clo (.func g) a c'), some xs => match a.list with
        | some as => some (.fn g c' (.of (as ++ xs)))
        | none => none
      | _, _ => none
    | _ => none
  | _ => none
def isDfer (o : Oper) : Bool := match o.op with
  | .defer _ => true
  | _ => false
/-- Operations of a region, deferred calls among them. -/
def opsD (P : Program) (G : Nat → Nat → Option AV) (s : Sys) (Y : Nat → Option LoopRec) (n : Nat) (ops : Array Oper) : List Oper → FS → St → Option (FS × St)
  | [], fs, st => some (fs, st)
  | o :: rest, fs, st => bif isDfer o then
      (match wantA ops fs.tm o, dferA (evA fs.tm) o, putA n fs.tm o.dst undA with
       | some true, some d, some tm => opsD P G s Y n ops rest ⟨tm, d :: fs.mks⟩ st
       | _, _, _ => none)
    else match opA P G s Y n ops st.next o fs st with
    | some (.go fs, st) => opsD P G s Y n ops rest fs st
    | _ => none

/-! ### Drawn orders -/
def simpleK : Op → Bool
  | .store .. | .alloc _ | .box .. | .buildSlice .. | .makeSlice .. | .makeMap .. | .range .. | .next .. | .mapUpdate .. | .insert .. | .lookup .. | .defer _ | .go _ | .select .. | .send .. | .recv .. => false
  | .call { callee := .builtin .len, .. } => true
  | .call _ => false
  | _ => true
/-- In what orders a region is gone through: what is taken first; where several may come, each of them. -/
inductive PL where
  | done
  | take (i : Nat) (p : PL)
  | alt (i : Nat) (p q : PL)
  | stop
def altsA (go : Nat → Option PL) : List Nat → Option PL
  | [] => some .stop
  | i :: t => match go i, altsA go t with
    | some p, some q => some (.alt i p q)
    | _, _ => none
def planA (ops : Array Oper) : Nat → Array Bool → Option PL
  | 0, listed => match Region.ready .any ops listed with
    | [] => some .done
    | _ => none
  | f + 1, listed => match Region.ready .any ops listed with
    | [] => some .done
    | i :: rest => match (i :: rest).find? fun i => (((ops[i]?).map fun o => simpleK o.op).getD false) && Region.free .any ops listed i with
      | some k => match planA ops f (listed.setIfInBounds k true) with
        | some p => some (.take k p)
        | none => none
      | none => altsA (fun k => planA ops f (listed.setIfInBounds k true)) (i :: rest)
/-- What is taken first: a value, and the block that was read. -/
def takeL (P : Program) (G : Nat → Nat → Option AV) (ev : Operand → Option AV) (st : St) (t : TypeId) (x : Operand) : Option (AV × List Nat) := match ev x with
  | some (.ptr b f) => match (st.h.get b).bind rowOf with
    | some cs => match partA P t cs f with
      | some a => some (a, [b])
      | none => none
    | _ => none
  | some (.gptr b f) => match G b f, isAggA P t with
    | some a, some false => some (a, [])
    | _, _ => none
  | _ => none
def takeP (a : Option AV) : Option (AV × List Nat) := match a with
  | some a => some (a, [])
  | none => none
def takeA (P : Program) (G : Nat → Nat → Option AV) (fs : FS) (st : St) (o : Oper) : Option (AV × List Nat) :=
  match o.op with
  | .load t x => takeL P G (evA fs.tm) st t x
  | _ => takeP (pureA P (evA fs.tm) o)
/-- May it write? -/
def effK (ops : Array Oper) (i : Nat) : Bool := match ops[i]? with
  | some o => !simpleK o.op
  | none => true
/-- Behind i what k read need no longer stand. -/
def rmK (ops : Array Oper) (i k : Nat) : Bool := effK ops i && ((Region.before ops).getD i 0).testBit k
def firstR (ops : Array Oper) (i : Nat) (L : List (Nat × Nat)) (st : St) (go : List (Nat × Nat) → FS → St → Option (RE × St)) (r : Option (RE × St)) : Option (RE × St) := match r with
  | some (.go fs', st') => bif L.all fun kb => Nat.beq (st'.cnt kb.2) (st.cnt kb.2) || rmK ops i kb.1 then go (L.filter fun kb => !rmK ops i kb.1) fs' st' else none
  | r => r
def sameR (r1 r2 : Option (RE × St)) : Option (RE × St) := match r1, r2 with
  | some (f1, s1), some (f2, s2) => bif eqRE f1 f2 && eqSt s1 s2 then some (f1, s1) else none
  | _, _ => none
def bothR (q : PL) (r1 r2 : Option (RE × St)) : Option (RE × St) := match q with
  | .stop => r1
  | _ => sameR r1 r2
def planRun (P : Program) (G : Nat → Nat → Option AV) (s : Sys) (Y : Nat → Option LoopRec) (n base : Nat) (ops : Array Oper) : PL → List (Nat × Nat) → FS → St → Option (RE × St)
  | .done, _, fs, st => some (.go fs, st)
  | .stop, _, _, _ => none
  | .take i p, L, fs, st => match ops[i]? with
    | none => none
    | some o => match wantA ops fs.tm o with
      | none => none
      | some false => match putA n fs.tm o.dst undA with
        | some tm => planRun P G s Y n base ops p L ⟨tm, fs.mks⟩ st
        | none => none
      | some true => match takeA P G fs st o with
        | some (v, l) => match putA n fs.tm o.dst v with
          | some tm => planRun P G s Y n base ops p (l.map (fun b => (i, b)) ++ L) ⟨tm, fs.mks⟩ st
          | none => none
        | none => none
  | .alt i p q, L, fs, st => match ops[i]? with
    | none => none
    | some o => bothR q (firstR ops i L st (fun L fs st => planRun P G s Y n base ops p L fs st) (opA P G s Y n ops (base + i) o fs st)) (planRun P G s Y n base ops q L fs st)

/-! ### Code -/
def resA1 (P : Program) (g : Nat → Option AV) (st : St) : ResultVar → Option AV
  | .tmp t => g t
  | .cell a t => match g a with
    | some (.ptr b f) => match (st.h.get b).bind rowOf with
      | some cs => partA P t cs f
      | _ => none
    | _ => none
def resA (P : Program) (g : Nat → Option AV) (st : St) : List ResultVar → Option (List AV)
  | [] => some []
  | r :: t => match resA1 P g st r, resA P g st t with
    | some a, some l => some (a :: l)
    | _, _ => none
def settleA : MD → MD
  | some (_, true) => none
  | m => m
def leaveA (P : Program) (s : Sys) (Y : Nat → Option LoopRec) : List DF → MD → St → Option (MD × St)
  | [], m, st => some (m, st)
  | .mk b :: t, m, st => match st.h.get b with
    | some .df => leaveA P s Y t m (st.put b .dead)
    | _ => none
  | .fn g c a :: t, m, st => match P.funcs[g]?, c.list, a.list with
    | some fn, some cs, some as => bif fn.body.isSome && !(fn.name == "runtime.NumGoroutine") then
        (match s.dcall Y g (as ++ cs) m st with
         | some (m', st') => leaveA P s Y t (settleA m') st'
         | none => none) else none
    | _, _, _ => none
def argsTm : Nat → List AV → Tr AV
  | _, [] => .e
  | k, a :: t => (argsTm (k + 1) t).set k a
def setAll (n : Nat) : List Tmp → List AV → Tr AV → Option (Tr AV)
  | [], [], tm => some tm
  | t :: ts, a :: as, tm => bif Nat.ble (t + 1) n then setAll n ts as (tm.set t a) else none
  | _, _, _ => none
def jumpOf : EX → Option JX
  | .normal => none
  | .ret => some .ret
  | .exit id => some (.exit id)
  | .goto l => some (.goto l)
  | .pan _ => none
def exOf : Option JX → EX
  | none => .normal
  | some .ret => .ret
  | some (.exit id) => .exit id
  | some (.goto l) => .goto l
def seqS (s : Sys) (rd : Option Nat) (Y : Nat → Option LoopRec) (n : Nat) (a b : Code) (fs : FS) (st : St) : Option (EX × FS × St) := match s.exec rd Y n a fs st with
  | some (.normal, fs, st) => s.exec rd Y n b fs st
  | r => r
def condS (s : Sys) (rd : Option Nat) (Y : Nat → Option LoopRec) (n : Nat) (c : Option AV) (a b : Code) (fs : FS) (st : St) : Option (EX × FS × St) := match c with
  | some (.bool true) => s.exec rd Y n a fs st
  | some (.bool false) => s.exec rd Y n b fs st
  | _ => none
def blockS (id : Nat) (r : Option (EX × FS × St)) : Option (EX × FS × St) := match r with
  | some (.exit i, fs, st) => bif Nat.beq i id then some (.normal, fs, st) else some (.exit i, fs, st)
  | r => r
def regS (ops : Array Oper) (fs0 : FS) (r : Option (RE × St)) : Option (EX × FS × St) := match r with
  | some (.go fs, st) => some (.normal, fs, st)
  | some (.pan v, st) => some (.pan v, ⟨eraseT ops.toList fs0.tm, fs0.mks⟩, st)
  | none => none
def drawS (P : Program) (G : Nat → Nat → Option AV) (s : Sys) (Y : Nat → Option LoopRec) (n : Nat) (ops : Array Oper) (fs : FS) (st : St) : Option (EX × FS × St) := match planA ops ops.size (Array.replicate ops.size false) with
  | some plan => regS ops fs (planRun P G s Y n st.next ops plan [] fs ⟨st.h, st.next + ops.size, st.wc⟩)
  | none => none
def dfrS (P : Program) (G : Nat → Nat → Option AV) (s : Sys) (rd : Option Nat) (Y : Nat → Option LoopRec) (n : Nat) (ops : Array Oper) (draw : Bool) (fs : FS) (st : St) : Option (EX × FS × St) := match rd with
  | none => bif draw then none else (match opsD P G s Y n ops ops.toList fs st with
    | some (fs, st) => some (.normal, fs, st)
    | none => none)
  | some _ => none
/-- Behind a loop over a function. -/
def overS (lid : Nat) (fs : FS) (r : Option (CR × St)) : Option (EX × FS × St) := match r with
  | some (.ret _, st) => match st.h.get lid with
    | some (.lp .busy _) => none
    | some (.lp _ j) => some (exOf j, fs, st.put lid .dead)
    | _ => none
  | _ => none
def withL (Y : Nat → Option LoopRec) (lid : Nat) (y : LoopRec) : Nat → Option LoopRec := fun b => bif Nat.beq b lid then some y else Y b
def rangeIn (s : Sys) (Y : Nat → Option LoopRec) (l : Nat) (y : LoopRec) (g : FuncId) (xs ys : List AV) (fs : FS) (st : St) : Option (EX × FS × St) := match st.h.get l, st.h.get st.next with
  | some (.lp _ _), none => overS st.next fs (s.call (withL Y st.next y) g (xs ++ [.yl st.next] ++ ys) (st.add st.next (.lp .ready none)))
  | _, _ => none
def rangeOut (s : Sys) (Y : Nat → Option LoopRec) (y : LoopRec) (g : FuncId) (xs ys : List AV) (fs : FS) (st : St) : Option (EX × FS × St) := match st.h.get st.next, st.h.get (st.next + 1) with
  | none, none => overS (st.next + 1) ⟨fs.tm, DF.mk st.next :: fs.mks⟩ (s.call (withL Y (st.next + 1) y) g (xs ++ [.yl (st.next + 1)] ++ ys) ((st.add st.next .df).add (st.next + 1) (.lp .ready none)))
  | _, _ => none
def rangeS (P : Program) (s : Sys) (rd : Option Nat) (Y : Nat → Option LoopRec) (y : LoopRec) (f : Option AV) (fs : FS) (st : St) : Option (EX × FS × St) := match f with
  | some (.clo (.func g) a c) => match P.funcs[g]?, a.list, c.list with
    | some fn, some xs, some ys => bif fn.body.isSome && !(fn.name == "runtime.NumGoroutine") then
        (match rd with
         | some l => rangeIn s Y l y g xs ys fs st
         | none => rangeOut s Y y g xs ys fs st) else none
    | _, _, _ => none
  | _ => none
/-- A scope of labels. -/
def scopeS (s : Sys) (rd : Option Nat) (Y : Nat → Option LoopRec) (n : Nat) (c : Code) : Nat → Option (EX × FS × St) → Option (EX × FS × St)
  | 0, _ => none
  | k + 1, r => match r with
    | some (.goto l, fs, st) => match findLabel c l with
      | some rest => scopeS s rd Y n c k (s.exec rd Y n rest fs st)
      | none => some (.goto l, fs, st)
    | r => r
def execStep (P : Program) (G : Nat → Nat → Option AV) (s : Sys) (rd : Option Nat) (Y : Nat → Option LoopRec) (n : Nat) (c : Code) (fs : FS) (st : St) : Option (EX × FS × St) :=
  match c with
  | .skip => some (.normal, fs, st)
  | .label _ => some (.normal, fs, st)
  | .ret => some (.ret, fs, st)
  | .exit id => some (.exit id, fs, st)
  | .goto l => some (.goto l, fs, st)
  | .scope c => scopeS s rd Y n c 1000000 (s.exec rd Y n c fs st)
  | .seq a b => seqS s rd Y n a b fs st
  | .cond c a b => condS s rd Y n (evA fs.tm c) a b fs st
  | .block id c => blockS id (s.exec rd Y n c fs st)
  | .loop c => seqS s rd Y n c (.loop c) fs st
  | .region _ ops draw => bif noDefer ops then (bif draw then (bif Region.noSelect ops then drawS P G s Y n ops fs st else none) else regS ops fs (opsA P G s Y n ops ops.toList fs st)) else dfrS P G s rd Y n ops draw fs st
  | .rangeFunc f params assign body => rangeS P s rd Y ⟨n, fs.tm, params.toList, assign, body⟩ (evA fs.tm f) fs st
  | _ => none
def resS (P : Program) (fn : Func) (g : Nat → Option AV) (st : St) : Option AV := match resA P g st fn.results.toList with
  | some [v] => some v
  | some vs => some (.tup (.of vs))
  | none => none
def doneS (P : Program) (fn : Func) (g : Nat → Option AV) (r : Option (MD × St)) : Option (CR × St) := match r with
  | some (none, st) => match resS P fn g st with
    | some v => some (.ret v, st)
    | none => none
  | some (some (v, false), st) => some (.pan v, st)
  | _ => none
/-- Closed calls that are known. -/
def knownA (C : FuncId → Option Bool) (f : FuncId) : List AV → Option Bool
  | [] => C f
  | _ => none
def callStep (P : Program) (C : FuncId → Option Bool) (s : Sys) (Y : Nat → Option LoopRec) (f : FuncId) (as : List AV) (st : St) : Option (CR × St) :=
  match knownA C f as with
  | some b => some (.ret (.bool b), st)
  | none => match P.funcs[f]? with
  | none => none
  | some fn => match fn.body with
    | none => none
    | some c => bif Nat.ble as.length fn.ntmps then
        (match s.exec none Y fn.ntmps c ⟨argsTm 0 as, []⟩ st with
         | some (.normal, fs, st) => doneS P fn (fun t => some (tmGet fs.tm t)) (leaveA P s Y fs.mks none st)
         | some (.ret, fs, st) => doneS P fn (fun t => some (tmGet fs.tm t)) (leaveA P s Y fs.mks none st)
         | some (.pan v, fs, st) => doneS P fn (fun t => fs.tm.get t) (leaveA P s Y fs.mks (some (v, false)) st)
         | _ => none) else none
/-! ### Deferred calls that recover -/
def isRec (o : Oper) : Bool := match o.op with
  | .call { callee := .builtin .recover, .. } => true
  | _ => false
def recIn : Code → Bool
  | .region _ ops _ => ops.toList.any isRec
  | .seq a b => recIn a || recIn b
  | .cond _ a b => recIn a || recIn b
  | .block _ b | .loop b | .scope b => recIn b
  | .rangeFunc _ _ a b => recIn a || recIn b
  | _ => false
/-- What recover answers, and how the frame below leaves then. -/
def recA : MD → AV × MD
  | some (v, false) => (v, some (v, true))
  | m => (.nili, m)
def opsR (P : Program) (G : Nat → Nat → Option AV) (Y : Nat → Option LoopRec) (n : Nat) (ops : Array Oper) : List Oper → FS → MD → St → Option (FS × MD × St)
  | [], fs, m, st => some (fs, m, st)
  | o :: rest, fs, m, st => match wantA ops fs.tm o with
    | some true => bif isRec o then
        (match putA n fs.tm o.dst (recA m).1 with
         | some tm => opsR P G Y n ops rest ⟨tm, fs.mks⟩ (recA m).2 st
         | none => none)
      else match wopA P Y G (evA fs.tm) st st.next o with
        | some (.val v, st) => match putA n fs.tm o.dst v with
          | some tm => opsR P G Y n ops rest ⟨tm, fs.mks⟩ m st
          | none => none
        | some (.skip, st) => match putA n fs.tm o.dst undA with
          | some tm => opsR P G Y n ops rest ⟨tm, fs.mks⟩ m st
          | none => none
        | _ => none
    | _ => none
def execR (P : Program) (G : Nat → Nat → Option AV) (s : Sys) (Y : Nat → Option LoopRec) (n : Nat) : Code → FS → MD → St → Option (EX × FS × MD × St)
  | .seq a b, fs, m, st => match execR P G s Y n a fs m st with
    | some (.normal, fs, m, st) => execR P G s Y n b fs m st
    | r => r
  | .region id ops draw, fs, m, st => bif ops.toList.any isRec then
      (bif draw then none else match opsR P G Y n ops ops.toList fs m st with
       | some (fs, m, st) => some (.normal, fs, m, st)
       | none => none)
    else match s.exec none Y n (.region id ops draw) fs st with
      | some (ex, fs, st) => some (ex, fs, m, st)
      | none => none
  | c, fs, m, st => bif recIn c then none else match s.exec none Y n c fs st with
      | some (ex, fs, st) => some (ex, fs, m, st)
      | none => none
def dendS (P : Program) (fn : Func) (fs : FS) (m : MD) (st : St) : Option (MD × St) := match fs.mks, resS P fn (fun t => some (tmGet fs.tm t)) st with
  | [], some _ => some (m, st)
  | _, _ => none
def dcallStep (P : Program) (G : Nat → Nat → Option AV) (s : Sys) (Y : Nat → Option LoopRec) (f : FuncId) (as : List AV) (m : MD) (st : St) : Option (MD × St) :=
  match P.funcs[f]? with
  | none => none
  | some fn => match fn.body with
    | none => none
    | some c => bif Nat.ble as.length fn.ntmps then
        (match execR P G s Y fn.ntmps c ⟨argsTm 0 as, []⟩ m st with
         | some (.normal, fs, m, st) => dendS P fn fs m st
         | some (.ret, fs, m, st) => dendS P fn fs m st
         | _ => none) else none
def roundStep (s : Sys) (Y : Nat → Option LoopRec) (l : Nat) (as : List AV) (st : St) : Option (AV × St) :=
  match Y l with
  | none => none
  | some y => match setAll y.n y.params as y.tm with
    | none => none
    | some tm => match s.exec (some l) Y y.n y.assign ⟨tm, []⟩ st with
      | some (.normal, fs, st) => match fs.mks, st.h.get l with
        | [], some (.lp .ready j) => match s.exec (some l) Y y.n y.body fs (st.put l (.lp .busy j)) with
          | some (ex, fs, st) => match fs.mks, st.h.get l with
            | [], some (.lp _ _) => match ex with
              | .normal => some (.bool true, st.put l (.lp .ready none))
              | .pan _ => none
              | ex => some (.bool false, st.put l (.lp .done (jumpOf ex)))
            | _, _ => none
          | none => none
        | _, _ => none
      | _ => none
def sys (P : Program) (G : Nat → Nat → Option AV) (C : FuncId → Option Bool) : Nat → Sys
  | 0 => ⟨fun _ _ _ _ _ _ => none, fun _ _ _ _ => none, fun _ _ _ _ _ => none, fun _ _ _ _ => none⟩
  | k + 1 => ⟨execStep P G (sys P G C k), callStep P C (sys P G C k), dcallStep P G (sys P G C k), roundStep (sys P G C k)⟩
end
end Go.Ev
