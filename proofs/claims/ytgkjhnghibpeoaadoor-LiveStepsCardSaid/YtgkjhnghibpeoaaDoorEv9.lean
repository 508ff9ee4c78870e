/- The machine does each operation so. -/
import Derived.Test.YtgkjhnghibpeoaaDoorEv8M
namespace Go.Ev
noncomputable section
open Go Go.RowKit
variable {Y : Nat → Option LoopRec} {G : Nat → Nat → Option AV} {B : Nat} {ρ : Env} {w : World} {P : Program}

theorem freeze_alloc (w : World) (c : Array Value) (e : TypeId) (m : Nat) : (w.alloc (.cells c e)).freeze ⟨w.heap.size, m, none⟩ 1 = w.alloc (.cells c e (m, m + 1)) := by
  unfold World.freeze
  rw [if_neg (by omega)]
  unfold World.alloc
  congr 1
  apply Array.ext_getElem?
  intro i
  rw [Array.getElem?_modify]
  by_cases h : w.heap.size = i
  · subst h; simp
  · rw [if_neg h, Array.getElem?_push, Array.getElem?_push]
    rw [if_neg (fun q => h q.symm), if_neg (fun q => h q.symm)]
theorem range0 {α : Type} (f : Nat → α) : Array.map f (Array.range 0) = #[] := by apply Array.ext'; simp
theorem run_new {st : St} (h : HR Y G B ρ st.h w) {id : Nat} {e : TypeId} {z : AV} {cs : List AV} {v : Value} (hz : VR ρ z v) (hc : cellsA z = some cs) (hid : st.h.get id = none) :
    ∃ ρ' w', (newVar e v).run P w = .ok ⟨w.heap.size, 0, none⟩ w' ∧ VR ρ' (.ptr id 0) (.pointer (some ⟨w.heap.size, 0, none⟩)) ∧ Step Y G B ρ st w ρ' (st.add id (.row cs)) w' := by
  have hcs := cellsA_run hc hz
  have g := h.newRow (id := id) hid hcs e []
  refine ⟨_, _, ?_, ?_, g⟩
  · simp [newVar, newRow]
  · simp only [VR]
    exact ⟨.inr rfl, by simp [Env.ext]⟩
theorem i64_nat (n : Nat) (h : n ≤ 9223372036854775807) : IntKind.i64.wrap (n : Int) = n := IntWalk.i64_in _ (by omega)
theorem run_makeSlice {st : St} (h : HR Y G B ρ st.h w) {id : Nat} {t e : TypeId} {k k' : IntKind} {l c : Nat} {i : TypeInfo} {z : AV} {zs : List AV} (hu : P.underlying t = some (.slice e)) (hi : P.info? e = some i)
    (hz : zeroA P e = some z) (hzs : cellsA z = some zs) (hid : st.h.get id = none) (h1 : l ≤ c) (h2 : i.bytes * c ≤ 281474976710656) (h3 : c ≤ 9223372036854775807) (h4 : 1 ≤ zs.length) :
    ∃ ρ' w' v, (Instr.makeSlice t (.int k l) (.int k' c)).run P w = .ok v w' ∧ VR ρ' (.sl id 0 l c i.size true) v ∧ Step Y G B ρ st w ρ' (st.add id (.row (cyc zs (c * i.size)))) w' := by
  obtain ⟨zv, hzr, hzw⟩ := run_zeroA (ρ := ρ) hz
  have hc := cellsA_run hzs hzr
  have hcy := cyc_FR hc (n := c * i.size) (.inr h4)
  have g := h.newRow (id := id) hid hcy e []
  have hlen := hcy.length
  refine ⟨_, _, .slice (some ⟨w.heap.size, 0, none⟩) l c, ?_, ?_, g⟩
  · have b1 : ¬ (281474976710656 < (i.bytes : Int) * (c : Int)) := by
      have q : ((i.bytes * c : Nat) : Int) ≤ ((281474976710656 : Nat) : Int) := Int.ofNat_le.2 h2
      rw [Int.natCast_mul] at q
      omega
    have b2 : ¬ ((c : Int) < (l : Int)) := by omega
    have b3 : ¬ ((l : Int) < 0) := by omega
    have b4 : ¬ ((c : Int) < 0) := by omega
    by_cases hn : c * i.size = 0
    · have hn' : c = 0 ∨ i.size = 0 := Nat.mul_eq_zero.1 hn
      simp [Instr.makeSlice, run_underlying hu, asInt, asIntOf, typeInfo, hi, sizeOf, i64_nat l (by omega), i64_nat c h3, b1, b2, b3, b4, newRow, hn, range0]
    · have hn' : ¬ (c = 0 ∨ i.size = 0) := fun q => hn (Nat.mul_eq_zero.2 q)
      simp [Instr.makeSlice, run_underlying hu, asInt, asIntOf, typeInfo, hi, sizeOf, i64_nat l (by omega), i64_nat c h3, b1, b2, b3, b4, newRow, hn, hzw w]
      congr 2
      apply Array.ext'
      simp
  · simp only [VR]
    refine ⟨.inr rfl, c, ⟨Nat.le_refl _, fun _ => rfl⟩, ?_, ?_⟩
    · simp [Env.ext] at hlen ⊢
    · simp [Env.ext]
theorem goA_run {st st' : St} {f : FuncId} {xs : List AV} {n : AN} (hr : goA P st f xs = some (n, st')) (w : World) : n = .enter f xs ∧ st' = st ∧ ∀ args, (callFunc f args).run P w = .ok (.enter f args) w := by
  unfold goA at hr
  split at hr
  case h_2 => cases hr
  rename_i fn hfn
  cases hq : fn.body.isSome && !(fn.name == "runtime.NumGoroutine") with
  | false => rw [hq] at hr; cases hr
  | true =>
  rw [hq] at hr
  simp only [cond_true, Option.some.injEq, Prod.mk.injEq] at hr
  obtain ⟨rfl, rfl⟩ := hr
  simp only [Bool.and_eq_true, Bool.not_eq_true'] at hq
  obtain ⟨hq1, hq2⟩ := hq
  have hb : ¬ fn.body = none := by rintro e; rw [e] at hq1; cases hq1
  have hq3 : ¬ fn.name = "runtime.NumGoroutine" := by simpa using hq2
  exact ⟨rfl, rfl, fun args => by simp [callFunc, hfn, hq3, hb]⟩
theorem recvA_run {t : TypeId} {pr : Bool} (h : recvA P t pr = true) (v : Value) (wr : Option String) (w : World) : (receiverAt t (.val v) pr wr).run P w = .ok v w := by
  unfold recvA at h
  split at h
  · rename_i e hu
    subst h
    simp [receiverAt, run_underlying hu, Place.get]
  · rename_i d hno hu
    cases pr with
    | true => cases h
    | false =>
      cases d with
      | pointer e => exact absurd rfl (hno e)
      | _ => simp [receiverAt, run_underlying hu, Place.get]
  · cases h
theorem methA_run {t : TypeId} {name : String} {f : FuncId} (h : methA P t name = some f) (v : Value) (k : Nat) (w : World) : (method (k + 1) t v name).run P w = .ok (f, v) w := by
  unfold methA at h
  split at h
  case h_2 => cases h
  rename_i i hi
  split at h
  case h_2 => cases h
  rename_i m hm
  cases hp : m.path.isEmpty with
  | false => rw [hp] at h; cases h
  | true =>
  rw [hp] at h
  simp only [cond_true] at h
  split at h
  case h_2 => cases h
  rename_i g pr hf
  cases hq : recvA P t pr with
  | false => rw [hq] at h; cases h
  | true =>
  rw [hq] at h
  simp only [cond_true, Option.some.injEq] at h
  subst h
  have hpath : m.path.toList = [] := by simpa using hp
  simp [method, typeInfo, hi, hm, hpath, follow, hf, recvA_run hq]
theorem methO_run {st st' : St} {t : TypeId} {name : String} {x : AV} {xs : List AV} {n : AN} {v : Value} {vs : List Value} (hr : methO P st t name x xs = some (n, st')) (hx : VR ρ x v) (hxs : FR ρ xs vs) (w : World) :
    st' = st ∧ ∃ nx, NR Y ρ n nx ∧ (callMethod (.iface t v) name vs.toArray).run P w = .ok nx w := by
  unfold methO at hr
  split at hr
  case h_2 => cases hr
  rename_i f hf
  obtain ⟨rfl, rfl, hc⟩ := goA_run hr w
  refine ⟨rfl, .enter f (v :: vs).toArray, ⟨_, rfl, v, vs, hx, hxs, rfl⟩, ?_⟩
  have hm : (method (P.types.size + Made.depth) t v name).run P w = .ok (f, v) w := methA_run hf v (P.types.size + 99) w
  simp only [callMethod, Sem.run_bind]
  simp [hm, hc]
set_option maxHeartbeats 1000000 in
theorem wopA_run {st st' : St} (h : HR Y G B ρ st.h w) {ev : Operand → Option AV} {r : Operand → Value} (he : EvOk ρ ev r) {id : Nat} {o : Oper} {n : AN} (hr : wopA P Y G ev st id o = some (n, st')) :
    ∃ ρ' w' nx, (execOp r o).run P w = .ok nx w' ∧ NR Y ρ' n nx ∧ Step Y G B ρ st w ρ' st' w' := by
  have pure_case : ∀ {a : AV}, (∃ v, VR ρ a v ∧ ∀ w, (execOp r o).run P w = .ok (.value v) w) → n = .val a → st' = st → ∃ ρ' w' nx, (execOp r o).run P w = .ok nx w' ∧ NR Y ρ' n nx ∧ Step Y G B ρ st w ρ' st' w' := by
    rintro a ⟨v, h1, h2⟩ rfl rfl
    exact ⟨ρ, w, _, h2 w, ⟨v, rfl, h1⟩, Step.refl h⟩
  unfold wopA at hr
  split at hr
  · rename_i t x ho
    unfold loadA at hr
    split at hr
    · rename_i b f hx
      split at hr
      · rename_i cs hb
        split at hr
        · rename_i a ha
          simp only [Option.some.injEq, Prod.mk.injEq] at hr
          obtain ⟨rfl, rfl⟩ := hr
          obtain ⟨v, h1, h2⟩ := run_load_row (P := P) h hb ha
          have hv := he x _ hx
          simp only [VR] at hv
          exact ⟨ρ, w, .value v, by simp [execOp, ho, Instr.loadAt, hv.2, Instr.sureAddr, h2 w rfl], ⟨v, rfl, h1⟩, Step.refl h⟩
        · cases hr
      · cases hr
    · rename_i b f hx
      split at hr
      · rename_i a hg ha
        simp only [Option.some.injEq, Prod.mk.injEq] at hr
        obtain ⟨rfl, rfl⟩ := hr
        obtain ⟨_, u, h1, h2⟩ := h.glob _ _ _ hg
        have hv := he x _ hx
        simp only [VR] at hv
        exact ⟨ρ, w, .value u, by simp [execOp, ho, Instr.loadAt, hv, Instr.sureAddr, loadVar, run_isAggA ha w, h1], ⟨u, rfl, h2⟩, Step.refl h⟩
      · cases hr
    · cases hr
  · rename_i t x y ho
    unfold storeA at hr
    split at hr
    · rename_i b f v hx hy
      split at hr
      · rename_i cs vs k hb hc hk
        simp only [beq_dec, ble_dec] at hr
        by_cases q1 : vs.length = k
        case neg => simp [q1] at hr
        by_cases q2 : f + vs.length ≤ cs.length
        case neg => simp [q2] at hr
        cases q3 : vs.all isOne with
        | false => simp [q3] at hr
        | true =>
        simp only [q1, q3, decide_true] at hr
        have q2' := q2
        rw [q1] at q2'
        simp only [q2', decide_true, Bool.and_self, cond_true, Option.some.injEq, Prod.mk.injEq] at hr
        obtain ⟨rfl, rfl⟩ := hr
        have hv := he x _ hx
        have hu := he y _ hy
        simp only [VR] at hv
        have hcs := cellsA_run hc hu
        have hl := hcs.length
        simp only [Array.length_toList] at hl
        obtain ⟨w', g1, g2⟩ := h.store (P := P) hb hcs q3 q2
        exact ⟨ρ, w', .skip, by simp [execOp, ho, Instr.storeAt, hv.2, Instr.sureAddr, storeVar, run_sizeA hk w, hl, q1, g1], rfl, g2⟩
      · cases hr
    · cases hr
  · rename_i e ho
    unfold boxA at hr
    split at hr
    · rename_i z hz
      split at hr
      · rename_i cs hc hid
        simp only [Option.some.injEq, Prod.mk.injEq] at hr
        obtain ⟨rfl, rfl⟩ := hr
        obtain ⟨zv, hzr, hzw⟩ := run_zeroA (ρ := ρ) hz
        obtain ⟨ρ', w', g1, g2, g3⟩ := run_new (P := P) h (e := e) hzr hc hid
        exact ⟨ρ', w', _, by simp [execOp, ho, Instr.alloc, hzw w, g1], ⟨_, rfl, g2⟩, g3⟩
      · cases hr
    · cases hr
  · rename_i e x ho
    unfold boxA at hr
    split at hr
    · rename_i z hz
      split at hr
      · rename_i cs hc hid
        simp only [Option.some.injEq, Prod.mk.injEq] at hr
        obtain ⟨rfl, rfl⟩ := hr
        obtain ⟨ρ', w', g1, g2, g3⟩ := run_new (P := P) h (e := e) (he x _ hz) hc hid
        exact ⟨ρ', w', _, by simp [execOp, ho, Instr.box, g1], ⟨_, rfl, g2⟩, g3⟩
      · cases hr
    · cases hr
  · rename_i t len parts ho
    unfold bsliceA at hr
    split at hr
    · rename_i e hu
      split at hr
      · rename_i k z ps hk hz hps
        split at hr
        · rename_i zs hzs hid
          simp only [ble_dec, ← Bool.decide_and, Bool.cond_decide] at hr
          split at hr
          case isFalse => cases hr
          rename_i q
          split at hr
          · rename_i cs hf
            simp only [beq_dec, Bool.cond_decide] at hr
            split at hr
            case isFalse => cases hr
            rename_i q3
            simp only [Option.some.injEq, Prod.mk.injEq] at hr
            obtain ⟨rfl, rfl⟩ := hr
            obtain ⟨zv, hzr, hzw⟩ := run_zeroA (ρ := ρ) hz
            have hc := cellsA_run hzs hzr
            have hcy := cyc_FR hc (n := len * k) (.inr q.2)
            have hq : PR ρ ps (parts.map fun (i, x) => (i, r x)).toList := by simpa using evps_PR he hps
            obtain ⟨os, ho1, ho2⟩ := run_fillA hq hcy hf
            have g := h.newRow (id := id) hid ho2 e []
            have hol := ho2.length
            refine ⟨_, _, .value (.slice (some ⟨w.heap.size, 0, none⟩) len len), ?_, ⟨_, rfl, ?_⟩, g⟩
            · have b1 : ¬ (16777216 < len * k) := by omega
              simp [execOp, ho, Instr.buildSlice, run_underlying hu, run_sizeA hk, b1, newRow]
              simp at ho1
              by_cases hn : len = 0 ∨ k = 0
              · have hz0 : len * k = 0 := Nat.mul_eq_zero.2 hn
                simp only [hz0] at ho1
                have ho1' : Instr.fill (fun i => some (i * k, k)) #[] (List.map (fun x => (x.1, r x.2)) parts.toList) = some os := by rw [range0] at ho1; exact ho1
                simp [hz0, range0, ho1']
              · have hn2 : ¬ (len * k = 0) := fun q => hn (Nat.mul_eq_zero.1 q)
                simp [hn2, hzw w, ho1]
            · simp only [VR]
              refine ⟨.inr rfl, len, ⟨Nat.le_refl _, fun _ => rfl⟩, ?_, ?_⟩
              · simp [Env.ext] at hol ⊢; omega
              · simp [Env.ext]
          · cases hr
        · cases hr
      · cases hr
    · cases hr
  · rename_i t l c ho
    unfold msliceA at hr
    split at hr
    · rename_i e k1 l k2 c hu hl hc
      split at hr
      · rename_i i z hi hz
        split at hr
        · rename_i zs hzs hid
          simp only [ble_dec, ← Bool.decide_and, Bool.cond_decide] at hr
          split at hr
          case isFalse => cases hr
          rename_i q
          obtain ⟨q1, q2, q3, q4⟩ := q
          simp only [Option.some.injEq, Prod.mk.injEq] at hr
          obtain ⟨rfl, rfl⟩ := hr
          have h1 := he _ _ hl
          have h2 := he _ _ hc
          simp only [VR] at h1 h2
          obtain ⟨ρ', w', v, g1, g2, g3⟩ := run_makeSlice (P := P) h (k := k1) (k' := k2) hu hi hz hzs hid q1 q2 q3 q4
          refine ⟨ρ', w', .value v, ?_, ⟨_, rfl, g2⟩, g3⟩
          simp only [execOp, ho, h1, h2, Sem.run_bind]
          have g1' : (Instr.makeSlice t (.int k1 (Int.ofNat l)) (.int k2 (Int.ofNat c))).run P w = .ok v w' := g1
          rw [g1']
          rfl
        · cases hr
      · cases hr
    · cases hr
  · rename_i c0 ho
    unfold callO at hr
    split at hr
    · rename_i f hcb
      unfold valueO at hr
      split at hr
      · rename_i g a c as hf has
        unfold enterO at hr
        split at hr
        · rename_i fn fs cs hfn hfs hcs
          have hcl := he f _ hf
          simp only [VR] at hcl
          obtain ⟨xs, ys, hx, hy, hcl⟩ := hcl
          cases hq : fn.body.isSome && !(fn.name == "runtime.NumGoroutine") with
          | true =>
            rw [hq] at hr
            simp only [cond_true, Option.some.injEq, Prod.mk.injEq] at hr
            obtain ⟨rfl, rfl⟩ := hr
            simp only [Bool.and_eq_true, Bool.not_eq_true'] at hq
            obtain ⟨hq1, hq2⟩ := hq
            have h1 := evs_FR he has
            have h2 := ((LR.fr hfs hx).append h1).append (LR.fr hcs hy)
            refine ⟨ρ, w, .enter g (xs.toArray ++ c0.args.map r ++ ys.toArray), ?_, ⟨_, ?_, h2⟩, Step.refl h⟩
            · have hb : ¬ fn.body = none := by rintro e; rw [e] at hq1; cases hq1
              have hq3 : ¬ fn.name = "runtime.NumGoroutine" := by simpa using hq2
              simp [execOp, ho, resolve, hcb, hcl, Deferred.ofValue, invoke, callFunc, hfn, hq3, hb]
            · congr 1
              apply Array.ext'
              simp
          | false =>
            rw [hq] at hr
            simp only [cond_false] at hr
            unfold valO at hr
            split at hr
            · rename_i v hv
              simp only [Option.some.injEq, Prod.mk.injEq] at hr
              obtain ⟨rfl, rfl⟩ := hr
              exact pure_case (run_groundA he hv) rfl rfl
            · cases hr
        · cases hr
      · rename_i b as hf has
        unfold roundO at hr
        split at hr
        · rename_i y s j hy hb
          simp only [beq_dec, Bool.cond_decide] at hr
          split at hr
          case isFalse => cases hr
          rename_i q
          simp only [Option.some.injEq, Prod.mk.injEq] at hr
          obtain ⟨rfl, rfl⟩ := hr
          have hcl := he f _ hf
          simp only [VR] at hcl
          have h1 := evs_FR he has
          have hl := h1.length
          obtain ⟨y', fn, tmps, df, g1, g2, g3⟩ := h.blk b _ hb
          rw [hy] at g1
          cases g1
          have hsz : (c0.args.map r).size = y.params.toArray.size := by simp at hl ⊢; omega
          refine ⟨ρ, w, .round (ρ.blk b) fn ((y.params.zip (c0.args.toList.map r)).foldl (fun (ts : Array Value) (x : Tmp × Value) => ts.setIfInBounds x.1 x.2) tmps) y.assign y.body, ?_, ⟨y, fn, tmps, _, hy, hcl.1, g2, h1, rfl⟩, Step.refl h⟩
          have hfold : ((y.params.toArray.zip (c0.args.map r)).foldl (fun (ts : Array Value) (x : Tmp × Value) => ts.setIfInBounds x.1 x.2) tmps) = (y.params.zip (c0.args.toList.map r)).foldl (fun (ts : Array Value) (x : Tmp × Value) => ts.setIfInBounds x.1 x.2) tmps := by
            rw [← Array.foldl_toList]
            simp
          have hsz2 : c0.args.size = y.params.length := by simpa using hsz
          have hgo : (Instr.yield (ρ.blk b) (c0.args.map r)).run P w = .ok (.round (ρ.blk b) fn ((y.params.zip (c0.args.toList.map r)).foldl (fun (ts : Array Value) (x : Tmp × Value) => ts.setIfInBounds x.1 x.2) tmps) y.assign y.body) w := by
            simp only [Instr.yield, Instr.getLoop, getObj, Sem.run_bind, Sem.run, g3, Result.andThen_ok, Sem.run_pure]
            rw [if_neg (by simpa using hsz2)]
            simp only [Sem.run_pure]
            exact congrArg (fun ts => Result.ok (Next.round (ρ.blk b) fn ts y.assign y.body) w) hfold
          simp only [execOp, ho, resolve, hcb, hcl.2, Deferred.ofValue, Sem.run_bind, Sem.run_pure, Result.andThen_ok, invoke]
          have e1 : (#[] : Array Value) ++ c0.args.map r = c0.args.map r := by simp
          rw [e1]
          exact hgo
        · cases hr
      · rename_i t name a c as hf has
        have hcl := he f _ hf
        simp only [VR] at hcl
        obtain ⟨us, cs, hx, hy, hcl⟩ := hcl
        unfold withA at hr
        split at hr
        case h_2 => cases hr
        rename_i fs hfs
        have h2 := (LR.fr hfs hx).append (evs_FR he has)
        unfold methOfO at hr
        split at hr
        case h_2 => cases hr
        rename_i r0 rest hl
        rw [hl] at h2
        obtain ⟨v, vs, g1, g2, g3⟩ := h2
        have hargs : us.toArray ++ c0.args.map r = (v :: vs).toArray := by apply Array.ext'; simpa using g3
        split at hr
        · rename_i ms hu
          split at hr
          case h_2 => cases hr
          rename_i t' x
          simp only [VR] at g1
          obtain ⟨u, g1, rfl⟩ := g1
          obtain ⟨rfl, nx, q1, q2⟩ := methO_run (Y := Y) hr g1 g2 w
          refine ⟨ρ, w, nx, ?_, q1, Step.refl h⟩
          simp only [execOp, ho, resolve, hcb, hcl, Deferred.ofValue, Sem.run_bind, Sem.run_pure, Result.andThen_ok, invoke, hargs]
          simp [run_underlying hu]
          simpa using q2
        · rename_i d hno hu
          obtain ⟨rfl, nx, q1, q2⟩ := methO_run (Y := Y) hr g1 g2 w
          refine ⟨ρ, w, nx, ?_, q1, Step.refl h⟩
          simp only [execOp, ho, resolve, hcb, hcl, Deferred.ofValue, Sem.run_bind, Sem.run_pure, Result.andThen_ok, invoke, hargs]
          cases d with
          | interface ms => exact absurd rfl (hno ms)
          | _ => simp [run_underlying hu]; simpa using q2
        · cases hr
      · rename_i t path g pr a c as hf has
        have hcl := he f _ hf
        simp only [VR] at hcl
        obtain ⟨us, cs, hx, hy, hcl⟩ := hcl
        unfold withA at hr
        split at hr
        case h_2 => cases hr
        rename_i fs hfs
        have h2 := (LR.fr hfs hx).append (evs_FR he has)
        unfold viaO at hr
        split at hr
        case h_2 => cases hr
        rename_i r0 rest hl
        rw [hl] at h2
        obtain ⟨v, vs, g1, g2, g3⟩ := h2
        have hargs : us.toArray ++ c0.args.map r = (v :: vs).toArray := by apply Array.ext'; simpa using g3
        cases hq : path.isEmpty && recvA P t pr with
        | false => rw [hq] at hr; cases hr
        | true =>
        rw [hq] at hr
        simp only [cond_true] at hr
        simp only [Bool.and_eq_true] at hq
        obtain ⟨rfl, rfl, hc⟩ := goA_run hr w
        have hpath : path.toList = [] := by simpa using hq.1
        refine ⟨ρ, w, .enter g (v :: vs).toArray, ?_, ⟨_, rfl, v, vs, g1, g2, rfl⟩, Step.refl h⟩
        simp only [execOp, ho, resolve, hcb, hcl, Deferred.ofValue, Sem.run_bind, Sem.run_pure, Result.andThen_ok, invoke, hargs]
        simp [receiverVia, hpath, follow, recvA_run hq.2, hc]
      · cases hr
    · rename_i hcb
      unfold appO at hr
      split at hr
      · rename_i s x t xt hargs htys
        split at hr
        · rename_i sa xa hs hx
          split at hr
          · rename_i a st2 happ
            simp only [Option.some.injEq, Prod.mk.injEq] at hr
            obtain ⟨rfl, rfl⟩ := hr
            obtain ⟨ρ', w', v, g1, g2, g3⟩ := run_appA (P := P) (ty := o.type) h happ (he s _ hs) (he x _ hx)
            have e1 : c0.args = #[s, x] := by apply Array.ext'; simpa using hargs
            have e2 : c0.argTypes = #[t, xt] := by apply Array.ext'; simpa using htys
            exact ⟨ρ', w', .value v, by simp [execOp, ho, resolve, hcb, invoke, builtin, e1, e2, g1], ⟨_, rfl, g2⟩, g3⟩
          · cases hr
        · cases hr
      · cases hr
    · rename_i rc name hcb
      unfold invokeO at hr
      split at hr
      · rename_i t x xs hrc hxs
        have hv := he rc _ hrc
        simp only [VR] at hv
        obtain ⟨u, g1, hv⟩ := hv
        have g2 := evs_FR he hxs
        obtain ⟨rfl, nx, q1, q2⟩ := methO_run (Y := Y) hr g1 g2 w
        refine ⟨ρ, w, nx, ?_, q1, Step.refl h⟩
        have e1 : #[Value.iface t u] ++ c0.args.map r = (Value.iface t u :: c0.args.toList.map r).toArray := by apply Array.ext'; simp
        simp only [execOp, ho, resolve, hcb, hv, Sem.run_bind, Sem.run_pure, Result.andThen_ok, invoke, e1]
        have e3 : List.take c0.args.size (List.map r c0.args.toList) = List.map r c0.args.toList := List.take_of_length_le (by simp)
        simpa [e3] using q2
      · cases hr
    · unfold valO at hr
      split at hr
      · rename_i a ha
        simp only [Option.some.injEq, Prod.mk.injEq] at hr
        obtain ⟨rfl, rfl⟩ := hr
        exact pure_case (run_pureA he ha) rfl rfl
      · cases hr
  · rename_i t x ho
    unfold rangeA at hr
    split at hr
    · rename_i s hu hx hid
      simp only [Option.some.injEq, Prod.mk.injEq] at hr
      obtain ⟨rfl, rfl⟩ := hr
      have hv := he x _ hx
      simp only [VR] at hv
      have hle := ρ.le_ext id w.heap.size 0 0 (h.fresh hid)
      refine ⟨ρ.ext id w.heap.size 0 0, w.alloc (.stringIter s 0), .value (.pointer (some ⟨w.heap.size, 0, none⟩)), ?_, ⟨_, rfl, ?_⟩, hle, h.new hid _ (.it s 0) (by simp) _ _ ?_, (Below.refl B w).alloc h.base _, TK.add h hid (fun j hj => Below.heap_alloc w _ j hj)⟩
      · simp [execOp, ho, Instr.range, run_underlying hu, hv]
      · simp only [VR]
        exact ⟨.inr rfl, by simp [Env.ext]⟩
      · refine ⟨by simp [Env.ext], ?_⟩
        simp only [Env.ext, if_true]; exact heap_alloc_new w _
    · cases hr
  · rename_i x q ho
    cases q
    case false => cases hr
    simp only [cond_true] at hr
    unfold nextA at hr
    split at hr
    · rename_i b hx
      split at hr
      · rename_i s p hb
        have hv := he x _ hx
        simp only [VR] at hv
        obtain ⟨hs0, hbl⟩ := h.blk b _ hb
        rw [hs0] at hv
        have hlv := h.live b _ hb (by simp)
        simp only [ble_dec, Bool.cond_decide] at hr
        split at hr
        · rename_i hlt
          simp only [Option.some.injEq, Prod.mk.injEq] at hr
          obtain ⟨rfl, rfl⟩ := hr
          have hw : ∀ j, j ≠ ρ.blk b → j < w.heap.size → (w.heap.setIfInBounds (ρ.blk b) (.stringIter s (p + (Utf8.decode s p).2)))[j]? = w.heap[j]? := fun j hj _ => by
            rw [Array.getElem?_setIfInBounds_ne (by omega)]
          have hsz := (Array.getElem?_eq_some_iff.1 hbl).1
          refine ⟨ρ, { w with heap := w.heap.setIfInBounds (ρ.blk b) (.stringIter s (p + (Utf8.decode s p).2)) }, .value (.tuple #[.bool true, goInt p, .int .i32 (Utf8.decode s p).1]), ?_, ⟨_, rfl, ?_⟩, .refl _, h.set hb (by simp) (by simp) hw (by simp) ?_, h.below hb (by simp) ⟨rfl, rfl, rfl⟩ hw (by simp), TK.put h hb (by simp) hw⟩
          · have hlt' : p < s.size := hlt
            simp only [execOp, ho, Instr.next, hv.2, Sem.run_bind]
            simp [getObj, setObj, Sem.run, hbl, hlt']
          · simp only [VR]
            refine ⟨[_, _, _], ?_, rfl⟩
            simp only [AV.of, LR, VR]
            exact ⟨_, _, rfl, ⟨_, _, rfl, ⟨_, _, rfl, rfl, rfl⟩, rfl⟩, rfl⟩
          · refine ⟨hs0, ?_⟩
            simp [hsz]
        · rename_i hlt
          simp only [Option.some.injEq, Prod.mk.injEq] at hr
          obtain ⟨rfl, rfl⟩ := hr
          refine ⟨ρ, w, .value (.tuple #[.bool false]), ?_, ⟨_, rfl, ?_⟩, Step.refl h⟩
          · have hlt' : ¬ p < s.size := hlt
            simp only [execOp, ho, Instr.next, hv.2, Sem.run_bind]
            simp [getObj, Sem.run, hbl, hlt']
          · simp only [VR]
            refine ⟨[_], ?_, rfl⟩
            simp only [AV.of, LR, VR]
            exact ⟨_, _, rfl, rfl, rfl⟩
      · cases hr
    · cases hr
  · rename_i s d x ho
    unfold convA at hr
    split at hr
    · rename_i a ha
      simp only [Option.some.injEq, Prod.mk.injEq] at hr
      obtain ⟨rfl, rfl⟩ := hr
      exact pure_case (run_groundA he ha) rfl rfl
    unfold convO at hr
    split at hr
    · rename_i e b hs hd hx
      split at hr
      · rename_i he8 hid
        simp only [Option.some.injEq, Prod.mk.injEq] at hr
        obtain ⟨rfl, rfl⟩ := hr
        have hv := he x _ hx
        simp only [VR] at hv
        have hdr : HR Y G B ρ st.h w.drew := h.heap rfl
        have hge := grownCap_ge w b.size 0 e
        have hel : b.data.toList.length = b.size := by simp
        have hle := ρ.le_ext id w.heap.size 0 (grownCap w b.size 0 e) (h.fresh hid)
        have hfr : FR ρ (b.data.toList.map fun x => AV.int .u8 x.toNat) (b.data.toList.map fun x => Value.int .u8 x.toNat) := by
          refine FR.of_get (by simp) (fun i y hy => ?_)
          rw [List.getElem?_map] at hy ⊢
          cases hi : b.data.toList[i]? with
          | none => simp [hi] at hy
          | some q => simp [hi] at hy ⊢; subst hy; simp only [VR]
        have hcs : ((b.data.map fun x => Value.int .u8 x.toNat) ++ Array.replicate (grownCap w b.size 0 e - b.size) (Value.int .u8 0)).size = grownCap w b.size 0 e := by
          simp; have : b.data.size = b.size := rfl; omega
        have hsz : b.data.size = b.size := rfl
        refine ⟨ρ.ext id w.heap.size 0 (grownCap w b.size 0 e), w.drew.alloc (.cells ((b.data.map fun x => Value.int .u8 x.toNat) ++ Array.replicate (grownCap w b.size 0 e - b.size) (Value.int .u8 0)) e (grownCap w b.size 0 e, grownCap w b.size 0 e + 1)),
          .value (.slice (some ⟨w.heap.size, 0, none⟩) b.size (grownCap w b.size 0 e)), ?_, ⟨_, rfl, ?_⟩, ?_⟩
        · have hsh : (w.drew.alloc (.cells ((b.data.map fun x => Value.int .u8 x.toNat) ++ Array.replicate (grownCap w b.size 0 e - b.size) (Value.int .u8 0)) e)).shape? w.heap.size = some (e, grownCap w b.size 0 e) := by
            have hn := heap_alloc_new w.drew (.cells ((b.data.map fun x => Value.int .u8 x.toNat) ++ Array.replicate (grownCap w b.size 0 e - b.size) (Value.int .u8 0)) e)
            have hn' : (w.drew.alloc (.cells ((b.data.map fun x => Value.int .u8 x.toNat) ++ Array.replicate (grownCap w b.size 0 e - b.size) (Value.int .u8 0)) e)).heap[w.heap.size]? = some (.cells ((b.data.map fun x => Value.int .u8 x.toNat) ++ Array.replicate (grownCap w b.size 0 e - b.size) (Value.int .u8 0)) e) := hn
            unfold World.shape?
            rw [hn']
            simp only [hcs]
          rw [← freeze_alloc w.drew]
          have hch : (choose (.appendCap b.size 0 e)).run P w = .ok (grownCap w b.size 0 e) w.drew := by simp [Question.forced, grownCap]
          simp only [execOp, ho, hv, Sem.run_bind, convert, run_underlying hs, run_underlying hd, run_underlying he8, Result.andThen_ok, Conv.stringToBytes, hch, newRow, run_newObj, Sem.run_pure, markStringish, run_shape]
          have hsh' : ({ w.drew with heap := w.drew.heap.push (.cells ((b.data.map fun x => Value.int .u8 x.toNat) ++ Array.replicate (grownCap w b.size 0 e - b.size) (Value.int .u8 0)) e) } : World).shape? w.drew.heap.size = some (e, grownCap w b.size 0 e) := hsh
          rw [hsh']
          rfl
        · simp only [VR]
          refine ⟨.inr rfl, _, ⟨hge, by simp⟩, ?_, ?_⟩
          · simp [Env.ext]
          · simp [Env.ext]
        · have st1 : Step Y G B ρ st w.drew (ρ.ext id w.heap.size 0 (grownCap w b.size 0 e)) (st.add id (.ro (b.data.toList.map fun x => .int .u8 x.toNat))) (w.drew.alloc (.cells ((b.data.map fun x => Value.int .u8 x.toNat) ++ Array.replicate (grownCap w b.size 0 e - b.size) (Value.int .u8 0)) e (grownCap w b.size 0 e, grownCap w b.size 0 e + 1))) := by
            refine ⟨hle, hdr.new hid _ (.ro _) (by simp) _ _ ?_, (Below.refl B _).alloc hdr.base _, TK.add hdr hid (fun j hj => Below.heap_alloc w.drew _ j hj)⟩
            refine ⟨_, hfr.mono hle, (b.data.map fun x => Value.int .u8 x.toNat) ++ Array.replicate (grownCap w b.size 0 e - b.size) (Value.int .u8 0), e, (grownCap w b.size 0 e, grownCap w b.size 0 e + 1), ?_, ?_, ?_, ?_⟩
            · simp only [Env.ext, if_true]; exact heap_alloc_new w.drew _
            · simp only [Env.ext, if_true]; exact hcs
            · simp only [Env.ext, if_true]; simp; omega
            · intro i u hu
              simp only [Env.ext, if_true, Nat.zero_add]
              have hlt : i < b.size := by
                rcases Nat.lt_or_ge i b.size with q | q
                · exact q
                · rw [List.getElem?_eq_none (by simp; omega)] at hu; cases hu
              rw [Array.getElem?_append_left (by simp; omega)]
              simpa using hu
          exact (Step.drew h).trans h st1
      · cases hr
    · cases hr
  · rename_i t rs ho
    have go : ∀ {hint : Option Value}, (∀ x, hint = some x → ∃ k n, x = .int k n) → (∃ kt et, P.underlying t = some (.map kt et)) → st.h.get id = none → n = .val (.mp id) → st' = st.add id (.mp [] 0) → hint = rs.map r →
        ∃ ρ' w' nx, (execOp r o).run P w = .ok nx w' ∧ NR Y ρ' n nx ∧ Step Y G B ρ st w ρ' st' w' := by
      rintro hint hh ⟨kt, et, hu⟩ hid rfl rfl rfl
      have hle := ρ.le_ext id w.heap.size 0 0 (h.fresh hid)
      refine ⟨ρ.ext id w.heap.size 0 0, w.alloc (.map #[] 0), .value (.map (some w.heap.size)), ?_, ⟨_, rfl, ?_⟩, hle, h.new hid _ (.mp [] 0) (by simp) _ _ ?_, (Below.refl B w).alloc h.base _, TK.add h hid (fun j hj => Below.heap_alloc w _ j hj)⟩
      · cases rs with
        | none => simp [execOp, ho, Instr.makeMap]
        | some x =>
          obtain ⟨k, n, hx⟩ := hh (r x) rfl
          simp [execOp, ho, Instr.makeMap, run_underlying hu, hx, asInt, asIntOf]
      · simp only [VR]; exact ⟨.inr rfl, by simp [Env.ext]⟩
      · refine ⟨[], rfl, ?_⟩
        simp only [Env.ext, if_true]; exact heap_alloc_new w _
    unfold mmapA at hr
    split at hr
    · rename_i kt et hu hid
      split at hr
      · simp only [Option.some.injEq, Prod.mk.injEq] at hr
        obtain ⟨rfl, rfl⟩ := hr
        exact go (hint := none) (fun x e => by cases e) ⟨kt, et, hu⟩ hid rfl rfl rfl
      · rename_i x
        split at hr
        · rename_i k m hx
          simp only [Option.some.injEq, Prod.mk.injEq] at hr
          obtain ⟨rfl, rfl⟩ := hr
          have hv := he x _ hx
          simp only [VR] at hv
          exact go (hint := some (r x)) (fun y e => by cases e; exact ⟨k, m, hv⟩) ⟨kt, et, hu⟩ hid rfl rfl rfl
        · cases hr
    · cases hr
  · rename_i t m k ok ho
    unfold lookO at hr
    split at hr
    · rename_i ma ka hm hk
      unfold valO at hr
      split at hr
      · rename_i a ha
        simp only [Option.some.injEq, Prod.mk.injEq] at hr
        obtain ⟨rfl, rfl⟩ := hr
        obtain ⟨v, g1, g2⟩ := run_lookA h ha (he m _ hm) (he k _ hk)
        exact ⟨ρ, w, .value v, by simp only [execOp, ho, Sem.run_bind, g2, Result.andThen_ok, Sem.run_pure], ⟨_, rfl, g1⟩, Step.refl h⟩
      · cases hr
    · cases hr
  · rename_i t m k x ho
    unfold updO at hr
    split at hr
    · rename_i ma ka xa hm hk hx
      split at hr
      · rename_i s' hs
        simp only [Option.some.injEq, Prod.mk.injEq] at hr
        obtain ⟨rfl, rfl⟩ := hr
        obtain ⟨w', g1, g2⟩ := run_updA (P := P) h hs (he m _ hm) (he k _ hk) (he x _ hx)
        exact ⟨ρ, w', .skip, by simp only [execOp, ho, Sem.run_bind, g1, Result.andThen_ok, Sem.run_pure], rfl, g2⟩
      · cases hr
    · cases hr
  · rename_i t m k x ho
    unfold updO at hr
    split at hr
    · rename_i ma ka xa hm hk hx
      split at hr
      · rename_i s' hs
        simp only [Option.some.injEq, Prod.mk.injEq] at hr
        obtain ⟨rfl, rfl⟩ := hr
        obtain ⟨w', g1, g2⟩ := run_updA (P := P) h hs (he m _ hm) (he k _ hk) (he x _ hx)
        exact ⟨ρ, w', .skip, by simp only [execOp, ho, Sem.run_bind, g1, Result.andThen_ok, Sem.run_pure], rfl, g2⟩
      · cases hr
    · cases hr
  · unfold valO at hr
    split at hr
    · rename_i a ha
      simp only [Option.some.injEq, Prod.mk.injEq] at hr
      obtain ⟨rfl, rfl⟩ := hr
      exact pure_case (run_pureA he ha) rfl rfl
    · cases hr
end
end Go.Ev
