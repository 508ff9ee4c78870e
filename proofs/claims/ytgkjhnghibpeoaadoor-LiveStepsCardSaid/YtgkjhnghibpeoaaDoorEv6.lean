/- Appends. -/
import Derived.Test.YtgkjhnghibpeoaaDoorEv5
namespace Go.Ev
noncomputable section
open Go Go.RowKit
variable {Y : Nat → Option LoopRec} {G : Nat → Nat → Option AV} {B : Nat} {ρ : Env} {s : St} {w : World} {P : Program}

def isSeq : TypeDesc → Bool
  | .slice _ | .string => true
  | _ => false
/-- What is appended: how many, and its cells. -/
def newsA (st : St) (size : Nat) : AV → Option (Nat × List AV)
  | .sl b o m _ z _ => match (st.h.get b).bind rowOf with
    | some cs => bif Nat.beq z size && Nat.ble (o + m * z) cs.length then some (m, (cs.drop o).take (m * z)) else none
    | _ => none
  | .nils => some (0, [])
  | .sle => some (0, [])
  | .str s => bif Nat.beq size 1 then some (s.size, s.data.toList.map fun b => .int .u8 b.toNat) else none
  | _ => none
theorem run_newsA {st : St} (h : HR Y G B ρ st.h w) {size m : Nat} {a : AV} {news : List AV} {x : Value} (hn : newsA st size a = some (m, news)) (hx : VR ρ a x) :
    ∃ us, FR ρ news us ∧ us.length = m * size ∧ (∀ W, (Builtin.lenOf x).run P W = .ok m W) ∧ (∀ W, W.heap = w.heap → (Builtin.firstCells size m x).run P W = .ok us.toArray W) := by
  unfold newsA at hn
  split at hn
  · rename_i b o m' c z ex
    split at hn
    · rename_i cs hb
      simp only [beq_dec, ble_dec, ← Bool.decide_and, Bool.cond_decide] at hn
      split at hn
      case isFalse => cases hn
      rename_i q
      obtain ⟨rfl, hle⟩ := q
      simp only [Option.some.injEq, Prod.mk.injEq] at hn
      obtain ⟨rfl, rfl⟩ := hn
      obtain ⟨us, hus, hr⟩ := h.rowF hb
      simp only [VR] at hx
      obtain ⟨hd, c', _, hlim, rfl⟩ := hx
      have hlen : ((us.drop o).take (m' * z)).length = m' * z := by have := hus.length; simp; omega
      refine ⟨(us.drop o).take (m' * z), (hus.drop o).take _, hlen, fun W => rfl, fun W hW => ?_⟩
      have hr' : RowF W (ρ.blk b) (ρ.sh b) (ρ.lim b) us := hr.congr (by rw [hW])
      have := run_loadCells_list (P := P) W ⟨ρ.blk b, ρ.sh b + o, none⟩ ((us.drop o).take (m' * z)) (fun j v hv => by
        rw [Addr.add_mid, Nat.add_assoc]
        refine hr'.cell _ _ ?_
        rw [List.getElem?_take] at hv
        split at hv
        · rw [List.getElem?_drop] at hv; exact hv
        · cases hv)
      rw [hlen] at this
      simpa [Builtin.firstCells] using this
    · cases hn
  · simp only [Option.some.injEq, Prod.mk.injEq] at hn
    obtain ⟨rfl, rfl⟩ := hn
    simp only [VR] at hx
    subst hx
    exact ⟨[], rfl, by simp, fun W => rfl, fun W _ => rfl⟩
  · simp only [Option.some.injEq, Prod.mk.injEq] at hn
    obtain ⟨rfl, rfl⟩ := hn
    simp only [VR] at hx
    obtain ⟨p, c, rfl⟩ := hx
    refine ⟨[], rfl, by simp, fun W => rfl, fun W _ => ?_⟩
    simp [Builtin.firstCells, loadCells, loadCellsFrom]
  · rename_i s
    simp only [beq_dec, Bool.cond_decide] at hn
    split at hn
    case isFalse => cases hn
    rename_i q
    subst q
    simp only [Option.some.injEq, Prod.mk.injEq] at hn
    obtain ⟨rfl, rfl⟩ := hn
    simp only [VR] at hx
    subst hx
    refine ⟨s.data.toList.map fun b => .int .u8 b.toNat, ?_, ?_, fun W => rfl, fun W _ => ?_⟩
    · refine FR.of_get (by simp) (fun i x hx => ?_)
      rw [List.getElem?_map] at hx ⊢
      cases hi : s.data.toList[i]? with
      | none => simp [hi] at hx
      | some b => simp [hi] at hx ⊢; subst hx; simp only [VR]
    · simp
    · simp only [Builtin.firstCells]
      have hs : s.extract 0 s.size = s := by simp
      rw [hs]
      show Result.ok (s.data.map fun b => Value.int .u8 b.toNat) W = _
      congr 1
      apply Array.ext'
      simp
  · cases hn

theorem run_append_in (t xt ty e : TypeId) (i : TypeInfo) (d : TypeDesc) (ht : P.underlying t = some (.slice e)) (hd : P.underlying xt = some d) (hdi : isSeq d = true) (hi : P.info? e = some i)
    (a : Addr) (n c m : Nat) (x : Value) (news : List Value) (W : World) (hx : ∀ W, (Builtin.lenOf x).run P W = .ok m W) (hf : (Builtin.firstCells i.size m x).run P w = .ok news.toArray w)
    (hroom : n + m ≤ c) (hst : (storeCells (a.add (n * i.size)) news).run P w = .ok () W) :
    (Builtin.append_ #[t, xt] ty #[.slice (some a) n c, x]).run P w = .ok (.slice (some a) (n + m) c) W := by
  cases d <;> simp only [isSeq, Bool.false_eq_true] at hdi
  all_goals simp [Builtin.append_, run_underlying ht, run_underlying hd, sizeOf, typeInfo, hi, hx, hroom, hf, hst]
theorem run_append_out (t xt ty e : TypeId) (i : TypeInfo) (z : Value) (d : TypeDesc) (ht : P.underlying t = some (.slice e)) (hd : P.underlying xt = some d) (hdi : isSeq d = true) (hi : P.info? e = some i) (hz : i.zero = some z)
    (s : Value) (p : Option Addr) (n c m : Nat) (x : Value) (olds news : List Value) (hs : s = .slice p n c) (hx : ∀ W, (Builtin.lenOf x).run P W = .ok m W)
    (hfo : (Builtin.firstCells i.size n s).run P w.drew = .ok olds.toArray w.drew) (hf : (Builtin.firstCells i.size m x).run P w.drew = .ok news.toArray w.drew)
    (hg : c < n + m) (h63 : ((n + m : Nat) : Int) ≤ 9223372036854775807) (hfit : Builtin.nextslicecap (n + m) c * i.bytes ≤ 281474976710656) :
    (Builtin.append_ #[t, xt] ty #[s, x]).run P w = .ok (.slice (some ⟨w.heap.size, 0, none⟩) (n + m) (grownCap w (n + m) c e))
      (w.drew.alloc (.cells ((olds ++ news) ++ (Builtin.zeroCells z.cells (grownCap w (n + m) c e - (n + m))).toList).toArray e)) := by
  have hn : ¬ (n + m ≤ c) := by omega
  have h63' : ¬ (9223372036854775807 < ((n : Int) + (m : Int))) := by omega
  have h48' : ¬ (281474976710656 < Builtin.nextslicecap (n + m) c * i.bytes) := by omega
  subst hs
  cases d <;> simp only [isSeq, Bool.false_eq_true] at hdi
  all_goals
    simp [Builtin.append_, run_underlying ht, run_underlying hd, sizeOf, typeInfo, zeroValue, hi, hz, hx, hn, h63', h48', Question.forced, hf, hfo, newRow, grownCap]
    congr 2
    apply Array.ext'
    simp
/-- Zero cells, over and over. -/
def cyc (zs : List AV) (n : Nat) : List AV := (List.range n).map fun i => (zs[i % zs.length]?).getD .nili
theorem cyc_FR {zs : List AV} {us : Array Value} (h : FR ρ zs us.toList) {n : Nat} (h0 : n = 0 ∨ 0 < zs.length) : FR ρ (cyc zs n) ((Array.range n).map (us[· % us.size]!)).toList := by
  have hl := h.length
  simp only [Array.length_toList] at hl
  refine FR.of_get (by simp [cyc]) (fun i x hx => ?_)
  simp only [cyc, List.getElem?_map] at hx
  by_cases hi : i < n
  · rw [List.getElem?_range hi] at hx
    simp only [Option.map_some, Option.some.injEq] at hx
    have hlt : i % zs.length < zs.length := Nat.mod_lt _ (by omega)
    rw [List.getElem?_eq_getElem hlt] at hx
    simp only [Option.getD_some] at hx
    obtain ⟨v, hv, hr⟩ := h.get (List.getElem?_eq_getElem hlt)
    refine ⟨v, ?_, hx ▸ hr⟩
    simp [hi]
    rw [hl]
    simp at hv
    rw [getElem!_def, hv]
  · rw [List.getElem?_eq_none (by simp; omega)] at hx
    cases hx
/-- What is appended to a list: another's cells, a text's bytes, or so many new ones. -/
def srcA (st : St) (d : TypeDesc) (size bytes : Nat) (zs : List AV) (x : AV) : Option (Nat × List AV) := match d, x with
  | .int _, .int _ (.ofNat m) => bif Nat.ble (m * bytes) 281474976710656 && (Nat.ble m 9223372036854775807 && Nat.ble 1 zs.length) then some (m, cyc zs (m * size)) else none
  | .slice _, x => newsA st size x
  | .string, x => newsA st size x
  | _, _ => none
/-- What an append does with it. -/
structure SrcR (P : Program) (w : World) (t xt ty e : TypeId) (i : TypeInfo) (zv : Value) (x : Value) (m : Nat) (us : List Value) : Prop where
  len : us.length = m * i.size
  inn : ∀ (a : Addr) (n c : Nat) W, n + m ≤ c → (storeCells (a.add (n * i.size)) us).run P w = .ok () W → (Builtin.append_ #[t, xt] ty #[.slice (some a) n c, x]).run P w = .ok (.slice (some a) (n + m) c) W
  nilz : m = 0 → us = [] → (Builtin.append_ #[t, xt] ty #[.slice none 0 0, x]).run P w = .ok (.slice none 0 0) w
  out : ∀ (s : Value) (p : Option Addr) (n c : Nat) (olds : List Value), s = .slice p n c → (Builtin.firstCells i.size n s).run P w.drew = .ok olds.toArray w.drew → c < n + m → ((n + m : Nat) : Int) ≤ 9223372036854775807 → Builtin.nextslicecap (n + m) c * i.bytes ≤ 281474976710656 →
    (Builtin.append_ #[t, xt] ty #[s, x]).run P w = .ok (.slice (some ⟨w.heap.size, 0, none⟩) (n + m) (grownCap w (n + m) c e))
      (w.drew.alloc (.cells ((olds ++ us) ++ (Builtin.zeroCells zv.cells (grownCap w (n + m) c e - (n + m))).toList).toArray e))
theorem run_srcA {st : St} (h : HR Y G B ρ st.h w) {t xt ty e : TypeId} {i : TypeInfo} {zv : Value} {d : TypeDesc} {zs : List AV} {m : Nat} {a : AV} {news : List AV} {x : Value} (ht : P.underlying t = some (.slice e)) (hd : P.underlying xt = some d) (hi : P.info? e = some i) (hzv : i.zero = some zv)
    (hzr : FR ρ zs zv.cells.toList) (hzl : zs.length = i.size) (hn : srcA st d i.size i.bytes zs a = some (m, news)) (hx : VR ρ a x) : ∃ us, FR ρ news us ∧ SrcR P w t xt ty e i zv x m us := by
  have seq : isSeq d = true → newsA st i.size a = some (m, news) → ∃ us, FR ρ news us ∧ SrcR P w t xt ty e i zv x m us := by
    intro hni hn
    obtain ⟨us, hus, hul, hlen, hfc⟩ := run_newsA (P := P) h hn hx
    refine ⟨us, hus, hul, fun a n c W hr hs => run_append_in t xt ty e i d ht hd hni hi a n c m x us W hlen (hfc w rfl) hr hs, fun hm hu => ?_, fun s p n c olds hs ho hg h63 hf => run_append_out t xt ty e i zv d ht hd hni hi hzv s p n c m x olds us hs hlen ho (hfc _ rfl) hg h63 hf⟩
    have hf := hfc w rfl
    subst hm; subst hu
    cases d <;> simp only [isSeq, Bool.false_eq_true] at hni
    all_goals simp [Builtin.append_, run_underlying ht, run_underlying hd, sizeOf, typeInfo, hi, hlen, hf]
  unfold srcA at hn
  split at hn
  · rename_i k k' m'
    simp only [ble_dec, ← Bool.decide_and, Bool.cond_decide] at hn
    split at hn
    case isFalse => cases hn
    rename_i q
    obtain ⟨q1, q2, q3⟩ := q
    simp only [Option.some.injEq, Prod.mk.injEq] at hn
    obtain ⟨rfl, rfl⟩ := hn
    simp only [VR] at hx
    subst hx
    have hzc : zv.cells.size = i.size := by have := hzr.length; simp at this; omega
    have hcy := cyc_FR hzr (n := m' * i.size) (.inr q3)
    have hw : IntKind.wrap .i64 (m' : Int) = (m' : Int) := IntWalk.i64_in _ (by simp; omega)
    have b0 : ¬ ((m' : Int) < 0) := by omega
    have b1 : ¬ (281474976710656 < (m' : Int) * (i.bytes : Int)) := by
      have q : ((m' * i.bytes : Nat) : Int) ≤ ((281474976710656 : Nat) : Int) := Int.ofNat_le.2 q1
      rw [Int.natCast_mul] at q
      omega
    have hzz : (if m' = 0 ∨ i.size = 0 then (#[] : Array Value) else Builtin.zeroCells zv.cells m') = (Array.range (m' * i.size)).map (zv.cells[· % zv.cells.size]!) := by
      by_cases hn : m' = 0 ∨ i.size = 0
      · have hz0 : m' * i.size = 0 := Nat.mul_eq_zero.2 hn
        rw [if_pos hn, hz0]; simp
      · rw [if_neg hn]; simp [Builtin.zeroCells, hzc]
    refine ⟨_, hcy, by simp, fun a n c W hr hs => ?_, fun hm hu => ?_, fun s p n c olds hs ho hg h63 hf => ?_⟩
    · have hs' : Sem.run P (storeCells (a.add (n * i.size)) (if m' = 0 ∨ i.size = 0 then (#[] : Array Value) else Builtin.zeroCells zv.cells m').toList) w = .ok () W := by rw [hzz]; exact hs
      by_cases hn : m' = 0 ∨ i.size = 0
      · rw [if_pos hn] at hs'
        have hn2 : m' * i.size = 0 := Nat.mul_eq_zero.2 hn
        simp [hn2, Builtin.append_, run_underlying ht, run_underlying hd, sizeOf, typeInfo, zeroValue, hi, hzv, asInt, asIntOf, hw, b0, b1, hr, hs']
      · rw [if_neg hn] at hs'
        have hn2 : ¬ (m' * i.size = 0) := fun q => hn (Nat.mul_eq_zero.1 q)
        simp [hn2, Builtin.append_, run_underlying ht, run_underlying hd, sizeOf, typeInfo, zeroValue, hi, hzv, asInt, asIntOf, hw, b0, b1, hr, hs']
    · subst hm
      have hw0 : IntKind.wrap .i64 0 = 0 := by decide
      simp [hw0, Builtin.append_, run_underlying ht, run_underlying hd, sizeOf, typeInfo, hi, asInt, asIntOf]
    · have hn : ¬ (n + m' ≤ c) := by omega
      have h63' : ¬ (9223372036854775807 < ((n : Int) + (m' : Int))) := by omega
      have h48' : ¬ (281474976710656 < Builtin.nextslicecap (n + m') c * i.bytes) := by omega
      subst hs
      rw [← hzz]
      by_cases hz0 : m' = 0 ∨ i.size = 0
      · have hn2 : m' * i.size = 0 := Nat.mul_eq_zero.2 hz0
        simp [hn2, Builtin.append_, run_underlying ht, run_underlying hd, sizeOf, typeInfo, zeroValue, hi, hzv, asInt, asIntOf, hw, b0, b1, hn, h63', h48', Question.forced, ho, newRow, grownCap, hz0]
        try (congr 2; apply Array.ext'; simp)
      · have hn2 : ¬ (m' * i.size = 0) := fun q => hz0 (Nat.mul_eq_zero.1 q)
        simp [hn2, Builtin.append_, run_underlying ht, run_underlying hd, sizeOf, typeInfo, zeroValue, hi, hzv, asInt, asIntOf, hw, b0, b1, hn, h63', h48', Question.forced, ho, newRow, grownCap, hz0]
        try (congr 2; apply Array.ext'; simp)
  · exact seq rfl hn
  · exact seq rfl hn
  · cases hn
def srcZ (st : St) (d : TypeDesc) (size bytes : Nat) (zs : Option (List AV)) (x : AV) : Option (Nat × List AV) := match zs with
  | some zs => srcA st d size bytes zs x
  | none => none
def appA (P : Program) (st : St) (id : Nat) (t xt : TypeId) (s x : AV) : Option (AV × St) :=
  match P.underlying t, P.underlying xt with
  | some (.slice e), some d => match P.info? e, zeroA P e with
    | some i, some z => match cellsA z, srcZ st d i.size i.bytes (cellsA z) x with
      | some zs, some (m, news) => bif Nat.beq zs.length i.size && news.all isOne then (match s with
        | .nils => bif Nat.beq m 0 then some (.nils, st) else
            bif Nat.ble (m * i.bytes) 140737488355328 && (Nat.ble m 9223372036854775807) then (match st.h.get id with
              | none => some (.sl id 0 m m i.size false, st.add id (.row news))
              | some _ => none) else none
        | .sl b o n c y ex => match st.h.get b with
          | some (.row cs) => bif Nat.beq y i.size && Nat.ble (o + n * y) cs.length then
              (bif Nat.ble (n + m) c then (bif Nat.ble (o + n * y + news.length) cs.length then some (.sl b o (n + m) c y ex, st.put b (.row (setL cs (o + n * y) news))) else none)
              else bif Nat.ble ((n + m) * i.bytes) 140737488355328 && (Nat.ble (n + m) 9223372036854775807) then (match st.h.get id with
                | none => bif ex then some (.sl id 0 (n + m) (n + m) i.size false, st.add id (.row ((cs.drop o).take (n * y) ++ news)))
                    else some (.sl id 0 (n + m) (n + m) i.size false, (st.put b .dead).add id (.row ((cs.drop o).take (n * y) ++ news)))
                | some _ => none) else none) else none
          | _ => none
        | _ => none) else none
      | _, _ => none
    | _, _ => none
  | _, _ => none
theorem HR.kill {t0 : Tr Bl} (h : HR Y G B ρ t0 w) {b : Nat} {y : Bl} (_hb : t0.get b = some y) : HR Y G B ρ (t0.set b .dead) w := by
  refine ⟨h.base, ?_, ?_, ?_, ?_, h.glob⟩
  · intro k hk
    rw [Tr.get_set]
    split
    · rfl
    · exact h.dom k hk
  · intro k x hx hxd
    rw [Tr.get_set] at hx
    split at hx
    · exact absurd (Option.some.inj hx).symm hxd
    · exact h.live k x hx hxd
  · intro k k' x x' hx hx' hd hd' he
    rw [Tr.get_set] at hx hx'
    split at hx
    · exact absurd (Option.some.inj hx).symm hd
    · split at hx'
      · exact absurd (Option.some.inj hx').symm hd'
      · exact h.inj k k' x x' hx hx' hd hd' he
  · intro k x hx
    rw [Tr.get_set] at hx
    split at hx
    · have := Option.some.inj hx; subst this; trivial
    · exact h.blk k x hx
theorem Tr.set_comm_get {α : Type} (t : Tr α) (a b : Nat) (u v : α) (hab : a ≠ b) (k : Nat) : ((t.set a u).set b v).get k = ((t.set b v).set a u).get k := by
  simp only [Tr.get_set]
  split <;> split <;> first | rfl | omega
theorem HR.ext {t0 t1 : Tr Bl} (h : HR Y G B ρ t0 w) (he : ∀ k, t1.get k = t0.get k) : HR Y G B ρ t1 w :=
  ⟨h.base, fun b hb => by rw [he]; exact h.dom b hb, fun b x hb => by rw [he] at hb; exact h.live b x hb, fun b b' x x' hb hb' => by rw [he] at hb hb'; exact h.inj b b' x x' hb hb', fun b x hb => by rw [he] at hb; exact h.blk b x hb, h.glob⟩
/-- A block dies, and what it held lives on as a new one: in the old place, or in a new one. -/
theorem TK.move {s : St} {w' : World} (h : HR Y G B ρ s.h w) {k id : Nat} {y x : Bl} (hk : s.h.get k = some y) (hy : y ≠ .dead) (hid : s.h.get id = none)
    (hw : ∀ j, j ≠ ρ.blk k → j < w.heap.size → w'.heap[j]? = w.heap[j]?) : TK ρ s w ((s.put k .dead).add id x) w' := by
  refine ⟨fun b => ?_, fun b z hz hzd hc => ?_⟩
  · rw [St.cnt_add, St.cnt_put]; split
    · rename_i e; subst e; omega
    · exact Nat.le_refl _
  · rw [St.cnt_add, St.cnt_put] at hc
    split at hc
    · rename_i e; subst e; omega
    · rename_i e
      rw [St.get_add, if_neg (by rintro rfl; rw [hid] at hz; cases hz), St.get_put, if_neg e]
      exact ⟨hz, hw _ (fun he => e (h.inj b k z y hz hk hzd hy he)) ((h.blk b z hz).there hzd)⟩
theorem run_appA {st : St} (h : HR Y G B ρ st.h w) {id : Nat} {t xt ty : TypeId} {s x a : AV} {st' : St} {u v : Value} (hr : appA P st id t xt s x = some (a, st')) (hs : VR ρ s u) (hx : VR ρ x v) :
    ∃ ρ' w' r, (Builtin.append_ #[t, xt] ty #[u, v]).run P w = .ok r w' ∧ VR ρ' a r ∧ Step Y G B ρ st w ρ' st' w' := by
  unfold appA at hr
  split at hr
  case h_2 => cases hr
  rename_i e d ht hd
  split at hr
  case h_2 => cases hr
  rename_i i z hi hz
  split at hr
  case h_2 => cases hr
  rename_i zs m news hzs hn
  rw [hzs] at hn
  replace hn : srcA st d i.size i.bytes zs x = some (m, news) := hn
  simp only [beq_dec, ble_dec] at hr
  by_cases hzl : zs.length = i.size
  case neg => simp [hzl] at hr
  cases hone : news.all isOne with
  | false => simp [hone] at hr
  | true =>
  simp only [hzl, hone, decide_true, Bool.and_self, cond_true] at hr
  have hzs' : ∃ zv', i.zero = some zv' ∧ zv'.cells.size = i.size ∧ FR ρ zs zv'.cells.toList := by
    unfold zeroA at hz
    rw [hi] at hz
    cases hq : i.zero with
    | none => simp [hq] at hz
    | some zv' =>
      simp [hq] at hz
      refine ⟨zv', rfl, ?_⟩
      have g := cellsA_run (ρ := ρ) hzs (ofVal_VR hz)
      have := g.length
      simp at this
      exact ⟨by omega, g⟩
  obtain ⟨zv, hzv, hzc, hzr⟩ := hzs'
  obtain ⟨us, hus, HS⟩ := run_srcA (P := P) (t := t) (ty := ty) h ht hd hi hzv hzr hzl hn hx
  have hul := HS.len
  have hnl := hus.length
  have hall := hus.all hone
  have cells_new : ∀ (olds : List Value) (need c : Nat), need ≤ grownCap w need c e → (olds ++ us).length = need * i.size →
      (olds ++ us).length + (Builtin.zeroCells zv.cells (grownCap w need c e - need)).toList.length = grownCap w need c e * i.size := by
    intro olds need c hge hl
    rw [hl]
    simp only [Array.length_toList, size_zeroCells, hzc, ← Nat.add_mul]
    congr 1
    omega
  split at hr
  · -- nils
    simp only [Bool.cond_decide] at hr
    simp only [VR] at hs
    subst hs
    split at hr
    · rename_i hm
      subst hm
      simp only [Option.some.injEq, Prod.mk.injEq] at hr
      obtain ⟨rfl, rfl⟩ := hr
      have hnil : us = [] := List.eq_nil_of_length_eq_zero (by simpa using hul)
      subst hnil
      exact ⟨ρ, w, .slice none 0 0, HS.nilz rfl rfl, by simp only [VR], Step.refl h⟩
    · rename_i hm
      simp only [← Bool.decide_and, Bool.cond_decide] at hr
      split at hr
      case isFalse => cases hr
      rename_i hb
      split at hr
      case h_2 => cases hr
      rename_i hid
      simp only [Option.some.injEq, Prod.mk.injEq] at hr
      obtain ⟨rfl, rfl⟩ := hr
      have hge := grownCap_ge w m 0 e
      have hcn := cells_new [] m 0 hge (by simpa using hul)
      have hrun := HS.out (.slice none 0 0) none 0 0 [] rfl (by simp [Builtin.firstCells]) (by omega) (by omega)
        (growslice_fits (by omega) (by simpa using hb.1))
      simp only [Nat.zero_add, List.nil_append] at hrun hcn
      have hdr : HR Y G B ρ st.h w.drew := h.heap rfl
      have g1 := hdr.newRow (id := id) hid hus e (Builtin.zeroCells zv.cells (grownCap w m 0 e - m)).toList
      refine ⟨_, _, _, hrun, ?_, (Step.drew h).trans h g1⟩
      simp only [VR]
      refine ⟨.inr rfl, _, ⟨hge, by simp⟩, ?_, ?_⟩
      · simp only [Env.ext, if_true]; omega
      · simp [Env.ext]
  · rename_i b o n c y ex
    split at hr
    case h_2 => cases hr
    rename_i cs hb
    simp only [← Bool.decide_and, Bool.cond_decide] at hr
    split at hr
    case isFalse => cases hr
    rename_i q
    obtain ⟨rfl, hle⟩ := q
    have hlv := h.live b _ hb (by simp)
    obtain ⟨cu, hcu, hrow⟩ := h.blk b _ hb
    have hcul := hcu.length
    simp only [VR] at hs
    obtain ⟨hdm, c', ⟨hcc, hex⟩, hlim, rfl⟩ := hs
    split at hr
    · rename_i hroom
      split at hr
      case isFalse => cases hr
      rename_i hfit
      simp only [Option.some.injEq, Prod.mk.injEq] at hr
      obtain ⟨rfl, rfl⟩ := hr
      obtain ⟨w', h1, h2⟩ := h.store (P := P) hb hus hone hfit
      refine ⟨ρ, w', _, HS.inn _ n c' w' (by omega) (by rw [Addr.add_mid, Nat.add_assoc]; exact h1), ?_, h2⟩
      simp only [VR]
      exact ⟨hdm, c', ⟨hcc, hex⟩, hlim, rfl⟩
    · rename_i hroom
      split at hr
      case isFalse => cases hr
      rename_i hby
      split at hr
      case h_2 => cases hr
      rename_i hid
      have holdl : ((cu.drop o).take (n * i.size)).length = n * i.size := by simp; omega
      have hold : FR ρ ((cs.drop o).take (n * i.size)) ((cu.drop o).take (n * i.size)) := (hcu.drop o).take _
      have hfo : ∀ W, W.heap = w.heap → (Builtin.firstCells i.size n (.slice (some ⟨ρ.blk b, ρ.sh b + o, none⟩) n c')).run P W = .ok ((cu.drop o).take (n * i.size)).toArray W := fun W hW => by
        have hr' : RowF W (ρ.blk b) (ρ.sh b) (ρ.lim b) cu := hrow.f.congr (by rw [hW])
        have := run_loadCells_list (P := P) W ⟨ρ.blk b, ρ.sh b + o, none⟩ ((cu.drop o).take (n * i.size)) (fun j v hv => by
          rw [Addr.add_mid, Nat.add_assoc]
          refine hr'.cell _ _ ?_
          rw [List.getElem?_take] at hv
          split at hv
          · rw [List.getElem?_drop] at hv; exact hv
          · cases hv)
        rw [holdl] at this
        simpa [Builtin.firstCells] using this
      have grown : c' < n + m → ∃ ρ' w' r, (Builtin.append_ #[t, xt] ty #[.slice (some ⟨ρ.blk b, ρ.sh b + o, none⟩) n c', v]).run P w = .ok r w' ∧ VR ρ' (.sl id 0 (n + m) (n + m) i.size false) r ∧
          Step Y G B ρ st w ρ' (st.add id (.row ((cs.drop o).take (n * i.size) ++ news))) w' ∧ ∀ j, j < w.heap.size → w'.heap[j]? = w.heap[j]? := by
        intro hg
        have hge := grownCap_ge w (n + m) c' e
        have hcn := cells_new ((cu.drop o).take (n * i.size)) (n + m) c' hge (by rw [List.length_append, holdl, hul, Nat.add_mul])
        have hrun := HS.out _ _ n c' _ rfl (hfo _ rfl) hg (by omega) (growslice_fits hg hby.1)
        have hdr : HR Y G B ρ st.h w.drew := h.heap rfl
        have g1 := hdr.newRow (id := id) hid (hold.append hus) e (Builtin.zeroCells zv.cells (grownCap w (n + m) c' e - (n + m))).toList
        refine ⟨_, _, _, hrun, ?_, (Step.drew h).trans h g1, fun j hj => Below.heap_alloc w.drew _ j hj⟩
        simp only [VR]
        refine ⟨.inr rfl, _, ⟨hge, by simp⟩, ?_, ?_⟩
        · simp only [Env.ext, if_true]; omega
        · simp [Env.ext]
      cases ex with
      | true =>
        simp only [cond_true, Option.some.injEq, Prod.mk.injEq] at hr
        obtain ⟨rfl, rfl⟩ := hr
        obtain ⟨ρ', w', r, g1, g2, g3, _⟩ := grown (by have := hex rfl; omega)
        exact ⟨ρ', w', r, g1, g2, g3⟩
      | false =>
        simp only [cond_false, Option.some.injEq, Prod.mk.injEq] at hr
        obtain ⟨rfl, rfl⟩ := hr
        by_cases hg : c' < n + m
        · obtain ⟨ρ', w', r, g1, g2, g3, g4⟩ := grown hg
          have hbi : b ≠ id := by rintro rfl; rw [hid] at hb; cases hb
          refine ⟨ρ', w', r, g1, g2, g3.le, ?_, g3.below, TK.move h hb (by simp) hid (fun j _ hj => g4 j hj)⟩
          refine (g3.hr.kill (b := b) (y := .row cs) ?_).ext (fun k => Tr.set_comm_get _ _ _ _ _ hbi k)
          rw [St.get_add, if_neg hbi]
          exact hb
        · have hbi : b ≠ id := by rintro rfl; rw [hid] at hb; cases hb
          obtain ⟨cur, ce, hcur, hcsz, hcsh, hcget⟩ := hrow
          have hroom2 : n * i.size + us.length ≤ c' * i.size := by rw [hul, ← Nat.add_mul]; exact Nat.mul_le_mul_right _ (by omega)
          have hst := run_storeCells_at P (ρ.blk b) (ρ.sh b + o + n * i.size) ce us 0 cur w hcur (by omega) hall
          simp only [Nat.add_zero] at hst
          have hle' := ρ.le_ext id (ρ.blk b) (ρ.sh b + o) (ρ.lim b) (h.fresh hid)
          refine ⟨ρ.ext id (ρ.blk b) (ρ.sh b + o) (ρ.lim b), _, _, HS.inn _ n c' _ (by omega) (by rw [Addr.add_mid]; exact hst), ?_, hle', ?_, ?_, TK.move h hb (by simp) hid (fun j hj _ => setRow_other w _ j _ hj)⟩
          · simp only [VR]
            refine ⟨.inr rfl, c', ⟨by omega, by simp⟩, ?_, ?_⟩
            · simp only [Env.ext, if_true]; omega
            · simp [Env.ext]
          · refine h.put id (.row ((cs.drop o).take (n * i.size) ++ news)) (ρ.blk b) hlv.2 (by simp) (fun k => k = b) _ (by rw [St.get_add, if_pos rfl]) ?_ ?_ hle' (fun k hk => hk) (.inr rfl) (by simp [Env.ext]) ?_
              (fun j hj _ => setRow_other w _ j _ hj) (by simp) ?_
            · intro k y hk hy hyd
              rw [St.get_add, if_neg hk, St.get_put] at hy
              split at hy
              · exact absurd (Option.some.inj hy).symm hyd
              · rename_i hkb; exact ⟨hy, hkb⟩
            · intro k hk
              rw [St.get_add, St.get_put]
              split
              · rfl
              · split
                · rfl
                · exact hk
            · intro k y hk hy hyd hkb he
              exact hkb (h.inj k b y (.row cs) hy hb hyd (fun q => by cases q) he)
            · refine ⟨(cu.drop o).take (n * i.size) ++ us, (hold.append hus).mono hle', (cur.toList.take (ρ.sh b + o + n * i.size) ++ us ++ cur.toList.drop (ρ.sh b + o + n * i.size + us.length)).toArray, ce, ?_, ?_, ?_, ?_⟩
              · simp only [Env.ext, if_true]; exact setRow_heap w _ cur _ ce _ hcur
              · simp [Env.ext]; omega
              · simp only [Env.ext, if_true, List.length_append, holdl]; omega
              · intro j u hu
                simp only [Env.ext, if_true, List.getElem?_toArray]
                rw [List.getElem?_append] at hu ⊢
                rw [holdl] at hu
                simp only [List.length_append, List.length_take, Array.length_toList]
                rw [Nat.min_eq_left (by omega)]
                by_cases q2 : j < n * i.size
                · rw [if_pos q2, List.getElem?_take, if_pos q2, List.getElem?_drop] at hu
                  rw [if_pos (by omega), List.getElem?_append, if_pos (by simp; omega), List.getElem?_take, if_pos (by omega)]
                  have := hcget _ u hu
                  rw [Nat.add_assoc]
                  simpa using this
                · rw [if_neg q2] at hu
                  have hju : j - n * i.size < us.length := by
                    rcases Nat.lt_or_ge (j - n * i.size) us.length with q | q
                    · exact q
                    · rw [List.getElem?_eq_none q] at hu; cases hu
                  rw [if_pos (by omega), List.getElem?_append, if_neg (by simp; omega)]
                  rw [← hu]; congr 1; simp; omega
          · exact h.below hb (by simp) ⟨rfl, rfl, rfl⟩ (fun j hj _ => setRow_other w _ j _ hj) (by simp)
  · cases hr
end
end Go.Ev
