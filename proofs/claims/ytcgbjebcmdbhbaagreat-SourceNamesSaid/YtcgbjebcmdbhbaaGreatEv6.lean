/- Appends. -/
import Derived.Test.YtcgbjebcmdbhbaaGreatEv5
namespace Go.Ev
noncomputable section
open Go Go.RowKit
variable {Y : Nat → Option LoopRec} {G : Nat → Nat → Option AV} {B : Nat} {ρ : Env} {s : St} {w : World} {P : Program}

def isSeq : TypeDesc → Bool
  | .slice _ | .string => true
  | _ => false
/-- What is appended: how many, and its cells. -/
def newsA (st : St) (size : Nat) : AV → Option (Nat × List AV)
  | .sl b o m _ z _ => match (st.h.get b).bind rowOf with
    | some cs => bif Nat.beq z size && Nat.ble (o + m * z) cs.length then some (m, (cs.drop o).take (m * z)) else none
    | _ => none
  | .nils => some (0, [])
  | .sle => some (0, [])
  | .str s => bif Nat.beq size 1 then some (s.size, s.data.toList.map fun b => .int .u8 b.toNat) else none
  | _ => none
theorem run_newsA {st : St} (h : HR Y G B ρ st.h w) {size m : Nat} {a : AV} {news : List AV} {x : Value} (hn : newsA st size a = some (m, news)) (hx : VR ρ a x) :
    ∃ us, FR ρ news us ∧ us.length = m * size ∧ (∀ W, (Builtin.lenOf x).run P W = .ok m W) ∧ (∀ W, W.heap = w.heap → (Builtin.firstCells size m x).run P W = .ok us.toArray W) := by
  unfold newsA at hn
  split at hn
  · rename_i b o m' c z ex
    split at hn
    · rename_i cs hb
      simp only [beq_dec, ble_dec, ← Bool.decide_and, Bool.cond_decide] at hn
      split at hn
      case isFalse => cases hn
      rename_i q
      obtain ⟨rfl, hle⟩ := q
      simp only [Option.some.injEq, Prod.mk.injEq] at hn
      obtain ⟨rfl, rfl⟩ := hn
      obtain ⟨us, hus, hr⟩ := h.rowF hb
      simp only [VR] at hx
      obtain ⟨hd, c', _, hlim, rfl⟩ := hx
      have hlen : ((us.drop o).take (m' * z)).length = m' * z := by have := hus.length; simp; omega
      refine ⟨(us.drop o).take (m' * z), (hus.drop o).take _, hlen, fun W => rfl, fun W hW => ?_⟩
      have hr' : RowF W (ρ.blk b) (ρ.sh b) (ρ.lim b) us := hr.congr (by rw [hW])
      have := run_loadCells_list (P := P) W ⟨ρ.blk b, ρ.sh b + o, none⟩ ((us.drop o).take (m' * z)) (fun j v hv => by
        rw [Addr.add_mid, Nat.add_assoc]
        refine hr'.cell _ _ ?_
        rw [List.getElem?_take] at hv
        split at hv
        · rw [List.getElem?_drop] at hv; exact hv
        · cases hv)
      rw [hlen] at this
      simpa [Builtin.firstCells] using this
    · cases hn
  · simp only [Option.some.injEq, Prod.mk.injEq] at hn
    obtain ⟨rfl, rfl⟩ := hn
    simp only [VR] at hx
    subst hx
    exact ⟨[], rfl, by simp, fun W => rfl, fun W _ => rfl⟩
  · simp only [Option.some.injEq, Prod.mk.injEq] at hn
    obtain ⟨rfl, rfl⟩ := hn
    simp only [VR] at hx
    obtain ⟨p, c, rfl⟩ := hx
    refine ⟨[], rfl, by simp, fun W => rfl, fun W _ => ?_⟩
    simp [Builtin.firstCells, loadCells, loadCellsFrom]
  · rename_i s
    simp only [beq_dec, Bool.cond_decide] at hn
    split at hn
    case isFalse => cases hn
    rename_i q
    subst q
    simp only [Option.some.injEq, Prod.mk.injEq] at hn
    obtain ⟨rfl, rfl⟩ := hn
    simp only [VR] at hx
    subst hx
    refine ⟨s.data.toList.map fun b => .int .u8 b.toNat, ?_, ?_, fun W => rfl, fun W _ => ?_⟩
    · refine FR.of_get (by simp) (fun i x hx => ?_)
      rw [List.getElem?_map] at hx ⊢
      cases hi : s.data.toList[i]? with
      | none => simp [hi] at hx
      | some b => simp [hi] at hx ⊢; subst hx; simp only [VR]
    · simp
    · simp only [Builtin.firstCells]
      have hs : s.extract 0 s.size = s := by simp
      rw [hs]
      show Result.ok (s.data.map fun b => Value.int .u8 b.toNat) W = _
      congr 1
      apply Array.ext'
      simp
  · cases hn

theorem run_append_in (t xt ty e : TypeId) (i : TypeInfo) (d : TypeDesc) (ht : P.underlying t = some (.slice e)) (hd : P.underlying xt = some d) (hdi : isSeq d = true) (hi : P.info? e = some i)
    (a : Addr) (n c m : Nat) (x : Value) (news : List Value) (W : World) (hx : ∀ W, (Builtin.lenOf x).run P W = .ok m W) (hf : (Builtin.firstCells i.size m x).run P w = .ok news.toArray w)
    (hroom : n + m ≤ c) (hst : (storeCells (a.add (n * i.size)) news).run P w = .ok () W) :
    (Builtin.append_ #[t, xt] ty #[.slice (some a) n c, x]).run P w = .ok (.slice (some a) (n + m) c) W := by
  cases d <;> simp only [isSeq, Bool.false_eq_true] at hdi
  all_goals simp [Builtin.append_, run_underlying ht, run_underlying hd, sizeOf, typeInfo, hi, hx, hroom, hf, hst]
theorem run_append_out (t xt ty e : TypeId) (i : TypeInfo) (z : Value) (d : TypeDesc) (ht : P.underlying t = some (.slice e)) (hd : P.underlying xt = some d) (hdi : isSeq d = true) (hi : P.info? e = some i) (hz : i.zero = some z)
    (s : Value) (p : Option Addr) (n c m : Nat) (x : Value) (olds news : List Value) (hs : s = .slice p n c) (hx : ∀ W, (Builtin.lenOf x).run P W = .ok m W)
    (hfo : (Builtin.firstCells i.size n s).run P w.drew = .ok olds.toArray w.drew) (hf : (Builtin.firstCells i.size m x).run P w.drew = .ok news.toArray w.drew)
    (hg : c < n + m) (h63 : ((n + m : Nat) : Int) ≤ 9223372036854775807) (hfit : Builtin.nextslicecap (n + m) c * i.bytes ≤ 281474976710656) :
    (Builtin.append_ #[t, xt] ty #[s, x]).run P w = .ok (.slice (some ⟨w.heap.size, 0, none⟩) (n + m) (grownCap w (n + m) c e))
      (w.drew.alloc (.cells ((olds ++ news) ++ (Builtin.zeroCells z.cells (grownCap w (n + m) c e - (n + m))).toList).toArray e)) := by
  have hn : ¬ (n + m ≤ c) := by omega
  have h63' : ¬ (9223372036854775807 < ((n : Int) + (m : Int))) := by omega
  have h48' : ¬ (281474976710656 < Builtin.nextslicecap (n + m) c * i.bytes) := by omega
  subst hs
  cases d <;> simp only [isSeq, Bool.false_eq_true] at hdi
  all_goals
    simp [Builtin.append_, run_underlying ht, run_underlying hd, sizeOf, typeInfo, zeroValue, hi, hz, hx, hn, h63', h48', Question.forced, hf, hfo, newRow, grownCap]
    congr 2
    apply Array.ext'
    simp
def appA (P : Program) (st : St) (id : Nat) (t xt : TypeId) (s x : AV) : Option (AV × St) :=
  match P.underlying t, P.underlying xt with
  | some (.slice e), some d => match P.info? e, zeroA P e with
    | some i, some z => match cellsA z, newsA st i.size x with
      | some zs, some (m, news) => bif isSeq d && (Nat.beq zs.length i.size && news.all isOne) then (match s with
        | .nils => bif Nat.beq m 0 then some (.nils, st) else
            bif Nat.ble (m * i.bytes) 140737488355328 && (Nat.ble m 9223372036854775807) then (match st.h.get id with
              | none => some (.sl id 0 m m i.size false, st.add id (.row news))
              | some _ => none) else none
        | .sl b o n c y ex => match st.h.get b with
          | some (.row cs) => bif Nat.beq y i.size && Nat.ble (o + n * y) cs.length then
              (bif Nat.ble (n + m) c then (bif Nat.ble (o + n * y + news.length) cs.length then some (.sl b o (n + m) c y ex, st.put b (.row (setL cs (o + n * y) news))) else none)
              else bif Nat.ble ((n + m) * i.bytes) 140737488355328 && (Nat.ble (n + m) 9223372036854775807) then (match st.h.get id with
                | none => bif ex then some (.sl id 0 (n + m) (n + m) i.size false, st.add id (.row ((cs.drop o).take (n * y) ++ news)))
                    else some (.sl id 0 (n + m) (n + m) i.size false, (st.put b .dead).add id (.row ((cs.drop o).take (n * y) ++ news)))
                | some _ => none) else none) else none
          | _ => none
        | _ => none) else none
      | _, _ => none
    | _, _ => none
  | _, _ => none
theorem HR.kill {t0 : Tr Bl} (h : HR Y G B ρ t0 w) {b : Nat} {y : Bl} (_hb : t0.get b = some y) : HR Y G B ρ (t0.set b .dead) w := by
  refine ⟨h.base, ?_, ?_, ?_, ?_, h.glob⟩
  · intro k hk
    rw [Tr.get_set]
    split
    · rfl
    · exact h.dom k hk
  · intro k x hx hxd
    rw [Tr.get_set] at hx
    split at hx
    · exact absurd (Option.some.inj hx).symm hxd
    · exact h.live k x hx hxd
  · intro k k' x x' hx hx' hd hd' he
    rw [Tr.get_set] at hx hx'
    split at hx
    · exact absurd (Option.some.inj hx).symm hd
    · split at hx'
      · exact absurd (Option.some.inj hx').symm hd'
      · exact h.inj k k' x x' hx hx' hd hd' he
  · intro k x hx
    rw [Tr.get_set] at hx
    split at hx
    · have := Option.some.inj hx; subst this; trivial
    · exact h.blk k x hx
theorem Tr.set_comm_get {α : Type} (t : Tr α) (a b : Nat) (u v : α) (hab : a ≠ b) (k : Nat) : ((t.set a u).set b v).get k = ((t.set b v).set a u).get k := by
  simp only [Tr.get_set]
  split <;> split <;> first | rfl | omega
theorem HR.ext {t0 t1 : Tr Bl} (h : HR Y G B ρ t0 w) (he : ∀ k, t1.get k = t0.get k) : HR Y G B ρ t1 w :=
  ⟨h.base, fun b hb => by rw [he]; exact h.dom b hb, fun b x hb => by rw [he] at hb; exact h.live b x hb, fun b b' x x' hb hb' => by rw [he] at hb hb'; exact h.inj b b' x x' hb hb', fun b x hb => by rw [he] at hb; exact h.blk b x hb, h.glob⟩
/-- A block dies, and what it held lives on as a new one: in the old place, or in a new one. -/
theorem TK.move {s : St} {w' : World} (h : HR Y G B ρ s.h w) {k id : Nat} {y x : Bl} (hk : s.h.get k = some y) (hy : y ≠ .dead) (hid : s.h.get id = none)
    (hw : ∀ j, j ≠ ρ.blk k → j < w.heap.size → w'.heap[j]? = w.heap[j]?) : TK ρ s w ((s.put k .dead).add id x) w' := by
  refine ⟨fun b => ?_, fun b z hz hzd hc => ?_⟩
  · rw [St.cnt_add, St.cnt_put]; split
    · rename_i e; subst e; omega
    · exact Nat.le_refl _
  · rw [St.cnt_add, St.cnt_put] at hc
    split at hc
    · rename_i e; subst e; omega
    · rename_i e
      rw [St.get_add, if_neg (by rintro rfl; rw [hid] at hz; cases hz), St.get_put, if_neg e]
      exact ⟨hz, hw _ (fun he => e (h.inj b k z y hz hk hzd hy he)) ((h.blk b z hz).there hzd)⟩
theorem run_appA {st : St} (h : HR Y G B ρ st.h w) {id : Nat} {t xt ty : TypeId} {s x a : AV} {st' : St} {u v : Value} (hr : appA P st id t xt s x = some (a, st')) (hs : VR ρ s u) (hx : VR ρ x v) :
    ∃ ρ' w' r, (Builtin.append_ #[t, xt] ty #[u, v]).run P w = .ok r w' ∧ VR ρ' a r ∧ Step Y G B ρ st w ρ' st' w' := by
  unfold appA at hr
  split at hr
  case h_2 => cases hr
  rename_i e d ht hd
  split at hr
  case h_2 => cases hr
  rename_i i z hi hz
  split at hr
  case h_2 => cases hr
  rename_i zs m news hzs hn
  cases hni : isSeq d with
  | false => simp [hni] at hr
  | true =>
  simp only [hni, Bool.true_and, beq_dec, ble_dec] at hr
  by_cases hzl : zs.length = i.size
  case neg => simp [hzl] at hr
  cases hone : news.all isOne with
  | false => simp [hone] at hr
  | true =>
  simp only [hzl, hone, decide_true, Bool.and_self, cond_true] at hr
  obtain ⟨us, hus, hul, hlen, hfc⟩ := run_newsA (P := P) h hn hx
  have hnl := hus.length
  have hzs' : ∃ zv', i.zero = some zv' ∧ zv'.cells.size = i.size := by
    unfold zeroA at hz
    rw [hi] at hz
    cases hq : i.zero with
    | none => simp [hq] at hz
    | some zv' =>
      simp [hq] at hz
      refine ⟨zv', rfl, ?_⟩
      have := (cellsA_run (ρ := ρ) hzs (ofVal_VR hz)).length
      simp at this; omega
  obtain ⟨zv, hzv, hzc⟩ := hzs'
  have hall := hus.all hone
  have cells_new : ∀ (olds : List Value) (need c : Nat), need ≤ grownCap w need c e → (olds ++ us).length = need * i.size →
      (olds ++ us).length + (Builtin.zeroCells zv.cells (grownCap w need c e - need)).toList.length = grownCap w need c e * i.size := by
    intro olds need c hge hl
    rw [hl]
    simp only [Array.length_toList, size_zeroCells, hzc, ← Nat.add_mul]
    congr 1
    omega
  split at hr
  · -- nils
    simp only [Bool.cond_decide] at hr
    simp only [VR] at hs
    subst hs
    split at hr
    · rename_i hm
      subst hm
      simp only [Option.some.injEq, Prod.mk.injEq] at hr
      obtain ⟨rfl, rfl⟩ := hr
      have hnil : us = [] := List.eq_nil_of_length_eq_zero (by simpa using hul)
      subst hnil
      refine ⟨ρ, w, .slice none 0 0, ?_, by simp only [VR], Step.refl h⟩
      have hf := hfc w rfl
      cases d <;> simp only [isSeq, Bool.false_eq_true] at hni
      all_goals simp [Builtin.append_, run_underlying ht, run_underlying hd, sizeOf, typeInfo, hi, hlen, hf]
    · rename_i hm
      simp only [← Bool.decide_and, Bool.cond_decide] at hr
      split at hr
      case isFalse => cases hr
      rename_i hb
      split at hr
      case h_2 => cases hr
      rename_i hid
      simp only [Option.some.injEq, Prod.mk.injEq] at hr
      obtain ⟨rfl, rfl⟩ := hr
      have hge := grownCap_ge w m 0 e
      have hcn := cells_new [] m 0 hge (by simpa using hul)
      have hrun := run_append_out (P := P) (w := w) t xt ty e i zv d ht hd hni hi hzv (.slice none 0 0) none 0 0 m v [] us rfl hlen (by simp [Builtin.firstCells]) (hfc _ rfl) (by omega) (by omega)
        (growslice_fits (by omega) (by simpa using hb.1))
      simp only [Nat.zero_add, List.nil_append] at hrun hcn
      have hdr : HR Y G B ρ st.h w.drew := h.heap rfl
      have g1 := hdr.newRow (id := id) hid hus e (Builtin.zeroCells zv.cells (grownCap w m 0 e - m)).toList
      refine ⟨_, _, _, hrun, ?_, (Step.drew h).trans h g1⟩
      simp only [VR]
      refine ⟨.inr rfl, _, ⟨hge, by simp⟩, ?_, ?_⟩
      · simp only [Env.ext, if_true]; omega
      · simp [Env.ext]
  · rename_i b o n c y ex
    split at hr
    case h_2 => cases hr
    rename_i cs hb
    simp only [← Bool.decide_and, Bool.cond_decide] at hr
    split at hr
    case isFalse => cases hr
    rename_i q
    obtain ⟨rfl, hle⟩ := q
    have hlv := h.live b _ hb (by simp)
    obtain ⟨cu, hcu, hrow⟩ := h.blk b _ hb
    have hcul := hcu.length
    simp only [VR] at hs
    obtain ⟨hdm, c', ⟨hcc, hex⟩, hlim, rfl⟩ := hs
    split at hr
    · rename_i hroom
      split at hr
      case isFalse => cases hr
      rename_i hfit
      simp only [Option.some.injEq, Prod.mk.injEq] at hr
      obtain ⟨rfl, rfl⟩ := hr
      obtain ⟨w', h1, h2⟩ := h.store (P := P) hb hus hone hfit
      refine ⟨ρ, w', _, run_append_in (P := P) t xt ty e i d ht hd hni hi _ n c' m v us w' hlen (hfc w rfl) (by omega) (by rw [Addr.add_mid, Nat.add_assoc]; exact h1), ?_, h2⟩
      simp only [VR]
      exact ⟨hdm, c', ⟨hcc, hex⟩, hlim, rfl⟩
    · rename_i hroom
      split at hr
      case isFalse => cases hr
      rename_i hby
      split at hr
      case h_2 => cases hr
      rename_i hid
      have holdl : ((cu.drop o).take (n * i.size)).length = n * i.size := by simp; omega
      have hold : FR ρ ((cs.drop o).take (n * i.size)) ((cu.drop o).take (n * i.size)) := (hcu.drop o).take _
      have hfo : ∀ W, W.heap = w.heap → (Builtin.firstCells i.size n (.slice (some ⟨ρ.blk b, ρ.sh b + o, none⟩) n c')).run P W = .ok ((cu.drop o).take (n * i.size)).toArray W := fun W hW => by
        have hr' : RowF W (ρ.blk b) (ρ.sh b) (ρ.lim b) cu := hrow.f.congr (by rw [hW])
        have := run_loadCells_list (P := P) W ⟨ρ.blk b, ρ.sh b + o, none⟩ ((cu.drop o).take (n * i.size)) (fun j v hv => by
          rw [Addr.add_mid, Nat.add_assoc]
          refine hr'.cell _ _ ?_
          rw [List.getElem?_take] at hv
          split at hv
          · rw [List.getElem?_drop] at hv; exact hv
          · cases hv)
        rw [holdl] at this
        simpa [Builtin.firstCells] using this
      have grown : c' < n + m → ∃ ρ' w' r, (Builtin.append_ #[t, xt] ty #[.slice (some ⟨ρ.blk b, ρ.sh b + o, none⟩) n c', v]).run P w = .ok r w' ∧ VR ρ' (.sl id 0 (n + m) (n + m) i.size false) r ∧
          Step Y G B ρ st w ρ' (st.add id (.row ((cs.drop o).take (n * i.size) ++ news))) w' ∧ ∀ j, j < w.heap.size → w'.heap[j]? = w.heap[j]? := by
        intro hg
        have hge := grownCap_ge w (n + m) c' e
        have hcn := cells_new ((cu.drop o).take (n * i.size)) (n + m) c' hge (by rw [List.length_append, holdl, hul, Nat.add_mul])
        have hrun := run_append_out (P := P) (w := w) t xt ty e i zv d ht hd hni hi hzv _ _ n c' m v _ us rfl hlen (hfo _ rfl) (hfc _ rfl) hg (by omega) (growslice_fits hg hby.1)
        have hdr : HR Y G B ρ st.h w.drew := h.heap rfl
        have g1 := hdr.newRow (id := id) hid (hold.append hus) e (Builtin.zeroCells zv.cells (grownCap w (n + m) c' e - (n + m))).toList
        refine ⟨_, _, _, hrun, ?_, (Step.drew h).trans h g1, fun j hj => Below.heap_alloc w.drew _ j hj⟩
        simp only [VR]
        refine ⟨.inr rfl, _, ⟨hge, by simp⟩, ?_, ?_⟩
        · simp only [Env.ext, if_true]; omega
        · simp [Env.ext]
      cases ex with
      | true =>
        simp only [cond_true, Option.some.injEq, Prod.mk.injEq] at hr
        obtain ⟨rfl, rfl⟩ := hr
        obtain ⟨ρ', w', r, g1, g2, g3, _⟩ := grown (by have := hex rfl; omega)
        exact ⟨ρ', w', r, g1, g2, g3⟩
      | false =>
        simp only [cond_false, Option.some.injEq, Prod.mk.injEq] at hr
        obtain ⟨rfl, rfl⟩ := hr
        by_cases hg : c' < n + m
        · obtain ⟨ρ', w', r, g1, g2, g3, g4⟩ := grown hg
          have hbi : b ≠ id := by rintro rfl; rw [hid] at hb; cases hb
          refine ⟨ρ', w', r, g1, g2, g3.le, ?_, g3.below, TK.move h hb (by simp) hid (fun j _ hj => g4 j hj)⟩
          refine (g3.hr.kill (b := b) (y := .row cs) ?_).ext (fun k => Tr.set_comm_get _ _ _ _ _ hbi k)
          rw [St.get_add, if_neg hbi]
          exact hb
        · have hbi : b ≠ id := by rintro rfl; rw [hid] at hb; cases hb
          obtain ⟨cur, ce, hcur, hcsz, hcsh, hcget⟩ := hrow
          have hroom2 : n * i.size + us.length ≤ c' * i.size := by rw [hul, ← Nat.add_mul]; exact Nat.mul_le_mul_right _ (by omega)
          have hst := run_storeCells_at P (ρ.blk b) (ρ.sh b + o + n * i.size) ce us 0 cur w hcur (by omega) hall
          simp only [Nat.add_zero] at hst
          have hle' := ρ.le_ext id (ρ.blk b) (ρ.sh b + o) (ρ.lim b) (h.fresh hid)
          refine ⟨ρ.ext id (ρ.blk b) (ρ.sh b + o) (ρ.lim b), _, _, run_append_in (P := P) t xt ty e i d ht hd hni hi _ n c' m v us _ hlen (hfc w rfl) (by omega) (by rw [Addr.add_mid]; exact hst), ?_, hle', ?_, ?_, TK.move h hb (by simp) hid (fun j hj _ => setRow_other w _ j _ hj)⟩
          · simp only [VR]
            refine ⟨.inr rfl, c', ⟨by omega, by simp⟩, ?_, ?_⟩
            · simp only [Env.ext, if_true]; omega
            · simp [Env.ext]
          · refine h.put id (.row ((cs.drop o).take (n * i.size) ++ news)) (ρ.blk b) hlv.2 (by simp) (fun k => k = b) _ (by rw [St.get_add, if_pos rfl]) ?_ ?_ hle' (fun k hk => hk) (.inr rfl) (by simp [Env.ext]) ?_
              (fun j hj _ => setRow_other w _ j _ hj) (by simp) ?_
            · intro k y hk hy hyd
              rw [St.get_add, if_neg hk, St.get_put] at hy
              split at hy
              · exact absurd (Option.some.inj hy).symm hyd
              · rename_i hkb; exact ⟨hy, hkb⟩
            · intro k hk
              rw [St.get_add, St.get_put]
              split
              · rfl
              · split
                · rfl
                · exact hk
            · intro k y hk hy hyd hkb he
              exact hkb (h.inj k b y (.row cs) hy hb hyd (fun q => by cases q) he)
            · refine ⟨(cu.drop o).take (n * i.size) ++ us, (hold.append hus).mono hle', (cur.toList.take (ρ.sh b + o + n * i.size) ++ us ++ cur.toList.drop (ρ.sh b + o + n * i.size + us.length)).toArray, ce, ?_, ?_, ?_, ?_⟩
              · simp only [Env.ext, if_true]; exact setRow_heap w _ cur _ ce _ hcur
              · simp [Env.ext]; omega
              · simp only [Env.ext, if_true, List.length_append, holdl]; omega
              · intro j u hu
                simp only [Env.ext, if_true, List.getElem?_toArray]
                rw [List.getElem?_append] at hu ⊢
                rw [holdl] at hu
                simp only [List.length_append, List.length_take, Array.length_toList]
                rw [Nat.min_eq_left (by omega)]
                by_cases q2 : j < n * i.size
                · rw [if_pos q2, List.getElem?_take, if_pos q2, List.getElem?_drop] at hu
                  rw [if_pos (by omega), List.getElem?_append, if_pos (by simp; omega), List.getElem?_take, if_pos (by omega)]
                  have := hcget _ u hu
                  rw [Nat.add_assoc]
                  simpa using this
                · rw [if_neg q2] at hu
                  have hju : j - n * i.size < us.length := by
                    rcases Nat.lt_or_ge (j - n * i.size) us.length with q | q
                    · exact q
                    · rw [List.getElem?_eq_none q] at hu; cases hu
                  rw [if_pos (by omega), List.getElem?_append, if_neg (by simp; omega)]
                  rw [← hu]; congr 1; simp; omega
          · exact h.below hb (by simp) ⟨rfl, rfl, rfl⟩ (fun j hj _ => setRow_other w _ j _ hj) (by simp)
  · cases hr
end
end Go.Ev
