/- What is live at the beginnings. -/
import Derived.Test.YtgkjhnghibpeoaaDoorRows
import Derived.Test.YtgkjhnghibpeoaaDoorLvSettle
import Derived.Test.YtgkjhnghibpeoaaDoorIrLeaf
import Derived.Test.YtgkjhnghibpeoaaDoorIrNew
import Derived.Test.YtgkjhnghibpeoaaDoorParseOrder
import Derived.LoopTactic
import Derived.LoopN
import Derived.Deep.LoopGhost
import Derived.WalkKit
import Derived.WalkSpells
import Derived.WalkLawsBesides
import Derived.Lib.Hide
import Derived.OrdersHeld
import Derived.Deep.RegionHeld
import Derived.Deep.DrawnRows
import Derived.RegionTactic
import Derived.Deep.RegionHeld3
import Derived.IntWalk
import Derived.Deep.QuietTactic
import Derived.BigQuiet
import Derived.Test.YtgkjhnghibpeoaaDoorLvAhd
namespace Go.Proofs.YtgkjhnghibpeoaaDoor
open Go.RowKit
set_option maxRecDepth 1000000
attribute [local go_sem ↓] bld_eq bls_eq


theorem made_zero (m W : Nat) (hW : 0 < W) (v : Value) : madeCells (Array.replicate W v) m = (List.replicate m v).toArray := by
  unfold madeCells
  apply Array.ext'
  rw [Array.toList_map, Array.toList_range]
  have : ∀ i, (Array.replicate W v)[i % (Array.replicate W v).size]! = v := fun i => by
    have h : i % W < W := Nat.mod_lt _ hW
    simp [h]
  simp only [this]
  rw [List.map_const']
  simp
theorem make_sets (n : Nat) (hn : n ≤ 4096) (w : World) : (Instr.makeSlice 54 (.int .i64 (n : Int)) (.int .i64 (n : Int))).run Tryd.prog w = .ok (.slice (some ⟨w.heap.size, 0, none⟩) n n) (w.alloc (.cells (u64A (flatS (List.replicate n emptyS))) 58)) := by
  obtain ⟨i0, hi, hz0, hz, hz2⟩ := info_parts (show (Tryd.prog.info? 58).map (fun i => (i.zero, i.size, i.bytes)) = some (some (.agg #[.int .u64 0, .int .u64 0, .int .u64 0, .int .u64 0, .int .u64 0, .int .u64 0, .int .u64 0, .int .u64 0, .int .u64 0, .int .u64 0, .int .u64 0, .int .u64 0, .int .u64 0, .int .u64 0, .int .u64 0, .int .u64 0]), 16, 128) by kernel_rfl)
  have h := run_make (P := Tryd.prog) w 54 58 i0 (.agg #[.int .u64 0, .int .u64 0, .int .u64 0, .int .u64 0, .int .u64 0, .int .u64 0, .int .u64 0, .int .u64 0, .int .u64 0, .int .u64 0, .int .u64 0, .int .u64 0, .int .u64 0, .int .u64 0, .int .u64 0, .int .u64 0]) Tryd.underlying54 hi hz0 .i64 .i64 (n : Int) (n : Int) (by omega) (by omega) (by rw [hz2]; omega) (by omega)
  rw [hz, Int.toNat_natCast] at h
  rw [h]
  have e1 : (Value.agg #[.int .u64 0, .int .u64 0, .int .u64 0, .int .u64 0, .int .u64 0, .int .u64 0, .int .u64 0, .int .u64 0, .int .u64 0, .int .u64 0, .int .u64 0, .int .u64 0, .int .u64 0, .int .u64 0, .int .u64 0, .int .u64 0]).cells = Array.replicate 16 (.int .u64 0) := by rfl
  rw [e1, made_zero _ 16 (by decide)]
  have e2 : flatS (List.replicate n emptyS) = List.replicate (n * 16) 0 := by unfold flatS emptyS; rw [List.flatten_replicate_replicate]
  rw [e2]
  simp [u64A]
theorem make_deeds (n : Nat) (hn : n ≤ 4096) (w : World) : (Instr.makeSlice 64 (.int .i64 (n : Int)) (.int .i64 (n : Int))).run Tryd.prog w = .ok (.slice (some ⟨w.heap.size, 0, none⟩) n n) (w.alloc (.cells (u64A (flatD (List.replicate n (emptyS, emptyS)))) 67)) := by
  obtain ⟨i0, hi, hz0, hz, hz2⟩ := info_parts (show (Tryd.prog.info? 67).map (fun i => (i.zero, i.size, i.bytes)) = some (some (.agg #[.int .u64 0, .int .u64 0, .int .u64 0, .int .u64 0, .int .u64 0, .int .u64 0, .int .u64 0, .int .u64 0, .int .u64 0, .int .u64 0, .int .u64 0, .int .u64 0, .int .u64 0, .int .u64 0, .int .u64 0, .int .u64 0, .int .u64 0, .int .u64 0, .int .u64 0, .int .u64 0, .int .u64 0, .int .u64 0, .int .u64 0, .int .u64 0, .int .u64 0, .int .u64 0, .int .u64 0, .int .u64 0, .int .u64 0, .int .u64 0, .int .u64 0, .int .u64 0]), 32, 256) by kernel_rfl)
  have h := run_make (P := Tryd.prog) w 64 67 i0 (.agg #[.int .u64 0, .int .u64 0, .int .u64 0, .int .u64 0, .int .u64 0, .int .u64 0, .int .u64 0, .int .u64 0, .int .u64 0, .int .u64 0, .int .u64 0, .int .u64 0, .int .u64 0, .int .u64 0, .int .u64 0, .int .u64 0, .int .u64 0, .int .u64 0, .int .u64 0, .int .u64 0, .int .u64 0, .int .u64 0, .int .u64 0, .int .u64 0, .int .u64 0, .int .u64 0, .int .u64 0, .int .u64 0, .int .u64 0, .int .u64 0, .int .u64 0, .int .u64 0]) Tryd.underlying64 hi hz0 .i64 .i64 (n : Int) (n : Int) (by omega) (by omega) (by rw [hz2]; omega) (by omega)
  rw [hz, Int.toNat_natCast] at h
  rw [h]
  have e1 : (Value.agg #[.int .u64 0, .int .u64 0, .int .u64 0, .int .u64 0, .int .u64 0, .int .u64 0, .int .u64 0, .int .u64 0, .int .u64 0, .int .u64 0, .int .u64 0, .int .u64 0, .int .u64 0, .int .u64 0, .int .u64 0, .int .u64 0, .int .u64 0, .int .u64 0, .int .u64 0, .int .u64 0, .int .u64 0, .int .u64 0, .int .u64 0, .int .u64 0, .int .u64 0, .int .u64 0, .int .u64 0, .int .u64 0, .int .u64 0, .int .u64 0, .int .u64 0, .int .u64 0]).cells = Array.replicate 32 (.int .u64 0) := by rfl
  rw [e1, made_zero _ 32 (by decide)]
  have e2 : flatD (List.replicate n (emptyS, emptyS)) = List.replicate (n * 32) 0 := by
    unfold flatD emptyS
    rw [List.map_replicate]
    dsimp only
    rw [List.replicate_append_replicate, List.flatten_replicate_replicate]
  rw [e2]
  simp [u64A]
/-- Objects laid one behind the other. -/
def laysA (w : World) (L : List (Array Value × TypeId)) : World := L.foldl (fun w c => w.alloc (.cells c.1 c.2)) w
theorem laysA_at : ∀ (L : List (Array Value × TypeId)) (w : World), (laysA w L).heap.size = w.heap.size + L.length ∧ Below w.heap.size w (laysA w L) ∧ ∀ (i : Nat) (c : Array Value × TypeId), L[i]? = some c → (laysA w L).heap[w.heap.size + i]? = some (.cells c.1 c.2 (0, 0)) := by
  intro L
  induction L with
  | nil => intro w; exact ⟨by simp [laysA], Below.refl _ _, fun i c h => by simp at h⟩
  | cons a L ih =>
    intro w
    obtain ⟨h1, h2, h3⟩ := ih (w.alloc (.cells a.1 a.2))
    have hz : (w.alloc (.cells a.1 a.2)).heap.size = w.heap.size + 1 := by simp
    have e : laysA w (a :: L) = laysA (w.alloc (.cells a.1 a.2)) L := rfl
    rw [e]
    rw [hz] at h1 h2 h3
    refine ⟨by rw [h1, List.length_cons]; omega, (below_box w _).trans (h2.mono (by omega)), fun i c hi => ?_⟩
    cases i with
    | zero =>
      simp at hi
      subst hi
      rw [Nat.add_zero, h2.block _ (by omega)]
      exact (MapKept.heap_alloc _ _).1
    | succ i =>
      simp at hi
      have := h3 i c hi
      rw [show w.heap.size + (i + 1) = w.heap.size + 1 + i by omega]
      exact this
set_option maxHeartbeats 16000000 in
theorem begs_any (R B : Nat) (g : Gr) (w : World) (hg : GLv R B g) (hI : GIn w B g) (hBw : B ≤ w.heap.size) :
    Calls Tryd.prog 18 #[.agg #[g.rv, .int .i64 g.sites, g.bv]] w fun e w' => ∃ S, e = .returned (.slice (some ⟨w.heap.size + 1, 0, none⟩) g.blocks.length g.blocks.length) ∧ w'.heap[w.heap.size + 1]? = some (.cells (u64A (flatS S)) 58 (0, 0)) ∧ LivP g.blocks S ∧ Below w.heap.size w w' := by
  have hmf : ∀ (fn : Go.Fn) (first cap : Array Value) (w : World), (Instr.makeFunc fn first cap).run Tryd.prog w = .ok (.func fn first cap) w := fun _ _ _ _ => rfl
  obtain ⟨N, hN⟩ : ∃ N, N = g.blocks.length := ⟨_, rfl⟩
  have hN4 : N ≤ 4096 := by rw [hN]; exact hg.fok.room
  obtain ⟨bo, bcp, eb, hbl, hbg⟩ := hI.blies.form
  rw [← hN] at eb hbl
  have m1 := make_sets N hN4
  have m2 := make_deeds N hN4
  have m3 := make_rows N (by omega)
  have m4 := make_bool N (by omega)
  have HN := Lib.hid hN
  have HG := Lib.hid hg
  have HI := Lib.hid hI
  have HEB := Lib.hid eb
  rw [eb]
  rw [← hN]
  obtain ⟨rv, hrv⟩ : ∃ rv, rv = g.rv := ⟨_, rfl⟩
  clear hN hg hI eb hbg
  go_enter Tryd.func18, Tryd.ntmps18
  go_wp2_with fail
  generalize hWb : ((((((((((w.alloc _).alloc _).alloc _).alloc _).alloc _).alloc _).alloc _).alloc _).alloc _).alloc _).alloc _ = Wb
  obtain ⟨b, hb⟩ : ∃ b, b = w.heap.size := ⟨_, rfl⟩
  have hWl : Wb = laysA w [(#[g.rv, .int .i64 g.sites, .slice bo N bcp], 25), (u64A (flatS (List.replicate N emptyS)), 58), (#[.slice (some ⟨b + 1, 0, none⟩) N N], 54), (u64A (flatD (List.replicate N (emptyS, emptyS))), 67), (#[.slice (some ⟨b + 3, 0, none⟩) N N], 64), (Array.replicate N (.slice none 0 0), 37), (#[.slice (some ⟨b + 5, 0, none⟩) N N], 28), (#[.func (.func 26) #[] #[.pointer (some ⟨b + 2, 0, none⟩), .pointer (some ⟨b + 6, 0, none⟩), .pointer (some ⟨b + 7, 0, none⟩), .pointer (some ⟨b + 4, 0, none⟩)]], 65), (boolA (List.replicate N false), 4), (#[.slice (some ⟨b + 8, 0, none⟩) N N], 22), (#[.func (.func 29) #[] #[.pointer (some ⟨b + 9, 0, none⟩), .pointer (some ⟨b, 0, none⟩), .pointer (some ⟨b + 10, 0, none⟩), .pointer (some ⟨b + 2, 0, none⟩), .pointer (some ⟨b + 6, 0, none⟩), .pointer (some ⟨b + 4, 0, none⟩), .pointer (some ⟨b + 7, 0, none⟩)]], 68)] := by rw [← hWb, hb]; rfl
  clear hWb
  obtain ⟨z1, z2, z3⟩ := laysA_at [(#[g.rv, .int .i64 g.sites, .slice bo N bcp], 25), (u64A (flatS (List.replicate N emptyS)), 58), (#[.slice (some ⟨b + 1, 0, none⟩) N N], 54), (u64A (flatD (List.replicate N (emptyS, emptyS))), 67), (#[.slice (some ⟨b + 3, 0, none⟩) N N], 64), (Array.replicate N (.slice none 0 0), 37), (#[.slice (some ⟨b + 5, 0, none⟩) N N], 28), (#[.func (.func 26) #[] #[.pointer (some ⟨b + 2, 0, none⟩), .pointer (some ⟨b + 6, 0, none⟩), .pointer (some ⟨b + 7, 0, none⟩), .pointer (some ⟨b + 4, 0, none⟩)]], 65), (boolA (List.replicate N false), 4), (#[.slice (some ⟨b + 8, 0, none⟩) N N], 22), (#[.func (.func 29) #[] #[.pointer (some ⟨b + 9, 0, none⟩), .pointer (some ⟨b, 0, none⟩), .pointer (some ⟨b + 10, 0, none⟩), .pointer (some ⟨b + 2, 0, none⟩), .pointer (some ⟨b + 6, 0, none⟩), .pointer (some ⟨b + 4, 0, none⟩), .pointer (some ⟨b + 7, 0, none⟩)]], 68)] w
  rw [← hWl, ← hb] at z1 z2 z3
  simp only [List.length_cons, List.length_nil, Nat.reduceAdd] at z1
  have hBM : BM Wb b g (List.replicate N emptyS) (List.replicate N (emptyS, emptyS)) (List.replicate N []) (List.replicate N false) (List.replicate N (.slice none 0 0)) := by
    have hN := HN.out
    have hvv : ∀ (y : Nat) (v : Value), (List.replicate N (Value.slice none 0 0))[y]? = some v → v = .slice none 0 0 := fun y v h => (List.mem_replicate.1 (List.mem_of_getElem? h)).2
    refine ⟨by rw [HEB.out]; exact z3 0 _ rfl, z3 1 _ rfl, by rw [← hN]; exact z3 2 _ rfl, z3 3 _ rfl, by rw [← hN]; exact z3 4 _ rfl, ?_, by rw [← hN]; exact z3 6 _ rfl, z3 7 _ rfl, z3 8 _ rfl, by rw [← hN]; exact z3 9 _ rfl, z3 10 _ rfl, by rw [List.length_replicate, hN], by rw [List.length_replicate, hN], fun s hs => by rw [(List.mem_replicate.1 hs).2]; exact SOk.empty, fun d hd => by rw [(List.mem_replicate.1 hd).2]; exact ⟨SOk.empty, SOk.empty⟩⟩
    refine ⟨?_, by rw [List.length_replicate, hN], by rw [List.length_replicate, hN], fun y v r h1 h2 => ?_, fun y y' v v' k _ h1 h2 h3 => ?_, fun y v h => ?_⟩
    · have := z3 5 _ rfl
      rw [this]
      simp
    · have e1 := hvv y v h1
      have e2 : r = [] := (List.mem_replicate.1 (List.mem_of_getElem? h2)).2
      subst e1; subst e2
      exact ⟨rfl, .inl ⟨rfl, rfl⟩⟩
    · rw [hvv y v h1] at h3; cases h3
    · rw [hvv y v h]; simp [Value.ownBlock]
  have hRB : ∀ x, ¬ RowB (List.replicate N (Value.slice none 0 0)) x := fun x ⟨y, v, h1, h2⟩ => by
    rw [(List.mem_replicate.1 (List.mem_of_getElem? h1)).2] at h2; cases h2
  have HBW := Lib.hid z2
  have hSP := SetP.start g.blocks
  rw [← HN.out] at hSP
  have HST := Lib.hid (Stl.refl hBM hSP)
  have HRB := Lib.hid hRB
  have HBQ := Lib.hid hb
  have hbb : b ≤ w.heap.size := by omega
  have hbb2 : w.heap.size ≤ b := by omega
  simp only [Nat.add_assoc, Nat.reduceAdd]
  rw [← hb]
  clear hWl z2 z3 hBM hRB hSP hb
  go_loopw [31] (fun q wr => ∃ k : Nat, k ≤ N ∧ q = .int .i64 (k : Int) ∧ Hid (∃ S D A M vs dn, Stl b g (List.replicate N false) (fun _ => False) (List.replicate N (.slice none 0 0)) Wb wr S D A M vs dn ∧ ∀ m : Nat, m < k → M[m]? = some true)) (fun q _ => N - (intOf q).toNat)
  case atStart => exact ⟨0, Nat.zero_le _, rfl, Lib.hid ⟨_, _, _, _, _, _, HST.out, fun m h => by omega⟩⟩
  case round => as_aux_lemma =>
    obtain ⟨k, hk, rfl, HM⟩ := hrel
    rename World => V
    obtain ⟨S, D, A, M, vs, dn, hst, hmet⟩ := HM.out
    have hBV : Below b Wb V := hst.wr.below (fun x hx => by
      rcases hx with q | q | q | q | q
      · omega
      · omega
      · omega
      · omega
      · exact absurd q (HRB.out x)) (by omega)
    have hBwV : Below w.heap.size w V := by rw [← HBQ.out]; exact HBW.out.trans hBV
    by_cases hkN : k = N
    · have hlive := hst.sp.live (fun m hm => by
        rcases hst.new m (hmet m (by rw [hkN, HN.out]; exact hm)) with q | q
        · rw [List.getElem?_replicate] at q
          split at q <;> cases q
        · exact q)
      have csv := one_at hst.bm.svc
      have HF := Lib.hid (And.intro hst.bm.sbc (And.intro hlive hBwV))
      rw [← HN.out] at csv
      subst hkN
      clear hst hmet HM hBV hBwV hlive
      go_wp2_with fail
      go_ret
      exact ⟨S, by show Ending.returned (Value.slice (some ⟨b + 1, 0, none⟩) k k) = _; rw [HBQ.out, HN.out], by rw [← HBQ.out]; exact HF.out.1, HF.out.2.1, HF.out.2.2⟩
    · have hkl : k < N := by omega
      have hkl0 : (k : Int) < (N : Int) := by omega
      obtain ⟨z, hz⟩ : ∃ z, M[k]? = some z := ⟨_, List.getElem?_eq_getElem (by rw [hst.sp.ml, ← HN.out]; exact hkl)⟩
      have cmv := one_at hst.bm.mvc
      rw [← HN.out] at cmv
      have cm := boolA_at hst.bm.mbc hz
      have cvv := one_at hst.bm.vvc
      have HST2 := Lib.hid hst
      have HMT := Lib.hid hmet
      cases z with
      | true =>
        have HZ := Lib.hid hz
        clear hst hmet HM hBV hBwV hz
        go_wp2_with fail
        go_roundw
        case rel => exact ⟨k + 1, hkl, by go_num, Lib.hid ⟨_, _, _, _, _, _, HST2.out, fun m hm => by
          by_cases e : m = k
          · rw [e]; exact HZ.out
          · exact HMT.out m (by omega)⟩⟩
        case measure => simp [intOf]; omega
      | false =>
        have HRC := Lib.hid (settle_any b R B g HG.out (by omega) _ k S D A M vs dn V rfl hst.bm hst.sp (HI.out.keeps (hBwV.mono hBw)) hz)
        clear hst hmet HM hBV hBwV hz
        go_wp2_with fail
        refine HRC.out.mono ?_
        rintro e V2 ⟨rfl, S3, D3, A3, M3, vs3, dn3, hst3, hm3⟩
        have HST3 := Lib.hid (HST2.out.trans hst3)
        have HM3 := Lib.hid (show ∀ m : Nat, m < k + 1 → M3[m]? = some true from fun m hm => by
          by_cases e : m = k
          · rw [e]; exact hm3
          · exact hst3.mm m (HMT.out m (by omega)))
        clear hst3 hm3
        go_wp2_with fail
        go_roundw
        case rel => exact ⟨k + 1, hkl, by go_num, Lib.hid ⟨_, _, _, _, _, _, HST3.out, HM3.out⟩⟩
        case measure => simp [intOf]; omega
end Go.Proofs.YtgkjhnghibpeoaaDoor
namespace Go.Proofs.YtgkjhnghibpeoaaDoor
open Go.RowKit
set_option maxRecDepth 1000000
attribute [local go_sem ↓] bld_eq bls_eq


theorem still_skip {P : Program} {ops : Array Oper} {w : World} {Q : Act → Prop} {a : Act} {o : Oper} {rest : List Oper} (hw : Region.wanted o (yielded ops a.tmps) = false) (h : wpStill P ops w Q rest (a.put o.dst undef)) : wpStill P ops w Q (o :: rest) a :=
  wpStill_step (fun K hK => by rw [if_neg (by rw [hw]; simp)]; exact hK _ h)
def insAt (g : Gr) (n : Nat) : List In := ((g.blocks[n]?).map (·.ins)).getD []
def isSpotB (g : Gr) (sb si : Int) : Bool := decide (0 ≤ sb) && (decide (sb < g.blocks.length) && (decide (0 ≤ si) && decide (si ≤ (insAt g sb.toNat).length)))
set_option maxHeartbeats 16000000 in
theorem isspot_any (B : Nat) (g : Gr) (sb si : Int) (w : World) (hI : GIn w B g) (hBw : B ≤ w.heap.size) :
    Calls Tryd.prog 20 #[.agg #[g.rv, .int .i64 g.sites, g.bv], .agg #[.int .i64 sb, .int .i64 si]] w fun e w' => e = .returned (.bool (isSpotB g sb si)) ∧ Below w.heap.size w w' := by
  obtain ⟨bo, bcp, eb, hbl, hbg⟩ := hI.blies.form
  obtain ⟨N, hN⟩ : ∃ N, N = g.blocks.length := ⟨_, rfl⟩
  obtain ⟨U, hU⟩ : ∃ U, U = (w.alloc (.cells #[g.rv, .int .i64 g.sites, g.bv] 25)).alloc (.cells #[.int .i64 sb, .int .i64 si] 41) := ⟨_, rfl⟩
  have z0 : (w.alloc (.cells #[g.rv, .int .i64 g.sites, g.bv] 25)).heap.size = w.heap.size + 1 := by simp
  have hb : Below w.heap.size w U := by rw [hU]; exact (below_box w _).alloc (by omega) _
  have q0 : U.heap[w.heap.size]? = some (.cells #[g.rv, .int .i64 g.sites, g.bv] 25 (0, 0)) := by rw [hU]; exact (Below.heap_alloc _ _ _ (by omega)).trans (MapKept.heap_alloc w _).1
  have q1 : U.heap[w.heap.size + 1]? = some (.cells #[.int .i64 sb, .int .i64 si] 41 (0, 0)) := by
    have := (MapKept.heap_alloc (w.alloc (.cells #[g.rv, .int .i64 g.sites, g.bv] 25)) (.cells #[.int .i64 sb, .int .i64 si] 41)).1
    rw [z0] at this; rw [hU]; exact this
  have c2 := (own3 q0).2.2
  have s0 : U.cell? ⟨w.heap.size + 1, 0, none⟩ = some (.int .i64 sb) := by rw [Lib.cell_of_heap q1]; rfl
  have s1 : U.cell? ⟨w.heap.size + 1, 1, none⟩ = some (.int .i64 si) := by rw [Lib.cell_of_heap q1]; rfl
  rw [eb] at hU c2 ⊢
  rw [← hN] at hU c2 hbl hbg ⊢
  have HB := Lib.hid hb
  have HU := Lib.hid hU
  have HN := Lib.hid hN
  by_cases h1 : 0 ≤ sb
  · by_cases h2 : sb < (N : Int)
    · obtain ⟨n, rfl⟩ : ∃ n : Nat, sb = (n : Int) := ⟨sb.toNat, by omega⟩
      obtain ⟨bk, hbk⟩ : ∃ bk, g.blocks[n]? = some bk := ⟨_, List.getElem?_eq_getElem (by omega)⟩
      obtain ⟨go, off, cap', egv, hgo, hp⟩ := blk_at hI hbk
      obtain ⟨p0, -, -, -, -⟩ := hp U (hb.mono hBw)
      obtain ⟨iq, icap, eiv, hil, -⟩ := (hI.blocks bk (List.mem_of_getElem? hbk)).lies.form
      rw [eb] at egv
      cases egv
      have hins : insAt g n = bk.ins := by unfold insAt; rw [hbk]; rfl
      obtain ⟨L, hL⟩ : ∃ L, L = bk.ins.length := ⟨_, rfl⟩
      rw [eiv, ← hL] at p0
      rw [← hL] at hil
      have HE := Lib.hid (show isSpotB g n si = (decide (0 ≤ si) && decide (si ≤ (L : Int))) from by
        unfold isSpotB
        rw [Int.toNat_natCast, hins, ← hL, decide_eq_true h1, decide_eq_true (show (n : Int) < g.blocks.length by omega)]; rfl)
      rw [HE.out]
      have h2' : n < N := by omega
      have d0 : decide ((n : Int) ≥ 0) = true := by simp
      clear hU q0 q1 hI hb hbk hp hins hL eiv hbg eb z0 hN
      by_cases h3 : 0 ≤ si
      · have d3 : decide (si ≥ 0) = true := by simpa using h3
        rw [decide_eq_true h3]
        go_enter Tryd.func20, Tryd.ntmps20
        go_wp2_with (rw [← HU.out])
        refine still_tail 29 (by kernel_rfl) (by kernel_rfl) (fun w2 hw2 => ?_)
        have c2 := dc hw2 (w := U) c2
        have s0 := dc hw2 (w := U) s0
        have s1 := dc hw2 (w := U) s1
        have p0 := dc hw2 (w := U) p0
        have HW := Lib.hid (show Below w.heap.size w w2 from by rw [hw2]; exact HB.out.drew)
        clear hw2
        simp only [List.take_succ_cons, List.take_zero, List.drop_succ_cons, List.drop_zero]
        still_step
        still_step
        still_step
        still_step
        still_step
        still_step
        still_step
        still_step
        still_step
        still_step
        still_step
        still_step
        still_step
        still_step
        still_step
        still_step
        still_step
        still_step
        still_step
        still_step
        still_step
        still_step
        still_step
        still_step
        still_step
        still_step
        still_step
        still_step
        still_step
        try refine wpStill_nil ?_
        go_wp2_with fail
        go_ret
        exact ⟨by simp, HW.out⟩
      · have d3 : decide (0 ≤ si) = false := decide_eq_false h3
        rw [decide_eq_false h3]
        go_enter Tryd.func20, Tryd.ntmps20
        go_wp2_with (rw [← HU.out])
        have hzU : U.heap.size = w.heap.size + 2 := by rw [HU.out]; simp
        refine wp_region_held_drew (S := SameTo U.heap.size U) (by kernel_rfl) (SameTo.drew _ _) (fun hSw => ?_)
        refine tH 0 (.pointer (some ⟨w.heap.size + 1, 0, none⟩)) hSw ?_
        try simp only [nS]
        refine tG 1 (.int .i64 (n : Int)) hSw (fun V hV => ?_) ?_
        · have c := hV.cell (by dsimp only; omega) s0
          first | (go_simp; done) | rfl
        try simp only [nS]
        refine tG 2 (.bool true) hSw (fun V hV => ?_) ?_
        · go_simp
        try simp only [nS]
        refine tH 3 (.bool true) hSw ?_
        try simp only [nS]
        refine tH 4 (.pointer (some ⟨w.heap.size + 1, 0, none⟩)) hSw ?_
        try simp only [nS]
        refine tG 5 (.int .i64 (n : Int)) hSw (fun V hV => ?_) ?_
        · have c := hV.cell (by dsimp only; omega) s0
          first | (go_simp; done) | rfl
        try simp only [nS]
        refine tH 6 (.pointer (some ⟨w.heap.size, 2, none⟩)) hSw ?_
        try simp only [nS]
        refine tG 7 (.slice (some ⟨go, off, none⟩) N bcp) hSw (fun V hV => ?_) ?_
        · have c := hV.cell (by dsimp only; omega) c2
          first | (go_simp; done) | rfl
        try simp only [nS]
        refine tG 8 (.int .i64 (N : Int)) hSw (fun V hV => ?_) ?_
        · go_simp
        try simp only [nS]
        refine tG 9 (.bool true) hSw (fun V hV => ?_) ?_
        · go_simp
        try simp only [nS]
        refine tG 10 (.bool true) hSw (fun V hV => ?_) ?_
        · go_simp
        try simp only [nS]
        refine tH 11 (.bool true) hSw ?_
        try simp only [nS]
        refine tH 12 (.pointer (some ⟨w.heap.size + 1, 1, none⟩)) hSw ?_
        try simp only [nS]
        refine tG 13 (.int .i64 si) hSw (fun V hV => ?_) ?_
        · have c := hV.cell (by dsimp only; omega) s1
          first | (go_simp; done) | rfl
        try simp only [nS]
        refine tG 14 (.bool false) hSw (fun V hV => ?_) ?_
        · go_simp
        try simp only [nS]
        refine tG 15 (.bool false) hSw (fun V hV => ?_) ?_
        · go_simp
        try simp only [nS]
        refine tH 16 (.bool false) hSw ?_
        try simp only [nS]
        refine tN 17 hSw ?_
        try simp only [nS]
        refine tN 18 hSw ?_
        try simp only [nS]
        refine tN 19 hSw ?_
        try simp only [nS]
        refine tN 20 hSw ?_
        try simp only [nS]
        refine tN 21 hSw ?_
        try simp only [nS]
        refine tN 22 hSw ?_
        try simp only [nS]
        refine tN 23 hSw ?_
        try simp only [nS]
        refine tN 24 hSw ?_
        try simp only [nS]
        refine tN 25 hSw ?_
        try simp only [nS]
        refine tN 26 hSw ?_
        try simp only [nS]
        refine tN 27 hSw ?_
        try simp only [nS]
        refine tG 28 (.bool false) hSw (fun V hV => ?_) ?_
        · go_simp
        try simp only [nS]
        refine tH 29 (.bool false) hSw ?_
        try simp only [nS]
        refine wpAnyH_done (by kernel_rfl) ?_ _
        go_wp2_with fail
        go_ret
        exact ⟨by simp, HB.out.drew⟩
    · have d2 : decide (sb < (N : Int)) = false := by simpa using h2
      have d0 : decide (0 ≤ sb) = true := decide_eq_true h1
      have HE := Lib.hid (show isSpotB g sb si = false from by
        unfold isSpotB
        rw [decide_eq_true h1, decide_eq_false (show ¬ sb < (g.blocks.length : Int) by omega)]; rfl)
      rw [HE.out]
      clear hU q0 q1 hI hb eb z0 hN hbg
      go_enter Tryd.func20, Tryd.ntmps20
      go_wp2_with (rw [← HU.out])
      have hzU : U.heap.size = w.heap.size + 2 := by rw [HU.out]; simp
      refine wp_region_held_drew (S := SameTo U.heap.size U) (by kernel_rfl) (SameTo.drew _ _) (fun hSw => ?_)
      refine tH 0 (.pointer (some ⟨w.heap.size + 1, 0, none⟩)) hSw ?_
      try simp only [nS]
      refine tG 1 (.int .i64 sb) hSw (fun V hV => ?_) ?_
      · have c := hV.cell (by dsimp only; omega) s0
        first | (go_simp; done) | rfl
      try simp only [nS]
      refine tG 2 (.bool true) hSw (fun V hV => ?_) ?_
      · go_simp
      try simp only [nS]
      refine tH 3 (.bool true) hSw ?_
      try simp only [nS]
      refine tH 4 (.pointer (some ⟨w.heap.size + 1, 0, none⟩)) hSw ?_
      try simp only [nS]
      refine tG 5 (.int .i64 sb) hSw (fun V hV => ?_) ?_
      · have c := hV.cell (by dsimp only; omega) s0
        first | (go_simp; done) | rfl
      try simp only [nS]
      refine tH 6 (.pointer (some ⟨w.heap.size, 2, none⟩)) hSw ?_
      try simp only [nS]
      refine tG 7 (.slice bo N bcp) hSw (fun V hV => ?_) ?_
      · have c := hV.cell (by dsimp only; omega) c2
        first | (go_simp; done) | rfl
      try simp only [nS]
      refine tG 8 (.int .i64 (N : Int)) hSw (fun V hV => ?_) ?_
      · go_simp
      try simp only [nS]
      refine tG 9 (.bool false) hSw (fun V hV => ?_) ?_
      · go_simp
      try simp only [nS]
      refine tG 10 (.bool false) hSw (fun V hV => ?_) ?_
      · go_simp
      try simp only [nS]
      refine tH 11 (.bool false) hSw ?_
      try simp only [nS]
      refine tN 12 hSw ?_
      try simp only [nS]
      refine tN 13 hSw ?_
      try simp only [nS]
      refine tN 14 hSw ?_
      try simp only [nS]
      refine tG 15 (.bool false) hSw (fun V hV => ?_) ?_
      · go_simp
      try simp only [nS]
      refine tH 16 (.bool false) hSw ?_
      try simp only [nS]
      refine tN 17 hSw ?_
      try simp only [nS]
      refine tN 18 hSw ?_
      try simp only [nS]
      refine tN 19 hSw ?_
      try simp only [nS]
      refine tN 20 hSw ?_
      try simp only [nS]
      refine tN 21 hSw ?_
      try simp only [nS]
      refine tN 22 hSw ?_
      try simp only [nS]
      refine tN 23 hSw ?_
      try simp only [nS]
      refine tN 24 hSw ?_
      try simp only [nS]
      refine tN 25 hSw ?_
      try simp only [nS]
      refine tN 26 hSw ?_
      try simp only [nS]
      refine tN 27 hSw ?_
      try simp only [nS]
      refine tG 28 (.bool false) hSw (fun V hV => ?_) ?_
      · go_simp
      try simp only [nS]
      refine tH 29 (.bool false) hSw ?_
      try simp only [nS]
      refine wpAnyH_done (by kernel_rfl) ?_ _
      go_wp2_with fail
      go_ret
      exact ⟨by simp, HB.out.drew⟩
  · have d0 : decide (0 ≤ sb) = false := decide_eq_false h1
    have HE := Lib.hid (show isSpotB g sb si = false from by
      unfold isSpotB
      rw [decide_eq_false h1]; rfl)
    rw [HE.out]
    clear hU q0 q1 hI hb eb z0 hN hbg
    go_enter Tryd.func20, Tryd.ntmps20
    go_wp2_with (rw [← HU.out])
    have hzU : U.heap.size = w.heap.size + 2 := by rw [HU.out]; simp
    refine wp_region_held_drew (S := SameTo U.heap.size U) (by kernel_rfl) (SameTo.drew _ _) (fun hSw => ?_)
    refine tH 0 (.pointer (some ⟨w.heap.size + 1, 0, none⟩)) hSw ?_
    try simp only [nS]
    refine tG 1 (.int .i64 sb) hSw (fun V hV => ?_) ?_
    · have c := hV.cell (by dsimp only; omega) s0
      first | (go_simp; done) | rfl
    try simp only [nS]
    refine tG 2 (.bool false) hSw (fun V hV => ?_) ?_
    · go_simp
    try simp only [nS]
    refine tH 3 (.bool false) hSw ?_
    try simp only [nS]
    refine tN 4 hSw ?_
    try simp only [nS]
    refine tN 5 hSw ?_
    try simp only [nS]
    refine tN 6 hSw ?_
    try simp only [nS]
    refine tN 7 hSw ?_
    try simp only [nS]
    refine tN 8 hSw ?_
    try simp only [nS]
    refine tN 9 hSw ?_
    try simp only [nS]
    refine tG 10 (.bool false) hSw (fun V hV => ?_) ?_
    · go_simp
    try simp only [nS]
    refine tH 11 (.bool false) hSw ?_
    try simp only [nS]
    refine tN 12 hSw ?_
    try simp only [nS]
    refine tN 13 hSw ?_
    try simp only [nS]
    refine tN 14 hSw ?_
    try simp only [nS]
    refine tG 15 (.bool false) hSw (fun V hV => ?_) ?_
    · go_simp
    try simp only [nS]
    refine tH 16 (.bool false) hSw ?_
    try simp only [nS]
    refine tN 17 hSw ?_
    try simp only [nS]
    refine tN 18 hSw ?_
    try simp only [nS]
    refine tN 19 hSw ?_
    try simp only [nS]
    refine tN 20 hSw ?_
    try simp only [nS]
    refine tN 21 hSw ?_
    try simp only [nS]
    refine tN 22 hSw ?_
    try simp only [nS]
    refine tN 23 hSw ?_
    try simp only [nS]
    refine tN 24 hSw ?_
    try simp only [nS]
    refine tN 25 hSw ?_
    try simp only [nS]
    refine tN 26 hSw ?_
    try simp only [nS]
    refine tN 27 hSw ?_
    try simp only [nS]
    refine tG 28 (.bool false) hSw (fun V hV => ?_) ?_
    · go_simp
    try simp only [nS]
    refine tH 29 (.bool false) hSw ?_
    try simp only [nS]
    refine wpAnyH_done (by kernel_rfl) ?_ _
    go_wp2_with fail
    go_ret
    exact ⟨by simp, HB.out.drew⟩
end Go.Proofs.YtgkjhnghibpeoaaDoor
