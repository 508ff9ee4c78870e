/- What a block does from an instruction on. -/
import Derived.Test.YtgkjhnghibpeoaaDoorRows
import Derived.Test.YtgkjhnghibpeoaaDoorLvMem
import Derived.Test.YtgkjhnghibpeoaaDoorLvIns
import Derived.Test.YtgkjhnghibpeoaaDoorLvBack
import Derived.Test.YtgkjhnghibpeoaaDoorLvEach
import Derived.RangeFuncNested
import Derived.RangeFuncBound
import Derived.RangeFuncCalls
import Derived.RangeFuncLeaves
import Derived.RangeFuncFrom
import Derived.Shelf.Abstract
import Derived.Shelf.RegionOpen
import Derived.OwnWalkIn
import Derived.TacticsInMore
import Derived.LoopNIn
import Derived.LoopIn
import Derived.Test.YtgkjhnghibpeoaaDoorIrLeaf
import Derived.Test.YtgkjhnghibpeoaaDoorIrNew
import Derived.Test.YtgkjhnghibpeoaaDoorParseOrder
import Derived.LoopTactic
import Derived.LoopN
import Derived.Deep.LoopGhost
import Derived.WalkKit
import Derived.WalkSpells
import Derived.WalkLawsBesides
import Derived.Lib.Hide
import Derived.OrdersHeld
import Derived.Deep.RegionHeld
import Derived.Deep.DrawnRows
import Derived.RegionTactic
import Derived.Deep.RegionHeld3
import Derived.IntWalk
import Derived.Deep.QuietTactic
import Derived.BigQuiet
namespace Go.Proofs.YtgkjhnghibpeoaaDoor
open Go.RowKit
set_option maxRecDepth 1000000
attribute [local go_sem ↓] bld_eq bls_eq


open Go.Shelf
attribute [local go_sem] Oper.semAt_some
/-- A slice's room holds what is in it. -/
def CapB (b : Bk) : Prop := ∀ ao n cap, b.iv = .slice ao n cap → n ≤ cap
theorem wr_others {W W' : World} {gd : Nat} {C : Array Value} {T : TypeId} {fr : Nat × Nat} (h : Wr (fun b => b = gd) W W') (hc : W.heap[gd]? = some (.cells C T fr)) : KeepsOthers W W' :=
  ⟨h.size, fun k o hk ho => by
    have hl := (Array.getElem?_eq_some_iff.1 hk).1
    rw [h.block k hl (fun e => by subst e; rw [hc] at hk; cases hk; cases ho)]
    exact hk⟩
theorem below_others {W W' : World} (h : Below W.heap.size W W') : KeepsOthers W W' := wr_others (gd := W.heap.size) (C := #[]) (T := 0) (fr := (0, 0)) ⟨h.os, h.tape, h.output, h.size, fun g h1 _ => h.block g h1⟩ |> fun _ => ⟨h.size, fun k o hk _ => (h.block k (Array.getElem?_eq_some_iff.1 hk).1).trans hk⟩
theorem zero32 : (#[.int .u64 0, .int .u64 0, .int .u64 0, .int .u64 0, .int .u64 0, .int .u64 0, .int .u64 0, .int .u64 0, .int .u64 0, .int .u64 0, .int .u64 0, .int .u64 0, .int .u64 0, .int .u64 0, .int .u64 0, .int .u64 0, .int .u64 0, .int .u64 0, .int .u64 0, .int .u64 0, .int .u64 0, .int .u64 0, .int .u64 0, .int .u64 0, .int .u64 0, .int .u64 0, .int .u64 0, .int .u64 0, .int .u64 0, .int .u64 0, .int .u64 0, .int .u64 0] : Array Value) = u64A (emptyS ++ emptyS) := by rfl
/-- Amid a round: the deed's block holds A and C. -/
structure DSt (w W : World) (gd g SZ NK : Nat) (aq : Option Addr) (ii : In) (A C : List Nat) (V : World) : Prop where
  row : V.heap[gd]? = some (.cells (u64A (A ++ C)) 67 (0, 0))
  box : V.heap[g]? = some (.cells ii.cells.toArray 46 (0, 0))
  oa : SOk A
  oc : SOk C
  bel : Below w.heap.size w V
  oth : KeepsOthers W V
  kep : KeepsS SZ NK aq W V
  siz : SZ + 1 ≤ V.heap.size
  gdw : gd = w.heap.size + 1
  lo : w.heap.size + 2 ≤ SZ
  gg : SZ + 1 ≤ g
  aqb : ∀ a, 0 < NK → aq = some a → a.block < w.heap.size
section
variable {w W V V' : World} {gd g SZ NK : Nat} {aq : Option Addr} {ii : In} {A C : List Nat}
theorem DSt.below (h : DSt w W gd g SZ NK aq ii A C V) (hb : Below V.heap.size V V') : DSt w W gd g SZ NK aq ii A C V' :=
  have k := fun (x : Nat) (c : Obj) (e : V.heap[x]? = some c) => (hb.block x (Array.getElem?_eq_some_iff.1 e).1).trans e
  ⟨k _ _ h.row, k _ _ h.box, h.oa, h.oc, h.bel.trans (hb.mono h.bel.size), h.oth.trans (below_others hb), h.kep.trans ⟨hb.block _ (by have := h.siz; omega), fun a l e => hb.block _ (by have := h.siz; have := h.aqb a l e; have := h.lo; omega)⟩, Nat.le_trans h.siz hb.size, h.gdw, h.lo, h.gg, h.aqb⟩
theorem DSt.wr (h : DSt w W gd g SZ NK aq ii A C V) (hw : Wr (fun b => b = gd) V V') {A' C' : List Nat} (hr : V'.heap[gd]? = some (.cells (u64A (A' ++ C')) 67 (0, 0))) (oa : SOk A') (oc : SOk C') : DSt w W gd g SZ NK aq ii A' C' V' :=
  have hgd := h.gdw
  have hlo := h.lo
  have hgg := h.gg
  have hsz := h.siz
  ⟨hr, (hw.block g (Array.getElem?_eq_some_iff.1 h.box).1 (by omega)).trans h.box, oa, oc, ⟨hw.os.trans h.bel.os, hw.tape.trans h.bel.tape, hw.output.trans h.bel.output, Nat.le_trans h.bel.size hw.size, fun x hx => (hw.block x (Nat.lt_of_lt_of_le hx h.bel.size) (by omega)).trans (h.bel.block x hx)⟩,
    h.oth.trans (wr_others hw h.row), h.kep.trans ⟨hw.block _ (by omega) (by omega), fun a l e => hw.block _ (by have := h.aqb a l e; omega) (by have := h.aqb a l e; omega)⟩, Nat.le_trans h.siz hw.size, h.gdw, h.lo, h.gg, h.aqb⟩
theorem DSt.all (h : DSt w W gd g SZ NK aq ii A C V) : ∀ x ∈ A ++ C, x < 18446744073709551616 := fun x hx => (List.mem_append.1 hx).elim (h.oa.lt x) (h.oc.lt x)
theorem DSt.putA (h : DSt w W gd g SZ NK aq ii A C V) (r : Int) (hr : r = -1 ∨ 0 ≤ r ∧ r < 1024) : Calls Tryd.prog 35 #[.pointer (some ⟨gd, 0, none⟩), .int .i64 r] V fun e V' => e = .returned (.tuple #[]) ∧ DSt w W gd g SZ NK aq ii (putI A r) C V' := by
  refine (lput_any gd 0 (A ++ C) 67 r V h.row hr (by rw [List.length_append, h.oa.len]; omega) h.all).mono ?_
  rintro e V' ⟨he, h1, h2⟩
  rw [putAt_left h.oa.len hr] at h1
  exact ⟨he, h.wr h2 h1 (h.oa.putI r) h.oc⟩
theorem DSt.takeA (h : DSt w W gd g SZ NK aq ii A C V) (r : Int) (hr : r = -1 ∨ 0 ≤ r ∧ r < 1024) : Calls Tryd.prog 40 #[.pointer (some ⟨gd, 0, none⟩), .int .i64 r] V fun e V' => e = .returned (.tuple #[]) ∧ DSt w W gd g SZ NK aq ii (takeI A r) C V' := by
  refine (ltake_any gd 0 (A ++ C) 67 r V h.row hr (by rw [List.length_append, h.oa.len]; omega) h.all).mono ?_
  rintro e V' ⟨he, h1, h2⟩
  rw [takeAt_left h.oa.len hr] at h1
  exact ⟨he, h.wr h2 h1 (h.oa.takeI r) h.oc⟩
theorem DSt.putC (h : DSt w W gd g SZ NK aq ii A C V) (r : Int) (hr : r = -1 ∨ 0 ≤ r ∧ r < 1024) : Calls Tryd.prog 35 #[.pointer (some ⟨gd, 16, none⟩), .int .i64 r] V fun e V' => e = .returned (.tuple #[]) ∧ DSt w W gd g SZ NK aq ii A (putI C r) V' := by
  refine (lput_any gd 16 (A ++ C) 67 r V h.row hr (by rw [List.length_append, h.oa.len, h.oc.len]; omega) h.all).mono ?_
  rintro e V' ⟨he, h1, h2⟩
  rw [putAt_right h.oa.len] at h1
  exact ⟨he, h.wr h2 h1 h.oa (h.oc.putI r)⟩
theorem DSt.six (h : DSt w W gd g SZ NK aq ii A C V) : V.cell? ⟨g, 0, none⟩ = some (.int .u8 ii.k) ∧ V.cell? ⟨g, 1, none⟩ = some (.int .u8 ii.o) ∧ V.cell? ⟨g, 2, none⟩ = some (.int .i64 ii.a) ∧ V.cell? ⟨g, 3, none⟩ = some (.int .i64 ii.b) ∧ V.cell? ⟨g, 4, none⟩ = some (.int .i64 ii.c) ∧ V.cell? ⟨g, 5, none⟩ = some (.int .i64 ii.n) := by
  have c := fun (i : Nat) => Lib.cell_of_heap (j := i) h.box
  exact ⟨by rw [c]; rfl, by rw [c]; rfl, by rw [c]; rfl, by rw [c]; rfl, by rw [c]; rfl, by rw [c]; rfl⟩
end
theorem cellI1 {W : World} {g : Nat} {v : Value} {T : TypeId} (h : W.heap[g]? = some (.cells #[v] T (0, 0))) : W.cell? ⟨g, 0, none⟩ = some v := one_at h
/-- Between two rounds: what the last j instructions do. -/
def DeedI (b : Bk) (w : World) (gd B : Nat) (j : Nat) (W : World) : Prop :=
  W.heap[gd]? = some (.cells (u64A ((deedL b (b.ins.drop (b.ins.length - j))).1 ++ (deedL b (b.ins.drop (b.ins.length - j))).2)) 67 (0, 0)) ∧ Below w.heap.size w W ∧ B ≤ W.heap.size
theorem DeedI.mild {b : Bk} {w : World} {gd B : Nat} (hg : gd < B) (hw : w.heap.size ≤ gd) : Mild B (DeedI b w gd B) := by
  refine ⟨?_, ?_⟩
  · rintro k W o ⟨h1, h3, h5⟩
    have hb : Below W.heap.size W (W.alloc o) := (Below.refl _ W).alloc (Nat.le_refl _) _
    exact ⟨(Below.heap_alloc _ _ _ (Array.getElem?_eq_some_iff.1 h1).1).trans h1, h3.alloc h3.size _, Nat.le_trans h5 hb.size⟩
  · rintro k W l o o' ⟨h1, h3, h5⟩ hl ho hn
    have hsz : (W.putObj l o').heap.size = W.heap.size := by simp
    exact ⟨(World.putObj_heap_other (by omega)).trans h1, ⟨h3.os, h3.tape, h3.output, by rw [hsz]; exact h3.size, fun g hg => (World.putObj_heap_other (by omega)).trans (h3.block g hg)⟩, by rw [hsz]; exact h5⟩
set_option maxHeartbeats 16000000 in
theorem deed_from_any (R B : Nat) (hR : R ≤ 1024) (b : Bk) (k : Nat) (w : World) (hI : BIn w B b) (hBw : B ≤ w.heap.size) (hf : BFit R b) (hc : CapB b) (hk : k ≤ b.ins.length) (hl : b.ins.length ≤ 8192) :
    Calls Tryd.prog 31 #[.agg #[b.iv, .int .u8 b.last, .int .i64 b.reg, .int .i64 b.yes, .int .i64 b.no], .int .i64 (k : Int)] w fun e w' => e = .returned (deedV (deedF b k)) ∧ Below w.heap.size w w' := by
  obtain ⟨iq, icap, eiv, hil, hig⟩ := hI.lies.form
  have hroom := hI.lies.room
  obtain ⟨U, hU⟩ : ∃ U, U = (w.alloc (.cells #[b.iv, .int .u8 b.last, .int .i64 b.reg, .int .i64 b.yes, .int .i64 b.no] 36)).alloc (.cells #[.int .u64 0, .int .u64 0, .int .u64 0, .int .u64 0, .int .u64 0, .int .u64 0, .int .u64 0, .int .u64 0, .int .u64 0, .int .u64 0, .int .u64 0, .int .u64 0, .int .u64 0, .int .u64 0, .int .u64 0, .int .u64 0, .int .u64 0, .int .u64 0, .int .u64 0, .int .u64 0, .int .u64 0, .int .u64 0, .int .u64 0, .int .u64 0, .int .u64 0, .int .u64 0, .int .u64 0, .int .u64 0, .int .u64 0, .int .u64 0, .int .u64 0, .int .u64 0] 67) := ⟨_, rfl⟩
  have z0 : (w.alloc (.cells #[b.iv, .int .u8 b.last, .int .i64 b.reg, .int .i64 b.yes, .int .i64 b.no] 36)).heap.size = w.heap.size + 1 := by simp
  have hz : U.heap.size = w.heap.size + 2 := by rw [hU]; simp
  have hb : Below w.heap.size w U := by rw [hU]; exact (below_box w _).alloc (by omega) _
  have q0 : U.heap[w.heap.size]? = some (.cells #[b.iv, .int .u8 b.last, .int .i64 b.reg, .int .i64 b.yes, .int .i64 b.no] 36 (0, 0)) := by rw [hU]; exact (Below.heap_alloc _ _ _ (by omega)).trans (MapKept.heap_alloc w _).1
  have q1 : U.heap[w.heap.size + 1]? = some (.cells (u64A (emptyS ++ emptyS)) 67 (0, 0)) := by
    have := (MapKept.heap_alloc (w.alloc (.cells #[b.iv, .int .u8 b.last, .int .i64 b.reg, .int .i64 b.yes, .int .i64 b.no] 36)) (.cells #[.int .u64 0, .int .u64 0, .int .u64 0, .int .u64 0, .int .u64 0, .int .u64 0, .int .u64 0, .int .u64 0, .int .u64 0, .int .u64 0, .int .u64 0, .int .u64 0, .int .u64 0, .int .u64 0, .int .u64 0, .int .u64 0, .int .u64 0, .int .u64 0, .int .u64 0, .int .u64 0, .int .u64 0, .int .u64 0, .int .u64 0, .int .u64 0, .int .u64 0, .int .u64 0, .int .u64 0, .int .u64 0, .int .u64 0, .int .u64 0, .int .u64 0, .int .u64 0] 67)).1
    rw [z0] at this
    rw [hU, ← zero32]; exact this
  rw [eiv] at hU q0 ⊢
  obtain ⟨p0, p1, p2, p3, p4⟩ := own5 q0
  have HU := Lib.hid hU
  have HQ1 := Lib.hid q1
  have HB := Lib.hid hb
  have HI := Lib.hid hI
  have HF := Lib.hid hf
  have HEI := Lib.hid eiv
  have hcap := hc _ _ _ eiv
  obtain ⟨N, hN⟩ : ∃ N, N = b.ins.length := ⟨_, rfl⟩
  rw [← hN] at hcap hil hig hroom hk hl eiv HEI HU p0 ⊢
  have HN := Lib.hid hN
  obtain ⟨aq, haq⟩ : ∃ aq, aq = (if icap = k then iq else iq.map (·.add (k * 6))) := ⟨_, rfl⟩
  obtain ⟨cq, hcq⟩ : ∃ cq, cq = icap - k := ⟨_, rfl⟩
  have hsl : ∀ W, (Instr.sliceAt 33 (.slice iq N icap) (some (.int .i64 (k : Int))) none none).run Tryd.prog W = .ok (.slice aq (N - k) cq) W := fun W => by
    rw [haq, hcq]
    have hkN : (k : Int) ≤ (N : Int) := by omega
    have hkN' : k ≤ N := hk
    clear hig hil
    go_simp
    intro hx
    exact absurd hx (by have := HN.out; omega)
  have HAQ := Lib.hid (show ∀ j, j < N - k → ∃ g off, aq = some ⟨g, off, none⟩ ∧ g < w.heap.size ∧ ∀ q v, ((b.ins.drop k)[j]?.getD noI).cells[q]? = some v → w.cell? ⟨g, off + j * 6 + q, none⟩ = some v from fun j hj => by
    obtain ⟨g, off, e, hg⟩ := hig (by omega)
    have hki : ¬ icap = k := by omega
    refine ⟨g, off + k * 6, by rw [haq, if_neg hki, e]; simp [Addr.add_mid], by omega, fun q v hv => ?_⟩
    have hjk : k + j < b.ins.length := by omega
    rw [List.getElem?_drop, List.getElem?_eq_getElem hjk] at hv
    have := (hI.lies.at (by rw [eiv, e]) (k + j) hjk).2 q v hv
    rw [show off + (k + j) * 6 + q = off + k * 6 + j * 6 + q by omega] at this
    exact this)
  have HAB := Lib.hid (show ∀ a, 0 < N - k → aq = some a → a.block < w.heap.size from fun a l ha => by
    obtain ⟨g, off, e, hg⟩ := hig (by omega)
    rw [haq, e] at ha
    split at ha
    · cases ha; dsimp only; omega
    · simp [Addr.add_mid] at ha; subst ha; dsimp only; omega)
  clear hU q0 q1 hb hI hf eiv hN haq hcq
  refine (callsIn_wide (n := 6)).1 ?_
  refine callsIn_of_wp_marks Tryd.func31 rfl trivial ?_ rfl
  refine wpIn_wide.2 ?_
  simp only [Tryd.ntmps31, List.size_toArray, List.length_cons, List.length_nil, Nat.reduceAdd, Nat.reduceSub, Array.replicate_succ, Array.replicate_zero, List.push_toArray, List.append_toArray, List.nil_append, List.cons_append]
  by_cases h2 : b.last = 2
  · have hreg := HF.out.reg h2
    have HPUT := Lib.hid (lput_any (w.heap.size + 1) 0 (emptyS ++ emptyS) 67 b.reg U HQ1.out (.inr (by omega)) (by decide) (by decide))
    have HED := Lib.hid (show putAt (emptyS ++ emptyS) 0 b.reg = (endD b).1 ++ (endD b).2 from by unfold endD; rw [if_pos h2]; exact putAt_left rfl (.inr (by omega)))
    have d2 : b.last = 2 := h2
    rw [d2] at HU p1 ⊢
    go_wp2_with (rw [← HU.out])
    refine HPUT.out.mono ?_; rintro e V ⟨rfl, hq, hw⟩
    have HQV := Lib.hid (show V.heap[w.heap.size + 1]? = some (.cells (u64A ((endD b).1 ++ (endD b).2)) 67 (0, 0)) from by rw [← HED.out]; exact hq)
    have hbv : Below w.heap.size w V := ⟨hw.os.trans HB.out.os, hw.tape.trans HB.out.tape, hw.output.trans HB.out.output, Nat.le_trans HB.out.size hw.size, fun x hx => (hw.block x (by omega) (by omega)).trans (HB.out.block x hx)⟩
    have HBV := Lib.hid hbv
    have hzv : w.heap.size + 2 ≤ V.heap.size := by have := hw.size; omega
    have p0 := (World.cell?_of_block (hw.block w.heap.size (by omega) (by omega))).trans p0
    clear hq hw hbv p1 p2 p3 p4
    go_wp2_with fail
    refine (back_any aq (N - k) cq _).mono ?_; rintro e8 w8 ⟨rfl, rfl⟩
    obtain ⟨SZ, hSZ⟩ : ∃ n, n = V.heap.size := ⟨_, rfl⟩
    have hSZ2 : w.heap.size + 2 ≤ SZ := by omega
    rw [← hSZ]
    have HSZ := Lib.hid hSZ
    clear hSZ
    go_wp2_with fail
    obtain ⟨W8, hW8⟩ : ∃ W8, W8 = V.alloc (.cells #[.slice aq (N - k) cq] 33) := ⟨_, rfl⟩
    have hb8 : Below V.heap.size V W8 := by rw [hW8]; exact below_box _ _
    have hz8 : W8.heap.size = SZ + 1 := by rw [hW8, HSZ.out]; simp
    have hB8 : W8.heap[SZ]? = some (.cells #[.slice aq (N - k) cq] 33 (0, 0)) := by rw [hW8, HSZ.out]; exact (MapKept.heap_alloc _ _).1
    rw [← hW8]
    have HB8 := Lib.hid hb8
    have HBS := Lib.hid hB8
    have hbw := HBV.out.trans (hb8.mono HBV.out.size)
    have HBW := Lib.hid hbw
    have HGD := Lib.hid ((hb8.block _ (by have := HSZ.out; omega)).trans HQV.out)
    obtain ⟨NK, hNK⟩ : ∃ n, n = N - k := ⟨_, rfl⟩
    rw [← hNK] at HBS hB8 ⊢
    have HNK := Lib.hid hNK
    have hROW := fun (j : Nat) (hj : j < NK) => HAQ.out j (by rw [← hNK]; exact hj)
    have HROW := Lib.hid hROW
    rw [← hNK] at HAB
    clear hW8 hb8 hB8 hbw hROW hNK
    refine (wpIn_wide (n := 6)).1 ?_
    refine range_countB rfl (by decide) (gf := 45) (fb := #[]) (lb := #[.pointer (some ⟨SZ, 0, none⟩)]) rfl trivial (enters_of Tryd.func45 (by kernel_rfl) rfl)
      (backV (b.ins.drop k) NK) NK (fun _ => rfl) (KeepsS SZ NK aq)
      (fun l J W hW hJa hY hJ => back1_in 5 (by decide) l SZ NK cq aq (b.ins.drop k) (by have := HNK.out; omega) J hY W ((cell_of_same (hW.block _ (by omega)) 0).trans (cellI1 HBS.out)) (fun j hj => by
        obtain ⟨g, off, q1, q2, q3⟩ := HROW.out j hj
        exact ⟨g, off, q1, fun q v hv => (cell_of_same ((HBW.out.trans (hW.mono HBW.out.size)).block g (by omega)) _).trans (q3 q v hv)⟩) hJ)
      (fun h1 h2 => h1.trans h2) (fun W l ob ob' hl _ _ => ⟨World.putObj_heap_other (by omega), fun a l e => World.putObj_heap_other (by have := HAB.out a l e; omega)⟩)
      (DeedI b w (w.heap.size + 1) (SZ + 1)) (by rw [hz8]; exact DeedI.mild (by omega) (by omega))
      ⟨by rw [Nat.sub_zero, List.drop_length]; exact HGD.out, HBW.out, by omega⟩
      (fun j a' W => ∃ g, a' = { tmps := #[.agg #[.slice iq N icap, .int .u8 2, .int .i64 b.reg, .int .i64 b.yes, .int .i64 b.no], .int .i64 (k : Int), .pointer (some ⟨w.heap.size, 0, none⟩), undef, .pointer (some ⟨w.heap.size + 1, 0, none⟩), undef, .pointer (some ⟨g, 0, none⟩), undef, undef, .pointer (some ⟨w.heap.size, 1, none⟩), .int .u8 2, .bool true, .pointer (some ⟨w.heap.size + 1, 0, none⟩), .pointer (some ⟨w.heap.size, 2, none⟩), .int .i64 b.reg, .tuple #[], .pointer (some ⟨w.heap.size, 0, none⟩), .slice iq N icap, .int .i64 (k : Int), .slice aq NK cq, .func (.func 45) #[] #[.pointer (some ⟨SZ, 0, none⟩)], .int .i64 ((NK - 1 - j : Nat) : Int), .agg (((b.ins.drop k)[NK - 1 - j]?).getD noI).cells.toArray, undef, undef, undef, undef, undef, undef, undef, undef, undef, undef, undef, undef, undef, undef, undef, undef, undef, undef], defers := [] } ∧ W.heap[g]? = some (.cells (((b.ins.drop k)[NK - 1 - j]?).getD noI).cells.toArray 46 (0, 0)) ∧ SZ + 1 ≤ g)
      ?ay1 ?assign1 ?body1 ?done1
    case ay1 =>
      rintro j a' W l o o' ⟨g, h1, h2, h3⟩ hl ho hn
      exact ⟨g, h1, (World.putObj_heap_other (fun e => by subst e; rw [ho] at h2; cases h2; cases hn)).trans h2, h3⟩
    case assign1 =>
      intro l j W K hI2 hj hK
      obtain ⟨ii, hii⟩ : ∃ ii, ii = ((b.ins.drop k)[NK - 1 - j]?).getD noI := ⟨_, rfl⟩
      unfold backV
      rw [← hii]
      rw [← hii] at hK
      clear hii
      obtain ⟨ik, io, ia, ib, ic, inn⟩ := ii
      unfold In.val
      dsimp only [In.cells] at hK
      have HK := Lib.hid hK
      clear hK
      gi_wp2
      exact HK.out _ _ (KeepsOthers.alloc _ _) ⟨Below.heap_alloc _ _ _ (by have := hI2.2.2; omega), fun a l e => Below.heap_alloc _ _ _ (by have := HAB.out a l e; have := hI2.2.2; omega)⟩
        ⟨(Below.heap_alloc _ _ _ (Array.getElem?_eq_some_iff.1 hI2.1).1).trans hI2.1, hI2.2.1.alloc hI2.2.1.size _, by have := hI2.2.2; simp; omega⟩ ⟨W.heap.size, rfl, (MapKept.heap_alloc _ _).1, hI2.2.2⟩
    case body1 => as_aux_lemma =>
      rintro l j W a' ⟨h1, h3, h5⟩ hj ⟨g, rfl, hg, hgl⟩
      have hNN := HN.out
      have hNK := HNK.out
      obtain ⟨ii, hii⟩ : ∃ ii, ii = ((b.ins.drop k)[NK - 1 - j]?).getD noI := ⟨_, rfl⟩
      have hiB : b.ins[N - 1 - j]? = some ii := by
        rw [hii, List.getElem?_drop, show k + (NK - 1 - j) = N - 1 - j by omega, List.getElem?_eq_getElem (by omega)]; rfl
      rw [← hii] at hg ⊢
      have hfi := HF.out.ins ii (List.mem_of_getElem? hiB)
      have hrw := rg_lt hR hfi.w
      have hr0 := rg_lt hR hfi.r0
      have hr1 := rg_lt hR hfi.r1
      have hr2 := rg_lt hR hfi.r2
      have hstep : deedL b (b.ins.drop (b.ins.length - (j + 1))) = stepD ii (deedL b (b.ins.drop (b.ins.length - j))) := by
        have e1 : b.ins.length - (j + 1) = N - 1 - j := by omega
        have e2 : b.ins.length - j = N - 1 - j + 1 := by omega
        rw [e1, e2]
        exact deedF_step hiB
      have hok := deedL_ok b (b.ins.drop (b.ins.length - j))
      obtain ⟨D, hD⟩ : ∃ D, D = deedL b (b.ins.drop (b.ins.length - j)) := ⟨_, rfl⟩
      rw [← hD] at hstep hok h1
      have HST := Lib.hid hstep
      have HS0 := Lib.hid (show DSt w W (w.heap.size + 1) g SZ NK aq ii D.1 D.2 W from ⟨h1, hg, hok.a, hok.c, h3, .refl _, .refl _ _ _ _, h5, rfl, hSZ2, hgl, HAB.out⟩)
      have HCH := Lib.hid (fun V => (callsIn_wide (n := 3)).2 (changed_any ii V))
      have HAS := Lib.hid (fun V => (callsIn_wide (n := 3)).2 (asked_any ii V))
      have HPA := Lib.hid (fun (A C : List Nat) (V : World) (h : DSt w W (w.heap.size + 1) g SZ NK aq ii A C V) (r : Int) (hr : r = -1 ∨ 0 ≤ r ∧ r < 1024) => (callsIn_wide (n := 3)).2 (h.putA r hr))
      have HPC := Lib.hid (fun (A C : List Nat) (V : World) (h : DSt w W (w.heap.size + 1) g SZ NK aq ii A C V) (r : Int) (hr : r = -1 ∨ 0 ≤ r ∧ r < 1024) => (callsIn_wide (n := 3)).2 (h.putC r hr))
      have HTA := Lib.hid (fun (A C : List Nat) (V : World) (h : DSt w W (w.heap.size + 1) g SZ NK aq ii A C V) (r : Int) (hr : r = -1 ∨ 0 ≤ r ∧ r < 1024) => (callsIn_wide (n := 3)).2 (h.takeA r hr))
      obtain ⟨i0, i1, i2, i3, i4, i5⟩ := HS0.out.six
      have HGL := Lib.hid hgl
      clear h1 h3 hg hstep hok hD hii hiB hfi hNN hNK
      gi_wp2
      refine ⟨trivial, ((HCH.out _).inRound l).mono ?_⟩; rintro e V1 ⟨rfl, hb1⟩
      have HS1 := Lib.hid (HS0.out.below hb1)
      clear hb1 i0 i1 i2 i3 i4 i5
      gi_wp2
      refine ⟨trivial, ((HPC.out _ _ _ HS1.out _ hrw).inRound l).mono ?_⟩; rintro e V2 ⟨rfl, hs2⟩
      have HS2 := Lib.hid hs2
      obtain ⟨i0, i1, i2, i3, i4, i5⟩ := hs2.six
      clear hs2
      gi_wp2
      refine ⟨trivial, ((HCH.out _).inRound l).mono ?_⟩; rintro e V3 ⟨rfl, hb3⟩
      have HS3 := Lib.hid (HS2.out.below hb3)
      clear hb3 i0 i1 i2 i3 i4 i5
      gi_wp2
      refine ⟨trivial, ((HTA.out _ _ _ HS3.out _ hrw).inRound l).mono ?_⟩; rintro e V4 ⟨rfl, hs4⟩
      have HS4 := Lib.hid hs4
      obtain ⟨i0, i1, i2, i3, i4, i5⟩ := hs4.six
      clear hs4
      gi_wp2
      refine ⟨trivial, ((HAS.out _).inRound l).mono ?_⟩; rintro e V5 ⟨rfl, hb5⟩
      have HS5 := Lib.hid (HS4.out.below hb5)
      clear hb5 i0 i1 i2 i3 i4 i5
      obtain ⟨x0, hx0⟩ : ∃ x, x = ask0 ii := ⟨_, rfl⟩
      obtain ⟨x1, hx1⟩ : ∃ x, x = ask1 ii := ⟨_, rfl⟩
      obtain ⟨x2, hx2⟩ : ∃ x, x = ask2 ii := ⟨_, rfl⟩
      unfold askV
      rw [← hx0] at hr0 ⊢
      rw [← hx1] at hr1 ⊢
      rw [← hx2] at hr2 ⊢
      have HX := Lib.hid (show stepD ii D = (putI (putI (putI (takeI D.1 (wrI ii)) x0) x1) x2, putI D.2 (wrI ii)) from by rw [hx0, hx1, hx2]; rfl)
      clear hx0 hx1 hx2
      obtain ⟨AG, hAG⟩ : ∃ A : Array Value, A = #[.int .i64 x0, .int .i64 x1, .int .i64 x2] := ⟨_, rfl⟩
      rw [← hAG]
      have HAG := Lib.hid hAG
      clear hAG
      gi_wp2
      gi_loopw [33] (fun mv wr => ∃ m : Nat, mv = .int .i64 (m : Int) ∧ m ≤ 3 ∧ Hid (DSt w W (w.heap.size + 1) g SZ NK aq ii (([x0, x1, x2].take m).foldl putI (takeI D.1 (wrI ii))) (putI D.2 (wrI ii)) wr)) (fun mv _ => 3 - (intOf mv).toNat)
      case atStart => exact ⟨0, rfl, by omega, HS5⟩
      case round => as_aux_lemma =>
        obtain ⟨m, rfl, hm, HM⟩ := hrel
        rename World => Y
        by_cases hm4 : m = 3
        · subst hm4
          gi_wp2
          refine ⟨HM.out.oth, HM.out.kep, ?_, HM.out.bel, HM.out.siz⟩
          rw [HST.out, HX.out]
          exact HM.out.row
        · have hm3 : (m : Int) < 3 := by omega
          have hm5 : m = 0 ∨ m = 1 ∨ m = 2 := by omega
          obtain ⟨xm, hxm, hrm, k0⟩ : ∃ xm, [x0, x1, x2][m]? = some xm ∧ (xm = -1 ∨ 0 ≤ xm ∧ xm < 1024) ∧ ∀ w, (Instr.index 78 (.agg AG) (.int .i64 (m : Int))).run Tryd.prog w = .ok (.int .i64 xm) w := by
            rw [HAG.out]
            rcases hm5 with rfl | rfl | rfl
            · exact ⟨x0, rfl, hr0, fun _ => by kernel_rfl⟩
            · exact ⟨x1, rfl, hr1, fun _ => by kernel_rfl⟩
            · exact ⟨x2, rfl, hr2, fun _ => by kernel_rfl⟩
          have HF2 := Lib.hid (show ([x0, x1, x2].take (m + 1)).foldl putI (takeI D.1 (wrI ii)) = putI (([x0, x1, x2].take m).foldl putI (takeI D.1 (wrI ii))) xm from by rw [List.take_add_one, hxm]; simp)
          clear hm5 hxm
          gi_wp2
          refine ⟨trivial, ((HPA.out _ _ _ HM.out _ hrm).inRound l).mono ?_⟩; rintro e Y2 ⟨rfl, hs⟩
          have HY2 := Lib.hid hs
          clear hs k0
          gi_wp2
          go_roundw
          case rel => exact ⟨m + 1, by go_num, by omega, Lib.hid (by rw [HF2.out]; exact HY2.out)⟩
          case measure => simp [intOf]; omega
    case done1 => as_aux_lemma =>
      rintro D W hD ⟨h1, h3, h5⟩ hd
      have hNN := HN.out
      have hNK := HNK.out
      rw [show b.ins.length - NK = k by omega] at h1
      have hok := deedF_ok b k
      obtain ⟨C, hC⟩ : ∃ C, C = u64A ((deedF b k).1 ++ (deedF b k).2) := ⟨_, rfl⟩
      have h1 : W.heap[w.heap.size + 1]? = some (.cells C 67 (0, 0)) := by rw [hC]; exact h1
      have hCz : C.size = 32 := by rw [hC, u64A_size, List.length_append, hok.a.len, hok.c.len]
      have hC1 : C.all (·.oneCell') = true := by rw [hC]; exact u64A_one _
      have HCe := Lib.hid (show deedV (deedF b k) = .agg C from by rw [hC]; rfl)
      have HC := Lib.hid (And.intro hCz hC1)
      have H1 := Lib.hid h1
      have H3 := Lib.hid h3
      have HD := Lib.hid hd
      clear hC hCz hC1 h1 h3 hd hok hNN hNK
      go_wp2_with (first
        | (refine wpList_load_row rfl 67 (Operand.tmp 4) rfl (w.heap.size + 1) rfl 67 C (0, 0) _ H1.out Tryd.underlying67 rfl (by rw [HC.out.1]; kernel_rfl) ?_)
        | (refine wpList_put rfl 67 (Operand.tmp 4) (Operand.tmp 40) rfl (w.heap.size + 1) 67 _ C rfl rfl H1.out rfl (by rw [HC.out.1]; kernel_rfl) HC.out.2 ?_))
      intro w5 hp5
      have HP := Lib.hid hp5
      clear hp5
      go_wp2_with fail
      have hUD : w5.heap[D]? = some (.deferred (some [])) := (HP.out.rest D (by omega)).trans HD.out
      refine ⟨by simp, .inl ⟨_, _, rfl, run_takeDeferred hUD, ?_⟩⟩
      refine ⟨.agg C, results_cell_row rfl _ _ (w.heap.size + 1) 67 _ (0, 0) _ rfl ((World.putObj_heap_other (by omega)).trans HP.out.at_b) Tryd.underlying67 rfl (by rw [HC.out.1]; kernel_rfl), ?_⟩
      have hb5 := HP.out.below H3.out (by omega)
      have e9 : (w5.putObj D (.deferred none)).heap.size = w5.heap.size := by simp
      exact ⟨by rw [HCe.out], hb5.os, hb5.tape, hb5.output, by rw [e9]; exact hb5.size, fun g hg => (World.putObj_heap_other (by omega)).trans (hb5.block g hg)⟩
  · have d2 : (b.last == 2) = false := by simpa using h2
    have HQV := Lib.hid (show U.heap[w.heap.size + 1]? = some (.cells (u64A ((endD b).1 ++ (endD b).2)) 67 (0, 0)) from by unfold endD; rw [if_neg h2]; exact HQ1.out)
    have HBV := Lib.hid HB.out
    go_wp2_with (rw [← HU.out])

    refine (back_any aq (N - k) cq _).mono ?_; rintro e8 w8 ⟨rfl, rfl⟩
    obtain ⟨SZ, hSZ⟩ : ∃ n, n = U.heap.size := ⟨_, rfl⟩
    have hSZ2 : w.heap.size + 2 ≤ SZ := by omega
    rw [← hSZ]
    have HSZ := Lib.hid hSZ
    clear hSZ
    go_wp2_with fail
    obtain ⟨W8, hW8⟩ : ∃ W8, W8 = U.alloc (.cells #[.slice aq (N - k) cq] 33) := ⟨_, rfl⟩
    have hb8 : Below U.heap.size U W8 := by rw [hW8]; exact below_box _ _
    have hz8 : W8.heap.size = SZ + 1 := by rw [hW8, HSZ.out]; simp
    have hB8 : W8.heap[SZ]? = some (.cells #[.slice aq (N - k) cq] 33 (0, 0)) := by rw [hW8, HSZ.out]; exact (MapKept.heap_alloc _ _).1
    rw [← hW8]
    have HB8 := Lib.hid hb8
    have HBS := Lib.hid hB8
    have hbw := HBV.out.trans (hb8.mono HBV.out.size)
    have HBW := Lib.hid hbw
    have HGD := Lib.hid ((hb8.block _ (by have := HSZ.out; omega)).trans HQV.out)
    obtain ⟨NK, hNK⟩ : ∃ n, n = N - k := ⟨_, rfl⟩
    rw [← hNK] at HBS hB8 ⊢
    have HNK := Lib.hid hNK
    have hROW := fun (j : Nat) (hj : j < NK) => HAQ.out j (by rw [← hNK]; exact hj)
    have HROW := Lib.hid hROW
    rw [← hNK] at HAB
    clear hW8 hb8 hB8 hbw hROW hNK
    refine (wpIn_wide (n := 6)).1 ?_
    refine range_countB rfl (by decide) (gf := 45) (fb := #[]) (lb := #[.pointer (some ⟨SZ, 0, none⟩)]) rfl trivial (enters_of Tryd.func45 (by kernel_rfl) rfl)
      (backV (b.ins.drop k) NK) NK (fun _ => rfl) (KeepsS SZ NK aq)
      (fun l J W hW hJa hY hJ => back1_in 5 (by decide) l SZ NK cq aq (b.ins.drop k) (by have := HNK.out; omega) J hY W ((cell_of_same (hW.block _ (by omega)) 0).trans (cellI1 HBS.out)) (fun j hj => by
        obtain ⟨g, off, q1, q2, q3⟩ := HROW.out j hj
        exact ⟨g, off, q1, fun q v hv => (cell_of_same ((HBW.out.trans (hW.mono HBW.out.size)).block g (by omega)) _).trans (q3 q v hv)⟩) hJ)
      (fun h1 h2 => h1.trans h2) (fun W l ob ob' hl _ _ => ⟨World.putObj_heap_other (by omega), fun a l e => World.putObj_heap_other (by have := HAB.out a l e; omega)⟩)
      (DeedI b w (w.heap.size + 1) (SZ + 1)) (by rw [hz8]; exact DeedI.mild (by omega) (by omega))
      ⟨by rw [Nat.sub_zero, List.drop_length]; exact HGD.out, HBW.out, by omega⟩
      (fun j a' W => ∃ g, a' = { tmps := #[.agg #[.slice iq N icap, .int .u8 b.last, .int .i64 b.reg, .int .i64 b.yes, .int .i64 b.no], .int .i64 (k : Int), .pointer (some ⟨w.heap.size, 0, none⟩), undef, .pointer (some ⟨w.heap.size + 1, 0, none⟩), undef, .pointer (some ⟨g, 0, none⟩), undef, undef, .pointer (some ⟨w.heap.size, 1, none⟩), .int .u8 b.last, .bool false, undef, undef, undef, undef, .pointer (some ⟨w.heap.size, 0, none⟩), .slice iq N icap, .int .i64 (k : Int), .slice aq NK cq, .func (.func 45) #[] #[.pointer (some ⟨SZ, 0, none⟩)], .int .i64 ((NK - 1 - j : Nat) : Int), .agg (((b.ins.drop k)[NK - 1 - j]?).getD noI).cells.toArray, undef, undef, undef, undef, undef, undef, undef, undef, undef, undef, undef, undef, undef, undef, undef, undef, undef, undef], defers := [] } ∧ W.heap[g]? = some (.cells (((b.ins.drop k)[NK - 1 - j]?).getD noI).cells.toArray 46 (0, 0)) ∧ SZ + 1 ≤ g)
      ?ay1 ?assign1 ?body1 ?done1
    case ay1 =>
      rintro j a' W l o o' ⟨g, h1, h2, h3⟩ hl ho hn
      exact ⟨g, h1, (World.putObj_heap_other (fun e => by subst e; rw [ho] at h2; cases h2; cases hn)).trans h2, h3⟩
    case assign1 =>
      intro l j W K hI2 hj hK
      obtain ⟨ii, hii⟩ : ∃ ii, ii = ((b.ins.drop k)[NK - 1 - j]?).getD noI := ⟨_, rfl⟩
      unfold backV
      rw [← hii]
      rw [← hii] at hK
      clear hii
      obtain ⟨ik, io, ia, ib, ic, inn⟩ := ii
      unfold In.val
      dsimp only [In.cells] at hK
      have HK := Lib.hid hK
      clear hK
      gi_wp2
      exact HK.out _ _ (KeepsOthers.alloc _ _) ⟨Below.heap_alloc _ _ _ (by have := hI2.2.2; omega), fun a l e => Below.heap_alloc _ _ _ (by have := HAB.out a l e; have := hI2.2.2; omega)⟩
        ⟨(Below.heap_alloc _ _ _ (Array.getElem?_eq_some_iff.1 hI2.1).1).trans hI2.1, hI2.2.1.alloc hI2.2.1.size _, by have := hI2.2.2; simp; omega⟩ ⟨W.heap.size, rfl, (MapKept.heap_alloc _ _).1, hI2.2.2⟩
    case body1 => as_aux_lemma =>
      rintro l j W a' ⟨h1, h3, h5⟩ hj ⟨g, rfl, hg, hgl⟩
      have hNN := HN.out
      have hNK := HNK.out
      obtain ⟨ii, hii⟩ : ∃ ii, ii = ((b.ins.drop k)[NK - 1 - j]?).getD noI := ⟨_, rfl⟩
      have hiB : b.ins[N - 1 - j]? = some ii := by
        rw [hii, List.getElem?_drop, show k + (NK - 1 - j) = N - 1 - j by omega, List.getElem?_eq_getElem (by omega)]; rfl
      rw [← hii] at hg ⊢
      have hfi := HF.out.ins ii (List.mem_of_getElem? hiB)
      have hrw := rg_lt hR hfi.w
      have hr0 := rg_lt hR hfi.r0
      have hr1 := rg_lt hR hfi.r1
      have hr2 := rg_lt hR hfi.r2
      have hstep : deedL b (b.ins.drop (b.ins.length - (j + 1))) = stepD ii (deedL b (b.ins.drop (b.ins.length - j))) := by
        have e1 : b.ins.length - (j + 1) = N - 1 - j := by omega
        have e2 : b.ins.length - j = N - 1 - j + 1 := by omega
        rw [e1, e2]
        exact deedF_step hiB
      have hok := deedL_ok b (b.ins.drop (b.ins.length - j))
      obtain ⟨D, hD⟩ : ∃ D, D = deedL b (b.ins.drop (b.ins.length - j)) := ⟨_, rfl⟩
      rw [← hD] at hstep hok h1
      have HST := Lib.hid hstep
      have HS0 := Lib.hid (show DSt w W (w.heap.size + 1) g SZ NK aq ii D.1 D.2 W from ⟨h1, hg, hok.a, hok.c, h3, .refl _, .refl _ _ _ _, h5, rfl, hSZ2, hgl, HAB.out⟩)
      have HCH := Lib.hid (fun V => (callsIn_wide (n := 3)).2 (changed_any ii V))
      have HAS := Lib.hid (fun V => (callsIn_wide (n := 3)).2 (asked_any ii V))
      have HPA := Lib.hid (fun (A C : List Nat) (V : World) (h : DSt w W (w.heap.size + 1) g SZ NK aq ii A C V) (r : Int) (hr : r = -1 ∨ 0 ≤ r ∧ r < 1024) => (callsIn_wide (n := 3)).2 (h.putA r hr))
      have HPC := Lib.hid (fun (A C : List Nat) (V : World) (h : DSt w W (w.heap.size + 1) g SZ NK aq ii A C V) (r : Int) (hr : r = -1 ∨ 0 ≤ r ∧ r < 1024) => (callsIn_wide (n := 3)).2 (h.putC r hr))
      have HTA := Lib.hid (fun (A C : List Nat) (V : World) (h : DSt w W (w.heap.size + 1) g SZ NK aq ii A C V) (r : Int) (hr : r = -1 ∨ 0 ≤ r ∧ r < 1024) => (callsIn_wide (n := 3)).2 (h.takeA r hr))
      obtain ⟨i0, i1, i2, i3, i4, i5⟩ := HS0.out.six
      have HGL := Lib.hid hgl
      clear h1 h3 hg hstep hok hD hii hiB hfi hNN hNK
      gi_wp2
      refine ⟨trivial, ((HCH.out _).inRound l).mono ?_⟩; rintro e V1 ⟨rfl, hb1⟩
      have HS1 := Lib.hid (HS0.out.below hb1)
      clear hb1 i0 i1 i2 i3 i4 i5
      gi_wp2
      refine ⟨trivial, ((HPC.out _ _ _ HS1.out _ hrw).inRound l).mono ?_⟩; rintro e V2 ⟨rfl, hs2⟩
      have HS2 := Lib.hid hs2
      obtain ⟨i0, i1, i2, i3, i4, i5⟩ := hs2.six
      clear hs2
      gi_wp2
      refine ⟨trivial, ((HCH.out _).inRound l).mono ?_⟩; rintro e V3 ⟨rfl, hb3⟩
      have HS3 := Lib.hid (HS2.out.below hb3)
      clear hb3 i0 i1 i2 i3 i4 i5
      gi_wp2
      refine ⟨trivial, ((HTA.out _ _ _ HS3.out _ hrw).inRound l).mono ?_⟩; rintro e V4 ⟨rfl, hs4⟩
      have HS4 := Lib.hid hs4
      obtain ⟨i0, i1, i2, i3, i4, i5⟩ := hs4.six
      clear hs4
      gi_wp2
      refine ⟨trivial, ((HAS.out _).inRound l).mono ?_⟩; rintro e V5 ⟨rfl, hb5⟩
      have HS5 := Lib.hid (HS4.out.below hb5)
      clear hb5 i0 i1 i2 i3 i4 i5
      obtain ⟨x0, hx0⟩ : ∃ x, x = ask0 ii := ⟨_, rfl⟩
      obtain ⟨x1, hx1⟩ : ∃ x, x = ask1 ii := ⟨_, rfl⟩
      obtain ⟨x2, hx2⟩ : ∃ x, x = ask2 ii := ⟨_, rfl⟩
      unfold askV
      rw [← hx0] at hr0 ⊢
      rw [← hx1] at hr1 ⊢
      rw [← hx2] at hr2 ⊢
      have HX := Lib.hid (show stepD ii D = (putI (putI (putI (takeI D.1 (wrI ii)) x0) x1) x2, putI D.2 (wrI ii)) from by rw [hx0, hx1, hx2]; rfl)
      clear hx0 hx1 hx2
      obtain ⟨AG, hAG⟩ : ∃ A : Array Value, A = #[.int .i64 x0, .int .i64 x1, .int .i64 x2] := ⟨_, rfl⟩
      rw [← hAG]
      have HAG := Lib.hid hAG
      clear hAG
      gi_wp2
      gi_loopw [33] (fun mv wr => ∃ m : Nat, mv = .int .i64 (m : Int) ∧ m ≤ 3 ∧ Hid (DSt w W (w.heap.size + 1) g SZ NK aq ii (([x0, x1, x2].take m).foldl putI (takeI D.1 (wrI ii))) (putI D.2 (wrI ii)) wr)) (fun mv _ => 3 - (intOf mv).toNat)
      case atStart => exact ⟨0, rfl, by omega, HS5⟩
      case round => as_aux_lemma =>
        obtain ⟨m, rfl, hm, HM⟩ := hrel
        rename World => Y
        by_cases hm4 : m = 3
        · subst hm4
          gi_wp2
          refine ⟨HM.out.oth, HM.out.kep, ?_, HM.out.bel, HM.out.siz⟩
          rw [HST.out, HX.out]
          exact HM.out.row
        · have hm3 : (m : Int) < 3 := by omega
          have hm5 : m = 0 ∨ m = 1 ∨ m = 2 := by omega
          obtain ⟨xm, hxm, hrm, k0⟩ : ∃ xm, [x0, x1, x2][m]? = some xm ∧ (xm = -1 ∨ 0 ≤ xm ∧ xm < 1024) ∧ ∀ w, (Instr.index 78 (.agg AG) (.int .i64 (m : Int))).run Tryd.prog w = .ok (.int .i64 xm) w := by
            rw [HAG.out]
            rcases hm5 with rfl | rfl | rfl
            · exact ⟨x0, rfl, hr0, fun _ => by kernel_rfl⟩
            · exact ⟨x1, rfl, hr1, fun _ => by kernel_rfl⟩
            · exact ⟨x2, rfl, hr2, fun _ => by kernel_rfl⟩
          have HF2 := Lib.hid (show ([x0, x1, x2].take (m + 1)).foldl putI (takeI D.1 (wrI ii)) = putI (([x0, x1, x2].take m).foldl putI (takeI D.1 (wrI ii))) xm from by rw [List.take_add_one, hxm]; simp)
          clear hm5 hxm
          gi_wp2
          refine ⟨trivial, ((HPA.out _ _ _ HM.out _ hrm).inRound l).mono ?_⟩; rintro e Y2 ⟨rfl, hs⟩
          have HY2 := Lib.hid hs
          clear hs k0
          gi_wp2
          go_roundw
          case rel => exact ⟨m + 1, by go_num, by omega, Lib.hid (by rw [HF2.out]; exact HY2.out)⟩
          case measure => simp [intOf]; omega
    case done1 => as_aux_lemma =>
      rintro D W hD ⟨h1, h3, h5⟩ hd
      have hNN := HN.out
      have hNK := HNK.out
      rw [show b.ins.length - NK = k by omega] at h1
      have hok := deedF_ok b k
      obtain ⟨C, hC⟩ : ∃ C, C = u64A ((deedF b k).1 ++ (deedF b k).2) := ⟨_, rfl⟩
      have h1 : W.heap[w.heap.size + 1]? = some (.cells C 67 (0, 0)) := by rw [hC]; exact h1
      have hCz : C.size = 32 := by rw [hC, u64A_size, List.length_append, hok.a.len, hok.c.len]
      have hC1 : C.all (·.oneCell') = true := by rw [hC]; exact u64A_one _
      have HCe := Lib.hid (show deedV (deedF b k) = .agg C from by rw [hC]; rfl)
      have HC := Lib.hid (And.intro hCz hC1)
      have H1 := Lib.hid h1
      have H3 := Lib.hid h3
      have HD := Lib.hid hd
      clear hC hCz hC1 h1 h3 hd hok hNN hNK
      go_wp2_with (first
        | (refine wpList_load_row rfl 67 (Operand.tmp 4) rfl (w.heap.size + 1) rfl 67 C (0, 0) _ H1.out Tryd.underlying67 rfl (by rw [HC.out.1]; kernel_rfl) ?_)
        | (refine wpList_put rfl 67 (Operand.tmp 4) (Operand.tmp 40) rfl (w.heap.size + 1) 67 _ C rfl rfl H1.out rfl (by rw [HC.out.1]; kernel_rfl) HC.out.2 ?_))
      intro w5 hp5
      have HP := Lib.hid hp5
      clear hp5
      go_wp2_with fail
      have hUD : w5.heap[D]? = some (.deferred (some [])) := (HP.out.rest D (by omega)).trans HD.out
      refine ⟨by simp, .inl ⟨_, _, rfl, run_takeDeferred hUD, ?_⟩⟩
      refine ⟨.agg C, results_cell_row rfl _ _ (w.heap.size + 1) 67 _ (0, 0) _ rfl ((World.putObj_heap_other (by omega)).trans HP.out.at_b) Tryd.underlying67 rfl (by rw [HC.out.1]; kernel_rfl), ?_⟩
      have hb5 := HP.out.below H3.out (by omega)
      have e9 : (w5.putObj D (.deferred none)).heap.size = w5.heap.size := by simp
      exact ⟨by rw [HCe.out], hb5.os, hb5.tape, hb5.output, by rw [e9]; exact hb5.size, fun g hg => (World.putObj_heap_other (by omega)).trans (hb5.block g hg)⟩
end Go.Proofs.YtgkjhnghibpeoaaDoor
