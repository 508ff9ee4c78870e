/- The law of threads that are looked at one by one, called: it answers true. -/
import Derived.Test.YtgndpcoplkhhgaaGreatDoorRows
import Derived.Test.YtgndpcoplkhhgaaGreatDoorIrCheck
import Derived.Test.YtgndpcoplkhhgaaGreatDoorIrLawP
import Derived.Test.YtgndpcoplkhhgaaGreatDoorIrLawS
import Derived.Test.YtgndpcoplkhhgaaGreatDoorIrSize
import Derived.Test.YtgndpcoplkhhgaaGreatDoorTypMade
import Derived.Test.YtgndpcoplkhhgaaGreatDoorTypSame
import Derived.LoopTactic
import Derived.LoopN
import Derived.Deep.LoopGhost
import Derived.WalkKit
import Derived.WalkSpells
import Derived.WalkLawsBesides
import Derived.Lib.Hide
import Derived.OrdersHeld
import Derived.Deep.RegionHeld
import Derived.Deep.DrawnRows
import Derived.RegionTactic
import Derived.Deep.RegionHeld3
import Derived.IntWalk
namespace Go.Proofs.YtgndpcoplkhhgaaGreatDoor
open Go.RowKit
set_option maxRecDepth 100000
attribute [local go_sem ↓] bld_eq bls_eq

theorem undrew {w z : World} (h : Below w.drew.heap.size w.drew z) : Below w.heap.size w z := ⟨h.os, h.tape, h.output, h.size, h.block⟩
set_option maxHeartbeats 64000000 in
theorem threads_law (HA : ∀ w, Calls Tryz.prog 7 #[] w fun e w' => e = .returned (.bool true) ∧ Below w.heap.size w w') (c : Cd) (w : World) (hI : CIn w w.heap.size c) (hcap : ∃ ao n cap, c.tv = .slice ao n cap ∧ n ≤ cap) :
    Calls Tryz.prog 3 #[.agg #[.int .i64 c.words, c.tv]] w fun e w' => e = .returned (.bool true) ∧ Below w.heap.size w w' := by
  have HA := Lib.hid HA
  have hW := hI.words
  obtain ⟨bo, bcp, eb, hbl, hbg⟩ := hI.tlies.form
  have hr4 := hI.tlies.room
  have HTL := Lib.hid hI.tlies
  have HTI := Lib.hid hI.threads
  have HI := Lib.hid hI
  have hcp : c.threads.length ≤ bcp := by
    obtain ⟨ao, n, cap, h1, h2⟩ := hcap
    rw [eb] at h1
    cases h1
    exact h2
  clear hI hcap
  obtain ⟨WD, tv, threads⟩ := c
  simp only at *
  subst eb
  obtain ⟨N, hN⟩ : ∃ N, N = threads.length := ⟨_, rfl⟩
  rw [← hN] at hbl hbg HTL hr4 hcp
  have HCS := Lib.hid (fun (u : World) (hu : Below w.heap.size w u) => csize_any w.heap.size _ u (HI.out.keeps hu) hu.size)
  have HCK := Lib.hid (fun (u : World) (hu : Below w.heap.size w u) => check_any w.heap.size _ u (HI.out.keeps hu) hu.size)
  have HC2 := Lib.hid (fun (l : List Gr) (s : Value) (u : World) (hu : Below w.heap.size w u) (hl : LiesG Gr.cells 3 u w.heap.size s l) (hs : ∀ g ∈ l, g ∈ threads) => check_any w.heap.size ⟨WD, s, l⟩ u ⟨hW, hl, fun g hg => (HTI.out g (hs g hg)).keeps hu⟩ hu.size)
  rw [← hN] at HCS HCK ⊢
  obtain ⟨W0, hW0⟩ : ∃ W0, W0 = w.alloc (.cells #[.int .i64 WD, .slice bo N bcp] 24) := ⟨_, rfl⟩
  have hz0 : W0.heap.size = w.heap.size + 1 := by rw [hW0]; simp
  have hB0 : Below w.heap.size w W0 := by rw [hW0]; exact below_box w _
  have hG0 : W0.heap[w.heap.size]? = some (.cells #[.int .i64 WD, .slice bo N bcp] 24 (0, 0)) := by rw [hW0]; exact (MapKept.heap_alloc _ _).1
  have HGQ := Lib.hid (fun (u : World) (hu : Below W0.heap.size W0 u) => own2 ((hu.block w.heap.size (by omega)).trans hG0))
  have HBW := Lib.hid (fun (u : World) (hu : Below W0.heap.size W0 u) => hB0.trans (hu.mono (show w.heap.size ≤ W0.heap.size by omega)))
  obtain ⟨q0, q1⟩ := own2 hG0
  have e1 := bld_of 28 #[] #[.int .i64 0, .int .i64 0] (by kernel_rfl)
  have e2 := fun (x : Int) (s : Value) (hs : True) => trivial
  have e3 := made_int
  have eqs := eq_spot
  have nes := ne_spot
  have HN := Lib.hid hN
  have HG2 := Lib.hid hbg
  have HZ0 := Lib.hid hz0
  have HC1 := Lib.hid (HCS.out W0 hB0)
  have HW0 := Lib.hid hW0
  rw [hW0] at q0 q1
  clear hN hbg hB0 hG0 hW0 e2 hz0
  go_enter Tryz.func3, Tryz.ntmps3
  go_wp2_with fail
  rw [← HW0.out]
  clear q0 q1
  refine HC1.out.mono ?_; rintro e u1 ⟨⟨n1, rfl, hn0, hn1⟩, hb1⟩
  have hU1 : Below W0.heap.size W0 u1 := hb1
  have HU1 := Lib.hid hU1
  obtain ⟨u2, hu2⟩ : ∃ u2, u2 = u1.alloc (.cells #[.int .i64 n1] 3) := ⟨_, rfl⟩
  have hb2 : Below u1.heap.size u1 u2 := by rw [hu2]; exact below_box u1 _
  have hU2 := hU1.trans (hb2.mono hU1.size)
  have HBY := Lib.hid (beyond_any u1.heap.size n1 _ _ u2 hn0 hn1 (by rw [hu2]; exact (MapKept.heap_alloc _ _).1))
  have HW2 := Lib.hid hu2
  obtain ⟨q0, q1⟩ := HGQ.out u2 hU2
  have HU2 := Lib.hid hU2
  have hs2 : w.heap.size < u2.heap.size := by have := hU2.size; have := HZ0.out; omega
  clear hb1 hU1 hb2 hU2 hu2 hn0 hn1
  go_wp2_with fail
  rw [← HW2.out]
  refine HBY.out.mono ?_; rintro e u3 ⟨rfl, rfl⟩
  by_cases hn : 262144 < n1
  · rw [decide_eq_true hn]
    go_wp2_with fail
    go_ret
    exact ⟨rfl, HBW.out _ HU2.out⟩
  · rw [decide_eq_false hn]
    have HCC := Lib.hid (HCK.out u2 (HBW.out _ HU2.out))
    clear hn
    go_wp2_with fail
    refine HCC.out.mono ?_; rintro e u4 ⟨rfl, hb4⟩
    obtain ⟨⟨tY, ⟨aY, kY⟩, eY⟩, hY⟩ : ∃ r, checkC WD threads = r := ⟨_, rfl⟩
    simp only [hY, ckV]
    have HY := Lib.hid hY
    obtain ⟨u5, hu5⟩ : ∃ u5, u5 = u4.alloc (.cells #[.int .i64 (aY : Int), .int .i64 (kY : Int)] 28) := ⟨_, rfl⟩
    have hb5 : Below u4.heap.size u4 u5 := by rw [hu5]; exact below_box u4 _
    have hS5 : u5.heap[u4.heap.size]? = some (.cells #[.int .i64 (aY : Int), .int .i64 (kY : Int)] 28 (0, 0)) := by rw [hu5]; exact (MapKept.heap_alloc _ _).1
    have hU4 := HU2.out.trans (hb4.mono HU2.out.size)
    have hU5 := hU4.trans (hb5.mono hU4.size)
    have HW5 := Lib.hid hu5
    have HU5 := Lib.hid hU5
    have HU4 := Lib.hid hU4
    have HS5 := Lib.hid hS5
    have hz5 : u5.heap.size = u4.heap.size + 1 := by rw [hu5]; simp
    have hs4 : w.heap.size < u4.heap.size := by have := hU4.size; have := HZ0.out; omega
    have hs5 : u4.heap.size < u5.heap.size := by omega
    have hs6 : w.heap.size < u5.heap.size := by omega
    obtain ⟨v0, v1⟩ := HGQ.out u5 hU5
    obtain ⟨q0, q1⟩ := HGQ.out u4 hU4
    obtain ⟨t0, t1⟩ := own2 hS5
    have T0 := Lib.hid t0
    have T1 := Lib.hid t1
    obtain ⟨s4, hs4e⟩ : ∃ s4, s4 = u4.heap.size := ⟨_, rfl⟩
    by_cases hbad : WD < 0 ∨ 65536 < WD ∨ 4 < N
    · obtain ⟨e5, he5, hYe⟩ := checkC_out (W := WD) (l := threads) (by rw [← HN.out]; exact hbad)
      rw [hY] at hYe
      cases hYe
      have he2 : (eY != 0) = true := by simp only [bne_iff_ne, ne_eq]; exact he5
      clear hb4 hb5 hS5 hU4 hU5 hu5 hY he5
      have hor : WD < 0 ∨ (0 ≤ WD ∧ 65536 < WD) ∨ (0 ≤ WD ∧ WD ≤ 65536 ∧ 4 < N) := by omega
      clear hbad v0 v1 t0 t1
      rcases hor with h1 | ⟨h0, h1⟩ | ⟨h0, h1, h2⟩
      all_goals
        go_wp2_with fail
        refine (HA.out _).mono ?_; rintro e w9 ⟨rfl, hb9⟩
        go_wp2_with fail
        go_ret
        exact ⟨rfl, ((HBW.out _ HU4.out).alloc (Nat.le_of_lt hs4) _).trans (hb9.mono (by simp; omega))⟩
    · have hw0 : 0 ≤ WD := by omega
      have hw1 : WD ≤ 65536 := by omega
      have hn4 : N ≤ 4 := by omega
      have hAsk := Lib.hid (fun (i : Nat) (g : Gr) (hg : threads[i]? = some g) => asked hw0 hw1 (by rw [← HN.out]; exact hn4) i g hg)
      rw [hY] at hAsk
      clear hbad hb4 hb5 hS5 hU4 hU5 hu5 hY t0 t1 v0 v1
      go_wp2_with fail
      rw [← HW5.out]
      clear q0 q1
      go_loopw [6] (fun q wr => ∃ i : Nat, i ≤ N ∧ q = .int .i64 i ∧ Below u5.heap.size u5 wr) (fun q _ => N - (intOf q).toNat)
      case atStart => exact ⟨0, Nat.zero_le _, rfl, Below.refl _ _⟩
      case round =>
        obtain ⟨i, hi, rfl, hB⟩ := hrel
        rename World => U
        have hzU := hB.size
        have hBU := HU5.out.trans (hB.mono HU5.out.size)
        obtain ⟨q0, q1⟩ := HGQ.out U hBU
        have hsU : w.heap.size < U.heap.size := by omega
        by_cases hlt : i < N
        · obtain ⟨g0, off, rfl, hg0⟩ := HG2.out (by omega)
          have hpx : i < threads.length := by rw [← HN.out]; exact hlt
          obtain ⟨g, hgx⟩ : ∃ g, threads[i]? = some g := ⟨_, List.getElem?_eq_getElem hpx⟩
          have hA := hAsk.out i g hgx
          obtain ⟨⟨uu, ⟨a1, k1⟩, x1⟩, hr1⟩ : ∃ r, checkC WD [g] = r := ⟨_, rfl⟩
          obtain ⟨⟨vv, ⟨a2, k2⟩, x2⟩, hr2⟩ : ∃ r, checkC WD (threads.take (i + 1)) = r := ⟨_, rfl⟩
          rw [hr1, hr2] at hA
          obtain ⟨h00, hA⟩ := hA
          have huu : uu = 0 := h00
          subst huu
          clear h00
          have HD1 := Lib.hid (fun (u : World) (hu : Below w.heap.size w u) => HC2.out [g] (.slice (some ⟨g0, off + i * 3, none⟩) 1 (bcp - i)) u hu ((HTL.out.below hu).one i g hgx (bcp - i)) (fun x hx => by rw [List.mem_singleton.1 hx]; exact List.mem_of_getElem? hgx))
          have HD2 := Lib.hid (fun (u : World) (hu : Below w.heap.size w u) => HC2.out (threads.take (i + 1)) (.slice (some ⟨g0, off, none⟩) (i + 1) bcp) u hu ((HTL.out.below hu).first i hpx bcp) (fun x hx => List.mem_of_mem_take hx))
          simp only [hr1] at HD1
          simp only [hr2] at HD2
          have HAA := Lib.hid hA
          have HGX := Lib.hid hgx
          have HUB := Lib.hid hBU
          have HUR := Lib.hid hB
          have e7 := fun (b l cc : Nat) (oo : Nat) => bld_of 24 #[(0, .int .i64 WD), (1, .slice (some ⟨b, oo, none⟩) l cc)] #[.int .i64 WD, .slice (some ⟨b, oo, none⟩) l cc] (by kernel_rfl)
          have hib : i < bcp := by omega
          have hib1 : i + 1 ≤ bcp := by omega
          have hwr : IntKind.wrap .i64 ((i : Int) + 1) = (i : Int) + 1 := IntWalk.i64_in _ (by first | omega | (simp; omega) | (constructor <;> omega))
          have hs1 := slice_one g0 off N bcp i hlt hcp hr4
          have hs2' := slice_first g0 off N bcp i hlt hcp hr4
          have hck1 : ckV (0, (a1, k1), x1) = .tuple #[.int .i64 0, .agg #[.int .i64 (a1 : Int), .int .i64 (k1 : Int)], .int .i64 x1] := rfl
          have hck2 : ckV (vv, (a2, k2), x2) = .tuple #[.int .i64 (vv : Int), .agg #[.int .i64 (a2 : Int), .int .i64 (k2 : Int)], .int .i64 x2] := rfl
          clear hA hgx hr1 hr2 hBU hB
          go_wp2_with fail
          refine wp_region_held_drew (S := SameTo (U.heap.size) U) (by kernel_rfl) (SameTo.drew _ _) (fun hSw => ?_)
          refine wpAnyH_take (i := 0) (oi := { dst := some 59, op := Op.fieldAddr 24 (Operand.tmp 1) 0, type := 0, pos := "law.go:78", after := #[], guard := none }) (v := .pointer (some ⟨w.heap.size, 0, none⟩)) rfl (by kernel_rfl) (by kernel_rfl) (by kernel_rfl) (fun _ _ _ h => h) (Or.inl ⟨by rfl, fun W hW => ?_⟩) hSw ?_
          · first | (go_simp; done) | rfl
          try simp only [Act.put, List.setIfInBounds_toArray, List.set_cons_zero, List.set_cons_succ]
          refine wpAnyH_take (i := 1) (oi := { dst := some 60, op := Op.load 3 (Operand.tmp 59), type := 3, pos := "law.go:78", after := #[{ on := 0, ground := Ground.data }], guard := none }) (v := .int .i64 WD) rfl (by kernel_rfl) (by kernel_rfl) (by kernel_rfl) (fun _ _ _ h => h) (Or.inl ⟨by rfl, fun W hW => ?_⟩) hSw ?_
          · have q0 := hW.cell (by dsimp only; omega) q0
            first | (go_simp; done) | rfl
          try simp only [Act.put, List.setIfInBounds_toArray, List.set_cons_zero, List.set_cons_succ]
          refine wpAnyH_take (i := 2) (oi := { dst := some 61, op := Op.fieldAddr 24 (Operand.tmp 1) 1, type := 0, pos := "law.go:78", after := #[], guard := none }) (v := .pointer (some ⟨w.heap.size, 1, none⟩)) rfl (by kernel_rfl) (by kernel_rfl) (by kernel_rfl) (fun _ _ _ h => h) (Or.inl ⟨by rfl, fun W hW => ?_⟩) hSw ?_
          · first | (go_simp; done) | rfl
          try simp only [Act.put, List.setIfInBounds_toArray, List.set_cons_zero, List.set_cons_succ]
          refine wpAnyH_take (i := 3) (oi := { dst := some 62, op := Op.load 22 (Operand.tmp 61), type := 22, pos := "law.go:78", after := #[{ on := 2, ground := Ground.data }], guard := none }) (v := .slice (some ⟨g0, off, none⟩) N bcp) rfl (by kernel_rfl) (by kernel_rfl) (by kernel_rfl) (fun _ _ _ h => h) (Or.inl ⟨by rfl, fun W hW => ?_⟩) hSw ?_
          · have q1 := hW.cell (by dsimp only; omega) q1
            first | (go_simp; done) | rfl
          try simp only [Act.put, List.setIfInBounds_toArray, List.set_cons_zero, List.set_cons_succ]
          refine wpAnyH_take (i := 4) (oi := { dst := some 63, op := Op.move (Operand.tmp 6), type := 3, pos := "law.go:78", after := #[], guard := none }) (v := .int .i64 (i : Int)) rfl (by kernel_rfl) (by kernel_rfl) (by kernel_rfl) (fun _ _ _ h => h) (Or.inl ⟨by rfl, fun W hW => ?_⟩) hSw ?_
          · first | (go_simp; done) | rfl
          try simp only [Act.put, List.setIfInBounds_toArray, List.set_cons_zero, List.set_cons_succ]
          refine wpAnyH_take (i := 5) (oi := { dst := some 64, op := Op.move (Operand.tmp 6), type := 3, pos := "law.go:78", after := #[], guard := none }) (v := .int .i64 (i : Int)) rfl (by kernel_rfl) (by kernel_rfl) (by kernel_rfl) (fun _ _ _ h => h) (Or.inl ⟨by rfl, fun W hW => ?_⟩) hSw ?_
          · first | (go_simp; done) | rfl
          try simp only [Act.put, List.setIfInBounds_toArray, List.set_cons_zero, List.set_cons_succ]
          refine wpAnyH_take (i := 6) (oi := { dst := some 65, op := Op.binOp BinOp.add 3 (Operand.tmp 64) (Operand.const (Value.int IntKind.i64 1)) 3, type := 3, pos := "law.go:78", after := #[{ on := 5, ground := Ground.data }], guard := none }) (v := .int .i64 ((i : Int) + 1)) rfl (by kernel_rfl) (by kernel_rfl) (by kernel_rfl) (fun _ _ _ h => h) (Or.inl ⟨by rfl, fun W hW => ?_⟩) hSw ?_
          · first | (go_simp; done) | rfl
          try simp only [Act.put, List.setIfInBounds_toArray, List.set_cons_zero, List.set_cons_succ]
          refine wpAnyH_take (i := 7) (oi := { dst := some 66, op := Op.slice 22 (Operand.tmp 62) (some (Operand.tmp 63)) (some (Operand.tmp 65)) none, type := 22, pos := "law.go:78", after := #[{ on := 3, ground := Ground.data }, { on := 4, ground := Ground.data }, { on := 6, ground := Ground.data }], guard := none }) (v := .slice (some ⟨g0, off + i * 3, none⟩) 1 (bcp - i)) rfl (by kernel_rfl) (by kernel_rfl) (by kernel_rfl) (fun _ _ _ h => h) (Or.inl ⟨by rfl, fun W hW => ?_⟩) hSw ?_
          · (have hs := hs1 W; go_simp)
          try simp only [Act.put, List.setIfInBounds_toArray, List.set_cons_zero, List.set_cons_succ]
          refine wpAnyH_take (i := 8) (oi := { dst := some 67, op := Op.build 24 #[(0, Operand.tmp 60), (1, Operand.tmp 66)], type := 24, pos := "law.go:78", after := #[{ on := 1, ground := Ground.data }, { on := 7, ground := Ground.data }], guard := none }) (v := .agg #[.int .i64 WD, .slice (some ⟨g0, off + i * 3, none⟩) 1 (bcp - i)]) rfl (by kernel_rfl) (by kernel_rfl) (by kernel_rfl) (fun _ _ _ h => h) (Or.inl ⟨by rfl, fun W hW => ?_⟩) hSw ?_
          · have e7x := e7 g0 1 (bcp - i) (off + i * 3); first | (go_simp; done) | rfl
          try simp only [Act.put, List.setIfInBounds_toArray, List.set_cons_zero, List.set_cons_succ]
          refine wpAnyH_ready (rs := [9, 14]) (by kernel_rfl) (by simp) ?_
          refine AllReadyH.cons (o := { dst := some 68, op := Op.call { callee := Callee.value (Operand.func 6), args := #[Operand.tmp 67], argTypes := #[24] }, type := 30, pos := "law.go:78", after := #[{ on := 8, ground := Ground.data }], guard := none }) rfl (fun K hK => ?_) (AllReadyH.cons (o := { dst := some 8, op := Op.alloc 28, type := 0, pos := "law.go:78", after := #[], guard := none }) rfl (fun K hK => ?_) AllReadyH.nil)
          · rw [if_pos (by rfl)]
            clear hSw
            go_simp
            refine (HD1.out _ ((HBW.out _ HUB.out).drew)).mono ?_; rintro e za ⟨rfl, hbza⟩
            rw [hck1]
            refine hK.out _ _ (fun k hk => hbza.block k hk) (fun hSw => ?_)
            clear hK K
            try simp only [Act.put, List.setIfInBounds_toArray, List.set_cons_zero, List.set_cons_succ]
            have hzza : U.heap.size ≤ za.heap.size := hbza.size
            refine wpAnyH_take (i := 10) (oi := { dst := some 58, op := Op.move (Operand.tmp 68), type := 30, pos := "law.go:78", after := #[{ on := 9, ground := Ground.data }], guard := none }) (v := .tuple #[.int .i64 0, .agg #[.int .i64 (a1 : Int), .int .i64 (k1 : Int)], .int .i64 x1]) rfl (by kernel_rfl) (by kernel_rfl) (by kernel_rfl) (fun _ _ _ h => h) (Or.inl ⟨by rfl, fun W hW => ?_⟩) hSw ?_
            · first | (go_simp; done) | rfl
            try simp only [Act.put, List.setIfInBounds_toArray, List.set_cons_zero, List.set_cons_succ]
            refine wpAnyH_take (i := 11) (oi := { dst := some 69, op := Op.extract (Operand.tmp 58) 0, type := 3, pos := "law.go:78", after := #[{ on := 10, ground := Ground.data }], guard := none }) (v := .int .i64 0) rfl (by kernel_rfl) (by kernel_rfl) (by kernel_rfl) (fun _ _ _ h => h) (Or.inl ⟨by rfl, fun W hW => ?_⟩) hSw ?_
            · first | (go_simp; done) | rfl
            try simp only [Act.put, List.setIfInBounds_toArray, List.set_cons_zero, List.set_cons_succ]
            refine wpAnyH_take (i := 12) (oi := { dst := some 70, op := Op.extract (Operand.tmp 58) 1, type := 28, pos := "law.go:78", after := #[{ on := 10, ground := Ground.data }, { on := 15, ground := Ground.gcOnly Departure.lateStores }], guard := none }) (v := .agg #[.int .i64 (a1 : Int), .int .i64 (k1 : Int)]) rfl (by kernel_rfl) (by kernel_rfl) (by kernel_rfl) (fun _ _ _ h => h) (Or.inl ⟨by rfl, fun W hW => ?_⟩) hSw ?_
            · first | (go_simp; done) | rfl
            try simp only [Act.put, List.setIfInBounds_toArray, List.set_cons_zero, List.set_cons_succ]
            refine wpAnyH_take (i := 13) (oi := { dst := some 71, op := Op.extract (Operand.tmp 58) 2, type := 29, pos := "law.go:78", after := #[{ on := 10, ground := Ground.data }, { on := 16, ground := Ground.gcOnly Departure.lateStores }], guard := none }) (v := .int .i64 x1) rfl (by kernel_rfl) (by kernel_rfl) (by kernel_rfl) (fun _ _ _ h => h) (Or.inl ⟨by rfl, fun W hW => ?_⟩) hSw ?_
            · first | (go_simp; done) | rfl
            try simp only [Act.put, List.setIfInBounds_toArray, List.set_cons_zero, List.set_cons_succ]
            refine wpAnyH_ready (rs := [14]) (by kernel_rfl) (by simp) ?_
            refine AllReadyH.cons (o := { dst := some 8, op := Op.alloc 28, type := 0, pos := "law.go:78", after := #[], guard := none }) rfl (fun K hK => ?_) AllReadyH.nil
            rw [if_pos (by rfl)]
            clear hSw
            go_simp
            
            refine hK.out _ _ (fun k hk => (Below.heap_alloc _ _ _ (by omega)).trans (hbza.block k hk)) (fun hSw => ?_)
            clear hK K
            try simp only [Act.put, List.setIfInBounds_toArray, List.set_cons_zero, List.set_cons_succ]
            refine wpAnyH_take (i := 15) (oi := { dst := some 7, op := Op.assign (Operand.tmp 69), type := 3, pos := "law.go:78", after := #[{ on := 11, ground := Ground.data }, { on := 9, ground := Ground.chain }, { on := 0, ground := Ground.phase }, { on := 1, ground := Ground.phase }, { on := 2, ground := Ground.phase }, { on := 3, ground := Ground.phase }, { on := 4, ground := Ground.phase }, { on := 5, ground := Ground.phase }, { on := 6, ground := Ground.phase }, { on := 7, ground := Ground.phase }, { on := 8, ground := Ground.phase }, { on := 9, ground := Ground.phase }, { on := 10, ground := Ground.phase }, { on := 11, ground := Ground.phase }, { on := 12, ground := Ground.textOnly Departure.lateStores }, { on := 13, ground := Ground.textOnly Departure.lateStores }, { on := 14, ground := Ground.phase }], guard := none }) (v := .int .i64 0) rfl (by kernel_rfl) (by kernel_rfl) (by kernel_rfl) (fun _ _ _ h => h) (Or.inl ⟨by rfl, fun W hW => ?_⟩) hSw ?_
            · first | (go_simp; done) | rfl
            try simp only [Act.put, List.setIfInBounds_toArray, List.set_cons_zero, List.set_cons_succ]
            refine wpAnyH_ready (rs := [16]) (by kernel_rfl) (by simp) ?_
            refine AllReadyH.cons (o := { dst := none, op := Op.store 28 (Operand.tmp 8) (Operand.tmp 70), type := 0, pos := "law.go:78", after := #[{ on := 14, ground := Ground.data }, { on := 12, ground := Ground.data }, { on := 15, ground := Ground.chain }, { on := 0, ground := Ground.phase }, { on := 1, ground := Ground.phase }, { on := 2, ground := Ground.phase }, { on := 3, ground := Ground.phase }, { on := 4, ground := Ground.phase }, { on := 5, ground := Ground.phase }, { on := 6, ground := Ground.phase }, { on := 7, ground := Ground.phase }, { on := 8, ground := Ground.phase }, { on := 9, ground := Ground.phase }, { on := 10, ground := Ground.phase }, { on := 11, ground := Ground.phase }, { on := 12, ground := Ground.phase }, { on := 13, ground := Ground.textOnly Departure.lateStores }, { on := 14, ground := Ground.phase }, { on := 15, ground := Ground.phase }], guard := none }) rfl (fun K hK => ?_) AllReadyH.nil
            rw [if_pos (by rfl)]
            clear hSw
            go_simp
            
            refine hK.out _ _ (fun k hk => (Below.heap_alloc _ _ _ (by omega)).trans (hbza.block k hk)) (fun hSw => ?_)
            clear hK K
            try simp only [Act.put, List.setIfInBounds_toArray, List.set_cons_zero, List.set_cons_succ]
            refine wpAnyH_take (i := 17) (oi := { dst := some 9, op := Op.assign (Operand.tmp 71), type := 29, pos := "law.go:78", after := #[{ on := 13, ground := Ground.data }, { on := 16, ground := Ground.chain }, { on := 0, ground := Ground.phase }, { on := 1, ground := Ground.phase }, { on := 2, ground := Ground.phase }, { on := 3, ground := Ground.phase }, { on := 4, ground := Ground.phase }, { on := 5, ground := Ground.phase }, { on := 6, ground := Ground.phase }, { on := 7, ground := Ground.phase }, { on := 8, ground := Ground.phase }, { on := 9, ground := Ground.phase }, { on := 10, ground := Ground.phase }, { on := 11, ground := Ground.phase }, { on := 12, ground := Ground.phase }, { on := 13, ground := Ground.phase }, { on := 14, ground := Ground.phase }, { on := 15, ground := Ground.phase }, { on := 16, ground := Ground.phase }], guard := none }) (v := .int .i64 x1) rfl (by kernel_rfl) (by kernel_rfl) (by kernel_rfl) (fun _ _ _ h => h) (Or.inl ⟨by rfl, fun W hW => ?_⟩) hSw ?_
            · first | (go_simp; done) | rfl
            try simp only [Act.put, List.setIfInBounds_toArray, List.set_cons_zero, List.set_cons_succ]
            refine wpAnyH_done (by kernel_rfl) ?_ _
            obtain ⟨Z1, hZ⟩ : ∃ Z, Z = za.alloc (.cells #[.int .i64 (a1 : Int), .int .i64 (k1 : Int)] 28) := ⟨_, rfl⟩
            rw [← hZ]
            have hBZ : Below U.heap.size U Z1 := by rw [hZ]; exact (undrew hbza).alloc hzza _
            have hSZ : Z1.heap[za.heap.size]? = some (.cells #[.int .i64 (a1 : Int), .int .i64 (k1 : Int)] 28 (0, 0)) := by rw [hZ]; exact (MapKept.heap_alloc _ _).1
            obtain ⟨s1, hs⟩ : ∃ s, s = za.heap.size := ⟨_, rfl⟩
            rw [← hs] at hSZ ⊢
            have hsb : U.heap.size ≤ s1 := by rw [hs]; exact hzza
            clear hZ hs hbza hzza
            have hZU := HUB.out.trans (hBZ.mono HUB.out.size)
            have HZU := Lib.hid hZU
            have HBZ1 := Lib.hid hBZ
            have HSZ1 := Lib.hid hSZ
            clear q0 q1
            obtain ⟨q0, q1⟩ := HGQ.out _ hZU
            have hsZ : w.heap.size < Z1.heap.size := by have := hBZ.size; omega
            have hs1Z : s1 < Z1.heap.size := (Array.getElem?_eq_some_iff.1 hSZ).1
            clear hBZ hSZ hZU
            go_wp2_with fail
            refine wp_region_held_drew (S := SameTo (Z1.heap.size) Z1) (by kernel_rfl) (SameTo.drew _ _) (fun hSw => ?_)
            refine wpAnyH_take (i := 0) (oi := { dst := some 73, op := Op.fieldAddr 24 (Operand.tmp 1) 0, type := 0, pos := "law.go:79", after := #[], guard := none }) (v := .pointer (some ⟨w.heap.size, 0, none⟩)) rfl (by kernel_rfl) (by kernel_rfl) (by kernel_rfl) (fun _ _ _ h => h) (Or.inl ⟨by rfl, fun W hW => ?_⟩) hSw ?_
            · first | (go_simp; done) | rfl
            try simp only [Act.put, List.setIfInBounds_toArray, List.set_cons_zero, List.set_cons_succ]
            refine wpAnyH_take (i := 1) (oi := { dst := some 74, op := Op.load 3 (Operand.tmp 73), type := 3, pos := "law.go:79", after := #[{ on := 0, ground := Ground.data }], guard := none }) (v := .int .i64 WD) rfl (by kernel_rfl) (by kernel_rfl) (by kernel_rfl) (fun _ _ _ h => h) (Or.inl ⟨by rfl, fun W hW => ?_⟩) hSw ?_
            · have q0 := hW.cell (by dsimp only; omega) q0
              first | (go_simp; done) | rfl
            try simp only [Act.put, List.setIfInBounds_toArray, List.set_cons_zero, List.set_cons_succ]
            refine wpAnyH_take (i := 2) (oi := { dst := some 75, op := Op.fieldAddr 24 (Operand.tmp 1) 1, type := 0, pos := "law.go:79", after := #[], guard := none }) (v := .pointer (some ⟨w.heap.size, 1, none⟩)) rfl (by kernel_rfl) (by kernel_rfl) (by kernel_rfl) (fun _ _ _ h => h) (Or.inl ⟨by rfl, fun W hW => ?_⟩) hSw ?_
            · first | (go_simp; done) | rfl
            try simp only [Act.put, List.setIfInBounds_toArray, List.set_cons_zero, List.set_cons_succ]
            refine wpAnyH_take (i := 3) (oi := { dst := some 76, op := Op.load 22 (Operand.tmp 75), type := 22, pos := "law.go:79", after := #[{ on := 2, ground := Ground.data }], guard := none }) (v := .slice (some ⟨g0, off, none⟩) N bcp) rfl (by kernel_rfl) (by kernel_rfl) (by kernel_rfl) (fun _ _ _ h => h) (Or.inl ⟨by rfl, fun W hW => ?_⟩) hSw ?_
            · have q1 := hW.cell (by dsimp only; omega) q1
              first | (go_simp; done) | rfl
            try simp only [Act.put, List.setIfInBounds_toArray, List.set_cons_zero, List.set_cons_succ]
            refine wpAnyH_take (i := 4) (oi := { dst := some 77, op := Op.move (Operand.tmp 6), type := 3, pos := "law.go:79", after := #[], guard := none }) (v := .int .i64 (i : Int)) rfl (by kernel_rfl) (by kernel_rfl) (by kernel_rfl) (fun _ _ _ h => h) (Or.inl ⟨by rfl, fun W hW => ?_⟩) hSw ?_
            · first | (go_simp; done) | rfl
            try simp only [Act.put, List.setIfInBounds_toArray, List.set_cons_zero, List.set_cons_succ]
            refine wpAnyH_take (i := 5) (oi := { dst := some 78, op := Op.binOp BinOp.add 3 (Operand.tmp 77) (Operand.const (Value.int IntKind.i64 1)) 3, type := 3, pos := "law.go:79", after := #[{ on := 4, ground := Ground.data }], guard := none }) (v := .int .i64 ((i : Int) + 1)) rfl (by kernel_rfl) (by kernel_rfl) (by kernel_rfl) (fun _ _ _ h => h) (Or.inl ⟨by rfl, fun W hW => ?_⟩) hSw ?_
            · first | (go_simp; done) | rfl
            try simp only [Act.put, List.setIfInBounds_toArray, List.set_cons_zero, List.set_cons_succ]
            refine wpAnyH_take (i := 6) (oi := { dst := some 79, op := Op.slice 22 (Operand.tmp 76) none (some (Operand.tmp 78)) none, type := 22, pos := "law.go:79", after := #[{ on := 3, ground := Ground.data }, { on := 5, ground := Ground.data }], guard := none }) (v := .slice (some ⟨g0, off, none⟩) (i + 1) bcp) rfl (by kernel_rfl) (by kernel_rfl) (by kernel_rfl) (fun _ _ _ h => h) (Or.inl ⟨by rfl, fun W hW => ?_⟩) hSw ?_
            · (have hs := hs2' W; go_simp)
            try simp only [Act.put, List.setIfInBounds_toArray, List.set_cons_zero, List.set_cons_succ]
            refine wpAnyH_take (i := 7) (oi := { dst := some 80, op := Op.build 24 #[(0, Operand.tmp 74), (1, Operand.tmp 79)], type := 24, pos := "law.go:79", after := #[{ on := 1, ground := Ground.data }, { on := 6, ground := Ground.data }], guard := none }) (v := .agg #[.int .i64 WD, .slice (some ⟨g0, off, none⟩) (i + 1) bcp]) rfl (by kernel_rfl) (by kernel_rfl) (by kernel_rfl) (fun _ _ _ h => h) (Or.inl ⟨by rfl, fun W hW => ?_⟩) hSw ?_
            · have e7x := e7 g0 (i + 1) bcp off; first | (go_simp; done) | rfl
            try simp only [Act.put, List.setIfInBounds_toArray, List.set_cons_zero, List.set_cons_succ]
            refine wpAnyH_ready (rs := [8, 13]) (by kernel_rfl) (by simp) ?_
            refine AllReadyH.cons (o := { dst := some 81, op := Op.call { callee := Callee.value (Operand.func 6), args := #[Operand.tmp 80], argTypes := #[24] }, type := 30, pos := "law.go:79", after := #[{ on := 7, ground := Ground.data }], guard := none }) rfl (fun K hK => ?_) (AllReadyH.cons (o := { dst := some 11, op := Op.alloc 28, type := 0, pos := "law.go:79", after := #[], guard := none }) rfl (fun K hK => ?_) AllReadyH.nil)
            · rw [if_pos (by rfl)]
              clear hSw
              go_simp
              refine (HD2.out _ ((HBW.out _ HZU.out).drew)).mono ?_; rintro e ya ⟨rfl, hbya⟩
              rw [hck2]
              refine hK.out _ _ (fun k hk => hbya.block k hk) (fun hSw => ?_)
              clear hK K
              try simp only [Act.put, List.setIfInBounds_toArray, List.set_cons_zero, List.set_cons_succ]
              have hzya : Z1.heap.size ≤ ya.heap.size := hbya.size
              refine wpAnyH_take (i := 9) (oi := { dst := some 72, op := Op.move (Operand.tmp 81), type := 30, pos := "law.go:79", after := #[{ on := 8, ground := Ground.data }], guard := none }) (v := .tuple #[.int .i64 (vv : Int), .agg #[.int .i64 (a2 : Int), .int .i64 (k2 : Int)], .int .i64 x2]) rfl (by kernel_rfl) (by kernel_rfl) (by kernel_rfl) (fun _ _ _ h => h) (Or.inl ⟨by rfl, fun W hW => ?_⟩) hSw ?_
              · first | (go_simp; done) | rfl
              try simp only [Act.put, List.setIfInBounds_toArray, List.set_cons_zero, List.set_cons_succ]
              refine wpAnyH_take (i := 10) (oi := { dst := some 82, op := Op.extract (Operand.tmp 72) 0, type := 3, pos := "law.go:79", after := #[{ on := 9, ground := Ground.data }], guard := none }) (v := .int .i64 (vv : Int)) rfl (by kernel_rfl) (by kernel_rfl) (by kernel_rfl) (fun _ _ _ h => h) (Or.inl ⟨by rfl, fun W hW => ?_⟩) hSw ?_
              · first | (go_simp; done) | rfl
              try simp only [Act.put, List.setIfInBounds_toArray, List.set_cons_zero, List.set_cons_succ]
              refine wpAnyH_take (i := 11) (oi := { dst := some 83, op := Op.extract (Operand.tmp 72) 1, type := 28, pos := "law.go:79", after := #[{ on := 9, ground := Ground.data }, { on := 14, ground := Ground.gcOnly Departure.lateStores }], guard := none }) (v := .agg #[.int .i64 (a2 : Int), .int .i64 (k2 : Int)]) rfl (by kernel_rfl) (by kernel_rfl) (by kernel_rfl) (fun _ _ _ h => h) (Or.inl ⟨by rfl, fun W hW => ?_⟩) hSw ?_
              · first | (go_simp; done) | rfl
              try simp only [Act.put, List.setIfInBounds_toArray, List.set_cons_zero, List.set_cons_succ]
              refine wpAnyH_take (i := 12) (oi := { dst := some 84, op := Op.extract (Operand.tmp 72) 2, type := 29, pos := "law.go:79", after := #[{ on := 9, ground := Ground.data }, { on := 15, ground := Ground.gcOnly Departure.lateStores }], guard := none }) (v := .int .i64 x2) rfl (by kernel_rfl) (by kernel_rfl) (by kernel_rfl) (fun _ _ _ h => h) (Or.inl ⟨by rfl, fun W hW => ?_⟩) hSw ?_
              · first | (go_simp; done) | rfl
              try simp only [Act.put, List.setIfInBounds_toArray, List.set_cons_zero, List.set_cons_succ]
              refine wpAnyH_ready (rs := [13]) (by kernel_rfl) (by simp) ?_
              refine AllReadyH.cons (o := { dst := some 11, op := Op.alloc 28, type := 0, pos := "law.go:79", after := #[], guard := none }) rfl (fun K hK => ?_) AllReadyH.nil
              rw [if_pos (by rfl)]
              clear hSw
              go_simp
              
              refine hK.out _ _ (fun k hk => (Below.heap_alloc _ _ _ (by omega)).trans (hbya.block k hk)) (fun hSw => ?_)
              clear hK K
              try simp only [Act.put, List.setIfInBounds_toArray, List.set_cons_zero, List.set_cons_succ]
              refine wpAnyH_take (i := 14) (oi := { dst := some 10, op := Op.assign (Operand.tmp 82), type := 3, pos := "law.go:79", after := #[{ on := 10, ground := Ground.data }, { on := 8, ground := Ground.chain }, { on := 0, ground := Ground.phase }, { on := 1, ground := Ground.phase }, { on := 2, ground := Ground.phase }, { on := 3, ground := Ground.phase }, { on := 4, ground := Ground.phase }, { on := 5, ground := Ground.phase }, { on := 6, ground := Ground.phase }, { on := 7, ground := Ground.phase }, { on := 8, ground := Ground.phase }, { on := 9, ground := Ground.phase }, { on := 10, ground := Ground.phase }, { on := 11, ground := Ground.textOnly Departure.lateStores }, { on := 12, ground := Ground.textOnly Departure.lateStores }, { on := 13, ground := Ground.phase }], guard := none }) (v := .int .i64 (vv : Int)) rfl (by kernel_rfl) (by kernel_rfl) (by kernel_rfl) (fun _ _ _ h => h) (Or.inl ⟨by rfl, fun W hW => ?_⟩) hSw ?_
              · first | (go_simp; done) | rfl
              try simp only [Act.put, List.setIfInBounds_toArray, List.set_cons_zero, List.set_cons_succ]
              refine wpAnyH_ready (rs := [15]) (by kernel_rfl) (by simp) ?_
              refine AllReadyH.cons (o := { dst := none, op := Op.store 28 (Operand.tmp 11) (Operand.tmp 83), type := 0, pos := "law.go:79", after := #[{ on := 13, ground := Ground.data }, { on := 11, ground := Ground.data }, { on := 14, ground := Ground.chain }, { on := 0, ground := Ground.phase }, { on := 1, ground := Ground.phase }, { on := 2, ground := Ground.phase }, { on := 3, ground := Ground.phase }, { on := 4, ground := Ground.phase }, { on := 5, ground := Ground.phase }, { on := 6, ground := Ground.phase }, { on := 7, ground := Ground.phase }, { on := 8, ground := Ground.phase }, { on := 9, ground := Ground.phase }, { on := 10, ground := Ground.phase }, { on := 11, ground := Ground.phase }, { on := 12, ground := Ground.textOnly Departure.lateStores }, { on := 13, ground := Ground.phase }, { on := 14, ground := Ground.phase }], guard := none }) rfl (fun K hK => ?_) AllReadyH.nil
              rw [if_pos (by rfl)]
              clear hSw
              go_simp
              
              refine hK.out _ _ (fun k hk => (Below.heap_alloc _ _ _ (by omega)).trans (hbya.block k hk)) (fun hSw => ?_)
              clear hK K
              try simp only [Act.put, List.setIfInBounds_toArray, List.set_cons_zero, List.set_cons_succ]
              refine wpAnyH_take (i := 16) (oi := { dst := some 12, op := Op.assign (Operand.tmp 84), type := 29, pos := "law.go:79", after := #[{ on := 12, ground := Ground.data }, { on := 15, ground := Ground.chain }, { on := 0, ground := Ground.phase }, { on := 1, ground := Ground.phase }, { on := 2, ground := Ground.phase }, { on := 3, ground := Ground.phase }, { on := 4, ground := Ground.phase }, { on := 5, ground := Ground.phase }, { on := 6, ground := Ground.phase }, { on := 7, ground := Ground.phase }, { on := 8, ground := Ground.phase }, { on := 9, ground := Ground.phase }, { on := 10, ground := Ground.phase }, { on := 11, ground := Ground.phase }, { on := 12, ground := Ground.phase }, { on := 13, ground := Ground.phase }, { on := 14, ground := Ground.phase }, { on := 15, ground := Ground.phase }], guard := none }) (v := .int .i64 x2) rfl (by kernel_rfl) (by kernel_rfl) (by kernel_rfl) (fun _ _ _ h => h) (Or.inl ⟨by rfl, fun W hW => ?_⟩) hSw ?_
              · first | (go_simp; done) | rfl
              try simp only [Act.put, List.setIfInBounds_toArray, List.set_cons_zero, List.set_cons_succ]
              refine wpAnyH_done (by kernel_rfl) ?_ _
              obtain ⟨Z2, hZ⟩ : ∃ Z, Z = ya.alloc (.cells #[.int .i64 (a2 : Int), .int .i64 (k2 : Int)] 28) := ⟨_, rfl⟩
              rw [← hZ]
              have hBZ : Below Z1.heap.size Z1 Z2 := by rw [hZ]; exact (undrew hbya).alloc hzya _
              have hSZ : Z2.heap[ya.heap.size]? = some (.cells #[.int .i64 (a2 : Int), .int .i64 (k2 : Int)] 28 (0, 0)) := by rw [hZ]; exact (MapKept.heap_alloc _ _).1
              obtain ⟨s2, hs⟩ : ∃ s, s = ya.heap.size := ⟨_, rfl⟩
              rw [← hs] at hSZ ⊢
              have hsb : Z1.heap.size ≤ s2 := by rw [hs]; exact hzya
              clear hZ hs hbya hzya
              have hB5 : Below u5.heap.size u5 Z2 := HUR.out.trans ((HBZ1.out.trans (hBZ.mono HBZ1.out.size)).mono HUR.out.size)
              have HB5 := Lib.hid hB5
              obtain ⟨m0, m1⟩ := own2 ((hB5.block u4.heap.size hs5).trans HS5.out)
              obtain ⟨n0, n1'⟩ := own2 ((hBZ.block s1 hs1Z).trans HSZ1.out)
              obtain ⟨p0, p1⟩ := own2 hSZ
              clear hB5 hBZ hSZ q0 q1
              obtain ⟨c1, c2, c3⟩ | ⟨c1, c2, c3, c4⟩ | ⟨c1, c2, c3⟩ | ⟨c1, c2, c3, c4⟩ := HAA.out
              · have c1 : eY = 0 := c1
                have c2 : x1 = 0 := c2
                have c3 : x2 = 0 := c3
                subst c1 c2 c3
                go_wp2_with fail
                go_roundw
                case rel => exact ⟨i + 1, hlt, by go_num, HB5.out⟩
                case measure => simp [intOf]; omega
              · have c1 : eY ≠ 0 := c1
                have c2 : i < tY := c2
                have c3 : x1 = 0 := c3
                have c4 : x2 = 0 := c4
                subst c3 c4
                have hy1 : (eY == 0) = false := by simp only [beq_eq_false_iff_ne, ne_eq]; exact c1
                have hy2 : (eY != 0) = true := by simp only [bne_iff_ne, ne_eq]; exact c1
                have hy3 : ((i : Int) == (tY : Int)) = false := by simp only [beq_eq_false_iff_ne, ne_eq]; omega
                clear c1
                go_wp2_with fail
                go_roundw
                case rel => exact ⟨i + 1, hlt, by go_num, HB5.out⟩
                case measure => simp [intOf]; omega
              · have c1 : eY ≠ 0 := c1
                have c2 : tY < i := c2
                have hy1 : (eY == 0) = false := by simp only [beq_eq_false_iff_ne, ne_eq]; exact c1
                have hy2 : (eY != 0) = true := by simp only [bne_iff_ne, ne_eq]; exact c1
                have hy3 : ((i : Int) == (tY : Int)) = false := by simp only [beq_eq_false_iff_ne, ne_eq]; omega
                clear c1
                cases c3
                go_wp2_with fail
                go_roundw
                case rel => exact ⟨i + 1, hlt, by go_num, HB5.out⟩
                case measure => simp [intOf]; omega
              · have c1 : eY ≠ 0 := c1
                have c2 : tY = i := c2
                have hy1 : (eY == 0) = false := by simp only [beq_eq_false_iff_ne, ne_eq]; exact c1
                have hy2 : (eY != 0) = true := by simp only [bne_iff_ne, ne_eq]; exact c1
                clear c1
                cases c3
                cases c4
                subst c2
                go_wp2_with fail
                go_roundw
                case rel => exact ⟨tY + 1, hlt, by go_num, HB5.out⟩
                case measure => simp [intOf]; omega
            · rw [if_pos (by rfl)]
              clear hSw
              go_simp
              refine hK.out _ _ (fun k hk => Below.heap_alloc _ _ _ hk) (fun hSw => ?_)
              clear hK K
              try simp only [Act.put, List.setIfInBounds_toArray, List.set_cons_zero, List.set_cons_succ]
              refine wpAnyH_ready (rs := [8]) (by kernel_rfl) (by simp) ?_
              refine AllReadyH.cons (o := { dst := some 81, op := Op.call { callee := Callee.value (Operand.func 6), args := #[Operand.tmp 80], argTypes := #[24] }, type := 30, pos := "law.go:79", after := #[{ on := 7, ground := Ground.data }], guard := none }) rfl (fun K hK => ?_) AllReadyH.nil
              rw [if_pos (by rfl)]
              clear hSw
              go_simp
              refine (HD2.out _ (((HBW.out _ HZU.out).alloc (by omega) _).drew)).mono ?_; rintro e yb ⟨rfl, hbyb⟩
              rw [hck2]
              refine hK.out _ _ (fun k hk => (hbyb.block k (by show k < (Z1.alloc _).heap.size; simp; omega)).trans (Below.heap_alloc _ _ _ hk)) (fun hSw => ?_)
              clear hK K
              try simp only [Act.put, List.setIfInBounds_toArray, List.set_cons_zero, List.set_cons_succ]
              have hnyb : yb.heap[Z1.heap.size]? = some (.cells #[.int .i64 0, .int .i64 0] 28 (0, 0)) := (hbyb.block _ (by show Z1.heap.size < (Z1.alloc _).heap.size; simp)).trans (MapKept.heap_alloc Z1 _).1
              have hByb : Below Z1.heap.size Z1 yb := (below_box Z1 (.cells #[.int .i64 0, .int .i64 0] 28)).trans (Below.mono ⟨hbyb.os, hbyb.tape, hbyb.output, hbyb.size, hbyb.block⟩ (by show Z1.heap.size ≤ (Z1.alloc _).heap.size; simp))
              have hwyb : Z1.heap.size < yb.heap.size := (Array.getElem?_eq_some_iff.1 hnyb).1
              have f0 := Lib.frozen_of_heap hnyb 0
              have f1 := Lib.frozen_of_heap hnyb 1
              obtain ⟨g00, g01⟩ := own2 hnyb
              have HNyb := Lib.hid hnyb
              have HByb := Lib.hid hByb
              clear hnyb hByb
              refine wpAnyH_take (i := 9) (oi := { dst := some 72, op := Op.move (Operand.tmp 81), type := 30, pos := "law.go:79", after := #[{ on := 8, ground := Ground.data }], guard := none }) (v := .tuple #[.int .i64 (vv : Int), .agg #[.int .i64 (a2 : Int), .int .i64 (k2 : Int)], .int .i64 x2]) rfl (by kernel_rfl) (by kernel_rfl) (by kernel_rfl) (fun _ _ _ h => h) (Or.inl ⟨by rfl, fun W hW => ?_⟩) hSw ?_
              · first | (go_simp; done) | rfl
              try simp only [Act.put, List.setIfInBounds_toArray, List.set_cons_zero, List.set_cons_succ]
              refine wpAnyH_take (i := 10) (oi := { dst := some 82, op := Op.extract (Operand.tmp 72) 0, type := 3, pos := "law.go:79", after := #[{ on := 9, ground := Ground.data }], guard := none }) (v := .int .i64 (vv : Int)) rfl (by kernel_rfl) (by kernel_rfl) (by kernel_rfl) (fun _ _ _ h => h) (Or.inl ⟨by rfl, fun W hW => ?_⟩) hSw ?_
              · first | (go_simp; done) | rfl
              try simp only [Act.put, List.setIfInBounds_toArray, List.set_cons_zero, List.set_cons_succ]
              refine wpAnyH_take (i := 11) (oi := { dst := some 83, op := Op.extract (Operand.tmp 72) 1, type := 28, pos := "law.go:79", after := #[{ on := 9, ground := Ground.data }, { on := 14, ground := Ground.gcOnly Departure.lateStores }], guard := none }) (v := .agg #[.int .i64 (a2 : Int), .int .i64 (k2 : Int)]) rfl (by kernel_rfl) (by kernel_rfl) (by kernel_rfl) (fun _ _ _ h => h) (Or.inl ⟨by rfl, fun W hW => ?_⟩) hSw ?_
              · first | (go_simp; done) | rfl
              try simp only [Act.put, List.setIfInBounds_toArray, List.set_cons_zero, List.set_cons_succ]
              refine wpAnyH_take (i := 12) (oi := { dst := some 84, op := Op.extract (Operand.tmp 72) 2, type := 29, pos := "law.go:79", after := #[{ on := 9, ground := Ground.data }, { on := 15, ground := Ground.gcOnly Departure.lateStores }], guard := none }) (v := .int .i64 x2) rfl (by kernel_rfl) (by kernel_rfl) (by kernel_rfl) (fun _ _ _ h => h) (Or.inl ⟨by rfl, fun W hW => ?_⟩) hSw ?_
              · first | (go_simp; done) | rfl
              try simp only [Act.put, List.setIfInBounds_toArray, List.set_cons_zero, List.set_cons_succ]
              refine wpAnyH_take (i := 14) (oi := { dst := some 10, op := Op.assign (Operand.tmp 82), type := 3, pos := "law.go:79", after := #[{ on := 10, ground := Ground.data }, { on := 8, ground := Ground.chain }, { on := 0, ground := Ground.phase }, { on := 1, ground := Ground.phase }, { on := 2, ground := Ground.phase }, { on := 3, ground := Ground.phase }, { on := 4, ground := Ground.phase }, { on := 5, ground := Ground.phase }, { on := 6, ground := Ground.phase }, { on := 7, ground := Ground.phase }, { on := 8, ground := Ground.phase }, { on := 9, ground := Ground.phase }, { on := 10, ground := Ground.phase }, { on := 11, ground := Ground.textOnly Departure.lateStores }, { on := 12, ground := Ground.textOnly Departure.lateStores }, { on := 13, ground := Ground.phase }], guard := none }) (v := .int .i64 (vv : Int)) rfl (by kernel_rfl) (by kernel_rfl) (by kernel_rfl) (fun _ _ _ h => h) (Or.inl ⟨by rfl, fun W hW => ?_⟩) hSw ?_
              · first | (go_simp; done) | rfl
              try simp only [Act.put, List.setIfInBounds_toArray, List.set_cons_zero, List.set_cons_succ]
              refine wpAnyH_ready (rs := [15]) (by kernel_rfl) (by simp) ?_
              refine AllReadyH.cons (o := { dst := none, op := Op.store 28 (Operand.tmp 11) (Operand.tmp 83), type := 0, pos := "law.go:79", after := #[{ on := 13, ground := Ground.data }, { on := 11, ground := Ground.data }, { on := 14, ground := Ground.chain }, { on := 0, ground := Ground.phase }, { on := 1, ground := Ground.phase }, { on := 2, ground := Ground.phase }, { on := 3, ground := Ground.phase }, { on := 4, ground := Ground.phase }, { on := 5, ground := Ground.phase }, { on := 6, ground := Ground.phase }, { on := 7, ground := Ground.phase }, { on := 8, ground := Ground.phase }, { on := 9, ground := Ground.phase }, { on := 10, ground := Ground.phase }, { on := 11, ground := Ground.phase }, { on := 12, ground := Ground.textOnly Departure.lateStores }, { on := 13, ground := Ground.phase }, { on := 14, ground := Ground.phase }], guard := none }) rfl (fun K hK => ?_) AllReadyH.nil
              rw [if_pos (by rfl)]
              clear hSw
              go_simp
              
              refine hK.out _ _ (fun k hk => (Below.heap_setCell _ _ _ _ (by show k ≠ Z1.heap.size; omega)).trans ((Below.heap_setCell _ _ _ _ (by show k ≠ Z1.heap.size; omega)).trans (HByb.out.block k hk))) (fun hSw => ?_)
              clear hK K
              try simp only [Act.put, List.setIfInBounds_toArray, List.set_cons_zero, List.set_cons_succ]
              refine wpAnyH_take (i := 16) (oi := { dst := some 12, op := Op.assign (Operand.tmp 84), type := 29, pos := "law.go:79", after := #[{ on := 12, ground := Ground.data }, { on := 15, ground := Ground.chain }, { on := 0, ground := Ground.phase }, { on := 1, ground := Ground.phase }, { on := 2, ground := Ground.phase }, { on := 3, ground := Ground.phase }, { on := 4, ground := Ground.phase }, { on := 5, ground := Ground.phase }, { on := 6, ground := Ground.phase }, { on := 7, ground := Ground.phase }, { on := 8, ground := Ground.phase }, { on := 9, ground := Ground.phase }, { on := 10, ground := Ground.phase }, { on := 11, ground := Ground.phase }, { on := 12, ground := Ground.phase }, { on := 13, ground := Ground.phase }, { on := 14, ground := Ground.phase }, { on := 15, ground := Ground.phase }], guard := none }) (v := .int .i64 x2) rfl (by kernel_rfl) (by kernel_rfl) (by kernel_rfl) (fun _ _ _ h => h) (Or.inl ⟨by rfl, fun W hW => ?_⟩) hSw ?_
              · first | (go_simp; done) | rfl
              try simp only [Act.put, List.setIfInBounds_toArray, List.set_cons_zero, List.set_cons_succ]
              refine wpAnyH_done (by kernel_rfl) ?_ _
              clear f0 f1 g00 g01
              obtain ⟨Z2, hZ⟩ : ∃ Z, Z = (yb.setCell ⟨Z1.heap.size, 0, none⟩ (.int .i64 (a2 : Int))).setCell ⟨Z1.heap.size, 1, none⟩ (.int .i64 (k2 : Int)) := ⟨_, rfl⟩
              rw [← hZ]
              have hBZ : Below Z1.heap.size Z1 Z2 := by rw [hZ]; exact (HByb.out.setCell (by show Z1.heap.size ≤ Z1.heap.size; omega) _).setCell (by show Z1.heap.size ≤ Z1.heap.size; omega) _
              have hSZ : Z2.heap[Z1.heap.size]? = some (.cells #[.int .i64 (a2 : Int), .int .i64 (k2 : Int)] 28 (0, 0)) := by rw [hZ]; exact put2 HNyb.out _ _
              obtain ⟨s2, hs⟩ : ∃ s, s = Z1.heap.size := ⟨_, rfl⟩
              rw [← hs] at hSZ
              have hsb : Z1.heap.size ≤ s2 := by omega
              rw [show Value.pointer (some ⟨Z1.heap.size, 0, none⟩) = Value.pointer (some ⟨s2, 0, none⟩) by rw [hs]]
              clear hZ hs hbyb hwyb HNyb HByb
              have hB5 : Below u5.heap.size u5 Z2 := HUR.out.trans ((HBZ1.out.trans (hBZ.mono HBZ1.out.size)).mono HUR.out.size)
              have HB5 := Lib.hid hB5
              obtain ⟨m0, m1⟩ := own2 ((hB5.block u4.heap.size hs5).trans HS5.out)
              obtain ⟨n0, n1'⟩ := own2 ((hBZ.block s1 hs1Z).trans HSZ1.out)
              obtain ⟨p0, p1⟩ := own2 hSZ
              clear hB5 hBZ hSZ q0 q1
              obtain ⟨c1, c2, c3⟩ | ⟨c1, c2, c3, c4⟩ | ⟨c1, c2, c3⟩ | ⟨c1, c2, c3, c4⟩ := HAA.out
              · have c1 : eY = 0 := c1
                have c2 : x1 = 0 := c2
                have c3 : x2 = 0 := c3
                subst c1 c2 c3
                go_wp2_with fail
                go_roundw
                case rel => exact ⟨i + 1, hlt, by go_num, HB5.out⟩
                case measure => simp [intOf]; omega
              · have c1 : eY ≠ 0 := c1
                have c2 : i < tY := c2
                have c3 : x1 = 0 := c3
                have c4 : x2 = 0 := c4
                subst c3 c4
                have hy1 : (eY == 0) = false := by simp only [beq_eq_false_iff_ne, ne_eq]; exact c1
                have hy2 : (eY != 0) = true := by simp only [bne_iff_ne, ne_eq]; exact c1
                have hy3 : ((i : Int) == (tY : Int)) = false := by simp only [beq_eq_false_iff_ne, ne_eq]; omega
                clear c1
                go_wp2_with fail
                go_roundw
                case rel => exact ⟨i + 1, hlt, by go_num, HB5.out⟩
                case measure => simp [intOf]; omega
              · have c1 : eY ≠ 0 := c1
                have c2 : tY < i := c2
                have hy1 : (eY == 0) = false := by simp only [beq_eq_false_iff_ne, ne_eq]; exact c1
                have hy2 : (eY != 0) = true := by simp only [bne_iff_ne, ne_eq]; exact c1
                have hy3 : ((i : Int) == (tY : Int)) = false := by simp only [beq_eq_false_iff_ne, ne_eq]; omega
                clear c1
                cases c3
                go_wp2_with fail
                go_roundw
                case rel => exact ⟨i + 1, hlt, by go_num, HB5.out⟩
                case measure => simp [intOf]; omega
              · have c1 : eY ≠ 0 := c1
                have c2 : tY = i := c2
                have hy1 : (eY == 0) = false := by simp only [beq_eq_false_iff_ne, ne_eq]; exact c1
                have hy2 : (eY != 0) = true := by simp only [bne_iff_ne, ne_eq]; exact c1
                clear c1
                cases c3
                cases c4
                subst c2
                go_wp2_with fail
                go_roundw
                case rel => exact ⟨tY + 1, hlt, by go_num, HB5.out⟩
                case measure => simp [intOf]; omega
          · rw [if_pos (by rfl)]
            clear hSw
            go_simp
            refine hK.out _ _ (fun k hk => Below.heap_alloc _ _ _ hk) (fun hSw => ?_)
            clear hK K
            try simp only [Act.put, List.setIfInBounds_toArray, List.set_cons_zero, List.set_cons_succ]
            refine wpAnyH_ready (rs := [9]) (by kernel_rfl) (by simp) ?_
            refine AllReadyH.cons (o := { dst := some 68, op := Op.call { callee := Callee.value (Operand.func 6), args := #[Operand.tmp 67], argTypes := #[24] }, type := 30, pos := "law.go:78", after := #[{ on := 8, ground := Ground.data }], guard := none }) rfl (fun K hK => ?_) AllReadyH.nil
            rw [if_pos (by rfl)]
            clear hSw
            go_simp
            refine (HD1.out _ (((HBW.out _ HUB.out).alloc (by omega) _).drew)).mono ?_; rintro e zb ⟨rfl, hbzb⟩
            rw [hck1]
            refine hK.out _ _ (fun k hk => (hbzb.block k (by show k < (U.alloc _).heap.size; simp; omega)).trans (Below.heap_alloc _ _ _ hk)) (fun hSw => ?_)
            clear hK K
            try simp only [Act.put, List.setIfInBounds_toArray, List.set_cons_zero, List.set_cons_succ]
            have hnzb : zb.heap[U.heap.size]? = some (.cells #[.int .i64 0, .int .i64 0] 28 (0, 0)) := (hbzb.block _ (by show U.heap.size < (U.alloc _).heap.size; simp)).trans (MapKept.heap_alloc U _).1
            have hBzb : Below U.heap.size U zb := (below_box U (.cells #[.int .i64 0, .int .i64 0] 28)).trans (Below.mono ⟨hbzb.os, hbzb.tape, hbzb.output, hbzb.size, hbzb.block⟩ (by show U.heap.size ≤ (U.alloc _).heap.size; simp))
            have hwzb : U.heap.size < zb.heap.size := (Array.getElem?_eq_some_iff.1 hnzb).1
            have f0 := Lib.frozen_of_heap hnzb 0
            have f1 := Lib.frozen_of_heap hnzb 1
            obtain ⟨g00, g01⟩ := own2 hnzb
            have HNzb := Lib.hid hnzb
            have HBzb := Lib.hid hBzb
            clear hnzb hBzb
            refine wpAnyH_take (i := 10) (oi := { dst := some 58, op := Op.move (Operand.tmp 68), type := 30, pos := "law.go:78", after := #[{ on := 9, ground := Ground.data }], guard := none }) (v := .tuple #[.int .i64 0, .agg #[.int .i64 (a1 : Int), .int .i64 (k1 : Int)], .int .i64 x1]) rfl (by kernel_rfl) (by kernel_rfl) (by kernel_rfl) (fun _ _ _ h => h) (Or.inl ⟨by rfl, fun W hW => ?_⟩) hSw ?_
            · first | (go_simp; done) | rfl
            try simp only [Act.put, List.setIfInBounds_toArray, List.set_cons_zero, List.set_cons_succ]
            refine wpAnyH_take (i := 11) (oi := { dst := some 69, op := Op.extract (Operand.tmp 58) 0, type := 3, pos := "law.go:78", after := #[{ on := 10, ground := Ground.data }], guard := none }) (v := .int .i64 0) rfl (by kernel_rfl) (by kernel_rfl) (by kernel_rfl) (fun _ _ _ h => h) (Or.inl ⟨by rfl, fun W hW => ?_⟩) hSw ?_
            · first | (go_simp; done) | rfl
            try simp only [Act.put, List.setIfInBounds_toArray, List.set_cons_zero, List.set_cons_succ]
            refine wpAnyH_take (i := 12) (oi := { dst := some 70, op := Op.extract (Operand.tmp 58) 1, type := 28, pos := "law.go:78", after := #[{ on := 10, ground := Ground.data }, { on := 15, ground := Ground.gcOnly Departure.lateStores }], guard := none }) (v := .agg #[.int .i64 (a1 : Int), .int .i64 (k1 : Int)]) rfl (by kernel_rfl) (by kernel_rfl) (by kernel_rfl) (fun _ _ _ h => h) (Or.inl ⟨by rfl, fun W hW => ?_⟩) hSw ?_
            · first | (go_simp; done) | rfl
            try simp only [Act.put, List.setIfInBounds_toArray, List.set_cons_zero, List.set_cons_succ]
            refine wpAnyH_take (i := 13) (oi := { dst := some 71, op := Op.extract (Operand.tmp 58) 2, type := 29, pos := "law.go:78", after := #[{ on := 10, ground := Ground.data }, { on := 16, ground := Ground.gcOnly Departure.lateStores }], guard := none }) (v := .int .i64 x1) rfl (by kernel_rfl) (by kernel_rfl) (by kernel_rfl) (fun _ _ _ h => h) (Or.inl ⟨by rfl, fun W hW => ?_⟩) hSw ?_
            · first | (go_simp; done) | rfl
            try simp only [Act.put, List.setIfInBounds_toArray, List.set_cons_zero, List.set_cons_succ]
            refine wpAnyH_take (i := 15) (oi := { dst := some 7, op := Op.assign (Operand.tmp 69), type := 3, pos := "law.go:78", after := #[{ on := 11, ground := Ground.data }, { on := 9, ground := Ground.chain }, { on := 0, ground := Ground.phase }, { on := 1, ground := Ground.phase }, { on := 2, ground := Ground.phase }, { on := 3, ground := Ground.phase }, { on := 4, ground := Ground.phase }, { on := 5, ground := Ground.phase }, { on := 6, ground := Ground.phase }, { on := 7, ground := Ground.phase }, { on := 8, ground := Ground.phase }, { on := 9, ground := Ground.phase }, { on := 10, ground := Ground.phase }, { on := 11, ground := Ground.phase }, { on := 12, ground := Ground.textOnly Departure.lateStores }, { on := 13, ground := Ground.textOnly Departure.lateStores }, { on := 14, ground := Ground.phase }], guard := none }) (v := .int .i64 0) rfl (by kernel_rfl) (by kernel_rfl) (by kernel_rfl) (fun _ _ _ h => h) (Or.inl ⟨by rfl, fun W hW => ?_⟩) hSw ?_
            · first | (go_simp; done) | rfl
            try simp only [Act.put, List.setIfInBounds_toArray, List.set_cons_zero, List.set_cons_succ]
            refine wpAnyH_ready (rs := [16]) (by kernel_rfl) (by simp) ?_
            refine AllReadyH.cons (o := { dst := none, op := Op.store 28 (Operand.tmp 8) (Operand.tmp 70), type := 0, pos := "law.go:78", after := #[{ on := 14, ground := Ground.data }, { on := 12, ground := Ground.data }, { on := 15, ground := Ground.chain }, { on := 0, ground := Ground.phase }, { on := 1, ground := Ground.phase }, { on := 2, ground := Ground.phase }, { on := 3, ground := Ground.phase }, { on := 4, ground := Ground.phase }, { on := 5, ground := Ground.phase }, { on := 6, ground := Ground.phase }, { on := 7, ground := Ground.phase }, { on := 8, ground := Ground.phase }, { on := 9, ground := Ground.phase }, { on := 10, ground := Ground.phase }, { on := 11, ground := Ground.phase }, { on := 12, ground := Ground.phase }, { on := 13, ground := Ground.textOnly Departure.lateStores }, { on := 14, ground := Ground.phase }, { on := 15, ground := Ground.phase }], guard := none }) rfl (fun K hK => ?_) AllReadyH.nil
            rw [if_pos (by rfl)]
            clear hSw
            go_simp
            
            refine hK.out _ _ (fun k hk => (Below.heap_setCell _ _ _ _ (by show k ≠ U.heap.size; omega)).trans ((Below.heap_setCell _ _ _ _ (by show k ≠ U.heap.size; omega)).trans (HBzb.out.block k hk))) (fun hSw => ?_)
            clear hK K
            try simp only [Act.put, List.setIfInBounds_toArray, List.set_cons_zero, List.set_cons_succ]
            refine wpAnyH_take (i := 17) (oi := { dst := some 9, op := Op.assign (Operand.tmp 71), type := 29, pos := "law.go:78", after := #[{ on := 13, ground := Ground.data }, { on := 16, ground := Ground.chain }, { on := 0, ground := Ground.phase }, { on := 1, ground := Ground.phase }, { on := 2, ground := Ground.phase }, { on := 3, ground := Ground.phase }, { on := 4, ground := Ground.phase }, { on := 5, ground := Ground.phase }, { on := 6, ground := Ground.phase }, { on := 7, ground := Ground.phase }, { on := 8, ground := Ground.phase }, { on := 9, ground := Ground.phase }, { on := 10, ground := Ground.phase }, { on := 11, ground := Ground.phase }, { on := 12, ground := Ground.phase }, { on := 13, ground := Ground.phase }, { on := 14, ground := Ground.phase }, { on := 15, ground := Ground.phase }, { on := 16, ground := Ground.phase }], guard := none }) (v := .int .i64 x1) rfl (by kernel_rfl) (by kernel_rfl) (by kernel_rfl) (fun _ _ _ h => h) (Or.inl ⟨by rfl, fun W hW => ?_⟩) hSw ?_
            · first | (go_simp; done) | rfl
            try simp only [Act.put, List.setIfInBounds_toArray, List.set_cons_zero, List.set_cons_succ]
            refine wpAnyH_done (by kernel_rfl) ?_ _
            clear f0 f1 g00 g01
            obtain ⟨Z1, hZ⟩ : ∃ Z, Z = (zb.setCell ⟨U.heap.size, 0, none⟩ (.int .i64 (a1 : Int))).setCell ⟨U.heap.size, 1, none⟩ (.int .i64 (k1 : Int)) := ⟨_, rfl⟩
            rw [← hZ]
            have hBZ : Below U.heap.size U Z1 := by rw [hZ]; exact (HBzb.out.setCell (by show U.heap.size ≤ U.heap.size; omega) _).setCell (by show U.heap.size ≤ U.heap.size; omega) _
            have hSZ : Z1.heap[U.heap.size]? = some (.cells #[.int .i64 (a1 : Int), .int .i64 (k1 : Int)] 28 (0, 0)) := by rw [hZ]; exact put2 HNzb.out _ _
            obtain ⟨s1, hs⟩ : ∃ s, s = U.heap.size := ⟨_, rfl⟩
            rw [← hs] at hSZ
            have hsb : U.heap.size ≤ s1 := by omega
            rw [show Value.pointer (some ⟨U.heap.size, 0, none⟩) = Value.pointer (some ⟨s1, 0, none⟩) by rw [hs]]
            clear hZ hs hbzb hwzb HNzb HBzb
            have hZU := HUB.out.trans (hBZ.mono HUB.out.size)
            have HZU := Lib.hid hZU
            have HBZ1 := Lib.hid hBZ
            have HSZ1 := Lib.hid hSZ
            clear q0 q1
            obtain ⟨q0, q1⟩ := HGQ.out _ hZU
            have hsZ : w.heap.size < Z1.heap.size := by have := hBZ.size; omega
            have hs1Z : s1 < Z1.heap.size := (Array.getElem?_eq_some_iff.1 hSZ).1
            clear hBZ hSZ hZU
            go_wp2_with fail
            refine wp_region_held_drew (S := SameTo (Z1.heap.size) Z1) (by kernel_rfl) (SameTo.drew _ _) (fun hSw => ?_)
            refine wpAnyH_take (i := 0) (oi := { dst := some 73, op := Op.fieldAddr 24 (Operand.tmp 1) 0, type := 0, pos := "law.go:79", after := #[], guard := none }) (v := .pointer (some ⟨w.heap.size, 0, none⟩)) rfl (by kernel_rfl) (by kernel_rfl) (by kernel_rfl) (fun _ _ _ h => h) (Or.inl ⟨by rfl, fun W hW => ?_⟩) hSw ?_
            · first | (go_simp; done) | rfl
            try simp only [Act.put, List.setIfInBounds_toArray, List.set_cons_zero, List.set_cons_succ]
            refine wpAnyH_take (i := 1) (oi := { dst := some 74, op := Op.load 3 (Operand.tmp 73), type := 3, pos := "law.go:79", after := #[{ on := 0, ground := Ground.data }], guard := none }) (v := .int .i64 WD) rfl (by kernel_rfl) (by kernel_rfl) (by kernel_rfl) (fun _ _ _ h => h) (Or.inl ⟨by rfl, fun W hW => ?_⟩) hSw ?_
            · have q0 := hW.cell (by dsimp only; omega) q0
              first | (go_simp; done) | rfl
            try simp only [Act.put, List.setIfInBounds_toArray, List.set_cons_zero, List.set_cons_succ]
            refine wpAnyH_take (i := 2) (oi := { dst := some 75, op := Op.fieldAddr 24 (Operand.tmp 1) 1, type := 0, pos := "law.go:79", after := #[], guard := none }) (v := .pointer (some ⟨w.heap.size, 1, none⟩)) rfl (by kernel_rfl) (by kernel_rfl) (by kernel_rfl) (fun _ _ _ h => h) (Or.inl ⟨by rfl, fun W hW => ?_⟩) hSw ?_
            · first | (go_simp; done) | rfl
            try simp only [Act.put, List.setIfInBounds_toArray, List.set_cons_zero, List.set_cons_succ]
            refine wpAnyH_take (i := 3) (oi := { dst := some 76, op := Op.load 22 (Operand.tmp 75), type := 22, pos := "law.go:79", after := #[{ on := 2, ground := Ground.data }], guard := none }) (v := .slice (some ⟨g0, off, none⟩) N bcp) rfl (by kernel_rfl) (by kernel_rfl) (by kernel_rfl) (fun _ _ _ h => h) (Or.inl ⟨by rfl, fun W hW => ?_⟩) hSw ?_
            · have q1 := hW.cell (by dsimp only; omega) q1
              first | (go_simp; done) | rfl
            try simp only [Act.put, List.setIfInBounds_toArray, List.set_cons_zero, List.set_cons_succ]
            refine wpAnyH_take (i := 4) (oi := { dst := some 77, op := Op.move (Operand.tmp 6), type := 3, pos := "law.go:79", after := #[], guard := none }) (v := .int .i64 (i : Int)) rfl (by kernel_rfl) (by kernel_rfl) (by kernel_rfl) (fun _ _ _ h => h) (Or.inl ⟨by rfl, fun W hW => ?_⟩) hSw ?_
            · first | (go_simp; done) | rfl
            try simp only [Act.put, List.setIfInBounds_toArray, List.set_cons_zero, List.set_cons_succ]
            refine wpAnyH_take (i := 5) (oi := { dst := some 78, op := Op.binOp BinOp.add 3 (Operand.tmp 77) (Operand.const (Value.int IntKind.i64 1)) 3, type := 3, pos := "law.go:79", after := #[{ on := 4, ground := Ground.data }], guard := none }) (v := .int .i64 ((i : Int) + 1)) rfl (by kernel_rfl) (by kernel_rfl) (by kernel_rfl) (fun _ _ _ h => h) (Or.inl ⟨by rfl, fun W hW => ?_⟩) hSw ?_
            · first | (go_simp; done) | rfl
            try simp only [Act.put, List.setIfInBounds_toArray, List.set_cons_zero, List.set_cons_succ]
            refine wpAnyH_take (i := 6) (oi := { dst := some 79, op := Op.slice 22 (Operand.tmp 76) none (some (Operand.tmp 78)) none, type := 22, pos := "law.go:79", after := #[{ on := 3, ground := Ground.data }, { on := 5, ground := Ground.data }], guard := none }) (v := .slice (some ⟨g0, off, none⟩) (i + 1) bcp) rfl (by kernel_rfl) (by kernel_rfl) (by kernel_rfl) (fun _ _ _ h => h) (Or.inl ⟨by rfl, fun W hW => ?_⟩) hSw ?_
            · (have hs := hs2' W; go_simp)
            try simp only [Act.put, List.setIfInBounds_toArray, List.set_cons_zero, List.set_cons_succ]
            refine wpAnyH_take (i := 7) (oi := { dst := some 80, op := Op.build 24 #[(0, Operand.tmp 74), (1, Operand.tmp 79)], type := 24, pos := "law.go:79", after := #[{ on := 1, ground := Ground.data }, { on := 6, ground := Ground.data }], guard := none }) (v := .agg #[.int .i64 WD, .slice (some ⟨g0, off, none⟩) (i + 1) bcp]) rfl (by kernel_rfl) (by kernel_rfl) (by kernel_rfl) (fun _ _ _ h => h) (Or.inl ⟨by rfl, fun W hW => ?_⟩) hSw ?_
            · have e7x := e7 g0 (i + 1) bcp off; first | (go_simp; done) | rfl
            try simp only [Act.put, List.setIfInBounds_toArray, List.set_cons_zero, List.set_cons_succ]
            refine wpAnyH_ready (rs := [8, 13]) (by kernel_rfl) (by simp) ?_
            refine AllReadyH.cons (o := { dst := some 81, op := Op.call { callee := Callee.value (Operand.func 6), args := #[Operand.tmp 80], argTypes := #[24] }, type := 30, pos := "law.go:79", after := #[{ on := 7, ground := Ground.data }], guard := none }) rfl (fun K hK => ?_) (AllReadyH.cons (o := { dst := some 11, op := Op.alloc 28, type := 0, pos := "law.go:79", after := #[], guard := none }) rfl (fun K hK => ?_) AllReadyH.nil)
            · rw [if_pos (by rfl)]
              clear hSw
              go_simp
              refine (HD2.out _ ((HBW.out _ HZU.out).drew)).mono ?_; rintro e ya ⟨rfl, hbya⟩
              rw [hck2]
              refine hK.out _ _ (fun k hk => hbya.block k hk) (fun hSw => ?_)
              clear hK K
              try simp only [Act.put, List.setIfInBounds_toArray, List.set_cons_zero, List.set_cons_succ]
              have hzya : Z1.heap.size ≤ ya.heap.size := hbya.size
              refine wpAnyH_take (i := 9) (oi := { dst := some 72, op := Op.move (Operand.tmp 81), type := 30, pos := "law.go:79", after := #[{ on := 8, ground := Ground.data }], guard := none }) (v := .tuple #[.int .i64 (vv : Int), .agg #[.int .i64 (a2 : Int), .int .i64 (k2 : Int)], .int .i64 x2]) rfl (by kernel_rfl) (by kernel_rfl) (by kernel_rfl) (fun _ _ _ h => h) (Or.inl ⟨by rfl, fun W hW => ?_⟩) hSw ?_
              · first | (go_simp; done) | rfl
              try simp only [Act.put, List.setIfInBounds_toArray, List.set_cons_zero, List.set_cons_succ]
              refine wpAnyH_take (i := 10) (oi := { dst := some 82, op := Op.extract (Operand.tmp 72) 0, type := 3, pos := "law.go:79", after := #[{ on := 9, ground := Ground.data }], guard := none }) (v := .int .i64 (vv : Int)) rfl (by kernel_rfl) (by kernel_rfl) (by kernel_rfl) (fun _ _ _ h => h) (Or.inl ⟨by rfl, fun W hW => ?_⟩) hSw ?_
              · first | (go_simp; done) | rfl
              try simp only [Act.put, List.setIfInBounds_toArray, List.set_cons_zero, List.set_cons_succ]
              refine wpAnyH_take (i := 11) (oi := { dst := some 83, op := Op.extract (Operand.tmp 72) 1, type := 28, pos := "law.go:79", after := #[{ on := 9, ground := Ground.data }, { on := 14, ground := Ground.gcOnly Departure.lateStores }], guard := none }) (v := .agg #[.int .i64 (a2 : Int), .int .i64 (k2 : Int)]) rfl (by kernel_rfl) (by kernel_rfl) (by kernel_rfl) (fun _ _ _ h => h) (Or.inl ⟨by rfl, fun W hW => ?_⟩) hSw ?_
              · first | (go_simp; done) | rfl
              try simp only [Act.put, List.setIfInBounds_toArray, List.set_cons_zero, List.set_cons_succ]
              refine wpAnyH_take (i := 12) (oi := { dst := some 84, op := Op.extract (Operand.tmp 72) 2, type := 29, pos := "law.go:79", after := #[{ on := 9, ground := Ground.data }, { on := 15, ground := Ground.gcOnly Departure.lateStores }], guard := none }) (v := .int .i64 x2) rfl (by kernel_rfl) (by kernel_rfl) (by kernel_rfl) (fun _ _ _ h => h) (Or.inl ⟨by rfl, fun W hW => ?_⟩) hSw ?_
              · first | (go_simp; done) | rfl
              try simp only [Act.put, List.setIfInBounds_toArray, List.set_cons_zero, List.set_cons_succ]
              refine wpAnyH_ready (rs := [13]) (by kernel_rfl) (by simp) ?_
              refine AllReadyH.cons (o := { dst := some 11, op := Op.alloc 28, type := 0, pos := "law.go:79", after := #[], guard := none }) rfl (fun K hK => ?_) AllReadyH.nil
              rw [if_pos (by rfl)]
              clear hSw
              go_simp
              
              refine hK.out _ _ (fun k hk => (Below.heap_alloc _ _ _ (by omega)).trans (hbya.block k hk)) (fun hSw => ?_)
              clear hK K
              try simp only [Act.put, List.setIfInBounds_toArray, List.set_cons_zero, List.set_cons_succ]
              refine wpAnyH_take (i := 14) (oi := { dst := some 10, op := Op.assign (Operand.tmp 82), type := 3, pos := "law.go:79", after := #[{ on := 10, ground := Ground.data }, { on := 8, ground := Ground.chain }, { on := 0, ground := Ground.phase }, { on := 1, ground := Ground.phase }, { on := 2, ground := Ground.phase }, { on := 3, ground := Ground.phase }, { on := 4, ground := Ground.phase }, { on := 5, ground := Ground.phase }, { on := 6, ground := Ground.phase }, { on := 7, ground := Ground.phase }, { on := 8, ground := Ground.phase }, { on := 9, ground := Ground.phase }, { on := 10, ground := Ground.phase }, { on := 11, ground := Ground.textOnly Departure.lateStores }, { on := 12, ground := Ground.textOnly Departure.lateStores }, { on := 13, ground := Ground.phase }], guard := none }) (v := .int .i64 (vv : Int)) rfl (by kernel_rfl) (by kernel_rfl) (by kernel_rfl) (fun _ _ _ h => h) (Or.inl ⟨by rfl, fun W hW => ?_⟩) hSw ?_
              · first | (go_simp; done) | rfl
              try simp only [Act.put, List.setIfInBounds_toArray, List.set_cons_zero, List.set_cons_succ]
              refine wpAnyH_ready (rs := [15]) (by kernel_rfl) (by simp) ?_
              refine AllReadyH.cons (o := { dst := none, op := Op.store 28 (Operand.tmp 11) (Operand.tmp 83), type := 0, pos := "law.go:79", after := #[{ on := 13, ground := Ground.data }, { on := 11, ground := Ground.data }, { on := 14, ground := Ground.chain }, { on := 0, ground := Ground.phase }, { on := 1, ground := Ground.phase }, { on := 2, ground := Ground.phase }, { on := 3, ground := Ground.phase }, { on := 4, ground := Ground.phase }, { on := 5, ground := Ground.phase }, { on := 6, ground := Ground.phase }, { on := 7, ground := Ground.phase }, { on := 8, ground := Ground.phase }, { on := 9, ground := Ground.phase }, { on := 10, ground := Ground.phase }, { on := 11, ground := Ground.phase }, { on := 12, ground := Ground.textOnly Departure.lateStores }, { on := 13, ground := Ground.phase }, { on := 14, ground := Ground.phase }], guard := none }) rfl (fun K hK => ?_) AllReadyH.nil
              rw [if_pos (by rfl)]
              clear hSw
              go_simp
              
              refine hK.out _ _ (fun k hk => (Below.heap_alloc _ _ _ (by omega)).trans (hbya.block k hk)) (fun hSw => ?_)
              clear hK K
              try simp only [Act.put, List.setIfInBounds_toArray, List.set_cons_zero, List.set_cons_succ]
              refine wpAnyH_take (i := 16) (oi := { dst := some 12, op := Op.assign (Operand.tmp 84), type := 29, pos := "law.go:79", after := #[{ on := 12, ground := Ground.data }, { on := 15, ground := Ground.chain }, { on := 0, ground := Ground.phase }, { on := 1, ground := Ground.phase }, { on := 2, ground := Ground.phase }, { on := 3, ground := Ground.phase }, { on := 4, ground := Ground.phase }, { on := 5, ground := Ground.phase }, { on := 6, ground := Ground.phase }, { on := 7, ground := Ground.phase }, { on := 8, ground := Ground.phase }, { on := 9, ground := Ground.phase }, { on := 10, ground := Ground.phase }, { on := 11, ground := Ground.phase }, { on := 12, ground := Ground.phase }, { on := 13, ground := Ground.phase }, { on := 14, ground := Ground.phase }, { on := 15, ground := Ground.phase }], guard := none }) (v := .int .i64 x2) rfl (by kernel_rfl) (by kernel_rfl) (by kernel_rfl) (fun _ _ _ h => h) (Or.inl ⟨by rfl, fun W hW => ?_⟩) hSw ?_
              · first | (go_simp; done) | rfl
              try simp only [Act.put, List.setIfInBounds_toArray, List.set_cons_zero, List.set_cons_succ]
              refine wpAnyH_done (by kernel_rfl) ?_ _
              obtain ⟨Z2, hZ⟩ : ∃ Z, Z = ya.alloc (.cells #[.int .i64 (a2 : Int), .int .i64 (k2 : Int)] 28) := ⟨_, rfl⟩
              rw [← hZ]
              have hBZ : Below Z1.heap.size Z1 Z2 := by rw [hZ]; exact (undrew hbya).alloc hzya _
              have hSZ : Z2.heap[ya.heap.size]? = some (.cells #[.int .i64 (a2 : Int), .int .i64 (k2 : Int)] 28 (0, 0)) := by rw [hZ]; exact (MapKept.heap_alloc _ _).1
              obtain ⟨s2, hs⟩ : ∃ s, s = ya.heap.size := ⟨_, rfl⟩
              rw [← hs] at hSZ ⊢
              have hsb : Z1.heap.size ≤ s2 := by rw [hs]; exact hzya
              clear hZ hs hbya hzya
              have hB5 : Below u5.heap.size u5 Z2 := HUR.out.trans ((HBZ1.out.trans (hBZ.mono HBZ1.out.size)).mono HUR.out.size)
              have HB5 := Lib.hid hB5
              obtain ⟨m0, m1⟩ := own2 ((hB5.block u4.heap.size hs5).trans HS5.out)
              obtain ⟨n0, n1'⟩ := own2 ((hBZ.block s1 hs1Z).trans HSZ1.out)
              obtain ⟨p0, p1⟩ := own2 hSZ
              clear hB5 hBZ hSZ q0 q1
              obtain ⟨c1, c2, c3⟩ | ⟨c1, c2, c3, c4⟩ | ⟨c1, c2, c3⟩ | ⟨c1, c2, c3, c4⟩ := HAA.out
              · have c1 : eY = 0 := c1
                have c2 : x1 = 0 := c2
                have c3 : x2 = 0 := c3
                subst c1 c2 c3
                go_wp2_with fail
                go_roundw
                case rel => exact ⟨i + 1, hlt, by go_num, HB5.out⟩
                case measure => simp [intOf]; omega
              · have c1 : eY ≠ 0 := c1
                have c2 : i < tY := c2
                have c3 : x1 = 0 := c3
                have c4 : x2 = 0 := c4
                subst c3 c4
                have hy1 : (eY == 0) = false := by simp only [beq_eq_false_iff_ne, ne_eq]; exact c1
                have hy2 : (eY != 0) = true := by simp only [bne_iff_ne, ne_eq]; exact c1
                have hy3 : ((i : Int) == (tY : Int)) = false := by simp only [beq_eq_false_iff_ne, ne_eq]; omega
                clear c1
                go_wp2_with fail
                go_roundw
                case rel => exact ⟨i + 1, hlt, by go_num, HB5.out⟩
                case measure => simp [intOf]; omega
              · have c1 : eY ≠ 0 := c1
                have c2 : tY < i := c2
                have hy1 : (eY == 0) = false := by simp only [beq_eq_false_iff_ne, ne_eq]; exact c1
                have hy2 : (eY != 0) = true := by simp only [bne_iff_ne, ne_eq]; exact c1
                have hy3 : ((i : Int) == (tY : Int)) = false := by simp only [beq_eq_false_iff_ne, ne_eq]; omega
                clear c1
                cases c3
                go_wp2_with fail
                go_roundw
                case rel => exact ⟨i + 1, hlt, by go_num, HB5.out⟩
                case measure => simp [intOf]; omega
              · have c1 : eY ≠ 0 := c1
                have c2 : tY = i := c2
                have hy1 : (eY == 0) = false := by simp only [beq_eq_false_iff_ne, ne_eq]; exact c1
                have hy2 : (eY != 0) = true := by simp only [bne_iff_ne, ne_eq]; exact c1
                clear c1
                cases c3
                cases c4
                subst c2
                go_wp2_with fail
                go_roundw
                case rel => exact ⟨tY + 1, hlt, by go_num, HB5.out⟩
                case measure => simp [intOf]; omega
            · rw [if_pos (by rfl)]
              clear hSw
              go_simp
              refine hK.out _ _ (fun k hk => Below.heap_alloc _ _ _ hk) (fun hSw => ?_)
              clear hK K
              try simp only [Act.put, List.setIfInBounds_toArray, List.set_cons_zero, List.set_cons_succ]
              refine wpAnyH_ready (rs := [8]) (by kernel_rfl) (by simp) ?_
              refine AllReadyH.cons (o := { dst := some 81, op := Op.call { callee := Callee.value (Operand.func 6), args := #[Operand.tmp 80], argTypes := #[24] }, type := 30, pos := "law.go:79", after := #[{ on := 7, ground := Ground.data }], guard := none }) rfl (fun K hK => ?_) AllReadyH.nil
              rw [if_pos (by rfl)]
              clear hSw
              go_simp
              refine (HD2.out _ (((HBW.out _ HZU.out).alloc (by omega) _).drew)).mono ?_; rintro e yb ⟨rfl, hbyb⟩
              rw [hck2]
              refine hK.out _ _ (fun k hk => (hbyb.block k (by show k < (Z1.alloc _).heap.size; simp; omega)).trans (Below.heap_alloc _ _ _ hk)) (fun hSw => ?_)
              clear hK K
              try simp only [Act.put, List.setIfInBounds_toArray, List.set_cons_zero, List.set_cons_succ]
              have hnyb : yb.heap[Z1.heap.size]? = some (.cells #[.int .i64 0, .int .i64 0] 28 (0, 0)) := (hbyb.block _ (by show Z1.heap.size < (Z1.alloc _).heap.size; simp)).trans (MapKept.heap_alloc Z1 _).1
              have hByb : Below Z1.heap.size Z1 yb := (below_box Z1 (.cells #[.int .i64 0, .int .i64 0] 28)).trans (Below.mono ⟨hbyb.os, hbyb.tape, hbyb.output, hbyb.size, hbyb.block⟩ (by show Z1.heap.size ≤ (Z1.alloc _).heap.size; simp))
              have hwyb : Z1.heap.size < yb.heap.size := (Array.getElem?_eq_some_iff.1 hnyb).1
              have f0 := Lib.frozen_of_heap hnyb 0
              have f1 := Lib.frozen_of_heap hnyb 1
              obtain ⟨g00, g01⟩ := own2 hnyb
              have HNyb := Lib.hid hnyb
              have HByb := Lib.hid hByb
              clear hnyb hByb
              refine wpAnyH_take (i := 9) (oi := { dst := some 72, op := Op.move (Operand.tmp 81), type := 30, pos := "law.go:79", after := #[{ on := 8, ground := Ground.data }], guard := none }) (v := .tuple #[.int .i64 (vv : Int), .agg #[.int .i64 (a2 : Int), .int .i64 (k2 : Int)], .int .i64 x2]) rfl (by kernel_rfl) (by kernel_rfl) (by kernel_rfl) (fun _ _ _ h => h) (Or.inl ⟨by rfl, fun W hW => ?_⟩) hSw ?_
              · first | (go_simp; done) | rfl
              try simp only [Act.put, List.setIfInBounds_toArray, List.set_cons_zero, List.set_cons_succ]
              refine wpAnyH_take (i := 10) (oi := { dst := some 82, op := Op.extract (Operand.tmp 72) 0, type := 3, pos := "law.go:79", after := #[{ on := 9, ground := Ground.data }], guard := none }) (v := .int .i64 (vv : Int)) rfl (by kernel_rfl) (by kernel_rfl) (by kernel_rfl) (fun _ _ _ h => h) (Or.inl ⟨by rfl, fun W hW => ?_⟩) hSw ?_
              · first | (go_simp; done) | rfl
              try simp only [Act.put, List.setIfInBounds_toArray, List.set_cons_zero, List.set_cons_succ]
              refine wpAnyH_take (i := 11) (oi := { dst := some 83, op := Op.extract (Operand.tmp 72) 1, type := 28, pos := "law.go:79", after := #[{ on := 9, ground := Ground.data }, { on := 14, ground := Ground.gcOnly Departure.lateStores }], guard := none }) (v := .agg #[.int .i64 (a2 : Int), .int .i64 (k2 : Int)]) rfl (by kernel_rfl) (by kernel_rfl) (by kernel_rfl) (fun _ _ _ h => h) (Or.inl ⟨by rfl, fun W hW => ?_⟩) hSw ?_
              · first | (go_simp; done) | rfl
              try simp only [Act.put, List.setIfInBounds_toArray, List.set_cons_zero, List.set_cons_succ]
              refine wpAnyH_take (i := 12) (oi := { dst := some 84, op := Op.extract (Operand.tmp 72) 2, type := 29, pos := "law.go:79", after := #[{ on := 9, ground := Ground.data }, { on := 15, ground := Ground.gcOnly Departure.lateStores }], guard := none }) (v := .int .i64 x2) rfl (by kernel_rfl) (by kernel_rfl) (by kernel_rfl) (fun _ _ _ h => h) (Or.inl ⟨by rfl, fun W hW => ?_⟩) hSw ?_
              · first | (go_simp; done) | rfl
              try simp only [Act.put, List.setIfInBounds_toArray, List.set_cons_zero, List.set_cons_succ]
              refine wpAnyH_take (i := 14) (oi := { dst := some 10, op := Op.assign (Operand.tmp 82), type := 3, pos := "law.go:79", after := #[{ on := 10, ground := Ground.data }, { on := 8, ground := Ground.chain }, { on := 0, ground := Ground.phase }, { on := 1, ground := Ground.phase }, { on := 2, ground := Ground.phase }, { on := 3, ground := Ground.phase }, { on := 4, ground := Ground.phase }, { on := 5, ground := Ground.phase }, { on := 6, ground := Ground.phase }, { on := 7, ground := Ground.phase }, { on := 8, ground := Ground.phase }, { on := 9, ground := Ground.phase }, { on := 10, ground := Ground.phase }, { on := 11, ground := Ground.textOnly Departure.lateStores }, { on := 12, ground := Ground.textOnly Departure.lateStores }, { on := 13, ground := Ground.phase }], guard := none }) (v := .int .i64 (vv : Int)) rfl (by kernel_rfl) (by kernel_rfl) (by kernel_rfl) (fun _ _ _ h => h) (Or.inl ⟨by rfl, fun W hW => ?_⟩) hSw ?_
              · first | (go_simp; done) | rfl
              try simp only [Act.put, List.setIfInBounds_toArray, List.set_cons_zero, List.set_cons_succ]
              refine wpAnyH_ready (rs := [15]) (by kernel_rfl) (by simp) ?_
              refine AllReadyH.cons (o := { dst := none, op := Op.store 28 (Operand.tmp 11) (Operand.tmp 83), type := 0, pos := "law.go:79", after := #[{ on := 13, ground := Ground.data }, { on := 11, ground := Ground.data }, { on := 14, ground := Ground.chain }, { on := 0, ground := Ground.phase }, { on := 1, ground := Ground.phase }, { on := 2, ground := Ground.phase }, { on := 3, ground := Ground.phase }, { on := 4, ground := Ground.phase }, { on := 5, ground := Ground.phase }, { on := 6, ground := Ground.phase }, { on := 7, ground := Ground.phase }, { on := 8, ground := Ground.phase }, { on := 9, ground := Ground.phase }, { on := 10, ground := Ground.phase }, { on := 11, ground := Ground.phase }, { on := 12, ground := Ground.textOnly Departure.lateStores }, { on := 13, ground := Ground.phase }, { on := 14, ground := Ground.phase }], guard := none }) rfl (fun K hK => ?_) AllReadyH.nil
              rw [if_pos (by rfl)]
              clear hSw
              go_simp
              
              refine hK.out _ _ (fun k hk => (Below.heap_setCell _ _ _ _ (by show k ≠ Z1.heap.size; omega)).trans ((Below.heap_setCell _ _ _ _ (by show k ≠ Z1.heap.size; omega)).trans (HByb.out.block k hk))) (fun hSw => ?_)
              clear hK K
              try simp only [Act.put, List.setIfInBounds_toArray, List.set_cons_zero, List.set_cons_succ]
              refine wpAnyH_take (i := 16) (oi := { dst := some 12, op := Op.assign (Operand.tmp 84), type := 29, pos := "law.go:79", after := #[{ on := 12, ground := Ground.data }, { on := 15, ground := Ground.chain }, { on := 0, ground := Ground.phase }, { on := 1, ground := Ground.phase }, { on := 2, ground := Ground.phase }, { on := 3, ground := Ground.phase }, { on := 4, ground := Ground.phase }, { on := 5, ground := Ground.phase }, { on := 6, ground := Ground.phase }, { on := 7, ground := Ground.phase }, { on := 8, ground := Ground.phase }, { on := 9, ground := Ground.phase }, { on := 10, ground := Ground.phase }, { on := 11, ground := Ground.phase }, { on := 12, ground := Ground.phase }, { on := 13, ground := Ground.phase }, { on := 14, ground := Ground.phase }, { on := 15, ground := Ground.phase }], guard := none }) (v := .int .i64 x2) rfl (by kernel_rfl) (by kernel_rfl) (by kernel_rfl) (fun _ _ _ h => h) (Or.inl ⟨by rfl, fun W hW => ?_⟩) hSw ?_
              · first | (go_simp; done) | rfl
              try simp only [Act.put, List.setIfInBounds_toArray, List.set_cons_zero, List.set_cons_succ]
              refine wpAnyH_done (by kernel_rfl) ?_ _
              clear f0 f1 g00 g01
              obtain ⟨Z2, hZ⟩ : ∃ Z, Z = (yb.setCell ⟨Z1.heap.size, 0, none⟩ (.int .i64 (a2 : Int))).setCell ⟨Z1.heap.size, 1, none⟩ (.int .i64 (k2 : Int)) := ⟨_, rfl⟩
              rw [← hZ]
              have hBZ : Below Z1.heap.size Z1 Z2 := by rw [hZ]; exact (HByb.out.setCell (by show Z1.heap.size ≤ Z1.heap.size; omega) _).setCell (by show Z1.heap.size ≤ Z1.heap.size; omega) _
              have hSZ : Z2.heap[Z1.heap.size]? = some (.cells #[.int .i64 (a2 : Int), .int .i64 (k2 : Int)] 28 (0, 0)) := by rw [hZ]; exact put2 HNyb.out _ _
              obtain ⟨s2, hs⟩ : ∃ s, s = Z1.heap.size := ⟨_, rfl⟩
              rw [← hs] at hSZ
              have hsb : Z1.heap.size ≤ s2 := by omega
              rw [show Value.pointer (some ⟨Z1.heap.size, 0, none⟩) = Value.pointer (some ⟨s2, 0, none⟩) by rw [hs]]
              clear hZ hs hbyb hwyb HNyb HByb
              have hB5 : Below u5.heap.size u5 Z2 := HUR.out.trans ((HBZ1.out.trans (hBZ.mono HBZ1.out.size)).mono HUR.out.size)
              have HB5 := Lib.hid hB5
              obtain ⟨m0, m1⟩ := own2 ((hB5.block u4.heap.size hs5).trans HS5.out)
              obtain ⟨n0, n1'⟩ := own2 ((hBZ.block s1 hs1Z).trans HSZ1.out)
              obtain ⟨p0, p1⟩ := own2 hSZ
              clear hB5 hBZ hSZ q0 q1
              obtain ⟨c1, c2, c3⟩ | ⟨c1, c2, c3, c4⟩ | ⟨c1, c2, c3⟩ | ⟨c1, c2, c3, c4⟩ := HAA.out
              · have c1 : eY = 0 := c1
                have c2 : x1 = 0 := c2
                have c3 : x2 = 0 := c3
                subst c1 c2 c3
                go_wp2_with fail
                go_roundw
                case rel => exact ⟨i + 1, hlt, by go_num, HB5.out⟩
                case measure => simp [intOf]; omega
              · have c1 : eY ≠ 0 := c1
                have c2 : i < tY := c2
                have c3 : x1 = 0 := c3
                have c4 : x2 = 0 := c4
                subst c3 c4
                have hy1 : (eY == 0) = false := by simp only [beq_eq_false_iff_ne, ne_eq]; exact c1
                have hy2 : (eY != 0) = true := by simp only [bne_iff_ne, ne_eq]; exact c1
                have hy3 : ((i : Int) == (tY : Int)) = false := by simp only [beq_eq_false_iff_ne, ne_eq]; omega
                clear c1
                go_wp2_with fail
                go_roundw
                case rel => exact ⟨i + 1, hlt, by go_num, HB5.out⟩
                case measure => simp [intOf]; omega
              · have c1 : eY ≠ 0 := c1
                have c2 : tY < i := c2
                have hy1 : (eY == 0) = false := by simp only [beq_eq_false_iff_ne, ne_eq]; exact c1
                have hy2 : (eY != 0) = true := by simp only [bne_iff_ne, ne_eq]; exact c1
                have hy3 : ((i : Int) == (tY : Int)) = false := by simp only [beq_eq_false_iff_ne, ne_eq]; omega
                clear c1
                cases c3
                go_wp2_with fail
                go_roundw
                case rel => exact ⟨i + 1, hlt, by go_num, HB5.out⟩
                case measure => simp [intOf]; omega
              · have c1 : eY ≠ 0 := c1
                have c2 : tY = i := c2
                have hy1 : (eY == 0) = false := by simp only [beq_eq_false_iff_ne, ne_eq]; exact c1
                have hy2 : (eY != 0) = true := by simp only [bne_iff_ne, ne_eq]; exact c1
                clear c1
                cases c3
                cases c4
                subst c2
                go_wp2_with fail
                go_roundw
                case rel => exact ⟨tY + 1, hlt, by go_num, HB5.out⟩
                case measure => simp [intOf]; omega
        · have HB9 := Lib.hid (HBW.out _ hBU)
          clear hB hBU
          go_wp2_with fail
          refine (HA.out _).mono ?_; rintro e w9 ⟨rfl, hb9⟩
          go_wp2_with fail
          go_ret
          exact ⟨rfl, HB9.out.trans (hb9.mono (by omega))⟩
end Go.Proofs.YtgndpcoplkhhgaaGreatDoor
