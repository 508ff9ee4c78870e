/- Which blocks lie on every way: gone over until nothing changes. -/
import Derived.Test.YtgkjhnghibpeoaaRows
import Derived.Test.YtgkjhnghibpeoaaFlCom
import Derived.Test.YtgkjhnghibpeoaaFlPlace
import Derived.Test.YtgkjhnghibpeoaaFlEveryP
import Derived.Scope
import Derived.WalkMore
import Derived.ScopeJumps
import Derived.Laws.EntriesVeiled
import Derived.Test.YtgkjhnghibpeoaaIrSizes
import Derived.Test.YtgkjhnghibpeoaaFlMem
import Derived.Test.YtgkjhnghibpeoaaParseOrder
import Derived.LoopTactic
import Derived.LoopN
import Derived.Deep.LoopGhost
import Derived.WalkKit
import Derived.WalkSpells
import Derived.WalkLawsBesides
import Derived.Lib.Hide
import Derived.OrdersHeld
import Derived.Deep.RegionHeld
import Derived.Deep.DrawnRows
import Derived.RegionTactic
import Derived.Deep.RegionHeld3
import Derived.IntWalk
import Derived.Deep.QuietTactic
import Derived.BigQuiet
namespace Go.Proofs.Ytgkjhnghibpeoaa
open Go.RowKit
set_option maxRecDepth 1000000
attribute [local go_sem ↓] bld_eq bls_eq


def cellSum (w : World) (b : Nat) : Nat := match w.heap[b]? with
  | some (.cells c _ _) => (c.toList.map fun (v : Value) => match v with | .int _ n => n.toNat | _ => 0).sum
  | _ => 0
def sumAt (w : World) (gS : Nat) : Nat := match w.heap[gS]? with
  | some (.cells c _ _) => (c.toList.map fun (v : Value) => match v with | .slice (some p) _ _ => cellSum w p.block | _ => 0).sum
  | _ => 0
def evMu (a : Act) (w : World) : Nat := match a.tmps.getD 21 undef with
  | .slice (some p) _ _ => sumAt w p.block
  | _ => 0
theorem cellSum_of {w : World} {b : Nat} {r : List Nat} {T : TypeId} {fr : Nat × Nat} (h : w.heap[b]? = some (.cells (u64A r) T fr)) : cellSum w b = r.sum := by
  unfold cellSum
  rw [h]
  clear h
  unfold u64A
  simp only [List.map_map]
  congr 1
  induction r with
  | nil => rfl
  | cons x r ih => rw [List.map_cons, ih]; rfl
theorem sums_of : ∀ (bs : List Nat) (S : List (List Nat)) (f : Nat → Nat), bs.length = S.length → (∀ (j b : Nat) (r : List Nat), bs[j]? = some b → S[j]? = some r → f b = r.sum) → (bs.map f).sum = S.flatten.sum := by
  intro bs
  induction bs with
  | nil => intro S f h _; cases S with
    | nil => rfl
    | cons r S => simp at h
  | cons b bs ih =>
    intro S f h hf
    cases S with
    | nil => simp at h
    | cons r S =>
      have h1 := hf 0 b r rfl rfl
      have h2 := ih S f (by simpa using h) (fun j c q hc hq => hf (j + 1) c q hc hq)
      simp [h1, h2]
theorem SetM.sum {w : World} {lo gS m W : Nat} {bs : List Nat} {S : List (List Nat)} (h : SetM w lo gS m W bs S) (hm : bs.length = m) : sumAt w gS = S.flatten.sum := by
  unfold sumAt
  rw [h.row, hm, Nat.sub_self, List.replicate_zero, List.append_nil]
  unfold setC
  simp only [List.map_map]
  exact sums_of bs S _ h.len (fun j b r hb hr => cellSum_of (h.at' j b r hb hr))
theorem SetM.down {w : World} {lo lo' gS m W : Nat} {bs : List Nat} {S : List (List Nat)} (h : SetM w lo gS m W bs S) (hl : lo' ≤ lo) : SetM w lo' gS m W bs S :=
  ⟨h.row, h.len, h.at', h.rlen, fun b hb => Nat.le_trans hl (h.low b hb), h.nodup, h.notin, Nat.le_trans hl h.lowS⟩
theorem bitAt_out {l : List Bool} {i : Nat} (h : l.length ≤ i) : bitAt l i = false := by
  unfold bitAt
  rw [List.getElem?_eq_none h]
  rfl
def plc (P : List Nat) (y : Int) : Nat := (P[y.toNat]?).getD 0
/-- The search's memory. -/
structure EvJ (rv : Value) (st : Int) (bv : Value) (o : List Nat) (N : Nat) (w : World) (z z2 gP gS : Nat) (P bs : List Nat) (S : List (List Nat)) (op : List Bool) (w' : World) : Prop where
  gbx : w'.heap[w.heap.size]? = some (.cells #[rv, .int .i64 st, bv] 25 (0, 0))
  pl : w'.heap[gP]? = some (.cells (natA P) 3 (0, 0))
  plen : P.length = N
  pat : ∀ j x : Nat, o[j]? = some x → P[x]? = some j
  on : w'.heap[z]? = some (.cells #[.slice (some ⟨gS, 0, none⟩) o.length o.length] 52 (0, 0))
  opc : w'.heap[z + 1]? = some (.cells (boolA op) 4 (0, 0))
  set : SetM w' z2 gS o.length ((o.length + 63) / 64) bs S
  blen : bs.length = o.length
  below : Below w.heap.size w w'
  blt : ∀ b ∈ bs, b < z
  glt : gS < z
  zlt : w.heap.size < gP ∧ gP < z2 ∧ z2 ≤ z
theorem EvJ.keeps {rv : Value} {st : Int} {bv : Value} {o : List Nat} {N : Nat} {w : World} {z z2 gP gS : Nat} {P bs : List Nat} {S : List (List Nat)} {op : List Bool} {u u' : World} (h : EvJ rv st bv o N w z z2 gP gS P bs S op u) (hb : Below u.heap.size u u') : EvJ rv st bv o N w z z2 gP gS P bs S op u' :=
  have k := fun (x : Nat) (c : Obj) (e : u.heap[x]? = some c) => (hb.block x (Array.getElem?_eq_some_iff.1 e).1).trans e
  ⟨k _ _ h.gbx, k _ _ h.pl, h.plen, h.pat, k _ _ h.on, k _ _ h.opc, h.set.keeps hb, h.blen, h.below.trans (hb.mono h.below.size), h.blt, h.glt, h.zlt⟩
theorem EvJ.open' {rv : Value} {st : Int} {bv : Value} {o : List Nat} {N : Nat} {w : World} {z z2 gP gS : Nat} {P bs : List Nat} {S : List (List Nat)} {op : List Bool} {u : World} (h : EvJ rv st bv o N w z z2 gP gS P bs S op u) (k : Nat) (v : Bool) : EvJ rv st bv o N w z z2 gP gS P bs S (op.set k v) (u.setCell ⟨z + 1, k, none⟩ (.bool v)) := by
  have hz := h.zlt
  have hg := h.glt
  have q := fun (x : Nat) (c : Obj) (hx : x ≠ z + 1) (e : u.heap[x]? = some c) => (Below.heap_setCell u ⟨z + 1, k, none⟩ (.bool v) x hx).trans e
  refine ⟨q _ _ (by omega) h.gbx, q _ _ (by omega) h.pl, h.plen, h.pat, q _ _ (by omega) h.on, boolA_set h.opc k v, ⟨q _ _ (by omega) h.set.row, h.set.len, fun j b r h1 h2 => q _ _ (by have := h.blt b (List.mem_of_getElem? h1); omega) (h.set.at' j b r h1 h2), h.set.rlen, h.set.low, h.set.nodup, h.set.notin, h.set.lowS⟩, h.blen, h.below.setCell (by show w.heap.size ≤ z + 1; omega) _, h.blt, h.glt, h.zlt⟩
theorem EvJ.com {rv : Value} {st : Int} {bv : Value} {o : List Nat} {N : Nat} {w : World} {z z2 gP gS : Nat} {P bs : List Nat} {S S' : List (List Nat)} {op : List Bool} {u u' : World} (h : EvJ rv st bv o N w z z2 gP gS P bs S op u) (hS : SetM u' z2 gS o.length ((o.length + 63) / 64) bs S') {b : Nat} (hb : b ∈ bs) (hw : Wr (fun x => x = b) u u') : EvJ rv st bv o N w z z2 gP gS P bs S' op u' := by
  have hz := h.zlt
  have hlo := h.set.low b hb
  have hbz := h.blt b hb
  have q := fun (x : Nat) (c : Obj) (hx : x ≠ b) (e : u.heap[x]? = some c) => (hw.block x (Array.getElem?_eq_some_iff.1 e).1 hx).trans e
  have hs := h.below.size
  exact ⟨q _ _ (by omega) h.gbx, q _ _ (by omega) h.pl, h.plen, h.pat, q _ _ (by omega) h.on, q _ _ (by omega) h.opc, hS, h.blen, h.below.trans (hw.below (fun x hx => by omega) (by omega)), h.blt, h.glt, h.zlt⟩
theorem EvJ.zsize {rv : Value} {st : Int} {bv : Value} {o : List Nat} {N : Nat} {w : World} {z z2 gP gS : Nat} {P bs : List Nat} {S : List (List Nat)} {op : List Bool} {u : World} (h : EvJ rv st bv o N w z z2 gP gS P bs S op u) : z + 1 < u.heap.size := (Array.getElem?_eq_some_iff.1 h.opc).1
theorem wp_scope_again {P : Program} {Q : Exit → Act → World → Prop} {a : Act} {w : World} {c rest : Code} (l : Nat) (J : Act → World → Prop) (μ : Act → World → Nat) (hf : findLabel c l = some (Code.skip.seq rest))
    (first : (∀ a w, J a w → rest.wp P (Exit.jump l J Q) a w) → c.wp P (Exit.jump l J Q) a w)
    (pass : ∀ a w, J a w → rest.wp P (Exit.jump l (fun a' w' => J a' w' ∧ μ a' w' < μ a w) Q) a w) : (Code.scope c).wp P Q a w :=
  wp_scope_jumps l J μ hf (first fun a w h => Code.wp_mono (fun e a' w' q => by
    cases e with
    | goto l' => exact ⟨q.1, q.2.1⟩
    | _ => exact q) (pass a w h)) fun a w h => wp_seq (wp_skip (pass a w h))

/-- What onEveryWay answers. -/
def OnE (bl : List Bk) (o : List Nat) (w : World) (e : Ending) (w' : World) : Prop := ∃ gS bs S, e = .returned (.slice (some ⟨gS, 0, none⟩) o.length o.length) ∧ SetM w' w.heap.size gS o.length ((o.length + 63) / 64) bs S ∧ bs.length = o.length ∧ FixF bl o S ∧ Below w.heap.size w w'
set_option maxHeartbeats 64000000 in
theorem every_any (B lo : Nat) (g : Gr) (o : List Nat) (v : Value) (w : World) (hg : FOk g.blocks) (ho : OrdP g.blocks o) (hol : o.length ≤ g.blocks.length) (hI : GIn w B g) (hBw : B ≤ w.heap.size) (hv : RowAt w lo v (o.map fun (n : Nat) => (n : Int))) :
    Calls Try.prog 17 #[.agg #[g.rv, .int .i64 g.sites, g.bv], v] w (OnE g.blocks o w) := by
  obtain ⟨ao, cap, rfl⟩ := hv.form
  obtain ⟨bo, bcp, eb, hbl, hbg⟩ := hI.blies.form
  obtain ⟨N, hN⟩ : ∃ N, N = g.blocks.length := ⟨_, rfl⟩
  rw [← hN] at eb hbg hol
  have hn8 : N ≤ 4096 := by rw [hN]; exact hg.room
  have h0 := ho.pos
  obtain ⟨rv, hrv⟩ : ∃ x, x = g.rv := ⟨_, rfl⟩
  obtain ⟨st, hst⟩ : ∃ x, x = g.sites := ⟨_, rfl⟩
  have HR := Lib.hid (And.intro hrv hst)
  obtain ⟨W1, hW1⟩ : ∃ W1, W1 = w.alloc (.cells #[rv, .int .i64 st, .slice bo N bcp] 25) := ⟨_, rfl⟩
  have hb1 : Below w.heap.size w W1 := by rw [hW1]; exact below_box w _
  have hz1 : W1.heap.size = w.heap.size + 1 := by rw [hW1]; simp
  have hG1 : W1.heap[w.heap.size]? = some (.cells #[rv, .int .i64 st, .slice bo N bcp] 25 (0, 0)) := by rw [hW1]; exact (MapKept.heap_alloc _ _).1
  have HPL := Lib.hid (places_any o lo N _ W1 (hv.belowK hb1) ho.nodup (fun x hx => by rw [hN]; exact ((ho.mem x).1 hx).lt hg) (by omega) hn8)
  have HST := Lib.hid (fun (u : World) => starting_any o.length u h0 (by omega))
  obtain ⟨m, hm⟩ : ∃ m, m = o.length := ⟨_, rfl⟩
  rw [List.length_map, ← hm] at HPL ⊢
  rw [← hm] at HST h0 hol
  rw [eb, ← hrv, ← hst]
  have mk := make_bool m (by omega)
  obtain ⟨M1, hM1⟩ : ∃ M, M = boolA (List.replicate m false) := ⟨_, rfl⟩
  rw [← hM1] at mk
  obtain ⟨q0, q1, q2⟩ := own3 (MapKept.heap_alloc w (.cells #[rv, .int .i64 st, .slice bo N bcp] 25)).1
  have HV := Lib.hid hv
  have HI := Lib.hid hI
  have HG := Lib.hid hg
  have HN := Lib.hid hN
  have HEB := Lib.hid eb
  have HO := Lib.hid ho
  have HM := Lib.hid hm
  have HM1 := Lib.hid hM1
  have HW1 := Lib.hid hW1
  have HB1 := Lib.hid hb1
  have HG1 := Lib.hid hG1
  clear hv hI hg hN eb ho hm hM1 hW1 hb1 hG1 hrv hst hbl
  go_enter Try.func17, Try.ntmps17
  go_wp2_with fail

  refine wp_scope_again 0 (fun (a' : Act) (w' : World) => ∃ (u9 u10 u11 u13 u28 u29 u30 u31 u32 u33 u34 u35 u36 u37 u38 u39 u40 u41 u42 u43 u44 u45 u46 u47 u48 u49 u50 u51 u52 u53 u54 u55 u56 u57 u58 u59 u60 u61 u62 u63 u64 u65 u66 u67 u68 u69 u70 : Value) (z z2 gP gS : Nat) (P bs : List Nat) (S : List (List Nat)) (op : List Bool), a' = { tmps := #[.agg #[rv, .int .i64 st, .slice bo N bcp], .slice ao m cap, .pointer (some ⟨w.heap.size, 0, none⟩), undef, .slice none 0 0, .slice (some ⟨gP, 0, none⟩) N N, .pointer (some ⟨z, 0, none⟩), .func (.func 27) #[] #[.pointer (some ⟨z, 0, none⟩)], .slice (some ⟨z + 1, 0, none⟩) m m, u9, u10, u11, undef, u13, .slice ao m cap, .pointer (some ⟨w.heap.size, 2, none⟩), .slice bo N bcp, .int .i64 (N : Int), .slice (some ⟨gP, 0, none⟩) N N, .slice ao m cap, .int .i64 (m : Int), .slice (some ⟨gS, 0, none⟩) m m, .func (.func 27) #[] #[.pointer (some ⟨z, 0, none⟩)], .slice ao m cap, .int .i64 (m : Int), .slice (some ⟨z + 1, 0, none⟩) m m, .slice (some ⟨z + 1, 0, none⟩) m m, .pointer (some ⟨z + 1, 0, none⟩), u28, u29, u30, u31, u32, u33, u34, u35, u36, u37, u38, u39, u40, u41, u42, u43, u44, u45, u46, u47, u48, u49, u50, u51, u52, u53, u54, u55, u56, u57, u58, u59, u60, u61, u62, u63, u64, u65, u66, u67, u68, u69, u70], defers := [] } ∧ Hid (EvJ g.rv g.sites g.bv o g.blocks.length w z z2 gP gS P bs S op w' ∧ FixA g.blocks o S op (fun _ _ => False))) evMu rfl ?_ ?_
  · intro again
    have AGAIN := Lib.hid again
    clear again
    go_wp2_with fail
    rw [← HW1.out]
    refine HPL.out.mono ?_; rintro e W2 ⟨P, gP, rfl, hgP, hP, hPl, hPm, hb2⟩
    have HP := Lib.hid hP
    have HPM := Lib.hid (And.intro hPl hPm)
    have HB2 := Lib.hid hb2
    have hs2 := hb2.size
    have hPs : gP < W2.heap.size := (Array.getElem?_eq_some_iff.1 hP).1
    clear hP hb2 q0 q1 q2 hPl hPm
    go_wp2_with fail
    refine (HST.out W2).mono ?_; rintro e W3 ⟨gS, bs, rfl, hS, hb3⟩
    obtain ⟨W4, hW4, hz4, h40, h41, hb4⟩ := alloc2 W3 (.cells #[.slice (some ⟨gS, 0, none⟩) m m] 52) (.cells (M1.setIfInBounds 0 (.bool true)) 4)
    have hs3 := hb3.size
    have h41b := h41
    rw [HM1.out, show (boolA (List.replicate m false)).setIfInBounds 0 (.bool true) = boolA ((List.replicate m false).set 0 true) by unfold boolA; rw [List.setIfInBounds_toArray, List.map_set]] at h41b
    have hE : EvJ g.rv g.sites g.bv o g.blocks.length w W3.heap.size W2.heap.size gP gS P bs (startS m ((m + 63) / 64)) ((List.replicate m false).set 0 true) W4 := by
      have hb14 : Below W1.heap.size W1 W4 := (HB2.out.trans (hb3.mono hs2)).trans (hb4.mono (by omega))
      refine ⟨?_, ?_, HPM.out.1.trans HN.out, HPM.out.2, by rw [← HM.out]; exact h40, h41b, ?_, ?_, HB1.out.trans (hb14.mono (by omega)), fun b hb => hS.lt hb, (Array.getElem?_eq_some_iff.1 hS.row).1, by omega, by omega, by omega⟩
      · rw [HEB.out, ← HR.out.1, ← HR.out.2]; exact (hb14.block _ (by omega)).trans HG1.out
      · exact (hb4.block _ (by omega)).trans ((hb3.block _ hPs).trans HP.out)
      · rw [← HM.out]; exact hS.keeps hb4
      · rw [hS.len, ← HM.out]; simp [startS]; omega
    have h5 : M1[0]? = some (.bool false) := by rw [HM1.out]; unfold boolA; simp [h0]
    have HE := Lib.hid hE
    have HW4 := Lib.hid hW4
    clear hS hb3 hW4 hz4 h40 h41 h41b hb4 hE
    go_wp2_with fail
    rw [← HW4.out]
    go_step3
    rename_i hKK
    refine hKK _ _ (AGAIN.out _ _ ⟨_, _, _, _, _, _, _, _, _, _, _, _, _, _, _, _, _, _, _, _, _, _, _, _, _, _, _, _, _, _, _, _, _, _, _, _, _, _, _, _, _, _, _, _, _, _, _, W3.heap.size, W2.heap.size, gP, gS, P, bs, startS m ((m + 63) / 64), (List.replicate m false).set 0 true, rfl, Lib.hid ⟨HE.out, ?_⟩⟩)
    rw [HM.out]
    exact FixA.start HO.out
  · rintro a' w' ⟨u9, u10, u11, u13, u28, u29, u30, u31, u32, u33, u34, u35, u36, u37, u38, u39, u40, u41, u42, u43, u44, u45, u46, u47, u48, u49, u50, u51, u52, u53, u54, u55, u56, u57, u58, u59, u60, u61, u62, u63, u64, u65, u66, u67, u68, u69, u70, z, z2, gP, gS, P, bs, S, op, rfl, HJ⟩
    obtain ⟨hE, hF⟩ := HJ.out
    obtain ⟨s, hs⟩ : ∃ s, s = S.flatten.sum := ⟨_, rfl⟩
    have hmu : ∀ u, (∃ S1 op1, EvJ g.rv g.sites g.bv o g.blocks.length w z z2 gP gS P bs S1 op1 u ∧ S1.flatten.sum < s) → sumAt u gS < sumAt w' gS := fun u ⟨S1, op1, h1, h2⟩ => by
      rw [h1.set.sum h1.blen, hE.set.sum hE.blen, ← hs]; exact h2
    have HMUL := Lib.hid hmu
    have HO1 := Lib.hid (show OutI g.blocks o s 0 false S op from ⟨hF, by omega, fun q => (by cases q), fun _ i hi => by omega⟩)
    have HEJ := Lib.hid hE
    clear hE hF HJ hmu q0 q1 q2 hs
    go_wp2_with fail
    go_loopw [9, 30] (fun c q wr => ∃ (k : Nat) (ch : Bool), k ≤ m ∧ q = .int .i64 (k : Int) ∧ c = .bool ch ∧ Hid (∃ S1 op1, EvJ g.rv g.sites g.bv o g.blocks.length w z z2 gP gS P bs S1 op1 wr ∧ OutI g.blocks o s k ch S1 op1)) (fun _ q _ => m - (intOf q).toNat)
    case atStart => exact ⟨0, false, Nat.zero_le _, rfl, rfl, Lib.hid ⟨S, op, HEJ.out, HO1.out⟩⟩
    case round =>
      rename World => V
      obtain ⟨k, ch, hk, rfl, rfl, HR1⟩ := hrel
      obtain ⟨S1, op1, hE, hU⟩ := HR1.out
      have hzs := hE.zsize
      have hzl := hE.zlt
      by_cases hlk : k < m
      · have hko : k < o.length := by rw [← HM.out]; exact hlk
        obtain ⟨gN, offN, rfl, hg1, hg2, hcell⟩ := (HV.out.belowK hE.below).get rfl (k := k) (by simpa using hko)
        rw [List.getElem_map] at hcell
        have hok : o[k]? = some o[k] := List.getElem?_eq_getElem hko
        generalize o[k] = n at hcell hok
        obtain ⟨bv, hbv⟩ : ∃ bv, op1[k]? = some bv := ⟨_, List.getElem?_eq_getElem (by rw [hU.fix.olen]; exact hko)⟩
        have c1 := boolA_at hE.opc hbv
        have f1 := Lib.frozen_of_heap hE.opc k
        cases bv with
        | false =>
          have HQ := Lib.hid (And.intro hE (hU.skip (bitAt_some hbv)))
          clear hE hU HR1 hbv hok hko
          go_wp2_with fail
          go_roundw
          case rel => exact ⟨k + 1, ch, by omega, by go_num, rfl, Lib.hid ⟨S1, op1, HQ.out.1, HQ.out.2⟩⟩
          case measure => simp [intOf]; omega
        | true =>
          have hnl : n < g.blocks.length := HO.out.lt HG.out hok
          have hIV := HI.out.keeps (hE.below.mono hBw)
          have hvs := hE.below.size
          obtain ⟨go, off, rfl, hgo⟩ := hbg (by have := HN.out; omega)
          have hat := (hIV.blies.at HEB.out n hnl).2
          have hbi := hIV.blocks _ (List.getElem_mem hnl)
          have hbt : g.blocks[n]? = some g.blocks[n] := List.getElem?_eq_getElem hnl
          generalize g.blocks[n] = bk at hat hbi hbt
          obtain ⟨io, icap, eiv, -, -⟩ := hbi.lies.form
          obtain ⟨V1, hV1⟩ : ∃ V1, V1 = V.setCell ⟨z + 1, k, none⟩ (.bool false) := ⟨_, rfl⟩
          have hE1 := hE.open' k false
          rw [← hV1] at hE1
          have hU1 := hU.enter hko
          have HNX := Lib.hid (fnext_any bk V1 ⟨_, _, _, eiv⟩)
          obtain ⟨IL, hIL⟩ : ∃ x, x = bk.ins.length := ⟨_, rfl⟩
          rw [← hIL] at eiv
          obtain ⟨p0, p1, p2, p3, p4⟩ := bc hat
          rw [eiv] at p0 HNX
          obtain ⟨q0, q1, q2⟩ := own3 hE.gbx
          rw [HEB.out] at q2
          rw [← HN.out] at hnl
          have hgw : go < w.heap.size := by omega
          have hz1 : V1.heap.size = V.heap.size := by rw [hV1, size_set]
          have HV1 := Lib.hid hV1
          have HE1 := Lib.hid hE1
          have HU1 := Lib.hid hU1
          have HBT := Lib.hid hbt
          have HOK := Lib.hid hok
          clear hE hU HR1 hbv hok hIV hat hbi hbt eiv hIL hV1 hE1 hU1
          go_wp2_with fail
          rw [← HV1.out]
          refine HNX.out.mono ?_; rintro e V2 ⟨v2, rfl, hrow2, hb2⟩
          obtain ⟨ao2, cap2, rfl⟩ := hrow2.form
          have hc2 := nextF_len bk
          obtain ⟨c2, hcc⟩ : ∃ c, c = (nextF bk).length := ⟨_, rfl⟩
          rw [← hcc] at hc2 ⊢
          have HC2 := Lib.hid hcc
          have HROW2 := Lib.hid hrow2
          have HE2 := Lib.hid (HE1.out.keeps hb2)
          clear hrow2 hb2 hcc p0 p1 p2 p3 p4 q0 q1 q2 c1 f1 hcell
          go_wp2_with fail
          go_loopw [9, 50] (fun c q wr => ∃ (i : Nat) (ch' : Bool), i ≤ c2 ∧ q = .int .i64 (i : Int) ∧ c = .bool ch' ∧ Hid (∃ S2 op2, EvJ g.rv g.sites g.bv o g.blocks.length w z z2 gP gS P bs S2 op2 wr ∧ InI g.blocks o s k (((nextF bk).take i).map (plc P)) ch' S2 op2 ∧ Wr (fun x => x ∈ bs ∨ x = z + 1) V2 wr)) (fun _ q _ => c2 - (intOf q).toNat)
          case atStart => exact ⟨0, ch, Nat.zero_le _, rfl, rfl, Lib.hid ⟨S1, op1.set k false, HE2.out, HU1.out, Wr.refl _ _⟩⟩
          case round =>
            obtain ⟨i, ch2, hi, rfl, rfl, HR2⟩ := hrel
            obtain ⟨S2, op2, hE2, hI2, hwr⟩ := HR2.out
            have hzr := hE2.zsize
            by_cases hli : i < c2
            · have hix : i < (nextF bk).length := by rw [← HC2.out]; exact hli
              obtain ⟨gM, offM, rfl, hgm1, hgm2, hcell⟩ := (HROW2.out.keeps hwr (fun x hx => by
                rcases hx with hx | hx
                · have := hE2.blt x hx; omega
                · omega)).get rfl hix
              have hyl := HG.out.lt HBT.out (List.getElem_mem hix)
              have htk : ((nextF bk).take (i + 1)).map (plc P) = ((nextF bk).take i).map (plc P) ++ [plc P (nextF bk)[i]] := by rw [List.take_succ_eq_append_getElem hix, List.map_append]; rfl
              have hym := List.getElem_mem hix
              generalize (nextF bk)[i] = y at hcell hyl htk hym
              obtain ⟨y0, rfl⟩ : ∃ y0 : Nat, y = (y0 : Int) := ⟨y.toNat, by omega⟩
              have hry : Rc g.blocks y0 := by
                have := ((HO.out.mem n).1 (List.mem_of_getElem? HOK.out)).step HBT.out hym
                simpa using this
              obtain ⟨to, hto⟩ := List.mem_iff_getElem?.1 ((HO.out.mem y0).2 hry)
              have hPy := hE2.pat to y0 hto
              have hplc : plc P (y0 : Int) = to := by unfold plc; rw [Int.toNat_natCast, hPy]; rfl
              rw [hplc] at htk
              have hed : Ed g.blocks o k to := ⟨n, y0, bk, HOK.out, hto, HBT.out, hym⟩
              have htom : to < m := by rw [HM.out]; exact some_lt hto
              have hyN : y0 < N := by rw [HN.out]; omega
              have cP := natA_at hE2.pl hPy
              have hlS := hE2.set.len
              have hbl := hE2.blen
              obtain ⟨b, hb⟩ : ∃ b, bs[to]? = some b := ⟨_, List.getElem?_eq_getElem (by rw [hbl, ← HM.out]; exact htom)⟩
              obtain ⟨bi, hbi⟩ : ∃ b, bs[k]? = some b := ⟨_, List.getElem?_eq_getElem (by rw [hbl, ← HM.out]; exact hlk)⟩
              obtain ⟨A, hA⟩ : ∃ A, S2[to]? = some A := ⟨_, List.getElem?_eq_getElem (by rw [← hlS]; exact some_lt hb)⟩
              obtain ⟨D, hD⟩ : ∃ A, S2[k]? = some A := ⟨_, List.getElem?_eq_getElem (by rw [← hlS]; exact some_lt hbi)⟩
              have hcom := common_any z2 gS z o.length ((o.length + 63) / 64) bs S2 wr hE2.set hbl (by rw [← HM.out]; omega) (by rw [← HM.out]; omega) hE2.on (fun q => by have := hE2.blt z q; omega) k to b bi A D hb hbi hA hD (hI2.fix.row A (List.mem_of_getElem? hA)).2 (hI2.fix.row D (List.mem_of_getElem? hD)).2
              obtain ⟨hs1, hs2⟩ := hI2.step HO.out.nodup hed hA hD
              rw [← htk] at hs1 hs2
              have HCOM := Lib.hid hcom
              have HE3 := Lib.hid hE2
              have HWR := Lib.hid hwr
              have HS := Lib.hid (And.intro hs1 hs2)
              have HBM := Lib.hid (List.mem_of_getElem? hb)
              have HPY := Lib.hid hPy
              have HOL := Lib.hid hI2.fix.olen
              clear hE2 hI2 hwr HR2 htk hym hry hto hPy hplc hed hlS hbl hb hbi hA hD hcom hs1 hs2 hix hyl
              go_wp2_with fail
              refine HCOM.out.mono ?_; rintro e w7 ⟨rfl, hS7, hw7⟩
              have hE7 := HE3.out.com hS7 HBM.out hw7
              have hw7' := HWR.out.trans (hw7.mono (fun x hx => .inl (hx ▸ HBM.out)) : Wr (fun x => x ∈ bs ∨ x = z + 1) wr w7)
              by_cases hne : comL to 0 A D ≠ A
              · rw [decide_eq_true hne]
                have cP := natA_at hE7.pl HPY.out
                obtain ⟨zz, hzz⟩ : ∃ b, op2[to]? = some b := ⟨_, List.getElem?_eq_getElem (by rw [HOL.out, ← HM.out]; exact htom)⟩
                have c1 := boolA_at hE7.opc hzz
                have f1 := Lib.frozen_of_heap hE7.opc to
                have HQ := Lib.hid (And.intro (hE7.open' to true) (And.intro (HS.out.1 hne) (hw7'.trans (Wr.set (S := fun x => x ∈ bs ∨ x = z + 1) (i := to) w7 (.inr rfl) (.bool true)))))
                clear hS7 hw7 hE7 hw7' hne hzz
                go_wp2_with fail
                go_roundw
                case rel => exact ⟨i + 1, true, by omega, by go_num, rfl, Lib.hid ⟨_, _, HQ.out.1, HQ.out.2.1, HQ.out.2.2⟩⟩
                case measure => simp [intOf]; omega
              · rw [decide_eq_false hne]
                have HQ := Lib.hid (And.intro hE7 (And.intro (HS.out.2 (Classical.not_not.1 hne)) hw7'))
                clear hS7 hw7 hE7 hw7' hne
                go_wp2_with fail
                go_roundw
                case rel => exact ⟨i + 1, ch2, by omega, by go_num, rfl, Lib.hid ⟨_, _, HQ.out.1, HQ.out.2.1, HQ.out.2.2⟩⟩
                case measure => simp [intOf]; omega
            · rw [List.take_of_length_le (by rw [← HC2.out]; omega)] at hI2
              have HQ := Lib.hid (And.intro hE2 (hI2.leave (fun b he => by
                obtain ⟨x, y, bb, hx, hy, hbb, hin⟩ := he
                rw [HOK.out] at hx; cases hx
                rw [HBT.out] at hbb; cases hbb
                refine List.mem_map.2 ⟨_, hin, ?_⟩
                unfold plc
                rw [Int.toNat_natCast, hE2.pat b y hy]
                rfl)))
              clear hE2 hI2 hwr HR2
              go_wp2_with fail
              go_roundw
              case rel => exact ⟨k + 1, ch2, by omega, by go_num, rfl, Lib.hid ⟨_, _, HQ.out.1, HQ.out.2⟩⟩
              case measure => simp [intOf]; omega
      · have hkm : k = m := by omega
        subst hkm
        cases ch with
        | true =>
          have HQ := Lib.hid (show ∃ S1 op1, EvJ g.rv g.sites g.bv o g.blocks.length w z z2 gP gS P bs S1 op1 V ∧ S1.flatten.sum < s from ⟨S1, op1, hE, hU.lt rfl⟩)
          have HF := Lib.hid (And.intro hE hU.fix)
          clear hE hU HR1
          go_wp2_with fail
          go_step3
          exact ⟨rfl, ⟨_, _, _, _, _, _, _, _, _, _, _, _, _, _, _, _, _, _, _, _, _, _, _, _, _, _, _, _, _, _, _, _, _, _, _, _, _, _, _, _, _, _, _, _, _, _, _, z, z2, gP, gS, P, bs, S1, op1, rfl, Lib.hid HF.out⟩, HMUL.out V HQ.out⟩
        | false =>
          have on0 := one_at hE.on
          rw [← HM.out] at on0
          have HE := Lib.hid (show OnE g.blocks o w (.returned (.slice (some ⟨gS, 0, none⟩) o.length o.length)) V from
            ⟨gS, bs, S1, rfl, hE.set.down (by omega), hE.blen, ⟨op1, hU.fix, fun i => by
              by_cases hik : i < k
              · exact hU.off rfl i hik
              · exact bitAt_out (by rw [hU.fix.olen, ← HM.out]; omega)⟩, hE.below⟩)
          rw [← HM.out] at HE
          clear hE hU HR1
          go_wp2_with fail
          try simp only [Exit.jump]
          go_ret
          exact HE.out
end Go.Proofs.Ytgkjhnghibpeoaa
