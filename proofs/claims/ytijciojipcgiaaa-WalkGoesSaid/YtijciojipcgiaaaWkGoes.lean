/- The law of leaps that go on, called: it answers true. -/
import Derived.Test.YtijciojipcgiaaaRows
import Derived.Test.YtijciojipcgiaaaWkRunU
import Derived.Test.YtijciojipcgiaaaWkArgs
import Derived.Test.YtijciojipcgiaaaWkPicks
import Derived.Lib.AppendZeros
import Derived.Test.YtijciojipcgiaaaIrSizes
import Derived.Test.YtijciojipcgiaaaIrBoth
import Derived.Test.YtijciojipcgiaaaWkBack
import Derived.LoopTactic
import Derived.LoopN
import Derived.WalkKit
import Derived.WalkSpells
import Derived.WalkLawsBesides
import Derived.Lib.Hide
import Derived.OrdersHeld
import Derived.Deep.RegionHeld
import Derived.Deep.DrawnRows
import Derived.RegionTactic
import Derived.Deep.RegionHeld3
import Derived.IntWalk
namespace Go.Proofs.Ytijciojipcgiaaa
open Go.RowKit
set_option maxRecDepth 100000
attribute [local go_sem ↓] bld_eq bls_eq

/-- The error of a longer run. -/
theorem refC_more (W : Int) (l : List Gr) (np nm : Nat) (fuel : Int) : (refC W l np fuel ≠ 0 ∧ refC W l (np + nm) fuel = refC W l np fuel) ∨ (refC W l np fuel = 0 ∧ (refC W l (np + nm) fuel = 0 ∨ (refC W l (np + nm) fuel = 3 ∧ 65536 < np + nm))) := by
  unfold refC
  by_cases h1 : (checkC W l).2.2 ≠ 0
  · rw [if_pos h1, if_pos h1]; exact .inl ⟨by decide, rfl⟩
  · rw [if_neg h1, if_neg h1]
    by_cases h2 : fuel < 1
    · rw [if_pos h2, if_pos h2]; exact .inl ⟨by decide, rfl⟩
    · rw [if_neg h2, if_neg h2]
      by_cases h3 : 65536 < np ∨ 1048576 < fuel
      · rw [if_pos h3, if_pos (by omega)]; exact .inl ⟨by decide, rfl⟩
      · rw [if_neg h3]
        by_cases h4 : 65536 < np + nm
        · rw [if_pos (.inl h4)]; exact .inr ⟨rfl, .inr ⟨rfl, h4⟩⟩
        · rw [if_neg (by omega)]; exact .inr ⟨rfl, .inl rfl⟩
theorem ow_nil (u : World) (L : Nat) (hL : L ≤ u.heap.size) : (u.alloc (.cells #[] 3)).ownsRow L 3 1 (.slice (some ⟨u.heap.size, 0, none⟩) 0 0) 0 (ints []) := World.ownsRow_made u #[] 0 hL (by decide) (by simp)
set_option maxHeartbeats 64000000 in
theorem goes_law (HA : ∀ w, Calls Try.prog 8 #[] w fun e w' => e = .returned (.bool true) ∧ Below w.heap.size w w') (c : Cd) (w : World) (pv mv : Value) (picks more : List Int) (fuel : Int) (hI : CIn w w.heap.size c) (hP : PickIn w w.heap.size pv picks) (hM : PickIn w w.heap.size mv more) (hf : -9223372036854775808 ≤ fuel ∧ fuel ≤ 9223372036854775807) :
    Calls Try.prog 3 #[.agg #[.int .i64 c.words, c.tv], pv, mv, .int .i64 fuel] w fun e w' => e = .returned (.bool true) ∧ Below w.heap.size w w' := by
  have HA := Lib.hid HA
  have HI := Lib.hid hI
  have HP := Lib.hid hP
  have HM := Lib.hid hM
  have HF := Lib.hid hf
  obtain ⟨pq, pc, epv, hpl, -⟩ := hP.1.form
  obtain ⟨mq, mc, emv, hml, -⟩ := hM.1.form
  obtain ⟨bo, bcp, eb, hbl, -⟩ := hI.tlies.form
  obtain ⟨np, hnp⟩ : ∃ n, n = picks.length := ⟨_, rfl⟩
  obtain ⟨nm, hnm⟩ : ∃ n, n = more.length := ⟨_, rfl⟩
  subst epv emv
  obtain ⟨W0, hW0⟩ : ∃ W0, W0 = w.alloc (.cells #[.int .i64 c.words, c.tv] 24) := ⟨_, rfl⟩
  have hB0 : Below w.heap.size w W0 := by rw [hW0]; exact below_box w _
  have hz0 : w.heap.size < W0.heap.size := by rw [hW0]; simp
  have hG0 : W0.heap[w.heap.size]? = some (.cells #[.int .i64 c.words, c.tv] 24 (0, 0)) := by rw [hW0]; exact (MapKept.heap_alloc _ _).1
  have HCS := Lib.hid (csize_any w.heap.size c W0 (hI.keeps hB0) hB0.size)
  obtain ⟨q0, q1⟩ := own2 hG0
  have e3 := made_int3
  have e30 := made_int0
  have HB0 := Lib.hid hB0
  have HG0 := Lib.hid hG0
  have HW0 := Lib.hid hW0
  rw [hW0] at q0 q1
  rw [eb] at HCS q0 q1 HW0 HG0 ⊢
  obtain ⟨WD, hWD⟩ : ∃ x, x = c.words := ⟨_, rfl⟩
  obtain ⟨N, hN⟩ : ∃ N, N = c.threads.length := ⟨_, rfl⟩
  rw [← hWD, ← hN] at HCS q0 q1 HW0 HG0 ⊢
  rw [← hN] at hbl
  rw [← hnp] at hpl ⊢
  rw [← hnm] at hml ⊢
  have HRU := Lib.hid (fun (u : World) (hu : Below w.heap.size w u) => run_u w.heap.size c u _ picks fuel (hI.keeps hu) hu.size (hP.below hu).1 hf hP.2.1)
  have HR2 := Lib.hid (fun (u : World) (hu : Below w.heap.size w u) (av : Value) (hl : LiesG Icells 1 u u.heap.size av (picks ++ more)) => run_u u.heap.size c u av (picks ++ more) fuel ((hI.keeps hu).up hu.size) (Nat.le_refl _) hl hf (fun x hx => by rcases List.mem_append.1 hx with h | h; exact hP.2.1 x h; exact hM.2.1 x h))
  rw [eb, ← hWD, ← hN, ← hnp] at HRU
  rw [eb, ← hWD, ← hN] at HR2
  have HNL := Lib.hid (And.intro hN hWD)
  have HNP := Lib.hid (And.intro hnp hnm)
  clear hI hP hM hf hB0 hG0 hW0 hnp hnm hN hWD eb
  go_enter Try.func3, Try.ntmps3
  go_wp2_with fail
  rw [← HW0.out]
  clear q0 q1
  refine HCS.out.mono ?_; rintro e V1 ⟨⟨n1, rfl, hn0, hn1⟩, hb1⟩
  have HU1 := Lib.hid (HB0.out.trans (hb1.mono (Nat.le_of_lt hz0)))
  have HG1 := Lib.hid ((hb1.block w.heap.size hz0).trans HG0.out)
  have hz1 : w.heap.size < V1.heap.size := by have := hb1.size; omega
  clear hb1
  go_wp2_with fail
  obtain ⟨V2, hu2⟩ : ∃ V2, V2 = V1.alloc (.cells #[.int .i64 n1, .int .i64 (np : Int), .int .i64 (nm : Int)] 3) := ⟨_, rfl⟩
  have hU2 : Below w.heap.size w V2 := by rw [hu2]; exact HU1.out.alloc (Nat.le_of_lt hz1) _
  have hg2 : V2.heap[w.heap.size]? = some (.cells #[.int .i64 WD, .slice bo N bcp] 24 (0, 0)) := by rw [hu2]; exact (Below.heap_alloc _ _ _ hz1).trans HG1.out
  have HBY := Lib.hid (beyond3_any V1.heap.size n1 (np : Int) (nm : Int) _ _ V2 (by rw [hu2]; exact (MapKept.heap_alloc _ _).1))
  rw [← hu2]
  have HU2 := Lib.hid hU2
  have HG2 := Lib.hid hg2
  have hz2 : w.heap.size < V2.heap.size := heap_lt hg2
  clear hu2 hU2
  obtain ⟨q0, q1⟩ := own2 hg2
  clear hg2
  refine HBY.out.mono ?_
  rintro e V2' ⟨rfl | ⟨rfl, hy1, hy2, hy3⟩, rfl⟩
  · clear q0 q1
    go_wp2_with fail
    go_ret
    exact ⟨rfl, HU2.out⟩
  go_wp2_with fail
  clear q0 q1
  refine (HRU.out _ HU2.out).mono ?_; rintro e V3 ⟨qa, na, ca, sha, sta, rfl, hb3, hra⟩
  rw [← HNL.out.2, ← HNP.out.1] at hra ⊢
  obtain ⟨ea, hea⟩ : ∃ x, x = refC WD c.threads np fuel := ⟨_, rfl⟩
  rw [← hea] at hra ⊢
  have HEA := Lib.hid hea
  have HRA := Lib.hid hra
  have HU3 := Lib.hid (HU2.out.trans (hb3.mono (Nat.le_of_lt hz2)))
  have HG3 := Lib.hid ((hb3.block w.heap.size hz2).trans HG2.out)
  have hz3 : w.heap.size < V3.heap.size := by have := hb3.size; omega
  clear hb3 hra hea
  obtain ⟨V4, hu4⟩ : ∃ V4, V4 = V3.alloc (.cells #[.slice qa na ca, .bool sha, .bool sta] 30) := ⟨_, rfl⟩
  have hb4 : Below V3.heap.size V3 V4 := by rw [hu4]; exact below_box V3 _
  have hz4 : V4.heap.size = V3.heap.size + 1 := by rw [hu4]; simp
  have hXA : V4.heap[V3.heap.size]? = some (.cells #[.slice qa na ca, .bool sha, .bool sta] 30 (0, 0)) := by rw [hu4]; exact (MapKept.heap_alloc _ _).1
  obtain ⟨av1, V5, hr5, ho5, hb5⟩ := app_picks (V4.alloc (.cells #[] 3)) V4.heap.size w.heap.size _ 0 _ _ picks (ow_nil V4 _ (Nat.le_refl _)) (HP.out.below ((HU3.out.trans (hb4.mono (by omega))).alloc (by omega) _)) (by omega) (by rw [← HNP.out.1]; omega) (by simp)
  have hb45 : Below V4.heap.size V4 V5 := ((Below.refl _ V4).alloc (Nat.le_refl _) _).trans hb5
  obtain ⟨av2, V6, hr6, ho6, hb6⟩ := app_picks V5 V4.heap.size w.heap.size av1 _ _ _ more ho5 (HM.out.below ((HU3.out.trans (hb4.mono (by omega))).trans (hb45.mono (by omega)))) (by rw [← HNP.out.1]; omega) (by rw [← HNP.out.2]; omega) hb45.size
  have hb46 : Below V4.heap.size V4 V6 := hb45.trans hb6
  rw [Nat.zero_add, ← HNP.out.1] at ho5
  rw [Nat.zero_add, ← HNP.out.1, ← HNP.out.2] at ho6
  rw [show ints [] ++ ints picks ++ ints more = ints (picks ++ more) by simp [ints]] at ho6
  rw [← HNP.out.1] at hr5
  rw [← HNP.out.2] at hr6
  obtain ⟨hlie, -⟩ := picks_own ho6 (by rw [List.length_append, ← HNP.out.1, ← HNP.out.2]; omega) (fun x hx => by rcases List.mem_append.1 hx with h | h; exact HP.out.2.1 x h; exact HM.out.2.1 x h)
  obtain ⟨qv, cv, hav⟩ : ∃ q c, av2 = .slice q (np + nm) c := by
    rcases ho6.2 with ⟨e, e2⟩ | ⟨gg, cap, cur, e, _⟩
    · exact ⟨none, 0, by rw [e, e2]⟩
    · exact ⟨_, _, e⟩
  subst hav
  have hU6 : Below w.heap.size w V6 := (HU3.out.trans (hb4.mono (by omega))).trans (hb46.mono (by omega))
  have HX6 := Lib.hid ((hb46.block V3.heap.size (by omega)).trans hXA)
  have hg6 : V6.heap[w.heap.size]? = some (.cells #[.int .i64 WD, .slice bo N bcp] 24 (0, 0)) := (hb46.block w.heap.size (by omega)).trans ((hb4.block w.heap.size (by omega)).trans HG3.out)
  have hz6 : V3.heap.size < V6.heap.size := by have := hb46.size; omega
  rw [hz4, hu4] at hr5
  have HR5 := Lib.hid hr5
  have HR6 := Lib.hid hr6
  have HU6 := Lib.hid hU6
  have HL6 := Lib.hid hlie
  have HU4 := Lib.hid hu4
  have HB36 := Lib.hid (hb4.trans (hb46.mono (by omega)))
  have HG6 := Lib.hid hg6
  obtain ⟨q0, q1⟩ := own2 hg6
  clear hb4 hXA ho5 hb5 hb45 ho6 hb6 hb46 hlie hU6 hg6 hr5 hr6 hz4 hu4
  go_wp2_with (at_builtin; first | refine Lib.wpList_append_run _ rfl _ _ _ _ rfl _ _ rfl rfl _ _ HR5.out ?_ | refine Lib.wpList_append_run _ rfl _ _ _ _ rfl _ _ rfl rfl _ _ HR6.out ?_)
  clear q0 q1
  refine (HR2.out _ HU6.out _ HL6.out).mono ?_; rintro e V7 ⟨qb, nb, cb, shb, stb, rfl, hb7, hrb⟩
  rw [← HNL.out.2, List.length_append, ← HNP.out.1, ← HNP.out.2] at hrb ⊢
  obtain ⟨eb, heb⟩ : ∃ x, x = refC WD c.threads (np + nm) fuel := ⟨_, rfl⟩
  rw [← heb] at hrb ⊢
  have hmore := refC_more WD c.threads np nm fuel
  rw [← heb, ← HEA.out] at hmore
  obtain ⟨V8, hu8⟩ : ∃ V8, V8 = V7.alloc (.cells #[.slice qb nb cb, .bool shb, .bool stb] 30) := ⟨_, rfl⟩
  have hb8 : Below V7.heap.size V7 V8 := by rw [hu8]; exact below_box V7 _
  have hz8 : V8.heap.size = V7.heap.size + 1 := by rw [hu8]; simp
  have hz67 : V6.heap.size ≤ V7.heap.size := hb7.size
  have hXB : V8.heap[V7.heap.size]? = some (.cells #[.slice qb nb cb, .bool shb, .bool stb] 30 (0, 0)) := by rw [hu8]; exact (MapKept.heap_alloc _ _).1
  have hXA := (hb8.block V3.heap.size (by omega)).trans ((hb7.block V3.heap.size hz6).trans HX6.out)
  have HU8 := Lib.hid ((HU6.out.trans (hb7.mono (by omega))).trans (hb8.mono (by omega)))
  have HW8 := Lib.hid hu8
  have HXA := Lib.hid hXA
  have HXB := Lib.hid hXB
  have hlv := HA
  rcases hmore with ⟨h1, h2⟩ | ⟨h1, h2⟩
  · have he1 : (ea != 0) = true := by simp only [bne_iff_ne, ne_eq]; exact h1
    rw [h2] at hrb ⊢
    clear h1 h2 heb hrb
    clear hb7 hu8 hb8 hz8 hXB hXA hlv
    go_wp2_with fail
    rw [← HW8.out]
    refine (HA.out _).mono ?_; rintro e u9 ⟨rfl, hb9⟩
    have HB9 := Lib.hid hb9
    clear hb9
    go_wp2_with fail
    go_ret
    exact ⟨rfl, HU8.out.trans (HB9.out.mono HU8.out.size)⟩
  by_cases h3 : eb = 3
  · have h4 : 65536 < np + nm := by omega
    clear h2
    subst h1 h3
    clear hb7 hrb heb hu8 hb8 hz8 hXB hXA hlv
    go_wp2_with fail
    rw [← HW8.out]
    refine (HA.out _).mono ?_; rintro e u9 ⟨rfl, hb9⟩
    have HB9 := Lib.hid hb9
    clear hb9
    go_wp2_with fail
    go_ret
    exact ⟨rfl, HU8.out.trans (HB9.out.mono HU8.out.size)⟩
  have h2 : eb = 0 := by omega
  subst h1 h2
  obtain ⟨ra1, ra2, ra3, ra4⟩ := HRA.out rfl
  obtain ⟨rb1, rb2, rb3, rb4⟩ := hrb rfl
  rw [← HNL.out.1] at ra1 rb1
  subst ra1 rb1
  obtain ⟨sa, hsa⟩ : ∃ r, r = runP c.threads picks (RS0 WD c.threads fuel.toNat) := ⟨_, rfl⟩
  obtain ⟨sb, hsb⟩ : ∃ r, r = runP c.threads (picks ++ more) (RS0 WD c.threads fuel.toNat) := ⟨_, rfl⟩
  rw [← hsa] at ra2 ra3 ra4
  rw [← hsb] at rb2 rb3 rb4
  have hgo := goes c.threads picks more (RS0 WD c.threads fuel.toNat)
  rw [← hsa, ← hsb] at hgo
  have hta : sa.1.T.length = nb := by rw [hsa, runP_tlen]; simp [RS0, HNL.out.1]
  have htb : sb.1.T.length = nb := by rw [hsb, runP_tlen]; simp [RS0, HNL.out.1]
  have hsha : sha = true → shb = true := by rw [ra2, rb2]; exact hgo.2
  have hsta : sta = true → stb = true := by rw [ra3, rb3]; exact hgo.1.str
  have HGO := Lib.hid (fun (i : Nat) (x y : TS) (hx : sa.1.T[i]? = some x) (hy : sb.1.T[i]? = some y) => (hgo.1.each i x y hx hy).goes)
  have hsea : SeenAt V8 (.slice qa nb ca) sa.1.T := (ra4.below HB36.out).below ((show Below V6.heap.size V6 V8 from hb7.trans (hb8.mono hz67)))
  have hseb : SeenAt V8 (.slice qb nb cb) sb.1.T := rb4.below hb8
  obtain ⟨q1, c1, e1, hrda⟩ := hsea.read
  obtain ⟨q2, c2, e2, hrdb⟩ := hseb.read
  rw [hta] at e1 hrda
  rw [htb] at e2 hrdb
  cases e1
  cases e2
  obtain ⟨xa0, xa1, xa2⟩ := own3' hXA
  obtain ⟨xb0, xb1, xb2⟩ := own3' hXB
  have HRDA := Lib.hid hrda
  have HRDB := Lib.hid hrdb
  have HTA := Lib.hid hta
  have HTB := Lib.hid htb
  have hl1 : V3.heap.size < V8.heap.size := by omega
  have hl2 : V7.heap.size < V8.heap.size := by omega
  have hl3 : V3.heap.size < V7.heap.size := by omega
  have hor : (sha = true ∧ shb = true ∧ sta = true ∧ stb = true) ∨ (sha = true ∧ shb = true ∧ sta = false) ∨ (sha = false ∧ sta = true ∧ stb = true) ∨ (sha = false ∧ sta = false) := by
    cases sha <;> cases sta <;> simp at hsha hsta ⊢ <;> simp [hsha, hsta]
  clear hb7 hrb heb hu8 hb8 hz8 hz67 hXB hXA hlv ra2 ra3 ra4 rb2 rb3 rb4 hsa hsb hgo hta htb hsha hsta hsea hseb hrda hrdb
  rw [HW8.out] at xa0 xa1 xa2 xb0 xb1 xb2
  have hkey : True := trivial
  rcases hor with ⟨rfl, rfl, rfl, rfl⟩ | ⟨rfl, rfl, rfl⟩ | ⟨rfl, rfl, rfl⟩ | ⟨rfl, rfl⟩
  all_goals
    go_wp2_with fail
    rw [← HW8.out]
    clear xa0 xa1 xa2 xb0 xb1 xb2
    go_loopw [14] (fun q wr => ∃ k : Nat, k ≤ nb ∧ q = .int .i64 (k : Int) ∧ Below V8.heap.size V8 wr) (fun q _ => nb - (intOf q).toNat)
    case atStart => exact ⟨0, by omega, rfl, Below.refl _ _⟩
    case round =>
      obtain ⟨k, hk, rfl, hB⟩ := hrel
      have hsz := hB.size
      have xa0 := (own3' ((hB.block V3.heap.size hl1).trans HXA.out)).1
      have xb0 := (own3' ((hB.block V7.heap.size hl2).trans HXB.out)).1
      have hA1 : V3.heap.size < wr.heap.size := by omega
      have hA2 : V7.heap.size < wr.heap.size := by omega
      by_cases hlt : k < nb
      · obtain ⟨ga, rfl, hga, hra⟩ := HRDA.out (by omega)
        obtain ⟨gb, rfl, hgb, hrb⟩ := HRDB.out (by omega)
        obtain ⟨Ta, hTa⟩ : ∃ T, sa.1.T[k]? = some T := ⟨_, List.getElem?_eq_getElem (by rw [HTA.out]; exact hlt)⟩
        obtain ⟨Tb, hTb⟩ : ∃ T, sb.1.T[k]? = some T := ⟨_, List.getElem?_eq_getElem (by rw [HTB.out]; exact hlt)⟩
        obtain ⟨tqa, tca, p0, p1, hrd1⟩ := hra k Ta hTa
        obtain ⟨tqb, tcb, r0, r1, hrd2⟩ := hrb k Tb hTb
        have hgg := HGO.out k Ta Tb hTa hTb
        obtain ⟨vc, hvc, hcut⟩ := hrd2.cut Ta.told.length hgg.len
        rw [hgg.told] at hvc
        have p0 := (hB.cell (p := ⟨ga, k * 2, none⟩) hga).trans p0
        have p1 := (hB.cell (p := ⟨ga, k * 2 + 1, none⟩) hga).trans p1
        have r0 := (hB.cell (p := ⟨gb, k * 2, none⟩) hgb).trans r0
        have r1 := (hB.cell (p := ⟨gb, k * 2 + 1, none⟩) hgb).trans r1
        have hga2 : ga < wr.heap.size := by omega
        have hgb2 : gb < wr.heap.size := by omega
        obtain ⟨la, hla⟩ : ∃ n, n = Ta.told.length := ⟨_, rfl⟩
        obtain ⟨lb, hlb⟩ : ∃ n, n = Tb.told.length := ⟨_, rfl⟩
        obtain ⟨fa, hfa⟩ : ∃ n, n = Ta.fin := ⟨_, rfl⟩
        obtain ⟨fb, hfb⟩ : ∃ n, n = Tb.fin := ⟨_, rfl⟩
        have hle : la ≤ lb := by rw [hla, hlb]; exact hgg.len
        have hff : fa ≠ 0 → fa = fb := by rw [hfa, hfb]; exact hgg.fin
        rw [← hla] at p0 hcut
        rw [← hlb] at r0 hcut
        rw [← hfa] at p1
        rw [← hfb] at r1
        obtain ⟨U1, hU1⟩ : ∃ U, U = wr.alloc (.cells #[.slice tqa la tca, .int .u8 fa] 38) := ⟨_, rfl⟩
        obtain ⟨U2, hU2⟩ : ∃ U, U = U1.alloc (.cells #[.slice tqb lb tcb, .int .u8 fb] 38) := ⟨_, rfl⟩
        have hzU1 : U1.heap.size = wr.heap.size + 1 := by rw [hU1]; simp
        have hzU2 : U2.heap.size = wr.heap.size + 2 := by rw [hU2]; simp [hzU1]
        have hbU : Below wr.heap.size wr U2 := by rw [hU2, hU1]; exact (below_box wr _).alloc (by simp) _
        have hX : U2.heap[wr.heap.size]? = some (.cells #[.slice tqa la tca, .int .u8 fa] 38 (0, 0)) := by rw [hU2, Below.heap_alloc _ _ _ (by omega), hU1]; exact (MapKept.heap_alloc _ _).1
        have hY : U2.heap[wr.heap.size + 1]? = some (.cells #[.slice tqb lb tcb, .int .u8 fb] 38 (0, 0)) := by rw [hU2, ← hzU1]; exact (MapKept.heap_alloc _ _).1
        have hb82 : Below V8.heap.size V8 U2 := hB.trans (hbU.mono hsz)
        have HSW := Lib.hid (fun (u : World) (hu : Below U2.heap.size U2 u) => sameWides_any Ta.told _ vc u ((hrd1.below hb82).below hu) ((hvc.below hb82).below hu))
        rw [← hla] at HSW
        obtain ⟨x0, x1⟩ := own2 hX
        obtain ⟨y0, y1⟩ := own2 hY
        have HB82 := Lib.hid hb82
        have hU12 : U2 = (wr.alloc (.cells #[.slice tqa la tca, .int .u8 fa] 38)).alloc (.cells #[.slice tqb lb tcb, .int .u8 fb] 38) := by rw [hU2, hU1]
        have HU12 := Lib.hid hU12
        have x0' := x0
        have x1' := x1
        have y0' := y0
        have y1' := y1
        have X0 := Lib.hid x0
        have X1 := Lib.hid x1
        have Y0 := Lib.hid y0
        have Y1 := Lib.hid y1
        have hx2 : wr.heap.size < U2.heap.size := by omega
        have hy2 : wr.heap.size + 1 < U2.heap.size := by omega
        clear hTa hTb hra hrb hrd1 hrd2 hgg hvc hla hlb hfa hfb hU1 hU2 hU12 hbU hX hY hb82 hzU1 hzU2 x0 x1 y0 y1 x0' x1' y0' y1' hB
        go_wp2_with fail
        rw [← HU12.out]
        have x0 := X0.out
        have x1 := X1.out
        have y0 := Y0.out
        have y1 := Y1.out
        clear p0 p1 r0 r1 xa0 xb0
        by_cases hf0 : fa = 0
        · subst hf0
          refine wp_region_held_drew (S := SameOn (fun x => x = wr.heap.size ∨ x = wr.heap.size + 1) U2) (by kernel_rfl) (SameOn.drew _ _) (fun hSw => ?_)
          refine wpAnyH_take (i := 0) (oi := { dst := some 111, op := Op.fieldAddr 38 (Operand.tmp 15) 0, type := 0, pos := "outright.go:46", after := #[], guard := none }) (v := .pointer (some ⟨wr.heap.size, 0, none⟩)) rfl (by kernel_rfl) (by kernel_rfl) (by kernel_rfl) (fun _ _ _ h => h) (Or.inl ⟨by rfl, fun W hW => ?_⟩) hSw ?_
          · first | (go_simp; done) | rfl
          try simp only [Act.put, List.setIfInBounds_toArray, List.set_cons_zero, List.set_cons_succ]
          refine wpAnyH_take (i := 1) (oi := { dst := some 112, op := Op.load 35 (Operand.tmp 111), type := 35, pos := "outright.go:46", after := #[{ on := 0, ground := Ground.data }], guard := none }) (v := .slice tqa la tca) rfl (by kernel_rfl) (by kernel_rfl) (by kernel_rfl) (fun _ _ _ h => h) (Or.inl ⟨by rfl, fun W hW => ?_⟩) hSw ?_
          · have x0 := hW.cell (by dsimp only; omega) x0
            first | (go_simp; done) | rfl
          try simp only [Act.put, List.setIfInBounds_toArray, List.set_cons_zero, List.set_cons_succ]
          refine wpAnyH_take (i := 2) (oi := { dst := some 113, op := Op.call { callee := Callee.builtin Builtin.len, args := #[Operand.tmp 112], argTypes := #[35] }, type := 3, pos := "outright.go:46", after := #[{ on := 1, ground := Ground.data }], guard := none }) (v := .int .i64 (la : Int)) rfl (by kernel_rfl) (by kernel_rfl) (by kernel_rfl) (fun _ _ _ h => h) (Or.inl ⟨by rfl, fun W hW => ?_⟩) hSw ?_
          · first | (go_simp; done) | rfl
          try simp only [Act.put, List.setIfInBounds_toArray, List.set_cons_zero, List.set_cons_succ]
          refine wpAnyH_take (i := 3) (oi := { dst := some 114, op := Op.fieldAddr 38 (Operand.tmp 16) 0, type := 0, pos := "outright.go:46", after := #[], guard := none }) (v := .pointer (some ⟨wr.heap.size + 1, 0, none⟩)) rfl (by kernel_rfl) (by kernel_rfl) (by kernel_rfl) (fun _ _ _ h => h) (Or.inl ⟨by rfl, fun W hW => ?_⟩) hSw ?_
          · first | (go_simp; done) | rfl
          try simp only [Act.put, List.setIfInBounds_toArray, List.set_cons_zero, List.set_cons_succ]
          refine wpAnyH_take (i := 4) (oi := { dst := some 115, op := Op.load 35 (Operand.tmp 114), type := 35, pos := "outright.go:46", after := #[{ on := 3, ground := Ground.data }], guard := none }) (v := .slice tqb lb tcb) rfl (by kernel_rfl) (by kernel_rfl) (by kernel_rfl) (fun _ _ _ h => h) (Or.inl ⟨by rfl, fun W hW => ?_⟩) hSw ?_
          · have y0 := hW.cell (by dsimp only; omega) y0
            first | (go_simp; done) | rfl
          try simp only [Act.put, List.setIfInBounds_toArray, List.set_cons_zero, List.set_cons_succ]
          refine wpAnyH_take (i := 5) (oi := { dst := some 116, op := Op.call { callee := Callee.builtin Builtin.len, args := #[Operand.tmp 115], argTypes := #[35] }, type := 3, pos := "outright.go:46", after := #[{ on := 4, ground := Ground.data }], guard := none }) (v := .int .i64 (lb : Int)) rfl (by kernel_rfl) (by kernel_rfl) (by kernel_rfl) (fun _ _ _ h => h) (Or.inl ⟨by rfl, fun W hW => ?_⟩) hSw ?_
          · first | (go_simp; done) | rfl
          try simp only [Act.put, List.setIfInBounds_toArray, List.set_cons_zero, List.set_cons_succ]
          refine wpAnyH_take (i := 6) (oi := { dst := some 117, op := Op.binOp BinOp.gtr 3 (Operand.tmp 113) (Operand.tmp 116) 3, type := 4, pos := "outright.go:46", after := #[{ on := 2, ground := Ground.data }, { on := 5, ground := Ground.data }], guard := none }) (v := .bool false) rfl (by kernel_rfl) (by kernel_rfl) (by kernel_rfl) (fun _ _ _ h => h) (Or.inl ⟨by rfl, fun W hW => ?_⟩) hSw ?_
          · first | (go_simp; done) | (go_simp; omega)
          try simp only [Act.put, List.setIfInBounds_toArray, List.set_cons_zero, List.set_cons_succ]
          refine wpAnyH_take (i := 7) (oi := { dst := some 118, op := Op.move (Operand.tmp 117), type := 4, pos := "outright.go:46", after := #[{ on := 6, ground := Ground.data }], guard := none }) (v := .bool false) rfl (by kernel_rfl) (by kernel_rfl) (by kernel_rfl) (fun _ _ _ h => h) (Or.inl ⟨by rfl, fun W hW => ?_⟩) hSw ?_
          · first | (go_simp; done) | rfl
          try simp only [Act.put, List.setIfInBounds_toArray, List.set_cons_zero, List.set_cons_succ]
          refine wpAnyH_take (i := 8) (oi := { dst := some 119, op := Op.fieldAddr 38 (Operand.tmp 15) 0, type := 0, pos := "outright.go:46", after := #[{ on := 7, ground := Ground.guard }], guard := some (7, false) }) (v := .pointer (some ⟨wr.heap.size, 0, none⟩)) rfl (by kernel_rfl) (by kernel_rfl) (by kernel_rfl) (fun _ _ _ h => h) (Or.inl ⟨by rfl, fun W hW => ?_⟩) hSw ?_
          · first | (go_simp; done) | rfl
          try simp only [Act.put, List.setIfInBounds_toArray, List.set_cons_zero, List.set_cons_succ]
          refine wpAnyH_take (i := 9) (oi := { dst := some 120, op := Op.load 35 (Operand.tmp 119), type := 35, pos := "outright.go:46", after := #[{ on := 8, ground := Ground.data }, { on := 7, ground := Ground.guard }], guard := some (7, false) }) (v := .slice tqa la tca) rfl (by kernel_rfl) (by kernel_rfl) (by kernel_rfl) (fun _ _ _ h => h) (Or.inl ⟨by rfl, fun W hW => ?_⟩) hSw ?_
          · have x0 := hW.cell (by dsimp only; omega) x0
            first | (go_simp; done) | rfl
          try simp only [Act.put, List.setIfInBounds_toArray, List.set_cons_zero, List.set_cons_succ]
          refine wpAnyH_take (i := 10) (oi := { dst := some 121, op := Op.fieldAddr 38 (Operand.tmp 16) 0, type := 0, pos := "outright.go:46", after := #[{ on := 7, ground := Ground.guard }], guard := some (7, false) }) (v := .pointer (some ⟨wr.heap.size + 1, 0, none⟩)) rfl (by kernel_rfl) (by kernel_rfl) (by kernel_rfl) (fun _ _ _ h => h) (Or.inl ⟨by rfl, fun W hW => ?_⟩) hSw ?_
          · first | (go_simp; done) | rfl
          try simp only [Act.put, List.setIfInBounds_toArray, List.set_cons_zero, List.set_cons_succ]
          refine wpAnyH_take (i := 11) (oi := { dst := some 122, op := Op.load 35 (Operand.tmp 121), type := 35, pos := "outright.go:46", after := #[{ on := 10, ground := Ground.data }, { on := 7, ground := Ground.guard }], guard := some (7, false) }) (v := .slice tqb lb tcb) rfl (by kernel_rfl) (by kernel_rfl) (by kernel_rfl) (fun _ _ _ h => h) (Or.inl ⟨by rfl, fun W hW => ?_⟩) hSw ?_
          · have y0 := hW.cell (by dsimp only; omega) y0
            first | (go_simp; done) | rfl
          try simp only [Act.put, List.setIfInBounds_toArray, List.set_cons_zero, List.set_cons_succ]
          refine wpAnyH_take (i := 12) (oi := { dst := some 123, op := Op.fieldAddr 38 (Operand.tmp 15) 0, type := 0, pos := "outright.go:46", after := #[{ on := 7, ground := Ground.guard }], guard := some (7, false) }) (v := .pointer (some ⟨wr.heap.size, 0, none⟩)) rfl (by kernel_rfl) (by kernel_rfl) (by kernel_rfl) (fun _ _ _ h => h) (Or.inl ⟨by rfl, fun W hW => ?_⟩) hSw ?_
          · first | (go_simp; done) | rfl
          try simp only [Act.put, List.setIfInBounds_toArray, List.set_cons_zero, List.set_cons_succ]
          refine wpAnyH_take (i := 13) (oi := { dst := some 124, op := Op.load 35 (Operand.tmp 123), type := 35, pos := "outright.go:46", after := #[{ on := 12, ground := Ground.data }, { on := 7, ground := Ground.guard }], guard := some (7, false) }) (v := .slice tqa la tca) rfl (by kernel_rfl) (by kernel_rfl) (by kernel_rfl) (fun _ _ _ h => h) (Or.inl ⟨by rfl, fun W hW => ?_⟩) hSw ?_
          · have x0 := hW.cell (by dsimp only; omega) x0
            first | (go_simp; done) | rfl
          try simp only [Act.put, List.setIfInBounds_toArray, List.set_cons_zero, List.set_cons_succ]
          refine wpAnyH_take (i := 14) (oi := { dst := some 125, op := Op.call { callee := Callee.builtin Builtin.len, args := #[Operand.tmp 124], argTypes := #[35] }, type := 3, pos := "outright.go:46", after := #[{ on := 13, ground := Ground.data }, { on := 7, ground := Ground.guard }], guard := some (7, false) }) (v := .int .i64 (la : Int)) rfl (by kernel_rfl) (by kernel_rfl) (by kernel_rfl) (fun _ _ _ h => h) (Or.inl ⟨by rfl, fun W hW => ?_⟩) hSw ?_
          · first | (go_simp; done) | rfl
          try simp only [Act.put, List.setIfInBounds_toArray, List.set_cons_zero, List.set_cons_succ]
          refine wpAnyH_take (i := 15) (oi := { dst := some 126, op := Op.slice 35 (Operand.tmp 122) none (some (Operand.tmp 125)) none, type := 35, pos := "outright.go:46", after := #[{ on := 11, ground := Ground.data }, { on := 14, ground := Ground.data }, { on := 7, ground := Ground.guard }], guard := some (7, false) }) (v := vc) rfl (by kernel_rfl) (by kernel_rfl) (by kernel_rfl) (fun _ _ _ h => h) (Or.inl ⟨by rfl, fun W hW => ?_⟩) hSw ?_
          · (have hc := hcut W; go_simp)
          try simp only [Act.put, List.setIfInBounds_toArray, List.set_cons_zero, List.set_cons_succ]
          refine wpAnyH_ready (rs := [16]) (by kernel_rfl) (by simp) ?_
          refine AllReadyH.cons (o := { dst := some 127, op := Op.call { callee := Callee.value (Operand.func 9), args := #[Operand.tmp 120, Operand.tmp 126], argTypes := #[35, 35] }, type := 4, pos := "outright.go:46", after := #[{ on := 9, ground := Ground.data }, { on := 15, ground := Ground.data }, { on := 7, ground := Ground.chain }, { on := 7, ground := Ground.guard }], guard := some (7, false) }) rfl (fun K hK => ?_) AllReadyH.nil
          rw [if_pos (by rfl)]
          clear hSw
          go_simp
          refine (HSW.out _ (below_drewN' (Below.refl _ _))).mono ?_; rintro e u9 ⟨rfl, hb9⟩
          have hb9' : Below U2.heap.size U2 u9 := ⟨hb9.os, hb9.tape, hb9.output, hb9.size, hb9.block⟩
          have HB9 := Lib.hid hb9'
          clear hb9 hb9'
          refine hK.out _ _ (fun k hk => HB9.out.block k (by omega)) (fun hSw => ?_)
          clear hK K
          try simp only [Act.put, List.setIfInBounds_toArray, List.set_cons_zero, List.set_cons_succ]
          refine wpAnyH_take (i := 17) (oi := { dst := some 128, op := Op.unOp UnOp.not 4 (Operand.tmp 127), type := 4, pos := "outright.go:46", after := #[{ on := 16, ground := Ground.data }, { on := 7, ground := Ground.guard }], guard := some (7, false) }) (v := .bool false) rfl (by kernel_rfl) (by kernel_rfl) (by kernel_rfl) (fun _ _ _ h => h) (Or.inl ⟨by rfl, fun W hW => ?_⟩) hSw ?_
          · first | (go_simp; done) | rfl
          try simp only [Act.put, List.setIfInBounds_toArray, List.set_cons_zero, List.set_cons_succ]
          refine wpAnyH_take (i := 18) (oi := { dst := some 129, op := Op.pick (Operand.tmp 118) (Operand.const (Value.bool true)) (Operand.tmp 128), type := 4, pos := "outright.go:46", after := #[{ on := 7, ground := Ground.data }, { on := 17, ground := Ground.data }], guard := none }) (v := .bool false) rfl (by kernel_rfl) (by kernel_rfl) (by kernel_rfl) (fun _ _ _ h => h) (Or.inl ⟨by rfl, fun W hW => ?_⟩) hSw ?_
          · first | (go_simp; done) | rfl
          try simp only [Act.put, List.setIfInBounds_toArray, List.set_cons_zero, List.set_cons_succ]
          refine wpAnyH_take (i := 19) (oi := { dst := some 130, op := Op.move (Operand.tmp 129), type := 4, pos := "outright.go:46", after := #[{ on := 18, ground := Ground.data }, { on := 16, ground := Ground.chain }], guard := none }) (v := .bool false) rfl (by kernel_rfl) (by kernel_rfl) (by kernel_rfl) (fun _ _ _ h => h) (Or.inl ⟨by rfl, fun W hW => ?_⟩) hSw ?_
          · first | (go_simp; done) | rfl
          try simp only [Act.put, List.setIfInBounds_toArray, List.set_cons_zero, List.set_cons_succ]
          refine wpAnyH_take (i := 20) (oi := { dst := some 131, op := Op.fieldAddr 38 (Operand.tmp 15) 1, type := 0, pos := "outright.go:46", after := #[{ on := 19, ground := Ground.guard }], guard := some (19, false) }) (v := .pointer (some ⟨wr.heap.size, 1, none⟩)) rfl (by kernel_rfl) (by kernel_rfl) (by kernel_rfl) (fun _ _ _ h => h) (Or.inl ⟨by rfl, fun W hW => ?_⟩) hSw ?_
          · first | (go_simp; done) | rfl
          try simp only [Act.put, List.setIfInBounds_toArray, List.set_cons_zero, List.set_cons_succ]
          refine wpAnyH_take (i := 21) (oi := { dst := some 132, op := Op.load 36 (Operand.tmp 131), type := 36, pos := "outright.go:46", after := #[{ on := 20, ground := Ground.data }, { on := 19, ground := Ground.guard }], guard := some (19, false) }) (v := .int .u8 0) rfl (by kernel_rfl) (by kernel_rfl) (by kernel_rfl) (fun _ _ _ h => h) (Or.inl ⟨by rfl, fun W hW => ?_⟩) hSw ?_
          · have x1 := hW.cell (by dsimp only; omega) x1
            first | (go_simp; done) | rfl
          try simp only [Act.put, List.setIfInBounds_toArray, List.set_cons_zero, List.set_cons_succ]
          refine wpAnyH_take (i := 22) (oi := { dst := some 133, op := Op.binOp BinOp.neq 36 (Operand.tmp 132) (Operand.const (Value.int IntKind.u8 0)) 36, type := 4, pos := "outright.go:46", after := #[{ on := 21, ground := Ground.data }, { on := 19, ground := Ground.guard }], guard := some (19, false) }) (v := .bool false) rfl (by kernel_rfl) (by kernel_rfl) (by kernel_rfl) (fun _ _ _ h => h) (Or.inl ⟨by rfl, fun W hW => ?_⟩) hSw ?_
          · first | (go_simp; done) | rfl
          try simp only [Act.put, List.setIfInBounds_toArray, List.set_cons_zero, List.set_cons_succ]
          refine wpAnyH_take (i := 23) (oi := { dst := some 134, op := Op.move (Operand.tmp 133), type := 4, pos := "outright.go:46", after := #[{ on := 22, ground := Ground.data }, { on := 19, ground := Ground.chain }, { on := 19, ground := Ground.guard }], guard := some (19, false) }) (v := .bool false) rfl (by kernel_rfl) (by kernel_rfl) (by kernel_rfl) (fun _ _ _ h => h) (Or.inl ⟨by rfl, fun W hW => ?_⟩) hSw ?_
          · first | (go_simp; done) | rfl
          try simp only [Act.put, List.setIfInBounds_toArray, List.set_cons_zero, List.set_cons_succ]
          refine wpAnyH_take (i := 24) (oi := { dst := some 135, op := Op.fieldAddr 38 (Operand.tmp 15) 1, type := 0, pos := "outright.go:46", after := #[{ on := 23, ground := Ground.guard }], guard := some (23, true) }) (v := undef) rfl (by kernel_rfl) (by kernel_rfl) (by kernel_rfl) (fun _ _ _ h => h) (Or.inr ⟨by rfl, rfl⟩) hSw ?_
          try simp only [Act.put, List.setIfInBounds_toArray, List.set_cons_zero, List.set_cons_succ]
          refine wpAnyH_take (i := 25) (oi := { dst := some 136, op := Op.load 36 (Operand.tmp 135), type := 36, pos := "outright.go:46", after := #[{ on := 24, ground := Ground.data }, { on := 23, ground := Ground.guard }], guard := some (23, true) }) (v := undef) rfl (by kernel_rfl) (by kernel_rfl) (by kernel_rfl) (fun _ _ _ h => h) (Or.inr ⟨by rfl, rfl⟩) hSw ?_
          try simp only [Act.put, List.setIfInBounds_toArray, List.set_cons_zero, List.set_cons_succ]
          refine wpAnyH_take (i := 26) (oi := { dst := some 137, op := Op.fieldAddr 38 (Operand.tmp 16) 1, type := 0, pos := "outright.go:46", after := #[{ on := 23, ground := Ground.guard }], guard := some (23, true) }) (v := undef) rfl (by kernel_rfl) (by kernel_rfl) (by kernel_rfl) (fun _ _ _ h => h) (Or.inr ⟨by rfl, rfl⟩) hSw ?_
          try simp only [Act.put, List.setIfInBounds_toArray, List.set_cons_zero, List.set_cons_succ]
          refine wpAnyH_take (i := 27) (oi := { dst := some 138, op := Op.load 36 (Operand.tmp 137), type := 36, pos := "outright.go:46", after := #[{ on := 26, ground := Ground.data }, { on := 23, ground := Ground.guard }], guard := some (23, true) }) (v := undef) rfl (by kernel_rfl) (by kernel_rfl) (by kernel_rfl) (fun _ _ _ h => h) (Or.inr ⟨by rfl, rfl⟩) hSw ?_
          try simp only [Act.put, List.setIfInBounds_toArray, List.set_cons_zero, List.set_cons_succ]
          refine wpAnyH_take (i := 28) (oi := { dst := some 139, op := Op.binOp BinOp.neq 36 (Operand.tmp 136) (Operand.tmp 138) 36, type := 4, pos := "outright.go:46", after := #[{ on := 25, ground := Ground.data }, { on := 27, ground := Ground.data }, { on := 23, ground := Ground.guard }], guard := some (23, true) }) (v := undef) rfl (by kernel_rfl) (by kernel_rfl) (by kernel_rfl) (fun _ _ _ h => h) (Or.inr ⟨by rfl, rfl⟩) hSw ?_
          try simp only [Act.put, List.setIfInBounds_toArray, List.set_cons_zero, List.set_cons_succ]
          refine wpAnyH_take (i := 29) (oi := { dst := some 140, op := Op.pick (Operand.tmp 134) (Operand.tmp 139) (Operand.const (Value.bool false)), type := 4, pos := "outright.go:46", after := #[{ on := 23, ground := Ground.data }, { on := 28, ground := Ground.data }, { on := 19, ground := Ground.guard }], guard := some (19, false) }) (v := .bool false) rfl (by kernel_rfl) (by kernel_rfl) (by kernel_rfl) (fun _ _ _ h => h) (Or.inl ⟨by rfl, fun W hW => ?_⟩) hSw ?_
          · first | (go_simp; done) | rfl
          try simp only [Act.put, List.setIfInBounds_toArray, List.set_cons_zero, List.set_cons_succ]
          refine wpAnyH_take (i := 30) (oi := { dst := some 141, op := Op.pick (Operand.tmp 130) (Operand.const (Value.bool true)) (Operand.tmp 140), type := 4, pos := "outright.go:46", after := #[{ on := 19, ground := Ground.data }, { on := 29, ground := Ground.data }], guard := none }) (v := .bool false) rfl (by kernel_rfl) (by kernel_rfl) (by kernel_rfl) (fun _ _ _ h => h) (Or.inl ⟨by rfl, fun W hW => ?_⟩) hSw ?_
          · first | (go_simp; done) | rfl
          try simp only [Act.put, List.setIfInBounds_toArray, List.set_cons_zero, List.set_cons_succ]
          refine wpAnyH_done (by kernel_rfl) ?_ _
          clear x0 x1 y0 y1
          go_wp2_with fail
          go_roundw
          case rel => exact ⟨k + 1, hlt, by go_num, HB82.out.trans (HB9.out.mono HB82.out.size)⟩
          case measure => simp [intOf]; omega
        · have hff := hff hf0
          subst hff
          have hf1 : (fa != 0) = true := by simp only [bne_iff_ne, ne_eq]; exact hf0
          refine wp_region_held_drew (S := SameOn (fun x => x = wr.heap.size ∨ x = wr.heap.size + 1) U2) (by kernel_rfl) (SameOn.drew _ _) (fun hSw => ?_)
          refine wpAnyH_take (i := 0) (oi := { dst := some 111, op := Op.fieldAddr 38 (Operand.tmp 15) 0, type := 0, pos := "outright.go:46", after := #[], guard := none }) (v := .pointer (some ⟨wr.heap.size, 0, none⟩)) rfl (by kernel_rfl) (by kernel_rfl) (by kernel_rfl) (fun _ _ _ h => h) (Or.inl ⟨by rfl, fun W hW => ?_⟩) hSw ?_
          · first | (go_simp; done) | rfl
          try simp only [Act.put, List.setIfInBounds_toArray, List.set_cons_zero, List.set_cons_succ]
          refine wpAnyH_take (i := 1) (oi := { dst := some 112, op := Op.load 35 (Operand.tmp 111), type := 35, pos := "outright.go:46", after := #[{ on := 0, ground := Ground.data }], guard := none }) (v := .slice tqa la tca) rfl (by kernel_rfl) (by kernel_rfl) (by kernel_rfl) (fun _ _ _ h => h) (Or.inl ⟨by rfl, fun W hW => ?_⟩) hSw ?_
          · have x0 := hW.cell (by dsimp only; omega) x0
            first | (go_simp; done) | rfl
          try simp only [Act.put, List.setIfInBounds_toArray, List.set_cons_zero, List.set_cons_succ]
          refine wpAnyH_take (i := 2) (oi := { dst := some 113, op := Op.call { callee := Callee.builtin Builtin.len, args := #[Operand.tmp 112], argTypes := #[35] }, type := 3, pos := "outright.go:46", after := #[{ on := 1, ground := Ground.data }], guard := none }) (v := .int .i64 (la : Int)) rfl (by kernel_rfl) (by kernel_rfl) (by kernel_rfl) (fun _ _ _ h => h) (Or.inl ⟨by rfl, fun W hW => ?_⟩) hSw ?_
          · first | (go_simp; done) | rfl
          try simp only [Act.put, List.setIfInBounds_toArray, List.set_cons_zero, List.set_cons_succ]
          refine wpAnyH_take (i := 3) (oi := { dst := some 114, op := Op.fieldAddr 38 (Operand.tmp 16) 0, type := 0, pos := "outright.go:46", after := #[], guard := none }) (v := .pointer (some ⟨wr.heap.size + 1, 0, none⟩)) rfl (by kernel_rfl) (by kernel_rfl) (by kernel_rfl) (fun _ _ _ h => h) (Or.inl ⟨by rfl, fun W hW => ?_⟩) hSw ?_
          · first | (go_simp; done) | rfl
          try simp only [Act.put, List.setIfInBounds_toArray, List.set_cons_zero, List.set_cons_succ]
          refine wpAnyH_take (i := 4) (oi := { dst := some 115, op := Op.load 35 (Operand.tmp 114), type := 35, pos := "outright.go:46", after := #[{ on := 3, ground := Ground.data }], guard := none }) (v := .slice tqb lb tcb) rfl (by kernel_rfl) (by kernel_rfl) (by kernel_rfl) (fun _ _ _ h => h) (Or.inl ⟨by rfl, fun W hW => ?_⟩) hSw ?_
          · have y0 := hW.cell (by dsimp only; omega) y0
            first | (go_simp; done) | rfl
          try simp only [Act.put, List.setIfInBounds_toArray, List.set_cons_zero, List.set_cons_succ]
          refine wpAnyH_take (i := 5) (oi := { dst := some 116, op := Op.call { callee := Callee.builtin Builtin.len, args := #[Operand.tmp 115], argTypes := #[35] }, type := 3, pos := "outright.go:46", after := #[{ on := 4, ground := Ground.data }], guard := none }) (v := .int .i64 (lb : Int)) rfl (by kernel_rfl) (by kernel_rfl) (by kernel_rfl) (fun _ _ _ h => h) (Or.inl ⟨by rfl, fun W hW => ?_⟩) hSw ?_
          · first | (go_simp; done) | rfl
          try simp only [Act.put, List.setIfInBounds_toArray, List.set_cons_zero, List.set_cons_succ]
          refine wpAnyH_take (i := 6) (oi := { dst := some 117, op := Op.binOp BinOp.gtr 3 (Operand.tmp 113) (Operand.tmp 116) 3, type := 4, pos := "outright.go:46", after := #[{ on := 2, ground := Ground.data }, { on := 5, ground := Ground.data }], guard := none }) (v := .bool false) rfl (by kernel_rfl) (by kernel_rfl) (by kernel_rfl) (fun _ _ _ h => h) (Or.inl ⟨by rfl, fun W hW => ?_⟩) hSw ?_
          · first | (go_simp; done) | (go_simp; omega)
          try simp only [Act.put, List.setIfInBounds_toArray, List.set_cons_zero, List.set_cons_succ]
          refine wpAnyH_take (i := 7) (oi := { dst := some 118, op := Op.move (Operand.tmp 117), type := 4, pos := "outright.go:46", after := #[{ on := 6, ground := Ground.data }], guard := none }) (v := .bool false) rfl (by kernel_rfl) (by kernel_rfl) (by kernel_rfl) (fun _ _ _ h => h) (Or.inl ⟨by rfl, fun W hW => ?_⟩) hSw ?_
          · first | (go_simp; done) | rfl
          try simp only [Act.put, List.setIfInBounds_toArray, List.set_cons_zero, List.set_cons_succ]
          refine wpAnyH_take (i := 8) (oi := { dst := some 119, op := Op.fieldAddr 38 (Operand.tmp 15) 0, type := 0, pos := "outright.go:46", after := #[{ on := 7, ground := Ground.guard }], guard := some (7, false) }) (v := .pointer (some ⟨wr.heap.size, 0, none⟩)) rfl (by kernel_rfl) (by kernel_rfl) (by kernel_rfl) (fun _ _ _ h => h) (Or.inl ⟨by rfl, fun W hW => ?_⟩) hSw ?_
          · first | (go_simp; done) | rfl
          try simp only [Act.put, List.setIfInBounds_toArray, List.set_cons_zero, List.set_cons_succ]
          refine wpAnyH_take (i := 9) (oi := { dst := some 120, op := Op.load 35 (Operand.tmp 119), type := 35, pos := "outright.go:46", after := #[{ on := 8, ground := Ground.data }, { on := 7, ground := Ground.guard }], guard := some (7, false) }) (v := .slice tqa la tca) rfl (by kernel_rfl) (by kernel_rfl) (by kernel_rfl) (fun _ _ _ h => h) (Or.inl ⟨by rfl, fun W hW => ?_⟩) hSw ?_
          · have x0 := hW.cell (by dsimp only; omega) x0
            first | (go_simp; done) | rfl
          try simp only [Act.put, List.setIfInBounds_toArray, List.set_cons_zero, List.set_cons_succ]
          refine wpAnyH_take (i := 10) (oi := { dst := some 121, op := Op.fieldAddr 38 (Operand.tmp 16) 0, type := 0, pos := "outright.go:46", after := #[{ on := 7, ground := Ground.guard }], guard := some (7, false) }) (v := .pointer (some ⟨wr.heap.size + 1, 0, none⟩)) rfl (by kernel_rfl) (by kernel_rfl) (by kernel_rfl) (fun _ _ _ h => h) (Or.inl ⟨by rfl, fun W hW => ?_⟩) hSw ?_
          · first | (go_simp; done) | rfl
          try simp only [Act.put, List.setIfInBounds_toArray, List.set_cons_zero, List.set_cons_succ]
          refine wpAnyH_take (i := 11) (oi := { dst := some 122, op := Op.load 35 (Operand.tmp 121), type := 35, pos := "outright.go:46", after := #[{ on := 10, ground := Ground.data }, { on := 7, ground := Ground.guard }], guard := some (7, false) }) (v := .slice tqb lb tcb) rfl (by kernel_rfl) (by kernel_rfl) (by kernel_rfl) (fun _ _ _ h => h) (Or.inl ⟨by rfl, fun W hW => ?_⟩) hSw ?_
          · have y0 := hW.cell (by dsimp only; omega) y0
            first | (go_simp; done) | rfl
          try simp only [Act.put, List.setIfInBounds_toArray, List.set_cons_zero, List.set_cons_succ]
          refine wpAnyH_take (i := 12) (oi := { dst := some 123, op := Op.fieldAddr 38 (Operand.tmp 15) 0, type := 0, pos := "outright.go:46", after := #[{ on := 7, ground := Ground.guard }], guard := some (7, false) }) (v := .pointer (some ⟨wr.heap.size, 0, none⟩)) rfl (by kernel_rfl) (by kernel_rfl) (by kernel_rfl) (fun _ _ _ h => h) (Or.inl ⟨by rfl, fun W hW => ?_⟩) hSw ?_
          · first | (go_simp; done) | rfl
          try simp only [Act.put, List.setIfInBounds_toArray, List.set_cons_zero, List.set_cons_succ]
          refine wpAnyH_take (i := 13) (oi := { dst := some 124, op := Op.load 35 (Operand.tmp 123), type := 35, pos := "outright.go:46", after := #[{ on := 12, ground := Ground.data }, { on := 7, ground := Ground.guard }], guard := some (7, false) }) (v := .slice tqa la tca) rfl (by kernel_rfl) (by kernel_rfl) (by kernel_rfl) (fun _ _ _ h => h) (Or.inl ⟨by rfl, fun W hW => ?_⟩) hSw ?_
          · have x0 := hW.cell (by dsimp only; omega) x0
            first | (go_simp; done) | rfl
          try simp only [Act.put, List.setIfInBounds_toArray, List.set_cons_zero, List.set_cons_succ]
          refine wpAnyH_take (i := 14) (oi := { dst := some 125, op := Op.call { callee := Callee.builtin Builtin.len, args := #[Operand.tmp 124], argTypes := #[35] }, type := 3, pos := "outright.go:46", after := #[{ on := 13, ground := Ground.data }, { on := 7, ground := Ground.guard }], guard := some (7, false) }) (v := .int .i64 (la : Int)) rfl (by kernel_rfl) (by kernel_rfl) (by kernel_rfl) (fun _ _ _ h => h) (Or.inl ⟨by rfl, fun W hW => ?_⟩) hSw ?_
          · first | (go_simp; done) | rfl
          try simp only [Act.put, List.setIfInBounds_toArray, List.set_cons_zero, List.set_cons_succ]
          refine wpAnyH_take (i := 15) (oi := { dst := some 126, op := Op.slice 35 (Operand.tmp 122) none (some (Operand.tmp 125)) none, type := 35, pos := "outright.go:46", after := #[{ on := 11, ground := Ground.data }, { on := 14, ground := Ground.data }, { on := 7, ground := Ground.guard }], guard := some (7, false) }) (v := vc) rfl (by kernel_rfl) (by kernel_rfl) (by kernel_rfl) (fun _ _ _ h => h) (Or.inl ⟨by rfl, fun W hW => ?_⟩) hSw ?_
          · (have hc := hcut W; go_simp)
          try simp only [Act.put, List.setIfInBounds_toArray, List.set_cons_zero, List.set_cons_succ]
          refine wpAnyH_ready (rs := [16]) (by kernel_rfl) (by simp) ?_
          refine AllReadyH.cons (o := { dst := some 127, op := Op.call { callee := Callee.value (Operand.func 9), args := #[Operand.tmp 120, Operand.tmp 126], argTypes := #[35, 35] }, type := 4, pos := "outright.go:46", after := #[{ on := 9, ground := Ground.data }, { on := 15, ground := Ground.data }, { on := 7, ground := Ground.chain }, { on := 7, ground := Ground.guard }], guard := some (7, false) }) rfl (fun K hK => ?_) AllReadyH.nil
          rw [if_pos (by rfl)]
          clear hSw
          go_simp
          refine (HSW.out _ (below_drewN' (Below.refl _ _))).mono ?_; rintro e u9 ⟨rfl, hb9⟩
          have hb9' : Below U2.heap.size U2 u9 := ⟨hb9.os, hb9.tape, hb9.output, hb9.size, hb9.block⟩
          have HB9 := Lib.hid hb9'
          clear hb9 hb9'
          refine hK.out _ _ (fun k hk => HB9.out.block k (by omega)) (fun hSw => ?_)
          clear hK K
          try simp only [Act.put, List.setIfInBounds_toArray, List.set_cons_zero, List.set_cons_succ]
          refine wpAnyH_take (i := 17) (oi := { dst := some 128, op := Op.unOp UnOp.not 4 (Operand.tmp 127), type := 4, pos := "outright.go:46", after := #[{ on := 16, ground := Ground.data }, { on := 7, ground := Ground.guard }], guard := some (7, false) }) (v := .bool false) rfl (by kernel_rfl) (by kernel_rfl) (by kernel_rfl) (fun _ _ _ h => h) (Or.inl ⟨by rfl, fun W hW => ?_⟩) hSw ?_
          · first | (go_simp; done) | rfl
          try simp only [Act.put, List.setIfInBounds_toArray, List.set_cons_zero, List.set_cons_succ]
          refine wpAnyH_take (i := 18) (oi := { dst := some 129, op := Op.pick (Operand.tmp 118) (Operand.const (Value.bool true)) (Operand.tmp 128), type := 4, pos := "outright.go:46", after := #[{ on := 7, ground := Ground.data }, { on := 17, ground := Ground.data }], guard := none }) (v := .bool false) rfl (by kernel_rfl) (by kernel_rfl) (by kernel_rfl) (fun _ _ _ h => h) (Or.inl ⟨by rfl, fun W hW => ?_⟩) hSw ?_
          · first | (go_simp; done) | rfl
          try simp only [Act.put, List.setIfInBounds_toArray, List.set_cons_zero, List.set_cons_succ]
          refine wpAnyH_take (i := 19) (oi := { dst := some 130, op := Op.move (Operand.tmp 129), type := 4, pos := "outright.go:46", after := #[{ on := 18, ground := Ground.data }, { on := 16, ground := Ground.chain }], guard := none }) (v := .bool false) rfl (by kernel_rfl) (by kernel_rfl) (by kernel_rfl) (fun _ _ _ h => h) (Or.inl ⟨by rfl, fun W hW => ?_⟩) hSw ?_
          · first | (go_simp; done) | rfl
          try simp only [Act.put, List.setIfInBounds_toArray, List.set_cons_zero, List.set_cons_succ]
          refine wpAnyH_take (i := 20) (oi := { dst := some 131, op := Op.fieldAddr 38 (Operand.tmp 15) 1, type := 0, pos := "outright.go:46", after := #[{ on := 19, ground := Ground.guard }], guard := some (19, false) }) (v := .pointer (some ⟨wr.heap.size, 1, none⟩)) rfl (by kernel_rfl) (by kernel_rfl) (by kernel_rfl) (fun _ _ _ h => h) (Or.inl ⟨by rfl, fun W hW => ?_⟩) hSw ?_
          · first | (go_simp; done) | rfl
          try simp only [Act.put, List.setIfInBounds_toArray, List.set_cons_zero, List.set_cons_succ]
          refine wpAnyH_take (i := 21) (oi := { dst := some 132, op := Op.load 36 (Operand.tmp 131), type := 36, pos := "outright.go:46", after := #[{ on := 20, ground := Ground.data }, { on := 19, ground := Ground.guard }], guard := some (19, false) }) (v := .int .u8 fa) rfl (by kernel_rfl) (by kernel_rfl) (by kernel_rfl) (fun _ _ _ h => h) (Or.inl ⟨by rfl, fun W hW => ?_⟩) hSw ?_
          · have x1 := hW.cell (by dsimp only; omega) x1
            first | (go_simp; done) | rfl
          try simp only [Act.put, List.setIfInBounds_toArray, List.set_cons_zero, List.set_cons_succ]
          refine wpAnyH_take (i := 22) (oi := { dst := some 133, op := Op.binOp BinOp.neq 36 (Operand.tmp 132) (Operand.const (Value.int IntKind.u8 0)) 36, type := 4, pos := "outright.go:46", after := #[{ on := 21, ground := Ground.data }, { on := 19, ground := Ground.guard }], guard := some (19, false) }) (v := .bool true) rfl (by kernel_rfl) (by kernel_rfl) (by kernel_rfl) (fun _ _ _ h => h) (Or.inl ⟨by rfl, fun W hW => ?_⟩) hSw ?_
          · first | (go_simp; done) | rfl
          try simp only [Act.put, List.setIfInBounds_toArray, List.set_cons_zero, List.set_cons_succ]
          refine wpAnyH_take (i := 23) (oi := { dst := some 134, op := Op.move (Operand.tmp 133), type := 4, pos := "outright.go:46", after := #[{ on := 22, ground := Ground.data }, { on := 19, ground := Ground.chain }, { on := 19, ground := Ground.guard }], guard := some (19, false) }) (v := .bool true) rfl (by kernel_rfl) (by kernel_rfl) (by kernel_rfl) (fun _ _ _ h => h) (Or.inl ⟨by rfl, fun W hW => ?_⟩) hSw ?_
          · first | (go_simp; done) | rfl
          try simp only [Act.put, List.setIfInBounds_toArray, List.set_cons_zero, List.set_cons_succ]
          refine wpAnyH_take (i := 24) (oi := { dst := some 135, op := Op.fieldAddr 38 (Operand.tmp 15) 1, type := 0, pos := "outright.go:46", after := #[{ on := 23, ground := Ground.guard }], guard := some (23, true) }) (v := .pointer (some ⟨wr.heap.size, 1, none⟩)) rfl (by kernel_rfl) (by kernel_rfl) (by kernel_rfl) (fun _ _ _ h => h) (Or.inl ⟨by rfl, fun W hW => ?_⟩) hSw ?_
          · first | (go_simp; done) | rfl
          try simp only [Act.put, List.setIfInBounds_toArray, List.set_cons_zero, List.set_cons_succ]
          refine wpAnyH_take (i := 25) (oi := { dst := some 136, op := Op.load 36 (Operand.tmp 135), type := 36, pos := "outright.go:46", after := #[{ on := 24, ground := Ground.data }, { on := 23, ground := Ground.guard }], guard := some (23, true) }) (v := .int .u8 fa) rfl (by kernel_rfl) (by kernel_rfl) (by kernel_rfl) (fun _ _ _ h => h) (Or.inl ⟨by rfl, fun W hW => ?_⟩) hSw ?_
          · have x1 := hW.cell (by dsimp only; omega) x1
            first | (go_simp; done) | rfl
          try simp only [Act.put, List.setIfInBounds_toArray, List.set_cons_zero, List.set_cons_succ]
          refine wpAnyH_take (i := 26) (oi := { dst := some 137, op := Op.fieldAddr 38 (Operand.tmp 16) 1, type := 0, pos := "outright.go:46", after := #[{ on := 23, ground := Ground.guard }], guard := some (23, true) }) (v := .pointer (some ⟨wr.heap.size + 1, 1, none⟩)) rfl (by kernel_rfl) (by kernel_rfl) (by kernel_rfl) (fun _ _ _ h => h) (Or.inl ⟨by rfl, fun W hW => ?_⟩) hSw ?_
          · first | (go_simp; done) | rfl
          try simp only [Act.put, List.setIfInBounds_toArray, List.set_cons_zero, List.set_cons_succ]
          refine wpAnyH_take (i := 27) (oi := { dst := some 138, op := Op.load 36 (Operand.tmp 137), type := 36, pos := "outright.go:46", after := #[{ on := 26, ground := Ground.data }, { on := 23, ground := Ground.guard }], guard := some (23, true) }) (v := .int .u8 fa) rfl (by kernel_rfl) (by kernel_rfl) (by kernel_rfl) (fun _ _ _ h => h) (Or.inl ⟨by rfl, fun W hW => ?_⟩) hSw ?_
          · have y1 := hW.cell (by dsimp only; omega) y1
            first | (go_simp; done) | rfl
          try simp only [Act.put, List.setIfInBounds_toArray, List.set_cons_zero, List.set_cons_succ]
          refine wpAnyH_take (i := 28) (oi := { dst := some 139, op := Op.binOp BinOp.neq 36 (Operand.tmp 136) (Operand.tmp 138) 36, type := 4, pos := "outright.go:46", after := #[{ on := 25, ground := Ground.data }, { on := 27, ground := Ground.data }, { on := 23, ground := Ground.guard }], guard := some (23, true) }) (v := .bool false) rfl (by kernel_rfl) (by kernel_rfl) (by kernel_rfl) (fun _ _ _ h => h) (Or.inl ⟨by rfl, fun W hW => ?_⟩) hSw ?_
          · first | (go_simp; done) | rfl
          try simp only [Act.put, List.setIfInBounds_toArray, List.set_cons_zero, List.set_cons_succ]
          refine wpAnyH_take (i := 29) (oi := { dst := some 140, op := Op.pick (Operand.tmp 134) (Operand.tmp 139) (Operand.const (Value.bool false)), type := 4, pos := "outright.go:46", after := #[{ on := 23, ground := Ground.data }, { on := 28, ground := Ground.data }, { on := 19, ground := Ground.guard }], guard := some (19, false) }) (v := .bool false) rfl (by kernel_rfl) (by kernel_rfl) (by kernel_rfl) (fun _ _ _ h => h) (Or.inl ⟨by rfl, fun W hW => ?_⟩) hSw ?_
          · first | (go_simp; done) | rfl
          try simp only [Act.put, List.setIfInBounds_toArray, List.set_cons_zero, List.set_cons_succ]
          refine wpAnyH_take (i := 30) (oi := { dst := some 141, op := Op.pick (Operand.tmp 130) (Operand.const (Value.bool true)) (Operand.tmp 140), type := 4, pos := "outright.go:46", after := #[{ on := 19, ground := Ground.data }, { on := 29, ground := Ground.data }], guard := none }) (v := .bool false) rfl (by kernel_rfl) (by kernel_rfl) (by kernel_rfl) (fun _ _ _ h => h) (Or.inl ⟨by rfl, fun W hW => ?_⟩) hSw ?_
          · first | (go_simp; done) | rfl
          try simp only [Act.put, List.setIfInBounds_toArray, List.set_cons_zero, List.set_cons_succ]
          refine wpAnyH_done (by kernel_rfl) ?_ _
          clear x0 x1 y0 y1
          go_wp2_with fail
          go_roundw
          case rel => exact ⟨k + 1, hlt, by go_num, HB82.out.trans (HB9.out.mono HB82.out.size)⟩
          case measure => simp [intOf]; omega
      · have HB82 := Lib.hid (HU8.out.trans (hB.mono HU8.out.size))
        clear hB
        go_wp2_with fail
        refine (HA.out _).mono ?_; rintro e u9 ⟨rfl, hb9⟩
        have HB9 := Lib.hid hb9
        clear hb9
        go_wp2_with fail
        go_ret
        exact ⟨rfl, HB82.out.trans (HB9.out.mono HB82.out.size)⟩
end Go.Proofs.Ytijciojipcgiaaa
