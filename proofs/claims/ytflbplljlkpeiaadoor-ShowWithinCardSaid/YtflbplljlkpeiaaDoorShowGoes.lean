/- How the show layer's checker goes through any expression: the first thing that is wrong, or how many items it has met. -/
import Derived.Test.YtflbplljlkpeiaaDoorRows
import Derived.Test.YtflbplljlkpeiaaDoorShowForm
import Derived.Test.YtflbplljlkpeiaaDoorShowCall
import Derived.LoopTactic
import Derived.WalkKit
import Derived.WalkSpells
import Derived.WalkLawsBesides
import Derived.Lib.Hide
namespace Go.Proofs.YtflbplljlkpeiaaDoor
open Go.RowKit

/-- Of an expression: the checker's call goes through it. -/
def CX (x : X) : Prop := ∀ (B c i d : Nat) (di : Int) (w : World), di = (d : Int) → Ck B c i w → B ≤ w.heap.size → InW w B x → i ≤ 1024 → d ≤ 100 →
    Calls Tryd.prog 27 #[.pointer (some ⟨c, 0, none⟩), x.val, .int .i64 di] w (Went B c (chk d i x) w)

theorem item_ok {d i j : Nat} (h : itemR d i = .ok j) : j = i + 1 ∧ ¬ (16 < d ∨ 1024 < i + 1) := by
  unfold itemR at h
  split at h
  · cases h
  · cases h; exact ⟨rfl, by assumption⟩
theorem item_no {d i : Nat} {e : Int} (h : itemR d i = .error e) : e = 3 ∧ (16 < d ∨ 1024 < i + 1) := by
  unfold itemR at h
  split at h
  · cases h; exact ⟨rfl, by assumption⟩
  · cases h
theorem form_cases (h : Hd) (m : Nat) : form h m = 0 ∨ form h m = 1 ∨ form h m = 3 := by
  unfold form
  repeat' split
  all_goals first | (simp; done) | exact tyForm_cases _ _ _

theorem chk_item_no {h : Hd} {s : Value} {l : List X} {d i : Nat} {e : Int} (hr : itemR d i = .error e) : chk d i (.mk h s l) = .error e := by
  obtain ⟨rfl, h2⟩ := item_no hr
  rw [chk_mk, if_pos h2]
theorem chk_item_ok {h : Hd} {s : Value} {l : List X} {d i j : Nat} (hr : itemR d i = .ok j) : chk d i (.mk h s l) = if form h l.length = 0 then chks (d + 1) j l else .error (form h l.length) := by
  obtain ⟨rfl, h2⟩ := item_ok hr
  rw [chk_mk, if_neg h2]

set_option maxHeartbeats 4000000 in
theorem cexpr_mk (h : Hd) (s : Value) (xs : List X) (ih : ∀ a ∈ xs, CX a) : CX (.mk h s xs) := by
  intro B c i d di w hdi hc hBw hI hi hd
  have hlt := hc.lt
  have hBc := hc.1
  obtain ⟨hok, hin⟩ := in_kids hI
  obtain ⟨ao, cap, rfl, hlen, hgo⟩ := lies_form hI
  obtain ⟨N, hN⟩ : ∃ N, N = xs.length := ⟨_, rfl⟩
  obtain ⟨k, n, nm, tk, tn, tz⟩ := h
  obtain ⟨W1, hW1⟩ : ∃ W1, W1 = w.alloc (.cells #[.int .u8 k, .int .i64 n, .string nm, .int .u8 tk, .string tn, .int .i64 tz, .slice ao N cap] 33) := ⟨_, rfl⟩
  have hz1 : W1.heap.size = w.heap.size + 1 := by rw [hW1]; simp
  have hO : W1.heap[w.heap.size]? = some (.cells #[.int .u8 k, .int .i64 n, .string nm, .int .u8 tk, .string tn, .int .i64 tz, .slice ao N cap] 33 (0, 0)) := by rw [hW1]; exact (MapKept.heap_alloc _ _).1
  have hD : Only c w W1 := by rw [hW1]; exact (Only.refl c w).alloc _
  have hC1 : Ck B c i W1 := by rw [hW1]; exact hc.alloc _
  have hIT := item_any B c i d W1 hC1 (by omega) (by omega)
  rw [hW1, ← hdi] at hIT
  have HIT := Lib.hid hIT
  have HO := Lib.hid hO
  have HD := Lib.hid hD
  have HI := Lib.hid hI
  have HOK := Lib.hid hok
  have HIH := Lib.hid ih
  have HIN := Lib.hid hin
  have HZ := Lib.hid hW1
  rw [← hN] at hlen hgo
  have HG := Lib.hid hgo
  have HN := Lib.hid hN
  have HDI := Lib.hid hdi
  obtain ⟨R, hR⟩ : ∃ R, R = chk d i (.mk ⟨k, n, nm, tk, tn, tz⟩ (.slice ao xs.length cap) xs) := ⟨_, rfl⟩
  show Calls Tryd.prog 27 #[.pointer (some ⟨c, 0, none⟩), .agg #[.int .u8 k, .int .i64 n, .string nm, .int .u8 tk, .string tn, .int .i64 tz, .slice ao xs.length cap], .int .i64 di] w (Went B c (chk d i (.mk ⟨k, n, nm, tk, tn, tz⟩ (.slice ao xs.length cap) xs)) w)
  have hdi0 : 0 ≤ di := by omega
  have hdi1 : di ≤ 100 := by omega
  rw [← hR, ← hN]
  have HR := Lib.hid hR
  clear hc hI hok hin ih hIT hO hD hC1 hW1 hgo hN hR hdi
  cases hit : itemR d i with
  | error e =>
    have HF := Lib.hid (show R = .error e by rw [HR.out]; exact chk_item_no hit)
    have HT := Lib.hid hit
    clear hit
    go_enter Tryd.func27, Tryd.ntmps27
    go_wp2_with fail
    refine HIT.out.mono ?_; rintro e2 w2 hq; obtain ⟨rfl, hb⟩ := hq.not HT.out
    rw [← HZ.out] at hb
    exact ⟨rfl, Went.no HF.out (HD.out.trans hb)⟩
  | ok j =>
  have hj := (item_ok hit).1
  have hj2 := (item_ok hit).2
  have hjl : j ≤ 1024 := by omega
  have hd16 : d ≤ 16 := by omega
  have HT := Lib.hid hit
  have HF0 := Lib.hid (show R = if form ⟨k, n, nm, tk, tn, tz⟩ xs.length = 0 then chks (d + 1) j xs else .error (form ⟨k, n, nm, tk, tn, tz⟩ xs.length) by rw [HR.out]; exact chk_item_ok hit)
  clear hit hj hj2
  by_cases hf : form ⟨k, n, nm, tk, tn, tz⟩ xs.length = 0
  · have HF := Lib.hid (show R = chks (d + 1) j xs by rw [HF0.out, if_pos hf])
    have HFM := Lib.hid hf
    clear hf
    go_enter Tryd.func27, Tryd.ntmps27
    go_wp2_with fail
    refine HIT.out.mono ?_; rintro e2 w2 hq; obtain ⟨rfl, hC2, hb⟩ := hq.yes HT.out
    rw [← HZ.out] at hb
    have hs2 := hb.size
    have hO2 : w2.heap[w.heap.size]? = some (.cells #[.int .u8 k, .int .i64 n, .string nm, .int .u8 tk, .string tn, .int .i64 tz, .slice ao N cap] 33 (0, 0)) := by rw [hb.block _ (by omega) (by omega)]; exact HO.out
    obtain ⟨q0, q1, q2, q3, q4, q5, q6⟩ := own7 hO2
    have hFC := form_any B c j ⟨k, n, nm, tk, tn, tz⟩ ao N cap w2 HOK.out hC2
    rw [HN.out] at hFC
    rw [HFM.out, ← HN.out] at hFC
    have HFC := Lib.hid hFC
    have HO2 := Lib.hid hO2
    have HC2 := Lib.hid hC2
    have HD2 := Lib.hid (HD.out.trans hb)
    clear hb hO2 hC2 hFC hq
    go_wp2_with fail
    refine HFC.out.mono ?_; rintro e3 w3 hq; obtain ⟨rfl, hb3⟩ := hq.to0 rfl
    have hs3 := hb3.size
    obtain ⟨u0, u1, u2, u3, u4, u5, u6⟩ := own7 ((hb3.block _ (by omega)).trans HO2.out)
    have HC3 := Lib.hid (HC2.out.kept hb3)
    have HD3 := Lib.hid (HD2.out.more hb3)
    clear hb3 hq q0 q1 q2 q3 q4 q5 q6
    go_wp2_with fail
    go_loopw [17] (fun i wr => ∃ p : Nat, p ≤ N ∧ i = .int .i64 p ∧ ∃ jj, jj ≤ 1024 ∧ Hid (R = chks (d + 1) jj (xs.drop p)) ∧ Ck B c jj wr ∧ Only c w wr) (fun i _ => N - (intOf i).toNat)
    case atStart => exact ⟨0, by omega, rfl, j, hjl, Lib.hid HF.out, HC3.out, HD3.out⟩
    case round =>
      obtain ⟨p, hp, rfl, jj, hjj, HRR, hCk, hOn⟩ := hrel
      have hBelow := hOn.below hBc hBw
      have hsr := hOn.size
      have hcr := hCk.lt
      clear u0 u1 u2 u3 u4 u5 u6
      by_cases hlt2 : p < N
      · have hpx : p < xs.length := by rw [← HN.out]; exact hlt2
        obtain ⟨g, off, rfl, hg⟩ := HG.out (by omega)
        have hIr := InW.keeps hBelow _ HI.out
        obtain ⟨ao2, n2, c2, ea, p0, p1, p2, p3, p4, p5, p6⟩ := kidk hIr rfl p hpx
        have hma := List.getElem_mem hpx
        have hdr := List.drop_eq_getElem_cons hpx
        have hCX := HIH.out _ hma
        have hIa := InW.keeps hBelow _ (HIN.out _ hma)
        have hRR := HRR.out
        rw [hdr, chks_cons] at hRR
        generalize xs[p] = a at *
        have hgs : g < wr.heap.size := by omega
        have hO3 := (MapKept.heap_alloc wr (.cells #[.int .u8 a.hd.k, .int .i64 a.hd.n, .string a.hd.name, .int .u8 a.hd.tk, .string a.hd.tn, .int .i64 a.hd.tz, .slice ao2 n2 c2] 33)).1
        have hb4 := below_box wr (.cells #[.int .u8 a.hd.k, .int .i64 a.hd.n, .string a.hd.name, .int .u8 a.hd.tk, .string a.hd.tn, .int .i64 a.hd.tz, .slice ao2 n2 c2] 33)
        have hEx := hCX B c jj (d + 1) (di + 1) _ (by rw [HDI.out]; omega) (hCk.kept hb4) (by simp; omega) (InW.keeps (hb4.mono (by omega)) _ hIa) hjj (by omega)
        rw [val_of ea] at hEx
        have HEX := Lib.hid hEx
        have HD4 := Lib.hid (hOn.more hb4)
        have HA := Lib.hid hRR
        clear hIr hma hdr hCX hIa hO3 hb4 hEx ea hOn hCk hBelow HRR hRR
        cases ha : chk (d + 1) jj a with
        | error e =>
          have HF9 := Lib.hid (show R = .error e by rw [HA.out, ha])
          have HH := Lib.hid ha
          clear ha
          go_wp2_with fail
          refine HEX.out.mono ?_; rintro e4 w4 hq; obtain ⟨rfl, hb5⟩ := hq.not HH.out
          exact ⟨rfl, Went.no HF9.out (HD4.out.trans hb5)⟩
        | ok j2 =>
          have HF9 := Lib.hid (show R = chks (d + 1) j2 (xs.drop (p + 1)) by rw [HA.out, ha])
          have hj3 := (chk_ok a _ _ _ ha).2.2
          have HH := Lib.hid ha
          clear ha
          go_wp2_with fail
          refine HEX.out.mono ?_; rintro e4 w4 hq; obtain ⟨rfl, hC5, hb5⟩ := hq.yes HH.out
          have HC5 := Lib.hid hC5
          have HD5 := Lib.hid (HD4.out.trans hb5)
          clear hC5 hb5 hq
          go_wp2_with fail
          go_roundw
          case rel => exact ⟨p + 1, by omega, by go_num, j2, hj3, HF9, HC5.out, HD5.out⟩
          case measure => simp [intOf]; omega
      · have HF9 := Lib.hid (show R = .ok jj by rw [HRR.out, List.drop_eq_nil_of_le (by rw [← HN.out]; omega), chks_nil])
        have HC5 := Lib.hid hCk
        have HD5 := Lib.hid hOn
        clear hOn hCk hBelow HRR
        go_wp2_with fail
        go_end0
        exact Went.ok HF9.out HD5.out HC5.out
  · have HF := Lib.hid (show R = .error (form ⟨k, n, nm, tk, tn, tz⟩ xs.length) by rw [HF0.out, if_neg hf])
    have hfc := (form_cases ⟨k, n, nm, tk, tn, tz⟩ xs.length).resolve_left hf
    obtain ⟨r, hr⟩ : ∃ r, r = form ⟨k, n, nm, tk, tn, tz⟩ xs.length := ⟨_, rfl⟩
    rw [← hr] at hf hfc
    rw [← hr] at HF
    have HFM := Lib.hid hr
    have HE := Lib.hid (ended_no hf)
    clear hf hr hfc
    go_enter Tryd.func27, Tryd.ntmps27
    go_wp2_with fail
    refine HIT.out.mono ?_; rintro e2 w2 hq; obtain ⟨rfl, hC2, hb⟩ := hq.yes HT.out
    rw [← HZ.out] at hb
    have hs2 := hb.size
    have hO2 : w2.heap[w.heap.size]? = some (.cells #[.int .u8 k, .int .i64 n, .string nm, .int .u8 tk, .string tn, .int .i64 tz, .slice ao N cap] 33 (0, 0)) := by rw [hb.block _ (by omega) (by omega)]; exact HO.out
    obtain ⟨q0, q1, q2, q3, q4, q5, q6⟩ := own7 hO2
    have hFC := form_any B c j ⟨k, n, nm, tk, tn, tz⟩ ao N cap w2 HOK.out hC2
    rw [HN.out] at hFC
    rw [← HFM.out, ← HN.out] at hFC
    have HFC := Lib.hid hFC
    have HD2 := Lib.hid (HD.out.trans hb)
    clear hb hO2 hC2 hFC hq
    go_wp2_with fail
    refine HFC.out.mono ?_; rintro e3 w3 hq
    obtain ⟨rfl, hb3⟩ : e3 = .panicked (fl r) ∧ Below w2.heap.size w2 w3 := ⟨hq.1.trans HE.out, hq.2⟩
    exact ⟨rfl, Went.no HF.out (HD2.out.more hb3)⟩

theorem cexpr_all : ∀ x, CX x := X.ind cexpr_mk
end Go.Proofs.YtflbplljlkpeiaaDoor
