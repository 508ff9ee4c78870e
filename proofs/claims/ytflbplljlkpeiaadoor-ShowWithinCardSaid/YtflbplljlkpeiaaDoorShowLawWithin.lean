/- The statement on an expression alone and in a program, at every expression. -/
import Derived.Test.YtflbplljlkpeiaaDoorRows
import Derived.Test.YtflbplljlkpeiaaDoorShowBoth
import Derived.Test.YtflbplljlkpeiaaDoorShowMade
import Derived.WalkKit
import Derived.WalkSpells
import Derived.WalkLawsBesides
import Derived.Lib.Hide
namespace Go.Proofs.YtflbplljlkpeiaaDoor
open Go.RowKit

attribute [local go_sem ↓] bls_eq
set_option maxHeartbeats 4000000 in
theorem within_core (x : X) (ao : Option Addr) (m cap : Nat) (hx : x.s = .slice ao m cap) (hm : m = x.args.length) (w : World) (hI : InW w w.heap.size x) (hG : Good w) :
    Calls Tryd.prog 4 #[.agg #[.int .u8 x.hd.k, .int .i64 x.hd.n, .string x.hd.name, .int .u8 x.hd.tk, .string x.hd.tn, .int .i64 x.hd.tz, .slice ao m cap]] w fun e w' => e = .returned (.bool true) ∧ Below w.heap.size w w' := by
  obtain ⟨s, t, r, q, hA, hsl, hE, hP⟩ := both x
  obtain ⟨W1, hW1⟩ : ∃ W1, W1 = w.alloc (.cells #[.int .u8 x.hd.k, .int .i64 x.hd.n, .string x.hd.name, .int .u8 x.hd.tk, .string x.hd.tn, .int .i64 x.hd.tz, .slice ao m cap] 33) := ⟨_, rfl⟩
  have hz1 : W1.heap.size = w.heap.size + 1 := by rw [hW1]; simp
  have hb1 : Below w.heap.size w W1 := by rw [hW1]; exact below_box w _
  have hO : W1.heap[w.heap.size]? = some (.cells #[.int .u8 x.hd.k, .int .i64 x.hd.n, .string x.hd.name, .int .u8 x.hd.tk, .string x.hd.tn, .int .i64 x.hd.tz, .slice ao m cap] 33) := by rw [hW1]; exact (MapKept.heap_alloc _ _).1
  have hS := esize_any x W1 (InW.up hb1.size _ (InW.keeps hb1 _ hI))
  rw [val_of hx] at hS
  obtain ⟨q0, q1, q2, q3, q4, q5, q6⟩ := own7 hO
  rw [hW1] at hS q0 q1 q2 q3 q4 q5 q6
  have HS := Lib.hid hS
  have HEX := Lib.hid (fun w' (h : Below w.heap.size w w') => (sexpr_any x w' (InW.up h.size _ (InW.keeps h _ hI)) (hG.keeps h)).mono (fun e w'' k => hE w' e w'' k))
  have HPX := Lib.hid (fun w' b (h : Below w.heap.size w w') (hL : Lone x ao x.args.length cap b w') => (sprog_lone x ao cap b (by rw [hx, hm]) w' hL (InW.up h.size _ (InW.keeps h _ hI)) (hG.keeps h)).mono (fun e w'' k => hP w' e w'' k))
  have HNX := Lib.hid (fun w' b (hz : X.sizes x.args ≤ 262144) (h : Below w.heap.size w w') (hL : Lone x ao x.args.length cap b w') => sitems_lone x ao cap b (by rw [hx, hm]) hz w' hL (InW.up h.size _ (InW.keeps h _ hI)))
  have HAX := Lib.hid (fun w' => alone_any x ao m cap hx w')
  have HLX := Lib.hid (fun w' (h : Below w.heap.size w w') => alive_any w' (hG.keeps h))
  rw [← hm] at HPX HNX
  have HV := Lib.hid (val_of hx)
  have HO := Lib.hid hO
  have HB1 := Lib.hid hb1
  have HZ := Lib.hid hW1
  have HA := Lib.hid hA
  have m1 := made_one
  generalize loneN x = N at *
  clear hS hE hP hA hO hb1 hW1 hI hG hx hm
  go_enter Tryd.func4, Tryd.ntmps4
  go_wp2_with fail
  refine HS.out.mono ?_; rintro e w2 ⟨⟨n, rfl, hn0, hn1, hnz⟩, hb2⟩
  rw [← HZ.out] at hb2
  have hs2 := hb2.size
  have HO2 := Lib.hid ((hb2.block _ (by omega)).trans HO.out)
  have HB2 := Lib.hid (HB1.out.trans (hb2.mono (by omega)))
  have HBy := Lib.hid (beyond_any w2.heap.size n 3 (0, 0) (w2.alloc (.cells #[.int .i64 n] 3)) hn0 hn1 (MapKept.heap_alloc _ _).1)
  have HB3 := Lib.hid (HB2.out.trans ((below_box w2 (.cells #[.int .i64 n] 3)).mono HB2.out.size))
  have HO3 := Lib.hid (show (w2.alloc (.cells #[.int .i64 n] 3)).heap[w.heap.size]? = some (.cells #[.int .u8 x.hd.k, .int .i64 x.hd.n, .string x.hd.name, .int .u8 x.hd.tk, .string x.hd.tn, .int .i64 x.hd.tz, .slice ao m cap] 33) by rw [Below.heap_alloc _ _ _ (by omega)]; exact HO2.out)
  have HNZ := Lib.hid hnz
  clear hb2 hnz q0 q1 q2 q3 q4 q5 q6
  go_wp2_with fail
  refine HBy.out.mono ?_; rintro e w3 ⟨rfl, rfl⟩
  by_cases hbig : 262144 < n
  · rw [decide_eq_true hbig]
    go_wp2_with fail
    go_ret
    exact ⟨rfl, HB3.out⟩
  rw [decide_eq_false hbig]
  have hzz := HNZ.out (by omega)
  obtain ⟨q0, q1, q2, q3, q4, q5, q6⟩ := own7 HO3.out
  have hE1 := HEX.out _ HB3.out
  rw [HV.out] at hE1
  have HE1 := Lib.hid hE1
  clear hE1
  go_wp2_with fail
  refine HE1.out.mono ?_; rintro e w4 ⟨rfl, hb4⟩
  have hs4 := hb4.size
  have HO4 := Lib.hid ((hb4.block _ (by simp; omega)).trans HO3.out)
  have HB4 := Lib.hid (HB3.out.trans (hb4.mono HB3.out.size))
  clear hb4 q0 q1 q2 q3 q4 q5 q6
  obtain ⟨q0, q1, q2, q3, q4, q5, q6⟩ := own7 HO4.out
  have hA1 := HAX.out w4
  rw [HV.out] at hA1
  have HA1 := Lib.hid hA1
  clear hA1
  go_wp2_with fail
  refine HA1.out.mono ?_; rintro e w5 ⟨b, rfl, hL5, hb5⟩
  have hs5 := hb5.size
  have HO5 := Lib.hid ((hb5.block _ (by have := HB4.out.size; simp at hs4; omega)).trans HO4.out)
  have HB5 := Lib.hid (HB4.out.trans (hb5.mono HB4.out.size))
  have HP1 := Lib.hid (HPX.out w5 b HB5.out hL5)
  clear hb5 hL5 q0 q1 q2 q3 q4 q5 q6
  go_wp2_with fail
  refine HP1.out.mono ?_; rintro e w6 ⟨rfl, hb6⟩
  have hs6 := hb6.size
  have HO6 := Lib.hid ((hb6.block _ (by simp at hs4; omega)).trans HO5.out)
  have HB6 := Lib.hid (HB5.out.trans (hb6.mono HB5.out.size))
  obtain ⟨q0, q1, q2, q3, q4, q5, q6⟩ := own7 HO6.out
  have hA2 := HAX.out w6
  rw [HV.out] at hA2
  have HA2 := Lib.hid hA2
  clear hb6 hA2
  go_wp2_with fail
  refine HA2.out.mono ?_; rintro e w7 ⟨b2, rfl, hL7, hb7⟩
  have HB7 := Lib.hid (HB6.out.trans (hb7.mono HB6.out.size))
  have HN1 := Lib.hid (HNX.out w7 b2 hzz HB7.out hL7)
  clear hb7 hL7 q0 q1 q2 q3 q4 q5 q6
  go_wp2_with fail
  refine HN1.out.mono ?_; rintro e w8 ⟨rfl, hb8⟩
  have HB8 := Lib.hid (HB7.out.trans (hb8.mono HB7.out.size))
  have HL1 := Lib.hid (HLX.out w8 HB8.out)
  clear hb8
  have hsz : ((⟨s.toArray⟩ : ByteArray).size : Int) = (s.length : Int) := by
    show (s.toArray.size : Int) = _
    simp
  rcases HA.out with ⟨rfl, rfl, ht, hN⟩ | ⟨rfl, rfl, rfl, hN⟩ | ⟨rfl, rfl, rfl, hN, hl⟩ | ⟨hr, rfl, rfl, rfl⟩ | ⟨hr, rfl, rfl, rfl, hr3, hN⟩
  · have hteq : (⟨#[116, 104, 114, 101, 97, 100, 32, 123, 10, 32, 32, 112, 114, 105, 110, 116, 32]⟩ : ByteArray) ++ ⟨s.toArray⟩ ++ ⟨#[59, 10, 125, 10]⟩ = ⟨t.toArray⟩ := by
      apply ByteArray.ext
      rw [ht]
      simp
    clear ht HA
    go_wp2_with fail
    refine HL1.out.mono ?_; rintro e w9 ⟨rfl, hb9⟩
    have HB9 := Lib.hid (HB8.out.trans (hb9.mono HB8.out.size))
    clear hb9
    go_wp2_with fail
    go_ret
    exact ⟨rfl, HB9.out⟩
  all_goals
    clear HA
    go_wp2_with fail
    refine HL1.out.mono ?_; rintro e w9 ⟨rfl, hb9⟩
    have HB9 := Lib.hid (HB8.out.trans (hb9.mono HB8.out.size))
    clear hb9
    go_wp2_with fail
    go_ret
    refine ⟨?_, HB9.out⟩
    first
      | rfl
      | (show Ending.returned (.bool (decide (1024 < N) || decide (65506 < (s.length : Int)))) = _
         rw [decide_eq_true (show 65506 < (s.length : Int) by omega), Bool.or_true])

theorem law_within (x : X) (w : World) (hI : InW w w.heap.size x) (hG : Good w) :
    Calls Tryd.prog 4 #[x.val] w fun e w' => e = .returned (.bool true) ∧ Below w.heap.size w w' := by
  obtain ⟨ao, cap, hx⟩ := args_len hI
  rw [val_of hx]
  exact within_core x ao x.args.length cap hx rfl w hI hG
end Go.Proofs.YtflbplljlkpeiaaDoor
