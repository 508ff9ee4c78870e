/- What the show layer's Expr answers, at every expression: its text, or the first thing that is wrong when it is gone through. -/
import Derived.Test.YtflbplljlkpeiaaDoorRows
import Derived.Test.YtflbplljlkpeiaaDoorShowTop
import Derived.Deep.DrawnRows
import Derived.RegionTactic
import Derived.Deep.RegionHeld3
import Derived.WalkKit
import Derived.WalkSpells
import Derived.WalkLawsBesides
import Derived.Lib.Hide
namespace Go.Proofs.YtflbplljlkpeiaaDoor
open Go.RowKit
attribute [local go_sem ↓] Go.wp_at_zero Go.wp_at_succ

theorem itoa_pos (n : Int) : 1 ≤ (Lib.itoa n).length := by
  unfold Lib.itoa
  split
  · simp
  · rw [Lib.decDigits_length]; exact Lib.nDigits_pos _
theorem name_pos {l : List UInt8} (h : isName l = true) : 1 ≤ l.length := by
  unfold isName at h
  simp at h
  omega
theorem form_named {h : Hd} {n : Nat} (hf : form h n = 0) {x : Wx} (hx : wants h.k = some x) (hn : x.name = true) : isName h.name.data.toList = true := by
  unfold form at hf
  rw [hx] at hf
  simp only at hf
  split at hf
  · cases hf
  split at hf
  · cases hf
  split at hf
  · cases hf
  rename_i h3
  cases hc : isName h.name.data.toList with
  | true => rfl
  | false => exact absurd (Or.inl ⟨hn, hc⟩) h3
theorem txt_pos : ∀ x, Fine x → 1 ≤ x.txt.length := by
  rintro ⟨h, s, l⟩ hf
  have hform := (fine_kids hf).1
  rw [txt_mk]
  unfold nodeT
  have hi := itoa_pos h.n
  by_cases h3 : h.k = 3
  · have := name_pos (form_named hform (x := ⟨0, false, true, false, ⟨#[]⟩⟩) (by rw [h3]; rfl) rfl)
    simp [h3]
    simp at this
    exact this
  by_cases h1 : h.k = 1
  · rw [if_pos h1]; exact hi
  rw [if_neg h1]
  repeat' split
  all_goals first | (simp only [List.length_append, List.length_cons, List.length_nil]; omega) | (exfalso; exact h3 (by assumption))

theorem chk_err : ∀ x, ∀ d c e, chk d c x = .error e → e = 1 ∨ e = 3 := by
  refine X.ind fun h s l ih d c e he => ?_
  rw [chk_mk] at he
  split at he
  · cases he; exact .inr rfl
  split at he
  · have key : ∀ (l : List X), (∀ a ∈ l, ∀ d c e, chk d c a = .error e → e = 1 ∨ e = 3) → ∀ d c e, chks d c l = .error e → e = 1 ∨ e = 3 := by
      intro l
      induction l with
      | nil => intro _ d c e he; rw [chks_nil] at he; cases he
      | cons a r ihr =>
        intro hl d c e he
        rw [chks_cons] at he
        split at he
        · rename_i e0 h0
          cases he
          exact hl a (by simp) d c _ h0
        · exact ihr (fun b hb => hl b (by simp [hb])) d _ e he
    exact key l ih _ _ e he
  · rename_i hf
    cases he
    exact (form_cases h l.length).resolve_left hf

/-- The error by which an expression is refused; 0: none. -/
def chkR (x : X) : Int := match chk 1 0 x with | .ok _ => 0 | .error e => e
theorem chkR_ok {x : X} {m : Nat} (h : chk 1 0 x = .ok m) : chkR x = 0 := by unfold chkR; rw [h]
theorem chkR_no {x : X} {e : Int} (h : chk 1 0 x = .error e) : chkR x = e := by unfold chkR; rw [h]
theorem chkR_cases (x : X) : chkR x = 0 ∨ chkR x = 1 ∨ chkR x = 3 := by
  cases h : chk 1 0 x with
  | ok m => exact .inl (chkR_ok h)
  | error e => rw [chkR_no h]; exact .inr (chk_err x 1 0 e h)
theorem went_ends {B c : Nat} {x : X} {w w' : World} {e : Ending} (h : Went B c (chk 1 0 x) w e w') (hB : B ≤ c) (hs : B ≤ w.heap.size) : e = ended (chkR x) ∧ Below B w w' := by
  refine ⟨?_, h.1.below hB hs⟩
  cases hc : chk 1 0 x with
  | ok m => rw [chkR_ok hc]; exact (h.yes hc).1
  | error k =>
    rw [chkR_no hc, ended_no (by rcases chk_err x 1 0 k hc with rfl | rfl <;> decide)]
    exact (h.not hc).1

set_option maxHeartbeats 2000000 in
theorem expr1_any (b : Nat) (x : X) (w : World) (hI : InW w w.heap.size x) (h : w.heap[b]? = some (.cells #[.int .u8 x.hd.k, .int .i64 x.hd.n, .string x.hd.name, .int .u8 x.hd.tk, .string x.hd.tn, .int .i64 x.hd.tz, x.s] 33 (0, 0))) :
    Calls Tryd.prog 25 #[.pointer (some ⟨b, 0, none⟩)] w (Ends (chkR x) w) := by
  have hbl : b < w.heap.size := (Array.getElem?_eq_some_iff.1 h).1
  obtain ⟨q0, q1, q2, q3, q4, q5, q6⟩ := own7 h
  have HN := Lib.hid (newck_any w.drew)
  have HX := Lib.hid (fun c w1 h1 h2 h3 => cexpr_all x w.heap.size c 0 1 1 w1 rfl h1 h2 h3 (by omega) (by omega))
  have HI := Lib.hid hI
  have HO := Lib.hid h
  have hc := chkR_cases x
  obtain ⟨r, hr⟩ : ∃ r, r = chkR x := ⟨_, rfl⟩
  have hwe := fun (c : Nat) (w1 : World) (e : Ending) (w' : World) (hq : Went w.heap.size c (chk 1 0 x) w1 e w') (h1 : w.heap.size ≤ c) (h2 : w.heap.size ≤ w1.heap.size) => went_ends hq h1 h2
  rw [← hr] at hwe hc ⊢
  have HW := Lib.hid hwe
  have HXV := Lib.hid (show x.val = .agg #[.int .u8 x.hd.k, .int .i64 x.hd.n, .string x.hd.name, .int .u8 x.hd.tk, .string x.hd.tn, .int .i64 x.hd.tz, x.s] from rfl)
  clear hI h hwe hr
  rcases hc with rfl | rfl | rfl
  · go_enter Tryd.func25, Tryd.ntmps25
    go_wp2_with fail
    refine wp_region_held_drew (S := OwnX b x.hd.k x.hd.n x.hd.tk x.hd.tz x.hd.name x.hd.tn x.s) (by kernel_rfl) (OwnX.of HO.out) (fun hSw => ?_)
    refine wpAnyH_take (i := 1) (oi := { dst := some 2, op := Op.load 33 (Operand.tmp 0), type := 33, pos := "show.go:23", after := #[], guard := none }) (v := .agg #[.int .u8 x.hd.k, .int .i64 x.hd.n, .string x.hd.name, .int .u8 x.hd.tk, .string x.hd.tn, .int .i64 x.hd.tz, x.s]) rfl (by kernel_rfl) (by kernel_rfl) (by kernel_rfl) (fun _ _ _ h => h) (Or.inl ⟨by rfl, fun W hW => ?_⟩) hSw ?_
    · obtain ⟨s0, s1, s2, s3, s4, s5, s6⟩ := hW
      first | (go_simp; done) | rfl
    try simp only [Act.put, List.setIfInBounds_toArray, List.set_cons_zero, List.set_cons_succ]
    refine wpAnyH_ready (rs := [0]) (by kernel_rfl) (by simp) ?_
    refine AllReadyH.cons (o := { dst := some 1, op := Op.call { callee := Callee.value (Operand.func 26), args := #[], argTypes := #[] }, type := 64, pos := "show.go:23", after := #[], guard := none }) rfl (fun K hK => ?_) AllReadyH.nil
    rw [if_pos (by rfl)]
    clear hSw
    go_simp
    refine HN.out.mono ?_
    rintro e w1 ⟨c, rfl, hC, hb⟩
    have hO1 := (hb.block _ (by show b < w.heap.size; omega)).trans HO.out
    have HS1 := Lib.hid (OwnX.of hO1)
    have HO1 := Lib.hid hO1
    have HC := Lib.hid hC
    have HB1 := Lib.hid (show Below w.heap.size w w1 from (Below.drew (Below.refl _ _)).trans hb)
    have hBc : w.heap.size ≤ c := hC.1
    clear hC hb hO1
    refine hK.out _ _ HS1.out (fun hSw => ?_)
    clear hK K
    try simp only [Act.put, List.setIfInBounds_toArray, List.set_cons_zero, List.set_cons_succ]
    refine wpAnyH_ready (rs := [2]) (by kernel_rfl) (by simp) ?_
    refine AllReadyH.cons (o := { dst := some 3, op := Op.call { callee := Callee.value (Operand.func 27), args := #[Operand.tmp 1, Operand.tmp 2, Operand.const (Value.int IntKind.i64 1)], argTypes := #[64, 33, 3] }, type := 0, pos := "show.go:23", after := #[{ on := 0, ground := Ground.data }, { on := 1, ground := Ground.data }, { on := 0, ground := Ground.chain }], guard := none }) rfl (fun K hK => ?_) AllReadyH.nil
    rw [if_pos (by rfl)]
    clear hSw
    go_simp
    refine (HX.out _ _ HC.out HB1.out.size (InW.keeps HB1.out _ HI.out)).mono ?_
    rintro e w2 hq
    obtain ⟨he, hb2⟩ := HW.out _ _ _ _ hq hBc HB1.out.size
    clear hq
    rw [ended_ok rfl] at he
    subst he
    have HS2 := Lib.hid (OwnX.of ((hb2.block _ (by omega)).trans HO1.out))
    refine hK.out _ _ HS2.out (fun hSw => ?_)
    clear hK K
    try simp only [Act.put, List.setIfInBounds_toArray, List.set_cons_zero, List.set_cons_succ]
    refine wpAnyH_done (by kernel_rfl) ?_ _
    go_wp2_with fail
    go_end0
    exact Ends.ok rfl (HB1.out.trans hb2)
  · go_enter Tryd.func25, Tryd.ntmps25
    go_wp2_with fail
    refine wp_region_held_drew (S := OwnX b x.hd.k x.hd.n x.hd.tk x.hd.tz x.hd.name x.hd.tn x.s) (by kernel_rfl) (OwnX.of HO.out) (fun hSw => ?_)
    refine wpAnyH_take (i := 1) (oi := { dst := some 2, op := Op.load 33 (Operand.tmp 0), type := 33, pos := "show.go:23", after := #[], guard := none }) (v := .agg #[.int .u8 x.hd.k, .int .i64 x.hd.n, .string x.hd.name, .int .u8 x.hd.tk, .string x.hd.tn, .int .i64 x.hd.tz, x.s]) rfl (by kernel_rfl) (by kernel_rfl) (by kernel_rfl) (fun _ _ _ h => h) (Or.inl ⟨by rfl, fun W hW => ?_⟩) hSw ?_
    · obtain ⟨s0, s1, s2, s3, s4, s5, s6⟩ := hW
      first | (go_simp; done) | rfl
    try simp only [Act.put, List.setIfInBounds_toArray, List.set_cons_zero, List.set_cons_succ]
    refine wpAnyH_ready (rs := [0]) (by kernel_rfl) (by simp) ?_
    refine AllReadyH.cons (o := { dst := some 1, op := Op.call { callee := Callee.value (Operand.func 26), args := #[], argTypes := #[] }, type := 64, pos := "show.go:23", after := #[], guard := none }) rfl (fun K hK => ?_) AllReadyH.nil
    rw [if_pos (by rfl)]
    clear hSw
    go_simp
    refine HN.out.mono ?_
    rintro e w1 ⟨c, rfl, hC, hb⟩
    have hO1 := (hb.block _ (by show b < w.heap.size; omega)).trans HO.out
    have HS1 := Lib.hid (OwnX.of hO1)
    have HO1 := Lib.hid hO1
    have HC := Lib.hid hC
    have HB1 := Lib.hid (show Below w.heap.size w w1 from (Below.drew (Below.refl _ _)).trans hb)
    have hBc : w.heap.size ≤ c := hC.1
    clear hC hb hO1
    refine hK.out _ _ HS1.out (fun hSw => ?_)
    clear hK K
    try simp only [Act.put, List.setIfInBounds_toArray, List.set_cons_zero, List.set_cons_succ]
    refine wpAnyH_ready (rs := [2]) (by kernel_rfl) (by simp) ?_
    refine AllReadyH.cons (o := { dst := some 3, op := Op.call { callee := Callee.value (Operand.func 27), args := #[Operand.tmp 1, Operand.tmp 2, Operand.const (Value.int IntKind.i64 1)], argTypes := #[64, 33, 3] }, type := 0, pos := "show.go:23", after := #[{ on := 0, ground := Ground.data }, { on := 1, ground := Ground.data }, { on := 0, ground := Ground.chain }], guard := none }) rfl (fun K hK => ?_) AllReadyH.nil
    rw [if_pos (by rfl)]
    clear hSw
    go_simp
    refine (HX.out _ _ HC.out HB1.out.size (InW.keeps HB1.out _ HI.out)).mono ?_
    rintro e w2 hq
    obtain ⟨he, hb2⟩ := HW.out _ _ _ _ hq hBc HB1.out.size
    clear hq
    rw [ended_no (by decide)] at he
    subst he
    exact ⟨rfl, Ends.arg rfl (HB1.out.trans hb2)⟩
  · go_enter Tryd.func25, Tryd.ntmps25
    go_wp2_with fail
    refine wp_region_held_drew (S := OwnX b x.hd.k x.hd.n x.hd.tk x.hd.tz x.hd.name x.hd.tn x.s) (by kernel_rfl) (OwnX.of HO.out) (fun hSw => ?_)
    refine wpAnyH_take (i := 1) (oi := { dst := some 2, op := Op.load 33 (Operand.tmp 0), type := 33, pos := "show.go:23", after := #[], guard := none }) (v := .agg #[.int .u8 x.hd.k, .int .i64 x.hd.n, .string x.hd.name, .int .u8 x.hd.tk, .string x.hd.tn, .int .i64 x.hd.tz, x.s]) rfl (by kernel_rfl) (by kernel_rfl) (by kernel_rfl) (fun _ _ _ h => h) (Or.inl ⟨by rfl, fun W hW => ?_⟩) hSw ?_
    · obtain ⟨s0, s1, s2, s3, s4, s5, s6⟩ := hW
      first | (go_simp; done) | rfl
    try simp only [Act.put, List.setIfInBounds_toArray, List.set_cons_zero, List.set_cons_succ]
    refine wpAnyH_ready (rs := [0]) (by kernel_rfl) (by simp) ?_
    refine AllReadyH.cons (o := { dst := some 1, op := Op.call { callee := Callee.value (Operand.func 26), args := #[], argTypes := #[] }, type := 64, pos := "show.go:23", after := #[], guard := none }) rfl (fun K hK => ?_) AllReadyH.nil
    rw [if_pos (by rfl)]
    clear hSw
    go_simp
    refine HN.out.mono ?_
    rintro e w1 ⟨c, rfl, hC, hb⟩
    have hO1 := (hb.block _ (by show b < w.heap.size; omega)).trans HO.out
    have HS1 := Lib.hid (OwnX.of hO1)
    have HO1 := Lib.hid hO1
    have HC := Lib.hid hC
    have HB1 := Lib.hid (show Below w.heap.size w w1 from (Below.drew (Below.refl _ _)).trans hb)
    have hBc : w.heap.size ≤ c := hC.1
    clear hC hb hO1
    refine hK.out _ _ HS1.out (fun hSw => ?_)
    clear hK K
    try simp only [Act.put, List.setIfInBounds_toArray, List.set_cons_zero, List.set_cons_succ]
    refine wpAnyH_ready (rs := [2]) (by kernel_rfl) (by simp) ?_
    refine AllReadyH.cons (o := { dst := some 3, op := Op.call { callee := Callee.value (Operand.func 27), args := #[Operand.tmp 1, Operand.tmp 2, Operand.const (Value.int IntKind.i64 1)], argTypes := #[64, 33, 3] }, type := 0, pos := "show.go:23", after := #[{ on := 0, ground := Ground.data }, { on := 1, ground := Ground.data }, { on := 0, ground := Ground.chain }], guard := none }) rfl (fun K hK => ?_) AllReadyH.nil
    rw [if_pos (by rfl)]
    clear hSw
    go_simp
    refine (HX.out _ _ HC.out HB1.out.size (InW.keeps HB1.out _ HI.out)).mono ?_
    rintro e w2 hq
    obtain ⟨he, hb2⟩ := HW.out _ _ _ _ hq hBc HB1.out.size
    clear hq
    rw [ended_no (by decide)] at he
    subst he
    exact ⟨rfl, Ends.limit rfl (HB1.out.trans hb2)⟩

theorem in_val {w : World} {B : Nat} {x : X} (h : InW w B x) : ∃ ao n c, x.s = .slice ao n c := by
  obtain ⟨ao, n, c, e⟩ := slice_of h
  exact ⟨ao, n, c, e⟩

/-- What Expr answers: the text, or the error. -/
def Shown (x : X) (w : World) (e : Ending) (w' : World) : Prop :=
  (∀ m, chk 1 0 x = .ok m → x.txt.length ≤ 65536 → Tells x.txt w e w') ∧ (∀ m, chk 1 0 x = .ok m → 65536 < x.txt.length → Fails 3 w e w') ∧ (∀ k, chk 1 0 x = .error k → Fails k w e w')

set_option maxHeartbeats 1000000 in
theorem sexpr_any (x : X) (w : World) (hI : InW w w.heap.size x) (hG : Good w) :
    Calls Tryd.prog 10 #[x.val] w (Shown x w) := by
  have hmf : ∀ (fn : Fn) (first cap : Array Value) (w : World), (Instr.makeFunc fn first cap).run Tryd.prog w = .ok (.func fn first cap) w := fun _ _ _ _ => rfl
  have hB1 := below_box w (.cells #[.int .u8 x.hd.k, .int .i64 x.hd.n, .string x.hd.name, .int .u8 x.hd.tk, .string x.hd.tn, .int .i64 x.hd.tz, x.s] 33)
  have hB2 := below_box (w.alloc (.cells #[.int .u8 x.hd.k, .int .i64 x.hd.n, .string x.hd.name, .int .u8 x.hd.tk, .string x.hd.tn, .int .i64 x.hd.tz, x.s] 33)) (.cells #[.int .i64 0] 25)
  have hT := expr1_any w.heap.size x ((w.alloc (.cells #[.int .u8 x.hd.k, .int .i64 x.hd.n, .string x.hd.name, .int .u8 x.hd.tk, .string x.hd.tn, .int .i64 x.hd.tz, x.s] 33)).alloc (.cells #[.int .i64 0] 25)) (InW.up (by simp; omega) _ (InW.keeps (hB1.trans (hB2.mono hB1.size)) _ hI)) (by
    rw [Below.heap_alloc _ _ _ (by simp)]
    exact (MapKept.heap_alloc _ _).1)
  have HC := Lib.hid (caught_expr ⟨w.heap.size, 0, none⟩ (chkR x) (chkR_cases x) _ hT)
  have HB := Lib.hid hB1
  have HO := Lib.hid (MapKept.heap_alloc w (.cells #[.int .u8 x.hd.k, .int .i64 x.hd.n, .string x.hd.name, .int .u8 x.hd.tk, .string x.hd.tn, .int .i64 x.hd.tz, x.s] 33)).1
  have HG := Lib.hid hG
  have HI := Lib.hid hI
  show Calls Tryd.prog 10 #[.agg #[.int .u8 x.hd.k, .int .i64 x.hd.n, .string x.hd.name, .int .u8 x.hd.tk, .string x.hd.tn, .int .i64 x.hd.tz, x.s]] w (Shown x w)
  clear hT hB1 hB2 hG hI
  cases hc : chk 1 0 x with
  | error k =>
    have HS := Lib.hid (fun (e : Ending) (w' : World) (h : Fails k w e w') => (⟨(fun m h1 => by rw [hc] at h1; cases h1), (fun m h1 => by rw [hc] at h1; cases h1), (fun j h1 => by rw [hc] at h1; cases h1; exact h)⟩ : Shown x w e w'))
    have hk : ¬ k = 0 := by rcases chk_err x 1 0 k hc with rfl | rfl <;> decide
    have hn : (k == 0) = false := beq_eq_false_iff_ne.2 hk
    have hn2 : (k != 0) = true := by rw [bne, hn]; rfl
    rw [chkR_no hc] at HC
    clear hc hk
    go_enter Tryd.func10, Tryd.ntmps10
    go_wp2_with (go_at_call 14; refine HC.out.mono ?_; rintro e w2 ⟨rfl, hb2⟩)
    go_ret2
    exact HS.out _ _ ⟨rfl, HB.out.trans (hb2.mono (by simp))⟩
  | ok m =>
    obtain ⟨hm1, hf, hm2⟩ := chk_ok x _ _ _ hc
    have HS := Lib.hid (fun (e : Ending) (w' : World) (h : x.txt.length ≤ 65536 → Tells x.txt w e w') (h2 : 65536 < x.txt.length → Fails 3 w e w') => (⟨(fun _ _ => h), (fun _ _ => h2), (fun j h1 => by rw [hc] at h1; cases h1)⟩ : Shown x w e w'))
    have hsz : X.size x ≤ 1024 := by omega
    have hsh := txt_short x hf HI.out
    have hps := txt_pos x hf
    have HEX := Lib.hid (expr_all x hf)
    rw [chkR_ok hc] at HC
    clear hc hf hm1 hm2
    go_enter Tryd.func10, Tryd.ntmps10
    go_wp2_with fail
    refine HC.out.mono ?_; rintro e w2 ⟨rfl, hb2⟩
    have hs2 := hb2.size
    simp at hs2
    have HO2 := Lib.hid ((hb2.block _ (by simp)).trans HO.out)
    have HB2 := Lib.hid (HB.out.trans (hb2.mono (by simp)))
    clear hb2
    go_wp2_with fail
    refine (newwr_any _).mono ?_; rintro e w3 ⟨c, rfl, hW3, hb3⟩
    have hs3 := hb3.size
    have HB3 := Lib.hid (HB2.out.trans (hb3.mono (by omega)))
    have HO3 := Lib.hid ((hb3.block _ (by omega)).trans HO2.out)
    obtain ⟨q0, q1, q2, q3, q4, q5, q6⟩ := own7 HO3.out
    have HT := Lib.hid (HEX.out w2.heap.size c [] 0 w3 hW3 hs3 (InW.up (by omega) _ (InW.keeps HB3.out _ HI.out)) (((HG.out.keeps HB2.out).knows).below hb3) (by simp; omega))
    clear hW3 hb3
    go_wp2_with fail
    refine HT.out.mono ?_; rintro e w4 ⟨rfl, hW4, hD4⟩
    have HB4 := Lib.hid (HB3.out.trans (hD4.below.mono (by omega)))
    rw [List.nil_append] at hW4
    have HQ := Lib.hid (told_any w2.heap.size c _ 0 w4 hW4 (by intro e; rw [e] at hps; simp at hps) (by omega))
    clear hW4 hD4
    by_cases hlen : x.txt.length ≤ 65536
    · go_wp2_with (go_at_call 19; refine HQ.out.mono ?_; rintro e w5 hq; obtain ⟨rfl, hb5⟩ := told_short hq hlen)
      go_ret2
      exact HS.out _ _ (fun _ => ⟨rfl, HB4.out.trans (hb5.mono (by omega))⟩) (fun h => by omega)
    · go_wp2_with (go_at_call 19; refine HQ.out.mono ?_; rintro e w5 hq; obtain ⟨rfl, hb5⟩ := told_long hq (by omega))
      go_ret2
      exact HS.out _ _ (fun h => absurd h hlen) (fun _ => ⟨rfl, HB4.out.trans (hb5.mono (by omega))⟩)
end Go.Proofs.YtflbplljlkpeiaaDoor
