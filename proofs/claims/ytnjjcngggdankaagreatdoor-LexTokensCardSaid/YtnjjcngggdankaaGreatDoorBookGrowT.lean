/- A Book that holds two lists of tokens: three more are put behind each, one by one. -/
import Derived.Test.YtnjjcngggdankaaGreatDoorRows
import Derived.Test.YtnjjcngggdankaaGreatDoorBookFillT
import Derived.Deep.RegionLaw
import Derived.Deep.RegionWith
import Derived.Deep.AppendLies
import Derived.Deep.DrawnRows
import Derived.WalkKit
import Derived.WalkSpells
import Derived.WalkLawsBesides
import Derived.Lib.Hide
namespace Go.Proofs.YtnjjcngggdankaaGreatDoor
open Go.RowKit Go.Joins

section
variable {B : Nat} {w0 w w1 : World} {K gT cT n0 n1 : Nat} {v0 v1 : Value} {x0 x1 : List Value}
theorem apart_swap (h : v0.ownBlock = none ∨ v0.ownBlock ≠ v1.ownBlock) : v1.ownBlock = none ∨ v1.ownBlock ≠ v0.ownBlock := by
  rcases h with h | h
  · cases e : v1.ownBlock with
    | none => exact .inl rfl
    | some g => exact .inr (by rw [h]; simp)
  · exact .inr (Ne.symm h)

/-- What stays where one list's row alone is written or laid anew. -/
structure Far (B : Nat) (w0 w w1 : World) (K gT cT : Nat) (v0 v1 : Value) (u : Value) (m : Nat) (y : List Value) : Prop where
  book : Bk w1 K 2 (.slice (some ⟨gT, 0, none⟩) 2 cT)
  held : w1.ownsRow B 80 2 (.slice (some ⟨gT, 0, none⟩) 2 cT) 2 [v0, .int .i64 0, v1, .int .i64 1]
  other : w1.ownsRow B 63 4 u m y
  below : Below B w0 w1
  size : w.heap.size ≤ w1.heap.size
theorem Two.far0 (h : Two B w0 w K gT cT v0 v1 n0 n1 x0 x1) (hg : w.grownBy w1 v0.ownBlock) : Far B w0 w w1 K gT cT v0 v1 v1 n1 x1 :=
  ⟨h.book.kept hg (fun e => own_book h.row0 h.book (by decide) e.symm), h.held.kept hg (own_types h.held h.row0 (by decide)), h.row1.kept hg (apart_swap h.apart), h.below.grown hg h.size fun k e => (h.row0.lt k e).1, hg.size⟩
theorem Two.far1 (h : Two B w0 w K gT cT v0 v1 n0 n1 x0 x1) (hg : w.grownBy w1 v1.ownBlock) : Far B w0 w w1 K gT cT v0 v1 v0 n0 x0 :=
  ⟨h.book.kept hg (fun e => own_book h.row1 h.book (by decide) e.symm), h.held.kept hg (own_types h.held h.row1 (by decide)), h.row0.kept hg h.apart, h.below.grown hg h.size fun k e => (h.row1.lt k e).1, hg.size⟩

theorem own_not {w : World} {b1 b2 s1 s2 m n g c : Nat} {e1 e2 : TypeId} {u : Value} {xs ys : List Value} (h : w.ownsRow b1 e1 s1 u m xs) (h' : w.ownsRow b2 e2 s2 (.slice (some ⟨g, 0, none⟩) n c) n ys) (hne : e1 ≠ e2) : u.ownBlock ≠ some g := by
  rcases own_types h h' hne with e | e
  · rw [e]; simp
  · exact e

theorem Two.grow0 {gg cap n : Nat} {xs : List Value} (h : Two B w0 w K gT cT v0 v1 n0 n1 x0 x1) (hg : w.grownBy w1 v0.ownBlock) (ho : w1.ownsRow B 63 4 (.slice (some ⟨gg, 0, none⟩) n cap) n xs) (hat : v0.ownBlock = some gg ∨ w.heap.size ≤ gg) :
    Two B w0 (w1.setCell ⟨gT, 0, none⟩ (.slice (some ⟨gg, 0, none⟩) n cap)) K gT cT (.slice (some ⟨gg, 0, none⟩) n cap) v1 n n1 xs x1 := by
  have f := h.far0 hg
  have hBT : B ≤ gT := (f.held.lt gT rfl).1
  have hKT : K ≠ gT := fun e => own_book f.held f.book (by decide) (by rw [e]; rfl)
  refine ⟨f.below.setCell hBT _, Nat.le_trans h.size (by simpa [World.setCell] using f.size), bk_cell f.book _ hKT _, h.kle, (f.held.stored 0 _).1, own_cell ho _ (own_not ho f.held (by decide)) _, own_cell f.other _ (own_not f.other f.held (by decide)) _, .inr ?_⟩
  intro e
  have e' : v1.ownBlock = some gg := e.symm
  rcases hat with a | a
  · rcases h.apart with b | b
    · rw [a] at b; cases b
    · exact b (by rw [a, e'])
  · have := (h.row1.lt gg e').2
    omega
theorem Two.grow1 {gg cap n : Nat} {xs : List Value} (h : Two B w0 w K gT cT v0 v1 n0 n1 x0 x1) (hg : w.grownBy w1 v1.ownBlock) (ho : w1.ownsRow B 63 4 (.slice (some ⟨gg, 0, none⟩) n cap) n xs) (hat : v1.ownBlock = some gg ∨ w.heap.size ≤ gg) :
    Two B w0 (w1.setCell ⟨gT, 2, none⟩ (.slice (some ⟨gg, 0, none⟩) n cap)) K gT cT v0 (.slice (some ⟨gg, 0, none⟩) n cap) n0 n x0 xs := by
  have f := h.far1 hg
  have hBT : B ≤ gT := (f.held.lt gT rfl).1
  have hKT : K ≠ gT := fun e => own_book f.held f.book (by decide) (by rw [e]; rfl)
  refine ⟨f.below.setCell hBT _, Nat.le_trans h.size (by simpa [World.setCell] using f.size), bk_cell f.book _ hKT _, h.kle, (f.held.stored 2 _).1, own_cell f.other _ (own_not f.other f.held (by decide)) _, own_cell ho _ (own_not ho f.held (by decide)) _, ?_⟩
  cases e0 : v0.ownBlock with
  | none => exact .inl rfl
  | some q =>
    refine .inr fun e => ?_
    have e' : q = gg := by simpa [Value.ownBlock] using e
    subst e'
    rcases hat with a | a
    · rcases h.apart with b | b
      · rw [e0] at b; cases b
      · exact b (by rw [a, e0])
    · have := (h.row0.lt q e0).2
      omega
end

attribute [local go_sem ↓] Go.wp_at_zero Go.wp_at_succ

def less (i j a b : Nat) : Nat := if j < i then b else a

set_option maxRecDepth 100000 in
set_option maxHeartbeats 8000000 in
theorem grow_two (B : Nat) (w0 w : World) (K gT cT : Nat) (v0 v1 : Value) (n0 n1 : Nat) (hn0 : n0 ≤ 1000000) (hn1 : n1 ≤ 1000000) (hT : Two B w0 w K gT cT v0 v1 n0 n1 (marks 0 n0) (marks 1 n1)) :
    Calls Tryz.prog 52 #[.pointer (some ⟨K, 0, none⟩)] w fun e w' => e = .returned (.tuple #[]) ∧ ∃ v0 v1, Two B w0 w' K gT cT v0 v1 (n0 + 3) (n1 + 3) (marks 0 (n0 + 3)) (marks 1 (n1 + 3)) := by
  obtain ⟨i0, hi0, hz0, hz1, hz2⟩ := info_parts tokInfo
  have k12 : w.cell? ⟨K, 12, none⟩ = some (.slice (some ⟨gT, 0, none⟩) 2 cT) := hT.book.cell 12
  have HT0 := Lib.hid hT
  have HI := Lib.hid (And.intro hi0 (And.intro hz0 (And.intro hz1 hz2)))
  clear hT hi0 hz0 hz1 hz2
  go_enter Tryz.func52, Tryz.ntmps52
  go_wp2_with fail
  clear k12
  go_loopw [10] (fun iv wr => ∃ (i : Nat) (v0 v1 : Value), i ≤ 2 ∧ iv = .int .i64 i ∧ Two B w0 wr K gT cT v0 v1 (less i 0 n0 (n0 + 3)) (less i 1 n1 (n1 + 3)) (marks 0 (less i 0 n0 (n0 + 3))) (marks 1 (less i 1 n1 (n1 + 3)))) (fun iv _ => 2 - (intOf iv).toNat)
  case atStart => exact ⟨0, v0, v1, by omega, rfl, HT0.out⟩
  case round =>
    obtain ⟨i, v0, v1, hi, rfl, hT⟩ := hrel
    rcases (show i = 0 ∨ i = 1 ∨ i = 2 by omega) with rfl | rfl | rfl
    · replace hT : Two B w0 wr K gT cT v0 v1 n0 n1 (marks 0 n0) (marks 1 n1) := hT
      rw [show ((0 : Nat) : Int) = 0 from rfl]
      have k12 : wr.cell? ⟨K, 12, none⟩ = some (.slice (some ⟨gT, 0, none⟩) 2 cT) := hT.book.cell 12
      have HT1 := Lib.hid hT
      clear hT
      go_wp2_with fail
      obtain ⟨wo, hwo⟩ : ∃ wo : World, wo = wr := ⟨_, rfl⟩
      subst hwo
      clear k12
      go_loopw [4] (fun kv wr => ∃ (k : Nat) (v0 : Value), k ≤ 3 ∧ kv = .int .i64 k ∧ Two B w0 wr K gT cT v0 v1 (n0 + k) n1 (marks 0 (n0 + k)) (marks 1 n1)) (fun kv _ => 3 - (intOf kv).toNat)
      case atStart => exact ⟨0, v0, by omega, rfl, HT1.out⟩
      case round =>
        obtain ⟨k, v0, hk, rfl, hT⟩ := hrel
        by_cases hlt : k < 3
        · obtain ⟨A, c, rfl⟩ := own_slice hT.row0
          obtain ⟨t0, t1, t2, t3⟩ := hT.cells
          have hTA := ((hT.alloc (.cells #[.int .u8 0, .string ⟨#[]⟩, .int .i64 0, .int .i64 (-1000)] 63)).alloc (.cells #[.int .u8 0, .string ⟨#[]⟩, .int .i64 0, .int .i64 (-1000)] 63)).drew
          have hro := hTA.row0
          have hBs := hT.size
          have htl := (hT.held.lt gT rfl).2
          have hnew0 : ((wr.alloc (.cells #[.int .u8 0, .string ⟨#[]⟩, .int .i64 0, .int .i64 (-1000)] 63)).alloc (.cells #[.int .u8 0, .string ⟨#[]⟩, .int .i64 0, .int .i64 (-1000)] 63)).heap[wr.heap.size + 1]? = some (.cells #[.int .u8 0, .string ⟨#[]⟩, .int .i64 0, .int .i64 (-1000)] 63) := by
            have h := heap_alloc_new (wr.alloc (.cells #[.int .u8 0, .string ⟨#[]⟩, .int .i64 0, .int .i64 (-1000)] 63)) (.cells #[.int .u8 0, .string ⟨#[]⟩, .int .i64 0, .int .i64 (-1000)] 63)
            simpa using h
          have HNEW : Hid ((((wr.alloc (.cells #[.int .u8 0, .string ⟨#[]⟩, .int .i64 0, .int .i64 (-1000)] 63)).alloc (.cells #[.int .u8 0, .string ⟨#[]⟩, .int .i64 0, .int .i64 (-1000)] 63)).drew).heap[wr.heap.size + 1]? = some (.cells #[.int .u8 0, .string ⟨#[]⟩, .int .i64 0, .int .i64 (-1000)] 63)) := Lib.hid hnew0
          clear hnew0
          have HM := Lib.hid (fun w => mark_is 0 (by omega) w)
          have HTA := Lib.hid hTA
          clear hT hTA
          go_wp2_with fail
          go_region_law (first
            | (refine step_append_lies _ (by rfl) _ _ _ (by rfl) B 63 i0 _ 4 40 Tryz.underlying22 HI.out.1 HI.out.2.1 HI.out.2.2.1 HI.out.2.2.2 rfl (by omega) _ (n0 + k) (marks 0 (n0 + k)) (by rfl) hro ⟨wr.heap.size + 1, 0, none⟩ 1 1 [.int .u8 0, .string ⟨#[]⟩, .int .i64 0, .int .i64 (-1000)] (by rfl) (by rfl) (World.news_of_block (cs := #[.int .u8 0, .string ⟨#[]⟩, .int .i64 0, .int .i64 (-1000)]) (t := 63) (fr := (0, 0)) HNEW.out) (four_one _ _ _ _) (by omega) (by unfold maxLen; omega) (by omega) (by simp; omega) (wr.heap.size + 2) (by simp) ?_
               intro gg cap w1 hown1 hgrow hat hlt2
               have hfar := HTA.out.far0 hgrow
               have q0 := hfar.held.cellAt 0 (by omega)
               have qf := hfar.held.frozenAt 0)
            | (go_simp; go_at_call 127; refine (HM.out _).mono ?_; rintro e w' ⟨rfl, rfl⟩))
          all_goals
            have hgt := HTA.out.grow0 hgrow hown1 (hat.imp id (fun h => by rw [h]; simp))
            have HG : Hid (Two B w0 (w1.setCell ⟨gT, 0, none⟩ (.slice (some ⟨gg, 0, none⟩) (n0 + k + 1) cap)) K gT cT (.slice (some ⟨gg, 0, none⟩) (n0 + k + 1) cap) v1 (n0 + k + 1) n1 (marks 0 (n0 + k + 1)) (marks 1 n1)) := Lib.hid hgt
            clear hgt hown1 hgrow hfar hat
            go_wp2_with fail
            go_roundw
            case rel => exact ⟨k + 1, _, by omega, by go_num, HG.out⟩
            case measure => simp [intOf]; omega
        · obtain rfl : k = 3 := by omega
          go_wp2_with fail
          go_roundw
          case rel => exact ⟨1, _, _, by omega, rfl, hT⟩
          case measure => simp [intOf]
    · replace hT : Two B w0 wr K gT cT v0 v1 (n0 + 3) n1 (marks 0 (n0 + 3)) (marks 1 n1) := hT
      rw [show ((1 : Nat) : Int) = 1 from rfl]
      have k12 : wr.cell? ⟨K, 12, none⟩ = some (.slice (some ⟨gT, 0, none⟩) 2 cT) := hT.book.cell 12
      have HT1 := Lib.hid hT
      clear hT
      go_wp2_with fail
      obtain ⟨wo, hwo⟩ : ∃ wo : World, wo = wr := ⟨_, rfl⟩
      subst hwo
      clear k12
      go_loopw [4] (fun kv wr => ∃ (k : Nat) (v1 : Value), k ≤ 3 ∧ kv = .int .i64 k ∧ Two B w0 wr K gT cT v0 v1 (n0 + 3) (n1 + k) (marks 0 (n0 + 3)) (marks 1 (n1 + k))) (fun kv _ => 3 - (intOf kv).toNat)
      case atStart => exact ⟨0, v1, by omega, rfl, HT1.out⟩
      case round =>
        obtain ⟨k, v1, hk, rfl, hT⟩ := hrel
        by_cases hlt : k < 3
        · obtain ⟨A, c, rfl⟩ := own_slice hT.row1
          obtain ⟨t0, t1, t2, t3⟩ := hT.cells
          have hTA := ((hT.alloc (.cells #[.int .u8 0, .string ⟨#[]⟩, .int .i64 0, .int .i64 (-1001)] 63)).alloc (.cells #[.int .u8 0, .string ⟨#[]⟩, .int .i64 0, .int .i64 (-1001)] 63)).drew
          have hro := hTA.row1
          have hBs := hT.size
          have htl := (hT.held.lt gT rfl).2
          have hnew0 : ((wr.alloc (.cells #[.int .u8 0, .string ⟨#[]⟩, .int .i64 0, .int .i64 (-1001)] 63)).alloc (.cells #[.int .u8 0, .string ⟨#[]⟩, .int .i64 0, .int .i64 (-1001)] 63)).heap[wr.heap.size + 1]? = some (.cells #[.int .u8 0, .string ⟨#[]⟩, .int .i64 0, .int .i64 (-1001)] 63) := by
            have h := heap_alloc_new (wr.alloc (.cells #[.int .u8 0, .string ⟨#[]⟩, .int .i64 0, .int .i64 (-1001)] 63)) (.cells #[.int .u8 0, .string ⟨#[]⟩, .int .i64 0, .int .i64 (-1001)] 63)
            simpa using h
          have HNEW : Hid ((((wr.alloc (.cells #[.int .u8 0, .string ⟨#[]⟩, .int .i64 0, .int .i64 (-1001)] 63)).alloc (.cells #[.int .u8 0, .string ⟨#[]⟩, .int .i64 0, .int .i64 (-1001)] 63)).drew).heap[wr.heap.size + 1]? = some (.cells #[.int .u8 0, .string ⟨#[]⟩, .int .i64 0, .int .i64 (-1001)] 63)) := Lib.hid hnew0
          clear hnew0
          have HM := Lib.hid (fun w => mark_is 1 (by omega) w)
          have HTA := Lib.hid hTA
          clear hT hTA
          go_wp2_with fail
          go_region_law (first
            | (refine step_append_lies _ (by rfl) _ _ _ (by rfl) B 63 i0 _ 4 40 Tryz.underlying22 HI.out.1 HI.out.2.1 HI.out.2.2.1 HI.out.2.2.2 rfl (by omega) _ (n1 + k) (marks 1 (n1 + k)) (by rfl) hro ⟨wr.heap.size + 1, 0, none⟩ 1 1 [.int .u8 0, .string ⟨#[]⟩, .int .i64 0, .int .i64 (-1001)] (by rfl) (by rfl) (World.news_of_block (cs := #[.int .u8 0, .string ⟨#[]⟩, .int .i64 0, .int .i64 (-1001)]) (t := 63) (fr := (0, 0)) HNEW.out) (four_one _ _ _ _) (by omega) (by unfold maxLen; omega) (by omega) (by simp; omega) (wr.heap.size + 2) (by simp) ?_
               intro gg cap w1 hown1 hgrow hat hlt2
               have hfar := HTA.out.far1 hgrow
               have q0 := hfar.held.cellAt 2 (by omega)
               have qf := hfar.held.frozenAt 2)
            | (go_simp; go_at_call 127; refine (HM.out _).mono ?_; rintro e w' ⟨rfl, rfl⟩))
          all_goals
            have hgt := HTA.out.grow1 hgrow hown1 (hat.imp id (fun h => by rw [h]; simp))
            have HG : Hid (Two B w0 (w1.setCell ⟨gT, 2, none⟩ (.slice (some ⟨gg, 0, none⟩) (n1 + k + 1) cap)) K gT cT v0 (.slice (some ⟨gg, 0, none⟩) (n1 + k + 1) cap) (n0 + 3) (n1 + k + 1) (marks 0 (n0 + 3)) (marks 1 (n1 + k + 1))) := Lib.hid hgt
            clear hgt hown1 hgrow hfar hat
            go_wp2_with fail
            go_roundw
            case rel => exact ⟨k + 1, _, by omega, by go_num, HG.out⟩
            case measure => simp [intOf]; omega
        · obtain rfl : k = 3 := by omega
          go_wp2_with fail
          go_roundw
          case rel => exact ⟨2, _, _, by omega, rfl, hT⟩
          case measure => simp [intOf]
    · replace hT : Two B w0 wr K gT cT v0 v1 (n0 + 3) (n1 + 3) (marks 0 (n0 + 3)) (marks 1 (n1 + 3)) := hT
      rw [show ((2 : Nat) : Int) = 2 from rfl]
      go_wp2_with fail
      go_end0
      exact ⟨rfl, _, _, hT⟩
end Go.Proofs.YtnjjcngggdankaaGreatDoor
