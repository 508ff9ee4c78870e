/- What is wrong with an expression's own form, as the show layer's checker finds it: what the document asks, at every expression. -/
import Derived.Test.YtflbplljlkpeiaaDoorRows
import Derived.Test.YtflbplljlkpeiaaDoorShowFormB
import Derived.Test.YtflbplljlkpeiaaDoorShowFormT
import Derived.Test.YtflbplljlkpeiaaDoorShowFormU
import Derived.Test.YtflbplljlkpeiaaDoorShowFormZ
namespace Go.Proofs.YtflbplljlkpeiaaDoor
open Go.RowKit

/-- How the name may be. -/
def nameOk (xm : Bool) (nm : ByteArray) : Prop := (xm = true ∧ isName nm.data.toList = true) ∨ (xm = false ∧ nm.data.toList = [])
def argsOk (xa : Int) (m : Nat) : Prop := xa = -1 ∨ (m : Int) = xa
def numOk (xn : Bool) (n : Int) : Prop := xn = true ∨ n = 0
/-- What is wrong with the type. -/
def tyOf (xd : Bool) (tk : Int) (tn : ByteArray) (tz : Int) : Int := if xd = true then (if tk = 2 ∨ tk = 3 then tyForm tk tn.data.toList tz else 1) else (if noTy tk tn tz = true then 0 else 1)

theorem form_some {h : Hd} {m : Nat} {xa : Int} {xn xm xd : Bool} {xs : ByteArray} (hx : wants h.k = some ⟨xa, xn, xm, xd, xs⟩) :
    (¬ argsOk xa m → form h m = 1) ∧ (argsOk xa m → ¬ numOk xn h.n → form h m = 1) ∧ (argsOk xa m → numOk xn h.n → ¬ nameOk xm h.name → form h m = 1) ∧
    (argsOk xa m → numOk xn h.n → nameOk xm h.name → form h m = tyOf xd h.tk h.tn h.tz) := by
  have hn : ((xm = true ∧ isName h.name.data.toList = false) ∨ (xm = false ∧ h.name.data.toList ≠ [])) ↔ ¬ nameOk xm h.name := by
    unfold nameOk
    cases xm <;> simp
  unfold form
  rw [hx]
  simp only
  unfold argsOk numOk
  refine ⟨fun a => ?_, fun a b => ?_, fun a b e => ?_, fun a b e => ?_⟩
  · rw [if_pos a]
  · rw [if_neg (fun q => q a), if_pos b]
  · rw [if_neg (fun q => q a), if_neg (fun q => q b), if_pos (hn.2 e)]
  · rw [if_neg (fun q => q a), if_neg (fun q => q b), if_neg (fun q => hn.1 q e)]
    unfold tyOf noTy
    cases xd <;> simp

theorem form_any (B c i : Nat) (h : Hd) (ao : Option Addr) (m cap : Nat) (w : World) (hok : HdOk h) (hc : Ck B c i w) :
    Calls Tryd.prog 46 #[.pointer (some ⟨c, 0, none⟩), .agg #[.int .u8 h.k, .int .i64 h.n, .string h.name, .int .u8 h.tk, .string h.tn, .int .i64 h.tz, .slice ao m cap]] w (Ends (form h m) w) := by
  cases hx : wants h.k with
  | none =>
    rw [show form h m = 1 by unfold form; rw [hx]]
    exact form_none B c i _ _ _ _ _ _ ao m cap w hc hx
  | some x =>
  obtain ⟨xa, xn, xm, xd, xs⟩ := x
  obtain ⟨f1, f2, f3, f4⟩ := form_some (m := m) hx
  have hnm := hok.name
  have htn := hok.tn
  by_cases hA : argsOk xa m
  · by_cases hN : numOk xn h.n
    · by_cases hM : nameOk xm h.name
      · rw [f4 hA hN hM]
        clear f1 f2 f3 f4
        obtain ⟨k, n, nm, tk, tn, tz⟩ := h
        replace hA : xa = -1 ∨ (¬ xa = -1 ∧ (m : Int) = xa) := by
          by_cases e : xa = -1
          · exact .inl e
          · exact .inr ⟨e, hA.resolve_left e⟩
        replace hN : xn = true ∨ (xn = false ∧ n = 0) := by
          cases xn
          · exact .inr ⟨rfl, hN.resolve_left (by simp)⟩
          · exact .inl rfl
        replace hx : wants k = some ⟨xa, xn, xm, xd, xs⟩ := hx
        replace hM : (xm = true ∧ isName nm.data.toList = true) ∨ (xm = false ∧ nm.data.toList = []) := hM
        replace hnm : nm.size ≤ 9223372036854775807 := hnm
        replace htn : tn.size ≤ 9223372036854775807 := htn
        show Calls Tryd.prog 46 #[.pointer (some ⟨c, 0, none⟩), .agg #[.int .u8 k, .int .i64 n, .string nm, .int .u8 tk, .string tn, .int .i64 tz, .slice ao m cap]] w (Ends (tyOf xd tk tn tz) w)
        rcases hA with hA | ⟨hA, hA2⟩ <;> rcases hN with rfl | ⟨rfl, hN⟩ <;> rcases hM with ⟨rfl, hM⟩ | ⟨rfl, hM⟩
        · cases xd with
          | false =>
            cases hz : noTy tk tn tz with
            | true => rw [show tyOf false tk tn tz = 0 by simp [tyOf, hz]]; exact form_zy_111 B c i k n tk tz xa nm tn xs ao m cap w hc hx hA hnm hM hz
            | false => rw [show tyOf false tk tn tz = 1 by simp [tyOf, hz]]; exact form_zn_111 B c i k n tk tz xa nm tn xs ao m cap w hc hx hA hnm hM hz
          | true =>
            by_cases h2 : tk = 2
            · subst h2
              rw [show tyOf true 2 tn tz = tyForm 2 tn.data.toList tz by simp [tyOf]]
              rcases tyForm_cases 2 tn.data.toList tz with hr | hr | hr
              · rw [hr]; exact form_ty2_111_0 B c i k n tz xa nm tn xs ao m cap w hc hx hA hnm hM htn hr
              · rw [hr]; exact form_ty2_111_1 B c i k n tz xa nm tn xs ao m cap w hc hx hA hnm hM htn hr
              · rw [hr]; exact form_ty2_111_3 B c i k n tz xa nm tn xs ao m cap w hc hx hA hnm hM htn hr
            by_cases h3 : tk = 3
            · subst h3
              rw [show tyOf true 3 tn tz = tyForm 3 tn.data.toList tz by simp [tyOf]]
              rcases tyForm_cases 3 tn.data.toList tz with hr | hr | hr
              · rw [hr]; exact form_ty3_111_0 B c i k n tz xa nm tn xs ao m cap w hc hx hA hnm hM htn hr
              · rw [hr]; exact form_ty3_111_1 B c i k n tz xa nm tn xs ao m cap w hc hx hA hnm hM htn hr
              · rw [hr]; exact form_ty3_111_3 B c i k n tz xa nm tn xs ao m cap w hc hx hA hnm hM htn hr
            rw [show tyOf true tk tn tz = 1 by simp [tyOf, h2, h3]]
            exact form_ty0_111 B c i k n tk tz xa nm tn xs ao m cap w hc hx hA hnm hM h2 h3
        · cases xd with
          | false =>
            cases hz : noTy tk tn tz with
            | true => rw [show tyOf false tk tn tz = 0 by simp [tyOf, hz]]; exact form_zy_112 B c i k n tk tz xa nm tn xs ao m cap w hc hx hA hM hz
            | false => rw [show tyOf false tk tn tz = 1 by simp [tyOf, hz]]; exact form_zn_112 B c i k n tk tz xa nm tn xs ao m cap w hc hx hA hM hz
          | true =>
            by_cases h2 : tk = 2
            · subst h2
              rw [show tyOf true 2 tn tz = tyForm 2 tn.data.toList tz by simp [tyOf]]
              rcases tyForm_cases 2 tn.data.toList tz with hr | hr | hr
              · rw [hr]; exact form_ty2_112_0 B c i k n tz xa nm tn xs ao m cap w hc hx hA hM htn hr
              · rw [hr]; exact form_ty2_112_1 B c i k n tz xa nm tn xs ao m cap w hc hx hA hM htn hr
              · rw [hr]; exact form_ty2_112_3 B c i k n tz xa nm tn xs ao m cap w hc hx hA hM htn hr
            by_cases h3 : tk = 3
            · subst h3
              rw [show tyOf true 3 tn tz = tyForm 3 tn.data.toList tz by simp [tyOf]]
              rcases tyForm_cases 3 tn.data.toList tz with hr | hr | hr
              · rw [hr]; exact form_ty3_112_0 B c i k n tz xa nm tn xs ao m cap w hc hx hA hM htn hr
              · rw [hr]; exact form_ty3_112_1 B c i k n tz xa nm tn xs ao m cap w hc hx hA hM htn hr
              · rw [hr]; exact form_ty3_112_3 B c i k n tz xa nm tn xs ao m cap w hc hx hA hM htn hr
            rw [show tyOf true tk tn tz = 1 by simp [tyOf, h2, h3]]
            exact form_ty0_112 B c i k n tk tz xa nm tn xs ao m cap w hc hx hA hM h2 h3
        · cases xd with
          | false =>
            cases hz : noTy tk tn tz with
            | true => rw [show tyOf false tk tn tz = 0 by simp [tyOf, hz]]; exact form_zy_121 B c i k n tk tz xa nm tn xs ao m cap w hc hx hA hN hnm hM hz
            | false => rw [show tyOf false tk tn tz = 1 by simp [tyOf, hz]]; exact form_zn_121 B c i k n tk tz xa nm tn xs ao m cap w hc hx hA hN hnm hM hz
          | true =>
            by_cases h2 : tk = 2
            · subst h2
              rw [show tyOf true 2 tn tz = tyForm 2 tn.data.toList tz by simp [tyOf]]
              rcases tyForm_cases 2 tn.data.toList tz with hr | hr | hr
              · rw [hr]; exact form_ty2_121_0 B c i k n tz xa nm tn xs ao m cap w hc hx hA hN hnm hM htn hr
              · rw [hr]; exact form_ty2_121_1 B c i k n tz xa nm tn xs ao m cap w hc hx hA hN hnm hM htn hr
              · rw [hr]; exact form_ty2_121_3 B c i k n tz xa nm tn xs ao m cap w hc hx hA hN hnm hM htn hr
            by_cases h3 : tk = 3
            · subst h3
              rw [show tyOf true 3 tn tz = tyForm 3 tn.data.toList tz by simp [tyOf]]
              rcases tyForm_cases 3 tn.data.toList tz with hr | hr | hr
              · rw [hr]; exact form_ty3_121_0 B c i k n tz xa nm tn xs ao m cap w hc hx hA hN hnm hM htn hr
              · rw [hr]; exact form_ty3_121_1 B c i k n tz xa nm tn xs ao m cap w hc hx hA hN hnm hM htn hr
              · rw [hr]; exact form_ty3_121_3 B c i k n tz xa nm tn xs ao m cap w hc hx hA hN hnm hM htn hr
            rw [show tyOf true tk tn tz = 1 by simp [tyOf, h2, h3]]
            exact form_ty0_121 B c i k n tk tz xa nm tn xs ao m cap w hc hx hA hN hnm hM h2 h3
        · cases xd with
          | false =>
            cases hz : noTy tk tn tz with
            | true => rw [show tyOf false tk tn tz = 0 by simp [tyOf, hz]]; exact form_zy_122 B c i k n tk tz xa nm tn xs ao m cap w hc hx hA hN hM hz
            | false => rw [show tyOf false tk tn tz = 1 by simp [tyOf, hz]]; exact form_zn_122 B c i k n tk tz xa nm tn xs ao m cap w hc hx hA hN hM hz
          | true =>
            by_cases h2 : tk = 2
            · subst h2
              rw [show tyOf true 2 tn tz = tyForm 2 tn.data.toList tz by simp [tyOf]]
              rcases tyForm_cases 2 tn.data.toList tz with hr | hr | hr
              · rw [hr]; exact form_ty2_122_0 B c i k n tz xa nm tn xs ao m cap w hc hx hA hN hM htn hr
              · rw [hr]; exact form_ty2_122_1 B c i k n tz xa nm tn xs ao m cap w hc hx hA hN hM htn hr
              · rw [hr]; exact form_ty2_122_3 B c i k n tz xa nm tn xs ao m cap w hc hx hA hN hM htn hr
            by_cases h3 : tk = 3
            · subst h3
              rw [show tyOf true 3 tn tz = tyForm 3 tn.data.toList tz by simp [tyOf]]
              rcases tyForm_cases 3 tn.data.toList tz with hr | hr | hr
              · rw [hr]; exact form_ty3_122_0 B c i k n tz xa nm tn xs ao m cap w hc hx hA hN hM htn hr
              · rw [hr]; exact form_ty3_122_1 B c i k n tz xa nm tn xs ao m cap w hc hx hA hN hM htn hr
              · rw [hr]; exact form_ty3_122_3 B c i k n tz xa nm tn xs ao m cap w hc hx hA hN hM htn hr
            rw [show tyOf true tk tn tz = 1 by simp [tyOf, h2, h3]]
            exact form_ty0_122 B c i k n tk tz xa nm tn xs ao m cap w hc hx hA hN hM h2 h3
        · cases xd with
          | false =>
            cases hz : noTy tk tn tz with
            | true => rw [show tyOf false tk tn tz = 0 by simp [tyOf, hz]]; exact form_zy_211 B c i k n tk tz xa nm tn xs ao m cap w hc hx hA hA2 hnm hM hz
            | false => rw [show tyOf false tk tn tz = 1 by simp [tyOf, hz]]; exact form_zn_211 B c i k n tk tz xa nm tn xs ao m cap w hc hx hA hA2 hnm hM hz
          | true =>
            by_cases h2 : tk = 2
            · subst h2
              rw [show tyOf true 2 tn tz = tyForm 2 tn.data.toList tz by simp [tyOf]]
              rcases tyForm_cases 2 tn.data.toList tz with hr | hr | hr
              · rw [hr]; exact form_ty2_211_0 B c i k n tz xa nm tn xs ao m cap w hc hx hA hA2 hnm hM htn hr
              · rw [hr]; exact form_ty2_211_1 B c i k n tz xa nm tn xs ao m cap w hc hx hA hA2 hnm hM htn hr
              · rw [hr]; exact form_ty2_211_3 B c i k n tz xa nm tn xs ao m cap w hc hx hA hA2 hnm hM htn hr
            by_cases h3 : tk = 3
            · subst h3
              rw [show tyOf true 3 tn tz = tyForm 3 tn.data.toList tz by simp [tyOf]]
              rcases tyForm_cases 3 tn.data.toList tz with hr | hr | hr
              · rw [hr]; exact form_ty3_211_0 B c i k n tz xa nm tn xs ao m cap w hc hx hA hA2 hnm hM htn hr
              · rw [hr]; exact form_ty3_211_1 B c i k n tz xa nm tn xs ao m cap w hc hx hA hA2 hnm hM htn hr
              · rw [hr]; exact form_ty3_211_3 B c i k n tz xa nm tn xs ao m cap w hc hx hA hA2 hnm hM htn hr
            rw [show tyOf true tk tn tz = 1 by simp [tyOf, h2, h3]]
            exact form_ty0_211 B c i k n tk tz xa nm tn xs ao m cap w hc hx hA hA2 hnm hM h2 h3
        · cases xd with
          | false =>
            cases hz : noTy tk tn tz with
            | true => rw [show tyOf false tk tn tz = 0 by simp [tyOf, hz]]; exact form_zy_212 B c i k n tk tz xa nm tn xs ao m cap w hc hx hA hA2 hM hz
            | false => rw [show tyOf false tk tn tz = 1 by simp [tyOf, hz]]; exact form_zn_212 B c i k n tk tz xa nm tn xs ao m cap w hc hx hA hA2 hM hz
          | true =>
            by_cases h2 : tk = 2
            · subst h2
              rw [show tyOf true 2 tn tz = tyForm 2 tn.data.toList tz by simp [tyOf]]
              rcases tyForm_cases 2 tn.data.toList tz with hr | hr | hr
              · rw [hr]; exact form_ty2_212_0 B c i k n tz xa nm tn xs ao m cap w hc hx hA hA2 hM htn hr
              · rw [hr]; exact form_ty2_212_1 B c i k n tz xa nm tn xs ao m cap w hc hx hA hA2 hM htn hr
              · rw [hr]; exact form_ty2_212_3 B c i k n tz xa nm tn xs ao m cap w hc hx hA hA2 hM htn hr
            by_cases h3 : tk = 3
            · subst h3
              rw [show tyOf true 3 tn tz = tyForm 3 tn.data.toList tz by simp [tyOf]]
              rcases tyForm_cases 3 tn.data.toList tz with hr | hr | hr
              · rw [hr]; exact form_ty3_212_0 B c i k n tz xa nm tn xs ao m cap w hc hx hA hA2 hM htn hr
              · rw [hr]; exact form_ty3_212_1 B c i k n tz xa nm tn xs ao m cap w hc hx hA hA2 hM htn hr
              · rw [hr]; exact form_ty3_212_3 B c i k n tz xa nm tn xs ao m cap w hc hx hA hA2 hM htn hr
            rw [show tyOf true tk tn tz = 1 by simp [tyOf, h2, h3]]
            exact form_ty0_212 B c i k n tk tz xa nm tn xs ao m cap w hc hx hA hA2 hM h2 h3
        · cases xd with
          | false =>
            cases hz : noTy tk tn tz with
            | true => rw [show tyOf false tk tn tz = 0 by simp [tyOf, hz]]; exact form_zy_221 B c i k n tk tz xa nm tn xs ao m cap w hc hx hA hA2 hN hnm hM hz
            | false => rw [show tyOf false tk tn tz = 1 by simp [tyOf, hz]]; exact form_zn_221 B c i k n tk tz xa nm tn xs ao m cap w hc hx hA hA2 hN hnm hM hz
          | true =>
            by_cases h2 : tk = 2
            · subst h2
              rw [show tyOf true 2 tn tz = tyForm 2 tn.data.toList tz by simp [tyOf]]
              rcases tyForm_cases 2 tn.data.toList tz with hr | hr | hr
              · rw [hr]; exact form_ty2_221_0 B c i k n tz xa nm tn xs ao m cap w hc hx hA hA2 hN hnm hM htn hr
              · rw [hr]; exact form_ty2_221_1 B c i k n tz xa nm tn xs ao m cap w hc hx hA hA2 hN hnm hM htn hr
              · rw [hr]; exact form_ty2_221_3 B c i k n tz xa nm tn xs ao m cap w hc hx hA hA2 hN hnm hM htn hr
            by_cases h3 : tk = 3
            · subst h3
              rw [show tyOf true 3 tn tz = tyForm 3 tn.data.toList tz by simp [tyOf]]
              rcases tyForm_cases 3 tn.data.toList tz with hr | hr | hr
              · rw [hr]; exact form_ty3_221_0 B c i k n tz xa nm tn xs ao m cap w hc hx hA hA2 hN hnm hM htn hr
              · rw [hr]; exact form_ty3_221_1 B c i k n tz xa nm tn xs ao m cap w hc hx hA hA2 hN hnm hM htn hr
              · rw [hr]; exact form_ty3_221_3 B c i k n tz xa nm tn xs ao m cap w hc hx hA hA2 hN hnm hM htn hr
            rw [show tyOf true tk tn tz = 1 by simp [tyOf, h2, h3]]
            exact form_ty0_221 B c i k n tk tz xa nm tn xs ao m cap w hc hx hA hA2 hN hnm hM h2 h3
        · cases xd with
          | false =>
            cases hz : noTy tk tn tz with
            | true => rw [show tyOf false tk tn tz = 0 by simp [tyOf, hz]]; exact form_zy_222 B c i k n tk tz xa nm tn xs ao m cap w hc hx hA hA2 hN hM hz
            | false => rw [show tyOf false tk tn tz = 1 by simp [tyOf, hz]]; exact form_zn_222 B c i k n tk tz xa nm tn xs ao m cap w hc hx hA hA2 hN hM hz
          | true =>
            by_cases h2 : tk = 2
            · subst h2
              rw [show tyOf true 2 tn tz = tyForm 2 tn.data.toList tz by simp [tyOf]]
              rcases tyForm_cases 2 tn.data.toList tz with hr | hr | hr
              · rw [hr]; exact form_ty2_222_0 B c i k n tz xa nm tn xs ao m cap w hc hx hA hA2 hN hM htn hr
              · rw [hr]; exact form_ty2_222_1 B c i k n tz xa nm tn xs ao m cap w hc hx hA hA2 hN hM htn hr
              · rw [hr]; exact form_ty2_222_3 B c i k n tz xa nm tn xs ao m cap w hc hx hA hA2 hN hM htn hr
            by_cases h3 : tk = 3
            · subst h3
              rw [show tyOf true 3 tn tz = tyForm 3 tn.data.toList tz by simp [tyOf]]
              rcases tyForm_cases 3 tn.data.toList tz with hr | hr | hr
              · rw [hr]; exact form_ty3_222_0 B c i k n tz xa nm tn xs ao m cap w hc hx hA hA2 hN hM htn hr
              · rw [hr]; exact form_ty3_222_1 B c i k n tz xa nm tn xs ao m cap w hc hx hA hA2 hN hM htn hr
              · rw [hr]; exact form_ty3_222_3 B c i k n tz xa nm tn xs ao m cap w hc hx hA hA2 hN hM htn hr
            rw [show tyOf true tk tn tz = 1 by simp [tyOf, h2, h3]]
            exact form_ty0_222 B c i k n tk tz xa nm tn xs ao m cap w hc hx hA hA2 hN hM h2 h3
      · rw [f3 hA hN hM]
        clear f1 f2 f3 f4
        obtain ⟨k, n, nm, tk, tn, tz⟩ := h
        replace hA : xa = -1 ∨ (¬ xa = -1 ∧ (m : Int) = xa) := by
          by_cases e : xa = -1
          · exact .inl e
          · exact .inr ⟨e, hA.resolve_left e⟩
        replace hN : xn = true ∨ (xn = false ∧ n = 0) := by
          cases xn
          · exact .inr ⟨rfl, hN.resolve_left (by simp)⟩
          · exact .inl rfl
        replace hM : (xm = true ∧ isName nm.data.toList = false) ∨ (xm = false ∧ ¬ nm.data.toList = []) := by
          unfold nameOk at hM
          cases xm
          · exact .inr ⟨rfl, by simpa using hM⟩
          · exact .inl ⟨rfl, by simpa using hM⟩
        replace hnm : nm.size ≤ 9223372036854775807 := hnm
        show Calls Tryd.prog 46 #[.pointer (some ⟨c, 0, none⟩), .agg #[.int .u8 k, .int .i64 n, .string nm, .int .u8 tk, .string tn, .int .i64 tz, .slice ao m cap]] w (Ends 1 w)
        rcases hA with hA | ⟨hA, hA2⟩ <;> rcases hN with rfl | ⟨rfl, hN⟩ <;> rcases hM with ⟨rfl, hM⟩ | ⟨rfl, hM⟩
        · exact form_name0_11a B c i k n tk tz xa nm tn xs xd ao m cap w hc hx hA hnm hM
        · exact form_name0_11b B c i k n tk tz xa nm tn xs xd ao m cap w hc hx hA hM
        · exact form_name0_12a B c i k n tk tz xa nm tn xs xd ao m cap w hc hx hA hN hnm hM
        · exact form_name0_12b B c i k n tk tz xa nm tn xs xd ao m cap w hc hx hA hN hM
        · exact form_name0_21a B c i k n tk tz xa nm tn xs xd ao m cap w hc hx hA hA2 hnm hM
        · exact form_name0_21b B c i k n tk tz xa nm tn xs xd ao m cap w hc hx hA hA2 hM
        · exact form_name0_22a B c i k n tk tz xa nm tn xs xd ao m cap w hc hx hA hA2 hN hnm hM
        · exact form_name0_22b B c i k n tk tz xa nm tn xs xd ao m cap w hc hx hA hA2 hN hM
    · rw [f2 hA hN]
      have hN0 : xn = false ∧ ¬ h.n = 0 := by
        unfold numOk at hN
        cases xn
        · exact ⟨rfl, fun e => hN (.inr e)⟩
        · exact absurd (.inl rfl) hN
      obtain ⟨rfl, hN0⟩ := hN0
      by_cases e : xa = -1
      · exact form_num0_1 B c i _ _ _ _ xa _ _ xs xm xd ao m cap w hc hx e hN0
      · exact form_num0_2 B c i _ _ _ _ xa _ _ xs xm xd ao m cap w hc hx e (hA.resolve_left e) hN0
  · rw [f1 hA]
    exact form_args0 B c i _ _ _ _ xa _ _ xs xn xm xd ao m cap w hc hx (fun e => hA (.inl e)) (fun e => hA (.inr e))
end Go.Proofs.YtflbplljlkpeiaaDoor
