/- Pure: what package shape answers of a program, and what follows of it (P7.3). -/
import Derived.Test.YtcibiiddigpnfaaGreatDoorGPlain
import Derived.Test.YtcibiiddigpnfaaGreatDoorShpCode
namespace Go.Proofs.YtcibiiddigpnfaaGreatDoor
open Go.RowKit
def aheadS (s : ByteArray) (l : List Fd) : Int × Int := match idx s (fnames l) with
  | none => (0, 9)
  | some i => ((i : Int), 0)
def nextS (r : Int × Int) : Int × Int := if r.2 = 0 then (1 + r.1, 0) else (0, r.2)
def recS (s : ByteArray) : List Rc → Option Rc
  | [] => none
  | r :: l => if r.name = s then some r else recS s l
def fieldsS (s : ByteArray) (l : List Rc) : List Fd := ((recS s l).map (·.fields)).getD []
def fieldsV (s : ByteArray) (l : List Rc) : Value := ((recS s l).map (·.v)).getD (.slice none 0 0)
def oneV (v : Value) (t : Ty) : Pr := ⟨⟨.slice none 0 0, [], v, [⟨⟨#[97]⟩, t⟩], .slice none 0 0, []⟩, .slice none 0 0, []⟩
def madeS (t : Ty) : Bool := (decide (t.k = 2) || decide (t.k = 3)) && decide ((typesT (oneV (.slice none 0 0) t)).2 ≠ 1)
def wordsS (P : Pr) : Int × Int := if (typesT P).2 = 0 then ((P.e.shared.length : Int), 0) else (0, 1)
def sharedS (P : Pr) (s : ByteArray) : Int × Int := if (typesT P).2 = 0 then nextS (aheadS s P.e.shared) else (0, 1)
def sizeS (P : Pr) (t : Ty) : Int × Int :=
  if (typesT P).2 = 0 then
    if madeS t = true then
      if t.n.data.toList ≠ [] ∧ (fieldsS t.n P.e.records).length = 0 then (0, 9)
      else if t.k = 3 then (t.z, 0) else (((fieldsS t.n P.e.records).length : Int), 0)
    else (0, 10)
  else (0, 1)
def offsetS (P : Pr) (r f : ByteArray) : Int × Int := if (typesT P).2 = 0 then aheadS f (fieldsS r P.e.records) else (0, 1)
theorem oneV_alike (v : Value) (t : Ty) : typesT (oneV v t) = typesT (oneV (.slice none 0 0) t) := typesT_alike rfl
/-! ### What a program that is taken holds -/
theorem recsT_ok (e : En) : ∀ (l : List Rc) (i : Nat), recsT e i l = .ok () → ∀ k r, l[k]? = some r → recE e (i + k) r = 0
  | [], _, _, k, r, hk => by simp at hk
  | a :: l, i, h, k, r, hk => by
    rw [recsT] at h
    split at h
    · cases h
    rename_i h0
    cases k with
    | zero => cases hk; exact Classical.not_not.1 h0
    | succ k =>
      have := recsT_ok e l (i + 1) h k r (by simpa using hk)
      rwa [show i + (k + 1) = i + 1 + k by omega]
theorem sharesT_ok (e : En) : ∀ (l : List Fd) (i : Nat), sharesT e i l = .ok () → ∀ k f, l[k]? = some f → shareE e (i + k) f = 0
  | [], _, _, k, r, hk => by simp at hk
  | a :: l, i, h, k, r, hk => by
    rw [sharesT] at h
    split at h
    · cases h
    rename_i h0
    cases k with
    | zero => cases hk; exact Classical.not_not.1 h0
    | succ k =>
      have := sharesT_ok e l (i + 1) h k r (by simpa using hk)
      rwa [show i + (k + 1) = i + 1 + k by omega]
theorem fieldsE_ok (e : En) (all : List ByteArray) : ∀ (l : List Fd) (j : Nat), fieldsE e all j l = 0 → ∀ k f, l[k]? = some f → idx f.name all = some (j + k)
  | [], _, _, k, r, hk => by simp at hk
  | a :: l, j, h, k, r, hk => by
    rw [fieldsE] at h
    split at h
    · cases h
    rename_i h0
    split at h
    · cases k with
      | zero => cases hk; exact Classical.not_not.1 h0
      | succ k =>
        have := fieldsE_ok e all l (j + 1) h k r (by simpa using hk)
        rwa [show j + (k + 1) = j + 1 + k by omega]
    · cases h
theorem chkR_each : ∀ (l : List Rc) (i : Nat), chkR i l = 0 → ∀ r ∈ l, isName r.name.data.toList = true ∧ r.fields ≠ []
  | [], _, _, r, hr => by cases hr
  | a :: l, i, h, r, hr => by
    rw [chkR] at h
    split at h
    · cases h
    split at h
    · cases h
    rename_i h0
    split at h
    · exact absurd h (by assumption)
    rcases List.mem_cons.1 hr with rfl | hr
    · refine ⟨?_, fun hh => h0 (.inr hh)⟩
      cases hn : isName r.name.data.toList with
      | true => rfl
      | false => exact absurd (.inl hn) h0
    · exact chkR_each l (i + 1) h r hr
structure OkS (P : Pr) : Prop where
  shared : ∀ k f, P.e.shared[k]? = some f → idx f.name (fnames P.e.shared) = some k
  recs : ∀ k r, P.e.records[k]? = some r → idx r.name (rnames P.e.records) = some k ∧ (∀ j f, r.fields[j]? = some f → idx f.name (fnames r.fields) = some j) ∧ isName r.name.data.toList = true ∧ r.fields ≠ []
theorem oks_of {P : Pr} (h : (typesT P).2 = 0) : OkS P ∧ chkR 0 P.e.records = 0 ∧ chkF 1024 0 P.e.shared = 0 ∧ recsT P.e 0 P.e.records = .ok () ∧ sharesT P.e 0 P.e.shared = .ok () := by
  obtain ⟨m, q, hc, hp⟩ := typesT_ok P h
  unfold chkP at hc
  cases he : chkE P.e with
  | error k => rw [he] at hc; cases hc
  | ok c =>
  unfold chkE at he
  split at he
  · cases he
  rename_i h1
  split at he
  · cases he
  rename_i h2
  unfold progT at hp
  cases hh : headT P.e with
  | error k => rw [hh] at hp; cases hp
  | ok q1 =>
  unfold headT at hh
  cases hr : recsT P.e 0 P.e.records with
  | error k => rw [hr] at hh; cases hh
  | ok u =>
  rw [hr] at hh
  cases hs : sharesT P.e 0 P.e.shared with
  | error k => rw [hs] at hh; cases hh
  | ok u2 =>
  refine ⟨⟨fun k f hk => ?_, fun k r hk => ?_⟩, Classical.not_not.1 h1, Classical.not_not.1 h2, rfl, rfl⟩
  · have h3 := sharesT_ok P.e P.e.shared 0 hs k f hk
    unfold shareE at h3
    split at h3
    · cases h3
    rename_i h4
    have h5 := Classical.not_not.1 fun hh => h4 (.inr hh)
    rwa [Nat.zero_add] at h5
  · have h3 := recsT_ok P.e P.e.records 0 hr k r hk
    unfold recE at h3
    split at h3
    · cases h3
    rename_i h4
    have h5 := Classical.not_not.1 h4
    rw [Nat.zero_add] at h5
    obtain ⟨g1, g2⟩ := chkR_each P.e.records 0 (Classical.not_not.1 h1) r (List.mem_of_getElem? hk)
    refine ⟨h5, fun j f hj => ?_, g1, g2⟩
    have := fieldsE_ok P.e _ r.fields 0 h3 j f hj
    rwa [Nat.zero_add] at this
/-! ### What follows -/
theorem recS_of (s : ByteArray) : ∀ (l : List Rc) (k : Nat) (r : Rc), idx s (rnames l) = some k → l[k]? = some r → recS s l = some r
  | [], k, r, _, hk => by simp at hk
  | a :: l, k, r, h, hk => by
    unfold rnames at h
    rw [List.map_cons, idx] at h
    rw [recS]
    split at h
    · rename_i h0
      cases h
      cases hk
      rw [if_pos h0]
    · rename_i h0
      rw [if_neg h0]
      cases hi : idx s (l.map (·.name)) with
      | none => rw [hi] at h; cases h
      | some i =>
        rw [hi] at h
        obtain rfl : i + 1 = k := by simpa using h
        exact recS_of s l i r hi (by simpa using hk)
theorem shared_follows {P : Pr} (h : (typesT P).2 = 0) (k : Nat) (f : Fd) (hk : P.e.shared[k]? = some f) : sharedS P f.name = (1 + (k : Int), 0) := by
  unfold sharedS aheadS nextS
  rw [if_pos h, (oks_of h).1.shared k f hk]
  rfl
theorem fields_follow {P : Pr} (h : (typesT P).2 = 0) (k : Nat) (r : Rc) (hk : P.e.records[k]? = some r) : fieldsS r.name P.e.records = r.fields := by
  unfold fieldsS
  rw [recS_of r.name P.e.records k r ((oks_of h).1.recs k r hk).1 hk]
  rfl
theorem offset_follows {P : Pr} (h : (typesT P).2 = 0) (k : Nat) (r : Rc) (hk : P.e.records[k]? = some r) (j : Nat) (f : Fd) (hj : r.fields[j]? = some f) : offsetS P r.name f.name = ((j : Int), 0) := by
  unfold offsetS
  rw [if_pos h, fields_follow h k r hk]
  unfold aheadS
  rw [((oks_of h).1.recs k r hk).2.1 j f hj]
theorem made_ref (n : ByteArray) (hn : isName n.data.toList = true) : madeS ⟨2, n, 0⟩ = true := by
  have hne : n.data.toList ≠ [] := by
    intro h0
    rw [h0] at hn
    exact absurd hn (by decide)
  have hc : chkP (oneV (.slice none 0 0) ⟨2, n, 0⟩) = .ok 0 := by
    have hf : (⟨2, n, 0⟩ : Ty).form = 0 := by unfold Ty.form tyForm; simp [hn]
    have ha : isName (⟨#[97]⟩ : ByteArray).data.toList = true := by decide
    unfold chkP chkE oneV
    simp [chkR, chkF, chkFs, chkT, hf, ha]
  have ht : typesT (oneV (.slice none 0 0) ⟨2, n, 0⟩) = (0, 9) := by
    have hk : knownT (oneV (.slice none 0 0) ⟨2, n, 0⟩).e ⟨2, n, 0⟩ = false := by unfold knownT; simp [hne, oneV, rnames, idx]
    unfold typesT
    rw [hc]
    unfold progT headT oneV
    simp only [recsT, sharesT]
    have hs : shareE (oneV (.slice none 0 0) ⟨2, n, 0⟩).e 0 ⟨⟨#[97]⟩, ⟨2, n, 0⟩⟩ = 9 := by
      unfold shareE
      rw [hk]
      simp [oneV, rnames, fnames, idx]
    unfold oneV at hs
    simp only [hs]
    rfl
  unfold madeS
  rw [ht]
  rfl
theorem size_follows {P : Pr} (h : (typesT P).2 = 0) (k : Nat) (r : Rc) (hk : P.e.records[k]? = some r) : sizeS P ⟨2, r.name, 0⟩ = ((r.fields.length : Int), 0) := by
  have hr := (oks_of h).1.recs k r hk
  unfold sizeS
  rw [if_pos h, made_ref _ hr.2.2.1, if_pos rfl]
  simp only
  rw [fields_follow h k r hk, if_neg, if_neg (by decide)]
  rintro ⟨-, h0⟩
  exact hr.2.2.2 (List.length_eq_zero_iff.1 h0)
/-! ### Without functions and threads -/
theorem known_same {e e' : En} (h : e'.records = e.records) (t : Ty) : knownT e' t = knownT e t := by unfold knownT; rw [h]
theorem fieldsE_same {e e' : En} (h : e'.records = e.records) (all : List ByteArray) : ∀ (l : List Fd) (j : Nat), fieldsE e' all j l = fieldsE e all j l
  | [], _ => rfl
  | f :: l, j => by rw [fieldsE, fieldsE, known_same h, fieldsE_same h all l (j + 1)]
theorem recsT_same {e e' : En} (h : e'.records = e.records) : ∀ (l : List Rc) (i : Nat), recsT e' i l = recsT e i l
  | [], _ => rfl
  | r :: l, i => by
    have hr : recE e' i r = recE e i r := by unfold recE; rw [h, fieldsE_same h]
    rw [recsT, recsT, hr, recsT_same h l (i + 1)]
theorem sharesT_same {e e' : En} (h : e'.records = e.records) (hs : e'.shared = e.shared) : ∀ (l : List Fd) (i : Nat), sharesT e' i l = sharesT e i l
  | [], _ => rfl
  | f :: l, i => by
    have hr : shareE e' i f = shareE e i f := by unfold shareE; rw [h, hs, known_same h]
    rw [sharesT, sharesT, hr, h, sharesT_same h hs l (i + 1)]
theorem bare_taken {P : Pr} (h : (typesT P).2 = 0) (rv sv fv tv : Value) (rs : List Rc) (ss : List Fd) (hr : rs.map Rc.bare = P.e.records.map Rc.bare) (hs : ss = P.e.shared) :
    (typesT ⟨⟨rv, rs, sv, ss, fv, []⟩, tv, []⟩).2 = 0 := by
  have hal : (⟨⟨rv, rs, sv, ss, fv, []⟩, tv, []⟩ : Pr).bare = (⟨⟨rv, P.e.records, sv, P.e.shared, fv, []⟩, tv, []⟩ : Pr).bare := by
    unfold Pr.bare En.bare
    simp only [hr, hs]
  rw [typesT_alike hal]
  obtain ⟨-, h1, h2, h3, h4⟩ := oks_of h
  have hc : chkP ⟨⟨rv, P.e.records, sv, P.e.shared, fv, []⟩, tv, []⟩ = .ok 0 := by
    unfold chkP chkE
    simp [h1, h2, chkFs, chkT]
  have g3 : recsT ⟨rv, P.e.records, sv, P.e.shared, fv, []⟩ 0 P.e.records = .ok () := (recsT_same (e := P.e) (e' := ⟨rv, P.e.records, sv, P.e.shared, fv, []⟩) rfl _ _).trans h3
  have g4 : sharesT ⟨rv, P.e.records, sv, P.e.shared, fv, []⟩ 0 P.e.shared = .ok () := (sharesT_same (e := P.e) (e' := ⟨rv, P.e.records, sv, P.e.shared, fv, []⟩) rfl rfl _ _).trans h4
  unfold typesT
  rw [hc]
  unfold progT headT
  simp only [g3, g4, fnsT, thsT]
end Go.Proofs.YtcibiiddigpnfaaGreatDoor
