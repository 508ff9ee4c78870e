/- The statement on a fault's first threads, at every program. -/
import Derived.Test.YtcibiiddigpnfaaGreatDoorRows
import Derived.Test.YtcibiiddigpnfaaGreatDoorGTwinB
import Derived.Test.YtcibiiddigpnfaaGreatDoorTypBeyond
import Derived.Test.YtcibiiddigpnfaaGreatDoorTypAlive
namespace Go.Proofs.YtcibiiddigpnfaaGreatDoor
open Go.RowKit
attribute [local go_sem ↓] bls_eq
theorem liesG_take {α : Type} {cells : α → List Value} {k : Nat} {w : World} {B g off n c : Nat} {l : List α} (h : LiesG cells k w B (.slice (some ⟨g, off, none⟩) n c) l) (j c' : Nat) (hj : j ≤ l.length) : LiesG cells k w B (.slice (some ⟨g, off, none⟩) j c') (l.take j) := by
  obtain ⟨ao, cap, e, hl, hc⟩ := h
  injection e with e1 e2 e3
  have hlen : (l.take j).length = j := by rw [List.length_take]; omega
  refine ⟨some ⟨g, off, none⟩, c', by rw [hlen], by rw [hlen]; omega, ?_⟩
  rcases hc with hc | ⟨g2, off2, e4, hg, hc⟩
  · subst hc; left; simp
  · rw [← e1] at e4
    cases e4
    refine .inr ⟨g, off, rfl, hg, fun i x hx => hc i x ?_⟩
    rw [List.getElem?_take] at hx
    split at hx
    · exact hx
    · cases hx
theorem box4 {w : World} (a b c d : Value) : (w.alloc (.cells #[a, b, c, d] 27)).heap[w.heap.size]? = some (.cells #[a, b, c, d] 27 (0, 0)) := (MapKept.heap_alloc _ _).1
structure TwQ (P : Pr) (w w' : World) (Q : Pr) (ra sa fa ta : Nat) : Prop where
  tw : TwP P w w' Q
  rv : Q.e.rv = .slice (some ⟨ra, 0, none⟩) P.e.records.length (P.e.records.length + 2)
  sv : Q.e.sv = .slice (some ⟨sa, 0, none⟩) P.e.shared.length (P.e.shared.length + 2)
  fv : Q.e.fv = .slice (some ⟨fa, 0, none⟩) P.e.funcs.length (P.e.funcs.length + 2)
  tv : Q.tv = .slice (some ⟨ta, 0, none⟩) P.threads.length (P.threads.length + 2)
theorem TwP.quad {P Q : Pr} {w w' : World} (h : TwP P w w' Q) : ∃ ra sa fa ta, TwQ P w w' Q ra sa fa ta := by
  obtain ⟨a, _, _, _, _, h1, _⟩ := h.recs
  obtain ⟨b, _, _, _, _, h2, _⟩ := h.shared
  obtain ⟨c, _, _, _, _, h3, _⟩ := h.funcs
  obtain ⟨d, _, _, _, _, h4, _⟩ := h.threads
  exact ⟨_, _, _, _, h, h1.val, h2.val, h3.val, h4.val⟩
end Go.Proofs.YtcibiiddigpnfaaGreatDoor
