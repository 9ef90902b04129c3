/- Plain: four cells put into a block; blocks of five. -/
import Derived.Test.YtfdhmkmeffgkgaaDoorGOwnA
namespace Go.Proofs.YtfdhmkmeffgkgaaDoor
open Go.RowKit
/-- Four cells put into a block. -/
def putS (w : World) (b : Nat) (c0 c1 c2 c3 : Value) : World :=
  (((w.setCell ⟨b, 0, none⟩ c0).setCell ⟨b, 1, none⟩ c1).setCell ⟨b, 2, none⟩ c2).setCell ⟨b, 3, none⟩ c3
theorem putS_other (w : World) (b : Nat) (c0 c1 c2 c3 : Value) {g : Nat} (h : g ≠ b) : (putS w b c0 c1 c2 c3).heap[g]? = w.heap[g]? := by
  unfold putS
  rw [Below.heap_setCell _ _ _ _ h, Below.heap_setCell _ _ _ _ h, Below.heap_setCell _ _ _ _ h, Below.heap_setCell _ _ _ _ h]
theorem putS_below {B : Nat} {a w : World} (h : Below B a w) {b : Nat} (hb : B ≤ b) (c0 c1 c2 c3 : Value) : Below B a (putS w b c0 c1 c2 c3) :=
  (((h.setCell (p := ⟨b, 0, none⟩) hb _).setCell (p := ⟨b, 1, none⟩) hb _).setCell (p := ⟨b, 2, none⟩) hb _).setCell (p := ⟨b, 3, none⟩) hb _
theorem putS_blk {w : World} {b : Nat} {T : TypeId} {d0 d1 d2 d3 : Value} (h : w.heap[b]? = some (.cells #[d0, d1, d2, d3] T (0, 0))) (c0 c1 c2 c3 : Value) :
    (putS w b c0 c1 c2 c3).heap[b]? = some (.cells #[c0, c1, c2, c3] T (0, 0)) := by
  have a4 := blk_set (blk_set (blk_set (blk_set h 0 c0) 1 c1) 2 c2) 3 c3
  unfold putS; simpa using a4
theorem blk5s {w : World} {b : Nat} {T : TypeId} {c0 c1 c2 c3 c4 : Value} (h : w.heap[b]? = some (.cells #[c0, c1, c2, c3, c4] T (0, 0))) :
    w.cell? ⟨b, 0, none⟩ = some c0 ∧ w.cell? ⟨b, 1, none⟩ = some c1 ∧ w.cell? ⟨b, 2, none⟩ = some c2 ∧ w.cell? ⟨b, 3, none⟩ = some c3 ∧ w.cell? ⟨b, 4, none⟩ = some c4 ∧ w.frozen? ⟨b, 0, none⟩ = false ∧ w.frozen? ⟨b, 1, none⟩ = false ∧ w.frozen? ⟨b, 2, none⟩ = false ∧ w.frozen? ⟨b, 3, none⟩ = false ∧ w.frozen? ⟨b, 4, none⟩ = false ∧ b < w.heap.size := by
  refine ⟨?_, ?_, ?_, ?_, ?_, ?_, ?_, ?_, ?_, ?_, (Array.getElem?_eq_some_iff.1 h).1⟩ <;> simp [World.cell?, World.frozen?, h]
end Go.Proofs.YtfdhmkmeffgkgaaDoor
