/- Plain: shapes that may have a little more than right ones. -/
import Derived.Test.YtfdhmkmeffgkgaaDoorGCopyShW
namespace Go.Proofs.YtfdhmkmeffgkgaaDoor
open Go.RowKit

/-- Shapes of so many levels that may have a little more than right ones. -/
def looseOk : Nat → Sh → Bool
  | 0, _ => false
  | d + 1, .mk _ sy na su => decide ((sy.length ≤ 7 ∧ ∀ s ∈ sy, s.size ≤ 8) ∧ (na.length ≤ 7 ∧ ∀ s ∈ na, s.size ≤ 8) ∧ su.length ≤ 7) && su.all (looseOk d)
theorem part_loose : ∀ {d : Nat} {t : Sh}, partOk d t = true → looseOk d t = true
  | 0, t, h => by cases t; simp [partOk] at h
  | d + 1, .mk k sy na su, h => by
    simp only [partOk, Bool.and_eq_true] at h
    obtain ⟨⟨q1, q2⟩, ⟨q3, q4⟩, q5⟩ := sound_words h.1
    simp only [looseOk, Bool.and_eq_true, decide_eq_true_eq]
    exact ⟨⟨⟨by omega, q2⟩, ⟨by omega, q4⟩, by omega⟩, List.all_eq_true.2 fun x hx => part_loose (List.all_eq_true.1 h.2 x hx)⟩
end Go.Proofs.YtfdhmkmeffgkgaaDoor
