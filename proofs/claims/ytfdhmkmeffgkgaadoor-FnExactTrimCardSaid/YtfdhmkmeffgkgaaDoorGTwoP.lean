/- What the laws of two arguments use. -/
import Derived.Test.YtfdhmkmeffgkgaaDoorGToW
import Derived.Test.YtfdhmkmeffgkgaaDoorGShaO
import Derived.Test.YtfdhmkmeffgkgaaDoorGEqA
import Derived.Test.YtfdhmkmeffgkgaaDoorGRightW
namespace Go.Proofs.YtfdhmkmeffgkgaaDoor
open Go.RowKit

theorem cells3 {w : World} {t : Sh} {c0 c1 c2 c3 : Value} (h : IsSh w t (.agg #[c0, c1, c2, c3])) :
    ∃ p1 n1 m1 p2 n2 m2 p3 m3, c0 = .int .i64 t.kd ∧ c1 = .slice p1 n1 m1 ∧ c2 = .slice p2 n2 m2 ∧ c3 = .slice p3 t.su.length m3 := by
  cases t with | mk k sy na su =>
    obtain ⟨p1, m1, p2, m2, p3, m3, he, _⟩ := h.open
    simp only [Value.agg.injEq, Array.mk.injEq, List.cons.injEq, and_true] at he
    obtain ⟨e0, e1, e2, e3⟩ := he
    exact ⟨p1, _, m1, p2, _, m2, p3, m3, e0, e1, e2, e3⟩
theorem own_on {w w' : World} {B : Nat} {t : Sh} {v : Value} {F : List Nat} (h : OwnSh w B t v F) (hb : Below w.heap.size w w') : OwnSh w' 0 t v F :=
  OwnSh.move (Nat.zero_le _) _ _ _ (fun g hg => hb.block g (OwnSh.blocks _ _ _ h g hg).2) h
theorem own_onv {w w' : World} {B : Nat} {t : Va} {v : Value} {F : List Nat} (h : OwnVa w B t v F) (hb : Below w.heap.size w w') : OwnVa w' 0 t v F :=
  OwnVa.move (Nat.zero_le _) _ _ _ (fun g hg => hb.block g (OwnVa.blocks _ _ _ h g hg).2) h
end Go.Proofs.YtfdhmkmeffgkgaaDoor
