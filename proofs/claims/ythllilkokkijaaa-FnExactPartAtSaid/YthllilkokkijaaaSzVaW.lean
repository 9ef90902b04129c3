/- Walks: laws.szValS, laws.szVal. -/
import Derived.Test.YthllilkokkijaaaOwnVa
import Derived.Test.YthllilkokkijaaaSzW
namespace Go.Proofs.Ythllilkokkijaaa
open Go.RowKit

theorem vszs_take (l : List Va) (k : Nat) (h : k < l.length) : Va.szs (l.take (k + 1)) = Va.szs (l.take k) + l[k].sz := by
  induction l generalizing k with
  | nil => cases h
  | cons x l ih =>
    cases k with
    | zero => simp [Va.szs]
    | succ k => simp only [List.take_succ_cons, Va.szs, List.getElem_cons_succ]; rw [ih k (by simpa using h)]; omega
theorem vszs_take_le (l : List Va) (k : Nat) : Va.szs (l.take k) ≤ Va.szs l := by
  induction l generalizing k with
  | nil => simp [Va.szs]
  | cons x l ih =>
    cases k with
    | zero => simp [Va.szs]
    | succ k => simp only [List.take_succ_cons, Va.szs]; have := ih k; omega

end Go.Proofs.Ythllilkokkijaaa
