/- An argument of the laws that is a list of strings, opened. -/
import Derived.Test.YthllilkokkijaaaGShaO
namespace Go.Proofs.Ythllilkokkijaaa
open Go.ChangeShapes Go.WideShapes Go.Joins Go.RowKit
variable {H : Type} {enc : TypeId × Value → H} {w : World} {base : Nat} {spare : Nat → Bool} {held : Bool}
set_option maxRecDepth 100000 in
theorem open_strs {r : Reach} {b0 : Nat} {v : Value} {d : DataW H} {p : List MemPlace} (hv : Value.okWide Try.prog w r b0 22 v) (h : DataW.Trod enc Try.prog w base spare held 22 v d p) : ∃ l, IsStrs w v l := by
  obtain ⟨a, len, cap, rfl⟩ := okWide_slice Try.underlying22 hv
  obtain ⟨fuel, hf⟩ := h
  exact open_strs1 hf
end Go.Proofs.Ythllilkokkijaaa
