/- An argument of the laws that is a Val, opened. -/
import Derived.Test.YthllilkokkijaaaVaP
import Derived.Test.YthllilkokkijaaaShO
namespace Go.Proofs.Ythllilkokkijaaa
open Go.ChangeShapes Go.WideShapes Go.Joins Go.RowKit

section
variable {H : Type} {enc : TypeId × Value → H} {w : World} {base : Nat} {spare : Nat → Bool} {held : Bool}

end
end Go.Proofs.Ythllilkokkijaaa
