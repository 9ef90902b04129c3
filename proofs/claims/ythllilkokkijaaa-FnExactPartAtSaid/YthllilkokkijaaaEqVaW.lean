/- Walks: laws.eqValS, laws.eqVal at two readings of one Val. -/
import Derived.Test.YthllilkokkijaaaToVa2W
import Derived.Test.YthllilkokkijaaaEqW
namespace Go.Proofs.Ythllilkokkijaaa
open Go.RowKit

end Go.Proofs.Ythllilkokkijaaa
