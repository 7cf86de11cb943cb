/- An entry among a law's arguments; contracts of laws.szEntry, laws.toEntry and laws.eqEntry. -/
import Derived.Test.YtkdjcbmmbjongaaEnt2
import Derived.Lib.SmallJoins
import Derived.OpenShut
import Derived.ShutString
namespace Go.Proofs.Ytkdjcbmmbjongaa.E3
open Go.ChangeShapes Go.WideShapes Go.ChangeAt Go.RowKit Go.Joins
set_option linter.unusedVariables false
set_option linter.unusedSimpArgs false
set_option maxRecDepth 10000

section Args
variable {H : Type} {enc : TypeId × Value → H} {w : World} {base : Nat} {sp : Nat → Bool} {held : Bool}

end Args

/-- What is left behind a name; -1 where nothing is. -/
def sz (s : ByteArray) (l : Int) : Int := if l - s.size < 0 then -1 else l - s.size

open E2 (Bx)
variable {B : Nat} {w W W' : World} {i : Int} {s : ByteArray}

end Go.Proofs.Ytkdjcbmmbjongaa.E3
