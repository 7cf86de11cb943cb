/- The contract of spec.DecText, as the given laws call it. -/
import Derived.Test.YtifddipnboifnaaRows
import Derived.Test.YtifddipnboifnaaDec0
import Derived.WalkKit
import Derived.ProofKit
namespace Go.Proofs.Ytifddipnboifnaa.D1
open Go.ChangeShapes Go.WideShapes Go.ChangeAt Go.RowKit
set_option linter.unusedVariables false

end Go.Proofs.Ytifddipnboifnaa.D1
