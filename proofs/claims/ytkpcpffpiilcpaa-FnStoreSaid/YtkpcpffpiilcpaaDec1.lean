/- The contract of spec.DecText, as the given laws call it. -/
import Derived.Test.YtkpcpffpiilcpaaRows
import Derived.Test.YtkpcpffpiilcpaaDec0
import Derived.WalkKit
import Derived.ProofKit
namespace Go.Proofs.Ytkpcpffpiilcpaa.D1
open Go.ChangeShapes Go.WideShapes Go.ChangeAt Go.RowKit
set_option linter.unusedVariables false

end Go.Proofs.Ytkpcpffpiilcpaa.D1
