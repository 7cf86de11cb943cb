/- Contracts of impl.recordOf, impl.InodeOk and spec.InodeOk, as the given laws call them. -/
import Derived.Test.YtjajclifjojblaaDoorIno0
import Derived.Deep.RegionWith
namespace Go.Proofs.YtjajclifjojblaaDoor.I1
open Go.ChangeShapes Go.WideShapes Go.ChangeAt Go.RowKit
set_option linter.unusedVariables false
set_option linter.unusedSimpArgs false
set_option maxRecDepth 10000

open P1 (ret_bool quiet_bool)
open I0 (val vals)

end Go.Proofs.YtjajclifjojblaaDoor.I1
