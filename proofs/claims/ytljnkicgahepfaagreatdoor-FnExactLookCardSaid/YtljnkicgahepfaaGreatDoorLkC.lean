/- The closed facts of the row of FnExactLook. -/
import Derived.Test.YtljnkicgahepfaaGreatDoorRows
import Derived.JoinedOf
import Derived.KernelRfl
namespace Go.Proofs.YtljnkicgahepfaaGreatDoor.fnExactLook
open Go
set_option maxRecDepth 10000

theorem named : Tryz.pinned.checked.prog.funcNamed Rows.fnExactLookRow.func = some 5 := by kernel_rfl
theorem closed : joinedFacts Tryz.pinned.checked.prog 5 Tryz.f5 (OpenSpec.ofChange Rows.fnExactLookSpec).bare Rows.fnExactLookRow = true := by kernel_rfl
end Go.Proofs.YtljnkicgahepfaaGreatDoor.fnExactLook
