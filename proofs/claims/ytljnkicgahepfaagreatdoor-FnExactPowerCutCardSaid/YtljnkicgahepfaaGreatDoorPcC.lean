/- The closed facts of the row of FnExactPowerCut. -/
import Derived.Test.YtljnkicgahepfaaGreatDoorRows
import Derived.JoinedOf
import Derived.KernelRfl
namespace Go.Proofs.YtljnkicgahepfaaGreatDoor.fnExactPowerCut
open Go
set_option maxRecDepth 10000

theorem named : Tryz.pinned.checked.prog.funcNamed Rows.fnExactPowerCutRow.func = some 7 := by kernel_rfl
theorem closed : joinedFacts Tryz.pinned.checked.prog 7 Tryz.f7 (OpenSpec.ofChange Rows.fnExactPowerCutSpec).bare Rows.fnExactPowerCutRow = true := by kernel_rfl
end Go.Proofs.YtljnkicgahepfaaGreatDoor.fnExactPowerCut
