/- The closed facts of the row of FnPower. -/
import Derived.Test.YtidmmopnkjbjoaaGreatDoorRows
import Derived.JoinedOf
import Derived.KernelRfl
namespace Go.Proofs.YtidmmopnkjbjoaaGreatDoor.fnPower
open Go
set_option maxRecDepth 10000

theorem named : Tryz.pinned.checked.prog.funcNamed Rows.fnPowerRow.func = some 3 := by kernel_rfl
theorem closed : joinedFacts Tryz.pinned.checked.prog 3 Tryz.f3 (OpenSpec.ofChange Rows.fnPowerSpec).bare Rows.fnPowerRow = true := by kernel_rfl
end Go.Proofs.YtidmmopnkjbjoaaGreatDoor.fnPower
