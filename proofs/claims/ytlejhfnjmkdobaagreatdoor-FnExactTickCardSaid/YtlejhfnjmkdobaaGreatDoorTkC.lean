/- The closed facts of the row of FnExactTick. -/
import Derived.Test.YtlejhfnjmkdobaaGreatDoorRows
import Derived.JoinedOf
import Derived.KernelRfl
namespace Go.Proofs.YtlejhfnjmkdobaaGreatDoor.fnExactTick
open Go
set_option maxRecDepth 10000

theorem named : Tryz.pinned.checked.prog.funcNamed Rows.fnExactTickRow.func = some 3 := by kernel_rfl
theorem closed : joinedFacts Tryz.pinned.checked.prog 3 Tryz.f3 (OpenSpec.ofChange Rows.fnExactTickSpec).bare Rows.fnExactTickRow = true := by kernel_rfl
end Go.Proofs.YtlejhfnjmkdobaaGreatDoor.fnExactTick
