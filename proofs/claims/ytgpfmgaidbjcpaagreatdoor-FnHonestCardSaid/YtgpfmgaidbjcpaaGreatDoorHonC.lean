/- The closed facts of the row of FnHonest. -/
import Derived.Test.YtgpfmgaidbjcpaaGreatDoorRows
import Derived.JoinedOf
import Derived.KernelRfl
namespace Go.Proofs.YtgpfmgaidbjcpaaGreatDoor.fnHonest
open Go
set_option maxRecDepth 10000

theorem named : Tryz.pinned.checked.prog.funcNamed Rows.fnHonestRow.func = some 3 := by kernel_rfl
theorem closed : joinedFacts Tryz.pinned.checked.prog 3 Tryz.f3 (OpenSpec.ofChange Rows.fnHonestSpec).bare Rows.fnHonestRow = true := by kernel_rfl
end Go.Proofs.YtgpfmgaidbjcpaaGreatDoor.fnHonest
