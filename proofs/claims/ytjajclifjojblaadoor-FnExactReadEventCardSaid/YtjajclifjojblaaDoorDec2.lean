/- The contract of impl.DecText, as the given laws call it. -/
import Derived.Test.YtjajclifjojblaaDoorDec1
import Derived.Test.YtjajclifjojblaaDoorLaid0
import Derived.Test.YtjajclifjojblaaDoorShelf
namespace Go.Proofs.YtjajclifjojblaaDoor.D1
open Go.ChangeShapes Go.WideShapes Go.ChangeAt Go.RowKit
set_option linter.unusedVariables false

theorem impl_DecText (n : Int) (hn : (Lit.int .i64 n).wf = true) (w : World) (htab : Lib.TabIs Tryd.prog w "internal/strconv.uint64pow10" .u64 Lib.pow10Tab) :
    Calls Tryd.prog 43 #[.int .i64 n] w fun e w' => e = .returned (.string ⟨(Lib.itoa n).toArray⟩) ∧ Below w.heap.size w w' := by
  have hb : -9223372036854775808 ≤ n ∧ n ≤ 9223372036854775807 := by simpa [Lit.wf, IntKind.min, IntKind.max, IntKind.signed, IntKind.bits] using hn
  go_enter Tryd.func43, Tryd.ntmps43
  go_wp2_with (go_at_call 50; refine (Tryd.strconv_Itoa _ hb.1 hb.2 _ htab).mono ?_; rintro e w' ⟨rfl, k, os, rfl⟩)
  go_ret
  exact ⟨rfl, L0.below_grow k os⟩
end Go.Proofs.YtjajclifjojblaaDoor.D1
