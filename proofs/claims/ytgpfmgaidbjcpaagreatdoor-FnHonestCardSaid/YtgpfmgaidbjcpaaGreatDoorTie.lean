/-
  DERIVED. GIVEN WITH THE SEED: THE PROGRAM's TIES (one call each: nine closed facts by the kernel) AND EACH ROW's TIE, after the 31st guide's Derived/Test/Toyas{Tie, Card}.lean. No idea stands in it: it is a product of the set-up. Laid BY PROGRAM, IN A SANDBOX (cutbox-door.mjs). By AI agents, Wed Nov 11 2026. No macro, syntax, notation, axiom, sorry.
-/
import Derived.Test.YtgpfmgaidbjcpaaGreatDoorRows
import Derived.LaidByTextLater
import Derived.SevenTiedAt
import Derived.LaidSub
import Derived.LaidOnce
namespace Go.Proofs.YtgpfmgaidbjcpaaGreatDoor
open Go
set_option maxRecDepth 100000
theorem seatTie1 : Tryz.prog.laidByTextLater [("loop.example/g00278/impl.errNoFile", Rows.laid_loop_example_g00278_impl_errNoFile), ("loop.example/g00278/impl.errDenied", Rows.laid_loop_example_g00278_impl_errDenied), ("loop.example/g00278/impl.errBusy", Rows.laid_loop_example_g00278_impl_errBusy), ("loop.example/g00278/impl.errFault", Rows.laid_loop_example_g00278_impl_errFault), ("loop.example/g00278/impl.errRejected", Rows.laid_loop_example_g00278_impl_errRejected), ("loop.example/g00278/impl.errWrong", Rows.laid_loop_example_g00278_impl_errWrong)] [.sentinel, .sentinel, .sentinel, .sentinel, .sentinel, .sentinel] true :=
  Program.laidByTextLater_by_one 123 8 2 (by kernel_rfl) (by kernel_rfl) (by kernel_rfl) (by kernel_rfl) (by kernel_rfl) (by kernel_rfl) (fun _ _ => by kernel_rfl)
theorem noOwnUnsafe : Tryz.pinned.checked.prog.headLifts.contains "ownunsafe" = false := by kernel_rfl
theorem tie : Tryz.prog.laidByTextLater [("loop.example/g00278/impl.errNoFile", Rows.laid_loop_example_g00278_impl_errNoFile), ("loop.example/g00278/impl.errDenied", Rows.laid_loop_example_g00278_impl_errDenied), ("loop.example/g00278/impl.errBusy", Rows.laid_loop_example_g00278_impl_errBusy), ("loop.example/g00278/impl.errFault", Rows.laid_loop_example_g00278_impl_errFault), ("loop.example/g00278/impl.errRejected", Rows.laid_loop_example_g00278_impl_errRejected), ("loop.example/g00278/impl.errWrong", Rows.laid_loop_example_g00278_impl_errWrong)] [.sentinel, .sentinel, .sentinel, .sentinel, .sentinel, .sentinel] true :=
  Program.laidByTextLater.sub seatTie1 ["loop.example/g00278/impl.errNoFile", "loop.example/g00278/impl.errDenied", "loop.example/g00278/impl.errBusy", "loop.example/g00278/impl.errFault", "loop.example/g00278/impl.errRejected", "loop.example/g00278/impl.errWrong"] (by kernel_rfl) (by kernel_rfl)
theorem fnHonest_row_tie : Rows.fnHonestRow.laidByTextAt .later Tryz.pinned [.sentinel, .sentinel, .sentinel, .sentinel, .sentinel, .sentinel] true :=
  OpenClaim.laidByTextAt_later rfl rfl tie noOwnUnsafe
theorem fnHonestUpto_row_tie : Rows.fnHonestUptoRow.laidByTextAt .later Tryz.pinned [.sentinel, .sentinel, .sentinel, .sentinel, .sentinel, .sentinel] true :=
  OpenClaim.laidByTextAt_later rfl rfl tie noOwnUnsafe
end Go.Proofs.YtgpfmgaidbjcpaaGreatDoor
