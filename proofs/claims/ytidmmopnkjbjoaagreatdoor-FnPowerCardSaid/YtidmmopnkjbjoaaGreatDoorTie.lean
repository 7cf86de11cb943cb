/-
  DERIVED. GIVEN WITH THE SEED: THE PROGRAM's TIES (one call each: nine closed facts by the kernel) AND EACH ROW's TIE, after the 31st guide's Derived/Test/Toyas{Tie, Card}.lean. No idea stands in it: it is a product of the set-up. Laid BY PROGRAM, IN A SANDBOX (cutbox-door.mjs). By AI agents, Wed Nov 11 2026. No macro, syntax, notation, axiom, sorry.
-/
import Derived.Test.YtidmmopnkjbjoaaGreatDoorRows
import Derived.LaidByTextLater
import Derived.SevenTiedAt
import Derived.LaidSub
import Derived.LaidOnce
namespace Go.Proofs.YtidmmopnkjbjoaaGreatDoor
open Go
set_option maxRecDepth 100000
theorem seatTie1 : Tryz.prog.laidByTextLater [("math/bits.deBruijn32tab", Rows.laid_math_bits_deBruijn32tab), ("math/bits.deBruijn64tab", Rows.laid_math_bits_deBruijn64tab), ("internal/strconv.uint64pow10", Rows.laid_internal_strconv_uint64pow10), ("loop.example/g00278/impl.hexDigits", Rows.laid_loop_example_g00278_impl_hexDigits), ("loop.example/g00278/impl.errNoFile", Rows.laid_loop_example_g00278_impl_errNoFile), ("loop.example/g00278/impl.errDenied", Rows.laid_loop_example_g00278_impl_errDenied), ("loop.example/g00278/impl.errBusy", Rows.laid_loop_example_g00278_impl_errBusy), ("loop.example/g00278/impl.errFault", Rows.laid_loop_example_g00278_impl_errFault), ("loop.example/g00278/impl.errRejected", Rows.laid_loop_example_g00278_impl_errRejected)] [.data, .data, .data, .data, .sentinel, .sentinel, .sentinel, .sentinel, .sentinel] true :=
  Program.laidByTextLater_by_one 124 8 65 (by kernel_rfl) (by kernel_rfl) (by kernel_rfl) (by kernel_rfl) (by kernel_rfl) (by kernel_rfl) (fun _ _ => by kernel_rfl)
theorem noOwnUnsafe : Tryz.pinned.checked.prog.headLifts.contains "ownunsafe" = false := by kernel_rfl
theorem tie : Tryz.prog.laidByTextLater [("math/bits.deBruijn32tab", Rows.laid_math_bits_deBruijn32tab), ("math/bits.deBruijn64tab", Rows.laid_math_bits_deBruijn64tab), ("internal/strconv.uint64pow10", Rows.laid_internal_strconv_uint64pow10), ("loop.example/g00278/impl.hexDigits", Rows.laid_loop_example_g00278_impl_hexDigits), ("loop.example/g00278/impl.errNoFile", Rows.laid_loop_example_g00278_impl_errNoFile), ("loop.example/g00278/impl.errDenied", Rows.laid_loop_example_g00278_impl_errDenied), ("loop.example/g00278/impl.errBusy", Rows.laid_loop_example_g00278_impl_errBusy), ("loop.example/g00278/impl.errFault", Rows.laid_loop_example_g00278_impl_errFault), ("loop.example/g00278/impl.errRejected", Rows.laid_loop_example_g00278_impl_errRejected)] [.data, .data, .data, .data, .sentinel, .sentinel, .sentinel, .sentinel, .sentinel] true :=
  Program.laidByTextLater.sub seatTie1 ["math/bits.deBruijn32tab", "math/bits.deBruijn64tab", "internal/strconv.uint64pow10", "loop.example/g00278/impl.hexDigits", "loop.example/g00278/impl.errNoFile", "loop.example/g00278/impl.errDenied", "loop.example/g00278/impl.errBusy", "loop.example/g00278/impl.errFault", "loop.example/g00278/impl.errRejected"] (by kernel_rfl) (by kernel_rfl)
theorem fnPower_row_tie : Rows.fnPowerRow.laidByTextAt .later Tryz.pinned [.data, .data, .data, .data, .sentinel, .sentinel, .sentinel, .sentinel, .sentinel] true :=
  OpenClaim.laidByTextAt_later rfl rfl tie noOwnUnsafe
theorem fnPowerUpto_row_tie : Rows.fnPowerUptoRow.laidByTextAt .later Tryz.pinned [.data, .data, .data, .data, .sentinel, .sentinel, .sentinel, .sentinel, .sentinel] true :=
  OpenClaim.laidByTextAt_later rfl rfl tie noOwnUnsafe
end Go.Proofs.YtidmmopnkjbjoaaGreatDoor
