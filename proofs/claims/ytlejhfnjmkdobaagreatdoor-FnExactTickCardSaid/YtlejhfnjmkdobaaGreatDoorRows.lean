/-
  NARROWER THAN 'FOR EVERY INPUT', by the rows' own cells (each row's printed sentence says how): FnExactTick: ifaces, laid.
  DERIVED. THE GIVEN ROWS OF THIS SEAT. 1 by the template 'for every input the law returns true; each argument reads behind the call as it read before'; 0 by the template 'total and deterministic' (their statements: YtlejhfnjmkdobaaGreatDoorTotals.lean).
  GIVEN WITH THE SEED: the statements are not yours to turn. If you find one false, say at which input.
  Laid BY PROGRAM, IN A SANDBOX (cutbox-rows.mjs): the forced cells as the released guide's own fill.sh prints them over the translation 4877eb08e0610d4b… (all of the seat's roots in one cut). By AI agents, Wed Nov 11 2026. No macro, syntax, notation, axiom, sorry.
-/
import Derived.Test.YtlejhfnjmkdobaaGreatDoorChecked
import GoSem.Claim
import GoSem.ClaimJoined
import GoSem.ClaimMapViews
import Derived.JoinedTies
import Derived.KernelRfl
namespace Go.Proofs.YtlejhfnjmkdobaaGreatDoor
/- THE CELL 'sum', in the pinned program and in every row, IS THE sha256 OF THE DUMP (.gsa) THAT YtlejhfnjmkdobaaGreatDoorProg.lean LOADS. Nothing in Lean hashes anything: it is a label: what it is worth is what the hold of that sum in a sandbox is worth. -/
noncomputable def Tryz.pinned : Pinned := { name := "ytlejhfnjmkdobaagreatdoor", sum := "4877eb08e0610d4b5d597b71665b590f04cc705378add2d0326e6d33900806b9", checked := Tryz.checked }
namespace Rows
def none {H : Type} : Left H := { results := [], args := [] }

/- WHAT THE LISTED PACKAGE-LEVEL VARIABLES READ AS WHEN THE CALL BEGINS. Each datum BY PROGRAM (the guide's laid-datum.mjs) off the statement by which the dump's own 'gosem.cut.vars' lays the variable. In a bare row this is a premise. The card (YtlejhfnjmkdobaaGreatDoorCards.lean) ties it to the program's text. -/
def laid_loop_example_g00278_impl_errNoFile {H : Type} : DataW H := .iface "*errors.errorString" (.ptr (.agg [.lit (.string [116, 104, 101, 114, 101, 32, 105, 115, 32, 110, 111, 32, 115, 117, 99, 104, 32, 105, 110, 111, 100, 101, 44, 32, 111, 114, 32, 110, 111, 32, 115, 117, 99, 104, 32, 108, 111, 97, 110])]))
def laid_loop_example_g00278_impl_errDenied {H : Type} : DataW H := .iface "*errors.errorString" (.ptr (.agg [.lit (.string [116, 104, 101, 32, 105, 110, 111, 100, 101, 32, 98, 101, 108, 111, 110, 103, 115, 32, 116, 111, 32, 97, 110, 111, 116, 104, 101, 114])]))
def laid_loop_example_g00278_impl_errBusy {H : Type} : DataW H := .iface "*errors.errorString" (.ptr (.agg [.lit (.string [116, 104, 101, 32, 105, 110, 111, 100, 101, 32, 105, 115, 32, 108, 101, 110, 116])]))
def laid_loop_example_g00278_impl_errFault {H : Type} : DataW H := .iface "*errors.errorString" (.ptr (.agg [.lit (.string [116, 104, 101, 32, 98, 121, 116, 101, 115, 32, 97, 114, 101, 32, 110, 111, 116, 32, 108, 101, 110, 116])]))
def laid_loop_example_g00278_impl_errRejected {H : Type} : DataW H := .iface "*errors.errorString" (.ptr (.agg [.lit (.string [119, 104, 97, 116, 32, 99, 97, 109, 101, 32, 98, 97, 99, 107, 32, 105, 115, 32, 112, 117, 116, 32, 98, 97, 99, 107])]))

/-- 'laws.FnExactTick': WHATEVER THE INPUT: true; the input reads as it did. -/
def fnExactTickSpec : ChangeSpec := { name := "fnExactTick", vars := ["loop.example/g00278/impl.errNoFile", "loop.example/g00278/impl.errRejected", "loop.example/g00278/impl.errDenied", "loop.example/g00278/impl.errBusy", "loop.example/g00278/impl.errFault"], fn := fun _ => fun
  | [d, g1, g2, g3, g4, g5] => { results := [.lit (.bool true)], args := [d], vars := [g1, g2, g3, g4, g5] }
  | _ => none }
def fnExactTickRow : OpenClaim := { program := "ytlejhfnjmkdobaagreatdoor", sum := "4877eb08e0610d4b5d597b71665b590f04cc705378add2d0326e6d33900806b9", func := "loop.example/g00278/laws.FnExactTick", spec := "fnExactTick", inPlace := ["internal/reflectlite.TypeOf", "(*internal/sync.Mutex).Lock", "internal/race.Disable", "sync/atomic.CompareAndSwapInt32", "internal/race.Enable", "internal/race.Acquire", "(*internal/sync.Mutex).lockSlow", "internal/sync.runtime_canSpin", "internal/sync.runtime_doSpin", "internal/sync.throw", "internal/sync.runtime_nanotime", "internal/sync.runtime_SemacquireMutex", "sync/atomic.AddInt32", "(*internal/sync.Mutex).Unlock", "internal/race.ReleaseMerge", "(*internal/sync.Mutex).unlockSlow", "internal/sync.fatal", "internal/sync.runtime_Semrelease"], unfollowed := true, recurses := true, named := ["loop.example/g00278/impl.errNoFile", "loop.example/g00278/impl.errRejected", "loop.example/g00278/impl.errDenied", "loop.example/g00278/impl.errBusy", "loop.example/g00278/impl.errFault"], ifaces := true, apart := false, laid := [("loop.example/g00278/impl.errNoFile", laid_loop_example_g00278_impl_errNoFile), ("loop.example/g00278/impl.errDenied", laid_loop_example_g00278_impl_errDenied), ("loop.example/g00278/impl.errBusy", laid_loop_example_g00278_impl_errBusy), ("loop.example/g00278/impl.errFault", laid_loop_example_g00278_impl_errFault), ("loop.example/g00278/impl.errRejected", laid_loop_example_g00278_impl_errRejected)] }
def FnExactTickSaid : Prop := fnExactTickRow.holds Tryz.pinned (OpenSpec.ofChange fnExactTickSpec)

/-- ITS FALSE NEIGHBOUR: 'it returns false'. Refute it at one input. -/
def fnExactTickWrong : ChangeSpec := { name := "fnExactTick", vars := ["loop.example/g00278/impl.errNoFile", "loop.example/g00278/impl.errRejected", "loop.example/g00278/impl.errDenied", "loop.example/g00278/impl.errBusy", "loop.example/g00278/impl.errFault"], fn := fun _ => fun
  | [d, g1, g2, g3, g4, g5] => { results := [.lit (.bool false)], args := [d], vars := [g1, g2, g3, g4, g5] }
  | _ => none }
def FnExactTickWrongFalsely : Prop := fnExactTickRow.holds Tryz.pinned (OpenSpec.ofChange fnExactTickWrong)

/- THE SECOND FORM. 'bulk': how many values and letters a reading holds, each counted each time it is reached (what is shared counts as often as it is met; a slice's spare places count too). A statement '..UptoSaid' is the law's where the arguments, and the package variables that the reading takes, are together of bulk at most 1048576: NARROWER than '..Said'. Prove '..Said' where nothing that the law and all that it calls make is longer than what came in: it says more and counts as full. Else prove '..UptoSaid'. A law counts once. -/
mutual
def uptoBulk {H : Type} : DataW H → Nat
  | .lit (.string bytes) => bytes.length + 1
  | .lit _ => 1
  | .nil => 1
  | .ptr d => uptoBulk d + 1
  | .slice elems spare => uptoBulkAll elems + uptoBulkAll spare + 1
  | .agg parts => uptoBulkAll parts + 1
  | .iface _ d => uptoBulk d + 1
  | .map entries => uptoBulkEntries entries + 1
  | .held _ => 1
def uptoBulkAll {H : Type} : List (DataW H) → Nat
  | [] => 0
  | d :: r => uptoBulk d + uptoBulkAll r
def uptoBulkEntries {H : Type} : List (Lit × DataW H) → Nat
  | [] => 0
  | x :: r => uptoBulkEntry x + uptoBulkEntries r
def uptoBulkEntry {H : Type} : Lit × DataW H → Nat
  | (.string bytes, d) => bytes.length + uptoBulk d + 1
  | (_, d) => uptoBulk d + 1
 end
def uptoSmall : (H : Type) → List (DataW H) → Bool := fun _ ds => decide (uptoBulkAll ds ≤ 1048576)
def OpenSpec.upto (s : _root_.Go.ChangeSpec) : _root_.Go.OpenSpec := { _root_.Go.OpenSpec.ofChange s with cond := some uptoSmall }

/-- 'laws.FnExactTick', WHERE WHAT IT READS IS OF BULK AT MOST 1048576: true; the input reads as it did. -/
def fnExactTickUptoRow : OpenClaim := { program := "ytlejhfnjmkdobaagreatdoor", sum := "4877eb08e0610d4b5d597b71665b590f04cc705378add2d0326e6d33900806b9", func := "loop.example/g00278/laws.FnExactTick", spec := "fnExactTick", inPlace := ["internal/reflectlite.TypeOf", "(*internal/sync.Mutex).Lock", "internal/race.Disable", "sync/atomic.CompareAndSwapInt32", "internal/race.Enable", "internal/race.Acquire", "(*internal/sync.Mutex).lockSlow", "internal/sync.runtime_canSpin", "internal/sync.runtime_doSpin", "internal/sync.throw", "internal/sync.runtime_nanotime", "internal/sync.runtime_SemacquireMutex", "sync/atomic.AddInt32", "(*internal/sync.Mutex).Unlock", "internal/race.ReleaseMerge", "(*internal/sync.Mutex).unlockSlow", "internal/sync.fatal", "internal/sync.runtime_Semrelease"], unfollowed := true, recurses := true, named := ["loop.example/g00278/impl.errNoFile", "loop.example/g00278/impl.errRejected", "loop.example/g00278/impl.errDenied", "loop.example/g00278/impl.errBusy", "loop.example/g00278/impl.errFault"], ifaces := true, apart := false, laid := [("loop.example/g00278/impl.errNoFile", laid_loop_example_g00278_impl_errNoFile), ("loop.example/g00278/impl.errDenied", laid_loop_example_g00278_impl_errDenied), ("loop.example/g00278/impl.errBusy", laid_loop_example_g00278_impl_errBusy), ("loop.example/g00278/impl.errFault", laid_loop_example_g00278_impl_errFault), ("loop.example/g00278/impl.errRejected", laid_loop_example_g00278_impl_errRejected)], narrowed := true }
def FnExactTickUptoSaid : Prop := fnExactTickUptoRow.holds Tryz.pinned (OpenSpec.upto fnExactTickSpec)

end Rows
end Go.Proofs.YtlejhfnjmkdobaaGreatDoor
