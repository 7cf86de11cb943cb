/-
  NARROWER THAN 'FOR EVERY INPUT', by the rows' own cells (each row's printed sentence says how): FnHonest: ifaces, laid.
  DERIVED. THE GIVEN ROWS OF THIS SEAT. 1 by the template 'for every input the law returns true; each argument reads behind the call as it read before'; 0 by the template 'total and deterministic' (their statements: YtgpfmgaidbjcpaaGreatDoorTotals.lean).
  GIVEN WITH THE SEED: the statements are not yours to turn. If you find one false, say at which input.
  Laid BY PROGRAM, IN A SANDBOX (cutbox-rows.mjs): the forced cells as the released guide's own fill.sh prints them over the translation 558542a24060c306… (all of the seat's roots in one cut). By AI agents, Wed Nov 11 2026. No macro, syntax, notation, axiom, sorry.
-/
import Derived.Test.YtgpfmgaidbjcpaaGreatDoorChecked
import GoSem.Claim
import GoSem.ClaimJoined
import GoSem.ClaimMapViews
import Derived.JoinedTies
import Derived.KernelRfl
namespace Go.Proofs.YtgpfmgaidbjcpaaGreatDoor
/- THE CELL 'sum', in the pinned program and in every row, IS THE sha256 OF THE DUMP (.gsa) THAT YtgpfmgaidbjcpaaGreatDoorProg.lean LOADS. Nothing in Lean hashes anything: it is a label: what it is worth is what the hold of that sum in a sandbox is worth. -/
noncomputable def Tryz.pinned : Pinned := { name := "ytgpfmgaidbjcpaagreatdoor", sum := "558542a24060c306dc06bf093d299bf0c74e2fa770e33543db4c6183a2166f6e", checked := Tryz.checked }
namespace Rows
def none {H : Type} : Left H := { results := [], args := [] }

/- WHAT THE LISTED PACKAGE-LEVEL VARIABLES READ AS WHEN THE CALL BEGINS. Each datum BY PROGRAM (the guide's laid-datum.mjs) off the statement by which the dump's own 'gosem.cut.vars' lays the variable. In a bare row this is a premise. The card (YtgpfmgaidbjcpaaGreatDoorCards.lean) ties it to the program's text. -/
def laid_loop_example_g00278_impl_errNoFile {H : Type} : DataW H := .iface "*errors.errorString" (.ptr (.agg [.lit (.string [116, 104, 101, 114, 101, 32, 105, 115, 32, 110, 111, 32, 115, 117, 99, 104, 32, 105, 110, 111, 100, 101, 44, 32, 111, 114, 32, 110, 111, 32, 115, 117, 99, 104, 32, 108, 111, 97, 110])]))
def laid_loop_example_g00278_impl_errDenied {H : Type} : DataW H := .iface "*errors.errorString" (.ptr (.agg [.lit (.string [116, 104, 101, 32, 105, 110, 111, 100, 101, 32, 98, 101, 108, 111, 110, 103, 115, 32, 116, 111, 32, 97, 110, 111, 116, 104, 101, 114])]))
def laid_loop_example_g00278_impl_errBusy {H : Type} : DataW H := .iface "*errors.errorString" (.ptr (.agg [.lit (.string [116, 104, 101, 32, 105, 110, 111, 100, 101, 32, 105, 115, 32, 108, 101, 110, 116])]))
def laid_loop_example_g00278_impl_errFault {H : Type} : DataW H := .iface "*errors.errorString" (.ptr (.agg [.lit (.string [116, 104, 101, 32, 98, 121, 116, 101, 115, 32, 97, 114, 101, 32, 110, 111, 116, 32, 108, 101, 110, 116])]))
def laid_loop_example_g00278_impl_errRejected {H : Type} : DataW H := .iface "*errors.errorString" (.ptr (.agg [.lit (.string [119, 104, 97, 116, 32, 99, 97, 109, 101, 32, 98, 97, 99, 107, 32, 105, 115, 32, 112, 117, 116, 32, 98, 97, 99, 107])]))
def laid_loop_example_g00278_impl_errWrong {H : Type} : DataW H := .iface "*errors.errorString" (.ptr (.agg [.lit (.string [116, 104, 101, 32, 113, 117, 101, 115, 116, 105, 111, 110, 32, 105, 115, 32, 110, 111, 110, 101])]))

/-- 'laws.FnHonest': WHATEVER THE INPUT: true; the input reads as it did. -/
def fnHonestSpec : ChangeSpec := { name := "fnHonest", vars := ["loop.example/g00278/impl.errWrong", "loop.example/g00278/impl.errNoFile", "loop.example/g00278/impl.errBusy", "loop.example/g00278/impl.errDenied", "loop.example/g00278/impl.errFault", "loop.example/g00278/impl.errRejected"], fn := fun _ => fun
  | [d, g1, g2, g3, g4, g5, g6] => { results := [.lit (.bool true)], args := [d], vars := [g1, g2, g3, g4, g5, g6] }
  | _ => none }
def fnHonestRow : OpenClaim := { program := "ytgpfmgaidbjcpaagreatdoor", sum := "558542a24060c306dc06bf093d299bf0c74e2fa770e33543db4c6183a2166f6e", func := "loop.example/g00278/laws.FnHonest", spec := "fnHonest", inPlace := ["slices.overlaps[loop.example/g00278/impl.Loan]", "(*internal/sync.Mutex).Lock", "internal/race.Disable", "sync/atomic.CompareAndSwapInt32", "internal/race.Enable", "internal/race.Acquire", "(*internal/sync.Mutex).lockSlow", "internal/sync.runtime_canSpin", "internal/sync.runtime_doSpin", "internal/sync.throw", "internal/sync.runtime_nanotime", "internal/sync.runtime_SemacquireMutex", "sync/atomic.AddInt32", "(*internal/sync.Mutex).Unlock", "internal/race.ReleaseMerge", "(*internal/sync.Mutex).unlockSlow", "internal/sync.fatal", "internal/sync.runtime_Semrelease", "internal/reflectlite.TypeOf"], unfollowed := true, recurses := true, named := ["loop.example/g00278/impl.errWrong", "loop.example/g00278/impl.errNoFile", "loop.example/g00278/impl.errBusy", "loop.example/g00278/impl.errDenied", "loop.example/g00278/impl.errFault", "loop.example/g00278/impl.errRejected"], ifaces := true, apart := false, laid := [("loop.example/g00278/impl.errNoFile", laid_loop_example_g00278_impl_errNoFile), ("loop.example/g00278/impl.errDenied", laid_loop_example_g00278_impl_errDenied), ("loop.example/g00278/impl.errBusy", laid_loop_example_g00278_impl_errBusy), ("loop.example/g00278/impl.errFault", laid_loop_example_g00278_impl_errFault), ("loop.example/g00278/impl.errRejected", laid_loop_example_g00278_impl_errRejected), ("loop.example/g00278/impl.errWrong", laid_loop_example_g00278_impl_errWrong)] }
def FnHonestSaid : Prop := fnHonestRow.holds Tryz.pinned (OpenSpec.ofChange fnHonestSpec)

/-- ITS FALSE NEIGHBOUR: 'it returns false'. Refute it at one input. -/
def fnHonestWrong : ChangeSpec := { name := "fnHonest", vars := ["loop.example/g00278/impl.errWrong", "loop.example/g00278/impl.errNoFile", "loop.example/g00278/impl.errBusy", "loop.example/g00278/impl.errDenied", "loop.example/g00278/impl.errFault", "loop.example/g00278/impl.errRejected"], fn := fun _ => fun
  | [d, g1, g2, g3, g4, g5, g6] => { results := [.lit (.bool false)], args := [d], vars := [g1, g2, g3, g4, g5, g6] }
  | _ => none }
def FnHonestWrongFalsely : Prop := fnHonestRow.holds Tryz.pinned (OpenSpec.ofChange fnHonestWrong)

/- THE SECOND FORM. 'bulk': how many values and letters a reading holds, each counted each time it is reached (what is shared counts as often as it is met; a slice's spare places count too). A statement '..UptoSaid' is the law's where the arguments, and the package variables that the reading takes, are together of bulk at most 1048576: NARROWER than '..Said'. Prove '..Said' where nothing that the law and all that it calls make is longer than what came in: it says more and counts as full. Else prove '..UptoSaid'. A law counts once. -/
mutual
def uptoBulk {H : Type} : DataW H → Nat
  | .lit (.string bytes) => bytes.length + 1
  | .lit _ => 1
  | .nil => 1
  | .ptr d => uptoBulk d + 1
  | .slice elems spare => uptoBulkAll elems + uptoBulkAll spare + 1
  | .agg parts => uptoBulkAll parts + 1
  | .iface _ d => uptoBulk d + 1
  | .map entries => uptoBulkEntries entries + 1
  | .held _ => 1
def uptoBulkAll {H : Type} : List (DataW H) → Nat
  | [] => 0
  | d :: r => uptoBulk d + uptoBulkAll r
def uptoBulkEntries {H : Type} : List (Lit × DataW H) → Nat
  | [] => 0
  | x :: r => uptoBulkEntry x + uptoBulkEntries r
def uptoBulkEntry {H : Type} : Lit × DataW H → Nat
  | (.string bytes, d) => bytes.length + uptoBulk d + 1
  | (_, d) => uptoBulk d + 1
 end
def uptoSmall : (H : Type) → List (DataW H) → Bool := fun _ ds => decide (uptoBulkAll ds ≤ 1048576)
def OpenSpec.upto (s : _root_.Go.ChangeSpec) : _root_.Go.OpenSpec := { _root_.Go.OpenSpec.ofChange s with cond := some uptoSmall }

/-- 'laws.FnHonest', WHERE WHAT IT READS IS OF BULK AT MOST 1048576: true; the input reads as it did. -/
def fnHonestUptoRow : OpenClaim := { program := "ytgpfmgaidbjcpaagreatdoor", sum := "558542a24060c306dc06bf093d299bf0c74e2fa770e33543db4c6183a2166f6e", func := "loop.example/g00278/laws.FnHonest", spec := "fnHonest", inPlace := ["slices.overlaps[loop.example/g00278/impl.Loan]", "(*internal/sync.Mutex).Lock", "internal/race.Disable", "sync/atomic.CompareAndSwapInt32", "internal/race.Enable", "internal/race.Acquire", "(*internal/sync.Mutex).lockSlow", "internal/sync.runtime_canSpin", "internal/sync.runtime_doSpin", "internal/sync.throw", "internal/sync.runtime_nanotime", "internal/sync.runtime_SemacquireMutex", "sync/atomic.AddInt32", "(*internal/sync.Mutex).Unlock", "internal/race.ReleaseMerge", "(*internal/sync.Mutex).unlockSlow", "internal/sync.fatal", "internal/sync.runtime_Semrelease", "internal/reflectlite.TypeOf"], unfollowed := true, recurses := true, named := ["loop.example/g00278/impl.errWrong", "loop.example/g00278/impl.errNoFile", "loop.example/g00278/impl.errBusy", "loop.example/g00278/impl.errDenied", "loop.example/g00278/impl.errFault", "loop.example/g00278/impl.errRejected"], ifaces := true, apart := false, laid := [("loop.example/g00278/impl.errNoFile", laid_loop_example_g00278_impl_errNoFile), ("loop.example/g00278/impl.errDenied", laid_loop_example_g00278_impl_errDenied), ("loop.example/g00278/impl.errBusy", laid_loop_example_g00278_impl_errBusy), ("loop.example/g00278/impl.errFault", laid_loop_example_g00278_impl_errFault), ("loop.example/g00278/impl.errRejected", laid_loop_example_g00278_impl_errRejected), ("loop.example/g00278/impl.errWrong", laid_loop_example_g00278_impl_errWrong)], narrowed := true }
def FnHonestUptoSaid : Prop := fnHonestUptoRow.holds Tryz.pinned (OpenSpec.upto fnHonestSpec)

end Rows
end Go.Proofs.YtgpfmgaidbjcpaaGreatDoor
