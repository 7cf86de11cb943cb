/-
  No cell of these rows narrows 'for every input' (looked for: loops, veiled, ifaces, maps, wideKeys, modest, calm, conditions, laid).
  DERIVED. THE GIVEN ROWS OF THIS SEAT. 14 by the template 'for every input the law returns true; each argument reads behind the call as it read before'; 0 by the template 'total and deterministic' (their statements: YtacalabjclclhaaTotals.lean).
  GIVEN WITH THE SEED: the statements are not yours to turn. If you find one false, say at which input.
  Laid BY PROGRAM, IN A SANDBOX (cutbox-rows.mjs): the forced cells as the released guide's own fill.sh prints them over the translation 9b8bc79a75fbe19c… (all of the seat's roots in one cut). By AI agents, Wed Nov 11 2026. No macro, syntax, notation, axiom, sorry.
-/
import Derived.Test.YtacalabjclclhaaChecked
import GoSem.Claim
import GoSem.ClaimJoined
import GoSem.ClaimMapViews
import Derived.JoinedTies
import Derived.KernelRfl
namespace Go.Proofs.Ytacalabjclclhaa
/- THE CELL 'sum', in the pinned program and in every row, IS THE sha256 OF THE DUMP (.gsa) THAT YtacalabjclclhaaProg.lean LOADS. Nothing in Lean hashes anything: it is a label: what it is worth is what the hold of that sum in a sandbox is worth. -/
noncomputable def Try.pinned : Pinned := { name := "ytacalabjclclhaa", sum := "9b8bc79a75fbe19cde8d32cbfc49237f4de21856deaa1caca6b5541c117b693f", checked := Try.checked }
namespace Rows
def none {H : Type} : Left H := { results := [], args := [] }

/-- 'laws.FnInode': WHATEVER THE INPUT: true; the input reads as it did. -/
def fnInodeSpec : ChangeSpec := { name := "fnInode", fn := fun _ => fun
  | [d] => { results := [.lit (.bool true)], args := [d] }
  | _ => none }
def fnInodeRow : OpenClaim := { program := "ytacalabjclclhaa", sum := "9b8bc79a75fbe19cde8d32cbfc49237f4de21856deaa1caca6b5541c117b693f", func := "loop.example/g00278/laws.FnInode", spec := "fnInode", unfollowed := true, recurses := true, apart := false }
def FnInodeSaid : Prop := fnInodeRow.holds Try.pinned (OpenSpec.ofChange fnInodeSpec)

/-- ITS FALSE NEIGHBOUR: 'it returns false'. Refute it at one input. -/
def fnInodeWrong : ChangeSpec := { name := "fnInode", fn := fun _ => fun
  | [d] => { results := [.lit (.bool false)], args := [d] }
  | _ => none }
def FnInodeWrongFalsely : Prop := fnInodeRow.holds Try.pinned (OpenSpec.ofChange fnInodeWrong)

/-- 'laws.FnDir': WHATEVER THE INPUT: true; the input reads as it did. -/
def fnDirSpec : ChangeSpec := { name := "fnDir", fn := fun _ => fun
  | [d] => { results := [.lit (.bool true)], args := [d] }
  | _ => none }
def fnDirRow : OpenClaim := { program := "ytacalabjclclhaa", sum := "9b8bc79a75fbe19cde8d32cbfc49237f4de21856deaa1caca6b5541c117b693f", func := "loop.example/g00278/laws.FnDir", spec := "fnDir", unfollowed := true, recurses := true, apart := false }
def FnDirSaid : Prop := fnDirRow.holds Try.pinned (OpenSpec.ofChange fnDirSpec)

/-- ITS FALSE NEIGHBOUR: 'it returns false'. Refute it at one input. -/
def fnDirWrong : ChangeSpec := { name := "fnDir", fn := fun _ => fun
  | [d] => { results := [.lit (.bool false)], args := [d] }
  | _ => none }
def FnDirWrongFalsely : Prop := fnDirRow.holds Try.pinned (OpenSpec.ofChange fnDirWrong)

/-- 'laws.FnExactInodeOk': WHATEVER THE INPUT: true; the input reads as it did. -/
def fnExactInodeOkSpec : ChangeSpec := { name := "fnExactInodeOk", fn := fun _ => fun
  | [d] => { results := [.lit (.bool true)], args := [d] }
  | _ => none }
def fnExactInodeOkRow : OpenClaim := { program := "ytacalabjclclhaa", sum := "9b8bc79a75fbe19cde8d32cbfc49237f4de21856deaa1caca6b5541c117b693f", func := "loop.example/g00278/laws.FnExactInodeOk", spec := "fnExactInodeOk", unfollowed := true, recurses := true, apart := false }
def FnExactInodeOkSaid : Prop := fnExactInodeOkRow.holds Try.pinned (OpenSpec.ofChange fnExactInodeOkSpec)

/-- ITS FALSE NEIGHBOUR: 'it returns false'. Refute it at one input. -/
def fnExactInodeOkWrong : ChangeSpec := { name := "fnExactInodeOk", fn := fun _ => fun
  | [d] => { results := [.lit (.bool false)], args := [d] }
  | _ => none }
def FnExactInodeOkWrongFalsely : Prop := fnExactInodeOkRow.holds Try.pinned (OpenSpec.ofChange fnExactInodeOkWrong)

/-- 'laws.FnExactPutInode': WHATEVER THE INPUT: true; the input reads as it did. -/
def fnExactPutInodeSpec : ChangeSpec := { name := "fnExactPutInode", fn := fun _ => fun
  | [d] => { results := [.lit (.bool true)], args := [d] }
  | _ => none }
def fnExactPutInodeRow : OpenClaim := { program := "ytacalabjclclhaa", sum := "9b8bc79a75fbe19cde8d32cbfc49237f4de21856deaa1caca6b5541c117b693f", func := "loop.example/g00278/laws.FnExactPutInode", spec := "fnExactPutInode", unfollowed := true, recurses := true, apart := false }
def FnExactPutInodeSaid : Prop := fnExactPutInodeRow.holds Try.pinned (OpenSpec.ofChange fnExactPutInodeSpec)

/-- ITS FALSE NEIGHBOUR: 'it returns false'. Refute it at one input. -/
def fnExactPutInodeWrong : ChangeSpec := { name := "fnExactPutInode", fn := fun _ => fun
  | [d] => { results := [.lit (.bool false)], args := [d] }
  | _ => none }
def FnExactPutInodeWrongFalsely : Prop := fnExactPutInodeRow.holds Try.pinned (OpenSpec.ofChange fnExactPutInodeWrong)

/-- 'laws.FnExactGetInode': WHATEVER THE INPUT: true; the input reads as it did. -/
def fnExactGetInodeSpec : ChangeSpec := { name := "fnExactGetInode", fn := fun _ => fun
  | [d] => { results := [.lit (.bool true)], args := [d] }
  | _ => none }
def fnExactGetInodeRow : OpenClaim := { program := "ytacalabjclclhaa", sum := "9b8bc79a75fbe19cde8d32cbfc49237f4de21856deaa1caca6b5541c117b693f", func := "loop.example/g00278/laws.FnExactGetInode", spec := "fnExactGetInode", unfollowed := true, recurses := true, apart := false }
def FnExactGetInodeSaid : Prop := fnExactGetInodeRow.holds Try.pinned (OpenSpec.ofChange fnExactGetInodeSpec)

/-- ITS FALSE NEIGHBOUR: 'it returns false'. Refute it at one input. -/
def fnExactGetInodeWrong : ChangeSpec := { name := "fnExactGetInode", fn := fun _ => fun
  | [d] => { results := [.lit (.bool false)], args := [d] }
  | _ => none }
def FnExactGetInodeWrongFalsely : Prop := fnExactGetInodeRow.holds Try.pinned (OpenSpec.ofChange fnExactGetInodeWrong)

/-- 'laws.FnExactLoad': WHATEVER THE INPUT: true; the input reads as it did. -/
def fnExactLoadSpec : ChangeSpec := { name := "fnExactLoad", fn := fun _ => fun
  | [d1, d2] => { results := [.lit (.bool true)], args := [d1, d2] }
  | _ => none }
def fnExactLoadRow : OpenClaim := { program := "ytacalabjclclhaa", sum := "9b8bc79a75fbe19cde8d32cbfc49237f4de21856deaa1caca6b5541c117b693f", func := "loop.example/g00278/laws.FnExactLoad", spec := "fnExactLoad", unfollowed := true, recurses := true, apart := false }
def FnExactLoadSaid : Prop := fnExactLoadRow.holds Try.pinned (OpenSpec.ofChange fnExactLoadSpec)

/-- ITS FALSE NEIGHBOUR: 'it returns false'. Refute it at one input. -/
def fnExactLoadWrong : ChangeSpec := { name := "fnExactLoad", fn := fun _ => fun
  | [d1, d2] => { results := [.lit (.bool false)], args := [d1, d2] }
  | _ => none }
def FnExactLoadWrongFalsely : Prop := fnExactLoadRow.holds Try.pinned (OpenSpec.ofChange fnExactLoadWrong)

/-- 'laws.FnExactFormat': WHATEVER THE INPUT: true; the input reads as it did. -/
def fnExactFormatSpec : ChangeSpec := { name := "fnExactFormat", fn := fun _ => fun
  | [d] => { results := [.lit (.bool true)], args := [d] }
  | _ => none }
def fnExactFormatRow : OpenClaim := { program := "ytacalabjclclhaa", sum := "9b8bc79a75fbe19cde8d32cbfc49237f4de21856deaa1caca6b5541c117b693f", func := "loop.example/g00278/laws.FnExactFormat", spec := "fnExactFormat", unfollowed := true, recurses := true, apart := false }
def FnExactFormatSaid : Prop := fnExactFormatRow.holds Try.pinned (OpenSpec.ofChange fnExactFormatSpec)

/-- ITS FALSE NEIGHBOUR: 'it returns false'. Refute it at one input. -/
def fnExactFormatWrong : ChangeSpec := { name := "fnExactFormat", fn := fun _ => fun
  | [d] => { results := [.lit (.bool false)], args := [d] }
  | _ => none }
def FnExactFormatWrongFalsely : Prop := fnExactFormatRow.holds Try.pinned (OpenSpec.ofChange fnExactFormatWrong)

/-- 'laws.FnExactRanges': WHATEVER THE INPUT: true; the input reads as it did. -/
def fnExactRangesSpec : ChangeSpec := { name := "fnExactRanges", fn := fun _ => fun
  | [d] => { results := [.lit (.bool true)], args := [d] }
  | _ => none }
def fnExactRangesRow : OpenClaim := { program := "ytacalabjclclhaa", sum := "9b8bc79a75fbe19cde8d32cbfc49237f4de21856deaa1caca6b5541c117b693f", func := "loop.example/g00278/laws.FnExactRanges", spec := "fnExactRanges", unfollowed := true, recurses := true, apart := false }
def FnExactRangesSaid : Prop := fnExactRangesRow.holds Try.pinned (OpenSpec.ofChange fnExactRangesSpec)

/-- ITS FALSE NEIGHBOUR: 'it returns false'. Refute it at one input. -/
def fnExactRangesWrong : ChangeSpec := { name := "fnExactRanges", fn := fun _ => fun
  | [d] => { results := [.lit (.bool false)], args := [d] }
  | _ => none }
def FnExactRangesWrongFalsely : Prop := fnExactRangesRow.holds Try.pinned (OpenSpec.ofChange fnExactRangesWrong)

/-- 'laws.FnExactLoanOk': WHATEVER THE INPUT: true; the input reads as it did. -/
def fnExactLoanOkSpec : ChangeSpec := { name := "fnExactLoanOk", fn := fun _ => fun
  | [d] => { results := [.lit (.bool true)], args := [d] }
  | _ => none }
def fnExactLoanOkRow : OpenClaim := { program := "ytacalabjclclhaa", sum := "9b8bc79a75fbe19cde8d32cbfc49237f4de21856deaa1caca6b5541c117b693f", func := "loop.example/g00278/laws.FnExactLoanOk", spec := "fnExactLoanOk", unfollowed := true, recurses := true, apart := false }
def FnExactLoanOkSaid : Prop := fnExactLoanOkRow.holds Try.pinned (OpenSpec.ofChange fnExactLoanOkSpec)

/-- ITS FALSE NEIGHBOUR: 'it returns false'. Refute it at one input. -/
def fnExactLoanOkWrong : ChangeSpec := { name := "fnExactLoanOk", fn := fun _ => fun
  | [d] => { results := [.lit (.bool false)], args := [d] }
  | _ => none }
def FnExactLoanOkWrongFalsely : Prop := fnExactLoanOkRow.holds Try.pinned (OpenSpec.ofChange fnExactLoanOkWrong)

/-- 'laws.FnExactUndo': WHATEVER THE INPUT: true; the input reads as it did. -/
def fnExactUndoSpec : ChangeSpec := { name := "fnExactUndo", fn := fun _ => fun
  | [d1, d2] => { results := [.lit (.bool true)], args := [d1, d2] }
  | _ => none }
def fnExactUndoRow : OpenClaim := { program := "ytacalabjclclhaa", sum := "9b8bc79a75fbe19cde8d32cbfc49237f4de21856deaa1caca6b5541c117b693f", func := "loop.example/g00278/laws.FnExactUndo", spec := "fnExactUndo", unfollowed := true, recurses := true, apart := false }
def FnExactUndoSaid : Prop := fnExactUndoRow.holds Try.pinned (OpenSpec.ofChange fnExactUndoSpec)

/-- ITS FALSE NEIGHBOUR: 'it returns false'. Refute it at one input. -/
def fnExactUndoWrong : ChangeSpec := { name := "fnExactUndo", fn := fun _ => fun
  | [d1, d2] => { results := [.lit (.bool false)], args := [d1, d2] }
  | _ => none }
def FnExactUndoWrongFalsely : Prop := fnExactUndoRow.holds Try.pinned (OpenSpec.ofChange fnExactUndoWrong)

/-- 'laws.FnExactVerdict': WHATEVER THE INPUT: true; the input reads as it did. -/
def fnExactVerdictSpec : ChangeSpec := { name := "fnExactVerdict", fn := fun _ => fun
  | [d1, d2] => { results := [.lit (.bool true)], args := [d1, d2] }
  | _ => none }
def fnExactVerdictRow : OpenClaim := { program := "ytacalabjclclhaa", sum := "9b8bc79a75fbe19cde8d32cbfc49237f4de21856deaa1caca6b5541c117b693f", func := "loop.example/g00278/laws.FnExactVerdict", spec := "fnExactVerdict", unfollowed := true, recurses := true, apart := false }
def FnExactVerdictSaid : Prop := fnExactVerdictRow.holds Try.pinned (OpenSpec.ofChange fnExactVerdictSpec)

/-- ITS FALSE NEIGHBOUR: 'it returns false'. Refute it at one input. -/
def fnExactVerdictWrong : ChangeSpec := { name := "fnExactVerdict", fn := fun _ => fun
  | [d1, d2] => { results := [.lit (.bool false)], args := [d1, d2] }
  | _ => none }
def FnExactVerdictWrongFalsely : Prop := fnExactVerdictRow.holds Try.pinned (OpenSpec.ofChange fnExactVerdictWrong)

/-- 'laws.FnExactCome': WHATEVER THE INPUT: true; the input reads as it did. -/
def fnExactComeSpec : ChangeSpec := { name := "fnExactCome", fn := fun _ => fun
  | [d1, d2] => { results := [.lit (.bool true)], args := [d1, d2] }
  | _ => none }
def fnExactComeRow : OpenClaim := { program := "ytacalabjclclhaa", sum := "9b8bc79a75fbe19cde8d32cbfc49237f4de21856deaa1caca6b5541c117b693f", func := "loop.example/g00278/laws.FnExactCome", spec := "fnExactCome", unfollowed := true, recurses := true, apart := false }
def FnExactComeSaid : Prop := fnExactComeRow.holds Try.pinned (OpenSpec.ofChange fnExactComeSpec)

/-- ITS FALSE NEIGHBOUR: 'it returns false'. Refute it at one input. -/
def fnExactComeWrong : ChangeSpec := { name := "fnExactCome", fn := fun _ => fun
  | [d1, d2] => { results := [.lit (.bool false)], args := [d1, d2] }
  | _ => none }
def FnExactComeWrongFalsely : Prop := fnExactComeRow.holds Try.pinned (OpenSpec.ofChange fnExactComeWrong)

/-- 'laws.FnExactTruth': WHATEVER THE INPUT: true; the input reads as it did. -/
def fnExactTruthSpec : ChangeSpec := { name := "fnExactTruth", fn := fun _ => fun
  | [d] => { results := [.lit (.bool true)], args := [d] }
  | _ => none }
def fnExactTruthRow : OpenClaim := { program := "ytacalabjclclhaa", sum := "9b8bc79a75fbe19cde8d32cbfc49237f4de21856deaa1caca6b5541c117b693f", func := "loop.example/g00278/laws.FnExactTruth", spec := "fnExactTruth", unfollowed := true, recurses := true, apart := false }
def FnExactTruthSaid : Prop := fnExactTruthRow.holds Try.pinned (OpenSpec.ofChange fnExactTruthSpec)

/-- ITS FALSE NEIGHBOUR: 'it returns false'. Refute it at one input. -/
def fnExactTruthWrong : ChangeSpec := { name := "fnExactTruth", fn := fun _ => fun
  | [d] => { results := [.lit (.bool false)], args := [d] }
  | _ => none }
def FnExactTruthWrongFalsely : Prop := fnExactTruthRow.holds Try.pinned (OpenSpec.ofChange fnExactTruthWrong)

/-- 'laws.FnExactKeeperNew': WHATEVER THE INPUT: true; the input reads as it did. -/
def fnExactKeeperNewSpec : ChangeSpec := { name := "fnExactKeeperNew", fn := fun _ => fun
  | [d] => { results := [.lit (.bool true)], args := [d] }
  | _ => none }
def fnExactKeeperNewRow : OpenClaim := { program := "ytacalabjclclhaa", sum := "9b8bc79a75fbe19cde8d32cbfc49237f4de21856deaa1caca6b5541c117b693f", func := "loop.example/g00278/laws.FnExactKeeperNew", spec := "fnExactKeeperNew", unfollowed := true, recurses := true, apart := false }
def FnExactKeeperNewSaid : Prop := fnExactKeeperNewRow.holds Try.pinned (OpenSpec.ofChange fnExactKeeperNewSpec)

/-- ITS FALSE NEIGHBOUR: 'it returns false'. Refute it at one input. -/
def fnExactKeeperNewWrong : ChangeSpec := { name := "fnExactKeeperNew", fn := fun _ => fun
  | [d] => { results := [.lit (.bool false)], args := [d] }
  | _ => none }
def FnExactKeeperNewWrongFalsely : Prop := fnExactKeeperNewRow.holds Try.pinned (OpenSpec.ofChange fnExactKeeperNewWrong)

/- THE SECOND FORM. 'bulk': how many values and letters a reading holds, each counted each time it is reached (what is shared counts as often as it is met; a slice's spare places count too). A statement '..UptoSaid' is the law's where the arguments, and the package variables that the reading takes, are together of bulk at most 1048576: NARROWER than '..Said'. Prove '..Said' where nothing that the law and all that it calls make is longer than what came in: it says more and counts as full. Else prove '..UptoSaid'. A law counts once. -/
mutual
def uptoBulk {H : Type} : DataW H → Nat
  | .lit (.string bytes) => bytes.length + 1
  | .lit _ => 1
  | .nil => 1
  | .ptr d => uptoBulk d + 1
  | .slice elems spare => uptoBulkAll elems + uptoBulkAll spare + 1
  | .agg parts => uptoBulkAll parts + 1
  | .iface _ d => uptoBulk d + 1
  | .map entries => uptoBulkEntries entries + 1
  | .held _ => 1
def uptoBulkAll {H : Type} : List (DataW H) → Nat
  | [] => 0
  | d :: r => uptoBulk d + uptoBulkAll r
def uptoBulkEntries {H : Type} : List (Lit × DataW H) → Nat
  | [] => 0
  | x :: r => uptoBulkEntry x + uptoBulkEntries r
def uptoBulkEntry {H : Type} : Lit × DataW H → Nat
  | (.string bytes, d) => bytes.length + uptoBulk d + 1
  | (_, d) => uptoBulk d + 1
 end
def uptoSmall : (H : Type) → List (DataW H) → Bool := fun _ ds => decide (uptoBulkAll ds ≤ 1048576)
def OpenSpec.upto (s : _root_.Go.ChangeSpec) : _root_.Go.OpenSpec := { _root_.Go.OpenSpec.ofChange s with cond := some uptoSmall }

/-- 'laws.FnInode', WHERE WHAT IT READS IS OF BULK AT MOST 1048576: true; the input reads as it did. -/
def fnInodeUptoRow : OpenClaim := { program := "ytacalabjclclhaa", sum := "9b8bc79a75fbe19cde8d32cbfc49237f4de21856deaa1caca6b5541c117b693f", func := "loop.example/g00278/laws.FnInode", spec := "fnInode", unfollowed := true, recurses := true, apart := false, narrowed := true }
def FnInodeUptoSaid : Prop := fnInodeUptoRow.holds Try.pinned (OpenSpec.upto fnInodeSpec)

/-- 'laws.FnDir', WHERE WHAT IT READS IS OF BULK AT MOST 1048576: true; the input reads as it did. -/
def fnDirUptoRow : OpenClaim := { program := "ytacalabjclclhaa", sum := "9b8bc79a75fbe19cde8d32cbfc49237f4de21856deaa1caca6b5541c117b693f", func := "loop.example/g00278/laws.FnDir", spec := "fnDir", unfollowed := true, recurses := true, apart := false, narrowed := true }
def FnDirUptoSaid : Prop := fnDirUptoRow.holds Try.pinned (OpenSpec.upto fnDirSpec)

/-- 'laws.FnExactInodeOk', WHERE WHAT IT READS IS OF BULK AT MOST 1048576: true; the input reads as it did. -/
def fnExactInodeOkUptoRow : OpenClaim := { program := "ytacalabjclclhaa", sum := "9b8bc79a75fbe19cde8d32cbfc49237f4de21856deaa1caca6b5541c117b693f", func := "loop.example/g00278/laws.FnExactInodeOk", spec := "fnExactInodeOk", unfollowed := true, recurses := true, apart := false, narrowed := true }
def FnExactInodeOkUptoSaid : Prop := fnExactInodeOkUptoRow.holds Try.pinned (OpenSpec.upto fnExactInodeOkSpec)

/-- 'laws.FnExactPutInode', WHERE WHAT IT READS IS OF BULK AT MOST 1048576: true; the input reads as it did. -/
def fnExactPutInodeUptoRow : OpenClaim := { program := "ytacalabjclclhaa", sum := "9b8bc79a75fbe19cde8d32cbfc49237f4de21856deaa1caca6b5541c117b693f", func := "loop.example/g00278/laws.FnExactPutInode", spec := "fnExactPutInode", unfollowed := true, recurses := true, apart := false, narrowed := true }
def FnExactPutInodeUptoSaid : Prop := fnExactPutInodeUptoRow.holds Try.pinned (OpenSpec.upto fnExactPutInodeSpec)

/-- 'laws.FnExactGetInode', WHERE WHAT IT READS IS OF BULK AT MOST 1048576: true; the input reads as it did. -/
def fnExactGetInodeUptoRow : OpenClaim := { program := "ytacalabjclclhaa", sum := "9b8bc79a75fbe19cde8d32cbfc49237f4de21856deaa1caca6b5541c117b693f", func := "loop.example/g00278/laws.FnExactGetInode", spec := "fnExactGetInode", unfollowed := true, recurses := true, apart := false, narrowed := true }
def FnExactGetInodeUptoSaid : Prop := fnExactGetInodeUptoRow.holds Try.pinned (OpenSpec.upto fnExactGetInodeSpec)

/-- 'laws.FnExactLoad', WHERE WHAT IT READS IS OF BULK AT MOST 1048576: true; the input reads as it did. -/
def fnExactLoadUptoRow : OpenClaim := { program := "ytacalabjclclhaa", sum := "9b8bc79a75fbe19cde8d32cbfc49237f4de21856deaa1caca6b5541c117b693f", func := "loop.example/g00278/laws.FnExactLoad", spec := "fnExactLoad", unfollowed := true, recurses := true, apart := false, narrowed := true }
def FnExactLoadUptoSaid : Prop := fnExactLoadUptoRow.holds Try.pinned (OpenSpec.upto fnExactLoadSpec)

/-- 'laws.FnExactFormat', WHERE WHAT IT READS IS OF BULK AT MOST 1048576: true; the input reads as it did. -/
def fnExactFormatUptoRow : OpenClaim := { program := "ytacalabjclclhaa", sum := "9b8bc79a75fbe19cde8d32cbfc49237f4de21856deaa1caca6b5541c117b693f", func := "loop.example/g00278/laws.FnExactFormat", spec := "fnExactFormat", unfollowed := true, recurses := true, apart := false, narrowed := true }
def FnExactFormatUptoSaid : Prop := fnExactFormatUptoRow.holds Try.pinned (OpenSpec.upto fnExactFormatSpec)

/-- 'laws.FnExactRanges', WHERE WHAT IT READS IS OF BULK AT MOST 1048576: true; the input reads as it did. -/
def fnExactRangesUptoRow : OpenClaim := { program := "ytacalabjclclhaa", sum := "9b8bc79a75fbe19cde8d32cbfc49237f4de21856deaa1caca6b5541c117b693f", func := "loop.example/g00278/laws.FnExactRanges", spec := "fnExactRanges", unfollowed := true, recurses := true, apart := false, narrowed := true }
def FnExactRangesUptoSaid : Prop := fnExactRangesUptoRow.holds Try.pinned (OpenSpec.upto fnExactRangesSpec)

/-- 'laws.FnExactLoanOk', WHERE WHAT IT READS IS OF BULK AT MOST 1048576: true; the input reads as it did. -/
def fnExactLoanOkUptoRow : OpenClaim := { program := "ytacalabjclclhaa", sum := "9b8bc79a75fbe19cde8d32cbfc49237f4de21856deaa1caca6b5541c117b693f", func := "loop.example/g00278/laws.FnExactLoanOk", spec := "fnExactLoanOk", unfollowed := true, recurses := true, apart := false, narrowed := true }
def FnExactLoanOkUptoSaid : Prop := fnExactLoanOkUptoRow.holds Try.pinned (OpenSpec.upto fnExactLoanOkSpec)

/-- 'laws.FnExactUndo', WHERE WHAT IT READS IS OF BULK AT MOST 1048576: true; the input reads as it did. -/
def fnExactUndoUptoRow : OpenClaim := { program := "ytacalabjclclhaa", sum := "9b8bc79a75fbe19cde8d32cbfc49237f4de21856deaa1caca6b5541c117b693f", func := "loop.example/g00278/laws.FnExactUndo", spec := "fnExactUndo", unfollowed := true, recurses := true, apart := false, narrowed := true }
def FnExactUndoUptoSaid : Prop := fnExactUndoUptoRow.holds Try.pinned (OpenSpec.upto fnExactUndoSpec)

/-- 'laws.FnExactVerdict', WHERE WHAT IT READS IS OF BULK AT MOST 1048576: true; the input reads as it did. -/
def fnExactVerdictUptoRow : OpenClaim := { program := "ytacalabjclclhaa", sum := "9b8bc79a75fbe19cde8d32cbfc49237f4de21856deaa1caca6b5541c117b693f", func := "loop.example/g00278/laws.FnExactVerdict", spec := "fnExactVerdict", unfollowed := true, recurses := true, apart := false, narrowed := true }
def FnExactVerdictUptoSaid : Prop := fnExactVerdictUptoRow.holds Try.pinned (OpenSpec.upto fnExactVerdictSpec)

/-- 'laws.FnExactCome', WHERE WHAT IT READS IS OF BULK AT MOST 1048576: true; the input reads as it did. -/
def fnExactComeUptoRow : OpenClaim := { program := "ytacalabjclclhaa", sum := "9b8bc79a75fbe19cde8d32cbfc49237f4de21856deaa1caca6b5541c117b693f", func := "loop.example/g00278/laws.FnExactCome", spec := "fnExactCome", unfollowed := true, recurses := true, apart := false, narrowed := true }
def FnExactComeUptoSaid : Prop := fnExactComeUptoRow.holds Try.pinned (OpenSpec.upto fnExactComeSpec)

/-- 'laws.FnExactTruth', WHERE WHAT IT READS IS OF BULK AT MOST 1048576: true; the input reads as it did. -/
def fnExactTruthUptoRow : OpenClaim := { program := "ytacalabjclclhaa", sum := "9b8bc79a75fbe19cde8d32cbfc49237f4de21856deaa1caca6b5541c117b693f", func := "loop.example/g00278/laws.FnExactTruth", spec := "fnExactTruth", unfollowed := true, recurses := true, apart := false, narrowed := true }
def FnExactTruthUptoSaid : Prop := fnExactTruthUptoRow.holds Try.pinned (OpenSpec.upto fnExactTruthSpec)

/-- 'laws.FnExactKeeperNew', WHERE WHAT IT READS IS OF BULK AT MOST 1048576: true; the input reads as it did. -/
def fnExactKeeperNewUptoRow : OpenClaim := { program := "ytacalabjclclhaa", sum := "9b8bc79a75fbe19cde8d32cbfc49237f4de21856deaa1caca6b5541c117b693f", func := "loop.example/g00278/laws.FnExactKeeperNew", spec := "fnExactKeeperNew", unfollowed := true, recurses := true, apart := false, narrowed := true }
def FnExactKeeperNewUptoSaid : Prop := fnExactKeeperNewUptoRow.holds Try.pinned (OpenSpec.upto fnExactKeeperNewSpec)

end Rows
end Go.Proofs.Ytacalabjclclhaa
