/-
  No cell of these rows narrows 'for every input' (looked for: loops, veiled, ifaces, maps, wideKeys, modest, calm, conditions, laid).
  DERIVED. THE GIVEN ROWS OF THIS SEAT. 8 by the template 'for every input the law returns true; each argument reads behind the call as it read before'; 0 by the template 'total and deterministic' (their statements: YtpkicoagakpigaaTotals.lean).
  GIVEN WITH THE SEED: the statements are not yours to turn. If you find one false, say at which input.
  Laid BY PROGRAM, IN A SANDBOX (cutbox-rows.mjs): the forced cells as the released guide's own fill.sh prints them over the translation eac0ca6f13d3fa32… (all of the seat's roots in one cut). By AI agents, Wed Nov 11 2026. No macro, syntax, notation, axiom, sorry.
-/
import Derived.Test.YtpkicoagakpigaaChecked
import GoSem.Claim
import GoSem.ClaimJoined
import GoSem.ClaimMapViews
import Derived.JoinedTies
import Derived.KernelRfl
namespace Go.Proofs.Ytpkicoagakpigaa
/- THE CELL 'sum', in the pinned program and in every row, IS THE sha256 OF THE DUMP (.gsa) THAT YtpkicoagakpigaaProg.lean LOADS. Nothing in Lean hashes anything: it is a label: what it is worth is what the hold of that sum in a sandbox is worth. -/
noncomputable def Try.pinned : Pinned := { name := "ytpkicoagakpigaa", sum := "eac0ca6f13d3fa32b0858e9b5c250f7dca711a3579fd060fe16a00b15e4f3c01", checked := Try.checked }
namespace Rows
def none {H : Type} : Left H := { results := [], args := [] }

/-- 'laws.FnInode': WHATEVER THE INPUT: true; the input reads as it did. -/
def fnInodeSpec : ChangeSpec := { name := "fnInode", fn := fun _ => fun
  | [d] => { results := [.lit (.bool true)], args := [d] }
  | _ => none }
def fnInodeRow : OpenClaim := { program := "ytpkicoagakpigaa", sum := "eac0ca6f13d3fa32b0858e9b5c250f7dca711a3579fd060fe16a00b15e4f3c01", func := "loop.example/g00278/laws.FnInode", spec := "fnInode", unfollowed := true, recurses := true, apart := false }
def FnInodeSaid : Prop := fnInodeRow.holds Try.pinned (OpenSpec.ofChange fnInodeSpec)

/-- ITS FALSE NEIGHBOUR: 'it returns false'. Refute it at one input. -/
def fnInodeWrong : ChangeSpec := { name := "fnInode", fn := fun _ => fun
  | [d] => { results := [.lit (.bool false)], args := [d] }
  | _ => none }
def FnInodeWrongFalsely : Prop := fnInodeRow.holds Try.pinned (OpenSpec.ofChange fnInodeWrong)

/-- 'laws.FnExactLoanOk': WHATEVER THE INPUT: true; the input reads as it did. -/
def fnExactLoanOkSpec : ChangeSpec := { name := "fnExactLoanOk", fn := fun _ => fun
  | [d] => { results := [.lit (.bool true)], args := [d] }
  | _ => none }
def fnExactLoanOkRow : OpenClaim := { program := "ytpkicoagakpigaa", sum := "eac0ca6f13d3fa32b0858e9b5c250f7dca711a3579fd060fe16a00b15e4f3c01", func := "loop.example/g00278/laws.FnExactLoanOk", spec := "fnExactLoanOk", unfollowed := true, recurses := true, apart := false }
def FnExactLoanOkSaid : Prop := fnExactLoanOkRow.holds Try.pinned (OpenSpec.ofChange fnExactLoanOkSpec)

/-- ITS FALSE NEIGHBOUR: 'it returns false'. Refute it at one input. -/
def fnExactLoanOkWrong : ChangeSpec := { name := "fnExactLoanOk", fn := fun _ => fun
  | [d] => { results := [.lit (.bool false)], args := [d] }
  | _ => none }
def FnExactLoanOkWrongFalsely : Prop := fnExactLoanOkRow.holds Try.pinned (OpenSpec.ofChange fnExactLoanOkWrong)

/-- 'laws.FnExactRanges': WHATEVER THE INPUT: true; the input reads as it did. -/
def fnExactRangesSpec : ChangeSpec := { name := "fnExactRanges", fn := fun _ => fun
  | [d] => { results := [.lit (.bool true)], args := [d] }
  | _ => none }
def fnExactRangesRow : OpenClaim := { program := "ytpkicoagakpigaa", sum := "eac0ca6f13d3fa32b0858e9b5c250f7dca711a3579fd060fe16a00b15e4f3c01", func := "loop.example/g00278/laws.FnExactRanges", spec := "fnExactRanges", unfollowed := true, recurses := true, apart := false }
def FnExactRangesSaid : Prop := fnExactRangesRow.holds Try.pinned (OpenSpec.ofChange fnExactRangesSpec)

/-- ITS FALSE NEIGHBOUR: 'it returns false'. Refute it at one input. -/
def fnExactRangesWrong : ChangeSpec := { name := "fnExactRanges", fn := fun _ => fun
  | [d] => { results := [.lit (.bool false)], args := [d] }
  | _ => none }
def FnExactRangesWrongFalsely : Prop := fnExactRangesRow.holds Try.pinned (OpenSpec.ofChange fnExactRangesWrong)

/-- 'laws.FnExactUndo': WHATEVER THE INPUT: true; the input reads as it did. -/
def fnExactUndoSpec : ChangeSpec := { name := "fnExactUndo", fn := fun _ => fun
  | [d1, d2] => { results := [.lit (.bool true)], args := [d1, d2] }
  | _ => none }
def fnExactUndoRow : OpenClaim := { program := "ytpkicoagakpigaa", sum := "eac0ca6f13d3fa32b0858e9b5c250f7dca711a3579fd060fe16a00b15e4f3c01", func := "loop.example/g00278/laws.FnExactUndo", spec := "fnExactUndo", unfollowed := true, recurses := true, apart := false }
def FnExactUndoSaid : Prop := fnExactUndoRow.holds Try.pinned (OpenSpec.ofChange fnExactUndoSpec)

/-- ITS FALSE NEIGHBOUR: 'it returns false'. Refute it at one input. -/
def fnExactUndoWrong : ChangeSpec := { name := "fnExactUndo", fn := fun _ => fun
  | [d1, d2] => { results := [.lit (.bool false)], args := [d1, d2] }
  | _ => none }
def FnExactUndoWrongFalsely : Prop := fnExactUndoRow.holds Try.pinned (OpenSpec.ofChange fnExactUndoWrong)

/-- 'laws.FnExactVerdict': WHATEVER THE INPUT: true; the input reads as it did. -/
def fnExactVerdictSpec : ChangeSpec := { name := "fnExactVerdict", fn := fun _ => fun
  | [d1, d2] => { results := [.lit (.bool true)], args := [d1, d2] }
  | _ => none }
def fnExactVerdictRow : OpenClaim := { program := "ytpkicoagakpigaa", sum := "eac0ca6f13d3fa32b0858e9b5c250f7dca711a3579fd060fe16a00b15e4f3c01", func := "loop.example/g00278/laws.FnExactVerdict", spec := "fnExactVerdict", unfollowed := true, recurses := true, apart := false }
def FnExactVerdictSaid : Prop := fnExactVerdictRow.holds Try.pinned (OpenSpec.ofChange fnExactVerdictSpec)

/-- ITS FALSE NEIGHBOUR: 'it returns false'. Refute it at one input. -/
def fnExactVerdictWrong : ChangeSpec := { name := "fnExactVerdict", fn := fun _ => fun
  | [d1, d2] => { results := [.lit (.bool false)], args := [d1, d2] }
  | _ => none }
def FnExactVerdictWrongFalsely : Prop := fnExactVerdictRow.holds Try.pinned (OpenSpec.ofChange fnExactVerdictWrong)

/-- 'laws.FnExactCome': WHATEVER THE INPUT: true; the input reads as it did. -/
def fnExactComeSpec : ChangeSpec := { name := "fnExactCome", fn := fun _ => fun
  | [d1, d2] => { results := [.lit (.bool true)], args := [d1, d2] }
  | _ => none }
def fnExactComeRow : OpenClaim := { program := "ytpkicoagakpigaa", sum := "eac0ca6f13d3fa32b0858e9b5c250f7dca711a3579fd060fe16a00b15e4f3c01", func := "loop.example/g00278/laws.FnExactCome", spec := "fnExactCome", unfollowed := true, recurses := true, apart := false }
def FnExactComeSaid : Prop := fnExactComeRow.holds Try.pinned (OpenSpec.ofChange fnExactComeSpec)

/-- ITS FALSE NEIGHBOUR: 'it returns false'. Refute it at one input. -/
def fnExactComeWrong : ChangeSpec := { name := "fnExactCome", fn := fun _ => fun
  | [d1, d2] => { results := [.lit (.bool false)], args := [d1, d2] }
  | _ => none }
def FnExactComeWrongFalsely : Prop := fnExactComeRow.holds Try.pinned (OpenSpec.ofChange fnExactComeWrong)

/-- 'laws.FnExactWithin': WHATEVER THE INPUT: true; the input reads as it did. -/
def fnExactWithinSpec : ChangeSpec := { name := "fnExactWithin", fn := fun _ => fun
  | [d1, d2, d3] => { results := [.lit (.bool true)], args := [d1, d2, d3] }
  | _ => none }
def fnExactWithinRow : OpenClaim := { program := "ytpkicoagakpigaa", sum := "eac0ca6f13d3fa32b0858e9b5c250f7dca711a3579fd060fe16a00b15e4f3c01", func := "loop.example/g00278/laws.FnExactWithin", spec := "fnExactWithin", unfollowed := true, recurses := true, apart := false }
def FnExactWithinSaid : Prop := fnExactWithinRow.holds Try.pinned (OpenSpec.ofChange fnExactWithinSpec)

/-- ITS FALSE NEIGHBOUR: 'it returns false'. Refute it at one input. -/
def fnExactWithinWrong : ChangeSpec := { name := "fnExactWithin", fn := fun _ => fun
  | [d1, d2, d3] => { results := [.lit (.bool false)], args := [d1, d2, d3] }
  | _ => none }
def FnExactWithinWrongFalsely : Prop := fnExactWithinRow.holds Try.pinned (OpenSpec.ofChange fnExactWithinWrong)

/-- 'laws.FnExactSound': WHATEVER THE INPUT: true; the input reads as it did. -/
def fnExactSoundSpec : ChangeSpec := { name := "fnExactSound", fn := fun _ => fun
  | [d] => { results := [.lit (.bool true)], args := [d] }
  | _ => none }
def fnExactSoundRow : OpenClaim := { program := "ytpkicoagakpigaa", sum := "eac0ca6f13d3fa32b0858e9b5c250f7dca711a3579fd060fe16a00b15e4f3c01", func := "loop.example/g00278/laws.FnExactSound", spec := "fnExactSound", unfollowed := true, recurses := true, apart := false }
def FnExactSoundSaid : Prop := fnExactSoundRow.holds Try.pinned (OpenSpec.ofChange fnExactSoundSpec)

/-- ITS FALSE NEIGHBOUR: 'it returns false'. Refute it at one input. -/
def fnExactSoundWrong : ChangeSpec := { name := "fnExactSound", fn := fun _ => fun
  | [d] => { results := [.lit (.bool false)], args := [d] }
  | _ => none }
def FnExactSoundWrongFalsely : Prop := fnExactSoundRow.holds Try.pinned (OpenSpec.ofChange fnExactSoundWrong)

/- THE SECOND FORM. 'bulk': how many values and letters a reading holds, each counted each time it is reached (what is shared counts as often as it is met; a slice's spare places count too). A statement '..UptoSaid' is the law's where the arguments, and the package variables that the reading takes, are together of bulk at most 1048576: NARROWER than '..Said'. Prove '..Said' where nothing that the law and all that it calls make is longer than what came in: it says more and counts as full. Else prove '..UptoSaid'. A law counts once. -/
mutual
def uptoBulk {H : Type} : DataW H → Nat
  | .lit (.string bytes) => bytes.length + 1
  | .lit _ => 1
  | .nil => 1
  | .ptr d => uptoBulk d + 1
  | .slice elems spare => uptoBulkAll elems + uptoBulkAll spare + 1
  | .agg parts => uptoBulkAll parts + 1
  | .iface _ d => uptoBulk d + 1
  | .map entries => uptoBulkEntries entries + 1
  | .held _ => 1
def uptoBulkAll {H : Type} : List (DataW H) → Nat
  | [] => 0
  | d :: r => uptoBulk d + uptoBulkAll r
def uptoBulkEntries {H : Type} : List (Lit × DataW H) → Nat
  | [] => 0
  | x :: r => uptoBulkEntry x + uptoBulkEntries r
def uptoBulkEntry {H : Type} : Lit × DataW H → Nat
  | (.string bytes, d) => bytes.length + uptoBulk d + 1
  | (_, d) => uptoBulk d + 1
 end
def uptoSmall : (H : Type) → List (DataW H) → Bool := fun _ ds => decide (uptoBulkAll ds ≤ 1048576)
def OpenSpec.upto (s : _root_.Go.ChangeSpec) : _root_.Go.OpenSpec := { _root_.Go.OpenSpec.ofChange s with cond := some uptoSmall }

/-- 'laws.FnInode', WHERE WHAT IT READS IS OF BULK AT MOST 1048576: true; the input reads as it did. -/
def fnInodeUptoRow : OpenClaim := { program := "ytpkicoagakpigaa", sum := "eac0ca6f13d3fa32b0858e9b5c250f7dca711a3579fd060fe16a00b15e4f3c01", func := "loop.example/g00278/laws.FnInode", spec := "fnInode", unfollowed := true, recurses := true, apart := false, narrowed := true }
def FnInodeUptoSaid : Prop := fnInodeUptoRow.holds Try.pinned (OpenSpec.upto fnInodeSpec)

/-- 'laws.FnExactLoanOk', WHERE WHAT IT READS IS OF BULK AT MOST 1048576: true; the input reads as it did. -/
def fnExactLoanOkUptoRow : OpenClaim := { program := "ytpkicoagakpigaa", sum := "eac0ca6f13d3fa32b0858e9b5c250f7dca711a3579fd060fe16a00b15e4f3c01", func := "loop.example/g00278/laws.FnExactLoanOk", spec := "fnExactLoanOk", unfollowed := true, recurses := true, apart := false, narrowed := true }
def FnExactLoanOkUptoSaid : Prop := fnExactLoanOkUptoRow.holds Try.pinned (OpenSpec.upto fnExactLoanOkSpec)

/-- 'laws.FnExactRanges', WHERE WHAT IT READS IS OF BULK AT MOST 1048576: true; the input reads as it did. -/
def fnExactRangesUptoRow : OpenClaim := { program := "ytpkicoagakpigaa", sum := "eac0ca6f13d3fa32b0858e9b5c250f7dca711a3579fd060fe16a00b15e4f3c01", func := "loop.example/g00278/laws.FnExactRanges", spec := "fnExactRanges", unfollowed := true, recurses := true, apart := false, narrowed := true }
def FnExactRangesUptoSaid : Prop := fnExactRangesUptoRow.holds Try.pinned (OpenSpec.upto fnExactRangesSpec)

/-- 'laws.FnExactUndo', WHERE WHAT IT READS IS OF BULK AT MOST 1048576: true; the input reads as it did. -/
def fnExactUndoUptoRow : OpenClaim := { program := "ytpkicoagakpigaa", sum := "eac0ca6f13d3fa32b0858e9b5c250f7dca711a3579fd060fe16a00b15e4f3c01", func := "loop.example/g00278/laws.FnExactUndo", spec := "fnExactUndo", unfollowed := true, recurses := true, apart := false, narrowed := true }
def FnExactUndoUptoSaid : Prop := fnExactUndoUptoRow.holds Try.pinned (OpenSpec.upto fnExactUndoSpec)

/-- 'laws.FnExactVerdict', WHERE WHAT IT READS IS OF BULK AT MOST 1048576: true; the input reads as it did. -/
def fnExactVerdictUptoRow : OpenClaim := { program := "ytpkicoagakpigaa", sum := "eac0ca6f13d3fa32b0858e9b5c250f7dca711a3579fd060fe16a00b15e4f3c01", func := "loop.example/g00278/laws.FnExactVerdict", spec := "fnExactVerdict", unfollowed := true, recurses := true, apart := false, narrowed := true }
def FnExactVerdictUptoSaid : Prop := fnExactVerdictUptoRow.holds Try.pinned (OpenSpec.upto fnExactVerdictSpec)

/-- 'laws.FnExactCome', WHERE WHAT IT READS IS OF BULK AT MOST 1048576: true; the input reads as it did. -/
def fnExactComeUptoRow : OpenClaim := { program := "ytpkicoagakpigaa", sum := "eac0ca6f13d3fa32b0858e9b5c250f7dca711a3579fd060fe16a00b15e4f3c01", func := "loop.example/g00278/laws.FnExactCome", spec := "fnExactCome", unfollowed := true, recurses := true, apart := false, narrowed := true }
def FnExactComeUptoSaid : Prop := fnExactComeUptoRow.holds Try.pinned (OpenSpec.upto fnExactComeSpec)

/-- 'laws.FnExactWithin', WHERE WHAT IT READS IS OF BULK AT MOST 1048576: true; the input reads as it did. -/
def fnExactWithinUptoRow : OpenClaim := { program := "ytpkicoagakpigaa", sum := "eac0ca6f13d3fa32b0858e9b5c250f7dca711a3579fd060fe16a00b15e4f3c01", func := "loop.example/g00278/laws.FnExactWithin", spec := "fnExactWithin", unfollowed := true, recurses := true, apart := false, narrowed := true }
def FnExactWithinUptoSaid : Prop := fnExactWithinUptoRow.holds Try.pinned (OpenSpec.upto fnExactWithinSpec)

/-- 'laws.FnExactSound', WHERE WHAT IT READS IS OF BULK AT MOST 1048576: true; the input reads as it did. -/
def fnExactSoundUptoRow : OpenClaim := { program := "ytpkicoagakpigaa", sum := "eac0ca6f13d3fa32b0858e9b5c250f7dca711a3579fd060fe16a00b15e4f3c01", func := "loop.example/g00278/laws.FnExactSound", spec := "fnExactSound", unfollowed := true, recurses := true, apart := false, narrowed := true }
def FnExactSoundUptoSaid : Prop := fnExactSoundUptoRow.holds Try.pinned (OpenSpec.upto fnExactSoundSpec)

end Rows
end Go.Proofs.Ytpkicoagakpigaa
