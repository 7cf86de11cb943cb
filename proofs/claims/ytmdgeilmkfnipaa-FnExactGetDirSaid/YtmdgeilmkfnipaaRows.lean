/-
  No cell of these rows narrows 'for every input' (looked for: loops, veiled, ifaces, maps, wideKeys, modest, calm, conditions, laid).
  DERIVED. THE GIVEN ROWS OF THIS SEAT. 12 by the template 'for every input the law returns true; each argument reads behind the call as it read before'; 0 by the template 'total and deterministic' (their statements: YtmdgeilmkfnipaaTotals.lean).
  GIVEN WITH THE SEED: the statements are not yours to turn. If you find one false, say at which input.
  Laid BY PROGRAM, IN A SANDBOX (cutbox-rows.mjs): the forced cells as the released guide's own fill.sh prints them over the translation 7d5e6d6ccf872053… (all of the seat's roots in one cut). By AI agents, Wed Nov 11 2026. No macro, syntax, notation, axiom, sorry.
-/
import Derived.Test.YtmdgeilmkfnipaaChecked
import GoSem.Claim
import GoSem.ClaimJoined
import GoSem.ClaimMapViews
import Derived.JoinedTies
import Derived.KernelRfl
namespace Go.Proofs.Ytmdgeilmkfnipaa
/- THE CELL 'sum', in the pinned program and in every row, IS THE sha256 OF THE DUMP (.gsa) THAT YtmdgeilmkfnipaaProg.lean LOADS. Nothing in Lean hashes anything: it is a label: what it is worth is what the hold of that sum in a sandbox is worth. -/
noncomputable def Try.pinned : Pinned := { name := "ytmdgeilmkfnipaa", sum := "7d5e6d6ccf872053c4e737f134d0cb5e29caba54209594154cab045497b18cf3", checked := Try.checked }
namespace Rows
def none {H : Type} : Left H := { results := [], args := [] }

/-- 'laws.FnInode': WHATEVER THE INPUT: true; the input reads as it did. -/
def fnInodeSpec : ChangeSpec := { name := "fnInode", fn := fun _ => fun
  | [d] => { results := [.lit (.bool true)], args := [d] }
  | _ => none }
def fnInodeRow : OpenClaim := { program := "ytmdgeilmkfnipaa", sum := "7d5e6d6ccf872053c4e737f134d0cb5e29caba54209594154cab045497b18cf3", func := "loop.example/g00278/laws.FnInode", spec := "fnInode", unfollowed := true, recurses := true, apart := false }
def FnInodeSaid : Prop := fnInodeRow.holds Try.pinned (OpenSpec.ofChange fnInodeSpec)

/-- ITS FALSE NEIGHBOUR: 'it returns false'. Refute it at one input. -/
def fnInodeWrong : ChangeSpec := { name := "fnInode", fn := fun _ => fun
  | [d] => { results := [.lit (.bool false)], args := [d] }
  | _ => none }
def FnInodeWrongFalsely : Prop := fnInodeRow.holds Try.pinned (OpenSpec.ofChange fnInodeWrong)

/-- 'laws.FnDir': WHATEVER THE INPUT: true; the input reads as it did. -/
def fnDirSpec : ChangeSpec := { name := "fnDir", fn := fun _ => fun
  | [d] => { results := [.lit (.bool true)], args := [d] }
  | _ => none }
def fnDirRow : OpenClaim := { program := "ytmdgeilmkfnipaa", sum := "7d5e6d6ccf872053c4e737f134d0cb5e29caba54209594154cab045497b18cf3", func := "loop.example/g00278/laws.FnDir", spec := "fnDir", unfollowed := true, recurses := true, apart := false }
def FnDirSaid : Prop := fnDirRow.holds Try.pinned (OpenSpec.ofChange fnDirSpec)

/-- ITS FALSE NEIGHBOUR: 'it returns false'. Refute it at one input. -/
def fnDirWrong : ChangeSpec := { name := "fnDir", fn := fun _ => fun
  | [d] => { results := [.lit (.bool false)], args := [d] }
  | _ => none }
def FnDirWrongFalsely : Prop := fnDirRow.holds Try.pinned (OpenSpec.ofChange fnDirWrong)

/-- 'laws.FnExactInodeOk': WHATEVER THE INPUT: true; the input reads as it did. -/
def fnExactInodeOkSpec : ChangeSpec := { name := "fnExactInodeOk", fn := fun _ => fun
  | [d] => { results := [.lit (.bool true)], args := [d] }
  | _ => none }
def fnExactInodeOkRow : OpenClaim := { program := "ytmdgeilmkfnipaa", sum := "7d5e6d6ccf872053c4e737f134d0cb5e29caba54209594154cab045497b18cf3", func := "loop.example/g00278/laws.FnExactInodeOk", spec := "fnExactInodeOk", unfollowed := true, recurses := true, apart := false }
def FnExactInodeOkSaid : Prop := fnExactInodeOkRow.holds Try.pinned (OpenSpec.ofChange fnExactInodeOkSpec)

/-- ITS FALSE NEIGHBOUR: 'it returns false'. Refute it at one input. -/
def fnExactInodeOkWrong : ChangeSpec := { name := "fnExactInodeOk", fn := fun _ => fun
  | [d] => { results := [.lit (.bool false)], args := [d] }
  | _ => none }
def FnExactInodeOkWrongFalsely : Prop := fnExactInodeOkRow.holds Try.pinned (OpenSpec.ofChange fnExactInodeOkWrong)

/-- 'laws.FnExactPutInode': WHATEVER THE INPUT: true; the input reads as it did. -/
def fnExactPutInodeSpec : ChangeSpec := { name := "fnExactPutInode", fn := fun _ => fun
  | [d] => { results := [.lit (.bool true)], args := [d] }
  | _ => none }
def fnExactPutInodeRow : OpenClaim := { program := "ytmdgeilmkfnipaa", sum := "7d5e6d6ccf872053c4e737f134d0cb5e29caba54209594154cab045497b18cf3", func := "loop.example/g00278/laws.FnExactPutInode", spec := "fnExactPutInode", unfollowed := true, recurses := true, apart := false }
def FnExactPutInodeSaid : Prop := fnExactPutInodeRow.holds Try.pinned (OpenSpec.ofChange fnExactPutInodeSpec)

/-- ITS FALSE NEIGHBOUR: 'it returns false'. Refute it at one input. -/
def fnExactPutInodeWrong : ChangeSpec := { name := "fnExactPutInode", fn := fun _ => fun
  | [d] => { results := [.lit (.bool false)], args := [d] }
  | _ => none }
def FnExactPutInodeWrongFalsely : Prop := fnExactPutInodeRow.holds Try.pinned (OpenSpec.ofChange fnExactPutInodeWrong)

/-- 'laws.FnExactGetInode': WHATEVER THE INPUT: true; the input reads as it did. -/
def fnExactGetInodeSpec : ChangeSpec := { name := "fnExactGetInode", fn := fun _ => fun
  | [d] => { results := [.lit (.bool true)], args := [d] }
  | _ => none }
def fnExactGetInodeRow : OpenClaim := { program := "ytmdgeilmkfnipaa", sum := "7d5e6d6ccf872053c4e737f134d0cb5e29caba54209594154cab045497b18cf3", func := "loop.example/g00278/laws.FnExactGetInode", spec := "fnExactGetInode", unfollowed := true, recurses := true, apart := false }
def FnExactGetInodeSaid : Prop := fnExactGetInodeRow.holds Try.pinned (OpenSpec.ofChange fnExactGetInodeSpec)

/-- ITS FALSE NEIGHBOUR: 'it returns false'. Refute it at one input. -/
def fnExactGetInodeWrong : ChangeSpec := { name := "fnExactGetInode", fn := fun _ => fun
  | [d] => { results := [.lit (.bool false)], args := [d] }
  | _ => none }
def FnExactGetInodeWrongFalsely : Prop := fnExactGetInodeRow.holds Try.pinned (OpenSpec.ofChange fnExactGetInodeWrong)

/-- 'laws.FnExactEntryOk': WHATEVER THE INPUT: true; the input reads as it did. -/
def fnExactEntryOkSpec : ChangeSpec := { name := "fnExactEntryOk", fn := fun _ => fun
  | [d] => { results := [.lit (.bool true)], args := [d] }
  | _ => none }
def fnExactEntryOkRow : OpenClaim := { program := "ytmdgeilmkfnipaa", sum := "7d5e6d6ccf872053c4e737f134d0cb5e29caba54209594154cab045497b18cf3", func := "loop.example/g00278/laws.FnExactEntryOk", spec := "fnExactEntryOk", apart := false }
def FnExactEntryOkSaid : Prop := fnExactEntryOkRow.holds Try.pinned (OpenSpec.ofChange fnExactEntryOkSpec)

/-- ITS FALSE NEIGHBOUR: 'it returns false'. Refute it at one input. -/
def fnExactEntryOkWrong : ChangeSpec := { name := "fnExactEntryOk", fn := fun _ => fun
  | [d] => { results := [.lit (.bool false)], args := [d] }
  | _ => none }
def FnExactEntryOkWrongFalsely : Prop := fnExactEntryOkRow.holds Try.pinned (OpenSpec.ofChange fnExactEntryOkWrong)

/-- 'laws.FnExactPutEntry': WHATEVER THE INPUT: true; the input reads as it did. -/
def fnExactPutEntrySpec : ChangeSpec := { name := "fnExactPutEntry", fn := fun _ => fun
  | [d] => { results := [.lit (.bool true)], args := [d] }
  | _ => none }
def fnExactPutEntryRow : OpenClaim := { program := "ytmdgeilmkfnipaa", sum := "7d5e6d6ccf872053c4e737f134d0cb5e29caba54209594154cab045497b18cf3", func := "loop.example/g00278/laws.FnExactPutEntry", spec := "fnExactPutEntry", apart := false }
def FnExactPutEntrySaid : Prop := fnExactPutEntryRow.holds Try.pinned (OpenSpec.ofChange fnExactPutEntrySpec)

/-- ITS FALSE NEIGHBOUR: 'it returns false'. Refute it at one input. -/
def fnExactPutEntryWrong : ChangeSpec := { name := "fnExactPutEntry", fn := fun _ => fun
  | [d] => { results := [.lit (.bool false)], args := [d] }
  | _ => none }
def FnExactPutEntryWrongFalsely : Prop := fnExactPutEntryRow.holds Try.pinned (OpenSpec.ofChange fnExactPutEntryWrong)

/-- 'laws.FnExactGetEntry': WHATEVER THE INPUT: true; the input reads as it did. -/
def fnExactGetEntrySpec : ChangeSpec := { name := "fnExactGetEntry", fn := fun _ => fun
  | [d] => { results := [.lit (.bool true)], args := [d] }
  | _ => none }
def fnExactGetEntryRow : OpenClaim := { program := "ytmdgeilmkfnipaa", sum := "7d5e6d6ccf872053c4e737f134d0cb5e29caba54209594154cab045497b18cf3", func := "loop.example/g00278/laws.FnExactGetEntry", spec := "fnExactGetEntry", apart := false }
def FnExactGetEntrySaid : Prop := fnExactGetEntryRow.holds Try.pinned (OpenSpec.ofChange fnExactGetEntrySpec)

/-- ITS FALSE NEIGHBOUR: 'it returns false'. Refute it at one input. -/
def fnExactGetEntryWrong : ChangeSpec := { name := "fnExactGetEntry", fn := fun _ => fun
  | [d] => { results := [.lit (.bool false)], args := [d] }
  | _ => none }
def FnExactGetEntryWrongFalsely : Prop := fnExactGetEntryRow.holds Try.pinned (OpenSpec.ofChange fnExactGetEntryWrong)

/-- 'laws.FnExactPutDir': WHATEVER THE INPUT: true; the input reads as it did. -/
def fnExactPutDirSpec : ChangeSpec := { name := "fnExactPutDir", fn := fun _ => fun
  | [d] => { results := [.lit (.bool true)], args := [d] }
  | _ => none }
def fnExactPutDirRow : OpenClaim := { program := "ytmdgeilmkfnipaa", sum := "7d5e6d6ccf872053c4e737f134d0cb5e29caba54209594154cab045497b18cf3", func := "loop.example/g00278/laws.FnExactPutDir", spec := "fnExactPutDir", apart := false }
def FnExactPutDirSaid : Prop := fnExactPutDirRow.holds Try.pinned (OpenSpec.ofChange fnExactPutDirSpec)

/-- ITS FALSE NEIGHBOUR: 'it returns false'. Refute it at one input. -/
def fnExactPutDirWrong : ChangeSpec := { name := "fnExactPutDir", fn := fun _ => fun
  | [d] => { results := [.lit (.bool false)], args := [d] }
  | _ => none }
def FnExactPutDirWrongFalsely : Prop := fnExactPutDirRow.holds Try.pinned (OpenSpec.ofChange fnExactPutDirWrong)

/-- 'laws.FnExactGetDir': WHATEVER THE INPUT: true; the input reads as it did. -/
def fnExactGetDirSpec : ChangeSpec := { name := "fnExactGetDir", fn := fun _ => fun
  | [d] => { results := [.lit (.bool true)], args := [d] }
  | _ => none }
def fnExactGetDirRow : OpenClaim := { program := "ytmdgeilmkfnipaa", sum := "7d5e6d6ccf872053c4e737f134d0cb5e29caba54209594154cab045497b18cf3", func := "loop.example/g00278/laws.FnExactGetDir", spec := "fnExactGetDir", apart := false }
def FnExactGetDirSaid : Prop := fnExactGetDirRow.holds Try.pinned (OpenSpec.ofChange fnExactGetDirSpec)

/-- ITS FALSE NEIGHBOUR: 'it returns false'. Refute it at one input. -/
def fnExactGetDirWrong : ChangeSpec := { name := "fnExactGetDir", fn := fun _ => fun
  | [d] => { results := [.lit (.bool false)], args := [d] }
  | _ => none }
def FnExactGetDirWrongFalsely : Prop := fnExactGetDirRow.holds Try.pinned (OpenSpec.ofChange fnExactGetDirWrong)

/-- 'laws.FnExactRecAt': WHATEVER THE INPUT: true; the input reads as it did. -/
def fnExactRecAtSpec : ChangeSpec := { name := "fnExactRecAt", fn := fun _ => fun
  | [d] => { results := [.lit (.bool true)], args := [d] }
  | _ => none }
def fnExactRecAtRow : OpenClaim := { program := "ytmdgeilmkfnipaa", sum := "7d5e6d6ccf872053c4e737f134d0cb5e29caba54209594154cab045497b18cf3", func := "loop.example/g00278/laws.FnExactRecAt", spec := "fnExactRecAt", apart := false }
def FnExactRecAtSaid : Prop := fnExactRecAtRow.holds Try.pinned (OpenSpec.ofChange fnExactRecAtSpec)

/-- ITS FALSE NEIGHBOUR: 'it returns false'. Refute it at one input. -/
def fnExactRecAtWrong : ChangeSpec := { name := "fnExactRecAt", fn := fun _ => fun
  | [d] => { results := [.lit (.bool false)], args := [d] }
  | _ => none }
def FnExactRecAtWrongFalsely : Prop := fnExactRecAtRow.holds Try.pinned (OpenSpec.ofChange fnExactRecAtWrong)

/-- 'laws.FnExactLoad': WHATEVER THE INPUT: true; the input reads as it did. -/
def fnExactLoadSpec : ChangeSpec := { name := "fnExactLoad", fn := fun _ => fun
  | [d1, d2] => { results := [.lit (.bool true)], args := [d1, d2] }
  | _ => none }
def fnExactLoadRow : OpenClaim := { program := "ytmdgeilmkfnipaa", sum := "7d5e6d6ccf872053c4e737f134d0cb5e29caba54209594154cab045497b18cf3", func := "loop.example/g00278/laws.FnExactLoad", spec := "fnExactLoad", unfollowed := true, recurses := true, apart := false }
def FnExactLoadSaid : Prop := fnExactLoadRow.holds Try.pinned (OpenSpec.ofChange fnExactLoadSpec)

/-- ITS FALSE NEIGHBOUR: 'it returns false'. Refute it at one input. -/
def fnExactLoadWrong : ChangeSpec := { name := "fnExactLoad", fn := fun _ => fun
  | [d1, d2] => { results := [.lit (.bool false)], args := [d1, d2] }
  | _ => none }
def FnExactLoadWrongFalsely : Prop := fnExactLoadRow.holds Try.pinned (OpenSpec.ofChange fnExactLoadWrong)

/- THE SECOND FORM. 'bulk': how many values and letters a reading holds, each counted each time it is reached (what is shared counts as often as it is met; a slice's spare places count too). A statement '..UptoSaid' is the law's where the arguments, and the package variables that the reading takes, are together of bulk at most 1048576: NARROWER than '..Said'. Prove '..Said' where nothing that the law and all that it calls make is longer than what came in: it says more and counts as full. Else prove '..UptoSaid'. A law counts once. -/
mutual
def uptoBulk {H : Type} : DataW H → Nat
  | .lit (.string bytes) => bytes.length + 1
  | .lit _ => 1
  | .nil => 1
  | .ptr d => uptoBulk d + 1
  | .slice elems spare => uptoBulkAll elems + uptoBulkAll spare + 1
  | .agg parts => uptoBulkAll parts + 1
  | .iface _ d => uptoBulk d + 1
  | .map entries => uptoBulkEntries entries + 1
  | .held _ => 1
def uptoBulkAll {H : Type} : List (DataW H) → Nat
  | [] => 0
  | d :: r => uptoBulk d + uptoBulkAll r
def uptoBulkEntries {H : Type} : List (Lit × DataW H) → Nat
  | [] => 0
  | x :: r => uptoBulkEntry x + uptoBulkEntries r
def uptoBulkEntry {H : Type} : Lit × DataW H → Nat
  | (.string bytes, d) => bytes.length + uptoBulk d + 1
  | (_, d) => uptoBulk d + 1
 end
def uptoSmall : (H : Type) → List (DataW H) → Bool := fun _ ds => decide (uptoBulkAll ds ≤ 1048576)
def OpenSpec.upto (s : _root_.Go.ChangeSpec) : _root_.Go.OpenSpec := { _root_.Go.OpenSpec.ofChange s with cond := some uptoSmall }

/-- 'laws.FnInode', WHERE WHAT IT READS IS OF BULK AT MOST 1048576: true; the input reads as it did. -/
def fnInodeUptoRow : OpenClaim := { program := "ytmdgeilmkfnipaa", sum := "7d5e6d6ccf872053c4e737f134d0cb5e29caba54209594154cab045497b18cf3", func := "loop.example/g00278/laws.FnInode", spec := "fnInode", unfollowed := true, recurses := true, apart := false, narrowed := true }
def FnInodeUptoSaid : Prop := fnInodeUptoRow.holds Try.pinned (OpenSpec.upto fnInodeSpec)

/-- 'laws.FnDir', WHERE WHAT IT READS IS OF BULK AT MOST 1048576: true; the input reads as it did. -/
def fnDirUptoRow : OpenClaim := { program := "ytmdgeilmkfnipaa", sum := "7d5e6d6ccf872053c4e737f134d0cb5e29caba54209594154cab045497b18cf3", func := "loop.example/g00278/laws.FnDir", spec := "fnDir", unfollowed := true, recurses := true, apart := false, narrowed := true }
def FnDirUptoSaid : Prop := fnDirUptoRow.holds Try.pinned (OpenSpec.upto fnDirSpec)

/-- 'laws.FnExactInodeOk', WHERE WHAT IT READS IS OF BULK AT MOST 1048576: true; the input reads as it did. -/
def fnExactInodeOkUptoRow : OpenClaim := { program := "ytmdgeilmkfnipaa", sum := "7d5e6d6ccf872053c4e737f134d0cb5e29caba54209594154cab045497b18cf3", func := "loop.example/g00278/laws.FnExactInodeOk", spec := "fnExactInodeOk", unfollowed := true, recurses := true, apart := false, narrowed := true }
def FnExactInodeOkUptoSaid : Prop := fnExactInodeOkUptoRow.holds Try.pinned (OpenSpec.upto fnExactInodeOkSpec)

/-- 'laws.FnExactPutInode', WHERE WHAT IT READS IS OF BULK AT MOST 1048576: true; the input reads as it did. -/
def fnExactPutInodeUptoRow : OpenClaim := { program := "ytmdgeilmkfnipaa", sum := "7d5e6d6ccf872053c4e737f134d0cb5e29caba54209594154cab045497b18cf3", func := "loop.example/g00278/laws.FnExactPutInode", spec := "fnExactPutInode", unfollowed := true, recurses := true, apart := false, narrowed := true }
def FnExactPutInodeUptoSaid : Prop := fnExactPutInodeUptoRow.holds Try.pinned (OpenSpec.upto fnExactPutInodeSpec)

/-- 'laws.FnExactGetInode', WHERE WHAT IT READS IS OF BULK AT MOST 1048576: true; the input reads as it did. -/
def fnExactGetInodeUptoRow : OpenClaim := { program := "ytmdgeilmkfnipaa", sum := "7d5e6d6ccf872053c4e737f134d0cb5e29caba54209594154cab045497b18cf3", func := "loop.example/g00278/laws.FnExactGetInode", spec := "fnExactGetInode", unfollowed := true, recurses := true, apart := false, narrowed := true }
def FnExactGetInodeUptoSaid : Prop := fnExactGetInodeUptoRow.holds Try.pinned (OpenSpec.upto fnExactGetInodeSpec)

/-- 'laws.FnExactEntryOk', WHERE WHAT IT READS IS OF BULK AT MOST 1048576: true; the input reads as it did. -/
def fnExactEntryOkUptoRow : OpenClaim := { program := "ytmdgeilmkfnipaa", sum := "7d5e6d6ccf872053c4e737f134d0cb5e29caba54209594154cab045497b18cf3", func := "loop.example/g00278/laws.FnExactEntryOk", spec := "fnExactEntryOk", apart := false, narrowed := true }
def FnExactEntryOkUptoSaid : Prop := fnExactEntryOkUptoRow.holds Try.pinned (OpenSpec.upto fnExactEntryOkSpec)

/-- 'laws.FnExactPutEntry', WHERE WHAT IT READS IS OF BULK AT MOST 1048576: true; the input reads as it did. -/
def fnExactPutEntryUptoRow : OpenClaim := { program := "ytmdgeilmkfnipaa", sum := "7d5e6d6ccf872053c4e737f134d0cb5e29caba54209594154cab045497b18cf3", func := "loop.example/g00278/laws.FnExactPutEntry", spec := "fnExactPutEntry", apart := false, narrowed := true }
def FnExactPutEntryUptoSaid : Prop := fnExactPutEntryUptoRow.holds Try.pinned (OpenSpec.upto fnExactPutEntrySpec)

/-- 'laws.FnExactGetEntry', WHERE WHAT IT READS IS OF BULK AT MOST 1048576: true; the input reads as it did. -/
def fnExactGetEntryUptoRow : OpenClaim := { program := "ytmdgeilmkfnipaa", sum := "7d5e6d6ccf872053c4e737f134d0cb5e29caba54209594154cab045497b18cf3", func := "loop.example/g00278/laws.FnExactGetEntry", spec := "fnExactGetEntry", apart := false, narrowed := true }
def FnExactGetEntryUptoSaid : Prop := fnExactGetEntryUptoRow.holds Try.pinned (OpenSpec.upto fnExactGetEntrySpec)

/-- 'laws.FnExactPutDir', WHERE WHAT IT READS IS OF BULK AT MOST 1048576: true; the input reads as it did. -/
def fnExactPutDirUptoRow : OpenClaim := { program := "ytmdgeilmkfnipaa", sum := "7d5e6d6ccf872053c4e737f134d0cb5e29caba54209594154cab045497b18cf3", func := "loop.example/g00278/laws.FnExactPutDir", spec := "fnExactPutDir", apart := false, narrowed := true }
def FnExactPutDirUptoSaid : Prop := fnExactPutDirUptoRow.holds Try.pinned (OpenSpec.upto fnExactPutDirSpec)

/-- 'laws.FnExactGetDir', WHERE WHAT IT READS IS OF BULK AT MOST 1048576: true; the input reads as it did. -/
def fnExactGetDirUptoRow : OpenClaim := { program := "ytmdgeilmkfnipaa", sum := "7d5e6d6ccf872053c4e737f134d0cb5e29caba54209594154cab045497b18cf3", func := "loop.example/g00278/laws.FnExactGetDir", spec := "fnExactGetDir", apart := false, narrowed := true }
def FnExactGetDirUptoSaid : Prop := fnExactGetDirUptoRow.holds Try.pinned (OpenSpec.upto fnExactGetDirSpec)

/-- 'laws.FnExactRecAt', WHERE WHAT IT READS IS OF BULK AT MOST 1048576: true; the input reads as it did. -/
def fnExactRecAtUptoRow : OpenClaim := { program := "ytmdgeilmkfnipaa", sum := "7d5e6d6ccf872053c4e737f134d0cb5e29caba54209594154cab045497b18cf3", func := "loop.example/g00278/laws.FnExactRecAt", spec := "fnExactRecAt", apart := false, narrowed := true }
def FnExactRecAtUptoSaid : Prop := fnExactRecAtUptoRow.holds Try.pinned (OpenSpec.upto fnExactRecAtSpec)

/-- 'laws.FnExactLoad', WHERE WHAT IT READS IS OF BULK AT MOST 1048576: true; the input reads as it did. -/
def fnExactLoadUptoRow : OpenClaim := { program := "ytmdgeilmkfnipaa", sum := "7d5e6d6ccf872053c4e737f134d0cb5e29caba54209594154cab045497b18cf3", func := "loop.example/g00278/laws.FnExactLoad", spec := "fnExactLoad", unfollowed := true, recurses := true, apart := false, narrowed := true }
def FnExactLoadUptoSaid : Prop := fnExactLoadUptoRow.holds Try.pinned (OpenSpec.upto fnExactLoadSpec)

end Rows
end Go.Proofs.Ytmdgeilmkfnipaa
