/- Plain facts on reading an inode out of bytes. -/
import Derived.Test.YtacalabjclclhaaRec0
import Derived.Test.YtacalabjclclhaaPairAt1
import Derived.Test.YtacalabjclclhaaEnt4
namespace Go.Proofs.Ytacalabjclclhaa.G0
open Go
set_option linter.unusedVariables false
set_option linter.unusedSimpArgs false

/-- How many pages are read: as many as the size asks for, no more than twelve. -/
def cnt (s : ByteArray) : Nat := min (P0.need (B6.pairAt s 2)).toNat 12

/-- The first pages that stand in a record. -/
def pgs (s : ByteArray) (k : Nat) : List Int := (List.range k).map fun (j : Nat) => B1.byteAt s (4 + (j : Int))

theorem pgs_length (s : ByteArray) (k : Nat) : (pgs s k).length = k := by simp [pgs]
theorem pgs_succ (s : ByteArray) (k : Nat) : pgs s k ++ [B1.byteAt s (4 + (k : Int))] = pgs s (k + 1) := by simp [pgs, List.range_succ]

/-- The bytes of the inode that a text would tell. -/
def txt (s : ByteArray) : ByteArray := R0.putI (B1.byteAt s 0) (B1.byteAt s 1) (B6.pairAt s 2) (pgs s (cnt s))

/-- Whether a text is that of an inode. -/
def isI (s : ByteArray) : Bool := decide (s.size = 16) && ((txt s).toList == s.toList)

def gK (s : ByteArray) : Int := if isI s then B1.byteAt s 0 else 0
def gO (s : ByteArray) : Int := if isI s then B1.byteAt s 1 else 0
def gS (s : ByteArray) : Int := if isI s then B6.pairAt s 2 else 0
def gZ (s : ByteArray) : List Int := if isI s then pgs s (cnt s) else []

theorem pairAt_lt (s : ByteArray) (i : Int) : 0 ≤ B6.pairAt s i ∧ B6.pairAt s i ≤ 65535 := by
  unfold B6.pairAt
  split
  · rename_i h
    have h1 := (s[i.toNat]'(by omega)).toNat_lt
    have h2 := (s[(i + 1).toNat]'(by omega)).toNat_lt
    omega
  · omega

theorem need_nonneg {x : Int} (h : 0 ≤ x) : 0 ≤ P0.need x := by unfold P0.need; omega

theorem cnt_le (s : ByteArray) : cnt s ≤ 12 := Nat.min_le_right _ _

theorem cnt_lt (s : ByteArray) (k : Nat) : k < cnt s ↔ (k : Int) < P0.need (B6.pairAt s 2) ∧ k < 12 := by
  have := need_nonneg (pairAt_lt s 2).1
  unfold cnt
  omega

/-- Where the text is an inode's the inode is right. -/
theorem isI_ok {s : ByteArray} (h : isI s = true) : s.size = 16 ∧ (txt s).toList = s.toList ∧ I0.ok (B1.byteAt s 0) (B1.byteAt s 1) (B6.pairAt s 2) (pgs s (cnt s)) = true := by
  simp only [isI, Bool.and_eq_true, decide_eq_true_eq, beq_iff_eq] at h
  refine ⟨h.1, h.2, ?_⟩
  cases hok : I0.ok (B1.byteAt s 0) (B1.byteAt s 1) (B6.pairAt s 2) (pgs s (cnt s)) with
  | true => rfl
  | false =>
    have h2 := h.2
    rw [txt, R0.putI, hok, if_neg (by decide)] at h2
    have h3 := congrArg List.length h2
    rw [Lib.toList_data, Lib.toList_data, ← Lib.size_eq, ← Lib.size_eq] at h3
    rw [h.1] at h3
    exact absurd h3 (by decide)

theorem isI_of {s : ByteArray} (h16 : s.size = 16) (h : ((txt s).toList == s.toList) = true) : isI s = true := by rw [isI, decide_eq_true h16, h]; rfl
theorem isI_not {s : ByteArray} (h : ((txt s).toList == s.toList) = false) : isI s = false := by rw [isI, h, Bool.and_false]
theorem isI_no {s : ByteArray} (h : ¬ s.size = 16) : isI s = false := by rw [isI, decide_eq_false h, Bool.false_and]
theorem isI_bad {s : ByteArray} (h : I0.ok (B1.byteAt s 0) (B1.byteAt s 1) (B6.pairAt s 2) (pgs s (cnt s)) = false) : isI s = false := by
  cases hi : isI s with
  | false => rfl
  | true => rw [(isI_ok hi).2.2] at h; cases h

theorem g_no {s : ByteArray} (h : isI s = false) : gK s = 0 ∧ gO s = 0 ∧ gS s = 0 ∧ gZ s = [] := by simp [gK, gO, gS, gZ, h]
theorem g_yes {s : ByteArray} (h : isI s = true) : gK s = B1.byteAt s 0 ∧ gO s = B1.byteAt s 1 ∧ gS s = B6.pairAt s 2 ∧ gZ s = pgs s (cnt s) := by simp [gK, gO, gS, gZ, h]
end Go.Proofs.Ytacalabjclclhaa.G0
