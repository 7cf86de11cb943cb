/- Plain facts on the names of entries and on an entry as bytes. -/
import Derived.Test.YtkdjcbmmbjongaaIn1
import Derived.Test.YtkdjcbmmbjongaaZeros1
import Derived.Test.YtkdjcbmmbjongaaWith1
import Derived.Test.YtkdjcbmmbjongaaByteAt1
import Derived.Lib.Strings
namespace Go.Proofs.Ytkdjcbmmbjongaa.E0
open Go
set_option linter.unusedVariables false

/-- A sign that a name may have: a letter a to z, a digit, a dot. -/
def chr (c : UInt8) : Bool := decide (97 ≤ c.toNat ∧ c.toNat ≤ 122) || (decide (48 ≤ c.toNat ∧ c.toNat ≤ 57) || decide (c.toNat = 46))

theorem chr_false {c : UInt8} (h : chr c = false) : ¬ (97 ≤ c.toNat ∧ c.toNat ≤ 122) ∧ ¬ (48 ≤ c.toNat ∧ c.toNat ≤ 57) ∧ ¬ c.toNat = 46 := by
  simp only [chr, Bool.or_eq_false_iff, decide_eq_false_iff_not] at h
  exact h
theorem chr_true {c : UInt8} (h : chr c = true) : (97 ≤ c.toNat ∧ c.toNat ≤ 122) ∨ (48 ≤ c.toNat ∧ c.toNat ≤ 57) ∨ c.toNat = 46 := by
  simp only [chr, Bool.or_eq_true, decide_eq_true_eq] at h
  exact h

/-- The text is a dot; two dots. -/
def dot1 (s : ByteArray) : Bool := s.toList == [46]
def dot2 (s : ByteArray) : Bool := s.toList == [46, 46]

/-- What a name must be. -/
def nameOk (s : ByteArray) : Bool := s.data.toList.all chr && (B1.inB s.size 1 14 && (!dot1 s && !dot2 s))

/-- What an entry must be. -/
def entryOk (i : Int) (s : ByteArray) : Bool := nameOk s && B1.inB i 1 7

theorem take_snoc (s : ByteArray) (k : Nat) (h : k < s.size) : s.data.toList.take (k + 1) = s.data.toList.take k ++ [s[k]] := by
  rw [List.take_succ_eq_append_getElem (by rw [← Lib.size_eq]; exact h)]
  rfl

theorem take_all (s : ByteArray) : s.data.toList.take s.size = s.data.toList := List.take_of_length_le (by rw [← Lib.size_eq]; exact Nat.le_refl _)

theorem all_snoc {s : ByteArray} {k : Nat} (h : k < s.size) (ha : (s.data.toList.take k).all chr = true) (hc : chr s[k] = true) : (s.data.toList.take (k + 1)).all chr = true := by
  rw [take_snoc s k h]
  simp only [List.all_append, List.all_cons, List.all_nil, Bool.and_true, Bool.and_eq_true]
  exact ⟨ha, hc⟩

theorem all_bad {s : ByteArray} {k : Nat} (hk : k < s.size) (h : chr s[k] = false) : s.data.toList.all chr = false := by
  rw [List.all_eq_false]
  refine ⟨s[k], ?_, by rw [h]; decide⟩
  have hk' : k < s.data.toList.length := by rw [← Lib.size_eq]; exact hk
  exact List.getElem_mem hk'

theorem nameOk_bad {s : ByteArray} {k : Nat} (hk : k < s.size) (h : chr s[k] = false) : nameOk s = false := by rw [nameOk, all_bad hk h]; rfl
theorem nameOk_all {s : ByteArray} (h : s.data.toList.all chr = true) : nameOk s = (B1.inB s.size 1 14 && (!dot1 s && !dot2 s)) := by rw [nameOk, h]; rfl
theorem nameOk_size {s : ByteArray} (h : nameOk s = true) : 1 ≤ s.size ∧ s.size ≤ 14 := by
  simp only [nameOk, Bool.and_eq_true] at h
  have := B1.inB_true h.2.1
  omega

theorem entryOk_true {i : Int} {s : ByteArray} (h : entryOk i s = true) : nameOk s = true ∧ (1 ≤ i ∧ i ≤ 7) := by
  simp only [entryOk, Bool.and_eq_true] at h
  exact ⟨h.1, B1.inB_true h.2⟩

/-- An entry's bytes ahead of the zeros. -/
def headOf (i : Int) (s : ByteArray) : ByteArray := ⟨#[UInt8.ofNat i.toNat, UInt8.ofNat s.size]⟩ ++ s

/-- An entry as bytes; none where it is not right. -/
def putE (i : Int) (s : ByteArray) : ByteArray := if entryOk i s then headOf i s ++ B4.nulls (14 - s.size) else ⟨#[]⟩

theorem headOf_size (i : Int) (s : ByteArray) : (headOf i s).size = 2 + s.size := by
  rw [headOf, ByteArray.size_append]
  rfl

theorem laid_front (t : ByteArray) (n : Nat) (h : t.size ≤ n) : B5.laid (B4.nulls n) 0 t = t ++ B4.nulls (n - t.size) := by
  have hz := B4.nulls_size n
  rw [B5.laid, show B2.lies (B4.nulls n).size 0 t.size = true from decide_eq_true (by omega), if_pos rfl]
  have h2 : ((0 : Int) + (t.size : Int)).toNat = 0 + t.size := by omega
  rw [h2]
  have := B5.laid_eq (B4.nulls n) 0 t (by omega)
  rw [show ((0 : Int)).toNat = 0 from rfl, this]
  apply ByteArray.ext
  simp only [ByteArray.data_append]
  apply Array.toList_inj.1
  simp only [Array.toList_append, List.take_zero, List.nil_append, Nat.zero_add, B4.nulls, Array.toList_replicate, List.drop_replicate]
  rw [← Lib.size_eq]

theorem putE_size (i : Int) (s : ByteArray) : (putE i s).size ≤ 16 := by
  unfold putE
  split
  · rename_i h
    have := nameOk_size (entryOk_true h).1
    rw [ByteArray.size_append, headOf_size, B4.nulls_size]
    omega
  · exact Nat.zero_le _
end Go.Proofs.Ytkdjcbmmbjongaa.E0
