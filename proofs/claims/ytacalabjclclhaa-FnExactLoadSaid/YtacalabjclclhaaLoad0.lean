/- Plain facts on what Load tells. -/
import Derived.Test.YtacalabjclclhaaGet0
import Derived.Test.YtacalabjclclhaaRecAt1
namespace Go.Proofs.Ytacalabjclclhaa.O0
open Go
set_option linter.unusedVariables false
set_option linter.unusedSimpArgs false

/-- The record of an inode in a memory. -/
def recd (mem : ByteArray) (i : Int) : ByteArray := B2.part mem (L1.recAt i) 16

/-- The first pages' bytes. -/
def joined (mem : ByteArray) (zs : List Int) : Nat → ByteArray
  | 0 => ⟨#[]⟩
  | k + 1 => joined mem zs k ++ B2.part mem (zs.getD k 0 * 32) 32

theorem page_size {mem : ByteArray} (hm : mem.size = 768) {z : Int} (h0 : 5 ≤ z) (h1 : z ≤ 23) : (B2.part mem (z * 32) 32).size = 32 := by
  rw [B2.part, show B2.lies mem.size (z * 32) 32 = true from decide_eq_true (by omega), if_pos rfl, ByteArray.size_extract]
  omega

theorem joined_size {mem : ByteArray} (hm : mem.size = 768) {zs : List Int} (hp : P0.pagesOk zs = true) : ∀ k, k ≤ zs.length → (joined mem zs k).size = 32 * k
  | 0, _ => rfl
  | k + 1, h => by
    have hz := R0.pages_bounds hp (k := k) (by omega)
    rw [joined, ByteArray.size_append, joined_size hm hp k (by omega), page_size hm hz.1 hz.2]
    omega

/-- Whether there is an inode to load. -/
def isL (mem : ByteArray) (i : Int) : Bool := decide (mem.size = 768) && (G0.isI (recd mem i) && !decide (B1.byteAt (recd mem i) 0 = 0))

def lK (mem : ByteArray) (i : Int) : Int := if isL mem i then G0.gK (recd mem i) else 0
def lO (mem : ByteArray) (i : Int) : Int := if isL mem i then G0.gO (recd mem i) else 0
def lS (mem : ByteArray) (i : Int) : Int := if isL mem i then G0.gS (recd mem i) else 0
def lZ (mem : ByteArray) (i : Int) : List Int := if isL mem i then G0.gZ (recd mem i) else []
def lD (mem : ByteArray) (i : Int) : ByteArray := if isL mem i then (joined mem (G0.gZ (recd mem i)) (G0.gZ (recd mem i)).length).extract 0 (G0.gS (recd mem i)).toNat else ⟨#[]⟩

theorem l_no {mem : ByteArray} {i : Int} (h : isL mem i = false) : lK mem i = 0 ∧ lO mem i = 0 ∧ lS mem i = 0 ∧ lZ mem i = [] ∧ lD mem i = ⟨#[]⟩ := by simp [lK, lO, lS, lZ, lD, h]
theorem l_yes {mem : ByteArray} {i : Int} (h : isL mem i = true) : lK mem i = G0.gK (recd mem i) ∧ lO mem i = G0.gO (recd mem i) ∧ lS mem i = G0.gS (recd mem i) ∧ lZ mem i = G0.gZ (recd mem i) ∧ lD mem i = (joined mem (G0.gZ (recd mem i)) (G0.gZ (recd mem i)).length).extract 0 (G0.gS (recd mem i)).toNat := by simp [lK, lO, lS, lZ, lD, h]

theorem isL_size {mem : ByteArray} {i : Int} (h : ¬ mem.size = 768) : isL mem i = false := by rw [isL, decide_eq_false h, Bool.false_and]
theorem isL_rec {mem : ByteArray} {i : Int} (h : G0.isI (recd mem i) = false) : isL mem i = false := by rw [isL, h, Bool.false_and, Bool.and_false]
theorem isL_free {mem : ByteArray} {i : Int} (h : B1.byteAt (recd mem i) 0 = 0) : isL mem i = false := by rw [isL, decide_eq_true h, Bool.not_true, Bool.and_false, Bool.and_false]
theorem isL_of {mem : ByteArray} {i : Int} (h1 : mem.size = 768) (h2 : G0.isI (recd mem i) = true) (h3 : ¬ B1.byteAt (recd mem i) 0 = 0) : isL mem i = true := by rw [isL, decide_eq_true h1, h2, decide_eq_false h3]; rfl

theorem recd_size (mem : ByteArray) (i : Int) (h : mem.size ≤ 281474976710656) : (recd mem i).size ≤ 281474976710656 := by
  have := B2.part_size mem (L1.recAt i) 16
  unfold recd
  omega

/-- The inode that is loaded: its numbers. -/
theorem got {s : ByteArray} (h : G0.isI s = true) : (0 ≤ G0.gS s ∧ G0.gS s ≤ 192) ∧ (G0.gZ s).length ≤ 6 ∧ G0.gS s ≤ 32 * ((G0.gZ s).length : Int) ∧ P0.pagesOk (G0.gZ s) = true ∧ (0 ≤ G0.gK s ∧ G0.gK s ≤ 2) := by
  have hb := R0.ok_bounds (G0.isI_ok h).2.2
  obtain ⟨e1, e2, e3, e4⟩ := G0.g_yes h
  rw [e1, e3, e4]
  refine ⟨hb.2.2.1, hb.2.2.2.1, ?_, hb.2.2.2.2.2, hb.1⟩
  rw [hb.2.2.2.2.1]
  unfold P0.need
  omega

theorem cut (t : ByteArray) (m : Nat) (h : m ≤ t.size) : t.extract 0 m ++ t.extract m t.size = t := by
  apply ByteArray.ext
  apply Array.toList_inj.1
  simp only [ByteArray.data_append, Array.toList_append, Lib.extract_data, List.drop_zero, Nat.sub_zero]
  have : (t.data.toList.drop m).take (t.size - m) = t.data.toList.drop m := List.take_of_length_le (by rw [List.length_drop, ← Lib.size_eq]; exact Nat.le_refl _)
  rw [this, List.take_append_drop]
end Go.Proofs.Ytacalabjclclhaa.O0
