/- Contracts of chapter 2's small functions: a device measured, taken over, held against another, asked whether it is right. -/
import Derived.Test.YtkpcpffpiilcpaaRows
import Derived.WalkKit
import Derived.ProofKit
import Derived.Below
namespace Go.Proofs.Ytkpcpffpiilcpaa.D1
open Go.ChangeShapes Go.WideShapes Go.ChangeAt Go.RowKit
set_option linter.unusedVariables false

/-- What is left of 2^20 behind a device's texts; -1 where nothing is. -/
def sz (a b : ByteArray) : Int := if (a.size : Int) + b.size ≤ 1048576 then 1048576 - a.size - b.size else -1

theorem szDev (a b : ByteArray) (w : World) (ha : a.size ≤ maxLen) (hb : b.size ≤ maxLen) :
    Calls Try.prog 27 #[.agg #[.string a, .string b], .int .i64 1048576] w fun e w' => e = .returned (.int .i64 (sz a b)) ∧ Below w.heap.size w w' := by
  unfold maxLen at ha hb
  by_cases h1 : (a.size : Int) ≤ 1048576
  · by_cases h2 : (a.size : Int) + b.size ≤ 1048576
    · have e : sz a b = 1048576 - a.size - b.size := by simp [sz, h2]
      rw [e]
      go_enter Try.func27, Try.ntmps27
      go_wp2
      go_ret
      exact ⟨rfl, (Below.refl _ _).alloc (Nat.le_refl _) _⟩
    · have e : sz a b = -1 := by simp [sz, h2]
      rw [e]
      go_enter Try.func27, Try.ntmps27
      go_wp2
      go_ret
      exact ⟨rfl, (Below.refl _ _).alloc (Nat.le_refl _) _⟩
  · have e : sz a b = -1 := by
      have : ¬ ((a.size : Int) + b.size ≤ 1048576) := by omega
      simp [sz, this]
    rw [e]
    go_enter Try.func27, Try.ntmps27
    go_wp2
    go_ret
    exact ⟨rfl, (Below.refl _ _).alloc (Nat.le_refl _) _⟩

theorem toDev (a b : ByteArray) (w : World) :
    Calls Try.prog 28 #[.agg #[.string a, .string b]] w fun e w' => e = .returned (.agg #[.string a, .string b]) ∧ Below w.heap.size w w' := by
  go_enter Try.func28, Try.ntmps28
  go_wp2
  exact bodyPost_ret (v := .agg #[.string a, .string b]) (by simp [results, Try.results28, go_sem]) rfl ⟨rfl, (((Below.refl _ _).alloc (Nat.le_refl _) _).alloc (by simp) _).alloc (by simp; omega) _⟩

theorem eqDev (a b : ByteArray) (w : World) :
    Calls Try.prog 33 #[.agg #[.string a, .string b], .agg #[.string a, .string b]] w fun e w' => e = .returned (.bool true) ∧ Below w.heap.size w w' := by
  go_enter Try.func33, Try.ntmps33
  go_wp2
  go_ret
  exact ⟨rfl, ((Below.refl _ _).alloc (Nat.le_refl _) _).alloc (by simp) _⟩

/-- A device is right: 768 bytes each. -/
def ok (a b : ByteArray) : Bool := decide (a.size = 768) && decide (b.size = 768)

theorem ok_true {a b : ByteArray} (h : ok a b = true) : a.size = 768 ∧ b.size = 768 := by simpa [ok] using h
theorem ok_mk {a b : ByteArray} (h1 : a.size = 768) (h2 : b.size = 768) : ok a b = true := by simp [ok, h1, h2]

theorem impl_DevOk (a b : ByteArray) (w : World) (ha : a.size ≤ maxLen) (hb : b.size ≤ maxLen) :
    Calls Try.prog 20 #[.agg #[.string a, .string b]] w fun e w' => e = .returned (.bool (ok a b)) ∧ w' = w.alloc (.cells #[.string a, .string b] 25) := by
  unfold maxLen at ha hb
  by_cases h1 : (a.size : Int) = 768
  · by_cases h2 : (b.size : Int) = 768
    · have e : ok a b = true := ok_mk (by omega) (by omega)
      rw [e]
      go_enter Try.func20, Try.ntmps20
      go_wp2
      go_ret
      exact ⟨rfl, rfl⟩
    · have e : ok a b = false := by simp [ok]; omega
      have h2' : ((b.size : Int) == 768) = false := by simpa using h2
      rw [e]
      go_enter Try.func20, Try.ntmps20
      go_wp2
      go_ret
      exact ⟨rfl, rfl⟩
  · have e : ok a b = false := by simp [ok]; omega
    have h1' : ((a.size : Int) == 768) = false := by simpa using h1
    rw [e]
    go_enter Try.func20, Try.ntmps20
    go_wp2
    go_ret
    exact ⟨rfl, rfl⟩

theorem spec_DevOk (a b : ByteArray) (w : World) (ha : a.size ≤ maxLen) (hb : b.size ≤ maxLen) :
    Calls Try.prog 21 #[.agg #[.string a, .string b]] w fun e w' => e = .returned (.bool (ok a b)) ∧ w' = w.alloc (.cells #[.string a, .string b] 25) := by
  unfold maxLen at ha hb
  by_cases h1 : (a.size : Int) = 768
  · by_cases h2 : (b.size : Int) = 768
    · have e : ok a b = true := ok_mk (by omega) (by omega)
      rw [e]
      go_enter Try.func21, Try.ntmps21
      go_wp2
      go_ret
      exact ⟨rfl, rfl⟩
    · have e : ok a b = false := by simp [ok]; omega
      have h2' : ((b.size : Int) == 768) = false := by simpa using h2
      rw [e]
      go_enter Try.func21, Try.ntmps21
      go_wp2
      go_ret
      exact ⟨rfl, rfl⟩
  · have e : ok a b = false := by simp [ok]; omega
    have h1' : ((a.size : Int) == 768) = false := by simpa using h1
    rw [e]
    go_enter Try.func21, Try.ntmps21
    go_wp2
    go_ret
    exact ⟨rfl, rfl⟩
end Go.Proofs.Ytkpcpffpiilcpaa.D1
