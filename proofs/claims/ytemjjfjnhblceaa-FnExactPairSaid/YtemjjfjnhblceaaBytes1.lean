/- Contracts of the first chapter's plain functions, as the given laws call them: spec.l01In, spec.ByteAt and impl.ByteAt. -/
import Derived.Test.YtemjjfjnhblceaaRows
import Derived.WalkKit
import Derived.ProofKit
namespace Go.Proofs.Ytemjjfjnhblceaa.B1
open Go.ChangeShapes Go.WideShapes Go.ChangeAt Go.RowKit
set_option linter.unusedVariables false

/-- Whether a number lies between two others. -/
def inB (x a b : Int) : Bool := decide (a ≤ x ∧ x ≤ b)

theorem inB_true {x a b : Int} (h : inB x a b = true) : a ≤ x ∧ x ≤ b := by simpa [inB] using h
theorem inB_false {x a b : Int} (h : inB x a b = false) : ¬ (a ≤ x ∧ x ≤ b) := by simpa [inB] using h

theorem l01In_any (x a b : Int) (w : World) :
    Calls Try.prog 18 #[.int .i64 x, .int .i64 a, .int .i64 b] w fun e w' => e = .returned (.bool (inB x a b)) ∧ w' = w := by
  by_cases h1 : a ≤ x
  · by_cases h2 : x ≤ b
    · have e : inB x a b = true := by simp [inB, h1, h2]
      rw [e]
      go_enter Try.func18, Try.ntmps18
      go_wp2
      go_ret
      exact ⟨rfl, rfl⟩
    · have e : inB x a b = false := by simp [inB, h2]
      have h2' : decide (x ≤ b) = false := by simpa using h2
      rw [e]
      go_enter Try.func18, Try.ntmps18
      go_wp2
      go_ret
      exact ⟨rfl, rfl⟩
  · have e : inB x a b = false := by simp [inB, h1]
    have h1' : decide (a ≤ x) = false := by simpa using h1
    rw [e]
    go_enter Try.func18, Try.ntmps18
    go_wp2
    go_ret
    exact ⟨rfl, rfl⟩

/-- The byte at a place, 0 where there is none. -/
def byteAt (s : ByteArray) (i : Int) : Int := if h : 0 ≤ i ∧ i < s.size then (s[i.toNat]'(by omega)).toNat else 0

theorem spec_ByteAt (s : ByteArray) (i : Int) (w : World) (hs : s.size ≤ maxLen) :
    Calls Try.prog 8 #[.string s, .int .i64 i] w fun e w' => e = .returned (.int .i64 (byteAt s i)) ∧ w' = w := by
  unfold maxLen at hs
  by_cases h : 0 ≤ i ∧ i < s.size
  · have hin : inB i 0 ((s.size : Int) - 1) = true := by simp [inB]; omega
    have e : byteAt s i = (s[i.toNat]'(by omega)).toNat := by simp [byteAt, h]
    obtain ⟨h1, h2⟩ := h
    rw [e]
    have hb := (s[i.toNat]'(by omega)).toNat_lt
    go_enter Try.func8, Try.ntmps8
    go_wp2_with (go_at_call 18; refine (l01In_any _ _ _ _).mono ?_; rintro e w' ⟨rfl, rfl⟩)
    go_ret
    exact ⟨rfl, rfl⟩
  · have hin : inB i 0 ((s.size : Int) - 1) = false := by simp [inB]; omega
    have e : byteAt s i = 0 := by simp [byteAt, h]
    rw [e]
    go_enter Try.func8, Try.ntmps8
    go_wp2_with (go_at_call 18; refine (l01In_any _ _ _ _).mono ?_; rintro e w' ⟨rfl, rfl⟩)
    go_ret
    exact ⟨rfl, rfl⟩

theorem impl_ByteAt (s : ByteArray) (i : Int) (w : World) (hs : s.size ≤ maxLen) :
    Calls Try.prog 9 #[.string s, .int .i64 i] w fun e w' => e = .returned (.int .i64 (byteAt s i)) ∧ w' = w := by
  unfold maxLen at hs
  by_cases h : 0 ≤ i ∧ i < s.size
  · have e : byteAt s i = (s[i.toNat]'(by omega)).toNat := by simp [byteAt, h]
    obtain ⟨h1, h2⟩ := h
    rw [e]
    have hb := (s[i.toNat]'(by omega)).toNat_lt
    have h1' : ¬ i < 0 := by omega
    go_enter Try.func9, Try.ntmps9
    go_wp2
    go_ret
    exact ⟨rfl, rfl⟩
  · have e : byteAt s i = 0 := by simp [byteAt, h]
    rw [e]
    by_cases h1 : i < 0
    · go_enter Try.func9, Try.ntmps9
      go_wp2
      go_ret
      exact ⟨rfl, rfl⟩
    · have h2 : (s.size : Int) ≤ i := by omega
      go_enter Try.func9, Try.ntmps9
      go_wp2
      go_ret
      exact ⟨rfl, rfl⟩
end Go.Proofs.Ytemjjfjnhblceaa.B1
