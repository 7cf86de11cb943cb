/- Contracts of spec.ByteAt and impl.ByteAt, as the given laws call them. -/
import Derived.Test.YtkdjcbmmbjongaaIn1
namespace Go.Proofs.Ytkdjcbmmbjongaa.B1
open Go.ChangeShapes Go.WideShapes Go.ChangeAt Go.RowKit
set_option linter.unusedVariables false

/-- The byte at a place, 0 where there is none. -/
def byteAt (s : ByteArray) (i : Int) : Int := if h : 0 ≤ i ∧ i < s.size then (s[i.toNat]'(by omega)).toNat else 0

theorem spec_ByteAt (s : ByteArray) (i : Int) (w : World) (hs : s.size ≤ maxLen) :
    Calls Try.prog 57 #[.string s, .int .i64 i] w fun e w' => e = .returned (.int .i64 (byteAt s i)) ∧ w' = w := by
  unfold maxLen at hs
  by_cases h : 0 ≤ i ∧ i < s.size
  · have hin : inB i 0 ((s.size : Int) - 1) = true := by simp [inB]; omega
    have e : byteAt s i = (s[i.toNat]'(by omega)).toNat := by simp [byteAt, h]
    obtain ⟨h1, h2⟩ := h
    rw [e]
    have hb := (s[i.toNat]'(by omega)).toNat_lt
    go_enter Try.func57, Try.ntmps57
    go_wp2_with (go_at_call 60; refine (l01In_any _ _ _ _).mono ?_; rintro e w' ⟨rfl, rfl⟩)
    go_ret
    exact ⟨rfl, rfl⟩
  · have hin : inB i 0 ((s.size : Int) - 1) = false := by simp [inB]; omega
    have e : byteAt s i = 0 := by simp [byteAt, h]
    rw [e]
    go_enter Try.func57, Try.ntmps57
    go_wp2_with (go_at_call 60; refine (l01In_any _ _ _ _).mono ?_; rintro e w' ⟨rfl, rfl⟩)
    go_ret
    exact ⟨rfl, rfl⟩

theorem impl_ByteAt (s : ByteArray) (i : Int) (w : World) (hs : s.size ≤ maxLen) :
    Calls Try.prog 93 #[.string s, .int .i64 i] w fun e w' => e = .returned (.int .i64 (byteAt s i)) ∧ w' = w := by
  unfold maxLen at hs
  by_cases h : 0 ≤ i ∧ i < s.size
  · have e : byteAt s i = (s[i.toNat]'(by omega)).toNat := by simp [byteAt, h]
    obtain ⟨h1, h2⟩ := h
    rw [e]
    have hb := (s[i.toNat]'(by omega)).toNat_lt
    have h1' : ¬ i < 0 := by omega
    go_enter Try.func93, Try.ntmps93
    go_wp2
    go_ret
    exact ⟨rfl, rfl⟩
  · have e : byteAt s i = 0 := by simp [byteAt, h]
    rw [e]
    by_cases h1 : i < 0
    · go_enter Try.func93, Try.ntmps93
      go_wp2
      go_ret
      exact ⟨rfl, rfl⟩
    · have h2 : (s.size : Int) ≤ i := by omega
      go_enter Try.func93, Try.ntmps93
      go_wp2
      go_ret
      exact ⟨rfl, rfl⟩
end Go.Proofs.Ytkdjcbmmbjongaa.B1
