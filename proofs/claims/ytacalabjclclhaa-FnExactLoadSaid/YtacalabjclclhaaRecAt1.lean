/- Contracts of spec.RecAt and impl.RecAt, as the given laws call them. -/
import Derived.Test.YtacalabjclclhaaIn1
namespace Go.Proofs.Ytacalabjclclhaa.L1
open Go.ChangeShapes Go.WideShapes Go.ChangeAt Go.RowKit
set_option linter.unusedVariables false

/-- The place of the record of an inode; -1 where there is none. -/
def recAt (i : Int) : Int := if B1.inB i 0 7 then 32 + i * 16 else -1

theorem spec_RecAt (i : Int) (w : World) :
    Calls Try.prog 37 #[.int .i64 i] w fun e w' => e = .returned (.int .i64 (recAt i)) ∧ w' = w := by
  by_cases h : B1.inB i 0 7 = true
  · have e : recAt i = 32 + i * 16 := by rw [recAt, if_pos h]
    obtain ⟨h1, h2⟩ := B1.inB_true h
    rw [e]
    go_enter Try.func37, Try.ntmps37
    go_wp2_with (go_at_call 104; refine (B1.l01In_any _ _ _ _).mono ?_; rintro e w' ⟨rfl, rfl⟩)
    go_ret
    exact ⟨rfl, rfl⟩
  · have h' : B1.inB i 0 7 = false := by simpa using h
    have e : recAt i = -1 := by rw [recAt, if_neg h]
    rw [e]
    go_enter Try.func37, Try.ntmps37
    go_wp2_with (go_at_call 104; refine (B1.l01In_any _ _ _ _).mono ?_; rintro e w' ⟨rfl, rfl⟩)
    go_ret
    exact ⟨rfl, rfl⟩

theorem impl_RecAt (i : Int) (w : World) :
    Calls Try.prog 36 #[.int .i64 i] w fun e w' => e = .returned (.int .i64 (recAt i)) ∧ w' = w := by
  by_cases h1 : i < 0
  · have e : recAt i = -1 := by rw [recAt, show B1.inB i 0 7 = false from decide_eq_false (by omega)]; rfl
    rw [e]
    go_enter Try.func36, Try.ntmps36
    go_wp2
    go_ret
    exact ⟨rfl, rfl⟩
  · by_cases h2 : 8 ≤ i
    · have e : recAt i = -1 := by rw [recAt, show B1.inB i 0 7 = false from decide_eq_false (by omega)]; rfl
      rw [e]
      go_enter Try.func36, Try.ntmps36
      go_wp2
      go_ret
      exact ⟨rfl, rfl⟩
    · have e : recAt i = 32 + i * 16 := by rw [recAt, show B1.inB i 0 7 = true from decide_eq_true (by omega)]; rfl
      rw [e]
      go_enter Try.func36, Try.ntmps36
      go_wp2
      go_ret
      exact ⟨rfl, rfl⟩
end Go.Proofs.Ytacalabjclclhaa.L1
