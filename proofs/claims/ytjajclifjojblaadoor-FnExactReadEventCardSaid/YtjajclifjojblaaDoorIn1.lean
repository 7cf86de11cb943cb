/- The contract of spec.l01In. -/
import Derived.Test.YtjajclifjojblaaDoorRows
import Derived.WalkKit
import Derived.ProofKit
namespace Go.Proofs.YtjajclifjojblaaDoor.B1
open Go.ChangeShapes Go.WideShapes Go.ChangeAt Go.RowKit
set_option linter.unusedVariables false

/-- Whether a number lies between two others. -/
def inB (x a b : Int) : Bool := decide (a ≤ x ∧ x ≤ b)

theorem inB_true {x a b : Int} (h : inB x a b = true) : a ≤ x ∧ x ≤ b := by simpa [inB] using h
theorem inB_false {x a b : Int} (h : inB x a b = false) : ¬ (a ≤ x ∧ x ≤ b) := by simpa [inB] using h

theorem l01In_any (x a b : Int) (w : World) :
    Calls Tryd.prog 14 #[.int .i64 x, .int .i64 a, .int .i64 b] w fun e w' => e = .returned (.bool (inB x a b)) ∧ w' = w := by
  by_cases h1 : a ≤ x
  · by_cases h2 : x ≤ b
    · have e : inB x a b = true := by simp [inB, h1, h2]
      rw [e]
      go_enter Tryd.func14, Tryd.ntmps14
      go_wp2
      go_ret
      exact ⟨rfl, rfl⟩
    · have e : inB x a b = false := by simp [inB, h2]
      have h2' : decide (x ≤ b) = false := by simpa using h2
      rw [e]
      go_enter Tryd.func14, Tryd.ntmps14
      go_wp2
      go_ret
      exact ⟨rfl, rfl⟩
  · have e : inB x a b = false := by simp [inB, h1]
    have h1' : decide (a ≤ x) = false := by simpa using h1
    rw [e]
    go_enter Tryd.func14, Tryd.ntmps14
    go_wp2
    go_ret
    exact ⟨rfl, rfl⟩

end Go.Proofs.YtjajclifjojblaaDoor.B1
