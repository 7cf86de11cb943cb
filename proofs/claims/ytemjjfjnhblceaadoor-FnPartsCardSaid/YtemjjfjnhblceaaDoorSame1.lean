/- The contract of laws.sameTexts at rows of the same strings. -/
import Derived.Test.YtemjjfjnhblceaaDoorRows
import Derived.Test.YtemjjfjnhblceaaDoorWords0
import Derived.ProofKit
import Derived.Handy
import Derived.Deep.QuietTactic
import Derived.BigQuiet
namespace Go.Proofs.YtemjjfjnhblceaaDoor.M1
open Go.ChangeShapes Go.WideShapes Go.ChangeAt Go.RowKit
set_option linter.unusedVariables false

/-- Two rows of the same strings are told equal. -/
theorem sameS (ss : List ByteArray) (g1 c1 g2 c2 : Nat) (w : World) (h1 : W0.Row w g1 ss) (h2 : W0.Row w g2 ss) (hn : ss.length ≤ 281474976710656) :
    Calls Tryd.prog 31 #[.slice (some ⟨g1, 0, none⟩) ss.length c1, .slice (some ⟨g2, 0, none⟩) ss.length c2] w fun e w' => e = .returned (.bool true) ∧ ∃ n, w' = w.drewN n := by
  go_enter Tryd.func31, Tryd.ntmps31
  go_wp2
  go_loopw [5] (fun i w' => ∃ k n : Nat, k ≤ ss.length ∧ w' = w.drewN n ∧ i = .int .i64 k) (fun i _ => ss.length - (intOf i).toNat)
  case atStart => exact ⟨0, 0, Nat.zero_le _, rfl, rfl⟩
  case round =>
    obtain ⟨k, n, hk, rfl, rfl⟩ := hrel
    by_cases hlt : k < ss.length
    · have e1 : (0 : Int) ≤ (k : Int) := by omega
      have e2 : (k : Int) < (ss.length : Int) := by omega
      have x1 := h1.cell k hlt
      have x2 := h2.cell k hlt
      go_wp2
      go_quiet (fail)
      go_wp2
      go_roundw
      case rel => exact ⟨k + 1, _, by omega, rfl, by go_num⟩
      case measure => simp [intOf]; omega
    · go_wp2
      go_ret
      exact ⟨rfl, _, rfl⟩

end Go.Proofs.YtemjjfjnhblceaaDoor.M1
