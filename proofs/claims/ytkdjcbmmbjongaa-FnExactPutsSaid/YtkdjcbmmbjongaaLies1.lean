/- The contract of impl.liesIn, and the part of a text as a function. -/
import Derived.Test.YtkdjcbmmbjongaaRows
import Derived.WalkKit
import Derived.ProofKit
namespace Go.Proofs.Ytkdjcbmmbjongaa.B2
open Go.ChangeShapes Go.WideShapes Go.ChangeAt Go.RowKit
set_option linter.unusedVariables false

/-- Whether so many bytes from a place on lie in a text of so many. -/
def lies (z : Nat) (i n : Int) : Bool := decide (0 ≤ i ∧ 0 ≤ n ∧ n ≤ (z : Int) - i)

theorem lies_true {z : Nat} {i n : Int} (h : lies z i n = true) : 0 ≤ i ∧ 0 ≤ n ∧ n ≤ (z : Int) - i := by simpa [lies] using h
theorem lies_false {z : Nat} {i n : Int} (h : lies z i n = false) : ¬ (0 ≤ i ∧ 0 ≤ n ∧ n ≤ (z : Int) - i) := of_decide_eq_false h

theorem liesIn_any (s : ByteArray) (i n : Int) (w : World) (hs : s.size ≤ maxLen) :
    Calls Try.prog 36 #[.string s, .int .i64 i, .int .i64 n] w fun e w' => e = .returned (.bool (lies s.size i n)) ∧ w' = w := by
  unfold maxLen at hs
  by_cases h1 : 0 ≤ i
  · by_cases h2 : 0 ≤ n
    · by_cases h3 : i ≤ (s.size : Int)
      · by_cases h4 : n ≤ (s.size : Int) - i
        · have e : lies s.size i n = true := decide_eq_true ⟨h1, h2, h4⟩
          rw [e]
          go_enter Try.func36, Try.ntmps36
          go_wp2
          go_ret
          exact ⟨rfl, rfl⟩
        · have e : lies s.size i n = false := decide_eq_false fun h => h4 h.2.2
          have h4' : decide (n ≤ (s.size : Int) - i) = false := by simpa using h4
          rw [e]
          go_enter Try.func36, Try.ntmps36
          go_wp2
          go_ret
          exact ⟨rfl, rfl⟩
      · have e : lies s.size i n = false := decide_eq_false fun h => by omega
        have h3' : decide (i ≤ (s.size : Int)) = false := by simpa using h3
        rw [e]
        go_enter Try.func36, Try.ntmps36
        go_wp2
        go_ret
        exact ⟨rfl, rfl⟩
    · have e : lies s.size i n = false := decide_eq_false fun h => by omega
      have h2' : decide (0 ≤ n) = false := by simpa using h2
      rw [e]
      go_enter Try.func36, Try.ntmps36
      go_wp2
      go_ret
      exact ⟨rfl, rfl⟩
  · have e : lies s.size i n = false := decide_eq_false fun h => by omega
    have h1' : decide (0 ≤ i) = false := by simpa using h1
    rw [e]
    go_enter Try.func36, Try.ntmps36
    go_wp2
    go_ret
    exact ⟨rfl, rfl⟩

/-- The n bytes from place i on; none where they do not all lie there. -/
def part (s : ByteArray) (i n : Int) : ByteArray := if lies s.size i n then s.extract i.toNat (i + n).toNat else ⟨#[]⟩

end Go.Proofs.Ytkdjcbmmbjongaa.B2
