/- Contracts of impl.liesIn, strings.Clone, spec.Part and impl.Part, as the given laws call them. -/
import Derived.Test.YtemjjfjnhblceaaBytes1
namespace Go.Proofs.Ytemjjfjnhblceaa.B2
open Go.ChangeShapes Go.WideShapes Go.ChangeAt Go.RowKit
set_option linter.unusedVariables false

/-- Whether so many bytes from a place on lie in a text of so many. -/
def lies (z : Nat) (i n : Int) : Bool := decide (0 ≤ i ∧ 0 ≤ n ∧ n ≤ (z : Int) - i)

theorem lies_true {z : Nat} {i n : Int} (h : lies z i n = true) : 0 ≤ i ∧ 0 ≤ n ∧ n ≤ (z : Int) - i := by simpa [lies] using h
theorem lies_false {z : Nat} {i n : Int} (h : lies z i n = false) : ¬ (0 ≤ i ∧ 0 ≤ n ∧ n ≤ (z : Int) - i) := of_decide_eq_false h

theorem liesIn_any (s : ByteArray) (i n : Int) (w : World) (hs : s.size ≤ maxLen) :
    Calls Try.prog 19 #[.string s, .int .i64 i, .int .i64 n] w fun e w' => e = .returned (.bool (lies s.size i n)) ∧ w' = w := by
  unfold maxLen at hs
  by_cases h1 : 0 ≤ i
  · by_cases h2 : 0 ≤ n
    · by_cases h3 : i ≤ (s.size : Int)
      · by_cases h4 : n ≤ (s.size : Int) - i
        · have e : lies s.size i n = true := decide_eq_true ⟨h1, h2, h4⟩
          rw [e]
          go_enter Try.func19, Try.ntmps19
          go_wp2
          go_ret
          exact ⟨rfl, rfl⟩
        · have e : lies s.size i n = false := decide_eq_false fun h => h4 h.2.2
          have h4' : decide (n ≤ (s.size : Int) - i) = false := by simpa using h4
          rw [e]
          go_enter Try.func19, Try.ntmps19
          go_wp2
          go_ret
          exact ⟨rfl, rfl⟩
      · have e : lies s.size i n = false := decide_eq_false fun h => by omega
        have h3' : decide (i ≤ (s.size : Int)) = false := by simpa using h3
        rw [e]
        go_enter Try.func19, Try.ntmps19
        go_wp2
        go_ret
        exact ⟨rfl, rfl⟩
    · have e : lies s.size i n = false := decide_eq_false fun h => by omega
      have h2' : decide (0 ≤ n) = false := by simpa using h2
      rw [e]
      go_enter Try.func19, Try.ntmps19
      go_wp2
      go_ret
      exact ⟨rfl, rfl⟩
  · have e : lies s.size i n = false := decide_eq_false fun h => by omega
    have h1' : decide (0 ≤ i) = false := by simpa using h1
    rw [e]
    go_enter Try.func19, Try.ntmps19
    go_wp2
    go_ret
    exact ⟨rfl, rfl⟩

/-- The n bytes from place i on; none where they do not all lie there. -/
def part (s : ByteArray) (i n : Int) : ByteArray := if lies s.size i n then s.extract i.toNat (i + n).toNat else ⟨#[]⟩

theorem spec_Part (s : ByteArray) (i n : Int) (w : World) (hs : s.size ≤ maxLen) (wi : (Lit.int .i64 i).wf = true) (wn : (Lit.int .i64 n).wf = true) :
    Calls Try.prog 10 #[.string s, .int .i64 i, .int .i64 n] w fun e w' => e = .returned (.string (part s i n)) ∧ w' = w := by
  unfold maxLen at hs
  by_cases h1 : i < 0
  · have e : part s i n = ⟨#[]⟩ := by rw [part, show lies s.size i n = false from decide_eq_false fun h => by omega]; rfl
    rw [e]
    go_enter Try.func10, Try.ntmps10
    go_wp2
    go_ret
    exact ⟨rfl, rfl⟩
  · by_cases h2 : n < 0
    · have e : part s i n = ⟨#[]⟩ := by rw [part, show lies s.size i n = false from decide_eq_false fun h => by omega]; rfl
      rw [e]
      go_enter Try.func10, Try.ntmps10
      go_wp2
      go_ret
      exact ⟨rfl, rfl⟩
    · by_cases h3 : (s.size : Int) < n
      · have e : part s i n = ⟨#[]⟩ := by rw [part, show lies s.size i n = false from decide_eq_false fun h => by omega]; rfl
        rw [e]
        go_enter Try.func10, Try.ntmps10
        go_wp2
        go_ret
        exact ⟨rfl, rfl⟩
      · by_cases h4 : (s.size : Int) - n < i
        · have e : part s i n = ⟨#[]⟩ := by rw [part, show lies s.size i n = false from decide_eq_false fun h => by omega]; rfl
          rw [e]
          go_enter Try.func10, Try.ntmps10
          go_wp2
          go_ret
          exact ⟨rfl, rfl⟩
        · have e : part s i n = s.extract i.toNat (i + n).toNat := by rw [part, show lies s.size i n = true from decide_eq_true (by omega)]; rfl
          rw [e]
          have h5 : i ≤ i + n := by omega
          have h6 : i + n ≤ (s.size : Int) := by omega
          go_enter Try.func10, Try.ntmps10
          go_wp2
          go_ret
          exact ⟨rfl, rfl⟩
end Go.Proofs.Ytemjjfjnhblceaa.B2
