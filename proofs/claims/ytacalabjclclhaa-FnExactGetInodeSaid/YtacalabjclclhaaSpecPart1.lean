/- The contract of spec.Part, as the given laws call it. -/
import Derived.Test.YtacalabjclclhaaLies1
namespace Go.Proofs.Ytacalabjclclhaa.B2
open Go.ChangeShapes Go.WideShapes Go.ChangeAt Go.RowKit
set_option linter.unusedVariables false

set_option maxRecDepth 4000 in
theorem spec_Part (s : ByteArray) (i n : Int) (w : World) (hs : s.size ≤ maxLen) (wi : (Lit.int .i64 i).wf = true) (wn : (Lit.int .i64 n).wf = true) :
    Calls Try.prog 98 #[.string s, .int .i64 i, .int .i64 n] w fun e w' => e = .returned (.string (part s i n)) ∧ w' = w := by
  unfold maxLen at hs
  by_cases h1 : i < 0
  · have e : part s i n = ⟨#[]⟩ := by rw [part, show lies s.size i n = false from decide_eq_false fun h => by omega]; rfl
    rw [e]
    go_enter Try.func98, Try.ntmps98
    go_wp2
    go_ret
    exact ⟨rfl, rfl⟩
  · by_cases h2 : n < 0
    · have e : part s i n = ⟨#[]⟩ := by rw [part, show lies s.size i n = false from decide_eq_false fun h => by omega]; rfl
      rw [e]
      go_enter Try.func98, Try.ntmps98
      go_wp2
      go_ret
      exact ⟨rfl, rfl⟩
    · by_cases h3 : (s.size : Int) < n
      · have e : part s i n = ⟨#[]⟩ := by rw [part, show lies s.size i n = false from decide_eq_false fun h => by omega]; rfl
        rw [e]
        go_enter Try.func98, Try.ntmps98
        go_wp2
        go_ret
        exact ⟨rfl, rfl⟩
      · by_cases h4 : (s.size : Int) - n < i
        · have e : part s i n = ⟨#[]⟩ := by rw [part, show lies s.size i n = false from decide_eq_false fun h => by omega]; rfl
          rw [e]
          go_enter Try.func98, Try.ntmps98
          go_wp2
          go_ret
          exact ⟨rfl, rfl⟩
        · have e : part s i n = s.extract i.toNat (i + n).toNat := by rw [part, show lies s.size i n = true from decide_eq_true (by omega)]; rfl
          rw [e]
          have h5 : i ≤ i + n := by omega
          have h6 : i + n ≤ (s.size : Int) := by omega
          go_enter Try.func98, Try.ntmps98
          go_wp2
          go_ret
          exact ⟨rfl, rfl⟩
end Go.Proofs.Ytacalabjclclhaa.B2
