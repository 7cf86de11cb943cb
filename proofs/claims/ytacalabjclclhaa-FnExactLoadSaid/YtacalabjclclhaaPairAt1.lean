/- Contracts of spec.PairAt and impl.PairAt, as the given laws call them. -/
import Derived.Test.YtacalabjclclhaaLies1
import Derived.Deep.QuietTactic
import Derived.BigQuiet
namespace Go.Proofs.Ytacalabjclclhaa.B6
open Go.ChangeShapes Go.WideShapes Go.ChangeAt Go.RowKit
set_option linter.unusedVariables false

/-- The number whose two bytes stand from a place on, the low one first; 0 where there are not two. -/
def pairAt (s : ByteArray) (i : Int) : Int := if h : 0 ≤ i ∧ i + 1 < s.size then (s[i.toNat]'(by omega)).toNat + 256 * (s[(i + 1).toNat]'(by omega)).toNat else 0

theorem spec_PairAt (s : ByteArray) (i : Int) (w : World) (hs : s.size ≤ 281474976710656) :
    Calls Try.prog 91 #[.string s, .int .i64 i] w fun e w' => e = .returned (.int .i64 (pairAt s i)) ∧ ∃ n, w' = w.drewN n := by
  by_cases h1 : i < 0
  · have e : pairAt s i = 0 := by rw [pairAt, dif_neg (by omega)]
    rw [e]
    go_enter Try.func91, Try.ntmps91
    go_wp2
    go_ret
    exact ⟨rfl, 0, rfl⟩
  · by_cases h2 : (s.size : Int) - 2 < i
    · have e : pairAt s i = 0 := by rw [pairAt, dif_neg (by omega)]
      rw [e]
      go_enter Try.func91, Try.ntmps91
      go_wp2
      go_ret
      exact ⟨rfl, 0, rfl⟩
    · have e : pairAt s i = (s[i.toNat]'(by omega)).toNat + 256 * (s[(i + 1).toNat]'(by omega)).toNat := by rw [pairAt, dif_pos (by omega)]
      rw [e]
      have h3 : i < (s.size : Int) := by omega
      have h4 : i + 1 < (s.size : Int) := by omega
      have h6 : 0 ≤ i := by omega
      have h7 : 0 ≤ i + 1 := by omega
      have b1 := (s[i.toNat]'(by omega)).toNat_lt
      have b2 := (s[(i + 1).toNat]'(by omega)).toNat_lt
      go_enter Try.func91, Try.ntmps91
      go_wp2
      go_quiet (fail)
      go_wp2
      go_ret
      exact ⟨rfl, _, rfl⟩

theorem impl_PairAt (s : ByteArray) (i : Int) (w : World) (hs : s.size ≤ 281474976710656) :
    Calls Try.prog 143 #[.string s, .int .i64 i] w fun e w' => e = .returned (.int .i64 (pairAt s i)) ∧ ∃ n, w' = w.drewN n := by
  have hs' : s.size ≤ maxLen := by unfold maxLen; omega
  by_cases h : B2.lies s.size i 2 = true
  · obtain ⟨h1, h2, h5⟩ := B2.lies_true h
    have e : pairAt s i = (s[i.toNat]'(by omega)).toNat + (s[(i + 1).toNat]'(by omega)).toNat * 256 := by rw [pairAt, dif_pos (by omega), Int.mul_comm]
    rw [e]
    have h3 : i < (s.size : Int) := by omega
    have h4 : i + 1 < (s.size : Int) := by omega
    have h6 : 0 ≤ i := by omega
    have h7 : 0 ≤ i + 1 := by omega
    have b1 := (s[i.toNat]'(by omega)).toNat_lt
    have b2 := (s[(i + 1).toNat]'(by omega)).toNat_lt
    go_enter Try.func143, Try.ntmps143
    go_wp2_with (go_at_call 146; refine (B2.liesIn_any _ _ _ _ hs').mono ?_; rintro e w' ⟨rfl, rfl⟩)
    go_quiet (fail)
    go_wp2
    go_ret
    exact ⟨rfl, _, rfl⟩
  · have h' : B2.lies s.size i 2 = false := by simpa using h
    have e : pairAt s i = 0 := by rw [pairAt, dif_neg (fun h9 => B2.lies_false h' (by omega))]
    rw [e]
    go_enter Try.func143, Try.ntmps143
    go_wp2_with (go_at_call 146; refine (B2.liesIn_any _ _ _ _ hs').mono ?_; rintro e w' ⟨rfl, rfl⟩)
    go_ret
    exact ⟨rfl, 0, rfl⟩
end Go.Proofs.Ytacalabjclclhaa.B6
