/- Contracts of strings.Clone and impl.Part, as the given laws call them. -/
import Derived.Test.YtkdjcbmmbjongaaLies1
import Derived.Test.YtkdjcbmmbjongaaShelf
namespace Go.Proofs.Ytkdjcbmmbjongaa.B2
open Go.ChangeShapes Go.WideShapes Go.ChangeAt Go.RowKit
set_option linter.unusedVariables false

theorem clone_any (s : ByteArray) (w : World) (hs : s.size ≤ 281474976710656) :
    Calls Try.prog 21 #[.string s] w fun e w' => e = .returned (.string s) ∧ Below w.heap.size w w' := by
  go_enter Try.func21, Try.ntmps21
  go_wp2_with (go_at_call 35; refine (Try.stringslite_Clone _ _ hs).mono ?_; rintro e w' ⟨rfl, hb⟩)
  go_ret
  exact ⟨rfl, hb⟩

theorem part_size (s : ByteArray) (i n : Int) : (part s i n).size ≤ s.size := by
  unfold part
  split
  · simp only [ByteArray.size_extract]; omega
  · exact Nat.zero_le _

theorem impl_Part (s : ByteArray) (i n : Int) (w : World) (hs : s.size ≤ 281474976710656) :
    Calls Try.prog 68 #[.string s, .int .i64 i, .int .i64 n] w fun e w' => e = .returned (.string (part s i n)) ∧ Below w.heap.size w w' := by
  have hs' : s.size ≤ maxLen := by unfold maxLen; omega
  have hz := part_size s i n
  by_cases h : lies s.size i n = true
  · have e : part s i n = s.extract i.toNat (i + n).toNat := by rw [part, h]; rfl
    rw [e] at hz ⊢
    obtain ⟨h1, h2, h3⟩ := lies_true h
    have h5 : i ≤ i + n := by omega
    have h6 : i + n ≤ (s.size : Int) := by omega
    go_enter Try.func68, Try.ntmps68
    go_wp2_with (first | (go_at_call 36; refine (liesIn_any _ _ _ _ hs').mono ?_; rintro e w' ⟨rfl, rfl⟩) | (go_at_call 21; refine (clone_any _ _ (by omega)).mono ?_; rintro e w' ⟨rfl, hb⟩))
    go_ret
    exact ⟨rfl, hb⟩
  · have h' : lies s.size i n = false := by simpa using h
    have e : part s i n = ⟨#[]⟩ := by rw [part, h']; rfl
    rw [e]
    go_enter Try.func68, Try.ntmps68
    go_wp2_with (go_at_call 36; refine (liesIn_any _ _ _ _ hs').mono ?_; rintro e w' ⟨rfl, rfl⟩)
    go_ret
    exact ⟨rfl, Below.refl _ _⟩
end Go.Proofs.Ytkdjcbmmbjongaa.B2
