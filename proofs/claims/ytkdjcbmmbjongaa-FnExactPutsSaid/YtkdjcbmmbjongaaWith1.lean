/- Contracts of spec.With and impl.With, as the given laws call them. -/
import Derived.Test.YtkdjcbmmbjongaaLies1
import Derived.Test.YtkdjcbmmbjongaaLib0
import Derived.Handy
import Derived.Deep.QuietTactic
import Derived.BigQuiet
namespace Go.Proofs.Ytkdjcbmmbjongaa.B5
open Go.ChangeShapes Go.WideShapes Go.ChangeAt Go.RowKit
set_option linter.unusedVariables false

/-- The one text with the other in the place of as many bytes from a place on; the one text where they do not all lie in it. -/
def laid (s : ByteArray) (i : Int) (t : ByteArray) : ByteArray := if B2.lies s.size i t.size then s.extract 0 i.toNat ++ t ++ s.extract (i + t.size).toNat s.size else s

theorem spec_With (s : ByteArray) (i : Int) (t : ByteArray) (w : World) (hs : s.size ≤ 281474976710656) (ht : t.size ≤ 281474976710656) :
    Calls Try.prog 19 #[.string s, .int .i64 i, .string t] w fun e w' => e = .returned (.string (laid s i t)) ∧ ∃ n, w' = w.drewN n := by
  by_cases h1 : i < 0
  · have e : laid s i t = s := by rw [laid, show B2.lies s.size i t.size = false from decide_eq_false fun h => by omega]; rfl
    rw [e]
    go_enter Try.func19, Try.ntmps19
    go_wp2
    go_ret
    exact ⟨rfl, 0, rfl⟩
  · by_cases h3 : (s.size : Int) < (t.size : Int)
    · have e : laid s i t = s := by rw [laid, show B2.lies s.size i t.size = false from decide_eq_false fun h => by omega]; rfl
      rw [e]
      go_enter Try.func19, Try.ntmps19
      go_wp2
      go_ret
      exact ⟨rfl, 0, rfl⟩
    · by_cases h4 : (s.size : Int) - (t.size : Int) < i
      · have e : laid s i t = s := by rw [laid, show B2.lies s.size i t.size = false from decide_eq_false fun h => by omega]; rfl
        rw [e]
        go_enter Try.func19, Try.ntmps19
        go_wp2
        go_ret
        exact ⟨rfl, 0, rfl⟩
      · have e : laid s i t = s.extract 0 i.toNat ++ t ++ s.extract (i + t.size).toNat s.size := by rw [laid, show B2.lies s.size i t.size = true from decide_eq_true (by omega)]; rfl
        rw [e]
        have h5 : i ≤ (s.size : Int) := by omega
        have h6 : i + (t.size : Int) ≤ (s.size : Int) := by omega
        have h7 : 0 ≤ i + (t.size : Int) := by omega
        have z1 : (s.extract 0 i.toNat).size ≤ s.size := by simp only [ByteArray.size_extract]; omega
        have z2 : (s.extract (i + t.size).toNat s.size).size ≤ s.size := by simp only [ByteArray.size_extract]; omega
        have z3 : (s.extract 0 i.toNat).size + t.size ≤ 9223372036854775807 := by omega
        have z4 : (s.extract 0 i.toNat ++ t).size + (s.extract (i + t.size).toNat s.size).size ≤ 9223372036854775807 := by rw [ByteArray.size_append]; omega
        go_enter Try.func19, Try.ntmps19
        go_wp2
        go_quiet (fail)
        go_wp2
        go_ret
        exact ⟨rfl, _, rfl⟩

theorem laid_eq (s : ByteArray) (k : Nat) (t : ByteArray) (h : k + t.size ≤ s.size) :
    s.extract 0 k ++ t ++ s.extract (k + t.size) s.size = ⟨(s.data.toList.take k ++ t.data.toList ++ s.data.toList.drop (k + t.data.toList.length)).toArray⟩ := by
  apply ByteArray.ext
  apply Array.toList_inj.1
  have e1 : (s.data.toList.drop (k + t.data.toList.length)).take (s.size - (k + t.size)) = s.data.toList.drop (k + t.data.toList.length) :=
    List.take_of_length_le (by rw [List.length_drop, ← Lib.size_eq, ← Lib.size_eq]; omega)
  simp only [ByteArray.data_append, Array.toList_append, Lib.extract_data, List.drop_zero, Nat.sub_zero]
  rw [Lib.size_eq t] at *
  rw [e1]

theorem info8 : (Try.prog.info? 5).map (·.size) = some 1 := by kernel_rfl

theorem impl_With (s : ByteArray) (i : Int) (t : ByteArray) (w : World) (hs : s.size ≤ 281474976710656) (ht : t.size ≤ 281474976710656) :
    Calls Try.prog 22 #[.string s, .int .i64 i, .string t] w fun e w' => e = .returned (.string (laid s i t)) ∧ Below w.heap.size w w' := by
  have hs' : s.size ≤ maxLen := by unfold maxLen; omega
  obtain ⟨W, cap, hcv, hcap, hb, hz, hH, hF⟩ := B0.conv_to (P := Try.prog) w 9 61 5 s Try.underlying9 Try.underlying61 Try.underlying5
  have hlen : s.data.toList.length = s.size := (Lib.size_eq s).symm
  have hself : (⟨s.data.toList.toArray⟩ : ByteArray) = s := Lib.mk_data s
  have hback : (convert 61 9 (.slice (some ⟨w.heap.size, 0, none⟩) s.size cap)).run Try.prog W = .ok (.string s) W := by
    have := B0.conv_back (P := Try.prog) W 61 9 5 w.heap.size 0 cap s.data.toList Try.underlying61 Try.underlying5 Try.underlying9 hH s.size hlen.symm
    rwa [hself] at this
  by_cases h : B2.lies s.size i t.size = true
  · obtain ⟨h1, h2, h3⟩ := B2.lies_true h
    have e : laid s i t = s.extract 0 i.toNat ++ t ++ s.extract (i + t.size).toNat s.size := by rw [laid, h]; rfl
    by_cases h0 : t.size = 0
    · have e' : laid s i t = s := by
        rw [e, show (i + (t.size : Int)).toNat = i.toNat + t.size by omega, laid_eq s i.toNat t (by omega)]
        have : t.data.toList = [] := List.eq_nil_of_length_eq_zero (by rw [← Lib.size_eq]; exact h0)
        rw [this]
        simp
      have hcp : ∀ d dl dc W', (Builtin.copy_ #[61, 9] 3 #[.slice d dl dc, .string t]).run Try.prog W' = .ok (goInt 0) W' := fun d dl dc W' =>
        Lib.run_copy_empty_string W' 61 9 3 5 d dl dc t Try.underlying61 (by rw [info8]; rfl) h0
      rw [e']
      clear hH hF e e' hself h0
      by_cases h9 : cap = i.toNat
      · subst h9
        go_enter Try.func22, Try.ntmps22
        go_wp2_with (go_at_call 36; refine (B2.liesIn_any _ _ _ _ hs').mono ?_; rintro e w' ⟨rfl, rfl⟩)
        go_ret
        exact ⟨rfl, hb⟩
      · go_enter Try.func22, Try.ntmps22
        go_wp2_with (go_at_call 36; refine (B2.liesIn_any _ _ _ _ hs').mono ?_; rintro e w' ⟨rfl, rfl⟩)
        go_ret
        exact ⟨rfl, hb⟩
    · have h9 : ¬ cap = i.toNat := by omega
      have htl : t.data.toList.length = t.size := (Lib.size_eq t).symm
      have hcp := B0.copy_str (P := Try.prog) W 61 9 3 5 w.heap.size i.toNat (s.size - i.toNat) (cap - i.toNat) t Try.underlying61 info8 (by omega)
        (fun j hj => by
          have := hH (i.toNat + j) (by omega)
          rw [Nat.zero_add] at this
          rw [this]
          rfl) (fun j hj => hF _ (by omega))
      have hH2 := B0.holds_with W w.heap.size s.data.toList t.data.toList i.toNat (by omega) hH
      have hb2 : Below w.heap.size w (W.setCells w.heap.size i.toNat (Lib.byteCells t.data.toList)) := B0.below_setCells (Nat.le_refl _) _ _ _ hb
      obtain ⟨W2, hW2⟩ : ∃ W2, W2 = W.setCells w.heap.size i.toNat (Lib.byteCells t.data.toList) := ⟨_, rfl⟩
      rw [← hW2] at hcp hH2 hb2
      have hback2 : (convert 61 9 (.slice (some ⟨w.heap.size, 0, none⟩) s.size cap)).run Try.prog W2 = .ok (.string (laid s i t)) W2 := by
        have := B0.conv_back (P := Try.prog) W2 61 9 5 w.heap.size 0 cap _ Try.underlying61 Try.underlying5 Try.underlying9 hH2 s.size (by simp; omega)
        rw [e, show (i + (t.size : Int)).toNat = i.toNat + t.size by omega, laid_eq s i.toNat t (by omega)]
        exact this
      clear hH hF hH2 hW2 e hself hback h0 hlen htl
      go_enter Try.func22, Try.ntmps22
      go_wp2_with (go_at_call 36; refine (B2.liesIn_any _ _ _ _ hs').mono ?_; rintro e w' ⟨rfl, rfl⟩)
      go_ret
      exact ⟨rfl, hb2⟩
  · have h' : B2.lies s.size i t.size = false := by simpa using h
    have e : laid s i t = s := by rw [laid, h']; rfl
    rw [e]
    clear hH hF e hself
    go_enter Try.func22, Try.ntmps22
    go_wp2_with (go_at_call 36; refine (B2.liesIn_any _ _ _ _ hs').mono ?_; rintro e w' ⟨rfl, rfl⟩)
    go_ret
    exact ⟨rfl, hb⟩
end Go.Proofs.Ytkdjcbmmbjongaa.B5
