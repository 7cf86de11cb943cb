/- Contracts of spec.Pair and impl.Pair, as the given laws call them. -/
import Derived.Test.YtkdjcbmmbjongaaIn1
import Derived.Test.YtkdjcbmmbjongaaLib0
import Derived.Handy
namespace Go.Proofs.Ytkdjcbmmbjongaa.B3
open Go.ChangeShapes Go.WideShapes Go.ChangeAt Go.RowKit
set_option linter.unusedVariables false

/-- A number of 0 to 65535 as two bytes, the low one first; none for another. -/
def pair (n : Int) : ByteArray := if B1.inB n 0 65535 then ⟨#[UInt8.ofNat (n % 256).toNat, UInt8.ofNat (n / 256).toNat]⟩ else ⟨#[]⟩

theorem ofNat_int (n : Int) (h0 : 0 ≤ n) (h1 : n < 256) : ((UInt8.ofNat n.toNat).toNat : Int) = n := by
  have : n.toNat < 256 := by omega
  simp [Nat.mod_eq_of_lt this]
  omega

theorem conv2 (x y : Int) (hx : 0 ≤ x ∧ x < 256) (hy : 0 ≤ y ∧ y < 256) (w : World) :
    (convert 61 9 (.slice (some ⟨w.heap.size, 0, none⟩) 2 2)).run Try.prog (w.alloc (.cells #[.int .u8 x, .int .u8 y] 5)) = .ok (.string ⟨#[UInt8.ofNat x.toNat, UInt8.ofNat y.toNat]⟩) (w.alloc (.cells #[.int .u8 x, .int .u8 y] 5)) :=
  B0.conv_back _ 61 9 5 _ 0 2 [UInt8.ofNat x.toNat, UInt8.ofNat y.toNat] Try.underlying61 Try.underlying5 Try.underlying9
    (B0.holds_new _ _ _ _ _ fun j hj => by
      match j, hj with
      | 0, _ => simp only [List.getElem_cons_zero, ofNat_int x hx.1 hx.2]; rfl
      | 1, _ => simp only [List.getElem_cons_succ, List.getElem_cons_zero, ofNat_int y hy.1 hy.2]; rfl) 2 rfl

theorem spec_Pair (n : Int) (w : World) :
    Calls Try.prog 65 #[.int .i64 n] w fun e w' => e = .returned (.string (pair n)) ∧ Below w.heap.size w w' := by
  by_cases h : B1.inB n 0 65535 = true
  · have e : pair n = ⟨#[UInt8.ofNat (n % 256).toNat, UInt8.ofNat (n / 256).toNat]⟩ := by rw [pair, h]; rfl
    rw [e]
    obtain ⟨h1, h2⟩ := B1.inB_true h
    have hc := conv2 (n % 256) (n / 256) (by omega) (by omega)
    go_enter Try.func65, Try.ntmps65
    go_wp2_with (go_at_call 60; refine (B1.l01In_any _ _ _ _).mono ?_; rintro e w' ⟨rfl, rfl⟩)
    go_ret
    exact ⟨rfl, by go_grown⟩
  · have h' : B1.inB n 0 65535 = false := by simpa using h
    have e : pair n = ⟨#[]⟩ := by rw [pair, h']; rfl
    rw [e]
    go_enter Try.func65, Try.ntmps65
    go_wp2_with (go_at_call 60; refine (B1.l01In_any _ _ _ _).mono ?_; rintro e w' ⟨rfl, rfl⟩)
    go_ret
    exact ⟨rfl, Below.refl _ _⟩

theorem impl_Pair (n : Int) (w : World) :
    Calls Try.prog 83 #[.int .i64 n] w fun e w' => e = .returned (.string (pair n)) ∧ Below w.heap.size w w' := by
  by_cases h1 : n < 0
  · have e : pair n = ⟨#[]⟩ := by rw [pair, show B1.inB n 0 65535 = false from decide_eq_false (by omega)]; rfl
    rw [e]
    go_enter Try.func83, Try.ntmps83
    go_wp2
    go_ret
    exact ⟨rfl, Below.refl _ _⟩
  · by_cases h2 : 65535 < n
    · have e : pair n = ⟨#[]⟩ := by rw [pair, show B1.inB n 0 65535 = false from decide_eq_false (by omega)]; rfl
      rw [e]
      go_enter Try.func83, Try.ntmps83
      go_wp2
      go_ret
      exact ⟨rfl, Below.refl _ _⟩
    · have e : pair n = ⟨#[UInt8.ofNat (n % 256).toNat, UInt8.ofNat (n / 256).toNat]⟩ := by rw [pair, show B1.inB n 0 65535 = true from decide_eq_true (by omega)]; rfl
      rw [e]
      have hc := conv2 (n % 256) (n / 256) (by omega) (by omega)
      go_enter Try.func83, Try.ntmps83
      go_wp2
      go_ret
      exact ⟨rfl, by go_grown⟩
end Go.Proofs.Ytkdjcbmmbjongaa.B3
