/- Plain facts on decimal numerals. -/
import Derived.Lib.ItoaNum
import Derived.Lib.ItoaLen
import Derived.Lib.ItoaMem
import Derived.Lib.Strings
import Derived.WalkKit
namespace Go.Proofs.YtjajclifjojblaaDoor.D0
open Go

/-- The digits of a number, none for 0. -/
def dd (u : Nat) : List UInt8 := if u = 0 then [] else Lib.decDigits u

theorem dd_step (u : Nat) (h : u ≠ 0) : dd u = dd (u / 10) ++ [UInt8.ofNat (48 + u % 10)] := by
  unfold dd
  rw [if_neg h]
  by_cases h1 : u < 10
  · rw [Lib.decDigits_one h1, if_pos (by omega), Nat.mod_eq_of_lt h1]
    rfl
  · rw [Lib.decDigits, dif_neg h1, if_neg (by omega)]

theorem dd_length (u : Nat) (h : u ≤ 9223372036854775808) : (dd u).length ≤ 21 := by
  unfold dd
  split
  · simp
  · have := Lib.itoa_length_le (-(u : Int)) (by omega) (by omega)
    rw [Lib.itoa_neg u (by omega)] at this
    simp at this
    omega

/-- The ten digits as a text. -/
theorem digit_piece (d : Nat) (h : d < 10) : (⟨#[48, 49, 50, 51, 52, 53, 54, 55, 56, 57]⟩ : ByteArray).extract d (d + 1) = ⟨#[UInt8.ofNat (48 + d)]⟩ := by
  match d, h with
  | 0, _ => rfl
  | 1, _ => rfl
  | 2, _ => rfl
  | 3, _ => rfl
  | 4, _ => rfl
  | 5, _ => rfl
  | 6, _ => rfl
  | 7, _ => rfl
  | 8, _ => rfl
  | 9, _ => rfl

/-- A step of the loop that writes the digits from the last one on. -/
theorem round_eq (u v : Nat) (out : List UInt8) (h : u ≠ 0) (e : dd u ++ out = dd v) : dd (u / 10) ++ (UInt8.ofNat (48 + u % 10) :: out) = dd v := by
  rw [← e, dd_step u h]
  simp

/-- One digit as a text. -/
def dig (x : Int) : ByteArray := ⟨#[UInt8.ofNat (48 + x.toNat)]⟩

theorem dig_size (x : Int) : (dig x).size = 1 := rfl

theorem dig_cons (x : Int) (out : List UInt8) : dig x ++ ⟨out.toArray⟩ = ⟨(UInt8.ofNat (48 + x.toNat) :: out).toArray⟩ := by
  apply ByteArray.ext
  apply Array.toList_inj.1
  simp [dig]

theorem ret_minus (l : List UInt8) : Ending.returned (.string (⟨#[45]⟩ ++ ⟨l.toArray⟩)) = Ending.returned (.string ⟨(45 :: l).toArray⟩) := by
  congr 2

theorem itoa_pos (u : Nat) (h : u ≠ 0) : Lib.itoa (u : Int) = dd u := by rw [Lib.itoa_nonneg, dd, if_neg h]
theorem itoa_neg (u : Nat) (h : u ≠ 0) : Lib.itoa (-(u : Int)) = 45 :: dd u := by rw [Lib.itoa_neg u (by omega), dd, if_neg h]

/-- The piece of the ten digits at a digit's place. -/
theorem dig_slice {P : Program} (t : TypeId) (ht : P.underlying t = some .string) (x : Int) (h0 : 0 ≤ x) (h1 : x < 10) (W : World) :
    (Instr.slice t (.string ⟨#[48, 49, 50, 51, 52, 53, 54, 55, 56, 57]⟩) (some (.int .i64 x)) (some (.int .i64 (x + 1))) none).run P W = .ok (.string (dig x)) W := by
  rw [run_slice_string W t _ .i64 .i64 x (x + 1) ht h0 (by omega) (by show x + 1 ≤ ((10 : Nat) : Int); omega)]
  obtain ⟨d, rfl⟩ : ∃ d : Nat, x = (d : Int) := ⟨x.toNat, by omega⟩
  rw [show ((d : Int) + 1).toNat = d + 1 by omega, show ((d : Int)).toNat = d by omega, digit_piece d (by omega)]
  rfl
end Go.Proofs.YtjajclifjojblaaDoor.D0
