/- Plain facts on bytes as two digits of sixteen. -/
import Derived.Lib.Strings
import Derived.WalkKit
namespace Go.Proofs.YtjajclifjojblaaDoor.H0
open Go

/-- A digit of sixteen. -/
def hd (d : Nat) : UInt8 := UInt8.ofNat (if d < 10 then 48 + d else 87 + d)

/-- One digit as a text. -/
def hx (x : Int) : ByteArray := ⟨#[hd x.toNat]⟩

theorem hx_size (x : Int) : (hx x).size = 1 := rfl

theorem piece (d : Nat) (h : d < 16) : (⟨#[48, 49, 50, 51, 52, 53, 54, 55, 56, 57, 97, 98, 99, 100, 101, 102]⟩ : ByteArray).extract d (d + 1) = ⟨#[hd d]⟩ := by
  have : ∀ d : Fin 16, (⟨#[48, 49, 50, 51, 52, 53, 54, 55, 56, 57, 97, 98, 99, 100, 101, 102]⟩ : ByteArray).extract d.val (d.val + 1) = ⟨#[hd d.val]⟩ := by decide
  exact this ⟨d, h⟩

theorem hx_slice {P : Program} (t : TypeId) (ht : P.underlying t = some .string) (x : Int) (h0 : 0 ≤ x) (h1 : x < 16) (W : World) :
    (Instr.slice t (.string ⟨#[48, 49, 50, 51, 52, 53, 54, 55, 56, 57, 97, 98, 99, 100, 101, 102]⟩) (some (.int .i64 x)) (some (.int .i64 (x + 1))) none).run P W = .ok (.string (hx x)) W := by
  rw [run_slice_string W t _ .i64 .i64 x (x + 1) ht h0 (by omega) (by show x + 1 ≤ ((16 : Nat) : Int); omega)]
  obtain ⟨d, rfl⟩ : ∃ d : Nat, x = (d : Int) := ⟨x.toNat, by omega⟩
  rw [show ((d : Int) + 1).toNat = d + 1 by omega, show ((d : Int)).toNat = d by omega, piece d (by omega)]
  rfl

/-- The digits of a list of bytes, two a byte. -/
def hexL (l : List UInt8) : List UInt8 := l.flatMap fun c => [hd (c.toNat / 16), hd (c.toNat % 16)]

theorem hexL_snoc (l : List UInt8) (c : UInt8) : hexL (l ++ [c]) = hexL l ++ [hd (c.toNat / 16), hd (c.toNat % 16)] := by simp [hexL]

theorem hexL_length (l : List UInt8) : (hexL l).length = 2 * l.length := by
  induction l with
  | nil => rfl
  | cons c l ih => simp [hexL] at ih ⊢; omega

theorem take_snoc (s : ByteArray) (k : Nat) (h : k < s.size) : s.data.toList.take (k + 1) = s.data.toList.take k ++ [s[k]] := by
  rw [List.take_succ_eq_append_getElem (by rw [← Lib.size_eq]; exact h)]
  rfl

theorem take_all (s : ByteArray) : s.data.toList.take s.size = s.data.toList := List.take_of_length_le (by rw [← Lib.size_eq]; exact Nat.le_refl _)

theorem take_len (s : ByteArray) (k : Nat) (h : k ≤ s.size) : (hexL (s.data.toList.take k)).length = 2 * k := by
  rw [hexL_length, List.length_take, ← Lib.size_eq]
  omega

theorem grow_eq (s : ByteArray) (k : Nat) (h : k < s.size) (x y : Int) (hx0 : x = ((s[k].toNat / 16 : Nat) : Int)) (hy0 : y = ((s[k].toNat % 16 : Nat) : Int)) :
    (⟨(hexL (s.data.toList.take k)).toArray⟩ : ByteArray) ++ hx x ++ hx y = ⟨(hexL (s.data.toList.take (k + 1))).toArray⟩ := by
  rw [take_snoc s k h, hexL_snoc]
  subst hx0 hy0
  apply ByteArray.ext
  apply Array.toList_inj.1
  simp only [hx, ByteArray.data_append, Array.toList_append, Int.toNat_natCast, List.append_assoc, List.cons_append, List.nil_append]
end Go.Proofs.YtjajclifjojblaaDoor.H0
