/- Plain facts on reading a decimal numeral. -/
import Derived.Test.YtjajclifjojblaaDoorDec0
namespace Go.Proofs.YtjajclifjojblaaDoor.R0
open Go

/-- A decimal digit. -/
def isD (c : UInt8) : Bool := decide (48 ≤ c.toNat ∧ c.toNat ≤ 57)

theorem isD_true {c : UInt8} (h : isD c = true) : 48 ≤ c.toNat ∧ c.toNat ≤ 57 := of_decide_eq_true h
theorem isD_false {c : UInt8} (h : isD c = false) : ¬ (48 ≤ c.toNat ∧ c.toNat ≤ 57) := of_decide_eq_false h

/-- The number that digits stand for. -/
def val (l : List UInt8) : Nat := l.foldl (fun a c => 10 * a + (c.toNat - 48)) 0

theorem val_snoc (l : List UInt8) (c : UInt8) : val (l ++ [c]) = 10 * val l + (c.toNat - 48) := by simp [val]

theorem snocRec {P : List UInt8 → Prop} (h0 : P []) (h1 : ∀ l c, P l → P (l ++ [c])) (l : List UInt8) : P l := by
  have : ∀ r : List UInt8, P r.reverse := fun r => by
    induction r with
    | nil => exact h0
    | cons c r ih => rw [List.reverse_cons]; exact h1 _ _ ih
  simpa using this l.reverse

theorem val_lt (l : List UInt8) : l.all isD = true → val l < 10 ^ l.length := by
  refine snocRec (P := fun l => l.all isD = true → val l < 10 ^ l.length) (fun _ => by decide) (fun l c ih h => ?_) l
  simp only [List.all_append, List.all_cons, List.all_nil, Bool.and_true, Bool.and_eq_true] at h
  have := ih h.1
  have hc := isD_true h.2
  rw [val_snoc, List.length_append, List.length_singleton, Nat.pow_succ]
  omega

theorem nDigits_le : ∀ (k u : Nat), u < 10 ^ (k + 1) → Lib.nDigits u ≤ k + 1
  | 0, u, h => by rw [Lib.nDigits_small (by simpa using h)]; exact Nat.le_refl _
  | k + 1, u, h => by
    by_cases h1 : u < 10
    · rw [Lib.nDigits_small h1]; omega
    · rw [Lib.nDigits, dif_neg h1]
      have := nDigits_le k (u / 10) (by rw [Nat.pow_succ] at h; omega)
      omega

theorem itoa_len (v : Nat) (h : v ≤ 999999) : (Lib.itoa (v : Int)).length ≤ 6 := by
  rw [Lib.itoa_nonneg, Lib.decDigits_length]
  exact nDigits_le 5 v (by omega)

theorem itoa_ne (v : Nat) : Lib.itoa (v : Int) ≠ [] := by
  rw [Lib.itoa_nonneg]
  intro h
  have := congrArg List.length h
  rw [Lib.decDigits_length] at this
  by_cases h1 : v < 10
  · rw [Lib.nDigits_small h1] at this
    simp at this
  · rw [Lib.nDigits, dif_neg h1] at this
    simp at this

/-- The number of 0 to 999999 whose numeral the text is, or -1. -/
def rd (s : ByteArray) : Int := if s.data.toList.all isD = true ∧ s.size ≤ 6 ∧ Lib.itoa (val s.data.toList : Int) = s.data.toList then val s.data.toList else -1

theorem rd_no {s : ByteArray} (h : ¬ (s.data.toList.all isD = true ∧ s.size ≤ 6 ∧ Lib.itoa (val s.data.toList : Int) = s.data.toList)) : rd s = -1 := if_neg h
theorem rd_yes {s : ByteArray} (h1 : s.data.toList.all isD = true) (h2 : s.size ≤ 6) (h3 : Lib.itoa (val s.data.toList : Int) = s.data.toList) : rd s = val s.data.toList := if_pos ⟨h1, h2, h3⟩

theorem rd_bad {s : ByteArray} {k : Nat} (hk : k < s.size) (h : isD s[k] = false) : rd s = -1 := rd_no fun ⟨h1, _, _⟩ => by
  have hk' : k < s.data.toList.length := by rw [← Lib.size_eq]; exact hk
  have := List.all_eq_true.1 h1 (s.data.toList[k]) (List.getElem_mem hk')
  have e : s.data.toList[k] = s[k] := rfl
  rw [e, h] at this
  cases this

theorem rd_long {s : ByteArray} (h : 6 < s.size) : rd s = -1 := rd_no fun ⟨_, h2, _⟩ => by omega

theorem rd_other {s : ByteArray} (h : Lib.itoa (val s.data.toList : Int) ≠ s.data.toList) : rd s = -1 := rd_no fun ⟨_, _, h3⟩ => h h3

theorem take_snoc (s : ByteArray) (k : Nat) (h : k < s.size) : s.data.toList.take (k + 1) = s.data.toList.take k ++ [s[k]] := by
  rw [List.take_succ_eq_append_getElem (by rw [← Lib.size_eq]; exact h)]
  rfl

theorem take_all (s : ByteArray) : s.data.toList.take s.size = s.data.toList := List.take_of_length_le (by rw [← Lib.size_eq]; exact Nat.le_refl _)

theorem mk_eq {l : List UInt8} {s : ByteArray} : ((⟨l.toArray⟩ : ByteArray) = s) ↔ l = s.data.toList := by
  constructor
  · rintro rfl; simp
  · rintro rfl; simp

/-- So long as the number is not past 999999 the digits that were read are a part of a short text, or the text is none. -/
theorem val_take_le (s : ByteArray) (k : Nat) (h : (s.data.toList.take k).all isD = true) (hs : s.size ≤ 6) : val (s.data.toList.take k) ≤ 999999 := by
  have h1 := val_lt _ h
  have h2 : (s.data.toList.take k).length ≤ 6 := by rw [List.length_take, ← Lib.size_eq]; omega
  have h3 : (10 : Nat) ^ (s.data.toList.take k).length ≤ 10 ^ 6 := Nat.pow_le_pow_right (by omega) h2
  omega
end Go.Proofs.YtjajclifjojblaaDoor.R0
