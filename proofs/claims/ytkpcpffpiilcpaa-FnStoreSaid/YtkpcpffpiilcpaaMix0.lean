/- A text of lines made of two: here a line of the one, there of the other. -/
import Derived.Test.YtkpcpffpiilcpaaLies1
import Derived.Test.YtkpcpffpiilcpaaWith1
namespace Go.Proofs.Ytkpcpffpiilcpaa.X0
open Go.RowKit
set_option linter.unusedVariables false
set_option linter.unusedSimpArgs false

/-- A line of a text. -/
def row (l : List UInt8) (k : Nat) : List UInt8 := (l.drop (k * 8)).take 8

/-- The lines that p names of the first, the others of the second. -/
def mix (la lb : List UInt8) (p : Nat → Bool) : List UInt8 := (List.range 768).map fun j => if p (j / 8) then la.getD j 0 else lb.getD j 0

theorem mix_len (la lb : List UInt8) (p : Nat → Bool) : (mix la lb p).length = 768 := by simp [mix]

theorem mix_get (la lb : List UInt8) (p : Nat → Bool) (j : Nat) (hj : j < 768) : (mix la lb p)[j]? = some (if p (j / 8) then la.getD j 0 else lb.getD j 0) := by
  simp [mix, List.getElem?_range hj]

theorem get_of {l : List UInt8} {j : Nat} (hl : l.length = 768) (hj : j < 768) : l[j]? = some (l.getD j 0) := by
  rw [List.getD_eq_getElem?_getD, List.getElem?_eq_getElem (by omega)]; rfl

theorem row_get {l : List UInt8} {k j : Nat} (hj : j < 8) : (row l k)[j]? = l[k * 8 + j]? := by
  rw [row, List.getElem?_take, if_pos hj, List.getElem?_drop]

theorem mix_none (la lb : List UInt8) (hb : lb.length = 768) (p : Nat → Bool) (hp : ∀ k, k < 96 → p k = false) : mix la lb p = lb := by
  apply List.ext_getElem?
  intro j
  by_cases hj : j < 768
  · rw [mix_get _ _ _ _ hj, hp _ (by omega), get_of hb hj]; rfl
  · rw [List.getElem?_eq_none (by rw [mix_len]; omega), List.getElem?_eq_none (by omega)]

theorem mix_congr (la lb : List UInt8) (p q : Nat → Bool) (h : ∀ k, k < 96 → p k = q k) : mix la lb p = mix la lb q := by
  apply List.ext_getElem?
  intro j
  by_cases hj : j < 768
  · rw [mix_get _ _ _ _ hj, mix_get _ _ _ _ hj, h _ (by omega)]
  · rw [List.getElem?_eq_none (by rw [mix_len]; omega), List.getElem?_eq_none (by rw [mix_len]; omega)]

/-- A line that is named already or is the same in both: naming it changes nothing. -/
theorem mix_same (la lb : List UInt8) (p q : Nat → Bool) (k : Nat) (ha : la.length = 768) (hpq : ∀ i, i < 96 → i ≠ k → p i = q i) (hk : k < 96) (hp : p k = false) (h : row la k = row (mix la lb p) k) : mix la lb q = mix la lb p := by
  apply List.ext_getElem?
  intro j
  by_cases hj : j < 768
  · by_cases hjk : j / 8 = k
    · have e := congrArg (fun l => l[j - k * 8]?) h
      rw [row_get (by omega), row_get (by omega), show k * 8 + (j - k * 8) = j by omega, mix_get _ _ _ _ hj, get_of ha hj] at e
      rw [mix_get _ _ _ _ hj, mix_get _ _ _ _ hj, hjk, hp]
      rw [hjk, hp] at e
      by_cases hq : q k = true
      · rw [hq]; simpa using e
      · rw [show q k = false by simpa using hq]
    · rw [mix_get _ _ _ _ hj, mix_get _ _ _ _ hj, hpq _ (by omega) hjk]
  · rw [List.getElem?_eq_none (by rw [mix_len]; omega), List.getElem?_eq_none (by rw [mix_len]; omega)]

/-- A line of the first laid over. -/
theorem mix_set (la lb : List UInt8) (p q : Nat → Bool) (k : Nat) (ha : la.length = 768) (hk : k < 96) (hpq : ∀ i, i < 96 → i ≠ k → p i = q i) (hq : q k = true) :
    (mix la lb p).take (k * 8) ++ row la k ++ (mix la lb p).drop (k * 8 + 8) = mix la lb q := by
  have hr : (row la k).length = 8 := by rw [row, List.length_take, List.length_drop]; omega
  have ht : ((mix la lb p).take (k * 8)).length = k * 8 := by rw [List.length_take, mix_len]; omega
  apply List.ext_getElem?
  intro j
  by_cases hj : j < 768
  · rw [mix_get _ _ _ _ hj]
    by_cases h1 : j < k * 8
    · rw [List.getElem?_append_left (by rw [List.length_append]; omega), List.getElem?_append_left (by omega), List.getElem?_take, if_pos h1, mix_get _ _ _ _ hj, hpq _ (by omega) (by omega)]
    · by_cases h2 : j < k * 8 + 8
      · rw [List.getElem?_append_left (by rw [List.length_append]; omega), List.getElem?_append_right (by omega), ht, row_get (by omega), show k * 8 + (j - k * 8) = j by omega, get_of ha hj, show j / 8 = k by omega, hq]
        rfl
      · rw [List.getElem?_append_right (by rw [List.length_append]; omega), List.length_append, ht, hr, List.getElem?_drop, show k * 8 + 8 + (j - (k * 8 + 8)) = j by omega, mix_get _ _ _ _ hj, hpq _ (by omega) (by omega)]
  · rw [List.getElem?_eq_none (by rw [List.length_append, List.length_append, List.length_drop, mix_len]; omega), List.getElem?_eq_none (by rw [mix_len]; omega)]

theorem laid_list (m r : List UInt8) (k : Nat) (hm : m.length = 768) (hr : r.length = 8) (hk : k < 96) :
    B5.laid ⟨m.toArray⟩ ((k : Int) * 8) ⟨r.toArray⟩ = ⟨(m.take (k * 8) ++ r ++ m.drop (k * 8 + 8)).toArray⟩ := by
  have hrs : (⟨r.toArray⟩ : ByteArray).size = 8 := hr
  have hms : (⟨m.toArray⟩ : ByteArray).size = 768 := hm
  have e := B5.laid_eq ⟨m.toArray⟩ (k * 8) ⟨r.toArray⟩ (by rw [hrs, hms]; omega)
  rw [B5.laid, hrs, hms, show B2.lies 768 ((k : Int) * 8) ((8 : Nat) : Int) = true from decide_eq_true (by omega)]
  rw [hrs, hms] at e
  rw [if_pos rfl, show ((k : Int) * 8).toNat = k * 8 by omega, show ((k : Int) * 8 + ((8 : Nat) : Int)).toNat = k * 8 + 8 by omega, e]
  show (⟨(m.take (k * 8) ++ r ++ m.drop (k * 8 + r.length)).toArray⟩ : ByteArray) = _
  rw [hr]

theorem part_row (a : ByteArray) (k : Nat) (ha : a.size = 768) (hk : k < 96) : B2.part a ((k : Int) * 8) 8 = ⟨(row a.data.toList k).toArray⟩ := by
  rw [B2.part, show B2.lies a.size ((k : Int) * 8) 8 = true from decide_eq_true (by omega), if_pos rfl]
  apply ByteArray.ext
  apply Array.toList_inj.1
  rw [Lib.extract_data, show ((k : Int) * 8).toNat = k * 8 by omega, show ((k : Int) * 8 + 8).toNat = k * 8 + 8 by omega, show k * 8 + 8 - k * 8 = 8 by omega]
  rfl

/-- As the specification lays it: With of Part. -/
theorem laid_row (a : ByteArray) (lb : List UInt8) (p q : Nat → Bool) (k : Nat) (ha : a.size = 768) (hk : k < 96) (hpq : ∀ i, i < 96 → i ≠ k → p i = q i) (hq : q k = true) :
    B5.laid ⟨(mix a.data.toList lb p).toArray⟩ ((k : Int) * 8) (B2.part a ((k : Int) * 8) 8) = ⟨(mix a.data.toList lb q).toArray⟩ := by
  have hla : a.data.toList.length = 768 := by rw [← Lib.size_eq]; exact ha
  have hrl : (row a.data.toList k).length = 8 := by rw [row, List.length_take, List.length_drop]; omega
  rw [part_row a k ha hk, laid_list _ _ k (mix_len _ _ _) hrl hk, mix_set _ _ p q k hla hk hpq hq]
end Go.Proofs.Ytkpcpffpiilcpaa.X0
