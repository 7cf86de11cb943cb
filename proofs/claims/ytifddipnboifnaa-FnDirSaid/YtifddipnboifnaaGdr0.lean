/- Plain facts on reading a directory out of bytes. -/
import Derived.Test.YtifddipnboifnaaDir0
import Derived.Test.YtifddipnboifnaaEnt4
namespace Go.Proofs.Ytifddipnboifnaa.V0
open Go
set_option linter.unusedVariables false
set_option linter.unusedSimpArgs false

/-- The bytes of the entry at a place. -/
def chunk (s : ByteArray) (j : Nat) : ByteArray := B2.part s ((j : Int) * 16) 16

/-- The first entries that a text tells. -/
def ents (s : ByteArray) (k : Nat) : List T0.Ent := (List.range k).map fun (j : Nat) => (E4.eIno (chunk s j), E4.eName (chunk s j))

theorem ents_length (s : ByteArray) (k : Nat) : (ents s k).length = k := by simp [ents]
theorem ents_succ (s : ByteArray) (k : Nat) : ents s k ++ [(E4.eIno (chunk s k), E4.eName (chunk s k))] = ents s (k + 1) := by simp [ents, List.range_succ]
theorem ents_get (s : ByteArray) (k j : Nat) (h : j < k) : T0.ent (ents s k) j = (E4.eIno (chunk s j), E4.eName (chunk s j)) := by
  rw [T0.ent_get _ _ (by rw [ents_length]; exact h)]
  simp [ents]

/-- How many are read. -/
def cnt (s : ByteArray) : Nat := min ((s.size + 15) / 16) 13

/-- Whether a text is that of a directory. -/
def isD (s : ByteArray) : Bool := decide (s.size = 0) || ((T0.putD (ents s (cnt s))).toList == s.toList)

def dE (s : ByteArray) : List T0.Ent := if isD s then ents s (cnt s) else []

theorem toList_eq {a b : ByteArray} (h : a.toList = b.toList) : a = b := by
  rw [Lib.toList_data, Lib.toList_data] at h
  exact ByteArray.ext (Array.toList_inj.1 h)

theorem chunk_eq (s : ByteArray) (j : Nat) (h : (j + 1) * 16 ≤ s.size) : chunk s j = s.extract (j * 16) (j * 16 + 16) := by
  rw [chunk, B2.part, show B2.lies s.size ((j : Int) * 16) 16 = true from decide_eq_true (by omega), if_pos rfl, show ((j : Int) * 16).toNat = j * 16 by omega, show ((j : Int) * 16 + 16).toNat = j * 16 + 16 by omega]

theorem isE_eq {x : ByteArray} (h : E4.isE x = true) : E0.putE (E4.eIno x) (E4.eName x) = x := by
  have h2 := h
  simp only [E4.isE, Bool.and_eq_true, beq_iff_eq] at h2
  rw [E4.eIno, E4.eName, if_pos h, if_pos h]
  exact toList_eq h2.2

theorem not_isE {x : ByteArray} (h : E4.isE x = false) : E4.eIno x = 0 ∧ E4.eName x = ⟨#[]⟩ := by simp [E4.eIno, E4.eName, h]

theorem entryOk_zero : E0.entryOk 0 ⟨#[]⟩ = false := by
  rw [E0.entryOk, show B1.inB 0 1 7 = false from by decide, Bool.and_false]

theorem ext_join (s : ByteArray) (a b : Nat) (h1 : a ≤ b) (h2 : b ≤ s.size) : s.extract 0 a ++ s.extract a b = s.extract 0 b := by
  apply ByteArray.ext
  apply Array.toList_inj.1
  simp only [ByteArray.data_append, Array.toList_append, Lib.extract_data, List.drop_zero, Nat.sub_zero]
  rw [← List.take_add, show a + (b - a) = b by omega]

/-- Where all chunks are entries' the entries' bytes are the text's. -/
theorem joined_ext (s : ByteArray) (n : Nat) (hE : ∀ j, j < n → E4.isE (chunk s j) = true) : ∀ k, k ≤ n → k * 16 ≤ s.size → T0.joined (ents s n) k = s.extract 0 (k * 16)
  | 0, _, _ => by
    apply ByteArray.ext
    simp [T0.joined]
  | k + 1, hk, hs => by
    rw [T0.joined, joined_ext s n hE k (by omega) (by omega), ents_get s n k (by omega), isE_eq (hE k (by omega)), chunk_eq s k (by omega), ext_join s _ _ (by omega) (by omega), show k * 16 + 16 = (k + 1) * 16 by omega]

theorem ext_all (s : ByteArray) : s.extract 0 s.size = s := by
  apply ByteArray.ext
  apply Array.toList_inj.1
  rw [Lib.extract_data]
  simp only [List.drop_zero, Nat.sub_zero]
  exact List.take_of_length_le (by rw [← Lib.size_eq]; exact Nat.le_refl _)

/-- What the program asks for is what the specification asks for. -/
theorem isD_of {s : ByteArray} (h1 : s.size ≤ 192) (h2 : s.size % 16 = 0) (hE : ∀ j, j < s.size / 16 → E4.isE (chunk s j) = true) (hD : T0.dirOk (ents s (s.size / 16)) = true) : isD s = true ∧ cnt s = s.size / 16 := by
  have hc : cnt s = s.size / 16 := by unfold cnt; omega
  refine ⟨?_, hc⟩
  rw [isD, hc]
  have : T0.putD (ents s (s.size / 16)) = s := by
    rw [T0.putD, if_pos hD, ents_length, joined_ext s _ hE _ (Nat.le_refl _) (by omega), show s.size / 16 * 16 = s.size by omega]
    exact ext_all s
  rw [this]
  simp

theorem of_isD {s : ByteArray} (h : isD s = true) : s.size ≤ 192 ∧ s.size % 16 = 0 ∧ cnt s = s.size / 16 ∧ (∀ j, j < s.size / 16 → E4.isE (chunk s j) = true) ∧ T0.dirOk (ents s (s.size / 16)) = true := by
  by_cases h0 : s.size = 0
  · refine ⟨by omega, by omega, by unfold cnt; omega, fun j hj => by omega, ?_⟩
    rw [h0]
    rfl
  · rw [isD, decide_eq_false h0, Bool.false_or] at h
    have he : T0.putD (ents s (cnt s)) = s := toList_eq (by simpa using h)
    have hD : T0.dirOk (ents s (cnt s)) = true := by
      cases hb : T0.dirOk (ents s (cnt s)) with
      | true => rfl
      | false =>
        rw [T0.putD, hb] at he
        have := congrArg ByteArray.size he
        exact absurd this.symm h0
    have hd := hD
    simp only [T0.dirOk, Bool.and_eq_true, decide_eq_true_eq] at hd
    rw [ents_length] at hd
    have hsz : s.size = 16 * cnt s := by
      have := T0.joined_size hd.2 (cnt s) (Nat.le_refl _)
      rw [T0.putD, if_pos hD, ents_length] at he
      rw [he] at this
      exact this
    have hc : cnt s = s.size / 16 := by omega
    rw [← hc]
    refine ⟨by omega, by omega, rfl, fun j hj => ?_, hD⟩
    cases hb : E4.isE (chunk s j) with
    | true => rfl
    | false =>
      have h1 := (T0.okAt_entry (T0.okUpto_at hd.2 hj)).1
      rw [ents_get s _ j hj, (not_isE hb).1, (not_isE hb).2, entryOk_zero] at h1
      cases h1
end Go.Proofs.Ytifddipnboifnaa.V0
