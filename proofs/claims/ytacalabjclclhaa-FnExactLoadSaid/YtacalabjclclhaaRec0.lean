/- Plain facts on an inode as bytes. -/
import Derived.Test.YtacalabjclclhaaIno0
import Derived.Test.YtacalabjclclhaaEnt0
import Derived.Test.YtacalabjclclhaaPair1
namespace Go.Proofs.Ytacalabjclclhaa.R0
open Go
set_option linter.unusedVariables false
set_option linter.unusedSimpArgs false

/-- Pages as a byte each. -/
def pg (zs : List Int) : ByteArray := ⟨(zs.map fun z => UInt8.ofNat z.toNat).toArray⟩

theorem pg_size (zs : List Int) : (pg zs).size = zs.length := by simp [pg, ByteArray.size]
theorem pg_nil : pg [] = ⟨#[]⟩ := rfl
theorem pg_snoc (zs : List Int) (k : Nat) (h : k < zs.length) : pg (zs.take k) ++ ⟨#[UInt8.ofNat (zs.getD k 0).toNat]⟩ = pg (zs.take (k + 1)) := by
  apply ByteArray.ext
  rw [ByteArray.data_append]
  apply Array.toList_inj.1
  simp only [pg, Array.toList_append, List.take_succ_eq_append_getElem h, List.map_append, List.map_cons, List.map_nil, P0.getD_get zs k h]

/-- Kind and owner. -/
def two (k o : Int) : ByteArray := ⟨#[UInt8.ofNat k.toNat, UInt8.ofNat o.toNat]⟩

theorem two_size (k o : Int) : (two k o).size = 2 := rfl

/-- What stands ahead of the zeros. -/
def head (k o s : Int) (zs : List Int) : ByteArray := two k o ++ B3.pair s ++ pg zs

/-- An inode as bytes; none where it is not right. -/
def putI (k o s : Int) (zs : List Int) : ByteArray := if I0.ok k o s zs then head k o s zs ++ B4.nulls (12 - zs.length) else ⟨#[]⟩

theorem pair_size (s : Int) (h0 : 0 ≤ s) (h1 : s ≤ 65535) : (B3.pair s).size = 2 := by
  rw [B3.pair, show B1.inB s 0 65535 = true from decide_eq_true ⟨h0, h1⟩]
  rfl

/-- Bounds of what is right. -/
theorem ok_bounds {k o s : Int} {zs : List Int} (h : I0.ok k o s zs = true) : (0 ≤ k ∧ k ≤ 2) ∧ (0 ≤ o ∧ o ≤ 9) ∧ (0 ≤ s ∧ s ≤ 192) ∧ zs.length ≤ 6 ∧ (zs.length : Int) = P0.need s ∧ P0.pagesOk zs = true := by
  have hh : ∀ {o s : Int} {zs : List Int}, I0.holds o s zs = true → (0 ≤ o ∧ o ≤ 9) ∧ (0 ≤ s ∧ s ≤ 192) ∧ zs.length ≤ 6 ∧ (zs.length : Int) = P0.need s ∧ P0.pagesOk zs = true := by
    intro o s zs h
    simp only [I0.holds, Bool.and_eq_true, decide_eq_true_eq] at h
    have h1 := B1.inB_true h.1
    have h2 := B1.inB_true h.2.1
    have h3 := h.2.2.1
    refine ⟨h1, h2, ?_, h3, h.2.2.2⟩
    unfold P0.need at h3
    omega
  unfold I0.ok at h
  split at h
  · rename_i e
    simp only [I0.free, Bool.and_eq_true, decide_eq_true_eq] at h
    have hz : zs = [] := List.eq_nil_of_length_eq_zero h.2.2
    refine ⟨by omega, by omega, by omega, by omega, ?_, ?_⟩
    · rw [h.2.1, h.2.2]; decide
    · rw [hz]; rfl
  · split at h
    · rename_i e
      exact ⟨by omega, hh h⟩
    · split at h
      · rename_i e
        simp only [Bool.and_eq_true] at h
        exact ⟨by omega, hh h.1⟩
      · cases h

theorem pages_bounds {zs : List Int} (h : P0.pagesOk zs = true) {k : Nat} (hk : k < zs.length) : 5 ≤ zs.getD k 0 ∧ zs.getD k 0 ≤ 23 := by
  have h1 : P0.okAt zs k = true := by
    cases hb : P0.okAt zs k with
    | true => rfl
    | false => rw [P0.pagesOk, P0.okUpto_bad hk hb] at h; cases h
  simp only [P0.okAt, Bool.and_eq_true] at h1
  exact B1.inB_true h1.1

theorem head_size (k o s : Int) (zs : List Int) (h0 : 0 ≤ s) (h1 : s ≤ 65535) : (head k o s zs).size = 4 + zs.length := by
  rw [head, ByteArray.size_append, ByteArray.size_append, two_size, pair_size s h0 h1, pg_size]

theorem putI_size (k o s : Int) (zs : List Int) : (putI k o s zs).size ≤ 16 := by
  unfold putI
  split
  · rename_i h
    obtain ⟨_, _, hs, hl, _⟩ := ok_bounds h
    rw [ByteArray.size_append, head_size _ _ _ _ (by omega) (by omega), B4.nulls_size]
    omega
  · exact Nat.zero_le _
end Go.Proofs.Ytacalabjclclhaa.R0
