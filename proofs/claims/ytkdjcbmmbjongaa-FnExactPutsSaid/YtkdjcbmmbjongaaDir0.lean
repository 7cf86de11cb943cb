/- Plain facts on lists of entries; rows of entries in memory. -/
import Derived.Test.YtkdjcbmmbjongaaEnt2
import Derived.Test.YtkdjcbmmbjongaaBlk0
namespace Go.Proofs.Ytkdjcbmmbjongaa.T0
open Go.RowKit
set_option linter.unusedVariables false
set_option linter.unusedSimpArgs false

abbrev Ent := Int × ByteArray

/-- Two entries have one name or one inode. -/
def clash (o e : Ent) : Bool := (o.2.toList == e.2.toList) || (o.1 == e.1)

/-- One of some has an entry's name or inode. -/
def taken (es : List Ent) (e : Ent) : Bool := es.any fun o => clash o e

def ent (es : List Ent) (k : Nat) : Ent := es.getD k (0, ⟨#[]⟩)

theorem ent_get (es : List Ent) (k : Nat) (h : k < es.length) : ent es k = es[k] := by simp [ent, List.getD, h]

theorem taken_succ (es : List Ent) (k : Nat) (e : Ent) (h : k < es.length) : taken (es.take (k + 1)) e = (taken (es.take k) e || clash (ent es k) e) := by
  rw [taken, taken, List.take_succ_eq_append_getElem h, List.any_append, ent_get es k h]
  simp

theorem taken_of {es : List Ent} {k n : Nat} {e : Ent} (hk : k < n) (hn : n ≤ es.length) (h : clash (ent es k) e = true) : taken (es.take n) e = true := by
  rw [taken, List.any_eq_true]
  refine ⟨ent es k, ?_, h⟩
  rw [ent_get es k (by omega)]
  exact List.mem_iff_getElem.2 ⟨k, by simp; omega, by simp⟩

def okAt (es : List Ent) (i : Nat) : Bool := E0.entryOk (ent es i).1 (ent es i).2 && !(taken (es.take i) (ent es i))
def okUpto (es : List Ent) (k : Nat) : Bool := (List.range k).all (okAt es)

/-- What a directory's entries must be. -/
def dirOk (es : List Ent) : Bool := decide (es.length ≤ 12) && okUpto es es.length

theorem okUpto_succ (es : List Ent) (k : Nat) : okUpto es (k + 1) = (okUpto es k && okAt es k) := by simp [okUpto, List.range_succ]
theorem okUpto_bad {es : List Ent} {k n : Nat} (hk : k < n) (h : okAt es k = false) : okUpto es n = false := by
  rw [okUpto, List.all_eq_false]
  exact ⟨k, List.mem_range.2 hk, by rw [h]; decide⟩
theorem dirOk_bad {es : List Ent} {k : Nat} (hk : k < es.length) (h : okAt es k = false) : dirOk es = false := by rw [dirOk, okUpto_bad hk h, Bool.and_false]

/-- The first entries' bytes. -/
def joined (es : List Ent) : Nat → ByteArray
  | 0 => ⟨#[]⟩
  | k + 1 => joined es k ++ E0.putE (ent es k).1 (ent es k).2

/-- A directory as bytes; none where it is not right. -/
def putD (es : List Ent) : ByteArray := if dirOk es then joined es es.length else ⟨#[]⟩

theorem putE_size16 {i : Int} {s : ByteArray} (h : E0.entryOk i s = true) : (E0.putE i s).size = 16 := by
  have := E0.nameOk_size (E0.entryOk_true h).1
  rw [E0.putE, if_pos h, ByteArray.size_append, E0.headOf_size, B4.nulls_size]
  omega

theorem okAt_entry {es : List Ent} {k : Nat} (h : okAt es k = true) : E0.entryOk (ent es k).1 (ent es k).2 = true ∧ taken (es.take k) (ent es k) = false := by
  simp only [okAt, Bool.and_eq_true, Bool.not_eq_true'] at h
  exact h

theorem okUpto_at {es : List Ent} {n k : Nat} (h : okUpto es n = true) (hk : k < n) : okAt es k = true := by
  cases hb : okAt es k with
  | true => rfl
  | false => rw [okUpto_bad hk hb] at h; cases h

theorem joined_size {es : List Ent} {n : Nat} (h : okUpto es n = true) : ∀ k, k ≤ n → (joined es k).size = 16 * k
  | 0, _ => rfl
  | k + 1, hk => by
    rw [joined, ByteArray.size_append, joined_size h k (by omega), putE_size16 (okAt_entry (okUpto_at h (by omega : k < n))).1]
    omega

/-- A slice's place holds these entries; nothing is said of it where there are none. -/
def Row (W : World) (a : Option Addr) (es : List Ent) : Prop := es = [] ∨ ∃ b off, a = some ⟨b, off, none⟩ ∧ b < W.heap.size ∧ ∀ j, j < es.length → W.cell? ⟨b, off + j * 2, none⟩ = some (.int .i64 (ent es j).1) ∧ W.cell? ⟨b, off + j * 2 + 1, none⟩ = some (.string (ent es j).2)

theorem Row.below {W W' : World} {a : Option Addr} {es : List Ent} (h : Row W a es) (hb : Below W.heap.size W W') : Row W' a es := by
  rcases h with h | ⟨b, off, ha, hlt, hc⟩
  · exact Or.inl h
  · exact Or.inr ⟨b, off, ha, Nat.lt_of_lt_of_le hlt hb.size, fun j hj => ⟨(hb.cell (p := ⟨b, off + j * 2, none⟩) hlt).trans (hc j hj).1, (hb.cell (p := ⟨b, off + j * 2 + 1, none⟩) hlt).trans (hc j hj).2⟩⟩
theorem Row.drewN {W : World} {a : Option Addr} {es : List Ent} (h : Row W a es) (n : Nat) : Row (W.drewN n) a es := h
theorem Row.get {W : World} {a : Option Addr} {es : List Ent} {k : Nat} (h : Row W a es) (hk : k < es.length) : ∃ b off, a = some ⟨b, off, none⟩ ∧ b < W.heap.size ∧ ∀ j, j < es.length → W.cell? ⟨b, off + j * 2, none⟩ = some (.int .i64 (ent es j).1) ∧ W.cell? ⟨b, off + j * 2 + 1, none⟩ = some (.string (ent es j).2) := by
  rcases h with h | h
  · subst h
    simp at hk
  · exact h
theorem Row.take {W : World} {b off n : Nat} {es : List Ent} (hlt : b < W.heap.size) (hn : n ≤ es.length) (hc : ∀ j, j < es.length → W.cell? ⟨b, off + j * 2, none⟩ = some (.int .i64 (ent es j).1) ∧ W.cell? ⟨b, off + j * 2 + 1, none⟩ = some (.string (ent es j).2)) : Row W (some ⟨b, off, none⟩) (es.take n) := by
  refine Or.inr ⟨b, off, rfl, hlt, fun j hj => ?_⟩
  have hj' : j < n := by simp at hj; omega
  have e : ent (es.take n) j = ent es j := by simp [ent, List.getD, hj']
  rw [e]
  exact hc j (by omega)

/-- All names fit. -/
def Fits (es : List Ent) : Prop := ∀ j, j < es.length → (ent es j).2.size ≤ 281474976710656
end Go.Proofs.Ytkdjcbmmbjongaa.T0
