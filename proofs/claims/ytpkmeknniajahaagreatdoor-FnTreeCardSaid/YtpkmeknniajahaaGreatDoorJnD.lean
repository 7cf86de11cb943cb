/- Joined texts: plain facts and contracts. -/
import Derived.WalkKit
import Derived.Below
import Derived.Handy
import Derived.Deep.QuietTactic
import Derived.Test.YtpkmeknniajahaaGreatDoorJnC
set_option linter.unusedVariables false
set_option linter.unusedSimpArgs false
set_option maxRecDepth 10000
namespace Go.Proofs.YtpkmeknniajahaaGreatDoor.K0
open Go.RowKit
structure Blk (B : Nat) (vs : List Value) (W : World) : Prop where
 cell : ∀ j (h : j < vs.length), W.cell? ⟨B, j, none⟩ = some vs[j]
 free : ∀ j, j < vs.length → W.frozen? ⟨B, j, none⟩ = false
 lt : B < W.heap.size
variable {B : Nat} {vs : List Value} {w W W' : World}
theorem Blk.below (h : Blk B vs W) (hb : Below W.heap.size W W') : Blk B vs W' :=
 ⟨fun j hj => (hb.cell (p := ⟨B, j, none⟩) h.lt).trans (h.cell j hj), fun j hj => (hb.frozen (p := ⟨B, j, none⟩) h.lt).trans (h.free j hj), Nat.lt_of_lt_of_le h.lt hb.size⟩
theorem Blk.alloc (h : Blk B vs W) (o : Obj) : Blk B vs (W.alloc o) := h.below ((Below.refl _ _).alloc (Nat.le_refl _) o)
theorem Blk.drew (h : Blk B vs W) : Blk B vs W.drew := ⟨h.cell, h.free, h.lt⟩
theorem Blk.drewN (h : Blk B vs W) (n : Nat) : Blk B vs (W.drewN n) := ⟨h.cell, h.free, h.lt⟩
theorem blk_new (vs : List Value) (w : World) (T : TypeId) : Blk w.heap.size vs (w.alloc (.cells vs.toArray T)) := by
 refine ⟨fun j hj => ?_, fun j hj => ?_, ?_⟩
 ·rw [World.cell?_alloc_mark]
  simp [hj]
 ·have h := World.frozen?_alloc_mark w vs.toArray T 0 0 j
  rw [h]
  simp
 ·simp
theorem blk_at (vs : List Value) (w : World) (T : TypeId) (hB : w.heap.size = B) : Blk B vs (w.alloc (.cells vs.toArray T)) := hB ▸ blk_new vs w T
theorem Blk.set (h : Blk B vs W) (j : Nat) (v : Value) : Blk B (vs.set j v) (W.setCell ⟨B, j, none⟩ v) := by
 refine ⟨fun k hk => ?_, fun k hk => ?_, ?_⟩
 ·have hk' : k < vs.length := by simpa using hk
  by_cases e : j = k
  ·subst e
   rw [World.cell?_setCell_same _ _ _ (h.cell j hk')]
   simp
  ·rw [World.cell?_setCell_other _ _ _ _ (fun x => e (Addr.mk.inj x).2.1), h.cell k hk', List.getElem_set_ne e]
 ·rw [World.frozen?_setCell]
  exact h.free k (by simpa using hk)
 ·have := h.lt
  simpa [World.setCell] using this
theorem Blk.setOther (h : Blk B vs W) {B' : Nat} (hne : B' ≠ B) (j : Nat) (v : Value) : Blk B vs (W.setCell ⟨B', j, none⟩ v) := by
 refine ⟨fun k hk => ?_, fun k hk => ?_, ?_⟩
 ·rw [World.cell?_setCell_other _ _ _ _ (fun x => hne (Addr.mk.inj x).1)]
  exact h.cell k hk
 ·rw [World.frozen?_setCell]
  exact h.free k hk
 ·have := h.lt
  simpa [World.setCell] using this
theorem Blk.c0 {a : Value} {l : List Value} (h : Blk B (a :: l) W) : W.cell? ⟨B, 0, none⟩ = some a := h.cell 0 (by simp)
theorem Blk.c1 {a b : Value} {l : List Value} (h : Blk B (a :: b :: l) W) : W.cell? ⟨B, 1, none⟩ = some b := h.cell 1 (by simp)
theorem Blk.c2 {a b c : Value} {l : List Value} (h : Blk B (a :: b :: c :: l) W) : W.cell? ⟨B, 2, none⟩ = some c := h.cell 2 (by simp)
theorem Blk.c3 {a b c d : Value} {l : List Value} (h : Blk B (a :: b :: c :: d :: l) W) : W.cell? ⟨B, 3, none⟩ = some d := h.cell 3 (by simp)
theorem Blk.f0 {a : Value} {l : List Value} (h : Blk B (a :: l) W) : W.frozen? ⟨B, 0, none⟩ = false := h.free 0 (by simp)
theorem Blk.f1 {a b : Value} {l : List Value} (h : Blk B (a :: b :: l) W) : W.frozen? ⟨B, 1, none⟩ = false := h.free 1 (by simp)
theorem Blk.f2 {a b c : Value} {l : List Value} (h : Blk B (a :: b :: c :: l) W) : W.frozen? ⟨B, 2, none⟩ = false := h.free 2 (by simp)
theorem Blk.f3 {a b c d : Value} {l : List Value} (h : Blk B (a :: b :: c :: d :: l) W) : W.frozen? ⟨B, 3, none⟩ = false := h.free 3 (by simp)
theorem Blk.put2 {a b : Value} (h : Blk B [a, b] W) (x y : Value) : Blk B [x, y] ((W.setCell ⟨B, 0, none⟩ x).setCell ⟨B, 1, none⟩ y) := (h.set 0 x).set 1 y
theorem Blk.put4 {a b c d : Value} (h : Blk B [a, b, c, d] W) (x y z u : Value) : Blk B [x, y, z, u] ((((W.setCell ⟨B, 0, none⟩ x).setCell ⟨B, 1, none⟩ y).setCell ⟨B, 2, none⟩ z).setCell ⟨B, 3, none⟩ u) := (((h.set 0 x).set 1 y).set 2 z).set 3 u
theorem below_drewN {B : Nat} {a w : World} (h : Below B a w) (n : Nat) : Below B a (w.drewN n) := ⟨h.os, h.tape, h.output, h.size, h.block⟩
theorem below_new (w : World) (o : Obj) : Below w.heap.size w (w.alloc o) := (Below.refl _ _).alloc (Nat.le_refl _) o
end Go.Proofs.YtpkmeknniajahaaGreatDoor.K0
namespace Go.Proofs.YtpkmeknniajahaaGreatDoor.T0
open Go.RowKit
abbrev Ent := Int × ByteArray
def clash (o e : Ent) : Bool := (o.2.toList == e.2.toList) || (o.1 == e.1)
def taken (es : List Ent) (e : Ent) : Bool := es.any fun o => clash o e
def ent (es : List Ent) (k : Nat) : Ent := es.getD k (0, ⟨#[]⟩)
theorem ent_get (es : List Ent) (k : Nat) (h : k < es.length) : ent es k = es[k] := by simp [ent, List.getD, h]
theorem taken_succ (es : List Ent) (k : Nat) (e : Ent) (h : k < es.length) : taken (es.take (k + 1)) e = (taken (es.take k) e || clash (ent es k) e) := by
 rw [taken, taken, List.take_succ_eq_append_getElem h, List.any_append, ent_get es k h]
 simp
theorem taken_of {es : List Ent} {k n : Nat} {e : Ent} (hk : k < n) (hn : n ≤ es.length) (h : clash (ent es k) e = true) : taken (es.take n) e = true := by
 rw [taken, List.any_eq_true]
 refine ⟨ent es k, ?_, h⟩
 rw [ent_get es k (by omega)]
 exact List.mem_iff_getElem.2 ⟨k, by simp; omega, by simp⟩
def okAt (es : List Ent) (i : Nat) : Bool := E0.entryOk (ent es i).1 (ent es i).2 && !(taken (es.take i) (ent es i))
def okUpto (es : List Ent) (k : Nat) : Bool := (List.range k).all (okAt es)
def dirOk (es : List Ent) : Bool := decide (es.length ≤ 12) && okUpto es es.length
theorem okUpto_succ (es : List Ent) (k : Nat) : okUpto es (k + 1) = (okUpto es k && okAt es k) := by simp [okUpto, List.range_succ]
theorem okUpto_bad {es : List Ent} {k n : Nat} (hk : k < n) (h : okAt es k = false) : okUpto es n = false := by
 rw [okUpto, List.all_eq_false]
 exact ⟨k, List.mem_range.2 hk, by rw [h]; decide⟩
theorem dirOk_bad {es : List Ent} {k : Nat} (hk : k < es.length) (h : okAt es k = false) : dirOk es = false := by rw [dirOk, okUpto_bad hk h, Bool.and_false]
def joined (es : List Ent) : Nat → ByteArray
 | 0 => ⟨#[]⟩
 | k + 1 => joined es k ++ E0.putE (ent es k).1 (ent es k).2
def putD (es : List Ent) : ByteArray := if dirOk es then joined es es.length else ⟨#[]⟩
theorem putE_size16 {i : Int} {s : ByteArray} (h : E0.entryOk i s = true) : (E0.putE i s).size = 16 := by
 have := E0.nameOk_size (E0.entryOk_true h).1
 rw [E0.putE, if_pos h, ByteArray.size_append, E0.headOf_size, B4.nulls_size]
 omega
theorem okAt_entry {es : List Ent} {k : Nat} (h : okAt es k = true) : E0.entryOk (ent es k).1 (ent es k).2 = true ∧ taken (es.take k) (ent es k) = false := by
 simp only [okAt, Bool.and_eq_true, Bool.not_eq_true'] at h
 exact h
theorem okUpto_at {es : List Ent} {n k : Nat} (h : okUpto es n = true) (hk : k < n) : okAt es k = true := by
 cases hb : okAt es k with
 | true => rfl
 | false => rw [okUpto_bad hk hb] at h; cases h
theorem joined_size {es : List Ent} {n : Nat} (h : okUpto es n = true) : ∀ k, k ≤ n → (joined es k).size = 16 * k
 | 0, _ => rfl
 | k + 1, hk => by
  rw [joined, ByteArray.size_append, joined_size h k (by omega), putE_size16 (okAt_entry (okUpto_at h (by omega : k < n))).1]
  omega
def Row (W : World) (a : Option Addr) (es : List Ent) : Prop := es = [] ∨ ∃ b off, a = some ⟨b, off, none⟩ ∧ b < W.heap.size ∧ ∀ j, j < es.length → W.cell? ⟨b, off + j * 2, none⟩ = some (.int .i64 (ent es j).1) ∧ W.cell? ⟨b, off + j * 2 + 1, none⟩ = some (.string (ent es j).2)
theorem Row.below {W W' : World} {a : Option Addr} {es : List Ent} (h : Row W a es) (hb : Below W.heap.size W W') : Row W' a es := by
 rcases h with h | ⟨b, off, ha, hlt, hc⟩
 ·exact Or.inl h
 ·exact Or.inr ⟨b, off, ha, Nat.lt_of_lt_of_le hlt hb.size, fun j hj => ⟨(hb.cell (p := ⟨b, off + j * 2, none⟩) hlt).trans (hc j hj).1, (hb.cell (p := ⟨b, off + j * 2 + 1, none⟩) hlt).trans (hc j hj).2⟩⟩
theorem Row.drewN {W : World} {a : Option Addr} {es : List Ent} (h : Row W a es) (n : Nat) : Row (W.drewN n) a es := h
theorem Row.get {W : World} {a : Option Addr} {es : List Ent} {k : Nat} (h : Row W a es) (hk : k < es.length) : ∃ b off, a = some ⟨b, off, none⟩ ∧ b < W.heap.size ∧ ∀ j, j < es.length → W.cell? ⟨b, off + j * 2, none⟩ = some (.int .i64 (ent es j).1) ∧ W.cell? ⟨b, off + j * 2 + 1, none⟩ = some (.string (ent es j).2) := by
 rcases h with h | h
 ·subst h
  simp at hk
 ·exact h
theorem Row.take {W : World} {b off n : Nat} {es : List Ent} (hlt : b < W.heap.size) (hn : n ≤ es.length) (hc : ∀ j, j < es.length → W.cell? ⟨b, off + j * 2, none⟩ = some (.int .i64 (ent es j).1) ∧ W.cell? ⟨b, off + j * 2 + 1, none⟩ = some (.string (ent es j).2)) : Row W (some ⟨b, off, none⟩) (es.take n) := by
 refine Or.inr ⟨b, off, rfl, hlt, fun j hj => ?_⟩
 have hj' : j < n := by simp at hj; omega
 have e : ent (es.take n) j = ent es j := by simp [ent, List.getD, hj']
 rw [e]
 exact hc j (by omega)
def Fits (es : List Ent) : Prop := ∀ j, j < es.length → (ent es j).2.size ≤ 281474976710656
end Go.Proofs.YtpkmeknniajahaaGreatDoor.T0
