/- Blocks of cells that a call has made: what stands in them, kept by what happens elsewhere. -/
import Derived.WalkKit
import Derived.Below
import Derived.Handy
import Derived.Deep.QuietTactic
namespace Go.Proofs.YtjajclifjojblaaDoor.K0
open Go.RowKit
set_option linter.unusedVariables false
set_option linter.unusedSimpArgs false

/-- A block's first cells hold these values, and may be written. -/
structure Blk (B : Nat) (vs : List Value) (W : World) : Prop where
  cell : ∀ j (h : j < vs.length), W.cell? ⟨B, j, none⟩ = some vs[j]
  free : ∀ j, j < vs.length → W.frozen? ⟨B, j, none⟩ = false
  lt : B < W.heap.size

variable {B : Nat} {vs : List Value} {w W W' : World}

theorem Blk.below (h : Blk B vs W) (hb : Below W.heap.size W W') : Blk B vs W' :=
  ⟨fun j hj => (hb.cell (p := ⟨B, j, none⟩) h.lt).trans (h.cell j hj), fun j hj => (hb.frozen (p := ⟨B, j, none⟩) h.lt).trans (h.free j hj), Nat.lt_of_lt_of_le h.lt hb.size⟩

theorem Blk.alloc (h : Blk B vs W) (o : Obj) : Blk B vs (W.alloc o) := h.below ((Below.refl _ _).alloc (Nat.le_refl _) o)
theorem Blk.drew (h : Blk B vs W) : Blk B vs W.drew := ⟨h.cell, h.free, h.lt⟩
theorem Blk.drewN (h : Blk B vs W) (n : Nat) : Blk B vs (W.drewN n) := ⟨h.cell, h.free, h.lt⟩

theorem blk_new (vs : List Value) (w : World) (T : TypeId) : Blk w.heap.size vs (w.alloc (.cells vs.toArray T)) := by
  refine ⟨fun j hj => ?_, fun j hj => ?_, ?_⟩
  · rw [World.cell?_alloc_mark]
    simp [hj]
  · have h := World.frozen?_alloc_mark w vs.toArray T 0 0 j
    rw [h]
    simp
  · simp

theorem blk_at (vs : List Value) (w : World) (T : TypeId) (hB : w.heap.size = B) : Blk B vs (w.alloc (.cells vs.toArray T)) := hB ▸ blk_new vs w T

theorem Blk.set (h : Blk B vs W) (j : Nat) (v : Value) : Blk B (vs.set j v) (W.setCell ⟨B, j, none⟩ v) := by
  refine ⟨fun k hk => ?_, fun k hk => ?_, ?_⟩
  · have hk' : k < vs.length := by simpa using hk
    by_cases e : j = k
    · subst e
      rw [World.cell?_setCell_same _ _ _ (h.cell j hk')]
      simp
    · rw [World.cell?_setCell_other _ _ _ _ (fun x => e (Addr.mk.inj x).2.1), h.cell k hk', List.getElem_set_ne e]
  · rw [World.frozen?_setCell]
    exact h.free k (by simpa using hk)
  · have := h.lt
    simpa [World.setCell] using this

theorem Blk.setOther (h : Blk B vs W) {B' : Nat} (hne : B' ≠ B) (j : Nat) (v : Value) : Blk B vs (W.setCell ⟨B', j, none⟩ v) := by
  refine ⟨fun k hk => ?_, fun k hk => ?_, ?_⟩
  · rw [World.cell?_setCell_other _ _ _ _ (fun x => hne (Addr.mk.inj x).1)]
    exact h.cell k hk
  · rw [World.frozen?_setCell]
    exact h.free k hk
  · have := h.lt
    simpa [World.setCell] using this

theorem Blk.c0 {a : Value} {l : List Value} (h : Blk B (a :: l) W) : W.cell? ⟨B, 0, none⟩ = some a := h.cell 0 (by simp)
theorem Blk.c1 {a b : Value} {l : List Value} (h : Blk B (a :: b :: l) W) : W.cell? ⟨B, 1, none⟩ = some b := h.cell 1 (by simp)
theorem Blk.c2 {a b c : Value} {l : List Value} (h : Blk B (a :: b :: c :: l) W) : W.cell? ⟨B, 2, none⟩ = some c := h.cell 2 (by simp)
theorem Blk.c3 {a b c d : Value} {l : List Value} (h : Blk B (a :: b :: c :: d :: l) W) : W.cell? ⟨B, 3, none⟩ = some d := h.cell 3 (by simp)
theorem Blk.f0 {a : Value} {l : List Value} (h : Blk B (a :: l) W) : W.frozen? ⟨B, 0, none⟩ = false := h.free 0 (by simp)
theorem Blk.f1 {a b : Value} {l : List Value} (h : Blk B (a :: b :: l) W) : W.frozen? ⟨B, 1, none⟩ = false := h.free 1 (by simp)
theorem Blk.f2 {a b c : Value} {l : List Value} (h : Blk B (a :: b :: c :: l) W) : W.frozen? ⟨B, 2, none⟩ = false := h.free 2 (by simp)
theorem Blk.f3 {a b c d : Value} {l : List Value} (h : Blk B (a :: b :: c :: d :: l) W) : W.frozen? ⟨B, 3, none⟩ = false := h.free 3 (by simp)

/-- Two results in cells, written last. -/
theorem Blk.put2 {a b : Value} (h : Blk B [a, b] W) (x y : Value) : Blk B [x, y] ((W.setCell ⟨B, 0, none⟩ x).setCell ⟨B, 1, none⟩ y) := (h.set 0 x).set 1 y
theorem Blk.put4 {a b c d : Value} (h : Blk B [a, b, c, d] W) (x y z u : Value) : Blk B [x, y, z, u] ((((W.setCell ⟨B, 0, none⟩ x).setCell ⟨B, 1, none⟩ y).setCell ⟨B, 2, none⟩ z).setCell ⟨B, 3, none⟩ u) := (((h.set 0 x).set 1 y).set 2 z).set 3 u

theorem below_drewN {B : Nat} {a w : World} (h : Below B a w) (n : Nat) : Below B a (w.drewN n) := ⟨h.os, h.tape, h.output, h.size, h.block⟩

/-- A new block, and what is there below it. -/
theorem below_new (w : World) (o : Obj) : Below w.heap.size w (w.alloc o) := (Below.refl _ _).alloc (Nat.le_refl _) o

theorem below_step {B : Nat} {w W W' : World} (h : Below B w W) (hB : B ≤ W.heap.size) (hb : Below W.heap.size W W') : Below B w W' := h.trans (hb.mono hB)
end Go.Proofs.YtjajclifjojblaaDoor.K0
