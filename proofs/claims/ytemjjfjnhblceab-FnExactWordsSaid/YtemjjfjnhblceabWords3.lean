/- Facts on worlds for the walk of laws.FnExactWords. -/
import Derived.Test.YtemjjfjnhblceabWords2
import Derived.Test.YtemjjfjnhblceabMarks2
namespace Go.Proofs.Ytemjjfjnhblceab.W3
open Go.ChangeShapes Go.WideShapes Go.ChangeAt Go.RowKit
set_option linter.unusedVariables false

theorem row_drew {w : World} {g : Nat} {ss : List ByteArray} (h : W0.Row w g ss) (n : Nat) : W0.Row (w.drewN n) g ss := ⟨h.lt, h.cell, h.free⟩

theorem row_grown {w w' : World} {g g' : Nat} {ss : List ByteArray} (h : W0.Row w g ss) (hg : w.grownBy w' (some g')) (hne : g ≠ g') : W0.Row w' g ss := by
  have hb : w'.heap[g]? = w.heap[g]? := hg.block g h.lt (fun e => hne (Option.some.inj e))
  refine ⟨Nat.lt_of_lt_of_le h.lt hg.size, fun j hj => ?_, fun j hj => ?_⟩
  · rw [World.cell?_of_block (a := ⟨g, j, none⟩) hb]
    exact h.cell j hj
  · rw [World.frozen?_of_block (a := ⟨g, j, none⟩) hb]
    exact h.free j hj

theorem below_drew {B : Nat} {w w1 : World} (h : Below B w w1) (n : Nat) : Below B w (w1.drewN n) := ⟨h.os, h.tape, h.output, h.size, h.block⟩
theorem below_of_drew {w w1 : World} {n : Nat} (h : Below (w.drewN n).heap.size (w.drewN n) w1) : Below w.heap.size w w1 := ⟨h.os, h.tape, h.output, h.size, h.block⟩

theorem some_of_row {w : World} {g : Nat} {ss : List ByteArray} (h : W0.Row w g ss) : ∀ j, j < ss.length → (w.cell? ⟨g, j, none⟩).isSome = true := fun j hj => by rw [h.cell j hj]; rfl
end Go.Proofs.Ytemjjfjnhblceab.W3
