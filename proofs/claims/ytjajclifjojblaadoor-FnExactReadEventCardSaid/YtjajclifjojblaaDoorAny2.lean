/- More on a region whose last operations write what its first ones read: one that makes memory, and an append told by its own law. -/
import Derived.Test.YtjajclifjojblaaDoorAny1
namespace Go.Proofs.YtjajclifjojblaaDoor.AU
open Go.RowKit
set_option linter.unusedVariables false
open AT (wpAnyT)
variable {P : Program} {ops : Array Oper} {Q : Exit → Act → World → Prop} {md : Region.Mode} {S : World → Prop} {n : Nat}

theorem mem1 {a : Act} {w w' : World} {u : Value} {i : Nat} {o : Oper} {listed : Array Bool} {fuel : Nat} (hr : Region.ready md ops listed = [i]) (ho : ops[i]? = some o) (hw : Region.wanted o (yielded ops a.tmps) = true)
    (he : (execOp a.eval o).run P w = .ok (.value u) w') (hS : S w') (h : wpAnyT P md ops Q S n fuel (listed.setIfInBounds i true) (a.put o.dst u) w') : wpAnyT P md ops Q S n (fuel + 1) listed a w := by
  refine AT.all hr (by simp) ?_
  intro j hj
  obtain rfl : j = i := by simpa using hj
  unfold wpOp
  rw [ho]
  refine Y0.of_if hw (.inl ?_)
  unfold Oper.wp
  rw [he]
  exact ⟨fun _ => hS, h⟩
theorem app2 {a : Act} {w : World} {i : Nat} {o : Oper} {listed : Array Bool} {fuel : Nat} (hr : Region.ready md ops listed = [i]) (ho : ops[i]? = some o) (hw : Region.wanted o (yielded ops a.tmps) = true)
    (h : if Region.wanted o (yielded ops a.tmps) = true then Oper.wp P o a w (fun a' w' => (i < n → S w') ∧ wpAnyT P md ops Q S n fuel (listed.setIfInBounds i true) a' w') Q else True) : wpAnyT P md ops Q S n (fuel + 1) listed a w := by
  rw [if_pos hw] at h
  refine AT.all hr (by simp) ?_
  intro j hj
  obtain rfl : j = i := by simpa using hj
  unfold wpOp
  rw [ho]
  exact Y0.of_if hw (.inl h)
end Go.Proofs.YtjajclifjojblaaDoor.AU
