/- Proved: 'laws.FnExactDevOk' answers true at every device, and leaves its argument as it was; no condition. -/
import Derived.Test.YtlnllencobeaoaaRows
import Derived.Test.YtlnllencobeaoaaDev5
import Derived.WalkKit
import Derived.ProofKit
import Derived.OpenShut
import Derived.ShutString
namespace Go.Proofs.Ytlnllencobeaoaa.fnExactDevOk
open Go.ChangeShapes Go.WideShapes Go.ChangeAt Go.RowKit
open Go.ChangeMaps (open_string shut_string)
set_option linter.unusedVariables false

theorem own : ownKnob Try.prog.godebug = none := by kernel_rfl

theorem walk (a0 b0 : ByteArray) (w0 : a0.size ≤ maxLen) (x0 : b0.size ≤ maxLen) (w : World) :
    Calls Try.prog 5 #[.agg #[.string a0, .string b0]] w fun e w' => e = .returned (.bool true) ∧ Below w.heap.size w w' := by
  have h0 := D5.bx_new a0 b0 w
  by_cases hz : (a0.size : Int) + b0.size ≤ 1048576
  · have e0 : (0 : Int) ≤ 1048576 - a0.size - b0.size := by omega
    go_enter Try.func5, Try.ntmps5
    go_wp2_with (first
      | (go_at_call 29; refine (D5.szFit hz h0).mono ?_; rintro e w1 ⟨rfl, h1⟩; have c0 := h1.c0; have c1 := h1.c1)
      | (go_at_call 23; refine (D5.spec_DevOk w0 x0 h2).mono ?_; rintro e w3 ⟨rfl, h3⟩; have q0 := h3.c0; have q1 := h3.c1)
      | (go_at_call 22; refine (D5.impl_DevOk w0 x0 h2).mono ?_; rintro e w4 ⟨rfl, h4⟩)
      | (go_at_call 30; refine (D5.toDev (by assumption)).mono ?_; rintro e w2 ⟨rfl, h2⟩; have c0 := h2.c0; have c1 := h2.c1))
    go_ret
    exact ⟨rfl, h4.bel⟩
  · go_enter Try.func5, Try.ntmps5
    go_wp2_with (go_at_call 29; refine (D5.szBig w0 x0 hz h0).mono ?_; rintro e w1 ⟨rfl, h1⟩)
    go_ret
    exact ⟨rfl, h1.bel⟩

set_option maxRecDepth 100000 in
theorem lifted (os : Os) (started : os.Started) (H : Type) (enc : TypeId × Value → H) :
    ReturnsInHanded {} Try.checked os 5 .any (Rows.fnExactDevOkSpec.pre6 enc Try.prog Try.f5 Rows.fnExactDevOkRow.domain false) (Rows.fnExactDevOkSpec.post enc Try.prog Try.f5 false true false false) := by
  refine returnsInHanded_of_change (C := Try.checked) own started (by kernel_rfl) Try.func5
    (ChangeSpec.witness6 (enc := enc) (C := Try.checked) false ⟨#[], #[.agg #[.string ByteArray.empty, .string ByteArray.empty]], []⟩ 8 (by kernel_rfl) (by kernel_rfl) (by kernel_rfl) (by kernel_rfl)) ?_
  intro W base args ds gs before hval0 hW hcnd _
  have hval : ∀ (j : Nat) t v, Try.f5.params[j]? = some t → args[j]? = some v → Value.okWide Try.prog W .any base t v := hval0
  have hW' := hW
  obtain ⟨p, q, hA0, hV, rfl, hfz, hnd⟩ := hW
  have hA : DataW.TrodAll enc Try.prog W 0 (fun _ => true) true Try.f5.params.toList args.toList ds p := hA0
  rw [Try.params5] at hA hval
  obtain ⟨v0, vs0, d0, ds0, p0, q0, hargs, rfl, rfl, h0, r0⟩ := trodAll_cons hA
  obtain ⟨rfl, rfl, rfl⟩ := trodAll_nil r0
  obtain rfl : args = #[v0] := by cases args; simp_all
  obtain ⟨rfl, rfl⟩ := trodVars_none hV
  obtain ⟨a0, b0, rfl, rfl, rfl, w0, x0⟩ := D4.open_dev (hval 0 44 v0 rfl rfl) h0
  clear hA0 hval0
  simp only [List.append_nil] at hW'
  refine (walk a0 b0 w0 x0 W).mono fun e W' ⟨he, hg⟩ => ?_
  subst he
  exact ⟨_, rfl, _, _, _, [], [], [], hW', (trodAll_cons_mk (shut_bool Try.underlying4 _) trodAll_mk0), (trodAll_cons_mk (D4.shut_dev w0 x0) trodAll_mk0), rfl, hg.frame _, fun h => by cases h⟩

theorem over : Rows.fnExactDevOkRow.holds Try.pinned (OpenSpec.ofChange Rows.fnExactDevOkSpec) :=
  OpenClaim.holds_of_wide 5 Try.f5 rfl rfl rfl rfl rfl rfl rfl ⟨rfl, rfl, rfl, rfl, rfl⟩ rfl rfl rfl rfl rfl (by kernel_rfl) Try.func5 (by kernel_rfl)
    (of_decide_eq_true (by kernel_rfl)) (by unfold Func.isWrapper; first | (rw [if_pos (by decide +kernel)]; kernel_rfl) | (rw [if_neg (by decide +kernel)]; exact ⟨rfl, rfl⟩))
    (fun os started H enc _ => lifted os started H enc)

theorem proved : Rows.FnExactDevOkSaid :=
  over
end Go.Proofs.Ytlnllencobeaoaa.fnExactDevOk

namespace Go.Proofs.Ytlnllencobeaoaa
theorem fnExactDevOk_proved : Rows.FnExactDevOkSaid := fnExactDevOk.proved
#print axioms fnExactDevOk_proved
end Go.Proofs.Ytlnllencobeaoaa
