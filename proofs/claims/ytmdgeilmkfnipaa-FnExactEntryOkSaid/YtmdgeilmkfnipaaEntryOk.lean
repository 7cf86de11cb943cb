/- The law FnExactEntryOk holds at every argument: impl.EntryOk answers as spec.EntryOk. -/
import Derived.Test.YtmdgeilmkfnipaaRows
import Derived.Test.YtmdgeilmkfnipaaEnt3
import Derived.WalkKit
import Derived.ProofKit
import Derived.OpenShut
import Derived.ShutString
namespace Go.Proofs.Ytmdgeilmkfnipaa.fnExactEntryOk
open Go.ChangeShapes Go.WideShapes Go.ChangeAt Go.RowKit
open Go.ChangeMaps (open_string shut_string)
set_option linter.unusedVariables false

theorem own : ownKnob Try.prog.godebug = none := by kernel_rfl

theorem walk (a0 : Int) (b0 : ByteArray) (w0 : (Lit.int .i64 a0).wf = true) (x0 : b0.size ≤ maxLen) (w : World) :
    Calls Try.prog 8 #[.agg #[.int .i64 a0, .string b0]] w fun e w' => e = .returned (.bool true) ∧ Below w.heap.size w w' := by
  have h0 := E2.bx_new a0 b0 w 59
  by_cases hz : (b0.size : Int) ≤ 1048576
  · have e0 : (0 : Int) ≤ 1048576 - b0.size := by omega
    have hs : b0.size ≤ 281474976710656 := by omega
    go_enter Try.func8, Try.ntmps8
    go_wp2_with (first
      | (go_at_call 51; refine (E3.szFit hz h0).mono ?_; rintro e w1 ⟨rfl, h1⟩; have c0 := h1.c0; have c1 := h1.c1)
      | (go_at_call 33; refine (E2.spec_EntryOk_bx hs h2).mono ?_; rintro e w3 ⟨rfl, h3⟩; have d0 := h3.c0; have d1 := h3.c1)
      | (go_at_call 32; refine (E2.impl_EntryOk_bx hs h4).mono ?_; rintro e w5 ⟨rfl, h5⟩)
      | (go_at_call 52; refine (E3.toFit h3).mono ?_; rintro e w4 ⟨rfl, h4⟩)
      | (go_at_call 52; refine (E3.toFit h1).mono ?_; rintro e w2 ⟨rfl, h2⟩))
    go_ret
    exact ⟨rfl, h5.bel⟩
  · go_enter Try.func8, Try.ntmps8
    go_wp2_with (go_at_call 51; refine (E3.szBig x0 hz h0).mono ?_; rintro e w1 ⟨rfl, h1⟩)
    go_ret
    exact ⟨rfl, h1.bel⟩

set_option maxRecDepth 100000 in
theorem lifted (os : Os) (started : os.Started) (H : Type) (enc : TypeId × Value → H) :
    ReturnsInHanded {} Try.checked os 8 .any (Rows.fnExactEntryOkSpec.pre6 enc Try.prog Try.f8 Rows.fnExactEntryOkRow.domain false) (Rows.fnExactEntryOkSpec.post enc Try.prog Try.f8 false true false false) := by
  refine returnsInHanded_of_change (C := Try.checked) own started (by kernel_rfl) Try.func8
    (ChangeSpec.witness6 (enc := enc) (C := Try.checked) false ⟨#[], #[.agg #[.int .i64 0, .string ByteArray.empty]], []⟩ 8 (by kernel_rfl) (by kernel_rfl) (by kernel_rfl) (by kernel_rfl)) ?_
  intro W base args ds gs before hval0 hW hcnd _
  have hval : ∀ (j : Nat) t v, Try.f8.params[j]? = some t → args[j]? = some v → Value.okWide Try.prog W .any base t v := hval0
  have hW' := hW
  obtain ⟨p, q, hA0, hV, rfl, hfz, hnd⟩ := hW
  have hA : DataW.TrodAll enc Try.prog W 0 (fun _ => true) true Try.f8.params.toList args.toList ds p := hA0
  rw [Try.params8] at hA hval
  obtain ⟨v0, vs0, d0, ds0, p0, q0, hargs, rfl, rfl, h0, r0⟩ := trodAll_cons hA
  obtain ⟨rfl, rfl, rfl⟩ := trodAll_nil r0
  obtain rfl : args = #[v0] := by cases args; simp_all
  obtain ⟨rfl, rfl⟩ := trodVars_none hV
  obtain ⟨a0, b0, rfl, rfl, rfl, w0, x0⟩ := E3.open_entry (hval 0 59 v0 rfl rfl) h0
  clear hA0 hval0
  simp only [List.append_nil] at hW'
  refine (walk a0 b0 w0 x0 W).mono fun e W' ⟨he, hg⟩ => ?_
  subst he
  exact ⟨_, rfl, _, _, _, [], [], [], hW', (trodAll_cons_mk (shut_bool Try.underlying4 _) trodAll_mk0), (trodAll_cons_mk (E3.shut_entry w0 x0) trodAll_mk0), rfl, hg.frame _, fun h => by cases h⟩

theorem over : Rows.fnExactEntryOkRow.holds Try.pinned (OpenSpec.ofChange Rows.fnExactEntryOkSpec) :=
  OpenClaim.holds_of_wide 8 Try.f8 rfl rfl rfl rfl rfl rfl rfl ⟨rfl, rfl, rfl, rfl, rfl⟩ rfl rfl rfl rfl rfl (by kernel_rfl) Try.func8 (by kernel_rfl)
    (of_decide_eq_true (by kernel_rfl)) (by unfold Func.isWrapper; first | (rw [if_pos (by decide +kernel)]; kernel_rfl) | (rw [if_neg (by decide +kernel)]; exact ⟨rfl, rfl⟩))
    (fun os started H enc _ => lifted os started H enc)

theorem proved : Rows.FnExactEntryOkSaid :=
  over
end Go.Proofs.Ytmdgeilmkfnipaa.fnExactEntryOk

namespace Go.Proofs.Ytmdgeilmkfnipaa
theorem fnExactEntryOk_proved : Rows.FnExactEntryOkSaid := fnExactEntryOk.proved
#print axioms fnExactEntryOk_proved
end Go.Proofs.Ytmdgeilmkfnipaa
