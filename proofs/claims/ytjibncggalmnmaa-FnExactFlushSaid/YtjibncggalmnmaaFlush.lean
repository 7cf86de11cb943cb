/- The law FnExactFlush holds at every argument: impl.Flush answers as spec.Flush. -/
import Derived.Test.YtjibncggalmnmaaRows
import Derived.Test.YtjibncggalmnmaaFls4
import Derived.WalkKit
import Derived.ProofKit
import Derived.OpenShut
import Derived.ShutString
namespace Go.Proofs.Ytjibncggalmnmaa.fnExactFlush
open Go.ChangeShapes Go.WideShapes Go.ChangeAt Go.RowKit
open Go.ChangeMaps (open_string shut_string)
set_option linter.unusedVariables false
set_option linter.unusedSimpArgs false

theorem own : ownKnob Try.prog.godebug = none := by kernel_rfl

set_option maxHeartbeats 4000000 in
set_option maxRecDepth 10000 in
theorem walk (a0 b0 : ByteArray) (a1 : Int) (a2 : Int) (w : World) (w0 : a0.size ≤ maxLen) (x0 : b0.size ≤ maxLen) (w1 : (Lit.int .i64 a1).wf = true) (w2 : (Lit.int .i64 a2).wf = true) :
    Calls Try.prog 5 #[.agg #[.string a0, .string b0], .int .i64 a1, .int .i64 a2] w fun e w' => e = .returned (.bool true) ∧ Below w.heap.size w w' := by
  have wi := w1
  have wn := w2
  have h0 := D5.bx_new a0 b0 w
  by_cases hz : (a0.size : Int) + b0.size ≤ 1048576
  · have e0 : (0 : Int) ≤ 1048576 - a0.size - b0.size := by omega
    go_enter Try.func5, Try.ntmps5
    go_wp2_with (first
      | (go_at_call 28; refine (D5.szFit hz h0).mono ?_; rintro e w1 ⟨rfl, h1⟩; have c0 := h1.c0; have c1 := h1.c1)
      | (go_at_call 18; refine (F3.spec_Flush _ _ _ _ _ (by omega) (by omega) wi wn).mono ?_; rintro e w3 ⟨rfl, b3⟩; have h3 := (h2.below b3).alloc (.cells #[.string a0, .string (F3.flushed a0 b0 a1 a2)] 25); have k3 := D5.dev_new a0 (F3.flushed a0 b0 a1 a2) w3; have q0 := h3.c0; have q1 := h3.c1)
      | (go_at_call 12; refine (F4.impl_Flush _ _ _ _ _ (by omega) (by omega)).mono ?_; rintro e w5 ⟨rfl, b5⟩; have h5 := (h4.below b5).alloc (.cells #[.string a0, .string (F3.flushed a0 b0 a1 a2)] 25); have k5 := (k4.below b5).alloc (.cells #[.string a0, .string (F3.flushed a0 b0 a1 a2)] 25); have r0 := k5.c0; have r1 := k5.c1)
      | (go_at_call 30; refine (D1.eqDev _ _ _).mono ?_; rintro e w6 ⟨rfl, b6⟩; have h6 := h5.below b6)
      | (go_at_call 29; have k3' := k3; refine (D1.toDev _ _ _).mono ?_; rintro e w4 ⟨rfl, b4⟩; have h4 := h3.below b4; have k4 := k3.below b4)
      | (go_at_call 29; refine (D5.toDev h1).mono ?_; rintro e w2 ⟨rfl, h2⟩))
    go_ret
    exact ⟨rfl, h6.bel⟩
  · go_enter Try.func5, Try.ntmps5
    go_wp2_with (go_at_call 28; refine (D5.szBig w0 x0 hz h0).mono ?_; rintro e w1 ⟨rfl, h1⟩)
    go_ret
    exact ⟨rfl, h1.bel⟩

set_option maxRecDepth 100000 in
theorem lifted (os : Os) (started : os.Started) (H : Type) (enc : TypeId × Value → H) :
    ReturnsInHanded {} Try.checked os 5 .any (Rows.fnExactFlushSpec.pre6 enc Try.prog Try.f5 Rows.fnExactFlushRow.domain false) (Rows.fnExactFlushSpec.post enc Try.prog Try.f5 false true false false) := by
  refine returnsInHanded_of_change (C := Try.checked) own started (by kernel_rfl) Try.func5
    (ChangeSpec.witness6 (enc := enc) (C := Try.checked) false ⟨#[], #[.agg #[.string ByteArray.empty, .string ByteArray.empty], .int .i64 0, .int .i64 0], []⟩ 8 (by kernel_rfl) (by kernel_rfl) (by kernel_rfl) (by kernel_rfl)) ?_
  intro W base args ds gs before hval0 hW hcnd _
  have hval : ∀ (j : Nat) t v, Try.f5.params[j]? = some t → args[j]? = some v → Value.okWide Try.prog W .any base t v := hval0
  have hW' := hW
  obtain ⟨p, q, hA0, hV, rfl, hfz, hnd⟩ := hW
  have hA : DataW.TrodAll enc Try.prog W 0 (fun _ => true) true Try.f5.params.toList args.toList ds p := hA0
  rw [Try.params5] at hA hval
  obtain ⟨v0, vs0, d0, ds0, p0, q0, hargs, rfl, rfl, h0, r0⟩ := trodAll_cons hA
  obtain ⟨v1, vs1, d1, ds1, p1, q1, rfl, rfl, rfl, h1, r1⟩ := trodAll_cons r0
  obtain ⟨v2, vs2, d2, ds2, p2, q2, rfl, rfl, rfl, h2, r2⟩ := trodAll_cons r1
  obtain ⟨rfl, rfl, rfl⟩ := trodAll_nil r2
  obtain rfl : args = #[v0, v1, v2] := by cases args; simp_all
  obtain ⟨rfl, rfl⟩ := trodVars_none hV
  obtain ⟨a0, b0, rfl, rfl, rfl, w0, x0⟩ := D4.open_dev (hval 0 44 v0 rfl rfl) h0
  obtain ⟨a1, rfl, rfl, rfl, w1⟩ := open_int Try.underlying3 (hval 1 3 v1 rfl rfl) h1
  obtain ⟨a2, rfl, rfl, rfl, w2⟩ := open_int Try.underlying3 (hval 2 3 v2 rfl rfl) h2
  clear hA0 hval0
  simp only [List.append_nil] at hW'
  refine (walk a0 b0 a1 a2 W w0 x0 w1 w2).mono fun e W' ⟨he, hg⟩ => ?_
  subst he
  exact ⟨_, rfl, _, _, _, [], [], [], hW', (trodAll_cons_mk (shut_bool Try.underlying4 _) trodAll_mk0), (trodAll_cons_mk (D4.shut_dev w0 x0) (trodAll_cons_mk (shut_int Try.underlying3 w1) (trodAll_cons_mk (shut_int Try.underlying3 w2) trodAll_mk0))), rfl, hg.frame _, fun h => by cases h⟩

theorem over : Rows.fnExactFlushRow.holds Try.pinned (OpenSpec.ofChange Rows.fnExactFlushSpec) :=
  OpenClaim.holds_of_wide 5 Try.f5 rfl rfl rfl rfl rfl rfl rfl ⟨rfl, rfl, rfl, rfl, rfl⟩ rfl rfl rfl rfl rfl (by kernel_rfl) Try.func5 (by kernel_rfl)
    (of_decide_eq_true (by kernel_rfl)) (by unfold Func.isWrapper; first | (rw [if_pos (by decide +kernel)]; kernel_rfl) | (rw [if_neg (by decide +kernel)]; exact ⟨rfl, rfl⟩))
    (fun os started H enc _ => lifted os started H enc)

theorem proved : Rows.FnExactFlushSaid :=
  over
end Go.Proofs.Ytjibncggalmnmaa.fnExactFlush

namespace Go.Proofs.Ytjibncggalmnmaa
theorem fnExactFlush_proved : Rows.FnExactFlushSaid := fnExactFlush.proved
#print axioms fnExactFlush_proved
end Go.Proofs.Ytjibncggalmnmaa
