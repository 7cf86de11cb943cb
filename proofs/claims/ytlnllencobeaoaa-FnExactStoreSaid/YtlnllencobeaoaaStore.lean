/- Proved: 'laws.FnExactStore' answers true at every device, every int and every string, and leaves its arguments as they were; no condition. -/
import Derived.Test.YtlnllencobeaoaaRows
import Derived.Test.YtlnllencobeaoaaDev5
import Derived.WalkKit
import Derived.ProofKit
import Derived.OpenShut
import Derived.ShutString
namespace Go.Proofs.Ytlnllencobeaoaa.fnExactStore
open Go.ChangeShapes Go.WideShapes Go.ChangeAt Go.RowKit
open Go.ChangeMaps (open_string shut_string)
set_option linter.unusedVariables false

theorem own : ownKnob Try.prog.godebug = none := by kernel_rfl

theorem walk (a0 b0 : ByteArray) (a1 : Int) (a2 : ByteArray) (w0 : a0.size ≤ maxLen) (x0 : b0.size ≤ maxLen) (w1 : (Lit.int .i64 a1).wf = true) (w2 : a2.size ≤ maxLen) (w : World) :
    Calls Try.prog 7 #[.agg #[.string a0, .string b0], .int .i64 a1, .string a2] w fun e w' => e = .returned (.bool true) ∧ Below w.heap.size w w' := by
  have h0 := D5.bx_new a0 b0 w
  by_cases hbig : 1048576 < (a2.size : Int)
  · go_enter Try.func7, Try.ntmps7
    go_wp2
    go_ret
    exact ⟨rfl, h0.bel⟩
  · by_cases hz : (a0.size : Int) + b0.size ≤ 1048576
    · have e0 : (0 : Int) ≤ 1048576 - a0.size - b0.size := by omega
      go_enter Try.func7, Try.ntmps7
      go_wp2_with (first
        | (go_at_call 29; refine (D5.szFit hz h0).mono ?_; rintro e w1 ⟨rfl, h1⟩; have c0 := h1.c0; have c1 := h1.c1)
        | (go_at_call 18; refine (D2.spec_Store _ _ _ _ _ (by omega) (by omega) (by omega)).mono ?_; rintro e w3 ⟨rfl, b3⟩; have h3 := (h2.below b3).alloc (.cells #[.string (D2.stored a0 b0 a1 a2), .string b0] 25); have k3 := D5.dev_new (D2.stored a0 b0 a1 a2) b0 w3; have q0 := h3.c0; have q1 := h3.c1)
        | (go_at_call 11; refine (D2.impl_Store _ _ _ _ _ (by omega) (by omega) (by omega)).mono ?_; rintro e w5 ⟨rfl, b5⟩; have h5 := (h4.below b5).alloc (.cells #[.string (D2.stored a0 b0 a1 a2), .string b0] 25); have k5 := (k4.below b5).alloc (.cells #[.string (D2.stored a0 b0 a1 a2), .string b0] 25); have r0 := k5.c0; have r1 := k5.c1)
        | (go_at_call 31; refine (D1.eqDev _ _ _).mono ?_; rintro e w6 ⟨rfl, b6⟩; have h6 := h5.below b6)
        | (go_at_call 30; have k3' := k3; refine (D1.toDev _ _ _).mono ?_; rintro e w4 ⟨rfl, b4⟩; have h4 := h3.below b4; have k4 := k3.below b4)
        | (go_at_call 30; refine (D5.toDev h1).mono ?_; rintro e w2 ⟨rfl, h2⟩))
      go_ret
      exact ⟨rfl, h6.bel⟩
    · go_enter Try.func7, Try.ntmps7
      go_wp2_with (go_at_call 29; refine (D5.szBig w0 x0 hz h0).mono ?_; rintro e w1 ⟨rfl, h1⟩)
      go_ret
      exact ⟨rfl, h1.bel⟩

set_option maxRecDepth 100000 in
theorem lifted (os : Os) (started : os.Started) (H : Type) (enc : TypeId × Value → H) :
    ReturnsInHanded {} Try.checked os 7 .any (Rows.fnExactStoreSpec.pre6 enc Try.prog Try.f7 Rows.fnExactStoreRow.domain false) (Rows.fnExactStoreSpec.post enc Try.prog Try.f7 false true false false) := by
  refine returnsInHanded_of_change (C := Try.checked) own started (by kernel_rfl) Try.func7
    (ChangeSpec.witness6 (enc := enc) (C := Try.checked) false ⟨#[], #[.agg #[.string ByteArray.empty, .string ByteArray.empty], .int .i64 0, .string ByteArray.empty], []⟩ 8 (by kernel_rfl) (by kernel_rfl) (by kernel_rfl) (by kernel_rfl)) ?_
  intro W base args ds gs before hval0 hW hcnd _
  have hval : ∀ (j : Nat) t v, Try.f7.params[j]? = some t → args[j]? = some v → Value.okWide Try.prog W .any base t v := hval0
  have hW' := hW
  obtain ⟨p, q, hA0, hV, rfl, hfz, hnd⟩ := hW
  have hA : DataW.TrodAll enc Try.prog W 0 (fun _ => true) true Try.f7.params.toList args.toList ds p := hA0
  rw [Try.params7] at hA hval
  obtain ⟨v0, vs0, d0, ds0, p0, q0, hargs, rfl, rfl, h0, r0⟩ := trodAll_cons hA
  obtain ⟨v1, vs1, d1, ds1, p1, q1, rfl, rfl, rfl, h1, r1⟩ := trodAll_cons r0
  obtain ⟨v2, vs2, d2, ds2, p2, q2, rfl, rfl, rfl, h2, r2⟩ := trodAll_cons r1
  obtain ⟨rfl, rfl, rfl⟩ := trodAll_nil r2
  obtain rfl : args = #[v0, v1, v2] := by cases args; simp_all
  obtain ⟨rfl, rfl⟩ := trodVars_none hV
  obtain ⟨a0, b0, rfl, rfl, rfl, w0, x0⟩ := D4.open_dev (hval 0 44 v0 rfl rfl) h0
  obtain ⟨a1, rfl, rfl, rfl, w1⟩ := open_int Try.underlying3 (hval 1 3 v1 rfl rfl) h1
  obtain ⟨a2, rfl, rfl, rfl, w2⟩ := open_string Try.underlying9 (hval 2 9 v2 rfl rfl) h2
  clear hA0 hval0
  simp only [List.append_nil] at hW'
  refine (walk a0 b0 a1 a2 w0 x0 w1 w2 W).mono fun e W' ⟨he, hg⟩ => ?_
  subst he
  exact ⟨_, rfl, _, _, _, [], [], [], hW', (trodAll_cons_mk (shut_bool Try.underlying4 _) trodAll_mk0), (trodAll_cons_mk (D4.shut_dev w0 x0) (trodAll_cons_mk (shut_int Try.underlying3 w1) (trodAll_cons_mk (shut_string Try.underlying9 w2) trodAll_mk0))), rfl, hg.frame _, fun h => by cases h⟩

theorem over : Rows.fnExactStoreRow.holds Try.pinned (OpenSpec.ofChange Rows.fnExactStoreSpec) :=
  OpenClaim.holds_of_wide 7 Try.f7 rfl rfl rfl rfl rfl rfl rfl ⟨rfl, rfl, rfl, rfl, rfl⟩ rfl rfl rfl rfl rfl (by kernel_rfl) Try.func7 (by kernel_rfl)
    (of_decide_eq_true (by kernel_rfl)) (by unfold Func.isWrapper; first | (rw [if_pos (by decide +kernel)]; kernel_rfl) | (rw [if_neg (by decide +kernel)]; exact ⟨rfl, rfl⟩))
    (fun os started H enc _ => lifted os started H enc)

theorem proved : Rows.FnExactStoreSaid :=
  over
end Go.Proofs.Ytlnllencobeaoaa.fnExactStore

namespace Go.Proofs.Ytlnllencobeaoaa
theorem fnExactStore_proved : Rows.FnExactStoreSaid := fnExactStore.proved
#print axioms fnExactStore_proved
end Go.Proofs.Ytlnllencobeaoaa
