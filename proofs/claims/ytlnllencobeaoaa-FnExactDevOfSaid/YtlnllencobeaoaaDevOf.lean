/- Proved: 'laws.FnExactDevOf' answers true at every string, and leaves its argument as it was; no condition. -/
import Derived.Test.YtlnllencobeaoaaRows
import Derived.Test.YtlnllencobeaoaaDev5
import Derived.WalkKit
import Derived.ProofKit
import Derived.OpenShut
import Derived.ShutString
namespace Go.Proofs.Ytlnllencobeaoaa.fnExactDevOf
open Go.ChangeShapes Go.WideShapes Go.ChangeAt Go.RowKit
open Go.ChangeMaps (open_string shut_string)
set_option linter.unusedVariables false

theorem own : ownKnob Try.prog.godebug = none := by kernel_rfl

theorem walk (a0 : ByteArray) (w0 : a0.size ≤ maxLen) (w : World) :
    Calls Try.prog 6 #[.string a0] w fun e w' => e = .returned (.bool true) ∧ Below w.heap.size w w' := by
  have hs := w0
  unfold maxLen at hs
  by_cases hbig : 1048576 < (a0.size : Int)
  · go_enter Try.func6, Try.ntmps6
    go_wp2
    go_ret
    exact ⟨rfl, Below.refl _ _⟩
  · by_cases h : a0.size = 768
    · have ed : D2.devOf a0 = .tuple #[.agg #[.string a0, .string a0], .bool true] := if_pos h
      go_enter Try.func6, Try.ntmps6
      go_wp2_with (first
        | (go_at_call 17; refine (D2.spec_DevOf a0 _ (by omega)).mono ?_; rw [ed]; rintro e w1 ⟨rfl, b1⟩; have f1 := b1.alloc b1.size (.cells #[.string a0, .string a0] 25); have k1 := D5.dev_new a0 a0 w1)
        | (go_at_call 16; refine (D2.impl_DevOf a0 _ (by omega)).mono ?_; rw [ed]; rintro e w2 ⟨rfl, b2⟩; have f2 := f1.trans (b2.mono f1.size); have f3 := f2.alloc f2.size (.cells #[.string a0, .string a0] 25); have k2 := (k1.below b2).alloc (.cells #[.string a0, .string a0] 25); have c0 := k2.c0; have c1 := k2.c1)
        | (go_at_call 31; refine (D1.eqDev _ _ _).mono ?_; rintro e w3 ⟨rfl, b3⟩))
      go_ret
      exact ⟨rfl, f3.trans (b3.mono f3.size)⟩
    · have ed : D2.devOf a0 = .tuple #[.agg #[.string ⟨#[]⟩, .string ⟨#[]⟩], .bool false] := if_neg h
      go_enter Try.func6, Try.ntmps6
      go_wp2_with (first
        | (go_at_call 17; refine (D2.spec_DevOf a0 _ (by omega)).mono ?_; rw [ed]; rintro e w1 ⟨rfl, b1⟩; have f1 := b1.alloc b1.size (.cells #[.string ⟨#[]⟩, .string ⟨#[]⟩] 25); have k1 := D5.dev_new ⟨#[]⟩ ⟨#[]⟩ w1)
        | (go_at_call 16; refine (D2.impl_DevOf a0 _ (by omega)).mono ?_; rw [ed]; rintro e w2 ⟨rfl, b2⟩; have f2 := f1.trans (b2.mono f1.size); have f3 := f2.alloc f2.size (.cells #[.string ⟨#[]⟩, .string ⟨#[]⟩] 25); have k2 := (k1.below b2).alloc (.cells #[.string ⟨#[]⟩, .string ⟨#[]⟩] 25); have c0 := k2.c0; have c1 := k2.c1)
        | (go_at_call 31; refine (D1.eqDev _ _ _).mono ?_; rintro e w3 ⟨rfl, b3⟩))
      go_ret
      exact ⟨rfl, f3.trans (b3.mono f3.size)⟩

set_option maxRecDepth 100000 in
theorem lifted (os : Os) (started : os.Started) (H : Type) (enc : TypeId × Value → H) :
    ReturnsInHanded {} Try.checked os 6 .any (Rows.fnExactDevOfSpec.pre6 enc Try.prog Try.f6 Rows.fnExactDevOfRow.domain false) (Rows.fnExactDevOfSpec.post enc Try.prog Try.f6 false true false false) := by
  refine returnsInHanded_of_change (C := Try.checked) own started (by kernel_rfl) Try.func6
    (ChangeSpec.witness6 (enc := enc) (C := Try.checked) false ⟨#[], #[.string ByteArray.empty], []⟩ 8 (by kernel_rfl) (by kernel_rfl) (by kernel_rfl) (by kernel_rfl)) ?_
  intro W base args ds gs before hval0 hW hcnd _
  have hval : ∀ (j : Nat) t v, Try.f6.params[j]? = some t → args[j]? = some v → Value.okWide Try.prog W .any base t v := hval0
  have hW' := hW
  obtain ⟨p, q, hA0, hV, rfl, hfz, hnd⟩ := hW
  have hA : DataW.TrodAll enc Try.prog W 0 (fun _ => true) true Try.f6.params.toList args.toList ds p := hA0
  rw [Try.params6] at hA hval
  obtain ⟨v0, vs0, d0, ds0, p0, q0, hargs, rfl, rfl, h0, r0⟩ := trodAll_cons hA
  obtain ⟨rfl, rfl, rfl⟩ := trodAll_nil r0
  obtain rfl : args = #[v0] := by cases args; simp_all
  obtain ⟨rfl, rfl⟩ := trodVars_none hV
  obtain ⟨a0, rfl, rfl, rfl, w0⟩ := open_string Try.underlying9 (hval 0 9 v0 rfl rfl) h0
  clear hA0 hval0
  simp only [List.append_nil] at hW'
  refine (walk a0 w0 W).mono fun e W' ⟨he, hg⟩ => ?_
  subst he
  exact ⟨_, rfl, _, _, _, [], [], [], hW', (trodAll_cons_mk (shut_bool Try.underlying4 _) trodAll_mk0), (trodAll_cons_mk (shut_string Try.underlying9 w0) trodAll_mk0), rfl, hg.frame _, fun h => by cases h⟩

theorem over : Rows.fnExactDevOfRow.holds Try.pinned (OpenSpec.ofChange Rows.fnExactDevOfSpec) :=
  OpenClaim.holds_of_wide 6 Try.f6 rfl rfl rfl rfl rfl rfl rfl ⟨rfl, rfl, rfl, rfl, rfl⟩ rfl rfl rfl rfl rfl (by kernel_rfl) Try.func6 (by kernel_rfl)
    (of_decide_eq_true (by kernel_rfl)) (by unfold Func.isWrapper; first | (rw [if_pos (by decide +kernel)]; kernel_rfl) | (rw [if_neg (by decide +kernel)]; exact ⟨rfl, rfl⟩))
    (fun os started H enc _ => lifted os started H enc)

theorem proved : Rows.FnExactDevOfSaid :=
  over
end Go.Proofs.Ytlnllencobeaoaa.fnExactDevOf

namespace Go.Proofs.Ytlnllencobeaoaa
theorem fnExactDevOf_proved : Rows.FnExactDevOfSaid := fnExactDevOf.proved
#print axioms fnExactDevOf_proved
end Go.Proofs.Ytlnllencobeaoaa
