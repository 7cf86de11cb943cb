/- The law FnExactGetEntry holds at every argument: impl.GetEntry answers as spec.GetEntry. -/
import Derived.Test.YtmdgeilmkfnipaaRows
import Derived.Test.YtmdgeilmkfnipaaEnt4
import Derived.WalkKit
import Derived.ProofKit
import Derived.OpenShut
import Derived.ShutString
namespace Go.Proofs.Ytmdgeilmkfnipaa.fnExactGetEntry
open Go.ChangeShapes Go.WideShapes Go.ChangeAt Go.RowKit
open Go.ChangeMaps (open_string shut_string)
set_option linter.unusedVariables false

theorem own : ownKnob Try.prog.godebug = none := by kernel_rfl

theorem walk (a0 : ByteArray) (w0 : a0.size ≤ maxLen) (w : World) :
    Calls Try.prog 10 #[.string a0] w fun e w' => e = .returned (.bool true) ∧ Below w.heap.size w w' := by
  by_cases hbig : 1048576 < (a0.size : Int)
  · go_enter Try.func10, Try.ntmps10
    go_wp2
    go_ret
    exact ⟨rfl, Below.refl _ _⟩
  · have hs : a0.size ≤ 281474976710656 := by omega
    have eG : E4.getE a0 = .tuple #[.agg #[.int .i64 (E4.eIno a0), .string (E4.eName a0)], .bool (E4.isE a0)] := rfl
    go_enter Try.func10, Try.ntmps10
    go_wp2_with (first
      | (go_at_call 25; refine (E4.spec_GetEntry _ _ hs).mono ?_; rintro e w1 ⟨rfl, b1⟩; rw [eG]; have h1 := E2.bx_new (E4.eIno a0) (E4.eName a0) w1 33; have f1 := b1.alloc b1.size (.cells #[.int .i64 (E4.eIno a0), .string (E4.eName a0)] 33))
      | (go_at_call 24; refine (E4.impl_GetEntry _ _ hs).mono ?_; rintro e w2 ⟨rfl, b2⟩; rw [eG]; have h2 := (h1.below b2).alloc (.cells #[.int .i64 (E4.eIno a0), .string (E4.eName a0)] 33); have c0 := h2.c0; have c1 := h2.c1; have f2 := (f1.trans (b2.mono f1.size)).alloc (Nat.le_trans f1.size b2.size) (.cells #[.int .i64 (E4.eIno a0), .string (E4.eName a0)] 33))
      | (go_at_call 53; refine (E3.eqEntry _ _ _).mono ?_; rintro e w3 ⟨rfl, b3⟩; have f3 := f2.trans (b3.mono f2.size)))
    go_ret
    exact ⟨rfl, f3⟩

set_option maxRecDepth 100000 in
theorem lifted (os : Os) (started : os.Started) (H : Type) (enc : TypeId × Value → H) :
    ReturnsInHanded {} Try.checked os 10 .any (Rows.fnExactGetEntrySpec.pre6 enc Try.prog Try.f10 Rows.fnExactGetEntryRow.domain false) (Rows.fnExactGetEntrySpec.post enc Try.prog Try.f10 false true false false) := by
  refine returnsInHanded_of_change (C := Try.checked) own started (by kernel_rfl) Try.func10
    (ChangeSpec.witness6 (enc := enc) (C := Try.checked) false ⟨#[], #[.string ByteArray.empty], []⟩ 8 (by kernel_rfl) (by kernel_rfl) (by kernel_rfl) (by kernel_rfl)) ?_
  intro W base args ds gs before hval0 hW hcnd _
  have hval : ∀ (j : Nat) t v, Try.f10.params[j]? = some t → args[j]? = some v → Value.okWide Try.prog W .any base t v := hval0
  have hW' := hW
  obtain ⟨p, q, hA0, hV, rfl, hfz, hnd⟩ := hW
  have hA : DataW.TrodAll enc Try.prog W 0 (fun _ => true) true Try.f10.params.toList args.toList ds p := hA0
  rw [Try.params10] at hA hval
  obtain ⟨v0, vs0, d0, ds0, p0, q0, hargs, rfl, rfl, h0, r0⟩ := trodAll_cons hA
  obtain ⟨rfl, rfl, rfl⟩ := trodAll_nil r0
  obtain rfl : args = #[v0] := by cases args; simp_all
  obtain ⟨rfl, rfl⟩ := trodVars_none hV
  obtain ⟨a0, rfl, rfl, rfl, w0⟩ := open_string Try.underlying9 (hval 0 9 v0 rfl rfl) h0
  clear hA0 hval0
  simp only [List.append_nil] at hW'
  refine (walk a0 w0 W).mono fun e W' ⟨he, hg⟩ => ?_
  subst he
  exact ⟨_, rfl, _, _, _, [], [], [], hW', (trodAll_cons_mk (shut_bool Try.underlying4 _) trodAll_mk0), (trodAll_cons_mk (shut_string Try.underlying9 w0) trodAll_mk0), rfl, hg.frame _, fun h => by cases h⟩

theorem over : Rows.fnExactGetEntryRow.holds Try.pinned (OpenSpec.ofChange Rows.fnExactGetEntrySpec) :=
  OpenClaim.holds_of_wide 10 Try.f10 rfl rfl rfl rfl rfl rfl rfl ⟨rfl, rfl, rfl, rfl, rfl⟩ rfl rfl rfl rfl rfl (by kernel_rfl) Try.func10 (by kernel_rfl)
    (of_decide_eq_true (by kernel_rfl)) (by unfold Func.isWrapper; first | (rw [if_pos (by decide +kernel)]; kernel_rfl) | (rw [if_neg (by decide +kernel)]; exact ⟨rfl, rfl⟩))
    (fun os started H enc _ => lifted os started H enc)

theorem proved : Rows.FnExactGetEntrySaid :=
  over
end Go.Proofs.Ytmdgeilmkfnipaa.fnExactGetEntry

namespace Go.Proofs.Ytmdgeilmkfnipaa
theorem fnExactGetEntry_proved : Rows.FnExactGetEntrySaid := fnExactGetEntry.proved
#print axioms fnExactGetEntry_proved
end Go.Proofs.Ytmdgeilmkfnipaa
