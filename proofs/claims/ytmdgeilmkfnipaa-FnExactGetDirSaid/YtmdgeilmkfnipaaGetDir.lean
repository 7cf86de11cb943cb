/- The law FnExactGetDir holds at every argument: impl.GetDir answers as spec.GetDir; its answer is memory of its own, behind another call too. -/
import Derived.Test.YtmdgeilmkfnipaaRows
import Derived.Test.YtmdgeilmkfnipaaGdr5
import Derived.Test.YtmdgeilmkfnipaaGdr2
import Derived.Test.YtmdgeilmkfnipaaGdr3
import Derived.WalkKit
import Derived.ProofKit
import Derived.OpenShut
import Derived.ShutString
namespace Go.Proofs.Ytmdgeilmkfnipaa.fnExactGetDir
open Go.ChangeShapes Go.WideShapes Go.ChangeAt Go.RowKit
open Go.ChangeMaps (open_string shut_string)
set_option linter.unusedVariables false
set_option linter.unusedSimpArgs false

theorem own : ownKnob Try.prog.godebug = none := by kernel_rfl

set_option maxHeartbeats 4000000 in
set_option maxRecDepth 10000 in
theorem walk (a0 : ByteArray) (w : World) (w0 : a0.size ≤ maxLen) :
    Calls Try.prog 12 #[.string a0] w fun e w' => e = .returned (.bool true) ∧ Below w.heap.size w w' := by
  by_cases hbig : 1048576 < (a0.size : Int)
  · go_enter Try.func12, Try.ntmps12
    go_wp2
    go_ret
    exact ⟨rfl, Below.refl _ _⟩
  · have hs : a0.size ≤ 281474976710656 := by omega
    have hz := V5.dE_len a0 (by omega)
    have sG : Hid (∀ W, Calls Try.prog 40 #[.string a0] W (V1.Ans a0 W)) := fun W => V3.spec_GetDir a0 W hs
    have iG : Hid (∀ W, Calls Try.prog 39 #[.string a0] W (V1.Ans a0 W)) := fun W => V2.impl_GetDir a0 W hs
    go_enter Try.func12, Try.ntmps12
    go_wp2_with (first
      | (go_at_call 40; refine (sG.out _).mono ?_; rintro e w1 ⟨aw, cw, rfl, o1, l1, b1⟩)
      | (go_at_call 39; refine (iG.out w5).mono ?_; rintro e w6 ⟨ah, ch, rfl, o6, l6, b6⟩; have h6 := h5.below b6; have r6 := o6.row)
      | (go_at_call 39; refine (iG.out _).mono ?_; rintro e w2 ⟨ag, cg, rfl, o2, l2, b2⟩; have h2 := V5.l_new b1 o1 b2 o2)
      | (go_at_call 56; refine (V5.eq_M hz h6 r6).mono ?_; rintro e w7 ⟨rfl, h7⟩)
      | (go_at_call 56; refine (V5.eq_L hz h2).mono ?_; rintro e w3 ⟨rfl, h3⟩)
      | (go_at_call 57; refine (V5.mark_L hz h3).mono ?_; rintro e w4 ⟨rfl, h4⟩)
      | (go_at_call 58; refine (V5.held_L hz h7).mono ?_; rintro e w8 ⟨rfl, h8⟩)
      | (go_at_call 58; refine (V5.held_L hz h4).mono ?_; rintro e w5 ⟨rfl, h5⟩))
    go_ret
    exact ⟨rfl, h8.bel⟩

set_option maxRecDepth 100000 in
theorem lifted (os : Os) (started : os.Started) (H : Type) (enc : TypeId × Value → H) :
    ReturnsInHanded {} Try.checked os 12 .any (Rows.fnExactGetDirSpec.pre6 enc Try.prog Try.f12 Rows.fnExactGetDirRow.domain false) (Rows.fnExactGetDirSpec.post enc Try.prog Try.f12 false true false false) := by
  refine returnsInHanded_of_change (C := Try.checked) own started (by kernel_rfl) Try.func12
    (ChangeSpec.witness6 (enc := enc) (C := Try.checked) false ⟨#[], #[.string ByteArray.empty], []⟩ 8 (by kernel_rfl) (by kernel_rfl) (by kernel_rfl) (by kernel_rfl)) ?_
  intro W base args ds gs before hval0 hW hcnd _
  have hval : ∀ (j : Nat) t v, Try.f12.params[j]? = some t → args[j]? = some v → Value.okWide Try.prog W .any base t v := hval0
  have hW' := hW
  obtain ⟨p, q, hA0, hV, rfl, hfz, hnd⟩ := hW
  have hA : DataW.TrodAll enc Try.prog W 0 (fun _ => true) true Try.f12.params.toList args.toList ds p := hA0
  rw [Try.params12] at hA hval
  obtain ⟨v0, vs0, d0, ds0, p0, q0, hargs, rfl, rfl, h0, r0⟩ := trodAll_cons hA
  obtain ⟨rfl, rfl, rfl⟩ := trodAll_nil r0
  obtain rfl : args = #[v0] := by cases args; simp_all
  obtain ⟨rfl, rfl⟩ := trodVars_none hV
  obtain ⟨a0, rfl, rfl, rfl, w0⟩ := open_string Try.underlying9 (hval 0 9 v0 rfl rfl) h0
  clear hA0 hval0
  simp only [List.append_nil] at hW'
  refine (walk a0 W w0).mono fun e W' ⟨he, hg⟩ => ?_
  subst he
  exact ⟨_, rfl, _, _, _, [], [], [], hW', (trodAll_cons_mk (shut_bool Try.underlying4 _) trodAll_mk0), (trodAll_cons_mk (shut_string Try.underlying9 w0) trodAll_mk0), rfl, hg.frame _, fun h => by cases h⟩

theorem over : Rows.fnExactGetDirRow.holds Try.pinned (OpenSpec.ofChange Rows.fnExactGetDirSpec) :=
  OpenClaim.holds_of_wide 12 Try.f12 rfl rfl rfl rfl rfl rfl rfl ⟨rfl, rfl, rfl, rfl, rfl⟩ rfl rfl rfl rfl rfl (by kernel_rfl) Try.func12 (by kernel_rfl)
    (of_decide_eq_true (by kernel_rfl)) (by unfold Func.isWrapper; first | (rw [if_pos (by decide +kernel)]; kernel_rfl) | (rw [if_neg (by decide +kernel)]; exact ⟨rfl, rfl⟩))
    (fun os started H enc _ => lifted os started H enc)

theorem proved : Rows.FnExactGetDirSaid :=
  over
end Go.Proofs.Ytmdgeilmkfnipaa.fnExactGetDir

namespace Go.Proofs.Ytmdgeilmkfnipaa
theorem fnExactGetDir_proved : Rows.FnExactGetDirSaid := fnExactGetDir.proved
#print axioms fnExactGetDir_proved
end Go.Proofs.Ytmdgeilmkfnipaa
