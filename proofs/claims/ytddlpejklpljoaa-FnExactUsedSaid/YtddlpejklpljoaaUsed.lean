/- FnExactUsed: at every argument Used answers as the specification, at every number of its answer; it writes into no argument; its answer owns its memory, behind another call too. Conditions: none beyond the statement's own. -/
import Derived.Test.YtddlpejklpljoaaRows
import Derived.Test.YtddlpejklpljoaaJuB
import Derived.WalkKit
import Derived.ProofKit
import Derived.OpenShut
import Derived.ShutString
namespace Go.Proofs.Ytddlpejklpljoaa.fnExactUsed
open Go.ChangeShapes Go.WideShapes Go.ChangeAt Go.RowKit
open Go.ChangeMaps (open_string shut_string)
set_option linter.unusedVariables false
set_option linter.unusedSimpArgs false

theorem own : ownKnob Try.prog.godebug = none := by kernel_rfl

set_option maxHeartbeats 4000000 in
set_option maxRecDepth 10000 in
theorem walk (a0 : ByteArray) (w : World) (w0 : a0.size ≤ maxLen) :
    Calls Try.prog 6 #[.string a0] w fun e w' => e = .returned (.bool true) ∧ Below w.heap.size w w' := by
  by_cases hbig : 1048576 < (a0.size : Int)
  · go_enter Try.func6, Try.ntmps6
    go_wp2
    go_ret
    exact ⟨rfl, Below.refl _ _⟩
  · have hms : a0.size ≤ 281474976710656 := by omega
    have hn := US.used_len a0
    have sU : Hid (∀ W, Calls Try.prog 17 #[.string a0] W fun e w' => ∃ a c, e = .returned (.slice a (US.used a0).length c) ∧ J0.Own W.heap.size w' a (US.used a0) ∧ Below W.heap.size W w') := fun W => US.spec_Used a0 W hms
    have iU : Hid (∀ W, Calls Try.prog 18 #[.string a0] W fun e w' => ∃ a c, e = .returned (.slice a (US.used a0).length c) ∧ J0.Own W.heap.size w' a (US.used a0) ∧ Below W.heap.size W w') := fun W => US.impl_Used a0 W hms
    obtain ⟨Z, hZ⟩ : ∃ Z, US.used a0 = Z := ⟨_, rfl⟩
    rw [hZ] at sU iU hn
    clear hZ
    go_enter Try.func6, Try.ntmps6
    go_wp2_with (first
      | (go_at_call 17; refine (sU.out _).mono ?_; rintro e w1 ⟨aw, cw, rfl, o1, b1⟩)
      | (go_at_call 18; have t5' := t5; refine (iU.out _).mono ?_; rintro e w6 ⟨ah, ch, rfl, o6, b6⟩; have t6 := t5.below b6; have r6 := o6.row)
      | (go_at_call 18; refine (iU.out _).mono ?_; rintro e w2 ⟨ag, cg, rfl, o2, b2⟩; have t2 := US.l_new b1 o1 b2 o2)
      | (go_at_call 19; refine (US.eq_M hn t6 r6).mono ?_; rintro e w7 ⟨rfl, t7⟩)
      | (go_at_call 19; refine (US.eq_L hn t2).mono ?_; rintro e w3 ⟨rfl, t3⟩)
      | (go_at_call 20; refine (US.mark_L hn t3).mono ?_; rintro e w4 ⟨rfl, t4⟩)
      | (go_at_call 21; refine (US.held_L hn t7).mono ?_; rintro e w8 ⟨rfl, t8⟩)
      | (go_at_call 21; refine (US.held_L hn t4).mono ?_; rintro e w5 ⟨rfl, t5⟩))
    go_ret
    exact ⟨rfl, t8.bel⟩

set_option maxRecDepth 100000 in
theorem lifted (os : Os) (started : os.Started) (H : Type) (enc : TypeId × Value → H) :
    ReturnsInHanded {} Try.checked os 6 .any (Rows.fnExactUsedSpec.pre6 enc Try.prog Try.f6 Rows.fnExactUsedRow.domain false) (Rows.fnExactUsedSpec.post enc Try.prog Try.f6 false true false false) := by
  refine returnsInHanded_of_change (C := Try.checked) own started (by kernel_rfl) Try.func6
    (ChangeSpec.witness6 (enc := enc) (C := Try.checked) false ⟨#[], #[.string ByteArray.empty], []⟩ 8 (by kernel_rfl) (by kernel_rfl) (by kernel_rfl) (by kernel_rfl)) ?_
  intro W base args ds gs before hval0 hW hcnd _
  have hval : ∀ (j : Nat) t v, Try.f6.params[j]? = some t → args[j]? = some v → Value.okWide Try.prog W .any base t v := hval0
  have hW' := hW
  obtain ⟨p, q, hA0, hV, rfl, hfz, hnd⟩ := hW
  have hA : DataW.TrodAll enc Try.prog W 0 (fun _ => true) true Try.f6.params.toList args.toList ds p := hA0
  rw [Try.params6] at hA hval
  obtain ⟨v0, vs0, d0, ds0, p0, q0, hargs, rfl, rfl, h0, r0⟩ := trodAll_cons hA
  obtain ⟨rfl, rfl, rfl⟩ := trodAll_nil r0
  obtain rfl : args = #[v0] := by cases args; simp_all
  obtain ⟨rfl, rfl⟩ := trodVars_none hV
  obtain ⟨a0, rfl, rfl, rfl, w0⟩ := open_string Try.underlying9 (hval 0 9 v0 rfl rfl) h0
  clear hA0 hval0
  simp only [List.append_nil] at hW'
  refine (walk a0 W w0).mono fun e W' ⟨he, hg⟩ => ?_
  subst he
  exact ⟨_, rfl, _, _, _, [], [], [], hW', (trodAll_cons_mk (shut_bool Try.underlying4 _) trodAll_mk0), (trodAll_cons_mk (shut_string Try.underlying9 w0) trodAll_mk0), rfl, hg.frame _, fun h => by cases h⟩

theorem over : Rows.fnExactUsedRow.holds Try.pinned (OpenSpec.ofChange Rows.fnExactUsedSpec) :=
  OpenClaim.holds_of_wide 6 Try.f6 rfl rfl rfl rfl rfl rfl rfl ⟨rfl, rfl, rfl, rfl, rfl⟩ rfl rfl rfl rfl rfl (by kernel_rfl) Try.func6 (by kernel_rfl)
    (of_decide_eq_true (by kernel_rfl)) (by unfold Func.isWrapper; first | (rw [if_pos (by decide +kernel)]; kernel_rfl) | (rw [if_neg (by decide +kernel)]; exact ⟨rfl, rfl⟩))
    (fun os started H enc _ => lifted os started H enc)

theorem proved : Rows.FnExactUsedSaid :=
  over
end Go.Proofs.Ytddlpejklpljoaa.fnExactUsed

namespace Go.Proofs.Ytddlpejklpljoaa
theorem fnExactUsed_proved : Rows.FnExactUsedSaid := fnExactUsed.proved
#print axioms fnExactUsed_proved
end Go.Proofs.Ytddlpejklpljoaa
