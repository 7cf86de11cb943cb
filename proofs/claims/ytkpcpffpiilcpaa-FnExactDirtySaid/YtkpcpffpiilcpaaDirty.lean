/- At every device the program's Dirty answers as the specification's, and what it hands out is its own. -/
import Derived.Test.YtkpcpffpiilcpaaRows
import Derived.Test.YtkpcpffpiilcpaaDrt3
import Derived.WalkKit
import Derived.ProofKit
import Derived.OpenShut
import Derived.ShutString
namespace Go.Proofs.Ytkpcpffpiilcpaa.fnExactDirty
open Go.ChangeShapes Go.WideShapes Go.ChangeAt Go.RowKit
open Go.ChangeMaps (open_string shut_string)
set_option linter.unusedVariables false
set_option linter.unusedSimpArgs false

theorem own : ownKnob Try.prog.godebug = none := by kernel_rfl

set_option maxHeartbeats 4000000 in
set_option maxRecDepth 10000 in
theorem walk (a0 b0 : ByteArray) (w : World) (w0 : a0.size ≤ maxLen) (x0 : b0.size ≤ maxLen) :
    Calls Try.prog 5 #[.agg #[.string a0, .string b0]] w fun e w' => e = .returned (.bool true) ∧ Below w.heap.size w w' := by
  have h0 := D5.bx_new a0 b0 w
  by_cases hz : (a0.size : Int) + b0.size ≤ 1048576
  · have e0 : (0 : Int) ≤ 1048576 - a0.size - b0.size := by omega
    have hn : (Y0.dirty a0 b0).length ≤ 1048576 := Nat.le_trans (Y0.dirty_len a0 b0) (by decide)
    obtain ⟨Z, hZ⟩ : ∃ Z, Y0.dirty a0 b0 = Z := ⟨_, rfl⟩
    have sD : Hid (∀ W, Calls Try.prog 19 #[.agg #[.string a0, .string b0]] W fun e w' => ∃ p c, e = .returned (.slice p Z.length c) ∧ J0.Own W.heap.size w' p Z ∧ Below W.heap.size W w') := fun W => (Y0.spec_Dirty a0 b0 W (by omega) (by omega)).mono fun e w' ⟨p, c, he, ho, hc, hb⟩ => by rw [hZ] at he ho; exact ⟨p, c, he, ho, hb⟩
    have iD : Hid (∀ W, Calls Try.prog 12 #[.agg #[.string a0, .string b0]] W fun e w' => ∃ p c, e = .returned (.slice p Z.length c) ∧ J0.Own W.heap.size w' p Z ∧ Below W.heap.size W w') := fun W => (Y2.impl_Dirty a0 b0 W (by omega) (by omega)).mono fun e w' ⟨p, c, he, ho, hc, hb⟩ => by rw [hZ] at he ho; exact ⟨p, c, he, ho, hb⟩
    rw [hZ] at hn
    clear hZ
    go_enter Try.func5, Try.ntmps5
    go_wp2_with (first
      | (go_at_call 27; refine (D5.szFit hz h0).mono ?_; rintro e w1 ⟨rfl, h1⟩; have c0 := h1.c0; have c1 := h1.c1)
      | (go_at_call 19; refine (sD.out _).mono ?_; rintro e w3 ⟨aw, cw, rfl, o3, b3⟩; have h3 := h2.below b3; have d0 := h3.c0; have d1 := h3.c1)
      | (go_at_call 12; have t8' := t8; refine (iD.out _).mono ?_; rintro e w9 ⟨ah, ch, rfl, o9, b9⟩; have t9 := t8.below b9; have r9 := o9.row)
      | (go_at_call 12; refine (iD.out _).mono ?_; rintro e w5 ⟨ag, cg, rfl, o5, b5⟩; have t5 := Y3.l_new h2 b3 o3 b4 b5 o5)
      | (go_at_call 29; refine (Y3.eq_M hn t9 r9).mono ?_; rintro e w10 ⟨rfl, t10⟩)
      | (go_at_call 29; refine (Y3.eq_L hn t5).mono ?_; rintro e w6 ⟨rfl, t6⟩)
      | (go_at_call 30; refine (Y3.mark_L hn t6).mono ?_; rintro e w7a ⟨rfl, t7a⟩)
      | (go_at_call 31; refine (Y3.held_L hn t10).mono ?_; rintro e w11 ⟨rfl, t11⟩)
      | (go_at_call 31; refine (Y3.held_L hn t7a).mono ?_; rintro e w7 ⟨rfl, t7⟩; have f0 := t7.bx.c0; have f1 := t7.bx.c1)
      | (go_at_call 28; have t7' := t7; refine (D1.toDev _ _ _).mono ?_; rintro e w8 ⟨rfl, b8⟩; have t8 := t7.below b8)
      | (go_at_call 28; have h3' := h3; refine (D1.toDev _ _ _).mono ?_; rintro e w4 ⟨rfl, b4⟩)
      | (go_at_call 28; refine (D5.toDev h1).mono ?_; rintro e w2 ⟨rfl, h2⟩))
    go_ret
    exact ⟨rfl, t11.bx.bel⟩
  · go_enter Try.func5, Try.ntmps5
    go_wp2_with (go_at_call 27; refine (D5.szBig w0 x0 hz h0).mono ?_; rintro e w1 ⟨rfl, h1⟩)
    go_ret
    exact ⟨rfl, h1.bel⟩

set_option maxRecDepth 100000 in
theorem lifted (os : Os) (started : os.Started) (H : Type) (enc : TypeId × Value → H) :
    ReturnsInHanded {} Try.checked os 5 .any (Rows.fnExactDirtySpec.pre6 enc Try.prog Try.f5 Rows.fnExactDirtyRow.domain false) (Rows.fnExactDirtySpec.post enc Try.prog Try.f5 false true false false) := by
  refine returnsInHanded_of_change (C := Try.checked) own started (by kernel_rfl) Try.func5
    (ChangeSpec.witness6 (enc := enc) (C := Try.checked) false ⟨#[], #[.agg #[.string ByteArray.empty, .string ByteArray.empty]], []⟩ 8 (by kernel_rfl) (by kernel_rfl) (by kernel_rfl) (by kernel_rfl)) ?_
  intro W base args ds gs before hval0 hW hcnd _
  have hval : ∀ (j : Nat) t v, Try.f5.params[j]? = some t → args[j]? = some v → Value.okWide Try.prog W .any base t v := hval0
  have hW' := hW
  obtain ⟨p, q, hA0, hV, rfl, hfz, hnd⟩ := hW
  have hA : DataW.TrodAll enc Try.prog W 0 (fun _ => true) true Try.f5.params.toList args.toList ds p := hA0
  rw [Try.params5] at hA hval
  obtain ⟨v0, vs0, d0, ds0, p0, q0, hargs, rfl, rfl, h0, r0⟩ := trodAll_cons hA
  obtain ⟨rfl, rfl, rfl⟩ := trodAll_nil r0
  obtain rfl : args = #[v0] := by cases args; simp_all
  obtain ⟨rfl, rfl⟩ := trodVars_none hV
  obtain ⟨a0, b0, rfl, rfl, rfl, w0, x0⟩ := D4.open_dev (hval 0 44 v0 rfl rfl) h0
  clear hA0 hval0
  simp only [List.append_nil] at hW'
  refine (walk a0 b0 W w0 x0).mono fun e W' ⟨he, hg⟩ => ?_
  subst he
  exact ⟨_, rfl, _, _, _, [], [], [], hW', (trodAll_cons_mk (shut_bool Try.underlying4 _) trodAll_mk0), (trodAll_cons_mk (D4.shut_dev w0 x0) trodAll_mk0), rfl, hg.frame _, fun h => by cases h⟩

theorem over : Rows.fnExactDirtyRow.holds Try.pinned (OpenSpec.ofChange Rows.fnExactDirtySpec) :=
  OpenClaim.holds_of_wide 5 Try.f5 rfl rfl rfl rfl rfl rfl rfl ⟨rfl, rfl, rfl, rfl, rfl⟩ rfl rfl rfl rfl rfl (by kernel_rfl) Try.func5 (by kernel_rfl)
    (of_decide_eq_true (by kernel_rfl)) (by unfold Func.isWrapper; first | (rw [if_pos (by decide +kernel)]; kernel_rfl) | (rw [if_neg (by decide +kernel)]; exact ⟨rfl, rfl⟩))
    (fun os started H enc _ => lifted os started H enc)

theorem proved : Rows.FnExactDirtySaid :=
  over
end Go.Proofs.Ytkpcpffpiilcpaa.fnExactDirty

namespace Go.Proofs.Ytkpcpffpiilcpaa
theorem fnExactDirty_proved : Rows.FnExactDirtySaid := fnExactDirty.proved
#print axioms fnExactDirty_proved
end Go.Proofs.Ytkpcpffpiilcpaa
