/- FnExactFiles: at every argument Files answers as the specification, every field of every file; it writes into no argument; its answer owns its memory, behind another call too. Conditions: none beyond the statement's own. -/
import Derived.Test.YtddlpejklpljoaaRows
import Derived.Test.YtddlpejklpljoaaJxA
import Derived.WalkKit
import Derived.ProofKit
import Derived.OpenShut
import Derived.ShutString
namespace Go.Proofs.Ytddlpejklpljoaa.fnExactFiles
open Go.ChangeShapes Go.WideShapes Go.ChangeAt Go.RowKit
open Go.ChangeMaps (open_string shut_string)
set_option linter.unusedVariables false
set_option linter.unusedSimpArgs false

theorem own : ownKnob Try.prog.godebug = none := by kernel_rfl

set_option maxHeartbeats 4000000 in
set_option maxRecDepth 10000 in
theorem walk (a0 : ByteArray) (w : World) (w0 : a0.size ≤ maxLen) :
    Calls Try.prog 4 #[.string a0] w fun e w' => e = .returned (.bool true) ∧ Below w.heap.size w w' := by
  by_cases hbig : 1048576 < (a0.size : Int)
  · go_enter Try.func4, Try.ntmps4
    go_wp2
    go_ret
    exact ⟨rfl, Below.refl _ _⟩
  · have hms : a0.size ≤ 281474976710656 := by omega
    have hn := FI.files_len a0
    have sU : Hid (∀ W, Calls Try.prog 10 #[.string a0] W fun e w' => ∃ g c, e = .returned (.slice (some ⟨g, 0, none⟩) (FI.files a0).length c) ∧ W.heap.size ≤ g ∧ K0.Blk g (FI.ffl (FI.files a0)) w' ∧ Below W.heap.size W w') := fun W => FI.spec_Files a0 W hms
    have iU : Hid (∀ W, Calls Try.prog 11 #[.string a0] W fun e w' => ∃ g c, e = .returned (.slice (some ⟨g, 0, none⟩) (FI.files a0).length c) ∧ W.heap.size ≤ g ∧ K0.Blk g (FI.ffl (FI.files a0)) w' ∧ Below W.heap.size W w') := fun W => FI.impl_Files a0 W hms
    obtain ⟨Z, hZ⟩ : ∃ Z, FI.files a0 = Z := ⟨_, rfl⟩
    rw [hZ] at sU iU hn
    have hq9 : decide (1 + 5 * (Z.length : Int) < 0) = false := by
      rw [decide_eq_false_iff_not]
      omega
    clear hZ
    go_enter Try.func4, Try.ntmps4
    go_wp2_with (first
      | (go_at_call 10; refine (sU.out _).mono ?_; rintro e w1 ⟨g1, cw, rfl, o1, k1, b1⟩)
      | (go_at_call 11; have t5' := t5; refine (iU.out _).mono ?_; rintro e w6 ⟨g6, ch, rfl, o6, k6, b6⟩; have t6 := t5.below b6)
      | (go_at_call 11; refine (iU.out _).mono ?_; rintro e w2 ⟨g2, cg, rfl, o2, k2, b2⟩; have t2 := FI.l_new b1 k1 b2 o2 k2)
      | (go_at_call 12; have t6' := t6; refine (FI.eqFileS _ _ _ _ Z _ hn k6 t6.k1).mono ?_; rintro e w7 ⟨rfl, b7⟩; have t7 := t6.below b7)
      | (go_at_call 12; refine (FI.eqFileS _ _ _ _ Z _ hn t2.k2 t2.k1).mono ?_; rintro e w3 ⟨rfl, b3⟩; have t3 := t2.below b3)
      | (go_at_call 13; refine (FI.mark_L hn t3).mono ?_; rintro e w4 ⟨rfl, t4⟩)
      | (go_at_call 14; refine (FI.held_L hn t7).mono ?_; rintro e w8 ⟨rfl, t8⟩)
      | (go_at_call 14; refine (FI.held_L hn t4).mono ?_; rintro e w5 ⟨rfl, t5⟩))
    go_ret
    exact ⟨rfl, t8.bel⟩

set_option maxRecDepth 100000 in
theorem lifted (os : Os) (started : os.Started) (H : Type) (enc : TypeId × Value → H) :
    ReturnsInHanded {} Try.checked os 4 .any (Rows.fnExactFilesSpec.pre6 enc Try.prog Try.f4 Rows.fnExactFilesRow.domain false) (Rows.fnExactFilesSpec.post enc Try.prog Try.f4 false true false false) := by
  refine returnsInHanded_of_change (C := Try.checked) own started (by kernel_rfl) Try.func4
    (ChangeSpec.witness6 (enc := enc) (C := Try.checked) false ⟨#[], #[.string ByteArray.empty], []⟩ 8 (by kernel_rfl) (by kernel_rfl) (by kernel_rfl) (by kernel_rfl)) ?_
  intro W base args ds gs before hval0 hW hcnd _
  have hval : ∀ (j : Nat) t v, Try.f4.params[j]? = some t → args[j]? = some v → Value.okWide Try.prog W .any base t v := hval0
  have hW' := hW
  obtain ⟨p, q, hA0, hV, rfl, hfz, hnd⟩ := hW
  have hA : DataW.TrodAll enc Try.prog W 0 (fun _ => true) true Try.f4.params.toList args.toList ds p := hA0
  rw [Try.params4] at hA hval
  obtain ⟨v0, vs0, d0, ds0, p0, q0, hargs, rfl, rfl, h0, r0⟩ := trodAll_cons hA
  obtain ⟨rfl, rfl, rfl⟩ := trodAll_nil r0
  obtain rfl : args = #[v0] := by cases args; simp_all
  obtain ⟨rfl, rfl⟩ := trodVars_none hV
  obtain ⟨a0, rfl, rfl, rfl, w0⟩ := open_string Try.underlying9 (hval 0 9 v0 rfl rfl) h0
  clear hA0 hval0
  simp only [List.append_nil] at hW'
  refine (walk a0 W w0).mono fun e W' ⟨he, hg⟩ => ?_
  subst he
  exact ⟨_, rfl, _, _, _, [], [], [], hW', (trodAll_cons_mk (shut_bool Try.underlying4 _) trodAll_mk0), (trodAll_cons_mk (shut_string Try.underlying9 w0) trodAll_mk0), rfl, hg.frame _, fun h => by cases h⟩

theorem over : Rows.fnExactFilesRow.holds Try.pinned (OpenSpec.ofChange Rows.fnExactFilesSpec) :=
  OpenClaim.holds_of_wide 4 Try.f4 rfl rfl rfl rfl rfl rfl rfl ⟨rfl, rfl, rfl, rfl, rfl⟩ rfl rfl rfl rfl rfl (by kernel_rfl) Try.func4 (by kernel_rfl)
    (of_decide_eq_true (by kernel_rfl)) (by unfold Func.isWrapper; first | (rw [if_pos (by decide +kernel)]; kernel_rfl) | (rw [if_neg (by decide +kernel)]; exact ⟨rfl, rfl⟩))
    (fun os started H enc _ => lifted os started H enc)

theorem proved : Rows.FnExactFilesSaid :=
  over
end Go.Proofs.Ytddlpejklpljoaa.fnExactFiles

namespace Go.Proofs.Ytddlpejklpljoaa
theorem fnExactFiles_proved : Rows.FnExactFilesSaid := fnExactFiles.proved
#print axioms fnExactFiles_proved
end Go.Proofs.Ytddlpejklpljoaa
