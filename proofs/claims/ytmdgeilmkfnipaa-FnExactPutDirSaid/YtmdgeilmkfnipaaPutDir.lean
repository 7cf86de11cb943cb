/- The law FnExactPutDir holds at every argument: impl.PutDir answers as spec.PutDir, and writes into nothing that it was given. -/
import Derived.Test.YtmdgeilmkfnipaaRows
import Derived.Test.YtmdgeilmkfnipaaDir5
import Derived.WalkKit
import Derived.ProofKit
import Derived.OpenShut
import Derived.ShutString
import Derived.ChangeOld
import Derived.Below
namespace Go.Proofs.Ytmdgeilmkfnipaa.fnExactPutDir
open Go.ChangeShapes Go.WideShapes Go.ChangeAt Go.RowKit
open Go.ChangeMaps (open_string shut_string)
set_option linter.unusedVariables false
set_option linter.unusedSimpArgs false

theorem own : ownKnob Try.prog.godebug = none := by kernel_rfl

theorem laidOut : laidOutB Try.prog = true := by kernel_rfl

set_option maxHeartbeats 4000000 in
set_option maxRecDepth 10000 in
theorem walk (a0 : Option Addr) (c0 : Nat) (z0 : List T0.Ent) (w : World) (x0 : z0.length ≤ c0) (y0 : c0 ≤ maxLen) (F0 : T4.FitsM z0) (R0 : T0.Row w a0 z0) :
    Calls Try.prog 11 #[.slice a0 z0.length c0] w fun e w' => e = .returned (.bool true) ∧ Below w.heap.size w w' := by
  have hn : z0.length ≤ maxLen := Nat.le_trans x0 y0
  by_cases hz : z0.length + T4.sum z0 z0.length ≤ 1048576
  · have e0 : 0 ≤ T4.left z0 := by rw [T4.left, if_pos hz]; omega
    have e1 : decide (T4.left z0 < 0) = false := by simp; omega
    have hfit := T4.fits_of hz
    have hb : z0.length ≤ 1048576 := by omega
    go_enter Try.func11, Try.ntmps11
    go_wp2_with (first
      | (go_at_call 54; refine (T4.szEntryS a0 c0 z0 w hn F0 R0).mono ?_; rintro e w1 ⟨rfl, b1⟩; have R1 := R0.below b1; have f1 := b1)
      | (go_at_call 44; refine (T3.spec_PutDir _ _ z0 w2 hb (Nat.le_refl _) hfit q2).mono ?_; rintro e w3 ⟨rfl, b3⟩; have R3 := R2.below b3; have f3 := f2.trans (b3.mono f2.size))
      | (go_at_call 37; refine (T2.impl_PutDir _ _ z0 w4 hb (Nat.le_refl _) hfit q4).mono ?_; rintro e w5 ⟨rfl, b5⟩; have R5 := R4.below b5; have q5 := q4.below b5; have f5 := f4.trans (b5.mono f4.size))
      | (go_at_call 56; refine (T5.eqEntryS _ _ _ _ z0 w6 hb q5' q6).mono ?_; rintro e w7 ⟨rfl, b7⟩; have f7 := f6.trans (b7.mono f6.size))
      | (go_at_call 55; refine (T5.toEntryS a0 c0 z0 w5 hb R5).mono ?_; rintro e w6 ⟨g6, rfl, q6, b6⟩; have q5' := q5.below b6; have f6 := f5.trans (b6.mono f5.size))
      | (go_at_call 55; refine (T5.toEntryS a0 c0 z0 w3 hb R3).mono ?_; rintro e w4 ⟨g4, rfl, q4, b4⟩; have R4 := R3.below b4; have f4 := f3.trans (b4.mono f3.size))
      | (go_at_call 55; refine (T5.toEntryS a0 c0 z0 w1 hb R1).mono ?_; rintro e w2 ⟨g2, rfl, q2, b2⟩; have R2 := R1.below b2; have f2 := f1.trans (b2.mono f1.size)))
    go_ret
    exact ⟨rfl, f7⟩
  · have e0 : T4.left z0 < 0 := by rw [T4.left, if_neg hz]; omega
    go_enter Try.func11, Try.ntmps11
    go_wp2_with (go_at_call 54; refine (T4.szEntryS a0 c0 z0 w hn F0 R0).mono ?_; rintro e w1 ⟨rfl, b1⟩)
    go_ret
    exact ⟨rfl, b1⟩

set_option maxRecDepth 100000 in
theorem lifted (os : Os) (started : os.Started) (H : Type) (enc : TypeId × Value → H) :
    ReturnsInHanded {} Try.checked os 11 .any (Rows.fnExactPutDirSpec.pre6 enc Try.prog Try.f11 Rows.fnExactPutDirRow.domain false) (Rows.fnExactPutDirSpec.post enc Try.prog Try.f11 false true false false) := by
  refine returnsInHanded_of_change (C := Try.checked) own started (by kernel_rfl) Try.func11
    (ChangeSpec.witness6 (enc := enc) (C := Try.checked) false ⟨#[], #[.slice none 0 0], []⟩ 8 (by kernel_rfl) (by kernel_rfl) (by kernel_rfl) (by kernel_rfl)) ?_
  intro W base args ds gs before hval0 hW hcnd _
  have hval : ∀ (j : Nat) t v, Try.f11.params[j]? = some t → args[j]? = some v → Value.okWide Try.prog W .any base t v := hval0
  have hW' := hW
  obtain ⟨p, q, hA0, hV, rfl, hfz, hnd⟩ := hW
  have hA : DataW.TrodAll enc Try.prog W 0 (fun _ => true) true Try.f11.params.toList args.toList ds p := hA0
  rw [Try.params11] at hA hval
  obtain ⟨v0, vs0, d0, ds0, p0, q0, hargs, rfl, rfl, h0, r0⟩ := trodAll_cons hA
  obtain ⟨rfl, rfl, rfl⟩ := trodAll_nil r0
  obtain rfl : args = #[v0] := by cases args; simp_all
  obtain ⟨rfl, rfl⟩ := trodVars_none hV
  have kk0 := h0
  have lt0 : ∀ x ∈ p0, x.block < W.heap.size := by obtain ⟨m, hm⟩ := kk0; exact DataW.trod_lt m _ _ _ hm
  obtain ⟨a0, len0, cap0, rfl⟩ := okWide_slice Try.underlying64 (hval 0 64 v0 rfl rfl)
  obtain ⟨fuel0, hf0⟩ := h0
  obtain ⟨a0, c0, z0, hv0, x0, y0, F0, R0⟩ := T4.open_entries (by simpa [Value.cells] using hf0)
  rw [hv0] at hW' kk0 ⊢
  clear hA0 hval0
  refine (walk a0 c0 z0 W x0 y0 F0 R0).mono fun e W' ⟨he, hg⟩ => ?_
  subst he
  exact ⟨_, rfl, _, _, _, [], _, [], hW', (trodAll_cons_mk (shut_bool Try.underlying4 _) trodAll_mk0), (trodAll_cons_mk (Below.trod laidOut (by kernel_rfl) (of_decide_eq_true (by kernel_rfl)) kk0 hg lt0) trodAll_mk0), rfl, hg.frame _, fun h => by cases h⟩

theorem over : Rows.fnExactPutDirRow.holds Try.pinned (OpenSpec.ofChange Rows.fnExactPutDirSpec) :=
  OpenClaim.holds_of_wide 11 Try.f11 rfl rfl rfl rfl rfl rfl rfl ⟨rfl, rfl, rfl, rfl, rfl⟩ rfl rfl rfl rfl rfl (by kernel_rfl) Try.func11 (by kernel_rfl)
    (of_decide_eq_true (by kernel_rfl)) (by unfold Func.isWrapper; first | (rw [if_pos (by decide +kernel)]; kernel_rfl) | (rw [if_neg (by decide +kernel)]; exact ⟨rfl, rfl⟩))
    (fun os started H enc _ => lifted os started H enc)

theorem proved : Rows.FnExactPutDirSaid :=
  over
end Go.Proofs.Ytmdgeilmkfnipaa.fnExactPutDir

namespace Go.Proofs.Ytmdgeilmkfnipaa
theorem fnExactPutDir_proved : Rows.FnExactPutDirSaid := fnExactPutDir.proved
#print axioms fnExactPutDir_proved
end Go.Proofs.Ytmdgeilmkfnipaa
