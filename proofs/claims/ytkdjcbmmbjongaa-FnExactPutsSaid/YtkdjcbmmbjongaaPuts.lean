/- FnExactPuts holds at every text and every list of puts: the program's Puts answers as the specification's, and writes into no argument; no condition. -/
import Derived.Test.YtkdjcbmmbjongaaRows
import Derived.Test.YtkdjcbmmbjongaaPt0
import Derived.Test.YtkdjcbmmbjongaaPt3
import Derived.WalkKit
import Derived.ProofKit
import Derived.OpenShut
import Derived.ShutString
import Derived.ChangeOld
import Derived.Below
namespace Go.Proofs.Ytkdjcbmmbjongaa.fnExactPuts
open Go.ChangeShapes Go.WideShapes Go.ChangeAt Go.RowKit
open Go.ChangeMaps (open_string shut_string)
set_option linter.unusedVariables false
set_option linter.unusedSimpArgs false

theorem own : ownKnob Try.prog.godebug = none := by kernel_rfl

theorem laidOut : laidOutB Try.prog = true := by kernel_rfl

set_option maxHeartbeats 4000000 in
set_option maxRecDepth 10000 in
theorem walk (a0 : ByteArray) (a1 : Option Addr) (c1 : Nat) (z1 : List T0.Ent) (w : World) (w0 : a0.size ≤ maxLen) (x1 : z1.length ≤ c1) (y1 : c1 ≤ maxLen) (F1 : T4.FitsM z1) (R1 : T0.Row w a1 z1) :
    Calls Try.prog 3 #[.string a0, .slice a1 z1.length c1] w fun e w' => e = .returned (.bool true) ∧ Below w.heap.size w w' := by
  have hn : z1.length ≤ maxLen := Nat.le_trans x1 y1
  by_cases hbig : 1048576 < (a0.size : Int)
  · go_enter Try.func3, Try.ntmps3
    go_wp2
    go_ret
    exact ⟨rfl, Below.refl _ _⟩
  · have hms : a0.size ≤ 281474976710656 := by omega
    by_cases hz : z1.length + T4.sum z1 z1.length ≤ 1048576
    · have e0 : 0 ≤ T4.left z1 := by rw [T4.left, if_pos hz]; omega
      have e1 : decide (T4.left z1 < 0) = false := by simp; omega
      have hfit := T4.fits_of hz
      have hb : z1.length ≤ 1048576 := by omega
      have hb2 : z1.length ≤ 281474976710656 := by omega
      have hu : ∀ x : ByteArray, (x.toList != x.toList) = false := fun x => by simp
      go_enter Try.func3, Try.ntmps3
      go_wp2_with (first
        | (go_at_call 5; refine (PP.szPutS a1 c1 z1 w hn F1 R1).mono ?_; rintro e w1 ⟨rfl, b1⟩; have R1 := R1.below b1; have f1 := b1)
        | (go_at_call 6; refine (PU.spec_Puts a0 _ _ z1 w2 hms hb2 hfit q2).mono ?_; rintro e w3 ⟨rfl, b3⟩; have R3 := R2.below b3; have f3 := f2.trans (b3.mono f2.size))
        | (go_at_call 8; refine (PU.impl_Puts a0 _ _ z1 w4 hms hb2 hfit q4).mono ?_; rintro e w5 ⟨rfl, b5⟩; have R5 := R4.below b5; have q5 := q4.below b5; have f5 := f4.trans (b5.mono f4.size))
        | (go_at_call 9; refine (PP.eqPutS _ _ _ _ z1 w6 hb q5' q6).mono ?_; rintro e w7 ⟨rfl, b7⟩; have f7 := f6.trans (b7.mono f6.size))
        | (go_at_call 7; refine (PP.toPutS a1 c1 z1 w5 hb R5).mono ?_; rintro e w6 ⟨g6, rfl, q6, b6⟩; have q5' := q5.below b6; have f6 := f5.trans (b6.mono f5.size))
        | (go_at_call 7; refine (PP.toPutS a1 c1 z1 w3 hb R3).mono ?_; rintro e w4 ⟨g4, rfl, q4, b4⟩; have R4 := R3.below b4; have f4 := f3.trans (b4.mono f3.size))
        | (go_at_call 7; refine (PP.toPutS a1 c1 z1 w1 hb R1).mono ?_; rintro e w2 ⟨g2, rfl, q2, b2⟩; have R2 := R1.below b2; have f2 := f1.trans (b2.mono f1.size)))
      go_ret
      exact ⟨rfl, f7⟩
    · have e0 : T4.left z1 < 0 := by rw [T4.left, if_neg hz]; omega
      go_enter Try.func3, Try.ntmps3
      go_wp2_with (go_at_call 5; refine (PP.szPutS a1 c1 z1 w hn F1 R1).mono ?_; rintro e w1 ⟨rfl, b1⟩)
      go_ret
      exact ⟨rfl, b1⟩

set_option maxRecDepth 100000 in
theorem lifted (os : Os) (started : os.Started) (H : Type) (enc : TypeId × Value → H) :
    ReturnsInHanded {} Try.checked os 3 .any (Rows.fnExactPutsSpec.pre6 enc Try.prog Try.f3 Rows.fnExactPutsRow.domain false) (Rows.fnExactPutsSpec.post enc Try.prog Try.f3 false true false false) := by
  refine returnsInHanded_of_change (C := Try.checked) own started (by kernel_rfl) Try.func3
    (ChangeSpec.witness6 (enc := enc) (C := Try.checked) false ⟨#[], #[.string ByteArray.empty, .slice none 0 0], []⟩ 8 (by kernel_rfl) (by kernel_rfl) (by kernel_rfl) (by kernel_rfl)) ?_
  intro W base args ds gs before hval0 hW hcnd _
  have hval : ∀ (j : Nat) t v, Try.f3.params[j]? = some t → args[j]? = some v → Value.okWide Try.prog W .any base t v := hval0
  have hW' := hW
  obtain ⟨p, q, hA0, hV, rfl, hfz, hnd⟩ := hW
  have hA : DataW.TrodAll enc Try.prog W 0 (fun _ => true) true Try.f3.params.toList args.toList ds p := hA0
  rw [Try.params3] at hA hval
  obtain ⟨v0, vs0, d0, ds0, p0, q0, hargs, rfl, rfl, h0, r0⟩ := trodAll_cons hA
  obtain ⟨v1, vs1, d1, ds1, p1, q1, rfl, rfl, rfl, h1, r1⟩ := trodAll_cons r0
  obtain ⟨rfl, rfl, rfl⟩ := trodAll_nil r1
  obtain rfl : args = #[v0, v1] := by cases args; simp_all
  obtain ⟨rfl, rfl⟩ := trodVars_none hV
  obtain ⟨a0, rfl, rfl, rfl, w0⟩ := open_string Try.underlying9 (hval 0 9 v0 rfl rfl) h0
  have kk1 := h1
  have lt1 : ∀ x ∈ p1, x.block < W.heap.size := by obtain ⟨m, hm⟩ := kk1; exact DataW.trod_lt m _ _ _ hm
  obtain ⟨a1, len1, cap1, rfl⟩ := okWide_slice Try.underlying22 (hval 1 22 v1 rfl rfl)
  obtain ⟨fuel1, hf1⟩ := h1
  obtain ⟨a1, c1, z1, hv1, x1, y1, F1, R1⟩ := PP.open_puts (by simpa [Value.cells] using hf1)
  rw [hv1] at hW' kk1 ⊢
  clear hA0 hval0
  refine (walk a0 a1 c1 z1 W w0 x1 y1 F1 R1).mono fun e W' ⟨he, hg⟩ => ?_
  subst he
  exact ⟨_, rfl, _, _, _, [], _, [], hW', (trodAll_cons_mk (shut_bool Try.underlying4 _) trodAll_mk0), (trodAll_cons_mk (shut_string Try.underlying9 w0) (trodAll_cons_mk (Below.trod laidOut (by kernel_rfl) (of_decide_eq_true (by kernel_rfl)) kk1 hg lt1) trodAll_mk0)), rfl, hg.frame _, fun h => by cases h⟩

theorem over : Rows.fnExactPutsRow.holds Try.pinned (OpenSpec.ofChange Rows.fnExactPutsSpec) :=
  OpenClaim.holds_of_wide 3 Try.f3 rfl rfl rfl rfl rfl rfl rfl ⟨rfl, rfl, rfl, rfl, rfl⟩ rfl rfl rfl rfl rfl (by kernel_rfl) Try.func3 (by kernel_rfl)
    (of_decide_eq_true (by kernel_rfl)) (by unfold Func.isWrapper; first | (rw [if_pos (by decide +kernel)]; kernel_rfl) | (rw [if_neg (by decide +kernel)]; exact ⟨rfl, rfl⟩))
    (fun os started H enc _ => lifted os started H enc)

theorem proved : Rows.FnExactPutsSaid :=
  over
end Go.Proofs.Ytkdjcbmmbjongaa.fnExactPuts

namespace Go.Proofs.Ytkdjcbmmbjongaa
theorem fnExactPuts_proved : Rows.FnExactPutsSaid := fnExactPuts.proved
#print axioms fnExactPuts_proved
end Go.Proofs.Ytkdjcbmmbjongaa
