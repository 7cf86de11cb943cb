/- At every device and every list of lines the program's Power answers as the specification's. -/
import Derived.Test.YtkpcpffpiilcpaaRows
import Derived.Test.YtkpcpffpiilcpaaPw3
import Derived.WalkKit
import Derived.ProofKit
import Derived.OpenShut
import Derived.ShutString
import Derived.ChangeOld
import Derived.Below
namespace Go.Proofs.Ytkpcpffpiilcpaa.fnExactPower
open Go.ChangeShapes Go.WideShapes Go.ChangeAt Go.RowKit
open Go.ChangeMaps (open_string shut_string)
set_option linter.unusedVariables false
set_option linter.unusedSimpArgs false

theorem own : ownKnob Try.prog.godebug = none := by kernel_rfl

theorem laidOut : laidOutB Try.prog = true := by kernel_rfl

set_option maxHeartbeats 4000000 in
set_option maxRecDepth 10000 in
theorem walk (a0 b0 : ByteArray) (a1 : Option Addr) (c1 : Nat) (z1 : List Int) (w : World) (w0 : a0.size ≤ maxLen) (x0 : b0.size ≤ maxLen) (x1 : z1.length ≤ c1) (y1 : c1 ≤ maxLen) (R1 : P0.Row w a1 z1) :
    Calls Try.prog 6 #[.agg #[.string a0, .string b0], .slice a1 z1.length c1] w fun e w' => e = .returned (.bool true) ∧ Below w.heap.size w w' := by
  have h0 := D5.bx_new a0 b0 w
  by_cases hk : 1048576 < (z1.length : Int)
  · go_enter Try.func6, Try.ntmps6
    go_wp2
    go_ret
    exact ⟨rfl, h0.bel⟩
  · have hn : z1.length ≤ 1048576 := by omega
    by_cases hz : (a0.size : Int) + b0.size ≤ 1048576
    · have e0 : (0 : Int) ≤ 1048576 - a0.size - b0.size := by omega
      have HT : Hid (∀ W, Below w.heap.size w W → Calls Try.prog 32 #[.slice a1 z1.length c1] W fun e w' => ∃ g, e = .returned (.slice (some ⟨g, 0, none⟩) z1.length z1.length) ∧ W.heap.size ≤ g ∧ K0.Blk g (I2.ints z1) w' ∧ Below W.heap.size W w') := fun W hW => I2.toIntS a1 c1 z1 W hn (R1.below hW)
      obtain ⟨M, hM⟩ : ∃ M, W0.pMem a0 b0 z1 = M := ⟨_, rfl⟩
      obtain ⟨D, hD⟩ : ∃ D, W0.pDur a0 b0 z1 = D := ⟨_, rfl⟩
      have sP : Hid (∀ g W, K0.Blk g (I2.ints z1) W → Calls Try.prog 25 #[.agg #[.string a0, .string b0], .slice (some ⟨g, 0, none⟩) z1.length z1.length] W fun e w' => e = .returned (.agg #[.string M, .string D]) ∧ Below W.heap.size W w') := fun g W hB => by rw [← hM, ← hD]; exact W1.spec_Power a0 b0 _ _ z1 W (by omega) (by omega) hn (I2.row_of_blk hB)
      have iP : Hid (∀ g W, K0.Blk g (I2.ints z1) W → Calls Try.prog 24 #[.agg #[.string a0, .string b0], .slice (some ⟨g, 0, none⟩) z1.length z1.length] W fun e w' => e = .returned (.agg #[.string M, .string D]) ∧ Below W.heap.size W w') := fun g W hB => by rw [← hM, ← hD]; exact W2.impl_Power a0 b0 _ _ z1 W (by omega) (by omega) hn (I2.row_of_blk hB)
      have HE : Hid (∀ g1 g2 W, K0.Blk g1 (I2.ints z1) W → K0.Blk g2 (I2.ints z1) W → Calls Try.prog 29 #[.slice (some ⟨g1, 0, none⟩) z1.length z1.length, .slice (some ⟨g2, 0, none⟩) z1.length z1.length] W fun e w' => e = .returned (.bool true) ∧ ∃ n, w' = W.drewN n) := fun g1 g2 W h1 h2 => I2.eqIntS _ _ _ _ z1 W (by omega) (I2.row_of_blk h1) (I2.row_of_blk h2)
      clear hM hD R1
      obtain ⟨kn, hkn⟩ : ∃ kn, z1.length = kn := ⟨_, rfl⟩
      rw [hkn] at hk HT sP iP HE ⊢
      go_enter Try.func6, Try.ntmps6
      go_wp2_with (first
        | (go_at_call 27; refine (D5.szFit hz h0).mono ?_; rintro e w1 ⟨rfl, h1⟩; have p0 := h1.c0; have p1 := h1.c1)
        | (go_at_call 25; refine (sP.out _ _ k3).mono ?_; rintro e w4 ⟨rfl, b4⟩; have h4 := (h3.below b4).alloc (.cells #[.string M, .string D] 25); have q4 := D5.dev_new M D w4)
        | (go_at_call 24; refine (iP.out _ _ k6).mono ?_; rintro e w7 ⟨rfl, b7⟩; have h7 := (h6.below b7).alloc (.cells #[.string M, .string D] 25); have q7 := (q6.below b7).alloc (.cells #[.string M, .string D] 25); have k7 := (k6.below b7).alloc (.cells #[.string M, .string D] 25); have r7 := D5.dev_new M D w7; have m0 := q7.c0; have m1 := q7.c1; have m2 := r7.c0; have m3 := r7.c1)
        | (go_at_call 33; refine (D1.eqDev _ _ _).mono ?_; rintro e w8 ⟨rfl, b8⟩; have h8 := h7.below b8; have k8 := k7.below b8)
        | (go_at_call 29; refine (HE.out _ _ _ k9 j9).mono ?_; rintro e w10 ⟨rfl, n, rfl⟩)
        | (go_at_call 32; refine (HT.out w8 h8.bel).mono ?_; rintro e w9 ⟨g9, rfl, _, j9, b9⟩; have h9 := h8.below b9; have k9 := k8.below b9)
        | (go_at_call 32; refine (HT.out _ h4.bel).mono ?_; rintro e w5 ⟨g5, rfl, _, k5, b5⟩; have h5 := h4.below b5; have q5 := q4.below b5; have p4 := h5.c0; have p5 := h5.c1)
        | (go_at_call 32; refine (HT.out w2 h2.bel).mono ?_; rintro e w3 ⟨g3, rfl, _, k3, b3⟩; have h3 := h2.below b3)
        | (go_at_call 28; have h5' := h5; refine (D1.toDev _ _ _).mono ?_; rintro e w6 ⟨rfl, b6⟩; have h6 := h5.below b6; have q6 := q5.below b6; have k6 := k5.below b6)
        | (go_at_call 28; refine (D5.toDev h1).mono ?_; rintro e w2 ⟨rfl, h2⟩))
      go_ret
      exact ⟨rfl, (h9.below (Y3.below_drewN _ _)).bel⟩
    · go_enter Try.func6, Try.ntmps6
      go_wp2_with (go_at_call 27; refine (D5.szBig w0 x0 hz h0).mono ?_; rintro e w1 ⟨rfl, h1⟩)
      go_ret
      exact ⟨rfl, h1.bel⟩

set_option maxRecDepth 100000 in
theorem lifted (os : Os) (started : os.Started) (H : Type) (enc : TypeId × Value → H) :
    ReturnsInHanded {} Try.checked os 6 .any (Rows.fnExactPowerSpec.pre6 enc Try.prog Try.f6 Rows.fnExactPowerRow.domain false) (Rows.fnExactPowerSpec.post enc Try.prog Try.f6 false true false false) := by
  refine returnsInHanded_of_change (C := Try.checked) own started (by kernel_rfl) Try.func6
    (ChangeSpec.witness6 (enc := enc) (C := Try.checked) false ⟨#[], #[.agg #[.string ByteArray.empty, .string ByteArray.empty], .slice none 0 0], []⟩ 8 (by kernel_rfl) (by kernel_rfl) (by kernel_rfl) (by kernel_rfl)) ?_
  intro W base args ds gs before hval0 hW hcnd _
  have hval : ∀ (j : Nat) t v, Try.f6.params[j]? = some t → args[j]? = some v → Value.okWide Try.prog W .any base t v := hval0
  have hW' := hW
  obtain ⟨p, q, hA0, hV, rfl, hfz, hnd⟩ := hW
  have hA : DataW.TrodAll enc Try.prog W 0 (fun _ => true) true Try.f6.params.toList args.toList ds p := hA0
  rw [Try.params6] at hA hval
  obtain ⟨v0, vs0, d0, ds0, p0, q0, hargs, rfl, rfl, h0, r0⟩ := trodAll_cons hA
  obtain ⟨v1, vs1, d1, ds1, p1, q1, rfl, rfl, rfl, h1, r1⟩ := trodAll_cons r0
  obtain ⟨rfl, rfl, rfl⟩ := trodAll_nil r1
  obtain rfl : args = #[v0, v1] := by cases args; simp_all
  obtain ⟨rfl, rfl⟩ := trodVars_none hV
  obtain ⟨a0, b0, rfl, rfl, rfl, w0, x0⟩ := D4.open_dev (hval 0 44 v0 rfl rfl) h0
  have kk1 := h1
  have lt1 : ∀ x ∈ p1, x.block < W.heap.size := by obtain ⟨m, hm⟩ := kk1; exact DataW.trod_lt m _ _ _ hm
  obtain ⟨a1, len1, cap1, rfl⟩ := okWide_slice Try.underlying32 (hval 1 32 v1 rfl rfl)
  obtain ⟨fuel1, hf1⟩ := h1
  obtain ⟨a1, c1, z1, hv1, x1, y1, R1⟩ := I5.open_row (by simpa [Value.cells] using hf1)
  rw [hv1] at hW' kk1 ⊢
  clear hA0 hval0
  refine (walk a0 b0 a1 c1 z1 W w0 x0 x1 y1 R1).mono fun e W' ⟨he, hg⟩ => ?_
  subst he
  exact ⟨_, rfl, _, _, _, [], _, [], hW', (trodAll_cons_mk (shut_bool Try.underlying4 _) trodAll_mk0), (trodAll_cons_mk (D4.shut_dev w0 x0) (trodAll_cons_mk (Below.trod laidOut (by kernel_rfl) (of_decide_eq_true (by kernel_rfl)) kk1 hg lt1) trodAll_mk0)), rfl, hg.frame _, fun h => by cases h⟩

theorem over : Rows.fnExactPowerRow.holds Try.pinned (OpenSpec.ofChange Rows.fnExactPowerSpec) :=
  OpenClaim.holds_of_wide 6 Try.f6 rfl rfl rfl rfl rfl rfl rfl ⟨rfl, rfl, rfl, rfl, rfl⟩ rfl rfl rfl rfl rfl (by kernel_rfl) Try.func6 (by kernel_rfl)
    (of_decide_eq_true (by kernel_rfl)) (by unfold Func.isWrapper; first | (rw [if_pos (by decide +kernel)]; kernel_rfl) | (rw [if_neg (by decide +kernel)]; exact ⟨rfl, rfl⟩))
    (fun os started H enc _ => lifted os started H enc)

theorem proved : Rows.FnExactPowerSaid :=
  over
end Go.Proofs.Ytkpcpffpiilcpaa.fnExactPower

namespace Go.Proofs.Ytkpcpffpiilcpaa
theorem fnExactPower_proved : Rows.FnExactPowerSaid := fnExactPower.proved
#print axioms fnExactPower_proved
end Go.Proofs.Ytkpcpffpiilcpaa
