/- The law FnExactLoad holds at every argument: impl.Load answers as spec.Load; its answer is memory of its own, behind another call too. -/
import Derived.Test.YtacalabjclclhaaRows
import Derived.Test.YtacalabjclclhaaLoad3
import Derived.Test.YtacalabjclclhaaGet5
import Derived.WalkKit
import Derived.ProofKit
import Derived.OpenShut
import Derived.ShutString
namespace Go.Proofs.Ytacalabjclclhaa.fnExactLoad
open Go.ChangeShapes Go.WideShapes Go.ChangeAt Go.RowKit
open Go.ChangeMaps (open_string shut_string)
set_option linter.unusedVariables false
set_option linter.unusedSimpArgs false

theorem own : ownKnob Try.prog.godebug = none := by kernel_rfl

set_option maxHeartbeats 4000000 in
set_option maxRecDepth 10000 in
theorem walk (a0 : ByteArray) (a1 : Int) (w : World) (w0 : a0.size ≤ maxLen) (w1 : (Lit.int .i64 a1).wf = true) :
    Calls Try.prog 8 #[.string a0, .int .i64 a1] w fun e w' => e = .returned (.bool true) ∧ Below w.heap.size w w' := by
  by_cases hbig : 1048576 < (a0.size : Int)
  · go_enter Try.func8, Try.ntmps8
    go_wp2
    go_ret
    exact ⟨rfl, Below.refl _ _⟩
  · have hs : a0.size ≤ 281474976710656 := by omega
    have hz : (O0.lZ a0 a1).length ≤ 1048576 := by
      unfold O0.lZ G0.gZ
      split
      · split
        · rw [G0.pgs_length]; have := G0.cnt_le (O0.recd a0 a1); omega
        · exact Nat.zero_le _
      · exact Nat.zero_le _
    have hz2 : (O0.lZ a0 a1).length ≤ 281474976710656 := by omega
    have sG : Hid (∀ W, Calls Try.prog 45 #[.string a0, .int .i64 a1] W (O2.Ans a0 a1 W)) := fun W => O3.spec_Load a0 a1 W hs
    have iG : Hid (∀ W, Calls Try.prog 44 #[.string a0, .int .i64 a1] W (O2.Ans a0 a1 W)) := fun W => O3.impl_Load a0 a1 W hs
    go_enter Try.func8, Try.ntmps8
    go_wp2_with (first
      | (go_at_call 45; refine (sG.out _).mono ?_; rintro e w1 ⟨aw, cw, rfl, o1, l1, b1⟩)
      | (go_at_call 44; refine (iG.out w5).mono ?_; rintro e w6 ⟨ah, ch, rfl, o6, l6, b6⟩; have h6 := (h5.below b6).alloc (.cells #[.int .i64 (O0.lK a0 a1), .int .i64 (O0.lO a0 a1), .int .i64 (O0.lS a0 a1), .slice ah (O0.lZ a0 a1).length ch] 26); have r6 := (o6.row).alloc (.cells #[.int .i64 (O0.lK a0 a1), .int .i64 (O0.lO a0 a1), .int .i64 (O0.lS a0 a1), .slice ah (O0.lZ a0 a1).length ch] 26); have j0 := h6.bw.c0; have j1 := h6.bw.c1; have j2 := h6.bw.c2; have j3 := h6.bw.c3)
      | (go_at_call 44; refine (iG.out _).mono ?_; rintro e w2 ⟨ag, cg, rfl, o2, l2, b2⟩; have h2 := G5.l_new (cg := cg) b1 o1 b2 o2; have c0 := h2.bw.c0; have c1 := h2.bw.c1; have c2 := h2.bw.c2; have c3 := h2.bw.c3)
      | (go_at_call 50; refine (G5.eq_M hz2 h6 r6).mono ?_; rintro e w7 ⟨rfl, h7⟩; have n0 := h7.bg.c0; have n1 := h7.bg.c1; have n2 := h7.bg.c2; have n3 := h7.bg.c3)
      | (go_at_call 50; refine (G5.eq_L hz2 h2).mono ?_; rintro e w3 ⟨rfl, h3⟩; have d0 := h3.bg.c0; have d1 := h3.bg.c1; have d2 := h3.bg.c2; have d3 := h3.bg.c3)
      | (go_at_call 51; refine (G5.mark_L hz h3).mono ?_; rintro e w4 ⟨rfl, h4⟩; have i0 := h4.bg.c0; have i1 := h4.bg.c1; have i2 := h4.bg.c2; have i3 := h4.bg.c3)
      | (go_at_call 52; refine (G5.held_L hz h7).mono ?_; rintro e w8 ⟨rfl, h8⟩)
      | (go_at_call 52; refine (G5.held_L hz h4).mono ?_; rintro e w5 ⟨rfl, h5⟩))
    go_ret
    exact ⟨rfl, h8.bel⟩

set_option maxRecDepth 100000 in
theorem lifted (os : Os) (started : os.Started) (H : Type) (enc : TypeId × Value → H) :
    ReturnsInHanded {} Try.checked os 8 .any (Rows.fnExactLoadSpec.pre6 enc Try.prog Try.f8 Rows.fnExactLoadRow.domain false) (Rows.fnExactLoadSpec.post enc Try.prog Try.f8 false true false false) := by
  refine returnsInHanded_of_change (C := Try.checked) own started (by kernel_rfl) Try.func8
    (ChangeSpec.witness6 (enc := enc) (C := Try.checked) false ⟨#[], #[.string ByteArray.empty, .int .i64 0], []⟩ 8 (by kernel_rfl) (by kernel_rfl) (by kernel_rfl) (by kernel_rfl)) ?_
  intro W base args ds gs before hval0 hW hcnd _
  have hval : ∀ (j : Nat) t v, Try.f8.params[j]? = some t → args[j]? = some v → Value.okWide Try.prog W .any base t v := hval0
  have hW' := hW
  obtain ⟨p, q, hA0, hV, rfl, hfz, hnd⟩ := hW
  have hA : DataW.TrodAll enc Try.prog W 0 (fun _ => true) true Try.f8.params.toList args.toList ds p := hA0
  rw [Try.params8] at hA hval
  obtain ⟨v0, vs0, d0, ds0, p0, q0, hargs, rfl, rfl, h0, r0⟩ := trodAll_cons hA
  obtain ⟨v1, vs1, d1, ds1, p1, q1, rfl, rfl, rfl, h1, r1⟩ := trodAll_cons r0
  obtain ⟨rfl, rfl, rfl⟩ := trodAll_nil r1
  obtain rfl : args = #[v0, v1] := by cases args; simp_all
  obtain ⟨rfl, rfl⟩ := trodVars_none hV
  obtain ⟨a0, rfl, rfl, rfl, w0⟩ := open_string Try.underlying9 (hval 0 9 v0 rfl rfl) h0
  obtain ⟨a1, rfl, rfl, rfl, w1⟩ := open_int Try.underlying3 (hval 1 3 v1 rfl rfl) h1
  clear hA0 hval0
  simp only [List.append_nil] at hW'
  refine (walk a0 a1 W w0 w1).mono fun e W' ⟨he, hg⟩ => ?_
  subst he
  exact ⟨_, rfl, _, _, _, [], [], [], hW', (trodAll_cons_mk (shut_bool Try.underlying4 _) trodAll_mk0), (trodAll_cons_mk (shut_string Try.underlying9 w0) (trodAll_cons_mk (shut_int Try.underlying3 w1) trodAll_mk0)), rfl, hg.frame _, fun h => by cases h⟩

theorem over : Rows.fnExactLoadRow.holds Try.pinned (OpenSpec.ofChange Rows.fnExactLoadSpec) :=
  OpenClaim.holds_of_wide 8 Try.f8 rfl rfl rfl rfl rfl rfl rfl ⟨rfl, rfl, rfl, rfl, rfl⟩ rfl rfl rfl rfl rfl (by kernel_rfl) Try.func8 (by kernel_rfl)
    (of_decide_eq_true (by kernel_rfl)) (by unfold Func.isWrapper; first | (rw [if_pos (by decide +kernel)]; kernel_rfl) | (rw [if_neg (by decide +kernel)]; exact ⟨rfl, rfl⟩))
    (fun os started H enc _ => lifted os started H enc)

theorem proved : Rows.FnExactLoadSaid :=
  over
end Go.Proofs.Ytacalabjclclhaa.fnExactLoad

namespace Go.Proofs.Ytacalabjclclhaa
theorem fnExactLoad_proved : Rows.FnExactLoadSaid := fnExactLoad.proved
#print axioms fnExactLoad_proved
end Go.Proofs.Ytacalabjclclhaa
