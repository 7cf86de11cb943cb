/- The law FnExactGetInode holds at every argument: impl.GetInode answers as spec.GetInode; its answer is memory of its own, behind another call too. -/
import Derived.Test.YtacalabjclclhaaRows
import Derived.Test.YtacalabjclclhaaGet5
import Derived.WalkKit
import Derived.ProofKit
import Derived.OpenShut
import Derived.ShutString
namespace Go.Proofs.Ytacalabjclclhaa.fnExactGetInode
open Go.ChangeShapes Go.WideShapes Go.ChangeAt Go.RowKit
open Go.ChangeMaps (open_string shut_string)
set_option linter.unusedVariables false
set_option linter.unusedSimpArgs false

theorem own : ownKnob Try.prog.godebug = none := by kernel_rfl

set_option maxHeartbeats 4000000 in
set_option maxRecDepth 10000 in
theorem walk (a0 : ByteArray) (w : World) (w0 : a0.size ≤ maxLen) :
    Calls Try.prog 7 #[.string a0] w fun e w' => e = .returned (.bool true) ∧ Below w.heap.size w w' := by
  by_cases hbig : 1048576 < (a0.size : Int)
  · go_enter Try.func7, Try.ntmps7
    go_wp2
    go_ret
    exact ⟨rfl, Below.refl _ _⟩
  · have hs : a0.size ≤ 281474976710656 := by omega
    have hz : (G0.gZ a0).length ≤ 1048576 := by
      unfold G0.gZ
      split
      · rw [G0.pgs_length]; have := G0.cnt_le a0; omega
      · exact Nat.zero_le _
    have hz2 : (G0.gZ a0).length ≤ 281474976710656 := by omega
    have sG : Hid (∀ W, Calls Try.prog 22 #[.string a0] W (G3.Ans a0 W)) := fun W => G4.spec_GetInode a0 W hs
    have iG : Hid (∀ W, Calls Try.prog 21 #[.string a0] W (G3.Ans a0 W)) := fun W => G3.impl_GetInode a0 W hs
    go_enter Try.func7, Try.ntmps7
    go_wp2_with (first
      | (go_at_call 22; refine (sG.out _).mono ?_; rintro e w1 ⟨aw, cw, rfl, o1, l1, b1⟩)
      | (go_at_call 21; refine (iG.out w5).mono ?_; rintro e w6 ⟨ah, ch, rfl, o6, l6, b6⟩; have h6 := (h5.below b6).alloc (.cells #[.int .i64 (G0.gK a0), .int .i64 (G0.gO a0), .int .i64 (G0.gS a0), .slice ah (G0.gZ a0).length ch] 26); have r6 := (o6.row).alloc (.cells #[.int .i64 (G0.gK a0), .int .i64 (G0.gO a0), .int .i64 (G0.gS a0), .slice ah (G0.gZ a0).length ch] 26); have j0 := h6.bw.c0; have j1 := h6.bw.c1; have j2 := h6.bw.c2; have j3 := h6.bw.c3)
      | (go_at_call 21; refine (iG.out _).mono ?_; rintro e w2 ⟨ag, cg, rfl, o2, l2, b2⟩; have h2 := G5.l_new (cg := cg) b1 o1 b2 o2; have c0 := h2.bw.c0; have c1 := h2.bw.c1; have c2 := h2.bw.c2; have c3 := h2.bw.c3)
      | (go_at_call 50; refine (G5.eq_M hz2 h6 r6).mono ?_; rintro e w7 ⟨rfl, h7⟩; have n0 := h7.bg.c0; have n1 := h7.bg.c1; have n2 := h7.bg.c2; have n3 := h7.bg.c3)
      | (go_at_call 50; refine (G5.eq_L hz2 h2).mono ?_; rintro e w3 ⟨rfl, h3⟩; have d0 := h3.bg.c0; have d1 := h3.bg.c1; have d2 := h3.bg.c2; have d3 := h3.bg.c3)
      | (go_at_call 51; refine (G5.mark_L hz h3).mono ?_; rintro e w4 ⟨rfl, h4⟩; have i0 := h4.bg.c0; have i1 := h4.bg.c1; have i2 := h4.bg.c2; have i3 := h4.bg.c3)
      | (go_at_call 52; refine (G5.held_L hz h7).mono ?_; rintro e w8 ⟨rfl, h8⟩)
      | (go_at_call 52; refine (G5.held_L hz h4).mono ?_; rintro e w5 ⟨rfl, h5⟩))
    go_ret
    exact ⟨rfl, h8.bel⟩

set_option maxRecDepth 100000 in
theorem lifted (os : Os) (started : os.Started) (H : Type) (enc : TypeId × Value → H) :
    ReturnsInHanded {} Try.checked os 7 .any (Rows.fnExactGetInodeSpec.pre6 enc Try.prog Try.f7 Rows.fnExactGetInodeRow.domain false) (Rows.fnExactGetInodeSpec.post enc Try.prog Try.f7 false true false false) := by
  refine returnsInHanded_of_change (C := Try.checked) own started (by kernel_rfl) Try.func7
    (ChangeSpec.witness6 (enc := enc) (C := Try.checked) false ⟨#[], #[.string ByteArray.empty], []⟩ 8 (by kernel_rfl) (by kernel_rfl) (by kernel_rfl) (by kernel_rfl)) ?_
  intro W base args ds gs before hval0 hW hcnd _
  have hval : ∀ (j : Nat) t v, Try.f7.params[j]? = some t → args[j]? = some v → Value.okWide Try.prog W .any base t v := hval0
  have hW' := hW
  obtain ⟨p, q, hA0, hV, rfl, hfz, hnd⟩ := hW
  have hA : DataW.TrodAll enc Try.prog W 0 (fun _ => true) true Try.f7.params.toList args.toList ds p := hA0
  rw [Try.params7] at hA hval
  obtain ⟨v0, vs0, d0, ds0, p0, q0, hargs, rfl, rfl, h0, r0⟩ := trodAll_cons hA
  obtain ⟨rfl, rfl, rfl⟩ := trodAll_nil r0
  obtain rfl : args = #[v0] := by cases args; simp_all
  obtain ⟨rfl, rfl⟩ := trodVars_none hV
  obtain ⟨a0, rfl, rfl, rfl, w0⟩ := open_string Try.underlying9 (hval 0 9 v0 rfl rfl) h0
  clear hA0 hval0
  simp only [List.append_nil] at hW'
  refine (walk a0 W w0).mono fun e W' ⟨he, hg⟩ => ?_
  subst he
  exact ⟨_, rfl, _, _, _, [], [], [], hW', (trodAll_cons_mk (shut_bool Try.underlying4 _) trodAll_mk0), (trodAll_cons_mk (shut_string Try.underlying9 w0) trodAll_mk0), rfl, hg.frame _, fun h => by cases h⟩

theorem over : Rows.fnExactGetInodeRow.holds Try.pinned (OpenSpec.ofChange Rows.fnExactGetInodeSpec) :=
  OpenClaim.holds_of_wide 7 Try.f7 rfl rfl rfl rfl rfl rfl rfl ⟨rfl, rfl, rfl, rfl, rfl⟩ rfl rfl rfl rfl rfl (by kernel_rfl) Try.func7 (by kernel_rfl)
    (of_decide_eq_true (by kernel_rfl)) (by unfold Func.isWrapper; first | (rw [if_pos (by decide +kernel)]; kernel_rfl) | (rw [if_neg (by decide +kernel)]; exact ⟨rfl, rfl⟩))
    (fun os started H enc _ => lifted os started H enc)

theorem proved : Rows.FnExactGetInodeSaid :=
  over
end Go.Proofs.Ytacalabjclclhaa.fnExactGetInode

namespace Go.Proofs.Ytacalabjclclhaa
theorem fnExactGetInode_proved : Rows.FnExactGetInodeSaid := fnExactGetInode.proved
#print axioms fnExactGetInode_proved
end Go.Proofs.Ytacalabjclclhaa
