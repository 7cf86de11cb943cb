/- The law FnExactPutInode holds at every argument: impl.PutInode answers as spec.PutInode, and writes into nothing that it was given. -/
import Derived.Test.YtacalabjclclhaaRows
import Derived.Test.YtacalabjclclhaaIno3
import Derived.Test.YtacalabjclclhaaRec2
import Derived.WalkKit
import Derived.ProofKit
import Derived.OpenShut
import Derived.ShutString
import Derived.ChangeOld
import Derived.Below
namespace Go.Proofs.Ytacalabjclclhaa.fnExactPutInode
open Go.ChangeShapes Go.WideShapes Go.ChangeAt Go.RowKit
open Go.ChangeMaps (open_string shut_string)
set_option linter.unusedVariables false
set_option linter.unusedSimpArgs false

theorem own : ownKnob Try.prog.godebug = none := by kernel_rfl

theorem laidOut : laidOutB Try.prog = true := by kernel_rfl

set_option maxHeartbeats 4000000 in
set_option maxRecDepth 10000 in
theorem walk (k0 o0 s0 : Int) (a0 : Option Addr) (c0 : Nat) (z0 : List Int) (w : World) (x0 : z0.length ≤ c0) (y0 : c0 ≤ maxLen) (R0 : P0.Row w a0 z0) :
    Calls Try.prog 6 #[I0.val k0 o0 s0 a0 z0.length c0] w fun e w' => e = .returned (.bool true) ∧ Below w.heap.size w w' := by
  have z1 : z0.length ≤ maxLen := Nat.le_trans x0 y0
  have b0 := K0.blk_new (I0.vals k0 o0 s0 a0 z0.length c0) w 53
  have l0 := K0.below_new w (.cells #[.int .i64 k0, .int .i64 o0, .int .i64 s0, .slice a0 z0.length c0] 53)
  have t0 : I3.Arg w k0 o0 s0 a0 z0 c0 (w.alloc (.cells #[.int .i64 k0, .int .i64 o0, .int .i64 s0, .slice a0 z0.length c0] 53)) := ⟨b0, R0.below l0, l0⟩
  by_cases hz : z0.length ≤ 1048576
  · have hb : z0.length ≤ 281474976710656 := by omega
    have e0 : (0 : Int) ≤ 1048576 - z0.length := by omega
    clear b0 l0 R0
    go_enter Try.func6, Try.ntmps6
    go_wp2_with (first
      | (go_at_call 48; refine (I3.szFit hz t0).mono ?_; rintro e w1 ⟨rfl, t1⟩; have c0 := t1.b.c0; have c1 := t1.b.c1; have c2 := t1.b.c2; have c3 := t1.b.c3)
      | (go_at_call 29; refine (R2.spec_PutInode _ _ _ _ _ z0 _ hb (Nat.le_refl _) (I2.row_of_blk q2)).mono ?_; rintro e w3 ⟨rfl, b3⟩; have t3 := t2.below b3; have d0 := t3.b.c0; have d1 := t3.b.c1; have d2 := t3.b.c2; have d3 := t3.b.c3)
      | (go_at_call 19; refine (R1.impl_PutInode _ _ _ _ _ z0 _ hb (Nat.le_refl _) (I2.row_of_blk u4.row)).mono ?_; rintro e w5 ⟨rfl, b5⟩; have u5 := u4.below b5; have j0 := u5.t.b.c0; have j1 := u5.t.b.c1; have j2 := u5.t.b.c2; have j3 := u5.t.b.c3; have i0 := u5.n.c0; have i1 := u5.n.c1; have i2 := u5.n.c2; have i3 := u5.n.c3)
      | (go_at_call 49; refine (I3.toFit hz t3).mono ?_; rintro e w4 ⟨g4, rfl, m4, q4, t4⟩; have u4 := I3.own_new t4 q4)
      | (go_at_call 49; refine (I3.toFit hz t1).mono ?_; rintro e w2 ⟨g2, rfl, m2, q2, t2⟩))
    have u5d := u5.drew
    go_region_with (first
      | (go_at_call 49; refine (I3.toOwn hz (by assumption)).mono ?_; rintro e w6 ⟨g6, rfl, q6, u6⟩; have h0 := u6.n.c0; have h1 := u6.n.c1; have h2 := u6.n.c2; have h3 := u6.n.c3)
      | (go_at_call 50; refine (I2.eqInode _ _ _ _ _ _ _ z0 _ hb (I2.row_of_blk u6.row) (I2.row_of_blk q6)).mono ?_; rintro e w7 ⟨rfl, b7⟩; have t7 := u6.t.below b7))
    all_goals
      go_wp2
      go_ret
      exact ⟨rfl, t7.bel⟩
  · clear R0
    go_enter Try.func6, Try.ntmps6
    go_wp2_with (go_at_call 48; refine (I3.szBig z1 hz t0).mono ?_; rintro e w1 ⟨rfl, t1⟩)
    go_ret
    exact ⟨rfl, t1.bel⟩

set_option maxRecDepth 100000 in
theorem lifted (os : Os) (started : os.Started) (H : Type) (enc : TypeId × Value → H) :
    ReturnsInHanded {} Try.checked os 6 .any (Rows.fnExactPutInodeSpec.pre6 enc Try.prog Try.f6 Rows.fnExactPutInodeRow.domain false) (Rows.fnExactPutInodeSpec.post enc Try.prog Try.f6 false true false false) := by
  refine returnsInHanded_of_change (C := Try.checked) own started (by kernel_rfl) Try.func6
    (ChangeSpec.witness6 (enc := enc) (C := Try.checked) false ⟨#[], #[.agg #[.int .i64 0, .int .i64 0, .int .i64 0, .slice none 0 0]], []⟩ 8 (by kernel_rfl) (by kernel_rfl) (by kernel_rfl) (by kernel_rfl)) ?_
  intro W base args ds gs before hval0 hW hcnd _
  have hval : ∀ (j : Nat) t v, Try.f6.params[j]? = some t → args[j]? = some v → Value.okWide Try.prog W .any base t v := hval0
  have hW' := hW
  obtain ⟨p, q, hA0, hV, rfl, hfz, hnd⟩ := hW
  have hA : DataW.TrodAll enc Try.prog W 0 (fun _ => true) true Try.f6.params.toList args.toList ds p := hA0
  rw [Try.params6] at hA hval
  obtain ⟨v0, vs0, d0, ds0, p0, q0, hargs, rfl, rfl, h0, r0⟩ := trodAll_cons hA
  obtain ⟨rfl, rfl, rfl⟩ := trodAll_nil r0
  obtain rfl : args = #[v0] := by cases args; simp_all
  obtain ⟨rfl, rfl⟩ := trodVars_none hV
  have kk0 := h0
  have lt0 : ∀ x ∈ p0, x.block < W.heap.size := by obtain ⟨m, hm⟩ := kk0; exact DataW.trod_lt m _ _ _ hm
  obtain ⟨k0, o0, s0, a0, c0, z0, rfl, x0, y0, R0⟩ := I2.open_inode (hval 0 53 v0 rfl rfl) h0
  clear hA0 hval0
  refine (walk k0 o0 s0 a0 c0 z0 W x0 y0 R0).mono fun e W' ⟨he, hg⟩ => ?_
  subst he
  exact ⟨_, rfl, _, _, _, [], _, [], hW', (trodAll_cons_mk (shut_bool Try.underlying4 _) trodAll_mk0), (trodAll_cons_mk (Below.trod laidOut (by kernel_rfl) (of_decide_eq_true (by kernel_rfl)) kk0 hg lt0) trodAll_mk0), rfl, hg.frame _, fun h => by cases h⟩

theorem over : Rows.fnExactPutInodeRow.holds Try.pinned (OpenSpec.ofChange Rows.fnExactPutInodeSpec) :=
  OpenClaim.holds_of_wide 6 Try.f6 rfl rfl rfl rfl rfl rfl rfl ⟨rfl, rfl, rfl, rfl, rfl⟩ rfl rfl rfl rfl rfl (by kernel_rfl) Try.func6 (by kernel_rfl)
    (of_decide_eq_true (by kernel_rfl)) (by unfold Func.isWrapper; first | (rw [if_pos (by decide +kernel)]; kernel_rfl) | (rw [if_neg (by decide +kernel)]; exact ⟨rfl, rfl⟩))
    (fun os started H enc _ => lifted os started H enc)

theorem proved : Rows.FnExactPutInodeSaid :=
  over
end Go.Proofs.Ytacalabjclclhaa.fnExactPutInode

namespace Go.Proofs.Ytacalabjclclhaa
theorem fnExactPutInode_proved : Rows.FnExactPutInodeSaid := fnExactPutInode.proved
#print axioms fnExactPutInode_proved
end Go.Proofs.Ytacalabjclclhaa
