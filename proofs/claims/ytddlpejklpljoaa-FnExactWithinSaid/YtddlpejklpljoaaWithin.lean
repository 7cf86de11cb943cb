/- impl.Within answers as spec.Within -/
import Derived.Test.YtddlpejklpljoaaRows
import Derived.Test.YtddlpejklpljoaaJwB
import Derived.Test.YtddlpejklpljoaaJwC
import Derived.WalkKit
import Derived.ProofKit
import Derived.OpenShut
import Derived.ShutString
import Derived.ChangeOld
import Derived.Below
namespace Go.Proofs.Ytddlpejklpljoaa.fnExactWithin
open Go.ChangeShapes Go.WideShapes Go.ChangeAt Go.RowKit
open Go.ChangeMaps (open_string shut_string)
set_option linter.unusedVariables false
set_option linter.unusedSimpArgs false

theorem own : ownKnob Try.prog.godebug = none := by kernel_rfl

theorem laidOut : laidOutB Try.prog = true := by kernel_rfl

set_option maxHeartbeats 4000000 in
set_option maxRecDepth 10000 in
theorem walk (d0 : N0.Ln) (s0 : N1.Sl) (a1 : Int) (a2 : Int) (w : World) (x0 : N1.FitM d0 s0) (R0 : N1.Lists w d0 s0) (w1 : (Lit.int .i64 a1).wf = true) (w2 : (Lit.int .i64 a2).wf = true) :
    Calls Try.prog 7 #[N1.val d0 s0, .int .i64 a1, .int .i64 a2] w fun e w' => e = .returned (.bool true) ∧ Below w.heap.size w w' := by
  have t0 := N12.a_new w d0 s0 R0
  by_cases hz : N3.total d0 ≤ 1048576
  · obtain ⟨z1, z2, z3, z4, z5⟩ := N12.sizes hz
    have hp' : d0.pg.length ≤ 281474976710656 := by omega
    have ho' : d0.po.length ≤ 281474976710656 := by omega
    have hf' : d0.fr.length ≤ 281474976710656 := by omega
    clear R0
    go_enter Try.func7, Try.ntmps7
    go_wp2_with (first
      | (go_at_call 22; refine (N3.szFit d0 s0 _ x0 hz).mono ?_; rintro e w1 ⟨⟨q, hq, rfl⟩, b1⟩; have hq' : decide (q < 0) = false := (by simpa using hq); have t1 := t0.below b1; have c0 := t1.b.c0; have c1 := t1.b.c1; have c2 := t1.b.c2; have c3 := t1.b.c3; have c4 := t1.b.c4; have c5 := t1.b.c5; have c6 := t1.b.c6; have c7 := t1.b.c7)
      | (go_at_call 23; refine (WI.spec_Within d0 _ a1 a2 _ (N12.fitc hz) z2 z3 (by assumption)).mono ?_; rintro e w3 ⟨rfl, b3⟩; have t3 := t2.below b3; have e0 := t3.b.c0; have e1 := t3.b.c1; have e2 := t3.b.c2; have e3 := t3.b.c3; have e4 := t3.b.c4; have e5 := t3.b.c5; have e6 := t3.b.c6; have e7 := t3.b.c7)
      | (go_at_call 25; refine (WI.impl_Within d0 _ a1 a2 _ (N12.fitc hz) z2 z3 u4.cp.lists).mono ?_; rintro e w5 ⟨rfl, b5⟩; have u5 := u4.below b5; have j0 := u5.t.b.c0; have j1 := u5.t.b.c1; have j2 := u5.t.b.c2; have j3 := u5.t.b.c3; have j4 := u5.t.b.c4; have j5 := u5.t.b.c5; have j6 := u5.t.b.c6; have j7 := u5.t.b.c7; have i0 := u5.n.c0; have i1 := u5.n.c1; have i2 := u5.n.c2; have i3 := u5.n.c3; have i4 := u5.n.c4; have i5 := u5.n.c5; have i6 := u5.n.c6; have i7 := u5.n.c7)
      | (go_at_call 24; have t3' := t3; refine (N4.toLoan d0 s0 _ z1 z2 z3 t3.l).mono ?_; rintro e w4 ⟨g1, g2, g3, rfl, cp4, b4⟩; have u4 := N12.u_new (t3.below b4) cp4 t3.bel.size)
      | (go_at_call 24; refine (N4.toLoan d0 s0 _ z1 z2 z3 t1.l).mono ?_; rintro e w2 ⟨f1, f2, f3, rfl, cp2, b2⟩; have t2 := t1.below b2; have ls2 := cp2.lists))
    have u6 := u5.drew
    go_region_with (first
      | (go_at_call 24; refine (N4.toLoan d0 s0 _ z1 z2 z3 u6.t.l).mono ?_; rintro e w7 ⟨h1, h2, h3, rfl, cp7, b7⟩; have u7 := u6.below b7; have n0 := u7.n.c0; have n1 := u7.n.c1; have n2 := u7.n.c2; have n3 := u7.n.c3; have n4 := u7.n.c4; have n5 := u7.n.c5; have n6 := u7.n.c6; have n7 := u7.n.c7)
      | (go_at_call 26; refine (N3.eqLoan d0 _ _ _ hp' ho' hf' u7.cp.lists cp7.lists).mono ?_; rintro e w8 ⟨rfl, b8⟩; have t8 := u7.t.below b8))
    all_goals
      go_wp2
      go_ret
      exact ⟨rfl, t8.bel⟩
  · clear R0
    go_enter Try.func7, Try.ntmps7
    go_wp2_with (go_at_call 22; refine (N3.szBig d0 s0 _ x0 hz).mono ?_; rintro e w1 ⟨rfl, b1⟩; have t1 := t0.below b1)
    go_ret
    exact ⟨rfl, t1.bel⟩

set_option maxRecDepth 100000 in
theorem lifted (os : Os) (started : os.Started) (H : Type) (enc : TypeId × Value → H) :
    ReturnsInHanded {} Try.checked os 7 .any (Rows.fnExactWithinSpec.pre6 enc Try.prog Try.f7 Rows.fnExactWithinRow.domain false) (Rows.fnExactWithinSpec.post enc Try.prog Try.f7 false true false false) := by
  refine returnsInHanded_of_change (C := Try.checked) own started (by kernel_rfl) Try.func7
    (ChangeSpec.witness6 (enc := enc) (C := Try.checked) false ⟨#[], #[.agg #[.int .i64 0, .int .i64 0, .int .i64 0, .string ByteArray.empty, .slice none 0 0, .string ByteArray.empty, .slice none 0 0, .slice none 0 0], .int .i64 0, .int .i64 0], []⟩ 8 (by kernel_rfl) (by kernel_rfl) (by kernel_rfl) (by kernel_rfl)) ?_
  intro W base args ds gs before hval0 hW hcnd _
  have hval : ∀ (j : Nat) t v, Try.f7.params[j]? = some t → args[j]? = some v → Value.okWide Try.prog W .any base t v := hval0
  have hW' := hW
  obtain ⟨p, q, hA0, hV, rfl, hfz, hnd⟩ := hW
  have hA : DataW.TrodAll enc Try.prog W 0 (fun _ => true) true Try.f7.params.toList args.toList ds p := hA0
  rw [Try.params7] at hA hval
  obtain ⟨v0, vs0, d0, ds0, p0, q0, hargs, rfl, rfl, h0, r0⟩ := trodAll_cons hA
  obtain ⟨v1, vs1, d1, ds1, p1, q1, rfl, rfl, rfl, h1, r1⟩ := trodAll_cons r0
  obtain ⟨v2, vs2, d2, ds2, p2, q2, rfl, rfl, rfl, h2, r2⟩ := trodAll_cons r1
  obtain ⟨rfl, rfl, rfl⟩ := trodAll_nil r2
  obtain rfl : args = #[v0, v1, v2] := by cases args; simp_all
  obtain ⟨rfl, rfl⟩ := trodVars_none hV
  have kk0 := h0
  have lt0 : ∀ x ∈ p0, x.block < W.heap.size := by obtain ⟨m, hm⟩ := kk0; exact DataW.trod_lt m _ _ _ hm
  obtain ⟨d0, s0, rfl, x0, R0⟩ := N1.open_loan (hval 0 34 v0 rfl rfl) h0
  obtain ⟨a1, rfl, rfl, rfl, w1⟩ := open_int Try.underlying3 (hval 1 3 v1 rfl rfl) h1
  obtain ⟨a2, rfl, rfl, rfl, w2⟩ := open_int Try.underlying3 (hval 2 3 v2 rfl rfl) h2
  clear hA0 hval0
  refine (walk d0 s0 a1 a2 W x0 R0 w1 w2).mono fun e W' ⟨he, hg⟩ => ?_
  subst he
  exact ⟨_, rfl, _, _, _, [], _, [], hW', (trodAll_cons_mk (shut_bool Try.underlying4 _) trodAll_mk0), (trodAll_cons_mk (Below.trod laidOut (by kernel_rfl) (of_decide_eq_true (by kernel_rfl)) kk0 hg lt0) (trodAll_cons_mk (shut_int Try.underlying3 w1) (trodAll_cons_mk (shut_int Try.underlying3 w2) trodAll_mk0))), rfl, hg.frame _, fun h => by cases h⟩

theorem over : Rows.fnExactWithinRow.holds Try.pinned (OpenSpec.ofChange Rows.fnExactWithinSpec) :=
  OpenClaim.holds_of_wide 7 Try.f7 rfl rfl rfl rfl rfl rfl rfl ⟨rfl, rfl, rfl, rfl, rfl⟩ rfl rfl rfl rfl rfl (by kernel_rfl) Try.func7 (by kernel_rfl)
    (of_decide_eq_true (by kernel_rfl)) (by unfold Func.isWrapper; first | (rw [if_pos (by decide +kernel)]; kernel_rfl) | (rw [if_neg (by decide +kernel)]; exact ⟨rfl, rfl⟩))
    (fun os started H enc _ => lifted os started H enc)

theorem proved : Rows.FnExactWithinSaid :=
  over
end Go.Proofs.Ytddlpejklpljoaa.fnExactWithin

namespace Go.Proofs.Ytddlpejklpljoaa
theorem fnExactWithin_proved : Rows.FnExactWithinSaid := fnExactWithin.proved
#print axioms fnExactWithin_proved
end Go.Proofs.Ytddlpejklpljoaa
