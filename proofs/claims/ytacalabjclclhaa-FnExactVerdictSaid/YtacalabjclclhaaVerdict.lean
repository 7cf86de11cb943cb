/- Verdict of the program answers as its specification does at every text and loan, writes into none of its arguments and keeps nothing of one; there are no conditions. -/
import Derived.Test.YtacalabjclclhaaRows
import Derived.Test.YtacalabjclclhaaJvE
import Derived.Test.YtacalabjclclhaaJvF
import Derived.Test.YtacalabjclclhaaJtE
import Derived.WalkKit
import Derived.ProofKit
import Derived.OpenShut
import Derived.ShutString
import Derived.ChangeOld
import Derived.Below
namespace Go.Proofs.Ytacalabjclclhaa.fnExactVerdict
open Go.ChangeShapes Go.WideShapes Go.ChangeAt Go.RowKit
open Go.ChangeMaps (open_string shut_string)
set_option linter.unusedVariables false
set_option linter.unusedSimpArgs false

theorem own : ownKnob Try.prog.godebug = none := by kernel_rfl

theorem laidOut : laidOutB Try.prog = true := by kernel_rfl

set_option maxHeartbeats 4000000 in
set_option maxRecDepth 10000 in
theorem walk (a0 : ByteArray) (d1 : N0.Ln) (s1 : N1.Sl) (w : World) (w0 : a0.size ≤ maxLen) (x1 : N1.FitM d1 s1) (R1 : N1.Lists w d1 s1) :
    Calls Try.prog 13 #[.string a0, N1.val d1 s1] w fun e w' => e = .returned (.bool true) ∧ Below w.heap.size w w' := by
  have t0 := N12.a_new w d1 s1 R1
  by_cases hbig : 1048576 < (a0.size : Int)
  · go_enter Try.func13, Try.ntmps13
    go_wp2
    go_ret
    exact ⟨rfl, t0.bel⟩
  · have hms : a0.size ≤ 281474976710656 := by omega
    by_cases hz : N3.total d1 ≤ 1048576
    · obtain ⟨z1, z2, z3, z4, z5⟩ := N12.sizes hz
      have hp' : d1.pg.length ≤ 281474976710656 := by omega
      have ho' : d1.po.length ≤ 281474976710656 := by omega
      have hf' : d1.fr.length ≤ 281474976710656 := by omega
      have hu : ∀ x : ByteArray, (x.toList != x.toList) = false := fun x => by simp
      clear R1
      go_enter Try.func13, Try.ntmps13
      go_wp2_with (first
        | (go_at_call 55; refine (N3.szFit d1 s1 _ x1 hz).mono ?_; rintro e w1 ⟨⟨q, hq, rfl⟩, b1⟩; have hq' : decide (q < 0) = false := (by simpa using hq); have t1 := t0.below b1; have c0 := t1.b.c0; have c1 := t1.b.c1; have c2 := t1.b.c2; have c3 := t1.b.c3; have c4 := t1.b.c4; have c5 := t1.b.c5; have c6 := t1.b.c6; have c7 := t1.b.c7)
        | (go_at_call 68; refine (E6.spec_Verdict a0 d1 _ _ hms (N12.fitc hz) z2 z3 (by assumption)).mono ?_; rintro e w3 ⟨rfl, b3⟩; have t3 := t2.below b3; have e0 := t3.b.c0; have e1 := t3.b.c1; have e2 := t3.b.c2; have e3 := t3.b.c3; have e4 := t3.b.c4; have e5 := t3.b.c5; have e6 := t3.b.c6; have e7 := t3.b.c7)
        | (go_at_call 69; refine (E7.impl_Verdict a0 d1 _ _ hms (N12.fitc hz) z2 z3 u4.cp.lists).mono ?_; rintro e w5 ⟨rfl, b5⟩; have u5 := u4.below b5; have j0 := u5.t.b.c0; have j1 := u5.t.b.c1; have j2 := u5.t.b.c2; have j3 := u5.t.b.c3; have j4 := u5.t.b.c4; have j5 := u5.t.b.c5; have j6 := u5.t.b.c6; have j7 := u5.t.b.c7; have i0 := u5.n.c0; have i1 := u5.n.c1; have i2 := u5.n.c2; have i3 := u5.n.c3; have i4 := u5.n.c4; have i5 := u5.n.c5; have i6 := u5.n.c6; have i7 := u5.n.c7)
        | (go_at_call 57; have t3' := t3; refine (N4.toLoan d1 s1 _ z1 z2 z3 t3.l).mono ?_; rintro e w4 ⟨g1, g2, g3, rfl, cp4, b4⟩; have u4 := N12.u_new (t3.below b4) cp4 t3.bel.size)
        | (go_at_call 57; refine (N4.toLoan d1 s1 _ z1 z2 z3 t1.l).mono ?_; rintro e w2 ⟨f1, f2, f3, rfl, cp2, b2⟩; have t2 := t1.below b2; have ls2 := cp2.lists))
      have u6 := u5.drew
      go_region_with (first
        | (go_at_call 57; refine (N4.toLoan d1 s1 _ z1 z2 z3 u6.t.l).mono ?_; rintro e w7 ⟨h1, h2, h3, rfl, cp7, b7⟩; have u7 := u6.below b7; have n0 := u7.n.c0; have n1 := u7.n.c1; have n2 := u7.n.c2; have n3 := u7.n.c3; have n4 := u7.n.c4; have n5 := u7.n.c5; have n6 := u7.n.c6; have n7 := u7.n.c7)
        | (go_at_call 60; refine (N3.eqLoan d1 _ _ _ hp' ho' hf' u7.cp.lists cp7.lists).mono ?_; rintro e w8 ⟨rfl, b8⟩; have t8 := u7.t.below b8))
      all_goals
        go_wp2
        go_ret
        exact ⟨rfl, t8.bel⟩
    · clear R1
      go_enter Try.func13, Try.ntmps13
      go_wp2_with (go_at_call 55; refine (N3.szBig d1 s1 _ x1 hz).mono ?_; rintro e w1 ⟨rfl, b1⟩; have t1 := t0.below b1)
      go_ret
      exact ⟨rfl, t1.bel⟩

set_option maxRecDepth 100000 in
theorem lifted (os : Os) (started : os.Started) (H : Type) (enc : TypeId × Value → H) :
    ReturnsInHanded {} Try.checked os 13 .any (Rows.fnExactVerdictSpec.pre6 enc Try.prog Try.f13 Rows.fnExactVerdictRow.domain false) (Rows.fnExactVerdictSpec.post enc Try.prog Try.f13 false true false false) := by
  refine returnsInHanded_of_change (C := Try.checked) own started (by kernel_rfl) Try.func13
    (ChangeSpec.witness6 (enc := enc) (C := Try.checked) false ⟨#[], #[.string ByteArray.empty, .agg #[.int .i64 0, .int .i64 0, .int .i64 0, .string ByteArray.empty, .slice none 0 0, .string ByteArray.empty, .slice none 0 0, .slice none 0 0]], []⟩ 8 (by kernel_rfl) (by kernel_rfl) (by kernel_rfl) (by kernel_rfl)) ?_
  intro W base args ds gs before hval0 hW hcnd _
  have hval : ∀ (j : Nat) t v, Try.f13.params[j]? = some t → args[j]? = some v → Value.okWide Try.prog W .any base t v := hval0
  have hW' := hW
  obtain ⟨p, q, hA0, hV, rfl, hfz, hnd⟩ := hW
  have hA : DataW.TrodAll enc Try.prog W 0 (fun _ => true) true Try.f13.params.toList args.toList ds p := hA0
  rw [Try.params13] at hA hval
  obtain ⟨v0, vs0, d0, ds0, p0, q0, hargs, rfl, rfl, h0, r0⟩ := trodAll_cons hA
  obtain ⟨v1, vs1, d1, ds1, p1, q1, rfl, rfl, rfl, h1, r1⟩ := trodAll_cons r0
  obtain ⟨rfl, rfl, rfl⟩ := trodAll_nil r1
  obtain rfl : args = #[v0, v1] := by cases args; simp_all
  obtain ⟨rfl, rfl⟩ := trodVars_none hV
  obtain ⟨a0, rfl, rfl, rfl, w0⟩ := open_string Try.underlying9 (hval 0 9 v0 rfl rfl) h0
  have kk1 := h1
  have lt1 : ∀ x ∈ p1, x.block < W.heap.size := by obtain ⟨m, hm⟩ := kk1; exact DataW.trod_lt m _ _ _ hm
  obtain ⟨d1, s1, rfl, x1, R1⟩ := N1.open_loan (hval 1 63 v1 rfl rfl) h1
  clear hA0 hval0
  refine (walk a0 d1 s1 W w0 x1 R1).mono fun e W' ⟨he, hg⟩ => ?_
  subst he
  exact ⟨_, rfl, _, _, _, [], _, [], hW', (trodAll_cons_mk (shut_bool Try.underlying4 _) trodAll_mk0), (trodAll_cons_mk (shut_string Try.underlying9 w0) (trodAll_cons_mk (Below.trod laidOut (by kernel_rfl) (of_decide_eq_true (by kernel_rfl)) kk1 hg lt1) trodAll_mk0)), rfl, hg.frame _, fun h => by cases h⟩

theorem over : Rows.fnExactVerdictRow.holds Try.pinned (OpenSpec.ofChange Rows.fnExactVerdictSpec) :=
  OpenClaim.holds_of_wide 13 Try.f13 rfl rfl rfl rfl rfl rfl rfl ⟨rfl, rfl, rfl, rfl, rfl⟩ rfl rfl rfl rfl rfl (by kernel_rfl) Try.func13 (by kernel_rfl)
    (of_decide_eq_true (by kernel_rfl)) (by unfold Func.isWrapper; first | (rw [if_pos (by decide +kernel)]; kernel_rfl) | (rw [if_neg (by decide +kernel)]; exact ⟨rfl, rfl⟩))
    (fun os started H enc _ => lifted os started H enc)

theorem proved : Rows.FnExactVerdictSaid :=
  over
end Go.Proofs.Ytacalabjclclhaa.fnExactVerdict

namespace Go.Proofs.Ytacalabjclclhaa
theorem fnExactVerdict_proved : Rows.FnExactVerdictSaid := fnExactVerdict.proved
#print axioms fnExactVerdict_proved
end Go.Proofs.Ytacalabjclclhaa
