/- FnExactGone: at every argument Gone answers as the specification, at every number of its answer; it writes into no argument and keeps nothing of one; its answer owns its memory, behind another call too. Conditions: none beyond the statement's own. -/
import Derived.Test.YtddlpejklpljoaaGreatRows
import Derived.Test.YtddlpejklpljoaaGreatJgP
import Derived.Test.YtddlpejklpljoaaGreatJgQ
import Derived.WalkKit
import Derived.ProofKit
import Derived.OpenShut
import Derived.ShutString
import Derived.ChangeOld
import Derived.Below
namespace Go.Proofs.YtddlpejklpljoaaGreat.fnExactGone
open Go.ChangeShapes Go.WideShapes Go.ChangeAt Go.RowKit
open Go.ChangeMaps (open_string shut_string)
set_option linter.unusedVariables false
set_option linter.unusedSimpArgs false

theorem own : ownKnob Tryz.prog.godebug = none := by kernel_rfl

theorem laidOut : laidOutB Tryz.prog = true := by kernel_rfl

set_option maxHeartbeats 4000000 in
set_option maxRecDepth 10000 in
theorem walk (a0 : ByteArray) (d1 : N0.Ln) (s1 : N1.Sl) (w : World) (w0 : a0.size ≤ maxLen) (x1 : N1.FitM d1 s1) (R1 : N1.Lists w d1 s1) :
    Calls Tryz.prog 5 #[.string a0, N1.val d1 s1] w fun e w' => e = .returned (.bool true) ∧ Below w.heap.size w w' := by
  have t0 := N12.a_new w d1 s1 R1
  by_cases hbig : 1048576 < (a0.size : Int)
  · go_enter Tryz.func5, Tryz.ntmps5
    go_wp2
    go_ret
    exact ⟨rfl, t0.bel⟩
  · have hms : a0.size ≤ 281474976710656 := by omega
    by_cases hz : N3.total d1 ≤ 1048576
    · obtain ⟨z1, z2, z3, z4, z5⟩ := N12.sizes hz
      have hp' : d1.pg.length ≤ 281474976710656 := by omega
      have ho' : d1.po.length ≤ 281474976710656 := by omega
      have hf' : d1.fr.length ≤ 281474976710656 := by omega
      have hN := Y10.gone_le a0 d1
      have sR : Hid (∀ W g1 g2 g3, N1.Lists W d1 (N4.at3 d1 g1 g2 g3) → Calls Tryz.prog 26 #[.string a0, N1.val d1 (N4.at3 d1 g1 g2 g3)] W fun e w' => ∃ a c, e = .returned (.slice a (Y8.gone a0 d1).length c) ∧ (Y8.gone a0 d1).length ≤ c ∧ J0.Own W.heap.size w' a (Y8.gone a0 d1) ∧ Below W.heap.size W w') := fun W g1 g2 g3 h => Y9.spec_Gone a0 d1 _ W hms (N12.fitc hz) z2 z3 (by omega) (by omega) h
      have iR : Hid (∀ W g1 g2 g3, N1.Lists W d1 (N4.at3 d1 g1 g2 g3) → Calls Tryz.prog 22 #[.string a0, N1.val d1 (N4.at3 d1 g1 g2 g3)] W fun e w' => ∃ a c, e = .returned (.slice a (Y8.gone a0 d1).length c) ∧ (Y8.gone a0 d1).length ≤ c ∧ J0.Own W.heap.size w' a (Y8.gone a0 d1) ∧ Below W.heap.size W w') := fun W g1 g2 g3 h => Y8.impl_Gone a0 d1 _ W hms (N12.fitc hz) z2 z3 h
      obtain ⟨Z, hZ⟩ : ∃ Z, Y8.gone a0 d1 = Z := ⟨_, rfl⟩
      rw [hZ] at sR iR hN
      clear hZ
      go_enter Tryz.func5, Tryz.ntmps5
      go_wp2_with (first
        | (go_at_call 31; refine (N3.szFit d1 s1 _ x1 hz).mono ?_; rintro e w1 ⟨⟨q, hq, rfl⟩, b1⟩; have hq' : decide (q < 0) = false := (by simpa using hq); have t1 := t0.below b1; have c0 := t1.b.c0; have c1 := t1.b.c1; have c2 := t1.b.c2; have c3 := t1.b.c3; have c4 := t1.b.c4; have c5 := t1.b.c5; have c6 := t1.b.c6; have c7 := t1.b.c7)
        | (go_at_call 26; refine (sR.out _ _ _ _ cp2.lists).mono ?_; rintro e w3 ⟨aw, cw, rfl, hc3, o3, b3⟩; have t3 := t2.below b3; have o3' := o3.mono (base' := w.heap.size + 1) t2.b.b.lt; have e0 := t3.b.c0; have e1 := t3.b.c1; have e2 := t3.b.c2; have e3 := t3.b.c3; have e4 := t3.b.c4; have e5 := t3.b.c5; have e6 := t3.b.c6; have e7 := t3.b.c7)
        | (go_at_call 22; refine (iR.out _ _ _ _ u4.cp.lists).mono ?_; rintro e w5 ⟨ag, cg, rfl, hc5, o5, b5⟩; have k5 := N15.k_new t3 o3' b4 cp4 n12 n23 b5 o5)
        | (go_at_call 33; refine (Y4.eq_i _ _ _ _ Z _ hN k5.rowg k5.roww).mono ?_; rintro e w6 ⟨rfl, b6⟩; have k6 := k5.below b6; have j0 := k6.a.b.c0; have j1 := k6.a.b.c1; have j2 := k6.a.b.c2; have j3 := k6.a.b.c3; have j4 := k6.a.b.c4; have j5 := k6.a.b.c5; have j6 := k6.a.b.c6; have j7 := k6.a.b.c7; have i0 := k6.n.c0; have i1 := k6.n.c1; have i2 := k6.n.c2; have i3 := k6.n.c3; have i4 := k6.n.c4; have i5 := k6.n.c5; have i6 := k6.n.c6; have i7 := k6.n.c7)
        | (go_at_call 32; have t3' := t3; refine (N15.toLoan d1 s1 _ z1 z2 z3 t3.l).mono ?_; rintro e w4 ⟨f1, f2, f3, rfl, cp4, n12, n23, b4⟩; have u4 := N12.u_new (t3.below b4) cp4 t3.bel.size)
        | (go_at_call 32; refine (N15.toLoan d1 s1 _ z1 z2 z3 t1.l).mono ?_; rintro e w2 ⟨m1, m2, m3, rfl, cp2, -, -, b2⟩; have t2 := t1.below b2))
      have k6d := k6.drew
      go_region_with (first
        | (go_at_call 32; refine (N4.toLoan d1 s1 _ z1 z2 z3 k6d.a.l).mono ?_; rintro e w7 ⟨h1, h2, h3, rfl, cp7, b7⟩; have k7 := k6d.below b7; have n0 := k7.n.c0; have n1 := k7.n.c1; have n2 := k7.n.c2; have n3 := k7.n.c3; have n4 := k7.n.c4; have n5 := k7.n.c5; have n6 := k7.n.c6; have n7 := k7.n.c7)
        | (go_at_call 34; refine (N3.eqLoan d1 _ _ _ hp' ho' hf' k7.lists cp7.lists).mono ?_; rintro e w8 ⟨rfl, b8⟩; have k8 := k7.below b8; have o0 := k8.n.c0; have o1 := k8.n.c1; have o2 := k8.n.c2; have o3 := k8.n.c3; have o4 := k8.n.c4; have o5 := k8.n.c5; have o6 := k8.n.c6; have o7 := k8.n.c7))
      all_goals
        go_wp2_with (first
          | (go_at_call 35; refine (N15.markLoan R1 z1 z2 z3 k8).mono ?_; rintro e w9 ⟨⟨q9, rfl⟩, k9⟩; have hq9 : decide ((q9 : Int) < 0) = false := (by simp))
          | (go_at_call 33; have k14' := k14; refine (Y4.eq_i _ _ _ _ Z _ hN o14.row k14.roww).mono ?_; rintro e w15 ⟨rfl, b15⟩; have k15 := k14.below b15)
          | (go_at_call 33; refine (Y4.eq_i _ _ _ _ Z _ hN k9.rowg k9.roww).mono ?_; rintro e w10 ⟨rfl, b10⟩; have k10 := k9.below b10)
          | (go_at_call 36; refine (Y4.mark_i R1 hN k10).mono ?_; rintro e w11 ⟨rfl, k11⟩)
          | (go_at_call 37; have k15' := k15; refine (Y4.held_i hN k15).mono ?_; rintro e w16 ⟨rfl, rfl⟩)
          | (go_at_call 37; refine (Y4.held_i hN k11).mono ?_; rintro e w12 ⟨rfl, rfl⟩; have p0 := k11.a.b.c0; have p1 := k11.a.b.c1; have p2 := k11.a.b.c2; have p3 := k11.a.b.c3; have p4 := k11.a.b.c4; have p5 := k11.a.b.c5; have p6 := k11.a.b.c6; have p7 := k11.a.b.c7)
          | (go_at_call 32; refine (N4.toLoan d1 s1 _ z1 z2 z3 k11.a.l).mono ?_; rintro e w13 ⟨r1, r2, r3, rfl, cp13, b13⟩; have k13 := k11.below b13)
          | (go_at_call 22; refine (iR.out _ _ _ _ cp13.lists).mono ?_; rintro e w14 ⟨ah, ch, rfl, hc14, o14, b14⟩; have k14 := k13.below b14))
        go_ret
        exact ⟨rfl, k15.a.bel⟩
    · clear R1
      go_enter Tryz.func5, Tryz.ntmps5
      go_wp2_with (go_at_call 31; refine (N3.szBig d1 s1 _ x1 hz).mono ?_; rintro e w1 ⟨rfl, b1⟩; have t1 := t0.below b1)
      go_ret
      exact ⟨rfl, t1.bel⟩

set_option maxRecDepth 100000 in
theorem lifted (os : Os) (started : os.Started) (H : Type) (enc : TypeId × Value → H) :
    ReturnsInHanded {} Tryz.checked os 5 .any (Rows.fnExactGoneSpec.pre6 enc Tryz.prog Tryz.f5 Rows.fnExactGoneRow.domain false) (Rows.fnExactGoneSpec.post enc Tryz.prog Tryz.f5 false true false false) := by
  refine returnsInHanded_of_change (C := Tryz.checked) own started (by kernel_rfl) Tryz.func5
    (ChangeSpec.witness6 (enc := enc) (C := Tryz.checked) false ⟨#[], #[.string ByteArray.empty, .agg #[.int .i64 0, .int .i64 0, .int .i64 0, .string ByteArray.empty, .slice none 0 0, .string ByteArray.empty, .slice none 0 0, .slice none 0 0]], []⟩ 8 (by kernel_rfl) (by kernel_rfl) (by kernel_rfl) (by kernel_rfl)) ?_
  intro W base args ds gs before hval0 hW hcnd _
  have hval : ∀ (j : Nat) t v, Tryz.f5.params[j]? = some t → args[j]? = some v → Value.okWide Tryz.prog W .any base t v := hval0
  have hW' := hW
  obtain ⟨p, q, hA0, hV, rfl, hfz, hnd⟩ := hW
  have hA : DataW.TrodAll enc Tryz.prog W 0 (fun _ => true) true Tryz.f5.params.toList args.toList ds p := hA0
  rw [Tryz.params5] at hA hval
  obtain ⟨v0, vs0, d0, ds0, p0, q0, hargs, rfl, rfl, h0, r0⟩ := trodAll_cons hA
  obtain ⟨v1, vs1, d1, ds1, p1, q1, rfl, rfl, rfl, h1, r1⟩ := trodAll_cons r0
  obtain ⟨rfl, rfl, rfl⟩ := trodAll_nil r1
  obtain rfl : args = #[v0, v1] := by cases args; simp_all
  obtain ⟨rfl, rfl⟩ := trodVars_none hV
  obtain ⟨a0, rfl, rfl, rfl, w0⟩ := open_string Tryz.underlying9 (hval 0 9 v0 rfl rfl) h0
  have kk1 := h1
  have lt1 : ∀ x ∈ p1, x.block < W.heap.size := by obtain ⟨m, hm⟩ := kk1; exact DataW.trod_lt m _ _ _ hm
  obtain ⟨d1, s1, rfl, x1, R1⟩ := N1.open_loan (hval 1 51 v1 rfl rfl) h1
  clear hA0 hval0
  refine (walk a0 d1 s1 W w0 x1 R1).mono fun e W' ⟨he, hg⟩ => ?_
  subst he
  exact ⟨_, rfl, _, _, _, [], _, [], hW', (trodAll_cons_mk (shut_bool Tryz.underlying4 _) trodAll_mk0), (trodAll_cons_mk (shut_string Tryz.underlying9 w0) (trodAll_cons_mk (Below.trod laidOut (by kernel_rfl) (of_decide_eq_true (by kernel_rfl)) kk1 hg lt1) trodAll_mk0)), rfl, hg.frame _, fun h => by cases h⟩

theorem over : Rows.fnExactGoneRow.holds Tryz.pinned (OpenSpec.ofChange Rows.fnExactGoneSpec) :=
  OpenClaim.holds_of_wide 5 Tryz.f5 rfl rfl rfl rfl rfl rfl rfl ⟨rfl, rfl, rfl, rfl, rfl⟩ rfl rfl rfl rfl rfl (by kernel_rfl) Tryz.func5 (by kernel_rfl)
    (of_decide_eq_true (by kernel_rfl)) (by unfold Func.isWrapper; first | (rw [if_pos (by decide +kernel)]; kernel_rfl) | (rw [if_neg (by decide +kernel)]; exact ⟨rfl, rfl⟩))
    (fun os started H enc _ => lifted os started H enc)

theorem proved : Rows.FnExactGoneSaid :=
  over
end Go.Proofs.YtddlpejklpljoaaGreat.fnExactGone

namespace Go.Proofs.YtddlpejklpljoaaGreat
theorem fnExactGone_proved : Rows.FnExactGoneSaid := fnExactGone.proved
#print axioms fnExactGone_proved
end Go.Proofs.YtddlpejklpljoaaGreat
