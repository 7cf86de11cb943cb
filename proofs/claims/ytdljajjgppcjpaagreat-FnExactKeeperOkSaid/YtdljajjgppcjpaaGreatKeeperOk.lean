/- KeeperOk is what the specification says, for every keeper. -/
import Derived.Test.YtdljajjgppcjpaaGreatRows
import Derived.Test.YtdljajjgppcjpaaGreatJkF
import Derived.Test.YtdljajjgppcjpaaGreatJkX
import Derived.WalkKit
import Derived.ProofKit
import Derived.OpenShut
import Derived.ShutString
import Derived.ChangeOld
import Derived.Below
namespace Go.Proofs.YtdljajjgppcjpaaGreat.fnExactKeeperOk
open Go.ChangeShapes Go.WideShapes Go.ChangeAt Go.RowKit
open Go.ChangeMaps (open_string shut_string)
set_option linter.unusedVariables false
set_option linter.unusedSimpArgs false

theorem own : ownKnob Tryz.prog.godebug = none := by kernel_rfl

theorem laidOut : laidOutB Tryz.prog = true := by kernel_rfl

set_option maxHeartbeats 4000000 in
set_option maxRecDepth 10000 in
theorem walk (k0 : Z0.Kp) (a0 : Option Addr) (c0 : Nat) (s0 : Nat → N1.Sl) (w : World) (x0 : Z0.FitK k0 s0) (R0 : Z0.Lns w a0 k0.ds s0) :
    Calls Tryz.prog 4 #[Z0.kval k0 a0 c0] w fun e w' => e = .returned (.bool true) ∧ Below w.heap.size w w' := by
  have t0 := Z3.a_new w k0 a0 c0 s0 R0
  by_cases hz : Z1.small k0
  · have hz' := hz
    unfold Z1.small at hz'
    have hs : k0.ds.length + Z1.tot k0.ds k0.ds.length ≤ 1048576 := by omega
    have hm1 : k0.mem.size ≤ 1048576 := by omega
    have hm2 : k0.dur.size ≤ 1048576 := by omega
    have ht : Z1.tot k0.ds k0.ds.length ≤ 1048576 := by omega
    have HSp : Hid (∀ a c P W, Z0.Lns W a k0.ds (Z2.pls k0.ds P) → Calls Tryz.prog 20 #[Z0.kval k0 a c] W fun e w' => e = .returned (.bool (KI.iK k0)) ∧ Below W.heap.size W w') := fun a c P W h => (KS.spec_KeeperOk k0 a c _ W hm1 hm2 hs (Z3.fits ht) h).mono fun e w' ⟨he, hb⟩ => ⟨by rw [he, KY.sK_eq], hb⟩
    have HIm : Hid (∀ a c P W, Z0.Lns W a k0.ds (Z2.pls k0.ds P) → Calls Tryz.prog 22 #[Z0.kval k0 a c] W fun e w' => e = .returned (.bool (KI.iK k0)) ∧ Below W.heap.size W w') := fun a c P W h => KI.impl_KeeperOk k0 a c _ W hm1 hm2 hs (Z3.fits ht) h
    obtain ⟨bk, hbk⟩ : ∃ bk, KI.iK k0 = bk := ⟨_, rfl⟩
    rw [hbk] at HSp HIm
    have hu : (bk != bk) = false := by cases bk <;> rfl
    have hu2 : (bk == bk) = true := by cases bk <;> rfl
    clear R0 hz' hbk
    go_enter Tryz.func4, Tryz.ntmps4
    go_wp2_with (first
      | (go_at_call 19; refine (Z1.szFit k0 a0 c0 s0 _ x0 hz t0.l.row).mono ?_; rintro e w1 ⟨⟨q, hq, rfl⟩, b1⟩; have hq' : decide (q < 0) = false := (by simpa using hq); have t1 := t0.below b1; have f0 := t1.b.c0; have f1 := t1.b.c1; have f2 := t1.b.c2; have f3 := t1.b.c3)
      | (go_at_call 20; refine (HSp.out _ _ _ _ cp2.rows).mono ?_; rintro e w3 ⟨rfl, b3⟩; have t3 := t2.below b3; have e0 := t3.b.c0; have e1 := t3.b.c1; have e2 := t3.b.c2; have e3 := t3.b.c3)
      | (go_at_call 22; refine (HIm.out _ _ _ _ u4.cp.rows).mono ?_; rintro e w5 ⟨rfl, b5⟩; have u5 := u4.below b5; have j0 := u5.t.b.c0; have j1 := u5.t.b.c1; have j2 := u5.t.b.c2; have j3 := u5.t.b.c3; have i0 := u5.n.c0; have i1 := u5.n.c1; have i2 := u5.n.c2; have i3 := u5.n.c3)
      | (go_at_call 21; have t3' := t3; refine (Z3.toKeeper k0 a0 c0 s0 _ hs t3.l).mono ?_; rintro e w4 ⟨g4, P4, rfl, hg4, cp4, b4⟩; have u4 := Z3.u_new (t3.below b4) cp4)
      | (go_at_call 21; refine (Z3.toKeeper k0 a0 c0 s0 _ hs t1.l).mono ?_; rintro e w2 ⟨g2, P2, rfl, hg2, cp2, b2⟩; have t2 := t1.below b2))
    have u6 := u5.drew
    go_region_with (first
      | (go_at_call 21; refine (Z3.toKeeper k0 a0 c0 s0 _ hs u6.t.l).mono ?_; rintro e w7 ⟨g7, P7, rfl, hg7, cp7, b7⟩; have u7 := u6.below b7; have n0 := u7.n.c0; have n1 := u7.n.c1; have n2 := u7.n.c2; have n3 := u7.n.c3)
      | (go_at_call 23; refine (Z3.eqKeeper k0 _ _ _ _ _ _ _ hs u7.cp.rows cp7.rows).mono ?_; rintro e w8 ⟨rfl, b8⟩; have t8 := u7.t.below b8))
    all_goals
      go_wp2
      go_ret
      exact ⟨rfl, t8.bel⟩
  · clear R0
    go_enter Tryz.func4, Tryz.ntmps4
    go_wp2_with (go_at_call 19; refine (Z1.szBig k0 a0 c0 s0 _ x0 hz t0.l.row).mono ?_; rintro e w1 ⟨rfl, b1⟩; have t1 := t0.below b1)
    go_ret
    exact ⟨rfl, t1.bel⟩

set_option maxRecDepth 100000 in
theorem lifted (os : Os) (started : os.Started) (H : Type) (enc : TypeId × Value → H) :
    ReturnsInHanded {} Tryz.checked os 4 .any (Rows.fnExactKeeperOkSpec.pre6 enc Tryz.prog Tryz.f4 Rows.fnExactKeeperOkRow.domain false) (Rows.fnExactKeeperOkSpec.post enc Tryz.prog Tryz.f4 false true false false) := by
  refine returnsInHanded_of_change (C := Tryz.checked) own started (by kernel_rfl) Tryz.func4
    (ChangeSpec.witness6 (enc := enc) (C := Tryz.checked) false ⟨#[], #[.agg #[.string ByteArray.empty, .string ByteArray.empty, .slice none 0 0, .int .i64 0]], []⟩ 8 (by kernel_rfl) (by kernel_rfl) (by kernel_rfl) (by kernel_rfl)) ?_
  intro W base args ds gs before hval0 hW hcnd _
  have hval : ∀ (j : Nat) t v, Tryz.f4.params[j]? = some t → args[j]? = some v → Value.okWide Tryz.prog W .any base t v := hval0
  have hW' := hW
  obtain ⟨p, q, hA0, hV, rfl, hfz, hnd⟩ := hW
  have hA : DataW.TrodAll enc Tryz.prog W 0 (fun _ => true) true Tryz.f4.params.toList args.toList ds p := hA0
  rw [Tryz.params4] at hA hval
  obtain ⟨v0, vs0, d0, ds0, p0, q0, hargs, rfl, rfl, h0, r0⟩ := trodAll_cons hA
  obtain ⟨rfl, rfl, rfl⟩ := trodAll_nil r0
  obtain rfl : args = #[v0] := by cases args; simp_all
  obtain ⟨rfl, rfl⟩ := trodVars_none hV
  have kk0 := h0
  have lt0 : ∀ x ∈ p0, x.block < W.heap.size := by obtain ⟨m, hm⟩ := kk0; exact DataW.trod_lt m _ _ _ hm
  obtain ⟨k0, a0, c0, s0, rfl, x0, R0⟩ := Z0.open_keeper (hval 0 45 v0 rfl rfl) h0
  clear hA0 hval0
  refine (walk k0 a0 c0 s0 W x0 R0).mono fun e W' ⟨he, hg⟩ => ?_
  subst he
  exact ⟨_, rfl, _, _, _, [], _, [], hW', (trodAll_cons_mk (shut_bool Tryz.underlying4 _) trodAll_mk0), (trodAll_cons_mk (Below.trod laidOut (by kernel_rfl) (of_decide_eq_true (by kernel_rfl)) kk0 hg lt0) trodAll_mk0), rfl, hg.frame _, fun h => by cases h⟩

theorem over : Rows.fnExactKeeperOkRow.holds Tryz.pinned (OpenSpec.ofChange Rows.fnExactKeeperOkSpec) :=
  OpenClaim.holds_of_wide 4 Tryz.f4 rfl rfl rfl rfl rfl rfl rfl ⟨rfl, rfl, rfl, rfl, rfl⟩ rfl rfl rfl rfl rfl (by kernel_rfl) Tryz.func4 (by kernel_rfl)
    (of_decide_eq_true (by kernel_rfl)) (by unfold Func.isWrapper; first | (rw [if_pos (by decide +kernel)]; kernel_rfl) | (rw [if_neg (by decide +kernel)]; exact ⟨rfl, rfl⟩))
    (fun os started H enc _ => lifted os started H enc)

theorem proved : Rows.FnExactKeeperOkSaid :=
  over
end Go.Proofs.YtdljajjgppcjpaaGreat.fnExactKeeperOk

namespace Go.Proofs.YtdljajjgppcjpaaGreat
theorem fnExactKeeperOk_proved : Rows.FnExactKeeperOkSaid := fnExactKeeperOk.proved
#print axioms fnExactKeeperOk_proved
end Go.Proofs.YtdljajjgppcjpaaGreat
