/- FnExactRemove holds at every loan, every memory and every name: the program's Remove answers as the specification's, every put, writes into no argument, and its answer owns its memory; no condition. -/
import Derived.Test.YtkdjcbmmbjongaaGreatRows
import Derived.Test.YtkdjcbmmbjongaaGreatJnO
import Derived.Test.YtkdjcbmmbjongaaGreatJrA
import Derived.Test.YtkdjcbmmbjongaaGreatJnG
import Derived.Test.YtkdjcbmmbjongaaGreatJnE
import Derived.WalkKit
import Derived.ProofKit
import Derived.OpenShut
import Derived.ShutString
import Derived.ChangeOld
import Derived.Below
namespace Go.Proofs.YtkdjcbmmbjongaaGreat.fnExactRemove
open Go.ChangeShapes Go.WideShapes Go.ChangeAt Go.RowKit
open Go.ChangeMaps (open_string shut_string)
set_option linter.unusedVariables false
set_option linter.unusedSimpArgs false

theorem own : ownKnob Tryz.prog.godebug = none := by kernel_rfl

theorem laidOut : laidOutB Tryz.prog = true := by kernel_rfl

set_option maxHeartbeats 4000000 in
set_option maxRecDepth 10000 in
theorem walk (d0 : N0.Ln) (s0 : N1.Sl) (a1 : ByteArray) (a2 : ByteArray) (w : World) (x0 : N1.FitM d0 s0) (R0 : N1.Lists w d0 s0) (w1 : a1.size ≤ maxLen) (w2 : a2.size ≤ maxLen) :
    Calls Tryz.prog 4 #[N1.val d0 s0, .string a1, .string a2] w fun e w' => e = .returned (.bool true) ∧ Below w.heap.size w w' := by
  have t0 := N12.a_new w d0 s0 R0
  by_cases hbig : 1048576 < (a1.size : Int)
  · go_enter Tryz.func4, Tryz.ntmps4
    go_wp2
    go_ret
    exact ⟨rfl, t0.bel⟩
  · by_cases hbig2 : 1048576 < (a2.size : Int)
    · go_enter Tryz.func4, Tryz.ntmps4
      go_wp2
      go_ret
      exact ⟨rfl, t0.bel⟩
    · have hms : a1.size ≤ 281474976710656 := by omega
      have hds : a2.size ≤ 281474976710656 := by omega
      by_cases hz : N3.total d0 ≤ 1048576
      · obtain ⟨z1, z2, z3, z4, z5⟩ := N12.sizes hz
        have hp' : d0.pg.length ≤ 281474976710656 := by omega
        have ho' : d0.po.length ≤ 281474976710656 := by omega
        have hf' : d0.fr.length ≤ 281474976710656 := by omega
        have hN : (NR.rmZ d0 a1 a2 (NE.nmI d0 a1) (NE.nmE d0 a1)).length ≤ 1048576 := Nat.le_trans (NR.rmZ_len d0 a1 a2 _ _) (by decide)
        have sR : Hid (∀ W g1 g2 g3, N1.Lists W d0 (N4.at3 d0 g1 g2 g3) → Calls Tryz.prog 18 #[N1.val d0 (N4.at3 d0 g1 g2 g3), .string a1, .string a2] W fun e w' => ∃ a c, e = .returned (.tuple #[.slice a (NR.rmZ d0 a1 a2 (NE.nmI d0 a1) (NE.nmE d0 a1)).length c, .bool (NR.rmOk d0 a1 a2 (NE.nmI d0 a1) (NE.nmE d0 a1))]) ∧ V1.OwnE W.heap.size w' a (NR.rmZ d0 a1 a2 (NE.nmI d0 a1) (NE.nmE d0 a1)) ∧ (NR.rmZ d0 a1 a2 (NE.nmI d0 a1) (NE.nmE d0 a1)).length ≤ c ∧ Below W.heap.size W w') := fun W g1 g2 g3 h => by
          have := NR.spec_Remove d0 _ a1 a2 W hms (N12.fitc hz) z2 z3 h
          rw [← (NR.rm_same d0 a1 a2).1, ← (NR.rm_same d0 a1 a2).2] at this
          exact this
        have iR : Hid (∀ W g1 g2 g3, N1.Lists W d0 (N4.at3 d0 g1 g2 g3) → Calls Tryz.prog 19 #[N1.val d0 (N4.at3 d0 g1 g2 g3), .string a1, .string a2] W fun e w' => ∃ a c, e = .returned (.tuple #[.slice a (NR.rmZ d0 a1 a2 (NE.nmI d0 a1) (NE.nmE d0 a1)).length c, .bool (NR.rmOk d0 a1 a2 (NE.nmI d0 a1) (NE.nmE d0 a1))]) ∧ V1.OwnE W.heap.size w' a (NR.rmZ d0 a1 a2 (NE.nmI d0 a1) (NE.nmE d0 a1)) ∧ (NR.rmZ d0 a1 a2 (NE.nmI d0 a1) (NE.nmE d0 a1)).length ≤ c ∧ Below W.heap.size W w') := fun W g1 g2 g3 h => NR.impl_Remove d0 _ a1 a2 W hms (N12.fitc hz) z2 z3 h
        obtain ⟨Z, hZ⟩ : ∃ Z, NR.rmZ d0 a1 a2 (NE.nmI d0 a1) (NE.nmE d0 a1) = Z := ⟨_, rfl⟩
        obtain ⟨ok, hok⟩ : ∃ ok, NR.rmOk d0 a1 a2 (NE.nmI d0 a1) (NE.nmE d0 a1) = ok := ⟨_, rfl⟩
        rw [hZ, hok] at sR iR
        rw [hZ] at hN
        clear hZ hok
        have hbb : (ok != ok) = false := by simp
        go_enter Tryz.func4, Tryz.ntmps4
        go_wp2_with (first
          | (go_at_call 5; refine (N3.szFit d0 s0 _ x0 hz).mono ?_; rintro e w1 ⟨⟨q, hq, rfl⟩, b1⟩; have hq' : decide (q < 0) = false := (by simpa using hq); have t1 := t0.below b1; have c0 := t1.b.c0; have c1 := t1.b.c1; have c2 := t1.b.c2; have c3 := t1.b.c3; have c4 := t1.b.c4; have c5 := t1.b.c5; have c6 := t1.b.c6; have c7 := t1.b.c7)
          | (go_at_call 18; refine (sR.out _ _ _ _ cp2.lists).mono ?_; rintro e w3 ⟨aw, cw, rfl, o3, hc3, b3⟩; have t3 := t2.below b3; have o3' := o3.mono (base' := w.heap.size + 1) t2.b.b.lt; have e0 := t3.b.c0; have e1 := t3.b.c1; have e2 := t3.b.c2; have e3 := t3.b.c3; have e4 := t3.b.c4; have e5 := t3.b.c5; have e6 := t3.b.c6; have e7 := t3.b.c7)
          | (go_at_call 19; refine (iR.out _ _ _ _ u4.cp.lists).mono ?_; rintro e w5 ⟨ag, cg, rfl, o5, hc5, b5⟩; have k5 := PK.k_new t3 o3' b4 cp4 n12 n23 (Below.refl _ _) b5 o5 (Nat.le_refl _) (by simp))
          | (go_at_call 11; refine (PK.eq_p _ _ _ _ _ hN k5.rowg k5.roww).mono ?_; rintro e w6 ⟨rfl, b6⟩; have k6 := k5.below b6; have j0 := k6.a.b.c0; have j1 := k6.a.b.c1; have j2 := k6.a.b.c2; have j3 := k6.a.b.c3; have j4 := k6.a.b.c4; have j5 := k6.a.b.c5; have j6 := k6.a.b.c6; have j7 := k6.a.b.c7; have i0 := k6.n.c0; have i1 := k6.n.c1; have i2 := k6.n.c2; have i3 := k6.n.c3; have i4 := k6.n.c4; have i5 := k6.n.c5; have i6 := k6.n.c6; have i7 := k6.n.c7)
          | (go_at_call 8; have t3' := t3; refine (N15.toLoan d0 s0 _ z1 z2 z3 t3.l).mono ?_; rintro e w4 ⟨f1, f2, f3, rfl, cp4, n12, n23, b4⟩; have u4 := N12.u_new (t3.below b4) cp4 t3.bel.size)
          | (go_at_call 8; refine (N15.toLoan d0 s0 _ z1 z2 z3 t1.l).mono ?_; rintro e w2 ⟨m1, m2, m3, rfl, cp2, -, -, b2⟩; have t2 := t1.below b2))
        have k6d := k6.drew
        go_region_with (first
          | (go_at_call 8; refine (N4.toLoan d0 s0 _ z1 z2 z3 k6d.a.l).mono ?_; rintro e w7 ⟨h1, h2, h3, rfl, cp7, b7⟩; have k7 := k6d.below b7; have n0 := k7.n.c0; have n1 := k7.n.c1; have n2 := k7.n.c2; have n3 := k7.n.c3; have n4 := k7.n.c4; have n5 := k7.n.c5; have n6 := k7.n.c6; have n7 := k7.n.c7)
          | (go_at_call 12; refine (N3.eqLoan d0 _ _ _ hp' ho' hf' k7.lists cp7.lists).mono ?_; rintro e w8 ⟨rfl, b8⟩; have k8 := k7.below b8; have o0 := k8.n.c0; have o1 := k8.n.c1; have o2 := k8.n.c2; have o3 := k8.n.c3; have o4 := k8.n.c4; have o5 := k8.n.c5; have o6 := k8.n.c6; have o7 := k8.n.c7))
        all_goals
          go_wp2_with (first
            | (go_at_call 14; refine (PK.markLoan R0 z1 z2 z3 k8).mono ?_; rintro e w9 ⟨⟨q9, rfl⟩, k9⟩; have hq9 : decide ((q9 : Int) < 0) = false := (by simp))
            | (go_at_call 11; have k14' := k14; refine (PK.eq_p _ _ _ _ _ hN o14.row k14.roww).mono ?_; rintro e w15 ⟨rfl, b15⟩; have k15 := k14.below b15)
            | (go_at_call 11; refine (PK.eq_p _ _ _ _ _ hN k9.rowg k9.roww).mono ?_; rintro e w10 ⟨rfl, b10⟩; have k10 := k9.below b10)
            | (go_at_call 16; refine (PK.mark_p R0 hN k10).mono ?_; rintro e w11 ⟨rfl, k11⟩)
            | (go_at_call 17; have k15' := k15; refine (PK.held_p hN k15).mono ?_; rintro e w16 ⟨rfl, k16⟩)
            | (go_at_call 17; refine (PK.held_p hN k11).mono ?_; rintro e w12 ⟨rfl, k12⟩; have p0 := k12.a.b.c0; have p1 := k12.a.b.c1; have p2 := k12.a.b.c2; have p3 := k12.a.b.c3; have p4 := k12.a.b.c4; have p5 := k12.a.b.c5; have p6 := k12.a.b.c6; have p7 := k12.a.b.c7)
            | (go_at_call 8; refine (N4.toLoan d0 s0 _ z1 z2 z3 k12.a.l).mono ?_; rintro e w13 ⟨r1, r2, r3, rfl, cp13, b13⟩; have k13 := k12.below b13)
            | (go_at_call 19; refine (iR.out _ _ _ _ cp13.lists).mono ?_; rintro e w14 ⟨ah, ch, rfl, o14, hc14, b14⟩; have k14 := k13.below b14))
          go_ret
          exact ⟨rfl, k16.a.bel⟩
      · clear R0
        go_enter Tryz.func4, Tryz.ntmps4
        go_wp2_with (go_at_call 5; refine (N3.szBig d0 s0 _ x0 hz).mono ?_; rintro e w1 ⟨rfl, b1⟩; have t1 := t0.below b1)
        go_ret
        exact ⟨rfl, t1.bel⟩

set_option maxRecDepth 100000 in
theorem lifted (os : Os) (started : os.Started) (H : Type) (enc : TypeId × Value → H) :
    ReturnsInHanded {} Tryz.checked os 4 .any (Rows.fnExactRemoveSpec.pre6 enc Tryz.prog Tryz.f4 Rows.fnExactRemoveRow.domain false) (Rows.fnExactRemoveSpec.post enc Tryz.prog Tryz.f4 false true false false) := by
  refine returnsInHanded_of_change (C := Tryz.checked) own started (by kernel_rfl) Tryz.func4
    (ChangeSpec.witness6 (enc := enc) (C := Tryz.checked) false ⟨#[], #[.agg #[.int .i64 0, .int .i64 0, .int .i64 0, .string ByteArray.empty, .slice none 0 0, .string ByteArray.empty, .slice none 0 0, .slice none 0 0], .string ByteArray.empty, .string ByteArray.empty], []⟩ 8 (by kernel_rfl) (by kernel_rfl) (by kernel_rfl) (by kernel_rfl)) ?_
  intro W base args ds gs before hval0 hW hcnd _
  have hval : ∀ (j : Nat) t v, Tryz.f4.params[j]? = some t → args[j]? = some v → Value.okWide Tryz.prog W .any base t v := hval0
  have hW' := hW
  obtain ⟨p, q, hA0, hV, rfl, hfz, hnd⟩ := hW
  have hA : DataW.TrodAll enc Tryz.prog W 0 (fun _ => true) true Tryz.f4.params.toList args.toList ds p := hA0
  rw [Tryz.params4] at hA hval
  obtain ⟨v0, vs0, d0, ds0, p0, q0, hargs, rfl, rfl, h0, r0⟩ := trodAll_cons hA
  obtain ⟨v1, vs1, d1, ds1, p1, q1, rfl, rfl, rfl, h1, r1⟩ := trodAll_cons r0
  obtain ⟨v2, vs2, d2, ds2, p2, q2, rfl, rfl, rfl, h2, r2⟩ := trodAll_cons r1
  obtain ⟨rfl, rfl, rfl⟩ := trodAll_nil r2
  obtain rfl : args = #[v0, v1, v2] := by cases args; simp_all
  obtain ⟨rfl, rfl⟩ := trodVars_none hV
  have kk0 := h0
  have lt0 : ∀ x ∈ p0, x.block < W.heap.size := by obtain ⟨m, hm⟩ := kk0; exact DataW.trod_lt m _ _ _ hm
  obtain ⟨d0, s0, rfl, x0, R0⟩ := N1.open_loan (hval 0 24 v0 rfl rfl) h0
  obtain ⟨a1, rfl, rfl, rfl, w1⟩ := open_string Tryz.underlying9 (hval 1 9 v1 rfl rfl) h1
  obtain ⟨a2, rfl, rfl, rfl, w2⟩ := open_string Tryz.underlying9 (hval 2 9 v2 rfl rfl) h2
  clear hA0 hval0
  refine (walk d0 s0 a1 a2 W x0 R0 w1 w2).mono fun e W' ⟨he, hg⟩ => ?_
  subst he
  exact ⟨_, rfl, _, _, _, [], _, [], hW', (trodAll_cons_mk (shut_bool Tryz.underlying4 _) trodAll_mk0), (trodAll_cons_mk (Below.trod laidOut (by kernel_rfl) (of_decide_eq_true (by kernel_rfl)) kk0 hg lt0) (trodAll_cons_mk (shut_string Tryz.underlying9 w1) (trodAll_cons_mk (shut_string Tryz.underlying9 w2) trodAll_mk0))), rfl, hg.frame _, fun h => by cases h⟩

theorem over : Rows.fnExactRemoveRow.holds Tryz.pinned (OpenSpec.ofChange Rows.fnExactRemoveSpec) :=
  OpenClaim.holds_of_wide 4 Tryz.f4 rfl rfl rfl rfl rfl rfl rfl ⟨rfl, rfl, rfl, rfl, rfl⟩ rfl rfl rfl rfl rfl (by kernel_rfl) Tryz.func4 (by kernel_rfl)
    (of_decide_eq_true (by kernel_rfl)) (by unfold Func.isWrapper; first | (rw [if_pos (by decide +kernel)]; kernel_rfl) | (rw [if_neg (by decide +kernel)]; exact ⟨rfl, rfl⟩))
    (fun os started H enc _ => lifted os started H enc)

theorem proved : Rows.FnExactRemoveSaid :=
  over
end Go.Proofs.YtkdjcbmmbjongaaGreat.fnExactRemove

namespace Go.Proofs.YtkdjcbmmbjongaaGreat
theorem fnExactRemove_proved : Rows.FnExactRemoveSaid := fnExactRemove.proved
#print axioms fnExactRemove_proved
end Go.Proofs.YtkdjcbmmbjongaaGreat
