/- FnExactPutNames holds at every loan, every memory and every list of entries: the program's PutNames answers as the specification's, every put, writes into no argument, and its answer owns its memory; no condition. -/
import Derived.Test.YtkdjcbmmbjongaaGreatRows
import Derived.Test.YtkdjcbmmbjongaaGreatJnO
import Derived.Test.YtkdjcbmmbjongaaGreatJnE
import Derived.WalkKit
import Derived.ProofKit
import Derived.OpenShut
import Derived.ShutString
import Derived.ChangeOld
import Derived.Below
namespace Go.Proofs.YtkdjcbmmbjongaaGreat.fnExactPutNames
open Go.ChangeShapes Go.WideShapes Go.ChangeAt Go.RowKit
open Go.ChangeMaps (open_string shut_string)
set_option linter.unusedVariables false
set_option linter.unusedSimpArgs false

theorem own : ownKnob Tryz.prog.godebug = none := by kernel_rfl

theorem laidOut : laidOutB Tryz.prog = true := by kernel_rfl

set_option maxHeartbeats 4000000 in
set_option maxRecDepth 10000 in
theorem walk (d0 : N0.Ln) (s0 : N1.Sl) (a1 : ByteArray) (a2 : Option Addr) (c2 : Nat) (z2 : List T0.Ent) (w : World) (x0 : N1.FitM d0 s0) (R0 : N1.Lists w d0 s0) (w1 : a1.size ≤ maxLen) (x2 : z2.length ≤ c2) (y2 : c2 ≤ maxLen) (F2 : T4.FitsM z2) (R2 : T0.Row w a2 z2) :
    Calls Tryz.prog 3 #[N1.val d0 s0, .string a1, .slice a2 z2.length c2] w fun e w' => e = .returned (.bool true) ∧ Below w.heap.size w w' := by
  have t0 := N12.a_new w d0 s0 R0
  have hn2 : z2.length ≤ maxLen := Nat.le_trans x2 y2
  by_cases hbig : 1048576 < (a1.size : Int)
  · go_enter Tryz.func3, Tryz.ntmps3
    go_wp2
    go_ret
    exact ⟨rfl, t0.bel⟩
  · have hms : a1.size ≤ 281474976710656 := by omega
    by_cases hz : N3.total d0 ≤ 1048576
    · obtain ⟨z1', z2', z3', z4', z5'⟩ := N12.sizes hz
      have hp' : d0.pg.length ≤ 281474976710656 := by omega
      have ho' : d0.po.length ≤ 281474976710656 := by omega
      have hf' : d0.fr.length ≤ 281474976710656 := by omega
      have HX : Hid (∀ W, Below w.heap.size w W → T0.Row W a2 z2) := fun W hb => R2.below hb
      have HSz : Hid (∀ (L : Int) W, 0 ≤ L → L ≤ 1048576 → Below w.heap.size w W → Calls Tryz.prog 6 #[.slice a2 z2.length c2, .int .i64 L] W fun e w' => e = .returned (.int .i64 (NP.leftL L z2)) ∧ Below W.heap.size W w') := fun L W h0 h1 hb => NP.szEntryL a2 c2 z2 L W h0 h1 hn2 F2 (R2.below hb)
      clear R2
      by_cases hze0 : ((z2.length + T4.sum z2 z2.length : Nat) : Int) ≤ 1048576 - (N3.total d0 : Int)
      · have hze : z2.length + T4.sum z2 z2.length ≤ 1048576 := by omega
        have hb2 : z2.length ≤ 1048576 := by omega
        have hfit := T4.fits_of hze
        have hN : (NN.namesZ d0 a1 z2).length ≤ 1048576 := Nat.le_trans (NN.namesZ_len d0 a1 z2) (by decide)
        have sR : Hid (∀ W g1 g2 g3 ge, N1.Lists W d0 (N4.at3 d0 g1 g2 g3) → T0.Row W (some ⟨ge, 0, none⟩) z2 → Calls Tryz.prog 7 #[N1.val d0 (N4.at3 d0 g1 g2 g3), .string a1, .slice (some ⟨ge, 0, none⟩) z2.length z2.length] W fun e w' => ∃ a c, e = .returned (.tuple #[.slice a (NN.namesZ d0 a1 z2).length c, .bool (NN.namesOk d0 a1 z2)]) ∧ V1.OwnE W.heap.size w' a (NN.namesZ d0 a1 z2) ∧ (NN.namesZ d0 a1 z2).length ≤ c ∧ Below W.heap.size W w') := fun W g1 g2 g3 ge h h2 => NN.spec_PutNames d0 _ a1 _ _ z2 W hms (N12.fitc hz) z2' z3' hb2 (Nat.le_refl _) hfit h h2
        have iR : Hid (∀ W g1 g2 g3 ge, N1.Lists W d0 (N4.at3 d0 g1 g2 g3) → T0.Row W (some ⟨ge, 0, none⟩) z2 → Calls Tryz.prog 10 #[N1.val d0 (N4.at3 d0 g1 g2 g3), .string a1, .slice (some ⟨ge, 0, none⟩) z2.length z2.length] W fun e w' => ∃ a c, e = .returned (.tuple #[.slice a (NN.namesZ d0 a1 z2).length c, .bool (NN.namesOk d0 a1 z2)]) ∧ V1.OwnE W.heap.size w' a (NN.namesZ d0 a1 z2) ∧ (NN.namesZ d0 a1 z2).length ≤ c ∧ Below W.heap.size W w') := fun W g1 g2 g3 ge h h2 => NN.impl_PutNames d0 _ a1 _ _ z2 W hms (N12.fitc hz) z2' z3' hb2 (Nat.le_refl _) hfit h h2
        have toE : Hid (∀ W, Below w.heap.size w W → Calls Tryz.prog 9 #[.slice a2 z2.length c2] W fun e w' => ∃ g, e = .returned (.slice (some ⟨g, 0, none⟩) z2.length z2.length) ∧ W.heap.size ≤ g ∧ T5.Mk g z2.length z2 z2.length w' ∧ Below W.heap.size W w') := fun W hb => NP.toEntry2 a2 c2 z2 W hb2 (HX.out W hb)
        obtain ⟨Z, hZ⟩ : ∃ Z, NN.namesZ d0 a1 z2 = Z := ⟨_, rfl⟩
        obtain ⟨ok, hok⟩ : ∃ ok, NN.namesOk d0 a1 z2 = ok := ⟨_, rfl⟩
        rw [hZ, hok] at sR iR
        rw [hZ] at hN
        clear hZ hok
        have hbb : (ok != ok) = false := by simp
        obtain ⟨Q, hQ⟩ : ∃ Q : Int, 1048576 - (N3.total d0 : Int) = Q := ⟨_, rfl⟩
        have hQ0 : 0 ≤ Q := by omega
        have hQ1 : Q ≤ 1048576 := by omega
        have szL : Hid (∀ W, Calls Tryz.prog 5 #[N1.val d0 s0, .int .i64 1048576] W fun e w' => e = .returned (.int .i64 Q) ∧ Below W.heap.size W w') := fun W => hQ ▸ NP.szFit2 d0 s0 W x0 hz
        obtain ⟨R, hRR⟩ : ∃ R : Int, NP.leftL Q z2 = R := ⟨_, rfl⟩
        have hR0 : 0 ≤ R := by rw [← hRR, NP.leftL, if_pos (by omega)]; omega
        have szE : Hid (∀ W, Below w.heap.size w W → Calls Tryz.prog 6 #[.slice a2 z2.length c2, .int .i64 Q] W fun e w' => e = .returned (.int .i64 R) ∧ Below W.heap.size W w') := fun W hb => hRR ▸ HSz.out Q W hQ0 hQ1 hb
        have hd1 : decide (Q < 0) = false := by simp; omega
        have hd2 : decide (R < 0) = false := by simp; omega
        clear hQ hRR HSz hze hze0 hfit
        go_enter Tryz.func3, Tryz.ntmps3
        go_wp2_with (first
          | (go_at_call 5; refine (szL.out _).mono ?_; rintro e w1 ⟨rfl, b1⟩; have t1 := t0.below b1)
          | (go_at_call 6; refine (szE.out _ t1.bel).mono ?_; rintro e w1b ⟨rfl, b1b⟩; have t1b := t1.below b1b; have c0 := t1b.b.c0; have c1 := t1b.b.c1; have cc2 := t1b.b.c2; have c3 := t1b.b.c3; have c4 := t1b.b.c4; have c5 := t1b.b.c5; have c6 := t1b.b.c6; have c7 := t1b.b.c7)
          | (go_at_call 7; refine (sR.out _ _ _ _ _ cp2'.lists (V5.mk_row mk2)).mono ?_; rintro e w3 ⟨aw, cw, rfl, o3, hc3, b3⟩; have t3 := t2b.below b3; have o3' := o3.mono (base' := w.heap.size + 1) t2b.b.b.lt; have e0 := t3.b.c0; have e1 := t3.b.c1; have e2 := t3.b.c2; have e3 := t3.b.c3; have e4 := t3.b.c4; have e5 := t3.b.c5; have e6 := t3.b.c6; have e7 := t3.b.c7)
          | (go_at_call 10; refine (iR.out _ _ _ _ _ u4b.cp.lists (V5.mk_row mk4)).mono ?_; rintro e w5 ⟨ag, cg, rfl, o5, hc5, b5⟩; have k5 := PK.k_new t3 o3' b4 cp4 n12 n23 b4b b5 o5 (Nat.le_trans (Nat.le_succ _) (by simpa using hgx)) mk4.lt; have ex5 := mk4.below b5)
          | (go_at_call 11; refine (PK.eq_p _ _ _ _ _ hN k5.rowg k5.roww).mono ?_; rintro e w6 ⟨rfl, b6⟩; have k6 := k5.below b6; have ex6 := ex5.below b6; have j0 := k6.a.b.c0; have j1 := k6.a.b.c1; have j2 := k6.a.b.c2; have j3 := k6.a.b.c3; have j4 := k6.a.b.c4; have j5 := k6.a.b.c5; have j6 := k6.a.b.c6; have j7 := k6.a.b.c7; have i0 := k6.n.c0; have i1 := k6.n.c1; have i2 := k6.n.c2; have i3 := k6.n.c3; have i4 := k6.n.c4; have i5 := k6.n.c5; have i6 := k6.n.c6; have i7 := k6.n.c7)
          | (go_at_call 8; have t3' := t3; refine (N15.toLoan d0 s0 _ z1' z2' z3' t3.l).mono ?_; rintro e w4 ⟨f1, f2, f3, rfl, cp4, n12, n23, b4⟩; have u4 := N12.u_new (t3.below b4) cp4 t3.bel.size)
          | (go_at_call 8; refine (N15.toLoan d0 s0 _ z1' z2' z3' t1b.l).mono ?_; rintro e w2 ⟨m1, m2, m3, rfl, cp2, -, -, b2⟩; have t2 := t1b.below b2)
          | (go_at_call 9; have u4' := u4; refine (toE.out _ u4.t.bel).mono ?_; rintro e w4b ⟨gx, rfl, hgx, mk4, b4b⟩; have u4b := u4.below b4b; have ii0 := u4b.n.c0; have ii1 := u4b.n.c1; have ii2 := u4b.n.c2; have ii3 := u4b.n.c3; have ii4 := u4b.n.c4; have ii5 := u4b.n.c5; have ii6 := u4b.n.c6; have ii7 := u4b.n.c7)
          | (go_at_call 9; refine (toE.out _ t2.bel).mono ?_; rintro e w2b ⟨g2b, rfl, hg2b, mk2, b2b⟩; have t2b := t2.below b2b; have cp2' := cp2.below b2b))
        have k6d := k6.drew
        have ex6d := ex6.below ((Below.refl _ _).drew)
        go_region_with (first
          | (go_at_call 8; refine (N4.toLoan d0 s0 _ z1' z2' z3' k6d.a.l).mono ?_; rintro e w7 ⟨h1, h2, h3, rfl, cp7, b7⟩; have k7 := k6d.below b7; have ex7 := ex6d.below b7; have n0 := k7.n.c0; have n1 := k7.n.c1; have n2 := k7.n.c2; have n3 := k7.n.c3; have n4 := k7.n.c4; have n5 := k7.n.c5; have n6 := k7.n.c6; have n7 := k7.n.c7)
          | (go_at_call 12; refine (N3.eqLoan d0 _ _ _ hp' ho' hf' k7.lists cp7.lists).mono ?_; rintro e w8 ⟨rfl, b8⟩; have k8 := k7.below b8; have ex8 := ex7.below b8))
        all_goals
          go_wp2_with (first
            | (go_at_call 9; have k12' := k12; refine (toE.out _ k13.a.bel).mono ?_; rintro e w13b ⟨g13, rfl, hg13, mk13, b13b⟩; have k13b := k13.below b13b; have cp13b := cp13.below b13b)
            | (go_at_call 9; refine (toE.out _ k8.a.bel).mono ?_; rintro e w8b ⟨g8b, rfl, hg8b, mk8b, b8b⟩; have k8b := k8.below b8b; have ex8b := ex8.below b8b)
            | (go_at_call 13; refine (T5.eqEntryS _ _ _ _ z2 _ hb2 (V5.mk_row ex8b) (V5.mk_row mk8b)).mono ?_; rintro e w8c ⟨rfl, b8c⟩; have k8c := k8b.below b8c; have ex8c := ex8b.below b8c; have o0 := k8c.n.c0; have o1 := k8c.n.c1; have o2 := k8c.n.c2; have o3 := k8c.n.c3; have o4 := k8c.n.c4; have o5 := k8c.n.c5; have o6 := k8c.n.c6; have o7 := k8c.n.c7)
            | (go_at_call 14; refine (NP.markLoan2 R0 z1' z2' z3' k8c ex8c).mono ?_; rintro e w9 ⟨⟨q9, hq9, rfl⟩, k9, ex9⟩)
            | (go_at_call 15; refine (NP.mark_x R0 hq9 hb2 k9 ex9).mono ?_; rintro e w9b ⟨⟨q9b, rfl⟩, k9b⟩; have hq9d : decide ((q9b : Int) < 0) = false := (by simp))
            | (go_at_call 11; have k14' := k14; refine (PK.eq_p _ _ _ _ _ hN o14.row k14.roww).mono ?_; rintro e w15 ⟨rfl, b15⟩; have k15 := k14.below b15)
            | (go_at_call 11; refine (PK.eq_p _ _ _ _ _ hN k9b.rowg k9b.roww).mono ?_; rintro e w10 ⟨rfl, b10⟩; have k10 := k9b.below b10)
            | (go_at_call 16; refine (PK.mark_p R0 hN k10).mono ?_; rintro e w11 ⟨rfl, k11⟩)
            | (go_at_call 17; have k15' := k15; refine (PK.held_p hN k15).mono ?_; rintro e w16 ⟨rfl, k16⟩)
            | (go_at_call 17; refine (PK.held_p hN k11).mono ?_; rintro e w12 ⟨rfl, k12⟩; have p0 := k12.a.b.c0; have p1 := k12.a.b.c1; have p2 := k12.a.b.c2; have p3 := k12.a.b.c3; have p4 := k12.a.b.c4; have p5 := k12.a.b.c5; have p6 := k12.a.b.c6; have p7 := k12.a.b.c7)
            | (go_at_call 8; refine (N4.toLoan d0 s0 _ z1' z2' z3' k12.a.l).mono ?_; rintro e w13 ⟨r1, r2, r3, rfl, cp13, b13⟩; have k13 := k12.below b13)
            | (go_at_call 10; refine (iR.out _ _ _ _ _ cp13b.lists (V5.mk_row mk13)).mono ?_; rintro e w14 ⟨ah, ch, rfl, o14, hc14, b14⟩; have k14 := k13b.below b14))
          go_ret
          exact ⟨rfl, k16.a.bel⟩
      · have szL : Hid (∀ W, Calls Tryz.prog 5 #[N1.val d0 s0, .int .i64 1048576] W fun e w' => e = .returned (.int .i64 (1048576 - (N3.total d0 : Int))) ∧ Below W.heap.size W w') := fun W => NP.szFit2 d0 s0 W x0 hz
        obtain ⟨Q, hQ⟩ : ∃ Q : Int, 1048576 - (N3.total d0 : Int) = Q := ⟨_, rfl⟩
        rw [hQ] at szL
        have hQ0 : 0 ≤ Q := by omega
        have hQ1 : Q ≤ 1048576 := by omega
        have hd1 : decide (Q < 0) = false := by simp; omega
        have szE : Hid (∀ W, Below w.heap.size w W → Calls Tryz.prog 6 #[.slice a2 z2.length c2, .int .i64 Q] W fun e w' => e = .returned (.int .i64 (-1)) ∧ Below W.heap.size W w') := fun W hb => by
          have h := HSz.out Q W hQ0 hQ1 hb
          rwa [show NP.leftL Q z2 = -1 from if_neg (by omega)] at h
        clear HSz hQ hze0
        go_enter Tryz.func3, Tryz.ntmps3
        go_wp2_with (first
          | (go_at_call 5; refine (szL.out _).mono ?_; rintro e w1 ⟨rfl, b1⟩; have t1 := t0.below b1)
          | (go_at_call 6; refine (szE.out _ t1.bel).mono ?_; rintro e w1b ⟨rfl, b1b⟩; have t1b := t1.below b1b))
        go_ret
        exact ⟨rfl, t1b.bel⟩
    · clear R0 R2
      go_enter Tryz.func3, Tryz.ntmps3
      go_wp2_with (go_at_call 5; refine (N3.szBig d0 s0 _ x0 hz).mono ?_; rintro e w1 ⟨rfl, b1⟩; have t1 := t0.below b1)
      go_ret
      exact ⟨rfl, t1.bel⟩

set_option maxRecDepth 100000 in
theorem lifted (os : Os) (started : os.Started) (H : Type) (enc : TypeId × Value → H) :
    ReturnsInHanded {} Tryz.checked os 3 .any (Rows.fnExactPutNamesSpec.pre6 enc Tryz.prog Tryz.f3 Rows.fnExactPutNamesRow.domain false) (Rows.fnExactPutNamesSpec.post enc Tryz.prog Tryz.f3 false true false false) := by
  refine returnsInHanded_of_change (C := Tryz.checked) own started (by kernel_rfl) Tryz.func3
    (ChangeSpec.witness6 (enc := enc) (C := Tryz.checked) false ⟨#[], #[.agg #[.int .i64 0, .int .i64 0, .int .i64 0, .string ByteArray.empty, .slice none 0 0, .string ByteArray.empty, .slice none 0 0, .slice none 0 0], .string ByteArray.empty, .slice none 0 0], []⟩ 8 (by kernel_rfl) (by kernel_rfl) (by kernel_rfl) (by kernel_rfl)) ?_
  intro W base args ds gs before hval0 hW hcnd _
  have hval : ∀ (j : Nat) t v, Tryz.f3.params[j]? = some t → args[j]? = some v → Value.okWide Tryz.prog W .any base t v := hval0
  have hW' := hW
  obtain ⟨p, q, hA0, hV, rfl, hfz, hnd⟩ := hW
  have hA : DataW.TrodAll enc Tryz.prog W 0 (fun _ => true) true Tryz.f3.params.toList args.toList ds p := hA0
  rw [Tryz.params3] at hA hval
  obtain ⟨v0, vs0, d0, ds0, p0, q0, hargs, rfl, rfl, h0, r0⟩ := trodAll_cons hA
  obtain ⟨v1, vs1, d1, ds1, p1, q1, rfl, rfl, rfl, h1, r1⟩ := trodAll_cons r0
  obtain ⟨v2, vs2, d2, ds2, p2, q2, rfl, rfl, rfl, h2, r2⟩ := trodAll_cons r1
  obtain ⟨rfl, rfl, rfl⟩ := trodAll_nil r2
  obtain rfl : args = #[v0, v1, v2] := by cases args; simp_all
  obtain ⟨rfl, rfl⟩ := trodVars_none hV
  have kk0 := h0
  have lt0 : ∀ x ∈ p0, x.block < W.heap.size := by obtain ⟨m, hm⟩ := kk0; exact DataW.trod_lt m _ _ _ hm
  obtain ⟨d0, s0, rfl, x0, R0⟩ := N1.open_loan (hval 0 24 v0 rfl rfl) h0
  obtain ⟨a1, rfl, rfl, rfl, w1⟩ := open_string Tryz.underlying9 (hval 1 9 v1 rfl rfl) h1
  have kk2 := h2
  have lt2 : ∀ x ∈ p2, x.block < W.heap.size := by obtain ⟨m, hm⟩ := kk2; exact DataW.trod_lt m _ _ _ hm
  obtain ⟨a2, len2, cap2, rfl⟩ := okWide_slice Tryz.underlying25 (hval 2 25 v2 rfl rfl)
  obtain ⟨fuel2, hf2⟩ := h2
  obtain ⟨a2, c2, z2, hv2, x2, y2, F2, R2⟩ := T4.open_entries (by simpa [Value.cells] using hf2)
  rw [hv2] at hW' kk2 ⊢
  clear hA0 hval0
  refine (walk d0 s0 a1 a2 c2 z2 W x0 R0 w1 x2 y2 F2 R2).mono fun e W' ⟨he, hg⟩ => ?_
  subst he
  exact ⟨_, rfl, _, _, _, [], _, [], hW', (trodAll_cons_mk (shut_bool Tryz.underlying4 _) trodAll_mk0), (trodAll_cons_mk (Below.trod laidOut (by kernel_rfl) (of_decide_eq_true (by kernel_rfl)) kk0 hg lt0) (trodAll_cons_mk (shut_string Tryz.underlying9 w1) (trodAll_cons_mk (Below.trod laidOut (by kernel_rfl) (of_decide_eq_true (by kernel_rfl)) kk2 hg lt2) trodAll_mk0))), rfl, hg.frame _, fun h => by cases h⟩

theorem over : Rows.fnExactPutNamesRow.holds Tryz.pinned (OpenSpec.ofChange Rows.fnExactPutNamesSpec) :=
  OpenClaim.holds_of_wide 3 Tryz.f3 rfl rfl rfl rfl rfl rfl rfl ⟨rfl, rfl, rfl, rfl, rfl⟩ rfl rfl rfl rfl rfl (by kernel_rfl) Tryz.func3 (by kernel_rfl)
    (of_decide_eq_true (by kernel_rfl)) (by unfold Func.isWrapper; first | (rw [if_pos (by decide +kernel)]; kernel_rfl) | (rw [if_neg (by decide +kernel)]; exact ⟨rfl, rfl⟩))
    (fun os started H enc _ => lifted os started H enc)

theorem proved : Rows.FnExactPutNamesSaid :=
  over
end Go.Proofs.YtkdjcbmmbjongaaGreat.fnExactPutNames

namespace Go.Proofs.YtkdjcbmmbjongaaGreat
theorem fnExactPutNames_proved : Rows.FnExactPutNamesSaid := fnExactPutNames.proved
#print axioms fnExactPutNames_proved
end Go.Proofs.YtkdjcbmmbjongaaGreat
