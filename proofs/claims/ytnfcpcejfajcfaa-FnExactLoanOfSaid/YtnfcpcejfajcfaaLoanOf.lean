/- FnExactLoanOf returns true at every keeper, client and inode, and writes into no argument: impl.LoanOf answers as spec.LoanOf, field by field, its answer owning its memory. No conditions. -/
import Derived.Test.YtnfcpcejfajcfaaRows
import Derived.Test.YtnfcpcejfajcfaaJoE
import Derived.WalkKit
import Derived.ProofKit
import Derived.OpenShut
import Derived.ShutString
import Derived.ChangeOld
import Derived.Below
namespace Go.Proofs.Ytnfcpcejfajcfaa.fnExactLoanOf
open Go.ChangeShapes Go.WideShapes Go.ChangeAt Go.RowKit
open Go.ChangeMaps (open_string shut_string)
set_option linter.unusedVariables false
set_option linter.unusedSimpArgs false

theorem own : ownKnob Try.prog.godebug = none := by kernel_rfl

theorem laidOut : laidOutB Try.prog = true := by kernel_rfl

set_option maxHeartbeats 4000000 in
set_option maxRecDepth 10000 in
theorem walk (k0 : Z0.Kp) (a0 : Option Addr) (c0 : Nat) (s0 : Nat → N1.Sl) (a1 : Int) (a2 : Int) (w : World) (x0 : Z0.FitK k0 s0) (R0 : Z0.Lns w a0 k0.ds s0) (w1 : (Lit.int .i64 a1).wf = true) (w2 : (Lit.int .i64 a2).wf = true) :
    Calls Try.prog 3 #[Z0.kval k0 a0 c0, .int .i64 a1, .int .i64 a2] w fun e w' => e = .returned (.bool true) ∧ Below w.heap.size w w' := by
  have t0 := Z3.a_new w k0 a0 c0 s0 R0
  by_cases hz : Z1.small k0
  · have hz' := hz
    unfold Z1.small at hz'
    have hs : k0.ds.length + Z1.tot k0.ds k0.ds.length ≤ 1048576 := by omega
    have hn : k0.ds.length ≤ 1048576 := by omega
    have hsm := LL1.small_of hs
    obtain ⟨d1, d2, d3⟩ := LL1.got_small (c := a1) (i := a2) hsm
    have HI : Hid (∀ a c ss W, Z0.Lns W a k0.ds ss → Calls Try.prog 7 #[Z0.kval k0 a c, .int .i64 a1, .int .i64 a2] W (LJ.Ans (LJ.got a1 a2 k0.ds) (LJ.has a1 a2 k0.ds) W)) := fun a c ss W h => LK.impl_LoanOf k0 a c ss a1 a2 W hn hsm h
    have HS : Hid (∀ a c ss W, Z0.Lns W a k0.ds ss → Calls Try.prog 5 #[Z0.kval k0 a c, .int .i64 a1, .int .i64 a2] W (LJ.Ans (LJ.got a1 a2 k0.ds) (LJ.has a1 a2 k0.ds) W)) := fun a c ss W h => LJ.spec_LoanOf k0 a c ss a1 a2 W hn hsm h
    have HZ : Hid (∀ j, j < k0.ds.length → (Z0.dat k0.ds j).pg.length ≤ 1048576 ∧ (Z0.dat k0.ds j).po.length ≤ 1048576 ∧ (Z0.dat k0.ds j).fr.length ≤ 1048576) := fun j hj => ⟨(hsm j hj).1, (hsm j hj).2.1, (hsm j hj).2.2.1⟩
    obtain ⟨D, hD⟩ : ∃ D, LJ.got a1 a2 k0.ds = D := ⟨_, rfl⟩
    obtain ⟨ok, hok⟩ : ∃ ok, LJ.has a1 a2 k0.ds = ok := ⟨_, rfl⟩
    rw [hD, hok] at HI HS
    rw [hD] at d1 d2 d3
    have d1' : D.pg.length ≤ 281474976710656 := by omega
    have d2' : D.po.length ≤ 281474976710656 := by omega
    have d3' : D.fr.length ≤ 281474976710656 := by omega
    have hbb : (ok != ok) = false := by simp
    have HR : Hid (Z0.Lns w a0 k0.ds s0) := R0
    clear R0 hz' hD hok hsm
    go_enter Try.func3, Try.ntmps3
    go_wp2_with (first
      | (go_at_call 4; refine (Z1.szFit k0 a0 c0 s0 _ x0 hz t0.l.row).mono ?_; rintro e w1 ⟨⟨q, hq, rfl⟩, b1⟩; have hq' : decide (q < 0) = false := (by simpa using hq); have t1 := t0.below b1; have f0 := t1.b.c0; have f1 := t1.b.c1; have f2 := t1.b.c2; have f3 := t1.b.c3)
      | (go_at_call 5; refine (HS.out _ _ _ _ cp2.rows).mono ?_; rintro e w3 ⟨sw, n1, n2, hi1, rfl, wl3, wh3, b3⟩; have t3 := (t2.below b3).below (K0.below_new w3 (LH.lob D sw)); have wb3 := N1.lb_new D sw w3 30; have wl3a := wl3.below (K0.below_new w3 (LH.lob D sw)); have e0 := t3.b.c0; have e1 := t3.b.c1; have e2 := t3.b.c2; have e3 := t3.b.c3; have hw3 := t2.b.lt)
      | (go_at_call 7; refine (HI.out _ _ _ _ u4.cp.rows).mono ?_; rintro e w5 ⟨sg, p1, p2, hi3, rfl, gl5, gh5, b5⟩; have nk := K0.below_new w4 (LJ.kob k0 (some ⟨g4, 0, none⟩) k0.ds.length); have ng := K0.below_new w5 (LH.lob D sg); obtain ⟨L4, sh4⟩ := LG.sh_of cp4; have hx4 := sh4.lt; have sh5 := ((sh4.below nk).below b5).below ng; have u5 := (u4.below b5).below ng; have hb3 := b3.size; have hb5 : w4.heap.size + 1 ≤ w5.heap.size := (by have := b5.size; simpa using this); have hg4' : w3.heap.size + 1 ≤ g4 := (by simpa using hg4); have K5 : LL1.K w k0 a0 c0 s0 D sw w3.heap.size _ n1 n2 hi1 g4 w4.heap.size sg w5.heap.size _ p1 p2 hi3 D.pg D.po D.fr (w5.alloc (LH.lob D sg)) := ⟨u5.t, ((((wb3.below b4).below nk).below b5).below ng), ((((wl3a.below b4).below nk).below b5).below ng), N1.lb_new D sg w5 30, gl5.below ng, ⟨by omega, by omega, by omega, hx4⟩, ⟨by omega, nk.size, gh5⟩⟩; have y0 := K5.wb.c0; have y1 := K5.wb.c1; have y2 := K5.wb.c2; have y3 := K5.wb.c3; have y4 := K5.wb.c4; have y5 := K5.wb.c5; have y6 := K5.wb.c6; have y7 := K5.wb.c7)
      | (go_at_call 8; refine (N3.eqLoan D sg sw _ d1' d2' d3' K5.gl.lists K5.wl.lists).mono ?_; rintro e w6 ⟨rfl, b6⟩; have K6 := K5.below b6; have u6 := u5.below b6; have sh6 := sh5.below b6)
      | (go_at_call 6; have t3' := t3; refine (Z3.toKeeper k0 a0 c0 s0 _ hs t3.l).mono ?_; rintro e w4 ⟨g4, P4, rfl, hg4, cp4, b4⟩; have u4 := Z3.u_new (t3.below b4) cp4)
      | (go_at_call 6; refine (Z3.toKeeper k0 a0 c0 s0 _ hs t1.l).mono ?_; rintro e w2 ⟨g2, P2, rfl, hg2, cp2, b2⟩; have t2 := t1.below b2))
    have K7 := K6.drew
    have u7 := u6.drew
    have sh7 := sh6.below ((Below.refl _ _).drew)
    have s7 : w6.drew.cell? ⟨w.heap.size, 0, none⟩ = some (.string k0.mem) ∧ w6.drew.cell? ⟨w.heap.size, 1, none⟩ = some (.string k0.dur) ∧ w6.drew.cell? ⟨w.heap.size, 2, none⟩ = some (.slice a0 k0.ds.length c0) ∧ w6.drew.cell? ⟨w.heap.size, 3, none⟩ = some (.int .i64 k0.ck) ∧ w6.drew.cell? ⟨w4.heap.size, 0, none⟩ = some (.string k0.mem) ∧ w6.drew.cell? ⟨w4.heap.size, 1, none⟩ = some (.string k0.dur) ∧ w6.drew.cell? ⟨w4.heap.size, 2, none⟩ = some (.slice (some ⟨g4, 0, none⟩) k0.ds.length k0.ds.length) ∧ w6.drew.cell? ⟨w4.heap.size, 3, none⟩ = some (.int .i64 k0.ck) := ⟨K7.t.b.c0, K7.t.b.c1, K7.t.b.c2, K7.t.b.c3, u7.n.c0, u7.n.c1, u7.n.c2, u7.n.c3⟩
    clear K5 u5 sh5 K6 u6 sh6 y0 y1 y2 y3 y4 y5 y6 y7
    go_region_held3 (fun W => W.cell? ⟨w.heap.size, 0, none⟩ = some (.string k0.mem) ∧ W.cell? ⟨w.heap.size, 1, none⟩ = some (.string k0.dur) ∧ W.cell? ⟨w.heap.size, 2, none⟩ = some (.slice a0 k0.ds.length c0) ∧ W.cell? ⟨w.heap.size, 3, none⟩ = some (.int .i64 k0.ck) ∧ W.cell? ⟨w4.heap.size, 0, none⟩ = some (.string k0.mem) ∧ W.cell? ⟨w4.heap.size, 1, none⟩ = some (.string k0.dur) ∧ W.cell? ⟨w4.heap.size, 2, none⟩ = some (.slice (some ⟨g4, 0, none⟩) k0.ds.length k0.ds.length) ∧ W.cell? ⟨w4.heap.size, 3, none⟩ = some (.int .i64 k0.ck)) (assumption) ((first
      | (go_at_call 6; refine (Z3.toKeeper k0 a0 c0 s0 _ hs K7.t.l).mono ?_; rintro e w8 ⟨g8, P8, rfl, hg8, cp8, b8⟩; have K8 := K7.below b8; have u8 := u7.below b8; have sh8 := sh7.below b8; have s8 : w8.cell? ⟨w.heap.size, 0, none⟩ = some (.string k0.mem) ∧ w8.cell? ⟨w.heap.size, 1, none⟩ = some (.string k0.dur) ∧ w8.cell? ⟨w.heap.size, 2, none⟩ = some (.slice a0 k0.ds.length c0) ∧ w8.cell? ⟨w.heap.size, 3, none⟩ = some (.int .i64 k0.ck) ∧ w8.cell? ⟨w4.heap.size, 0, none⟩ = some (.string k0.mem) ∧ w8.cell? ⟨w4.heap.size, 1, none⟩ = some (.string k0.dur) ∧ w8.cell? ⟨w4.heap.size, 2, none⟩ = some (.slice (some ⟨g4, 0, none⟩) k0.ds.length k0.ds.length) ∧ w8.cell? ⟨w4.heap.size, 3, none⟩ = some (.int .i64 k0.ck) := ⟨K8.t.b.c0, K8.t.b.c1, K8.t.b.c2, K8.t.b.c3, u8.n.c0, u8.n.c1, u8.n.c2, u8.n.c3⟩)
      | (go_at_call 9; refine (Z3.eqKeeper k0 _ _ _ _ _ _ _ hs u8.cp.rows cp8.rows).mono ?_; rintro e w9 ⟨rfl, b9⟩; have K9 := K8.below b9; have u9 := u8.below b9; have sh9 := sh8.below b9; have s9 : w9.cell? ⟨w.heap.size, 0, none⟩ = some (.string k0.mem) ∧ w9.cell? ⟨w.heap.size, 1, none⟩ = some (.string k0.dur) ∧ w9.cell? ⟨w.heap.size, 2, none⟩ = some (.slice a0 k0.ds.length c0) ∧ w9.cell? ⟨w.heap.size, 3, none⟩ = some (.int .i64 k0.ck) ∧ w9.cell? ⟨w4.heap.size, 0, none⟩ = some (.string k0.mem) ∧ w9.cell? ⟨w4.heap.size, 1, none⟩ = some (.string k0.dur) ∧ w9.cell? ⟨w4.heap.size, 2, none⟩ = some (.slice (some ⟨g4, 0, none⟩) k0.ds.length k0.ds.length) ∧ w9.cell? ⟨w4.heap.size, 3, none⟩ = some (.int .i64 k0.ck) := ⟨K9.t.b.c0, K9.t.b.c1, K9.t.b.c2, K9.t.b.c3, u9.n.c0, u9.n.c1, u9.n.c2, u9.n.c3⟩)))
    have h0 := u9.n.c0
    have h1 := u9.n.c1
    have h2 := u9.n.c2
    have h3 := u9.n.c3
    clear s7 s8 s9 K7 K8 u7 u8 sh7 sh8
    go_wp2_with (first
      | (go_at_call 10; refine (LH.markKeeper g4 w4.heap.size k0 P4 L4 _ hn HZ.out sh9).mono ?_; rintro e w10 ⟨⟨r10, rfl⟩, x10⟩; have K10 := K9.markX HR.out x10; have hr10 : decide ((r10 : Int) < 0) = false := (by simp); have g0 := K10.gb.c0; have g1 := K10.gb.c1; have g2 := K10.gb.c2; have g3 := K10.gb.c3; have g4 := K10.gb.c4; have g5 := K10.gb.c5; have g6 := K10.gb.c6; have g7 := K10.gb.c7; have y0 := K10.wb.c0; have y1 := K10.wb.c1; have y2 := K10.wb.c2; have y3 := K10.wb.c3; have y4 := K10.wb.c4; have y5 := K10.wb.c5; have y6 := K10.wb.c6; have y7 := K10.wb.c7)
      | (go_at_call 11; refine (LH.markLoan d1 d2 d3 K11.gl (by have := K11.o2; have := K11.gb.b.lt; omega)).mono ?_; rintro e w12 ⟨rfl, gl12, x12⟩; have K12 := K11.markG HR.out gl12 x12; have g0 := K12.gb.c0; have g1 := K12.gb.c1; have g2 := K12.gb.c2; have g3 := K12.gb.c3; have g4 := K12.gb.c4; have g5 := K12.gb.c5; have g6 := K12.gb.c6; have g7 := K12.gb.c7)
      | (go_at_call 12; have b16' := b16; refine (LH.heldLoan d1 d2 d3 K16.gl).mono ?_; rintro e w17 ⟨rfl, b17⟩; have K17 := K16.below b17)
      | (go_at_call 12; refine (LH.heldLoan d1 d2 d3 K12.gl).mono ?_; rintro e w13 ⟨rfl, b13⟩; have K13 := K12.below b13; have f0 := K13.t.b.c0; have f1 := K13.t.b.c1; have f2 := K13.t.b.c2; have f3 := K13.t.b.c3)
      | (go_at_call 6; refine (Z3.toKeeper k0 a0 c0 s0 _ hs K13.t.l).mono ?_; rintro e w14 ⟨g14, P14, rfl, hg14, cp14, b14⟩; have K14 := K13.below b14)
      | (go_at_call 7; refine (HI.out _ _ _ _ cp14.rows).mono ?_; rintro e w15 ⟨sh, q1, q2, hi15, rfl, gl15, gh15, b15⟩; have n15 := K0.below_new w15 (LH.lob D sh); have K15 := (K14.below b15).below n15; have hl15 := gl15.below n15; have y0 := K15.wb.c0; have y1 := K15.wb.c1; have y2 := K15.wb.c2; have y3 := K15.wb.c3; have y4 := K15.wb.c4; have y5 := K15.wb.c5; have y6 := K15.wb.c6; have y7 := K15.wb.c7)
      | (go_at_call 8; have b15' := b15; refine (N3.eqLoan D sh sw _ d1' d2' d3' hl15.lists K15.wl.lists).mono ?_; rintro e w16 ⟨rfl, b16⟩; have K16 := K15.below b16; have g0 := K16.gb.c0; have g1 := K16.gb.c1; have g2 := K16.gb.c2; have g3 := K16.gb.c3; have g4 := K16.gb.c4; have g5 := K16.gb.c5; have g6 := K16.gb.c6; have g7 := K16.gb.c7)
      | (go_at_call 8; refine (N3.eqLoan D sg sw _ d1' d2' d3' K10.gl.lists K10.wl.lists).mono ?_; rintro e w11 ⟨rfl, b11⟩; have K11 := K10.below b11; have g0 := K11.gb.c0; have g1 := K11.gb.c1; have g2 := K11.gb.c2; have g3 := K11.gb.c3; have g4 := K11.gb.c4; have g5 := K11.gb.c5; have g6 := K11.gb.c6; have g7 := K11.gb.c7))
    go_ret
    exact ⟨rfl, K17.t.bel⟩
  · clear R0
    go_enter Try.func3, Try.ntmps3
    go_wp2_with (go_at_call 4; refine (Z1.szBig k0 a0 c0 s0 _ x0 hz t0.l.row).mono ?_; rintro e w1 ⟨rfl, b1⟩; have t1 := t0.below b1)
    go_ret
    exact ⟨rfl, t1.bel⟩

set_option maxRecDepth 100000 in
theorem lifted (os : Os) (started : os.Started) (H : Type) (enc : TypeId × Value → H) :
    ReturnsInHanded {} Try.checked os 3 .any (Rows.fnExactLoanOfSpec.pre6 enc Try.prog Try.f3 Rows.fnExactLoanOfRow.domain false) (Rows.fnExactLoanOfSpec.post enc Try.prog Try.f3 false true false false) := by
  refine returnsInHanded_of_change (C := Try.checked) own started (by kernel_rfl) Try.func3
    (ChangeSpec.witness6 (enc := enc) (C := Try.checked) false ⟨#[], #[.agg #[.string ByteArray.empty, .string ByteArray.empty, .slice none 0 0, .int .i64 0], .int .i64 0, .int .i64 0], []⟩ 8 (by kernel_rfl) (by kernel_rfl) (by kernel_rfl) (by kernel_rfl)) ?_
  intro W base args ds gs before hval0 hW hcnd _
  have hval : ∀ (j : Nat) t v, Try.f3.params[j]? = some t → args[j]? = some v → Value.okWide Try.prog W .any base t v := hval0
  have hW' := hW
  obtain ⟨p, q, hA0, hV, rfl, hfz, hnd⟩ := hW
  have hA : DataW.TrodAll enc Try.prog W 0 (fun _ => true) true Try.f3.params.toList args.toList ds p := hA0
  rw [Try.params3] at hA hval
  obtain ⟨v0, vs0, d0, ds0, p0, q0, hargs, rfl, rfl, h0, r0⟩ := trodAll_cons hA
  obtain ⟨v1, vs1, d1, ds1, p1, q1, rfl, rfl, rfl, h1, r1⟩ := trodAll_cons r0
  obtain ⟨v2, vs2, d2, ds2, p2, q2, rfl, rfl, rfl, h2, r2⟩ := trodAll_cons r1
  obtain ⟨rfl, rfl, rfl⟩ := trodAll_nil r2
  obtain rfl : args = #[v0, v1, v2] := by cases args; simp_all
  obtain ⟨rfl, rfl⟩ := trodVars_none hV
  have kk0 := h0
  have lt0 : ∀ x ∈ p0, x.block < W.heap.size := by obtain ⟨m, hm⟩ := kk0; exact DataW.trod_lt m _ _ _ hm
  obtain ⟨k0, a0, c0, s0, rfl, x0, R0⟩ := Z0.open_keeper (hval 0 26 v0 rfl rfl) h0
  obtain ⟨a1, rfl, rfl, rfl, w1⟩ := open_int Try.underlying3 (hval 1 3 v1 rfl rfl) h1
  obtain ⟨a2, rfl, rfl, rfl, w2⟩ := open_int Try.underlying3 (hval 2 3 v2 rfl rfl) h2
  clear hA0 hval0
  refine (walk k0 a0 c0 s0 a1 a2 W x0 R0 w1 w2).mono fun e W' ⟨he, hg⟩ => ?_
  subst he
  exact ⟨_, rfl, _, _, _, [], _, [], hW', (trodAll_cons_mk (shut_bool Try.underlying4 _) trodAll_mk0), (trodAll_cons_mk (Below.trod laidOut (by kernel_rfl) (of_decide_eq_true (by kernel_rfl)) kk0 hg lt0) (trodAll_cons_mk (shut_int Try.underlying3 w1) (trodAll_cons_mk (shut_int Try.underlying3 w2) trodAll_mk0))), rfl, hg.frame _, fun h => by cases h⟩

theorem over : Rows.fnExactLoanOfRow.holds Try.pinned (OpenSpec.ofChange Rows.fnExactLoanOfSpec) :=
  OpenClaim.holds_of_wide 3 Try.f3 rfl rfl rfl rfl rfl rfl rfl ⟨rfl, rfl, rfl, rfl, rfl⟩ rfl rfl rfl rfl rfl (by kernel_rfl) Try.func3 (by kernel_rfl)
    (of_decide_eq_true (by kernel_rfl)) (by unfold Func.isWrapper; first | (rw [if_pos (by decide +kernel)]; kernel_rfl) | (rw [if_neg (by decide +kernel)]; exact ⟨rfl, rfl⟩))
    (fun os started H enc _ => lifted os started H enc)

theorem proved : Rows.FnExactLoanOfSaid :=
  over
end Go.Proofs.Ytnfcpcejfajcfaa.fnExactLoanOf

namespace Go.Proofs.Ytnfcpcejfajcfaa
theorem fnExactLoanOf_proved : Rows.FnExactLoanOfSaid := fnExactLoanOf.proved
#print axioms fnExactLoanOf_proved
end Go.Proofs.Ytnfcpcejfajcfaa
