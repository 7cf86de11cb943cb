/- Proved: 'laws.FnExactEventText' answers true at every event, and leaves its argument as it was, where the package's tables hold what its text lays. -/
import Derived.Test.YtnfcpcejfajcfaaDoorCards
import Derived.Test.YtnfcpcejfajcfaaDoorTie
import Derived.Test.YtnfcpcejfajcfaaDoorJeE
import Derived.WalkKit
import Derived.ProofKit
import Derived.OpenShut
import Derived.ShutString
import Derived.OpenVars
import Derived.ChangeOld
import Derived.Below
import Derived.Deep.DeepHandedRow
import Derived.Lib.LaidTab
namespace Go.Proofs.YtnfcpcejfajcfaaDoor.fnExactEventText
open Go.ChangeShapes Go.WideShapes Go.ChangeAt Go.RowKit
open Go.ChangeMaps (open_string shut_string)
set_option linter.unusedVariables false

theorem own : ownKnob Tryd.prog.godebug = none := by kernel_rfl
theorem laidOut : laidOutB Tryd.prog = true := by kernel_rfl

/-- What the row lists of this table, as the cells that a walk reads. -/
theorem tab_internal_strconv_uint64pow10 {W : World} (h : laidMetH Tryd.prog Rows.fnExactEventTextRow.laid W) : Lib.TabIs Tryd.prog W "internal/strconv.uint64pow10" .u64 [1, 10, 100, 1000, 10000, 100000, 1000000, 10000000, 100000000, 1000000000, 10000000000, 100000000000, 1000000000000, 10000000000000, 100000000000000, 1000000000000000, 10000000000000000, 100000000000000000, 1000000000000000000, 10000000000000000000] := by
  obtain ⟨ps, hl, _⟩ := (show laidMet Tryd.prog Rows.fnExactEventTextRow.laid W from h)
  exact L0.tab_mem (n := 20) (g := 3) (t := 66) (by kernel_rfl) (by kernel_rfl) Tryd.underlying66 Tryd.underlying59 (by kernel_rfl) (by kernel_rfl) Rows.fnExactEventTextRow.laid ps hl 2 (by rfl)

/-- What the row lists of this table, as the cells that a walk reads. -/
theorem tab_loop_example_g00278_impl_hexDigits {W : World} (h : laidMetH Tryd.prog Rows.fnExactEventTextRow.laid W) : Lib.TabIs Tryd.prog W "loop.example/g00278/impl.hexDigits" .u8 [48, 49, 50, 51, 52, 53, 54, 55, 56, 57, 97, 98, 99, 100, 101, 102] := by
  obtain ⟨ps, hl, _⟩ := (show laidMet Tryd.prog Rows.fnExactEventTextRow.laid W from h)
  exact L0.tab_mem (n := 16) (g := 1) (t := 55) (by kernel_rfl) (by kernel_rfl) Tryd.underlying55 Tryd.underlying5 (by kernel_rfl) (by kernel_rfl) Rows.fnExactEventTextRow.laid ps hl 3 (by rfl)

/-- What the row lists of this table of texts. -/
theorem tab_loop_example_g00278_impl_eventWords {W : World} (h : laidMetH Tryd.prog Rows.fnExactEventTextRow.laid W) : EV.StrTab Tryd.prog W "loop.example/g00278/impl.eventWords" EV.words := by
  obtain ⟨ps, hl, _⟩ := (show laidMet Tryd.prog Rows.fnExactEventTextRow.laid W from h)
  exact EV.strtab_mem (zs := [[108, 101, 110, 100], [116, 111, 117, 99, 104], [108, 97, 115, 116], [98, 97, 99, 107], [116, 105, 99, 107], [112, 111, 119, 101, 114], [102, 105, 108, 101], [109, 97, 107, 101], [114, 101, 109, 111, 118, 101], [102, 105, 108, 108]]) (n := 10) (g := 0) (t := 37) (by kernel_rfl) (by kernel_rfl) Tryd.underlying37 Tryd.underlying9 (by kernel_rfl) (by kernel_rfl) Rows.fnExactEventTextRow.laid ps hl 4 (by rfl)

set_option maxHeartbeats 4000000 in
set_option maxRecDepth 10000 in
theorem walk (w : World) (d0 : EV.Ev) (a0 : Option Addr) (c0 : Nat) (x0 : EV.Fit d0) (R0 : P0.Row w a0 d0.kp) (h_internal_strconv_uint64pow10 : Lib.TabIs Tryd.prog w "internal/strconv.uint64pow10" .u64 [1, 10, 100, 1000, 10000, 100000, 1000000, 10000000, 100000000, 1000000000, 10000000000, 100000000000, 1000000000000, 10000000000000, 100000000000000, 1000000000000000, 10000000000000000, 100000000000000000, 1000000000000000000, 10000000000000000000]) (h_loop_example_g00278_impl_hexDigits : Lib.TabIs Tryd.prog w "loop.example/g00278/impl.hexDigits" .u8 [48, 49, 50, 51, 52, 53, 54, 55, 56, 57, 97, 98, 99, 100, 101, 102]) (h_loop_example_g00278_impl_eventWords : EV.StrTab Tryd.prog w "loop.example/g00278/impl.eventWords" EV.words) :
    Calls Tryd.prog 3 #[EV.val d0 a0 c0] w fun e w' => e = .returned (.bool true) ∧ Below w.heap.size w w' := by
  have hT : EX.Tabs w := ⟨h_internal_strconv_uint64pow10, h_loop_example_g00278_impl_hexDigits, h_loop_example_g00278_impl_eventWords⟩
  have n0 := K0.below_new w (EW.eo d0 a0 c0 24)
  have t0 : ES.A w d0 a0 c0 (w.alloc (EW.eo d0 a0 c0 24)) := ES.a_new w d0 a0 c0 R0 hT
  by_cases hz : EW.small d0
  · have hz' := hz
    unfold EW.small at hz'
    have ht : d0.tx.size ≤ 1048576 := by omega
    have hl : d0.kp.length ≤ 1048576 := by omega
    have HI : Hid (∀ a c W, P0.Row W a d0.kp → EX.Tabs W → Calls Tryd.prog 7 #[EV.val d0 a c] W fun e w' => e = .returned (.string (EV.text d0)) ∧ Below W.heap.size W w') := fun a c W h hT => ET.impl_EventText x0 ht hl h hT
    have HS : Hid (∀ a c W, P0.Row W a d0.kp → Calls Tryd.prog 5 #[EV.val d0 a c] W fun e w' => e = .returned (.string (EV.text d0)) ∧ Below W.heap.size W w') := fun a c W h => ET.spec_EventText x0 ht hl h
    obtain ⟨X, hX⟩ : ∃ X, EV.text d0 = X := ⟨_, rfl⟩
    rw [hX] at HI HS
    have hu : (X.toList != X.toList) = false := by simp
    clear R0 hT hz' hX n0
    go_enter Tryd.func3, Tryd.ntmps3
    go_wp2_with (first
      | (go_at_call 4; refine (EW.szFit d0 a0 c0 _ x0 hz).mono ?_; rintro e w1 ⟨⟨q, hq, rfl⟩, b1⟩; have hq' : decide (q < 0) = false := (by simpa using hq); have t1 := t0.below b1; have f0 := t1.b.c0; have f1 := t1.b.c1; have f2 := t1.b.c2; have f3 := t1.b.c3; have f4 := t1.b.c4; have f5 := t1.b.c5)
      | (go_at_call 5; refine (HS.out _ _ _ r2).mono ?_; rintro e w3 ⟨rfl, b3⟩; have t3 := t2.below b3; have f0 := t3.b.c0; have f1 := t3.b.c1; have f2 := t3.b.c2; have f3 := t3.b.c3; have f4 := t3.b.c4; have f5 := t3.b.c5)
      | (go_at_call 6; have t3' := t3; refine (EW.toEvent d0 a0 c0 _ hl t3.r).mono ?_; rintro e w4 ⟨g4, rfl, r4, b4⟩; have n4 := K0.below_new w4 (EW.eo d0 (some ⟨g4, 0, none⟩) d0.kp.length 27); have t4 := (t3.below b4).below n4; have x4 := EW.eb_new d0 (some ⟨g4, 0, none⟩) d0.kp.length w4 27; have r4a := r4.below n4)
      | (go_at_call 6; refine (EW.toEvent d0 a0 c0 _ hl t1.r).mono ?_; rintro e w2 ⟨g2, rfl, r2, b2⟩; have t2 := t1.below b2)
      | (go_at_call 7; refine (HI.out _ _ _ r4a t4.t).mono ?_; rintro e w5 ⟨rfl, b5⟩; have t5 := t4.below b5; have x5 := x4.below b5; have r5 := r4a.below b5))
    have t6 := t5.below ((Below.refl _ _).drew)
    have x6 := x5.below ((Below.refl _ _).drew)
    have r6 := r5.below ((Below.refl _ _).drew)
    have s6 : w5.drew.cell? ⟨w.heap.size, 0, none⟩ = some (.int .i64 d0.kd) ∧ w5.drew.cell? ⟨w.heap.size, 1, none⟩ = some (.int .i64 d0.cl) ∧ w5.drew.cell? ⟨w.heap.size, 2, none⟩ = some (.int .i64 d0.ino) ∧ w5.drew.cell? ⟨w.heap.size, 3, none⟩ = some (.int .i64 d0.at_) ∧ w5.drew.cell? ⟨w.heap.size, 4, none⟩ = some (.string d0.tx) ∧ w5.drew.cell? ⟨w.heap.size, 5, none⟩ = some (.slice a0 d0.kp.length c0) ∧ w5.drew.cell? ⟨w4.heap.size, 0, none⟩ = some (.int .i64 d0.kd) ∧ w5.drew.cell? ⟨w4.heap.size, 1, none⟩ = some (.int .i64 d0.cl) ∧ w5.drew.cell? ⟨w4.heap.size, 2, none⟩ = some (.int .i64 d0.ino) ∧ w5.drew.cell? ⟨w4.heap.size, 3, none⟩ = some (.int .i64 d0.at_) ∧ w5.drew.cell? ⟨w4.heap.size, 4, none⟩ = some (.string d0.tx) ∧ w5.drew.cell? ⟨w4.heap.size, 5, none⟩ = some (.slice (some ⟨g4, 0, none⟩) d0.kp.length d0.kp.length) := ⟨t6.b.c0, t6.b.c1, t6.b.c2, t6.b.c3, t6.b.c4, t6.b.c5, x6.c0, x6.c1, x6.c2, x6.c3, x6.c4, x6.c5⟩
    go_region_held3 (fun W => W.cell? ⟨w.heap.size, 0, none⟩ = some (.int .i64 d0.kd) ∧ W.cell? ⟨w.heap.size, 1, none⟩ = some (.int .i64 d0.cl) ∧ W.cell? ⟨w.heap.size, 2, none⟩ = some (.int .i64 d0.ino) ∧ W.cell? ⟨w.heap.size, 3, none⟩ = some (.int .i64 d0.at_) ∧ W.cell? ⟨w.heap.size, 4, none⟩ = some (.string d0.tx) ∧ W.cell? ⟨w.heap.size, 5, none⟩ = some (.slice a0 d0.kp.length c0) ∧ W.cell? ⟨w4.heap.size, 0, none⟩ = some (.int .i64 d0.kd) ∧ W.cell? ⟨w4.heap.size, 1, none⟩ = some (.int .i64 d0.cl) ∧ W.cell? ⟨w4.heap.size, 2, none⟩ = some (.int .i64 d0.ino) ∧ W.cell? ⟨w4.heap.size, 3, none⟩ = some (.int .i64 d0.at_) ∧ W.cell? ⟨w4.heap.size, 4, none⟩ = some (.string d0.tx) ∧ W.cell? ⟨w4.heap.size, 5, none⟩ = some (.slice (some ⟨g4, 0, none⟩) d0.kp.length d0.kp.length)) (assumption) ((first
      | (go_at_call 6; refine (EW.toEvent d0 a0 c0 _ hl t6.r).mono ?_; rintro e w7 ⟨g7, rfl, r7, b7⟩; have t7 := t6.below b7; have x7 := x6.below b7; have q7 := r6.below b7; have s7 : w7.cell? ⟨w.heap.size, 0, none⟩ = some (.int .i64 d0.kd) ∧ w7.cell? ⟨w.heap.size, 1, none⟩ = some (.int .i64 d0.cl) ∧ w7.cell? ⟨w.heap.size, 2, none⟩ = some (.int .i64 d0.ino) ∧ w7.cell? ⟨w.heap.size, 3, none⟩ = some (.int .i64 d0.at_) ∧ w7.cell? ⟨w.heap.size, 4, none⟩ = some (.string d0.tx) ∧ w7.cell? ⟨w.heap.size, 5, none⟩ = some (.slice a0 d0.kp.length c0) ∧ w7.cell? ⟨w4.heap.size, 0, none⟩ = some (.int .i64 d0.kd) ∧ w7.cell? ⟨w4.heap.size, 1, none⟩ = some (.int .i64 d0.cl) ∧ w7.cell? ⟨w4.heap.size, 2, none⟩ = some (.int .i64 d0.ino) ∧ w7.cell? ⟨w4.heap.size, 3, none⟩ = some (.int .i64 d0.at_) ∧ w7.cell? ⟨w4.heap.size, 4, none⟩ = some (.string d0.tx) ∧ w7.cell? ⟨w4.heap.size, 5, none⟩ = some (.slice (some ⟨g4, 0, none⟩) d0.kp.length d0.kp.length) := ⟨t7.b.c0, t7.b.c1, t7.b.c2, t7.b.c3, t7.b.c4, t7.b.c5, x7.c0, x7.c1, x7.c2, x7.c3, x7.c4, x7.c5⟩)
      | (go_at_call 8; refine (EW.eqEvent d0 _ _ _ _ _ (by omega) q7 r7).mono ?_; rintro e w8 ⟨rfl, b8⟩; have t8 := t7.below b8; have x8 := x7.below b8; have s8 : w8.cell? ⟨w.heap.size, 0, none⟩ = some (.int .i64 d0.kd) ∧ w8.cell? ⟨w.heap.size, 1, none⟩ = some (.int .i64 d0.cl) ∧ w8.cell? ⟨w.heap.size, 2, none⟩ = some (.int .i64 d0.ino) ∧ w8.cell? ⟨w.heap.size, 3, none⟩ = some (.int .i64 d0.at_) ∧ w8.cell? ⟨w.heap.size, 4, none⟩ = some (.string d0.tx) ∧ w8.cell? ⟨w.heap.size, 5, none⟩ = some (.slice a0 d0.kp.length c0) ∧ w8.cell? ⟨w4.heap.size, 0, none⟩ = some (.int .i64 d0.kd) ∧ w8.cell? ⟨w4.heap.size, 1, none⟩ = some (.int .i64 d0.cl) ∧ w8.cell? ⟨w4.heap.size, 2, none⟩ = some (.int .i64 d0.ino) ∧ w8.cell? ⟨w4.heap.size, 3, none⟩ = some (.int .i64 d0.at_) ∧ w8.cell? ⟨w4.heap.size, 4, none⟩ = some (.string d0.tx) ∧ w8.cell? ⟨w4.heap.size, 5, none⟩ = some (.slice (some ⟨g4, 0, none⟩) d0.kp.length d0.kp.length) := ⟨t8.b.c0, t8.b.c1, t8.b.c2, t8.b.c3, t8.b.c4, t8.b.c5, x8.c0, x8.c1, x8.c2, x8.c3, x8.c4, x8.c5⟩)))
    go_wp2
    go_ret
    exact ⟨rfl, t8.bel⟩
  · clear R0 hT
    go_enter Tryd.func3, Tryd.ntmps3
    go_wp2_with (go_at_call 4; refine (EW.szBig d0 a0 c0 _ x0 hz).mono ?_; rintro e w1 ⟨rfl, b1⟩; have t1 := t0.below b1)
    go_ret
    exact ⟨rfl, t1.bel⟩

theorem contract (H : Type) (enc : TypeId × Value → H) (W : World) (base : Nat) (args : Array Value) (ds gs : List (DataW H)) (before : List MemPlace)
    (hval : ∀ (j : Nat) t v, Tryd.f3.params[j]? = some t → args[j]? = some v → Value.okWide Tryd.prog W .any base t v)
    (hW : DataW.Whole enc Tryd.prog Tryd.f3.params.toList Rows.fnExactEventTextSpec.vars false W args.toList ds gs before) (hL : laidMetH Tryd.prog Rows.fnExactEventTextRow.laid W) :
    Calls Tryd.prog 3 args W fun e W' => ∃ v, e = .returned v ∧ Rows.fnExactEventTextSpec.post enc Tryd.prog Tryd.f3 false true false false W args v W' := by
  have hW' := hW
  obtain ⟨p, q, hA0, hV, rfl, hfz, hnd⟩ := hW
  have hA : DataW.TrodAll enc Tryd.prog W 0 (fun _ => true) true Tryd.f3.params.toList args.toList ds p := hA0
  rw [Tryd.params3] at hA hval
  obtain ⟨v0, vs0, d0, ds0, p0, q0, hargs, rfl, rfl, h0, r0⟩ := trodAll_cons hA
  obtain ⟨rfl, rfl, rfl⟩ := trodAll_nil r0
  obtain rfl : args = #[v0] := by cases args; simp_all
  obtain ⟨g1, g2, rfl⟩ : ∃ g1 g2, gs = [g1, g2] := EV.vars_two hV
  have hV2 : DataW.TrodVars enc Tryd.prog W (fun _ => true) Rows.fnExactEventTextSpec.vars [g1, g2] q := hV
  have k0 := h0
  have lt0 : ∀ x ∈ p0, x.block < W.heap.size := by obtain ⟨m, hm⟩ := k0; exact DataW.trod_lt m _ _ _ hm
  obtain ⟨d0, a0, c0, rfl, x0, R0⟩ := EV.open_event (hval 0 24 v0 rfl rfl) h0
  clear hA0
  refine (walk W d0 a0 c0 x0 R0 (tab_internal_strconv_uint64pow10 hL) (tab_loop_example_g00278_impl_hexDigits hL) (tab_loop_example_g00278_impl_eventWords hL)).mono fun e W' ⟨he, hg⟩ => ?_
  subst he
  exact ⟨_, rfl, _, _, _, [], _, q, hW', trodAll_mk1 (shut_bool Tryd.underlying4 _), (trodAll_cons_mk (Below.trod laidOut (by kernel_rfl) (of_decide_eq_true (by kernel_rfl)) k0 hg lt0) trodAll_mk0), (Below.trodVars laidOut hg (by kernel_rfl) hV2), hg.frame _, fun h => by cases h⟩

theorem laid_met (os : Os) : laidMet Tryd.prog Rows.fnExactEventTextRow.laid (( { World.holding Tryd.prog os ⟨#[], #[], []⟩ with heap := ((World.holding Tryd.prog os ⟨#[], #[], []⟩).heap
      |>.modify 4 (fun o => match o with | .cells _ t frozen => .cells #[.int .u8 0, .int .u8 1, .int .u8 28, .int .u8 2, .int .u8 29, .int .u8 14, .int .u8 24, .int .u8 3, .int .u8 30, .int .u8 22, .int .u8 20, .int .u8 15, .int .u8 25, .int .u8 17, .int .u8 4, .int .u8 8, .int .u8 31, .int .u8 27, .int .u8 13, .int .u8 23, .int .u8 21, .int .u8 19, .int .u8 16, .int .u8 7, .int .u8 26, .int .u8 12, .int .u8 18, .int .u8 6, .int .u8 11, .int .u8 5, .int .u8 10, .int .u8 9] t frozen | o => o)
      |>.modify 5 (fun o => match o with | .cells _ t frozen => .cells #[.int .u8 0, .int .u8 1, .int .u8 56, .int .u8 2, .int .u8 57, .int .u8 49, .int .u8 28, .int .u8 3, .int .u8 61, .int .u8 58, .int .u8 42, .int .u8 50, .int .u8 38, .int .u8 29, .int .u8 17, .int .u8 4, .int .u8 62, .int .u8 47, .int .u8 59, .int .u8 36, .int .u8 45, .int .u8 43, .int .u8 51, .int .u8 22, .int .u8 53, .int .u8 39, .int .u8 33, .int .u8 30, .int .u8 24, .int .u8 18, .int .u8 12, .int .u8 5, .int .u8 63, .int .u8 55, .int .u8 48, .int .u8 27, .int .u8 60, .int .u8 41, .int .u8 37, .int .u8 16, .int .u8 46, .int .u8 35, .int .u8 44, .int .u8 21, .int .u8 52, .int .u8 32, .int .u8 23, .int .u8 11, .int .u8 54, .int .u8 26, .int .u8 40, .int .u8 15, .int .u8 34, .int .u8 20, .int .u8 31, .int .u8 10, .int .u8 25, .int .u8 14, .int .u8 19, .int .u8 9, .int .u8 13, .int .u8 8, .int .u8 7, .int .u8 6] t frozen | o => o)
      |>.modify 3 (fun o => match o with | .cells _ t frozen => .cells #[.int .u64 1, .int .u64 10, .int .u64 100, .int .u64 1000, .int .u64 10000, .int .u64 100000, .int .u64 1000000, .int .u64 10000000, .int .u64 100000000, .int .u64 1000000000, .int .u64 10000000000, .int .u64 100000000000, .int .u64 1000000000000, .int .u64 10000000000000, .int .u64 100000000000000, .int .u64 1000000000000000, .int .u64 10000000000000000, .int .u64 100000000000000000, .int .u64 1000000000000000000, .int .u64 10000000000000000000] t frozen | o => o)
      |>.modify 1 (fun o => match o with | .cells _ t frozen => .cells #[.int .u8 48, .int .u8 49, .int .u8 50, .int .u8 51, .int .u8 52, .int .u8 53, .int .u8 54, .int .u8 55, .int .u8 56, .int .u8 57, .int .u8 97, .int .u8 98, .int .u8 99, .int .u8 100, .int .u8 101, .int .u8 102] t frozen | o => o)
      |>.modify 0 (fun o => match o with | .cells _ t frozen => .cells #[.string ⟨#[108, 101, 110, 100]⟩, .string ⟨#[116, 111, 117, 99, 104]⟩, .string ⟨#[108, 97, 115, 116]⟩, .string ⟨#[98, 97, 99, 107]⟩, .string ⟨#[116, 105, 99, 107]⟩, .string ⟨#[112, 111, 119, 101, 114]⟩, .string ⟨#[102, 105, 108, 101]⟩, .string ⟨#[109, 97, 107, 101]⟩, .string ⟨#[114, 101, 109, 111, 118, 101]⟩, .string ⟨#[102, 105, 108, 108]⟩] t frozen | o => o)) } : World).forCall (fun _ _ => 0) ⟨#[], #[.agg #[.int .i64 0, .int .i64 0, .int .i64 0, .int .i64 0, .string ByteArray.empty, .slice none 0 0]], []⟩).memory :=
  laidMet_of_run' 8 (by kernel_rfl) (by kernel_rfl)
theorem reads (os : Os) {H : Type} (enc : TypeId × Value → H) : ∃ places, DataW.whole enc Tryd.prog (( { World.holding Tryd.prog os ⟨#[], #[], []⟩ with heap := ((World.holding Tryd.prog os ⟨#[], #[], []⟩).heap
      |>.modify 4 (fun o => match o with | .cells _ t frozen => .cells #[.int .u8 0, .int .u8 1, .int .u8 28, .int .u8 2, .int .u8 29, .int .u8 14, .int .u8 24, .int .u8 3, .int .u8 30, .int .u8 22, .int .u8 20, .int .u8 15, .int .u8 25, .int .u8 17, .int .u8 4, .int .u8 8, .int .u8 31, .int .u8 27, .int .u8 13, .int .u8 23, .int .u8 21, .int .u8 19, .int .u8 16, .int .u8 7, .int .u8 26, .int .u8 12, .int .u8 18, .int .u8 6, .int .u8 11, .int .u8 5, .int .u8 10, .int .u8 9] t frozen | o => o)
      |>.modify 5 (fun o => match o with | .cells _ t frozen => .cells #[.int .u8 0, .int .u8 1, .int .u8 56, .int .u8 2, .int .u8 57, .int .u8 49, .int .u8 28, .int .u8 3, .int .u8 61, .int .u8 58, .int .u8 42, .int .u8 50, .int .u8 38, .int .u8 29, .int .u8 17, .int .u8 4, .int .u8 62, .int .u8 47, .int .u8 59, .int .u8 36, .int .u8 45, .int .u8 43, .int .u8 51, .int .u8 22, .int .u8 53, .int .u8 39, .int .u8 33, .int .u8 30, .int .u8 24, .int .u8 18, .int .u8 12, .int .u8 5, .int .u8 63, .int .u8 55, .int .u8 48, .int .u8 27, .int .u8 60, .int .u8 41, .int .u8 37, .int .u8 16, .int .u8 46, .int .u8 35, .int .u8 44, .int .u8 21, .int .u8 52, .int .u8 32, .int .u8 23, .int .u8 11, .int .u8 54, .int .u8 26, .int .u8 40, .int .u8 15, .int .u8 34, .int .u8 20, .int .u8 31, .int .u8 10, .int .u8 25, .int .u8 14, .int .u8 19, .int .u8 9, .int .u8 13, .int .u8 8, .int .u8 7, .int .u8 6] t frozen | o => o)
      |>.modify 3 (fun o => match o with | .cells _ t frozen => .cells #[.int .u64 1, .int .u64 10, .int .u64 100, .int .u64 1000, .int .u64 10000, .int .u64 100000, .int .u64 1000000, .int .u64 10000000, .int .u64 100000000, .int .u64 1000000000, .int .u64 10000000000, .int .u64 100000000000, .int .u64 1000000000000, .int .u64 10000000000000, .int .u64 100000000000000, .int .u64 1000000000000000, .int .u64 10000000000000000, .int .u64 100000000000000000, .int .u64 1000000000000000000, .int .u64 10000000000000000000] t frozen | o => o)
      |>.modify 1 (fun o => match o with | .cells _ t frozen => .cells #[.int .u8 48, .int .u8 49, .int .u8 50, .int .u8 51, .int .u8 52, .int .u8 53, .int .u8 54, .int .u8 55, .int .u8 56, .int .u8 57, .int .u8 97, .int .u8 98, .int .u8 99, .int .u8 100, .int .u8 101, .int .u8 102] t frozen | o => o)
      |>.modify 0 (fun o => match o with | .cells _ t frozen => .cells #[.string ⟨#[108, 101, 110, 100]⟩, .string ⟨#[116, 111, 117, 99, 104]⟩, .string ⟨#[108, 97, 115, 116]⟩, .string ⟨#[98, 97, 99, 107]⟩, .string ⟨#[116, 105, 99, 107]⟩, .string ⟨#[112, 111, 119, 101, 114]⟩, .string ⟨#[102, 105, 108, 101]⟩, .string ⟨#[109, 97, 107, 101]⟩, .string ⟨#[114, 101, 109, 111, 118, 101]⟩, .string ⟨#[102, 105, 108, 108]⟩] t frozen | o => o)) } : World).forCall (fun _ _ => 0) ⟨#[], #[.agg #[.int .i64 0, .int .i64 0, .int .i64 0, .int .i64 0, .string ByteArray.empty, .slice none 0 0]], []⟩).memory Tryd.f3.params.toList Rows.fnExactEventTextSpec.vars false #[Value.agg #[.int .i64 0, .int .i64 0, .int .i64 0, .int .i64 0, .string ByteArray.empty, .slice none 0 0]].toList 8 = some ([.agg [.lit (.int .i64 0), .lit (.int .i64 0), .lit (.int .i64 0), .lit (.int .i64 0), .lit (.string []), .nil]], [Rows.laid_loop_example_g00278_impl_eventWords, Rows.laid_loop_example_g00278_impl_hexDigits], places) :=
  ⟨MemPlace.row ⟨0, 0, none⟩ 10 ++ MemPlace.row ⟨1, 0, none⟩ 16, by kernel_rfl⟩

set_option maxRecDepth 100000 in
theorem lifted (os : Os) (started : os.Started) (H : Type) (enc : TypeId × Value → H) (F : Stop.Interp) :
    ReturnsInHanded {} Tryd.checked os 3 .any ((OpenSpec.ofChange Rows.fnExactEventTextSpec).preRow enc Tryd.prog Tryd.f3 Rows.fnExactEventTextRow.domain false Rows.fnExactEventTextRow.laid) (((OpenSpec.ofChange Rows.fnExactEventTextSpec).at F).post enc Tryd.prog Tryd.f3 false true false false) := by
  obtain ⟨places, hx⟩ := reads os enc
  refine returnsInHanded_of_row (C := Tryd.checked) (s := OpenSpec.ofChange Rows.fnExactEventTextSpec) own started (by kernel_rfl) Tryd.func3
    (witness_row_at (enc := enc) (C := Tryd.checked) false { World.holding Tryd.prog os ⟨#[], #[], []⟩ with heap := ((World.holding Tryd.prog os ⟨#[], #[], []⟩).heap
      |>.modify 4 (fun o => match o with | .cells _ t frozen => .cells #[.int .u8 0, .int .u8 1, .int .u8 28, .int .u8 2, .int .u8 29, .int .u8 14, .int .u8 24, .int .u8 3, .int .u8 30, .int .u8 22, .int .u8 20, .int .u8 15, .int .u8 25, .int .u8 17, .int .u8 4, .int .u8 8, .int .u8 31, .int .u8 27, .int .u8 13, .int .u8 23, .int .u8 21, .int .u8 19, .int .u8 16, .int .u8 7, .int .u8 26, .int .u8 12, .int .u8 18, .int .u8 6, .int .u8 11, .int .u8 5, .int .u8 10, .int .u8 9] t frozen | o => o)
      |>.modify 5 (fun o => match o with | .cells _ t frozen => .cells #[.int .u8 0, .int .u8 1, .int .u8 56, .int .u8 2, .int .u8 57, .int .u8 49, .int .u8 28, .int .u8 3, .int .u8 61, .int .u8 58, .int .u8 42, .int .u8 50, .int .u8 38, .int .u8 29, .int .u8 17, .int .u8 4, .int .u8 62, .int .u8 47, .int .u8 59, .int .u8 36, .int .u8 45, .int .u8 43, .int .u8 51, .int .u8 22, .int .u8 53, .int .u8 39, .int .u8 33, .int .u8 30, .int .u8 24, .int .u8 18, .int .u8 12, .int .u8 5, .int .u8 63, .int .u8 55, .int .u8 48, .int .u8 27, .int .u8 60, .int .u8 41, .int .u8 37, .int .u8 16, .int .u8 46, .int .u8 35, .int .u8 44, .int .u8 21, .int .u8 52, .int .u8 32, .int .u8 23, .int .u8 11, .int .u8 54, .int .u8 26, .int .u8 40, .int .u8 15, .int .u8 34, .int .u8 20, .int .u8 31, .int .u8 10, .int .u8 25, .int .u8 14, .int .u8 19, .int .u8 9, .int .u8 13, .int .u8 8, .int .u8 7, .int .u8 6] t frozen | o => o)
      |>.modify 3 (fun o => match o with | .cells _ t frozen => .cells #[.int .u64 1, .int .u64 10, .int .u64 100, .int .u64 1000, .int .u64 10000, .int .u64 100000, .int .u64 1000000, .int .u64 10000000, .int .u64 100000000, .int .u64 1000000000, .int .u64 10000000000, .int .u64 100000000000, .int .u64 1000000000000, .int .u64 10000000000000, .int .u64 100000000000000, .int .u64 1000000000000000, .int .u64 10000000000000000, .int .u64 100000000000000000, .int .u64 1000000000000000000, .int .u64 10000000000000000000] t frozen | o => o)
      |>.modify 1 (fun o => match o with | .cells _ t frozen => .cells #[.int .u8 48, .int .u8 49, .int .u8 50, .int .u8 51, .int .u8 52, .int .u8 53, .int .u8 54, .int .u8 55, .int .u8 56, .int .u8 57, .int .u8 97, .int .u8 98, .int .u8 99, .int .u8 100, .int .u8 101, .int .u8 102] t frozen | o => o)
      |>.modify 0 (fun o => match o with | .cells _ t frozen => .cells #[.string ⟨#[108, 101, 110, 100]⟩, .string ⟨#[116, 111, 117, 99, 104]⟩, .string ⟨#[108, 97, 115, 116]⟩, .string ⟨#[98, 97, 99, 107]⟩, .string ⟨#[116, 105, 99, 107]⟩, .string ⟨#[112, 111, 119, 101, 114]⟩, .string ⟨#[102, 105, 108, 101]⟩, .string ⟨#[109, 97, 107, 101]⟩, .string ⟨#[114, 101, 109, 111, 118, 101]⟩, .string ⟨#[102, 105, 108, 108]⟩] t frozen | o => o)) } #[.agg #[.int .i64 0, .int .i64 0, .int .i64 0, .int .i64 0, .string ByteArray.empty, .slice none 0 0]] rfl (by kernel_rfl) (by kernel_rfl) (by kernel_rfl)
      (OpenSpec.preRow_of_cond 8 hx (by kernel_rfl) (fun k hk => by cases hk) (by kernel_rfl) (laid_met os))) ?_
  intro W base args ds gs before hval hW _ _ _ hL _ _
  exact contract H enc W base args ds gs before hval hW hL

theorem said : Rows.FnExactEventTextSaid :=
  OpenClaim.holds_of_cond 3 Tryd.f3 rfl rfl rfl rfl rfl rfl rfl ⟨rfl, rfl, rfl, rfl, rfl⟩ rfl rfl rfl rfl rfl (by kernel_rfl) Tryd.func3 (by kernel_rfl)
    (of_decide_eq_true (by kernel_rfl)) (by unfold Func.isWrapper; first | (rw [if_pos (by decide +kernel)]; kernel_rfl) | (rw [if_neg (by decide +kernel)]; exact ⟨rfl, rfl⟩))
    (fun os started H enc _ F => by rw [OpenClaim.pre_eq_preRow]; exact lifted os started H enc F)

theorem plain (f : FuncId) (fn : Func) (hf : Tryd.pinned.checked.prog.funcNamed "loop.example/g00278/laws.FnExactEventText" = some f) (hfn : Tryd.pinned.checked.prog.funcs[f]? = some fn) :
    false = Tryd.pinned.checked.prog.looks [] ∧ ∀ (j : Nat) t, fn.params[j]? = some t → Tryd.pinned.checked.prog.wantsStandIn t = false := by
  obtain rfl : f = 3 := Option.some.inj ((show Tryd.prog.funcNamed "loop.example/g00278/laws.FnExactEventText" = some 3 by kernel_rfl).symm.trans hf) |>.symm
  obtain rfl : fn = Tryd.f3 := (Option.some.inj (Tryd.func3.symm.trans hfn)).symm
  refine ⟨by kernel_rfl, fun j t ht => ?_⟩
  rw [Tryd.params3] at ht
  obtain rfl : t = 24 := by simpa using Array.mem_of_getElem? ht
  exact (show Tryd.prog.wantsStandIn 24 = false by kernel_rfl)

theorem card : Rows.FnExactEventTextCardSaid :=
  Claim7.holds_tied_plain_at .later [] _ _ _ _ said (fun _ h => by cases h) (by kernel_rfl) (fun _ h => by cases h) fnExactEventText_row_tie rfl ⟨rfl, rfl⟩ (by kernel_rfl) rfl plain (by kernel_rfl)
end Go.Proofs.YtnfcpcejfajcfaaDoor.fnExactEventText

namespace Go.Proofs.YtnfcpcejfajcfaaDoor
theorem fnExactEventText_proved : Rows.FnExactEventTextCardSaid := fnExactEventText.card
#print axioms fnExactEventText_proved
end Go.Proofs.YtnfcpcejfajcfaaDoor
