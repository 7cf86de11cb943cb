/- Proved: 'laws.FnExactReadEvent' answers true at every text, and leaves its argument as it was. -/
import Derived.Test.YtjajclifjojblaaDoorCards
import Derived.Test.YtjajclifjojblaaDoorTie
import Derived.Test.YtjajclifjojblaaDoorRv10g
import Derived.Test.YtjajclifjojblaaDoorRv11
import Derived.WalkKit
import Derived.ProofKit
import Derived.OpenShut
import Derived.ShutString
import Derived.OpenVars
import Derived.ChangeOld
import Derived.Below
import Derived.Deep.DeepHandedRow
import Derived.Lib.LaidTab
namespace Go.Proofs.YtjajclifjojblaaDoor.fnExactReadEvent
open Go.ChangeShapes Go.WideShapes Go.ChangeAt Go.RowKit
open Go.ChangeMaps (open_string shut_string)
set_option linter.unusedVariables false

theorem own : ownKnob Tryd.prog.godebug = none := by kernel_rfl
theorem laidOut : laidOutB Tryd.prog = true := by kernel_rfl

/-- What the row lists of this table, as the cells that a walk reads. -/
theorem tab_internal_strconv_uint64pow10 {W : World} (h : laidMetH Tryd.prog Rows.fnExactReadEventRow.laid W) : Lib.TabIs Tryd.prog W "internal/strconv.uint64pow10" .u64 [1, 10, 100, 1000, 10000, 100000, 1000000, 10000000, 100000000, 1000000000, 10000000000, 100000000000, 1000000000000, 10000000000000, 100000000000000, 1000000000000000, 10000000000000000, 100000000000000000, 1000000000000000000, 10000000000000000000] := by
  obtain ⟨ps, hl, _⟩ := (show laidMet Tryd.prog Rows.fnExactReadEventRow.laid W from h)
  exact L0.tab_mem (n := 20) (g := 3) (t := 77) (by kernel_rfl) (by kernel_rfl) Tryd.underlying77 Tryd.underlying71 (by kernel_rfl) (by kernel_rfl) Rows.fnExactReadEventRow.laid ps hl 2 (by rfl)

/-- What the row lists of this table, as the cells that a walk reads. -/
theorem tab_loop_example_g00278_impl_hexDigits {W : World} (h : laidMetH Tryd.prog Rows.fnExactReadEventRow.laid W) : Lib.TabIs Tryd.prog W "loop.example/g00278/impl.hexDigits" .u8 [48, 49, 50, 51, 52, 53, 54, 55, 56, 57, 97, 98, 99, 100, 101, 102] := by
  obtain ⟨ps, hl, _⟩ := (show laidMet Tryd.prog Rows.fnExactReadEventRow.laid W from h)
  exact L0.tab_mem (n := 16) (g := 2) (t := 64) (by kernel_rfl) (by kernel_rfl) Tryd.underlying64 Tryd.underlying5 (by kernel_rfl) (by kernel_rfl) Rows.fnExactReadEventRow.laid ps hl 3 (by rfl)

/-- What the row lists of this table of texts. -/
theorem tab_loop_example_g00278_impl_eventWords {W : World} (h : laidMetH Tryd.prog Rows.fnExactReadEventRow.laid W) : EV.StrTab Tryd.prog W "loop.example/g00278/impl.eventWords" EV.words := by
  obtain ⟨ps, hl, _⟩ := (show laidMet Tryd.prog Rows.fnExactReadEventRow.laid W from h)
  exact EV.strtab_mem (zs := [[108, 101, 110, 100], [116, 111, 117, 99, 104], [108, 97, 115, 116], [98, 97, 99, 107], [116, 105, 99, 107], [112, 111, 119, 101, 114], [102, 105, 108, 101], [109, 97, 107, 101], [114, 101, 109, 111, 118, 101], [102, 105, 108, 108]]) (n := 10) (g := 0) (t := 54) (by kernel_rfl) (by kernel_rfl) Tryd.underlying54 Tryd.underlying9 (by kernel_rfl) (by kernel_rfl) Rows.fnExactReadEventRow.laid ps hl 4 (by rfl)

theorem walk (a0 : ByteArray) (w0 : a0.size ≤ maxLen) (w : World) (h_internal_strconv_uint64pow10 : Lib.TabIs Tryd.prog w "internal/strconv.uint64pow10" .u64 [1, 10, 100, 1000, 10000, 100000, 1000000, 10000000, 100000000, 1000000000, 10000000000, 100000000000, 1000000000000, 10000000000000, 100000000000000, 1000000000000000, 10000000000000000, 100000000000000000, 1000000000000000000, 10000000000000000000]) (h_loop_example_g00278_impl_hexDigits : Lib.TabIs Tryd.prog w "loop.example/g00278/impl.hexDigits" .u8 [48, 49, 50, 51, 52, 53, 54, 55, 56, 57, 97, 98, 99, 100, 101, 102]) (h_loop_example_g00278_impl_eventWords : EV.StrTab Tryd.prog w "loop.example/g00278/impl.eventWords" EV.words) :
    Calls Tryd.prog 3 #[.string a0] w fun e w' => e = .returned (.bool true) ∧ Below w.heap.size w w' := by
  have hT : EX.Tabs w := ⟨h_internal_strconv_uint64pow10, h_loop_example_g00278_impl_hexDigits, h_loop_example_g00278_impl_eventWords⟩
  have hs := w0
  unfold maxLen at hs
  by_cases hbig : 1048576 < (a0.size : Int)
  · go_enter Tryd.func3, Tryd.ntmps3
    go_wp2
    go_ret
    exact ⟨rfl, Below.refl _ _⟩
  · have hs' : a0.size ≤ 1048576 := by omega
    have hn := RQ.read_len a0 hs'
    have HS : Hid (Calls Tryd.prog 4 #[.string a0] w fun e w' => ∃ a c, e = .returned (.tuple #[EV.val (RW.read a0.data.toList).1 a c, .bool (RW.read a0.data.toList).2]) ∧ J0.Own w.heap.size w' a (RW.read a0.data.toList).1.kp ∧ Below w.heap.size w w') := RO.spec_ReadEvent a0 w hs'
    have HI : Hid (∀ W, EX.Tabs W → Calls Tryd.prog 5 #[.string a0] W fun e w' => ∃ a c, e = .returned (.tuple #[EV.val (RW.read a0.data.toList).1 a c, .bool (RW.read a0.data.toList).2]) ∧ J0.Own W.heap.size w' a (RW.read a0.data.toList).1.kp ∧ Below W.heap.size W w') := fun W h => RF.impl_ReadEvent a0 W hs' h
    have HT : Hid (∀ W, Below w.heap.size w W → EX.Tabs W) := fun W h => hT.below h
    generalize RW.read a0.data.toList = D at hn HS HI
    obtain ⟨d, b⟩ := D
    simp only at hn HS HI
    have hne : (((1 + d.kp.length : Nat) : Int) != ((1 + d.kp.length : Nat) : Int)) = false := by simp
    have hp : ¬ ((1 + d.kp.length : Nat) : Int) < 0 := by omega
    obtain ⟨Z, hZ⟩ : ∃ Z, ((1 + d.kp.length : Nat) : Int) = Z := ⟨_, rfl⟩
    have HMK : Hid (∀ {a0 : Option Addr} {c0 : Nat} {a1 : Option Addr} {c1 E3 E5 : Nat} {W : World}, RQ.LB w d a0 c0 a1 c1 E3 E5 d.kp W → Calls Tryd.prog 7 #[EV.val d a1 c1, .int .i64 1] W fun e w' => e = .returned (.int .i64 Z) ∧ RQ.LB w d a0 c0 a1 c1 E3 E5 (LF.mfrom 1 d.kp.length) w') := fun h => by rw [← hZ]; exact RQ.mark h hn
    have HHL : Hid (∀ {a0 : Option Addr} {c0 : Nat} {a1 : Option Addr} {c1 E3 E5 : Nat} {W : World}, RQ.LB w d a0 c0 a1 c1 E3 E5 (LF.mfrom 1 d.kp.length) W → Calls Tryd.prog 8 #[EV.val d a1 c1, .int .i64 1] W fun e w' => e = .returned (.int .i64 Z) ∧ RQ.LB w d a0 c0 a1 c1 E3 E5 (LF.mfrom 1 d.kp.length) w') := fun h => by rw [← hZ]; exact RQ.held h hn
    rw [hZ] at hne hp
    clear hZ hT hs' hs
    go_enter Tryd.func3, Tryd.ntmps3
    go_wp2_with (first
      | (go_at_call 4; refine HS.out.mono ?_; rintro e w1 ⟨p0, q0, rfl, o1, b1⟩; have bA : Below w.heap.size w (w1.alloc (.cells (EV.vals d p0 q0).toArray 24)) := b1.trans ((K0.below_new w1 _).mono b1.size); clear HS)
      | (go_at_call 5; have L5' := L5; refine (HI.out _ (HT.out _ L5.bel)).mono ?_; rintro e w6 ⟨p2, q2, rfl, o6, b6⟩; have L6 := (L5.below b6).below (K0.below_new w6 (.cells (EV.vals d p2 q2).toArray 24)); have r6 := o6.row.below (K0.below_new w6 (.cells (EV.vals d p2 q2).toArray 24)); have x6 := K0.blk_new (EV.vals d p2 q2) w6 24; have x60 := x6.cell 0 (by simp); have x61 := x6.cell 1 (by simp); have x62 := x6.cell 2 (by simp); have x63 := x6.cell 3 (by simp); have x64 := x6.cell 4 (by simp); have x65 := x6.cell 5 (by simp); simp only [List.getElem_cons_zero, List.getElem_cons_succ] at x60 x61 x62 x63 x64 x65; have z0 := L6.b5.cell 0 (by simp); have z1 := L6.b5.cell 1 (by simp); have z2 := L6.b5.cell 2 (by simp); have z3 := L6.b5.cell 3 (by simp); have z4 := L6.b5.cell 4 (by simp); have z5 := L6.b5.cell 5 (by simp); have y0 := L6.b3.cell 0 (by simp); have y1 := L6.b3.cell 1 (by simp); have y2 := L6.b3.cell 2 (by simp); have y3 := L6.b3.cell 3 (by simp); have y4 := L6.b3.cell 4 (by simp); have y5 := L6.b3.cell 5 (by simp); simp only [List.getElem_cons_zero, List.getElem_cons_succ] at z0 z1 z2 z3 z4 z5 y0 y1 y2 y3 y4 y5)
      | (go_at_call 5; refine (HI.out _ (HT.out _ bA)).mono ?_; rintro e w2 ⟨p1, q1, rfl, o2, b2⟩; have L2 := RQ.lb_new (c1 := q1) (o := .cells #[] 24) o1 b1 o2 b2; have z0 := L2.b5.cell 0 (by simp); have z1 := L2.b5.cell 1 (by simp); have z2 := L2.b5.cell 2 (by simp); have z3 := L2.b5.cell 3 (by simp); have z4 := L2.b5.cell 4 (by simp); have z5 := L2.b5.cell 5 (by simp); have y0 := L2.b3.cell 0 (by simp); have y1 := L2.b3.cell 1 (by simp); have y2 := L2.b3.cell 2 (by simp); have y3 := L2.b3.cell 3 (by simp); have y4 := L2.b3.cell 4 (by simp); have y5 := L2.b3.cell 5 (by simp); simp only [List.getElem_cons_zero, List.getElem_cons_succ] at z0 z1 z2 z3 z4 z5 y0 y1 y2 y3 y4 y5)
      | (go_at_call 6; have L6' := L6; refine (RQ.eq2 L6 r6 hn).mono ?_; rintro e w7 ⟨rfl, L7⟩; have z0 := L7.b5.cell 0 (by simp); have z1 := L7.b5.cell 1 (by simp); have z2 := L7.b5.cell 2 (by simp); have z3 := L7.b5.cell 3 (by simp); have z4 := L7.b5.cell 4 (by simp); have z5 := L7.b5.cell 5 (by simp); have y0 := L7.b3.cell 0 (by simp); have y1 := L7.b3.cell 1 (by simp); have y2 := L7.b3.cell 2 (by simp); have y3 := L7.b3.cell 3 (by simp); have y4 := L7.b3.cell 4 (by simp); have y5 := L7.b3.cell 5 (by simp); simp only [List.getElem_cons_zero, List.getElem_cons_succ] at z0 z1 z2 z3 z4 z5 y0 y1 y2 y3 y4 y5)
      | (go_at_call 6; refine (RQ.eq1 L2 hn).mono ?_; rintro e w3 ⟨rfl, L3⟩; have z0 := L3.b5.cell 0 (by simp); have z1 := L3.b5.cell 1 (by simp); have z2 := L3.b5.cell 2 (by simp); have z3 := L3.b5.cell 3 (by simp); have z4 := L3.b5.cell 4 (by simp); have z5 := L3.b5.cell 5 (by simp); have y0 := L3.b3.cell 0 (by simp); have y1 := L3.b3.cell 1 (by simp); have y2 := L3.b3.cell 2 (by simp); have y3 := L3.b3.cell 3 (by simp); have y4 := L3.b3.cell 4 (by simp); have y5 := L3.b3.cell 5 (by simp); simp only [List.getElem_cons_zero, List.getElem_cons_succ] at z0 z1 z2 z3 z4 z5 y0 y1 y2 y3 y4 y5)
      | (go_at_call 7; refine (HMK.out L3).mono ?_; rintro e w4 ⟨rfl, L4⟩; have z0 := L4.b5.cell 0 (by simp); have z1 := L4.b5.cell 1 (by simp); have z2 := L4.b5.cell 2 (by simp); have z3 := L4.b5.cell 3 (by simp); have z4 := L4.b5.cell 4 (by simp); have z5 := L4.b5.cell 5 (by simp); have y0 := L4.b3.cell 0 (by simp); have y1 := L4.b3.cell 1 (by simp); have y2 := L4.b3.cell 2 (by simp); have y3 := L4.b3.cell 3 (by simp); have y4 := L4.b3.cell 4 (by simp); have y5 := L4.b3.cell 5 (by simp); simp only [List.getElem_cons_zero, List.getElem_cons_succ] at z0 z1 z2 z3 z4 z5 y0 y1 y2 y3 y4 y5)
      | (go_at_call 8; have L7' := L7; refine (HHL.out L7).mono ?_; rintro e w8 ⟨rfl, L8⟩)
      | (go_at_call 8; refine (HHL.out L4).mono ?_; rintro e w5 ⟨rfl, L5⟩; have z0 := L5.b5.cell 0 (by simp); have z1 := L5.b5.cell 1 (by simp); have z2 := L5.b5.cell 2 (by simp); have z3 := L5.b5.cell 3 (by simp); have z4 := L5.b5.cell 4 (by simp); have z5 := L5.b5.cell 5 (by simp); have y0 := L5.b3.cell 0 (by simp); have y1 := L5.b3.cell 1 (by simp); have y2 := L5.b3.cell 2 (by simp); have y3 := L5.b3.cell 3 (by simp); have y4 := L5.b3.cell 4 (by simp); have y5 := L5.b3.cell 5 (by simp); simp only [List.getElem_cons_zero, List.getElem_cons_succ] at z0 z1 z2 z3 z4 z5 y0 y1 y2 y3 y4 y5))
    go_ret
    exact ⟨rfl, L8.bel⟩

theorem contract (H : Type) (enc : TypeId × Value → H) (W : World) (base : Nat) (args : Array Value) (ds gs : List (DataW H)) (before : List MemPlace)
    (hval : ∀ (j : Nat) t v, Tryd.f3.params[j]? = some t → args[j]? = some v → Value.okWide Tryd.prog W .any base t v)
    (hW : DataW.Whole enc Tryd.prog Tryd.f3.params.toList Rows.fnExactReadEventSpec.vars false W args.toList ds gs before) (hL : laidMetH Tryd.prog Rows.fnExactReadEventRow.laid W) :
    Calls Tryd.prog 3 args W fun e W' => ∃ v, e = .returned v ∧ Rows.fnExactReadEventSpec.post enc Tryd.prog Tryd.f3 false true false false W args v W' := by
  have hW' := hW
  obtain ⟨p, q, hA0, hV, rfl, hfz, hnd⟩ := hW
  have hA : DataW.TrodAll enc Tryd.prog W 0 (fun _ => true) true Tryd.f3.params.toList args.toList ds p := hA0
  rw [Tryd.params3] at hA hval
  obtain ⟨v0, vs0, d0, ds0, p0, q0, hargs, rfl, rfl, h0, r0⟩ := trodAll_cons hA
  obtain ⟨rfl, rfl, rfl⟩ := trodAll_nil r0
  obtain rfl : args = #[v0] := by cases args; simp_all
  obtain ⟨g1, g2, rfl⟩ : ∃ g1 g2, gs = [g1, g2] := EV.vars_two hV
  have hV2 : DataW.TrodVars enc Tryd.prog W (fun _ => true) Rows.fnExactReadEventSpec.vars [g1, g2] q := hV
  obtain ⟨a0, rfl, rfl, rfl, w0⟩ := open_string Tryd.underlying9 (hval 0 9 v0 rfl rfl) h0
  clear hA0
  refine (walk a0 w0 W (tab_internal_strconv_uint64pow10 hL) (tab_loop_example_g00278_impl_hexDigits hL) (tab_loop_example_g00278_impl_eventWords hL)).mono fun e W' ⟨he, hg⟩ => ?_
  subst he
  exact ⟨_, rfl, _, _, _, [], [], q, hW', trodAll_mk1 (shut_bool Tryd.underlying4 _), (trodAll_cons_mk (shut_string Tryd.underlying9 w0) trodAll_mk0), (Below.trodVars laidOut hg (by kernel_rfl) hV2), hg.frame _, fun h => by cases h⟩

theorem laid_met (os : Os) : laidMet Tryd.prog Rows.fnExactReadEventRow.laid (( { World.holding Tryd.prog os ⟨#[], #[], []⟩ with heap := ((World.holding Tryd.prog os ⟨#[], #[], []⟩).heap
      |>.modify 4 (fun o => match o with | .cells _ t frozen => .cells #[.int .u8 0, .int .u8 1, .int .u8 28, .int .u8 2, .int .u8 29, .int .u8 14, .int .u8 24, .int .u8 3, .int .u8 30, .int .u8 22, .int .u8 20, .int .u8 15, .int .u8 25, .int .u8 17, .int .u8 4, .int .u8 8, .int .u8 31, .int .u8 27, .int .u8 13, .int .u8 23, .int .u8 21, .int .u8 19, .int .u8 16, .int .u8 7, .int .u8 26, .int .u8 12, .int .u8 18, .int .u8 6, .int .u8 11, .int .u8 5, .int .u8 10, .int .u8 9] t frozen | o => o)
      |>.modify 5 (fun o => match o with | .cells _ t frozen => .cells #[.int .u8 0, .int .u8 1, .int .u8 56, .int .u8 2, .int .u8 57, .int .u8 49, .int .u8 28, .int .u8 3, .int .u8 61, .int .u8 58, .int .u8 42, .int .u8 50, .int .u8 38, .int .u8 29, .int .u8 17, .int .u8 4, .int .u8 62, .int .u8 47, .int .u8 59, .int .u8 36, .int .u8 45, .int .u8 43, .int .u8 51, .int .u8 22, .int .u8 53, .int .u8 39, .int .u8 33, .int .u8 30, .int .u8 24, .int .u8 18, .int .u8 12, .int .u8 5, .int .u8 63, .int .u8 55, .int .u8 48, .int .u8 27, .int .u8 60, .int .u8 41, .int .u8 37, .int .u8 16, .int .u8 46, .int .u8 35, .int .u8 44, .int .u8 21, .int .u8 52, .int .u8 32, .int .u8 23, .int .u8 11, .int .u8 54, .int .u8 26, .int .u8 40, .int .u8 15, .int .u8 34, .int .u8 20, .int .u8 31, .int .u8 10, .int .u8 25, .int .u8 14, .int .u8 19, .int .u8 9, .int .u8 13, .int .u8 8, .int .u8 7, .int .u8 6] t frozen | o => o)
      |>.modify 3 (fun o => match o with | .cells _ t frozen => .cells #[.int .u64 1, .int .u64 10, .int .u64 100, .int .u64 1000, .int .u64 10000, .int .u64 100000, .int .u64 1000000, .int .u64 10000000, .int .u64 100000000, .int .u64 1000000000, .int .u64 10000000000, .int .u64 100000000000, .int .u64 1000000000000, .int .u64 10000000000000, .int .u64 100000000000000, .int .u64 1000000000000000, .int .u64 10000000000000000, .int .u64 100000000000000000, .int .u64 1000000000000000000, .int .u64 10000000000000000000] t frozen | o => o)
      |>.modify 2 (fun o => match o with | .cells _ t frozen => .cells #[.int .u8 48, .int .u8 49, .int .u8 50, .int .u8 51, .int .u8 52, .int .u8 53, .int .u8 54, .int .u8 55, .int .u8 56, .int .u8 57, .int .u8 97, .int .u8 98, .int .u8 99, .int .u8 100, .int .u8 101, .int .u8 102] t frozen | o => o)
      |>.modify 0 (fun o => match o with | .cells _ t frozen => .cells #[.string ⟨#[108, 101, 110, 100]⟩, .string ⟨#[116, 111, 117, 99, 104]⟩, .string ⟨#[108, 97, 115, 116]⟩, .string ⟨#[98, 97, 99, 107]⟩, .string ⟨#[116, 105, 99, 107]⟩, .string ⟨#[112, 111, 119, 101, 114]⟩, .string ⟨#[102, 105, 108, 101]⟩, .string ⟨#[109, 97, 107, 101]⟩, .string ⟨#[114, 101, 109, 111, 118, 101]⟩, .string ⟨#[102, 105, 108, 108]⟩] t frozen | o => o)) } : World).forCall (fun _ _ => 0) ⟨#[], #[.string ByteArray.empty], []⟩).memory :=
  laidMet_of_run' 8 (by kernel_rfl) (by kernel_rfl)
theorem reads (os : Os) {H : Type} (enc : TypeId × Value → H) : ∃ places, DataW.whole enc Tryd.prog (( { World.holding Tryd.prog os ⟨#[], #[], []⟩ with heap := ((World.holding Tryd.prog os ⟨#[], #[], []⟩).heap
      |>.modify 4 (fun o => match o with | .cells _ t frozen => .cells #[.int .u8 0, .int .u8 1, .int .u8 28, .int .u8 2, .int .u8 29, .int .u8 14, .int .u8 24, .int .u8 3, .int .u8 30, .int .u8 22, .int .u8 20, .int .u8 15, .int .u8 25, .int .u8 17, .int .u8 4, .int .u8 8, .int .u8 31, .int .u8 27, .int .u8 13, .int .u8 23, .int .u8 21, .int .u8 19, .int .u8 16, .int .u8 7, .int .u8 26, .int .u8 12, .int .u8 18, .int .u8 6, .int .u8 11, .int .u8 5, .int .u8 10, .int .u8 9] t frozen | o => o)
      |>.modify 5 (fun o => match o with | .cells _ t frozen => .cells #[.int .u8 0, .int .u8 1, .int .u8 56, .int .u8 2, .int .u8 57, .int .u8 49, .int .u8 28, .int .u8 3, .int .u8 61, .int .u8 58, .int .u8 42, .int .u8 50, .int .u8 38, .int .u8 29, .int .u8 17, .int .u8 4, .int .u8 62, .int .u8 47, .int .u8 59, .int .u8 36, .int .u8 45, .int .u8 43, .int .u8 51, .int .u8 22, .int .u8 53, .int .u8 39, .int .u8 33, .int .u8 30, .int .u8 24, .int .u8 18, .int .u8 12, .int .u8 5, .int .u8 63, .int .u8 55, .int .u8 48, .int .u8 27, .int .u8 60, .int .u8 41, .int .u8 37, .int .u8 16, .int .u8 46, .int .u8 35, .int .u8 44, .int .u8 21, .int .u8 52, .int .u8 32, .int .u8 23, .int .u8 11, .int .u8 54, .int .u8 26, .int .u8 40, .int .u8 15, .int .u8 34, .int .u8 20, .int .u8 31, .int .u8 10, .int .u8 25, .int .u8 14, .int .u8 19, .int .u8 9, .int .u8 13, .int .u8 8, .int .u8 7, .int .u8 6] t frozen | o => o)
      |>.modify 3 (fun o => match o with | .cells _ t frozen => .cells #[.int .u64 1, .int .u64 10, .int .u64 100, .int .u64 1000, .int .u64 10000, .int .u64 100000, .int .u64 1000000, .int .u64 10000000, .int .u64 100000000, .int .u64 1000000000, .int .u64 10000000000, .int .u64 100000000000, .int .u64 1000000000000, .int .u64 10000000000000, .int .u64 100000000000000, .int .u64 1000000000000000, .int .u64 10000000000000000, .int .u64 100000000000000000, .int .u64 1000000000000000000, .int .u64 10000000000000000000] t frozen | o => o)
      |>.modify 2 (fun o => match o with | .cells _ t frozen => .cells #[.int .u8 48, .int .u8 49, .int .u8 50, .int .u8 51, .int .u8 52, .int .u8 53, .int .u8 54, .int .u8 55, .int .u8 56, .int .u8 57, .int .u8 97, .int .u8 98, .int .u8 99, .int .u8 100, .int .u8 101, .int .u8 102] t frozen | o => o)
      |>.modify 0 (fun o => match o with | .cells _ t frozen => .cells #[.string ⟨#[108, 101, 110, 100]⟩, .string ⟨#[116, 111, 117, 99, 104]⟩, .string ⟨#[108, 97, 115, 116]⟩, .string ⟨#[98, 97, 99, 107]⟩, .string ⟨#[116, 105, 99, 107]⟩, .string ⟨#[112, 111, 119, 101, 114]⟩, .string ⟨#[102, 105, 108, 101]⟩, .string ⟨#[109, 97, 107, 101]⟩, .string ⟨#[114, 101, 109, 111, 118, 101]⟩, .string ⟨#[102, 105, 108, 108]⟩] t frozen | o => o)) } : World).forCall (fun _ _ => 0) ⟨#[], #[.string ByteArray.empty], []⟩).memory Tryd.f3.params.toList Rows.fnExactReadEventSpec.vars false #[Value.string ByteArray.empty].toList 8 = some ([.lit (.string [])], [Rows.laid_loop_example_g00278_impl_eventWords, Rows.laid_loop_example_g00278_impl_hexDigits], places) :=
  ⟨MemPlace.row ⟨0, 0, none⟩ 10 ++ MemPlace.row ⟨2, 0, none⟩ 16, by kernel_rfl⟩

set_option maxRecDepth 100000 in
theorem lifted (os : Os) (started : os.Started) (H : Type) (enc : TypeId × Value → H) (F : Stop.Interp) :
    ReturnsInHanded {} Tryd.checked os 3 .any ((OpenSpec.ofChange Rows.fnExactReadEventSpec).preRow enc Tryd.prog Tryd.f3 Rows.fnExactReadEventRow.domain false Rows.fnExactReadEventRow.laid) (((OpenSpec.ofChange Rows.fnExactReadEventSpec).at F).post enc Tryd.prog Tryd.f3 false true false false) := by
  obtain ⟨places, hx⟩ := reads os enc
  refine returnsInHanded_of_row (C := Tryd.checked) (s := OpenSpec.ofChange Rows.fnExactReadEventSpec) own started (by kernel_rfl) Tryd.func3
    (witness_row_at (enc := enc) (C := Tryd.checked) false { World.holding Tryd.prog os ⟨#[], #[], []⟩ with heap := ((World.holding Tryd.prog os ⟨#[], #[], []⟩).heap
      |>.modify 4 (fun o => match o with | .cells _ t frozen => .cells #[.int .u8 0, .int .u8 1, .int .u8 28, .int .u8 2, .int .u8 29, .int .u8 14, .int .u8 24, .int .u8 3, .int .u8 30, .int .u8 22, .int .u8 20, .int .u8 15, .int .u8 25, .int .u8 17, .int .u8 4, .int .u8 8, .int .u8 31, .int .u8 27, .int .u8 13, .int .u8 23, .int .u8 21, .int .u8 19, .int .u8 16, .int .u8 7, .int .u8 26, .int .u8 12, .int .u8 18, .int .u8 6, .int .u8 11, .int .u8 5, .int .u8 10, .int .u8 9] t frozen | o => o)
      |>.modify 5 (fun o => match o with | .cells _ t frozen => .cells #[.int .u8 0, .int .u8 1, .int .u8 56, .int .u8 2, .int .u8 57, .int .u8 49, .int .u8 28, .int .u8 3, .int .u8 61, .int .u8 58, .int .u8 42, .int .u8 50, .int .u8 38, .int .u8 29, .int .u8 17, .int .u8 4, .int .u8 62, .int .u8 47, .int .u8 59, .int .u8 36, .int .u8 45, .int .u8 43, .int .u8 51, .int .u8 22, .int .u8 53, .int .u8 39, .int .u8 33, .int .u8 30, .int .u8 24, .int .u8 18, .int .u8 12, .int .u8 5, .int .u8 63, .int .u8 55, .int .u8 48, .int .u8 27, .int .u8 60, .int .u8 41, .int .u8 37, .int .u8 16, .int .u8 46, .int .u8 35, .int .u8 44, .int .u8 21, .int .u8 52, .int .u8 32, .int .u8 23, .int .u8 11, .int .u8 54, .int .u8 26, .int .u8 40, .int .u8 15, .int .u8 34, .int .u8 20, .int .u8 31, .int .u8 10, .int .u8 25, .int .u8 14, .int .u8 19, .int .u8 9, .int .u8 13, .int .u8 8, .int .u8 7, .int .u8 6] t frozen | o => o)
      |>.modify 3 (fun o => match o with | .cells _ t frozen => .cells #[.int .u64 1, .int .u64 10, .int .u64 100, .int .u64 1000, .int .u64 10000, .int .u64 100000, .int .u64 1000000, .int .u64 10000000, .int .u64 100000000, .int .u64 1000000000, .int .u64 10000000000, .int .u64 100000000000, .int .u64 1000000000000, .int .u64 10000000000000, .int .u64 100000000000000, .int .u64 1000000000000000, .int .u64 10000000000000000, .int .u64 100000000000000000, .int .u64 1000000000000000000, .int .u64 10000000000000000000] t frozen | o => o)
      |>.modify 2 (fun o => match o with | .cells _ t frozen => .cells #[.int .u8 48, .int .u8 49, .int .u8 50, .int .u8 51, .int .u8 52, .int .u8 53, .int .u8 54, .int .u8 55, .int .u8 56, .int .u8 57, .int .u8 97, .int .u8 98, .int .u8 99, .int .u8 100, .int .u8 101, .int .u8 102] t frozen | o => o)
      |>.modify 0 (fun o => match o with | .cells _ t frozen => .cells #[.string ⟨#[108, 101, 110, 100]⟩, .string ⟨#[116, 111, 117, 99, 104]⟩, .string ⟨#[108, 97, 115, 116]⟩, .string ⟨#[98, 97, 99, 107]⟩, .string ⟨#[116, 105, 99, 107]⟩, .string ⟨#[112, 111, 119, 101, 114]⟩, .string ⟨#[102, 105, 108, 101]⟩, .string ⟨#[109, 97, 107, 101]⟩, .string ⟨#[114, 101, 109, 111, 118, 101]⟩, .string ⟨#[102, 105, 108, 108]⟩] t frozen | o => o)) } #[.string ByteArray.empty] rfl (by kernel_rfl) (by kernel_rfl) (by kernel_rfl)
      (OpenSpec.preRow_of_cond 8 hx (by kernel_rfl) (fun k hk => by cases hk) (by kernel_rfl) (laid_met os))) ?_
  intro W base args ds gs before hval hW _ _ _ hL _ _
  exact contract H enc W base args ds gs before hval hW hL

theorem said : Rows.FnExactReadEventSaid :=
  OpenClaim.holds_of_cond 3 Tryd.f3 rfl rfl rfl rfl rfl rfl rfl ⟨rfl, rfl, rfl, rfl, rfl⟩ rfl rfl rfl rfl rfl (by kernel_rfl) Tryd.func3 (by kernel_rfl)
    (of_decide_eq_true (by kernel_rfl)) (by unfold Func.isWrapper; first | (rw [if_pos (by decide +kernel)]; kernel_rfl) | (rw [if_neg (by decide +kernel)]; exact ⟨rfl, rfl⟩))
    (fun os started H enc _ F => by rw [OpenClaim.pre_eq_preRow]; exact lifted os started H enc F)

theorem plain (f : FuncId) (fn : Func) (hf : Tryd.pinned.checked.prog.funcNamed "loop.example/g00278/laws.FnExactReadEvent" = some f) (hfn : Tryd.pinned.checked.prog.funcs[f]? = some fn) :
    false = Tryd.pinned.checked.prog.looks [] ∧ ∀ (j : Nat) t, fn.params[j]? = some t → Tryd.pinned.checked.prog.wantsStandIn t = false := by
  obtain rfl : f = 3 := Option.some.inj ((show Tryd.prog.funcNamed "loop.example/g00278/laws.FnExactReadEvent" = some 3 by kernel_rfl).symm.trans hf) |>.symm
  obtain rfl : fn = Tryd.f3 := (Option.some.inj (Tryd.func3.symm.trans hfn)).symm
  refine ⟨by kernel_rfl, fun j t ht => ?_⟩
  rw [Tryd.params3] at ht
  obtain rfl : t = 9 := by simpa using Array.mem_of_getElem? ht
  exact (show Tryd.prog.wantsStandIn 9 = false by kernel_rfl)

theorem card : Rows.FnExactReadEventCardSaid :=
  Claim7.holds_tied_plain_at .later [] _ _ _ _ said (fun _ h => by cases h) (by kernel_rfl) (fun _ h => by cases h) fnExactReadEvent_row_tie rfl ⟨rfl, rfl⟩ (by kernel_rfl) rfl plain (by kernel_rfl)
end Go.Proofs.YtjajclifjojblaaDoor.fnExactReadEvent

namespace Go.Proofs.YtjajclifjojblaaDoor
theorem fnExactReadEvent_proved : Rows.FnExactReadEventCardSaid := fnExactReadEvent.card
#print axioms fnExactReadEvent_proved
end Go.Proofs.YtjajclifjojblaaDoor
