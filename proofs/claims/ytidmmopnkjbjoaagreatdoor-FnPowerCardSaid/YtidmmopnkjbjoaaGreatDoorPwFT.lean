/- Proved: 'laws.FnPower' answers true at every code, and leaves it as it was. -/
import Derived.Test.YtidmmopnkjbjoaaGreatDoorJpA
import Derived.Test.YtidmmopnkjbjoaaGreatDoorCards
import Derived.Test.YtidmmopnkjbjoaaGreatDoorTie
import Derived.Test.YtidmmopnkjbjoaaGreatDoorJpZI
import Derived.Test.YtidmmopnkjbjoaaGreatDoorPwC
import Derived.WalkKit
import Derived.ProofKit
import Derived.OpenShut
import Derived.ShutString
import Derived.OpenVars
import Derived.ChangeOld
import Derived.Below
import Derived.Deep.DeepHandedRow
import Derived.Lib.LaidTab
import Derived.Test.YtidmmopnkjbjoaaGreatDoorJpP
namespace Go.Proofs.YtidmmopnkjbjoaaGreatDoor.fnPower
open Go.ChangeShapes Go.WideShapes Go.ChangeAt Go.RowKit
open Go.ChangeMaps (open_string shut_string)
set_option linter.unusedVariables false

theorem own : ownKnob Tryz.prog.godebug = none := by kernel_rfl
theorem laidOut : laidOutB Tryz.prog = true := by kernel_rfl

/-- What the row lists of its tables, as the cells that a walk reads. -/
theorem tab_p {W : World} (h : laidMetH Tryz.prog Rows.fnPowerRow.laid W) : Lib.TabIs Tryz.prog W "internal/strconv.uint64pow10" .u64 [1, 10, 100, 1000, 10000, 100000, 1000000, 10000000, 100000000, 1000000000, 10000000000, 100000000000, 1000000000000, 10000000000000, 100000000000000, 1000000000000000, 10000000000000000, 100000000000000000, 1000000000000000000, 10000000000000000000] := by
  obtain ⟨ps, hl, _⟩ := (show laidMet Tryz.prog Rows.fnPowerRow.laid W from h)
  exact Jm (n := 20) (g := 7) (t := 299) (by kernel_rfl) (by kernel_rfl) Tryz.underlying299 Tryz.underlying202 (by kernel_rfl) (by kernel_rfl) Rows.fnPowerRow.laid ps hl 2 (by rfl)
theorem tab_h {W : World} (h : laidMetH Tryz.prog Rows.fnPowerRow.laid W) : Lib.TabIs Tryz.prog W "loop.example/g00278/impl.hexDigits" .u8 [48, 49, 50, 51, 52, 53, 54, 55, 56, 57, 97, 98, 99, 100, 101, 102] := by
  obtain ⟨ps, hl, _⟩ := (show laidMet Tryz.prog Rows.fnPowerRow.laid W from h)
  exact Jm (n := 16) (g := 6) (t := 243) (by kernel_rfl) (by kernel_rfl) Tryz.underlying243 Tryz.underlying5 (by kernel_rfl) (by kernel_rfl) Rows.fnPowerRow.laid ps hl 3 (by rfl)

theorem vars_more {H : Type} {enc : TypeId × Value → H} {P : Program} {w : World} {sp : Nat → Bool} {n : String} {ns : List String} {gs : List (DataW H)} {ps : List MemPlace} (h : DataW.TrodVars enc P w sp (n :: ns) gs ps) : ∃ g gs' ps', gs = g :: gs' ∧ DataW.TrodVars enc P w sp ns gs' ps' := by
  match gs, h with
  | [], h => exact h.elim
  | g1 :: r, h =>
    obtain ⟨_, _, _, _, _, q, _, _, _, _, h2, _⟩ := h
    exact ⟨g1, r, q, rfl, h2⟩

set_option maxHeartbeats 4000000 in
set_option maxRecDepth 10000 in
theorem contract (H : Type) (enc : TypeId × Value → H) (W : World) (base : Nat) (args : Array Value) (ds gs : List (DataW H)) (before : List MemPlace)
    (hval : ∀ (j : Nat) t v, Tryz.f3.params[j]? = some t → args[j]? = some v → Value.okWide Tryz.prog W .any base t v)
    (hW : DataW.Whole enc Tryz.prog Tryz.f3.params.toList Rows.fnPowerSpec.vars false W args.toList ds gs before)
    (hL : laidMetH Tryz.prog Rows.fnPowerRow.laid W) :
    Calls Tryz.prog 3 args W fun e W' => ∃ v, e = .returned v ∧ Rows.fnPowerSpec.post enc Tryz.prog Tryz.f3 false true false false W args v W' := by
  have hW' := hW
  obtain ⟨p, q, hA0, hV, rfl, hfz, hnd⟩ := hW
  have hA : DataW.TrodAll enc Tryz.prog W 0 (fun _ => true) true Tryz.f3.params.toList args.toList ds p := hA0
  rw [Tryz.params3] at hA hval
  obtain ⟨v0, vs0, d0, ds0, p0, q0, hargs, rfl, rfl, h0, r0⟩ := trodAll_cons hA
  obtain ⟨rfl, rfl, rfl⟩ := trodAll_nil r0
  obtain rfl : args = #[v0] := by cases args; simp_all
  have hV0 : DataW.TrodVars enc Tryz.prog W (fun _ => true) Rows.fnPowerSpec.vars gs q := hV
  obtain ⟨g1, s1, _, rfl, w1⟩ := vars_more hV
  obtain ⟨g2, s2, _, rfl, w2⟩ := vars_more w1
  obtain ⟨g3, s3, _, rfl, w3⟩ := vars_more w2
  obtain ⟨g4, s4, _, rfl, w4⟩ := vars_more w3
  obtain ⟨g5, s5, _, rfl, w5⟩ := vars_more w4
  obtain ⟨g6, s6, _, rfl, w6⟩ := vars_more w5
  obtain ⟨rfl, -⟩ := trodVars_none w6
  have kk0 := h0
  have lt0 : ∀ x ∈ p0, x.block < W.heap.size := by obtain ⟨m, hm⟩ := kk0; exact DataW.trod_lt m _ _ _ hm
  obtain ⟨m0, hm0⟩ := h0
  obtain ⟨a0, len0, cap0, rfl⟩ := okWide_slice Tryz.underlying22 (hval 0 22 v0 rfl rfl)
  obtain ⟨a1, n1, c1, e1, G0⟩ := aco (v := .slice a0 len0 cap0) hm0
  cases e1
  clear hA0
  refine (agh a0 len0 cap0 W G0 ⟨tab_h hL, tab_p hL⟩).mono fun e W' ⟨he, hg⟩ => ?_
  subst he
  exact ⟨_, rfl, _, _, _, [], _, q, hW', trodAll_mk1 (shut_bool Tryz.underlying4 _), (trodAll_cons_mk (Below.trod laidOut (by kernel_rfl) (of_decide_eq_true (by kernel_rfl)) kk0 hg lt0) trodAll_mk0), (Below.trodVars laidOut hg (by kernel_rfl) hV0), hg.frame _, fun h => by cases h⟩

/-- The first number behind the variables. -/
def low (P : Program) : Nat := (World.holding P default ⟨#[], #[], []⟩).heap.size
def errTexts : Input := ⟨#[.cells #[.string ⟨#[116, 104, 101, 114, 101, 32, 105, 115, 32, 110, 111, 32, 115, 117, 99, 104, 32, 105, 110, 111, 100, 101, 44, 32, 111, 114, 32, 110, 111, 32, 115, 117, 99, 104, 32, 108, 111, 97, 110]⟩] 326, .cells #[.string ⟨#[116, 104, 101, 32, 105, 110, 111, 100, 101, 32, 98, 101, 108, 111, 110, 103, 115, 32, 116, 111, 32, 97, 110, 111, 116, 104, 101, 114]⟩] 326, .cells #[.string ⟨#[116, 104, 101, 32, 105, 110, 111, 100, 101, 32, 105, 115, 32, 108, 101, 110, 116]⟩] 326, .cells #[.string ⟨#[116, 104, 101, 32, 98, 121, 116, 101, 115, 32, 97, 114, 101, 32, 110, 111, 116, 32, 108, 101, 110, 116]⟩] 326, .cells #[.string ⟨#[119, 104, 97, 116, 32, 99, 97, 109, 101, 32, 98, 97, 99, 107, 32, 105, 115, 32, 112, 117, 116, 32, 98, 97, 99, 107]⟩] 326], #[], []⟩
def laidWorld (P : Program) (os : Os) : World := { World.holding P os errTexts with heap := ((World.holding P os errTexts).heap
      |>.modify 1 (fun o => match o with | .cells _ t frozen => .cells #[.iface 303 (.pointer (some ⟨low P + 0, 0, none⟩))] t frozen | o => o)
      |>.modify 2 (fun o => match o with | .cells _ t frozen => .cells #[.iface 303 (.pointer (some ⟨low P + 1, 0, none⟩))] t frozen | o => o)
      |>.modify 3 (fun o => match o with | .cells _ t frozen => .cells #[.iface 303 (.pointer (some ⟨low P + 2, 0, none⟩))] t frozen | o => o)
      |>.modify 4 (fun o => match o with | .cells _ t frozen => .cells #[.iface 303 (.pointer (some ⟨low P + 3, 0, none⟩))] t frozen | o => o)
      |>.modify 5 (fun o => match o with | .cells _ t frozen => .cells #[.iface 303 (.pointer (some ⟨low P + 4, 0, none⟩))] t frozen | o => o)
      |>.modify 6 (fun o => match o with | .cells _ t frozen => .cells #[.int .u8 48, .int .u8 49, .int .u8 50, .int .u8 51, .int .u8 52, .int .u8 53, .int .u8 54, .int .u8 55, .int .u8 56, .int .u8 57, .int .u8 97, .int .u8 98, .int .u8 99, .int .u8 100, .int .u8 101, .int .u8 102] t frozen | o => o)
      |>.modify 7 (fun o => match o with | .cells _ t frozen => .cells #[.int .u64 1, .int .u64 10, .int .u64 100, .int .u64 1000, .int .u64 10000, .int .u64 100000, .int .u64 1000000, .int .u64 10000000, .int .u64 100000000, .int .u64 1000000000, .int .u64 10000000000, .int .u64 100000000000, .int .u64 1000000000000, .int .u64 10000000000000, .int .u64 100000000000000, .int .u64 1000000000000000, .int .u64 10000000000000000, .int .u64 100000000000000000, .int .u64 1000000000000000000, .int .u64 10000000000000000000] t frozen | o => o)
      |>.modify 8 (fun o => match o with | .cells _ t frozen => .cells #[.int .u8 0, .int .u8 1, .int .u8 28, .int .u8 2, .int .u8 29, .int .u8 14, .int .u8 24, .int .u8 3, .int .u8 30, .int .u8 22, .int .u8 20, .int .u8 15, .int .u8 25, .int .u8 17, .int .u8 4, .int .u8 8, .int .u8 31, .int .u8 27, .int .u8 13, .int .u8 23, .int .u8 21, .int .u8 19, .int .u8 16, .int .u8 7, .int .u8 26, .int .u8 12, .int .u8 18, .int .u8 6, .int .u8 11, .int .u8 5, .int .u8 10, .int .u8 9] t frozen | o => o)
      |>.modify 9 (fun o => match o with | .cells _ t frozen => .cells #[.int .u8 0, .int .u8 1, .int .u8 56, .int .u8 2, .int .u8 57, .int .u8 49, .int .u8 28, .int .u8 3, .int .u8 61, .int .u8 58, .int .u8 42, .int .u8 50, .int .u8 38, .int .u8 29, .int .u8 17, .int .u8 4, .int .u8 62, .int .u8 47, .int .u8 59, .int .u8 36, .int .u8 45, .int .u8 43, .int .u8 51, .int .u8 22, .int .u8 53, .int .u8 39, .int .u8 33, .int .u8 30, .int .u8 24, .int .u8 18, .int .u8 12, .int .u8 5, .int .u8 63, .int .u8 55, .int .u8 48, .int .u8 27, .int .u8 60, .int .u8 41, .int .u8 37, .int .u8 16, .int .u8 46, .int .u8 35, .int .u8 44, .int .u8 21, .int .u8 52, .int .u8 32, .int .u8 23, .int .u8 11, .int .u8 54, .int .u8 26, .int .u8 40, .int .u8 15, .int .u8 34, .int .u8 20, .int .u8 31, .int .u8 10, .int .u8 25, .int .u8 14, .int .u8 19, .int .u8 9, .int .u8 13, .int .u8 8, .int .u8 7, .int .u8 6] t frozen | o => o)) }
theorem laid_met (os : Os) : laidMet Tryz.prog Rows.fnPowerRow.laid ((laidWorld Tryz.prog os).forCall (fun _ _ => 0) ⟨#[], #[.slice none 0 0], []⟩).memory :=
  laidMet_of_run' 8 (by kernel_rfl) (by kernel_rfl)

set_option maxRecDepth 100000 in
theorem lifted (os : Os) (started : os.Started) (H : Type) (enc : TypeId × Value → H) (F : Stop.Interp) :
    ReturnsInHanded {} Tryz.checked os 3 .any ((OpenSpec.ofChange Rows.fnPowerSpec).preRow enc Tryz.prog Tryz.f3 Rows.fnPowerRow.domain false Rows.fnPowerRow.laid) (((OpenSpec.ofChange Rows.fnPowerSpec).at F).post enc Tryz.prog Tryz.f3 false true false false) := by
  refine returnsInHanded_of_row (C := Tryz.checked) (s := OpenSpec.ofChange Rows.fnPowerSpec) own started (by kernel_rfl) Tryz.func3
    (witness_row_at (enc := enc) (C := Tryz.checked) false (laidWorld Tryz.prog os) #[.slice none 0 0] rfl (by kernel_rfl) (by kernel_rfl) (by kernel_rfl)
      (OpenSpec.preRow_of_B rfl 8 (by kernel_rfl) (by kernel_rfl) (laid_met os))) ?_
  intro W base args ds gs before hval hW _ _ _ hL _ _
  exact contract H enc W base args ds gs before hval hW hL

theorem said : Rows.FnPowerSaid :=
  OpenClaim.holds_of_cond 3 Tryz.f3 rfl rfl rfl rfl rfl rfl rfl ⟨rfl, rfl, rfl, rfl, rfl⟩ rfl rfl rfl rfl rfl named Tryz.func3 closed
    (of_decide_eq_true (by kernel_rfl)) (by unfold Func.isWrapper; first | (rw [if_pos (by decide +kernel)]; kernel_rfl) | (rw [if_neg (by decide +kernel)]; exact ⟨rfl, rfl⟩))
    (fun os started H enc _ F => by rw [OpenClaim.pre_eq_preRow]; exact lifted os started H enc F)

theorem plain (f : FuncId) (fn : Func) (hf : Tryz.pinned.checked.prog.funcNamed "loop.example/g00278/laws.FnPower" = some f) (hfn : Tryz.pinned.checked.prog.funcs[f]? = some fn) :
    true = Tryz.pinned.checked.prog.looks [] ∧ ∀ (j : Nat) t, fn.params[j]? = some t → Tryz.pinned.checked.prog.wantsStandIn t = false := by
  obtain rfl : f = 3 := Option.some.inj ((show Tryz.prog.funcNamed "loop.example/g00278/laws.FnPower" = some 3 by kernel_rfl).symm.trans hf) |>.symm
  obtain rfl : fn = Tryz.f3 := (Option.some.inj (Tryz.func3.symm.trans hfn)).symm
  refine ⟨by kernel_rfl, fun j t ht => ?_⟩
  rw [Tryz.params3] at ht
  obtain rfl : t = 22 := by simpa using Array.mem_of_getElem? ht
  exact (show Tryz.prog.wantsStandIn 22 = false by kernel_rfl)

theorem card : Rows.FnPowerCardSaid :=
  Claim7.holds_tied_plain_at .later [] _ _ _ _ said (fun _ h => by cases h) (by kernel_rfl) (fun _ h => by cases h) fnPower_row_tie rfl ⟨rfl, rfl⟩ (by kernel_rfl) rfl plain (by kernel_rfl)
end Go.Proofs.YtidmmopnkjbjoaaGreatDoor.fnPower

namespace Go.Proofs.YtidmmopnkjbjoaaGreatDoor
theorem fnPower_proved : Rows.FnPowerCardSaid := fnPower.card
#print axioms fnPower_proved
end Go.Proofs.YtidmmopnkjbjoaaGreatDoor
