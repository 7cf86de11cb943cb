/- Proved: 'laws.FnExactLook' answers true at every keeper and whatever numbers, and leaves its arguments as they were. -/
import Derived.Test.YtljnkicgahepfaaGreatDoorCards
import Derived.Test.YtljnkicgahepfaaGreatDoorTie
import Derived.Test.YtljnkicgahepfaaGreatDoorJlZQ
import Derived.Test.YtljnkicgahepfaaGreatDoorLkC
import Derived.WalkKit
import Derived.ProofKit
import Derived.OpenShut
import Derived.ShutString
import Derived.OpenVars
import Derived.ChangeOld
import Derived.Below
import Derived.Deep.DeepHandedRow
import Derived.Lib.LaidTab
namespace Go.Proofs.YtljnkicgahepfaaGreatDoor.fnExactLook
open Go.ChangeShapes Go.WideShapes Go.ChangeAt Go.RowKit
open Go.ChangeMaps (open_string shut_string)
set_option linter.unusedVariables false

theorem own : ownKnob Tryz.prog.godebug = none := by kernel_rfl
theorem laidOut : laidOutB Tryz.prog = true := by kernel_rfl

theorem vars_more {H : Type} {enc : TypeId × Value → H} {P : Program} {w : World} {sp : Nat → Bool} {n : String} {ns : List String} {gs : List (DataW H)} {ps : List MemPlace} (h : DataW.TrodVars enc P w sp (n :: ns) gs ps) : ∃ g gs' ps', gs = g :: gs' ∧ DataW.TrodVars enc P w sp ns gs' ps' := by
  match gs, h with
  | [], h => exact h.elim
  | g1 :: r, h =>
    obtain ⟨_, _, _, _, _, q, _, _, _, _, h2, _⟩ := h
    exact ⟨g1, r, q, rfl, h2⟩

set_option maxHeartbeats 4000000 in
set_option maxRecDepth 10000 in
theorem contract (H : Type) (enc : TypeId × Value → H) (W : World) (base : Nat) (args : Array Value) (ds gs : List (DataW H)) (before : List MemPlace)
    (hval : ∀ (j : Nat) t v, Tryz.f5.params[j]? = some t → args[j]? = some v → Value.okWide Tryz.prog W .any base t v)
    (hW : DataW.Whole enc Tryz.prog Tryz.f5.params.toList Rows.fnExactLookSpec.vars false W args.toList ds gs before)
    (hEr : ∃ pN pD pB pF, WO.Errs pN pD pB pF W ∧ pF ≠ pN ∧ pF ≠ pD ∧ pF ≠ pB) :
    Calls Tryz.prog 5 args W fun e W' => ∃ v, e = .returned v ∧ Rows.fnExactLookSpec.post enc Tryz.prog Tryz.f5 false true false false W args v W' := by
  have hW' := hW
  obtain ⟨p, q, hA0, hV, rfl, hfz, hnd⟩ := hW
  have hA : DataW.TrodAll enc Tryz.prog W 0 (fun _ => true) true Tryz.f5.params.toList args.toList ds p := hA0
  rw [Tryz.params5] at hA hval
  obtain ⟨v0, vs0, d0, ds0, p0, q0, hargs, rfl, rfl, h0, r0⟩ := trodAll_cons hA
  obtain ⟨v1, vs1, d1, ds1, p1, q1, rfl, rfl, rfl, h1, r1⟩ := trodAll_cons r0
  obtain ⟨v2, vs2, d2, ds2, p2, q2, rfl, rfl, rfl, h2, r2⟩ := trodAll_cons r1
  obtain ⟨v3, vs3, d3, ds3, p3, q3, rfl, rfl, rfl, h3, r3⟩ := trodAll_cons r2
  obtain ⟨rfl, rfl, rfl⟩ := trodAll_nil r3
  obtain rfl : args = #[v0, v1, v2, v3] := by cases args; simp_all
  have hV0 : DataW.TrodVars enc Tryz.prog W (fun _ => true) Rows.fnExactLookSpec.vars gs q := hV
  obtain ⟨g1, s1, _, rfl, w1⟩ := vars_more hV
  obtain ⟨g2, s2, _, rfl, w2⟩ := vars_more w1
  obtain ⟨g3, s3, _, rfl, w3⟩ := vars_more w2
  obtain ⟨g4, s4, _, rfl, w4⟩ := vars_more w3
  obtain ⟨g5, s5, _, rfl, w5⟩ := vars_more w4
  obtain ⟨rfl, -⟩ := trodVars_none w5
  have kk0 := h0
  have lt0 : ∀ x ∈ p0, x.block < W.heap.size := by obtain ⟨m, hm⟩ := kk0; exact DataW.trod_lt m _ _ _ hm
  obtain ⟨k0, a0, c0, s0, rfl, x0, R0⟩ := Z0.open_keeper (hval 0 41 v0 rfl rfl) h0
  obtain ⟨cl, rfl, rfl, rfl, wc⟩ := open_int Tryz.underlying3 (hval 1 3 v1 rfl rfl) h1
  obtain ⟨i, rfl, rfl, rfl, wi⟩ := open_int Tryz.underlying3 (hval 2 3 v2 rfl rfl) h2
  obtain ⟨n, rfl, rfl, rfl, wn⟩ := open_int Tryz.underlying3 (hval 3 3 v3 rfl rfl) h3
  clear hA0
  obtain ⟨pN, pD, pB, pF, hE, e1, e2, e3⟩ := hEr
  refine (WU.walk W k0 a0 c0 s0 x0 R0 cl i n wi wn pN pD pB pF hE e1 e2 e3).mono fun e W' ⟨he, hg⟩ => ?_
  subst he
  exact ⟨_, rfl, _, _, _, [], _, q, hW', trodAll_mk1 (shut_bool Tryz.underlying4 _), (trodAll_cons_mk (Below.trod laidOut (by kernel_rfl) (of_decide_eq_true (by kernel_rfl)) kk0 hg lt0) (trodAll_cons_mk (shut_int Tryz.underlying3 wc) (trodAll_cons_mk (shut_int Tryz.underlying3 wi) (trodAll_cons_mk (shut_int Tryz.underlying3 wn) trodAll_mk0)))), (Below.trodVars laidOut hg (by kernel_rfl) hV0), hg.frame _, fun h => by cases h⟩

/-- The first number behind the variables. -/
def low (P : Program) : Nat := (World.holding P default ⟨#[], #[], []⟩).heap.size
def laidWorld (P : Program) (os : Os) : World := { World.holding P os ⟨#[.cells #[.string ⟨#[116, 104, 101, 114, 101, 32, 105, 115, 32, 110, 111, 32, 115, 117, 99, 104, 32, 105, 110, 111, 100, 101, 44, 32, 111, 114, 32, 110, 111, 32, 115, 117, 99, 104, 32, 108, 111, 97, 110]⟩] 375, .cells #[.string ⟨#[116, 104, 101, 32, 105, 110, 111, 100, 101, 32, 98, 101, 108, 111, 110, 103, 115, 32, 116, 111, 32, 97, 110, 111, 116, 104, 101, 114]⟩] 375, .cells #[.string ⟨#[116, 104, 101, 32, 105, 110, 111, 100, 101, 32, 105, 115, 32, 108, 101, 110, 116]⟩] 375, .cells #[.string ⟨#[116, 104, 101, 32, 98, 121, 116, 101, 115, 32, 97, 114, 101, 32, 110, 111, 116, 32, 108, 101, 110, 116]⟩] 375, .cells #[.string ⟨#[119, 104, 97, 116, 32, 99, 97, 109, 101, 32, 98, 97, 99, 107, 32, 105, 115, 32, 112, 117, 116, 32, 98, 97, 99, 107]⟩] 375], #[], []⟩ with heap := ((World.holding P os ⟨#[.cells #[.string ⟨#[116, 104, 101, 114, 101, 32, 105, 115, 32, 110, 111, 32, 115, 117, 99, 104, 32, 105, 110, 111, 100, 101, 44, 32, 111, 114, 32, 110, 111, 32, 115, 117, 99, 104, 32, 108, 111, 97, 110]⟩] 375, .cells #[.string ⟨#[116, 104, 101, 32, 105, 110, 111, 100, 101, 32, 98, 101, 108, 111, 110, 103, 115, 32, 116, 111, 32, 97, 110, 111, 116, 104, 101, 114]⟩] 375, .cells #[.string ⟨#[116, 104, 101, 32, 105, 110, 111, 100, 101, 32, 105, 115, 32, 108, 101, 110, 116]⟩] 375, .cells #[.string ⟨#[116, 104, 101, 32, 98, 121, 116, 101, 115, 32, 97, 114, 101, 32, 110, 111, 116, 32, 108, 101, 110, 116]⟩] 375, .cells #[.string ⟨#[119, 104, 97, 116, 32, 99, 97, 109, 101, 32, 98, 97, 99, 107, 32, 105, 115, 32, 112, 117, 116, 32, 98, 97, 99, 107]⟩] 375], #[], []⟩).heap
      |>.modify 2 (fun o => match o with | .cells _ t frozen => .cells #[.iface 353 (.pointer (some ⟨low P + 0, 0, none⟩))] t frozen | o => o)
      |>.modify 3 (fun o => match o with | .cells _ t frozen => .cells #[.iface 353 (.pointer (some ⟨low P + 1, 0, none⟩))] t frozen | o => o)
      |>.modify 4 (fun o => match o with | .cells _ t frozen => .cells #[.iface 353 (.pointer (some ⟨low P + 2, 0, none⟩))] t frozen | o => o)
      |>.modify 0 (fun o => match o with | .cells _ t frozen => .cells #[.iface 353 (.pointer (some ⟨low P + 3, 0, none⟩))] t frozen | o => o)
      |>.modify 5 (fun o => match o with | .cells _ t frozen => .cells #[.iface 353 (.pointer (some ⟨low P + 4, 0, none⟩))] t frozen | o => o)) }
theorem laid_met (os : Os) : laidMet Tryz.prog Rows.fnExactLookRow.laid ((laidWorld Tryz.prog os).forCall (fun _ _ => 0) ⟨#[], #[.agg #[.string ByteArray.empty, .string ByteArray.empty, .slice none 0 0, .int .i64 0], .int .i64 0, .int .i64 0, .int .i64 0], []⟩).memory :=
  laidMet_of_run' 8 (by kernel_rfl) (by kernel_rfl)

set_option maxRecDepth 100000 in
theorem lifted (os : Os) (started : os.Started) (H : Type) (enc : TypeId × Value → H) (F : Stop.Interp) :
    ReturnsInHanded {} Tryz.checked os 5 .any ((OpenSpec.ofChange Rows.fnExactLookSpec).preRow enc Tryz.prog Tryz.f5 Rows.fnExactLookRow.domain false Rows.fnExactLookRow.laid) (((OpenSpec.ofChange Rows.fnExactLookSpec).at F).post enc Tryz.prog Tryz.f5 false true false false) := by
  refine returnsInHanded_of_row (C := Tryz.checked) (s := OpenSpec.ofChange Rows.fnExactLookSpec) own started (by kernel_rfl) Tryz.func5
    (witness_row_at (enc := enc) (C := Tryz.checked) false (laidWorld Tryz.prog os) #[.agg #[.string ByteArray.empty, .string ByteArray.empty, .slice none 0 0, .int .i64 0], .int .i64 0, .int .i64 0, .int .i64 0] rfl (by kernel_rfl) (by kernel_rfl) (by kernel_rfl)
      (OpenSpec.preRow_of_B rfl 8 (by kernel_rfl) (by kernel_rfl) (laid_met os))) ?_
  intro W base args ds gs before hval hW _ _ _ hL _ _
  exact contract H enc W base args ds gs before hval hW (WV.errs hL)

theorem said : Rows.FnExactLookSaid :=
  OpenClaim.holds_of_cond 5 Tryz.f5 rfl rfl rfl rfl rfl rfl rfl ⟨rfl, rfl, rfl, rfl, rfl⟩ rfl rfl rfl rfl rfl named Tryz.func5 closed
    (of_decide_eq_true (by kernel_rfl)) (by unfold Func.isWrapper; first | (rw [if_pos (by decide +kernel)]; kernel_rfl) | (rw [if_neg (by decide +kernel)]; exact ⟨rfl, rfl⟩))
    (fun os started H enc _ F => by rw [OpenClaim.pre_eq_preRow]; exact lifted os started H enc F)

theorem plain (f : FuncId) (fn : Func) (hf : Tryz.pinned.checked.prog.funcNamed "loop.example/g00278/laws.FnExactLook" = some f) (hfn : Tryz.pinned.checked.prog.funcs[f]? = some fn) :
    true = Tryz.pinned.checked.prog.looks [] ∧ ∀ (j : Nat) t, fn.params[j]? = some t → Tryz.pinned.checked.prog.wantsStandIn t = false := by
  obtain rfl : f = 5 := Option.some.inj ((show Tryz.prog.funcNamed "loop.example/g00278/laws.FnExactLook" = some 5 by kernel_rfl).symm.trans hf) |>.symm
  obtain rfl : fn = Tryz.f5 := (Option.some.inj (Tryz.func5.symm.trans hfn)).symm
  refine ⟨by kernel_rfl, fun j t ht => ?_⟩
  rw [Tryz.params5] at ht
  obtain rfl | rfl : t = 41 ∨ t = 3 := by simpa using Array.mem_of_getElem? ht
  · exact (show Tryz.prog.wantsStandIn 41 = false by kernel_rfl)
  · exact (show Tryz.prog.wantsStandIn 3 = false by kernel_rfl)

theorem card : Rows.FnExactLookCardSaid :=
  Claim7.holds_tied_plain_at .later [] _ _ _ _ said (fun _ h => by cases h) (by kernel_rfl) (fun _ h => by cases h) fnExactLook_row_tie rfl ⟨rfl, rfl⟩ (by kernel_rfl) rfl plain (by kernel_rfl)
end Go.Proofs.YtljnkicgahepfaaGreatDoor.fnExactLook

namespace Go.Proofs.YtljnkicgahepfaaGreatDoor
theorem fnExactLook_proved : Rows.FnExactLookCardSaid := fnExactLook.card
#print axioms fnExactLook_proved
end Go.Proofs.YtljnkicgahepfaaGreatDoor
