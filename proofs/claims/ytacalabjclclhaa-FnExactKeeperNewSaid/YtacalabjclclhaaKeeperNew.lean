/- KeeperNew of the program answers as its specification does at every owner, and its answer owns its memory; there are no conditions. -/
import Derived.Test.YtacalabjclclhaaRows
import Derived.Test.YtacalabjclclhaaJkA
import Derived.WalkKit
import Derived.ProofKit
import Derived.OpenShut
import Derived.ShutString
namespace Go.Proofs.Ytacalabjclclhaa.fnExactKeeperNew
open Go.ChangeShapes Go.WideShapes Go.ChangeAt Go.RowKit
open Go.ChangeMaps (open_string shut_string)
set_option linter.unusedVariables false
set_option linter.unusedSimpArgs false

theorem own : ownKnob Try.prog.godebug = none := by kernel_rfl

set_option maxHeartbeats 4000000 in
set_option maxRecDepth 10000 in
theorem walk (a0 : Int) (w : World) (w0 : (Lit.int .i64 a0).wf = true) :
    Calls Try.prog 16 #[.int .i64 a0] w fun e w' => e = .returned (.bool true) ∧ Below w.heap.size w w' := by
  have HI : Hid (∀ W, Calls Try.prog 81 #[.int .i64 a0] W fun e w' => e = .returned (.tuple #[Z5.kv (Z5.knew a0).mem (Z5.knew a0).dur, .bool (Z5.kok a0)]) ∧ Below W.heap.size W w') := fun W => Z5.impl_KeeperNew a0 W
  have HS : Hid (∀ W, Calls Try.prog 80 #[.int .i64 a0] W fun e w' => e = .returned (.tuple #[Z5.kv (Z5.knew a0).mem (Z5.knew a0).dur, .bool (Z5.kok a0)]) ∧ Below W.heap.size W w') := fun W => Z5.spec_KeeperNew a0 W
  obtain ⟨m, hm⟩ : ∃ m, (Z5.knew a0).mem = m := ⟨_, rfl⟩
  obtain ⟨d, hd⟩ : ∃ d, (Z5.knew a0).dur = d := ⟨_, rfl⟩
  obtain ⟨t, ht⟩ : ∃ t, Z5.kok a0 = t := ⟨_, rfl⟩
  rw [hm, hd, ht] at HI HS
  have et : (t != t) = false := by simp
  clear hm hd ht
  go_enter Try.func16, Try.ntmps16
  go_wp2_with (first
    | (go_at_call 80; refine (HS.out _).mono ?_; rintro e w1 ⟨rfl, b1⟩; have f1 := b1.alloc b1.size (.cells #[.string m, .string d, .slice none 0 0, .int .i64 0] 91); have k1 := K0.blk_new (Z5.kvs m d) w1 91)
    | (go_at_call 82; refine (Z5.markKeeper0 _ _ _ _).mono ?_; rintro e w4 ⟨rfl, b4⟩; have f4 := f3.trans (b4.mono f3.size); have k1d := k1c.below b4; have k2d := k2c.below b4; have j0 := k2d.c0; have j1 := k2d.c1; have j2 := k2d.c2; have j3 := k2d.c3)
    | (go_at_call 81; have f5' := f5; refine (HI.out _).mono ?_; rintro e w6 ⟨rfl, b6⟩; have f6 := (f5.trans (b6.mono f5.size)).alloc (f5.trans (b6.mono f5.size)).size (.cells #[.string m, .string d, .slice none 0 0, .int .i64 0] 91); have k1f := (k1e.below b6).alloc (.cells #[.string m, .string d, .slice none 0 0, .int .i64 0] 91); have k2f := (k2e.below b6).alloc (.cells #[.string m, .string d, .slice none 0 0, .int .i64 0] 91); have l0 := k1f.c0; have l1 := k1f.c1; have l2 := k1f.c2; have l3 := k1f.c3)
    | (go_at_call 81; refine (HI.out _).mono ?_; rintro e w2 ⟨rfl, b2⟩; have f2 := (f1.trans (b2.mono f1.size)).alloc (f1.trans (b2.mono f1.size)).size (.cells #[.string m, .string d, .slice none 0 0, .int .i64 0] 91); have k1b := (k1.below b2).alloc (.cells #[.string m, .string d, .slice none 0 0, .int .i64 0] 91); have k2b := K0.blk_new (Z5.kvs m d) w2 91; have c0 := k1b.c0; have c1 := k1b.c1; have c2 := k1b.c2; have c3 := k1b.c3)
    | (go_at_call 83; have f7' := f7; refine (Z5.heldKeeper0 _ _ _ _ (by decide)).mono ?_; rintro e w8 ⟨rfl, b8⟩; have f8 := f7.trans (b8.mono f7.size))
    | (go_at_call 83; refine (Z5.heldKeeper0 _ _ _ _ (by decide)).mono ?_; rintro e w5 ⟨rfl, b5⟩; have f5 := f4.trans (b5.mono f4.size); have k1e := k1d.below b5; have k2e := k2d.below b5)
    | (go_at_call 79; have f6' := f6; refine (Z5.eqKeeper0 _ _ _).mono ?_; rintro e w7 ⟨rfl, b7⟩; have f7 := f6.trans (b7.mono f6.size); have k2g := k2f.below b7; have g0 := k2g.c0; have g1 := k2g.c1; have g2 := k2g.c2; have g3 := k2g.c3)
    | (go_at_call 79; refine (Z5.eqKeeper0 _ _ _).mono ?_; rintro e w3 ⟨rfl, b3⟩; have f3 := f2.trans (b3.mono f2.size); have k1c := k1b.below b3; have k2c := k2b.below b3; have i0 := k2c.c0; have i1 := k2c.c1; have i2 := k2c.c2; have i3 := k2c.c3))
  go_ret
  exact ⟨rfl, f8⟩

set_option maxRecDepth 100000 in
theorem lifted (os : Os) (started : os.Started) (H : Type) (enc : TypeId × Value → H) :
    ReturnsInHanded {} Try.checked os 16 .any (Rows.fnExactKeeperNewSpec.pre6 enc Try.prog Try.f16 Rows.fnExactKeeperNewRow.domain false) (Rows.fnExactKeeperNewSpec.post enc Try.prog Try.f16 false true false false) := by
  refine returnsInHanded_of_change (C := Try.checked) own started (by kernel_rfl) Try.func16
    (ChangeSpec.witness6 (enc := enc) (C := Try.checked) false ⟨#[], #[.int .i64 0], []⟩ 8 (by kernel_rfl) (by kernel_rfl) (by kernel_rfl) (by kernel_rfl)) ?_
  intro W base args ds gs before hval0 hW hcnd _
  have hval : ∀ (j : Nat) t v, Try.f16.params[j]? = some t → args[j]? = some v → Value.okWide Try.prog W .any base t v := hval0
  have hW' := hW
  obtain ⟨p, q, hA0, hV, rfl, hfz, hnd⟩ := hW
  have hA : DataW.TrodAll enc Try.prog W 0 (fun _ => true) true Try.f16.params.toList args.toList ds p := hA0
  rw [Try.params16] at hA hval
  obtain ⟨v0, vs0, d0, ds0, p0, q0, hargs, rfl, rfl, h0, r0⟩ := trodAll_cons hA
  obtain ⟨rfl, rfl, rfl⟩ := trodAll_nil r0
  obtain rfl : args = #[v0] := by cases args; simp_all
  obtain ⟨rfl, rfl⟩ := trodVars_none hV
  obtain ⟨a0, rfl, rfl, rfl, w0⟩ := open_int Try.underlying3 (hval 0 3 v0 rfl rfl) h0
  clear hA0 hval0
  simp only [List.append_nil] at hW'
  refine (walk a0 W w0).mono fun e W' ⟨he, hg⟩ => ?_
  subst he
  exact ⟨_, rfl, _, _, _, [], [], [], hW', (trodAll_cons_mk (shut_bool Try.underlying4 _) trodAll_mk0), (trodAll_cons_mk (shut_int Try.underlying3 w0) trodAll_mk0), rfl, hg.frame _, fun h => by cases h⟩

theorem over : Rows.fnExactKeeperNewRow.holds Try.pinned (OpenSpec.ofChange Rows.fnExactKeeperNewSpec) :=
  OpenClaim.holds_of_wide 16 Try.f16 rfl rfl rfl rfl rfl rfl rfl ⟨rfl, rfl, rfl, rfl, rfl⟩ rfl rfl rfl rfl rfl (by kernel_rfl) Try.func16 (by kernel_rfl)
    (of_decide_eq_true (by kernel_rfl)) (by unfold Func.isWrapper; first | (rw [if_pos (by decide +kernel)]; kernel_rfl) | (rw [if_neg (by decide +kernel)]; exact ⟨rfl, rfl⟩))
    (fun os started H enc _ => lifted os started H enc)

theorem proved : Rows.FnExactKeeperNewSaid :=
  over
end Go.Proofs.Ytacalabjclclhaa.fnExactKeeperNew

namespace Go.Proofs.Ytacalabjclclhaa
theorem fnExactKeeperNew_proved : Rows.FnExactKeeperNewSaid := fnExactKeeperNew.proved
#print axioms fnExactKeeperNew_proved
end Go.Proofs.Ytacalabjclclhaa
