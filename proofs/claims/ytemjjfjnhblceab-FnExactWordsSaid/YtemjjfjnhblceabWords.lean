/- Proved: 'laws.FnExactWords' answers true at every string, and leaves its argument as it was; no condition. -/
import Derived.Test.YtemjjfjnhblceabRows
import Derived.Test.YtemjjfjnhblceabWords3
import Derived.WalkKit
import Derived.ProofKit
import Derived.OpenShut
import Derived.ShutString
namespace Go.Proofs.Ytemjjfjnhblceab.fnExactWords
open Go.ChangeShapes Go.WideShapes Go.ChangeAt Go.RowKit
open Go.ChangeMaps (open_string shut_string)
set_option linter.unusedVariables false

theorem own : ownKnob Try.prog.godebug = none := by kernel_rfl


theorem walk (a0 : ByteArray) (w0 : a0.size ≤ maxLen) (w : World) :
    Calls Try.prog 4 #[.string a0] w fun e w' => e = .returned (.bool true) ∧ Below w.heap.size w w' := by
  have hs := w0
  unfold maxLen at hs
  by_cases hbig : 1048576 < (a0.size : Int)
  · go_enter Try.func4, Try.ntmps4
    go_wp2
    go_ret
    exact ⟨rfl, Below.refl _ _⟩
  · have hl := W0.words_len a0
    have hst := W0.st_le a0 a0.size
    have hl1 : 0 < (W0.words a0).length := by omega
    have hl2 : (W0.words a0).length ≤ 1048577 := by omega
    clear hl hst
    go_enter Try.func4, Try.ntmps4
    go_wp2_with (first
      | (go_at_call 7; refine (W1.spec_Words a0 w (by omega)).mono ?_; rintro e w1 ⟨g1, c1, rfl, own1, b1⟩; obtain ⟨r1, k1, -⟩ := W0.row_of_owns own1 hl1; clear own1)
      | (go_at_call 8; refine (W1.impl_Words a0 w4 (by omega)).mono ?_; rintro e w5 ⟨g3, c3, rfl, own3, b5⟩; obtain ⟨r3, k3, -⟩ := W0.row_of_owns own3 hl1; have r1e := r1d.below b5; have r2e := r2d.below b5; have f5 := f4.trans (b5.mono f4.size); clear own3)
      | (go_at_call 8; refine (W1.impl_Words a0 w1 (by omega)).mono ?_; rintro e w2 ⟨g2, c2, rfl, own2, b2⟩; obtain ⟨r2, k2, -⟩ := W0.row_of_owns own2 hl1; have r1b := r1.below b2; have f2 := b1.trans (b2.mono b1.size); have hne : g1 ≠ g2 := (by have := r1.lt; omega); have hg2 : w.heap.size ≤ g2 := Nat.le_trans b1.size k2; clear own2)
      | (go_at_call 9; refine (M1.eqS (W0.words a0) g3 c3 g1 c1 w5 r3 r1e (by omega)).mono ?_; rintro e w6 ⟨rfl, n6, rfl⟩; have f6 := W3.below_drew f5 n6; have r2f := W3.row_drew r2e n6)
      | (go_at_call 9; refine (M1.eqS (W0.words a0) g2 c2 g1 c1 w2 r2 r1b (by omega)).mono ?_; rintro e w2' ⟨rfl, n2, rfl⟩; have f2d := W3.below_drew f2 n2; have r1c := W3.row_drew r1b n2; have r2c := W3.row_drew r2 n2)
      | (go_at_call 10; refine (M1.markS (W0.words a0).length g2 c2 (w2.drewN n2) r2c.lt (W3.some_of_row r2c) r2c.free (by omega)).mono ?_; rintro e w3 ⟨rfl, gr3, r2m⟩; have f3 := W0.below_grown f2d gr3 (fun g h => by obtain rfl := Option.some.inj h; exact hg2) f2d.size; have r1m := W3.row_grown r1c gr3 hne)
      | (go_at_call 11; refine (M1.heldS (W0.words a0).length g2 c2 (w5.drewN n6) r2f (by omega)).mono ?_; rintro e w7 ⟨rfl, b7⟩; have f7 := f6.trans (b7.mono f6.size))
      | (go_at_call 11; refine (M1.heldS (W0.words a0).length g2 c2 w3 r2m (by omega)).mono ?_; rintro e w4 ⟨rfl, b4⟩; have f4 := f3.trans (b4.mono f3.size); have r1d := r1m.below b4; have r2d := r2m.below b4))
    go_ret
    exact ⟨rfl, f7⟩

set_option maxRecDepth 100000 in
theorem lifted (os : Os) (started : os.Started) (H : Type) (enc : TypeId × Value → H) :
    ReturnsInHanded {} Try.checked os 4 .any (Rows.fnExactWordsSpec.pre6 enc Try.prog Try.f4 Rows.fnExactWordsRow.domain false) (Rows.fnExactWordsSpec.post enc Try.prog Try.f4 false true false false) := by
  refine returnsInHanded_of_change (C := Try.checked) own started (by kernel_rfl) Try.func4
    (ChangeSpec.witness6 (enc := enc) (C := Try.checked) false ⟨#[], #[.string ByteArray.empty], []⟩ 8 (by kernel_rfl) (by kernel_rfl) (by kernel_rfl) (by kernel_rfl)) ?_
  intro W base args ds gs before hval0 hW hcnd _
  have hval : ∀ (j : Nat) t v, Try.f4.params[j]? = some t → args[j]? = some v → Value.okWide Try.prog W .any base t v := hval0
  have hW' := hW
  obtain ⟨p, q, hA0, hV, rfl, hfz, hnd⟩ := hW
  have hA : DataW.TrodAll enc Try.prog W 0 (fun _ => true) true Try.f4.params.toList args.toList ds p := hA0
  rw [Try.params4] at hA hval
  obtain ⟨v0, vs0, d0, ds0, p0, q0, hargs, rfl, rfl, h0, r0⟩ := trodAll_cons hA
  obtain ⟨rfl, rfl, rfl⟩ := trodAll_nil r0
  obtain rfl : args = #[v0] := by cases args; simp_all
  obtain ⟨rfl, rfl⟩ := trodVars_none hV
  obtain ⟨a0, rfl, rfl, rfl, w0⟩ := open_string Try.underlying9 (hval 0 9 v0 rfl rfl) h0
  clear hA0 hval0
  simp only [List.append_nil] at hW'
  refine (walk a0 w0 W).mono fun e W' ⟨he, hg⟩ => ?_
  subst he
  exact ⟨_, rfl, _, _, _, [], [], [], hW', (trodAll_cons_mk (shut_bool Try.underlying4 _) trodAll_mk0), (trodAll_cons_mk (shut_string Try.underlying9 w0) trodAll_mk0), rfl, hg.frame _, fun h => by cases h⟩

theorem over : Rows.fnExactWordsRow.holds Try.pinned (OpenSpec.ofChange Rows.fnExactWordsSpec) :=
  OpenClaim.holds_of_wide 4 Try.f4 rfl rfl rfl rfl rfl rfl rfl ⟨rfl, rfl, rfl, rfl, rfl⟩ rfl rfl rfl rfl rfl (by kernel_rfl) Try.func4 (by kernel_rfl)
    (of_decide_eq_true (by kernel_rfl)) (by unfold Func.isWrapper; first | (rw [if_pos (by decide +kernel)]; kernel_rfl) | (rw [if_neg (by decide +kernel)]; exact ⟨rfl, rfl⟩))
    (fun os started H enc _ => lifted os started H enc)

theorem proved : Rows.FnExactWordsSaid :=
  over
end Go.Proofs.Ytemjjfjnhblceab.fnExactWords

namespace Go.Proofs.Ytemjjfjnhblceab
theorem fnExactWords_proved : Rows.FnExactWordsSaid := fnExactWords.proved
#print axioms fnExactWords_proved
end Go.Proofs.Ytemjjfjnhblceab
