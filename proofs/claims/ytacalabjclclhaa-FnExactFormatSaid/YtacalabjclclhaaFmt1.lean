/- The contract of spec.Format, as the given laws call it. -/
import Derived.Test.YtacalabjclclhaaFmt0
import Derived.Deep.RegionHeld3
namespace Go.Proofs.Ytacalabjclclhaa.F4
open Go.ChangeShapes Go.WideShapes Go.ChangeAt Go.RowKit
set_option linter.unusedVariables false
set_option linter.unusedSimpArgs false
set_option maxRecDepth 10000
open I0 (val vals)

set_option maxHeartbeats 20000000 in
theorem spec_Format (o : Int) (w : World) : Calls Try.prog 53 #[.int .i64 o] w fun e w' => e = .returned (.string (fmt o)) ∧ Below w.heap.size w w' := by
  have k0 : Fm w o (w.alloc (.cells #[.int .i64 2, .int .i64 o, .int .i64 0, .slice none 0 0] 26)) := ⟨K0.blk_new (vals 2 o 0 none 0 0) w 26, K0.below_new _ _⟩
  by_cases hok : I0.ok 2 o 0 [] = true
  · have HF : Hid (fmt o = img o) := if_pos hok
    obtain ⟨z, hz⟩ : ∃ z, B4.zeros 768 = z := ⟨_, rfl⟩
    obtain ⟨g, hg⟩ : ∃ g, page0 = g := ⟨_, rfl⟩
    obtain ⟨p, hp⟩ : ∃ p, R0.putI 2 o 0 [] = p := ⟨_, rfl⟩
    obtain ⟨r, hr⟩ : ∃ r, L1.recAt 0 = r := ⟨_, rfl⟩
    obtain ⟨m, hm⟩ : ∃ m, img o = m := ⟨_, rfl⟩
    have z1 := zeros_le
    have g1 := page0_le
    have p1 := putI_le o
    have HG : Hid (B5.laid z 0 head = g) := show B5.laid z 0 head = g by rw [← hg, ← hz, page0]
    have HM : Hid (B5.laid g r p = m) := show B5.laid g r p = m by rw [← hg, ← hr, ← hp, ← hm, img]
    have HK : Hid (∀ W, Fm w o W → Calls Try.prog 33 #[val 2 o 0 none 0 0] W fun e w' => e = .returned (.bool true) ∧ Fm w o w') := fun W h => cOk hok h
    have HP : Hid (∀ W, Fm w o W → Calls Try.prog 29 #[val 2 o 0 none 0 0] W fun e w' => e = .returned (.string p) ∧ Fm w o w') := fun W h => cPut hp h
    have HZ : Hid (∀ W, Fm w o W → Calls Try.prog 101 #[.int .i64 768] W fun e w' => e = .returned (.string z) ∧ Fm w o w') := fun W h => cZeros hz h
    have HR : Hid (∀ W, Fm w o W → Calls Try.prog 37 #[.int .i64 0] W fun e w' => e = .returned (.int .i64 r) ∧ Fm w o w') := fun W h => cRec hr h
    rw [hz] at z1
    rw [hg] at g1
    rw [hp] at p1
    rw [HF.out, hm]
    clear HF hz hg hp hr hm hok
    go_enter Try.func53, Try.ntmps53
    go_wp2_with (go_at_call 33; refine (HK.out _ k0).mono ?_; rintro e w1 ⟨rfl, k1⟩; have x0 := k1.blk.c0; have x1 := k1.blk.c1; have x2 := k1.blk.c2; have x3 := k1.blk.c3)
    have k2 := k1.drewN 1
    have s2 := k2.four
    clear k1 x0 x1 x2 x3 k0
    go_region_held3 (fun W => W.cell? ⟨w.heap.size, 0, none⟩ = some (.int .i64 2) ∧ W.cell? ⟨w.heap.size, 1, none⟩ = some (.int .i64 o) ∧ W.cell? ⟨w.heap.size, 2, none⟩ = some (.int .i64 0) ∧ W.cell? ⟨w.heap.size, 3, none⟩ = some (.slice none 0 0)) (assumption) ((first
      | (go_at_call 101; refine (HZ.out _ (by assumption)).mono ?_; rintro e w2 ⟨rfl, k2⟩; have s2 := k2.four)
      | (go_at_call 37; refine (HR.out _ (by assumption)).mono ?_; rintro e w2 ⟨rfl, k2⟩; have s2 := k2.four)
      | (go_at_call 29; refine (HP.out _ (by assumption)).mono ?_; rintro e w2 ⟨rfl, k2⟩; have s2 := k2.four)
      | (go_at_call 116; have hW2 := hW1; refine (cWith g1 p1 HM.out (by assumption)).mono ?_; rintro e w2 ⟨rfl, k2⟩; have s2 := k2.four)
      | (go_at_call 116; refine Calls.mono (cHead ?_ z1 HG.out (by assumption)) ?_; kernel_rfl; rintro e w2 ⟨rfl, k2⟩; have s2 := k2.four; have hW1 : True := trivial)))
    all_goals
      go_wp2
      go_ret
      exact ⟨rfl, k2.bel⟩
  · have hok' : I0.ok 2 o 0 [] = false := by simpa using hok
    have HF : Hid (fmt o = ⟨#[]⟩) := if_neg hok
    have HK : Hid (∀ W, Fm w o W → Calls Try.prog 33 #[val 2 o 0 none 0 0] W fun e w' => e = .returned (.bool false) ∧ Fm w o w') := fun W h => cOk hok' h
    rw [HF.out]
    clear HF hok hok'
    go_enter Try.func53, Try.ntmps53
    go_wp2_with (go_at_call 33; refine (HK.out _ k0).mono ?_; rintro e w1 ⟨rfl, k1⟩)
    go_ret
    exact ⟨rfl, k1.bel⟩
end Go.Proofs.Ytacalabjclclhaa.F4
