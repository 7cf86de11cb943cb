/- The contract of impl.Format, as the given laws call it. -/
import Derived.Test.YtacalabjclclhaaFmt0
import Derived.Deep.RegionHeld3
namespace Go.Proofs.Ytacalabjclclhaa.F4
open Go.ChangeShapes Go.WideShapes Go.ChangeAt Go.RowKit
set_option linter.unusedVariables false
set_option linter.unusedSimpArgs false
set_option maxRecDepth 10000
open I0 (val vals)

theorem iWith {s t u : ByteArray} {i : Int} {w W : World} (hs : s.size ≤ 281474976710656) (ht : t.size ≤ 281474976710656) (hu : B5.laid s i t = u) (h : Below w.heap.size w W) : Calls Try.prog 94 #[.string s, .int .i64 i, .string t] W fun e w' => e = .returned (.string u) ∧ Below w.heap.size w w' :=
  (B5.impl_With s i t W hs ht).mono fun _ _ ⟨he, hb⟩ => ⟨by rw [he, hu], h.trans (hb.mono h.size)⟩

theorem putI_none {o : Int} (h : I0.ok 2 o 0 [] = true) : (R0.putI 2 o 0 []).toList ≠ [] := by
  intro e
  have h1 : (R0.putI 2 o 0 []).size = 16 := by
    rw [R0.putI, if_pos h, ByteArray.size_append, R0.head_size _ _ _ _ (by decide) (by decide), B4.nulls_size]
    rfl
  rw [Lib.toList_data] at e
  rw [Lib.size_eq, e] at h1
  cases h1

set_option maxHeartbeats 4000000 in
theorem impl_Format (o : Int) (w : World) : Calls Try.prog 54 #[.int .i64 o] w fun e w' => e = .returned (.string (fmt o)) ∧ Below w.heap.size w w' := by
  have HP0 : Hid (Calls Try.prog 19 #[val 2 o 0 none 0 0] w fun e w' => e = .returned (.string (R0.putI 2 o 0 [])) ∧ Below w.heap.size w w') := R1.impl_PutInode 2 o 0 none 0 [] w (by simp) (by simp) (Or.inl rfl)
  by_cases hok : I0.ok 2 o 0 [] = true
  · have HF : Hid (fmt o = img o) := if_pos hok
    obtain ⟨z, hz⟩ : ∃ z, B4.zeros 768 = z := ⟨_, rfl⟩
    obtain ⟨g, hg⟩ : ∃ g, page0 = g := ⟨_, rfl⟩
    have hne := putI_none hok
    have p1 := putI_le o
    obtain ⟨p, hp⟩ : ∃ p, R0.putI 2 o 0 [] = p := ⟨_, rfl⟩
    obtain ⟨r, hr⟩ : ∃ r, L1.recAt 0 = r := ⟨_, rfl⟩
    obtain ⟨m, hm⟩ : ∃ m, img o = m := ⟨_, rfl⟩
    have z1 := zeros_le
    have g1 := page0_le
    have HG : Hid (B5.laid z 0 head = g) := show B5.laid z 0 head = g by rw [← hg, ← hz, page0]
    have HM : Hid (B5.laid g r p = m) := show B5.laid g r p = m by rw [← hg, ← hr, ← hp, ← hm, img]
    have HZ : Hid (∀ W, Calls Try.prog 95 #[.int .i64 768] W fun e w' => e = .returned (.string z) ∧ Below W.heap.size W w') := fun W => (B4.impl_Zeros 768 W).mono fun _ _ ⟨he, hb⟩ => ⟨by rw [he, hz], hb⟩
    have HR : Hid (∀ W, Calls Try.prog 36 #[.int .i64 0] W fun e w' => e = .returned (.int .i64 r) ∧ w' = W) := fun W => (L1.impl_RecAt 0 W).mono fun _ _ ⟨he, hb⟩ => ⟨by rw [he, hr], hb⟩
    rw [hz] at z1
    rw [hg] at g1
    rw [hp] at p1 hne HP0
    have hne' : (p.toList == []) = false := by simpa using hne
    rw [HF.out, hm]
    clear HF hz hg hp hr hm hok hne
    go_enter Try.func54, Try.ntmps54
    go_wp2_with (first
      | (go_at_call 19; refine HP0.out.mono ?_; rintro e w1 ⟨rfl, b1⟩)
      | (go_at_call 95; refine (HZ.out _).mono ?_; rintro e w2 ⟨rfl, b2'⟩; have b2 := b1.trans (b2'.mono b1.size))
      | (go_at_call 94; refine (iWith g1 p1 HM.out b3).mono ?_; rintro e w5 ⟨rfl, b5⟩)
      | (go_at_call 94; refine Calls.mono (iHead ?_ z1 HG.out b2) ?_; kernel_rfl; rintro e w3 ⟨rfl, b3⟩)
      | (go_at_call 36; refine (HR.out _).mono ?_; rintro e w4 ⟨rfl, rfl⟩))
    go_ret
    exact ⟨rfl, b5⟩
  · have HF : Hid (fmt o = ⟨#[]⟩) := if_neg hok
    have hp : R0.putI 2 o 0 [] = ⟨#[]⟩ := if_neg hok
    rw [hp] at HP0
    rw [HF.out]
    clear HF hok hp
    go_enter Try.func54, Try.ntmps54
    go_wp2_with (go_at_call 19; refine HP0.out.mono ?_; rintro e w1 ⟨rfl, b1⟩)
    go_ret
    exact ⟨rfl, b1⟩
end Go.Proofs.Ytacalabjclclhaa.F4
