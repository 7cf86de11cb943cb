/- Joined texts: plain facts and contracts, as each part says. -/
import Derived.Test.YtacalabjclclhaaJtG
import Derived.Test.YtacalabjclclhaaJtC
import Derived.Deep.RegionHeld3
import Derived.Test.YtacalabjclclhaaJtE
import Derived.Test.YtacalabjclclhaaJtB
import Derived.Test.YtacalabjclclhaaJtA
import Derived.Deep.RegionWith
import Derived.Lib.SmallJoins
import Derived.OpenShut
import Derived.ShutString
import Derived.Test.YtacalabjclclhaaJtF

/- A fresh memory; contracts of spec.Format and impl.Format, as the given laws call them. -/
namespace Go.Proofs.Ytacalabjclclhaa.F4
open Go.ChangeShapes Go.WideShapes Go.ChangeAt Go.RowKit
set_option linter.unusedVariables false
set_option linter.unusedSimpArgs false
set_option maxRecDepth 10000
open I0 (val vals)

theorem laid_size (s : ByteArray) (i : Int) (t : ByteArray) : (B5.laid s i t).size = s.size := by
  unfold B5.laid
  split
  · rename_i h
    obtain ⟨h0, h1, h2⟩ := B2.lies_true h
    rw [ByteArray.size_append, ByteArray.size_append, ByteArray.size_extract, ByteArray.size_extract]
    omega
  · rfl

def head : ByteArray := ⟨#[84, 78, 82, 49]⟩
def page0 : ByteArray := B5.laid (B4.zeros 768) 0 head
def img (o : Int) : ByteArray := B5.laid page0 (L1.recAt 0) (R0.putI 2 o 0 [])
/-- A memory with a directory without entries for inode 0, of that owner. -/
def fmt (o : Int) : ByteArray := if I0.ok 2 o 0 [] then img o else ⟨#[]⟩

theorem zeros_le : (B4.zeros 768).size ≤ 281474976710656 := by
  rw [B4.zeros, if_pos (by decide), B4.nulls_size]
  decide
theorem head_le : head.size ≤ 281474976710656 := show 4 ≤ 281474976710656 by omega

/-- The text that the program has is the head. -/
theorem is_head {t : ByteArray} (ht : t.data.toList.map UInt8.toNat = [84, 78, 82, 49]) : t = head := by
  apply ByteArray.ext
  apply Array.toList_inj.1
  exact (List.map_inj_right (fun _ _ h => UInt8.toNat.inj h)).1 (ht.trans rfl)

theorem page0_le : page0.size ≤ 281474976710656 := by rw [page0, laid_size]; exact zeros_le
theorem putI_le (o : Int) : (R0.putI 2 o 0 []).size ≤ 281474976710656 := Nat.le_trans (R0.putI_size _ _ _ _) (by decide)

structure Fm (w : World) (o : Int) (W : World) : Prop where
  blk : K0.Blk w.heap.size (vals 2 o 0 none 0 0) W
  bel : Below w.heap.size w W

theorem Fm.below {w W W' : World} {o : Int} (h : Fm w o W) (hb : Below W.heap.size W W') : Fm w o W' := ⟨h.blk.below hb, h.bel.trans (hb.mono h.bel.size)⟩
theorem Fm.drewN {w W : World} {o : Int} (h : Fm w o W) (n : Nat) : Fm w o (W.drewN n) := ⟨h.blk.drewN n, K0.below_drewN h.bel n⟩

theorem Fm.four {w W : World} {o : Int} (h : Fm w o W) : W.cell? ⟨w.heap.size, 0, none⟩ = some (.int .i64 2) ∧ W.cell? ⟨w.heap.size, 1, none⟩ = some (.int .i64 o) ∧ W.cell? ⟨w.heap.size, 2, none⟩ = some (.int .i64 0) ∧ W.cell? ⟨w.heap.size, 3, none⟩ = some (.slice none 0 0) := ⟨h.blk.c0, h.blk.c1, h.blk.c2, h.blk.c3⟩

section
variable {w W : World} {o : Int}
theorem cOk {r : Bool} (hr : I0.ok 2 o 0 [] = r) (h : Fm w o W) : Calls Try.prog 33 #[val 2 o 0 none 0 0] W fun e w' => e = .returned (.bool r) ∧ Fm w o w' :=
  (I1.spec_InodeOk 2 o 0 none 0 [] W (by simp) (by simp) (Or.inl rfl)).mono fun _ _ ⟨he, hb⟩ => ⟨by rw [he, hr], h.below hb⟩
theorem cPut {p : ByteArray} (hp : R0.putI 2 o 0 [] = p) (h : Fm w o W) : Calls Try.prog 29 #[val 2 o 0 none 0 0] W fun e w' => e = .returned (.string p) ∧ Fm w o w' :=
  (R2.spec_PutInode 2 o 0 none 0 [] W (by simp) (by simp) (Or.inl rfl)).mono fun _ _ ⟨he, hb⟩ => ⟨by rw [he, hp]; done, h.below hb⟩
theorem cZeros {z : ByteArray} (hz : B4.zeros 768 = z) (h : Fm w o W) : Calls Try.prog 101 #[.int .i64 768] W fun e w' => e = .returned (.string z) ∧ Fm w o w' :=
  (B4.spec_Zeros 768 W).mono fun _ _ ⟨he, hb⟩ => ⟨by rw [he, hz], by rw [hb]; exact h⟩
theorem cRec {x : Int} (hx : L1.recAt 0 = x) (h : Fm w o W) : Calls Try.prog 37 #[.int .i64 0] W fun e w' => e = .returned (.int .i64 x) ∧ Fm w o w' :=
  (L1.spec_RecAt 0 W).mono fun _ _ ⟨he, hb⟩ => ⟨by rw [he, hx], by rw [hb]; exact h⟩
theorem cHead {z t g : ByteArray} (ht : t.data.toList.map UInt8.toNat = [84, 78, 82, 49]) (hs : z.size ≤ 281474976710656) (hu : B5.laid z 0 head = g) (h : Fm w o W) : Calls Try.prog 116 #[.string z, .int .i64 0, .string t] W fun e w' => e = .returned (.string g) ∧ Fm w o w' := by
  obtain rfl := is_head ht
  exact (B5.spec_With z 0 head W hs head_le).mono fun _ _ ⟨he, n, hb⟩ => ⟨by rw [he, hu], by rw [hb]; exact h.drewN n⟩
theorem iHead {z t g : ByteArray} (ht : t.data.toList.map UInt8.toNat = [84, 78, 82, 49]) (hs : z.size ≤ 281474976710656) (hu : B5.laid z 0 head = g) (h : Below w.heap.size w W) : Calls Try.prog 94 #[.string z, .int .i64 0, .string t] W fun e w' => e = .returned (.string g) ∧ Below w.heap.size w w' := by
  obtain rfl := is_head ht
  exact (B5.impl_With z 0 head W hs head_le).mono fun _ _ ⟨he, hb⟩ => ⟨by rw [he, hu], h.trans (hb.mono h.size)⟩
theorem cWith {s t u : ByteArray} {i : Int} (hs : s.size ≤ 281474976710656) (ht : t.size ≤ 281474976710656) (hu : B5.laid s i t = u) (h : Fm w o W) : Calls Try.prog 116 #[.string s, .int .i64 i, .string t] W fun e w' => e = .returned (.string u) ∧ Fm w o w' :=
  (B5.spec_With s i t W hs ht).mono fun _ _ ⟨he, n, hb⟩ => ⟨by rw [he, hu], by rw [hb]; exact h.drewN n⟩
end

end Go.Proofs.Ytacalabjclclhaa.F4

/- The contract of spec.Format, as the given laws call it. -/
namespace Go.Proofs.Ytacalabjclclhaa.F4
open Go.ChangeShapes Go.WideShapes Go.ChangeAt Go.RowKit
set_option linter.unusedVariables false
set_option linter.unusedSimpArgs false
set_option maxRecDepth 10000
open I0 (val vals)

set_option maxHeartbeats 20000000 in
theorem spec_Format (o : Int) (w : World) : Calls Try.prog 53 #[.int .i64 o] w fun e w' => e = .returned (.string (fmt o)) ∧ Below w.heap.size w w' := by
  have k0 : Fm w o (w.alloc (.cells #[.int .i64 2, .int .i64 o, .int .i64 0, .slice none 0 0] 26)) := ⟨K0.blk_new (vals 2 o 0 none 0 0) w 26, K0.below_new _ _⟩
  by_cases hok : I0.ok 2 o 0 [] = true
  · have HF : Hid (fmt o = img o) := if_pos hok
    obtain ⟨z, hz⟩ : ∃ z, B4.zeros 768 = z := ⟨_, rfl⟩
    obtain ⟨g, hg⟩ : ∃ g, page0 = g := ⟨_, rfl⟩
    obtain ⟨p, hp⟩ : ∃ p, R0.putI 2 o 0 [] = p := ⟨_, rfl⟩
    obtain ⟨r, hr⟩ : ∃ r, L1.recAt 0 = r := ⟨_, rfl⟩
    obtain ⟨m, hm⟩ : ∃ m, img o = m := ⟨_, rfl⟩
    have z1 := zeros_le
    have g1 := page0_le
    have p1 := putI_le o
    have HG : Hid (B5.laid z 0 head = g) := show B5.laid z 0 head = g by rw [← hg, ← hz, page0]
    have HM : Hid (B5.laid g r p = m) := show B5.laid g r p = m by rw [← hg, ← hr, ← hp, ← hm, img]
    have HK : Hid (∀ W, Fm w o W → Calls Try.prog 33 #[val 2 o 0 none 0 0] W fun e w' => e = .returned (.bool true) ∧ Fm w o w') := fun W h => cOk hok h
    have HP : Hid (∀ W, Fm w o W → Calls Try.prog 29 #[val 2 o 0 none 0 0] W fun e w' => e = .returned (.string p) ∧ Fm w o w') := fun W h => cPut hp h
    have HZ : Hid (∀ W, Fm w o W → Calls Try.prog 101 #[.int .i64 768] W fun e w' => e = .returned (.string z) ∧ Fm w o w') := fun W h => cZeros hz h
    have HR : Hid (∀ W, Fm w o W → Calls Try.prog 37 #[.int .i64 0] W fun e w' => e = .returned (.int .i64 r) ∧ Fm w o w') := fun W h => cRec hr h
    rw [hz] at z1
    rw [hg] at g1
    rw [hp] at p1
    rw [HF.out, hm]
    clear HF hz hg hp hr hm hok
    go_enter Try.func53, Try.ntmps53
    go_wp2_with (go_at_call 33; refine (HK.out _ k0).mono ?_; rintro e w1 ⟨rfl, k1⟩; have x0 := k1.blk.c0; have x1 := k1.blk.c1; have x2 := k1.blk.c2; have x3 := k1.blk.c3)
    have k2 := k1.drewN 1
    have s2 := k2.four
    clear k1 x0 x1 x2 x3 k0
    go_region_held3 (fun W => W.cell? ⟨w.heap.size, 0, none⟩ = some (.int .i64 2) ∧ W.cell? ⟨w.heap.size, 1, none⟩ = some (.int .i64 o) ∧ W.cell? ⟨w.heap.size, 2, none⟩ = some (.int .i64 0) ∧ W.cell? ⟨w.heap.size, 3, none⟩ = some (.slice none 0 0)) (assumption) ((first
      | (go_at_call 101; refine (HZ.out _ (by assumption)).mono ?_; rintro e w2 ⟨rfl, k2⟩; have s2 := k2.four)
      | (go_at_call 37; refine (HR.out _ (by assumption)).mono ?_; rintro e w2 ⟨rfl, k2⟩; have s2 := k2.four)
      | (go_at_call 29; refine (HP.out _ (by assumption)).mono ?_; rintro e w2 ⟨rfl, k2⟩; have s2 := k2.four)
      | (go_at_call 116; have hW2 := hW1; refine (cWith g1 p1 HM.out (by assumption)).mono ?_; rintro e w2 ⟨rfl, k2⟩; have s2 := k2.four)
      | (go_at_call 116; refine Calls.mono (cHead ?_ z1 HG.out (by assumption)) ?_; kernel_rfl; rintro e w2 ⟨rfl, k2⟩; have s2 := k2.four; have hW1 : True := trivial)))
    all_goals
      go_wp2
      go_ret
      exact ⟨rfl, k2.bel⟩
  · have hok' : I0.ok 2 o 0 [] = false := by simpa using hok
    have HF : Hid (fmt o = ⟨#[]⟩) := if_neg hok
    have HK : Hid (∀ W, Fm w o W → Calls Try.prog 33 #[val 2 o 0 none 0 0] W fun e w' => e = .returned (.bool false) ∧ Fm w o w') := fun W h => cOk hok' h
    rw [HF.out]
    clear HF hok hok'
    go_enter Try.func53, Try.ntmps53
    go_wp2_with (go_at_call 33; refine (HK.out _ k0).mono ?_; rintro e w1 ⟨rfl, k1⟩)
    go_ret
    exact ⟨rfl, k1.bel⟩
end Go.Proofs.Ytacalabjclclhaa.F4

/- The contract of impl.Format, as the given laws call it. -/
namespace Go.Proofs.Ytacalabjclclhaa.F4
open Go.ChangeShapes Go.WideShapes Go.ChangeAt Go.RowKit
set_option linter.unusedVariables false
set_option linter.unusedSimpArgs false
set_option maxRecDepth 10000
open I0 (val vals)

theorem iWith {s t u : ByteArray} {i : Int} {w W : World} (hs : s.size ≤ 281474976710656) (ht : t.size ≤ 281474976710656) (hu : B5.laid s i t = u) (h : Below w.heap.size w W) : Calls Try.prog 94 #[.string s, .int .i64 i, .string t] W fun e w' => e = .returned (.string u) ∧ Below w.heap.size w w' :=
  (B5.impl_With s i t W hs ht).mono fun _ _ ⟨he, hb⟩ => ⟨by rw [he, hu], h.trans (hb.mono h.size)⟩

theorem putI_none {o : Int} (h : I0.ok 2 o 0 [] = true) : (R0.putI 2 o 0 []).toList ≠ [] := by
  intro e
  have h1 : (R0.putI 2 o 0 []).size = 16 := by
    rw [R0.putI, if_pos h, ByteArray.size_append, R0.head_size _ _ _ _ (by decide) (by decide), B4.nulls_size]
    rfl
  rw [Lib.toList_data] at e
  rw [Lib.size_eq, e] at h1
  cases h1

set_option maxHeartbeats 4000000 in
theorem impl_Format (o : Int) (w : World) : Calls Try.prog 54 #[.int .i64 o] w fun e w' => e = .returned (.string (fmt o)) ∧ Below w.heap.size w w' := by
  have HP0 : Hid (Calls Try.prog 19 #[val 2 o 0 none 0 0] w fun e w' => e = .returned (.string (R0.putI 2 o 0 [])) ∧ Below w.heap.size w w') := R1.impl_PutInode 2 o 0 none 0 [] w (by simp) (by simp) (Or.inl rfl)
  by_cases hok : I0.ok 2 o 0 [] = true
  · have HF : Hid (fmt o = img o) := if_pos hok
    obtain ⟨z, hz⟩ : ∃ z, B4.zeros 768 = z := ⟨_, rfl⟩
    obtain ⟨g, hg⟩ : ∃ g, page0 = g := ⟨_, rfl⟩
    have hne := putI_none hok
    have p1 := putI_le o
    obtain ⟨p, hp⟩ : ∃ p, R0.putI 2 o 0 [] = p := ⟨_, rfl⟩
    obtain ⟨r, hr⟩ : ∃ r, L1.recAt 0 = r := ⟨_, rfl⟩
    obtain ⟨m, hm⟩ : ∃ m, img o = m := ⟨_, rfl⟩
    have z1 := zeros_le
    have g1 := page0_le
    have HG : Hid (B5.laid z 0 head = g) := show B5.laid z 0 head = g by rw [← hg, ← hz, page0]
    have HM : Hid (B5.laid g r p = m) := show B5.laid g r p = m by rw [← hg, ← hr, ← hp, ← hm, img]
    have HZ : Hid (∀ W, Calls Try.prog 95 #[.int .i64 768] W fun e w' => e = .returned (.string z) ∧ Below W.heap.size W w') := fun W => (B4.impl_Zeros 768 W).mono fun _ _ ⟨he, hb⟩ => ⟨by rw [he, hz], hb⟩
    have HR : Hid (∀ W, Calls Try.prog 36 #[.int .i64 0] W fun e w' => e = .returned (.int .i64 r) ∧ w' = W) := fun W => (L1.impl_RecAt 0 W).mono fun _ _ ⟨he, hb⟩ => ⟨by rw [he, hr], hb⟩
    rw [hz] at z1
    rw [hg] at g1
    rw [hp] at p1 hne HP0
    have hne' : (p.toList == []) = false := by simpa using hne
    rw [HF.out, hm]
    clear HF hz hg hp hr hm hok hne
    go_enter Try.func54, Try.ntmps54
    go_wp2_with (first
      | (go_at_call 19; refine HP0.out.mono ?_; rintro e w1 ⟨rfl, b1⟩)
      | (go_at_call 95; refine (HZ.out _).mono ?_; rintro e w2 ⟨rfl, b2'⟩; have b2 := b1.trans (b2'.mono b1.size))
      | (go_at_call 94; refine (iWith g1 p1 HM.out b3).mono ?_; rintro e w5 ⟨rfl, b5⟩)
      | (go_at_call 94; refine Calls.mono (iHead ?_ z1 HG.out b2) ?_; kernel_rfl; rintro e w3 ⟨rfl, b3⟩)
      | (go_at_call 36; refine (HR.out _).mono ?_; rintro e w4 ⟨rfl, rfl⟩))
    go_ret
    exact ⟨rfl, b5⟩
  · have HF : Hid (fmt o = ⟨#[]⟩) := if_neg hok
    have hp : R0.putI 2 o 0 [] = ⟨#[]⟩ := if_neg hok
    rw [hp] at HP0
    rw [HF.out]
    clear HF hok hp
    go_enter Try.func54, Try.ntmps54
    go_wp2_with (go_at_call 19; refine HP0.out.mono ?_; rintro e w1 ⟨rfl, b1⟩)
    go_ret
    exact ⟨rfl, b1⟩
end Go.Proofs.Ytacalabjclclhaa.F4

/- Contracts of chapter 2's DevOf and Store, and of the program's copy of a device. -/
namespace Go.Proofs.Ytacalabjclclhaa.D2
open Go.ChangeShapes Go.WideShapes Go.ChangeAt Go.RowKit
set_option linter.unusedVariables false

/-- A device in a block, a place for the answer in the next. -/
structure Fr (B : Nat) (w : World) (a b : ByteArray) (W : World) : Prop where
  c0 : W.cell? ⟨B, 0, none⟩ = some (.string a)
  c1 : W.cell? ⟨B, 1, none⟩ = some (.string b)
  r0 : W.cell? ⟨B + 1, 0, none⟩ = some (.string ⟨#[]⟩)
  r1 : W.cell? ⟨B + 1, 1, none⟩ = some (.string ⟨#[]⟩)
  f0 : W.frozen? ⟨B + 1, 0, none⟩ = false
  f1 : W.frozen? ⟨B + 1, 1, none⟩ = false
  g0 : W.frozen? ⟨B, 0, none⟩ = false
  g1 : W.frozen? ⟨B, 1, none⟩ = false
  lt : B + 1 < W.heap.size
  bel : Below B w W

theorem Fr.below {B : Nat} {w W W' : World} {a b : ByteArray} (h : Fr B w a b W) (hb : Below W.heap.size W W') : Fr B w a b W' :=
  ⟨(hb.cell (p := ⟨B, 0, none⟩) (by have := h.lt; show B < _; omega)).trans h.c0, (hb.cell (p := ⟨B, 1, none⟩) (by have := h.lt; show B < _; omega)).trans h.c1,
   (hb.cell (p := ⟨B + 1, 0, none⟩) h.lt).trans h.r0, (hb.cell (p := ⟨B + 1, 1, none⟩) h.lt).trans h.r1,
   (hb.frozen (p := ⟨B + 1, 0, none⟩) h.lt).trans h.f0, (hb.frozen (p := ⟨B + 1, 1, none⟩) h.lt).trans h.f1,
   (hb.frozen (p := ⟨B, 0, none⟩) (by have := h.lt; show B < _; omega)).trans h.g0, (hb.frozen (p := ⟨B, 1, none⟩) (by have := h.lt; show B < _; omega)).trans h.g1,
   Nat.lt_of_lt_of_le h.lt hb.size, h.bel.trans (hb.mono (by have := h.lt; omega))⟩

theorem Fr.drew {B : Nat} {w W : World} {a b : ByteArray} (h : Fr B w a b W) : Fr B w a b W.drew := ⟨h.c0, h.c1, h.r0, h.r1, h.f0, h.f1, h.g0, h.g1, h.lt, h.bel.drew⟩

theorem fr_new (a b : ByteArray) (w : World) : Fr w.heap.size w a b ((w.alloc (.cells #[.string a, .string b] 88)).alloc (.cells #[.string ⟨#[]⟩, .string ⟨#[]⟩] 88)) := by
  refine ⟨?_, ?_, ?_, ?_, ?_, ?_, ?_, ?_, ?_, ?_⟩
  all_goals first | exact ((Below.refl _ _).alloc (Nat.le_refl _) _).alloc (by simp) _ | (simp [go_sem]; done) | (simp; done) | (simp [go_sem]; omega)

theorem ret2 {W : World} {B : Nat} {a b : ByteArray} {c d : Value} (h0 : W.cell? ⟨B, 0, none⟩ = some c) (h1 : W.cell? ⟨B, 1, none⟩ = some d) :
    ((W.setCell ⟨B, 0, none⟩ (.string a)).setCell ⟨B, 1, none⟩ (.string b)).cell? ⟨B, 0, none⟩ = some (.string a) ∧ ((W.setCell ⟨B, 0, none⟩ (.string a)).setCell ⟨B, 1, none⟩ (.string b)).cell? ⟨B, 1, none⟩ = some (.string b) := by
  have e : (⟨B, 1, none⟩ : Addr) ≠ ⟨B, 0, none⟩ := by simp
  refine ⟨?_, ?_⟩
  · rw [World.cell?_setCell_other _ _ _ _ e, World.cell?_setCell_same _ _ _ h0]
  · rw [World.cell?_setCell_same _ _ _ ((World.cell?_setCell_other _ _ _ _ e.symm).trans h1)]

theorem clone_fr {B : Nat} {w W : World} {a b : ByteArray} (s : ByteArray) (hs : s.size ≤ 281474976710656) (h : Fr B w a b W) :
    Calls Try.prog 122 #[.string s] W fun e w' => e = .returned (.string s) ∧ Fr B w a b w' :=
  (B2.clone_any s W hs).mono fun _ _ ⟨he, hb⟩ => ⟨he, h.below hb⟩

set_option maxHeartbeats 4000000 in
theorem devCopy (a b : ByteArray) (w : World) (ha : a.size ≤ 281474976710656) (hb : b.size ≤ 281474976710656) :
    Calls Try.prog 164 #[.agg #[.string a, .string b]] w fun e w' => e = .returned (.agg #[.string a, .string b]) ∧ Below w.heap.size w w' := by
  have hF := fr_new a b w
  go_enter Try.func164, Try.ntmps164
  go_wp2
  obtain ⟨W, hW⟩ : ∃ W, (w.alloc (.cells #[.string a, .string b] 88)).alloc (.cells #[.string ⟨#[]⟩, .string ⟨#[]⟩] 88) = W := ⟨_, rfl⟩
  rw [hW] at hF ⊢
  have c0 := hF.c0
  have c1 := hF.c1
  have hFd := hF.drew
  go_region_with (go_at_call 122; refine (clone_fr (B := w.heap.size) (w := w) (a := a) (b := b) _ (by omega) (by assumption)).mono ?_; rintro e w4 ⟨rfl, h4⟩; have d0 := h4.c0; have d1 := h4.c1; have d2 := h4.r0; have d3 := h4.r1; have d4 := h4.f0; have d5 := h4.f1)
  all_goals
    go_wp2
    have q := ret2 (a := a) (b := b) d2 d3
    exact bodyPost_ret (v := .agg #[.string a, .string b]) (by simp [results, Try.results164, go_sem, q.1, q.2]) rfl
      ⟨rfl, (h4.bel.setCell (p := ⟨w.heap.size + 1, 0, none⟩) (Nat.le_succ _) _).setCell (p := ⟨w.heap.size + 1, 1, none⟩) (Nat.le_succ _) _⟩

/-- What DevOf answers. -/
def devOf (s : ByteArray) : Value := if s.size = 768 then .tuple #[.agg #[.string s, .string s], .bool true] else .tuple #[.agg #[.string ⟨#[]⟩, .string ⟨#[]⟩], .bool false]

theorem spec_DevOf (s : ByteArray) (w : World) (hs : s.size ≤ 281474976710656) :
    Calls Try.prog 135 #[.string s] w fun e w' => e = .returned (devOf s) ∧ Below w.heap.size w w' := by
  by_cases h : s.size = 768
  · have e : devOf s = .tuple #[.agg #[.string s, .string s], .bool true] := if_pos h
    have h' : (s.size : Int) = 768 := by omega
    rw [e]
    go_enter Try.func135, Try.ntmps135
    go_wp2
    exact bodyPost_ret (v := .tuple #[.agg #[.string s, .string s], .bool true]) (by simp [results, Try.results135, go_sem]) rfl ⟨rfl, (Below.refl _ _).alloc (Nat.le_refl _) _⟩
  · have e : devOf s = .tuple #[.agg #[.string ⟨#[]⟩, .string ⟨#[]⟩], .bool false] := if_neg h
    have h' : ((s.size : Int) != 768) = true := by simp; omega
    rw [e]
    go_enter Try.func135, Try.ntmps135
    go_wp2
    exact bodyPost_ret (v := .tuple #[.agg #[.string ⟨#[]⟩, .string ⟨#[]⟩], .bool false]) (by simp [results, Try.results135, go_sem]) rfl ⟨rfl, (Below.refl _ _).alloc (Nat.le_refl _) _⟩

theorem impl_DevOk_fr {B : Nat} {w W : World} {a b : ByteArray} (s t : ByteArray) (hs : s.size ≤ 281474976710656) (ht : t.size ≤ 281474976710656) (h : Fr B w a b W) :
    Calls Try.prog 163 #[.agg #[.string s, .string t]] W fun e w' => e = .returned (.bool (D1.ok s t)) ∧ Fr B w a b w' :=
  (D1.impl_DevOk s t W (by unfold maxLen; omega) (by unfold maxLen; omega)).mono fun _ _ ⟨he, hb⟩ => ⟨he, hb ▸ h.below ((Below.refl _ _).alloc (Nat.le_refl _) _)⟩

theorem devCopy_fr {B : Nat} {w W : World} {a b : ByteArray} (s t : ByteArray) (hs : s.size ≤ 281474976710656) (ht : t.size ≤ 281474976710656) (h : Fr B w a b W) :
    Calls Try.prog 164 #[.agg #[.string s, .string t]] W fun e w' => e = .returned (.agg #[.string s, .string t]) ∧ Fr B w a b w' :=
  (devCopy s t W hs ht).mono fun _ _ ⟨he, hb⟩ => ⟨he, h.below hb⟩

theorem with_fr {B : Nat} {w W : World} {a b : ByteArray} (s : ByteArray) (i : Int) (t : ByteArray) (hs : s.size ≤ 281474976710656) (ht : t.size ≤ 281474976710656) (h : Fr B w a b W) :
    Calls Try.prog 94 #[.string s, .int .i64 i, .string t] W fun e w' => e = .returned (.string (B5.laid s i t)) ∧ Fr B w a b w' :=
  (B5.impl_With s i t W hs ht).mono fun _ _ ⟨he, hb⟩ => ⟨he, h.below hb⟩

theorem below_drewN {B : Nat} {a w : World} (h : Below B a w) (n : Nat) : Below B a (w.drewN n) := ⟨h.os, h.tape, h.output, h.size, h.block⟩

theorem spec_with_fr {B : Nat} {w W : World} {a b : ByteArray} (s : ByteArray) (i : Int) (t : ByteArray) (hs : s.size ≤ 281474976710656) (ht : t.size ≤ 281474976710656) (h : Fr B w a b W) :
    Calls Try.prog 116 #[.string s, .int .i64 i, .string t] W fun e w' => e = .returned (.string (B5.laid s i t)) ∧ Fr B w a b w' :=
  (B5.spec_With s i t W hs ht).mono fun _ _ ⟨he, n, hb⟩ => ⟨he, hb ▸ h.below (below_drewN (Below.refl _ _) n)⟩

theorem Fr.set0 {B : Nat} {w W : World} {a b : ByteArray} (h : Fr B w a b W) (x : ByteArray) : Fr B w x b (W.setCell ⟨B, 0, none⟩ (.string x)) :=
  ⟨World.cell?_setCell_same _ _ _ h.c0, (World.cell?_setCell_other _ _ _ _ (by simp)).trans h.c1, (World.cell?_setCell_other _ _ _ _ (by simp)).trans h.r0, (World.cell?_setCell_other _ _ _ _ (by simp)).trans h.r1,
   by rw [World.frozen?_setCell]; exact h.f0, by rw [World.frozen?_setCell]; exact h.f1, by rw [World.frozen?_setCell]; exact h.g0, by rw [World.frozen?_setCell]; exact h.g1,
   by have := h.lt; simpa [World.setCell] using this, h.bel.setCell (p := ⟨B, 0, none⟩) (Nat.le_refl _) _⟩

theorem Fr.done {B : Nat} {w W : World} {a b : ByteArray} (h : Fr B w a b W) (x y : Value) : Below B w ((W.setCell ⟨B + 1, 0, none⟩ x).setCell ⟨B + 1, 1, none⟩ y) :=
  (h.bel.setCell (p := ⟨B + 1, 0, none⟩) (Nat.le_succ _) _).setCell (p := ⟨B + 1, 1, none⟩) (Nat.le_succ _) _

/-- What Store leaves in Mem. -/
def stored (a b : ByteArray) (i : Int) (t : ByteArray) : ByteArray := if D1.ok a b then B5.laid a i t else a

end Go.Proofs.Ytacalabjclclhaa.D2

/- The contract of the program's DevOf; a device among a law's arguments, opened and shut. -/
namespace Go.Proofs.Ytacalabjclclhaa.D2
open Go.ChangeShapes Go.WideShapes Go.ChangeAt Go.RowKit Go.Joins
set_option linter.unusedVariables false

theorem impl_DevOf (s : ByteArray) (w : World) (hs : s.size ≤ 281474976710656) :
    Calls Try.prog 136 #[.string s] w fun e w' => e = .returned (devOf s) ∧ Below w.heap.size w w' := by
  have hm : s.size ≤ maxLen := by unfold maxLen; omega
  have hB : Below w.heap.size w (((w.alloc (.cells #[.string ⟨#[]⟩, .string ⟨#[]⟩] 88)).alloc (.cells #[.string s, .string s] 88)).alloc (.cells #[.string s, .string s] 88)) := (((Below.refl _ _).alloc (Nat.le_refl _) _).alloc (by simp) _).alloc (by simp; omega) _
  by_cases h : s.size = 768
  · have e : devOf s = .tuple #[.agg #[.string s, .string s], .bool true] := if_pos h
    have h' : D1.ok s s = true := D1.ok_mk h h
    rw [e]
    go_enter Try.func136, Try.ntmps136
    go_wp2_with (first
      | (go_at_call 163; refine (D1.impl_DevOk _ _ _ hm hm).mono ?_; rintro e w1 ⟨rfl, rfl⟩)
      | (go_at_call 164; refine (devCopy _ _ _ hs hs).mono ?_; rintro e w2 ⟨rfl, hb2⟩
         have d2 : w2.cell? ⟨w.heap.size, 0, none⟩ = some (.string ⟨#[]⟩) := (hb2.cell (p := ⟨w.heap.size, 0, none⟩) (by simp; omega)).trans (by simp [go_sem])
         have d3 : w2.cell? ⟨w.heap.size, 1, none⟩ = some (.string ⟨#[]⟩) := (hb2.cell (p := ⟨w.heap.size, 1, none⟩) (by simp; omega)).trans (by simp [go_sem])
         have d4 : w2.frozen? ⟨w.heap.size, 0, none⟩ = false := (hb2.frozen (p := ⟨w.heap.size, 0, none⟩) (by simp; omega)).trans (by simp [go_sem])
         have d5 : w2.frozen? ⟨w.heap.size, 1, none⟩ = false := (hb2.frozen (p := ⟨w.heap.size, 1, none⟩) (by simp; omega)).trans (by simp [go_sem])))
    have q := ret2 (a := s) (b := s) d2 d3
    refine bodyPost_ret (v := .tuple #[.agg #[.string s, .string s], .bool true]) (by simp [results, Try.results136, go_sem, q.1, q.2]) rfl ⟨rfl, ?_⟩
    exact ((hB.trans (hb2.mono hB.size)).setCell (p := ⟨w.heap.size, 0, none⟩) (Nat.le_refl _) _).setCell (p := ⟨w.heap.size, 1, none⟩) (Nat.le_refl _) _
  · have e : devOf s = .tuple #[.agg #[.string ⟨#[]⟩, .string ⟨#[]⟩], .bool false] := if_neg h
    have h' : D1.ok s s = false := by simp [D1.ok, h]
    rw [e]
    go_enter Try.func136, Try.ntmps136
    go_wp2_with (go_at_call 163; refine (D1.impl_DevOk _ _ _ hm hm).mono ?_; rintro e w1 ⟨rfl, rfl⟩)
    exact bodyPost_ret (v := .tuple #[.agg #[.string ⟨#[]⟩, .string ⟨#[]⟩], .bool false]) (by simp [results, Try.results136, go_sem]) rfl ⟨rfl, hB⟩
end Go.Proofs.Ytacalabjclclhaa.D2

/- Contracts of spec.KeeperNew and impl.KeeperNew, and of laws.markKeeper and laws.heldKeeper where nothing is lent. -/
namespace Go.Proofs.Ytacalabjclclhaa.Z5
open Go.ChangeShapes Go.WideShapes Go.ChangeAt Go.RowKit
set_option linter.unusedVariables false
set_option linter.unusedSimpArgs false
set_option maxRecDepth 10000

open Z0 (Kp kval kvals Lns)

def none0 : Kp := ⟨⟨#[]⟩, ⟨#[]⟩, [], 0⟩
/-- A new keeper. -/
def knew (o : Int) : Kp := if (F4.fmt o).size = 768 then ⟨F4.fmt o, F4.fmt o, [], 0⟩ else none0
def kok (o : Int) : Bool := decide ((F4.fmt o).size = 768)

theorem fmt_le (o : Int) : (F4.fmt o).size ≤ 281474976710656 := by
  unfold F4.fmt
  split
  · rw [F4.img, F4.laid_size]
    exact F4.page0_le
  · exact Nat.zero_le _

theorem lns_none (W : World) : Lns W none [] (fun _ => Z0.sz0) := ⟨Or.inl rfl, fun j hj => by simp at hj⟩

abbrev kv (m d : ByteArray) : Value := .agg #[.string m, .string d, .slice none 0 0, .int .i64 0]
abbrev kvs (m d : ByteArray) : List Value := [.string m, .string d, .slice none 0 0, .int .i64 0]

set_option maxHeartbeats 2000000 in
theorem spec_KeeperNew (o : Int) (w : World) :
    Calls Try.prog 80 #[.int .i64 o] w fun e w' => e = .returned (.tuple #[kv (knew o).mem (knew o).dur, .bool (kok o)]) ∧ Below w.heap.size w w' := by
  have k0 := K0.blk_new Z3.zero4 w 91
  have l0 := K0.below_new w (.cells #[.string ⟨#[]⟩, .string ⟨#[]⟩, .slice none 0 0, .int .i64 0] 91)
  have hs := fmt_le o
  by_cases h : (F4.fmt o).size = 768
  · have e1 : knew o = ⟨F4.fmt o, F4.fmt o, [], 0⟩ := if_pos h
    have e2 : kok o = true := decide_eq_true h
    have ed : D2.devOf (F4.fmt o) = .tuple #[.agg #[.string (F4.fmt o), .string (F4.fmt o)], .bool true] := if_pos h
    rw [e1, e2]
    obtain ⟨f, hf⟩ : ∃ f, F4.fmt o = f := ⟨_, rfl⟩
    have HF : Hid (∀ W, Calls Try.prog 53 #[.int .i64 o] W fun e w' => e = .returned (.string f) ∧ Below W.heap.size W w') := fun W => (F4.spec_Format o W).mono fun _ _ ⟨he, hb⟩ => ⟨by rw [he, hf], hb⟩
    rw [hf] at hs ed
    simp only [hf]
    have HD : Hid (∀ W, Calls Try.prog 135 #[.string f] W fun e w' => e = .returned (.tuple #[.agg #[.string f, .string f], .bool true]) ∧ Below W.heap.size W w') := fun W => (D2.spec_DevOf f W hs).mono fun _ _ ⟨he, hb⟩ => ⟨by rw [he, ed], hb⟩
    clear e1 e2 ed hf h
    go_enter Try.func80, Try.ntmps80
    go_wp2_with (first
      | (go_at_call 53; refine (HF.out _).mono ?_; rintro e w1 ⟨rfl, b1⟩; have k1 := k0.below b1; have l1 := l0.trans (b1.mono l0.size))
      | (go_at_call 135; refine (HD.out _).mono ?_; rintro e w2 ⟨rfl, b2⟩; have k2 := k1.below b2; have l2 := l1.trans (b2.mono l1.size); have k3 := k2.alloc (.cells #[.string f, .string f] 88); have l3 := l2.alloc l2.size (.cells #[.string f, .string f] 88); have c0 := k3.c0; have c1 := k3.c1; have c2 := k3.c2; have c3 := k3.c3; have f0 := k3.f0; have f1 := k3.f1; have f2 := k3.f2; have f3 := k3.f3))
    have q := k3.put4 (.string f) (.string f) (.slice none 0 0) (.int .i64 0)
    refine bodyPost_ret (v := .tuple #[kv f f, .bool true]) (by simp [results, Try.results80, go_sem, q.c0, q.c1, q.c2, q.c3]) rfl ⟨rfl, ?_⟩
    exact (((l3.setCell (p := ⟨w.heap.size, 0, none⟩) (Nat.le_refl _) _).setCell (p := ⟨w.heap.size, 1, none⟩) (Nat.le_refl _) _).setCell (p := ⟨w.heap.size, 2, none⟩) (Nat.le_refl _) _).setCell (p := ⟨w.heap.size, 3, none⟩) (Nat.le_refl _) _
  · have e1 : knew o = none0 := if_neg h
    have e2 : kok o = false := decide_eq_false h
    have ed : D2.devOf (F4.fmt o) = .tuple #[.agg #[.string ⟨#[]⟩, .string ⟨#[]⟩], .bool false] := if_neg h
    rw [e1, e2]
    obtain ⟨f, hf⟩ : ∃ f, F4.fmt o = f := ⟨_, rfl⟩
    have HF : Hid (∀ W, Calls Try.prog 53 #[.int .i64 o] W fun e w' => e = .returned (.string f) ∧ Below W.heap.size W w') := fun W => (F4.spec_Format o W).mono fun _ _ ⟨he, hb⟩ => ⟨by rw [he, hf], hb⟩
    rw [hf] at hs ed
    have HD : Hid (∀ W, Calls Try.prog 135 #[.string f] W fun e w' => e = .returned (.tuple #[.agg #[.string ⟨#[]⟩, .string ⟨#[]⟩], .bool false]) ∧ Below W.heap.size W w') := fun W => (D2.spec_DevOf f W hs).mono fun _ _ ⟨he, hb⟩ => ⟨by rw [he, ed], hb⟩
    clear e1 e2 ed hf h
    show Calls Try.prog 80 #[.int .i64 o] w fun e w' => e = .returned (.tuple #[kv ⟨#[]⟩ ⟨#[]⟩, .bool false]) ∧ Below w.heap.size w w'
    go_enter Try.func80, Try.ntmps80
    go_wp2_with (first
      | (go_at_call 53; refine (HF.out _).mono ?_; rintro e w1 ⟨rfl, b1⟩; have k1 := k0.below b1; have l1 := l0.trans (b1.mono l0.size))
      | (go_at_call 135; refine (HD.out _).mono ?_; rintro e w2 ⟨rfl, b2⟩; have k2 := k1.below b2; have l2 := l1.trans (b2.mono l1.size); have k3 := k2.alloc (.cells #[.string ⟨#[]⟩, .string ⟨#[]⟩] 88); have l3 := l2.alloc l2.size (.cells #[.string ⟨#[]⟩, .string ⟨#[]⟩] 88); have c0 := k3.c0; have c1 := k3.c1; have c2 := k3.c2; have c3 := k3.c3; have f0 := k3.f0; have f1 := k3.f1; have f2 := k3.f2; have f3 := k3.f3))
    have q := k3.put4 (.string ⟨#[]⟩) (.string ⟨#[]⟩) (.slice none 0 0) (.int .i64 0)
    refine bodyPost_ret (v := .tuple #[kv ⟨#[]⟩ ⟨#[]⟩, .bool false]) (by simp [results, Try.results80, go_sem, q.c0, q.c1, q.c2, q.c3]) rfl ⟨rfl, ?_⟩
    exact (((l3.setCell (p := ⟨w.heap.size, 0, none⟩) (Nat.le_refl _) _).setCell (p := ⟨w.heap.size, 1, none⟩) (Nat.le_refl _) _).setCell (p := ⟨w.heap.size, 2, none⟩) (Nat.le_refl _) _).setCell (p := ⟨w.heap.size, 3, none⟩) (Nat.le_refl _) _

theorem devOf_form (s : ByteArray) : D2.devOf s = .tuple #[.agg #[.string (if s.size = 768 then s else ⟨#[]⟩), .string (if s.size = 768 then s else ⟨#[]⟩)], .bool (decide (s.size = 768))] := by
  unfold D2.devOf
  by_cases h : s.size = 768
  · simp [h]
  · simp [h]

theorem knew_form (o : Int) : (knew o).mem = (if (F4.fmt o).size = 768 then F4.fmt o else ⟨#[]⟩) ∧ (knew o).dur = (if (F4.fmt o).size = 768 then F4.fmt o else ⟨#[]⟩) := by
  unfold knew
  by_cases h : (F4.fmt o).size = 768
  · simp [h]
  · simp [h, none0]

set_option maxHeartbeats 2000000 in
theorem impl_KeeperNew (o : Int) (w : World) :
    Calls Try.prog 81 #[.int .i64 o] w fun e w' => e = .returned (.tuple #[kv (knew o).mem (knew o).dur, .bool (kok o)]) ∧ Below w.heap.size w w' := by
  have k0 := K0.blk_new Z3.zero4 w 91
  have l0 := K0.below_new w (.cells #[.string ⟨#[]⟩, .string ⟨#[]⟩, .slice none 0 0, .int .i64 0] 91)
  have hs := fmt_le o
  obtain ⟨k1, k2⟩ := knew_form o
  have ed := devOf_form (F4.fmt o)
  have ek : kok o = decide ((F4.fmt o).size = 768) := rfl
  rw [← k1, ← ek] at ed
  rw [k2, ← k1]
  obtain ⟨f, hf⟩ : ∃ f, F4.fmt o = f := ⟨_, rfl⟩
  obtain ⟨g, hg⟩ : ∃ g, (knew o).mem = g := ⟨_, rfl⟩
  obtain ⟨t, ht⟩ : ∃ t, kok o = t := ⟨_, rfl⟩
  have HF : Hid (∀ W, Calls Try.prog 54 #[.int .i64 o] W fun e w' => e = .returned (.string f) ∧ Below W.heap.size W w') := fun W => (F4.impl_Format o W).mono fun _ _ ⟨he, hb⟩ => ⟨by rw [he, hf], hb⟩
  rw [hf] at hs ed
  rw [hg, ht] at ed ⊢
  have HD : Hid (∀ W, Calls Try.prog 136 #[.string f] W fun e w' => e = .returned (.tuple #[.agg #[.string g, .string g], .bool t]) ∧ Below W.heap.size W w') := fun W => (D2.impl_DevOf f W hs).mono fun _ _ ⟨he, hb⟩ => ⟨by rw [he, ed], hb⟩
  clear ed hf hg ht ek k1 k2
  go_enter Try.func81, Try.ntmps81
  go_wp2_with (first
    | (go_at_call 54; refine (HF.out _).mono ?_; rintro e w1 ⟨rfl, b1⟩; have k1 := k0.below b1; have l1 := l0.trans (b1.mono l0.size))
    | (go_at_call 136; refine (HD.out _).mono ?_; rintro e w2 ⟨rfl, b2⟩; have k2 := k1.below b2; have l2 := l1.trans (b2.mono l1.size); have k3 := k2.alloc (.cells #[.string g, .string g] 88); have l3 := l2.alloc l2.size (.cells #[.string g, .string g] 88); have c0 := k3.c0; have c1 := k3.c1; have c2 := k3.c2; have c3 := k3.c3; have f0 := k3.f0; have f1 := k3.f1; have f2 := k3.f2; have f3 := k3.f3))
  have q := k3.put4 (.string g) (.string g) (.slice none 0 0) (.int .i64 0)
  refine bodyPost_ret (v := .tuple #[kv g g, .bool t]) (by simp [results, Try.results81, go_sem, q.c0, q.c1, q.c2, q.c3]) rfl ⟨rfl, ?_⟩
  exact (((l3.setCell (p := ⟨w.heap.size, 0, none⟩) (Nat.le_refl _) _).setCell (p := ⟨w.heap.size, 1, none⟩) (Nat.le_refl _) _).setCell (p := ⟨w.heap.size, 2, none⟩) (Nat.le_refl _) _).setCell (p := ⟨w.heap.size, 3, none⟩) (Nat.le_refl _) _

theorem markLoanS0 (k : Int) (w : World) : Calls Try.prog 137 #[.slice none 0 0, .int .i64 k] w fun e w' => e = .returned (.int .i64 k) ∧ w' = w := by
  go_enter Try.func137, Try.ntmps137
  go_wp2
  go_loopw [1, 5] (fun q i w' => i = .int .i64 0 ∧ q = .int .i64 k ∧ w' = w) (fun _ _ _ => 0)
  case atStart => exact ⟨rfl, rfl, rfl⟩
  case round =>
    obtain ⟨rfl, rfl, rfl⟩ := hrel
    go_wp2
    go_ret
    exact ⟨rfl, rfl⟩

theorem heldLoanS0 (k : Int) (w : World) : Calls Try.prog 138 #[.slice none 0 0, .int .i64 k] w fun e w' => e = .returned (.int .i64 k) ∧ w' = w := by
  go_enter Try.func138, Try.ntmps138
  go_wp2
  go_loopw [1, 5] (fun q i w' => i = .int .i64 0 ∧ q = .int .i64 k ∧ w' = w) (fun _ _ _ => 0)
  case atStart => exact ⟨rfl, rfl, rfl⟩
  case round =>
    obtain ⟨rfl, rfl, rfl⟩ := hrel
    go_wp2
    go_ret
    exact ⟨rfl, rfl⟩

theorem markKeeper0 (m d : ByteArray) (k : Int) (w : World) : Calls Try.prog 82 #[kv m d, .int .i64 k] w fun e w' => e = .returned (.int .i64 k) ∧ Below w.heap.size w w' := by
  have hB := K0.below_new w (.cells #[.string m, .string d, .slice none 0 0, .int .i64 0] 91)
  go_enter Try.func82, Try.ntmps82
  go_wp2_with (go_at_call 137; refine (markLoanS0 _ _).mono ?_; rintro e w1 ⟨rfl, rfl⟩)
  go_ret
  exact ⟨rfl, hB⟩

theorem heldKeeper0 (m d : ByteArray) (k : Int) (w : World) (hk : 0 ≤ k) : Calls Try.prog 83 #[kv m d, .int .i64 k] w fun e w' => e = .returned (.int .i64 k) ∧ Below w.heap.size w w' := by
  have hB := K0.below_new w (.cells #[.string m, .string d, .slice none 0 0, .int .i64 0] 91)
  have hk' : ¬ k < 0 := by omega
  go_enter Try.func83, Try.ntmps83
  go_wp2_with (go_at_call 138; refine (heldLoanS0 _ _).mono ?_; rintro e w1 ⟨rfl, rfl⟩)
  go_ret
  exact ⟨rfl, hB⟩

theorem eqKeeper0 (m d : ByteArray) (w : World) : Calls Try.prog 79 #[kv m d, kv m d] w fun e w' => e = .returned (.bool true) ∧ Below w.heap.size w w' :=
  Z3.eqKeeper ⟨m, d, [], 0⟩ none none 0 0 (fun _ => Z0.sz0) (fun _ => Z0.sz0) w (by simp [Z1.tot]) (lns_none w) (lns_none w)
end Go.Proofs.Ytacalabjclclhaa.Z5
