/- Joined texts: plain facts and contracts. -/
import Derived.Test.YtpkmeknniajahaaGreatDoorJnX
import Derived.Test.YtpkmeknniajahaaGreatDoorJnY
import Derived.Test.YtpkmeknniajahaaGreatDoorJnO
import Derived.Deep.RegionHeld3
import Derived.Test.YtpkmeknniajahaaGreatDoorJnV
import Derived.OpenShut
import Derived.ShutString
import Derived.ChangeSlices
import Derived.Test.YtpkmeknniajahaaGreatDoorJnW
import Derived.Deep.LoopGhost
import Derived.BigQuiet
set_option linter.unusedVariables false
set_option linter.unusedSimpArgs false
set_option maxRecDepth 10000
namespace Go.Proofs.YtpkmeknniajahaaGreatDoor.TC
open Go.ChangeShapes Go.WideShapes Go.ChangeAt Go.RowKit
open TW (sound)
open TY (text)
theorem spec_TreeText (mem : ByteArray) (w : World) (hms : mem.size ≤ 281474976710656) : Calls Tryz.prog 19 #[.string mem] w fun e w' => e = .returned (.string (text mem)) ∧ Below w.heap.size w w' := by
 cases hs : sound mem with
 | false => exact TY.spec_bad mem w hms hs
 | true => exact TY.spec_good mem w hms hs (TZ.small hs) (TZ.cat_small hs)
theorem impl_TreeText (mem : ByteArray) (w : World) (hms : mem.size ≤ 281474976710656) (ht : TU.Tabs w) : Calls Tryz.prog 18 #[.string mem] w fun e w' => e = .returned (.string (text mem)) ∧ Below w.heap.size w w' := by
 cases hs : sound mem with
 | false => exact TY.impl_bad mem w hms hs
 | true => exact TB.impl_good mem w hms hs ht
end Go.Proofs.YtpkmeknniajahaaGreatDoor.TC
namespace Go.Proofs.YtpkmeknniajahaaGreatDoor.F4
open Go.ChangeShapes Go.WideShapes Go.ChangeAt Go.RowKit
open I0 (val vals)
set_option maxHeartbeats 20000000 in
theorem spec_Format (o : Int) (w : World) : Calls Tryz.prog 17 #[.int .i64 o] w fun e w' => e = .returned (.string (fmt o)) ∧ Below w.heap.size w w' := by
 have k0 : Fm w o (w.alloc (.cells #[.int .i64 2, .int .i64 o, .int .i64 0, .slice none 0 0] 50)) := ⟨K0.blk_new (vals 2 o 0 none 0 0) w 50, K0.below_new _ _⟩
 by_cases hok : I0.ok 2 o 0 [] = true
 ·have HF : Hid (fmt o = img o) := if_pos hok
  obtain ⟨z, hz⟩ : ∃ z, B4.zeros 768 = z := ⟨_, rfl⟩
  obtain ⟨g, hg⟩ : ∃ g, page0 = g := ⟨_, rfl⟩
  obtain ⟨p, hp⟩ : ∃ p, R0.putI 2 o 0 [] = p := ⟨_, rfl⟩
  obtain ⟨r, hr⟩ : ∃ r, L1.recAt 0 = r := ⟨_, rfl⟩
  obtain ⟨m, hm⟩ : ∃ m, img o = m := ⟨_, rfl⟩
  have z1 := zeros_le
  have g1 := page0_le
  have p1 := putI_le o
  have HG : Hid (B5.laid z 0 head = g) := show B5.laid z 0 head = g by rw [← hg, ← hz, page0]
  have HM : Hid (B5.laid g r p = m) := show B5.laid g r p = m by rw [← hg, ← hr, ← hp, ← hm, img]
  have HK : Hid (∀ W, Fm w o W → Calls Tryz.prog 38 #[val 2 o 0 none 0 0] W fun e w' => e = .returned (.bool true) ∧ Fm w o w') := fun W h => cOk hok h
  have HP : Hid (∀ W, Fm w o W → Calls Tryz.prog 42 #[val 2 o 0 none 0 0] W fun e w' => e = .returned (.string p) ∧ Fm w o w') := fun W h => cPut hp h
  have HZ : Hid (∀ W, Fm w o W → Calls Tryz.prog 40 #[.int .i64 768] W fun e w' => e = .returned (.string z) ∧ Fm w o w') := fun W h => cZeros hz h
  have HR : Hid (∀ W, Fm w o W → Calls Tryz.prog 41 #[.int .i64 0] W fun e w' => e = .returned (.int .i64 r) ∧ Fm w o w') := fun W h => cRec hr h
  rw [hz] at z1
  rw [hg] at g1
  rw [hp] at p1
  rw [HF.out, hm]
  clear HF hz hg hp hr hm hok
  go_enter Tryz.func17, Tryz.ntmps17
  go_wp2_with (go_at_call 38; refine (HK.out _ k0).mono ?_; rintro e w1 ⟨rfl, k1⟩; have x0 := k1.blk.c0; have x1 := k1.blk.c1; have x2 := k1.blk.c2; have x3 := k1.blk.c3)
  have k2 := k1.drewN 1
  have s2 := k2.four
  clear k1 x0 x1 x2 x3 k0
  go_region_held3 (fun W => W.cell? ⟨w.heap.size, 0, none⟩ = some (.int .i64 2) ∧ W.cell? ⟨w.heap.size, 1, none⟩ = some (.int .i64 o) ∧ W.cell? ⟨w.heap.size, 2, none⟩ = some (.int .i64 0) ∧ W.cell? ⟨w.heap.size, 3, none⟩ = some (.slice none 0 0)) (assumption) ((first
   | (go_at_call 40; refine (HZ.out _ (by assumption)).mono ?_; rintro e w2 ⟨rfl, k2⟩; have s2 := k2.four)
   | (go_at_call 41; refine (HR.out _ (by assumption)).mono ?_; rintro e w2 ⟨rfl, k2⟩; have s2 := k2.four)
   | (go_at_call 42; refine (HP.out _ (by assumption)).mono ?_; rintro e w2 ⟨rfl, k2⟩; have s2 := k2.four)
   | (go_at_call 39; have hW2 := hW1; refine (cWith g1 p1 HM.out (by assumption)).mono ?_; rintro e w2 ⟨rfl, k2⟩; have s2 := k2.four)
   | (go_at_call 39; refine Calls.mono (cHead ?_ z1 HG.out (by assumption)) ?_; kernel_rfl; rintro e w2 ⟨rfl, k2⟩; have s2 := k2.four; have hW1 : True := trivial)))
  all_goals
   go_wp2
   go_ret
   exact ⟨rfl, k2.bel⟩
 ·have hok' : I0.ok 2 o 0 [] = false := by simpa using hok
  have HF : Hid (fmt o = ⟨#[]⟩) := if_neg hok
  have HK : Hid (∀ W, Fm w o W → Calls Tryz.prog 38 #[val 2 o 0 none 0 0] W fun e w' => e = .returned (.bool false) ∧ Fm w o w') := fun W h => cOk hok' h
  rw [HF.out]
  clear HF hok hok'
  go_enter Tryz.func17, Tryz.ntmps17
  go_wp2_with (go_at_call 38; refine (HK.out _ k0).mono ?_; rintro e w1 ⟨rfl, k1⟩)
  go_ret
  exact ⟨rfl, k1.bel⟩
end Go.Proofs.YtpkmeknniajahaaGreatDoor.F4
namespace Go.Proofs.YtpkmeknniajahaaGreatDoor.F4
open Go.ChangeShapes Go.WideShapes Go.ChangeAt Go.RowKit
open I0 (val vals)
theorem iWith {s t u : ByteArray} {i : Int} {w W : World} (hs : s.size ≤ 281474976710656) (ht : t.size ≤ 281474976710656) (hu : B5.laid s i t = u) (h : Below w.heap.size w W) : Calls Tryz.prog 30 #[.string s, .int .i64 i, .string t] W fun e w' => e = .returned (.string u) ∧ Below w.heap.size w w' :=
 (B5.impl_With s i t W hs ht).mono fun _ _ ⟨he, hb⟩ => ⟨by rw [he, hu], h.trans (hb.mono h.size)⟩
theorem putI_none {o : Int} (h : I0.ok 2 o 0 [] = true) : (R0.putI 2 o 0 []).toList ≠ [] := by
 intro e
 have h1 : (R0.putI 2 o 0 []).size = 16 := by
  rw [R0.putI, if_pos h, ByteArray.size_append, R0.head_size _ _ _ _ (by decide) (by decide), B4.nulls_size]
  rfl
 rw [Lib.toList_data] at e
 rw [Lib.size_eq, e] at h1
 cases h1
set_option maxHeartbeats 4000000 in
theorem impl_Format (o : Int) (w : World) : Calls Tryz.prog 10 #[.int .i64 o] w fun e w' => e = .returned (.string (fmt o)) ∧ Below w.heap.size w w' := by
 have HP0 : Hid (Calls Tryz.prog 29 #[val 2 o 0 none 0 0] w fun e w' => e = .returned (.string (R0.putI 2 o 0 [])) ∧ Below w.heap.size w w') := R1.impl_PutInode 2 o 0 none 0 [] w (by simp) (by simp) (Or.inl rfl)
 by_cases hok : I0.ok 2 o 0 [] = true
 ·have HF : Hid (fmt o = img o) := if_pos hok
  obtain ⟨z, hz⟩ : ∃ z, B4.zeros 768 = z := ⟨_, rfl⟩
  obtain ⟨g, hg⟩ : ∃ g, page0 = g := ⟨_, rfl⟩
  have hne := putI_none hok
  have p1 := putI_le o
  obtain ⟨p, hp⟩ : ∃ p, R0.putI 2 o 0 [] = p := ⟨_, rfl⟩
  obtain ⟨r, hr⟩ : ∃ r, L1.recAt 0 = r := ⟨_, rfl⟩
  obtain ⟨m, hm⟩ : ∃ m, img o = m := ⟨_, rfl⟩
  have z1 := zeros_le
  have g1 := page0_le
  have HG : Hid (B5.laid z 0 head = g) := show B5.laid z 0 head = g by rw [← hg, ← hz, page0]
  have HM : Hid (B5.laid g r p = m) := show B5.laid g r p = m by rw [← hg, ← hr, ← hp, ← hm, img]
  have HZ : Hid (∀ W, Calls Tryz.prog 31 #[.int .i64 768] W fun e w' => e = .returned (.string z) ∧ Below W.heap.size W w') := fun W => (B4.impl_Zeros 768 W).mono fun _ _ ⟨he, hb⟩ => ⟨by rw [he, hz], hb⟩
  have HR : Hid (∀ W, Calls Tryz.prog 32 #[.int .i64 0] W fun e w' => e = .returned (.int .i64 r) ∧ w' = W) := fun W => (L1.impl_RecAt 0 W).mono fun _ _ ⟨he, hb⟩ => ⟨by rw [he, hr], hb⟩
  rw [hz] at z1
  rw [hg] at g1
  rw [hp] at p1 hne HP0
  have hne' : (p.toList == []) = false := by simpa using hne
  rw [HF.out, hm]
  clear HF hz hg hp hr hm hok hne
  go_enter Tryz.func10, Tryz.ntmps10
  go_wp2_with (first
   | (go_at_call 29; refine HP0.out.mono ?_; rintro e w1 ⟨rfl, b1⟩)
   | (go_at_call 31; refine (HZ.out _).mono ?_; rintro e w2 ⟨rfl, b2'⟩; have b2 := b1.trans (b2'.mono b1.size))
   | (go_at_call 30; refine (iWith g1 p1 HM.out b3).mono ?_; rintro e w5 ⟨rfl, b5⟩)
   | (go_at_call 30; refine Calls.mono (iHead ?_ z1 HG.out b2) ?_; kernel_rfl; rintro e w3 ⟨rfl, b3⟩)
   | (go_at_call 32; refine (HR.out _).mono ?_; rintro e w4 ⟨rfl, rfl⟩))
  go_ret
  exact ⟨rfl, b5⟩
 ·have HF : Hid (fmt o = ⟨#[]⟩) := if_neg hok
  have hp : R0.putI 2 o 0 [] = ⟨#[]⟩ := if_neg hok
  rw [hp] at HP0
  rw [HF.out]
  clear HF hok hp
  go_enter Tryz.func10, Tryz.ntmps10
  go_wp2_with (go_at_call 29; refine HP0.out.mono ?_; rintro e w1 ⟨rfl, b1⟩)
  go_ret
  exact ⟨rfl, b1⟩
end Go.Proofs.YtpkmeknniajahaaGreatDoor.F4
namespace Go.Proofs.YtpkmeknniajahaaGreatDoor.Q0
open Go.ChangeShapes Go.WideShapes Go.ChangeAt Go.RowKit
theorem lt_of_cell {w : World} {b o : Nat} {v : Value} (h : w.cell? ⟨b, o, none⟩ = some v) : b < w.heap.size := by
 rcases Nat.lt_or_ge b w.heap.size with hlt | hge
 ·exact hlt
 ·unfold World.cell? at h
  rw [Array.getElem?_eq_none hge] at h
  simp at h
theorem big_no (a : Option Addr) (len cap : Nat) (w : World) (hl : ¬ 1048576 < (len : Int)) : Calls Tryz.prog 5 #[.slice a len cap] w fun e w' => e = .returned (.bool false) ∧ w' = w := by
 have hl' : decide (1048576 < (len : Int)) = false := by simpa using hl
 go_enter Tryz.func5, Tryz.ntmps5
 go_wp2
 go_ret
 exact ⟨rfl, rfl⟩
theorem big_yes (a : Option Addr) (len cap : Nat) (w : World) (hl : 1048576 < (len : Int)) : Calls Tryz.prog 5 #[.slice a len cap] w fun e w' => e = .returned (.bool true) ∧ w' = w := by
 go_enter Tryz.func5, Tryz.ntmps5
 go_wp2
 go_ret
 exact ⟨rfl, rfl⟩
end Go.Proofs.YtpkmeknniajahaaGreatDoor.Q0
namespace Go.Proofs.YtpkmeknniajahaaGreatDoor.TG
open Go.ChangeShapes Go.WideShapes Go.ChangeAt Go.RowKit
open C0 (Given)
open FI (Fl ffl file_cells zf files findI)
open TW (sound)
open TY (text)
open US (used)
open F4 (fmt)
theorem tr {w wk w' : World} (f : Below w.heap.size w wk) (b : Below wk.heap.size wk w') : Below w.heap.size w w' := f.trans (b.mono f.size)
structure St (w : World) (g : Nat) (F : List Fl) (a : Option Addr) (U : List Int) (W : World) : Prop where
 f : K0.Blk g (ffl F) W
 u : P0.Row W a U
 t : TU.Tabs W
 bel : Below w.heap.size w W
theorem St.below {w W W' : World} {g : Nat} {F : List Fl} {a : Option Addr} {U : List Int} (h : St w g F a U W) (hb : Below W.heap.size W W') : St w g F a U W' := ⟨h.f.below hb, h.u.below hb, h.t.below hb, tr h.bel hb⟩
theorem below_drewN (W : World) (n : Nat) : Below W.heap.size W (W.drewN n) := K0.below_drewN (Below.refl _ _) n
theorem not_sound {mem : ByteArray} (h : sound mem = false) : files mem = [] ∧ used mem = [] ∧ text mem = ⟨#[98, 97, 100, 10]⟩ := by
 refine ⟨?_, ?_, ?_⟩
 ·unfold files; rw [h]; rfl
 ·unfold used; rw [h]; rfl
 ·unfold text; rw [h]; rfl
theorem fmt_size (o : Int) : (fmt o).size ≤ 768 := by
 unfold fmt
 split
 ·rw [TF.img_size]; exact Nat.le_refl _
 ·exact Nat.zero_le _
set_option maxHeartbeats 0 in
set_option maxRecDepth 100000 in
theorem walk_small (a : Option Addr) (len cap : Nat) (w : World) (hc : Given w a len) (hl : len ≤ 1048576) (ht : TU.Tabs w) :
  Calls Tryz.prog 3 #[.slice a len cap] w fun e w' => e = .returned (.bool true) ∧ Below w.heap.size w w' := by
 have hbig : ¬ 1048576 < (len : Int) := by omega
 have HT : Hid (TU.Tabs w) := ht
 clear ht
 go_enter Tryz.func3, Tryz.ntmps3
 go_upto_region 8 with (first
  | (go_at_call 5; refine (Q0.big_no a len cap w hbig).mono ?_; rintro e wb ⟨rfl, rfl⟩)
  | (go_at_call 6; refine (C1.draw_Find hc hl).mono ?_; rintro e w1 ⟨m, p, hm, hp, rfl, f1⟩)
  | (go_at_call 7; refine (FI.impl_Files m _ (by omega)).mono ?_; rintro e w2 ⟨g, cg, rfl, hg, k2, b2⟩; have f2 := tr f1 b2)
  | (go_at_call 8; refine (US.impl_Used m _ (by omega)).mono ?_; rintro e w3 ⟨au, cu, rfl, ou, b3⟩; have f3 := tr f2 b3; have k3 := k2.below b3; have u3 := ou.row)
  | (go_at_call 9; refine (C1.draw_Format (hc.below f3) hl).mono ?_; rintro e w4 ⟨o, rfl, b4⟩; have f4 := tr f3 b4; have k4 := k3.below b4; have u4 := u3.below b4)
  | (go_at_call 10; refine (F4.impl_Format o _).mono ?_; rintro e w5 ⟨rfl, b5⟩; have f5 := tr f4 b5; have k5 := k4.below b5; have u5 := u4.below b5))
 have fz : St wb g (files m) au (used m) w5 := ⟨k5, u5, HT.out.below f5, f5⟩
 have hFl := FI.files_len m
 have hUl := US.used_len m
 have hfm := fmt_size o
 have sF : Hid (∀ W, Calls Tryz.prog 12 #[.string m] W fun e w' => ∃ g c, e = .returned (.slice (some ⟨g, 0, none⟩) (files m).length c) ∧ W.heap.size ≤ g ∧ K0.Blk g (ffl (files m)) w' ∧ Below W.heap.size W w') := fun W => FI.spec_Files m W (by omega)
 have sS : Hid (∀ g2 c2 W, K0.Blk g (ffl (files m)) W → K0.Blk g2 (ffl (files m)) W → Calls Tryz.prog 11 #[.slice (some ⟨g, 0, none⟩) (files m).length cg, .slice (some ⟨g2, 0, none⟩) (files m).length c2] W fun e w' => e = .returned (.bool true) ∧ ∃ n, w' = W.drewN n) := fun g2 c2 W h1 h2 => S0.sameFiles g cg g2 c2 (files m) W hFl h1 h2
 have iN : Hid (∀ q W, Calls Tryz.prog 13 #[.string m, .string q] W fun e w' => e = .returned (.int .i64 (findI q (files m))) ∧ Below W.heap.size W w') := fun q W => FI.impl_Find m q W (by omega)
 have sN : Hid (∀ q W, Calls Tryz.prog 14 #[.string m, .string q] W fun e w' => e = .returned (.int .i64 (findI q (files m))) ∧ Below W.heap.size W w') := fun q W => FI.spec_Find m q W (by omega)
 have sU : Hid (∀ W, Calls Tryz.prog 16 #[.string m] W fun e w' => ∃ a2 c2, e = .returned (.slice a2 (used m).length c2) ∧ P0.Row w' a2 (used m) ∧ Below W.heap.size W w') := fun W => (US.spec_Used m W (by omega)).mono fun e w' ⟨a2, c2, he, ho, hb⟩ => ⟨a2, c2, he, ho.row, hb⟩
 have sI : Hid (∀ a2 c2 W, P0.Row W au (used m) → P0.Row W a2 (used m) → Calls Tryz.prog 15 #[.slice au (used m).length cu, .slice a2 (used m).length c2] W fun e w' => e = .returned (.bool true) ∧ ∃ n, w' = W.drewN n) := fun a2 c2 W h1 h2 => S0.sameInts au a2 cu c2 (used m) W (by omega) h1 h2
 have sM : Hid (∀ W, Calls Tryz.prog 17 #[.int .i64 o] W fun e w' => e = .returned (.string (fmt o)) ∧ Below W.heap.size W w') := fun W => F4.spec_Format o W
 have iT : Hid (∀ W, TU.Tabs W → Calls Tryz.prog 18 #[.string m] W fun e w' => e = .returned (.string (text m)) ∧ Below W.heap.size W w') := fun W h => TC.impl_TreeText m W (by omega) h
 have sT : Hid (∀ W, Calls Tryz.prog 19 #[.string m] W fun e w' => e = .returned (.string (text m)) ∧ Below W.heap.size W w') := fun W => TC.spec_TreeText m W (by omega)
 have iS : Hid (∀ W, Calls Tryz.prog 20 #[.string m] W fun e w' => e = .returned (.bool (sound m)) ∧ Below W.heap.size W w') := fun W => TS.impl_Sound m W (by omega)
 have sD : Hid (∀ W, Calls Tryz.prog 21 #[.string m] W fun e w' => e = .returned (.bool (sound m)) ∧ Below W.heap.size W w') := fun W => TS.spec_Sound m W (by omega)
 have HM : Hid ((fmt o).toList ≠ [] → (∀ W, Calls Tryz.prog 20 #[.string (fmt o)] W fun e w' => e = .returned (.bool true) ∧ Below W.heap.size W w') ∧ ∀ W, Calls Tryz.prog 7 #[.string (fmt o)] W fun e w' => ∃ g c, e = .returned (.slice (some ⟨g, 0, none⟩) 1 c) ∧ Below W.heap.size W w') := fun h => by
  obtain ⟨h1, h2⟩ := TF.fmt_ok o h
  refine ⟨fun W => ?_, fun W => ?_⟩
  ·have := TS.impl_Sound (fmt o) W (by omega)
   rwa [h1] at this
  ·refine (FI.impl_Files (fmt o) W (by omega)).mono ?_
   rintro e w' ⟨g', c', he, _, _, hb⟩
   rw [h2] at he
   exact ⟨g', c', he, hb⟩
 have HN : Hid (sound m = false → files m = [] ∧ used m = [] ∧ text m = ⟨#[98, 97, 100, 10]⟩) := not_sound
 have HY : Hid (sound m = true → (∀ f ∈ files m, findI f.path (files m) = f.ino) ∧ (used m).Pairwise (· < ·) ∧ ∃ f r, files m = f :: r ∧ f.path = ⟨#[47]⟩ ∧ f.kind = 2) := fun h => ⟨fun f hf => TF.find_own h hf, TF.used_up h, TF.first h⟩
 generalize fmt o = M at *
 generalize text m = T at *
 generalize used m = U at *
 generalize files m = F at *
 generalize sound m = b at *
 clear k2 b2 b3 b4 b5 k3 k4 k5 u3 u4 u5 ou f1 f2 f3 f4 f5 hg
 by_cases hM : M.toList = []
 ·have hMe : M = ⟨#[]⟩ := TF.of_list (by rw [← Lib.toList_data, hM])
  subst hMe
  clear HM hM
  go_upto_region 10 with (first
   | (go_at_call 12; refine (sF.out _).mono ?_; rintro e v1 ⟨g2, c2, rfl, hg2, q1, hb1⟩; have z1 := fz.below hb1)
   | (go_at_call 11; refine (sS.out _ _ _ z1.f q1).mono ?_; rintro e v2 ⟨rfl, n2, rfl⟩; have z2 := z1.below (below_drewN _ n2))
   | (go_at_call 13; refine (iN.out _ _).mono ?_; rintro e v3 ⟨rfl, hb3⟩; have z3 := z2.below hb3)
   | (go_at_call 14; refine (sN.out _ _).mono ?_; rintro e v4 ⟨rfl, hb4⟩; have z4 := z3.below hb4)
   | (go_at_call 16; refine (sU.out _).mono ?_; rintro e v5 ⟨a5, c5, rfl, r5, hb5⟩; have z5 := z4.below hb5)
   | (go_at_call 15; refine (sI.out _ _ _ z5.u r5).mono ?_; rintro e v6 ⟨rfl, n6, rfl⟩; have z6 := z5.below (below_drewN _ n6))
   | (go_at_call 17; refine (sM.out _).mono ?_; rintro e v7 ⟨rfl, hb7⟩; have z7 := z6.below hb7)
   | (go_at_call 18; refine (iT.out _ z7.t).mono ?_; rintro e v8 ⟨rfl, hb8⟩; have z8 := z7.below hb8)
   | (go_at_call 19; refine (sT.out _).mono ?_; rintro e v9 ⟨rfl, hb9⟩; have z9 := z8.below hb9)
   | (go_at_call 20; refine (iS.out _).mono ?_; rintro e v10 ⟨rfl, hb10⟩; have z10 := z9.below hb10)
   | (go_at_call 21; refine (sD.out _).mono ?_; rintro e v11 ⟨rfl, hb11⟩; have z11 := z10.below hb11))
  have zz := z11
  generalize v11 = V at zz ⊢
  clear z1 z2 z3 z4 z5 z6 z7 z8 z9 z10 z11 hb1 hb3 hb4 hb5 hb7 hb8 hb9 hb10 q1 r5 hg2 sS sI sM sN sU sF iS
  cases b with
  | false =>
   obtain ⟨hF, hU, hT⟩ := HN.out rfl
   subst hF
   subst hU
   subst hT
   go_wp2_with (first
    | (go_at_call 21; refine (sD.out _).mono ?_; rintro e x1 ⟨rfl, h1⟩; have y1 := zz.below h1)
    | (go_at_call 18; refine (iT.out _ y1.t).mono ?_; rintro e x2 ⟨rfl, h2⟩; have y2 := y1.below h2))
   go_ret
   exact ⟨rfl, y2.bel⟩
  | true =>
   obtain ⟨hfind, hup, f0, r0, hF, hp0, hk0⟩ := HY.out rfl
   have HF : Hid (∀ f ∈ F, findI f.path F = f.ino) := hfind
   have HU : Hid (U.Pairwise (· < ·)) := hup
   have H0 : Hid (∀ W, K0.Blk g (ffl F) W → 0 < F.length ∧ W.cell? ⟨g, 1, none⟩ = some (.string ⟨#[47]⟩) ∧ W.cell? ⟨g, 2, none⟩ = some (.int .i64 2)) := fun W h => by
    have hl : 0 < F.length := by rw [hF]; simp
    obtain ⟨_, x1, x2, _, _⟩ := file_cells h hl
    have e0 : F.getD 0 zf = f0 := by rw [hF]; rfl
    rw [e0, hp0] at x1
    rw [e0, hk0] at x2
    simp only [Nat.zero_mul, Nat.zero_add] at x1 x2
    exact ⟨hl, x1, x2⟩
   clear hfind hup hF hp0 hk0 HN HY
   go_upto_region 12 with (go_at_call 21; refine (sD.out _).mono ?_; rintro e x1 ⟨rfl, h1⟩; have y1 := zz.below h1)
   clear zz h1
   go_wp2
   go_loopg [9] F.length (fun gk i W => ∃ j : Nat, j + gk = F.length ∧ i = .int .i64 j ∧ St wb g F au U W)
   case atStart => exact ⟨0, by omega, rfl, y1⟩
   case round =>
    obtain ⟨j, hj, rfl, y2⟩ := hrel
    clear y1
    by_cases hjn : j < F.length
    ·have y3 := y2.below ((Below.refl _ _).drew)
     obtain ⟨p0, p1, _, _, _⟩ := file_cells y3.f hjn
     have hfd := HF.out (F.getD j zf) (by simp [List.getD, hjn])
     obtain ⟨f, hf⟩ : ∃ f, F.getD j zf = f := ⟨_, rfl⟩
     rw [hf] at p0 p1 hfd
     have hS0 : wr.drew.cell? ⟨g, j * 5, none⟩ = some (.int .i64 f.ino) ∧ wr.drew.cell? ⟨g, j * 5 + 1, none⟩ = some (.string f.path) := ⟨p0, p1⟩
     have hN : Hid (∀ W, Calls Tryz.prog 13 #[.string m, .string f.path] W fun e w' => e = .returned (.int .i64 f.ino) ∧ Below W.heap.size W w') := fun W => by have := iN.out f.path W; rwa [hfd] at this
     have d1 : (0 : Int) ≤ (j : Int) := by omega
     have d2 : (j : Int) < (F.length : Int) := by omega
     have L := y3.f.lt
     clear p0 p1 hfd hf y2
     go_wp2
     go_region_held3 (fun W => W.cell? ⟨g, j * 5, none⟩ = some (.int .i64 f.ino) ∧ W.cell? ⟨g, j * 5 + 1, none⟩ = some (.string f.path)) (assumption) ((go_at_call 13; refine (hN.out _).mono ?_; rintro e w4 ⟨rfl, b4⟩; have hS4 : w4.cell? ⟨g, j * 5, none⟩ = some (.int .i64 f.ino) ∧ w4.cell? ⟨g, j * 5 + 1, none⟩ = some (.string f.path) := ⟨(b4.cell (p := ⟨g, j * 5, none⟩) L).trans hS0.1, (b4.cell (p := ⟨g, j * 5 + 1, none⟩) L).trans hS0.2⟩))
     have y4 := y3.below b4
     go_wp2
     go_roundg (F.length - (j + 1))
     case measure => omega
     case rel => exact ⟨j + 1, by omega, by go_num, y4⟩
    ·have d2 : ¬ ((j : Int) < (F.length : Int)) := by omega
     clear HF iN
     go_wp2
     go_loopg [10] U.length (fun gk i W => ∃ n : Nat, n + gk = U.length ∧ i = .int .i64 ((n : Int) + 1) ∧ St wb g F au U W)
     case atStart => exact ⟨0, by omega, rfl, y2⟩
     case round =>
      obtain ⟨n, hn, rfl, y5⟩ := hrel
      clear y2
      by_cases hnn : n + 1 < U.length
      ·obtain ⟨b1, off1, hau, hb1, hc1⟩ := y5.u.get hnn
       have p1 := hc1 (n + 1) hnn
       have p2 := hc1 n (by omega)
       have hlt : U.getD n 0 < U.getD (n + 1) 0 := by
        have := (List.pairwise_iff_getElem.1 HU.out) n (n + 1) (by omega) hnn (by omega)
        simpa [List.getD, hnn, show n < U.length by omega] using this
       obtain ⟨p, hp⟩ : ∃ p, U.getD (n + 1) 0 = p := ⟨_, rfl⟩
       obtain ⟨q, hq⟩ : ∃ q, U.getD n 0 = q := ⟨_, rfl⟩
       rw [hp] at p1 hlt
       rw [hq] at p2 hlt
       have hle : ¬ (p ≤ q) := by omega
       have d3 : (0 : Int) ≤ (n : Int) + 1 := by omega
       have d4 : (n : Int) + 1 < (U.length : Int) := by omega
       subst hau
       have hw : IntKind.i64.wrap ((n : Int) + 1 - 1) = (n : Int) := by
        rw [show (n : Int) + 1 - 1 = (n : Int) by omega]
        exact C1.wrap_of _ (by omega) (by omega)
       have d6 : (0 : Int) ≤ (n : Int) := by omega
       have d7 : (n : Int) < (U.length : Int) := by omega
       clear hc1 H0 HU
       go_wp2
       go_quiet (fail)
       go_wp2
       have bq := K0.below_drewN (Below.refl wr.heap.size wr) nq
       go_roundg (U.length - (n + 1))
       case measure => omega
       case rel => exact ⟨n + 1, by omega, by go_num, y5.below bq⟩
      ·have d4 : ¬ ((n : Int) + 1 < (U.length : Int)) := by omega
       obtain ⟨hz, x1, x2⟩ := H0.out _ y5.f
       have d5 : (0 : Int) < (F.length : Int) := by omega
       clear H0 HU
       go_wp2
       go_ret
       exact ⟨rfl, y5.bel⟩
 ·obtain ⟨hm1, hm2⟩ := HM.out hM
  have hM1 : Hid (∀ W, Calls Tryz.prog 20 #[.string M] W fun e w' => e = .returned (.bool true) ∧ Below W.heap.size W w') := hm1
  have hM2 : Hid (∀ W, Calls Tryz.prog 7 #[.string M] W fun e w' => ∃ g c, e = .returned (.slice (some ⟨g, 0, none⟩) 1 c) ∧ Below W.heap.size W w') := hm2
  have hMe : (M.toList == []) = false := by simpa using hM
  clear HM hM hm1 hm2
  go_upto_region 10 with (first
   | (go_at_call 12; refine (sF.out _).mono ?_; rintro e v1 ⟨g2, c2, rfl, hg2, q1, hb1⟩; have z1 := fz.below hb1)
   | (go_at_call 11; refine (sS.out _ _ _ z1.f q1).mono ?_; rintro e v2 ⟨rfl, n2, rfl⟩; have z2 := z1.below (below_drewN _ n2))
   | (go_at_call 13; refine (iN.out _ _).mono ?_; rintro e v3 ⟨rfl, hb3⟩; have z3 := z2.below hb3)
   | (go_at_call 14; refine (sN.out _ _).mono ?_; rintro e v4 ⟨rfl, hb4⟩; have z4 := z3.below hb4)
   | (go_at_call 16; refine (sU.out _).mono ?_; rintro e v5 ⟨a5, c5, rfl, r5, hb5⟩; have z5 := z4.below hb5)
   | (go_at_call 15; refine (sI.out _ _ _ z5.u r5).mono ?_; rintro e v6 ⟨rfl, n6, rfl⟩; have z6 := z5.below (below_drewN _ n6))
   | (go_at_call 17; refine (sM.out _).mono ?_; rintro e v7 ⟨rfl, hb7⟩; have z7 := z6.below hb7)
   | (go_at_call 18; refine (iT.out _ z7.t).mono ?_; rintro e v8 ⟨rfl, hb8⟩; have z8 := z7.below hb8)
   | (go_at_call 19; refine (sT.out _).mono ?_; rintro e v9 ⟨rfl, hb9⟩; have z9 := z8.below hb9)
   | (go_at_call 20; have z11' := z11; refine (hM1.out _).mono ?_; rintro e v12 ⟨rfl, hb12⟩; have z12 := z11.below hb12)
   | (go_at_call 7; refine (hM2.out _).mono ?_; rintro e v13 ⟨g13, c13, rfl, hb13⟩; have z13 := z12.below hb13)
   | (go_at_call 20; refine (iS.out _).mono ?_; rintro e v10 ⟨rfl, hb10⟩; have z10 := z9.below hb10)
   | (go_at_call 21; refine (sD.out _).mono ?_; rintro e v11 ⟨rfl, hb11⟩; have z11 := z10.below hb11))
  have zz := z13
  generalize v13 = V at zz ⊢
  clear z1 z2 z3 z4 z5 z6 z7 z8 z9 z10 z11 hb1 hb3 hb4 hb5 hb7 hb8 hb9 hb10 q1 r5 hg2 sS sI sM sN sU sF iS z12 z13 hb12 hb13 hb11 hM1 hM2 hMe
  cases b with
  | false =>
   obtain ⟨hF, hU, hT⟩ := HN.out rfl
   subst hF
   subst hU
   subst hT
   go_wp2_with (first
    | (go_at_call 21; refine (sD.out _).mono ?_; rintro e x1 ⟨rfl, h1⟩; have y1 := zz.below h1)
    | (go_at_call 18; refine (iT.out _ y1.t).mono ?_; rintro e x2 ⟨rfl, h2⟩; have y2 := y1.below h2))
   go_ret
   exact ⟨rfl, y2.bel⟩
  | true =>
   obtain ⟨hfind, hup, f0, r0, hF, hp0, hk0⟩ := HY.out rfl
   have HF : Hid (∀ f ∈ F, findI f.path F = f.ino) := hfind
   have HU : Hid (U.Pairwise (· < ·)) := hup
   have H0 : Hid (∀ W, K0.Blk g (ffl F) W → 0 < F.length ∧ W.cell? ⟨g, 1, none⟩ = some (.string ⟨#[47]⟩) ∧ W.cell? ⟨g, 2, none⟩ = some (.int .i64 2)) := fun W h => by
    have hl : 0 < F.length := by rw [hF]; simp
    obtain ⟨_, x1, x2, _, _⟩ := file_cells h hl
    have e0 : F.getD 0 zf = f0 := by rw [hF]; rfl
    rw [e0, hp0] at x1
    rw [e0, hk0] at x2
    simp only [Nat.zero_mul, Nat.zero_add] at x1 x2
    exact ⟨hl, x1, x2⟩
   clear hfind hup hF hp0 hk0 HN HY
   go_upto_region 12 with (go_at_call 21; refine (sD.out _).mono ?_; rintro e x1 ⟨rfl, h1⟩; have y1 := zz.below h1)
   clear zz h1
   go_wp2
   go_loopg [9] F.length (fun gk i W => ∃ j : Nat, j + gk = F.length ∧ i = .int .i64 j ∧ St wb g F au U W)
   case atStart => exact ⟨0, by omega, rfl, y1⟩
   case round =>
    obtain ⟨j, hj, rfl, y2⟩ := hrel
    clear y1
    by_cases hjn : j < F.length
    ·have y3 := y2.below ((Below.refl _ _).drew)
     obtain ⟨p0, p1, _, _, _⟩ := file_cells y3.f hjn
     have hfd := HF.out (F.getD j zf) (by simp [List.getD, hjn])
     obtain ⟨f, hf⟩ : ∃ f, F.getD j zf = f := ⟨_, rfl⟩
     rw [hf] at p0 p1 hfd
     have hS0 : wr.drew.cell? ⟨g, j * 5, none⟩ = some (.int .i64 f.ino) ∧ wr.drew.cell? ⟨g, j * 5 + 1, none⟩ = some (.string f.path) := ⟨p0, p1⟩
     have hN : Hid (∀ W, Calls Tryz.prog 13 #[.string m, .string f.path] W fun e w' => e = .returned (.int .i64 f.ino) ∧ Below W.heap.size W w') := fun W => by have := iN.out f.path W; rwa [hfd] at this
     have d1 : (0 : Int) ≤ (j : Int) := by omega
     have d2 : (j : Int) < (F.length : Int) := by omega
     have L := y3.f.lt
     clear p0 p1 hfd hf y2
     go_wp2
     go_region_held3 (fun W => W.cell? ⟨g, j * 5, none⟩ = some (.int .i64 f.ino) ∧ W.cell? ⟨g, j * 5 + 1, none⟩ = some (.string f.path)) (assumption) ((go_at_call 13; refine (hN.out _).mono ?_; rintro e w4 ⟨rfl, b4⟩; have hS4 : w4.cell? ⟨g, j * 5, none⟩ = some (.int .i64 f.ino) ∧ w4.cell? ⟨g, j * 5 + 1, none⟩ = some (.string f.path) := ⟨(b4.cell (p := ⟨g, j * 5, none⟩) L).trans hS0.1, (b4.cell (p := ⟨g, j * 5 + 1, none⟩) L).trans hS0.2⟩))
     have y4 := y3.below b4
     go_wp2
     go_roundg (F.length - (j + 1))
     case measure => omega
     case rel => exact ⟨j + 1, by omega, by go_num, y4⟩
    ·have d2 : ¬ ((j : Int) < (F.length : Int)) := by omega
     clear HF iN
     go_wp2
     go_loopg [10] U.length (fun gk i W => ∃ n : Nat, n + gk = U.length ∧ i = .int .i64 ((n : Int) + 1) ∧ St wb g F au U W)
     case atStart => exact ⟨0, by omega, rfl, y2⟩
     case round =>
      obtain ⟨n, hn, rfl, y5⟩ := hrel
      clear y2
      by_cases hnn : n + 1 < U.length
      ·obtain ⟨b1, off1, hau, hb1, hc1⟩ := y5.u.get hnn
       have p1 := hc1 (n + 1) hnn
       have p2 := hc1 n (by omega)
       have hlt : U.getD n 0 < U.getD (n + 1) 0 := by
        have := (List.pairwise_iff_getElem.1 HU.out) n (n + 1) (by omega) hnn (by omega)
        simpa [List.getD, hnn, show n < U.length by omega] using this
       obtain ⟨p, hp⟩ : ∃ p, U.getD (n + 1) 0 = p := ⟨_, rfl⟩
       obtain ⟨q, hq⟩ : ∃ q, U.getD n 0 = q := ⟨_, rfl⟩
       rw [hp] at p1 hlt
       rw [hq] at p2 hlt
       have hle : ¬ (p ≤ q) := by omega
       have d3 : (0 : Int) ≤ (n : Int) + 1 := by omega
       have d4 : (n : Int) + 1 < (U.length : Int) := by omega
       subst hau
       have hw : IntKind.i64.wrap ((n : Int) + 1 - 1) = (n : Int) := by
        rw [show (n : Int) + 1 - 1 = (n : Int) by omega]
        exact C1.wrap_of _ (by omega) (by omega)
       have d6 : (0 : Int) ≤ (n : Int) := by omega
       have d7 : (n : Int) < (U.length : Int) := by omega
       clear hc1 H0 HU
       go_wp2
       go_quiet (fail)
       go_wp2
       have bq := K0.below_drewN (Below.refl wr.heap.size wr) nq
       go_roundg (U.length - (n + 1))
       case measure => omega
       case rel => exact ⟨n + 1, by omega, by go_num, y5.below bq⟩
      ·have d4 : ¬ ((n : Int) + 1 < (U.length : Int)) := by omega
       obtain ⟨hz, x1, x2⟩ := H0.out _ y5.f
       have d5 : (0 : Int) < (F.length : Int) := by omega
       clear H0 HU
       go_wp2
       go_ret
       exact ⟨rfl, y5.bel⟩
set_option maxRecDepth 100000 in
theorem walk (a : Option Addr) (len cap : Nat) (w : World) (hc : Given w a len) (ht : TU.Tabs w) : Calls Tryz.prog 3 #[.slice a len cap] w fun e w' => e = .returned (.bool true) ∧ Below w.heap.size w w' := by
 by_cases hl : 1048576 < (len : Int)
 ·go_enter Tryz.func3, Tryz.ntmps3
  go_wp2_with (go_at_call 5; refine (Q0.big_yes a len cap w hl).mono ?_; rintro e w1 ⟨rfl, rfl⟩)
  go_ret
  exact ⟨rfl, Below.refl _ _⟩
 ·exact walk_small a len cap w hc (by omega) ht
end Go.Proofs.YtpkmeknniajahaaGreatDoor.TG
