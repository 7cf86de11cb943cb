/- Joined texts: plain facts and contracts. -/
import Derived.Test.YtpkmeknniajahaaGreatDoorJtU
import Derived.Test.YtpkmeknniajahaaGreatDoorJtV
set_option linter.unusedVariables false
set_option linter.unusedSimpArgs false
set_option maxRecDepth 10000
namespace Go.Proofs.YtpkmeknniajahaaGreatDoor.TC
open Go.ChangeShapes Go.WideShapes Go.ChangeAt Go.RowKit
open TW (sound)
open TY (text)
theorem spec_TreeText (mem : ByteArray) (w : World) (hms : mem.size ≤ 281474976710656) : Calls Tryz.prog 19 #[.string mem] w fun e w' => e = .returned (.string (text mem)) ∧ Below w.heap.size w w' := by
 cases hs : sound mem with
 | false => exact TY.spec_bad mem w hms hs
 | true => exact TY.spec_good mem w hms hs (TZ.small hs) (TZ.cat_small hs)
theorem impl_TreeText (mem : ByteArray) (w : World) (hms : mem.size ≤ 281474976710656) (ht : TU.Tabs w) : Calls Tryz.prog 18 #[.string mem] w fun e w' => e = .returned (.string (text mem)) ∧ Below w.heap.size w w' := by
 cases hs : sound mem with
 | false => exact TY.impl_bad mem w hms hs
 | true => exact TB.impl_good mem w hms hs ht
set_option maxHeartbeats 1000000 in
theorem walk (mem : ByteArray) (w : World) (ht : TU.Tabs w) : Calls Tryz.prog 4 #[.string mem] w fun e w' => e = .returned (.bool true) ∧ Below w.heap.size w w' := by
 by_cases hm : mem.size ≤ 1048576
 ·have HS : Hid (∀ W, Calls Tryz.prog 19 #[.string mem] W fun e w' => e = .returned (.string (text mem)) ∧ Below W.heap.size W w') := fun W => spec_TreeText mem W (by omega)
  have HI : Hid (∀ W, TU.Tabs W → Calls Tryz.prog 18 #[.string mem] W fun e w' => e = .returned (.string (text mem)) ∧ Below W.heap.size W w') := fun W h => impl_TreeText mem W (by omega) h
  have HT : Hid (TU.Tabs w) := ht
  generalize text mem = T at HS HI
  have h1 : ¬ ((1048576 : Int) < (mem.size : Int)) := by omega
  clear ht
  go_enter Tryz.func4, Tryz.ntmps4
  go_wp2_with (first
   | (go_at_call 19; refine (HS.out _).mono ?_; rintro e w1 ⟨rfl, b1⟩; have t1 := HT.out.below b1)
   | (go_at_call 18; refine (HI.out _ t1).mono ?_; rintro e w2 ⟨rfl, b2⟩; have l2 := b1.trans (b2.mono b1.size)))
  go_ret
  exact ⟨rfl, l2⟩
 ·have h1 : (1048576 : Int) < (mem.size : Int) := by omega
  go_enter Tryz.func4, Tryz.ntmps4
  go_wp2
  go_ret
  exact ⟨rfl, Below.refl _ _⟩
end Go.Proofs.YtpkmeknniajahaaGreatDoor.TC
