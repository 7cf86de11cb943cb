/- Contracts of impl.Puts and spec.Puts, as the given laws call them. -/
import Derived.Test.YtkdjcbmmbjongaaDir0
import Derived.Test.YtkdjcbmmbjongaaWith1
import Derived.Test.YtkdjcbmmbjongaaImplPart1
import Derived.Deep.QuietTactic
import Derived.BigQuiet
namespace Go.Proofs.Ytkdjcbmmbjongaa.PU
open Go.ChangeShapes Go.WideShapes Go.ChangeAt Go.RowKit
set_option linter.unusedVariables false
set_option linter.unusedSimpArgs false
set_option maxRecDepth 10000

theorem laid_size (s : ByteArray) (i : Int) (t : ByteArray) : (B5.laid s i t).size = s.size := by
  unfold B5.laid
  split
  next h =>
    obtain ⟨h1, h2, h3⟩ := B2.lies_true h
    simp only [ByteArray.size_append, ByteArray.size_extract]
    omega
  next => rfl

/-- A memory with the first of some puts. -/
def put (mem : ByteArray) (es : List T0.Ent) : Nat → ByteArray
  | 0 => mem
  | k + 1 => B5.laid (put mem es k) (T0.ent es k).1 (T0.ent es k).2

theorem put_size (mem : ByteArray) (es : List T0.Ent) : ∀ k, (put mem es k).size = mem.size
  | 0 => rfl
  | k + 1 => by rw [put, laid_size, put_size mem es k]

theorem ret_str {a b : ByteArray} (h : a = b) : Ending.returned (.string a) = .returned (.string b) := by rw [h]

set_option maxHeartbeats 1000000 in
theorem spec_Puts (mem : ByteArray) (a : Option Addr) (c : Nat) (es : List T0.Ent) (w : World) (hm : mem.size ≤ 281474976710656) (hn : es.length ≤ 281474976710656) (hfit : T0.Fits es) (hR : T0.Row w a es) :
    Calls Try.prog 6 #[.string mem, .slice a es.length c] w fun e w' => e = .returned (.string (put mem es es.length)) ∧ Below w.heap.size w w' := by
  go_enter Try.func6, Try.ntmps6
  go_wp2
  go_loopw [0, 5] (fun s i w' => ∃ k : Nat, k ≤ es.length ∧ i = .int .i64 k ∧ s = .string (put mem es k) ∧ Below w.heap.size w w') (fun _ i _ => es.length - (intOf i).toNat)
  case atStart => exact ⟨0, Nat.zero_le _, rfl, rfl, Below.refl _ _⟩
  case round =>
    obtain ⟨k, hk, rfl, rfl, hbel⟩ := hrel
    have hB := hbel.size
    by_cases hlt : k < es.length
    · obtain ⟨b, off, rfl, hlt0, hc⟩ := (hR.below hbel).get hlt
      have y1 := (hc k hlt).1
      have y2 := (hc k hlt).2
      have hf := hfit k hlt
      have hp := put_size mem es k
      have hu : put mem es (k + 1) = B5.laid (put mem es k) (T0.ent es k).1 (T0.ent es k).2 := rfl
      obtain ⟨z, ez⟩ : ∃ z, T0.ent es k = z := ⟨_, rfl⟩
      rw [ez] at y1 y2 hf hu
      obtain ⟨u, v⟩ := z
      simp only at y1 y2 hf hu
      have HU : Hid (put mem es (k + 1) = B5.laid (put mem es k) u v) := hu
      have hw : Hid (∀ W, Calls Try.prog 19 #[.string (put mem es k), .int .i64 u, .string v] W fun e w' => e = .returned (.string (B5.laid (put mem es k) u v)) ∧ ∃ n, w' = W.drewN n) := fun W => B5.spec_With _ u v W (by omega) hf
      have e1 : (0 : Int) ≤ (k : Int) := by omega
      have e2 : (k : Int) < (es.length : Int) := by omega
      clear ez hc hfit hR hu hp
      go_wp2
      go_quiet ((go_at_call 19; exact Calls.quiet_of (hw.out _)))
      have b1 := K0.below_drewN hbel nq
      go_wp2
      go_roundw
      case rel => exact ⟨k + 1, by omega, by go_num, by rw [HU.out], b1⟩
      case measure => simp [intOf]; omega
    · obtain rfl : k = es.length := by omega
      clear hR hfit
      go_wp2
      go_ret
      exact ⟨rfl, hbel⟩

set_option maxHeartbeats 1000000 in
theorem impl_Puts (mem : ByteArray) (a : Option Addr) (c : Nat) (es : List T0.Ent) (w : World) (hm : mem.size ≤ 281474976710656) (hn : es.length ≤ 281474976710656) (hfit : T0.Fits es) (hR : T0.Row w a es) :
    Calls Try.prog 8 #[.string mem, .slice a es.length c] w fun e w' => e = .returned (.string (put mem es es.length)) ∧ Below w.heap.size w w' := by
  go_enter Try.func8, Try.ntmps8
  go_wp2_with (go_at_call 21; refine (B2.clone_any mem _ hm).mono ?_; rintro e w0 ⟨rfl, b0⟩)
  go_loopw [0, 11] (fun s i w' => ∃ k : Nat, k ≤ es.length ∧ i = .int .i64 k ∧ s = .string (put mem es k) ∧ Below w.heap.size w w') (fun _ i _ => es.length - (intOf i).toNat)
  case atStart => exact ⟨0, Nat.zero_le _, rfl, rfl, b0⟩
  case round =>
    obtain ⟨k, hk, rfl, rfl, hbel⟩ := hrel
    clear b0
    have hB := hbel.size
    by_cases hlt : k < es.length
    · obtain ⟨b, off, rfl, hlt0, hc⟩ := (hR.below hbel).get hlt
      have y1 := (hc k hlt).1
      have y2 := (hc k hlt).2
      have hf := hfit k hlt
      have hp := put_size mem es k
      have hu : put mem es (k + 1) = B5.laid (put mem es k) (T0.ent es k).1 (T0.ent es k).2 := rfl
      obtain ⟨z, ez⟩ : ∃ z, T0.ent es k = z := ⟨_, rfl⟩
      rw [ez] at y1 y2 hf hu
      obtain ⟨u, v⟩ := z
      simp only at y1 y2 hf hu
      have HU : Hid (put mem es (k + 1) = B5.laid (put mem es k) u v) := hu
      have hw : Hid (∀ W, Calls Try.prog 22 #[.string (put mem es k), .int .i64 u, .string v] W fun e w' => e = .returned (.string (B5.laid (put mem es k) u v)) ∧ Below W.heap.size W w') := fun W => B5.impl_With _ u v W (by omega) hf
      have e1 : (0 : Int) ≤ (k : Int) := by omega
      have e2 : (k : Int) < (es.length : Int) := by omega
      clear ez hc hfit hR hu hp
      have bela := hbel.alloc hB (.cells #[.int .i64 u, .string v] 45)
      go_wp2_with (go_at_call 22; refine (hw.out _).mono ?_; rintro e w1 ⟨rfl, b1⟩; have b2 := bela.trans (b1.mono bela.size))
      go_roundw
      case rel => exact ⟨k + 1, by omega, by go_num, by rw [HU.out], b2⟩
      case measure => simp [intOf]; omega
    · obtain rfl : k = es.length := by omega
      clear hR hfit
      go_wp2
      go_ret
      exact ⟨rfl, hbel⟩
end Go.Proofs.Ytkdjcbmmbjongaa.PU
