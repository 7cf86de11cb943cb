/- Joined texts: plain facts and contracts. -/
import Derived.Test.YtljnkicgahepfaaGreatDoorJqC
import Derived.Test.YtljnkicgahepfaaGreatDoorRows
import Derived.Test.YtljnkicgahepfaaGreatDoorJqA
import Derived.ProofKit
import Derived.Handy
import Derived.WalkKit
import Derived.Deep.QuietTactic
import Derived.BigQuiet
import Derived.Lib.Strings
set_option linter.unusedVariables false
set_option linter.unusedSimpArgs false
set_option maxRecDepth 10000
namespace Go.Proofs.YtljnkicgahepfaaGreatDoor.LF
open Go.ChangeShapes Go.WideShapes Go.ChangeAt Go.RowKit
open I2 (ints)
open J0 (IBuf Own)
variable {lo hi lo' hi' g : Nat} {w W W' w' : World}
def Wr (b m : Nat) (W : World) : Prop := ∀ j, j < m → (∃ v, W.cell? ⟨b, j, none⟩ = some v) ∧ W.frozen? ⟨b, j, none⟩ = false
theorem wr_blk {vs : List Value} (h : K0.Blk g vs W) : Wr g vs.length W := fun j hj => ⟨⟨_, h.cell j hj⟩, h.free j hj⟩
theorem wr_set {b m : Nat} (h : Wr b m W) (p : Addr) (v : Value) : Wr b m (W.setCell p v) := by
 intro j hj
 obtain ⟨⟨u, hu⟩, hf⟩ := h j hj
 refine ⟨?_, by rw [World.frozen?_setCell]; exact hf⟩
 by_cases e : p = ⟨b, j, none⟩
 ·subst e
  exact ⟨v, World.cell?_setCell_same _ _ _ hu⟩
 ·exact ⟨u, by rw [World.cell?_setCell_other _ _ _ _ e]; exact hu⟩
theorem lt_of_cell {b j : Nat} {v : Value} (h : W.cell? ⟨b, j, none⟩ = some v) : b < W.heap.size := by
 rcases Nat.lt_or_ge b W.heap.size with h1 | h1
 ·exact h1
 ·unfold World.cell? at h
  rw [Array.getElem?_eq_none h1] at h
  simp at h
structure Btw (lo hi : Nat) (w w' : World) : Prop where
 os : w'.os = w.os
 tape : w'.tape = w.tape
 output : w'.output = w.output
 size : w.heap.size ≤ w'.heap.size
 block : ∀ k, k < w.heap.size → k < lo ∨ hi ≤ k → w'.heap[k]? = w.heap[k]?
 wr : ∀ b m, Wr b m w → Wr b m w'
theorem Btw.refl (lo hi : Nat) (w : World) : Btw lo hi w w := ⟨rfl, rfl, rfl, Nat.le_refl _, fun _ _ _ => rfl, fun _ _ h => h⟩
theorem Btw.trans (h : Btw lo hi w W) (k : Btw lo hi W W') : Btw lo hi w W' :=
 ⟨k.os.trans h.os, k.tape.trans h.tape, k.output.trans h.output, Nat.le_trans h.size k.size, fun i hi hx => (k.block i (Nat.lt_of_lt_of_le hi h.size) hx).trans (h.block i hi hx), fun b m hw => k.wr b m (h.wr b m hw)⟩
theorem Btw.mono (h : Btw lo hi w W) (h1 : lo' ≤ lo) (h2 : hi ≤ hi') : Btw lo' hi' w W :=
 ⟨h.os, h.tape, h.output, h.size, fun k hk hx => h.block k hk (by omega), h.wr⟩
theorem wr_below {b m : Nat} (h : Wr b m w) (hb : Below w.heap.size w W) : Wr b m W := by
 intro j hj
 obtain ⟨⟨v, hv⟩, hf⟩ := h j hj
 have hlt := lt_of_cell hv
 exact ⟨⟨v, (hb.cell (p := ⟨b, j, none⟩) hlt).trans hv⟩, (hb.frozen (p := ⟨b, j, none⟩) hlt).trans hf⟩
theorem Btw.ofBelow (h : Below w.heap.size w W) : Btw lo hi w W := ⟨h.os, h.tape, h.output, h.size, fun k hk _ => h.block k hk, fun _ _ hw => wr_below hw h⟩
theorem Btw.then (h : Btw lo hi w W) (hb : Below W.heap.size W W') : Btw lo hi w W' := h.trans (Btw.ofBelow hb)
theorem Btw.set (h : Btw lo hi w W) {p : Addr} (h1 : lo ≤ p.block) (h2 : p.block < hi) (v : Value) : Btw lo hi w (W.setCell p v) :=
 h.trans ⟨rfl, rfl, rfl, by simp [World.setCell], fun k hk hx => Below.heap_setCell _ _ _ _ (by omega), fun b m hw => wr_set hw p v⟩
theorem Btw.below {b : Nat} (h : Btw lo hi w W) (hb : b ≤ lo) (hs : b ≤ w.heap.size) : Below b w W := ⟨h.os, h.tape, h.output, h.size, fun k hk => h.block k (by omega) (by omega)⟩
theorem blk_btw {B : Nat} {vs : List Value} (h : K0.Blk B vs w) (hb : Btw lo hi w W) (hx : B < lo ∨ hi ≤ B) : K0.Blk B vs W := by
 have e := hb.block B h.lt hx
 refine ⟨fun j hj => ?_, fun j hj => ?_, Nat.lt_of_lt_of_le h.lt hb.size⟩
 ·rw [World.cell?_of_block (a := ⟨B, j, none⟩) e]
  exact h.cell j hj
 ·rw [World.frozen?_of_block (a := ⟨B, j, none⟩) e]
  exact h.free j hj
def mfrom (k n : Nat) : List Int := (List.range n).map fun (j : Nat) => ((k + j : Nat) : Int)
theorem mfrom_length (k n : Nat) : (mfrom k n).length = n := by simp [mfrom]
theorem mfrom_get (k n j : Nat) (h : j < n) : (ints (mfrom k n))[j]'(by simp [mfrom]; exact h) = .int .i64 ((k + j : Nat) : Int) := by simp [mfrom]
def part (k0 : Nat) (vs : List Value) (k : Nat) : List Value := ints (mfrom k0 k) ++ vs.drop k
theorem part_zero (k0 : Nat) (vs : List Value) : part k0 vs 0 = vs := by simp [part, mfrom]
theorem part_all (k0 : Nat) (vs : List Value) : part k0 vs vs.length = ints (mfrom k0 vs.length) := by simp [part]
theorem part_length (k0 : Nat) (vs : List Value) (k : Nat) (h : k ≤ vs.length) : (part k0 vs k).length = vs.length := by simp [part, mfrom]; omega
theorem part_succ (k0 : Nat) (vs : List Value) (k : Nat) (h : k < vs.length) : (part k0 vs k).set k (.int .i64 ((k0 + k : Nat) : Int)) = part k0 vs (k + 1) := by
 unfold part
 have e : vs.drop k = vs[k] :: vs.drop (k + 1) := List.drop_eq_getElem_cons h
 have hl : (ints (mfrom k0 k)).length = k := by simp [mfrom]
 rw [e, List.set_append_right _ _ (by omega), hl, Nat.sub_self, List.set_cons_zero]
 simp [mfrom, List.range_succ]
theorem markBlk (g c : Nat) (vs : List Value) (k0 : Nat) (w : World) (hn : vs.length ≤ 1048576) (h0 : k0 ≤ 1125899906842624) (hb : K0.Blk g vs w) :
  Calls Tryz.prog 27 #[.slice (some ⟨g, 0, none⟩) vs.length c, .int .i64 (k0 : Int)] w fun e w' => e = .returned (.int .i64 ((k0 + vs.length : Nat) : Int)) ∧ K0.Blk g (ints (mfrom k0 vs.length)) w' ∧ Btw g (g + 1) w w' := by
 go_enter Tryz.func27, Tryz.ntmps27
 go_wp2
 go_loopw [1, 5] (fun q i w' => ∃ k : Nat, k ≤ vs.length ∧ i = .int .i64 k ∧ q = .int .i64 ((k0 + k : Nat) : Int) ∧ K0.Blk g (part k0 vs k) w' ∧ Btw g (g + 1) w w') (fun _ i _ => vs.length - (intOf i).toNat)
 case atStart => exact ⟨0, Nat.zero_le _, rfl, rfl, by rw [part_zero]; exact hb, Btw.refl _ _ _⟩
 case round =>
  obtain ⟨k, hk, rfl, rfl, hblk, hgr⟩ := hrel
  by_cases hlt : k < vs.length
  ·have e1 : (0 : Int) ≤ (k : Int) := by omega
   have e2 : (k : Int) < (vs.length : Int) := by omega
   have x2 := hblk.cell k (by rw [part_length _ _ _ hk]; exact hlt)
   have x3 := hblk.free k (by rw [part_length _ _ _ hk]; exact hlt)
   obtain ⟨u, x4⟩ : ∃ u, wr.cell? ⟨g, k, none⟩ = some u := ⟨_, x2⟩
   have HB : Hid (K0.Blk g (part k0 vs (k + 1)) (wr.setCell ⟨g, k, none⟩ (.int .i64 ((k0 + k : Nat) : Int)))) := by rw [← part_succ k0 vs k hlt]; exact hblk.set k _
   clear x2 hblk hb
   go_wp2
   go_roundw
   case rel => exact ⟨k + 1, by omega, by go_num, by go_num, HB.out, hgr.set (p := ⟨g, k, none⟩) (Nat.le_refl _) (Nat.lt_succ_self _) _⟩
   case measure => simp [intOf]; omega
  ·obtain rfl : k = vs.length := by omega
   rw [part_all] at hblk
   clear hb
   go_wp2
   go_ret
   exact ⟨rfl, hblk, hgr⟩
theorem markWr (g c n : Nat) (k0 : Nat) (w : World) (hn : n ≤ 1048576) (h0 : k0 ≤ 1125899906842624) (hb : Wr g n w) :
  Calls Tryz.prog 27 #[.slice (some ⟨g, 0, none⟩) n c, .int .i64 (k0 : Int)] w fun e w' => e = .returned (.int .i64 ((k0 + n : Nat) : Int)) ∧ Btw g (g + 1) w w' := by
 go_enter Tryz.func27, Tryz.ntmps27
 go_wp2
 go_loopw [1, 5] (fun q i w' => ∃ k : Nat, k ≤ n ∧ i = .int .i64 k ∧ q = .int .i64 ((k0 + k : Nat) : Int) ∧ Btw g (g + 1) w w') (fun _ i _ => n - (intOf i).toNat)
 case atStart => exact ⟨0, Nat.zero_le _, rfl, rfl, Btw.refl _ _ _⟩
 case round =>
  obtain ⟨k, hk, rfl, rfl, hgr⟩ := hrel
  by_cases hlt : k < n
  ·have e1 : (0 : Int) ≤ (k : Int) := by omega
   have e2 : (k : Int) < (n : Int) := by omega
   obtain ⟨⟨u, x4⟩, x3⟩ := hgr.wr _ _ hb k hlt
   clear hb
   go_wp2
   go_roundw
   case rel => exact ⟨k + 1, by omega, by go_num, by go_num, hgr.set (p := ⟨g, k, none⟩) (Nat.le_refl _) (Nat.lt_succ_self _) _⟩
   case measure => simp [intOf]; omega
  ·obtain rfl : k = n := by omega
   clear hb
   go_wp2
   go_ret
   exact ⟨rfl, hgr⟩
theorem markNone (a : Option Addr) (c : Nat) (k0 : Nat) (w : World) :
  Calls Tryz.prog 27 #[.slice a 0 c, .int .i64 (k0 : Int)] w fun e w' => e = .returned (.int .i64 (k0 : Int)) ∧ w' = w := by
 go_enter Tryz.func27, Tryz.ntmps27
 go_wp2
 go_loop [1, 5] (fun q i => i = .int .i64 0 ∧ q = .int .i64 (k0 : Int)) (fun _ _ => 0)
 case atStart => exact ⟨rfl, rfl⟩
 case round =>
  obtain ⟨rfl, rfl⟩ := hrel
  go_wp2
  go_ret
  exact ⟨rfl, rfl⟩
theorem heldBlk (g c n k0 : Nat) (w : World) (hn : n ≤ 1048576) (h0 : k0 ≤ 1125899906842624) (hb : K0.Blk g (ints (mfrom k0 n)) w) :
  Calls Tryz.prog 29 #[.slice (some ⟨g, 0, none⟩) n c, .int .i64 (k0 : Int)] w fun e w' => e = .returned (.int .i64 ((k0 + n : Nat) : Int)) ∧ w' = w := by
 go_enter Tryz.func29, Tryz.ntmps29
 go_wp2
 go_loop [1, 5] (fun q i => ∃ k : Nat, k ≤ n ∧ i = .int .i64 k ∧ q = .int .i64 ((k0 + k : Nat) : Int)) (fun _ i => n - (intOf i).toNat)
 case atStart => exact ⟨0, Nat.zero_le _, rfl, rfl⟩
 case round =>
  obtain ⟨k, hk, rfl, rfl⟩ := hrel
  by_cases hlt : k < n
  ·have e1 : (0 : Int) ≤ (k : Int) := by omega
   have e2 : (k : Int) < (n : Int) := by omega
   have x1 := hb.cell k (by simp [mfrom]; exact hlt)
   rw [mfrom_get k0 n k hlt] at x1
   clear hb
   go_wp2
   go_round
   case rel => exact ⟨k + 1, by omega, by go_num, by go_num⟩
   case measure => simp [intOf]; omega
  ·obtain rfl : k = n := by omega
   clear hb
   go_wp2
   go_ret
   exact ⟨rfl, rfl⟩
theorem heldNone (a : Option Addr) (c k0 : Nat) (w : World) :
  Calls Tryz.prog 29 #[.slice a 0 c, .int .i64 (k0 : Int)] w fun e w' => e = .returned (.int .i64 (k0 : Int)) ∧ w' = w := by
 go_enter Tryz.func29, Tryz.ntmps29
 go_wp2
 go_loop [1, 5] (fun q i => i = .int .i64 0 ∧ q = .int .i64 (k0 : Int)) (fun _ _ => 0)
 case atStart => exact ⟨rfl, rfl⟩
 case round =>
  obtain ⟨rfl, rfl⟩ := hrel
  go_wp2
  go_ret
  exact ⟨rfl, rfl⟩
def OwnIn (lo hi : Nat) (W : World) (a : Option Addr) (zs : List Int) : Prop := zs = [] ∨ ∃ g, a = some ⟨g, 0, none⟩ ∧ lo ≤ g ∧ g < hi ∧ K0.Blk g (ints zs) W
variable {a : Option Addr} {zs : List Int}
theorem OwnIn.row (h : OwnIn lo hi W a zs) : P0.Row W a zs := by
 rcases h with h | ⟨g, rfl, _, _, hb⟩
 ·exact Or.inl h
 ·exact I2.row_of_blk hb
theorem OwnIn.below (h : OwnIn lo hi W a zs) (hb : Below W.heap.size W W') : OwnIn lo hi W' a zs := h.imp id fun ⟨g, e, h1, h2, hk⟩ => ⟨g, e, h1, h2, hk.below hb⟩
theorem OwnIn.btw (h : OwnIn lo hi W a zs) (hb : Btw lo' hi' W W') (hx : hi ≤ lo' ∨ hi' ≤ lo) : OwnIn lo hi W' a zs := h.imp id fun ⟨g, e, h1, h2, hk⟩ => ⟨g, e, h1, h2, blk_btw hk hb (by omega)⟩
theorem OwnIn.set (h : OwnIn lo hi W a zs) {B : Nat} (hB : B < lo) (j : Nat) (v : Value) : OwnIn lo hi (W.setCell ⟨B, j, none⟩ v) a zs := h.imp id fun ⟨g, e, h1, h2, hk⟩ => ⟨g, e, h1, h2, hk.setOther (by omega) j v⟩
theorem own_in (h : Own lo W a zs) : OwnIn lo W.heap.size W a zs := h.imp id fun ⟨g, e, h1, hk⟩ => ⟨g, e, h1, hk.lt, hk⟩
theorem OwnIn.mono (h : OwnIn lo hi W a zs) (h1 : lo' ≤ lo) (h2 : hi ≤ hi') : OwnIn lo' hi' W a zs := h.imp id fun ⟨g, e, l1, l2, hk⟩ => ⟨g, e, by omega, by omega, hk⟩
theorem markIn {n c k0 : Nat} (h : OwnIn lo hi W a zs) (hz : zs.length = n) (hn : n ≤ 1048576) (h0 : k0 ≤ 1125899906842624) :
  Calls Tryz.prog 27 #[.slice a n c, .int .i64 (k0 : Int)] W fun e w' => e = .returned (.int .i64 ((k0 + n : Nat) : Int)) ∧ OwnIn lo hi w' a (mfrom k0 n) ∧ Btw lo hi W w' := by
 subst hz
 rcases h with h | ⟨g, rfl, h1, h2, hk⟩
 ·subst h
  exact (markNone a c k0 W).mono fun _ _ ⟨he, hw⟩ => ⟨he, Or.inl rfl, by rw [hw]; exact Btw.refl _ _ _⟩
 ·have hm := markBlk g c (ints zs) k0 W (by simpa using hn) h0 hk
  rw [show (ints zs).length = zs.length by simp] at hm
  exact hm.mono fun _ _ ⟨he, hk', hb⟩ => ⟨he, Or.inr ⟨g, rfl, h1, h2, hk'⟩, hb.mono h1 (by omega)⟩
theorem heldIn {n c k0 : Nat} (h : OwnIn lo hi W a (mfrom k0 n)) (hn : n ≤ 1048576) (h0 : k0 ≤ 1125899906842624) :
  Calls Tryz.prog 29 #[.slice a n c, .int .i64 (k0 : Int)] W fun e w' => e = .returned (.int .i64 ((k0 + n : Nat) : Int)) ∧ w' = W := by
 rcases h with h | ⟨g, rfl, h1, h2, hk⟩
 ·have h2 := congrArg List.length h
  rw [mfrom_length] at h2
  obtain rfl : n = 0 := h2
  exact heldNone a c k0 W
 ·exact heldBlk g c n k0 W hn h0 hk
theorem clone (a : Option Addr) (c : Nat) (zs : List Int) (w : World) (hn : zs.length ≤ 1048576) (hR : P0.Row w a zs) :
  Calls Tryz.prog 128 #[.slice a zs.length c] w fun e w' => ∃ a' c', e = .returned (.slice a' zs.length c') ∧ Own w.heap.size w' a' zs ∧ Below w.heap.size w w' := by
 have qn : ∀ (w : World) (a : Option Addr) (n c n' c' : Nat), (binOp .eql 29 (.slice a n c) (.slice none n' c')).run Tryz.prog w = .ok (.bool a.isNone) w := fun w a n c n' c' => Lib.run_eql_slice_nil w _ _ a n c n' c' Tryz.underlying29
 cases a with
 | none =>
  have h0 : zs = [] := by
   rcases hR with h | ⟨b, off, h, _⟩
   ·exact h
   ·cases h
  subst h0
  go_enter Tryz.func128, Tryz.ntmps128
  go_wp2
  go_ret
  exact ⟨none, 0, rfl, Or.inl rfl, Below.refl _ _⟩
 | some p =>
  have b0 := J0.ibuf_made w (Nat.le_refl _)
  have l0 := K0.below_new w (.cells #[] 3)
  have r0 := hR.below l0
  clear hR
  go_enter Tryz.func128, Tryz.ntmps128
  go_wp2_with (at_builtin; refine Q1.append_rows rfl (.tmp 5) (.tmp 6) rfl b0 _ _ zs (by rfl) (by rfl) r0 (by omega) l0.size ?_; intro a1 c1 w1 b1 l1)
  go_ret
  exact ⟨a1, c1, by simp, by simpa using b1.own, l0.trans l1⟩
end Go.Proofs.YtljnkicgahepfaaGreatDoor.LF
namespace Go.Proofs.YtljnkicgahepfaaGreatDoor.B4
open Go.ChangeShapes Go.WideShapes Go.ChangeAt Go.RowKit
def nulls (k : Nat) : ByteArray := ⟨Array.replicate k 0⟩
def zeros (n : Int) : ByteArray := if n ≤ 5000 then nulls n.toNat else ⟨#[]⟩
theorem nulls_succ (k : Nat) : nulls k ++ ⟨#[0]⟩ = nulls (k + 1) := by
 apply ByteArray.ext
 simp [nulls, Array.replicate_succ]
theorem nulls_size (k : Nat) : (nulls k).size = k := by simp [nulls, ByteArray.size]
theorem info8 : (Tryz.prog.info? 5).map (fun i => (i.zero, i.size, i.bytes)) = some (some (.int .u8 0), 1, 1) := by kernel_rfl
theorem spec_Zeros (n : Int) (w : World) :
  Calls Tryz.prog 111 #[.int .i64 n] w fun e w' => e = .returned (.string (zeros n)) ∧ w' = w := by
 by_cases h : n ≤ 5000
 ·have e : zeros n = nulls n.toNat := by rw [zeros, if_pos h]
  rw [e]
  go_enter Tryz.func111, Tryz.ntmps111
  go_wp2
  go_loop [3, 4] (fun t i => ∃ k : Nat, k ≤ n.toNat ∧ i = .int .i64 k ∧ t = .string (nulls k)) (fun _ i => n.toNat - (intOf i).toNat)
  case atStart => exact ⟨0, Nat.zero_le _, rfl, rfl⟩
  case round =>
   obtain ⟨k, hk, rfl, rfl⟩ := hrel
   by_cases hlt : (k : Int) < n
   ·have hz : (nulls k).size + 1 ≤ 9223372036854775807 := by rw [nulls_size]; omega
    go_wp2
    go_round
    case rel => exact ⟨k + 1, by omega, by go_num, by first | rfl | rw [← nulls_succ]⟩
    case measure => simp [intOf]; omega
   ·have hf : decide ((k : Int) < n) = false := by simpa using hlt
    go_wp2
    go_ret
    have hk' : k = n.toNat := by omega
    exact ⟨by rw [← hk']; rfl, rfl⟩
 ·have e : zeros n = ⟨#[]⟩ := by rw [zeros, if_neg h]
  have hf : decide (n ≤ 5000) = false := by simpa using h
  rw [e]
  go_enter Tryz.func111, Tryz.ntmps111
  go_wp2
  go_loop [3, 4] (fun t i => i = .int .i64 0 ∧ t = .string ⟨#[]⟩) (fun _ _ => 0)
  case atStart => exact ⟨rfl, rfl⟩
  case round =>
   obtain ⟨rfl, rfl⟩ := hrel
   go_wp2
   go_ret
   exact ⟨rfl, rfl⟩
set_option maxRecDepth 4000 in
theorem impl_Zeros (n : Int) (w : World) :
  Calls Tryz.prog 132 #[.int .i64 n] w fun e w' => e = .returned (.string (zeros n)) ∧ Below w.heap.size w w' := by
 by_cases h1 : n < 0
 ·have e : zeros n = ⟨#[]⟩ := by rw [zeros, if_pos (by omega), show n.toNat = 0 by omega]; rfl
  rw [e]
  go_enter Tryz.func132, Tryz.ntmps132
  go_wp2
  go_ret
  exact ⟨rfl, Below.refl _ _⟩
 ·by_cases h2 : 5000 < n
  ·have e : zeros n = ⟨#[]⟩ := by rw [zeros, if_neg (by omega)]
   rw [e]
   go_enter Tryz.func132, Tryz.ntmps132
   go_wp2
   go_ret
   exact ⟨rfl, Below.refl _ _⟩
  ·have e : zeros n = nulls n.toNat := by rw [zeros, if_pos (by omega)]
   rw [e]
   obtain ⟨i0, hi, hz0, hz1, hz2⟩ := info_parts info8
   obtain ⟨M, hM⟩ : ∃ M, M = madeCells (Value.int .u8 0).cells (n.toNat * i0.size) := ⟨_, rfl⟩
   have hmk : ∀ W : World, (Instr.makeSlice 22 (.int .i64 n) (.int .i64 n)).run Tryz.prog W = .ok (.slice (some ⟨W.heap.size, 0, none⟩) n.toNat n.toNat) (W.alloc (.cells M 5)) := fun W => by
    have h := run_make (P := Tryz.prog) W 22 5 i0 (.int .u8 0) Tryz.underlying22 hi hz0 .i64 .i64 n n (by omega) (by omega) (by rw [hz2]; omega) (by omega)
    rwa [← hM] at h
   have hcv : ∀ W : World, (convert 22 9 (.slice (some ⟨W.heap.size, 0, none⟩) n.toNat n.toNat)).run Tryz.prog (W.alloc (.cells M 5)) = .ok (.string (nulls n.toNat)) (W.alloc (.cells M 5)) := fun W => by
    have h := B0.conv_back (P := Tryz.prog) (W.alloc (.cells M 5)) 22 9 5 W.heap.size 0 n.toNat (List.replicate n.toNat 0) Tryz.underlying22 Tryz.underlying5 Tryz.underlying9
     (B0.holds_new _ _ _ _ _ fun j hj => by
      have hj' : j < n.toNat := by simpa using hj
      rw [hM, ← Array.getElem?_toList, show (Value.int .u8 0).cells = #[Value.int .u8 0] from rfl, toList_madeCells_one, hz1]
      simp [hj']) n.toNat (by simp)
    have e2 : (⟨(List.replicate n.toNat (0 : UInt8)).toArray⟩ : ByteArray) = nulls n.toNat := by simp [nulls]
    rwa [e2] at h
   clear hM
   clear hi hz0 hz1 hz2
   go_enter Tryz.func132, Tryz.ntmps132
   go_wp2
   go_ret
   exact ⟨rfl, by go_grown⟩
end Go.Proofs.YtljnkicgahepfaaGreatDoor.B4
namespace Go.Proofs.YtljnkicgahepfaaGreatDoor.B2
open Go.ChangeShapes Go.WideShapes Go.ChangeAt Go.RowKit
def lies (z : Nat) (i n : Int) : Bool := decide (0 ≤ i ∧ 0 ≤ n ∧ n ≤ (z : Int) - i)
theorem lies_true {z : Nat} {i n : Int} (h : lies z i n = true) : 0 ≤ i ∧ 0 ≤ n ∧ n ≤ (z : Int) - i := by simpa [lies] using h
theorem lies_false {z : Nat} {i n : Int} (h : lies z i n = false) : ¬ (0 ≤ i ∧ 0 ≤ n ∧ n ≤ (z : Int) - i) := of_decide_eq_false h
theorem liesIn_any (s : ByteArray) (i n : Int) (w : World) (hs : s.size ≤ maxLen) :
  Calls Tryz.prog 156 #[.string s, .int .i64 i, .int .i64 n] w fun e w' => e = .returned (.bool (lies s.size i n)) ∧ w' = w := by
 unfold maxLen at hs
 by_cases h1 : 0 ≤ i
 ·by_cases h2 : 0 ≤ n
  ·by_cases h3 : i ≤ (s.size : Int)
   ·by_cases h4 : n ≤ (s.size : Int) - i
    ·have e : lies s.size i n = true := decide_eq_true ⟨h1, h2, h4⟩
     rw [e]
     go_enter Tryz.func156, Tryz.ntmps156
     go_wp2
     go_ret
     exact ⟨rfl, rfl⟩
    ·have e : lies s.size i n = false := decide_eq_false fun h => h4 h.2.2
     have h4' : decide (n ≤ (s.size : Int) - i) = false := by simpa using h4
     rw [e]
     go_enter Tryz.func156, Tryz.ntmps156
     go_wp2
     go_ret
     exact ⟨rfl, rfl⟩
   ·have e : lies s.size i n = false := decide_eq_false fun h => by omega
    have h3' : decide (i ≤ (s.size : Int)) = false := by simpa using h3
    rw [e]
    go_enter Tryz.func156, Tryz.ntmps156
    go_wp2
    go_ret
    exact ⟨rfl, rfl⟩
  ·have e : lies s.size i n = false := decide_eq_false fun h => by omega
   have h2' : decide (0 ≤ n) = false := by simpa using h2
   rw [e]
   go_enter Tryz.func156, Tryz.ntmps156
   go_wp2
   go_ret
   exact ⟨rfl, rfl⟩
 ·have e : lies s.size i n = false := decide_eq_false fun h => by omega
  have h1' : decide (0 ≤ i) = false := by simpa using h1
  rw [e]
  go_enter Tryz.func156, Tryz.ntmps156
  go_wp2
  go_ret
  exact ⟨rfl, rfl⟩
def part (s : ByteArray) (i n : Int) : ByteArray := if lies s.size i n then s.extract i.toNat (i + n).toNat else ⟨#[]⟩
end Go.Proofs.YtljnkicgahepfaaGreatDoor.B2
namespace Go.Proofs.YtljnkicgahepfaaGreatDoor.B5
open Go.ChangeShapes Go.WideShapes Go.ChangeAt Go.RowKit
def laid (s : ByteArray) (i : Int) (t : ByteArray) : ByteArray := if B2.lies s.size i t.size then s.extract 0 i.toNat ++ t ++ s.extract (i + t.size).toNat s.size else s
theorem spec_With (s : ByteArray) (i : Int) (t : ByteArray) (w : World) (hs : s.size ≤ 281474976710656) (ht : t.size ≤ 281474976710656) :
  Calls Tryz.prog 97 #[.string s, .int .i64 i, .string t] w fun e w' => e = .returned (.string (laid s i t)) ∧ ∃ n, w' = w.drewN n := by
 by_cases h1 : i < 0
 ·have e : laid s i t = s := by rw [laid, show B2.lies s.size i t.size = false from decide_eq_false fun h => by omega]; rfl
  rw [e]
  go_enter Tryz.func97, Tryz.ntmps97
  go_wp2
  go_ret
  exact ⟨rfl, 0, rfl⟩
 ·by_cases h3 : (s.size : Int) < (t.size : Int)
  ·have e : laid s i t = s := by rw [laid, show B2.lies s.size i t.size = false from decide_eq_false fun h => by omega]; rfl
   rw [e]
   go_enter Tryz.func97, Tryz.ntmps97
   go_wp2
   go_ret
   exact ⟨rfl, 0, rfl⟩
  ·by_cases h4 : (s.size : Int) - (t.size : Int) < i
   ·have e : laid s i t = s := by rw [laid, show B2.lies s.size i t.size = false from decide_eq_false fun h => by omega]; rfl
    rw [e]
    go_enter Tryz.func97, Tryz.ntmps97
    go_wp2
    go_ret
    exact ⟨rfl, 0, rfl⟩
   ·have e : laid s i t = s.extract 0 i.toNat ++ t ++ s.extract (i + t.size).toNat s.size := by rw [laid, show B2.lies s.size i t.size = true from decide_eq_true (by omega)]; rfl
    rw [e]
    have h5 : i ≤ (s.size : Int) := by omega
    have h6 : i + (t.size : Int) ≤ (s.size : Int) := by omega
    have h7 : 0 ≤ i + (t.size : Int) := by omega
    have z1 : (s.extract 0 i.toNat).size ≤ s.size := by simp only [ByteArray.size_extract]; omega
    have z2 : (s.extract (i + t.size).toNat s.size).size ≤ s.size := by simp only [ByteArray.size_extract]; omega
    have z3 : (s.extract 0 i.toNat).size + t.size ≤ 9223372036854775807 := by omega
    have z4 : (s.extract 0 i.toNat ++ t).size + (s.extract (i + t.size).toNat s.size).size ≤ 9223372036854775807 := by rw [ByteArray.size_append]; omega
    go_enter Tryz.func97, Tryz.ntmps97
    go_wp2
    go_quiet (fail)
    go_wp2
    go_ret
    exact ⟨rfl, _, rfl⟩
theorem laid_eq (s : ByteArray) (k : Nat) (t : ByteArray) (h : k + t.size ≤ s.size) :
  s.extract 0 k ++ t ++ s.extract (k + t.size) s.size = ⟨(s.data.toList.take k ++ t.data.toList ++ s.data.toList.drop (k + t.data.toList.length)).toArray⟩ := by
 apply ByteArray.ext
 apply Array.toList_inj.1
 have e1 : (s.data.toList.drop (k + t.data.toList.length)).take (s.size - (k + t.size)) = s.data.toList.drop (k + t.data.toList.length) :=
  List.take_of_length_le (by rw [List.length_drop, ← Lib.size_eq, ← Lib.size_eq]; omega)
 simp only [ByteArray.data_append, Array.toList_append, Lib.extract_data, List.drop_zero, Nat.sub_zero]
 rw [Lib.size_eq t] at *
 rw [e1]
theorem info8 : (Tryz.prog.info? 5).map (·.size) = some 1 := by kernel_rfl
theorem impl_With (s : ByteArray) (i : Int) (t : ByteArray) (w : World) (hs : s.size ≤ 281474976710656) (ht : t.size ≤ 281474976710656) :
  Calls Tryz.prog 131 #[.string s, .int .i64 i, .string t] w fun e w' => e = .returned (.string (laid s i t)) ∧ Below w.heap.size w w' := by
 have hs' : s.size ≤ maxLen := by unfold maxLen; omega
 obtain ⟨W, cap, hcv, hcap, hb, hz, hH, hF⟩ := B0.conv_to (P := Tryz.prog) w 9 22 5 s Tryz.underlying9 Tryz.underlying22 Tryz.underlying5
 have hlen : s.data.toList.length = s.size := (Lib.size_eq s).symm
 have hself : (⟨s.data.toList.toArray⟩ : ByteArray) = s := Lib.mk_data s
 have hback : (convert 22 9 (.slice (some ⟨w.heap.size, 0, none⟩) s.size cap)).run Tryz.prog W = .ok (.string s) W := by
  have := B0.conv_back (P := Tryz.prog) W 22 9 5 w.heap.size 0 cap s.data.toList Tryz.underlying22 Tryz.underlying5 Tryz.underlying9 hH s.size hlen.symm
  rwa [hself] at this
 by_cases h : B2.lies s.size i t.size = true
 ·obtain ⟨h1, h2, h3⟩ := B2.lies_true h
  have e : laid s i t = s.extract 0 i.toNat ++ t ++ s.extract (i + t.size).toNat s.size := by rw [laid, h]; rfl
  by_cases h0 : t.size = 0
  ·have e' : laid s i t = s := by
    rw [e, show (i + (t.size : Int)).toNat = i.toNat + t.size by omega, laid_eq s i.toNat t (by omega)]
    have : t.data.toList = [] := List.eq_nil_of_length_eq_zero (by rw [← Lib.size_eq]; exact h0)
    rw [this]
    simp
   have hcp : ∀ d dl dc W', (Builtin.copy_ #[22, 9] 3 #[.slice d dl dc, .string t]).run Tryz.prog W' = .ok (goInt 0) W' := fun d dl dc W' =>
    Lib.run_copy_empty_string W' 22 9 3 5 d dl dc t Tryz.underlying22 (by rw [info8]; rfl) h0
   rw [e']
   clear hH hF e e' hself h0
   by_cases h9 : cap = i.toNat
   ·subst h9
    go_enter Tryz.func131, Tryz.ntmps131
    go_wp2_with (go_at_call 156; refine (B2.liesIn_any _ _ _ _ hs').mono ?_; rintro e w' ⟨rfl, rfl⟩)
    go_ret
    exact ⟨rfl, hb⟩
   ·go_enter Tryz.func131, Tryz.ntmps131
    go_wp2_with (go_at_call 156; refine (B2.liesIn_any _ _ _ _ hs').mono ?_; rintro e w' ⟨rfl, rfl⟩)
    go_ret
    exact ⟨rfl, hb⟩
  ·have h9 : ¬ cap = i.toNat := by omega
   have htl : t.data.toList.length = t.size := (Lib.size_eq t).symm
   have hcp := B0.copy_str (P := Tryz.prog) W 22 9 3 5 w.heap.size i.toNat (s.size - i.toNat) (cap - i.toNat) t Tryz.underlying22 info8 (by omega)
    (fun j hj => by
     have := hH (i.toNat + j) (by omega)
     rw [Nat.zero_add] at this
     rw [this]
     rfl) (fun j hj => hF _ (by omega))
   have hH2 := B0.holds_with W w.heap.size s.data.toList t.data.toList i.toNat (by omega) hH
   have hb2 : Below w.heap.size w (W.setCells w.heap.size i.toNat (Lib.byteCells t.data.toList)) := B0.below_setCells (Nat.le_refl _) _ _ _ hb
   obtain ⟨W2, hW2⟩ : ∃ W2, W2 = W.setCells w.heap.size i.toNat (Lib.byteCells t.data.toList) := ⟨_, rfl⟩
   rw [← hW2] at hcp hH2 hb2
   have hback2 : (convert 22 9 (.slice (some ⟨w.heap.size, 0, none⟩) s.size cap)).run Tryz.prog W2 = .ok (.string (laid s i t)) W2 := by
    have := B0.conv_back (P := Tryz.prog) W2 22 9 5 w.heap.size 0 cap _ Tryz.underlying22 Tryz.underlying5 Tryz.underlying9 hH2 s.size (by simp; omega)
    rw [e, show (i + (t.size : Int)).toNat = i.toNat + t.size by omega, laid_eq s i.toNat t (by omega)]
    exact this
   clear hH hF hH2 hW2 e hself hback h0 hlen htl
   go_enter Tryz.func131, Tryz.ntmps131
   go_wp2_with (go_at_call 156; refine (B2.liesIn_any _ _ _ _ hs').mono ?_; rintro e w' ⟨rfl, rfl⟩)
   go_ret
   exact ⟨rfl, hb2⟩
 ·have h' : B2.lies s.size i t.size = false := by simpa using h
  have e : laid s i t = s := by rw [laid, h']; rfl
  rw [e]
  clear hH hF e hself
  go_enter Tryz.func131, Tryz.ntmps131
  go_wp2_with (go_at_call 156; refine (B2.liesIn_any _ _ _ _ hs').mono ?_; rintro e w' ⟨rfl, rfl⟩)
  go_ret
  exact ⟨rfl, hb⟩
end Go.Proofs.YtljnkicgahepfaaGreatDoor.B5
namespace Go.Proofs.YtljnkicgahepfaaGreatDoor.B1
open Go.ChangeShapes Go.WideShapes Go.ChangeAt Go.RowKit
def byteAt (s : ByteArray) (i : Int) : Int := if h : 0 ≤ i ∧ i < s.size then (s[i.toNat]'(by omega)).toNat else 0
theorem spec_ByteAt (s : ByteArray) (i : Int) (w : World) (hs : s.size ≤ maxLen) :
  Calls Tryz.prog 229 #[.string s, .int .i64 i] w fun e w' => e = .returned (.int .i64 (byteAt s i)) ∧ w' = w := by
 unfold maxLen at hs
 by_cases h : 0 ≤ i ∧ i < s.size
 ·have hin : inB i 0 ((s.size : Int) - 1) = true := by simp [inB]; omega
  have e : byteAt s i = (s[i.toNat]'(by omega)).toNat := by simp [byteAt, h]
  obtain ⟨h1, h2⟩ := h
  rw [e]
  have hb := (s[i.toNat]'(by omega)).toNat_lt
  go_enter Tryz.func229, Tryz.ntmps229
  go_wp2_with (go_at_call 44; refine (l01In_any _ _ _ _).mono ?_; rintro e w' ⟨rfl, rfl⟩)
  go_ret
  exact ⟨rfl, rfl⟩
 ·have hin : inB i 0 ((s.size : Int) - 1) = false := by simp [inB]; omega
  have e : byteAt s i = 0 := by simp [byteAt, h]
  rw [e]
  go_enter Tryz.func229, Tryz.ntmps229
  go_wp2_with (go_at_call 44; refine (l01In_any _ _ _ _).mono ?_; rintro e w' ⟨rfl, rfl⟩)
  go_ret
  exact ⟨rfl, rfl⟩
theorem impl_ByteAt (s : ByteArray) (i : Int) (w : World) (hs : s.size ≤ maxLen) :
  Calls Tryz.prog 289 #[.string s, .int .i64 i] w fun e w' => e = .returned (.int .i64 (byteAt s i)) ∧ w' = w := by
 unfold maxLen at hs
 by_cases h : 0 ≤ i ∧ i < s.size
 ·have e : byteAt s i = (s[i.toNat]'(by omega)).toNat := by simp [byteAt, h]
  obtain ⟨h1, h2⟩ := h
  rw [e]
  have hb := (s[i.toNat]'(by omega)).toNat_lt
  have h1' : ¬ i < 0 := by omega
  go_enter Tryz.func289, Tryz.ntmps289
  go_wp2
  go_ret
  exact ⟨rfl, rfl⟩
 ·have e : byteAt s i = 0 := by simp [byteAt, h]
  rw [e]
  by_cases h1 : i < 0
  ·go_enter Tryz.func289, Tryz.ntmps289
   go_wp2
   go_ret
   exact ⟨rfl, rfl⟩
  ·have h2 : (s.size : Int) ≤ i := by omega
   go_enter Tryz.func289, Tryz.ntmps289
   go_wp2
   go_ret
   exact ⟨rfl, rfl⟩
end Go.Proofs.YtljnkicgahepfaaGreatDoor.B1
namespace Go.Proofs.YtljnkicgahepfaaGreatDoor.E0
open Go
def chr (c : UInt8) : Bool := decide (97 ≤ c.toNat ∧ c.toNat ≤ 122) || (decide (48 ≤ c.toNat ∧ c.toNat ≤ 57) || decide (c.toNat = 46))
theorem chr_false {c : UInt8} (h : chr c = false) : ¬ (97 ≤ c.toNat ∧ c.toNat ≤ 122) ∧ ¬ (48 ≤ c.toNat ∧ c.toNat ≤ 57) ∧ ¬ c.toNat = 46 := by
 simp only [chr, Bool.or_eq_false_iff, decide_eq_false_iff_not] at h
 exact h
theorem chr_true {c : UInt8} (h : chr c = true) : (97 ≤ c.toNat ∧ c.toNat ≤ 122) ∨ (48 ≤ c.toNat ∧ c.toNat ≤ 57) ∨ c.toNat = 46 := by
 simp only [chr, Bool.or_eq_true, decide_eq_true_eq] at h
 exact h
def dot1 (s : ByteArray) : Bool := s.toList == [46]
def dot2 (s : ByteArray) : Bool := s.toList == [46, 46]
def nameOk (s : ByteArray) : Bool := s.data.toList.all chr && (B1.inB s.size 1 14 && (!dot1 s && !dot2 s))
def entryOk (i : Int) (s : ByteArray) : Bool := nameOk s && B1.inB i 1 7
theorem take_snoc (s : ByteArray) (k : Nat) (h : k < s.size) : s.data.toList.take (k + 1) = s.data.toList.take k ++ [s[k]] := by
 rw [List.take_succ_eq_append_getElem (by rw [← Lib.size_eq]; exact h)]
 rfl
theorem take_all (s : ByteArray) : s.data.toList.take s.size = s.data.toList := List.take_of_length_le (by rw [← Lib.size_eq]; exact Nat.le_refl _)
theorem all_snoc {s : ByteArray} {k : Nat} (h : k < s.size) (ha : (s.data.toList.take k).all chr = true) (hc : chr s[k] = true) : (s.data.toList.take (k + 1)).all chr = true := by
 rw [take_snoc s k h]
 simp only [List.all_append, List.all_cons, List.all_nil, Bool.and_true, Bool.and_eq_true]
 exact ⟨ha, hc⟩
theorem all_bad {s : ByteArray} {k : Nat} (hk : k < s.size) (h : chr s[k] = false) : s.data.toList.all chr = false := by
 rw [List.all_eq_false]
 refine ⟨s[k], ?_, by rw [h]; decide⟩
 have hk' : k < s.data.toList.length := by rw [← Lib.size_eq]; exact hk
 exact List.getElem_mem hk'
theorem nameOk_bad {s : ByteArray} {k : Nat} (hk : k < s.size) (h : chr s[k] = false) : nameOk s = false := by rw [nameOk, all_bad hk h]; rfl
theorem nameOk_all {s : ByteArray} (h : s.data.toList.all chr = true) : nameOk s = (B1.inB s.size 1 14 && (!dot1 s && !dot2 s)) := by rw [nameOk, h]; rfl
theorem nameOk_size {s : ByteArray} (h : nameOk s = true) : 1 ≤ s.size ∧ s.size ≤ 14 := by
 simp only [nameOk, Bool.and_eq_true] at h
 have := B1.inB_true h.2.1
 omega
theorem entryOk_true {i : Int} {s : ByteArray} (h : entryOk i s = true) : nameOk s = true ∧ (1 ≤ i ∧ i ≤ 7) := by
 simp only [entryOk, Bool.and_eq_true] at h
 exact ⟨h.1, B1.inB_true h.2⟩
def headOf (i : Int) (s : ByteArray) : ByteArray := ⟨#[UInt8.ofNat i.toNat, UInt8.ofNat s.size]⟩ ++ s
def putE (i : Int) (s : ByteArray) : ByteArray := if entryOk i s then headOf i s ++ B4.nulls (14 - s.size) else ⟨#[]⟩
theorem headOf_size (i : Int) (s : ByteArray) : (headOf i s).size = 2 + s.size := by
 rw [headOf, ByteArray.size_append]
 rfl
theorem laid_front (t : ByteArray) (n : Nat) (h : t.size ≤ n) : B5.laid (B4.nulls n) 0 t = t ++ B4.nulls (n - t.size) := by
 have hz := B4.nulls_size n
 rw [B5.laid, show B2.lies (B4.nulls n).size 0 t.size = true from decide_eq_true (by omega), if_pos rfl]
 have h2 : ((0 : Int) + (t.size : Int)).toNat = 0 + t.size := by omega
 rw [h2]
 have := B5.laid_eq (B4.nulls n) 0 t (by omega)
 rw [show ((0 : Int)).toNat = 0 from rfl, this]
 apply ByteArray.ext
 simp only [ByteArray.data_append]
 apply Array.toList_inj.1
 simp only [Array.toList_append, List.take_zero, List.nil_append, Nat.zero_add, B4.nulls, Array.toList_replicate, List.drop_replicate]
 rw [← Lib.size_eq]
end Go.Proofs.YtljnkicgahepfaaGreatDoor.E0
