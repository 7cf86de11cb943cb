/- Memory that turns within a stretch of blocks alone; rows of numbers marked from any number on, and held; slices.Clone of a row of numbers. -/
import Derived.Test.YtjajclifjojblaaDoorMk0
import Derived.Test.YtjajclifjojblaaDoorCat0
import Derived.Test.YtjajclifjojblaaDoorMkT
namespace Go.Proofs.YtjajclifjojblaaDoor.LF
open Go.ChangeShapes Go.WideShapes Go.ChangeAt Go.RowKit
set_option linter.unusedVariables false
set_option linter.unusedSimpArgs false
set_option maxRecDepth 10000

open I2 (ints)
open J0 (IBuf Own)
open M0 (grown_refl grown_set)

variable {lo hi lo' hi' g : Nat} {w W W' w' : World}

/-- So many cells of a block are there, and may be written. -/
def Wr (b m : Nat) (W : World) : Prop := ∀ j, j < m → (∃ v, W.cell? ⟨b, j, none⟩ = some v) ∧ W.frozen? ⟨b, j, none⟩ = false

theorem wr_blk {vs : List Value} (h : K0.Blk g vs W) : Wr g vs.length W := fun j hj => ⟨⟨_, h.cell j hj⟩, h.free j hj⟩

theorem wr_set {b m : Nat} (h : Wr b m W) (p : Addr) (v : Value) : Wr b m (W.setCell p v) := by
  intro j hj
  obtain ⟨⟨u, hu⟩, hf⟩ := h j hj
  refine ⟨?_, by rw [World.frozen?_setCell]; exact hf⟩
  by_cases e : p = ⟨b, j, none⟩
  · subst e
    exact ⟨v, World.cell?_setCell_same _ _ _ hu⟩
  · exact ⟨u, by rw [World.cell?_setCell_other _ _ _ _ e]; exact hu⟩

theorem lt_of_cell {b j : Nat} {v : Value} (h : W.cell? ⟨b, j, none⟩ = some v) : b < W.heap.size := by
  rcases Nat.lt_or_ge b W.heap.size with h1 | h1
  · exact h1
  · unfold World.cell? at h
    rw [Array.getElem?_eq_none h1] at h
    simp at h

/-- Nothing has turned but blocks from lo up to hi, and new ones; what could be written can be written. -/
structure Btw (lo hi : Nat) (w w' : World) : Prop where
  os : w'.os = w.os
  tape : w'.tape = w.tape
  output : w'.output = w.output
  size : w.heap.size ≤ w'.heap.size
  block : ∀ k, k < w.heap.size → k < lo ∨ hi ≤ k → w'.heap[k]? = w.heap[k]?
  wr : ∀ b m, Wr b m w → Wr b m w'

theorem Btw.refl (lo hi : Nat) (w : World) : Btw lo hi w w := ⟨rfl, rfl, rfl, Nat.le_refl _, fun _ _ _ => rfl, fun _ _ h => h⟩
theorem Btw.trans (h : Btw lo hi w W) (k : Btw lo hi W W') : Btw lo hi w W' :=
  ⟨k.os.trans h.os, k.tape.trans h.tape, k.output.trans h.output, Nat.le_trans h.size k.size, fun i hi hx => (k.block i (Nat.lt_of_lt_of_le hi h.size) hx).trans (h.block i hi hx), fun b m hw => k.wr b m (h.wr b m hw)⟩
theorem Btw.mono (h : Btw lo hi w W) (h1 : lo' ≤ lo) (h2 : hi ≤ hi') : Btw lo' hi' w W :=
  ⟨h.os, h.tape, h.output, h.size, fun k hk hx => h.block k hk (by omega), h.wr⟩
theorem wr_below {b m : Nat} (h : Wr b m w) (hb : Below w.heap.size w W) : Wr b m W := by
  intro j hj
  obtain ⟨⟨v, hv⟩, hf⟩ := h j hj
  have hlt := lt_of_cell hv
  exact ⟨⟨v, (hb.cell (p := ⟨b, j, none⟩) hlt).trans hv⟩, (hb.frozen (p := ⟨b, j, none⟩) hlt).trans hf⟩
theorem Btw.ofBelow (h : Below w.heap.size w W) : Btw lo hi w W := ⟨h.os, h.tape, h.output, h.size, fun k hk _ => h.block k hk, fun _ _ hw => wr_below hw h⟩
theorem Btw.then (h : Btw lo hi w W) (hb : Below W.heap.size W W') : Btw lo hi w W' := h.trans (Btw.ofBelow hb)
theorem Btw.set (h : Btw lo hi w W) {p : Addr} (h1 : lo ≤ p.block) (h2 : p.block < hi) (v : Value) : Btw lo hi w (W.setCell p v) :=
  h.trans ⟨rfl, rfl, rfl, by simp [World.setCell], fun k hk hx => Below.heap_setCell _ _ _ _ (by omega), fun b m hw => wr_set hw p v⟩
theorem Btw.below {b : Nat} (h : Btw lo hi w W) (hb : b ≤ lo) (hs : b ≤ w.heap.size) : Below b w W := ⟨h.os, h.tape, h.output, h.size, fun k hk => h.block k (by omega) (by omega)⟩

theorem blk_btw {B : Nat} {vs : List Value} (h : K0.Blk B vs w) (hb : Btw lo hi w W) (hx : B < lo ∨ hi ≤ B) : K0.Blk B vs W := by
  have e := hb.block B h.lt hx
  refine ⟨fun j hj => ?_, fun j hj => ?_, Nat.lt_of_lt_of_le h.lt hb.size⟩
  · rw [World.cell?_of_block (a := ⟨B, j, none⟩) e]
    exact h.cell j hj
  · rw [World.frozen?_of_block (a := ⟨B, j, none⟩) e]
    exact h.free j hj

/-- The marks from a number on. -/
def mfrom (k n : Nat) : List Int := (List.range n).map fun (j : Nat) => ((k + j : Nat) : Int)
theorem mfrom_length (k n : Nat) : (mfrom k n).length = n := by simp [mfrom]
theorem mfrom_get (k n j : Nat) (h : j < n) : (ints (mfrom k n))[j]'(by simp [mfrom]; exact h) = .int .i64 ((k + j : Nat) : Int) := by simp [mfrom]

def part (k0 : Nat) (vs : List Value) (k : Nat) : List Value := ints (mfrom k0 k) ++ vs.drop k
theorem part_zero (k0 : Nat) (vs : List Value) : part k0 vs 0 = vs := by simp [part, mfrom]
theorem part_all (k0 : Nat) (vs : List Value) : part k0 vs vs.length = ints (mfrom k0 vs.length) := by simp [part]
theorem part_length (k0 : Nat) (vs : List Value) (k : Nat) (h : k ≤ vs.length) : (part k0 vs k).length = vs.length := by simp [part, mfrom]; omega
theorem part_succ (k0 : Nat) (vs : List Value) (k : Nat) (h : k < vs.length) : (part k0 vs k).set k (.int .i64 ((k0 + k : Nat) : Int)) = part k0 vs (k + 1) := by
  unfold part
  have e : vs.drop k = vs[k] :: vs.drop (k + 1) := List.drop_eq_getElem_cons h
  have hl : (ints (mfrom k0 k)).length = k := by simp [mfrom]
  rw [e, List.set_append_right _ _ (by omega), hl, Nat.sub_self, List.set_cons_zero]
  simp [mfrom, List.range_succ]

theorem markBlk (g c : Nat) (vs : List Value) (k0 : Nat) (w : World) (hn : vs.length ≤ 1048576) (h0 : k0 ≤ 1125899906842624) (hb : K0.Blk g vs w) :
    Calls Tryd.prog 24 #[.slice (some ⟨g, 0, none⟩) vs.length c, .int .i64 (k0 : Int)] w fun e w' => e = .returned (.int .i64 ((k0 + vs.length : Nat) : Int)) ∧ K0.Blk g (ints (mfrom k0 vs.length)) w' ∧ Btw g (g + 1) w w' := by
  go_enter Tryd.func24, Tryd.ntmps24
  go_wp2
  go_loopw [1, 5] (fun q i w' => ∃ k : Nat, k ≤ vs.length ∧ i = .int .i64 k ∧ q = .int .i64 ((k0 + k : Nat) : Int) ∧ K0.Blk g (part k0 vs k) w' ∧ Btw g (g + 1) w w') (fun _ i _ => vs.length - (intOf i).toNat)
  case atStart => exact ⟨0, Nat.zero_le _, rfl, rfl, by rw [part_zero]; exact hb, Btw.refl _ _ _⟩
  case round =>
    obtain ⟨k, hk, rfl, rfl, hblk, hgr⟩ := hrel
    by_cases hlt : k < vs.length
    · have e1 : (0 : Int) ≤ (k : Int) := by omega
      have e2 : (k : Int) < (vs.length : Int) := by omega
      have x2 := hblk.cell k (by rw [part_length _ _ _ hk]; exact hlt)
      have x3 := hblk.free k (by rw [part_length _ _ _ hk]; exact hlt)
      obtain ⟨u, x4⟩ : ∃ u, wr.cell? ⟨g, k, none⟩ = some u := ⟨_, x2⟩
      have HB : Hid (K0.Blk g (part k0 vs (k + 1)) (wr.setCell ⟨g, k, none⟩ (.int .i64 ((k0 + k : Nat) : Int)))) := by rw [← part_succ k0 vs k hlt]; exact hblk.set k _
      clear x2 hblk hb
      go_wp2
      go_roundw
      case rel => exact ⟨k + 1, by omega, by go_num, by go_num, HB.out, hgr.set (p := ⟨g, k, none⟩) (Nat.le_refl _) (Nat.lt_succ_self _) _⟩
      case measure => simp [intOf]; omega
    · obtain rfl : k = vs.length := by omega
      rw [part_all] at hblk
      clear hb
      go_wp2
      go_ret
      exact ⟨rfl, hblk, hgr⟩

/-- Cells that may be written, marked: of what stands there nothing is told. -/
theorem markWr (g c n : Nat) (k0 : Nat) (w : World) (hn : n ≤ 1048576) (h0 : k0 ≤ 1125899906842624) (hb : Wr g n w) :
    Calls Tryd.prog 24 #[.slice (some ⟨g, 0, none⟩) n c, .int .i64 (k0 : Int)] w fun e w' => e = .returned (.int .i64 ((k0 + n : Nat) : Int)) ∧ Btw g (g + 1) w w' := by
  go_enter Tryd.func24, Tryd.ntmps24
  go_wp2
  go_loopw [1, 5] (fun q i w' => ∃ k : Nat, k ≤ n ∧ i = .int .i64 k ∧ q = .int .i64 ((k0 + k : Nat) : Int) ∧ Btw g (g + 1) w w') (fun _ i _ => n - (intOf i).toNat)
  case atStart => exact ⟨0, Nat.zero_le _, rfl, rfl, Btw.refl _ _ _⟩
  case round =>
    obtain ⟨k, hk, rfl, rfl, hgr⟩ := hrel
    by_cases hlt : k < n
    · have e1 : (0 : Int) ≤ (k : Int) := by omega
      have e2 : (k : Int) < (n : Int) := by omega
      obtain ⟨⟨u, x4⟩, x3⟩ := hgr.wr _ _ hb k hlt
      clear hb
      go_wp2
      go_roundw
      case rel => exact ⟨k + 1, by omega, by go_num, by go_num, hgr.set (p := ⟨g, k, none⟩) (Nat.le_refl _) (Nat.lt_succ_self _) _⟩
      case measure => simp [intOf]; omega
    · obtain rfl : k = n := by omega
      clear hb
      go_wp2
      go_ret
      exact ⟨rfl, hgr⟩

theorem markNone (a : Option Addr) (c : Nat) (k0 : Nat) (w : World) :
    Calls Tryd.prog 24 #[.slice a 0 c, .int .i64 (k0 : Int)] w fun e w' => e = .returned (.int .i64 (k0 : Int)) ∧ w' = w := by
  go_enter Tryd.func24, Tryd.ntmps24
  go_wp2
  go_loop [1, 5] (fun q i => i = .int .i64 0 ∧ q = .int .i64 (k0 : Int)) (fun _ _ => 0)
  case atStart => exact ⟨rfl, rfl⟩
  case round =>
    obtain ⟨rfl, rfl⟩ := hrel
    go_wp2
    go_ret
    exact ⟨rfl, rfl⟩

theorem heldBlk (g c n k0 : Nat) (w : World) (hn : n ≤ 1048576) (h0 : k0 ≤ 1125899906842624) (hb : K0.Blk g (ints (mfrom k0 n)) w) :
    Calls Tryd.prog 25 #[.slice (some ⟨g, 0, none⟩) n c, .int .i64 (k0 : Int)] w fun e w' => e = .returned (.int .i64 ((k0 + n : Nat) : Int)) ∧ w' = w := by
  go_enter Tryd.func25, Tryd.ntmps25
  go_wp2
  go_loop [1, 5] (fun q i => ∃ k : Nat, k ≤ n ∧ i = .int .i64 k ∧ q = .int .i64 ((k0 + k : Nat) : Int)) (fun _ i => n - (intOf i).toNat)
  case atStart => exact ⟨0, Nat.zero_le _, rfl, rfl⟩
  case round =>
    obtain ⟨k, hk, rfl, rfl⟩ := hrel
    by_cases hlt : k < n
    · have e1 : (0 : Int) ≤ (k : Int) := by omega
      have e2 : (k : Int) < (n : Int) := by omega
      have x1 := hb.cell k (by simp [mfrom]; exact hlt)
      rw [mfrom_get k0 n k hlt] at x1
      clear hb
      go_wp2
      go_round
      case rel => exact ⟨k + 1, by omega, by go_num, by go_num⟩
      case measure => simp [intOf]; omega
    · obtain rfl : k = n := by omega
      clear hb
      go_wp2
      go_ret
      exact ⟨rfl, rfl⟩

theorem heldNone (a : Option Addr) (c k0 : Nat) (w : World) :
    Calls Tryd.prog 25 #[.slice a 0 c, .int .i64 (k0 : Int)] w fun e w' => e = .returned (.int .i64 (k0 : Int)) ∧ w' = w := by
  go_enter Tryd.func25, Tryd.ntmps25
  go_wp2
  go_loop [1, 5] (fun q i => i = .int .i64 0 ∧ q = .int .i64 (k0 : Int)) (fun _ _ => 0)
  case atStart => exact ⟨rfl, rfl⟩
  case round =>
    obtain ⟨rfl, rfl⟩ := hrel
    go_wp2
    go_ret
    exact ⟨rfl, rfl⟩

/-- A row of numbers of one's own, in a stretch of blocks. -/
def OwnIn (lo hi : Nat) (W : World) (a : Option Addr) (zs : List Int) : Prop := zs = [] ∨ ∃ g, a = some ⟨g, 0, none⟩ ∧ lo ≤ g ∧ g < hi ∧ K0.Blk g (ints zs) W

variable {a : Option Addr} {zs : List Int}
theorem OwnIn.row (h : OwnIn lo hi W a zs) : P0.Row W a zs := by
  rcases h with h | ⟨g, rfl, _, _, hb⟩
  · exact Or.inl h
  · exact I2.row_of_blk hb
theorem OwnIn.below (h : OwnIn lo hi W a zs) (hb : Below W.heap.size W W') : OwnIn lo hi W' a zs := h.imp id fun ⟨g, e, h1, h2, hk⟩ => ⟨g, e, h1, h2, hk.below hb⟩
theorem OwnIn.btw (h : OwnIn lo hi W a zs) (hb : Btw lo' hi' W W') (hx : hi ≤ lo' ∨ hi' ≤ lo) : OwnIn lo hi W' a zs := h.imp id fun ⟨g, e, h1, h2, hk⟩ => ⟨g, e, h1, h2, blk_btw hk hb (by omega)⟩
theorem OwnIn.set (h : OwnIn lo hi W a zs) {B : Nat} (hB : B < lo) (j : Nat) (v : Value) : OwnIn lo hi (W.setCell ⟨B, j, none⟩ v) a zs := h.imp id fun ⟨g, e, h1, h2, hk⟩ => ⟨g, e, h1, h2, hk.setOther (by omega) j v⟩
theorem own_in (h : Own lo W a zs) : OwnIn lo W.heap.size W a zs := h.imp id fun ⟨g, e, h1, hk⟩ => ⟨g, e, h1, hk.lt, hk⟩
theorem OwnIn.mono (h : OwnIn lo hi W a zs) (h1 : lo' ≤ lo) (h2 : hi ≤ hi') : OwnIn lo' hi' W a zs := h.imp id fun ⟨g, e, l1, l2, hk⟩ => ⟨g, e, by omega, by omega, hk⟩

theorem markIn {n c k0 : Nat} (h : OwnIn lo hi W a zs) (hz : zs.length = n) (hn : n ≤ 1048576) (h0 : k0 ≤ 1125899906842624) :
    Calls Tryd.prog 24 #[.slice a n c, .int .i64 (k0 : Int)] W fun e w' => e = .returned (.int .i64 ((k0 + n : Nat) : Int)) ∧ OwnIn lo hi w' a (mfrom k0 n) ∧ Btw lo hi W w' := by
  subst hz
  rcases h with h | ⟨g, rfl, h1, h2, hk⟩
  · subst h
    exact (markNone a c k0 W).mono fun _ _ ⟨he, hw⟩ => ⟨he, Or.inl rfl, by rw [hw]; exact Btw.refl _ _ _⟩
  · have hm := markBlk g c (ints zs) k0 W (by simpa using hn) h0 hk
    rw [show (ints zs).length = zs.length by simp] at hm
    exact hm.mono fun _ _ ⟨he, hk', hb⟩ => ⟨he, Or.inr ⟨g, rfl, h1, h2, hk'⟩, hb.mono h1 (by omega)⟩

theorem heldIn {n c k0 : Nat} (h : OwnIn lo hi W a (mfrom k0 n)) (hn : n ≤ 1048576) (h0 : k0 ≤ 1125899906842624) :
    Calls Tryd.prog 25 #[.slice a n c, .int .i64 (k0 : Int)] W fun e w' => e = .returned (.int .i64 ((k0 + n : Nat) : Int)) ∧ w' = W := by
  rcases h with h | ⟨g, rfl, h1, h2, hk⟩
  · have h2 := congrArg List.length h
    rw [mfrom_length] at h2
    obtain rfl : n = 0 := h2
    exact heldNone a c k0 W
  · exact heldBlk g c n k0 W hn h0 hk

end Go.Proofs.YtjajclifjojblaaDoor.LF
