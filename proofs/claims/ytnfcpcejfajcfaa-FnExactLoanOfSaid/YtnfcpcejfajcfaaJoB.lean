/- Joined texts: plain facts and contracts, as each part says. -/
import Derived.Test.YtnfcpcejfajcfaaJoA
import Derived.Test.YtnfcpcejfajcfaaRows
import Derived.ProofKit
import Derived.Handy
import Derived.WalkKit
import Derived.Deep.QuietTactic
import Derived.BigQuiet
import Derived.Lib.Strings
import Derived.Laws.RangeString
import Derived.Laws.RangeAny
import Derived.Deep.RegionWith
import Derived.Lib.SmallJoins
import Derived.OpenShut
import Derived.ShutString

/- Memory that turns within a stretch of blocks alone; rows of numbers marked from any number on, and held; slices.Clone of a row of numbers. -/
namespace Go.Proofs.Ytnfcpcejfajcfaa.LF
open Go.ChangeShapes Go.WideShapes Go.ChangeAt Go.RowKit
set_option linter.unusedVariables false
set_option linter.unusedSimpArgs false
set_option maxRecDepth 10000

open I2 (ints)
open J0 (IBuf Own)
open M0 (grown_refl grown_set)

variable {lo hi lo' hi' g : Nat} {w W W' w' : World}

/-- So many cells of a block are there, and may be written. -/
def Wr (b m : Nat) (W : World) : Prop := ∀ j, j < m → (∃ v, W.cell? ⟨b, j, none⟩ = some v) ∧ W.frozen? ⟨b, j, none⟩ = false

theorem wr_blk {vs : List Value} (h : K0.Blk g vs W) : Wr g vs.length W := fun j hj => ⟨⟨_, h.cell j hj⟩, h.free j hj⟩

theorem wr_set {b m : Nat} (h : Wr b m W) (p : Addr) (v : Value) : Wr b m (W.setCell p v) := by
  intro j hj
  obtain ⟨⟨u, hu⟩, hf⟩ := h j hj
  refine ⟨?_, by rw [World.frozen?_setCell]; exact hf⟩
  by_cases e : p = ⟨b, j, none⟩
  · subst e
    exact ⟨v, World.cell?_setCell_same _ _ _ hu⟩
  · exact ⟨u, by rw [World.cell?_setCell_other _ _ _ _ e]; exact hu⟩

theorem lt_of_cell {b j : Nat} {v : Value} (h : W.cell? ⟨b, j, none⟩ = some v) : b < W.heap.size := by
  rcases Nat.lt_or_ge b W.heap.size with h1 | h1
  · exact h1
  · unfold World.cell? at h
    rw [Array.getElem?_eq_none h1] at h
    simp at h

/-- Nothing has turned but blocks from lo up to hi, and new ones; what could be written can be written. -/
structure Btw (lo hi : Nat) (w w' : World) : Prop where
  os : w'.os = w.os
  tape : w'.tape = w.tape
  output : w'.output = w.output
  size : w.heap.size ≤ w'.heap.size
  block : ∀ k, k < w.heap.size → k < lo ∨ hi ≤ k → w'.heap[k]? = w.heap[k]?
  wr : ∀ b m, Wr b m w → Wr b m w'

theorem Btw.refl (lo hi : Nat) (w : World) : Btw lo hi w w := ⟨rfl, rfl, rfl, Nat.le_refl _, fun _ _ _ => rfl, fun _ _ h => h⟩
theorem Btw.trans (h : Btw lo hi w W) (k : Btw lo hi W W') : Btw lo hi w W' :=
  ⟨k.os.trans h.os, k.tape.trans h.tape, k.output.trans h.output, Nat.le_trans h.size k.size, fun i hi hx => (k.block i (Nat.lt_of_lt_of_le hi h.size) hx).trans (h.block i hi hx), fun b m hw => k.wr b m (h.wr b m hw)⟩
theorem Btw.mono (h : Btw lo hi w W) (h1 : lo' ≤ lo) (h2 : hi ≤ hi') : Btw lo' hi' w W :=
  ⟨h.os, h.tape, h.output, h.size, fun k hk hx => h.block k hk (by omega), h.wr⟩
theorem wr_below {b m : Nat} (h : Wr b m w) (hb : Below w.heap.size w W) : Wr b m W := by
  intro j hj
  obtain ⟨⟨v, hv⟩, hf⟩ := h j hj
  have hlt := lt_of_cell hv
  exact ⟨⟨v, (hb.cell (p := ⟨b, j, none⟩) hlt).trans hv⟩, (hb.frozen (p := ⟨b, j, none⟩) hlt).trans hf⟩
theorem Btw.ofBelow (h : Below w.heap.size w W) : Btw lo hi w W := ⟨h.os, h.tape, h.output, h.size, fun k hk _ => h.block k hk, fun _ _ hw => wr_below hw h⟩
theorem Btw.then (h : Btw lo hi w W) (hb : Below W.heap.size W W') : Btw lo hi w W' := h.trans (Btw.ofBelow hb)
theorem Btw.set (h : Btw lo hi w W) {p : Addr} (h1 : lo ≤ p.block) (h2 : p.block < hi) (v : Value) : Btw lo hi w (W.setCell p v) :=
  h.trans ⟨rfl, rfl, rfl, by simp [World.setCell], fun k hk hx => Below.heap_setCell _ _ _ _ (by omega), fun b m hw => wr_set hw p v⟩
theorem Btw.below {b : Nat} (h : Btw lo hi w W) (hb : b ≤ lo) (hs : b ≤ w.heap.size) : Below b w W := ⟨h.os, h.tape, h.output, h.size, fun k hk => h.block k (by omega) (by omega)⟩

theorem blk_btw {B : Nat} {vs : List Value} (h : K0.Blk B vs w) (hb : Btw lo hi w W) (hx : B < lo ∨ hi ≤ B) : K0.Blk B vs W := by
  have e := hb.block B h.lt hx
  refine ⟨fun j hj => ?_, fun j hj => ?_, Nat.lt_of_lt_of_le h.lt hb.size⟩
  · rw [World.cell?_of_block (a := ⟨B, j, none⟩) e]
    exact h.cell j hj
  · rw [World.frozen?_of_block (a := ⟨B, j, none⟩) e]
    exact h.free j hj

/-- The marks from a number on. -/
def mfrom (k n : Nat) : List Int := (List.range n).map fun (j : Nat) => ((k + j : Nat) : Int)
theorem mfrom_length (k n : Nat) : (mfrom k n).length = n := by simp [mfrom]
theorem mfrom_get (k n j : Nat) (h : j < n) : (ints (mfrom k n))[j]'(by simp [mfrom]; exact h) = .int .i64 ((k + j : Nat) : Int) := by simp [mfrom]

def part (k0 : Nat) (vs : List Value) (k : Nat) : List Value := ints (mfrom k0 k) ++ vs.drop k
theorem part_zero (k0 : Nat) (vs : List Value) : part k0 vs 0 = vs := by simp [part, mfrom]
theorem part_all (k0 : Nat) (vs : List Value) : part k0 vs vs.length = ints (mfrom k0 vs.length) := by simp [part]
theorem part_length (k0 : Nat) (vs : List Value) (k : Nat) (h : k ≤ vs.length) : (part k0 vs k).length = vs.length := by simp [part, mfrom]; omega
theorem part_succ (k0 : Nat) (vs : List Value) (k : Nat) (h : k < vs.length) : (part k0 vs k).set k (.int .i64 ((k0 + k : Nat) : Int)) = part k0 vs (k + 1) := by
  unfold part
  have e : vs.drop k = vs[k] :: vs.drop (k + 1) := List.drop_eq_getElem_cons h
  have hl : (ints (mfrom k0 k)).length = k := by simp [mfrom]
  rw [e, List.set_append_right _ _ (by omega), hl, Nat.sub_self, List.set_cons_zero]
  simp [mfrom, List.range_succ]

theorem markBlk (g c : Nat) (vs : List Value) (k0 : Nat) (w : World) (hn : vs.length ≤ 1048576) (h0 : k0 ≤ 1125899906842624) (hb : K0.Blk g vs w) :
    Calls Try.prog 24 #[.slice (some ⟨g, 0, none⟩) vs.length c, .int .i64 (k0 : Int)] w fun e w' => e = .returned (.int .i64 ((k0 + vs.length : Nat) : Int)) ∧ K0.Blk g (ints (mfrom k0 vs.length)) w' ∧ Btw g (g + 1) w w' := by
  go_enter Try.func24, Try.ntmps24
  go_wp2
  go_loopw [1, 5] (fun q i w' => ∃ k : Nat, k ≤ vs.length ∧ i = .int .i64 k ∧ q = .int .i64 ((k0 + k : Nat) : Int) ∧ K0.Blk g (part k0 vs k) w' ∧ Btw g (g + 1) w w') (fun _ i _ => vs.length - (intOf i).toNat)
  case atStart => exact ⟨0, Nat.zero_le _, rfl, rfl, by rw [part_zero]; exact hb, Btw.refl _ _ _⟩
  case round =>
    obtain ⟨k, hk, rfl, rfl, hblk, hgr⟩ := hrel
    by_cases hlt : k < vs.length
    · have e1 : (0 : Int) ≤ (k : Int) := by omega
      have e2 : (k : Int) < (vs.length : Int) := by omega
      have x2 := hblk.cell k (by rw [part_length _ _ _ hk]; exact hlt)
      have x3 := hblk.free k (by rw [part_length _ _ _ hk]; exact hlt)
      obtain ⟨u, x4⟩ : ∃ u, wr.cell? ⟨g, k, none⟩ = some u := ⟨_, x2⟩
      have HB : Hid (K0.Blk g (part k0 vs (k + 1)) (wr.setCell ⟨g, k, none⟩ (.int .i64 ((k0 + k : Nat) : Int)))) := by rw [← part_succ k0 vs k hlt]; exact hblk.set k _
      clear x2 hblk hb
      go_wp2
      go_roundw
      case rel => exact ⟨k + 1, by omega, by go_num, by go_num, HB.out, hgr.set (p := ⟨g, k, none⟩) (Nat.le_refl _) (Nat.lt_succ_self _) _⟩
      case measure => simp [intOf]; omega
    · obtain rfl : k = vs.length := by omega
      rw [part_all] at hblk
      clear hb
      go_wp2
      go_ret
      exact ⟨rfl, hblk, hgr⟩

/-- Cells that may be written, marked: of what stands there nothing is told. -/
theorem markWr (g c n : Nat) (k0 : Nat) (w : World) (hn : n ≤ 1048576) (h0 : k0 ≤ 1125899906842624) (hb : Wr g n w) :
    Calls Try.prog 24 #[.slice (some ⟨g, 0, none⟩) n c, .int .i64 (k0 : Int)] w fun e w' => e = .returned (.int .i64 ((k0 + n : Nat) : Int)) ∧ Btw g (g + 1) w w' := by
  go_enter Try.func24, Try.ntmps24
  go_wp2
  go_loopw [1, 5] (fun q i w' => ∃ k : Nat, k ≤ n ∧ i = .int .i64 k ∧ q = .int .i64 ((k0 + k : Nat) : Int) ∧ Btw g (g + 1) w w') (fun _ i _ => n - (intOf i).toNat)
  case atStart => exact ⟨0, Nat.zero_le _, rfl, rfl, Btw.refl _ _ _⟩
  case round =>
    obtain ⟨k, hk, rfl, rfl, hgr⟩ := hrel
    by_cases hlt : k < n
    · have e1 : (0 : Int) ≤ (k : Int) := by omega
      have e2 : (k : Int) < (n : Int) := by omega
      obtain ⟨⟨u, x4⟩, x3⟩ := hgr.wr _ _ hb k hlt
      clear hb
      go_wp2
      go_roundw
      case rel => exact ⟨k + 1, by omega, by go_num, by go_num, hgr.set (p := ⟨g, k, none⟩) (Nat.le_refl _) (Nat.lt_succ_self _) _⟩
      case measure => simp [intOf]; omega
    · obtain rfl : k = n := by omega
      clear hb
      go_wp2
      go_ret
      exact ⟨rfl, hgr⟩

theorem markNone (a : Option Addr) (c : Nat) (k0 : Nat) (w : World) :
    Calls Try.prog 24 #[.slice a 0 c, .int .i64 (k0 : Int)] w fun e w' => e = .returned (.int .i64 (k0 : Int)) ∧ w' = w := by
  go_enter Try.func24, Try.ntmps24
  go_wp2
  go_loop [1, 5] (fun q i => i = .int .i64 0 ∧ q = .int .i64 (k0 : Int)) (fun _ _ => 0)
  case atStart => exact ⟨rfl, rfl⟩
  case round =>
    obtain ⟨rfl, rfl⟩ := hrel
    go_wp2
    go_ret
    exact ⟨rfl, rfl⟩

theorem heldBlk (g c n k0 : Nat) (w : World) (hn : n ≤ 1048576) (h0 : k0 ≤ 1125899906842624) (hb : K0.Blk g (ints (mfrom k0 n)) w) :
    Calls Try.prog 25 #[.slice (some ⟨g, 0, none⟩) n c, .int .i64 (k0 : Int)] w fun e w' => e = .returned (.int .i64 ((k0 + n : Nat) : Int)) ∧ w' = w := by
  go_enter Try.func25, Try.ntmps25
  go_wp2
  go_loop [1, 5] (fun q i => ∃ k : Nat, k ≤ n ∧ i = .int .i64 k ∧ q = .int .i64 ((k0 + k : Nat) : Int)) (fun _ i => n - (intOf i).toNat)
  case atStart => exact ⟨0, Nat.zero_le _, rfl, rfl⟩
  case round =>
    obtain ⟨k, hk, rfl, rfl⟩ := hrel
    by_cases hlt : k < n
    · have e1 : (0 : Int) ≤ (k : Int) := by omega
      have e2 : (k : Int) < (n : Int) := by omega
      have x1 := hb.cell k (by simp [mfrom]; exact hlt)
      rw [mfrom_get k0 n k hlt] at x1
      clear hb
      go_wp2
      go_round
      case rel => exact ⟨k + 1, by omega, by go_num, by go_num⟩
      case measure => simp [intOf]; omega
    · obtain rfl : k = n := by omega
      clear hb
      go_wp2
      go_ret
      exact ⟨rfl, rfl⟩

theorem heldNone (a : Option Addr) (c k0 : Nat) (w : World) :
    Calls Try.prog 25 #[.slice a 0 c, .int .i64 (k0 : Int)] w fun e w' => e = .returned (.int .i64 (k0 : Int)) ∧ w' = w := by
  go_enter Try.func25, Try.ntmps25
  go_wp2
  go_loop [1, 5] (fun q i => i = .int .i64 0 ∧ q = .int .i64 (k0 : Int)) (fun _ _ => 0)
  case atStart => exact ⟨rfl, rfl⟩
  case round =>
    obtain ⟨rfl, rfl⟩ := hrel
    go_wp2
    go_ret
    exact ⟨rfl, rfl⟩

/-- A row of numbers of one's own, in a stretch of blocks. -/
def OwnIn (lo hi : Nat) (W : World) (a : Option Addr) (zs : List Int) : Prop := zs = [] ∨ ∃ g, a = some ⟨g, 0, none⟩ ∧ lo ≤ g ∧ g < hi ∧ K0.Blk g (ints zs) W

variable {a : Option Addr} {zs : List Int}
theorem OwnIn.row (h : OwnIn lo hi W a zs) : P0.Row W a zs := by
  rcases h with h | ⟨g, rfl, _, _, hb⟩
  · exact Or.inl h
  · exact I2.row_of_blk hb
theorem OwnIn.below (h : OwnIn lo hi W a zs) (hb : Below W.heap.size W W') : OwnIn lo hi W' a zs := h.imp id fun ⟨g, e, h1, h2, hk⟩ => ⟨g, e, h1, h2, hk.below hb⟩
theorem OwnIn.btw (h : OwnIn lo hi W a zs) (hb : Btw lo' hi' W W') (hx : hi ≤ lo' ∨ hi' ≤ lo) : OwnIn lo hi W' a zs := h.imp id fun ⟨g, e, h1, h2, hk⟩ => ⟨g, e, h1, h2, blk_btw hk hb (by omega)⟩
theorem OwnIn.set (h : OwnIn lo hi W a zs) {B : Nat} (hB : B < lo) (j : Nat) (v : Value) : OwnIn lo hi (W.setCell ⟨B, j, none⟩ v) a zs := h.imp id fun ⟨g, e, h1, h2, hk⟩ => ⟨g, e, h1, h2, hk.setOther (by omega) j v⟩
theorem own_in (h : Own lo W a zs) : OwnIn lo W.heap.size W a zs := h.imp id fun ⟨g, e, h1, hk⟩ => ⟨g, e, h1, hk.lt, hk⟩
theorem OwnIn.mono (h : OwnIn lo hi W a zs) (h1 : lo' ≤ lo) (h2 : hi ≤ hi') : OwnIn lo' hi' W a zs := h.imp id fun ⟨g, e, l1, l2, hk⟩ => ⟨g, e, by omega, by omega, hk⟩

theorem markIn {n c k0 : Nat} (h : OwnIn lo hi W a zs) (hz : zs.length = n) (hn : n ≤ 1048576) (h0 : k0 ≤ 1125899906842624) :
    Calls Try.prog 24 #[.slice a n c, .int .i64 (k0 : Int)] W fun e w' => e = .returned (.int .i64 ((k0 + n : Nat) : Int)) ∧ OwnIn lo hi w' a (mfrom k0 n) ∧ Btw lo hi W w' := by
  subst hz
  rcases h with h | ⟨g, rfl, h1, h2, hk⟩
  · subst h
    exact (markNone a c k0 W).mono fun _ _ ⟨he, hw⟩ => ⟨he, Or.inl rfl, by rw [hw]; exact Btw.refl _ _ _⟩
  · have hm := markBlk g c (ints zs) k0 W (by simpa using hn) h0 hk
    rw [show (ints zs).length = zs.length by simp] at hm
    exact hm.mono fun _ _ ⟨he, hk', hb⟩ => ⟨he, Or.inr ⟨g, rfl, h1, h2, hk'⟩, hb.mono h1 (by omega)⟩

theorem heldIn {n c k0 : Nat} (h : OwnIn lo hi W a (mfrom k0 n)) (hn : n ≤ 1048576) (h0 : k0 ≤ 1125899906842624) :
    Calls Try.prog 25 #[.slice a n c, .int .i64 (k0 : Int)] W fun e w' => e = .returned (.int .i64 ((k0 + n : Nat) : Int)) ∧ w' = W := by
  rcases h with h | ⟨g, rfl, h1, h2, hk⟩
  · have h2 := congrArg List.length h
    rw [mfrom_length] at h2
    obtain rfl : n = 0 := h2
    exact heldNone a c k0 W
  · exact heldBlk g c n k0 W hn h0 hk

theorem clone (a : Option Addr) (c : Nat) (zs : List Int) (w : World) (hn : zs.length ≤ 1048576) (hR : P0.Row w a zs) :
    Calls Try.prog 31 #[.slice a zs.length c] w fun e w' => ∃ a' c', e = .returned (.slice a' zs.length c') ∧ Own w.heap.size w' a' zs ∧ Below w.heap.size w w' := by
  have qn : ∀ (w : World) (a : Option Addr) (n c n' c' : Nat), (binOp .eql 28 (.slice a n c) (.slice none n' c')).run Try.prog w = .ok (.bool a.isNone) w := fun w a n c n' c' => Lib.run_eql_slice_nil w _ _ a n c n' c' Try.underlying28
  cases a with
  | none =>
    have h0 : zs = [] := by
      rcases hR with h | ⟨b, off, h, _⟩
      · exact h
      · cases h
    subst h0
    go_enter Try.func31, Try.ntmps31
    go_wp2
    go_ret
    exact ⟨none, 0, rfl, Or.inl rfl, Below.refl _ _⟩
  | some p =>
    have b0 := J0.ibuf_made w (Nat.le_refl _)
    have l0 := K0.below_new w (.cells #[] 3)
    have r0 := hR.below l0
    clear hR
    go_enter Try.func31, Try.ntmps31
    go_wp2_with (at_builtin; refine Q1.append_rows rfl (.tmp 5) (.tmp 6) rfl b0 _ _ zs (by rfl) (by rfl) r0 (by omega) l0.size ?_; intro a1 c1 w1 b1 l1)
    go_ret
    exact ⟨a1, c1, by simp, by simpa using b1.own, l0.trans l1⟩
end Go.Proofs.Ytnfcpcejfajcfaa.LF

/- Contracts of spec.Zeros and impl.Zeros, as the given laws call them. -/
namespace Go.Proofs.Ytnfcpcejfajcfaa.B4
open Go.ChangeShapes Go.WideShapes Go.ChangeAt Go.RowKit
set_option linter.unusedVariables false

/-- So many bytes 0. -/
def nulls (k : Nat) : ByteArray := ⟨Array.replicate k 0⟩

/-- So many bytes 0 for 0 to 5000; none for another number. -/
def zeros (n : Int) : ByteArray := if n ≤ 5000 then nulls n.toNat else ⟨#[]⟩

theorem nulls_succ (k : Nat) : nulls k ++ ⟨#[0]⟩ = nulls (k + 1) := by
  apply ByteArray.ext
  simp [nulls, Array.replicate_succ]

theorem nulls_size (k : Nat) : (nulls k).size = k := by simp [nulls, ByteArray.size]

theorem info8 : (Try.prog.info? 5).map (fun i => (i.zero, i.size, i.bytes)) = some (some (.int .u8 0), 1, 1) := by kernel_rfl

end Go.Proofs.Ytnfcpcejfajcfaa.B4

/- The contract of impl.liesIn, and the part of a text as a function. -/
namespace Go.Proofs.Ytnfcpcejfajcfaa.B2
open Go.ChangeShapes Go.WideShapes Go.ChangeAt Go.RowKit
set_option linter.unusedVariables false

/-- Whether so many bytes from a place on lie in a text of so many. -/
def lies (z : Nat) (i n : Int) : Bool := decide (0 ≤ i ∧ 0 ≤ n ∧ n ≤ (z : Int) - i)

theorem lies_true {z : Nat} {i n : Int} (h : lies z i n = true) : 0 ≤ i ∧ 0 ≤ n ∧ n ≤ (z : Int) - i := by simpa [lies] using h
theorem lies_false {z : Nat} {i n : Int} (h : lies z i n = false) : ¬ (0 ≤ i ∧ 0 ≤ n ∧ n ≤ (z : Int) - i) := of_decide_eq_false h

/-- The n bytes from place i on; none where they do not all lie there. -/
def part (s : ByteArray) (i n : Int) : ByteArray := if lies s.size i n then s.extract i.toNat (i + n).toNat else ⟨#[]⟩

end Go.Proofs.Ytnfcpcejfajcfaa.B2

/- Contracts of spec.With and impl.With, as the given laws call them. -/
namespace Go.Proofs.Ytnfcpcejfajcfaa.B5
open Go.ChangeShapes Go.WideShapes Go.ChangeAt Go.RowKit
set_option linter.unusedVariables false

/-- The one text with the other in the place of as many bytes from a place on; the one text where they do not all lie in it. -/
def laid (s : ByteArray) (i : Int) (t : ByteArray) : ByteArray := if B2.lies s.size i t.size then s.extract 0 i.toNat ++ t ++ s.extract (i + t.size).toNat s.size else s

theorem laid_eq (s : ByteArray) (k : Nat) (t : ByteArray) (h : k + t.size ≤ s.size) :
    s.extract 0 k ++ t ++ s.extract (k + t.size) s.size = ⟨(s.data.toList.take k ++ t.data.toList ++ s.data.toList.drop (k + t.data.toList.length)).toArray⟩ := by
  apply ByteArray.ext
  apply Array.toList_inj.1
  have e1 : (s.data.toList.drop (k + t.data.toList.length)).take (s.size - (k + t.size)) = s.data.toList.drop (k + t.data.toList.length) :=
    List.take_of_length_le (by rw [List.length_drop, ← Lib.size_eq, ← Lib.size_eq]; omega)
  simp only [ByteArray.data_append, Array.toList_append, Lib.extract_data, List.drop_zero, Nat.sub_zero]
  rw [Lib.size_eq t] at *
  rw [e1]

theorem info8 : (Try.prog.info? 5).map (·.size) = some 1 := by kernel_rfl

end Go.Proofs.Ytnfcpcejfajcfaa.B5

/- Contracts of spec.ByteAt and impl.ByteAt, as the given laws call them. -/
namespace Go.Proofs.Ytnfcpcejfajcfaa.B1
open Go.ChangeShapes Go.WideShapes Go.ChangeAt Go.RowKit
set_option linter.unusedVariables false

/-- The byte at a place, 0 where there is none. -/
def byteAt (s : ByteArray) (i : Int) : Int := if h : 0 ≤ i ∧ i < s.size then (s[i.toNat]'(by omega)).toNat else 0

end Go.Proofs.Ytnfcpcejfajcfaa.B1

/- Plain facts on the names of entries and on an entry as bytes. -/
namespace Go.Proofs.Ytnfcpcejfajcfaa.E0
open Go
set_option linter.unusedVariables false

/-- A sign that a name may have: a letter a to z, a digit, a dot. -/
def chr (c : UInt8) : Bool := decide (97 ≤ c.toNat ∧ c.toNat ≤ 122) || (decide (48 ≤ c.toNat ∧ c.toNat ≤ 57) || decide (c.toNat = 46))

theorem chr_false {c : UInt8} (h : chr c = false) : ¬ (97 ≤ c.toNat ∧ c.toNat ≤ 122) ∧ ¬ (48 ≤ c.toNat ∧ c.toNat ≤ 57) ∧ ¬ c.toNat = 46 := by
  simp only [chr, Bool.or_eq_false_iff, decide_eq_false_iff_not] at h
  exact h
theorem chr_true {c : UInt8} (h : chr c = true) : (97 ≤ c.toNat ∧ c.toNat ≤ 122) ∨ (48 ≤ c.toNat ∧ c.toNat ≤ 57) ∨ c.toNat = 46 := by
  simp only [chr, Bool.or_eq_true, decide_eq_true_eq] at h
  exact h

/-- The text is a dot; two dots. -/
def dot1 (s : ByteArray) : Bool := s.toList == [46]
def dot2 (s : ByteArray) : Bool := s.toList == [46, 46]

/-- What a name must be. -/
def nameOk (s : ByteArray) : Bool := s.data.toList.all chr && (B1.inB s.size 1 14 && (!dot1 s && !dot2 s))

/-- What an entry must be. -/
def entryOk (i : Int) (s : ByteArray) : Bool := nameOk s && B1.inB i 1 7

theorem take_snoc (s : ByteArray) (k : Nat) (h : k < s.size) : s.data.toList.take (k + 1) = s.data.toList.take k ++ [s[k]] := by
  rw [List.take_succ_eq_append_getElem (by rw [← Lib.size_eq]; exact h)]
  rfl

theorem take_all (s : ByteArray) : s.data.toList.take s.size = s.data.toList := List.take_of_length_le (by rw [← Lib.size_eq]; exact Nat.le_refl _)

theorem all_snoc {s : ByteArray} {k : Nat} (h : k < s.size) (ha : (s.data.toList.take k).all chr = true) (hc : chr s[k] = true) : (s.data.toList.take (k + 1)).all chr = true := by
  rw [take_snoc s k h]
  simp only [List.all_append, List.all_cons, List.all_nil, Bool.and_true, Bool.and_eq_true]
  exact ⟨ha, hc⟩

theorem all_bad {s : ByteArray} {k : Nat} (hk : k < s.size) (h : chr s[k] = false) : s.data.toList.all chr = false := by
  rw [List.all_eq_false]
  refine ⟨s[k], ?_, by rw [h]; decide⟩
  have hk' : k < s.data.toList.length := by rw [← Lib.size_eq]; exact hk
  exact List.getElem_mem hk'

theorem nameOk_bad {s : ByteArray} {k : Nat} (hk : k < s.size) (h : chr s[k] = false) : nameOk s = false := by rw [nameOk, all_bad hk h]; rfl
theorem nameOk_all {s : ByteArray} (h : s.data.toList.all chr = true) : nameOk s = (B1.inB s.size 1 14 && (!dot1 s && !dot2 s)) := by rw [nameOk, h]; rfl
theorem nameOk_size {s : ByteArray} (h : nameOk s = true) : 1 ≤ s.size ∧ s.size ≤ 14 := by
  simp only [nameOk, Bool.and_eq_true] at h
  have := B1.inB_true h.2.1
  omega

theorem entryOk_true {i : Int} {s : ByteArray} (h : entryOk i s = true) : nameOk s = true ∧ (1 ≤ i ∧ i ≤ 7) := by
  simp only [entryOk, Bool.and_eq_true] at h
  exact ⟨h.1, B1.inB_true h.2⟩

/-- An entry's bytes ahead of the zeros. -/
def headOf (i : Int) (s : ByteArray) : ByteArray := ⟨#[UInt8.ofNat i.toNat, UInt8.ofNat s.size]⟩ ++ s

/-- An entry as bytes; none where it is not right. -/
def putE (i : Int) (s : ByteArray) : ByteArray := if entryOk i s then headOf i s ++ B4.nulls (14 - s.size) else ⟨#[]⟩

theorem headOf_size (i : Int) (s : ByteArray) : (headOf i s).size = 2 + s.size := by
  rw [headOf, ByteArray.size_append]
  rfl

theorem laid_front (t : ByteArray) (n : Nat) (h : t.size ≤ n) : B5.laid (B4.nulls n) 0 t = t ++ B4.nulls (n - t.size) := by
  have hz := B4.nulls_size n
  rw [B5.laid, show B2.lies (B4.nulls n).size 0 t.size = true from decide_eq_true (by omega), if_pos rfl]
  have h2 : ((0 : Int) + (t.size : Int)).toNat = 0 + t.size := by omega
  rw [h2]
  have := B5.laid_eq (B4.nulls n) 0 t (by omega)
  rw [show ((0 : Int)).toNat = 0 from rfl, this]
  apply ByteArray.ext
  simp only [ByteArray.data_append]
  apply Array.toList_inj.1
  simp only [Array.toList_append, List.take_zero, List.nil_append, Nat.zero_add, B4.nulls, Array.toList_replicate, List.drop_replicate]
  rw [← Lib.size_eq]

theorem putE_size (i : Int) (s : ByteArray) : (putE i s).size ≤ 16 := by
  unfold putE
  split
  · rename_i h
    have := nameOk_size (entryOk_true h).1
    rw [ByteArray.size_append, headOf_size, B4.nulls_size]
    omega
  · exact Nat.zero_le _
end Go.Proofs.Ytnfcpcejfajcfaa.E0

/- Contracts of spec.EntryOk, impl.nameOk and impl.EntryOk, as the given laws call them. -/
namespace Go.Proofs.Ytnfcpcejfajcfaa.E1
open Go.ChangeShapes Go.WideShapes Go.ChangeAt Go.RowKit
set_option linter.unusedVariables false
set_option linter.unusedSimpArgs false

theorem ret_bool {a b : Bool} (h : a = b) : Ending.returned (.bool a) = .returned (.bool b) := by rw [h]

theorem in_a (c : UInt8) : B1.inB (c.toNat : Int) 97 122 = decide (97 ≤ c.toNat ∧ c.toNat ≤ 122) := by
  unfold B1.inB
  rw [decide_eq_decide]
  omega

theorem in_0 (c : UInt8) : B1.inB (c.toNat : Int) 48 57 = decide (48 ≤ c.toNat ∧ c.toNat ≤ 57) := by
  unfold B1.inB
  rw [decide_eq_decide]
  omega

theorem below_iter (w : World) (s : ByteArray) (k : Nat) : Below w.heap.size w (w.iter s k) := (Below.refl _ w).alloc (Nat.le_refl _) _

end Go.Proofs.Ytnfcpcejfajcfaa.E1

/- Contracts of spec.Pair and impl.Pair, as the given laws call them. -/
namespace Go.Proofs.Ytnfcpcejfajcfaa.B3
open Go.ChangeShapes Go.WideShapes Go.ChangeAt Go.RowKit
set_option linter.unusedVariables false

/-- A number of 0 to 65535 as two bytes, the low one first; none for another. -/
def pair (n : Int) : ByteArray := if B1.inB n 0 65535 then ⟨#[UInt8.ofNat (n % 256).toNat, UInt8.ofNat (n / 256).toNat]⟩ else ⟨#[]⟩

theorem ofNat_int (n : Int) (h0 : 0 ≤ n) (h1 : n < 256) : ((UInt8.ofNat n.toNat).toNat : Int) = n := by
  have : n.toNat < 256 := by omega
  simp [Nat.mod_eq_of_lt this]
  omega

theorem conv2 (x y : Int) (hx : 0 ≤ x ∧ x < 256) (hy : 0 ≤ y ∧ y < 256) (w : World) :
    (convert 62 9 (.slice (some ⟨w.heap.size, 0, none⟩) 2 2)).run Try.prog (w.alloc (.cells #[.int .u8 x, .int .u8 y] 5)) = .ok (.string ⟨#[UInt8.ofNat x.toNat, UInt8.ofNat y.toNat]⟩) (w.alloc (.cells #[.int .u8 x, .int .u8 y] 5)) :=
  B0.conv_back _ 62 9 5 _ 0 2 [UInt8.ofNat x.toNat, UInt8.ofNat y.toNat] Try.underlying62 Try.underlying5 Try.underlying9
    (B0.holds_new _ _ _ _ _ fun j hj => by
      match j, hj with
      | 0, _ => simp only [List.getElem_cons_zero, ofNat_int x hx.1 hx.2]; rfl
      | 1, _ => simp only [List.getElem_cons_succ, List.getElem_cons_zero, ofNat_int y hy.1 hy.2]; rfl) 2 rfl

end Go.Proofs.Ytnfcpcejfajcfaa.B3

/- Contracts of spec.PutEntry and impl.PutEntry, as the given laws call them. -/
namespace Go.Proofs.Ytnfcpcejfajcfaa.E2
open Go.ChangeShapes Go.WideShapes Go.ChangeAt Go.RowKit
set_option linter.unusedVariables false
set_option linter.unusedSimpArgs false

theorem ret_str {a b : ByteArray} (h : a = b) : Ending.returned (.string a) = .returned (.string b) := by rw [h]

/-- An entry in a block. -/
structure Bx (B : Nat) (w : World) (i : Int) (s : ByteArray) (W : World) : Prop where
  c0 : W.cell? ⟨B, 0, none⟩ = some (.int .i64 i)
  c1 : W.cell? ⟨B, 1, none⟩ = some (.string s)
  lt : B < W.heap.size
  bel : Below B w W

variable {B : Nat} {w W W' : World} {i : Int} {s : ByteArray}

theorem Bx.below (h : Bx B w i s W) (hb : Below W.heap.size W W') : Bx B w i s W' :=
  ⟨(hb.cell (p := ⟨B, 0, none⟩) h.lt).trans h.c0, (hb.cell (p := ⟨B, 1, none⟩) h.lt).trans h.c1, Nat.lt_of_lt_of_le h.lt hb.size, h.bel.trans (hb.mono (Nat.le_of_lt h.lt))⟩

theorem Bx.alloc (h : Bx B w i s W) (o : Obj) : Bx B w i s (W.alloc o) := h.below ((Below.refl _ _).alloc (Nat.le_refl _) o)
theorem Bx.drew (h : Bx B w i s W) : Bx B w i s W.drew := ⟨h.c0, h.c1, h.lt, h.bel.drew⟩

theorem bx_new (i : Int) (s : ByteArray) (w : World) (T : TypeId) : Bx w.heap.size w i s (w.alloc (.cells #[.int .i64 i, .string s] T)) := by
  refine ⟨?_, ?_, ?_, ?_⟩
  all_goals first | exact (Below.refl _ _).alloc (Nat.le_refl _) _ | (simp [go_sem]; done) | (simp; done)

theorem head_eq (hi : 1 ≤ i ∧ i ≤ 7) (hs : s.size ≤ 14) : (⟨#[UInt8.ofNat i.toNat, UInt8.ofNat ((s.size : Int)).toNat]⟩ : ByteArray) ++ s = E0.headOf i s := by
  rw [E0.headOf, Int.toNat_natCast]

end Go.Proofs.Ytnfcpcejfajcfaa.E2

/- Plain facts on lists of entries; rows of entries in memory. -/
namespace Go.Proofs.Ytnfcpcejfajcfaa.T0
open Go.RowKit
set_option linter.unusedVariables false
set_option linter.unusedSimpArgs false

abbrev Ent := Int × ByteArray

/-- Two entries have one name or one inode. -/
def clash (o e : Ent) : Bool := (o.2.toList == e.2.toList) || (o.1 == e.1)

/-- One of some has an entry's name or inode. -/
def taken (es : List Ent) (e : Ent) : Bool := es.any fun o => clash o e

def ent (es : List Ent) (k : Nat) : Ent := es.getD k (0, ⟨#[]⟩)

theorem ent_get (es : List Ent) (k : Nat) (h : k < es.length) : ent es k = es[k] := by simp [ent, List.getD, h]

theorem taken_succ (es : List Ent) (k : Nat) (e : Ent) (h : k < es.length) : taken (es.take (k + 1)) e = (taken (es.take k) e || clash (ent es k) e) := by
  rw [taken, taken, List.take_succ_eq_append_getElem h, List.any_append, ent_get es k h]
  simp

theorem taken_of {es : List Ent} {k n : Nat} {e : Ent} (hk : k < n) (hn : n ≤ es.length) (h : clash (ent es k) e = true) : taken (es.take n) e = true := by
  rw [taken, List.any_eq_true]
  refine ⟨ent es k, ?_, h⟩
  rw [ent_get es k (by omega)]
  exact List.mem_iff_getElem.2 ⟨k, by simp; omega, by simp⟩

def okAt (es : List Ent) (i : Nat) : Bool := E0.entryOk (ent es i).1 (ent es i).2 && !(taken (es.take i) (ent es i))
def okUpto (es : List Ent) (k : Nat) : Bool := (List.range k).all (okAt es)

/-- What a directory's entries must be. -/
def dirOk (es : List Ent) : Bool := decide (es.length ≤ 12) && okUpto es es.length

theorem okUpto_succ (es : List Ent) (k : Nat) : okUpto es (k + 1) = (okUpto es k && okAt es k) := by simp [okUpto, List.range_succ]
theorem okUpto_bad {es : List Ent} {k n : Nat} (hk : k < n) (h : okAt es k = false) : okUpto es n = false := by
  rw [okUpto, List.all_eq_false]
  exact ⟨k, List.mem_range.2 hk, by rw [h]; decide⟩
theorem dirOk_bad {es : List Ent} {k : Nat} (hk : k < es.length) (h : okAt es k = false) : dirOk es = false := by rw [dirOk, okUpto_bad hk h, Bool.and_false]

/-- The first entries' bytes. -/
def joined (es : List Ent) : Nat → ByteArray
  | 0 => ⟨#[]⟩
  | k + 1 => joined es k ++ E0.putE (ent es k).1 (ent es k).2

/-- A directory as bytes; none where it is not right. -/
def putD (es : List Ent) : ByteArray := if dirOk es then joined es es.length else ⟨#[]⟩

theorem putE_size16 {i : Int} {s : ByteArray} (h : E0.entryOk i s = true) : (E0.putE i s).size = 16 := by
  have := E0.nameOk_size (E0.entryOk_true h).1
  rw [E0.putE, if_pos h, ByteArray.size_append, E0.headOf_size, B4.nulls_size]
  omega

theorem okAt_entry {es : List Ent} {k : Nat} (h : okAt es k = true) : E0.entryOk (ent es k).1 (ent es k).2 = true ∧ taken (es.take k) (ent es k) = false := by
  simp only [okAt, Bool.and_eq_true, Bool.not_eq_true'] at h
  exact h

theorem okUpto_at {es : List Ent} {n k : Nat} (h : okUpto es n = true) (hk : k < n) : okAt es k = true := by
  cases hb : okAt es k with
  | true => rfl
  | false => rw [okUpto_bad hk hb] at h; cases h

theorem joined_size {es : List Ent} {n : Nat} (h : okUpto es n = true) : ∀ k, k ≤ n → (joined es k).size = 16 * k
  | 0, _ => rfl
  | k + 1, hk => by
    rw [joined, ByteArray.size_append, joined_size h k (by omega), putE_size16 (okAt_entry (okUpto_at h (by omega : k < n))).1]
    omega

/-- A slice's place holds these entries; nothing is said of it where there are none. -/
def Row (W : World) (a : Option Addr) (es : List Ent) : Prop := es = [] ∨ ∃ b off, a = some ⟨b, off, none⟩ ∧ b < W.heap.size ∧ ∀ j, j < es.length → W.cell? ⟨b, off + j * 2, none⟩ = some (.int .i64 (ent es j).1) ∧ W.cell? ⟨b, off + j * 2 + 1, none⟩ = some (.string (ent es j).2)

theorem Row.below {W W' : World} {a : Option Addr} {es : List Ent} (h : Row W a es) (hb : Below W.heap.size W W') : Row W' a es := by
  rcases h with h | ⟨b, off, ha, hlt, hc⟩
  · exact Or.inl h
  · exact Or.inr ⟨b, off, ha, Nat.lt_of_lt_of_le hlt hb.size, fun j hj => ⟨(hb.cell (p := ⟨b, off + j * 2, none⟩) hlt).trans (hc j hj).1, (hb.cell (p := ⟨b, off + j * 2 + 1, none⟩) hlt).trans (hc j hj).2⟩⟩
theorem Row.drewN {W : World} {a : Option Addr} {es : List Ent} (h : Row W a es) (n : Nat) : Row (W.drewN n) a es := h
theorem Row.get {W : World} {a : Option Addr} {es : List Ent} {k : Nat} (h : Row W a es) (hk : k < es.length) : ∃ b off, a = some ⟨b, off, none⟩ ∧ b < W.heap.size ∧ ∀ j, j < es.length → W.cell? ⟨b, off + j * 2, none⟩ = some (.int .i64 (ent es j).1) ∧ W.cell? ⟨b, off + j * 2 + 1, none⟩ = some (.string (ent es j).2) := by
  rcases h with h | h
  · subst h
    simp at hk
  · exact h
theorem Row.take {W : World} {b off n : Nat} {es : List Ent} (hlt : b < W.heap.size) (hn : n ≤ es.length) (hc : ∀ j, j < es.length → W.cell? ⟨b, off + j * 2, none⟩ = some (.int .i64 (ent es j).1) ∧ W.cell? ⟨b, off + j * 2 + 1, none⟩ = some (.string (ent es j).2)) : Row W (some ⟨b, off, none⟩) (es.take n) := by
  refine Or.inr ⟨b, off, rfl, hlt, fun j hj => ?_⟩
  have hj' : j < n := by simp at hj; omega
  have e : ent (es.take n) j = ent es j := by simp [ent, List.getD, hj']
  rw [e]
  exact hc j (by omega)

/-- All names fit. -/
def Fits (es : List Ent) : Prop := ∀ j, j < es.length → (ent es j).2.size ≤ 281474976710656
end Go.Proofs.Ytnfcpcejfajcfaa.T0

/- An entry among a law's arguments; contracts of laws.szEntry, laws.toEntry and laws.eqEntry. -/
namespace Go.Proofs.Ytnfcpcejfajcfaa.E3
open Go.ChangeShapes Go.WideShapes Go.ChangeAt Go.RowKit Go.Joins
set_option linter.unusedVariables false
set_option linter.unusedSimpArgs false
set_option maxRecDepth 10000

section Args
variable {H : Type} {enc : TypeId × Value → H} {w : World} {base : Nat} {sp : Nat → Bool} {held : Bool}

end Args

/-- What is left behind a name; -1 where nothing is. -/
def sz (s : ByteArray) (l : Int) : Int := if l - s.size < 0 then -1 else l - s.size

open E2 (Bx)
variable {B : Nat} {w W W' : World} {i : Int} {s : ByteArray}

end Go.Proofs.Ytnfcpcejfajcfaa.E3

/- Contracts of strings.Clone and impl.Part, as the given laws call them. -/
namespace Go.Proofs.Ytnfcpcejfajcfaa.B2
open Go.ChangeShapes Go.WideShapes Go.ChangeAt Go.RowKit
set_option linter.unusedVariables false

theorem clone_any (s : ByteArray) (w : World) (hs : s.size ≤ 281474976710656) :
    Calls Try.prog 30 #[.string s] w fun e w' => e = .returned (.string s) ∧ Below w.heap.size w w' := by
  go_enter Try.func30, Try.ntmps30
  go_wp2_with (go_at_call 35; refine (Try.stringslite_Clone _ _ hs).mono ?_; rintro e w' ⟨rfl, hb⟩)
  go_ret
  exact ⟨rfl, hb⟩

theorem part_size (s : ByteArray) (i n : Int) : (part s i n).size ≤ s.size := by
  unfold part
  split
  · simp only [ByteArray.size_extract]; omega
  · exact Nat.zero_le _

end Go.Proofs.Ytnfcpcejfajcfaa.B2

/- The contract of spec.Part, as the given laws call it. -/
namespace Go.Proofs.Ytnfcpcejfajcfaa.B2
open Go.ChangeShapes Go.WideShapes Go.ChangeAt Go.RowKit
set_option linter.unusedVariables false

end Go.Proofs.Ytnfcpcejfajcfaa.B2

/- Contracts of spec.GetEntry and impl.GetEntry, as the given laws call them. -/
namespace Go.Proofs.Ytnfcpcejfajcfaa.E4
open Go.ChangeShapes Go.WideShapes Go.ChangeAt Go.RowKit
set_option linter.unusedVariables false
set_option linter.unusedSimpArgs false
set_option maxRecDepth 10000

/-- What stands in the bytes of an entry. -/
def ino (s : ByteArray) : Int := B1.byteAt s 0
def name (s : ByteArray) : ByteArray := B2.part s 2 (B1.byteAt s 1)

/-- Whether a text is that of an entry. -/
def isE (s : ByteArray) : Bool := decide (s.size = 16) && ((E0.putE (ino s) (name s)).toList == s.toList)

/-- What GetEntry tells. -/
def eIno (s : ByteArray) : Int := if isE s then ino s else 0
def eName (s : ByteArray) : ByteArray := if isE s then name s else ⟨#[]⟩

def getE (s : ByteArray) : Value := .tuple #[.agg #[.int .i64 (eIno s), .string (eName s)], .bool (isE s)]

theorem wf_of (n : Int) (h0 : -9223372036854775808 ≤ n) (h1 : n ≤ 9223372036854775807) : (Lit.int .i64 n).wf = true := by
  simp [Lit.wf, IntKind.min, IntKind.max, IntKind.signed, IntKind.bits]
  omega

theorem byteAt_lt (s : ByteArray) (i : Int) : 0 ≤ B1.byteAt s i ∧ B1.byteAt s i < 256 := by
  unfold B1.byteAt
  split
  · rename_i h
    have := (s[i.toNat]'(by omega)).toNat_lt
    omega
  · omega

theorem getE_no {s : ByteArray} (h : isE s = false) : getE s = .tuple #[.agg #[.int .i64 0, .string ⟨#[]⟩], .bool false] := by simp [getE, eIno, eName, h]
theorem getE_yes {s : ByteArray} (h : isE s = true) : getE s = .tuple #[.agg #[.int .i64 (ino s), .string (name s)], .bool true] := by simp [getE, eIno, eName, h]

/-- The two blocks of GetEntry: the answer's and the entry's own. -/
structure Two (w : World) (B : Nat) (a : Int) (b : ByteArray) (W : World) : Prop where
  n : K0.Blk w.heap.size [.int .i64 0, .string ⟨#[]⟩] W
  m : K0.Blk B [.int .i64 a, .string b] W
  ne : w.heap.size < B
  bel : Below w.heap.size w W

theorem Two.below {w W W' : World} {B : Nat} {a : Int} {b : ByteArray} (h : Two w B a b W) (hb : Below W.heap.size W W') : Two w B a b W' := ⟨h.n.below hb, h.m.below hb, h.ne, h.bel.trans (hb.mono (Nat.le_of_lt h.n.lt))⟩

theorem ret_val {v u : Value} (h : v = u) : Ending.returned v = .returned u := by rw [h]

end Go.Proofs.Ytnfcpcejfajcfaa.E4

/- Plain facts on reading a directory out of bytes. -/
namespace Go.Proofs.Ytnfcpcejfajcfaa.V0
open Go
set_option linter.unusedVariables false
set_option linter.unusedSimpArgs false

/-- The bytes of the entry at a place. -/
def chunk (s : ByteArray) (j : Nat) : ByteArray := B2.part s ((j : Int) * 16) 16

/-- The first entries that a text tells. -/
def ents (s : ByteArray) (k : Nat) : List T0.Ent := (List.range k).map fun (j : Nat) => (E4.eIno (chunk s j), E4.eName (chunk s j))

theorem ents_length (s : ByteArray) (k : Nat) : (ents s k).length = k := by simp [ents]
theorem ents_succ (s : ByteArray) (k : Nat) : ents s k ++ [(E4.eIno (chunk s k), E4.eName (chunk s k))] = ents s (k + 1) := by simp [ents, List.range_succ]
theorem ents_get (s : ByteArray) (k j : Nat) (h : j < k) : T0.ent (ents s k) j = (E4.eIno (chunk s j), E4.eName (chunk s j)) := by
  rw [T0.ent_get _ _ (by rw [ents_length]; exact h)]
  simp [ents]

/-- How many are read. -/
def cnt (s : ByteArray) : Nat := min ((s.size + 15) / 16) 13

/-- Whether a text is that of a directory. -/
def isD (s : ByteArray) : Bool := decide (s.size = 0) || ((T0.putD (ents s (cnt s))).toList == s.toList)

def dE (s : ByteArray) : List T0.Ent := if isD s then ents s (cnt s) else []

theorem toList_eq {a b : ByteArray} (h : a.toList = b.toList) : a = b := by
  rw [Lib.toList_data, Lib.toList_data] at h
  exact ByteArray.ext (Array.toList_inj.1 h)

theorem chunk_eq (s : ByteArray) (j : Nat) (h : (j + 1) * 16 ≤ s.size) : chunk s j = s.extract (j * 16) (j * 16 + 16) := by
  rw [chunk, B2.part, show B2.lies s.size ((j : Int) * 16) 16 = true from decide_eq_true (by omega), if_pos rfl, show ((j : Int) * 16).toNat = j * 16 by omega, show ((j : Int) * 16 + 16).toNat = j * 16 + 16 by omega]

theorem isE_eq {x : ByteArray} (h : E4.isE x = true) : E0.putE (E4.eIno x) (E4.eName x) = x := by
  have h2 := h
  simp only [E4.isE, Bool.and_eq_true, beq_iff_eq] at h2
  rw [E4.eIno, E4.eName, if_pos h, if_pos h]
  exact toList_eq h2.2

theorem not_isE {x : ByteArray} (h : E4.isE x = false) : E4.eIno x = 0 ∧ E4.eName x = ⟨#[]⟩ := by simp [E4.eIno, E4.eName, h]

theorem entryOk_zero : E0.entryOk 0 ⟨#[]⟩ = false := by
  rw [E0.entryOk, show B1.inB 0 1 7 = false from by decide, Bool.and_false]

theorem ext_join (s : ByteArray) (a b : Nat) (h1 : a ≤ b) (h2 : b ≤ s.size) : s.extract 0 a ++ s.extract a b = s.extract 0 b := by
  apply ByteArray.ext
  apply Array.toList_inj.1
  simp only [ByteArray.data_append, Array.toList_append, Lib.extract_data, List.drop_zero, Nat.sub_zero]
  rw [← List.take_add, show a + (b - a) = b by omega]

/-- Where all chunks are entries' the entries' bytes are the text's. -/
theorem joined_ext (s : ByteArray) (n : Nat) (hE : ∀ j, j < n → E4.isE (chunk s j) = true) : ∀ k, k ≤ n → k * 16 ≤ s.size → T0.joined (ents s n) k = s.extract 0 (k * 16)
  | 0, _, _ => by
    apply ByteArray.ext
    simp [T0.joined]
  | k + 1, hk, hs => by
    rw [T0.joined, joined_ext s n hE k (by omega) (by omega), ents_get s n k (by omega), isE_eq (hE k (by omega)), chunk_eq s k (by omega), ext_join s _ _ (by omega) (by omega), show k * 16 + 16 = (k + 1) * 16 by omega]

theorem ext_all (s : ByteArray) : s.extract 0 s.size = s := by
  apply ByteArray.ext
  apply Array.toList_inj.1
  rw [Lib.extract_data]
  simp only [List.drop_zero, Nat.sub_zero]
  exact List.take_of_length_le (by rw [← Lib.size_eq]; exact Nat.le_refl _)

/-- What the program asks for is what the specification asks for. -/
theorem isD_of {s : ByteArray} (h1 : s.size ≤ 192) (h2 : s.size % 16 = 0) (hE : ∀ j, j < s.size / 16 → E4.isE (chunk s j) = true) (hD : T0.dirOk (ents s (s.size / 16)) = true) : isD s = true ∧ cnt s = s.size / 16 := by
  have hc : cnt s = s.size / 16 := by unfold cnt; omega
  refine ⟨?_, hc⟩
  rw [isD, hc]
  have : T0.putD (ents s (s.size / 16)) = s := by
    rw [T0.putD, if_pos hD, ents_length, joined_ext s _ hE _ (Nat.le_refl _) (by omega), show s.size / 16 * 16 = s.size by omega]
    exact ext_all s
  rw [this]
  simp

theorem of_isD {s : ByteArray} (h : isD s = true) : s.size ≤ 192 ∧ s.size % 16 = 0 ∧ cnt s = s.size / 16 ∧ (∀ j, j < s.size / 16 → E4.isE (chunk s j) = true) ∧ T0.dirOk (ents s (s.size / 16)) = true := by
  by_cases h0 : s.size = 0
  · refine ⟨by omega, by omega, by unfold cnt; omega, fun j hj => by omega, ?_⟩
    rw [h0]
    rfl
  · rw [isD, decide_eq_false h0, Bool.false_or] at h
    have he : T0.putD (ents s (cnt s)) = s := toList_eq (by simpa using h)
    have hD : T0.dirOk (ents s (cnt s)) = true := by
      cases hb : T0.dirOk (ents s (cnt s)) with
      | true => rfl
      | false =>
        rw [T0.putD, hb] at he
        have := congrArg ByteArray.size he
        exact absurd this.symm h0
    have hd := hD
    simp only [T0.dirOk, Bool.and_eq_true, decide_eq_true_eq] at hd
    rw [ents_length] at hd
    have hsz : s.size = 16 * cnt s := by
      have := T0.joined_size hd.2 (cnt s) (Nat.le_refl _)
      rw [T0.putD, if_pos hD, ents_length] at he
      rw [he] at this
      exact this
    have hc : cnt s = s.size / 16 := by omega
    rw [← hc]
    refine ⟨by omega, by omega, rfl, fun j hj => ?_, hD⟩
    cases hb : E4.isE (chunk s j) with
    | true => rfl
    | false =>
      have h1 := (T0.okAt_entry (T0.okUpto_at hd.2 hj)).1
      rw [ents_get s _ j hj, (not_isE hb).1, (not_isE hb).2, entryOk_zero] at h1
      cases h1
end Go.Proofs.Ytnfcpcejfajcfaa.V0

/- Plain facts on an inode as bytes. -/
namespace Go.Proofs.Ytnfcpcejfajcfaa.R0
open Go
set_option linter.unusedVariables false
set_option linter.unusedSimpArgs false

/-- Pages as a byte each. -/
def pg (zs : List Int) : ByteArray := ⟨(zs.map fun z => UInt8.ofNat z.toNat).toArray⟩

theorem pg_size (zs : List Int) : (pg zs).size = zs.length := by simp [pg, ByteArray.size]
theorem pg_nil : pg [] = ⟨#[]⟩ := rfl
theorem pg_snoc (zs : List Int) (k : Nat) (h : k < zs.length) : pg (zs.take k) ++ ⟨#[UInt8.ofNat (zs.getD k 0).toNat]⟩ = pg (zs.take (k + 1)) := by
  apply ByteArray.ext
  rw [ByteArray.data_append]
  apply Array.toList_inj.1
  simp only [pg, Array.toList_append, List.take_succ_eq_append_getElem h, List.map_append, List.map_cons, List.map_nil, P0.getD_get zs k h]

/-- Kind and owner. -/
def two (k o : Int) : ByteArray := ⟨#[UInt8.ofNat k.toNat, UInt8.ofNat o.toNat]⟩

theorem two_size (k o : Int) : (two k o).size = 2 := rfl

/-- What stands ahead of the zeros. -/
def head (k o s : Int) (zs : List Int) : ByteArray := two k o ++ B3.pair s ++ pg zs

/-- An inode as bytes; none where it is not right. -/
def putI (k o s : Int) (zs : List Int) : ByteArray := if I0.ok k o s zs then head k o s zs ++ B4.nulls (12 - zs.length) else ⟨#[]⟩

theorem pair_size (s : Int) (h0 : 0 ≤ s) (h1 : s ≤ 65535) : (B3.pair s).size = 2 := by
  rw [B3.pair, show B1.inB s 0 65535 = true from decide_eq_true ⟨h0, h1⟩]
  rfl

/-- Bounds of what is right. -/
theorem ok_bounds {k o s : Int} {zs : List Int} (h : I0.ok k o s zs = true) : (0 ≤ k ∧ k ≤ 2) ∧ (0 ≤ o ∧ o ≤ 9) ∧ (0 ≤ s ∧ s ≤ 192) ∧ zs.length ≤ 6 ∧ (zs.length : Int) = P0.need s ∧ P0.pagesOk zs = true := by
  have hh : ∀ {o s : Int} {zs : List Int}, I0.holds o s zs = true → (0 ≤ o ∧ o ≤ 9) ∧ (0 ≤ s ∧ s ≤ 192) ∧ zs.length ≤ 6 ∧ (zs.length : Int) = P0.need s ∧ P0.pagesOk zs = true := by
    intro o s zs h
    simp only [I0.holds, Bool.and_eq_true, decide_eq_true_eq] at h
    have h1 := B1.inB_true h.1
    have h2 := B1.inB_true h.2.1
    have h3 := h.2.2.1
    refine ⟨h1, h2, ?_, h3, h.2.2.2⟩
    unfold P0.need at h3
    omega
  unfold I0.ok at h
  split at h
  · rename_i e
    simp only [I0.free, Bool.and_eq_true, decide_eq_true_eq] at h
    have hz : zs = [] := List.eq_nil_of_length_eq_zero h.2.2
    refine ⟨by omega, by omega, by omega, by omega, ?_, ?_⟩
    · rw [h.2.1, h.2.2]; decide
    · rw [hz]; rfl
  · split at h
    · rename_i e
      exact ⟨by omega, hh h⟩
    · split at h
      · rename_i e
        simp only [Bool.and_eq_true] at h
        exact ⟨by omega, hh h.1⟩
      · cases h

theorem pages_bounds {zs : List Int} (h : P0.pagesOk zs = true) {k : Nat} (hk : k < zs.length) : 5 ≤ zs.getD k 0 ∧ zs.getD k 0 ≤ 23 := by
  have h1 : P0.okAt zs k = true := by
    cases hb : P0.okAt zs k with
    | true => rfl
    | false => rw [P0.pagesOk, P0.okUpto_bad hk hb] at h; cases h
  simp only [P0.okAt, Bool.and_eq_true] at h1
  exact B1.inB_true h1.1

theorem head_size (k o s : Int) (zs : List Int) (h0 : 0 ≤ s) (h1 : s ≤ 65535) : (head k o s zs).size = 4 + zs.length := by
  rw [head, ByteArray.size_append, ByteArray.size_append, two_size, pair_size s h0 h1, pg_size]

theorem putI_size (k o s : Int) (zs : List Int) : (putI k o s zs).size ≤ 16 := by
  unfold putI
  split
  · rename_i h
    obtain ⟨_, _, hs, hl, _⟩ := ok_bounds h
    rw [ByteArray.size_append, head_size _ _ _ _ (by omega) (by omega), B4.nulls_size]
    omega
  · exact Nat.zero_le _
end Go.Proofs.Ytnfcpcejfajcfaa.R0

/- Contracts of spec.PairAt and impl.PairAt, as the given laws call them. -/
namespace Go.Proofs.Ytnfcpcejfajcfaa.B6
open Go.ChangeShapes Go.WideShapes Go.ChangeAt Go.RowKit
set_option linter.unusedVariables false

/-- The number whose two bytes stand from a place on, the low one first; 0 where there are not two. -/
def pairAt (s : ByteArray) (i : Int) : Int := if h : 0 ≤ i ∧ i + 1 < s.size then (s[i.toNat]'(by omega)).toNat + 256 * (s[(i + 1).toNat]'(by omega)).toNat else 0

end Go.Proofs.Ytnfcpcejfajcfaa.B6

/- Plain facts on reading an inode out of bytes. -/
namespace Go.Proofs.Ytnfcpcejfajcfaa.G0
open Go
set_option linter.unusedVariables false
set_option linter.unusedSimpArgs false

/-- How many pages are read: as many as the size asks for, no more than twelve. -/
def cnt (s : ByteArray) : Nat := min (P0.need (B6.pairAt s 2)).toNat 12

/-- The first pages that stand in a record. -/
def pgs (s : ByteArray) (k : Nat) : List Int := (List.range k).map fun (j : Nat) => B1.byteAt s (4 + (j : Int))

theorem pgs_length (s : ByteArray) (k : Nat) : (pgs s k).length = k := by simp [pgs]
theorem pgs_succ (s : ByteArray) (k : Nat) : pgs s k ++ [B1.byteAt s (4 + (k : Int))] = pgs s (k + 1) := by simp [pgs, List.range_succ]

/-- The bytes of the inode that a text would tell. -/
def txt (s : ByteArray) : ByteArray := R0.putI (B1.byteAt s 0) (B1.byteAt s 1) (B6.pairAt s 2) (pgs s (cnt s))

/-- Whether a text is that of an inode. -/
def isI (s : ByteArray) : Bool := decide (s.size = 16) && ((txt s).toList == s.toList)

def gK (s : ByteArray) : Int := if isI s then B1.byteAt s 0 else 0
def gO (s : ByteArray) : Int := if isI s then B1.byteAt s 1 else 0
def gS (s : ByteArray) : Int := if isI s then B6.pairAt s 2 else 0
def gZ (s : ByteArray) : List Int := if isI s then pgs s (cnt s) else []

theorem pairAt_lt (s : ByteArray) (i : Int) : 0 ≤ B6.pairAt s i ∧ B6.pairAt s i ≤ 65535 := by
  unfold B6.pairAt
  split
  · rename_i h
    have h1 := (s[i.toNat]'(by omega)).toNat_lt
    have h2 := (s[(i + 1).toNat]'(by omega)).toNat_lt
    omega
  · omega

theorem need_nonneg {x : Int} (h : 0 ≤ x) : 0 ≤ P0.need x := by unfold P0.need; omega

theorem cnt_le (s : ByteArray) : cnt s ≤ 12 := Nat.min_le_right _ _

theorem cnt_lt (s : ByteArray) (k : Nat) : k < cnt s ↔ (k : Int) < P0.need (B6.pairAt s 2) ∧ k < 12 := by
  have := need_nonneg (pairAt_lt s 2).1
  unfold cnt
  omega

/-- Where the text is an inode's the inode is right. -/
theorem isI_ok {s : ByteArray} (h : isI s = true) : s.size = 16 ∧ (txt s).toList = s.toList ∧ I0.ok (B1.byteAt s 0) (B1.byteAt s 1) (B6.pairAt s 2) (pgs s (cnt s)) = true := by
  simp only [isI, Bool.and_eq_true, decide_eq_true_eq, beq_iff_eq] at h
  refine ⟨h.1, h.2, ?_⟩
  cases hok : I0.ok (B1.byteAt s 0) (B1.byteAt s 1) (B6.pairAt s 2) (pgs s (cnt s)) with
  | true => rfl
  | false =>
    have h2 := h.2
    rw [txt, R0.putI, hok, if_neg (by decide)] at h2
    have h3 := congrArg List.length h2
    rw [Lib.toList_data, Lib.toList_data, ← Lib.size_eq, ← Lib.size_eq] at h3
    rw [h.1] at h3
    exact absurd h3 (by decide)

theorem isI_of {s : ByteArray} (h16 : s.size = 16) (h : ((txt s).toList == s.toList) = true) : isI s = true := by rw [isI, decide_eq_true h16, h]; rfl
theorem isI_not {s : ByteArray} (h : ((txt s).toList == s.toList) = false) : isI s = false := by rw [isI, h, Bool.and_false]
theorem isI_no {s : ByteArray} (h : ¬ s.size = 16) : isI s = false := by rw [isI, decide_eq_false h, Bool.false_and]
theorem isI_bad {s : ByteArray} (h : I0.ok (B1.byteAt s 0) (B1.byteAt s 1) (B6.pairAt s 2) (pgs s (cnt s)) = false) : isI s = false := by
  cases hi : isI s with
  | false => rfl
  | true => rw [(isI_ok hi).2.2] at h; cases h

theorem g_no {s : ByteArray} (h : isI s = false) : gK s = 0 ∧ gO s = 0 ∧ gS s = 0 ∧ gZ s = [] := by simp [gK, gO, gS, gZ, h]
theorem g_yes {s : ByteArray} (h : isI s = true) : gK s = B1.byteAt s 0 ∧ gO s = B1.byteAt s 1 ∧ gS s = B6.pairAt s 2 ∧ gZ s = pgs s (cnt s) := by simp [gK, gO, gS, gZ, h]
end Go.Proofs.Ytnfcpcejfajcfaa.G0

/- Contracts of spec.RecAt and impl.RecAt, as the given laws call them. -/
namespace Go.Proofs.Ytnfcpcejfajcfaa.L1
open Go.ChangeShapes Go.WideShapes Go.ChangeAt Go.RowKit
set_option linter.unusedVariables false

/-- The place of the record of an inode; -1 where there is none. -/
def recAt (i : Int) : Int := if B1.inB i 0 7 then 32 + i * 16 else -1

end Go.Proofs.Ytnfcpcejfajcfaa.L1

/- Plain facts on what Load tells. -/
namespace Go.Proofs.Ytnfcpcejfajcfaa.O0
open Go
set_option linter.unusedVariables false
set_option linter.unusedSimpArgs false

/-- The record of an inode in a memory. -/
def recd (mem : ByteArray) (i : Int) : ByteArray := B2.part mem (L1.recAt i) 16

/-- The first pages' bytes. -/
def joined (mem : ByteArray) (zs : List Int) : Nat → ByteArray
  | 0 => ⟨#[]⟩
  | k + 1 => joined mem zs k ++ B2.part mem (zs.getD k 0 * 32) 32

theorem page_size {mem : ByteArray} (hm : mem.size = 768) {z : Int} (h0 : 5 ≤ z) (h1 : z ≤ 23) : (B2.part mem (z * 32) 32).size = 32 := by
  rw [B2.part, show B2.lies mem.size (z * 32) 32 = true from decide_eq_true (by omega), if_pos rfl, ByteArray.size_extract]
  omega

theorem joined_size {mem : ByteArray} (hm : mem.size = 768) {zs : List Int} (hp : P0.pagesOk zs = true) : ∀ k, k ≤ zs.length → (joined mem zs k).size = 32 * k
  | 0, _ => rfl
  | k + 1, h => by
    have hz := R0.pages_bounds hp (k := k) (by omega)
    rw [joined, ByteArray.size_append, joined_size hm hp k (by omega), page_size hm hz.1 hz.2]
    omega

/-- Whether there is an inode to load. -/
def isL (mem : ByteArray) (i : Int) : Bool := decide (mem.size = 768) && (G0.isI (recd mem i) && !decide (B1.byteAt (recd mem i) 0 = 0))

def lK (mem : ByteArray) (i : Int) : Int := if isL mem i then G0.gK (recd mem i) else 0
def lO (mem : ByteArray) (i : Int) : Int := if isL mem i then G0.gO (recd mem i) else 0
def lS (mem : ByteArray) (i : Int) : Int := if isL mem i then G0.gS (recd mem i) else 0
def lZ (mem : ByteArray) (i : Int) : List Int := if isL mem i then G0.gZ (recd mem i) else []
def lD (mem : ByteArray) (i : Int) : ByteArray := if isL mem i then (joined mem (G0.gZ (recd mem i)) (G0.gZ (recd mem i)).length).extract 0 (G0.gS (recd mem i)).toNat else ⟨#[]⟩

theorem l_no {mem : ByteArray} {i : Int} (h : isL mem i = false) : lK mem i = 0 ∧ lO mem i = 0 ∧ lS mem i = 0 ∧ lZ mem i = [] ∧ lD mem i = ⟨#[]⟩ := by simp [lK, lO, lS, lZ, lD, h]
theorem l_yes {mem : ByteArray} {i : Int} (h : isL mem i = true) : lK mem i = G0.gK (recd mem i) ∧ lO mem i = G0.gO (recd mem i) ∧ lS mem i = G0.gS (recd mem i) ∧ lZ mem i = G0.gZ (recd mem i) ∧ lD mem i = (joined mem (G0.gZ (recd mem i)) (G0.gZ (recd mem i)).length).extract 0 (G0.gS (recd mem i)).toNat := by simp [lK, lO, lS, lZ, lD, h]

theorem isL_size {mem : ByteArray} {i : Int} (h : ¬ mem.size = 768) : isL mem i = false := by rw [isL, decide_eq_false h, Bool.false_and]
theorem isL_rec {mem : ByteArray} {i : Int} (h : G0.isI (recd mem i) = false) : isL mem i = false := by rw [isL, h, Bool.false_and, Bool.and_false]
theorem isL_free {mem : ByteArray} {i : Int} (h : B1.byteAt (recd mem i) 0 = 0) : isL mem i = false := by rw [isL, decide_eq_true h, Bool.not_true, Bool.and_false, Bool.and_false]
theorem isL_of {mem : ByteArray} {i : Int} (h1 : mem.size = 768) (h2 : G0.isI (recd mem i) = true) (h3 : ¬ B1.byteAt (recd mem i) 0 = 0) : isL mem i = true := by rw [isL, decide_eq_true h1, h2, decide_eq_false h3]; rfl

theorem recd_size (mem : ByteArray) (i : Int) (h : mem.size ≤ 281474976710656) : (recd mem i).size ≤ 281474976710656 := by
  have := B2.part_size mem (L1.recAt i) 16
  unfold recd
  omega

/-- The inode that is loaded: its numbers. -/
theorem got {s : ByteArray} (h : G0.isI s = true) : (0 ≤ G0.gS s ∧ G0.gS s ≤ 192) ∧ (G0.gZ s).length ≤ 6 ∧ G0.gS s ≤ 32 * ((G0.gZ s).length : Int) ∧ P0.pagesOk (G0.gZ s) = true ∧ (0 ≤ G0.gK s ∧ G0.gK s ≤ 2) := by
  have hb := R0.ok_bounds (G0.isI_ok h).2.2
  obtain ⟨e1, e2, e3, e4⟩ := G0.g_yes h
  rw [e1, e3, e4]
  refine ⟨hb.2.2.1, hb.2.2.2.1, ?_, hb.2.2.2.2.2, hb.1⟩
  rw [hb.2.2.2.2.1]
  unfold P0.need
  omega

theorem cut (t : ByteArray) (m : Nat) (h : m ≤ t.size) : t.extract 0 m ++ t.extract m t.size = t := by
  apply ByteArray.ext
  apply Array.toList_inj.1
  simp only [ByteArray.data_append, Array.toList_append, Lib.extract_data, List.drop_zero, Nat.sub_zero]
  have : (t.data.toList.drop m).take (t.size - m) = t.data.toList.drop m := List.take_of_length_le (by rw [List.length_drop, ← Lib.size_eq]; exact Nat.le_refl _)
  rw [this, List.take_append_drop]
end Go.Proofs.Ytnfcpcejfajcfaa.O0
