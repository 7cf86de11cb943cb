/- Contracts of laws.markIntS, laws.heldIntS, laws.markInode and laws.heldInode, as the given laws call them. -/
import Derived.Test.YtjajclifjojblaaDoorIB0
namespace Go.Proofs.YtjajclifjojblaaDoor.M0
open Go.ChangeShapes Go.WideShapes Go.ChangeAt Go.RowKit
set_option linter.unusedVariables false
set_option linter.unusedSimpArgs false
set_option maxRecDepth 10000

open I0 (val vals)
open I2 (ints)

/-- The marks 1, 2, .. -/
def marks (n : Nat) : List Int := (List.range n).map fun (j : Nat) => ((1 + j : Nat) : Int)

theorem marks_length (n : Nat) : (marks n).length = n := by simp [marks]

/-- The row while it is being marked. -/
def part (vs : List Value) (k : Nat) : List Value := ints (marks k) ++ vs.drop k

theorem part_zero (vs : List Value) : part vs 0 = vs := by simp [part, marks]
theorem part_all (vs : List Value) : part vs vs.length = ints (marks vs.length) := by simp [part]
theorem part_length (vs : List Value) (k : Nat) (h : k ≤ vs.length) : (part vs k).length = vs.length := by simp [part, marks]; omega
theorem part_succ (vs : List Value) (k : Nat) (h : k < vs.length) : (part vs k).set k (.int .i64 ((1 + k : Nat) : Int)) = part vs (k + 1) := by
  unfold part
  have e : vs.drop k = vs[k] :: vs.drop (k + 1) := List.drop_eq_getElem_cons h
  have hl : (ints (marks k)).length = k := by simp [marks]
  rw [e, List.set_append_right _ _ (by omega), hl, Nat.sub_self, List.set_cons_zero]
  simp [marks, List.range_succ]

theorem marks_get (n k : Nat) (h : k < n) : (ints (marks n))[k]'(by simp [marks]; exact h) = .int .i64 ((1 + k : Nat) : Int) := by simp [marks]

theorem grown_refl (w : World) (row : Option Nat) : w.grownBy w row := ⟨rfl, rfl, rfl, Nat.le_refl _, fun _ _ _ => rfl⟩
theorem grown_set {w w1 : World} {g j : Nat} (h : w.grownBy w1 (some g)) (v : Value) : w.grownBy (w1.setCell ⟨g, j, none⟩ v) (some g) := by
  refine ⟨h.os, h.tape, h.output, ?_, fun k hk hr => ?_⟩
  · simpa using h.size
  · have hne : k ≠ g := fun e => hr (by rw [e])
    rw [← h.block k hk hr]
    exact Below.heap_setCell w1 ⟨g, j, none⟩ v k hne
theorem grown_alloc {w w' : World} {o : Obj} {row : Option Nat} (h : (w.alloc o).grownBy w' row) : w.grownBy w' row :=
  ⟨h.os, h.tape, h.output, Nat.le_trans (by simp) h.size, fun k hk hr => by
    rw [h.block k (by simp; omega) hr]
    exact ((Below.refl w.heap.size w).alloc (Nat.le_refl _) o).block k hk⟩

theorem blk_grown {B g : Nat} {vs : List Value} {w w' : World} (h : K0.Blk B vs w) (hg : w.grownBy w' (some g)) (hne : B ≠ g) : K0.Blk B vs w' := by
  have hb : w'.heap[B]? = w.heap[B]? := hg.block B h.lt (fun e => hne (Option.some.inj e))
  refine ⟨fun j hj => ?_, fun j hj => ?_, Nat.lt_of_lt_of_le h.lt hg.size⟩
  · rw [World.cell?_of_block (a := ⟨B, j, none⟩) hb]
    exact h.cell j hj
  · rw [World.frozen?_of_block (a := ⟨B, j, none⟩) hb]
    exact h.free j hj

theorem markIntS (g c : Nat) (vs : List Value) (w : World) (hn : vs.length ≤ 1048576) (hb : K0.Blk g vs w) :
    Calls Tryd.prog 24 #[.slice (some ⟨g, 0, none⟩) vs.length c, .int .i64 1] w fun e w' => e = .returned (.int .i64 ((1 + vs.length : Nat) : Int)) ∧ K0.Blk g (ints (marks vs.length)) w' ∧ w.grownBy w' (some g) := by
  go_enter Tryd.func24, Tryd.ntmps24
  go_wp2
  go_loopw [1, 5] (fun q i w' => ∃ k : Nat, k ≤ vs.length ∧ i = .int .i64 k ∧ q = .int .i64 ((1 + k : Nat) : Int) ∧ K0.Blk g (part vs k) w' ∧ w.grownBy w' (some g)) (fun _ i _ => vs.length - (intOf i).toNat)
  case atStart => exact ⟨0, Nat.zero_le _, rfl, rfl, by rw [part_zero]; exact hb, grown_refl _ _⟩
  case round =>
    obtain ⟨k, hk, rfl, rfl, hblk, hgr⟩ := hrel
    by_cases hlt : k < vs.length
    · have e1 : (0 : Int) ≤ (k : Int) := by omega
      have e2 : (k : Int) < (vs.length : Int) := by omega
      have x2 := hblk.cell k (by rw [part_length _ _ hk]; exact hlt)
      have x3 := hblk.free k (by rw [part_length _ _ hk]; exact hlt)
      obtain ⟨u, x4⟩ : ∃ u, wr.cell? ⟨g, k, none⟩ = some u := ⟨_, x2⟩
      have HB : Hid (K0.Blk g (part vs (k + 1)) (wr.setCell ⟨g, k, none⟩ (.int .i64 ((1 + k : Nat) : Int)))) := by rw [← part_succ vs k hlt]; exact hblk.set k _
      clear x2 hblk hb
      go_wp2
      go_roundw
      case rel => exact ⟨k + 1, by omega, by go_num, by go_num, HB.out, grown_set hgr _⟩
      case measure => simp [intOf]; omega
    · obtain rfl : k = vs.length := by omega
      rw [part_all] at hblk
      clear hb
      go_wp2
      go_ret
      exact ⟨rfl, hblk, hgr⟩

theorem markNone (a : Option Addr) (c : Nat) (w : World) :
    Calls Tryd.prog 24 #[.slice a 0 c, .int .i64 1] w fun e w' => e = .returned (.int .i64 1) ∧ w' = w := by
  go_enter Tryd.func24, Tryd.ntmps24
  go_wp2
  go_loop [1, 5] (fun q i => i = .int .i64 0 ∧ q = .int .i64 1) (fun _ _ => 0)
  case atStart => exact ⟨rfl, rfl⟩
  case round =>
    obtain ⟨rfl, rfl⟩ := hrel
    go_wp2
    go_ret
    exact ⟨rfl, rfl⟩

theorem heldIntS (g c n : Nat) (w : World) (hn : n ≤ 1048576) (hb : K0.Blk g (ints (marks n)) w) :
    Calls Tryd.prog 25 #[.slice (some ⟨g, 0, none⟩) n c, .int .i64 1] w fun e w' => e = .returned (.int .i64 ((1 + n : Nat) : Int)) ∧ w' = w := by
  go_enter Tryd.func25, Tryd.ntmps25
  go_wp2
  go_loop [1, 5] (fun q i => ∃ k : Nat, k ≤ n ∧ i = .int .i64 k ∧ q = .int .i64 ((1 + k : Nat) : Int)) (fun _ i => n - (intOf i).toNat)
  case atStart => exact ⟨0, Nat.zero_le _, rfl, rfl⟩
  case round =>
    obtain ⟨k, hk, rfl, rfl⟩ := hrel
    by_cases hlt : k < n
    · have e1 : (0 : Int) ≤ (k : Int) := by omega
      have e2 : (k : Int) < (n : Int) := by omega
      have x1 := hb.cell k (by simp [marks]; exact hlt)
      rw [marks_get n k hlt] at x1
      clear hb
      go_wp2
      go_round
      case rel => exact ⟨k + 1, by omega, by go_num, by go_num⟩
      case measure => simp [intOf]; omega
    · obtain rfl : k = n := by omega
      clear hb
      go_wp2
      go_ret
      exact ⟨rfl, rfl⟩

theorem heldNone (a : Option Addr) (c : Nat) (w : World) :
    Calls Tryd.prog 25 #[.slice a 0 c, .int .i64 1] w fun e w' => e = .returned (.int .i64 1) ∧ w' = w := by
  go_enter Tryd.func25, Tryd.ntmps25
  go_wp2
  go_loop [1, 5] (fun q i => i = .int .i64 0 ∧ q = .int .i64 1) (fun _ _ => 0)
  case atStart => exact ⟨rfl, rfl⟩
  case round =>
    obtain ⟨rfl, rfl⟩ := hrel
    go_wp2
    go_ret
    exact ⟨rfl, rfl⟩

end Go.Proofs.YtjajclifjojblaaDoor.M0
