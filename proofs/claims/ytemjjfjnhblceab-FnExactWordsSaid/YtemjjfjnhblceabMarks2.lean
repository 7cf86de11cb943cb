/- Contracts of laws.markStringS and laws.heldStringS, as the given laws call them. -/
import Derived.Test.YtemjjfjnhblceabMarks1
namespace Go.Proofs.Ytemjjfjnhblceab.M1
open Go.ChangeShapes Go.WideShapes Go.ChangeAt Go.RowKit
set_option linter.unusedVariables false

/-- The marks from a number on. -/
def marks (k n : Nat) : List ByteArray := (List.range n).map fun j => mt (k + j)

theorem marks_length (k n : Nat) : (marks k n).length = n := by simp [marks]
theorem marks_get (k n j : Nat) (h : j < (marks k n).length) : (marks k n)[j] = mt (k + j) := by simp [marks]

/-- A world in which only one row, and what is new, may be other. -/
theorem grown_refl (w : World) (row : Option Nat) : w.grownBy w row := ⟨rfl, rfl, rfl, Nat.le_refl _, fun _ _ _ => rfl⟩

theorem grown_below {w w1 w2 : World} {row : Option Nat} (h : w.grownBy w1 row) (hb : Below w1.heap.size w1 w2) : w.grownBy w2 row :=
  ⟨hb.os.trans h.os, hb.tape.trans h.tape, hb.output.trans h.output, Nat.le_trans h.size hb.size, fun k hk hr => by
    rw [hb.block k (Nat.lt_of_lt_of_le hk h.size)]
    exact h.block k hk hr⟩

theorem grown_set {w w1 : World} {g j : Nat} (h : w.grownBy w1 (some g)) (v : Value) : w.grownBy (w1.setCell ⟨g, j, none⟩ v) (some g) := by
  refine ⟨h.os, h.tape, h.output, ?_, fun k hk hr => ?_⟩
  · simpa using h.size
  · have hne : k ≠ g := fun e => hr (by rw [e])
    rw [← h.block k hk hr]
    exact Below.heap_setCell w1 ⟨g, j, none⟩ v k hne

theorem after_call {w w4 : World} {g n k : Nat} (hgl : g < w.heap.size) (hb : Below w.heap.size w w4) (hcs : ∀ j, j < n → (w.cell? ⟨g, j, none⟩).isSome = true) (hfs : ∀ j, j < n → w.frozen? ⟨g, j, none⟩ = false)
    (hdone : ∀ j, j < k → w.cell? ⟨g, j, none⟩ = some (.string (mt (1 + j)))) (hlt : k < n) :
    (∃ u, w4.cell? ⟨g, k, none⟩ = some u) ∧ w4.frozen? ⟨g, k, none⟩ = false ∧ Hid ((∀ j, j < n → (w4.cell? ⟨g, j, none⟩).isSome = true) ∧ (∀ j, j < n → w4.frozen? ⟨g, j, none⟩ = false) ∧ (∀ j, j < k → w4.cell? ⟨g, j, none⟩ = some (.string (mt (1 + j))))) := by
  have c : ∀ j, w4.cell? ⟨g, j, none⟩ = w.cell? ⟨g, j, none⟩ := fun j => hb.cell (p := ⟨g, j, none⟩) hgl
  have f : ∀ j, w4.frozen? ⟨g, j, none⟩ = w.frozen? ⟨g, j, none⟩ := fun j => hb.frozen (p := ⟨g, j, none⟩) hgl
  refine ⟨?_, ?_, ?_⟩
  · rw [c]; exact Option.isSome_iff_exists.1 (hcs k hlt)
  · rw [f]; exact hfs k hlt
  · exact ⟨fun j hj => by rw [c]; exact hcs j hj, fun j hj => by rw [f]; exact hfs j hj, fun j hj => by rw [c]; exact hdone j hj⟩

theorem markS (n g cap : Nat) (w : World) (hg : g < w.heap.size) (hc : ∀ j, j < n → (w.cell? ⟨g, j, none⟩).isSome = true) (hf : ∀ j, j < n → w.frozen? ⟨g, j, none⟩ = false) (hn : n ≤ 281474976710656) :
    Calls Try.prog 10 #[.slice (some ⟨g, 0, none⟩) n cap, .int .i64 1] w fun e w' => e = .returned (.int .i64 ((1 + n : Nat) : Int)) ∧ w.grownBy w' (some g) ∧ W0.Row w' g (marks 1 n) := by
  go_enter Try.func10, Try.ntmps10
  go_wp2
  go_loopw [1, 5] (fun q i w' => ∃ k : Nat, k ≤ n ∧ i = .int .i64 k ∧ q = .int .i64 ((1 + k : Nat) : Int) ∧ w.grownBy w' (some g) ∧ (∀ j, j < k → w'.cell? ⟨g, j, none⟩ = some (.string (mt (1 + j)))) ∧ (∀ j, j < n → (w'.cell? ⟨g, j, none⟩).isSome = true) ∧ (∀ j, j < n → w'.frozen? ⟨g, j, none⟩ = false)) (fun _ i _ => n - (intOf i).toNat)
  case atStart => exact ⟨0, Nat.zero_le _, rfl, rfl, grown_refl _ _, fun j hj => absurd hj (Nat.not_lt_zero _), hc, hf⟩
  case round =>
    obtain ⟨k, hk, rfl, rfl, hgr, hdone, hcs, hfs⟩ := hrel
    have hgl : g < wr.heap.size := Nat.lt_of_lt_of_le hg hgr.size
    by_cases hlt : k < n
    · have e1 : (0 : Int) ≤ (k : Int) := by omega
      have e2 : (k : Int) < (n : Int) := by omega
      go_wp2_with (go_at_call 14; refine (markText_any (1 + k) (by omega) (by omega) _).mono ?_; rintro e w4 ⟨rfl, hb4⟩; obtain ⟨hu4, hf4, hall4⟩ := after_call hgl hb4 hcs hfs hdone hlt; obtain ⟨u4, hu4⟩ := hu4)
      go_roundw
      case rel =>
        obtain ⟨a1, a2, a3⟩ := hall4.out
        refine ⟨k + 1, by omega, by go_num, by go_num, grown_set (grown_below hgr hb4) _, fun j hj => ?_, fun j hj => ?_, fun j hj => ?_⟩
        · by_cases e : j = k
          · subst e
            exact World.cell?_setCell_same _ _ _ hu4
          · rw [World.cell?_setCell_other _ _ _ _ (fun h => e (Addr.mk.inj h).2.1.symm)]
            exact a3 j (by omega)
        · by_cases e : j = k
          · subst e
            rw [World.cell?_setCell_same _ _ _ hu4]
            rfl
          · rw [World.cell?_setCell_other _ _ _ _ (fun h => e (Addr.mk.inj h).2.1.symm)]
            exact a1 j hj
        · rw [World.frozen?_setCell]
          exact a2 j hj
      case measure => simp [intOf]; omega
    · obtain rfl : k = n := by omega
      go_wp2
      go_ret
      exact ⟨rfl, hgr, ⟨hgl, fun j hj => by rw [marks_get]; exact hdone j (by simpa [marks] using hj), fun j hj => hfs j (by simpa [marks] using hj)⟩⟩

theorem heldS (n g cap : Nat) (w : World) (hrow : W0.Row w g (marks 1 n)) (hn : n ≤ 281474976710656) :
    Calls Try.prog 11 #[.slice (some ⟨g, 0, none⟩) n cap, .int .i64 1] w fun e w' => e = .returned (.int .i64 ((1 + n : Nat) : Int)) ∧ Below w.heap.size w w' := by
  have hg := hrow.lt
  go_enter Try.func11, Try.ntmps11
  go_wp2
  go_loopw [1, 5] (fun q i w' => ∃ k : Nat, k ≤ n ∧ i = .int .i64 k ∧ q = .int .i64 ((1 + k : Nat) : Int) ∧ Below w.heap.size w w') (fun _ i _ => n - (intOf i).toNat)
  case atStart => exact ⟨0, Nat.zero_le _, rfl, rfl, Below.refl _ _⟩
  case round =>
    obtain ⟨k, hk, rfl, rfl, hbel⟩ := hrel
    have hB := hbel.size
    by_cases hlt : k < n
    · have e1 : (0 : Int) ≤ (k : Int) := by omega
      have e2 : (k : Int) < (n : Int) := by omega
      have x1 : wr.cell? ⟨g, k, none⟩ = some (.string (mt (1 + k))) := (hbel.cell (p := ⟨g, k, none⟩) hg).trans (by rw [hrow.cell k (by rw [marks_length]; exact hlt), marks_get])
      have hgl : g < wr.heap.size := Nat.lt_of_lt_of_le hg hB
      go_wp2
      go_region_with (go_at_call 14; refine (markText_any (1 + k) (by omega) (by omega) _).mono ?_; rintro e w4 ⟨rfl, hb4⟩; have x4 := (hb4.cell (p := ⟨g, k, none⟩) hgl).trans x1)
      all_goals
        go_wp2
        go_roundw
        case rel => exact ⟨k + 1, by omega, by go_num, by go_num, hbel.trans ((show Below wr.heap.size wr w4 from ⟨hb4.os, hb4.tape, hb4.output, hb4.size, hb4.block⟩).mono hB)⟩
        case measure => simp [intOf]; omega
    · obtain rfl : k = n := by omega
      go_wp2
      go_ret
      exact ⟨rfl, hbel⟩
end Go.Proofs.Ytemjjfjnhblceab.M1
