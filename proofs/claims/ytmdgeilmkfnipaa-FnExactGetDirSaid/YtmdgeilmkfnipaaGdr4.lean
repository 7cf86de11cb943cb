/- Contracts of laws.markEntryS and laws.heldEntryS, as the given laws call them; two rows of entries that were handed out. -/
import Derived.Test.YtmdgeilmkfnipaaGdr1
import Derived.Test.YtmdgeilmkfnipaaMk0
import Derived.Test.YtmdgeilmkfnipaaMkT
namespace Go.Proofs.Ytmdgeilmkfnipaa.V4
open Go.ChangeShapes Go.WideShapes Go.ChangeAt Go.RowKit
set_option linter.unusedVariables false
set_option linter.unusedSimpArgs false
set_option maxRecDepth 10000

open M1 (mt)
open T5 (Mk)

/-- The marks of a row of entries. -/
def em (n : Nat) : List T0.Ent := (List.range n).map fun (j : Nat) => (((1 + 2 * j : Nat) : Int), mt (2 + 2 * j))

theorem em_length (n : Nat) : (em n).length = n := by simp [em]
theorem em_get (n j : Nat) (h : j < n) : T0.ent (em n) j = (((1 + 2 * j : Nat) : Int), mt (2 + 2 * j)) := by
  rw [T0.ent_get _ _ (by rw [em_length]; exact h)]
  simp [em]

theorem mText (x : Int) (v : Nat) (hx : x = (v : Int)) (hv : v ≠ 0) (hm : v ≤ 9223372036854775807) (w : World) :
    Calls Try.prog 94 #[.int .i64 x] w fun e w' => e = .returned (.string (mt v)) ∧ Below w.heap.size w w' := by
  subst hx
  exact M1.markText_any v hv hm w

variable {g n k : Nat} {es : List T0.Ent} {w W W' w4 : World}

theorem grown_below {w w1 w2 : World} {row : Option Nat} (h : w.grownBy w1 row) (hb : Below w1.heap.size w1 w2) : w.grownBy w2 row :=
  ⟨hb.os.trans h.os, hb.tape.trans h.tape, hb.output.trans h.output, Nat.le_trans h.size hb.size, fun k hk hr => by
    rw [hb.block k (Nat.lt_of_lt_of_le hk h.size)]
    exact h.block k hk hr⟩

theorem mk_grown {g2 : Nat} (h : Mk g n es k w) (hg : w.grownBy W' (some g2)) (hne : g ≠ g2) : Mk g n es k W' := by
  have hb : W'.heap[g]? = w.heap[g]? := hg.block g h.lt (fun e => hne (Option.some.inj e))
  have c : ∀ j, W'.cell? ⟨g, j, none⟩ = w.cell? ⟨g, j, none⟩ := fun j => World.cell?_of_block (a := ⟨g, j, none⟩) hb
  have f : ∀ j, W'.frozen? ⟨g, j, none⟩ = w.frozen? ⟨g, j, none⟩ := fun j => World.frozen?_of_block (a := ⟨g, j, none⟩) hb
  exact ⟨fun j hj => by rw [c, c]; exact h.done j hj, fun j hj => by rw [c]; exact h.there j hj, fun j hj => by rw [f]; exact h.free j hj, Nat.lt_of_lt_of_le h.lt hg.size⟩

theorem mid (h : Mk g n es k W) (hk : k < n) {u : Int} {v : ByteArray} (he : T0.ent es k = (u, v)) (b4 : Below (W.setCell ⟨g, k * 2, none⟩ (.int .i64 u)).heap.size (W.setCell ⟨g, k * 2, none⟩ (.int .i64 u)) w4) :
    (∃ x, w4.cell? ⟨g, k * 2 + 1, none⟩ = some x) ∧ w4.frozen? ⟨g, k * 2 + 1, none⟩ = false ∧ Hid (Mk g n es (k + 1) (w4.setCell ⟨g, k * 2 + 1, none⟩ (.string v))) := by
  have hl : g < (W.setCell ⟨g, k * 2, none⟩ (.int .i64 u)).heap.size := by
    have := h.lt
    simpa [World.setCell] using this
  have c : ∀ j, w4.cell? ⟨g, j, none⟩ = (W.setCell ⟨g, k * 2, none⟩ (.int .i64 u)).cell? ⟨g, j, none⟩ := fun j => b4.cell (p := ⟨g, j, none⟩) hl
  have f : ∀ j, w4.frozen? ⟨g, j, none⟩ = (W.setCell ⟨g, k * 2, none⟩ (.int .i64 u)).frozen? ⟨g, j, none⟩ := fun j => b4.frozen (p := ⟨g, j, none⟩) hl
  have S := h.step hk he
  obtain ⟨x, hx⟩ := Option.isSome_iff_exists.1 (T5.some_set (p := ⟨g, k * 2, none⟩) (v := .int .i64 u) (h.there (k * 2 + 1) (by omega)))
  have hx4 : w4.cell? ⟨g, k * 2 + 1, none⟩ = some x := (c _).trans hx
  have cc : ∀ j, (w4.setCell ⟨g, k * 2 + 1, none⟩ (.string v)).cell? ⟨g, j, none⟩ = ((W.setCell ⟨g, k * 2, none⟩ (.int .i64 u)).setCell ⟨g, k * 2 + 1, none⟩ (.string v)).cell? ⟨g, j, none⟩ := fun j => by
    by_cases e : (⟨g, k * 2 + 1, none⟩ : Addr) = ⟨g, j, none⟩
    · rw [← e, World.cell?_setCell_same _ _ _ hx4, World.cell?_setCell_same _ _ _ hx]
    · rw [World.cell?_setCell_other _ _ _ _ e, World.cell?_setCell_other _ _ _ _ e]
      exact c j
  refine ⟨⟨x, hx4⟩, ?_, ?_⟩
  · rw [f, World.frozen?_setCell]
    exact h.free _ (by omega)
  · refine ⟨fun j hj => ?_, fun j hj => ?_, fun j hj => ?_, ?_⟩
    · rw [cc, cc]
      exact S.done j hj
    · rw [cc]
      exact S.there j hj
    · rw [World.frozen?_setCell, f, World.frozen?_setCell]
      exact h.free j hj
    · have := Nat.lt_of_lt_of_le hl b4.size
      simpa [World.setCell] using this

set_option maxHeartbeats 1000000 in
theorem markEntryS (g c n : Nat) (w : World) (hn : n ≤ 1048576) (hb : Mk g n (em n) 0 w) :
    Calls Try.prog 57 #[.slice (some ⟨g, 0, none⟩) n c, .int .i64 1] w fun e w' => e = .returned (.int .i64 ((1 + 2 * n : Nat) : Int)) ∧ Mk g n (em n) n w' ∧ w.grownBy w' (some g) := by
  go_enter Try.func57, Try.ntmps57
  go_wp2
  go_loopw [1, 5] (fun q i w' => ∃ k : Nat, k ≤ n ∧ i = .int .i64 k ∧ q = .int .i64 ((1 + 2 * k : Nat) : Int) ∧ Mk g n (em n) k w' ∧ w.grownBy w' (some g)) (fun _ i _ => n - (intOf i).toNat)
  case atStart => exact ⟨0, Nat.zero_le _, rfl, rfl, hb, M0.grown_refl _ _⟩
  case round =>
    obtain ⟨k, hk, rfl, rfl, hmk, hgr⟩ := hrel
    by_cases hlt : k < n
    · have e1 : (0 : Int) ≤ (k : Int) := by omega
      have e2 : (k : Int) < (n : Int) := by omega
      obtain ⟨x1, q1⟩ := Option.isSome_iff_exists.1 (hmk.there (k * 2) (by omega))
      have q3 := hmk.free (k * 2) (by omega)
      have HM : Hid (Mk g n (em n) k wr) := hmk
      clear hmk hb
      go_wp2_with (go_at_call 94; refine (mText _ (2 + 2 * k) (by push_cast; omega) (by omega) (by omega) _).mono ?_; rintro e w4 ⟨rfl, b4⟩; obtain ⟨⟨x2, q2⟩, q4, HN⟩ := mid HM.out hlt (em_get n k hlt) b4)
      go_roundw
      case rel => exact ⟨k + 1, by omega, by go_num, by go_num, HN.out, M0.grown_set (grown_below (M0.grown_set hgr _) b4) _⟩
      case measure => simp [intOf]; omega
    · obtain rfl : k = n := by omega
      clear hb
      go_wp2
      go_ret
      exact ⟨rfl, hmk, hgr⟩

theorem markNone (a : Option Addr) (c : Nat) (w : World) :
    Calls Try.prog 57 #[.slice a 0 c, .int .i64 1] w fun e w' => e = .returned (.int .i64 1) ∧ w' = w := by
  go_enter Try.func57, Try.ntmps57
  go_wp2
  go_loop [1, 5] (fun q i => i = .int .i64 0 ∧ q = .int .i64 1) (fun _ _ => 0)
  case atStart => exact ⟨rfl, rfl⟩
  case round =>
    obtain ⟨rfl, rfl⟩ := hrel
    go_wp2
    go_ret
    exact ⟨rfl, rfl⟩

set_option maxHeartbeats 2000000 in
theorem heldEntryS (g c n : Nat) (w : World) (hn : n ≤ 1048576) (hb : Mk g n (em n) n w) :
    Calls Try.prog 58 #[.slice (some ⟨g, 0, none⟩) n c, .int .i64 1] w fun e w' => e = .returned (.int .i64 ((1 + 2 * n : Nat) : Int)) ∧ Below w.heap.size w w' := by
  go_enter Try.func58, Try.ntmps58
  go_wp2
  go_loopw [1, 5] (fun q i w' => ∃ k : Nat, k ≤ n ∧ i = .int .i64 k ∧ q = .int .i64 ((1 + 2 * k : Nat) : Int) ∧ Below w.heap.size w w') (fun _ i _ => n - (intOf i).toNat)
  case atStart => exact ⟨0, Nat.zero_le _, rfl, rfl, Below.refl _ _⟩
  case round =>
    obtain ⟨k, hk, rfl, rfl, hbel⟩ := hrel
    have hB := hbel.size
    by_cases hlt : k < n
    · have e1 : (0 : Int) ≤ (k : Int) := by omega
      have e2 : (k : Int) < (n : Int) := by omega
      have hg := hb.lt
      have hd := hb.done k hlt
      rw [em_get n k hlt] at hd
      have y1 : wr.cell? ⟨g, k * 2, none⟩ = some (.int .i64 ((1 + 2 * k : Nat) : Int)) := (hbel.cell (p := ⟨g, k * 2, none⟩) hg).trans hd.1
      have y2 : wr.cell? ⟨g, k * 2 + 1, none⟩ = some (.string (mt (2 + 2 * k))) := (hbel.cell (p := ⟨g, k * 2 + 1, none⟩) hg).trans hd.2
      have hgl : g < wr.heap.size := Nat.lt_of_lt_of_le hg hB
      have hS0 : wr.drew.cell? ⟨g, k * 2 + 1, none⟩ = some (.string (mt (2 + 2 * k))) := y2
      clear hd hb
      go_wp2
      go_region_held3 (fun W => W.cell? ⟨g, k * 2 + 1, none⟩ = some (.string (mt (2 + 2 * k)))) (assumption) ((go_at_call 94; refine (mText _ (2 + 2 * k) (by push_cast; omega) (by omega) (by omega) _).mono ?_; rintro e w4 ⟨rfl, b4⟩; have hS4 : w4.cell? ⟨g, k * 2 + 1, none⟩ = some (.string (mt (2 + 2 * k))) := (b4.cell (p := ⟨g, k * 2 + 1, none⟩) hgl).trans y2))
      all_goals
        go_wp2
        go_roundw
        case rel => exact ⟨k + 1, by omega, by go_num, by go_num, hbel.trans ((show Below wr.heap.size wr w4 from ⟨b4.os, b4.tape, b4.output, b4.size, b4.block⟩).mono hB)⟩
        case measure => simp [intOf]; omega
    · obtain rfl : k = n := by omega
      clear hb
      go_wp2
      go_ret
      exact ⟨rfl, hbel⟩

theorem heldNone (a : Option Addr) (c : Nat) (w : World) :
    Calls Try.prog 58 #[.slice a 0 c, .int .i64 1] w fun e w' => e = .returned (.int .i64 1) ∧ w' = w := by
  go_enter Try.func58, Try.ntmps58
  go_wp2
  go_loop [1, 5] (fun q i => i = .int .i64 0 ∧ q = .int .i64 1) (fun _ _ => 0)
  case atStart => exact ⟨rfl, rfl⟩
  case round =>
    obtain ⟨rfl, rfl⟩ := hrel
    go_wp2
    go_ret
    exact ⟨rfl, rfl⟩
end Go.Proofs.Ytmdgeilmkfnipaa.V4
