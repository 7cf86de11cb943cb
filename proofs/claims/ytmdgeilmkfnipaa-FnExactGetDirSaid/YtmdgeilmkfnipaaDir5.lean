/- Contracts of laws.toEntryS and laws.eqEntryS, as the given laws call them. -/
import Derived.Test.YtmdgeilmkfnipaaDir4
namespace Go.Proofs.Ytmdgeilmkfnipaa.T5
open Go.ChangeShapes Go.WideShapes Go.ChangeAt Go.RowKit
set_option linter.unusedVariables false
set_option linter.unusedSimpArgs false
set_option maxRecDepth 10000

theorem info33 : (Try.prog.info? 33).map (fun i => (i.zero, i.size, i.bytes)) = some (some (.agg #[.int .i64 0, .string ⟨#[]⟩]), 2, 24) := by kernel_rfl

theorem make_ents (n : Nat) (hn : n ≤ 1048576) : ∃ C : Array Value, C.size = n * 2 ∧ ∀ W : World, (Instr.makeSlice 43 (.int .i64 (n : Int)) (.int .i64 (n : Int))).run Try.prog W = .ok (.slice (some ⟨W.heap.size, 0, none⟩) n n) (W.alloc (.cells C 33)) := by
  obtain ⟨i0, hi, hz0, hz1, hz2⟩ := info_parts info33
  refine ⟨madeCells (Value.agg #[.int .i64 0, .string ⟨#[]⟩]).cells (n * i0.size), by rw [size_madeCells, hz1], fun W => ?_⟩
  have h := run_make (P := Try.prog) W 43 33 i0 (.agg #[.int .i64 0, .string ⟨#[]⟩]) Try.underlying43 hi hz0 .i64 .i64 (n : Int) (n : Int) (by omega) (by omega) (by rw [hz2]; omega) (by omega)
  rw [show ((n : Int)).toNat = n by omega] at h
  exact h

/-- A row of entries while it is being filled. -/
structure Mk (g n : Nat) (es : List T0.Ent) (k : Nat) (W : World) : Prop where
  done : ∀ j, j < k → W.cell? ⟨g, j * 2, none⟩ = some (.int .i64 (T0.ent es j).1) ∧ W.cell? ⟨g, j * 2 + 1, none⟩ = some (.string (T0.ent es j).2)
  there : ∀ j, j < n * 2 → (W.cell? ⟨g, j, none⟩).isSome = true
  free : ∀ j, j < n * 2 → W.frozen? ⟨g, j, none⟩ = false
  lt : g < W.heap.size

variable {g n k : Nat} {es : List T0.Ent} {w W W' : World}

theorem Mk.below (h : Mk g n es k W) (hb : Below W.heap.size W W') : Mk g n es k W' :=
  ⟨fun j hj => ⟨(hb.cell (p := ⟨g, j * 2, none⟩) h.lt).trans (h.done j hj).1, (hb.cell (p := ⟨g, j * 2 + 1, none⟩) h.lt).trans (h.done j hj).2⟩,
   fun j hj => by rw [hb.cell (p := ⟨g, j, none⟩) h.lt]; exact h.there j hj, fun j hj => (hb.frozen (p := ⟨g, j, none⟩) h.lt).trans (h.free j hj), Nat.lt_of_lt_of_le h.lt hb.size⟩

theorem mk_new (w : World) (C : Array Value) (hC : C.size = n * 2) : Mk w.heap.size n es 0 (w.alloc (.cells C 33)) := by
  refine ⟨fun j hj => absurd hj (Nat.not_lt_zero _), fun j hj => ?_, fun j hj => ?_, ?_⟩
  · rw [World.cell?_alloc_mark]
    have : j < C.size := by omega
    simp [this]
  · have h := World.frozen?_alloc_mark w C 33 0 0 j
    rw [h]
    simp
  · simp

theorem some_set {W : World} {p x : Addr} {v : Value} (h : (W.cell? x).isSome = true) : ((W.setCell p v).cell? x).isSome = true := by
  by_cases e : p = x
  · subst e
    obtain ⟨u, hu⟩ := Option.isSome_iff_exists.1 h
    rw [World.cell?_setCell_same _ _ _ hu]
    rfl
  · rw [World.cell?_setCell_other _ _ _ _ e]
    exact h

theorem Mk.step (h : Mk g n es k W) (hk : k < n) {u : Int} {v : ByteArray} (he : T0.ent es k = (u, v)) : Mk g n es (k + 1) ((W.setCell ⟨g, k * 2, none⟩ (.int .i64 u)).setCell ⟨g, k * 2 + 1, none⟩ (.string v)) := by
  obtain ⟨x, hx⟩ := Option.isSome_iff_exists.1 (h.there (k * 2) (by omega))
  obtain ⟨y, hy⟩ := Option.isSome_iff_exists.1 (h.there (k * 2 + 1) (by omega))
  have n1 : (⟨g, k * 2 + 1, none⟩ : Addr) ≠ ⟨g, k * 2, none⟩ := by simp
  refine ⟨fun j hj => ?_, fun j hj => some_set (some_set (h.there j hj)), fun j hj => ?_, ?_⟩
  · by_cases e : j = k
    · subst e
      rw [he]
      refine ⟨?_, ?_⟩
      · rw [World.cell?_setCell_other _ _ _ _ n1, World.cell?_setCell_same _ _ _ hx]
      · rw [World.cell?_setCell_same _ _ _ ((World.cell?_setCell_other _ _ _ _ n1.symm).trans hy)]
    · have hd := h.done j (by omega)
      refine ⟨?_, ?_⟩
      · rw [World.cell?_setCell_other _ _ _ _ (by intro q; have := (Addr.mk.inj q).2.1; omega), World.cell?_setCell_other _ _ _ _ (by intro q; have := (Addr.mk.inj q).2.1; omega)]
        exact hd.1
      · rw [World.cell?_setCell_other _ _ _ _ (by intro q; have := (Addr.mk.inj q).2.1; omega), World.cell?_setCell_other _ _ _ _ (by intro q; have := (Addr.mk.inj q).2.1; omega)]
        exact hd.2
  · rw [World.frozen?_setCell, World.frozen?_setCell]
    exact h.free j hj
  · have := h.lt
    simpa [World.setCell] using this

set_option maxHeartbeats 1000000 in
theorem toEntryS (a : Option Addr) (c : Nat) (es : List T0.Ent) (w : World) (hn : es.length ≤ 1048576) (hR : T0.Row w a es) :
    Calls Try.prog 55 #[.slice a es.length c] w fun e w' => ∃ g, e = .returned (.slice (some ⟨g, 0, none⟩) es.length es.length) ∧ T0.Row w' (some ⟨g, 0, none⟩) es ∧ Below w.heap.size w w' := by
  obtain ⟨C, hC, hmk⟩ := make_ents es.length hn
  have hmk0 := hmk w
  have m0 := mk_new (es := es) w C hC
  have l0 := K0.below_new w (.cells C 33)
  obtain ⟨W0, hW0⟩ : ∃ W0, w.alloc (.cells C 33) = W0 := ⟨_, rfl⟩
  rw [hW0] at m0 l0 hmk0
  clear hmk hW0
  go_enter Try.func55, Try.ntmps55
  go_wp2
  go_loopw [4] (fun i w' => ∃ k : Nat, k ≤ es.length ∧ i = .int .i64 k ∧ Mk w.heap.size es.length es k w' ∧ Below w.heap.size w w') (fun i _ => es.length - (intOf i).toNat)
  case atStart => exact ⟨0, Nat.zero_le _, rfl, m0, l0⟩
  case round =>
    obtain ⟨k, hk, rfl, hmk, hbel⟩ := hrel
    clear m0 l0 hmk0
    by_cases hlt : k < es.length
    · obtain ⟨b, off, rfl, hlt0, hc⟩ := (hR.below hbel).get hlt
      have y1 := (hc k hlt).1
      have y2 := (hc k hlt).2
      obtain ⟨z, ez⟩ : ∃ z, T0.ent es k = z := ⟨_, rfl⟩
      rw [ez] at y1 y2
      obtain ⟨u, v⟩ := z
      simp only at y1 y2
      have HE : Hid (T0.ent es k = (u, v)) := ez
      have e1 : (0 : Int) ≤ (k : Int) := by omega
      have e2 : (k : Int) < (es.length : Int) := by omega
      have hB := hbel.size
      clear ez hc hR
      go_wp2_with (go_at_call 52; refine (E3.toEntry u v _).mono ?_; rintro e w1 ⟨rfl, b1⟩; have m1 := hmk.below b1; obtain ⟨x1, q1⟩ := Option.isSome_iff_exists.1 (m1.there (k * 2) (by omega)); obtain ⟨x2, q2⟩ := Option.isSome_iff_exists.1 (m1.there (k * 2 + 1) (by omega)); have q3 := m1.free (k * 2) (by omega); have q4 := m1.free (k * 2 + 1) (by omega))
      go_roundw
      case rel => exact ⟨k + 1, by omega, by go_num, m1.step hlt HE.out, ((hbel.trans (b1.mono hB)).setCell (p := ⟨w.heap.size, k * 2, none⟩) (Nat.le_refl _) _).setCell (p := ⟨w.heap.size, k * 2 + 1, none⟩) (Nat.le_refl _) _⟩
      case measure => simp [intOf]; omega
    · obtain rfl : k = es.length := by omega
      have hrow : T0.Row wr (some ⟨w.heap.size, 0, none⟩) es := Or.inr ⟨w.heap.size, 0, rfl, hmk.lt, fun j hj => by
        have := hmk.done j hj
        rw [Nat.zero_add]
        exact this⟩
      clear hR hmk
      go_wp2
      go_ret
      exact ⟨_, rfl, hrow, hbel⟩

set_option maxHeartbeats 2000000 in
theorem eqEntryS (a1 a2 : Option Addr) (c1 c2 : Nat) (es : List T0.Ent) (w : World) (hn : es.length ≤ 1048576) (h1 : T0.Row w a1 es) (h2 : T0.Row w a2 es) :
    Calls Try.prog 56 #[.slice a1 es.length c1, .slice a2 es.length c2] w fun e w' => e = .returned (.bool true) ∧ Below w.heap.size w w' := by
  go_enter Try.func56, Try.ntmps56
  go_wp2
  go_loopw [5] (fun i w' => ∃ k : Nat, k ≤ es.length ∧ i = .int .i64 k ∧ Below w.heap.size w w') (fun i _ => es.length - (intOf i).toNat)
  case atStart => exact ⟨0, Nat.zero_le _, rfl, Below.refl _ _⟩
  case round =>
    obtain ⟨k, hk, rfl, hbel⟩ := hrel
    by_cases hlt : k < es.length
    · obtain ⟨b1, o1, rfl, l1, r1⟩ := (h1.below hbel).get hlt
      obtain ⟨b2, o2, rfl, l2, r2⟩ := (h2.below hbel).get hlt
      have y1 := (r1 k hlt).1
      have y2 := (r1 k hlt).2
      have y3 := (r2 k hlt).1
      have y4 := (r2 k hlt).2
      obtain ⟨z, ez⟩ : ∃ z, T0.ent es k = z := ⟨_, rfl⟩
      rw [ez] at y1 y2 y3 y4
      obtain ⟨u, v⟩ := z
      simp only at y1 y2 y3 y4
      have e1 : (0 : Int) ≤ (k : Int) := by omega
      have e2 : (k : Int) < (es.length : Int) := by omega
      have hB := hbel.size
      have hS0 : wr.drew.cell? ⟨b1, o1 + k * 2, none⟩ = some (.int .i64 u) ∧ wr.drew.cell? ⟨b1, o1 + k * 2 + 1, none⟩ = some (.string v) ∧ wr.drew.cell? ⟨b2, o2 + k * 2, none⟩ = some (.int .i64 u) ∧ wr.drew.cell? ⟨b2, o2 + k * 2 + 1, none⟩ = some (.string v) := ⟨y1, y2, y3, y4⟩
      clear ez r1 r2 h1 h2
      go_wp2
      go_region_held3 (fun W => W.cell? ⟨b1, o1 + k * 2, none⟩ = some (.int .i64 u) ∧ W.cell? ⟨b1, o1 + k * 2 + 1, none⟩ = some (.string v) ∧ W.cell? ⟨b2, o2 + k * 2, none⟩ = some (.int .i64 u) ∧ W.cell? ⟨b2, o2 + k * 2 + 1, none⟩ = some (.string v)) (assumption) ((go_at_call 53; refine (E3.eqEntry u v _).mono ?_; rintro e w4 ⟨rfl, b4⟩; have hS4 : w4.cell? ⟨b1, o1 + k * 2, none⟩ = some (.int .i64 u) ∧ w4.cell? ⟨b1, o1 + k * 2 + 1, none⟩ = some (.string v) ∧ w4.cell? ⟨b2, o2 + k * 2, none⟩ = some (.int .i64 u) ∧ w4.cell? ⟨b2, o2 + k * 2 + 1, none⟩ = some (.string v) := ⟨(b4.cell (p := ⟨b1, o1 + k * 2, none⟩) l1).trans y1, (b4.cell (p := ⟨b1, o1 + k * 2 + 1, none⟩) l1).trans y2, (b4.cell (p := ⟨b2, o2 + k * 2, none⟩) l2).trans y3, (b4.cell (p := ⟨b2, o2 + k * 2 + 1, none⟩) l2).trans y4⟩))
      all_goals
        go_wp2
        go_roundw
        case rel => exact ⟨k + 1, by omega, by go_num, hbel.trans ((show Below wr.heap.size wr w4 from ⟨b4.os, b4.tape, b4.output, b4.size, b4.block⟩).mono hB)⟩
        case measure => simp [intOf]; omega
    · clear h1 h2
      go_wp2
      go_ret
      exact ⟨rfl, hbel⟩
end Go.Proofs.Ytmdgeilmkfnipaa.T5
