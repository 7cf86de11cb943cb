/- Contracts of laws.toEntryS and laws.eqEntryS, as the given laws call them. -/
import Derived.Test.YtkdjcbmmbjongaaDir4
namespace Go.Proofs.Ytkdjcbmmbjongaa.T5
open Go.ChangeShapes Go.WideShapes Go.ChangeAt Go.RowKit
set_option linter.unusedVariables false
set_option linter.unusedSimpArgs false
set_option maxRecDepth 10000

theorem info33 : (Try.prog.info? 98).map (fun i => (i.zero, i.size, i.bytes)) = some (some (.agg #[.int .i64 0, .string ⟨#[]⟩]), 2, 24) := by kernel_rfl

theorem make_ents (n : Nat) (hn : n ≤ 1048576) : ∃ C : Array Value, C.size = n * 2 ∧ ∀ W : World, (Instr.makeSlice 84 (.int .i64 (n : Int)) (.int .i64 (n : Int))).run Try.prog W = .ok (.slice (some ⟨W.heap.size, 0, none⟩) n n) (W.alloc (.cells C 98)) := by
  obtain ⟨i0, hi, hz0, hz1, hz2⟩ := info_parts info33
  refine ⟨madeCells (Value.agg #[.int .i64 0, .string ⟨#[]⟩]).cells (n * i0.size), by rw [size_madeCells, hz1], fun W => ?_⟩
  have h := run_make (P := Try.prog) W 84 98 i0 (.agg #[.int .i64 0, .string ⟨#[]⟩]) Try.underlying84 hi hz0 .i64 .i64 (n : Int) (n : Int) (by omega) (by omega) (by rw [hz2]; omega) (by omega)
  rw [show ((n : Int)).toNat = n by omega] at h
  exact h

/-- A row of entries while it is being filled. -/
structure Mk (g n : Nat) (es : List T0.Ent) (k : Nat) (W : World) : Prop where
  done : ∀ j, j < k → W.cell? ⟨g, j * 2, none⟩ = some (.int .i64 (T0.ent es j).1) ∧ W.cell? ⟨g, j * 2 + 1, none⟩ = some (.string (T0.ent es j).2)
  there : ∀ j, j < n * 2 → (W.cell? ⟨g, j, none⟩).isSome = true
  free : ∀ j, j < n * 2 → W.frozen? ⟨g, j, none⟩ = false
  lt : g < W.heap.size

variable {g n k : Nat} {es : List T0.Ent} {w W W' : World}

theorem Mk.below (h : Mk g n es k W) (hb : Below W.heap.size W W') : Mk g n es k W' :=
  ⟨fun j hj => ⟨(hb.cell (p := ⟨g, j * 2, none⟩) h.lt).trans (h.done j hj).1, (hb.cell (p := ⟨g, j * 2 + 1, none⟩) h.lt).trans (h.done j hj).2⟩,
   fun j hj => by rw [hb.cell (p := ⟨g, j, none⟩) h.lt]; exact h.there j hj, fun j hj => (hb.frozen (p := ⟨g, j, none⟩) h.lt).trans (h.free j hj), Nat.lt_of_lt_of_le h.lt hb.size⟩

theorem mk_new (w : World) (C : Array Value) (hC : C.size = n * 2) : Mk w.heap.size n es 0 (w.alloc (.cells C 98)) := by
  refine ⟨fun j hj => absurd hj (Nat.not_lt_zero _), fun j hj => ?_, fun j hj => ?_, ?_⟩
  · rw [World.cell?_alloc_mark]
    have : j < C.size := by omega
    simp [this]
  · have h := World.frozen?_alloc_mark w C 98 0 0 j
    rw [h]
    simp
  · simp

theorem some_set {W : World} {p x : Addr} {v : Value} (h : (W.cell? x).isSome = true) : ((W.setCell p v).cell? x).isSome = true := by
  by_cases e : p = x
  · subst e
    obtain ⟨u, hu⟩ := Option.isSome_iff_exists.1 h
    rw [World.cell?_setCell_same _ _ _ hu]
    rfl
  · rw [World.cell?_setCell_other _ _ _ _ e]
    exact h

theorem Mk.step (h : Mk g n es k W) (hk : k < n) {u : Int} {v : ByteArray} (he : T0.ent es k = (u, v)) : Mk g n es (k + 1) ((W.setCell ⟨g, k * 2, none⟩ (.int .i64 u)).setCell ⟨g, k * 2 + 1, none⟩ (.string v)) := by
  obtain ⟨x, hx⟩ := Option.isSome_iff_exists.1 (h.there (k * 2) (by omega))
  obtain ⟨y, hy⟩ := Option.isSome_iff_exists.1 (h.there (k * 2 + 1) (by omega))
  have n1 : (⟨g, k * 2 + 1, none⟩ : Addr) ≠ ⟨g, k * 2, none⟩ := by simp
  refine ⟨fun j hj => ?_, fun j hj => some_set (some_set (h.there j hj)), fun j hj => ?_, ?_⟩
  · by_cases e : j = k
    · subst e
      rw [he]
      refine ⟨?_, ?_⟩
      · rw [World.cell?_setCell_other _ _ _ _ n1, World.cell?_setCell_same _ _ _ hx]
      · rw [World.cell?_setCell_same _ _ _ ((World.cell?_setCell_other _ _ _ _ n1.symm).trans hy)]
    · have hd := h.done j (by omega)
      refine ⟨?_, ?_⟩
      · rw [World.cell?_setCell_other _ _ _ _ (by intro q; have := (Addr.mk.inj q).2.1; omega), World.cell?_setCell_other _ _ _ _ (by intro q; have := (Addr.mk.inj q).2.1; omega)]
        exact hd.1
      · rw [World.cell?_setCell_other _ _ _ _ (by intro q; have := (Addr.mk.inj q).2.1; omega), World.cell?_setCell_other _ _ _ _ (by intro q; have := (Addr.mk.inj q).2.1; omega)]
        exact hd.2
  · rw [World.frozen?_setCell, World.frozen?_setCell]
    exact h.free j hj
  · have := h.lt
    simpa [World.setCell] using this

end Go.Proofs.Ytkdjcbmmbjongaa.T5
