/- The cursor over the bytes of a draw, as it lies in memory: what it is, and that it stays so. -/
import Derived.WalkKit
import Derived.Below
import Derived.Laws.AppendOwn
import Derived.Deep.Draws
namespace Go.Proofs.Ytifddipnboifnaa.C0
open Go.RowKit
set_option linter.unusedVariables false

/-- The bytes that came in can be read. -/
def Given (w : World) (a : Option Addr) (len : Nat) : Prop :=
  ∀ k, k < len → ∃ b off z, a = some ⟨b, off, none⟩ ∧ b < w.heap.size ∧ 0 ≤ z ∧ z < 256 ∧ w.cell? ⟨b, off + k, none⟩ = some (.int .u8 z)

theorem Given.below {w w' : World} {a : Option Addr} {len : Nat} (h : Given w a len) (hb : Below w.heap.size w w') : Given w' a len := fun k hk => by
  obtain ⟨b, off, z, ha, hlt, h0, h1, hc⟩ := h k hk
  exact ⟨b, off, z, ha, Nat.lt_of_lt_of_le hlt hb.size, h0, h1, (hb.cell (p := ⟨b, off + k, none⟩) hlt).trans hc⟩

/-- The cursor: the bytes, how far it is, and a number. -/
structure Cur (w : World) (c : Nat) (a : Option Addr) (len cap : Nat) : Prop where
  lt : c < w.heap.size
  cells : ∃ (k : Nat) (h : Int), k ≤ len ∧ w.cell? ⟨c, 0, none⟩ = some (.slice a len cap) ∧ w.cell? ⟨c, 1, none⟩ = some (.int .i64 (k : Int)) ∧ w.cell? ⟨c, 2, none⟩ = some (.int .i64 h)
  free1 : w.frozen? ⟨c, 1, none⟩ = false
  free2 : w.frozen? ⟨c, 2, none⟩ = false

/-- A cursor that lies behind all that was there. -/
structure St (w0 w : World) (c : Nat) (a : Option Addr) (len cap : Nat) : Prop where
  bel : Below w0.heap.size w0 w
  new : w0.heap.size ≤ c
  cur : Cur w c a len cap

theorem Cur.of_block {w w' : World} {c : Nat} {a : Option Addr} {len cap : Nat} (h : Cur w c a len cap) (hz : c < w'.heap.size) (hb : w'.heap[c]? = w.heap[c]?) : Cur w' c a len cap := by
  have e : ∀ j, w'.cell? ⟨c, j, none⟩ = w.cell? ⟨c, j, none⟩ := fun j => World.cell?_of_block (a := ⟨c, j, none⟩) hb
  have f : ∀ j, w'.frozen? ⟨c, j, none⟩ = w.frozen? ⟨c, j, none⟩ := fun j => World.frozen?_of_block (a := ⟨c, j, none⟩) hb
  obtain ⟨k, x, hk, c0, c1, c2⟩ := h.cells
  exact ⟨hz, ⟨k, x, hk, by rw [e]; exact c0, by rw [e]; exact c1, by rw [e]; exact c2⟩, by rw [f]; exact h.free1, by rw [f]; exact h.free2⟩

/-- Where only new memory was written. -/
theorem St.below {w0 w w' : World} {c : Nat} {a : Option Addr} {len cap : Nat} (h : St w0 w c a len cap) (hb : Below w.heap.size w w') : St w0 w' c a len cap :=
  ⟨h.bel.trans (hb.mono h.bel.size), h.new, h.cur.of_block (Nat.lt_of_lt_of_le h.cur.lt hb.size) (hb.block c h.cur.lt)⟩

/-- Where only another row of new memory, and what is new, was written. -/
theorem St.grown {w0 w w' : World} {c g : Nat} {a : Option Addr} {len cap : Nat} (h : St w0 w c a len cap) (hg : w.grownBy w' (some g)) (hne : c ≠ g) (hnew : w0.heap.size ≤ g) : St w0 w' c a len cap := by
  refine ⟨⟨hg.os.trans h.bel.os, hg.tape.trans h.bel.tape, hg.output.trans h.bel.output, Nat.le_trans h.bel.size hg.size, fun k hk => ?_⟩, h.new, h.cur.of_block (Nat.lt_of_lt_of_le h.cur.lt hg.size) (hg.block c h.cur.lt (fun e => hne (Option.some.inj e)))⟩
  rw [hg.block k (Nat.lt_of_lt_of_le hk h.bel.size) (fun e => by have := Option.some.inj e; omega)]
  exact h.bel.block k hk

theorem grown_refl (w : World) (row : Option Nat) : w.grownBy w row := ⟨rfl, rfl, rfl, Nat.le_refl _, fun _ _ _ => rfl⟩
theorem grown_trans {w w1 w2 : World} {row : Option Nat} (h : w.grownBy w1 row) (h' : w1.grownBy w2 row) : w.grownBy w2 row :=
  ⟨h'.os.trans h.os, h'.tape.trans h.tape, h'.output.trans h.output, Nat.le_trans h.size h'.size, fun k hk hr => by
    rw [h'.block k (Nat.lt_of_lt_of_le hk h.size) hr]
    exact h.block k hk hr⟩
theorem grown_drewN {w w1 : World} {row : Option Nat} (h : w.grownBy w1 row) (n : Nat) : w.grownBy (w1.drewN n) row := ⟨h.os, h.tape, h.output, h.size, h.block⟩
theorem grown_below {w w1 w2 : World} {row : Option Nat} (h : w.grownBy w1 row) (hb : Below w1.heap.size w1 w2) : w.grownBy w2 row :=
  ⟨hb.os.trans h.os, hb.tape.trans h.tape, hb.output.trans h.output, Nat.le_trans h.size hb.size, fun k hk hr => by
    rw [hb.block k (Nat.lt_of_lt_of_le hk h.size)]
    exact h.block k hk hr⟩
theorem grown_set {w w1 : World} {g j : Nat} (h : w.grownBy w1 (some g)) (v : Value) : w.grownBy (w1.setCell ⟨g, j, none⟩ v) (some g) := by
  refine ⟨h.os, h.tape, h.output, ?_, fun k hk hr => ?_⟩
  · simpa using h.size
  · have hne : k ≠ g := fun e => hr (by rw [e])
    rw [← h.block k hk hr]
    exact Below.heap_setCell w1 ⟨g, j, none⟩ v k hne

/-- The cursor behind a step that writes its number, and one that moves it on. -/
theorem St.set2 {w0 w : World} {c : Nat} {a : Option Addr} {len cap : Nat} (h : St w0 w c a len cap) (x : Int) : St w0 (w.setCell ⟨c, 2, none⟩ (.int .i64 x)) c a len cap := by
  obtain ⟨k, y, hk, c0, c1, c2⟩ := h.cur.cells
  refine ⟨h.bel.setCell (p := ⟨c, 2, none⟩) h.new _, h.new, ⟨by simpa using h.cur.lt, ⟨k, x, hk, ?_, ?_, ?_⟩, ?_, ?_⟩⟩
  · rw [World.cell?_setCell_other _ _ _ _ (fun e => by cases e)]; exact c0
  · rw [World.cell?_setCell_other _ _ _ _ (fun e => by cases e)]; exact c1
  · exact World.cell?_setCell_same _ _ _ c2
  · rw [World.frozen?_setCell]; exact h.cur.free1
  · rw [World.frozen?_setCell]; exact h.cur.free2

theorem St.set1 {w0 w : World} {c : Nat} {a : Option Addr} {len cap : Nat} (h : St w0 w c a len cap) (x : Int) (n : Nat) (hx : x = (n : Int)) (hn : n ≤ len) : St w0 (w.setCell ⟨c, 1, none⟩ (.int .i64 x)) c a len cap := by
  subst hx
  obtain ⟨k, y, hk, c0, c1, c2⟩ := h.cur.cells
  refine ⟨h.bel.setCell (p := ⟨c, 1, none⟩) h.new _, h.new, ⟨by simpa using h.cur.lt, ⟨n, y, hn, ?_, ?_, ?_⟩, ?_, ?_⟩⟩
  · rw [World.cell?_setCell_other _ _ _ _ (fun e => by cases e)]; exact c0
  · exact World.cell?_setCell_same _ _ _ c1
  · rw [World.cell?_setCell_other _ _ _ _ (fun e => by cases e)]; exact c2
  · rw [World.frozen?_setCell]; exact h.cur.free1
  · rw [World.frozen?_setCell]; exact h.cur.free2

theorem St.drewN {w0 w : World} {c : Nat} {a : Option Addr} {len cap : Nat} (h : St w0 w c a len cap) (n : Nat) : St w0 (w.drewN n) c a len cap :=
  h.below ⟨rfl, rfl, rfl, Nat.le_refl _, fun _ _ => rfl⟩
end Go.Proofs.Ytifddipnboifnaa.C0
