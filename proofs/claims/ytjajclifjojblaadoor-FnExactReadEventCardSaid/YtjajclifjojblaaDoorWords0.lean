/- Plain facts on the parts of a text between blanks, and on rows of strings in memory that a call has made. -/
import Derived.WalkKit
import Derived.Below
import Derived.Lib.Strings
import Derived.Deep.AppendLies
namespace Go.Proofs.YtjajclifjojblaaDoor.W0
open Go.RowKit
set_option linter.unusedVariables false

/-- The parts that are done when k bytes are read, and where the next one begins. -/
def st (s : ByteArray) : Nat → List ByteArray × Nat
  | 0 => ([], 0)
  | k + 1 => if (s[k]?.getD 0).toNat = 32 then ((st s k).1 ++ [s.extract (st s k).2 k], k + 1) else st s k

/-- The parts of a text between blanks. -/
def words (s : ByteArray) : List ByteArray := (st s s.size).1 ++ [s.extract (st s s.size).2 s.size]

theorem st_le (s : ByteArray) : ∀ k, (st s k).2 ≤ k ∧ (st s k).1.length ≤ k
  | 0 => ⟨Nat.le_refl _, Nat.le_refl _⟩
  | k + 1 => by
    have := st_le s k
    unfold st
    split
    · simp; omega
    · omega

theorem st_blank (s : ByteArray) (k : Nat) (h : k < s.size) (hb : s[k].toNat = 32) : st s (k + 1) = ((st s k).1 ++ [s.extract (st s k).2 k], k + 1) := by
  have e : s[k]? = some s[k] := getElem?_pos s k h
  rw [st, if_pos (by rw [e]; exact hb)]

theorem st_other (s : ByteArray) (k : Nat) (h : k < s.size) (hb : ¬ s[k].toNat = 32) : st s (k + 1) = st s k := by
  have e : s[k]? = some s[k] := getElem?_pos s k h
  rw [st, if_neg (by rw [e]; exact hb)]

/-- The strings as cells. -/
abbrev strs (l : List ByteArray) : List Value := l.map Value.string

theorem owns_below {W W' : World} {base : Nat} {e : TypeId} {size : Nat} {v : Value} {n : Nat} {xs : List Value} (h : W.ownsRow base e size v n xs) (hb : Below W.heap.size W W') : W'.ownsRow base e size v n xs := by
  refine ⟨h.1, ?_⟩
  rcases h.2 with h0 | ⟨g, cap, cur, hv, hg, hc, r⟩
  · exact Or.inl h0
  · refine Or.inr ⟨g, cap, cur, hv, hg, ?_, r⟩
    rw [hb.block g (Array.getElem?_eq_some_iff.1 hc).1]
    exact hc

theorem below_grown {B : Nat} {w W W' : World} {row : Option Nat} (h : Below B w W) (hg : W.grownBy W' row) (hr : ∀ g, row = some g → B ≤ g) (hB : B ≤ W.heap.size) : Below B w W' :=
  ⟨hg.os.trans h.os, hg.tape.trans h.tape, hg.output.trans h.output, Nat.le_trans h.size hg.size, fun k hk => by
    rw [hg.block k (by omega) (fun e => by have := hr k e.symm; omega)]
    exact h.block k hk⟩

theorem below_append {w wr w1 : World} {e : TypeId} {g n cap : Nat} {xs : List Value} {o : Obj} (hbel : Below w.heap.size w wr) (hown : wr.ownsRow w.heap.size e 1 (.slice (some ⟨g, 0, none⟩) n cap) n xs)
    (hgrow : (wr.alloc o).grownBy w1 (Value.slice (some ⟨g, 0, none⟩) n cap).ownBlock) : Below w.heap.size w w1 :=
  below_grown (hbel.alloc hbel.size o) hgrow (fun g' h => by
    obtain rfl : g = g' := by simpa [Value.ownBlock] using h
    exact (hown.lt g rfl).1) (by have := hbel.size; simp; omega)

theorem words_len (s : ByteArray) : (words s).length = (st s s.size).1.length + 1 := by simp [words]

theorem strs_words (s : ByteArray) : strs (words s) = strs (st s s.size).1 ++ [.string (s.extract (st s s.size).2 s.size)] := by simp [words, strs]

/-- Cells of a row that a call owns. -/
structure Row (w : World) (g : Nat) (ss : List ByteArray) : Prop where
  lt : g < w.heap.size
  cell : ∀ j (hj : j < ss.length), w.cell? ⟨g, j, none⟩ = some (.string ss[j])
  free : ∀ j, j < ss.length → w.frozen? ⟨g, j, none⟩ = false

theorem Row.below {w w' : World} {g : Nat} {ss : List ByteArray} (h : Row w g ss) (hb : Below w.heap.size w w') : Row w' g ss :=
  ⟨Nat.lt_of_lt_of_le h.lt hb.size, fun j hj => (hb.cell (p := ⟨g, j, none⟩) h.lt).trans (h.cell j hj), fun j hj => (hb.frozen (p := ⟨g, j, none⟩) h.lt).trans (h.free j hj)⟩

theorem row_of_owns {w : World} {base : Nat} {e : TypeId} {g n cap : Nat} {ss : List ByteArray} (h : w.ownsRow base e 1 (.slice (some ⟨g, 0, none⟩) n cap) n (strs ss)) (hn : 0 < n) : Row w g ss ∧ base ≤ g ∧ n = ss.length := by
  have hl : n = ss.length := by have := h.1; simp at this; omega
  rcases h.2 with ⟨h0, _⟩ | ⟨g', cap', cur, hv, hb, hc, h1, h2, h3, h4⟩
  · cases h0
  · obtain ⟨rfl, rfl⟩ : g = g' ∧ cap = cap' := by simpa using hv
    have hcell : ∀ j, w.cell? ⟨g, j, none⟩ = cur[j]? := fun j => by
      unfold World.cell?
      rw [hc]
      simp
    refine ⟨⟨(Array.getElem?_eq_some_iff.1 hc).1, fun j hj => ?_, fun j hj => ?_⟩, hb, hl⟩
    · rw [hcell]
      have e1 : (cur.toList.take (n * 1))[j]? = (strs ss)[j]? := by rw [h4]
      rw [List.getElem?_take_of_lt (by omega)] at e1
      rw [← Array.getElem?_toList, e1]
      simp [hj]
    · unfold World.frozen?
      rw [hc]
      simp
end Go.Proofs.YtjajclifjojblaaDoor.W0
