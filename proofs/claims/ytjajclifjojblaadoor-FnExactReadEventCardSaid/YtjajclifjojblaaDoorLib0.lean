/- Small facts on bytes in new memory, over any program: a slice of bytes turned into a string, a string turned into a slice, a string copied into a slice. -/
import Derived.WalkKit
import Derived.Laws.IdiomStrings
import Derived.Laws.IdiomCopy
import Derived.Laws.MakeOwn
import Derived.Lib.BufferWrite
import Derived.Lib.Strings
import Derived.Below
namespace Go.Proofs.YtjajclifjojblaaDoor.B0
open Go.RowKit
set_option linter.unusedVariables false
variable {P : Program}

theorem add_off (b o j : Nat) : (⟨b, o, none⟩ : Addr).add j = ⟨b, o + j, none⟩ := by unfold Addr.add; split <;> simp_all

/-- The cells of a block from a place on hold these bytes. -/
def Holds (w : World) (b o : Nat) (l : List UInt8) : Prop := ∀ j (hj : j < l.length), w.cell? ⟨b, o + j, none⟩ = some (.int .u8 (l[j].toNat : Int))

theorem conv_back (w : World) (src dst e : TypeId) (b o cap : Nat) (l : List UInt8) (hs : P.underlying src = some (.slice e)) (he : P.underlying e = some (.int .u8)) (hd : P.underlying dst = some .string)
    (h : Holds w b o l) (n : Nat) (hn : n = l.length) : (convert src dst (.slice (some ⟨b, o, none⟩) n cap)).run P w = .ok (.string ⟨l.toArray⟩) w := by
  subst hn
  exact run_convert_bytes_back w src dst e ⟨b, o, none⟩ cap l hs he hd (fun j hj => by rw [add_off]; exact h j hj)

theorem holds_new (w : World) (C : Array Value) (T : TypeId) (fr : Nat × Nat) (l : List UInt8) (h : ∀ j (hj : j < l.length), C[j]? = some (.int .u8 (l[j].toNat : Int))) :
    Holds (w.alloc (.cells C T fr)) w.heap.size 0 l := fun j hj => by
  rw [Nat.zero_add, World.cell?_alloc_mark]
  exact h j hj

/-- '[]byte(s)'. -/
theorem conv_to (w : World) (src dst e : TypeId) (s : ByteArray) (hs : P.underlying src = some .string) (hd : P.underlying dst = some (.slice e)) (he : P.underlying e = some (.int .u8)) :
    ∃ W cap, (convert src dst (.string s)).run P w = .ok (.slice (some ⟨w.heap.size, 0, none⟩) s.size cap) W ∧ s.size ≤ cap ∧ Below w.heap.size w W ∧ w.heap.size < W.heap.size ∧ Holds W w.heap.size 0 s.data.toList ∧ ∀ j, j < s.size → W.frozen? ⟨w.heap.size, j, none⟩ = false := by
  have hc : s.size ≤ grownCap w s.size 0 e := grownCap_ge w s.size 0 e
  refine ⟨_, _, run_bytes_of_string w src dst e s hs hd he, hc, ?_, ?_, ?_, ?_⟩
  · exact (Below.refl _ w).drew.alloc (Nat.le_refl _) _
  · show w.heap.size < (w.heap.push _).size
    simp
  · refine holds_new w.drew _ _ _ _ fun j hj => ?_
    have hj' : j < s.data.size := by simpa using hj
    rw [bytesRow_at s _ j hj']
    simp
  · intro j hj
    have := World.frozen?_alloc_mark w.drew (bytesRow s (grownCap w s.size 0 e)) e (bytesRow s (grownCap w s.size 0 e)).size ((bytesRow s (grownCap w s.size 0 e)).size + 1) j
    refine this.trans ?_
    have hb : s.size ≤ (bytesRow s (grownCap w s.size 0 e)).size := by
      have : s.data.size = s.size := rfl
      simp [bytesRow]
    have : ¬ (bytesRow s (grownCap w s.size 0 e)).size ≤ j := by omega
    simp [this]

theorem below_setCells {B b : Nat} {a : World} (hb : B ≤ b) : ∀ (vs : List Value) (o : Nat) (w : World), Below B a w → Below B a (w.setCells b o vs)
  | [], _, _, h => h
  | v :: r, o, w, h => below_setCells hb r (o + 1) _ (h.setCell (by simpa using hb) v)

theorem size_setCells (b : Nat) : ∀ (vs : List Value) (o : Nat) (w : World), (w.setCells b o vs).heap.size = w.heap.size
  | [], _, _ => rfl
  | v :: r, o, w => by rw [World.setCells, size_setCells b r]; simp

theorem isSome_setCells (b : Nat) : ∀ (vs : List Value) (o : Nat) (w : World) (x : Addr), (w.cell? x).isSome = true → ((w.setCells b o vs).cell? x).isSome = true
  | [], _, _, _, h => h
  | v :: r, o, w, x, h => by
    rw [World.setCells]
    refine isSome_setCells b r (o + 1) _ x ?_
    by_cases e : (⟨b, o, none⟩ : Addr) = x
    · subst e
      obtain ⟨u, hu⟩ := Option.isSome_iff_exists.1 h
      rw [World.cell?_setCell_same _ _ _ hu]
      rfl
    · rw [World.cell?_setCell_other _ _ _ _ e]
      exact h

/-- 'copy(b, t)', t a string that fits. -/
theorem copy_str (w : World) (dT sT ty elem : TypeId) (b o dLen dCap : Nat) (t : ByteArray) (hu : P.underlying dT = some (.slice elem)) (hs : (P.info? elem).map (·.size) = some 1) (hle : t.size ≤ dLen)
    (hc : ∀ j, j < t.size → (w.cell? ⟨b, o + j, none⟩).isSome = true) (hf : ∀ j, j < t.size → w.frozen? ⟨b, o + j, none⟩ = false) :
    (Builtin.copy_ #[dT, sT] ty #[.slice (some ⟨b, o, none⟩) dLen dCap, .string t]).run P w = .ok (goInt t.size) (w.setCells b o (Lib.byteCells t.data.toList)) := by
  have hlen : (Lib.byteCells t.data.toList).length = t.size := by rw [Lib.byteCells_length, ← Lib.size_eq]
  have hst := run_storeCells_cells (P := P) b o (Lib.byteCells t.data.toList) 0 w (by rw [hlen]; simpa using hc) (by rw [hlen]; simpa using hf) (Lib.byteCells_one _)
  have hmin : Nat.min t.size dLen = t.size := Nat.min_eq_left hle
  have htk : List.take t.size (List.map (fun b : UInt8 => Value.int IntKind.u8 (b.toNat : Int)) t.data.toList) = Lib.byteCells t.data.toList := by
    rw [List.take_of_length_le (by rw [List.length_map, ← Lib.size_eq]; exact Nat.le_refl _)]
    rfl
  cases hq : P.info? elem with
  | none => simp [hq] at hs
  | some i =>
    simp [Builtin.copy_, run_underlying hu, Builtin.lenOf, Builtin.firstCells, sizeOf, typeInfo, hq, hmin, htk, hst]

theorem holds_with (W : World) (b : Nat) (s t : List UInt8) (k : Nat) (hk : k + t.length ≤ s.length) (h : Holds W b 0 s) :
    Holds (W.setCells b k (Lib.byteCells t)) b 0 (s.take k ++ t ++ s.drop (k + t.length)) := by
  have hl : (Lib.byteCells t).length = t.length := Lib.byteCells_length t
  have hin : ∀ j, j < (Lib.byteCells t).length → (W.cell? ⟨b, k + j, none⟩).isSome = true := fun j hj => by
    have := h (k + j) (by omega)
    rw [Nat.zero_add] at this
    rw [this]
    rfl
  intro j hj
  have hj' : j < s.length := by simp at hj; omega
  rw [Nat.zero_add]
  by_cases h1 : j < k
  · rw [World.cell?_setCells_out b _ k W _ (fun _ _ => Or.inl h1)]
    have := h j hj'
    rw [Nat.zero_add] at this
    rw [this, List.getElem_append_left (by simp; omega), List.getElem_append_left (by simp; omega), List.getElem_take]
  · by_cases h2 : j < k + t.length
    · have := World.cell?_setCells_in b (Lib.byteCells t) k W hin (j - k) (by omega)
      rw [show k + (j - k) = j by omega] at this
      rw [this, List.getElem_append_left (by simp; omega), List.getElem_append_right (by simp; omega)]
      have hm : min k s.length = k := by omega
      simp [Lib.byteCells, hm]
    · rw [World.cell?_setCells_out b _ k W _ (fun _ _ => Or.inr (by rw [hl]; show k + t.length ≤ j; omega))]
      have := h j hj'
      rw [Nat.zero_add] at this
      have e : k + t.length + (j - (s.take k ++ t).length) = j := by rw [List.length_append, List.length_take]; omega
      rw [this, List.getElem_append_right (by simp; omega), List.getElem_drop]
      simp only [e]
end Go.Proofs.YtjajclifjojblaaDoor.B0
