/- The contract of impl.Hex, as the given laws call it. -/
import Derived.Test.YtjajclifjojblaaDoorHex1
import Derived.Test.YtjajclifjojblaaDoorLib0
import Derived.Test.YtjajclifjojblaaDoorLaid0
import Derived.Deep.RegionHeld3
import Derived.Deep.RegionLaw
import Derived.Handy
import Derived.Laws.BitsLemmas
namespace Go.Proofs.YtjajclifjojblaaDoor.H1
open Go.ChangeShapes Go.WideShapes Go.ChangeAt Go.RowKit
set_option linter.unusedVariables false

/-- The table of digits. -/
abbrev tab : List Int := [48, 49, 50, 51, 52, 53, 54, 55, 56, 57, 97, 98, 99, 100, 101, 102]

theorem tab_hd (d : Nat) (h : d < 16) : tab.getD d 0 = ((H0.hd d).toNat : Int) := by
  have : ∀ d : Fin 16, tab.getD d.val 0 = ((H0.hd d.val).toNat : Int) := by decide
  exact this ⟨d, h⟩

theorem gTab : Tryd.prog.globalNamed "loop.example/g00278/impl.hexDigits" = some 2 := by kernel_rfl
theorem info8 : (Tryd.prog.info? 5).map (fun i => (i.zero, i.size, i.bytes)) = some (some (.int .u8 0), 1, 1) := by kernel_rfl

/-- What the slice that is appended to holds when k bytes are done. -/
def Own (w w' : World) (s : ByteArray) (k : Nat) : Prop :=
  Below w.heap.size w w' ∧ w.heap.size < w'.heap.size ∧ B0.Holds w' w.heap.size 0 (H0.hexL (s.data.toList.take k)) ∧
    ∀ j, j < 2 * s.size → (w'.cell? ⟨w.heap.size, j, none⟩).isSome = true ∧ w'.frozen? ⟨w.heap.size, j, none⟩ = false

theorem own_start (w : World) (M : Array Value) (s : ByteArray) (hM : M.size = 2 * s.size) : Own w (w.alloc (.cells M 5)) s 0 := by
  refine ⟨(Below.refl _ _).alloc (Nat.le_refl _) _, ?_, fun j hj => by simp [H0.hexL] at hj, fun j hj => ⟨?_, ?_⟩⟩
  · show w.heap.size < (w.heap.push _).size
    simp
  · rw [World.cell?_alloc_mark, Array.getElem?_eq_getElem (by omega)]
    rfl
  · have := World.frozen?_alloc_mark w M 5 0 0 j
    rw [this]
    simp

theorem own_end (w w' : World) (s : ByteArray) (h : Own w w' s s.size) :
    (convert 49 9 (.slice (some ⟨w.heap.size, 0, none⟩) (2 * s.size) (2 * s.size))).run Tryd.prog w' = .ok (.string (hex s)) w' := by
  have := B0.conv_back (P := Tryd.prog) w' 49 9 5 w.heap.size 0 (2 * s.size) _ Tryd.underlying49 Tryd.underlying5 Tryd.underlying9 h.2.2.1 (2 * s.size) (H0.take_len s s.size (Nat.le_refl _)).symm
  rw [H0.take_all] at this
  exact this

theorem new_cells (wr : World) (x y : Int) : ∀ j u, [Value.int .u8 x, Value.int .u8 y][j]? = some u → ((wr.alloc (.cells #[Value.int .u8 x, Value.int .u8 y] 5)).drew).cell? ((⟨wr.heap.size, 0, none⟩ : Addr).add j) = some u := by
  intro j u h
  show (wr.alloc (.cells #[Value.int .u8 x, Value.int .u8 y] 5)).cell? _ = _
  rw [B0.add_off, Nat.zero_add, World.cell?_alloc_mark]
  simpa using h

theorem new_one (x y : Int) : ∀ u ∈ [Value.int .u8 x, Value.int .u8 y], u.oneCell' = true := by
  intro u h
  simp at h
  rcases h with rfl | rfl <;> rfl

theorem spare_cells {w wr : World} {s : ByteArray} {k : Nat} (h : Own w wr s k) (hlt : k < s.size) (x y : Int) : ∀ j, j < [Value.int .u8 x, Value.int .u8 y].length →
    (((wr.alloc (.cells #[Value.int .u8 x, Value.int .u8 y] 5)).drew).cell? ⟨w.heap.size, 0 + 2 * k * 1 + j, none⟩).isSome = true ∧ ((wr.alloc (.cells #[Value.int .u8 x, Value.int .u8 y] 5)).drew).frozen? ⟨w.heap.size, 0 + 2 * k * 1 + j, none⟩ = false := by
  intro j hj
  have hj' : j < 2 := hj
  have hb : Below wr.heap.size wr (wr.alloc (.cells #[Value.int .u8 x, Value.int .u8 y] 5)) := (Below.refl _ _).alloc (Nat.le_refl _) _
  have := h.2.2.2 (0 + 2 * k * 1 + j) (by omega)
  exact ⟨(congrArg Option.isSome (hb.cell (p := ⟨w.heap.size, 0 + 2 * k * 1 + j, none⟩) h.2.1)).trans this.1, (hb.frozen (p := ⟨w.heap.size, 0 + 2 * k * 1 + j, none⟩) h.2.1).trans this.2⟩

theorem own_step {w wr : World} {s : ByteArray} {k : Nat} (h : Own w wr s k) (hlt : k < s.size) :
    Own w (((wr.alloc (.cells #[Value.int .u8 ((H0.hd (s[k].toNat / 16)).toNat : Int), Value.int .u8 ((H0.hd (s[k].toNat % 16)).toNat : Int)] 5)).drew).setCells w.heap.size (2 * k) [Value.int .u8 ((H0.hd (s[k].toNat / 16)).toNat : Int), Value.int .u8 ((H0.hd (s[k].toNat % 16)).toNat : Int)]) s (k + 1) := by
  obtain ⟨hb, hz, hH, hS⟩ := h
  have hL := H0.take_len s k (by omega)
  generalize hV : (((wr.alloc (.cells #[Value.int .u8 ((H0.hd (s[k].toNat / 16)).toNat : Int), Value.int .u8 ((H0.hd (s[k].toNat % 16)).toNat : Int)] 5)).drew)) = V
  have hV1 : Below wr.heap.size wr V := by rw [← hV]; exact ((Below.refl _ _).alloc (Nat.le_refl _) _).drew
  have hVc : ∀ j, V.cell? ⟨w.heap.size, j, none⟩ = wr.cell? ⟨w.heap.size, j, none⟩ := fun j => hV1.cell (p := ⟨w.heap.size, j, none⟩) hz
  have hVf : ∀ j, V.frozen? ⟨w.heap.size, j, none⟩ = wr.frozen? ⟨w.heap.size, j, none⟩ := fun j => hV1.frozen (p := ⟨w.heap.size, j, none⟩) hz
  have hin : ∀ j, j < 2 → (V.cell? ⟨w.heap.size, 2 * k + j, none⟩).isSome = true := fun j hj => by rw [hVc]; exact (hS _ (by omega)).1
  refine ⟨?_, ?_, ?_, ?_⟩
  · exact B0.below_setCells (Nat.le_refl _) _ _ _ (hb.trans (hV1.mono hb.size))
  · rw [B0.size_setCells]
    have := hV1.size
    omega
  · rw [H0.take_snoc s k hlt, H0.hexL_snoc]
    intro j hj
    have hj' : j < 2 * k + 2 := by simp [hL] at hj; omega
    rw [Nat.zero_add]
    by_cases h1 : j < 2 * k
    · rw [World.cell?_setCells_out _ _ _ _ _ (fun _ _ => Or.inl h1), hVc]
      have := hH j (by omega)
      rw [Nat.zero_add] at this
      rw [this, List.getElem_append_left (by omega)]
    · have := World.cell?_setCells_in w.heap.size [Value.int .u8 ((H0.hd (s[k].toNat / 16)).toNat : Int), Value.int .u8 ((H0.hd (s[k].toNat % 16)).toNat : Int)] (2 * k) V hin (j - 2 * k) (by show _ < 2; omega)
      rw [show 2 * k + (j - 2 * k) = j by omega] at this
      rw [this, List.getElem_append_right (by omega)]
      have : j = 2 * k ∨ j = 2 * k + 1 := by omega
      rcases this with rfl | rfl
      · simp [hL]
      · simp [hL]
  · intro j hj
    refine ⟨B0.isSome_setCells _ _ _ _ _ (by rw [hVc]; exact (hS j hj).1), ?_⟩
    rw [World.frozen?_setCells, hVf]
    exact (hS j hj).2

end Go.Proofs.YtjajclifjojblaaDoor.H1
