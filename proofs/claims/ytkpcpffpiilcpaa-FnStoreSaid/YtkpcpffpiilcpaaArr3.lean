/- The contract of the program's cutDev. -/
import Derived.Test.YtkpcpffpiilcpaaArr1
import Derived.Test.YtkpcpffpiilcpaaDev5
import Derived.Deep.RegionWith
namespace Go.Proofs.Ytkpcpffpiilcpaa.A3
open Go.ChangeShapes Go.WideShapes Go.ChangeAt Go.RowKit
set_option linter.unusedVariables false
set_option linter.unusedSimpArgs false

theorem zeroDev : (Try.prog.info? 69).map (fun i => (i.zero, i.size)) = some (some (.agg (Array.replicate 1536 (.int .u8 0))), 1536) := by kernel_rfl
variable {B : Nat} {w W : World} {a b : ByteArray}

theorem cut_bx (s : ByteArray) (hs : s.size = 768) (h : D5.Bx B w a b W) :
    Calls Try.prog 56 #[.string s] W fun e w' => e = .returned (.agg (Lib.byteCells s.data.toList).toArray) ∧ D5.Bx B w a b w' :=
  (A1.cutLines s W hs).mono fun _ _ ⟨he, hb⟩ => ⟨he, h.below hb⟩

theorem Bx_drew (h : D5.Bx B w a b W) : D5.Bx B w a b W.drew := ⟨h.c0, h.c1, h.lt, h.bel.drew⟩

/-- A device cut into lines, in a block of its own: its two texts. -/
structure Dl (G : Nat) (la lb : List UInt8) (W : World) : Prop where
  m : W.rangeAt G 0 (Lib.byteCells la)
  d : W.rangeAt G 768 (Lib.byteCells lb)
  t : W.there G 0 1536
  lt : G < W.heap.size

theorem dl_new (la lb : List UInt8) (h1 : la.length = 768) (h2 : lb.length = 768) (w : World) : Dl w.heap.size la lb (w.alloc (.cells ((Lib.byteCells la).toArray ++ (Lib.byteCells lb).toArray) 69)) := by
  have hs : ((Lib.byteCells la).toArray ++ (Lib.byteCells lb).toArray).size = 1536 := by simp [Lib.byteCells, h1, h2]
  have h0 := A0.there_new w ((Lib.byteCells la).toArray ++ (Lib.byteCells lb).toArray) 69
  rw [hs] at h0
  refine ⟨?_, ?_, h0, by simp⟩
  · intro j v hj
    have hjl : j < (Lib.byteCells la).length := (List.getElem?_eq_some_iff.1 hj).1
    rw [Nat.zero_add, World.cell?_alloc_mark, Array.getElem?_append_left (by simpa using hjl)]
    simpa using hj
  · intro j v hj
    have hla : (Lib.byteCells la).length = 768 := by rw [Lib.byteCells_length, h1]
    rw [World.cell?_alloc_mark, Array.getElem?_append_right (by simp [hla])]
    simpa [hla] using hj

set_option maxRecDepth 20000 in
set_option maxHeartbeats 4000000 in
theorem cutDev (a b : ByteArray) (w : World) (ha : a.size = 768) (hb : b.size = 768) :
    Calls Try.prog 43 #[.agg #[.string a, .string b]] w fun e w' => ∃ G, e = .returned (.pointer (some ⟨G, 0, none⟩)) ∧ w.heap.size ≤ G ∧ Dl G a.data.toList b.data.toList w' ∧ Below w.heap.size w w' := by
  have hla : a.data.toList.length = 768 := by rw [← Lib.size_eq]; exact ha
  have hlb : b.data.toList.length = 768 := by rw [← Lib.size_eq]; exact hb
  have h0 := D5.dev_new a b w
  have hnew := dl_new a.data.toList b.data.toList hla hlb
  obtain ⟨X, hX⟩ : ∃ X, (Lib.byteCells a.data.toList).toArray = X := ⟨_, rfl⟩
  obtain ⟨Y, hY⟩ : ∃ Y, (Lib.byteCells b.data.toList).toArray = Y := ⟨_, rfl⟩
  have hXs : X.size = 768 := by rw [← hX]; simp [Lib.byteCells, hla]
  have hYs : Y.size = 768 := by rw [← hY]; simp [Lib.byteCells, hlb]
  obtain ⟨hz0, -⟩ := zero_of_info zeroDev
  obtain ⟨Z0, hZ0, hZ0s⟩ : ∃ Z : Array Value, Z = Array.replicate 1536 (Value.int .u8 0) ∧ Z.size = 1536 := ⟨_, rfl, by rw [Array.size_replicate]⟩
  rw [← hZ0] at hz0
  clear hZ0
  obtain ⟨g1, g2⟩ := A0.fill_two X Y Z0 (by omega)
  simp only [Nat.zero_add, Array.size_zipIdx, hXs, hYs, hZ0s] at g1 g2
  rw [hX, hY] at hnew
  obtain ⟨Z, hZ⟩ : ∃ Z, X ++ Y = Z := ⟨_, rfl⟩
  rw [hZ] at g2 hnew
  go_enter Try.func43, Try.ntmps43
  go_wp2
  obtain ⟨W, hW⟩ : ∃ W, w.alloc (.cells #[.string a, .string b] 25) = W := ⟨_, rfl⟩
  rw [hW] at h0 ⊢
  have c0 := h0.c0
  have c1 := h0.c1
  have hd := Bx_drew h0
  go_region_with (go_at_call 56; refine (cut_bx (B := w.heap.size) (w := w) (a := a) (b := b) _ (by assumption) (by assumption)).mono ?_; rintro e w4 ⟨rfl, h4⟩; (first | rw [hX] | rw [hY]); have d0 := h4.c0; have d1 := h4.c1)
  all_goals
    go_wp2
    go_ret
    exact ⟨w4.heap.size, rfl, h4.bel.size, hnew w4, h4.bel.alloc h4.bel.size _⟩
end Go.Proofs.Ytkpcpffpiilcpaa.A3
