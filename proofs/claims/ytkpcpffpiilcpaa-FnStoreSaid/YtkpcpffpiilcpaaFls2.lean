/- Contracts of the specification's l02Line and Flush. -/
import Derived.Test.YtkpcpffpiilcpaaDev2
import Derived.Test.YtkpcpffpiilcpaaSpecPart1
import Derived.Test.YtkpcpffpiilcpaaMix0
import Derived.Deep.RegionHeld3
namespace Go.Proofs.Ytkpcpffpiilcpaa.F2
open Go.ChangeShapes Go.WideShapes Go.ChangeAt Go.RowKit
open X0 (row mix)
set_option linter.unusedVariables false
set_option linter.unusedSimpArgs false

/-- The lines from the one to the other. -/
def span (x y : Nat) (k : Nat) : Bool := decide (x ≤ k ∧ k ≤ y)
/-- Those of them ahead of one. -/
def upto (x y m : Nat) (k : Nat) : Bool := decide (x ≤ k ∧ k ≤ y ∧ k < m)
theorem upto_step {x y k i : Nat} (hi : i ≠ k) : upto x y k i = upto x y (k + 1) i := by simp only [upto]; congr 1; apply propext; omega

variable {B : Nat} {w W : World} {a b : ByteArray}

theorem set1 (h : D2.Fr B w a b W) (x : ByteArray) : D2.Fr B w a x (W.setCell ⟨B, 1, none⟩ (.string x)) :=
  ⟨(World.cell?_setCell_other _ _ _ _ (by simp)).trans h.c0, World.cell?_setCell_same _ _ _ h.c1, (World.cell?_setCell_other _ _ _ _ (by simp)).trans h.r0, (World.cell?_setCell_other _ _ _ _ (by simp)).trans h.r1,
   by rw [World.frozen?_setCell]; exact h.f0, by rw [World.frozen?_setCell]; exact h.f1, by rw [World.frozen?_setCell]; exact h.g0, by rw [World.frozen?_setCell]; exact h.g1,
   by have := h.lt; simpa [World.setCell] using this, h.bel.setCell (p := ⟨B, 1, none⟩) (Nat.le_refl _) _⟩

theorem wf_of (n : Int) (h0 : -9223372036854775808 ≤ n) (h1 : n ≤ 9223372036854775807) : (Lit.int .i64 n).wf = true := by
  simp [Lit.wf, IntKind.min, IntKind.max, IntKind.signed, IntKind.bits]
  omega

set_option maxHeartbeats 4000000 in
theorem l02Line (a b : ByteArray) (k : Nat) (w : World) (ha : a.size = 768) (hb : b.size = 768) (hk : k < 96) :
    Calls Try.prog 49 #[.agg #[.string a, .string b], .int .i64 (k : Int)] w fun e w' => e = .returned (.agg #[.string a, .string (B5.laid b ((k : Int) * 8) (B2.part a ((k : Int) * 8) 8))]) ∧ Below w.heap.size w w' := by
  have hF := D2.fr_new a b w
  have wk : (Lit.int .i64 ((k : Int) * 8)).wf = true := wf_of _ (by omega) (by omega)
  have hp : (B2.part a ((k : Int) * 8) 8).size = 8 := by rw [X0.part_row a k ha hk]; show (row a.data.toList k).toArray.size = 8; rw [List.size_toArray, X0.row, List.length_take, List.length_drop, ← Lib.size_eq]; omega
  obtain ⟨p, hpp⟩ : ∃ p, B2.part a ((k : Int) * 8) 8 = p := ⟨_, rfl⟩
  rw [hpp] at hp ⊢
  go_enter Try.func49, Try.ntmps49
  go_wp2
  obtain ⟨W, hW⟩ : ∃ W, (w.alloc (.cells #[.string a, .string b] 25)).alloc (.cells #[.string ⟨#[]⟩, .string ⟨#[]⟩] 25) = W := ⟨_, rfl⟩
  rw [hW] at hF ⊢
  have c0 := hF.c0
  have c1 := hF.c1
  have g1 := hF.g1
  have hFd := hF.drew
  have hwr : IntKind.i64.wrap ((k : Int) * 8) = (k : Int) * 8 := by rw [IntKind.wrap_i64]; omega
  have hpt : Hid (∀ W, Calls Try.prog 48 #[.string a, .int .i64 ((k : Int) * 8), .int .i64 8] W fun e w' => e = .returned (.string p) ∧ W = w') := fun W => (B2.spec_Part _ _ _ _ (by unfold maxLen; omega) wk rfl).mono fun _ _ h => ⟨by rw [h.1, hpp], h.2.symm⟩
  clear hpp hW
  go_region_with (first
    | (go_at_call 48; refine (hpt.out _).mono ?_; rintro e w3 ⟨rfl, rfl⟩)
    | (go_at_call 47; refine (D2.spec_with_fr (B := w.heap.size) (w := w) (a := a) (b := b) _ _ _ (by omega) (by omega) hFd).mono ?_; rintro e w4 ⟨rfl, h4⟩; have z0 := h4.c1; have z1 := h4.g1))
  all_goals
    have h5 := set1 h4 (B5.laid b ((k : Int) * 8) p)
    have y0 := h5.c0
    have y1 := h5.c1
    have y2 := h5.r0
    have y3 := h5.r1
    have y4 := h5.f0
    have y5 := h5.f1
    go_wp2
    have q := D2.ret2 (a := a) (b := B5.laid b ((k : Int) * 8) p) y2 y3
    exact bodyPost_ret (v := .agg #[.string a, .string (B5.laid b ((k : Int) * 8) p)]) (by simp [results, Try.results49, go_sem, q.1, q.2]) rfl ⟨rfl, h5.done _ _⟩
end Go.Proofs.Ytkpcpffpiilcpaa.F2
