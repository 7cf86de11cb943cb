/- What the law over Dirty keeps of its argument and of two rows of numbers that were handed out. -/
import Derived.Test.YtkpcpffpiilcpaaDrt2
import Derived.Test.YtkpcpffpiilcpaaMkI
import Derived.Test.YtkpcpffpiilcpaaDev5
namespace Go.Proofs.Ytkpcpffpiilcpaa.Y3
open Go.ChangeShapes Go.WideShapes Go.ChangeAt Go.RowKit
open I2 (ints)
set_option linter.unusedVariables false
set_option linter.unusedSimpArgs false
set_option maxRecDepth 10000

/-- The argument in its cells; two rows, apart; what the second holds now. -/
structure L (w : World) (a b : ByteArray) (aw ag : Option Addr) (Z M : List Int) (W : World) : Prop where
  bx : D5.Bx w.heap.size w a b W
  rows : Z = [] ∨ ∃ g1 g2, aw = some ⟨g1, 0, none⟩ ∧ ag = some ⟨g2, 0, none⟩ ∧ w.heap.size < g2 ∧ g1 ≠ g2 ∧ K0.Blk g1 (ints Z) W ∧ K0.Blk g2 (ints M) W

variable {w W W' : World} {a b : ByteArray} {aw ag : Option Addr} {Z M : List Int} {cw cg : Nat}

theorem L.below (h : L w a b aw ag Z M W) (hb : Below W.heap.size W W') : L w a b aw ag Z M W' :=
  ⟨h.bx.below hb, h.rows.imp id fun ⟨g1, g2, e1, e2, h1, h2, k1, k2⟩ => ⟨g1, g2, e1, e2, h1, h2, k1.below hb, k2.below hb⟩⟩

theorem L.roww (h : L w a b aw ag Z M W) : P0.Row W aw Z := by
  rcases h.rows with h0 | ⟨g1, g2, e1, e2, _, _, k1, k2⟩
  · exact Or.inl h0
  · exact e1 ▸ I2.row_of_blk k1
theorem L.rowg (h : L w a b aw ag Z Z W) : P0.Row W ag Z := by
  rcases h.rows with h0 | ⟨g1, g2, e1, e2, _, _, k1, k2⟩
  · exact Or.inl h0
  · exact e2 ▸ I2.row_of_blk k2

theorem l_new {w1 w2 w3 w4 : World} (h1 : D5.Bx w.heap.size w a b w1) (b2 : Below w1.heap.size w1 w2) (o2 : J0.Own w1.heap.size w2 aw Z) (b3 : Below w2.heap.size w2 w3) (b4 : Below w3.heap.size w3 w4) (o4 : J0.Own w3.heap.size w4 ag Z) : L w a b aw ag Z Z w4 := by
  have hl := h1.lt
  have s2 := b2.size
  have s3 := b3.size
  refine ⟨((h1.below b2).below b3).below b4, ?_⟩
  rcases o2 with h0 | ⟨g1, e1, hg1, k1⟩
  · exact Or.inl h0
  · rcases o4 with h0 | ⟨g2, e2, hg2, k2⟩
    · exact Or.inl h0
    · have l1 := k1.lt
      exact Or.inr ⟨g1, g2, e1, e2, by omega, by omega, (k1.below b3).below b4, k2⟩

theorem below_drewN (W : World) (n : Nat) : Below W.heap.size W (W.drewN n) := K0.below_drewN (Below.refl _ _) n

theorem eq_L (hn : Z.length ≤ 1048576) (h : L w a b aw ag Z Z W) :
    Calls Try.prog 29 #[.slice ag Z.length cg, .slice aw Z.length cw] W fun e w' => e = .returned (.bool true) ∧ L w a b aw ag Z Z w' :=
  (I2.eqIntS ag aw cg cw Z W (by omega) h.rowg h.roww).mono fun _ _ ⟨he, n, hb⟩ => ⟨he, by rw [hb]; exact h.below (below_drewN _ _)⟩

theorem eq_M {ah : Option Addr} {ch : Nat} (hn : Z.length ≤ 1048576) (h : L w a b aw ag Z M W) (hr : P0.Row W ah Z) :
    Calls Try.prog 29 #[.slice ah Z.length ch, .slice aw Z.length cw] W fun e w' => e = .returned (.bool true) ∧ L w a b aw ag Z M w' :=
  (I2.eqIntS ah aw ch cw Z W (by omega) hr h.roww).mono fun _ _ ⟨he, n, hb⟩ => ⟨he, by rw [hb]; exact h.below (below_drewN _ _)⟩

theorem bx_grown {B g : Nat} (h : D5.Bx B w a b W) (hg : W.grownBy W' (some g)) (hne : B ≠ g) (hB : B ≤ g) : D5.Bx B w a b W' := by
  have hb : W'.heap[B]? = W.heap[B]? := hg.block B h.lt (fun e => hne (Option.some.inj e))
  exact ⟨(World.cell?_of_block (a := ⟨B, 0, none⟩) hb).trans h.c0, (World.cell?_of_block (a := ⟨B, 1, none⟩) hb).trans h.c1, Nat.lt_of_lt_of_le h.lt hg.size, I4.below_grown h.bel hg (fun g' e => by obtain rfl := Option.some.inj e; exact hB) (Nat.le_of_lt h.lt)⟩

theorem mark_L (hn : Z.length ≤ 1048576) (h : L w a b aw ag Z Z W) :
    Calls Try.prog 30 #[.slice ag Z.length cg, .int .i64 1] W fun e w' => e = .returned (.int .i64 ((1 + Z.length : Nat) : Int)) ∧ L w a b aw ag Z (M0.marks Z.length) w' := by
  rcases h.rows with h0 | ⟨g1, g2, e1, e2, h1, h2, k1, k2⟩
  · subst h0
    exact (M0.markNone ag cg W).mono fun _ _ ⟨he, hb⟩ => ⟨he, by rw [hb]; exact ⟨h.bx, Or.inl rfl⟩⟩
  · subst e2
    have hl : (ints Z).length = Z.length := by simp
    have hm := M0.markIntS g2 cg (ints Z) W (by omega) k2
    rw [hl] at hm
    exact hm.mono fun _ w' ⟨he, hk, hg⟩ => ⟨he, bx_grown h.bx hg (by omega) (by omega), Or.inr ⟨g1, g2, e1, rfl, h1, h2, M0.blk_grown k1 hg h2, hk⟩⟩

theorem held_L (hn : Z.length ≤ 1048576) (h : L w a b aw ag Z (M0.marks Z.length) W) :
    Calls Try.prog 31 #[.slice ag Z.length cg, .int .i64 1] W fun e w' => e = .returned (.int .i64 ((1 + Z.length : Nat) : Int)) ∧ L w a b aw ag Z (M0.marks Z.length) w' := by
  rcases h.rows with h0 | ⟨g1, g2, e1, e2, h1, h2, k1, k2⟩
  · subst h0
    exact (M0.heldNone ag cg W).mono fun _ _ ⟨he, hb⟩ => ⟨he, by rw [hb]; exact h⟩
  · subst e2
    exact (M0.heldIntS g2 cg Z.length W hn k2).mono fun _ _ ⟨he, hb⟩ => ⟨he, by rw [hb]; exact h⟩
end Go.Proofs.Ytkpcpffpiilcpaa.Y3
