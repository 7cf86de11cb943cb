/- What the laws over GetInode and Load keep of two inodes that were handed out. -/
import Derived.Test.YtacalabjclclhaaGet4
import Derived.Test.YtacalabjclclhaaMk0
namespace Go.Proofs.Ytacalabjclclhaa.G5
open Go.ChangeShapes Go.WideShapes Go.ChangeAt Go.RowKit
set_option linter.unusedVariables false
set_option linter.unusedSimpArgs false
set_option maxRecDepth 10000

open I0 (val vals)
open I2 (ints)

/-- Two boxed inodes of the same numbers; their rows, apart; what the second's holds now. -/
structure L (w : World) (Bw Bg : Nat) (k o s : Int) (aw ag : Option Addr) (Z M : List Int) (cw cg : Nat) (W : World) : Prop where
  bw : K0.Blk Bw (vals k o s aw Z.length cw) W
  bg : K0.Blk Bg (vals k o s ag Z.length cg) W
  rows : Z = [] ∨ ∃ g1 g2, aw = some ⟨g1, 0, none⟩ ∧ ag = some ⟨g2, 0, none⟩ ∧ w.heap.size ≤ g2 ∧ g1 ≠ g2 ∧ Bw ≠ g2 ∧ Bg ≠ g2 ∧ K0.Blk g1 (ints Z) W ∧ K0.Blk g2 (ints M) W
  bel : Below w.heap.size w W

variable {w W W' : World} {Bw Bg : Nat} {k o s : Int} {aw ag : Option Addr} {Z M : List Int} {cw cg : Nat}

theorem L.below (h : L w Bw Bg k o s aw ag Z M cw cg W) (hb : Below W.heap.size W W') : L w Bw Bg k o s aw ag Z M cw cg W' :=
  ⟨h.bw.below hb, h.bg.below hb, h.rows.imp id fun ⟨g1, g2, e1, e2, h1, h2, h3, h4, k1, k2⟩ => ⟨g1, g2, e1, e2, h1, h2, h3, h4, k1.below hb, k2.below hb⟩, h.bel.trans (hb.mono h.bel.size)⟩
theorem L.alloc (h : L w Bw Bg k o s aw ag Z M cw cg W) (ob : Obj) : L w Bw Bg k o s aw ag Z M cw cg (W.alloc ob) := h.below (K0.below_new _ _)

theorem L.roww (h : L w Bw Bg k o s aw ag Z M cw cg W) : P0.Row W aw Z := by
  rcases h.rows with h0 | ⟨g1, g2, e1, e2, _, _, _, _, k1, k2⟩
  · exact Or.inl h0
  · exact e1 ▸ I2.row_of_blk k1
theorem L.rowg (h : L w Bw Bg k o s aw ag Z Z cw cg W) : P0.Row W ag Z := by
  rcases h.rows with h0 | ⟨g1, g2, e1, e2, _, _, _, _, k1, k2⟩
  · exact Or.inl h0
  · exact e2 ▸ I2.row_of_blk k2

/-- The first inode, boxed; then the second. -/
theorem l_new {w1 w2 : World} (b1 : Below w.heap.size w w1) (o1 : J0.Own w.heap.size w1 aw Z) (b2 : Below (w1.alloc (.cells #[.int .i64 k, .int .i64 o, .int .i64 s, .slice aw Z.length cw] 26)).heap.size (w1.alloc (.cells #[.int .i64 k, .int .i64 o, .int .i64 s, .slice aw Z.length cw] 26)) w2)
    (o2 : J0.Own (w1.alloc (.cells #[.int .i64 k, .int .i64 o, .int .i64 s, .slice aw Z.length cw] 26)).heap.size w2 ag Z) :
    L w w1.heap.size w2.heap.size k o s aw ag Z Z cw cg (w2.alloc (.cells #[.int .i64 k, .int .i64 o, .int .i64 s, .slice ag Z.length cg] 26)) := by
  have hs1 := b1.size
  have hs2 := b2.size
  simp at hs2
  refine ⟨((K0.blk_new (vals k o s aw Z.length cw) w1 26).below b2).alloc _, K0.blk_new (vals k o s ag Z.length cg) w2 26, ?_, ((b1.alloc hs1 _).trans (b2.mono (by simp; omega))).alloc (by omega) _⟩
  rcases o1 with h0 | ⟨g1, e1, hg1, k1⟩
  · exact Or.inl h0
  · rcases o2 with h0 | ⟨g2, e2, hg2, k2⟩
    · exact Or.inl h0
    · simp at hg2
      have l1 := k1.lt
      have l2 := k2.lt
      exact Or.inr ⟨g1, g2, e1, e2, by omega, by omega, by omega, by omega, ((k1.alloc _).below b2).alloc _, k2.alloc _⟩

theorem eq_L (hn : Z.length ≤ 281474976710656) (h : L w Bw Bg k o s aw ag Z Z cw cg W) :
    Calls Try.prog 50 #[val k o s ag Z.length cg, val k o s aw Z.length cw] W fun e w' => e = .returned (.bool true) ∧ L w Bw Bg k o s aw ag Z Z cw cg w' :=
  (I2.eqInode k o s ag aw cg cw Z W hn h.rowg h.roww).mono fun _ _ ⟨he, hb⟩ => ⟨he, h.below hb⟩

theorem eq_M {ah : Option Addr} {ch : Nat} (hn : Z.length ≤ 281474976710656) (h : L w Bw Bg k o s aw ag Z M cw cg W) (hr : P0.Row W ah Z) :
    Calls Try.prog 50 #[val k o s ah Z.length ch, val k o s aw Z.length cw] W fun e w' => e = .returned (.bool true) ∧ L w Bw Bg k o s aw ag Z M cw cg w' :=
  (I2.eqInode k o s ah aw ch cw Z W hn hr h.roww).mono fun _ _ ⟨he, hb⟩ => ⟨he, h.below hb⟩

theorem mark_L (hn : Z.length ≤ 1048576) (h : L w Bw Bg k o s aw ag Z Z cw cg W) :
    Calls Try.prog 51 #[val k o s ag Z.length cg, .int .i64 1] W fun e w' => e = .returned (.int .i64 ((1 + Z.length : Nat) : Int)) ∧ L w Bw Bg k o s aw ag Z (M0.marks Z.length) cw cg w' := by
  rcases h.rows with h0 | ⟨g1, g2, e1, e2, h1, h2, h3, h4, k1, k2⟩
  · subst h0
    exact (M0.markI0 k o s ag cg W).mono fun _ _ ⟨he, hb⟩ => ⟨he, (h.below hb).bw, (h.below hb).bg, Or.inl rfl, (h.below hb).bel⟩
  · subst e2
    have hz : (ints Z).length = Z.length := by simp
    have := M0.markI k o s g2 cg (ints Z) W (by omega) k2
    rw [hz] at this
    refine this.mono fun _ w' ⟨he, hk, hg⟩ => ⟨he, M0.blk_grown h.bw hg h3, M0.blk_grown h.bg hg h4, Or.inr ⟨g1, g2, e1, rfl, h1, h2, h3, h4, M0.blk_grown k1 hg h2, hk⟩, ?_⟩
    exact F0.below_grown h.bel hg (fun g' e => by obtain rfl := Option.some.inj e; exact h1) h.bel.size

theorem held_L (hn : Z.length ≤ 1048576) (h : L w Bw Bg k o s aw ag Z (M0.marks Z.length) cw cg W) :
    Calls Try.prog 52 #[val k o s ag Z.length cg, .int .i64 1] W fun e w' => e = .returned (.int .i64 ((1 + Z.length : Nat) : Int)) ∧ L w Bw Bg k o s aw ag Z (M0.marks Z.length) cw cg w' := by
  rcases h.rows with h0 | ⟨g1, g2, e1, e2, h1, h2, h3, h4, k1, k2⟩
  · subst h0
    exact (M0.heldI0 k o s ag cg W).mono fun _ _ ⟨he, hb⟩ => ⟨he, h.below hb⟩
  · subst e2
    exact (M0.heldI k o s g2 cg Z.length W hn k2).mono fun _ _ ⟨he, hb⟩ => ⟨he, h.below hb⟩
end Go.Proofs.Ytacalabjclclhaa.G5
