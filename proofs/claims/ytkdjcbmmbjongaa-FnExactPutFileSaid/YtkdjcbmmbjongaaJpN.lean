/- Joined texts: plain facts and contracts, as each part says. -/
import Derived.Test.YtkdjcbmmbjongaaJpM
import Derived.Test.YtkdjcbmmbjongaaJpF

/- What the exact laws over loans that hand out puts keep. -/
namespace Go.Proofs.Ytkdjcbmmbjongaa.PK
open Go.ChangeShapes Go.WideShapes Go.ChangeAt Go.RowKit
set_option linter.unusedVariables false
set_option linter.unusedSimpArgs false
set_option maxRecDepth 10000

open N0 (Ln)
open N1 (Sl val vals Lists FitM LB lb_new)
open N4 (T t_new at3 Cp put8 other8 bel8)
open N12 (A)
open I2 (ints)
open T5 (Mk)
open N15 (a_grown mark_at)

/-- The law's loan, boxed; a copy of it, boxed; two rows that were handed out, the first ahead of the copy, the second behind it; what the second holds now. -/
structure K (w : World) (d : Ln) (s : Sl) (f1 f2 f3 B B2 : Nat) (v1 v2 v3 : List Value) (aw ag : Option Addr) (Z M : List T0.Ent) (W : World) : Prop where
  a : A w d s W
  n : LB B d (at3 d f1 f2 f3) W
  lo : w.heap.size < f1 ∧ f1 < f2 ∧ f2 < f3 ∧ f3 < B
  le2 : B ≤ B2
  k1 : v1.length = d.pg.length ∧ K0.Blk f1 v1 W
  k2 : v2.length = d.po.length ∧ K0.Blk f2 v2 W
  k3 : v3.length = d.fr.length ∧ K0.Blk f3 v3 W
  rows : Z = [] ∨ ∃ g1 g2, aw = some ⟨g1, 0, none⟩ ∧ ag = some ⟨g2, 0, none⟩ ∧ w.heap.size < g1 ∧ g1 < f1 ∧ B2 < g2 ∧ Mk g1 Z.length Z Z.length W ∧ Mk g2 Z.length M Z.length W

variable {w W W' : World} {d : Ln} {s : Sl} {f1 f2 f3 B B2 : Nat} {v1 v2 v3 : List Value} {aw ag : Option Addr} {Z M : List T0.Ent}

theorem K.below (h : K w d s f1 f2 f3 B B2 v1 v2 v3 aw ag Z M W) (hb : Below W.heap.size W W') : K w d s f1 f2 f3 B B2 v1 v2 v3 aw ag Z M W' :=
  ⟨h.a.below hb, h.n.below hb, h.lo, h.le2, ⟨h.k1.1, h.k1.2.below hb⟩, ⟨h.k2.1, h.k2.2.below hb⟩, ⟨h.k3.1, h.k3.2.below hb⟩, h.rows.imp id fun ⟨g1, g2, e1, e2, l1, l2, l3, b1, b2⟩ => ⟨g1, g2, e1, e2, l1, l2, l3, b1.below hb, b2.below hb⟩⟩
theorem K.drew (h : K w d s f1 f2 f3 B B2 v1 v2 v3 aw ag Z M W) : K w d s f1 f2 f3 B B2 v1 v2 v3 aw ag Z M W.drew := h.below ((Below.refl _ _).drew)

theorem K.roww (h : K w d s f1 f2 f3 B B2 v1 v2 v3 aw ag Z M W) : T0.Row W aw Z := by
  rcases h.rows with h0 | ⟨g1, g2, e1, e2, _, _, _, b1, b2⟩
  · exact Or.inl h0
  · exact e1 ▸ V5.mk_row b1
theorem K.rowg (h : K w d s f1 f2 f3 B B2 v1 v2 v3 aw ag Z Z W) : T0.Row W ag Z := by
  rcases h.rows with h0 | ⟨g1, g2, e1, e2, _, _, _, b1, b2⟩
  · exact Or.inl h0
  · exact e2 ▸ V5.mk_row b2
theorem K.lists (h : K w d s f1 f2 f3 B B2 (ints d.pg) (ints d.po) (ints d.fr) aw ag Z M W) : Lists W d (at3 d f1 f2 f3) := ⟨I2.row_of_blk h.k1.2, I2.row_of_blk h.k2.2, I2.row_of_blk h.k3.2⟩

/-- The first row, then the copy, boxed, then what may lie between, then the second row. -/
theorem k_new {w3 w4 wm w5 : World} (h3 : A w d s w3) (o3 : V1.OwnE (w.heap.size + 1) w3 aw Z) (h4 : Below w3.heap.size w3 w4) (cp : Cp w3.heap.size d f1 f2 f3 w4) (n12 : f1 < f2) (n23 : f2 < f3)
    (hm : Below (w4.alloc (.cells #[.int .i64 d.ino, .int .i64 d.cl, .int .i64 d.un, .string d.rc, .slice (at3 d f1 f2 f3).a1 d.pg.length (at3 d f1 f2 f3).c1, .string d.sav, .slice (at3 d f1 f2 f3).a2 d.po.length (at3 d f1 f2 f3).c2, .slice (at3 d f1 f2 f3).a3 d.fr.length (at3 d f1 f2 f3).c3] 35)).heap.size (w4.alloc (.cells #[.int .i64 d.ino, .int .i64 d.cl, .int .i64 d.un, .string d.rc, .slice (at3 d f1 f2 f3).a1 d.pg.length (at3 d f1 f2 f3).c1, .string d.sav, .slice (at3 d f1 f2 f3).a2 d.po.length (at3 d f1 f2 f3).c2, .slice (at3 d f1 f2 f3).a3 d.fr.length (at3 d f1 f2 f3).c3] 35)) wm) (h5 : Below wm.heap.size wm w5) (o5 : V1.OwnE wm.heap.size w5 ag Z) (hB1 : w4.heap.size ≤ B2) (hB2 : B2 < wm.heap.size) : K w d s f1 f2 f3 w4.heap.size B2 (ints d.pg) (ints d.po) (ints d.fr) aw ag Z Z w5 := by
  have hs3 := h3.b.b.lt
  have q1 := cp.h1
  have q3 := cp.k3.lt
  have h5' : Below (w4.alloc (.cells #[.int .i64 d.ino, .int .i64 d.cl, .int .i64 d.un, .string d.rc, .slice (at3 d f1 f2 f3).a1 d.pg.length (at3 d f1 f2 f3).c1, .string d.sav, .slice (at3 d f1 f2 f3).a2 d.po.length (at3 d f1 f2 f3).c2, .slice (at3 d f1 f2 f3).a3 d.fr.length (at3 d f1 f2 f3).c3] 35)).heap.size (w4.alloc (.cells #[.int .i64 d.ino, .int .i64 d.cl, .int .i64 d.un, .string d.rc, .slice (at3 d f1 f2 f3).a1 d.pg.length (at3 d f1 f2 f3).c1, .string d.sav, .slice (at3 d f1 f2 f3).a2 d.po.length (at3 d f1 f2 f3).c2, .slice (at3 d f1 f2 f3).a3 d.fr.length (at3 d f1 f2 f3).c3] 35)) w5 := hm.trans (h5.mono hm.size)
  refine ⟨((h3.below h4).below (K0.below_new _ _)).below h5', (lb_new d (at3 d f1 f2 f3) w4 35).below h5', ⟨by omega, n12, n23, q3⟩, hB1, ⟨by simp, (cp.k1.alloc _).below h5'⟩, ⟨by simp, (cp.k2.alloc _).below h5'⟩, ⟨by simp, (cp.k3.alloc _).below h5'⟩, ?_⟩
  rcases o3 with h0 | ⟨g1, e1, l1, b1⟩
  · exact Or.inl h0
  · rcases o5 with h0 | ⟨g2, e2, l2, b2⟩
    · exact Or.inl h0
    · have := b1.lt
      exact Or.inr ⟨g1, g2, e1, e2, by omega, by omega, by omega, ((b1.below h4).below (K0.below_new _ _)).below h5', b2⟩

/-- What is kept when a row of the copy is marked. -/
structure K' (w : World) (d : Ln) (s : Sl) (f1 f2 f3 B : Nat) (aw ag : Option Addr) (Z M : List T0.Ent) (W : World) : Prop where
  a : A w d s W
  rows : Z = [] ∨ ∃ g1 g2, aw = some ⟨g1, 0, none⟩ ∧ ag = some ⟨g2, 0, none⟩ ∧ w.heap.size < g1 ∧ g1 < f1 ∧ B < g2 ∧ Mk g1 Z.length Z Z.length W ∧ Mk g2 Z.length M Z.length W
  lo : w.heap.size < f1 ∧ f1 < f2 ∧ f2 < f3 ∧ f3 < B

theorem K'.below (h : K' w d s f1 f2 f3 B aw ag Z M W) (hb : Below W.heap.size W W') : K' w d s f1 f2 f3 B aw ag Z M W' :=
  ⟨h.a.below hb, h.rows.imp id fun ⟨g1, g2, e1, e2, l1, l2, l3, b1, b2⟩ => ⟨g1, g2, e1, e2, l1, l2, l3, b1.below hb, b2.below hb⟩, h.lo⟩
theorem K'.grown {g : Nat} (h : K' w d s f1 f2 f3 B aw ag Z M W) (hR : Lists w d s) (hg : W.grownBy W' (some g)) (h1 : f1 ≤ g) (h2 : g < B) : K' w d s f1 f2 f3 B aw ag Z M W' :=
  ⟨a_grown h.a hR hg (by have := h.lo; omega), h.rows.imp id fun ⟨g1, g2, e1, e2, l1, l2, l3, b1, b2⟩ => ⟨g1, g2, e1, e2, l1, l2, l3, V4.mk_grown b1 hg (by omega), V4.mk_grown b2 hg (by omega)⟩, h.lo⟩
theorem K'.roww (h : K' w d s f1 f2 f3 B aw ag Z M W) : T0.Row W aw Z := by
  rcases h.rows with h0 | ⟨g1, g2, e1, e2, _, _, _, b1, b2⟩
  · exact Or.inl h0
  · exact e1 ▸ V5.mk_row b1
theorem K'.rowg (h : K' w d s f1 f2 f3 B aw ag Z Z W) : T0.Row W ag Z := by
  rcases h.rows with h0 | ⟨g1, g2, e1, e2, _, _, _, b1, b2⟩
  · exact Or.inl h0
  · exact e2 ▸ V5.mk_row b2

set_option maxHeartbeats 2000000 in
theorem markLoan (hR : Lists w d s) (hp : d.pg.length ≤ 1048576) (ho : d.po.length ≤ 1048576) (hf : d.fr.length ≤ 1048576) (h : K w d s f1 f2 f3 B B2 v1 v2 v3 aw ag Z M W) :
    Calls Try.prog 15 #[val d (at3 d f1 f2 f3), .int .i64 1] W fun e w' => (∃ q : Nat, e = .returned (.int .i64 (q : Int))) ∧ K' w d s f1 f2 f3 B2 aw ag Z M w' := by
  have h0 := h.below (K0.below_new W (.cells #[.int .i64 d.ino, .int .i64 d.cl, .int .i64 d.un, .string d.rc, .slice (at3 d f1 f2 f3).a1 d.pg.length (at3 d f1 f2 f3).c1, .string d.sav, .slice (at3 d f1 f2 f3).a2 d.po.length (at3 d f1 f2 f3).c2, .slice (at3 d f1 f2 f3).a3 d.fr.length (at3 d f1 f2 f3).c3] 35))
  have bx := lb_new d (at3 d f1 f2 f3) W 35
  have hlo := h.lo
  have hle2 := h.le2
  have hBlt := h.n.b.lt
  have k0 : K' w d s f1 f2 f3 B2 aw ag Z M _ := ⟨h0.a, h0.rows, by have := h0.lo; have := h0.le2; omega⟩
  have m1 := R5.markAny f1 d.pg.length v1 1 _ (by rw [h0.k1.1]; exact hp) (by omega) h0.k1.2
  rw [h0.k1.1] at m1
  have K2 := h0.k2
  have K3 := h0.k3
  clear h h0
  go_enter Try.func15, Try.ntmps15
  go_wp2_with (first
    | (go_at_call 33; have hg2' := hg2; refine (mark_at (k := 1 + d.pg.length + d.po.length) (c := d.fr.length) k32 hf (by omega)).mono ?_; rintro e w3 ⟨rfl, hg3⟩; have k3 := k2.grown hR hg3 (by omega) (by omega))
    | (go_at_call 33; have hg1' := hg1; refine (mark_at (k := 1 + d.pg.length) (c := d.po.length) k21 ho (by omega)).mono ?_; rintro e w2 ⟨rfl, hg2⟩; have k2 := k1.grown hR hg2 (by omega) (by omega); have k32 : v3.length = d.fr.length ∧ K0.Blk f3 v3 w2 := ⟨k31.1, M0.blk_grown k31.2 hg2 (by omega)⟩; have b2 : LB W.heap.size d (at3 d f1 f2 f3) w2 := ⟨M0.blk_grown b1.b hg2 (by omega)⟩; have c7 := b2.c7)
    | (go_at_call 33; refine m1.mono ?_; rintro e w1 ⟨rfl, hg1⟩; have k1 := k0.grown hR hg1 (by omega) (by omega); have k21 : v2.length = d.po.length ∧ K0.Blk f2 v2 w1 := ⟨K2.1, M0.blk_grown K2.2 hg1 (by omega)⟩; have k31 : v3.length = d.fr.length ∧ K0.Blk f3 v3 w1 := ⟨K3.1, M0.blk_grown K3.2 hg1 (by omega)⟩; have b1 : LB W.heap.size d (at3 d f1 f2 f3) w1 := ⟨M0.blk_grown bx.b hg1 (by omega)⟩; have c6 := b1.c6))
  go_ret
  exact ⟨⟨_, rfl⟩, k3⟩

theorem eq_p (a1 a2 : Option Addr) (c1 c2 : Nat) (w : World) (hN : Z.length ≤ 1048576) (h1 : T0.Row w a1 Z) (h2 : T0.Row w a2 Z) :
    Calls Try.prog 9 #[.slice a1 Z.length c1, .slice a2 Z.length c2] w fun e w' => e = .returned (.bool true) ∧ Below w.heap.size w w' := PP.eqPutS a1 a2 c1 c2 Z w hN h1 h2

theorem mark_p {cg : Nat} (hR : Lists w d s) (hN : Z.length ≤ 1048576) (h : K' w d s f1 f2 f3 B aw ag Z Z W) :
    Calls Try.prog 16 #[.slice ag Z.length cg, .int .i64 1] W fun e w' => e = .returned (.int .i64 ((1 + 2 * Z.length : Nat) : Int)) ∧ K' w d s f1 f2 f3 B aw ag Z (V4.em Z.length) w' := by
  rcases h.rows with h0 | ⟨g1, g2, e1, e2, l1, l2, l3, b1, b2⟩
  · subst h0
    exact (PQ.markNone ag cg W).mono fun _ _ ⟨he, hw⟩ => ⟨he, by rw [hw]; exact ⟨h.a, Or.inl rfl, h.lo⟩⟩
  · subst e2
    exact (PQ.markPutS g2 cg Z.length W hN (V5.start b2)).mono fun _ w' ⟨he, hk, hg⟩ => ⟨he, a_grown h.a hR hg (by have := h.lo; omega), Or.inr ⟨g1, g2, e1, rfl, l1, l2, l3, V4.mk_grown b1 hg (by have := h.lo; omega), hk⟩, h.lo⟩

theorem held_p {cg : Nat} (hN : Z.length ≤ 1048576) (h : K' w d s f1 f2 f3 B aw ag Z (V4.em Z.length) W) :
    Calls Try.prog 17 #[.slice ag Z.length cg, .int .i64 1] W fun e w' => e = .returned (.int .i64 ((1 + 2 * Z.length : Nat) : Int)) ∧ K' w d s f1 f2 f3 B aw ag Z (V4.em Z.length) w' := by
  rcases h.rows with h0 | ⟨g1, g2, e1, e2, l1, l2, l3, b1, b2⟩
  · subst h0
    exact (PQ.heldNone ag cg W).mono fun _ _ ⟨he, hw⟩ => ⟨he, by rw [hw]; exact h⟩
  · subst e2
    exact (PQ.heldPutS g2 cg Z.length W hN b2).mono fun _ _ ⟨he, hb⟩ => ⟨he, h.below hb⟩
end Go.Proofs.Ytkdjcbmmbjongaa.PK
