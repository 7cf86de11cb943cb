/- Joined texts: plain facts and contracts, as each part says. -/
import Derived.Test.YtpkicoagakpigaaJrJ

/- What the exact laws over loans that hand out rows keep; contracts of laws.toLoan, its lists apart, and of laws.markLoan. -/
namespace Go.Proofs.Ytpkicoagakpigaa.N15
open Go.ChangeShapes Go.WideShapes Go.ChangeAt Go.RowKit
set_option linter.unusedVariables false
set_option linter.unusedSimpArgs false
set_option maxRecDepth 10000

open N0 (Ln)
open N1 (Sl val vals Lists FitM LB lb_new)
open N4 (T t_new at3 Cp put8 other8 bel8)
open N12 (A)
open I2 (ints)

set_option maxHeartbeats 4000000 in
theorem toLoan (d : Ln) (s : Sl) (w : World) (hp : d.pg.length ≤ 1048576) (ho : d.po.length ≤ 1048576) (hf : d.fr.length ≤ 1048576) (hR : Lists w d s) :
    Calls Try.prog 34 #[val d s] w fun e w' => ∃ g1 g2 g3, e = .returned (val d (at3 d g1 g2 g3)) ∧ Cp w.heap.size d g1 g2 g3 w' ∧ g1 < g2 ∧ g2 < g3 ∧ Below w.heap.size w w' := by
  have t0 := t_new w d s
  have HL : Hid (∀ W, Below w.heap.size w W → Lists W d s) := fun W hb => hR.below hb
  have r0 := (HL.out _ t0.bel).r1
  clear hR
  go_enter Try.func34, Try.ntmps34
  go_wp2_with (first
    | (go_at_call 84; have q2' := q2; refine (I2.toIntS s.a3 s.c3 d.fr _ hf q2).mono ?_; rintro e w3 ⟨g3, rfl, hg3, k3, b3⟩; have n23 : g2 < g3 := (by have hq := (k2.setOther (B' := w.heap.size + 2) (by omega) 6 (.slice (some ⟨g2, 0, none⟩) d.po.length d.po.length)).lt; omega); have t3 := u2.below b3; have m1 := l2.below b3; have m2 := (k2.setOther (B' := w.heap.size + 2) (by omega) 6 (.slice (some ⟨g2, 0, none⟩) d.po.length d.po.length)).below b3; have z7 := t3.tmp.cell 7 (by simp); have y7 := t3.tmp.free 7 (by simp); have z0 := t3.tmp.cell 0 (by simp); have z1 := t3.tmp.cell 1 (by simp); have z2 := t3.tmp.cell 2 (by simp); have z3 := t3.tmp.cell 3 (by simp); have z4 := t3.tmp.cell 4 (by simp); have z5 := t3.tmp.cell 5 (by simp); have z6 := t3.tmp.cell 6 (by simp); simp only [List.set_cons_zero, List.set_cons_succ, List.getElem_cons_zero, List.getElem_cons_succ] at z0 z1 z2 z3 z4 z5 z6 z7; have i0 := t3.res.cell 0 (by simp); have i1 := t3.res.cell 1 (by simp); have i2 := t3.res.cell 2 (by simp); have i3 := t3.res.cell 3 (by simp); have i4 := t3.res.cell 4 (by simp); have i5 := t3.res.cell 5 (by simp); have i6 := t3.res.cell 6 (by simp); have i7 := t3.res.cell 7 (by simp); simp only [List.getElem_cons_zero, List.getElem_cons_succ] at i0 i1 i2 i3 i4 i5 i6 i7; have j0 := t3.res.free 0 (by simp); have j1 := t3.res.free 1 (by simp); have j2 := t3.res.free 2 (by simp); have j3 := t3.res.free 3 (by simp); have j4 := t3.res.free 4 (by simp); have j5 := t3.res.free 5 (by simp); have j6 := t3.res.free 6 (by simp); have j7 := t3.res.free 7 (by simp))
    | (go_at_call 84; have q1' := q1; refine (I2.toIntS s.a2 s.c2 d.po _ ho q1).mono ?_; rintro e w2 ⟨g2, rfl, hg2, k2, b2⟩; have t2 := u1.below b2; have l2 := ((k1.setOther (B' := w.heap.size + 2) (by omega) 4 (.slice (some ⟨g1, 0, none⟩) d.pg.length d.pg.length)).setOther (B' := w.heap.size + 2) (by omega) 5 (.string d.sav)).below b2; have n12 : g1 < g2 := (by have hq := ((k1.setOther (B' := w.heap.size + 2) (by omega) 4 (.slice (some ⟨g1, 0, none⟩) d.pg.length d.pg.length)).setOther (B' := w.heap.size + 2) (by omega) 5 (.string d.sav)).lt; omega); have hg2' : w.heap.size + 3 ≤ g2 := (by have hq := u1.tmp.lt; omega); have l2 := l2.setOther (B' := w.heap.size + 2) (by omega) 6 (.slice (some ⟨g2, 0, none⟩) d.po.length d.po.length); have c7 := t2.arg.c7; have x6 := t2.tmp.cell 6 (by simp); have y6 := t2.tmp.free 6 (by simp); simp only [List.set_cons_zero, List.set_cons_succ, List.getElem_cons_zero, List.getElem_cons_succ] at x6; have u2 := t2.set 6 (.slice (some ⟨g2, 0, none⟩) d.po.length d.po.length); have q2 := (HL.out _ u2.bel).r3)
    | (go_at_call 84; refine (I2.toIntS s.a1 s.c1 d.pg _ hp r0).mono ?_; rintro e w1 ⟨g1, rfl, hg1, k1, b1⟩; have t1 := t0.below b1; have hg1' : w.heap.size + 3 ≤ g1 := (by have hq := t0.tmp.lt; omega); have c5 := t1.arg.c5; have c6 := t1.arg.c6; have x4 := t1.tmp.cell 4 (by simp); have y4 := t1.tmp.free 4 (by simp); have x5 := t1.tmp.cell 5 (by simp); have y5 := t1.tmp.free 5 (by simp); simp only [List.getElem_cons_zero, List.getElem_cons_succ] at x4 x5; have u1 := (t1.set 4 (.slice (some ⟨g1, 0, none⟩) d.pg.length d.pg.length)).set 5 (.string d.sav); have q1 := (HL.out _ u1.bel).r2))
  have hg3' : w.heap.size + 3 ≤ g3 := by
    have := u2.tmp.lt
    simp at hg3 this
    omega
  have u3 := t3.set 7 (.slice (some ⟨g3, 0, none⟩) d.fr.length d.fr.length)
  have q := put8 (y0 := .int .i64 d.ino) (y1 := .int .i64 d.cl) (y2 := .int .i64 d.un) (y3 := .string d.rc) (y4 := .slice (some ⟨g1, 0, none⟩) d.pg.length d.pg.length) (y5 := .string d.sav) (y6 := .slice (some ⟨g2, 0, none⟩) d.po.length d.po.length) (y7 := .slice (some ⟨g3, 0, none⟩) d.fr.length d.fr.length) u3.res
  have v0 := q.cell 0 (by simp)
  have v1 := q.cell 1 (by simp)
  have v2 := q.cell 2 (by simp)
  have v3 := q.cell 3 (by simp)
  have v4 := q.cell 4 (by simp)
  have v5 := q.cell 5 (by simp)
  have v6 := q.cell 6 (by simp)
  have v7 := q.cell 7 (by simp)
  simp only [List.getElem_cons_zero, List.getElem_cons_succ] at v0 v1 v2 v3 v4 v5 v6 v7
  refine bodyPost_ret (v := val d (at3 d g1 g2 g3)) (by simp [results, Try.results34, go_sem, v0, v1, v2, v3, v4, v5, v6, v7, at3]) rfl ⟨g1, g2, g3, rfl, ⟨by omega, by omega, by omega, ?_, ?_, ?_⟩, n12, n23, ?_⟩
  · exact other8 (m1.setOther (B' := w.heap.size + 2) (by omega) 7 _) (by omega) _ _ _ _ _ _ _ _
  · exact other8 (m2.setOther (B' := w.heap.size + 2) (by omega) 7 _) (by omega) _ _ _ _ _ _ _ _
  · exact other8 (k3.setOther (B' := w.heap.size + 2) (by omega) 7 _) (by omega) _ _ _ _ _ _ _ _
  · exact bel8 u3.bel (by omega) _ _ _ _ _ _ _ _

theorem mark_at {g c k : Nat} {vs : List Value} {L : Nat} {W : World} (h : vs.length = L ∧ K0.Blk g vs W) (hn : L ≤ 1048576) (h0 : k ≤ 1099511627776) :
    Calls Try.prog 50 #[.slice (some ⟨g, 0, none⟩) L c, .int .i64 (k : Int)] W fun e w' => e = .returned (.int .i64 ((k + L : Nat) : Int)) ∧ W.grownBy w' (some g) := by
  obtain ⟨rfl, hb⟩ := h
  exact R5.markAny g c vs k W hn h0 hb

/-- The law's loan, boxed; a copy of it, boxed; two rows that were handed out, the first ahead of the copy, the second behind it; what the second holds now. -/
structure K (w : World) (d : Ln) (s : Sl) (f1 f2 f3 B : Nat) (v1 v2 v3 : List Value) (aw ag : Option Addr) (Z M : List Int) (W : World) : Prop where
  a : A w d s W
  n : LB B d (at3 d f1 f2 f3) W
  lo : w.heap.size < f1 ∧ f1 < f2 ∧ f2 < f3 ∧ f3 < B
  k1 : v1.length = d.pg.length ∧ K0.Blk f1 v1 W
  k2 : v2.length = d.po.length ∧ K0.Blk f2 v2 W
  k3 : v3.length = d.fr.length ∧ K0.Blk f3 v3 W
  rows : Z = [] ∨ ∃ g1 g2, aw = some ⟨g1, 0, none⟩ ∧ ag = some ⟨g2, 0, none⟩ ∧ w.heap.size < g1 ∧ g1 < f1 ∧ B < g2 ∧ K0.Blk g1 (ints Z) W ∧ K0.Blk g2 (ints M) W

variable {w W W' : World} {d : Ln} {s : Sl} {f1 f2 f3 B : Nat} {v1 v2 v3 : List Value} {aw ag : Option Addr} {Z M : List Int}

theorem K.below (h : K w d s f1 f2 f3 B v1 v2 v3 aw ag Z M W) (hb : Below W.heap.size W W') : K w d s f1 f2 f3 B v1 v2 v3 aw ag Z M W' :=
  ⟨h.a.below hb, h.n.below hb, h.lo, ⟨h.k1.1, h.k1.2.below hb⟩, ⟨h.k2.1, h.k2.2.below hb⟩, ⟨h.k3.1, h.k3.2.below hb⟩, h.rows.imp id fun ⟨g1, g2, e1, e2, l1, l2, l3, b1, b2⟩ => ⟨g1, g2, e1, e2, l1, l2, l3, b1.below hb, b2.below hb⟩⟩
theorem K.drew (h : K w d s f1 f2 f3 B v1 v2 v3 aw ag Z M W) : K w d s f1 f2 f3 B v1 v2 v3 aw ag Z M W.drew := h.below ((Below.refl _ _).drew)

theorem K.roww (h : K w d s f1 f2 f3 B v1 v2 v3 aw ag Z M W) : P0.Row W aw Z := by
  rcases h.rows with h0 | ⟨g1, g2, e1, e2, _, _, _, b1, b2⟩
  · exact Or.inl h0
  · exact e1 ▸ I2.row_of_blk b1
theorem K.rowg (h : K w d s f1 f2 f3 B v1 v2 v3 aw ag Z Z W) : P0.Row W ag Z := by
  rcases h.rows with h0 | ⟨g1, g2, e1, e2, _, _, _, b1, b2⟩
  · exact Or.inl h0
  · exact e2 ▸ I2.row_of_blk b2
theorem K.lists (h : K w d s f1 f2 f3 B (ints d.pg) (ints d.po) (ints d.fr) aw ag Z M W) : Lists W d (at3 d f1 f2 f3) := ⟨I2.row_of_blk h.k1.2, I2.row_of_blk h.k2.2, I2.row_of_blk h.k3.2⟩

/-- The first row, then the copy, boxed, then the second row. -/
theorem k_new {w3 w4 w5 : World} (h3 : A w d s w3) (o3 : J0.Own (w.heap.size + 1) w3 aw Z) (h4 : Below w3.heap.size w3 w4) (cp : Cp w3.heap.size d f1 f2 f3 w4) (n12 : f1 < f2) (n23 : f2 < f3)
    (h5' : Below (w4.alloc (.cells #[.int .i64 d.ino, .int .i64 d.cl, .int .i64 d.un, .string d.rc, .slice (at3 d f1 f2 f3).a1 d.pg.length (at3 d f1 f2 f3).c1, .string d.sav, .slice (at3 d f1 f2 f3).a2 d.po.length (at3 d f1 f2 f3).c2, .slice (at3 d f1 f2 f3).a3 d.fr.length (at3 d f1 f2 f3).c3] 47)).heap.size (w4.alloc (.cells #[.int .i64 d.ino, .int .i64 d.cl, .int .i64 d.un, .string d.rc, .slice (at3 d f1 f2 f3).a1 d.pg.length (at3 d f1 f2 f3).c1, .string d.sav, .slice (at3 d f1 f2 f3).a2 d.po.length (at3 d f1 f2 f3).c2, .slice (at3 d f1 f2 f3).a3 d.fr.length (at3 d f1 f2 f3).c3] 47)) w5)
    (o5 : J0.Own (w4.alloc (.cells #[.int .i64 d.ino, .int .i64 d.cl, .int .i64 d.un, .string d.rc, .slice (at3 d f1 f2 f3).a1 d.pg.length (at3 d f1 f2 f3).c1, .string d.sav, .slice (at3 d f1 f2 f3).a2 d.po.length (at3 d f1 f2 f3).c2, .slice (at3 d f1 f2 f3).a3 d.fr.length (at3 d f1 f2 f3).c3] 47)).heap.size w5 ag Z) : K w d s f1 f2 f3 w4.heap.size (ints d.pg) (ints d.po) (ints d.fr) aw ag Z Z w5 := by
  have hs3 := h3.b.b.lt
  have q1 := cp.h1
  have q3 := cp.k3.lt
  refine ⟨((h3.below h4).below (K0.below_new _ _)).below h5', (lb_new d (at3 d f1 f2 f3) w4 47).below h5', ⟨by omega, n12, n23, q3⟩, ⟨by simp, (cp.k1.alloc _).below h5'⟩, ⟨by simp, (cp.k2.alloc _).below h5'⟩, ⟨by simp, (cp.k3.alloc _).below h5'⟩, ?_⟩
  rcases o3 with h0 | ⟨g1, e1, l1, b1⟩
  · exact Or.inl h0
  · rcases o5 with h0 | ⟨g2, e2, l2, b2⟩
    · exact Or.inl h0
    · have := b1.lt
      simp at l2
      exact Or.inr ⟨g1, g2, e1, e2, by omega, by omega, by omega, ((b1.below h4).alloc _).below h5', b2⟩

theorem lists_grown {g : Nat} (h : Lists W d s) (hb : Below w.heap.size w W) (hR : Lists w d s) (hg : W.grownBy W' (some g)) (hlt : w.heap.size ≤ g) : Lists W' d s :=
  hR.below (F0.below_grown hb hg (fun g' e => by obtain rfl := Option.some.inj e; exact hlt) hb.size)

theorem a_grown {g : Nat} (h : A w d s W) (hR : Lists w d s) (hg : W.grownBy W' (some g)) (hlt : w.heap.size < g) : A w d s W' :=
  ⟨⟨M0.blk_grown h.b.b hg (by omega)⟩, lists_grown h.l h.bel hR hg (by omega), F0.below_grown h.bel hg (fun g' e => by obtain rfl := Option.some.inj e; omega) h.bel.size⟩

/-- What is kept when a row of the copy is marked. -/
structure K' (w : World) (d : Ln) (s : Sl) (f1 f2 f3 B : Nat) (aw ag : Option Addr) (Z M : List Int) (W : World) : Prop where
  a : A w d s W
  rows : Z = [] ∨ ∃ g1 g2, aw = some ⟨g1, 0, none⟩ ∧ ag = some ⟨g2, 0, none⟩ ∧ w.heap.size < g1 ∧ g1 < f1 ∧ B < g2 ∧ K0.Blk g1 (ints Z) W ∧ K0.Blk g2 (ints M) W
  lo : w.heap.size < f1 ∧ f1 < f2 ∧ f2 < f3 ∧ f3 < B

theorem K'.below (h : K' w d s f1 f2 f3 B aw ag Z M W) (hb : Below W.heap.size W W') : K' w d s f1 f2 f3 B aw ag Z M W' :=
  ⟨h.a.below hb, h.rows.imp id fun ⟨g1, g2, e1, e2, l1, l2, l3, b1, b2⟩ => ⟨g1, g2, e1, e2, l1, l2, l3, b1.below hb, b2.below hb⟩, h.lo⟩
theorem K'.grown {g : Nat} (h : K' w d s f1 f2 f3 B aw ag Z M W) (hR : Lists w d s) (hg : W.grownBy W' (some g)) (h1 : f1 ≤ g) (h2 : g < B) : K' w d s f1 f2 f3 B aw ag Z M W' :=
  ⟨a_grown h.a hR hg (by have := h.lo; omega), h.rows.imp id fun ⟨g1, g2, e1, e2, l1, l2, l3, b1, b2⟩ => ⟨g1, g2, e1, e2, l1, l2, l3, M0.blk_grown b1 hg (by omega), M0.blk_grown b2 hg (by omega)⟩, h.lo⟩
theorem K'.roww (h : K' w d s f1 f2 f3 B aw ag Z M W) : P0.Row W aw Z := by
  rcases h.rows with h0 | ⟨g1, g2, e1, e2, _, _, _, b1, b2⟩
  · exact Or.inl h0
  · exact e1 ▸ I2.row_of_blk b1
theorem K'.rowg (h : K' w d s f1 f2 f3 B aw ag Z Z W) : P0.Row W ag Z := by
  rcases h.rows with h0 | ⟨g1, g2, e1, e2, _, _, _, b1, b2⟩
  · exact Or.inl h0
  · exact e2 ▸ I2.row_of_blk b2

set_option maxHeartbeats 2000000 in
theorem markLoan (hR : Lists w d s) (hp : d.pg.length ≤ 1048576) (ho : d.po.length ≤ 1048576) (hf : d.fr.length ≤ 1048576) (h : K w d s f1 f2 f3 B v1 v2 v3 aw ag Z M W) :
    Calls Try.prog 40 #[val d (at3 d f1 f2 f3), .int .i64 1] W fun e w' => (∃ q : Nat, e = .returned (.int .i64 (q : Int))) ∧ K' w d s f1 f2 f3 B aw ag Z M w' := by
  have h0 := h.below (K0.below_new W (.cells #[.int .i64 d.ino, .int .i64 d.cl, .int .i64 d.un, .string d.rc, .slice (at3 d f1 f2 f3).a1 d.pg.length (at3 d f1 f2 f3).c1, .string d.sav, .slice (at3 d f1 f2 f3).a2 d.po.length (at3 d f1 f2 f3).c2, .slice (at3 d f1 f2 f3).a3 d.fr.length (at3 d f1 f2 f3).c3] 47))
  have bx := lb_new d (at3 d f1 f2 f3) W 47
  have hlo := h.lo
  have hBlt := h.n.b.lt
  have k0 : K' w d s f1 f2 f3 B aw ag Z M _ := ⟨h0.a, h0.rows, h0.lo⟩
  have m1 := R5.markAny f1 d.pg.length v1 1 _ (by rw [h0.k1.1]; exact hp) (by omega) h0.k1.2
  rw [h0.k1.1] at m1
  have K2 := h0.k2
  have K3 := h0.k3
  clear h h0
  go_enter Try.func40, Try.ntmps40
  go_wp2_with (first
    | (go_at_call 50; have hg2' := hg2; refine (mark_at (k := 1 + d.pg.length + d.po.length) (c := d.fr.length) k32 hf (by omega)).mono ?_; rintro e w3 ⟨rfl, hg3⟩; have k3 := k2.grown hR hg3 (by omega) (by omega))
    | (go_at_call 50; have hg1' := hg1; refine (mark_at (k := 1 + d.pg.length) (c := d.po.length) k21 ho (by omega)).mono ?_; rintro e w2 ⟨rfl, hg2⟩; have k2 := k1.grown hR hg2 (by omega) (by omega); have k32 : v3.length = d.fr.length ∧ K0.Blk f3 v3 w2 := ⟨k31.1, M0.blk_grown k31.2 hg2 (by omega)⟩; have b2 : LB W.heap.size d (at3 d f1 f2 f3) w2 := ⟨M0.blk_grown b1.b hg2 (by omega)⟩; have c7 := b2.c7)
    | (go_at_call 50; refine m1.mono ?_; rintro e w1 ⟨rfl, hg1⟩; have k1 := k0.grown hR hg1 (by omega) (by omega); have k21 : v2.length = d.po.length ∧ K0.Blk f2 v2 w1 := ⟨K2.1, M0.blk_grown K2.2 hg1 (by omega)⟩; have k31 : v3.length = d.fr.length ∧ K0.Blk f3 v3 w1 := ⟨K3.1, M0.blk_grown K3.2 hg1 (by omega)⟩; have b1 : LB W.heap.size d (at3 d f1 f2 f3) w1 := ⟨M0.blk_grown bx.b hg1 (by omega)⟩; have c6 := b1.c6))
  go_ret
  exact ⟨⟨_, rfl⟩, k3⟩

theorem mark_g {N cg : Nat} (hR : Lists w d s) (hz : Z.length = N * 2) (hN : N ≤ 1048576) (h : K' w d s f1 f2 f3 B aw ag Z Z W) :
    Calls Try.prog 41 #[.slice ag N cg, .int .i64 1] W fun e w' => e = .returned (.int .i64 ((1 + N * 2 : Nat) : Int)) ∧ K' w d s f1 f2 f3 B aw ag Z (M0.marks (N * 2)) w' := by
  rcases h.rows with h0 | ⟨g1, g2, e1, e2, l1, l2, l3, b1, b2⟩
  · subst h0
    obtain rfl : N = 0 := by simp at hz; omega
    exact (R5.markNone ag cg W).mono fun _ _ ⟨he, hw⟩ => ⟨he, by rw [hw]; exact ⟨h.a, Or.inl rfl, h.lo⟩⟩
  · subst e2
    refine (R5.markRangeS g2 cg N (ints Z) W (by simpa using hz) hN b2).mono fun _ w' ⟨he, hk, hg⟩ => ⟨he, a_grown h.a hR hg (by have := h.lo; omega), Or.inr ⟨g1, g2, e1, rfl, l1, l2, l3, M0.blk_grown b1 hg (by have := h.lo; omega), hk⟩, h.lo⟩

theorem held_g {N cg : Nat} (hz : Z.length = N * 2) (hN : N ≤ 1048576) (h : K' w d s f1 f2 f3 B aw ag Z (M0.marks (N * 2)) W) :
    Calls Try.prog 42 #[.slice ag N cg, .int .i64 1] W fun e w' => e = .returned (.int .i64 ((1 + N * 2 : Nat) : Int)) ∧ w' = W := by
  rcases h.rows with h0 | ⟨g1, g2, e1, e2, l1, l2, l3, b1, b2⟩
  · subst h0
    obtain rfl : N = 0 := by simp at hz; omega
    exact R5.heldNone ag cg W
  · subst e2
    exact R5.heldRangeS g2 cg N W hN b2

theorem nR_le (d : Ln) : R6.nR d ≤ 1048576 := by
  unfold R6.nR
  cases h : N0.loanOk d with
  | false => exact Nat.zero_le _
  | true =>
    obtain ⟨-, -, -, -, -, -, hp6, hp4, hf2, -, -, -, -⟩ := N0.loanOk_is h
    show 1 + d.pg.length + d.po.length + d.fr.length ≤ _
    omega
end Go.Proofs.Ytpkicoagakpigaa.N15
