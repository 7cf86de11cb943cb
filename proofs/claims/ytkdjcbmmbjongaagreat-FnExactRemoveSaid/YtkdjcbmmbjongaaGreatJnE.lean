/- Joined texts: plain facts and contracts, as each part says. -/
import Derived.Test.YtkdjcbmmbjongaaGreatJnD
import Derived.Deep.RegionHeld3
import Derived.OrdersHeld
import Derived.WalkKit
import Derived.Handy
import Derived.Test.YtkdjcbmmbjongaaGreatJnB
import Derived.Shelf.Abstract
import Derived.Deep.QuietTactic
import Derived.BigQuiet
import Derived.Laws.MakeOwn

/- Contracts of laws.toLoan and laws.markLoan. -/
namespace Go.Proofs.YtkdjcbmmbjongaaGreat.N4
open Go.ChangeShapes Go.WideShapes Go.ChangeAt Go.RowKit
set_option linter.unusedVariables false
set_option linter.unusedSimpArgs false
set_option maxRecDepth 10000

open N0 (Ln)
open N1 (Sl val vals Lists FitM LB lb_new)
open I2 (ints)

abbrev zero8 : List Value := [.int .i64 0, .int .i64 0, .int .i64 0, .string ⟨#[]⟩, .slice none 0 0, .string ⟨#[]⟩, .slice none 0 0, .slice none 0 0]

/-- The three blocks of toLoan. -/
structure T (w : World) (d : Ln) (s : Sl) (vs : List Value) (W : World) : Prop where
  arg : LB w.heap.size d s W
  res : K0.Blk (w.heap.size + 1) zero8 W
  tmp : K0.Blk (w.heap.size + 2) vs W
  bel : Below w.heap.size w W

variable {w W W' : World} {d : Ln} {s : Sl} {vs : List Value}

theorem T.below (h : T w d s vs W) (hb : Below W.heap.size W W') : T w d s vs W' := ⟨h.arg.below hb, h.res.below hb, h.tmp.below hb, h.bel.trans (hb.mono h.bel.size)⟩
theorem T.set (h : T w d s vs W) (j : Nat) (v : Value) : T w d s (vs.set j v) (W.setCell ⟨w.heap.size + 2, j, none⟩ v) :=
  ⟨⟨h.arg.b.setOther (by omega) j v⟩, h.res.setOther (by omega) j v, h.tmp.set j v, h.bel.setCell (p := ⟨w.heap.size + 2, j, none⟩) (Nat.le_add_right _ _) v⟩
theorem T.arg' (h : T w d s vs W) : LB w.heap.size d s W := h.arg

/-- Where a copy's lists stand. -/
def at3 (d : Ln) (g1 g2 g3 : Nat) : Sl := ⟨some ⟨g1, 0, none⟩, d.pg.length, some ⟨g2, 0, none⟩, d.po.length, some ⟨g3, 0, none⟩, d.fr.length⟩

theorem t_new (w : World) (d : Ln) (s : Sl) :
    T w d s [.int .i64 d.ino, .int .i64 d.cl, .int .i64 d.un, .string d.rc, .slice none 0 0, .string ⟨#[]⟩, .slice none 0 0, .slice none 0 0] (((w.alloc (.cells #[.int .i64 d.ino, .int .i64 d.cl, .int .i64 d.un, .string d.rc, .slice s.a1 d.pg.length s.c1, .string d.sav, .slice s.a2 d.po.length s.c2, .slice s.a3 d.fr.length s.c3] 24)).alloc (.cells #[.int .i64 0, .int .i64 0, .int .i64 0, .string ⟨#[]⟩, .slice none 0 0, .string ⟨#[]⟩, .slice none 0 0, .slice none 0 0] 31)).alloc (.cells #[.int .i64 d.ino, .int .i64 d.cl, .int .i64 d.un, .string d.rc, .slice none 0 0, .string ⟨#[]⟩, .slice none 0 0, .slice none 0 0] 31)) :=
  ⟨⟨((K0.blk_new (vals d s) w 24).alloc _).alloc _⟩, (K0.blk_at zero8 _ 31 (by simp)).alloc _, K0.blk_at [.int .i64 d.ino, .int .i64 d.cl, .int .i64 d.un, .string d.rc, .slice none 0 0, .string ⟨#[]⟩, .slice none 0 0, .slice none 0 0] _ 31 (by simp),
   (((Below.refl _ _).alloc (Nat.le_refl _) _).alloc (by simp) _).alloc (by simp; omega) _⟩

/-- A copy of a loan: its lists are its own. -/
structure Cp (B : Nat) (d : Ln) (g1 g2 g3 : Nat) (W : World) : Prop where
  h1 : B ≤ g1
  h2 : B ≤ g2
  h3 : B ≤ g3
  k1 : K0.Blk g1 (ints d.pg) W
  k2 : K0.Blk g2 (ints d.po) W
  k3 : K0.Blk g3 (ints d.fr) W

variable {B g1 g2 g3 : Nat}
theorem Cp.below (h : Cp B d g1 g2 g3 W) (hb : Below W.heap.size W W') : Cp B d g1 g2 g3 W' := ⟨h.h1, h.h2, h.h3, h.k1.below hb, h.k2.below hb, h.k3.below hb⟩
theorem Cp.lists (h : Cp B d g1 g2 g3 W) : Lists W d (at3 d g1 g2 g3) := ⟨I2.row_of_blk h.k1, I2.row_of_blk h.k2, I2.row_of_blk h.k3⟩

theorem put8 {B : Nat} {x0 x1 x2 x3 x4 x5 x6 x7 y0 y1 y2 y3 y4 y5 y6 y7 : Value} (h : K0.Blk B [x0, x1, x2, x3, x4, x5, x6, x7] W) :
    K0.Blk B [y0, y1, y2, y3, y4, y5, y6, y7] ((((((((W.setCell ⟨B, 0, none⟩ y0).setCell ⟨B, 1, none⟩ y1).setCell ⟨B, 2, none⟩ y2).setCell ⟨B, 3, none⟩ y3).setCell ⟨B, 4, none⟩ y4).setCell ⟨B, 5, none⟩ y5).setCell ⟨B, 6, none⟩ y6).setCell ⟨B, 7, none⟩ y7) :=
  (((((((h.set 0 y0).set 1 y1).set 2 y2).set 3 y3).set 4 y4).set 5 y5).set 6 y6).set 7 y7
theorem other8 {B B' : Nat} {vs : List Value} (h : K0.Blk B' vs W) (hne : B ≠ B') (y0 y1 y2 y3 y4 y5 y6 y7 : Value) :
    K0.Blk B' vs ((((((((W.setCell ⟨B, 0, none⟩ y0).setCell ⟨B, 1, none⟩ y1).setCell ⟨B, 2, none⟩ y2).setCell ⟨B, 3, none⟩ y3).setCell ⟨B, 4, none⟩ y4).setCell ⟨B, 5, none⟩ y5).setCell ⟨B, 6, none⟩ y6).setCell ⟨B, 7, none⟩ y7) :=
  (((((((h.setOther hne 0 y0).setOther hne 1 y1).setOther hne 2 y2).setOther hne 3 y3).setOther hne 4 y4).setOther hne 5 y5).setOther hne 6 y6).setOther hne 7 y7
theorem bel8 {B b : Nat} (h : Below b w W) (hb : b ≤ B) (y0 y1 y2 y3 y4 y5 y6 y7 : Value) :
    Below b w ((((((((W.setCell ⟨B, 0, none⟩ y0).setCell ⟨B, 1, none⟩ y1).setCell ⟨B, 2, none⟩ y2).setCell ⟨B, 3, none⟩ y3).setCell ⟨B, 4, none⟩ y4).setCell ⟨B, 5, none⟩ y5).setCell ⟨B, 6, none⟩ y6).setCell ⟨B, 7, none⟩ y7) :=
  (((((((h.setCell (p := ⟨B, 0, none⟩) hb y0).setCell (p := ⟨B, 1, none⟩) hb y1).setCell (p := ⟨B, 2, none⟩) hb y2).setCell (p := ⟨B, 3, none⟩) hb y3).setCell (p := ⟨B, 4, none⟩) hb y4).setCell (p := ⟨B, 5, none⟩) hb y5).setCell (p := ⟨B, 6, none⟩) hb y6).setCell (p := ⟨B, 7, none⟩) hb y7

set_option maxHeartbeats 4000000 in
theorem toLoan (d : Ln) (s : Sl) (w : World) (hp : d.pg.length ≤ 1048576) (ho : d.po.length ≤ 1048576) (hf : d.fr.length ≤ 1048576) (hR : Lists w d s) :
    Calls Tryz.prog 8 #[val d s] w fun e w' => ∃ g1 g2 g3, e = .returned (val d (at3 d g1 g2 g3)) ∧ Cp w.heap.size d g1 g2 g3 w' ∧ Below w.heap.size w w' := by
  have t0 := t_new w d s
  have HL : Hid (∀ W, Below w.heap.size w W → Lists W d s) := fun W hb => hR.below hb
  have r0 := (HL.out _ t0.bel).r1
  clear hR
  go_enter Tryz.func8, Tryz.ntmps8
  go_wp2_with (first
    | (go_at_call 27; have q2' := q2; refine (I2.toIntS s.a3 s.c3 d.fr _ hf q2).mono ?_; rintro e w3 ⟨g3, rfl, hg3, k3, b3⟩; have t3 := u2.below b3; have m1 := l2.below b3; have m2 := (k2.setOther (B' := w.heap.size + 2) (by omega) 6 (.slice (some ⟨g2, 0, none⟩) d.po.length d.po.length)).below b3; have z7 := t3.tmp.cell 7 (by simp); have y7 := t3.tmp.free 7 (by simp); have z0 := t3.tmp.cell 0 (by simp); have z1 := t3.tmp.cell 1 (by simp); have z2 := t3.tmp.cell 2 (by simp); have z3 := t3.tmp.cell 3 (by simp); have z4 := t3.tmp.cell 4 (by simp); have z5 := t3.tmp.cell 5 (by simp); have z6 := t3.tmp.cell 6 (by simp); simp only [List.set_cons_zero, List.set_cons_succ, List.getElem_cons_zero, List.getElem_cons_succ] at z0 z1 z2 z3 z4 z5 z6 z7; have i0 := t3.res.cell 0 (by simp); have i1 := t3.res.cell 1 (by simp); have i2 := t3.res.cell 2 (by simp); have i3 := t3.res.cell 3 (by simp); have i4 := t3.res.cell 4 (by simp); have i5 := t3.res.cell 5 (by simp); have i6 := t3.res.cell 6 (by simp); have i7 := t3.res.cell 7 (by simp); simp only [List.getElem_cons_zero, List.getElem_cons_succ] at i0 i1 i2 i3 i4 i5 i6 i7; have j0 := t3.res.free 0 (by simp); have j1 := t3.res.free 1 (by simp); have j2 := t3.res.free 2 (by simp); have j3 := t3.res.free 3 (by simp); have j4 := t3.res.free 4 (by simp); have j5 := t3.res.free 5 (by simp); have j6 := t3.res.free 6 (by simp); have j7 := t3.res.free 7 (by simp))
    | (go_at_call 27; have q1' := q1; refine (I2.toIntS s.a2 s.c2 d.po _ ho q1).mono ?_; rintro e w2 ⟨g2, rfl, hg2, k2, b2⟩; have t2 := u1.below b2; have l2 := ((k1.setOther (B' := w.heap.size + 2) (by omega) 4 (.slice (some ⟨g1, 0, none⟩) d.pg.length d.pg.length)).setOther (B' := w.heap.size + 2) (by omega) 5 (.string d.sav)).below b2; have hg2' : w.heap.size + 3 ≤ g2 := (by have hq := u1.tmp.lt; omega); have l2 := l2.setOther (B' := w.heap.size + 2) (by omega) 6 (.slice (some ⟨g2, 0, none⟩) d.po.length d.po.length); have c7 := t2.arg.c7; have x6 := t2.tmp.cell 6 (by simp); have y6 := t2.tmp.free 6 (by simp); simp only [List.set_cons_zero, List.set_cons_succ, List.getElem_cons_zero, List.getElem_cons_succ] at x6; have u2 := t2.set 6 (.slice (some ⟨g2, 0, none⟩) d.po.length d.po.length); have q2 := (HL.out _ u2.bel).r3)
    | (go_at_call 27; refine (I2.toIntS s.a1 s.c1 d.pg _ hp r0).mono ?_; rintro e w1 ⟨g1, rfl, hg1, k1, b1⟩; have t1 := t0.below b1; have hg1' : w.heap.size + 3 ≤ g1 := (by have hq := t0.tmp.lt; omega); have c5 := t1.arg.c5; have c6 := t1.arg.c6; have x4 := t1.tmp.cell 4 (by simp); have y4 := t1.tmp.free 4 (by simp); have x5 := t1.tmp.cell 5 (by simp); have y5 := t1.tmp.free 5 (by simp); simp only [List.getElem_cons_zero, List.getElem_cons_succ] at x4 x5; have u1 := (t1.set 4 (.slice (some ⟨g1, 0, none⟩) d.pg.length d.pg.length)).set 5 (.string d.sav); have q1 := (HL.out _ u1.bel).r2))
  have hg3' : w.heap.size + 3 ≤ g3 := by
    have := u2.tmp.lt
    simp at hg3 this
    omega
  have u3 := t3.set 7 (.slice (some ⟨g3, 0, none⟩) d.fr.length d.fr.length)
  have q := put8 (y0 := .int .i64 d.ino) (y1 := .int .i64 d.cl) (y2 := .int .i64 d.un) (y3 := .string d.rc) (y4 := .slice (some ⟨g1, 0, none⟩) d.pg.length d.pg.length) (y5 := .string d.sav) (y6 := .slice (some ⟨g2, 0, none⟩) d.po.length d.po.length) (y7 := .slice (some ⟨g3, 0, none⟩) d.fr.length d.fr.length) u3.res
  have v0 := q.cell 0 (by simp)
  have v1 := q.cell 1 (by simp)
  have v2 := q.cell 2 (by simp)
  have v3 := q.cell 3 (by simp)
  have v4 := q.cell 4 (by simp)
  have v5 := q.cell 5 (by simp)
  have v6 := q.cell 6 (by simp)
  have v7 := q.cell 7 (by simp)
  simp only [List.getElem_cons_zero, List.getElem_cons_succ] at v0 v1 v2 v3 v4 v5 v6 v7
  refine bodyPost_ret (v := val d (at3 d g1 g2 g3)) (by simp [results, Tryz.results8, go_sem, v0, v1, v2, v3, v4, v5, v6, v7, at3]) rfl ⟨g1, g2, g3, rfl, ⟨by omega, by omega, by omega, ?_, ?_, ?_⟩, ?_⟩
  · exact other8 (m1.setOther (B' := w.heap.size + 2) (by omega) 7 _) (by omega) _ _ _ _ _ _ _ _
  · exact other8 (m2.setOther (B' := w.heap.size + 2) (by omega) 7 _) (by omega) _ _ _ _ _ _ _ _
  · exact other8 (k3.setOther (B' := w.heap.size + 2) (by omega) 7 _) (by omega) _ _ _ _ _ _ _ _
  · exact bel8 u3.bel (by omega) _ _ _ _ _ _ _ _
end Go.Proofs.YtkdjcbmmbjongaaGreat.N4

/- What the exact laws over loans keep: the law's own loan, boxed, and a copy of it. -/
namespace Go.Proofs.YtkdjcbmmbjongaaGreat.N12
open Go.ChangeShapes Go.WideShapes Go.ChangeAt Go.RowKit
set_option linter.unusedVariables false
set_option linter.unusedSimpArgs false
set_option maxRecDepth 10000

open N0 (Ln)
open N1 (Sl Lists Fit FitM LB lb_new)
open N4 (at3 Cp)

/-- The law's loan in its box. -/
structure A (w : World) (d : Ln) (s : Sl) (W : World) : Prop where
  b : LB w.heap.size d s W
  l : Lists W d s
  bel : Below w.heap.size w W

variable {w W W' : World} {d : Ln} {s : Sl} {g1 g2 g3 B : Nat}

theorem A.below (h : A w d s W) (hb : Below W.heap.size W W') : A w d s W' := ⟨h.b.below hb, h.l.below hb, h.bel.trans (hb.mono h.bel.size)⟩
theorem A.drew (h : A w d s W) : A w d s W.drew := h.below ((Below.refl _ _).drew)

theorem a_new (w : World) (d : Ln) (s : Sl) (h : Lists w d s) : A w d s (w.alloc (.cells #[.int .i64 d.ino, .int .i64 d.cl, .int .i64 d.un, .string d.rc, .slice s.a1 d.pg.length s.c1, .string d.sav, .slice s.a2 d.po.length s.c2, .slice s.a3 d.fr.length s.c3] 24)) :=
  ⟨lb_new d s w 24, h.alloc _, K0.below_new _ _⟩

/-- Beside it a copy of it, boxed. -/
structure U (w : World) (d : Ln) (s : Sl) (g1 g2 g3 B : Nat) (W : World) : Prop where
  t : A w d s W
  n : LB B d (at3 d g1 g2 g3) W
  cp : Cp w.heap.size d g1 g2 g3 W

theorem U.below (h : U w d s g1 g2 g3 B W) (hb : Below W.heap.size W W') : U w d s g1 g2 g3 B W' := ⟨h.t.below hb, h.n.below hb, h.cp.below hb⟩
theorem U.drew (h : U w d s g1 g2 g3 B W) : U w d s g1 g2 g3 B W.drew := h.below ((Below.refl _ _).drew)

theorem cp_mono {b b' : Nat} (h : Cp b d g1 g2 g3 W) (hb : b' ≤ b) : Cp b' d g1 g2 g3 W := ⟨Nat.le_trans hb h.h1, Nat.le_trans hb h.h2, Nat.le_trans hb h.h3, h.k1, h.k2, h.k3⟩

theorem u_new {b : Nat} (h : A w d s W) (hc : Cp b d g1 g2 g3 W) (hb : w.heap.size ≤ b) :
    U w d s g1 g2 g3 W.heap.size (W.alloc (.cells #[.int .i64 d.ino, .int .i64 d.cl, .int .i64 d.un, .string d.rc, .slice (at3 d g1 g2 g3).a1 d.pg.length (at3 d g1 g2 g3).c1, .string d.sav, .slice (at3 d g1 g2 g3).a2 d.po.length (at3 d g1 g2 g3).c2, .slice (at3 d g1 g2 g3).a3 d.fr.length (at3 d g1 g2 g3).c3] 31)) :=
  ⟨h.below (K0.below_new _ _), lb_new d (at3 d g1 g2 g3) W 31, (cp_mono hc hb).below (K0.below_new _ _)⟩

theorem sizes (h : N3.total d ≤ 1048576) : d.pg.length ≤ 1048576 ∧ d.po.length ≤ 1048576 ∧ d.fr.length ≤ 1048576 ∧ d.rc.size ≤ 1048576 ∧ d.sav.size ≤ 1048576 := by
  unfold N3.total at h
  omega

theorem fitc (h : N3.total d ≤ 1048576) : Fit d (at3 d g1 g2 g3) := by
  have := sizes h
  exact ⟨by omega, by omega, by omega⟩
end Go.Proofs.YtkdjcbmmbjongaaGreat.N12

/- What a law over a loan that hands out a row keeps, in a seat without ranges. -/
namespace Go.Proofs.YtkdjcbmmbjongaaGreat.R5
open Go.ChangeShapes Go.WideShapes Go.ChangeAt Go.RowKit
set_option linter.unusedVariables false
set_option linter.unusedSimpArgs false
set_option maxRecDepth 10000

open I2 (ints)
open J0 (Own)
open M0 (marks part_length part_succ part_zero part_all marks_get grown_refl grown_set)
/-- A row of numbers marked from any number on. -/
theorem markAny (g c : Nat) (vs : List Value) (k0 : Nat) (w : World) (hn : vs.length ≤ 1048576) (h0 : k0 ≤ 1099511627776) (hb : K0.Blk g vs w) :
    Calls Tryz.prog 38 #[.slice (some ⟨g, 0, none⟩) vs.length c, .int .i64 (k0 : Int)] w fun e w' => e = .returned (.int .i64 ((k0 + vs.length : Nat) : Int)) ∧ w.grownBy w' (some g) := by
  go_enter Tryz.func38, Tryz.ntmps38
  go_wp2
  go_loopw [1, 5] (fun q i w' => ∃ (k : Nat) (us : List Value), k ≤ vs.length ∧ i = .int .i64 k ∧ q = .int .i64 ((k0 + k : Nat) : Int) ∧ us.length = vs.length ∧ K0.Blk g us w' ∧ w.grownBy w' (some g)) (fun _ i _ => vs.length - (intOf i).toNat)
  case atStart => exact ⟨0, vs, Nat.zero_le _, rfl, rfl, rfl, hb, grown_refl _ _⟩
  case round =>
    obtain ⟨k, us, hk, rfl, rfl, hul, hblk, hgr⟩ := hrel
    by_cases hlt : k < vs.length
    · have e1 : (0 : Int) ≤ (k : Int) := by omega
      have e2 : (k : Int) < (vs.length : Int) := by omega
      have x2 := hblk.cell k (by omega)
      have x3 := hblk.free k (by omega)
      obtain ⟨u, x4⟩ : ∃ u, wr.cell? ⟨g, k, none⟩ = some u := ⟨_, x2⟩
      have HB : Hid (K0.Blk g (us.set k (.int .i64 ((k0 + k : Nat) : Int))) (wr.setCell ⟨g, k, none⟩ (.int .i64 ((k0 + k : Nat) : Int)))) := hblk.set k _
      have HUL : Hid ((us.set k (.int .i64 ((k0 + k : Nat) : Int))).length = vs.length) := by show (us.set k _).length = _; rw [List.length_set]; exact hul
      clear x2 hblk hb hul
      go_wp2
      go_roundw
      case rel => exact ⟨k + 1, _, by omega, by go_num, by go_num, HUL.out, HB.out, grown_set hgr _⟩
      case measure => simp [intOf]; omega
    · obtain rfl : k = vs.length := by omega
      clear hb hblk hul
      go_wp2
      go_ret
      exact ⟨rfl, hgr⟩
end Go.Proofs.YtkdjcbmmbjongaaGreat.R5

namespace Go.Proofs.YtkdjcbmmbjongaaGreat.N15
open Go.ChangeShapes Go.WideShapes Go.ChangeAt Go.RowKit
set_option linter.unusedVariables false
set_option linter.unusedSimpArgs false
set_option maxRecDepth 10000

open N0 (Ln)
open N1 (Sl val vals Lists FitM LB lb_new)
open N4 (T t_new at3 Cp put8 other8 bel8)
open N12 (A)
open I2 (ints)

set_option maxHeartbeats 4000000 in
theorem toLoan (d : Ln) (s : Sl) (w : World) (hp : d.pg.length ≤ 1048576) (ho : d.po.length ≤ 1048576) (hf : d.fr.length ≤ 1048576) (hR : Lists w d s) :
    Calls Tryz.prog 8 #[val d s] w fun e w' => ∃ g1 g2 g3, e = .returned (val d (at3 d g1 g2 g3)) ∧ Cp w.heap.size d g1 g2 g3 w' ∧ g1 < g2 ∧ g2 < g3 ∧ Below w.heap.size w w' := by
  have t0 := t_new w d s
  have HL : Hid (∀ W, Below w.heap.size w W → Lists W d s) := fun W hb => hR.below hb
  have r0 := (HL.out _ t0.bel).r1
  clear hR
  go_enter Tryz.func8, Tryz.ntmps8
  go_wp2_with (first
    | (go_at_call 27; have q2' := q2; refine (I2.toIntS s.a3 s.c3 d.fr _ hf q2).mono ?_; rintro e w3 ⟨g3, rfl, hg3, k3, b3⟩; have n23 : g2 < g3 := (by have hq := (k2.setOther (B' := w.heap.size + 2) (by omega) 6 (.slice (some ⟨g2, 0, none⟩) d.po.length d.po.length)).lt; omega); have t3 := u2.below b3; have m1 := l2.below b3; have m2 := (k2.setOther (B' := w.heap.size + 2) (by omega) 6 (.slice (some ⟨g2, 0, none⟩) d.po.length d.po.length)).below b3; have z7 := t3.tmp.cell 7 (by simp); have y7 := t3.tmp.free 7 (by simp); have z0 := t3.tmp.cell 0 (by simp); have z1 := t3.tmp.cell 1 (by simp); have z2 := t3.tmp.cell 2 (by simp); have z3 := t3.tmp.cell 3 (by simp); have z4 := t3.tmp.cell 4 (by simp); have z5 := t3.tmp.cell 5 (by simp); have z6 := t3.tmp.cell 6 (by simp); simp only [List.set_cons_zero, List.set_cons_succ, List.getElem_cons_zero, List.getElem_cons_succ] at z0 z1 z2 z3 z4 z5 z6 z7; have i0 := t3.res.cell 0 (by simp); have i1 := t3.res.cell 1 (by simp); have i2 := t3.res.cell 2 (by simp); have i3 := t3.res.cell 3 (by simp); have i4 := t3.res.cell 4 (by simp); have i5 := t3.res.cell 5 (by simp); have i6 := t3.res.cell 6 (by simp); have i7 := t3.res.cell 7 (by simp); simp only [List.getElem_cons_zero, List.getElem_cons_succ] at i0 i1 i2 i3 i4 i5 i6 i7; have j0 := t3.res.free 0 (by simp); have j1 := t3.res.free 1 (by simp); have j2 := t3.res.free 2 (by simp); have j3 := t3.res.free 3 (by simp); have j4 := t3.res.free 4 (by simp); have j5 := t3.res.free 5 (by simp); have j6 := t3.res.free 6 (by simp); have j7 := t3.res.free 7 (by simp))
    | (go_at_call 27; have q1' := q1; refine (I2.toIntS s.a2 s.c2 d.po _ ho q1).mono ?_; rintro e w2 ⟨g2, rfl, hg2, k2, b2⟩; have t2 := u1.below b2; have l2 := ((k1.setOther (B' := w.heap.size + 2) (by omega) 4 (.slice (some ⟨g1, 0, none⟩) d.pg.length d.pg.length)).setOther (B' := w.heap.size + 2) (by omega) 5 (.string d.sav)).below b2; have n12 : g1 < g2 := (by have hq := ((k1.setOther (B' := w.heap.size + 2) (by omega) 4 (.slice (some ⟨g1, 0, none⟩) d.pg.length d.pg.length)).setOther (B' := w.heap.size + 2) (by omega) 5 (.string d.sav)).lt; omega); have hg2' : w.heap.size + 3 ≤ g2 := (by have hq := u1.tmp.lt; omega); have l2 := l2.setOther (B' := w.heap.size + 2) (by omega) 6 (.slice (some ⟨g2, 0, none⟩) d.po.length d.po.length); have c7 := t2.arg.c7; have x6 := t2.tmp.cell 6 (by simp); have y6 := t2.tmp.free 6 (by simp); simp only [List.set_cons_zero, List.set_cons_succ, List.getElem_cons_zero, List.getElem_cons_succ] at x6; have u2 := t2.set 6 (.slice (some ⟨g2, 0, none⟩) d.po.length d.po.length); have q2 := (HL.out _ u2.bel).r3)
    | (go_at_call 27; refine (I2.toIntS s.a1 s.c1 d.pg _ hp r0).mono ?_; rintro e w1 ⟨g1, rfl, hg1, k1, b1⟩; have t1 := t0.below b1; have hg1' : w.heap.size + 3 ≤ g1 := (by have hq := t0.tmp.lt; omega); have c5 := t1.arg.c5; have c6 := t1.arg.c6; have x4 := t1.tmp.cell 4 (by simp); have y4 := t1.tmp.free 4 (by simp); have x5 := t1.tmp.cell 5 (by simp); have y5 := t1.tmp.free 5 (by simp); simp only [List.getElem_cons_zero, List.getElem_cons_succ] at x4 x5; have u1 := (t1.set 4 (.slice (some ⟨g1, 0, none⟩) d.pg.length d.pg.length)).set 5 (.string d.sav); have q1 := (HL.out _ u1.bel).r2))
  have hg3' : w.heap.size + 3 ≤ g3 := by
    have := u2.tmp.lt
    simp at hg3 this
    omega
  have u3 := t3.set 7 (.slice (some ⟨g3, 0, none⟩) d.fr.length d.fr.length)
  have q := put8 (y0 := .int .i64 d.ino) (y1 := .int .i64 d.cl) (y2 := .int .i64 d.un) (y3 := .string d.rc) (y4 := .slice (some ⟨g1, 0, none⟩) d.pg.length d.pg.length) (y5 := .string d.sav) (y6 := .slice (some ⟨g2, 0, none⟩) d.po.length d.po.length) (y7 := .slice (some ⟨g3, 0, none⟩) d.fr.length d.fr.length) u3.res
  have v0 := q.cell 0 (by simp)
  have v1 := q.cell 1 (by simp)
  have v2 := q.cell 2 (by simp)
  have v3 := q.cell 3 (by simp)
  have v4 := q.cell 4 (by simp)
  have v5 := q.cell 5 (by simp)
  have v6 := q.cell 6 (by simp)
  have v7 := q.cell 7 (by simp)
  simp only [List.getElem_cons_zero, List.getElem_cons_succ] at v0 v1 v2 v3 v4 v5 v6 v7
  refine bodyPost_ret (v := val d (at3 d g1 g2 g3)) (by simp [results, Tryz.results8, go_sem, v0, v1, v2, v3, v4, v5, v6, v7, at3]) rfl ⟨g1, g2, g3, rfl, ⟨by omega, by omega, by omega, ?_, ?_, ?_⟩, n12, n23, ?_⟩
  · exact other8 (m1.setOther (B' := w.heap.size + 2) (by omega) 7 _) (by omega) _ _ _ _ _ _ _ _
  · exact other8 (m2.setOther (B' := w.heap.size + 2) (by omega) 7 _) (by omega) _ _ _ _ _ _ _ _
  · exact other8 (k3.setOther (B' := w.heap.size + 2) (by omega) 7 _) (by omega) _ _ _ _ _ _ _ _
  · exact bel8 u3.bel (by omega) _ _ _ _ _ _ _ _

theorem mark_at {g c k : Nat} {vs : List Value} {L : Nat} {W : World} (h : vs.length = L ∧ K0.Blk g vs W) (hn : L ≤ 1048576) (h0 : k ≤ 1099511627776) :
    Calls Tryz.prog 38 #[.slice (some ⟨g, 0, none⟩) L c, .int .i64 (k : Int)] W fun e w' => e = .returned (.int .i64 ((k + L : Nat) : Int)) ∧ W.grownBy w' (some g) := by
  obtain ⟨rfl, hb⟩ := h
  exact R5.markAny g c vs k W hn h0 hb

/-- The law's loan, boxed; a copy of it, boxed; two rows that were handed out, the first ahead of the copy, the second behind it; what the second holds now. -/
structure K (w : World) (d : Ln) (s : Sl) (f1 f2 f3 B : Nat) (v1 v2 v3 : List Value) (aw ag : Option Addr) (Z M : List Int) (W : World) : Prop where
  a : A w d s W
  n : LB B d (at3 d f1 f2 f3) W
  lo : w.heap.size < f1 ∧ f1 < f2 ∧ f2 < f3 ∧ f3 < B
  k1 : v1.length = d.pg.length ∧ K0.Blk f1 v1 W
  k2 : v2.length = d.po.length ∧ K0.Blk f2 v2 W
  k3 : v3.length = d.fr.length ∧ K0.Blk f3 v3 W
  rows : Z = [] ∨ ∃ g1 g2, aw = some ⟨g1, 0, none⟩ ∧ ag = some ⟨g2, 0, none⟩ ∧ w.heap.size < g1 ∧ g1 < f1 ∧ B < g2 ∧ K0.Blk g1 (ints Z) W ∧ K0.Blk g2 (ints M) W

variable {w W W' : World} {d : Ln} {s : Sl} {f1 f2 f3 B : Nat} {v1 v2 v3 : List Value} {aw ag : Option Addr} {Z M : List Int}

theorem K.below (h : K w d s f1 f2 f3 B v1 v2 v3 aw ag Z M W) (hb : Below W.heap.size W W') : K w d s f1 f2 f3 B v1 v2 v3 aw ag Z M W' :=
  ⟨h.a.below hb, h.n.below hb, h.lo, ⟨h.k1.1, h.k1.2.below hb⟩, ⟨h.k2.1, h.k2.2.below hb⟩, ⟨h.k3.1, h.k3.2.below hb⟩, h.rows.imp id fun ⟨g1, g2, e1, e2, l1, l2, l3, b1, b2⟩ => ⟨g1, g2, e1, e2, l1, l2, l3, b1.below hb, b2.below hb⟩⟩
theorem K.drew (h : K w d s f1 f2 f3 B v1 v2 v3 aw ag Z M W) : K w d s f1 f2 f3 B v1 v2 v3 aw ag Z M W.drew := h.below ((Below.refl _ _).drew)

theorem K.roww (h : K w d s f1 f2 f3 B v1 v2 v3 aw ag Z M W) : P0.Row W aw Z := by
  rcases h.rows with h0 | ⟨g1, g2, e1, e2, _, _, _, b1, b2⟩
  · exact Or.inl h0
  · exact e1 ▸ I2.row_of_blk b1
theorem K.rowg (h : K w d s f1 f2 f3 B v1 v2 v3 aw ag Z Z W) : P0.Row W ag Z := by
  rcases h.rows with h0 | ⟨g1, g2, e1, e2, _, _, _, b1, b2⟩
  · exact Or.inl h0
  · exact e2 ▸ I2.row_of_blk b2
theorem K.lists (h : K w d s f1 f2 f3 B (ints d.pg) (ints d.po) (ints d.fr) aw ag Z M W) : Lists W d (at3 d f1 f2 f3) := ⟨I2.row_of_blk h.k1.2, I2.row_of_blk h.k2.2, I2.row_of_blk h.k3.2⟩

/-- The first row, then the copy, boxed, then the second row. -/
theorem k_new {w3 w4 w5 : World} (h3 : A w d s w3) (o3 : J0.Own (w.heap.size + 1) w3 aw Z) (h4 : Below w3.heap.size w3 w4) (cp : Cp w3.heap.size d f1 f2 f3 w4) (n12 : f1 < f2) (n23 : f2 < f3)
    (h5' : Below (w4.alloc (.cells #[.int .i64 d.ino, .int .i64 d.cl, .int .i64 d.un, .string d.rc, .slice (at3 d f1 f2 f3).a1 d.pg.length (at3 d f1 f2 f3).c1, .string d.sav, .slice (at3 d f1 f2 f3).a2 d.po.length (at3 d f1 f2 f3).c2, .slice (at3 d f1 f2 f3).a3 d.fr.length (at3 d f1 f2 f3).c3] 31)).heap.size (w4.alloc (.cells #[.int .i64 d.ino, .int .i64 d.cl, .int .i64 d.un, .string d.rc, .slice (at3 d f1 f2 f3).a1 d.pg.length (at3 d f1 f2 f3).c1, .string d.sav, .slice (at3 d f1 f2 f3).a2 d.po.length (at3 d f1 f2 f3).c2, .slice (at3 d f1 f2 f3).a3 d.fr.length (at3 d f1 f2 f3).c3] 31)) w5)
    (o5 : J0.Own (w4.alloc (.cells #[.int .i64 d.ino, .int .i64 d.cl, .int .i64 d.un, .string d.rc, .slice (at3 d f1 f2 f3).a1 d.pg.length (at3 d f1 f2 f3).c1, .string d.sav, .slice (at3 d f1 f2 f3).a2 d.po.length (at3 d f1 f2 f3).c2, .slice (at3 d f1 f2 f3).a3 d.fr.length (at3 d f1 f2 f3).c3] 31)).heap.size w5 ag Z) : K w d s f1 f2 f3 w4.heap.size (ints d.pg) (ints d.po) (ints d.fr) aw ag Z Z w5 := by
  have hs3 := h3.b.b.lt
  have q1 := cp.h1
  have q3 := cp.k3.lt
  refine ⟨((h3.below h4).below (K0.below_new _ _)).below h5', (lb_new d (at3 d f1 f2 f3) w4 31).below h5', ⟨by omega, n12, n23, q3⟩, ⟨by simp, (cp.k1.alloc _).below h5'⟩, ⟨by simp, (cp.k2.alloc _).below h5'⟩, ⟨by simp, (cp.k3.alloc _).below h5'⟩, ?_⟩
  rcases o3 with h0 | ⟨g1, e1, l1, b1⟩
  · exact Or.inl h0
  · rcases o5 with h0 | ⟨g2, e2, l2, b2⟩
    · exact Or.inl h0
    · have := b1.lt
      simp at l2
      exact Or.inr ⟨g1, g2, e1, e2, by omega, by omega, by omega, ((b1.below h4).alloc _).below h5', b2⟩

theorem lists_grown {g : Nat} (h : Lists W d s) (hb : Below w.heap.size w W) (hR : Lists w d s) (hg : W.grownBy W' (some g)) (hlt : w.heap.size ≤ g) : Lists W' d s :=
  hR.below (F0.below_grown hb hg (fun g' e => by obtain rfl := Option.some.inj e; exact hlt) hb.size)

theorem a_grown {g : Nat} (h : A w d s W) (hR : Lists w d s) (hg : W.grownBy W' (some g)) (hlt : w.heap.size < g) : A w d s W' :=
  ⟨⟨M0.blk_grown h.b.b hg (by omega)⟩, lists_grown h.l h.bel hR hg (by omega), F0.below_grown h.bel hg (fun g' e => by obtain rfl := Option.some.inj e; omega) h.bel.size⟩

/-- What is kept when a row of the copy is marked. -/
structure K' (w : World) (d : Ln) (s : Sl) (f1 f2 f3 B : Nat) (aw ag : Option Addr) (Z M : List Int) (W : World) : Prop where
  a : A w d s W
  rows : Z = [] ∨ ∃ g1 g2, aw = some ⟨g1, 0, none⟩ ∧ ag = some ⟨g2, 0, none⟩ ∧ w.heap.size < g1 ∧ g1 < f1 ∧ B < g2 ∧ K0.Blk g1 (ints Z) W ∧ K0.Blk g2 (ints M) W
  lo : w.heap.size < f1 ∧ f1 < f2 ∧ f2 < f3 ∧ f3 < B

theorem K'.below (h : K' w d s f1 f2 f3 B aw ag Z M W) (hb : Below W.heap.size W W') : K' w d s f1 f2 f3 B aw ag Z M W' :=
  ⟨h.a.below hb, h.rows.imp id fun ⟨g1, g2, e1, e2, l1, l2, l3, b1, b2⟩ => ⟨g1, g2, e1, e2, l1, l2, l3, b1.below hb, b2.below hb⟩, h.lo⟩
theorem K'.grown {g : Nat} (h : K' w d s f1 f2 f3 B aw ag Z M W) (hR : Lists w d s) (hg : W.grownBy W' (some g)) (h1 : f1 ≤ g) (h2 : g < B) : K' w d s f1 f2 f3 B aw ag Z M W' :=
  ⟨a_grown h.a hR hg (by have := h.lo; omega), h.rows.imp id fun ⟨g1, g2, e1, e2, l1, l2, l3, b1, b2⟩ => ⟨g1, g2, e1, e2, l1, l2, l3, M0.blk_grown b1 hg (by omega), M0.blk_grown b2 hg (by omega)⟩, h.lo⟩
theorem K'.roww (h : K' w d s f1 f2 f3 B aw ag Z M W) : P0.Row W aw Z := by
  rcases h.rows with h0 | ⟨g1, g2, e1, e2, _, _, _, b1, b2⟩
  · exact Or.inl h0
  · exact e1 ▸ I2.row_of_blk b1
theorem K'.rowg (h : K' w d s f1 f2 f3 B aw ag Z Z W) : P0.Row W ag Z := by
  rcases h.rows with h0 | ⟨g1, g2, e1, e2, _, _, _, b1, b2⟩
  · exact Or.inl h0
  · exact e2 ▸ I2.row_of_blk b2

set_option maxHeartbeats 2000000 in
theorem markLoan (hR : Lists w d s) (hp : d.pg.length ≤ 1048576) (ho : d.po.length ≤ 1048576) (hf : d.fr.length ≤ 1048576) (h : K w d s f1 f2 f3 B v1 v2 v3 aw ag Z M W) :
    Calls Tryz.prog 14 #[val d (at3 d f1 f2 f3), .int .i64 1] W fun e w' => (∃ q : Nat, e = .returned (.int .i64 (q : Int))) ∧ K' w d s f1 f2 f3 B aw ag Z M w' := by
  have h0 := h.below (K0.below_new W (.cells #[.int .i64 d.ino, .int .i64 d.cl, .int .i64 d.un, .string d.rc, .slice (at3 d f1 f2 f3).a1 d.pg.length (at3 d f1 f2 f3).c1, .string d.sav, .slice (at3 d f1 f2 f3).a2 d.po.length (at3 d f1 f2 f3).c2, .slice (at3 d f1 f2 f3).a3 d.fr.length (at3 d f1 f2 f3).c3] 31))
  have bx := lb_new d (at3 d f1 f2 f3) W 31
  have hlo := h.lo
  have hBlt := h.n.b.lt
  have k0 : K' w d s f1 f2 f3 B aw ag Z M _ := ⟨h0.a, h0.rows, h0.lo⟩
  have m1 := R5.markAny f1 d.pg.length v1 1 _ (by rw [h0.k1.1]; exact hp) (by omega) h0.k1.2
  rw [h0.k1.1] at m1
  have K2 := h0.k2
  have K3 := h0.k3
  clear h h0
  go_enter Tryz.func14, Tryz.ntmps14
  go_wp2_with (first
    | (go_at_call 38; have hg2' := hg2; refine (mark_at (k := 1 + d.pg.length + d.po.length) (c := d.fr.length) k32 hf (by omega)).mono ?_; rintro e w3 ⟨rfl, hg3⟩; have k3 := k2.grown hR hg3 (by omega) (by omega))
    | (go_at_call 38; have hg1' := hg1; refine (mark_at (k := 1 + d.pg.length) (c := d.po.length) k21 ho (by omega)).mono ?_; rintro e w2 ⟨rfl, hg2⟩; have k2 := k1.grown hR hg2 (by omega) (by omega); have k32 : v3.length = d.fr.length ∧ K0.Blk f3 v3 w2 := ⟨k31.1, M0.blk_grown k31.2 hg2 (by omega)⟩; have b2 : LB W.heap.size d (at3 d f1 f2 f3) w2 := ⟨M0.blk_grown b1.b hg2 (by omega)⟩; have c7 := b2.c7)
    | (go_at_call 38; refine m1.mono ?_; rintro e w1 ⟨rfl, hg1⟩; have k1 := k0.grown hR hg1 (by omega) (by omega); have k21 : v2.length = d.po.length ∧ K0.Blk f2 v2 w1 := ⟨K2.1, M0.blk_grown K2.2 hg1 (by omega)⟩; have k31 : v3.length = d.fr.length ∧ K0.Blk f3 v3 w1 := ⟨K3.1, M0.blk_grown K3.2 hg1 (by omega)⟩; have b1 : LB W.heap.size d (at3 d f1 f2 f3) w1 := ⟨M0.blk_grown bx.b hg1 (by omega)⟩; have c6 := b1.c6))
  go_ret
  exact ⟨⟨_, rfl⟩, k3⟩
end Go.Proofs.YtkdjcbmmbjongaaGreat.N15

/- A call that alone may come up in a region that draws its order. -/
namespace Go.Proofs.YtkdjcbmmbjongaaGreat.Y0
open Go.RowKit
set_option linter.unusedVariables false
set_option linter.unusedSimpArgs false
variable {P : Program} {Q : Exit → Act → World → Prop} {ops : Array Oper}

theorem of_if {c : Prop} [Decidable c] {p q : Prop} (hc : c) (hp : p) : if c then p else q := by rw [if_pos hc]; exact hp

/-- A call of one argument that alone may come up. -/
theorem one_call {S : World → Prop} {a : Act} {w : World} {i f : Nat} {o : Oper} {listed : Array Bool} {fuel : Nat} {md : Region.Mode} (hr : Region.ready md ops listed = [i]) (ho : ops[i]? = some o) (hg : o.guard = none)
    (x : Operand) (ts : Array TypeId) (hop : o.op = .call { callee := .value (.func f), args := #[x], argTypes := ts }) (v : Value) (hx : a.eval x = v) (eg : ∀ args w, (callFunc f args).run P w = .ok (.enter f args) w)
    (hc : Calls P f #[v] w fun e w' => ∃ u, e = .returned u ∧ S w' ∧ wpAnyH P md ops Q S fuel (listed.setIfInBounds i true) (a.put o.dst u) w') : wpAnyH P md ops Q S (fuel + 1) listed a w := by
  refine wpAnyH_all hr (by simp) ?_
  intro j hj
  obtain rfl : j = i := by simpa using hj
  unfold wpOp
  rw [ho]
  refine of_if (by rw [Region.wanted, hg]) (.inl ?_)
  have he : (execOp a.eval o).run P w = .ok (.enter f #[v]) w := by
    subst hx
    simp [execOp, hop, resolve, go_sem, invoke, eg]
  unfold Oper.wp
  rw [he]
  refine Calls.mono hc ?_
  rintro e w' ⟨u, rfl, h⟩
  exact h

/-- .. where it is guarded, and the guard holds. -/
theorem one_callw {S : World → Prop} {a : Act} {w : World} {i f : Nat} {o : Oper} {listed : Array Bool} {fuel : Nat} {md : Region.Mode} (hr : Region.ready md ops listed = [i]) (ho : ops[i]? = some o) (hw : Region.wanted o (yielded ops a.tmps) = true)
    (x : Operand) (ts : Array TypeId) (hop : o.op = .call { callee := .value (.func f), args := #[x], argTypes := ts }) (v : Value) (hx : a.eval x = v) (eg : ∀ args w, (callFunc f args).run P w = .ok (.enter f args) w)
    (hc : Calls P f #[v] w fun e w' => ∃ u, e = .returned u ∧ S w' ∧ wpAnyH P md ops Q S fuel (listed.setIfInBounds i true) (a.put o.dst u) w') : wpAnyH P md ops Q S (fuel + 1) listed a w := by
  refine wpAnyH_all hr (by simp) ?_
  intro j hj
  obtain rfl : j = i := by simpa using hj
  unfold wpOp
  rw [ho]
  refine of_if hw (.inl ?_)
  have he : (execOp a.eval o).run P w = .ok (.enter f #[v]) w := by
    subst hx
    simp [execOp, hop, resolve, go_sem, invoke, eg]
  unfold Oper.wp
  rw [he]
  refine Calls.mono hc ?_
  rintro e w' ⟨u, rfl, h⟩
  exact h

theorem one_call2w {S : World → Prop} {a : Act} {w : World} {i f : Nat} {o : Oper} {listed : Array Bool} {fuel : Nat} {md : Region.Mode} (hr : Region.ready md ops listed = [i]) (ho : ops[i]? = some o) (hw : Region.wanted o (yielded ops a.tmps) = true)
    (x y : Operand) (ts : Array TypeId) (hop : o.op = .call { callee := .value (.func f), args := #[x, y], argTypes := ts }) (v u1 : Value) (hx0 : a.eval x = v) (hx1 : a.eval y = u1) (eg : ∀ args w, (callFunc f args).run P w = .ok (.enter f args) w)
    (hc : Calls P f #[v, u1] w fun e w' => ∃ u, e = .returned u ∧ S w' ∧ wpAnyH P md ops Q S fuel (listed.setIfInBounds i true) (a.put o.dst u) w') : wpAnyH P md ops Q S (fuel + 1) listed a w := by
  refine wpAnyH_all hr (by simp) ?_
  intro j hj
  obtain rfl : j = i := by simpa using hj
  unfold wpOp
  rw [ho]
  refine of_if hw (.inl ?_)
  have he : (execOp a.eval o).run P w = .ok (.enter f #[v, u1]) w := by
    subst hx0 hx1
    simp [execOp, hop, resolve, go_sem, invoke, eg]
  unfold Oper.wp
  rw [he]
  refine Calls.mono hc ?_
  rintro e w' ⟨u, rfl, h⟩
  exact h

theorem one_call3w {S : World → Prop} {a : Act} {w : World} {i f : Nat} {o : Oper} {listed : Array Bool} {fuel : Nat} {md : Region.Mode} (hr : Region.ready md ops listed = [i]) (ho : ops[i]? = some o) (hw : Region.wanted o (yielded ops a.tmps) = true)
    (x y z : Operand) (ts : Array TypeId) (hop : o.op = .call { callee := .value (.func f), args := #[x, y, z], argTypes := ts }) (v u1 u2 : Value) (hx0 : a.eval x = v) (hx1 : a.eval y = u1) (hx2 : a.eval z = u2) (eg : ∀ args w, (callFunc f args).run P w = .ok (.enter f args) w)
    (hc : Calls P f #[v, u1, u2] w fun e w' => ∃ u, e = .returned u ∧ S w' ∧ wpAnyH P md ops Q S fuel (listed.setIfInBounds i true) (a.put o.dst u) w') : wpAnyH P md ops Q S (fuel + 1) listed a w := by
  refine wpAnyH_all hr (by simp) ?_
  intro j hj
  obtain rfl : j = i := by simpa using hj
  unfold wpOp
  rw [ho]
  refine of_if hw (.inl ?_)
  have he : (execOp a.eval o).run P w = .ok (.enter f #[v, u1, u2]) w := by
    subst hx0 hx1 hx2
    simp [execOp, hop, resolve, go_sem, invoke, eg]
  unfold Oper.wp
  rw [he]
  refine Calls.mono hc ?_
  rintro e w' ⟨u, rfl, h⟩
  exact h

/-- Another operation that alone may come up. -/
theorem one_plain {S : World → Prop} {a : Act} {w w' : World} {u : Value} {i : Nat} {o : Oper} {listed : Array Bool} {fuel : Nat} {md : Region.Mode} (hr : Region.ready md ops listed = [i]) (ho : ops[i]? = some o) (hw : Region.wanted o (yielded ops a.tmps) = true)
    (he : (execOp a.eval o).run P w = .ok (.value u) w') (hS : S w') (h : wpAnyH P md ops Q S fuel (listed.setIfInBounds i true) (a.put o.dst u) w') : wpAnyH P md ops Q S (fuel + 1) listed a w := by
  refine wpAnyH_all hr (by simp) ?_
  intro j hj
  obtain rfl : j = i := by simpa using hj
  unfold wpOp
  rw [ho]
  refine of_if hw (.inl ?_)
  unfold Oper.wp
  rw [he]
  exact ⟨hS, h⟩

/-- .. a store. -/
theorem one_skip {S : World → Prop} {a : Act} {w w' : World} {i : Nat} {o : Oper} {listed : Array Bool} {fuel : Nat} {md : Region.Mode} (hr : Region.ready md ops listed = [i]) (ho : ops[i]? = some o) (hw : Region.wanted o (yielded ops a.tmps) = true)
    (he : (execOp a.eval o).run P w = .ok .skip w') (hS : S w') (h : wpAnyH P md ops Q S fuel (listed.setIfInBounds i true) (a.put o.dst undef) w') : wpAnyH P md ops Q S (fuel + 1) listed a w := by
  refine wpAnyH_all hr (by simp) ?_
  intro j hj
  obtain rfl : j = i := by simpa using hj
  unfold wpOp
  rw [ho]
  refine of_if hw (.inl ?_)
  unfold Oper.wp
  rw [he]
  exact ⟨hS, h⟩
end Go.Proofs.YtkdjcbmmbjongaaGreat.Y0

/- Contracts of impl.isTaken and impl.dirOk, as the given laws call them. -/
namespace Go.Proofs.YtkdjcbmmbjongaaGreat.T1
open Go.ChangeShapes Go.WideShapes Go.ChangeAt Go.RowKit
set_option linter.unusedVariables false
set_option linter.unusedSimpArgs false
set_option maxRecDepth 10000

theorem ret_bool {a b : Bool} (h : a = b) : Ending.returned (.bool a) = .returned (.bool b) := by rw [h]

set_option maxHeartbeats 1000000 in
theorem isTaken (b off n c : Nat) (es : List T0.Ent) (x : Int) (s : ByteArray) (w : World) (hn : n ≤ es.length) (hbig : n ≤ 1048576) (hlt0 : b < w.heap.size)
    (hc : ∀ j, j < es.length → w.cell? ⟨b, off + j * 2, none⟩ = some (.int .i64 (T0.ent es j).1) ∧ w.cell? ⟨b, off + j * 2 + 1, none⟩ = some (.string (T0.ent es j).2)) :
    Calls Tryz.prog 83 #[.slice (some ⟨b, off, none⟩) n c, .agg #[.int .i64 x, .string s]] w fun e w' => e = .returned (.bool (T0.taken (es.take n) (x, s))) ∧ Below w.heap.size w w' := by
  have h0 := E2.bx_new x s w 57
  go_enter Tryz.func83, Tryz.ntmps83
  go_wp2
  go_loopw [9] (fun i w' => ∃ k : Nat, k ≤ n ∧ T0.taken (es.take k) (x, s) = false ∧ i = .int .i64 k ∧ E2.Bx w.heap.size w x s w') (fun i _ => n - (intOf i).toNat)
  case atStart => exact ⟨0, Nat.zero_le _, rfl, rfl, h0⟩
  case round =>
    obtain ⟨k, hk, hno, rfl, hbx⟩ := hrel
    clear h0
    by_cases hlt : k < n
    · have y1 := (hbx.bel.cell (p := ⟨b, off + k * 2, none⟩) hlt0).trans (hc k (by omega)).1
      have y2 := (hbx.bel.cell (p := ⟨b, off + k * 2 + 1, none⟩) hlt0).trans (hc k (by omega)).2
      have hs := T0.taken_succ es k (x, s) (by omega)
      have hin := T0.taken_of (es := es) (e := (x, s)) hlt hn
      obtain ⟨z, ez⟩ : ∃ z, T0.ent es k = z := ⟨_, rfl⟩
      rw [ez] at y1 y2 hs hin
      obtain ⟨u, v⟩ := z
      have e1 : (0 : Int) ≤ (k : Int) := by omega
      have e2 : (k : Int) < (n : Int) := by omega
      have hb2 := hbx.alloc (.cells #[.int .i64 u, .string v] 57)
      have d0 := hb2.c0
      have d1 := hb2.c1
      clear ez hc
      by_cases h1 : (v.toList == s.toList) = true
      · have HR : Hid (T0.taken (es.take n) (x, s) = true) := hin (by rw [T0.clash, h1]; rfl)
        clear hin hs hno
        go_wp2
        go_ret
        exact ⟨ret_bool HR.out.symm, hb2.bel⟩
      · have h1' : (v.toList == s.toList) = false := by simpa using h1
        by_cases h2 : (u == x) = true
        · have HR : Hid (T0.taken (es.take n) (x, s) = true) := hin (by rw [T0.clash, h1', h2]; rfl)
          clear hin hs hno h1
          go_wp2
          go_ret
          exact ⟨ret_bool HR.out.symm, hb2.bel⟩
        · have h2' : (u == x) = false := by simpa using h2
          have HN : Hid (T0.taken (es.take (k + 1)) (x, s) = false) := by rw [hs, hno, T0.clash, h1', h2']; rfl
          clear hin hs hno h1 h2
          go_wp2
          go_roundw
          case rel => exact ⟨k + 1, by omega, HN.out, by go_num, hb2⟩
          case measure => simp [intOf]; omega
    · obtain rfl : k = n := by omega
      have HN : Hid (T0.taken (es.take k) (x, s) = false) := hno
      clear hno hc
      go_wp2
      go_ret
      exact ⟨ret_bool HN.out.symm, hbx.bel⟩

theorem ok_lit {i : Int} {s : ByteArray} {B : Nat} {w W : World} {r : Bool} (hs : s.size ≤ 281474976710656) (hr : E0.entryOk i s = r) (h : E2.Bx B w i s W) :
    Calls Tryz.prog 82 #[.agg #[.int .i64 i, .string s]] W fun e w' => e = .returned (.bool r) ∧ E2.Bx B w i s w' :=
  (E2.impl_EntryOk_bx hs h).mono fun _ _ ⟨he, hb⟩ => ⟨by rw [he, hr], hb⟩

theorem row_at {w W : World} {b off : Nat} {es : List T0.Ent} (hlt : b < w.heap.size) (hb : Below w.heap.size w W) (hc : ∀ j, j < es.length → w.cell? ⟨b, off + j * 2, none⟩ = some (.int .i64 (T0.ent es j).1) ∧ w.cell? ⟨b, off + j * 2 + 1, none⟩ = some (.string (T0.ent es j).2)) :
    ∀ j, j < es.length → W.cell? ⟨b, off + j * 2, none⟩ = some (.int .i64 (T0.ent es j).1) ∧ W.cell? ⟨b, off + j * 2 + 1, none⟩ = some (.string (T0.ent es j).2) := fun j hj =>
  ⟨(hb.cell (p := ⟨b, off + j * 2, none⟩) hlt).trans (hc j hj).1, (hb.cell (p := ⟨b, off + j * 2 + 1, none⟩) hlt).trans (hc j hj).2⟩

theorem taken_lit (b off n c : Nat) (es : List T0.Ent) (x : Int) (s : ByteArray) (w W : World) (r : Bool) (hn : n ≤ es.length) (hbig : n ≤ 1048576) (hlt0 : b < w.heap.size) (hb : Below w.heap.size w W) (hr : T0.taken (es.take n) (x, s) = r)
    (hc : ∀ j, j < es.length → w.cell? ⟨b, off + j * 2, none⟩ = some (.int .i64 (T0.ent es j).1) ∧ w.cell? ⟨b, off + j * 2 + 1, none⟩ = some (.string (T0.ent es j).2)) :
    Calls Tryz.prog 83 #[.slice (some ⟨b, off, none⟩) n c, .agg #[.int .i64 x, .string s]] W fun e w' => e = .returned (.bool r) ∧ Below w.heap.size w w' :=
  (isTaken b off n c es x s W hn hbig (Nat.lt_of_lt_of_le hlt0 hb.size) (row_at hlt0 hb hc)).mono fun _ _ ⟨he, h2⟩ => ⟨by rw [he, hr], hb.trans (h2.mono hb.size)⟩

set_option maxHeartbeats 800000 in
theorem dirOk (a : Option Addr) (c : Nat) (es : List T0.Ent) (w : World) (hbig : es.length ≤ 1048576) (hcap : es.length ≤ c) (hfit : T0.Fits es) (hR : T0.Row w a es) :
    Calls Tryz.prog 55 #[.slice a es.length c] w fun e w' => e = .returned (.bool (T0.dirOk es)) ∧ Below w.heap.size w w' := by
  by_cases h12 : 12 < (es.length : Int)
  · have HR : Hid (T0.dirOk es = false) := by rw [T0.dirOk, decide_eq_false (by omega : ¬ es.length ≤ 12)]; rfl
    go_enter Tryz.func55, Tryz.ntmps55
    go_wp2
    go_ret
    exact ⟨ret_bool HR.out.symm, Below.refl _ _⟩
  · have hD : T0.dirOk es = T0.okUpto es es.length := by rw [T0.dirOk, decide_eq_true (by omega : es.length ≤ 12), Bool.true_and]
    go_enter Tryz.func55, Tryz.ntmps55
    go_wp2
    go_loopw [10] (fun i w' => ∃ k : Nat, k ≤ es.length ∧ T0.okUpto es k = true ∧ i = .int .i64 k ∧ Below w.heap.size w w') (fun i _ => es.length - (intOf i).toNat)
    case atStart => exact ⟨0, Nat.zero_le _, rfl, rfl, Below.refl _ _⟩
    case round =>
      obtain ⟨k, hk, hok, rfl, hbel⟩ := hrel
      by_cases hlt : k < es.length
      · obtain ⟨b, off, rfl, hlt0, hc⟩ := hR.get hlt
        have y1 := (hbel.cell (p := ⟨b, off + k * 2, none⟩) hlt0).trans (hc k hlt).1
        have y2 := (hbel.cell (p := ⟨b, off + k * 2 + 1, none⟩) hlt0).trans (hc k hlt).2
        have hs := T0.okUpto_succ es k
        have hat : T0.okAt es k = (E0.entryOk (T0.ent es k).1 (T0.ent es k).2 && !(T0.taken (es.take k) (T0.ent es k))) := rfl
        have hf := hfit k hlt
        obtain ⟨z, ez⟩ : ∃ z, T0.ent es k = z := ⟨_, rfl⟩
        rw [ez] at y1 y2 hat hf
        obtain ⟨u, v⟩ := z
        simp only at y1 y2 hat hf
        have e1 : (0 : Int) ≤ (k : Int) := by omega
        have e2 : (k : Int) < (es.length : Int) := by omega
        have e3 : (k : Int) ≤ (c : Int) := by omega
        have hb1 := E2.bx_new u v wr 57
        have hbd := hb1.drew
        have hB := hbel.size
        clear ez hR hfit
        by_cases hE : E0.entryOk u v = true
        · have hiT : Hid (∀ r W, T0.taken (es.take k) (u, v) = r → Below wr.heap.size wr W → Calls Tryz.prog 83 #[.slice (some ⟨b, off, none⟩) k c, .agg #[.int .i64 u, .string v]] W fun e w' => e = .returned (.bool r) ∧ Below w.heap.size w w') := fun r W hr hb => taken_lit b off k c es u v w W r (by omega) (by omega) hlt0 (hbel.trans (hb.mono hB)) hr hc
          by_cases hT : T0.taken (es.take k) (u, v) = true
          · have HR : Hid (T0.dirOk es = false) := T0.dirOk_bad hlt (by rw [hat, hT, Bool.not_true, Bool.and_false])
            clear hs hat hok hc hD
            go_wp2
            go_region_with (first
              | (go_at_call 82; refine (ok_lit (by omega) hE hbd).mono ?_; rintro e w4 ⟨rfl, h4⟩; have x0 := h4.c0; have x1 := h4.c1)
              | (go_at_call 83; refine (hiT.out _ _ hT h4.bel).mono ?_; rintro e w5 ⟨rfl, b5⟩))
            all_goals
              go_wp2
              go_ret
              exact ⟨ret_bool HR.out.symm, b5⟩
          · have hT' : T0.taken (es.take k) (u, v) = false := by simpa using hT
            have HO : Hid (T0.okUpto es (k + 1) = true) := by rw [hs, hok, hat, hE, hT']; rfl
            clear hs hat hok hc hD hT
            go_wp2
            go_region_with (first
              | (go_at_call 82; refine (ok_lit (by omega) hE hbd).mono ?_; rintro e w4 ⟨rfl, h4⟩; have x0 := h4.c0; have x1 := h4.c1)
              | (go_at_call 83; refine (hiT.out _ _ hT' h4.bel).mono ?_; rintro e w5 ⟨rfl, b5⟩))
            all_goals
              go_wp2
              go_roundw
              case rel => exact ⟨k + 1, by omega, HO.out, by go_num, b5⟩
              case measure => simp [intOf]; omega
        · have hE' : E0.entryOk u v = false := by simpa using hE
          have HR : Hid (T0.dirOk es = false) := T0.dirOk_bad hlt (by rw [hat, hE']; rfl)
          clear hs hat hok hc hD hE
          go_wp2
          have hS0 : (wr.alloc (.cells #[.int .i64 u, .string v] 57)).drew.cell? ⟨wr.heap.size, 0, none⟩ = some (.int .i64 u) ∧ (wr.alloc (.cells #[.int .i64 u, .string v] 57)).drew.cell? ⟨wr.heap.size, 1, none⟩ = some (.string v) := ⟨hbd.c0, hbd.c1⟩
          refine wp_region_held (S := fun W => W.cell? ⟨wr.heap.size, 0, none⟩ = some (.int .i64 u) ∧ W.cell? ⟨wr.heap.size, 1, none⟩ = some (.string v)) (by kernel_rfl) ?_
          refine wpAnyH_take (i := 0) (v := .agg #[.int .i64 u, .string v]) rfl (by kernel_rfl) (by kernel_rfl) (by kernel_rfl) (fun _ _ _ h => h) (Or.inl ⟨by rfl, fun w' hS' => ?_⟩) hS0 ?_
          · obtain ⟨s0, s1⟩ := hS'
            go_simp
          simp only [List.getElem_toArray, List.getElem_cons_succ, List.getElem_cons_zero, Act.put, List.setIfInBounds_toArray, List.set_cons_succ, List.set_cons_zero, Nat.reduceAdd]
          refine Y0.one_call (i := 1) (by kernel_rfl) rfl rfl (.tmp 15) _ rfl (.agg #[.int .i64 u, .string v]) (by rfl) (enters_of Tryz.func82 (by kernel_rfl) rfl) ((ok_lit (by omega) hE' hbd).mono ?_)
          rintro e w4 ⟨rfl, h4⟩
          have hS4 : w4.cell? ⟨wr.heap.size, 0, none⟩ = some (.int .i64 u) ∧ w4.cell? ⟨wr.heap.size, 1, none⟩ = some (.string v) := ⟨h4.c0, h4.c1⟩
          refine ⟨_, rfl, hS4, ?_⟩
          simp only [List.getElem_toArray, List.getElem_cons_succ, List.getElem_cons_zero, Act.put, List.setIfInBounds_toArray, List.set_cons_succ, List.set_cons_zero, Nat.reduceAdd]
          refine wpAnyH_take (i := 2) (v := .bool true) rfl (by kernel_rfl) (by kernel_rfl) (by kernel_rfl) (fun _ _ _ h => h) (Or.inl ⟨by rfl, fun w' hS' => by rfl⟩) hS4 ?_
          simp only [List.getElem_toArray, List.getElem_cons_succ, List.getElem_cons_zero, Act.put, List.setIfInBounds_toArray, List.set_cons_succ, List.set_cons_zero, Nat.reduceAdd]
          refine wpAnyH_take (i := 3) (v := .bool true) rfl (by kernel_rfl) (by kernel_rfl) (by kernel_rfl) (fun _ _ _ h => h) (Or.inl ⟨by rfl, fun w' hS' => by rfl⟩) hS4 ?_
          simp only [List.getElem_toArray, List.getElem_cons_succ, List.getElem_cons_zero, Act.put, List.setIfInBounds_toArray, List.set_cons_succ, List.set_cons_zero, Nat.reduceAdd]
          refine wpAnyH_take (i := 4) (v := undef) rfl (by kernel_rfl) (by kernel_rfl) (by kernel_rfl) (fun _ _ _ h => h) (Or.inr ⟨by rfl, rfl⟩) hS4 ?_
          simp only [List.getElem_toArray, List.getElem_cons_succ, List.getElem_cons_zero, Act.put, List.setIfInBounds_toArray, List.set_cons_succ, List.set_cons_zero, Nat.reduceAdd]
          refine wpAnyH_take (i := 5) (v := undef) rfl (by kernel_rfl) (by kernel_rfl) (by kernel_rfl) (fun _ _ _ h => h) (Or.inr ⟨by rfl, rfl⟩) hS4 ?_
          simp only [List.getElem_toArray, List.getElem_cons_succ, List.getElem_cons_zero, Act.put, List.setIfInBounds_toArray, List.set_cons_succ, List.set_cons_zero, Nat.reduceAdd]
          refine wpAnyH_take (i := 6) (v := undef) rfl (by kernel_rfl) (by kernel_rfl) (by kernel_rfl) (fun _ _ _ h => h) (Or.inr ⟨by rfl, rfl⟩) hS4 ?_
          simp only [List.getElem_toArray, List.getElem_cons_succ, List.getElem_cons_zero, Act.put, List.setIfInBounds_toArray, List.set_cons_succ, List.set_cons_zero, Nat.reduceAdd]
          refine wpAnyH_take (i := 7) (v := undef) rfl (by kernel_rfl) (by kernel_rfl) (by kernel_rfl) (fun _ _ _ h => h) (Or.inr ⟨by rfl, rfl⟩) hS4 ?_
          simp only [List.getElem_toArray, List.getElem_cons_succ, List.getElem_cons_zero, Act.put, List.setIfInBounds_toArray, List.set_cons_succ, List.set_cons_zero, Nat.reduceAdd]
          refine wpAnyH_take (i := 8) (v := undef) rfl (by kernel_rfl) (by kernel_rfl) (by kernel_rfl) (fun _ _ _ h => h) (Or.inr ⟨by rfl, rfl⟩) hS4 ?_
          simp only [List.getElem_toArray, List.getElem_cons_succ, List.getElem_cons_zero, Act.put, List.setIfInBounds_toArray, List.set_cons_succ, List.set_cons_zero, Nat.reduceAdd]
          refine wpAnyH_take (i := 9) (v := .bool true) rfl (by kernel_rfl) (by kernel_rfl) (by kernel_rfl) (fun _ _ _ h => h) (Or.inl ⟨by rfl, fun w' hS' => by rfl⟩) hS4 ?_
          simp only [List.getElem_toArray, List.getElem_cons_succ, List.getElem_cons_zero, Act.put, List.setIfInBounds_toArray, List.set_cons_succ, List.set_cons_zero, Nat.reduceAdd]
          refine wpAnyH_done (by kernel_rfl) ?_ _
          all_goals
            go_wp2
            go_ret
            exact ⟨ret_bool HR.out.symm, hbel.trans (h4.bel.mono hB)⟩
      · obtain rfl : k = es.length := by omega
        have HR : Hid (T0.dirOk es = true) := by rw [hD, hok]; rfl
        clear hok hD hR
        go_wp2
        go_ret
        exact ⟨ret_bool HR.out.symm, hbel⟩
end Go.Proofs.YtkdjcbmmbjongaaGreat.T1

/- Contracts of impl.PutDir and spec.PutDir, as the given laws call them. -/
namespace Go.Proofs.YtkdjcbmmbjongaaGreat.T2
open Go.ChangeShapes Go.WideShapes Go.ChangeAt Go.RowKit
set_option linter.unusedVariables false
set_option linter.unusedSimpArgs false
set_option maxRecDepth 10000

theorem ret_str {a b : ByteArray} (h : a = b) : Ending.returned (.string a) = .returned (.string b) := by rw [h]

theorem makeRoom (n : Nat) (hn : n ≤ 12) : ∃ C : Array Value, C.size = n * 16 ∧ ∀ W : World, (Instr.makeSlice 83 (.int .i64 0) (.int .i64 ((n : Int) * 16))).run Tryz.prog W = .ok (.slice (some ⟨W.heap.size, 0, none⟩) 0 (n * 16)) (W.alloc (.cells C 5)) := by
  obtain ⟨i0, hi, hz0, hz1, hz2⟩ := info_parts F0.info5
  refine ⟨madeCells (Value.int .u8 0).cells ((n * 16) * i0.size), ?_, fun W => ?_⟩
  · have : (madeCells (Value.int .u8 0).cells ((n * 16) * i0.size)).toList.length = n * 16 := by
      rw [show (Value.int .u8 0).cells = #[Value.int .u8 0] from rfl, toList_madeCells_one, hz1]
      simp
    simpa using this
  · have h := run_make (P := Tryz.prog) W 83 5 i0 (.int .u8 0) Tryz.underlying83 hi hz0 .i64 .i64 0 ((n : Int) * 16) (by omega) (by omega) (by rw [hz2]; omega) (by omega)
    rw [show ((n : Int) * 16).toNat = n * 16 by omega] at h
    exact h

theorem dir_lit {a : Option Addr} {c : Nat} {es : List T0.Ent} {W : World} {r : Bool} (hbig : es.length ≤ 1048576) (hcap : es.length ≤ c) (hfit : T0.Fits es) (hR : T0.Row W a es) (hr : T0.dirOk es = r) :
    Calls Tryz.prog 55 #[.slice a es.length c] W fun e w' => e = .returned (.bool r) ∧ Below W.heap.size W w' := (T1.dirOk a c es W hbig hcap hfit hR).mono fun _ _ h => ⟨by rw [h.1, hr], h.2⟩

set_option maxHeartbeats 2000000 in
theorem impl_PutDir (a : Option Addr) (c : Nat) (es : List T0.Ent) (w : World) (hbig : es.length ≤ 1048576) (hcap : es.length ≤ c) (hfit : T0.Fits es) (hR : T0.Row w a es) :
    Calls Tryz.prog 30 #[.slice a es.length c] w fun e w' => e = .returned (.string (T0.putD es)) ∧ Below w.heap.size w w' := by
  by_cases hD : T0.dirOk es = true
  · have HP : Hid (T0.putD es = T0.joined es es.length) := by rw [T0.putD, if_pos hD]; rfl
    have hd := hD
    simp only [T0.dirOk, Bool.and_eq_true, decide_eq_true_eq] at hd
    obtain ⟨hl, hok⟩ := hd
    obtain ⟨C, hC, hmk⟩ := makeRoom es.length hl
    have hdl : Hid (∀ W, T0.Row W a es → Calls Tryz.prog 55 #[.slice a es.length c] W fun e w' => e = .returned (.bool true) ∧ Below W.heap.size W w') := fun W h => dir_lit hbig hcap hfit h hD
    clear hD
    go_enter Tryz.func30, Tryz.ntmps30
    go_wp2_with (go_at_call 55; refine (hdl.out _ hR).mono ?_; rintro e w1 ⟨rfl, b1⟩; have hbuf0 := F0.buf_none (base := w1.heap.size) w1 C (es.length * 16) hC (by unfold maxLen; omega) (Nat.le_refl _); have bel0 := K0.below_new w1 (.cells C 5))
    go_loopw [3, 15] (fun r i w' => ∃ (j g cap : Nat), j ≤ es.length ∧ i = .int .i64 j ∧ r = .slice (some ⟨g, 0, none⟩) (16 * j) cap ∧ F0.Buf w1.heap.size w' g (16 * j) cap (T0.joined es j) ∧ Below w1.heap.size w1 w') (fun _ i _ => es.length - (intOf i).toNat)
    case atStart => exact ⟨0, _, _, Nat.zero_le _, rfl, rfl, hbuf0, bel0⟩
    case round =>
      obtain ⟨j, g, cap, hj, rfl, rfl, hbuf, hbel⟩ := hrel
      clear hbuf0 bel0 hmk
      have hfin : Hid (∀ W, Below w1.heap.size w1 W → Below w.heap.size w W) := fun W h => b1.trans (h.mono b1.size)
      by_cases hlt : j < es.length
      · obtain ⟨b, off, rfl, hlt0, hc⟩ := ((hR.below b1).below hbel).get hlt
        have y1 := (hc j hlt).1
        have y2 := (hc j hlt).2
        have hat := T0.okAt_entry (T0.okUpto_at hok hlt)
        have hf := hfit j hlt
        have hu : T0.joined es (j + 1) = T0.joined es j ++ E0.putE (T0.ent es j).1 (T0.ent es j).2 := rfl
        obtain ⟨z, ez⟩ : ∃ z, T0.ent es j = z := ⟨_, rfl⟩
        rw [ez] at y1 y2 hat hf hu
        obtain ⟨u, v⟩ := z
        simp only at y1 y2 hat hf hu
        have hps := T0.putE_size16 hat.1
        have HU : Hid (T0.joined es (j + 1) = T0.joined es j ++ E0.putE u v) := hu
        have e1 : (0 : Int) ≤ (j : Int) := by omega
        have e2 : (j : Int) < (es.length : Int) := by omega
        have hbufa := hbuf.alloc (.cells #[.int .i64 u, .string v] 57)
        have bela := hbel.alloc hbel.size (.cells #[.int .i64 u, .string v] 57)
        clear hu ez hc hat hR hfit hdl hbuf
        go_wp2_with (first
          | (go_at_call 56; refine (E2.impl_PutEntry u v _ hf).mono ?_; rintro e w2 ⟨rfl, b2⟩; have hbuf2 := hbufa.below b2; have bel2 := bela.trans (b2.mono bela.size))
          | (at_builtin; refine F0.append_text rfl (.tmp 19) (.tmp 21) rfl hbuf2 (E0.putE u v) (by rfl) (by rfl) (by omega) bel2.size ?_; intro g1 cap1 w3 hbuf3 bel3))
        go_roundw
        case rel =>
          rw [hps] at hbuf3
          exact ⟨j + 1, g1, cap1, by omega, by go_num, rfl, by rw [HU.out]; exact hbuf3, bel2.trans bel3⟩
        case measure => simp [intOf]; omega
      · obtain rfl : j = es.length := by omega
        have hcv := hbuf.conv
        clear hR hfit hdl hbuf
        go_wp2
        go_ret
        exact ⟨ret_str HP.out.symm, hfin.out _ hbel⟩
  · have hD' : T0.dirOk es = false := by simpa using hD
    have HP : Hid (T0.putD es = ⟨#[]⟩) := by rw [T0.putD, if_neg hD]; rfl
    have hdl : Hid (∀ W, T0.Row W a es → Calls Tryz.prog 55 #[.slice a es.length c] W fun e w' => e = .returned (.bool false) ∧ Below W.heap.size W w') := fun W h => dir_lit hbig hcap hfit h hD'
    clear hD hD'
    go_enter Tryz.func30, Tryz.ntmps30
    go_wp2_with (go_at_call 55; refine (hdl.out _ hR).mono ?_; rintro e w1 ⟨rfl, b1⟩)
    go_ret
    exact ⟨ret_str HP.out.symm, b1⟩
end Go.Proofs.YtkdjcbmmbjongaaGreat.T2
