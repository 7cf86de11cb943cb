/- Joined texts: plain facts and contracts, as each part says. -/
import Derived.Test.YtddlpejklpljoaaGreatJgD
import Derived.Lib.AppendZerosOnto
import Derived.Test.YtddlpejklpljoaaGreatJgC
import Derived.Deep.RegionWith

/- Contracts of laws.szLoan, laws.toLoan, laws.eqLoan and laws.markLoan. -/
namespace Go.Proofs.YtddlpejklpljoaaGreat.N3
open Go.ChangeShapes Go.WideShapes Go.ChangeAt Go.RowKit
set_option linter.unusedVariables false
set_option linter.unusedSimpArgs false
set_option maxRecDepth 10000

open N0 (Ln)
open N1 (Sl val vals Lists FitM LB lb_new)
open I2 (ints)

def total (d : Ln) : Nat := d.rc.size + d.pg.length + d.sav.size + d.po.length + d.fr.length

theorem szOk (a : Option Addr) (c n : Nat) (l : Int) (w : World) (hn : n ≤ maxLen) (h1 : l ≤ 1048576) (h : (n : Int) ≤ l) :
    Calls Tryz.prog 73 #[.slice a n c, .int .i64 l] w fun e w' => e = .returned (.int .i64 (l - n)) ∧ w' = w :=
  (I2.szIntS a c n l w hn (by omega) h1).mono fun _ _ ⟨he, hw⟩ => ⟨by rw [he, I2.left, if_neg (by omega)], hw⟩
theorem szNo (a : Option Addr) (c n : Nat) (l : Int) (w : World) (hn : n ≤ maxLen) (h0 : 0 ≤ l) (h1 : l ≤ 1048576) (h : l < (n : Int)) :
    Calls Tryz.prog 73 #[.slice a n c, .int .i64 l] w fun e w' => e = .returned (.int .i64 (-1)) ∧ w' = w :=
  (I2.szIntS a c n l w hn h0 h1).mono fun _ _ ⟨he, hw⟩ => ⟨by rw [he, I2.left, if_pos (by omega)], hw⟩

theorem szFit (d : Ln) (s : Sl) (w : World) (hF : FitM d s) (h : total d ≤ 1048576) :
    Calls Tryz.prog 31 #[val d s, .int .i64 1048576] w fun e w' => (∃ q : Int, 0 ≤ q ∧ e = .returned (.int .i64 q)) ∧ Below w.heap.size w w' := by
  have hB := K0.below_new w (.cells #[.int .i64 d.ino, .int .i64 d.cl, .int .i64 d.un, .string d.rc, .slice s.a1 d.pg.length s.c1, .string d.sav, .slice s.a2 d.po.length s.c2, .slice s.a3 d.fr.length s.c3] 51)
  have l1 := hF.l1
  have l2 := hF.l2
  have l3 := hF.l3
  unfold total at h
  have e1 : (0 : Int) ≤ 1048576 - (d.rc.size : Int) := by omega
  have g1 : ¬ (1048576 - (d.rc.size : Int) < 0) := by omega
  have g2 : ¬ (1048576 - (d.rc.size : Int) - (d.pg.length : Int) < 0) := by omega
  have g3 : ¬ (1048576 - (d.rc.size : Int) - (d.pg.length : Int) - (d.sav.size : Int) < 0) := by omega
  have g4 : ¬ (1048576 - (d.rc.size : Int) - (d.pg.length : Int) - (d.sav.size : Int) - (d.po.length : Int) < 0) := by omega
  have g5 : ¬ (1048576 - (d.rc.size : Int) - (d.pg.length : Int) - (d.sav.size : Int) - (d.po.length : Int) - (d.fr.length : Int) < 0) := by omega
  go_enter Tryz.func31, Tryz.ntmps31
  go_wp2_with (go_at_call 73; refine (szOk _ _ _ _ _ (by assumption) (by omega) (by omega)).mono ?_; rintro e w' ⟨rfl, rfl⟩)
  go_ret
  exact ⟨⟨_, by omega, rfl⟩, hB⟩

theorem szBig (d : Ln) (s : Sl) (w : World) (hF : FitM d s) (h : ¬ total d ≤ 1048576) :
    Calls Tryz.prog 31 #[val d s, .int .i64 1048576] w fun e w' => e = .returned (.int .i64 (-1)) ∧ Below w.heap.size w w' := by
  have hB := K0.below_new w (.cells #[.int .i64 d.ino, .int .i64 d.cl, .int .i64 d.un, .string d.rc, .slice s.a1 d.pg.length s.c1, .string d.sav, .slice s.a2 d.po.length s.c2, .slice s.a3 d.fr.length s.c3] 51)
  have l1 := hF.l1
  have l2 := hF.l2
  have l3 := hF.l3
  have l4 := hF.m4
  have l5 := hF.m5
  have l4' : d.rc.size ≤ 9223372036854775807 := l4
  have l5' : d.sav.size ≤ 9223372036854775807 := l5
  unfold total at h
  by_cases g1 : 1048576 - (d.rc.size : Int) < 0
  · go_enter Tryz.func31, Tryz.ntmps31
    go_wp2
    go_ret
    exact ⟨rfl, hB⟩
  · by_cases g2 : 1048576 - (d.rc.size : Int) - (d.pg.length : Int) < 0
    · go_enter Tryz.func31, Tryz.ntmps31
      go_wp2_with (go_at_call 73; refine (szNo _ _ _ _ _ (by assumption) (by omega) (by omega) (by omega)).mono ?_; rintro e w' ⟨rfl, rfl⟩)
      go_ret
      exact ⟨rfl, hB⟩
    · by_cases g3 : 1048576 - (d.rc.size : Int) - (d.pg.length : Int) - (d.sav.size : Int) < 0
      · go_enter Tryz.func31, Tryz.ntmps31
        go_wp2_with (go_at_call 73; refine (szOk _ _ _ _ _ (by assumption) (by omega) (by omega)).mono ?_; rintro e w' ⟨rfl, rfl⟩)
        go_ret
        exact ⟨rfl, hB⟩
      · by_cases g4 : 1048576 - (d.rc.size : Int) - (d.pg.length : Int) - (d.sav.size : Int) - (d.po.length : Int) < 0
        · go_enter Tryz.func31, Tryz.ntmps31
          go_wp2_with (first
            | (go_at_call 73; refine (szOk _ _ _ _ _ (by assumption) (by omega) (by omega)).mono ?_; rintro e w' ⟨rfl, rfl⟩)
            | (go_at_call 73; refine (szNo _ _ _ _ _ (by assumption) (by omega) (by omega) (by omega)).mono ?_; rintro e w' ⟨rfl, rfl⟩))
          go_ret
          exact ⟨rfl, hB⟩
        · go_enter Tryz.func31, Tryz.ntmps31
          go_wp2_with (first
            | (go_at_call 73; refine (szOk _ _ _ _ _ (by assumption) (by omega) (by omega)).mono ?_; rintro e w' ⟨rfl, rfl⟩)
            | (go_at_call 73; refine (szNo _ _ _ _ _ (by assumption) (by omega) (by omega) (by omega)).mono ?_; rintro e w' ⟨rfl, rfl⟩))
          go_ret
          exact ⟨rfl, hB⟩

theorem eqLoan (d : Ln) (s1 s2 : Sl) (w : World) (hp : d.pg.length ≤ 281474976710656) (ho : d.po.length ≤ 281474976710656) (hf : d.fr.length ≤ 281474976710656) (h1 : Lists w d s1) (h2 : Lists w d s2) :
    Calls Tryz.prog 34 #[val d s1, val d s2] w fun e w' => e = .returned (.bool true) ∧ Below w.heap.size w w' := by
  have b1 := lb_new d s1 w 26
  have hB := K0.below_new w (.cells #[.int .i64 d.ino, .int .i64 d.cl, .int .i64 d.un, .string d.rc, .slice s1.a1 d.pg.length s1.c1, .string d.sav, .slice s1.a2 d.po.length s1.c2, .slice s1.a3 d.fr.length s1.c3] 26)
  have hB2 := hB.alloc hB.size (.cells #[.int .i64 d.ino, .int .i64 d.cl, .int .i64 d.un, .string d.rc, .slice s2.a1 d.pg.length s2.c1, .string d.sav, .slice s2.a2 d.po.length s2.c2, .slice s2.a3 d.fr.length s2.c3] 26)
  have h1' := h1.below hB2
  have h2' := h2.below hB2
  obtain ⟨W, hW⟩ : ∃ W, (w.alloc (.cells #[.int .i64 d.ino, .int .i64 d.cl, .int .i64 d.un, .string d.rc, .slice s1.a1 d.pg.length s1.c1, .string d.sav, .slice s1.a2 d.po.length s1.c2, .slice s1.a3 d.fr.length s1.c3] 26)).alloc (.cells #[.int .i64 d.ino, .int .i64 d.cl, .int .i64 d.un, .string d.rc, .slice s2.a1 d.pg.length s2.c1, .string d.sav, .slice s2.a2 d.po.length s2.c2, .slice s2.a3 d.fr.length s2.c3] 26) = W := ⟨_, rfl⟩
  have hr1 : ∀ m, P0.Row (W.drewN m) s1.a1 d.pg := fun m => by rw [← hW]; exact h1'.r1.drewN m
  have hr2 : ∀ m, P0.Row (W.drewN m) s2.a1 d.pg := fun m => by rw [← hW]; exact h2'.r1.drewN m
  have hr3 : ∀ m, P0.Row (W.drewN m) s1.a2 d.po := fun m => by rw [← hW]; exact h1'.r2.drewN m
  have hr4 : ∀ m, P0.Row (W.drewN m) s2.a2 d.po := fun m => by rw [← hW]; exact h2'.r2.drewN m
  have hr5 : ∀ m, P0.Row (W.drewN m) s1.a3 d.fr := fun m => by rw [← hW]; exact h1'.r3.drewN m
  have hr6 : ∀ m, P0.Row (W.drewN m) s2.a3 d.fr := fun m => by rw [← hW]; exact h2'.r3.drewN m
  rw [hW] at hB2
  have hu : ∀ x : ByteArray, (x.toList != x.toList) = false := fun x => by simp
  subst hW
  go_enter Tryz.func34, Tryz.ntmps34
  go_wp2_with (first
    | (go_at_call 33; have n2' := n2; refine (I2.eqIntS _ _ _ _ d.fr _ hf (by simpa only [World.drewN_drewN] using hr5 (n1 + n2)) (by simpa only [World.drewN_drewN] using hr6 (n1 + n2))).mono ?_; rintro e w' ⟨rfl, n3, rfl⟩)
    | (go_at_call 33; have n1' := n1; refine (I2.eqIntS _ _ _ _ d.po _ ho (hr3 n1) (hr4 n1)).mono ?_; rintro e w' ⟨rfl, n2, rfl⟩)
    | (go_at_call 33; refine (I2.eqIntS _ _ _ _ d.pg _ hp (hr1 0) (hr2 0)).mono ?_; rintro e w' ⟨rfl, n1, rfl⟩))
  go_ret
  exact ⟨rfl, K0.below_drewN hB2 _⟩
end Go.Proofs.YtddlpejklpljoaaGreat.N3

/- Contracts of laws.toLoan and laws.markLoan. -/
namespace Go.Proofs.YtddlpejklpljoaaGreat.N4
open Go.ChangeShapes Go.WideShapes Go.ChangeAt Go.RowKit
set_option linter.unusedVariables false
set_option linter.unusedSimpArgs false
set_option maxRecDepth 10000

open N0 (Ln)
open N1 (Sl val vals Lists FitM LB lb_new)
open I2 (ints)

abbrev zero8 : List Value := [.int .i64 0, .int .i64 0, .int .i64 0, .string ⟨#[]⟩, .slice none 0 0, .string ⟨#[]⟩, .slice none 0 0, .slice none 0 0]

/-- The three blocks of toLoan. -/
structure T (w : World) (d : Ln) (s : Sl) (vs : List Value) (W : World) : Prop where
  arg : LB w.heap.size d s W
  res : K0.Blk (w.heap.size + 1) zero8 W
  tmp : K0.Blk (w.heap.size + 2) vs W
  bel : Below w.heap.size w W

variable {w W W' : World} {d : Ln} {s : Sl} {vs : List Value}

theorem T.below (h : T w d s vs W) (hb : Below W.heap.size W W') : T w d s vs W' := ⟨h.arg.below hb, h.res.below hb, h.tmp.below hb, h.bel.trans (hb.mono h.bel.size)⟩
theorem T.set (h : T w d s vs W) (j : Nat) (v : Value) : T w d s (vs.set j v) (W.setCell ⟨w.heap.size + 2, j, none⟩ v) :=
  ⟨⟨h.arg.b.setOther (by omega) j v⟩, h.res.setOther (by omega) j v, h.tmp.set j v, h.bel.setCell (p := ⟨w.heap.size + 2, j, none⟩) (Nat.le_add_right _ _) v⟩
theorem T.arg' (h : T w d s vs W) : LB w.heap.size d s W := h.arg

/-- Where a copy's lists stand. -/
def at3 (d : Ln) (g1 g2 g3 : Nat) : Sl := ⟨some ⟨g1, 0, none⟩, d.pg.length, some ⟨g2, 0, none⟩, d.po.length, some ⟨g3, 0, none⟩, d.fr.length⟩

theorem t_new (w : World) (d : Ln) (s : Sl) :
    T w d s [.int .i64 d.ino, .int .i64 d.cl, .int .i64 d.un, .string d.rc, .slice none 0 0, .string ⟨#[]⟩, .slice none 0 0, .slice none 0 0] (((w.alloc (.cells #[.int .i64 d.ino, .int .i64 d.cl, .int .i64 d.un, .string d.rc, .slice s.a1 d.pg.length s.c1, .string d.sav, .slice s.a2 d.po.length s.c2, .slice s.a3 d.fr.length s.c3] 51)).alloc (.cells #[.int .i64 0, .int .i64 0, .int .i64 0, .string ⟨#[]⟩, .slice none 0 0, .string ⟨#[]⟩, .slice none 0 0, .slice none 0 0] 26)).alloc (.cells #[.int .i64 d.ino, .int .i64 d.cl, .int .i64 d.un, .string d.rc, .slice none 0 0, .string ⟨#[]⟩, .slice none 0 0, .slice none 0 0] 26)) :=
  ⟨⟨((K0.blk_new (vals d s) w 51).alloc _).alloc _⟩, (K0.blk_at zero8 _ 26 (by simp)).alloc _, K0.blk_at [.int .i64 d.ino, .int .i64 d.cl, .int .i64 d.un, .string d.rc, .slice none 0 0, .string ⟨#[]⟩, .slice none 0 0, .slice none 0 0] _ 26 (by simp),
   (((Below.refl _ _).alloc (Nat.le_refl _) _).alloc (by simp) _).alloc (by simp; omega) _⟩

/-- A copy of a loan: its lists are its own. -/
structure Cp (B : Nat) (d : Ln) (g1 g2 g3 : Nat) (W : World) : Prop where
  h1 : B ≤ g1
  h2 : B ≤ g2
  h3 : B ≤ g3
  k1 : K0.Blk g1 (ints d.pg) W
  k2 : K0.Blk g2 (ints d.po) W
  k3 : K0.Blk g3 (ints d.fr) W

variable {B g1 g2 g3 : Nat}
theorem Cp.below (h : Cp B d g1 g2 g3 W) (hb : Below W.heap.size W W') : Cp B d g1 g2 g3 W' := ⟨h.h1, h.h2, h.h3, h.k1.below hb, h.k2.below hb, h.k3.below hb⟩
theorem Cp.lists (h : Cp B d g1 g2 g3 W) : Lists W d (at3 d g1 g2 g3) := ⟨I2.row_of_blk h.k1, I2.row_of_blk h.k2, I2.row_of_blk h.k3⟩

theorem put8 {B : Nat} {x0 x1 x2 x3 x4 x5 x6 x7 y0 y1 y2 y3 y4 y5 y6 y7 : Value} (h : K0.Blk B [x0, x1, x2, x3, x4, x5, x6, x7] W) :
    K0.Blk B [y0, y1, y2, y3, y4, y5, y6, y7] ((((((((W.setCell ⟨B, 0, none⟩ y0).setCell ⟨B, 1, none⟩ y1).setCell ⟨B, 2, none⟩ y2).setCell ⟨B, 3, none⟩ y3).setCell ⟨B, 4, none⟩ y4).setCell ⟨B, 5, none⟩ y5).setCell ⟨B, 6, none⟩ y6).setCell ⟨B, 7, none⟩ y7) :=
  (((((((h.set 0 y0).set 1 y1).set 2 y2).set 3 y3).set 4 y4).set 5 y5).set 6 y6).set 7 y7
theorem other8 {B B' : Nat} {vs : List Value} (h : K0.Blk B' vs W) (hne : B ≠ B') (y0 y1 y2 y3 y4 y5 y6 y7 : Value) :
    K0.Blk B' vs ((((((((W.setCell ⟨B, 0, none⟩ y0).setCell ⟨B, 1, none⟩ y1).setCell ⟨B, 2, none⟩ y2).setCell ⟨B, 3, none⟩ y3).setCell ⟨B, 4, none⟩ y4).setCell ⟨B, 5, none⟩ y5).setCell ⟨B, 6, none⟩ y6).setCell ⟨B, 7, none⟩ y7) :=
  (((((((h.setOther hne 0 y0).setOther hne 1 y1).setOther hne 2 y2).setOther hne 3 y3).setOther hne 4 y4).setOther hne 5 y5).setOther hne 6 y6).setOther hne 7 y7
theorem bel8 {B b : Nat} (h : Below b w W) (hb : b ≤ B) (y0 y1 y2 y3 y4 y5 y6 y7 : Value) :
    Below b w ((((((((W.setCell ⟨B, 0, none⟩ y0).setCell ⟨B, 1, none⟩ y1).setCell ⟨B, 2, none⟩ y2).setCell ⟨B, 3, none⟩ y3).setCell ⟨B, 4, none⟩ y4).setCell ⟨B, 5, none⟩ y5).setCell ⟨B, 6, none⟩ y6).setCell ⟨B, 7, none⟩ y7) :=
  (((((((h.setCell (p := ⟨B, 0, none⟩) hb y0).setCell (p := ⟨B, 1, none⟩) hb y1).setCell (p := ⟨B, 2, none⟩) hb y2).setCell (p := ⟨B, 3, none⟩) hb y3).setCell (p := ⟨B, 4, none⟩) hb y4).setCell (p := ⟨B, 5, none⟩) hb y5).setCell (p := ⟨B, 6, none⟩) hb y6).setCell (p := ⟨B, 7, none⟩) hb y7

set_option maxHeartbeats 4000000 in
theorem toLoan (d : Ln) (s : Sl) (w : World) (hp : d.pg.length ≤ 1048576) (ho : d.po.length ≤ 1048576) (hf : d.fr.length ≤ 1048576) (hR : Lists w d s) :
    Calls Tryz.prog 32 #[val d s] w fun e w' => ∃ g1 g2 g3, e = .returned (val d (at3 d g1 g2 g3)) ∧ Cp w.heap.size d g1 g2 g3 w' ∧ Below w.heap.size w w' := by
  have t0 := t_new w d s
  have HL : Hid (∀ W, Below w.heap.size w W → Lists W d s) := fun W hb => hR.below hb
  have r0 := (HL.out _ t0.bel).r1
  clear hR
  go_enter Tryz.func32, Tryz.ntmps32
  go_wp2_with (first
    | (go_at_call 74; have q2' := q2; refine (I2.toIntS s.a3 s.c3 d.fr _ hf q2).mono ?_; rintro e w3 ⟨g3, rfl, hg3, k3, b3⟩; have t3 := u2.below b3; have m1 := l2.below b3; have m2 := (k2.setOther (B' := w.heap.size + 2) (by omega) 6 (.slice (some ⟨g2, 0, none⟩) d.po.length d.po.length)).below b3; have z7 := t3.tmp.cell 7 (by simp); have y7 := t3.tmp.free 7 (by simp); have z0 := t3.tmp.cell 0 (by simp); have z1 := t3.tmp.cell 1 (by simp); have z2 := t3.tmp.cell 2 (by simp); have z3 := t3.tmp.cell 3 (by simp); have z4 := t3.tmp.cell 4 (by simp); have z5 := t3.tmp.cell 5 (by simp); have z6 := t3.tmp.cell 6 (by simp); simp only [List.set_cons_zero, List.set_cons_succ, List.getElem_cons_zero, List.getElem_cons_succ] at z0 z1 z2 z3 z4 z5 z6 z7; have i0 := t3.res.cell 0 (by simp); have i1 := t3.res.cell 1 (by simp); have i2 := t3.res.cell 2 (by simp); have i3 := t3.res.cell 3 (by simp); have i4 := t3.res.cell 4 (by simp); have i5 := t3.res.cell 5 (by simp); have i6 := t3.res.cell 6 (by simp); have i7 := t3.res.cell 7 (by simp); simp only [List.getElem_cons_zero, List.getElem_cons_succ] at i0 i1 i2 i3 i4 i5 i6 i7; have j0 := t3.res.free 0 (by simp); have j1 := t3.res.free 1 (by simp); have j2 := t3.res.free 2 (by simp); have j3 := t3.res.free 3 (by simp); have j4 := t3.res.free 4 (by simp); have j5 := t3.res.free 5 (by simp); have j6 := t3.res.free 6 (by simp); have j7 := t3.res.free 7 (by simp))
    | (go_at_call 74; have q1' := q1; refine (I2.toIntS s.a2 s.c2 d.po _ ho q1).mono ?_; rintro e w2 ⟨g2, rfl, hg2, k2, b2⟩; have t2 := u1.below b2; have l2 := ((k1.setOther (B' := w.heap.size + 2) (by omega) 4 (.slice (some ⟨g1, 0, none⟩) d.pg.length d.pg.length)).setOther (B' := w.heap.size + 2) (by omega) 5 (.string d.sav)).below b2; have hg2' : w.heap.size + 3 ≤ g2 := (by have hq := u1.tmp.lt; omega); have l2 := l2.setOther (B' := w.heap.size + 2) (by omega) 6 (.slice (some ⟨g2, 0, none⟩) d.po.length d.po.length); have c7 := t2.arg.c7; have x6 := t2.tmp.cell 6 (by simp); have y6 := t2.tmp.free 6 (by simp); simp only [List.set_cons_zero, List.set_cons_succ, List.getElem_cons_zero, List.getElem_cons_succ] at x6; have u2 := t2.set 6 (.slice (some ⟨g2, 0, none⟩) d.po.length d.po.length); have q2 := (HL.out _ u2.bel).r3)
    | (go_at_call 74; refine (I2.toIntS s.a1 s.c1 d.pg _ hp r0).mono ?_; rintro e w1 ⟨g1, rfl, hg1, k1, b1⟩; have t1 := t0.below b1; have hg1' : w.heap.size + 3 ≤ g1 := (by have hq := t0.tmp.lt; omega); have c5 := t1.arg.c5; have c6 := t1.arg.c6; have x4 := t1.tmp.cell 4 (by simp); have y4 := t1.tmp.free 4 (by simp); have x5 := t1.tmp.cell 5 (by simp); have y5 := t1.tmp.free 5 (by simp); simp only [List.getElem_cons_zero, List.getElem_cons_succ] at x4 x5; have u1 := (t1.set 4 (.slice (some ⟨g1, 0, none⟩) d.pg.length d.pg.length)).set 5 (.string d.sav); have q1 := (HL.out _ u1.bel).r2))
  have hg3' : w.heap.size + 3 ≤ g3 := by
    have := u2.tmp.lt
    simp at hg3 this
    omega
  have u3 := t3.set 7 (.slice (some ⟨g3, 0, none⟩) d.fr.length d.fr.length)
  have q := put8 (y0 := .int .i64 d.ino) (y1 := .int .i64 d.cl) (y2 := .int .i64 d.un) (y3 := .string d.rc) (y4 := .slice (some ⟨g1, 0, none⟩) d.pg.length d.pg.length) (y5 := .string d.sav) (y6 := .slice (some ⟨g2, 0, none⟩) d.po.length d.po.length) (y7 := .slice (some ⟨g3, 0, none⟩) d.fr.length d.fr.length) u3.res
  have v0 := q.cell 0 (by simp)
  have v1 := q.cell 1 (by simp)
  have v2 := q.cell 2 (by simp)
  have v3 := q.cell 3 (by simp)
  have v4 := q.cell 4 (by simp)
  have v5 := q.cell 5 (by simp)
  have v6 := q.cell 6 (by simp)
  have v7 := q.cell 7 (by simp)
  simp only [List.getElem_cons_zero, List.getElem_cons_succ] at v0 v1 v2 v3 v4 v5 v6 v7
  refine bodyPost_ret (v := val d (at3 d g1 g2 g3)) (by simp [results, Tryz.results32, go_sem, v0, v1, v2, v3, v4, v5, v6, v7, at3]) rfl ⟨g1, g2, g3, rfl, ⟨by omega, by omega, by omega, ?_, ?_, ?_⟩, ?_⟩
  · exact other8 (m1.setOther (B' := w.heap.size + 2) (by omega) 7 _) (by omega) _ _ _ _ _ _ _ _
  · exact other8 (m2.setOther (B' := w.heap.size + 2) (by omega) 7 _) (by omega) _ _ _ _ _ _ _ _
  · exact other8 (k3.setOther (B' := w.heap.size + 2) (by omega) 7 _) (by omega) _ _ _ _ _ _ _ _
  · exact bel8 u3.bel (by omega) _ _ _ _ _ _ _ _
end Go.Proofs.YtddlpejklpljoaaGreat.N4

/- A row of numbers appended to another; contracts of slices.Grow and slices.Concat, as the given laws call them. -/
namespace Go.Proofs.YtddlpejklpljoaaGreat.Q1
open Go.ChangeShapes Go.WideShapes Go.ChangeAt Go.RowKit
set_option linter.unusedVariables false
set_option linter.unusedSimpArgs false
set_option maxRecDepth 10000

open I2 (ints)
open J0 (IBuf Own)

theorem run_append_none {P : Program} (w : World) (t ty e : TypeId) (i : TypeInfo) (ht : P.underlying t = some (.slice e)) (hi : P.info? e = some i) (b : Option Addr) (n cap : Nat) (hle : n ≤ cap) (ax : Option Addr) (cx : Nat) :
    (Builtin.append_ #[t, t] ty #[.slice b n cap, .slice ax 0 cx]).run P w = .ok (.slice b n cap) w := by
  cases b <;> cases ax <;> simp [Builtin.append_, run_underlying ht, sizeOf, typeInfo, hi, Builtin.lenOf, Builtin.firstCells, loadCells, loadCellsFrom, storeCells, hle]

variable {base n cap : Nat} {a : Option Addr} {w W : World} {zs : List Int}

theorem ints_one (xs : List Int) : ∀ u ∈ ints xs, u.oneCell' = true := by
  intro u h
  simp at h
  obtain ⟨z, _, rfl⟩ := h
  rfl

/-- 'list = append(list, others...)'. -/
theorem append_rows {ops : Array Oper} {rest : List Oper} {o : Oper} {A : Act} {Q : Exit → Act → World → Prop} (hgd : o.guard = none) (sl x : Operand)
    (ho : o.op = .call { callee := .builtin .append, args := #[sl, x], argTypes := #[24, 24] })
    (hbuf : IBuf base w a n cap zs) (ax : Option Addr) (cx : Nat) (xs : List Int) (hs : A.eval sl = .slice a n cap) (hx : A.eval x = .slice ax xs.length cx) (hR : P0.Row w ax xs) (hlen : n + xs.length ≤ 4194304) (hb : base ≤ w.heap.size)
    (h : ∀ a' cap' w', IBuf base w' a' (n + xs.length) cap' (zs ++ xs) → Below base w w' → wpList Tryz.prog ops Q rest (A.put o.dst (.slice a' (n + xs.length) cap')) w') : wpList Tryz.prog ops Q (o :: rest) A w := by
  obtain ⟨i0, hi, hz0, hz1, hz2⟩ := info_parts I2.info3
  by_cases h0 : xs = []
  · subst h0
    refine Lib.wpList_append_run _ hgd sl x 24 24 ho _ _ hs hx _ _ (run_append_none w 24 _ 3 i0 Tryz.underlying24 hi a n cap hbuf.fits ax cx) ?_
    exact h a cap w (by rw [List.append_nil]; exact hbuf) (Below.refl _ _)
  · rcases hR with hR | ⟨b, off, rfl, hb2, hc⟩
    · exact absurd hR h0
    · have hm : 0 < xs.length := List.length_pos_iff.2 h0
      refine wpList_append_lies _ hgd sl x 24 ho base 3 i0 (.int .i64 0) 1 8 Tryz.underlying24 hi hz0 hz1 hz2 rfl (by omega) _ n _ hs hbuf.2 ⟨b, off, none⟩ xs.length cx (ints xs) hx (by simp) ?_ (ints_one xs) hm (by unfold maxLen; omega) (by omega) hb _ rfl ?_
      · intro j u hj
        have hj' : j < xs.length := by
          have := (List.getElem?_eq_some_iff.1 hj).1
          simpa using this
        rw [B0.add_off, hc j hj', P0.getD_get _ _ hj', ← hj]
        simp [hj']
      · intro g' cap' w' ho' hg' _ _
        refine h (some ⟨g', 0, none⟩) cap' w' ⟨by rw [hbuf.1]; simp, ?_⟩ ?_
        · rw [show ints (zs ++ xs) = ints zs ++ ints xs by simp]
          exact ho'
        · exact F0.below_grown (Below.refl _ _) hg' (J0.own_block hbuf) hb

set_option maxHeartbeats 2000000 in
theorem grow (k : Nat) (w : World) (hk : k ≤ 4194304) :
    Calls Tryz.prog 125 #[.slice none 0 0, .int .i64 k] w fun e w' => ∃ a c, e = .returned (.slice a 0 c) ∧ IBuf w.heap.size w' a 0 c [] ∧ Below w.heap.size w w' := by
  by_cases h0 : k = 0
  · subst h0
    go_enter Tryz.func125, Tryz.ntmps125
    go_wp2
    go_ret
    exact ⟨none, 0, rfl, J0.ibuf_nil _, Below.refl _ _⟩
  · obtain ⟨i0, hi, hz0, hz1, hz2⟩ := info_parts I2.info3
    have hrz : ∀ ty, (Builtin.append_ #[24, 3] ty #[.slice none 0 0, .int .i64 k]).run Tryz.prog w = .ok (.slice (some ⟨w.heap.size, 0, none⟩) (0 + k) (grownCap w (0 + k) 0 3)) (w.drew.alloc (.cells ((#[] : Array Value) ++ Builtin.zeroCells (Value.int .i64 0).cells k ++ Builtin.zeroCells (Value.int .i64 0).cells (grownCap w (0 + k) 0 3 - (0 + k))) 3)) := fun ty =>
      Lib.run_append_grow_zeros w 24 3 ty 3 i0 (.int .i64 0) .i64 .i64 Tryz.underlying24 Tryz.underlying3 hi hz0 none 0 0 [] (run_firstCells_none w.drew i0.size 0 0 0) k (by omega) (by omega) (by omega) (by omega) (by rw [hz2]; omega) (by rw [hz2, Builtin.nextslicecap, if_pos (by omega)]; omega)
    have hG := grownCap_ge w (0 + k) 0 3
    have hM := grownCap_le_maxLen w (0 + k) 0 3 (by unfold maxLen; omega)
    have hgt : (0 : Int) < (k : Int) := by omega
    have hnk : 0 < k := by omega
    obtain ⟨C, hC⟩ : ∃ C : Array Value, C = (#[] : Array Value) ++ Builtin.zeroCells (Value.int .i64 0).cells k ++ Builtin.zeroCells (Value.int .i64 0).cells (grownCap w (0 + k) 0 3 - (0 + k)) := ⟨_, rfl⟩
    rw [← hC] at hrz
    rw [Nat.zero_add] at hC hrz hG hM
    have hsz : C.size = grownCap w k 0 3 := by
      rw [hC]
      simp [Builtin.zeroCells, Value.cells]
      omega
    obtain ⟨G, hg⟩ : ∃ G, grownCap w k 0 3 = G := ⟨_, rfl⟩
    rw [hg] at hrz hG hM hsz
    have hbuf : IBuf w.heap.size (w.drew.alloc (.cells C 3)) (some ⟨w.heap.size, 0, none⟩) 0 G [] := ⟨rfl, World.ownsRow_made w.drew C G (Nat.le_refl _) hM (by omega)⟩
    have hbel : Below w.heap.size w (w.drew.alloc (.cells C 3)) := (Below.refl _ w).drew.alloc (Nat.le_refl _) _
    have hM' : G ≤ 9223372036854775807 := hM
    have hGk : k ≤ G := by omega
    clear hC hsz hg hM hi hz0 hz1 hz2
    go_enter Tryz.func125, Tryz.ntmps125
    go_wp2_with (at_builtin; refine Lib.wpList_append_run _ rfl _ _ _ _ rfl _ _ rfl rfl _ _ (hrz _) ?_)
    all_goals
      go_ret
      exact ⟨_, _, rfl, hbuf, hbel⟩

/-- The first of two lists, joined. -/
def pre (xs zs : List Int) (k : Nat) : List Int := if k = 0 then [] else if k = 1 then xs else zs

set_option maxHeartbeats 4000000 in
theorem concat0 (B : Nat) (a1 a2 : Option Addr) (c1 c2 : Nat) (xs ys zs : List Int) (hzs : zs = xs ++ ys) (w : World) (h1 : w.cell? ⟨B, 0, none⟩ = some (.slice a1 xs.length c1)) (h2 : w.cell? ⟨B, 1, none⟩ = some (.slice a2 ys.length c2)) (hB : B < w.heap.size)
    (R1 : P0.Row w a1 xs) (R2 : P0.Row w a2 ys) (hx : xs.length ≤ 1048576) (hy : ys.length ≤ 1048576) :
    Calls Tryz.prog 95 #[.slice (some ⟨B, 0, none⟩) 2 2] w fun e w' => ∃ a c, e = .returned (.slice a zs.length c) ∧ Own w.heap.size w' a zs ∧ zs.length ≤ c ∧ Below w.heap.size w w' := by
  have HL : Hid (zs.length = xs.length + ys.length) := by rw [hzs]; exact List.length_append
  have HZ : Hid (xs ++ ys = zs) := hzs.symm
  have hzl : zs.length ≤ 4194304 := by rw [HL.out]; omega
  clear hzs
  go_enter Tryz.func95, Tryz.ntmps95
  go_wp2
  go_loop [3, 11] (fun v i => ∃ k : Nat, k ≤ 2 ∧ i = .int .i64 k ∧ v = .int .i64 ((pre xs zs k).length : Int)) (fun _ i => 2 - (intOf i).toNat)
  case atStart => exact ⟨0, Nat.zero_le _, rfl, rfl⟩
  case round =>
    obtain ⟨k, hk, rfl, rfl⟩ := hrel
    have hk' : k = 0 ∨ k = 1 ∨ k = 2 := by omega
    rcases hk' with rfl | rfl | rfl
    · have e0 : (pre xs zs 0).length = 0 := rfl
      rw [e0]
      have e1 : ¬ ((xs.length : Int) < 0) := by omega
      go_wp2
      go_round
      case rel => exact ⟨1, by omega, by go_num, rfl⟩
      case measure => simp [intOf]
    · have e0 : (pre xs zs 1).length = xs.length := rfl
      rw [e0]
      have e1 : ¬ ((xs.length : Int) + (ys.length : Int) < 0) := by omega
      go_wp2
      go_round
      case rel => exact ⟨2, by omega, by go_num, by show _ = Value.int .i64 ((zs.length : Nat) : Int); rw [HL.out]; go_num⟩
      case measure => simp [intOf]
    · have e0 : (pre xs zs 2).length = zs.length := rfl
      rw [e0]
      have hgr := grow zs.length w (by omega)
      go_wp2_with (go_at_call 125; refine hgr.mono ?_; rintro e w1 ⟨a, c, rfl, hbuf, hbel⟩)
      clear hgr
      go_loopw [6, 27] (fun v i w' => ∃ (k c : Nat) (a : Option Addr), k ≤ 2 ∧ i = .int .i64 k ∧ v = .slice a (pre xs zs k).length c ∧ IBuf w.heap.size w' a (pre xs zs k).length c (pre xs zs k) ∧ Below w.heap.size w w') (fun _ i _ => 2 - (intOf i).toNat)
      case atStart => exact ⟨0, c, a, Nat.zero_le _, rfl, rfl, hbuf, hbel⟩
      case round =>
        obtain ⟨k, c', a', hk, rfl, rfl, hbuf', hbel'⟩ := hrel
        clear hbuf hbel
        have x1 := (hbel'.cell (p := ⟨B, 0, none⟩) hB).trans h1
        have x2 := (hbel'.cell (p := ⟨B, 1, none⟩) hB).trans h2
        have r1 := R1.below hbel'
        have r2 := R2.below hbel'
        have hk' : k = 0 ∨ k = 1 ∨ k = 2 := by omega
        rcases hk' with rfl | rfl | rfl
        · have hb0 : IBuf w.heap.size wr a' 0 c' [] := hbuf'
          have e0 : (pre xs zs 0).length = 0 := rfl
          rw [e0]
          clear hbuf' h1 h2 R1 R2
          go_wp2_with (at_builtin; refine append_rows rfl (.tmp 31) (.tmp 32) rfl hb0 a1 c1 xs rfl rfl r1 (by omega) hbel'.size ?_; intro a3 c3 w3 b3 l3)
          go_roundw
          case rel => exact ⟨1, c3, a3, by omega, by go_num, rfl, by rw [Nat.zero_add] at b3; exact b3, hbel'.trans l3⟩
          case measure => simp [intOf]
        · have hb0 : IBuf w.heap.size wr a' xs.length c' xs := hbuf'
          have e0 : (pre xs zs 1).length = xs.length := rfl
          rw [e0]
          clear hbuf' h1 h2 R1 R2
          go_wp2_with (at_builtin; refine append_rows rfl (.tmp 31) (.tmp 32) rfl hb0 a2 c2 ys rfl rfl r2 (by omega) hbel'.size ?_; intro a3 c3 w3 b3 l3)
          go_roundw
          case rel => exact ⟨2, c3, a3, by omega, by go_num, by rw [← HL.out]; rfl, by rw [← HL.out, HZ.out] at b3; exact b3, hbel'.trans l3⟩
          case measure => simp [intOf]
        · have hb0 : IBuf w.heap.size wr a' zs.length c' zs := hbuf'
          have e0 : (pre xs zs 2).length = zs.length := rfl
          rw [e0]
          clear hbuf' h1 h2 R1 R2
          go_wp2
          go_ret
          exact ⟨a', c', rfl, hb0.own, hb0.fits, hbel'⟩
theorem concat (B : Nat) (a1 a2 : Option Addr) (c1 c2 : Nat) (xs ys : List Int) (w : World) (h1 : w.cell? ⟨B, 0, none⟩ = some (.slice a1 xs.length c1)) (h2 : w.cell? ⟨B, 1, none⟩ = some (.slice a2 ys.length c2)) (hB : B < w.heap.size)
    (R1 : P0.Row w a1 xs) (R2 : P0.Row w a2 ys) (hx : xs.length ≤ 1048576) (hy : ys.length ≤ 1048576) :
    Calls Tryz.prog 95 #[.slice (some ⟨B, 0, none⟩) 2 2] w fun e w' => ∃ a c, e = .returned (.slice a (xs ++ ys).length c) ∧ Own w.heap.size w' a (xs ++ ys) ∧ (xs ++ ys).length ≤ c ∧ Below w.heap.size w w' :=
  concat0 B a1 a2 c1 c2 xs ys (xs ++ ys) rfl w h1 h2 hB R1 R2 hx hy
end Go.Proofs.YtddlpejklpljoaaGreat.Q1

/- Contracts of impl.recordText and impl.PutInode, as the given laws call them. -/
namespace Go.Proofs.YtddlpejklpljoaaGreat.R1
open Go.ChangeShapes Go.WideShapes Go.ChangeAt Go.RowKit
set_option linter.unusedVariables false
set_option linter.unusedSimpArgs false
set_option maxRecDepth 10000

open I0 (val vals)

theorem ret_str {a b : ByteArray} (h : a = b) : Ending.returned (.string a) = .returned (.string b) := by rw [h]

/-- The record's text so far: kind, owner, size, and the first pages. -/
def upto (k o s : Int) (zs : List Int) (j : Nat) : ByteArray := R0.two k o ++ B3.pair s ++ R0.pg (zs.take j)

theorem upto_zero (k o s : Int) (zs : List Int) : upto k o s zs 0 = R0.two k o ++ B3.pair s := by
  apply ByteArray.ext
  simp [upto, R0.pg]
theorem upto_succ (k o s : Int) (zs : List Int) (j : Nat) (h : j < zs.length) : upto k o s zs j ++ ⟨#[UInt8.ofNat (zs.getD j 0).toNat]⟩ = upto k o s zs (j + 1) := by
  rw [upto, upto, ByteArray.append_assoc, R0.pg_snoc zs j h]
theorem upto_all (k o s : Int) (zs : List Int) : upto k o s zs zs.length = R0.head k o s zs := by rw [upto, List.take_length, R0.head]

theorem zeros_buf {base g n cap : Nat} {W : World} {t : ByteArray} (m : Int) (h : F0.Buf base W g n cap t) :
    Calls Tryz.prog 41 #[.int .i64 m] W fun e w' => e = .returned (.string (B4.zeros m)) ∧ F0.Buf base w' g n cap t ∧ Below W.heap.size W w' :=
  (B4.impl_Zeros m W).mono fun _ _ ⟨he, hb⟩ => ⟨he, h.below hb, hb⟩

/-- A world behind the call's own box, with the row. -/
structure St (w : World) (W1 : World) (g n cap : Nat) (t : ByteArray) (W : World) : Prop where
  buf : F0.Buf W1.heap.size W g n cap t
  bel : Below W1.heap.size W1 W

variable {w W1 W W' : World} {g n cap : Nat} {t : ByteArray}

theorem St.below (h : St w W1 g n cap t W) (hb : Below W.heap.size W W') : St w W1 g n cap t W' := ⟨h.buf.below hb, h.bel.trans (hb.mono h.bel.size)⟩
theorem St.drew (h : St w W1 g n cap t W) : St w W1 g n cap t W.drew := ⟨h.buf.drew, h.bel.drew⟩

theorem zeros_st (m : Int) (h : St w W1 g n cap t W) :
    Calls Tryz.prog 41 #[.int .i64 m] W fun e w' => e = .returned (.string (B4.zeros m)) ∧ St w W1 g n cap t w' :=
  (B4.impl_Zeros m W).mono fun _ _ ⟨he, hb⟩ => ⟨he, h.below hb⟩

theorem with_st (a : ByteArray) (k : Int) (u : ByteArray) (hs : a.size ≤ 281474976710656) (ht : u.size ≤ 281474976710656) (h : St w W1 g n cap t W) :
    Calls Tryz.prog 40 #[.string a, .int .i64 k, .string u] W fun e w' => e = .returned (.string (B5.laid a k u)) ∧ St w W1 g n cap t w' :=
  (B5.impl_With a k u W hs ht).mono fun _ _ ⟨he, hb⟩ => ⟨he, h.below hb⟩

set_option maxHeartbeats 2000000 in
theorem recordText (k o s : Int) (a : Option Addr) (c : Nat) (zs : List Int) (w : World) (hok : I0.ok k o s zs = true) (hR : P0.Row w a zs) :
    Calls Tryz.prog 107 #[val k o s a zs.length c] w fun e w' => e = .returned (.string (R0.putI k o s zs)) ∧ Below w.heap.size w w' := by
  obtain ⟨hk, ho, hs, hl, -, hp⟩ := R0.ok_bounds hok
  have hP2 := R0.pair_size s (by omega) (by omega)
  have hbox := K0.blk_new (vals k o s a zs.length c) w 45
  have hl0 := K0.below_new w (.cells #[.int .i64 k, .int .i64 o, .int .i64 s, .slice a zs.length c] 45)
  have hR1 := hR.below hl0
  have hbuf0 := F0.buf_two (base := (w.alloc (.cells #[.int .i64 k, .int .i64 o, .int .i64 s, .slice a zs.length c] 45)).heap.size) (w.alloc (.cells #[.int .i64 k, .int .i64 o, .int .i64 s, .slice a zs.length c] 45)) k o (by omega) (by omega) (Nat.le_refl _)
  have hbuf0 := hbuf0.at (g' := w.heap.size + 1) (by simp)
  have hbl0 := K0.below_new (w.alloc (.cells #[.int .i64 k, .int .i64 o, .int .i64 s, .slice a zs.length c] 45)) (.cells #[.int .u8 k, .int .u8 o] 5)
  have hbox0 := hbox.below hbl0
  have HT : Hid (R0.putI k o s zs = B5.laid (B4.zeros 16) 0 (R0.head k o s zs)) := by
    have hz := R0.head_size k o s zs (by omega) (by omega)
    rw [R0.putI, if_pos hok, B4.zeros, if_pos (by decide), show ((16 : Int)).toNat = 16 from rfl, E0.laid_front _ 16 (by omega), hz, show 16 - (4 + zs.length) = 12 - zs.length by omega]
    rfl
  have hz4 : (R0.head k o s zs).size ≤ 281474976710656 := by rw [R0.head_size k o s zs (by omega) (by omega)]; omega
  have hz5 : (B4.zeros 16).size ≤ 281474976710656 := by decide
  clear hR hok
  have hs0 : 0 ≤ s := hs.1
  have hk0 : 0 ≤ k := hk.1
  have hk1 : k ≤ 2 := hk.2
  have ho0 : 0 ≤ o := ho.1
  have ho1 : o ≤ 9 := ho.2
  go_enter Tryz.func107, Tryz.ntmps107
  go_wp2_with (first
    | (go_at_call 140; refine (B3.impl_Pair _ _).mono ?_; rintro e w2 ⟨rfl, b2⟩; have hbuf2 := hbuf0.below b2; have bel2 := hbl0.trans (b2.mono hbl0.size); have hbox2 := hbox.below bel2; have c3 := hbox2.c3)
    | (at_builtin; refine F0.append_text rfl (.tmp 13) (.tmp 16) rfl hbuf2 (B3.pair s) (by rfl) (by rfl) (by omega) bel2.size ?_; intro g3 cap3 w3 hbuf3 bel3'; have bel3 := bel2.trans bel3'; have hbox3 := hbox.below bel3; have d3 := hbox3.c3))
  go_loopw [3, 21] (fun r i w' => ∃ (j g cap : Nat), j ≤ zs.length ∧ i = .int .i64 j ∧ r = .slice (some ⟨g, 0, none⟩) (4 + j) cap ∧ F0.Buf (w.alloc (.cells #[.int .i64 k, .int .i64 o, .int .i64 s, .slice a zs.length c] 45)).heap.size w' g (4 + j) cap (upto k o s zs j) ∧ Below (w.alloc (.cells #[.int .i64 k, .int .i64 o, .int .i64 s, .slice a zs.length c] 45)).heap.size (w.alloc (.cells #[.int .i64 k, .int .i64 o, .int .i64 s, .slice a zs.length c] 45)) w') (fun _ i _ => zs.length - (intOf i).toNat)
  case atStart =>
    rw [hP2] at hbuf3
    exact ⟨0, g3, cap3, Nat.zero_le _, rfl, rfl, by rw [upto_zero]; exact hbuf3, bel3⟩
  case round =>
    obtain ⟨j, g, cap, hj, rfl, rfl, hbuf, hbel⟩ := hrel
    clear hbuf0 hbl0 hbox0 hbuf2 bel2 hbox2 c3 hbuf3 bel3 bel3' hbox3 d3 b2
    by_cases hlt : j < zs.length
    · obtain ⟨b, off, rfl, hb, hc⟩ := (hR1.below hbel).get hlt
      have x1 := hc j hlt
      have hz := R0.pages_bounds hp hlt
      have hu := upto_succ k o s zs j hlt
      obtain ⟨z, ez⟩ : ∃ z, zs.getD j 0 = z := ⟨_, rfl⟩
      rw [ez] at x1 hz hu
      have z0 : 0 ≤ z := by omega
      have z1 : z ≤ 23 := hz.2
      have e1 : (0 : Int) ≤ (j : Int) := by omega
      have e2 : (j : Int) < (zs.length : Int) := by omega
      have HU : Hid (upto k o s zs j ++ ⟨#[UInt8.ofNat z.toNat]⟩ = upto k o s zs (j + 1)) := hu
      clear hu ez hc hz
      go_wp2_with (at_builtin; refine F0.append_byte rfl (.tmp 25) (.tmp 28) rfl hbuf z (by omega) (by rfl) (by rfl) (by omega) hbel.size ?_; intro g1 cap1 w1 hbuf1 bel1)
      go_roundw
      case rel => exact ⟨j + 1, g1, cap1, by omega, by go_num, rfl, by rw [← HU.out]; exact hbuf1, hbel.trans bel1⟩
      case measure => simp [intOf]; omega
    · obtain rfl : j = zs.length := by omega
      rw [upto_all] at hbuf
      have st : St w (w.alloc (.cells #[.int .i64 k, .int .i64 o, .int .i64 s, .slice a zs.length c] 45)) g (4 + zs.length) cap (R0.head k o s zs) wr := ⟨hbuf, hbel⟩
      have hfin : Hid (∀ W, St w (w.alloc (.cells #[.int .i64 k, .int .i64 o, .int .i64 s, .slice a zs.length c] 45)) g (4 + zs.length) cap (R0.head k o s zs) W → Below w.heap.size w W) := fun W h => hl0.trans (h.bel.mono hl0.size)
      clear hR1 hbuf hbel hbox hl0
      go_wp2
      have st1 := st.drew
      have cv0 := st.buf.conv
      have cv1 := st1.buf.conv
      go_region_with (first
        | (go_at_call 41; refine (zeros_st _ (by assumption)).mono ?_; rintro e w4 ⟨rfl, h4⟩; have cv4 := h4.buf.conv)
        | (go_at_call 40; refine (with_st _ _ _ hz5 hz4 (by assumption)).mono ?_; rintro e w5 ⟨rfl, h5⟩))
      all_goals
        go_wp2
        go_ret
        exact ⟨ret_str HT.out.symm, hfin.out _ h5⟩

end Go.Proofs.YtddlpejklpljoaaGreat.R1

/- Contracts of impl.readPages, impl.readRecord, impl.isFree, impl.inodeOf and impl.GetInode, as the given laws call them. -/
namespace Go.Proofs.YtddlpejklpljoaaGreat.G1
open Go.ChangeShapes Go.WideShapes Go.ChangeAt Go.RowKit
set_option linter.unusedVariables false
set_option linter.unusedSimpArgs false
set_option maxRecDepth 10000

open I0 (val vals)

set_option maxHeartbeats 1000000 in
theorem readPages (s : ByteArray) (w : World) (h16 : s.size = 16) :
    Calls Tryz.prog 104 #[.string s, .int .i64 (P0.need (B6.pairAt s 2))] w fun e w' => ∃ a c, e = .returned (.slice a (G0.pgs s (G0.cnt s)).length c) ∧ J0.IBuf w.heap.size w' a (G0.pgs s (G0.cnt s)).length c (G0.pgs s (G0.cnt s)) ∧ Below w.heap.size w w' := by
  rw [G0.pgs_length]
  have hm : s.size ≤ maxLen := by unfold maxLen; omega
  have hz : (s.size : Int) = 16 := by omega
  have b0 := J0.ibuf_made w (Nat.le_refl _)
  have l0 := K0.below_new w (.cells #[] 3)
  have hcl := G0.cnt_le s
  have hct := G0.cnt_lt s
  obtain ⟨N, hN⟩ : ∃ N, P0.need (B6.pairAt s 2) = N := ⟨_, rfl⟩
  rw [hN] at hct ⊢
  obtain ⟨C, hC⟩ : ∃ C, G0.cnt s = C := ⟨_, rfl⟩
  rw [hC] at hct hcl ⊢
  clear hN hC
  go_enter Tryz.func104, Tryz.ntmps104
  go_wp2
  go_loopw [5, 6] (fun v i w' => ∃ (k c : Nat) (a : Option Addr), k ≤ C ∧ i = .int .i64 (4 + (k : Int)) ∧ v = .slice a k c ∧ J0.IBuf w.heap.size w' a k c (G0.pgs s k) ∧ Below w.heap.size w w') (fun _ i _ => 16 - (intOf i).toNat)
  case atStart => exact ⟨0, 0, _, Nat.zero_le _, rfl, rfl, b0, l0⟩
  case round =>
    obtain ⟨k, c, a, hk, rfl, rfl, hbuf, hbel⟩ := hrel
    clear b0 l0
    by_cases hlt : k < C
    · obtain ⟨h1, h2⟩ := (hct k).1 hlt
      have e1 : 4 + (k : Int) < 16 := by omega
      have HS : Hid (G0.pgs s k ++ [B1.byteAt s (4 + (k : Int))] = G0.pgs s (k + 1)) := G0.pgs_succ s k
      go_wp2_with (first
        | (go_at_call 103; refine (B1.impl_ByteAt _ _ _ hm).mono ?_; rintro e w' ⟨rfl, rfl⟩)
        | (at_builtin; refine J0.append_int rfl (.tmp 20) (.tmp 24) rfl hbuf _ (by rfl) (by rfl) (by omega) hbel.size ?_; intro g1 cap1 w1 hbuf1 bel1))
      go_roundw
      case rel => exact ⟨k + 1, cap1, _, by omega, by go_num, rfl, by rw [← HS.out]; exact hbuf1, hbel.trans bel1⟩
      case measure => simp [intOf]; omega
    · obtain rfl : k = C := by omega
      by_cases h12 : k < 12
      · have e1 : 4 + (k : Int) < 16 := by omega
        have e2 : ¬ (k : Int) < N := fun h => hlt ((hct k).2 ⟨h, h12⟩)
        have e3 : decide ((k : Int) < N) = false := by simpa using e2
        go_wp2
        go_ret
        exact ⟨a, c, rfl, hbuf, hbel⟩
      · have e1 : ¬ 4 + (k : Int) < 16 := by omega
        have e3 : decide (4 + (k : Int) < 16) = false := by simpa using e1
        go_wp2
        go_ret
        exact ⟨a, c, rfl, hbuf, hbel⟩

theorem as00 (v : Value) (w : World) : (Instr.typeAssert (.iface 137 v) 94 137 true).run Tryz.prog w = .ok (.tuple #[v, .bool true]) w := by kernel_rfl
theorem as10 (v : Value) (w : World) : (Instr.typeAssert (.iface 134 v) 94 137 true).run Tryz.prog w = .ok (.tuple #[val 0 0 0 none 0 0, .bool false]) w := by kernel_rfl
theorem as20 (v : Value) (w : World) : (Instr.typeAssert (.iface 136 v) 94 137 true).run Tryz.prog w = .ok (.tuple #[val 0 0 0 none 0 0, .bool false]) w := by kernel_rfl
theorem as11 (v : Value) (w : World) : (Instr.typeAssert (.iface 134 v) 94 134 true).run Tryz.prog w = .ok (.tuple #[v, .bool true]) w := by kernel_rfl
theorem as21 (v : Value) (w : World) : (Instr.typeAssert (.iface 136 v) 94 134 true).run Tryz.prog w = .ok (.tuple #[val 0 0 0 none 0 0, .bool false]) w := by kernel_rfl
theorem as22 (v : Value) (w : World) : (Instr.typeAssert (.iface 136 v) 94 136 false).run Tryz.prog w = .ok v w := by kernel_rfl

theorem isFree0 (v : Value) (k o s : Int) (a : Option Addr) (n c : Nat) (hv : v = val k o s a n c) (w : World) :
    Calls Tryz.prog 71 #[.iface 137 v] w fun e w' => e = .returned (.bool true) ∧ Below w.heap.size w w' := by
  have ha := as00
  subst hv
  go_enter Tryz.func71, Tryz.ntmps71
  go_wp2
  go_ret
  exact ⟨rfl, K0.below_new _ _⟩

theorem isFree1 (v : Value) (k o s : Int) (a : Option Addr) (n c : Nat) (hv : v = val k o s a n c) (w : World) :
    Calls Tryz.prog 71 #[.iface 134 v] w fun e w' => e = .returned (.bool false) ∧ Below w.heap.size w w' := by
  have ha := as10
  subst hv
  go_enter Tryz.func71, Tryz.ntmps71
  go_wp2
  go_ret
  exact ⟨rfl, K0.below_new _ _⟩

theorem isFree2 (v : Value) (k o s : Int) (a : Option Addr) (n c : Nat) (hv : v = val k o s a n c) (w : World) :
    Calls Tryz.prog 71 #[.iface 136 v] w fun e w' => e = .returned (.bool false) ∧ Below w.heap.size w w' := by
  have ha := as20
  subst hv
  go_enter Tryz.func71, Tryz.ntmps71
  go_wp2
  go_ret
  exact ⟨rfl, K0.below_new _ _⟩

theorem inodeOf0 (k o s : Int) (a : Option Addr) (n c : Nat) (w : World) :
    Calls Tryz.prog 70 #[.iface 137 (val k o s a n c)] w fun e w' => e = .returned (val 0 0 0 none 0 0) ∧ Below w.heap.size w w' := by
  have n0 := K0.blk_new (vals 0 0 0 none 0 0) w 45
  have l0 := K0.below_new w (.cells #[.int .i64 0, .int .i64 0, .int .i64 0, .slice none 0 0] 45)
  go_enter Tryz.func70, Tryz.ntmps70
  go_wp2_with (go_at_call 71; refine (isFree0 _ k o s a n c rfl _).mono ?_; rintro e w1 ⟨rfl, b1⟩; have n1 := n0.below b1; have l1 := l0.trans (b1.mono l0.size); have c0 := n1.c0; have c1 := n1.c1; have c2 := n1.c2; have c3 := n1.c3; have f0 := n1.f0; have f1 := n1.f1; have f2 := n1.f2; have f3 := n1.f3)
  have q := n1.put4 (.int .i64 0) (.int .i64 0) (.int .i64 0) (.slice none 0 0)
  refine bodyPost_ret (v := val 0 0 0 none 0 0) (by simp [results, Tryz.results70, go_sem, q.c0, q.c1, q.c2, q.c3]) rfl ⟨rfl, ?_⟩
  exact (((l1.setCell (p := ⟨w.heap.size, 0, none⟩) (Nat.le_refl _) _).setCell (p := ⟨w.heap.size, 1, none⟩) (Nat.le_refl _) _).setCell (p := ⟨w.heap.size, 2, none⟩) (Nat.le_refl _) _).setCell (p := ⟨w.heap.size, 3, none⟩) (Nat.le_refl _) _

set_option maxHeartbeats 1000000 in
theorem inodeOf1 (k o s : Int) (a : Option Addr) (n c : Nat) (w : World) :
    Calls Tryz.prog 70 #[.iface 134 (val k o s a n c)] w fun e w' => e = .returned (val k o s a n c) ∧ Below w.heap.size w w' := by
  have ha := as11
  have n0 := K0.blk_new (vals 0 0 0 none 0 0) w 45
  have l0 := K0.below_new w (.cells #[.int .i64 0, .int .i64 0, .int .i64 0, .slice none 0 0] 45)
  go_enter Tryz.func70, Tryz.ntmps70
  go_wp2_with (go_at_call 71; refine (isFree1 _ k o s a n c rfl _).mono ?_; rintro e w1 ⟨rfl, b1⟩; have n1 := (n0.below b1).alloc (.cells #[.int .i64 k, .int .i64 o, .int .i64 s, .slice a n c] 134); have l1 := (l0.trans (b1.mono l0.size)).alloc (Nat.le_trans l0.size b1.size) (.cells #[.int .i64 k, .int .i64 o, .int .i64 s, .slice a n c] 134); have c0 := n1.c0; have c1 := n1.c1; have c2 := n1.c2; have c3 := n1.c3; have f0 := n1.f0; have f1 := n1.f1; have f2 := n1.f2; have f3 := n1.f3)
  have q := n1.put4 (.int .i64 k) (.int .i64 o) (.int .i64 s) (.slice a n c)
  refine bodyPost_ret (v := val k o s a n c) (by simp [results, Tryz.results70, go_sem, q.c0, q.c1, q.c2, q.c3]) rfl ⟨rfl, ?_⟩
  exact (((l1.setCell (p := ⟨w.heap.size, 0, none⟩) (Nat.le_refl _) _).setCell (p := ⟨w.heap.size, 1, none⟩) (Nat.le_refl _) _).setCell (p := ⟨w.heap.size, 2, none⟩) (Nat.le_refl _) _).setCell (p := ⟨w.heap.size, 3, none⟩) (Nat.le_refl _) _

set_option maxHeartbeats 1000000 in
theorem inodeOf2 (k o s : Int) (a : Option Addr) (n c : Nat) (w : World) :
    Calls Tryz.prog 70 #[.iface 136 (val k o s a n c)] w fun e w' => e = .returned (val k o s a n c) ∧ Below w.heap.size w w' := by
  have ha := as21
  have hb := as22
  have n0 := K0.blk_new (vals 0 0 0 none 0 0) w 45
  have l0 := K0.below_new w (.cells #[.int .i64 0, .int .i64 0, .int .i64 0, .slice none 0 0] 45)
  go_enter Tryz.func70, Tryz.ntmps70
  go_wp2_with (go_at_call 71; refine (isFree2 _ k o s a n c rfl _).mono ?_; rintro e w1 ⟨rfl, b1⟩; have n1 := (n0.below b1).alloc (.cells #[.int .i64 0, .int .i64 0, .int .i64 0, .slice none 0 0] 134); have l1 := (l0.trans (b1.mono l0.size)).alloc (Nat.le_trans l0.size b1.size) (.cells #[.int .i64 0, .int .i64 0, .int .i64 0, .slice none 0 0] 134); have c0 := n1.c0; have c1 := n1.c1; have c2 := n1.c2; have c3 := n1.c3; have f0 := n1.f0; have f1 := n1.f1; have f2 := n1.f2; have f3 := n1.f3)
  have q := n1.put4 (.int .i64 k) (.int .i64 o) (.int .i64 s) (.slice a n c)
  refine bodyPost_ret (v := val k o s a n c) (by simp [results, Tryz.results70, go_sem, q.c0, q.c1, q.c2, q.c3]) rfl ⟨rfl, ?_⟩
  exact (((l1.setCell (p := ⟨w.heap.size, 0, none⟩) (Nat.le_refl _) _).setCell (p := ⟨w.heap.size, 1, none⟩) (Nat.le_refl _) _).setCell (p := ⟨w.heap.size, 2, none⟩) (Nat.le_refl _) _).setCell (p := ⟨w.heap.size, 3, none⟩) (Nat.le_refl _) _
end Go.Proofs.YtddlpejklpljoaaGreat.G1

/- The contract of impl.readRecord, as the given laws call it. -/
namespace Go.Proofs.YtddlpejklpljoaaGreat.G2
open Go.ChangeShapes Go.WideShapes Go.ChangeAt Go.RowKit
set_option linter.unusedVariables false
set_option linter.unusedSimpArgs false
set_option maxRecDepth 10000

open I0 (val vals)

theorem below_of_drew {w w1 : World} {n : Nat} (h : Below (w.drewN n).heap.size (w.drewN n) w1) : Below w.heap.size w w1 := ⟨h.os, h.tape, h.output, h.size, h.block⟩

/-- The record's inode in its box, with its pages. -/
structure Nd (w : World) (B : Nat) (k o s : Int) (a : Option Addr) (zs : List Int) (c : Nat) (W : World) : Prop where
  box : K0.Blk B (vals k o s a zs.length c) W
  own : J0.Own w.heap.size W a zs
  fits : zs.length ≤ c
  bel : Below w.heap.size w W

variable {w W W' : World} {B : Nat} {k o s : Int} {a : Option Addr} {zs : List Int} {c : Nat}

theorem Nd.below (h : Nd w B k o s a zs c W) (hb : Below W.heap.size W W') : Nd w B k o s a zs c W' := ⟨h.box.below hb, h.own.below hb, h.fits, h.bel.trans (hb.mono h.bel.size)⟩

theorem nd_new (hb : Below w.heap.size w W) (hi : J0.IBuf w.heap.size W a zs.length c zs) : Nd w W.heap.size k o s a zs c (W.alloc (.cells #[.int .i64 k, .int .i64 o, .int .i64 s, .slice a zs.length c] 45)) :=
  ⟨K0.blk_new (vals k o s a zs.length c) W 45, hi.own.alloc _, hi.fits, hb.alloc hb.size _⟩

/-- What readRecord answers. -/
def Ans (s : ByteArray) (w : World) (e : Ending) (w' : World) : Prop :=
  Below w.heap.size w w' ∧ ((G0.isI s = false ∧ e = .returned (.tuple #[.nilIface, .bool false])) ∨
    (G0.isI s = true ∧ ∃ a c, e = .returned (.tuple #[I1.rec (B1.byteAt s 0) (val (B1.byteAt s 0) (B1.byteAt s 1) (B6.pairAt s 2) a (G0.pgs s (G0.cnt s)).length c), .bool true]) ∧ J0.Own w.heap.size w' a (G0.pgs s (G0.cnt s)) ∧ (G0.pgs s (G0.cnt s)).length ≤ c))

theorem ans_no {s : ByteArray} {w w' : World} (h : G0.isI s = false) (hb : Below w.heap.size w w') : Ans s w (.returned (.tuple #[.nilIface, .bool false])) w' := ⟨hb, Or.inl ⟨h, rfl⟩⟩

set_option maxHeartbeats 2000000 in
theorem readRecord (s : ByteArray) (w : World) (hs : s.size ≤ 281474976710656) :
    Calls Tryz.prog 69 #[.string s] w (Ans s w) := by
  have hm : s.size ≤ maxLen := by unfold maxLen; omega
  by_cases h16 : s.size = 16
  · have g16 : ((s.size : Int) != 16) = false := by simp; omega
    have hpa := G0.pairAt_lt s 2
    have hbad := @G0.isI_bad s
    have hof := @G0.isI_of s h16
    have hnot := @G0.isI_not s
    have hans : Ans s w = fun e w' => Below w.heap.size w w' ∧ ((G0.isI s = false ∧ e = .returned (.tuple #[.nilIface, .bool false])) ∨
      (G0.isI s = true ∧ ∃ a c, e = .returned (.tuple #[I1.rec (B1.byteAt s 0) (val (B1.byteAt s 0) (B1.byteAt s 1) (B6.pairAt s 2) a (G0.pgs s (G0.cnt s)).length c), .bool true]) ∧ J0.Own w.heap.size w' a (G0.pgs s (G0.cnt s)) ∧ (G0.pgs s (G0.cnt s)).length ≤ c)) := rfl
    rw [hans]
    clear hans
    have hrp : Hid (∀ W, Calls Tryz.prog 104 #[.string s, .int .i64 (P0.need (B6.pairAt s 2))] W fun e w' => ∃ a c, e = .returned (.slice a (G0.pgs s (G0.cnt s)).length c) ∧ J0.IBuf W.heap.size w' a (G0.pgs s (G0.cnt s)).length c (G0.pgs s (G0.cnt s)) ∧ Below W.heap.size W w') := fun W => G1.readPages s W h16
    have hlen : (G0.pgs s (G0.cnt s)).length ≤ 281474976710656 := by rw [G0.pgs_length]; have := G0.cnt_le s; omega
    unfold G0.txt at hof hnot
    obtain ⟨Z, hZ⟩ : ∃ Z, G0.pgs s (G0.cnt s) = Z := ⟨_, rfl⟩
    rw [hZ] at hbad hof hnot hrp hlen ⊢
    clear hZ
    by_cases hok : I0.ok (B1.byteAt s 0) (B1.byteAt s 1) (B6.pairAt s 2) Z = true
    · by_cases htx : ((R0.putI (B1.byteAt s 0) (B1.byteAt s 1) (B6.pairAt s 2) Z).toList == s.toList) = true
      · have HI : Hid (G0.isI s = true) := hof htx
        clear hbad hof hnot
        go_enter Tryz.func69, Tryz.ntmps69
        go_wp2_with (first
          | (go_at_call 102; refine (B6.impl_PairAt _ _ _ hs).mono ?_; rintro e w0 ⟨rfl, m0, rfl⟩)
          | (go_at_call 103; refine (B1.impl_ByteAt _ _ _ hm).mono ?_; rintro e w' ⟨rfl, rfl⟩)
          | (go_at_call 105; refine (P1.pagesFor _ _ hpa.1 hpa.2).mono ?_; rintro e w' ⟨rfl, rfl⟩)
          | (go_at_call 104; refine (hrp.out _).mono ?_; rintro e w1 ⟨a, c, rfl, hib, b1⟩; have n1 := nd_new (w := w) (k := B1.byteAt s 0) (o := B1.byteAt s 1) (s := B6.pairAt s 2) (below_of_drew b1) hib)
          | (go_at_call 106; refine (I1.recordOf _ _ _ _ _ Z _ hlen n1.fits n1.own.row).mono ?_; rintro e w2 ⟨rfl, b2⟩; have n2 := n1.below b2; have c0 := n2.box.c0; have c1 := n2.box.c1; have c2 := n2.box.c2; have c3 := n2.box.c3)
          | (go_at_call 107; refine (R1.recordText _ _ _ _ _ Z _ hok n2.own.row).mono ?_; rintro e w3 ⟨rfl, b3⟩; have n3 := n2.below b3))
        go_ret2
        exact ⟨n3.bel, Or.inr ⟨HI.out, a, c, rfl, n3.own, n3.fits⟩⟩
      · have htx' : ((R0.putI (B1.byteAt s 0) (B1.byteAt s 1) (B6.pairAt s 2) Z).toList == s.toList) = false := by simpa using htx
        have HI : Hid (G0.isI s = false) := hnot htx'
        clear hbad hof hnot htx
        go_enter Tryz.func69, Tryz.ntmps69
        go_wp2_with (first
          | (go_at_call 102; refine (B6.impl_PairAt _ _ _ hs).mono ?_; rintro e w0 ⟨rfl, m0, rfl⟩)
          | (go_at_call 103; refine (B1.impl_ByteAt _ _ _ hm).mono ?_; rintro e w' ⟨rfl, rfl⟩)
          | (go_at_call 105; refine (P1.pagesFor _ _ hpa.1 hpa.2).mono ?_; rintro e w' ⟨rfl, rfl⟩)
          | (go_at_call 104; refine (hrp.out _).mono ?_; rintro e w1 ⟨a, c, rfl, hib, b1⟩; have n1 := nd_new (w := w) (k := B1.byteAt s 0) (o := B1.byteAt s 1) (s := B6.pairAt s 2) (below_of_drew b1) hib)
          | (go_at_call 106; refine (I1.recordOf _ _ _ _ _ Z _ hlen n1.fits n1.own.row).mono ?_; rintro e w2 ⟨rfl, b2⟩; have n2 := n1.below b2; have c0 := n2.box.c0; have c1 := n2.box.c1; have c2 := n2.box.c2; have c3 := n2.box.c3)
          | (go_at_call 107; refine (R1.recordText _ _ _ _ _ Z _ hok n2.own.row).mono ?_; rintro e w3 ⟨rfl, b3⟩; have n3 := n2.below b3))
        go_ret2
        exact ⟨n3.bel, Or.inl ⟨HI.out, rfl⟩⟩
    · have hok' : I0.ok (B1.byteAt s 0) (B1.byteAt s 1) (B6.pairAt s 2) Z = false := by simpa using hok
      have HI : Hid (G0.isI s = false) := hbad hok'
      clear hbad hof hnot hok
      go_enter Tryz.func69, Tryz.ntmps69
      go_wp2_with (first
        | (go_at_call 102; refine (B6.impl_PairAt _ _ _ hs).mono ?_; rintro e w0 ⟨rfl, m0, rfl⟩)
        | (go_at_call 103; refine (B1.impl_ByteAt _ _ _ hm).mono ?_; rintro e w' ⟨rfl, rfl⟩)
        | (go_at_call 105; refine (P1.pagesFor _ _ hpa.1 hpa.2).mono ?_; rintro e w' ⟨rfl, rfl⟩)
        | (go_at_call 104; refine (hrp.out _).mono ?_; rintro e w1 ⟨a, c, rfl, hib, b1⟩; have n1 := nd_new (w := w) (k := B1.byteAt s 0) (o := B1.byteAt s 1) (s := B6.pairAt s 2) (below_of_drew b1) hib)
        | (go_at_call 106; refine (I1.recordOf _ _ _ _ _ Z _ hlen n1.fits n1.own.row).mono ?_; rintro e w2 ⟨rfl, b2⟩; have n2 := n1.below b2))
      go_ret2
      exact ⟨n2.bel, Or.inl ⟨HI.out, rfl⟩⟩
  · have g16 : ((s.size : Int) != 16) = true := by simp; omega
    have HI : Hid (G0.isI s = false) := G0.isI_no h16
    go_enter Tryz.func69, Tryz.ntmps69
    go_wp2
    go_ret2
    exact ans_no HI.out (Below.refl _ _)
end Go.Proofs.YtddlpejklpljoaaGreat.G2
