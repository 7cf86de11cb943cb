/- Joined texts: plain facts and contracts. -/
import Derived.Test.YtljnkicgahepfaaGreatDoorJqG
import Derived.Deep.Slices
import Derived.Test.YtljnkicgahepfaaGreatDoorRows
import Derived.WalkKit
import Derived.ProofKit
import Derived.Below
import Derived.OrdersHeld
import Derived.Handy
set_option linter.unusedVariables false
set_option linter.unusedSimpArgs false
set_option maxRecDepth 10000
namespace Go.Proofs.YtljnkicgahepfaaGreatDoor.Z0
open Go.ChangeShapes Go.WideShapes Go.ChangeAt Go.RowKit Go.Joins Go.Deep
open N0 (Ln)
open N1 (Sl val vals Lists FitM LB lb_new)
def dz : Ln := ⟨0, 0, 0, ⟨#[]⟩, [], ⟨#[]⟩, [], []⟩
def sz0 : Sl := ⟨none, 0, none, 0, none, 0⟩
def dat (ds : List Ln) (k : Nat) : Ln := ds.getD k dz
theorem dat_get (ds : List Ln) (k : Nat) (h : k < ds.length) : dat ds k = ds[k] := by simp [dat, List.getD, h]
def At (W : World) (b o : Nat) (d : Ln) (s : Sl) : Prop :=
 W.cell? ⟨b, o, none⟩ = some (.int .i64 d.ino) ∧ W.cell? ⟨b, o + 1, none⟩ = some (.int .i64 d.cl) ∧ W.cell? ⟨b, o + 2, none⟩ = some (.int .i64 d.un) ∧ W.cell? ⟨b, o + 3, none⟩ = some (.string d.rc) ∧
 W.cell? ⟨b, o + 4, none⟩ = some (.slice s.a1 d.pg.length s.c1) ∧ W.cell? ⟨b, o + 5, none⟩ = some (.string d.sav) ∧ W.cell? ⟨b, o + 6, none⟩ = some (.slice s.a2 d.po.length s.c2) ∧ W.cell? ⟨b, o + 7, none⟩ = some (.slice s.a3 d.fr.length s.c3)
variable {W W' : World} {a : Option Addr} {ds : List Ln} {ss : Nat → Sl} {b o : Nat} {d : Ln} {s : Sl}
theorem At.below (h : At W b o d s) (hlt : b < W.heap.size) (hb : Below W.heap.size W W') : At W' b o d s := by
 obtain ⟨h0, h1, h2, h3, h4, h5, h6, h7⟩ := h
 exact ⟨(hb.cell (p := ⟨b, o, none⟩) hlt).trans h0, (hb.cell (p := ⟨b, o + 1, none⟩) hlt).trans h1, (hb.cell (p := ⟨b, o + 2, none⟩) hlt).trans h2, (hb.cell (p := ⟨b, o + 3, none⟩) hlt).trans h3,
  (hb.cell (p := ⟨b, o + 4, none⟩) hlt).trans h4, (hb.cell (p := ⟨b, o + 5, none⟩) hlt).trans h5, (hb.cell (p := ⟨b, o + 6, none⟩) hlt).trans h6, (hb.cell (p := ⟨b, o + 7, none⟩) hlt).trans h7⟩
def Row (W : World) (a : Option Addr) (ds : List Ln) (ss : Nat → Sl) : Prop :=
 ds = [] ∨ ∃ b off, a = some ⟨b, off, none⟩ ∧ b < W.heap.size ∧ ∀ j, j < ds.length → At W b (off + j * 8) (dat ds j) (ss j)
def Subs (W : World) (ds : List Ln) (ss : Nat → Sl) : Prop := ∀ j, j < ds.length → Lists W (dat ds j) (ss j)
theorem Row.below (h : Row W a ds ss) (hb : Below W.heap.size W W') : Row W' a ds ss := by
 rcases h with h | ⟨b, off, ha, hlt, hc⟩
 ·exact Or.inl h
 ·exact Or.inr ⟨b, off, ha, Nat.lt_of_lt_of_le hlt hb.size, fun j hj => (hc j hj).below hlt hb⟩
theorem Row.drewN (h : Row W a ds ss) (n : Nat) : Row (W.drewN n) a ds ss := h
theorem Row.get {k : Nat} (h : Row W a ds ss) (hk : k < ds.length) : ∃ b off, a = some ⟨b, off, none⟩ ∧ b < W.heap.size ∧ ∀ j, j < ds.length → At W b (off + j * 8) (dat ds j) (ss j) := by
 rcases h with h | h
 ·subst h
  simp at hk
 ·exact h
theorem Subs.below (h : Subs W ds ss) (hb : Below W.heap.size W W') : Subs W' ds ss := fun j hj => (h j hj).below hb
theorem Subs.drewN (h : Subs W ds ss) (n : Nat) : Subs (W.drewN n) ds ss := fun j hj => (h j hj).drewN n
structure Lns (W : World) (a : Option Addr) (ds : List Ln) (ss : Nat → Sl) : Prop where
 row : Row W a ds ss
 sub : Subs W ds ss
theorem Lns.below (h : Lns W a ds ss) (hb : Below W.heap.size W W') : Lns W' a ds ss := ⟨h.row.below hb, h.sub.below hb⟩
theorem Lns.drewN (h : Lns W a ds ss) (n : Nat) : Lns (W.drewN n) a ds ss := ⟨h.row.drewN n, h.sub.drewN n⟩
structure Kp where
 mem : ByteArray
 dur : ByteArray
 ds : List Ln
 ck : Int
abbrev kval (k : Kp) (a : Option Addr) (c : Nat) : Value := .agg #[.string k.mem, .string k.dur, .slice a k.ds.length c, .int .i64 k.ck]
abbrev kvals (k : Kp) (a : Option Addr) (c : Nat) : List Value := [.string k.mem, .string k.dur, .slice a k.ds.length c, .int .i64 k.ck]
structure FitK (k : Kp) (ss : Nat → Sl) : Prop where
 m1 : k.mem.size ≤ maxLen
 m2 : k.dur.size ≤ maxLen
 n : k.ds.length ≤ maxLen
 each : ∀ j, j < k.ds.length → FitM (dat k.ds j) (ss j)
section Args
variable {H : Type} {enc : TypeId × Value → H} {w : World}
theorem list8 {α : Type} {cs : List α} (h : cs.length = 8) : ∃ x0 x1 x2 x3 x4 x5 x6 x7, cs = [x0, x1, x2, x3, x4, x5, x6, x7] := by
 match cs, h with
 | [x0, x1, x2, x3, x4, x5, x6, x7], _ => exact ⟨x0, x1, x2, x3, x4, x5, x6, x7, rfl⟩
theorem cs1 : Tryz.prog.cellsOf 3 = 1 := by kernel_rfl
theorem cs2 : Tryz.prog.cellsOf 9 = 1 := by kernel_rfl
theorem cs3 : Tryz.prog.cellsOf 29 = 1 := by kernel_rfl
theorem cs4 : Tryz.prog.cellsOf 38 = 2 := by kernel_rfl
theorem cs5 : Tryz.prog.cellsOf 39 = 1 := by kernel_rfl
theorem cs6 : Tryz.prog.cellsOf 41 = 4 := by kernel_rfl
theorem loan_cells {n : Nat} {cs : List Value} {x : DataW H × List MemPlace} (h : DataW.trod enc Tryz.prog w 0 (fun _ => true) true n 170 cs = some x) :
  ∃ (q : Ln × Sl), cs = vals q.1 q.2 ∧ FitM q.1 q.2 ∧ Lists w q.1 q.2 := by
 obtain ⟨xs, k, _, _, hlen, hxl, hall⟩ := DataW.trod_struct Tryz.underlying170 h
 rw [N1.cells] at hlen
 obtain ⟨x0, x1, x2, x3, x4, x5, x6, x7, rfl⟩ := list8 hlen
 obtain ⟨y0, y1, y2, y3, y4, y5, y6, y7, rfl⟩ := list8 hxl
 have h0 := hall 0 _ rfl
 have h1 := hall 1 _ rfl
 have h2 := hall 2 _ rfl
 have h3 := hall 3 _ rfl
 have h4 := hall 4 _ rfl
 have h5 := hall 5 _ rfl
 have h6 := hall 6 _ rfl
 have h7 := hall 7 _ rfl
 simp only [cs1, cs2, cs3, List.drop_zero, List.drop_succ_cons, List.take_succ_cons, List.take_zero, List.getElem?_cons_zero, List.getElem?_cons_succ] at h0 h1 h2 h3 h4 h5 h6 h7
 obtain ⟨ino, e0, _, _⟩ := DataW.trod_int Tryz.underlying3 h0
 obtain ⟨cl, e1, _, _⟩ := DataW.trod_int Tryz.underlying3 h1
 obtain ⟨un, e2, _, _⟩ := DataW.trod_int Tryz.underlying3 h2
 obtain ⟨rc, e3, _, w3⟩ := DataW.trod_string Tryz.underlying9 h3
 obtain ⟨sav, e5, _, w5⟩ := DataW.trod_string Tryz.underlying9 h5
 obtain ⟨a1, c1, pg, rfl, p1, p2, R1⟩ := I2.open_row h4
 obtain ⟨a2, c2, po, rfl, p3, p4, R2⟩ := I2.open_row h6
 obtain ⟨a3, c3, fr, rfl, p5, p6, R3⟩ := I2.open_row h7
 simp [cs1, cs2] at e0 e1 e2 e3 e5
 subst e0 e1 e2 e3 e5
 exact ⟨(⟨ino, cl, un, rc, pg, sav, po, fr⟩, ⟨a1, c1, a2, c2, a3, c3⟩), rfl, ⟨Nat.le_trans p1 p2, Nat.le_trans p3 p4, Nat.le_trans p5 p6, w3, w5⟩, ⟨R1, R2, R3⟩⟩
theorem open_loans {fuel : Nat} {v : Value} {x : DataW H × List MemPlace} (h : DataW.trod enc Tryz.prog w 0 (fun _ => true) true fuel 39 [v] = some x) :
  ∃ (a : Option Addr) (c : Nat) (ds : List Ln) (ss : Nat → Sl), v = .slice a ds.length c ∧ ds.length ≤ c ∧ c ≤ maxLen ∧ (∀ j, j < ds.length → FitM (dat ds j) (ss j)) ∧ Lns w a ds ss := by
 rcases open_slice Tryz.underlying39 h with ⟨hcs, _⟩ | ⟨a, len, cap, m, n, D, Pl, hcs, _, hl, hm, hmm, _, hx⟩
 ·simp at hcs
  exact ⟨none, 0, [], fun _ => sz0, hcs, Nat.le_refl _, Nat.zero_le _, fun j hj => by simp at hj, ⟨Or.inl rfl, fun j hj => by simp at hj⟩⟩
 ·simp at hcs hmm
  subst hmm
  rw [N1.cells] at hx
  have each : ∀ j, j < m → ∃ q : Ln × Sl, (∀ i (hi : i < 8), w.cell? (a.add (j * 8 + i)) = some ((vals q.1 q.2)[i]'hi)) ∧ FitM q.1 q.2 ∧ Lists w q.1 q.2 := fun j hj => by
   obtain ⟨cs, k1, k2⟩ := hx j hj
   obtain ⟨q, rfl, f1, f2⟩ := loan_cells k2
   obtain ⟨_, _, k3⟩ := World.cells?_some k1
   refine ⟨q, fun i hi => ?_, f1, f2⟩
   have := k3 i hi
   rw [add_add] at this
   rw [this, List.getElem?_eq_getElem]
  haveI : Inhabited (Ln × Sl) := ⟨(dz, sz0)⟩
  obtain ⟨q, hq⟩ := choose_lt each
  have hlen : ((List.range len).map fun i => (q i).1).length = len := by simp
  have hdat : ∀ j, j < len → dat ((List.range len).map fun i => (q i).1) j = (q j).1 := fun j hj => by
   rw [dat_get _ _ (by rw [hlen]; exact hj)]
   simp
  refine ⟨some a, m, (List.range len).map fun i => (q i).1, fun i => (q i).2, by rw [hcs, hlen], by rw [hlen]; exact hl, hm, fun j hj => ?_, ⟨?_, fun j hj => ?_⟩⟩
  ·rw [hlen] at hj
   rw [hdat j hj]
   exact (hq j (by omega)).2.1
  ·by_cases h0 : len = 0
   ·left
    subst h0
    rfl
   ·right
    obtain ⟨b, off, spot⟩ := a
    have c00 := (hq 0 (by omega)).1 0 (by omega)
    have hspot : spot = none := by simpa [Addr.add] using World.cell?_spot c00
    subst hspot
    have hb : b < w.heap.size := by
     unfold World.cell? at c00
     cases hz : w.heap[b]? with
     | none => simp [Addr.add, hz] at c00
     | some o => exact (Array.getElem?_eq_some_iff.1 hz).1
    refine ⟨b, off, rfl, hb, fun j hj => ?_⟩
    rw [hlen] at hj
    rw [hdat j hj]
    have hc := (hq j (by omega)).1
    simp only [Go.WideShapes.add_plain, ← Nat.add_assoc] at hc
    exact ⟨hc 0 (by omega), hc 1 (by omega), hc 2 (by omega), hc 3 (by omega), hc 4 (by omega), hc 5 (by omega), hc 6 (by omega), hc 7 (by omega)⟩
  ·rw [hlen] at hj
   rw [hdat j hj]
   exact (hq j (by omega)).2.2
theorem open_keeper {r : Reach} {b0 : Nat} {v : Value} {x : DataW H} {p : List MemPlace} (hv : Value.okWide Tryz.prog w r b0 41 v) (h : DataW.Trod enc Tryz.prog w 0 (fun _ => true) true 41 v x p) :
  ∃ (k : Kp) (a : Option Addr) (c : Nat) (ss : Nat → Sl), v = kval k a c ∧ FitK k ss ∧ Lns w a k.ds ss := by
 obtain ⟨cs, rfl, hsz⟩ := okWide_struct Tryz.underlying41 hv
 obtain ⟨fuel, hf⟩ := h
 obtain ⟨xs, n, _, _, _, hxl, hall⟩ := DataW.trod_struct Tryz.underlying41 hf
 rw [cs6] at hsz
 obtain ⟨l⟩ := cs
 match l, hsz, xs, hxl with
 | [x0, x1, x2, x3], _, [y0, y1, y2], _ =>
  have h0 := hall 0 _ rfl
  have h1 := hall 1 _ rfl
  have h2 := hall 2 _ rfl
  simp only [Value.cells, cs1, cs4, cs5, List.drop_zero, List.drop_succ_cons, List.take_succ_cons, List.take_zero, List.getElem?_cons_zero, List.getElem?_cons_succ] at h0 h1 h2
  obtain ⟨zs, n2, _, _, _, hzl, hall2⟩ := DataW.trod_struct Tryz.underlying38 h0
  match zs, hzl with
  | [z0, z1], _ =>
   have g0 := hall2 0 _ rfl
   have g1 := hall2 1 _ rfl
   simp only [cs2, List.drop_zero, List.drop_succ_cons, List.take_succ_cons, List.take_zero, List.getElem?_cons_zero, List.getElem?_cons_succ] at g0 g1
   obtain ⟨mem, e0, _, w0⟩ := DataW.trod_string Tryz.underlying9 g0
   obtain ⟨dur, e1, _, w1⟩ := DataW.trod_string Tryz.underlying9 g1
   obtain ⟨ck, e3, _, _⟩ := DataW.trod_int Tryz.underlying3 h2
   obtain ⟨a, c, ds, ss, rfl, hl, hc, hF, hR⟩ := open_loans h1
   simp [cs1, cs2, cs4] at e0 e1 e3
   subst e0 e1 e3
   exact ⟨⟨mem, dur, ds, ck⟩, a, c, ss, rfl, ⟨w0, w1, Nat.le_trans hl hc, hF⟩, hR⟩
end Args
end Go.Proofs.YtljnkicgahepfaaGreatDoor.Z0
namespace Go.Proofs.YtljnkicgahepfaaGreatDoor.N4
open Go.ChangeShapes Go.WideShapes Go.ChangeAt Go.RowKit
open N0 (Ln)
open N1 (Sl val vals Lists FitM LB lb_new)
open I2 (ints)
abbrev zero8 : List Value := [.int .i64 0, .int .i64 0, .int .i64 0, .string ⟨#[]⟩, .slice none 0 0, .string ⟨#[]⟩, .slice none 0 0, .slice none 0 0]
structure T (w : World) (d : Ln) (s : Sl) (vs : List Value) (W : World) : Prop where
 arg : LB w.heap.size d s W
 res : K0.Blk (w.heap.size + 1) zero8 W
 tmp : K0.Blk (w.heap.size + 2) vs W
 bel : Below w.heap.size w W
variable {w W W' : World} {d : Ln} {s : Sl} {vs : List Value}
theorem T.below (h : T w d s vs W) (hb : Below W.heap.size W W') : T w d s vs W' := ⟨h.arg.below hb, h.res.below hb, h.tmp.below hb, h.bel.trans (hb.mono h.bel.size)⟩
theorem T.set (h : T w d s vs W) (j : Nat) (v : Value) : T w d s (vs.set j v) (W.setCell ⟨w.heap.size + 2, j, none⟩ v) :=
 ⟨⟨h.arg.b.setOther (by omega) j v⟩, h.res.setOther (by omega) j v, h.tmp.set j v, h.bel.setCell (p := ⟨w.heap.size + 2, j, none⟩) (Nat.le_add_right _ _) v⟩
def at3 (d : Ln) (g1 g2 g3 : Nat) : Sl := ⟨some ⟨g1, 0, none⟩, d.pg.length, some ⟨g2, 0, none⟩, d.po.length, some ⟨g3, 0, none⟩, d.fr.length⟩
theorem t_new (w : World) (d : Ln) (s : Sl) :
    T w d s [.int .i64 d.ino, .int .i64 d.cl, .int .i64 d.un, .string d.rc, .slice none 0 0, .string ⟨#[]⟩, .slice none 0 0, .slice none 0 0] (((w.alloc (.cells #[.int .i64 d.ino, .int .i64 d.cl, .int .i64 d.un, .string d.rc, .slice s.a1 d.pg.length s.c1, .string d.sav, .slice s.a2 d.po.length s.c2, .slice s.a3 d.fr.length s.c3] 170)).alloc (.cells #[.int .i64 0, .int .i64 0, .int .i64 0, .string ⟨#[]⟩, .slice none 0 0, .string ⟨#[]⟩, .slice none 0 0, .slice none 0 0] 66)).alloc (.cells #[.int .i64 d.ino, .int .i64 d.cl, .int .i64 d.un, .string d.rc, .slice none 0 0, .string ⟨#[]⟩, .slice none 0 0, .slice none 0 0] 66)) :=
  ⟨⟨((K0.blk_new (vals d s) w 170).alloc _).alloc _⟩, (K0.blk_at zero8 _ 66 (by simp)).alloc _, K0.blk_at [.int .i64 d.ino, .int .i64 d.cl, .int .i64 d.un, .string d.rc, .slice none 0 0, .string ⟨#[]⟩, .slice none 0 0, .slice none 0 0] _ 66 (by simp),
   (((Below.refl _ _).alloc (Nat.le_refl _) _).alloc (by simp) _).alloc (by simp; omega) _⟩
structure Cp (B : Nat) (d : Ln) (g1 g2 g3 : Nat) (W : World) : Prop where
 h1 : B ≤ g1
 h2 : B ≤ g2
 h3 : B ≤ g3
 k1 : K0.Blk g1 (ints d.pg) W
 k2 : K0.Blk g2 (ints d.po) W
 k3 : K0.Blk g3 (ints d.fr) W
variable {B g1 g2 g3 : Nat}
theorem Cp.below (h : Cp B d g1 g2 g3 W) (hb : Below W.heap.size W W') : Cp B d g1 g2 g3 W' := ⟨h.h1, h.h2, h.h3, h.k1.below hb, h.k2.below hb, h.k3.below hb⟩
theorem Cp.lists (h : Cp B d g1 g2 g3 W) : Lists W d (at3 d g1 g2 g3) := ⟨I2.row_of_blk h.k1, I2.row_of_blk h.k2, I2.row_of_blk h.k3⟩
theorem put8 {B : Nat} {x0 x1 x2 x3 x4 x5 x6 x7 y0 y1 y2 y3 y4 y5 y6 y7 : Value} (h : K0.Blk B [x0, x1, x2, x3, x4, x5, x6, x7] W) :
  K0.Blk B [y0, y1, y2, y3, y4, y5, y6, y7] ((((((((W.setCell ⟨B, 0, none⟩ y0).setCell ⟨B, 1, none⟩ y1).setCell ⟨B, 2, none⟩ y2).setCell ⟨B, 3, none⟩ y3).setCell ⟨B, 4, none⟩ y4).setCell ⟨B, 5, none⟩ y5).setCell ⟨B, 6, none⟩ y6).setCell ⟨B, 7, none⟩ y7) :=
 (((((((h.set 0 y0).set 1 y1).set 2 y2).set 3 y3).set 4 y4).set 5 y5).set 6 y6).set 7 y7
theorem other8 {B B' : Nat} {vs : List Value} (h : K0.Blk B' vs W) (hne : B ≠ B') (y0 y1 y2 y3 y4 y5 y6 y7 : Value) :
  K0.Blk B' vs ((((((((W.setCell ⟨B, 0, none⟩ y0).setCell ⟨B, 1, none⟩ y1).setCell ⟨B, 2, none⟩ y2).setCell ⟨B, 3, none⟩ y3).setCell ⟨B, 4, none⟩ y4).setCell ⟨B, 5, none⟩ y5).setCell ⟨B, 6, none⟩ y6).setCell ⟨B, 7, none⟩ y7) :=
 (((((((h.setOther hne 0 y0).setOther hne 1 y1).setOther hne 2 y2).setOther hne 3 y3).setOther hne 4 y4).setOther hne 5 y5).setOther hne 6 y6).setOther hne 7 y7
theorem bel8 {B b : Nat} (h : Below b w W) (hb : b ≤ B) (y0 y1 y2 y3 y4 y5 y6 y7 : Value) :
  Below b w ((((((((W.setCell ⟨B, 0, none⟩ y0).setCell ⟨B, 1, none⟩ y1).setCell ⟨B, 2, none⟩ y2).setCell ⟨B, 3, none⟩ y3).setCell ⟨B, 4, none⟩ y4).setCell ⟨B, 5, none⟩ y5).setCell ⟨B, 6, none⟩ y6).setCell ⟨B, 7, none⟩ y7) :=
 (((((((h.setCell (p := ⟨B, 0, none⟩) hb y0).setCell (p := ⟨B, 1, none⟩) hb y1).setCell (p := ⟨B, 2, none⟩) hb y2).setCell (p := ⟨B, 3, none⟩) hb y3).setCell (p := ⟨B, 4, none⟩) hb y4).setCell (p := ⟨B, 5, none⟩) hb y5).setCell (p := ⟨B, 6, none⟩) hb y6).setCell (p := ⟨B, 7, none⟩) hb y7
set_option maxHeartbeats 4000000 in
theorem toLoan (d : Ln) (s : Sl) (w : World) (hp : d.pg.length ≤ 1048576) (ho : d.po.length ≤ 1048576) (hf : d.fr.length ≤ 1048576) (hR : Lists w d s) :
  Calls Tryz.prog 147 #[val d s] w fun e w' => ∃ g1 g2 g3, e = .returned (val d (at3 d g1 g2 g3)) ∧ Cp w.heap.size d g1 g2 g3 w' ∧ Below w.heap.size w w' := by
 have t0 := t_new w d s
 have HL : Hid (∀ W, Below w.heap.size w W → Lists W d s) := fun W hb => hR.below hb
 have r0 := (HL.out _ t0.bel).r1
 clear hR
 go_enter Tryz.func147, Tryz.ntmps147
 go_wp2_with (first
  | (go_at_call 30; have q2' := q2; refine (I2.toIntS s.a3 s.c3 d.fr _ hf q2).mono ?_; rintro e w3 ⟨g3, rfl, hg3, k3, b3⟩; have t3 := u2.below b3; have m1 := l2.below b3; have m2 := (k2.setOther (B' := w.heap.size + 2) (by omega) 6 (.slice (some ⟨g2, 0, none⟩) d.po.length d.po.length)).below b3; have z7 := t3.tmp.cell 7 (by simp); have y7 := t3.tmp.free 7 (by simp); have z0 := t3.tmp.cell 0 (by simp); have z1 := t3.tmp.cell 1 (by simp); have z2 := t3.tmp.cell 2 (by simp); have z3 := t3.tmp.cell 3 (by simp); have z4 := t3.tmp.cell 4 (by simp); have z5 := t3.tmp.cell 5 (by simp); have z6 := t3.tmp.cell 6 (by simp); simp only [List.set_cons_zero, List.set_cons_succ, List.getElem_cons_zero, List.getElem_cons_succ] at z0 z1 z2 z3 z4 z5 z6 z7; have i0 := t3.res.cell 0 (by simp); have i1 := t3.res.cell 1 (by simp); have i2 := t3.res.cell 2 (by simp); have i3 := t3.res.cell 3 (by simp); have i4 := t3.res.cell 4 (by simp); have i5 := t3.res.cell 5 (by simp); have i6 := t3.res.cell 6 (by simp); have i7 := t3.res.cell 7 (by simp); simp only [List.getElem_cons_zero, List.getElem_cons_succ] at i0 i1 i2 i3 i4 i5 i6 i7; have j0 := t3.res.free 0 (by simp); have j1 := t3.res.free 1 (by simp); have j2 := t3.res.free 2 (by simp); have j3 := t3.res.free 3 (by simp); have j4 := t3.res.free 4 (by simp); have j5 := t3.res.free 5 (by simp); have j6 := t3.res.free 6 (by simp); have j7 := t3.res.free 7 (by simp))
  | (go_at_call 30; have q1' := q1; refine (I2.toIntS s.a2 s.c2 d.po _ ho q1).mono ?_; rintro e w2 ⟨g2, rfl, hg2, k2, b2⟩; have t2 := u1.below b2; have l2 := ((k1.setOther (B' := w.heap.size + 2) (by omega) 4 (.slice (some ⟨g1, 0, none⟩) d.pg.length d.pg.length)).setOther (B' := w.heap.size + 2) (by omega) 5 (.string d.sav)).below b2; have hg2' : w.heap.size + 3 ≤ g2 := (by have hq := u1.tmp.lt; omega); have l2 := l2.setOther (B' := w.heap.size + 2) (by omega) 6 (.slice (some ⟨g2, 0, none⟩) d.po.length d.po.length); have c7 := t2.arg.c7; have x6 := t2.tmp.cell 6 (by simp); have y6 := t2.tmp.free 6 (by simp); simp only [List.set_cons_zero, List.set_cons_succ, List.getElem_cons_zero, List.getElem_cons_succ] at x6; have u2 := t2.set 6 (.slice (some ⟨g2, 0, none⟩) d.po.length d.po.length); have q2 := (HL.out _ u2.bel).r3)
  | (go_at_call 30; refine (I2.toIntS s.a1 s.c1 d.pg _ hp r0).mono ?_; rintro e w1 ⟨g1, rfl, hg1, k1, b1⟩; have t1 := t0.below b1; have hg1' : w.heap.size + 3 ≤ g1 := (by have hq := t0.tmp.lt; omega); have c5 := t1.arg.c5; have c6 := t1.arg.c6; have x4 := t1.tmp.cell 4 (by simp); have y4 := t1.tmp.free 4 (by simp); have x5 := t1.tmp.cell 5 (by simp); have y5 := t1.tmp.free 5 (by simp); simp only [List.getElem_cons_zero, List.getElem_cons_succ] at x4 x5; have u1 := (t1.set 4 (.slice (some ⟨g1, 0, none⟩) d.pg.length d.pg.length)).set 5 (.string d.sav); have q1 := (HL.out _ u1.bel).r2))
 have hg3' : w.heap.size + 3 ≤ g3 := by
  have := u2.tmp.lt
  simp at hg3 this
  omega
 have u3 := t3.set 7 (.slice (some ⟨g3, 0, none⟩) d.fr.length d.fr.length)
 have q := put8 (y0 := .int .i64 d.ino) (y1 := .int .i64 d.cl) (y2 := .int .i64 d.un) (y3 := .string d.rc) (y4 := .slice (some ⟨g1, 0, none⟩) d.pg.length d.pg.length) (y5 := .string d.sav) (y6 := .slice (some ⟨g2, 0, none⟩) d.po.length d.po.length) (y7 := .slice (some ⟨g3, 0, none⟩) d.fr.length d.fr.length) u3.res
 have v0 := q.cell 0 (by simp)
 have v1 := q.cell 1 (by simp)
 have v2 := q.cell 2 (by simp)
 have v3 := q.cell 3 (by simp)
 have v4 := q.cell 4 (by simp)
 have v5 := q.cell 5 (by simp)
 have v6 := q.cell 6 (by simp)
 have v7 := q.cell 7 (by simp)
 simp only [List.getElem_cons_zero, List.getElem_cons_succ] at v0 v1 v2 v3 v4 v5 v6 v7
 refine bodyPost_ret (v := val d (at3 d g1 g2 g3)) (by simp [results, Tryz.results147, go_sem, v0, v1, v2, v3, v4, v5, v6, v7, at3]) rfl ⟨g1, g2, g3, rfl, ⟨by omega, by omega, by omega, ?_, ?_, ?_⟩, ?_⟩
 ·exact other8 (m1.setOther (B' := w.heap.size + 2) (by omega) 7 _) (by omega) _ _ _ _ _ _ _ _
 ·exact other8 (m2.setOther (B' := w.heap.size + 2) (by omega) 7 _) (by omega) _ _ _ _ _ _ _ _
 ·exact other8 (k3.setOther (B' := w.heap.size + 2) (by omega) 7 _) (by omega) _ _ _ _ _ _ _ _
 ·exact bel8 u3.bel (by omega) _ _ _ _ _ _ _ _
end Go.Proofs.YtljnkicgahepfaaGreatDoor.N4
namespace Go.Proofs.YtljnkicgahepfaaGreatDoor.N12
open Go.ChangeShapes Go.WideShapes Go.ChangeAt Go.RowKit
open N0 (Ln)
open N1 (Sl Lists Fit FitM LB lb_new)
open N4 (at3 Cp)
structure A (w : World) (d : Ln) (s : Sl) (W : World) : Prop where
 b : LB w.heap.size d s W
 l : Lists W d s
 bel : Below w.heap.size w W
variable {w W W' : World} {d : Ln} {s : Sl} {g1 g2 g3 B : Nat}
theorem A.below (h : A w d s W) (hb : Below W.heap.size W W') : A w d s W' := ⟨h.b.below hb, h.l.below hb, h.bel.trans (hb.mono h.bel.size)⟩
theorem A.drew (h : A w d s W) : A w d s W.drew := h.below ((Below.refl _ _).drew)
structure U (w : World) (d : Ln) (s : Sl) (g1 g2 g3 B : Nat) (W : World) : Prop where
 t : A w d s W
 n : LB B d (at3 d g1 g2 g3) W
 cp : Cp w.heap.size d g1 g2 g3 W
theorem U.below (h : U w d s g1 g2 g3 B W) (hb : Below W.heap.size W W') : U w d s g1 g2 g3 B W' := ⟨h.t.below hb, h.n.below hb, h.cp.below hb⟩
theorem U.drew (h : U w d s g1 g2 g3 B W) : U w d s g1 g2 g3 B W.drew := h.below ((Below.refl _ _).drew)
theorem cp_mono {b b' : Nat} (h : Cp b d g1 g2 g3 W) (hb : b' ≤ b) : Cp b' d g1 g2 g3 W := ⟨Nat.le_trans hb h.h1, Nat.le_trans hb h.h2, Nat.le_trans hb h.h3, h.k1, h.k2, h.k3⟩
theorem sizes (h : N3.total d ≤ 1048576) : d.pg.length ≤ 1048576 ∧ d.po.length ≤ 1048576 ∧ d.fr.length ≤ 1048576 ∧ d.rc.size ≤ 1048576 ∧ d.sav.size ≤ 1048576 := by
 unfold N3.total at h
 omega
end Go.Proofs.YtljnkicgahepfaaGreatDoor.N12
namespace Go.Proofs.YtljnkicgahepfaaGreatDoor.D1
open Go.ChangeShapes Go.WideShapes Go.ChangeAt Go.RowKit
def sz (a b : ByteArray) : Int := if (a.size : Int) + b.size ≤ 1048576 then 1048576 - a.size - b.size else -1
theorem szDev (a b : ByteArray) (w : World) (ha : a.size ≤ maxLen) (hb : b.size ≤ maxLen) :
  Calls Tryz.prog 73 #[.agg #[.string a, .string b], .int .i64 1048576] w fun e w' => e = .returned (.int .i64 (sz a b)) ∧ Below w.heap.size w w' := by
 unfold maxLen at ha hb
 by_cases h1 : (a.size : Int) ≤ 1048576
 ·by_cases h2 : (a.size : Int) + b.size ≤ 1048576
  ·have e : sz a b = 1048576 - a.size - b.size := by simp [sz, h2]
   rw [e]
   go_enter Tryz.func73, Tryz.ntmps73
   go_wp2
   go_ret
   exact ⟨rfl, (Below.refl _ _).alloc (Nat.le_refl _) _⟩
  ·have e : sz a b = -1 := by simp [sz, h2]
   rw [e]
   go_enter Tryz.func73, Tryz.ntmps73
   go_wp2
   go_ret
   exact ⟨rfl, (Below.refl _ _).alloc (Nat.le_refl _) _⟩
 ·have e : sz a b = -1 := by
   have : ¬ ((a.size : Int) + b.size ≤ 1048576) := by omega
   simp [sz, this]
  rw [e]
  go_enter Tryz.func73, Tryz.ntmps73
  go_wp2
  go_ret
  exact ⟨rfl, (Below.refl _ _).alloc (Nat.le_refl _) _⟩
theorem toDev (a b : ByteArray) (w : World) :
  Calls Tryz.prog 77 #[.agg #[.string a, .string b]] w fun e w' => e = .returned (.agg #[.string a, .string b]) ∧ Below w.heap.size w w' := by
 go_enter Tryz.func77, Tryz.ntmps77
 go_wp2
 exact bodyPost_ret (v := .agg #[.string a, .string b]) (by simp [results, Tryz.results77, go_sem]) rfl ⟨rfl, (((Below.refl _ _).alloc (Nat.le_refl _) _).alloc (by simp) _).alloc (by simp; omega) _⟩
theorem eqDev (a b : ByteArray) (w : World) :
  Calls Tryz.prog 83 #[.agg #[.string a, .string b], .agg #[.string a, .string b]] w fun e w' => e = .returned (.bool true) ∧ Below w.heap.size w w' := by
 go_enter Tryz.func83, Tryz.ntmps83
 go_wp2
 go_ret
 exact ⟨rfl, ((Below.refl _ _).alloc (Nat.le_refl _) _).alloc (by simp) _⟩
def ok (a b : ByteArray) : Bool := decide (a.size = 768) && decide (b.size = 768)
theorem ok_true {a b : ByteArray} (h : ok a b = true) : a.size = 768 ∧ b.size = 768 := by simpa [ok] using h
theorem ok_mk {a b : ByteArray} (h1 : a.size = 768) (h2 : b.size = 768) : ok a b = true := by simp [ok, h1, h2]
theorem impl_DevOk (a b : ByteArray) (w : World) (ha : a.size ≤ maxLen) (hb : b.size ≤ maxLen) :
  Calls Tryz.prog 53 #[.agg #[.string a, .string b]] w fun e w' => e = .returned (.bool (ok a b)) ∧ w' = w.alloc (.cells #[.string a, .string b] 25) := by
 unfold maxLen at ha hb
 by_cases h1 : (a.size : Int) = 768
 ·by_cases h2 : (b.size : Int) = 768
  ·have e : ok a b = true := ok_mk (by omega) (by omega)
   rw [e]
   go_enter Tryz.func53, Tryz.ntmps53
   go_wp2
   go_ret
   exact ⟨rfl, rfl⟩
  ·have e : ok a b = false := by simp [ok]; omega
   have h2' : ((b.size : Int) == 768) = false := by simpa using h2
   rw [e]
   go_enter Tryz.func53, Tryz.ntmps53
   go_wp2
   go_ret
   exact ⟨rfl, rfl⟩
 ·have e : ok a b = false := by simp [ok]; omega
  have h1' : ((a.size : Int) == 768) = false := by simpa using h1
  rw [e]
  go_enter Tryz.func53, Tryz.ntmps53
  go_wp2
  go_ret
  exact ⟨rfl, rfl⟩
theorem spec_DevOk (a b : ByteArray) (w : World) (ha : a.size ≤ maxLen) (hb : b.size ≤ maxLen) :
  Calls Tryz.prog 43 #[.agg #[.string a, .string b]] w fun e w' => e = .returned (.bool (ok a b)) ∧ w' = w.alloc (.cells #[.string a, .string b] 25) := by
 unfold maxLen at ha hb
 by_cases h1 : (a.size : Int) = 768
 ·by_cases h2 : (b.size : Int) = 768
  ·have e : ok a b = true := ok_mk (by omega) (by omega)
   rw [e]
   go_enter Tryz.func43, Tryz.ntmps43
   go_wp2
   go_ret
   exact ⟨rfl, rfl⟩
  ·have e : ok a b = false := by simp [ok]; omega
   have h2' : ((b.size : Int) == 768) = false := by simpa using h2
   rw [e]
   go_enter Tryz.func43, Tryz.ntmps43
   go_wp2
   go_ret
   exact ⟨rfl, rfl⟩
 ·have e : ok a b = false := by simp [ok]; omega
  have h1' : ((a.size : Int) == 768) = false := by simpa using h1
  rw [e]
  go_enter Tryz.func43, Tryz.ntmps43
  go_wp2
  go_ret
  exact ⟨rfl, rfl⟩
end Go.Proofs.YtljnkicgahepfaaGreatDoor.D1
namespace Go.Proofs.YtljnkicgahepfaaGreatDoor.Y0
open Go.RowKit
variable {P : Program} {Q : Exit → Act → World → Prop} {ops : Array Oper}
theorem of_if {c : Prop} [Decidable c] {p q : Prop} (hc : c) (hp : p) : if c then p else q := by rw [if_pos hc]; exact hp
theorem one_call {S : World → Prop} {a : Act} {w : World} {i f : Nat} {o : Oper} {listed : Array Bool} {fuel : Nat} {md : Region.Mode} (hr : Region.ready md ops listed = [i]) (ho : ops[i]? = some o) (hg : o.guard = none)
  (x : Operand) (ts : Array TypeId) (hop : o.op = .call { callee := .value (.func f), args := #[x], argTypes := ts }) (v : Value) (hx : a.eval x = v) (eg : ∀ args w, (callFunc f args).run P w = .ok (.enter f args) w)
  (hc : Calls P f #[v] w fun e w' => ∃ u, e = .returned u ∧ S w' ∧ wpAnyH P md ops Q S fuel (listed.setIfInBounds i true) (a.put o.dst u) w') : wpAnyH P md ops Q S (fuel + 1) listed a w := by
 refine wpAnyH_all hr (by simp) ?_
 intro j hj
 obtain rfl : j = i := by simpa using hj
 unfold wpOp
 rw [ho]
 refine of_if (by rw [Region.wanted, hg]) (.inl ?_)
 have he : (execOp a.eval o).run P w = .ok (.enter f #[v]) w := by
  subst hx
  simp [execOp, hop, resolve, go_sem, invoke, eg]
 unfold Oper.wp
 rw [he]
 refine Calls.mono hc ?_
 rintro e w' ⟨u, rfl, h⟩
 exact h
theorem one_callw {S : World → Prop} {a : Act} {w : World} {i f : Nat} {o : Oper} {listed : Array Bool} {fuel : Nat} {md : Region.Mode} (hr : Region.ready md ops listed = [i]) (ho : ops[i]? = some o) (hw : Region.wanted o (yielded ops a.tmps) = true)
  (x : Operand) (ts : Array TypeId) (hop : o.op = .call { callee := .value (.func f), args := #[x], argTypes := ts }) (v : Value) (hx : a.eval x = v) (eg : ∀ args w, (callFunc f args).run P w = .ok (.enter f args) w)
  (hc : Calls P f #[v] w fun e w' => ∃ u, e = .returned u ∧ S w' ∧ wpAnyH P md ops Q S fuel (listed.setIfInBounds i true) (a.put o.dst u) w') : wpAnyH P md ops Q S (fuel + 1) listed a w := by
 refine wpAnyH_all hr (by simp) ?_
 intro j hj
 obtain rfl : j = i := by simpa using hj
 unfold wpOp
 rw [ho]
 refine of_if hw (.inl ?_)
 have he : (execOp a.eval o).run P w = .ok (.enter f #[v]) w := by
  subst hx
  simp [execOp, hop, resolve, go_sem, invoke, eg]
 unfold Oper.wp
 rw [he]
 refine Calls.mono hc ?_
 rintro e w' ⟨u, rfl, h⟩
 exact h
theorem one_call2w {S : World → Prop} {a : Act} {w : World} {i f : Nat} {o : Oper} {listed : Array Bool} {fuel : Nat} {md : Region.Mode} (hr : Region.ready md ops listed = [i]) (ho : ops[i]? = some o) (hw : Region.wanted o (yielded ops a.tmps) = true)
  (x y : Operand) (ts : Array TypeId) (hop : o.op = .call { callee := .value (.func f), args := #[x, y], argTypes := ts }) (v u1 : Value) (hx0 : a.eval x = v) (hx1 : a.eval y = u1) (eg : ∀ args w, (callFunc f args).run P w = .ok (.enter f args) w)
  (hc : Calls P f #[v, u1] w fun e w' => ∃ u, e = .returned u ∧ S w' ∧ wpAnyH P md ops Q S fuel (listed.setIfInBounds i true) (a.put o.dst u) w') : wpAnyH P md ops Q S (fuel + 1) listed a w := by
 refine wpAnyH_all hr (by simp) ?_
 intro j hj
 obtain rfl : j = i := by simpa using hj
 unfold wpOp
 rw [ho]
 refine of_if hw (.inl ?_)
 have he : (execOp a.eval o).run P w = .ok (.enter f #[v, u1]) w := by
  subst hx0 hx1
  simp [execOp, hop, resolve, go_sem, invoke, eg]
 unfold Oper.wp
 rw [he]
 refine Calls.mono hc ?_
 rintro e w' ⟨u, rfl, h⟩
 exact h
theorem one_call3w {S : World → Prop} {a : Act} {w : World} {i f : Nat} {o : Oper} {listed : Array Bool} {fuel : Nat} {md : Region.Mode} (hr : Region.ready md ops listed = [i]) (ho : ops[i]? = some o) (hw : Region.wanted o (yielded ops a.tmps) = true)
  (x y z : Operand) (ts : Array TypeId) (hop : o.op = .call { callee := .value (.func f), args := #[x, y, z], argTypes := ts }) (v u1 u2 : Value) (hx0 : a.eval x = v) (hx1 : a.eval y = u1) (hx2 : a.eval z = u2) (eg : ∀ args w, (callFunc f args).run P w = .ok (.enter f args) w)
  (hc : Calls P f #[v, u1, u2] w fun e w' => ∃ u, e = .returned u ∧ S w' ∧ wpAnyH P md ops Q S fuel (listed.setIfInBounds i true) (a.put o.dst u) w') : wpAnyH P md ops Q S (fuel + 1) listed a w := by
 refine wpAnyH_all hr (by simp) ?_
 intro j hj
 obtain rfl : j = i := by simpa using hj
 unfold wpOp
 rw [ho]
 refine of_if hw (.inl ?_)
 have he : (execOp a.eval o).run P w = .ok (.enter f #[v, u1, u2]) w := by
  subst hx0 hx1 hx2
  simp [execOp, hop, resolve, go_sem, invoke, eg]
 unfold Oper.wp
 rw [he]
 refine Calls.mono hc ?_
 rintro e w' ⟨u, rfl, h⟩
 exact h
theorem one_skip {S : World → Prop} {a : Act} {w w' : World} {i : Nat} {o : Oper} {listed : Array Bool} {fuel : Nat} {md : Region.Mode} (hr : Region.ready md ops listed = [i]) (ho : ops[i]? = some o) (hw : Region.wanted o (yielded ops a.tmps) = true)
  (he : (execOp a.eval o).run P w = .ok .skip w') (hS : S w') (h : wpAnyH P md ops Q S fuel (listed.setIfInBounds i true) (a.put o.dst undef) w') : wpAnyH P md ops Q S (fuel + 1) listed a w := by
 refine wpAnyH_all hr (by simp) ?_
 intro j hj
 obtain rfl : j = i := by simpa using hj
 unfold wpOp
 rw [ho]
 refine of_if hw (.inl ?_)
 unfold Oper.wp
 rw [he]
 exact ⟨hS, h⟩
end Go.Proofs.YtljnkicgahepfaaGreatDoor.Y0
