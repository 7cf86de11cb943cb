/- Contracts of the laws' own functions over events, of spec.l08Hex and impl.hexOrDash. -/
import Derived.Test.YtjajclifjojblaaDoorEv0
import Derived.Test.YtjajclifjojblaaDoorHex2
namespace Go.Proofs.YtjajclifjojblaaDoor.EW
open Go.ChangeShapes Go.WideShapes Go.ChangeAt Go.RowKit
set_option linter.unusedVariables false
set_option linter.unusedSimpArgs false
set_option maxRecDepth 10000

open EV (Ev val vals Fit hx dt)
open I2 (ints ret_int left)

variable {w W W' : World} {d : Ev} {a : Option Addr} {c : Nat}

/-- An event's block. -/
structure EB (B : Nat) (d : Ev) (a : Option Addr) (c : Nat) (W : World) : Prop where
  b : K0.Blk B (vals d a c) W
theorem EB.c0 {B : Nat} (h : EB B d a c W) : W.cell? ⟨B, 0, none⟩ = some (.int .i64 d.kd) := h.b.cell 0 (by simp)
theorem EB.c1 {B : Nat} (h : EB B d a c W) : W.cell? ⟨B, 1, none⟩ = some (.int .i64 d.cl) := h.b.cell 1 (by simp)
theorem EB.c2 {B : Nat} (h : EB B d a c W) : W.cell? ⟨B, 2, none⟩ = some (.int .i64 d.ino) := h.b.cell 2 (by simp)
theorem EB.c3 {B : Nat} (h : EB B d a c W) : W.cell? ⟨B, 3, none⟩ = some (.int .i64 d.at_) := h.b.cell 3 (by simp)
theorem EB.c4 {B : Nat} (h : EB B d a c W) : W.cell? ⟨B, 4, none⟩ = some (.string d.tx) := h.b.cell 4 (by simp)
theorem EB.c5 {B : Nat} (h : EB B d a c W) : W.cell? ⟨B, 5, none⟩ = some (.slice a d.kp.length c) := h.b.cell 5 (by simp)
theorem EB.below {B : Nat} (h : EB B d a c W) (hb : Below W.heap.size W W') : EB B d a c W' := ⟨h.b.below hb⟩
abbrev eo (d : Ev) (a : Option Addr) (c : Nat) (T : TypeId) : Obj := .cells #[.int .i64 d.kd, .int .i64 d.cl, .int .i64 d.ino, .int .i64 d.at_, .string d.tx, .slice a d.kp.length c] T
theorem eb_new (d : Ev) (a : Option Addr) (c : Nat) (w : World) (T : TypeId) : EB w.heap.size d a c (w.alloc (eo d a c T)) := ⟨K0.blk_new (vals d a c) w T⟩

/-- How much a law's event holds. -/
def small (d : Ev) : Prop := d.tx.size + d.kp.length ≤ 1048576

abbrev zero6 : List Value := [.int .i64 0, .int .i64 0, .int .i64 0, .int .i64 0, .string ⟨#[]⟩, .slice none 0 0]

/-- The three blocks of toEvent. -/
structure T (w : World) (d : Ev) (a : Option Addr) (c : Nat) (vs : List Value) (W : World) : Prop where
  arg : EB w.heap.size d a c W
  res : K0.Blk (w.heap.size + 1) zero6 W
  tmp : K0.Blk (w.heap.size + 2) vs W
  bel : Below w.heap.size w W
theorem T.below {vs : List Value} (h : T w d a c vs W) (hb : Below W.heap.size W W') : T w d a c vs W' := ⟨h.arg.below hb, h.res.below hb, h.tmp.below hb, h.bel.trans (hb.mono h.bel.size)⟩
theorem T.set {vs : List Value} (h : T w d a c vs W) (j : Nat) (v : Value) : T w d a c (vs.set j v) (W.setCell ⟨w.heap.size + 2, j, none⟩ v) :=
  ⟨⟨h.arg.b.setOther (by omega) j v⟩, h.res.setOther (by omega) j v, h.tmp.set j v, h.bel.setCell (p := ⟨w.heap.size + 2, j, none⟩) (Nat.le_add_right _ _) v⟩
abbrev z6 : Obj := .cells #[.int .i64 0, .int .i64 0, .int .i64 0, .int .i64 0, .string ⟨#[]⟩, .slice none 0 0] 24
abbrev mid (d : Ev) : List Value := [.int .i64 d.kd, .int .i64 d.cl, .int .i64 d.ino, .int .i64 d.at_, .string d.tx, .slice none 0 0]
abbrev m6 (d : Ev) : Obj := .cells #[.int .i64 d.kd, .int .i64 d.cl, .int .i64 d.ino, .int .i64 d.at_, .string d.tx, .slice none 0 0] 24
theorem t_new (w : World) (d : Ev) (a : Option Addr) (c : Nat) : T w d a c (mid d) (((w.alloc (eo d a c 24)).alloc z6).alloc (m6 d)) :=
  ⟨⟨((K0.blk_new (vals d a c) w 24).alloc _).alloc _⟩, (K0.blk_at zero6 _ 24 (by simp)).alloc _, K0.blk_at (mid d) _ 24 (by simp),
   (((Below.refl _ _).alloc (Nat.le_refl _) _).alloc (by simp) _).alloc (by simp; omega) _⟩

theorem put6 {B : Nat} {x0 x1 x2 x3 x4 x5 y0 y1 y2 y3 y4 y5 : Value} (h : K0.Blk B [x0, x1, x2, x3, x4, x5] W) :
    K0.Blk B [y0, y1, y2, y3, y4, y5] ((((((W.setCell ⟨B, 0, none⟩ y0).setCell ⟨B, 1, none⟩ y1).setCell ⟨B, 2, none⟩ y2).setCell ⟨B, 3, none⟩ y3).setCell ⟨B, 4, none⟩ y4).setCell ⟨B, 5, none⟩ y5) := (((((h.set 0 y0).set 1 y1).set 2 y2).set 3 y3).set 4 y4).set 5 y5
theorem other6 {B B' : Nat} {vs : List Value} (h : K0.Blk B' vs W) (hne : B ≠ B') (y0 y1 y2 y3 y4 y5 : Value) :
    K0.Blk B' vs ((((((W.setCell ⟨B, 0, none⟩ y0).setCell ⟨B, 1, none⟩ y1).setCell ⟨B, 2, none⟩ y2).setCell ⟨B, 3, none⟩ y3).setCell ⟨B, 4, none⟩ y4).setCell ⟨B, 5, none⟩ y5) := (((((h.setOther hne 0 y0).setOther hne 1 y1).setOther hne 2 y2).setOther hne 3 y3).setOther hne 4 y4).setOther hne 5 y5
theorem bel6 {B b : Nat} (h : Below b w W) (hb : b ≤ B) (y0 y1 y2 y3 y4 y5 : Value) :
    Below b w ((((((W.setCell ⟨B, 0, none⟩ y0).setCell ⟨B, 1, none⟩ y1).setCell ⟨B, 2, none⟩ y2).setCell ⟨B, 3, none⟩ y3).setCell ⟨B, 4, none⟩ y4).setCell ⟨B, 5, none⟩ y5) := (((((h.setCell (p := ⟨B, 0, none⟩) hb y0).setCell (p := ⟨B, 1, none⟩) hb y1).setCell (p := ⟨B, 2, none⟩) hb y2).setCell (p := ⟨B, 3, none⟩) hb y3).setCell (p := ⟨B, 4, none⟩) hb y4).setCell (p := ⟨B, 5, none⟩) hb y5

set_option maxHeartbeats 1000000 in
theorem eqEvent (d : Ev) (a1 a2 : Option Addr) (c1 c2 : Nat) (w : World) (hk : d.kp.length ≤ 281474976710656) (h1 : P0.Row w a1 d.kp) (h2 : P0.Row w a2 d.kp) :
    Calls Tryd.prog 6 #[val d a1 c1, val d a2 c2] w fun e w' => e = .returned (.bool true) ∧ Below w.heap.size w w' := by
  have n0 := K0.below_new w (eo d a1 c1 24)
  have n1 := n0.alloc n0.size (eo d a2 c2 24)
  have k0 := (eb_new d a1 c1 w 24).below (K0.below_new _ (eo d a2 c2 24))
  have k1 := eb_new d a2 c2 (w.alloc (eo d a1 c1 24)) 24
  have r1 := h1.below n1
  have r2 := h2.below n1
  have x0 := k0.c0
  have x1 := k0.c1
  have x2 := k0.c2
  have x3 := k0.c3
  have x4 := k0.c4
  have x5 := k0.c5
  have hu : (d.tx.toList != d.tx.toList) = false := by simp
  clear h1 h2
  go_enter Tryd.func6, Tryd.ntmps6
  go_wp2_with (go_at_call 23; refine (I2.eqIntS a1 a2 c1 c2 d.kp _ hk r1 r2).mono ?_; rintro e w1 ⟨rfl, n, rfl⟩)
  go_ret
  exact ⟨rfl, K0.below_drewN n1 n⟩
end Go.Proofs.YtjajclifjojblaaDoor.EW
