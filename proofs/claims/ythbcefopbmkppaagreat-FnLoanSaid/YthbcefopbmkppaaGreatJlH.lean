/- Joined texts: plain facts and contracts. -/
import Derived.Test.YthbcefopbmkppaaGreatJlG
import Derived.Test.YthbcefopbmkppaaGreatJlD
import Derived.Test.YthbcefopbmkppaaGreatJlE
import Derived.Deep.Fields
import Derived.Lib.AppendZerosOnto
set_option linter.unusedVariables false
set_option linter.unusedSimpArgs false
set_option maxRecDepth 10000
namespace Go.Proofs.YthbcefopbmkppaaGreat.N1
open Go.ChangeShapes Go.WideShapes Go.ChangeAt Go.RowKit Go.Joins Go.Deep
open N0 (Ln)
structure Sl where
 a1 : Option Addr
 c1 : Nat
 a2 : Option Addr
 c2 : Nat
 a3 : Option Addr
 c3 : Nat
abbrev vals (d : Ln) (s : Sl) : List Value := [.int .i64 d.ino, .int .i64 d.cl, .int .i64 d.un, .string d.rc, .slice s.a1 d.pg.length s.c1, .string d.sav, .slice s.a2 d.po.length s.c2, .slice s.a3 d.fr.length s.c3]
abbrev val (d : Ln) (s : Sl) : Value := .agg #[.int .i64 d.ino, .int .i64 d.cl, .int .i64 d.un, .string d.rc, .slice s.a1 d.pg.length s.c1, .string d.sav, .slice s.a2 d.po.length s.c2, .slice s.a3 d.fr.length s.c3]
structure Lists (W : World) (d : Ln) (s : Sl) : Prop where
 r1 : P0.Row W s.a1 d.pg
 r2 : P0.Row W s.a2 d.po
 r3 : P0.Row W s.a3 d.fr
structure Fit (d : Ln) (s : Sl) : Prop where
 p1 : d.pg.length ≤ 281474976710656
 m4 : d.rc.size ≤ 281474976710656
 m5 : d.sav.size ≤ 281474976710656
variable {W W' : World} {d : Ln} {s : Sl}
theorem Lists.below (h : Lists W d s) (hb : Below W.heap.size W W') : Lists W' d s := ⟨h.r1.below hb, h.r2.below hb, h.r3.below hb⟩
theorem Lists.alloc (h : Lists W d s) (o : Obj) : Lists (W.alloc o) d s := ⟨h.r1.alloc o, h.r2.alloc o, h.r3.alloc o⟩
theorem Lists.drewN (h : Lists W d s) (n : Nat) : Lists (W.drewN n) d s := ⟨h.r1, h.r2, h.r3⟩
theorem Lists.drew (h : Lists W d s) : Lists W.drew d s := ⟨h.r1, h.r2, h.r3⟩
section Args
variable {H : Type} {enc : TypeId × Value → H} {w : World}
end Args
structure LB (B : Nat) (d : Ln) (s : Sl) (W : World) : Prop where
 b : K0.Blk B (vals d s) W
variable {B : Nat}
theorem LB.c0 (h : LB B d s W) : W.cell? ⟨B, 0, none⟩ = some (.int .i64 d.ino) := h.b.cell 0 (by simp)
theorem LB.c1 (h : LB B d s W) : W.cell? ⟨B, 1, none⟩ = some (.int .i64 d.cl) := h.b.cell 1 (by simp)
theorem LB.c2 (h : LB B d s W) : W.cell? ⟨B, 2, none⟩ = some (.int .i64 d.un) := h.b.cell 2 (by simp)
theorem LB.c3 (h : LB B d s W) : W.cell? ⟨B, 3, none⟩ = some (.string d.rc) := h.b.cell 3 (by simp)
theorem LB.c4 (h : LB B d s W) : W.cell? ⟨B, 4, none⟩ = some (.slice s.a1 d.pg.length s.c1) := h.b.cell 4 (by simp)
theorem LB.c5 (h : LB B d s W) : W.cell? ⟨B, 5, none⟩ = some (.string d.sav) := h.b.cell 5 (by simp)
theorem LB.c6 (h : LB B d s W) : W.cell? ⟨B, 6, none⟩ = some (.slice s.a2 d.po.length s.c2) := h.b.cell 6 (by simp)
theorem LB.c7 (h : LB B d s W) : W.cell? ⟨B, 7, none⟩ = some (.slice s.a3 d.fr.length s.c3) := h.b.cell 7 (by simp)
theorem LB.below (h : LB B d s W) (hb : Below W.heap.size W W') : LB B d s W' := ⟨h.b.below hb⟩
theorem lb_new (d : Ln) (s : Sl) (w : World) (T : TypeId) : LB w.heap.size d s (w.alloc (.cells #[.int .i64 d.ino, .int .i64 d.cl, .int .i64 d.un, .string d.rc, .slice s.a1 d.pg.length s.c1, .string d.sav, .slice s.a2 d.po.length s.c2, .slice s.a3 d.fr.length s.c3] T)) := ⟨K0.blk_new (vals d s) w T⟩
end Go.Proofs.YthbcefopbmkppaaGreat.N1
namespace Go.Proofs.YthbcefopbmkppaaGreat.N2
open Go.ChangeShapes Go.WideShapes Go.ChangeAt Go.RowKit
open P1 (ret_bool quiet_bool)
theorem hasRow (a : Option Addr) (c : Nat) (zs : List Int) (x : Int) (w : World) (hbig : zs.length ≤ 281474976710656) (hR : P0.Row w a zs) :
  Calls Tryz.prog 35 #[.slice a zs.length c, .int .i64 x] w fun e w' => e = .returned (.bool (P0.has zs x)) ∧ w' = w := by
 by_cases h0 : zs = []
 ·subst h0
  go_enter Tryz.func35, Tryz.ntmps35
  go_wp2
  go_loop [5] (fun i => i = .int .i64 0) (fun _ => 0)
  case atStart => rfl
  case round =>
   subst hrel
   go_wp2
   go_ret
   exact ⟨rfl, rfl⟩
 ·rcases hR with h | ⟨b, off, rfl, hb, hc⟩
  ·exact absurd h h0
  ·have := P1.l02Has b off zs.length c zs x w (Nat.le_refl _) hbig hc
   rw [List.take_length] at this
   exact this
theorem ascends (a : Option Addr) (c : Nat) (zs : List Int) (w : World) (hbig : zs.length ≤ 281474976710656) (hR : P0.Row w a zs) :
  Calls Tryz.prog 68 #[.slice a zs.length c] w fun e w' => e = .returned (.bool (N0.asc zs)) ∧ ∃ n, w' = w.drewN n := by
 go_enter Tryz.func68, Tryz.ntmps68
 go_wp2
 go_loopw [3] (fun i w' => ∃ k n : Nat, 1 ≤ k ∧ (k ≤ zs.length ∨ k = 1) ∧ N0.to (N0.ascAt zs) k = true ∧ i = .int .i64 k ∧ w' = w.drewN n) (fun i _ => zs.length - (intOf i).toNat)
 case atStart => exact ⟨1, 0, Nat.le_refl _, Or.inr rfl, rfl, rfl, rfl⟩
 case round =>
  obtain ⟨k, n, hk1, hk, hok, rfl, hW⟩ := hrel
  have HW : Hid (∀ m, ∃ m', wr.drewN m = w.drewN m') := fun m => ⟨n + m, by rw [hW, World.drewN_drewN]⟩
  by_cases hlt : k < zs.length
  ·have hR' : P0.Row wr a zs := by rw [hW]; exact hR.drewN n
   obtain ⟨b, off, rfl, hb, hc⟩ := hR'.get hlt
   have x1 := hc k hlt
   have x2 := hc (k - 1) (by omega)
   have hat : N0.ascAt zs k = (decide (k = 0) || decide (zs.getD (k - 1) 0 < zs.getD k 0)) := rfl
   obtain ⟨z, ez⟩ : ∃ z, zs.getD k 0 = z := ⟨_, rfl⟩
   obtain ⟨y, ey⟩ : ∃ y, zs.getD (k - 1) 0 = y := ⟨_, rfl⟩
   rw [ez] at x1 hat
   rw [ey] at x2 hat
   have e1 : (0 : Int) ≤ (k : Int) := by omega
   have e2 : (k : Int) < (zs.length : Int) := by omega
   have e3 : (0 : Int) ≤ (k : Int) - 1 := by omega
   have e4 : (k : Int) - 1 < (zs.length : Int) := by omega
   have e5 : ((k : Int) - 1).toNat = k - 1 := by omega
   by_cases h : z ≤ y
   ·have HR : Hid (N0.asc zs = false) := N0.to_bad hlt (by rw [hat, decide_eq_false (by omega), decide_eq_false (by omega)]; rfl)
    clear hat hok ez ey hc hR hR' hW
    go_wp2
    go_quiet (fail)
    go_wp2
    go_ret
    exact ⟨ret_bool HR.out.symm, HW.out _⟩
   ·have h' : decide (z ≤ y) = false := by simpa using h
    have HO : Hid (N0.to (N0.ascAt zs) (k + 1) = true) := N0.to_step hok (by rw [hat, decide_eq_true (show y < z by omega), Bool.or_true])
    clear hat hok ez ey hc hR hR' hW
    go_wp2
    go_quiet (fail)
    go_wp2
    obtain ⟨m', hm'⟩ := HW.out nq
    go_roundw
    case rel => exact ⟨k + 1, m', by omega, Or.inl (by omega), HO.out, by go_num, hm'⟩
    case measure => simp [intOf]; omega
  ·have HR : Hid (N0.asc zs = true) := by
    show N0.to (N0.ascAt zs) zs.length = true
    exact N0.to_iff.2 fun i hi => N0.to_iff.1 hok i (by omega)
   have HW0 : Hid (wr = w.drewN n) := hW
   have e6 : decide ((k : Int) < (zs.length : Int)) = false := by simp; omega
   clear hok hR hW
   go_wp2
   go_ret
   exact ⟨ret_bool HR.out.symm, n, HW0.out⟩
def eqAt (xs ys : List Int) (i : Nat) : Bool := decide (xs.getD i 0 = ys.getD i 0)
theorem eq_of {xs ys : List Int} (hl : xs.length = ys.length) (h : N0.to (eqAt xs ys) xs.length = true) : xs = ys := by
 apply List.ext_getElem hl
 intro i h1 h2
 have := N0.to_iff.1 h i h1
 simp only [eqAt, decide_eq_true_eq] at this
 rwa [P0.getD_get _ _ h1, P0.getD_get _ _ h2] at this
theorem ne_of {xs ys : List Int} {k : Nat} (hk : ¬ xs.getD k 0 = ys.getD k 0) : ¬ xs = ys := fun e => hk (by rw [e])
theorem equal (a1 a2 : Option Addr) (c1 c2 : Nat) (xs ys : List Int) (w : World) (hb1 : xs.length ≤ 281474976710656) (hb2 : ys.length ≤ 281474976710656) (h1 : P0.Row w a1 xs) (h2 : P0.Row w a2 ys) :
  Calls Tryz.prog 65 #[.slice a1 xs.length c1, .slice a2 ys.length c2] w fun e w' => e = .returned (.bool (decide (xs = ys))) ∧ ∃ n, w' = w.drewN n := by
 by_cases hl : xs.length = ys.length
 ·have hl' : ((xs.length : Int) != (ys.length : Int)) = false := by simp; omega
  go_enter Tryz.func65, Tryz.ntmps65
  go_wp2
  go_loopw [13] (fun i w' => ∃ k n : Nat, k ≤ xs.length ∧ N0.to (eqAt xs ys) k = true ∧ i = .int .i64 k ∧ w' = w.drewN n) (fun i _ => xs.length - (intOf i).toNat)
  case atStart => exact ⟨0, 0, Nat.zero_le _, rfl, rfl, rfl⟩
  case round =>
   obtain ⟨k, n, hk, hok, rfl, hW⟩ := hrel
   have HW : Hid (∀ m, ∃ m', wr.drewN m = w.drewN m') := fun m => ⟨n + m, by rw [hW, World.drewN_drewN]⟩
   by_cases hlt : k < xs.length
   ·have h1' : P0.Row wr a1 xs := by rw [hW]; exact h1.drewN n
    have h2' : P0.Row wr a2 ys := by rw [hW]; exact h2.drewN n
    obtain ⟨b1, off1, rfl, _, hc1⟩ := h1'.get hlt
    obtain ⟨b2, off2, rfl, _, hc2⟩ := h2'.get (by omega : k < ys.length)
    have x1 := hc1 k hlt
    have x2 := hc2 k (by omega)
    have hat : eqAt xs ys k = decide (xs.getD k 0 = ys.getD k 0) := rfl
    have hne : ¬ xs.getD k 0 = ys.getD k 0 → ¬ xs = ys := ne_of
    obtain ⟨z, ez⟩ : ∃ z, xs.getD k 0 = z := ⟨_, rfl⟩
    obtain ⟨y, ey⟩ : ∃ y, ys.getD k 0 = y := ⟨_, rfl⟩
    rw [ez] at x1 hat hne
    rw [ey] at x2 hat hne
    have e1 : (0 : Int) ≤ (k : Int) := by omega
    have e2 : (k : Int) < (xs.length : Int) := by omega
    have e3 : (k : Int) < (ys.length : Int) := by omega
    by_cases h : z = y
    ·have h' : (z != y) = false := by simpa using h
     have HO : Hid (N0.to (eqAt xs ys) (k + 1) = true) := N0.to_step hok (by rw [hat, decide_eq_true h])
     clear hat hok ez ey hc1 hc2 h1 h2 h1' h2' hW h hne hl
     go_wp2
     go_quiet (fail)
     go_wp2
     obtain ⟨m', hm'⟩ := HW.out nq
     go_roundw
     case rel => exact ⟨k + 1, m', by omega, HO.out, by go_num, hm'⟩
     case measure => simp [intOf]; omega
    ·have h' : (z != y) = true := by simpa using h
     have HR : Hid (decide (xs = ys) = false) := decide_eq_false (hne h)
     clear hat hok ez ey hc1 hc2 h1 h2 h1' h2' hW h hne hl
     go_wp2
     go_quiet (fail)
     go_wp2
     go_ret
     exact ⟨ret_bool HR.out.symm, HW.out _⟩
   ·obtain rfl : k = xs.length := by omega
    have HR : Hid (decide (xs = ys) = true) := decide_eq_true (eq_of hl hok)
    have HW0 : Hid (wr = w.drewN n) := hW
    have e9 : decide (xs.length < ys.length) = false := decide_eq_false (by omega)
    clear hok h1 h2 hW hl
    go_wp2
    go_ret
    exact ⟨ret_bool HR.out.symm, n, HW0.out⟩
 ·have hl' : ((xs.length : Int) != (ys.length : Int)) = true := by simp; omega
  have HR : Hid (decide (xs = ys) = false) := decide_eq_false fun e => hl (by rw [e])
  clear hl
  go_enter Tryz.func65, Tryz.ntmps65
  go_wp2
  go_ret
  exact ⟨ret_bool HR.out.symm, 0, rfl⟩
theorem same (a1 a2 : Option Addr) (c1 c2 : Nat) (xs ys : List Int) (w : World) (hb1 : xs.length ≤ 281474976710656) (hb2 : ys.length ≤ 281474976710656) (h1 : P0.Row w a1 xs) (h2 : P0.Row w a2 ys) :
  Calls Tryz.prog 34 #[.slice a1 xs.length c1, .slice a2 ys.length c2] w fun e w' => e = .returned (.bool (decide (xs = ys))) ∧ ∃ n, w' = w.drewN n := by
 by_cases hl : xs.length = ys.length
 ·have hl' : ((xs.length : Int) != (ys.length : Int)) = false := by simp; omega
  go_enter Tryz.func34, Tryz.ntmps34
  go_wp2
  go_loopw [5] (fun i w' => ∃ k n : Nat, k ≤ xs.length ∧ N0.to (eqAt xs ys) k = true ∧ i = .int .i64 k ∧ w' = w.drewN n) (fun i _ => xs.length - (intOf i).toNat)
  case atStart => exact ⟨0, 0, Nat.zero_le _, rfl, rfl, rfl⟩
  case round =>
   obtain ⟨k, n, hk, hok, rfl, hW⟩ := hrel
   have HW : Hid (∀ m, ∃ m', wr.drewN m = w.drewN m') := fun m => ⟨n + m, by rw [hW, World.drewN_drewN]⟩
   by_cases hlt : k < xs.length
   ·have h1' : P0.Row wr a1 xs := by rw [hW]; exact h1.drewN n
    have h2' : P0.Row wr a2 ys := by rw [hW]; exact h2.drewN n
    obtain ⟨b1, off1, rfl, _, hc1⟩ := h1'.get hlt
    obtain ⟨b2, off2, rfl, _, hc2⟩ := h2'.get (by omega : k < ys.length)
    have x1 := hc1 k hlt
    have x2 := hc2 k (by omega)
    have hat : eqAt xs ys k = decide (xs.getD k 0 = ys.getD k 0) := rfl
    have hne : ¬ xs.getD k 0 = ys.getD k 0 → ¬ xs = ys := ne_of
    obtain ⟨z, ez⟩ : ∃ z, xs.getD k 0 = z := ⟨_, rfl⟩
    obtain ⟨y, ey⟩ : ∃ y, ys.getD k 0 = y := ⟨_, rfl⟩
    rw [ez] at x1 hat hne
    rw [ey] at x2 hat hne
    have e1 : (0 : Int) ≤ (k : Int) := by omega
    have e2 : (k : Int) < (xs.length : Int) := by omega
    have e3 : (k : Int) < (ys.length : Int) := by omega
    by_cases h : z = y
    ·have h' : (z != y) = false := by simpa using h
     have HO : Hid (N0.to (eqAt xs ys) (k + 1) = true) := N0.to_step hok (by rw [hat, decide_eq_true h])
     clear hat hok ez ey hc1 hc2 h1 h2 h1' h2' hW h hne hl
     go_wp2
     go_quiet (fail)
     go_wp2
     obtain ⟨m', hm'⟩ := HW.out nq
     go_roundw
     case rel => exact ⟨k + 1, m', by omega, HO.out, by go_num, hm'⟩
     case measure => simp [intOf]; omega
    ·have h' : (z != y) = true := by simpa using h
     have HR : Hid (decide (xs = ys) = false) := decide_eq_false (hne h)
     clear hat hok ez ey hc1 hc2 h1 h2 h1' h2' hW h hne hl
     go_wp2
     go_quiet (fail)
     go_wp2
     go_ret
     exact ⟨ret_bool HR.out.symm, HW.out _⟩
   ·obtain rfl : k = xs.length := by omega
    have HR : Hid (decide (xs = ys) = true) := decide_eq_true (eq_of hl hok)
    have HW0 : Hid (wr = w.drewN n) := hW
    have e9 : decide (xs.length < ys.length) = false := decide_eq_false (by omega)
    clear hok h1 h2 hW hl
    go_wp2
    go_ret
    exact ⟨ret_bool HR.out.symm, n, HW0.out⟩
 ·have hl' : ((xs.length : Int) != (ys.length : Int)) = true := by simp; omega
  have HR : Hid (decide (xs = ys) = false) := decide_eq_false fun e => hl (by rw [e])
  clear hl
  go_enter Tryz.func34, Tryz.ntmps34
  go_wp2
  go_ret
  exact ⟨ret_bool HR.out.symm, 0, rfl⟩
set_option maxHeartbeats 2000000 in
theorem l05Up (a : Option Addr) (c : Nat) (zs : List Int) (x y : Int) (w : World) (hbig : zs.length ≤ 281474976710656) (hR : P0.Row w a zs) :
  Calls Tryz.prog 38 #[.slice a zs.length c, .int .i64 x, .int .i64 y] w fun e w' => e = .returned (.bool (N0.up zs x y)) ∧ ∃ n, w' = w.drewN n := by
 go_enter Tryz.func38, Tryz.ntmps38
 go_wp2
 go_loopw [7] (fun i w' => ∃ k n : Nat, k ≤ zs.length ∧ N0.to (N0.upAt zs x y) k = true ∧ i = .int .i64 k ∧ w' = w.drewN n) (fun i _ => zs.length - (intOf i).toNat)
 case atStart => exact ⟨0, 0, Nat.zero_le _, rfl, rfl, rfl⟩
 case round =>
  obtain ⟨k, n, hk, hok, rfl, hW⟩ := hrel
  have HW : Hid (∀ m, ∃ m', wr.drewN m = w.drewN m') := fun m => ⟨n + m, by rw [hW, World.drewN_drewN]⟩
  by_cases hlt : k < zs.length
  ·have hR' : P0.Row wr a zs := by rw [hW]; exact hR.drewN n
   obtain ⟨b, off, rfl, hb, hc⟩ := hR'.get hlt
   have x1 := hc k hlt
   have hat : N0.upAt zs x y k = (B1.inB (zs.getD k 0) x y && (decide (k = 0) || decide (zs.getD (k - 1) 0 < zs.getD k 0))) := rfl
   have e1 : (0 : Int) ≤ (k : Int) := by omega
   have e2 : (k : Int) < (zs.length : Int) := by omega
   by_cases g0 : k = 0
   ·subst g0
    obtain ⟨z, ez⟩ : ∃ z, zs.getD 0 0 = z := ⟨_, rfl⟩
    rw [ez] at x1 hat
    rw [Nat.add_zero] at x1
    rw [decide_eq_true rfl, Bool.true_or, Bool.and_true] at hat
    cases h1 : B1.inB z x y with
    | true =>
     have HO : Hid (N0.to (N0.upAt zs x y) (0 + 1) = true) := N0.to_step hok (by rw [hat, h1])
     clear hat hok ez hc hR hR' hW
     go_wp2
     go_quiet ((go_at_call 31; exact quiet_bool (B1.l01In_any _ _ _ _) h1))
     go_wp2
     obtain ⟨m', hm'⟩ := HW.out nq
     go_roundw
     case rel => exact ⟨0 + 1, m', by omega, HO.out, by go_num, hm'⟩
     case measure => simp [intOf]; omega
    | false =>
     have HR : Hid (N0.up zs x y = false) := N0.to_bad hlt (by rw [hat, h1])
     clear hat hok ez hc hR hR' hW
     go_wp2
     go_quiet ((go_at_call 31; exact quiet_bool (B1.l01In_any _ _ _ _) h1))
     go_wp2
     go_ret
     exact ⟨ret_bool HR.out.symm, HW.out _⟩
   ·have x2 := hc (k - 1) (by omega)
    obtain ⟨z, ez⟩ : ∃ z, zs.getD k 0 = z := ⟨_, rfl⟩
    obtain ⟨u, eu⟩ : ∃ u, zs.getD (k - 1) 0 = u := ⟨_, rfl⟩
    rw [ez] at x1 hat
    rw [eu] at x2 hat
    rw [decide_eq_false g0, Bool.false_or] at hat
    have e3 : (0 : Int) ≤ (k : Int) - 1 := by omega
    have e4 : (k : Int) - 1 < (zs.length : Int) := by omega
    have e5 : ((k : Int) - 1).toNat = k - 1 := by omega
    have e6 : 0 < k := by omega
    cases h1 : B1.inB z x y with
    | true =>
     by_cases h : z ≤ u
     ·have HR : Hid (N0.up zs x y = false) := N0.to_bad hlt (by rw [hat, h1, decide_eq_false (by omega)]; rfl)
      clear hat hok ez eu hc hR hR' hW
      go_wp2
      go_quiet ((go_at_call 31; exact quiet_bool (B1.l01In_any _ _ _ _) h1))
      go_wp2
      go_ret
      exact ⟨ret_bool HR.out.symm, HW.out _⟩
     ·have h' : decide (z ≤ u) = false := by simpa using h
      have HO : Hid (N0.to (N0.upAt zs x y) (k + 1) = true) := N0.to_step hok (by rw [hat, h1, decide_eq_true (by omega)]; rfl)
      clear hat hok ez eu hc hR hR' hW
      go_wp2
      go_quiet ((go_at_call 31; exact quiet_bool (B1.l01In_any _ _ _ _) h1))
      go_wp2
      obtain ⟨m', hm'⟩ := HW.out nq
      go_roundw
      case rel => exact ⟨k + 1, m', by omega, HO.out, by go_num, hm'⟩
      case measure => simp [intOf]; omega
    | false =>
     have HR : Hid (N0.up zs x y = false) := N0.to_bad hlt (by rw [hat, h1]; rfl)
     clear hat hok ez eu hc hR hR' hW
     go_wp2
     go_quiet ((go_at_call 31; exact quiet_bool (B1.l01In_any _ _ _ _) h1))
     go_wp2
     go_ret
     exact ⟨ret_bool HR.out.symm, HW.out _⟩
  ·obtain rfl : k = zs.length := by omega
   have HR : Hid (N0.up zs x y = true) := hok
   have HW0 : Hid (wr = w.drewN n) := hW
   clear hok hR hW
   go_wp2
   go_ret
   exact ⟨ret_bool HR.out.symm, n, HW0.out⟩
end Go.Proofs.YthbcefopbmkppaaGreat.N2
namespace Go.Proofs.YthbcefopbmkppaaGreat.M0
open Go.ChangeShapes Go.WideShapes Go.ChangeAt Go.RowKit
open I0 (val vals)
open I2 (ints)
theorem grown_refl (w : World) (row : Option Nat) : w.grownBy w row := ⟨rfl, rfl, rfl, Nat.le_refl _, fun _ _ _ => rfl⟩
theorem grown_set {w w1 : World} {g j : Nat} (h : w.grownBy w1 (some g)) (v : Value) : w.grownBy (w1.setCell ⟨g, j, none⟩ v) (some g) := by
 refine ⟨h.os, h.tape, h.output, ?_, fun k hk hr => ?_⟩
 ·simpa using h.size
 ·have hne : k ≠ g := fun e => hr (by rw [e])
  rw [← h.block k hk hr]
  exact Below.heap_setCell w1 ⟨g, j, none⟩ v k hne
end Go.Proofs.YthbcefopbmkppaaGreat.M0
namespace Go.Proofs.YthbcefopbmkppaaGreat.N4
open Go.ChangeShapes Go.WideShapes Go.ChangeAt Go.RowKit
open N0 (Ln)
open N1 (Sl val vals Lists LB lb_new)
open I2 (ints)
abbrev zero8 : List Value := [.int .i64 0, .int .i64 0, .int .i64 0, .string ⟨#[]⟩, .slice none 0 0, .string ⟨#[]⟩, .slice none 0 0, .slice none 0 0]
structure T (w : World) (d : Ln) (s : Sl) (vs : List Value) (W : World) : Prop where
 arg : LB w.heap.size d s W
 res : K0.Blk (w.heap.size + 1) zero8 W
 tmp : K0.Blk (w.heap.size + 2) vs W
 bel : Below w.heap.size w W
variable {w W W' : World} {d : Ln} {s : Sl} {vs : List Value}
theorem T.below (h : T w d s vs W) (hb : Below W.heap.size W W') : T w d s vs W' := ⟨h.arg.below hb, h.res.below hb, h.tmp.below hb, h.bel.trans (hb.mono h.bel.size)⟩
theorem T.set (h : T w d s vs W) (j : Nat) (v : Value) : T w d s (vs.set j v) (W.setCell ⟨w.heap.size + 2, j, none⟩ v) :=
 ⟨⟨h.arg.b.setOther (by omega) j v⟩, h.res.setOther (by omega) j v, h.tmp.set j v, h.bel.setCell (p := ⟨w.heap.size + 2, j, none⟩) (Nat.le_add_right _ _) v⟩
def at3 (d : Ln) (g1 g2 g3 : Nat) : Sl := ⟨some ⟨g1, 0, none⟩, d.pg.length, some ⟨g2, 0, none⟩, d.po.length, some ⟨g3, 0, none⟩, d.fr.length⟩
structure Cp (B : Nat) (d : Ln) (g1 g2 g3 : Nat) (W : World) : Prop where
 h1 : B ≤ g1
 h2 : B ≤ g2
 h3 : B ≤ g3
 k1 : K0.Blk g1 (ints d.pg) W
 k2 : K0.Blk g2 (ints d.po) W
 k3 : K0.Blk g3 (ints d.fr) W
variable {B g1 g2 g3 : Nat}
theorem Cp.below (h : Cp B d g1 g2 g3 W) (hb : Below W.heap.size W W') : Cp B d g1 g2 g3 W' := ⟨h.h1, h.h2, h.h3, h.k1.below hb, h.k2.below hb, h.k3.below hb⟩
theorem Cp.lists (h : Cp B d g1 g2 g3 W) : Lists W d (at3 d g1 g2 g3) := ⟨I2.row_of_blk h.k1, I2.row_of_blk h.k2, I2.row_of_blk h.k3⟩
theorem put8 {B : Nat} {x0 x1 x2 x3 x4 x5 x6 x7 y0 y1 y2 y3 y4 y5 y6 y7 : Value} (h : K0.Blk B [x0, x1, x2, x3, x4, x5, x6, x7] W) :
  K0.Blk B [y0, y1, y2, y3, y4, y5, y6, y7] ((((((((W.setCell ⟨B, 0, none⟩ y0).setCell ⟨B, 1, none⟩ y1).setCell ⟨B, 2, none⟩ y2).setCell ⟨B, 3, none⟩ y3).setCell ⟨B, 4, none⟩ y4).setCell ⟨B, 5, none⟩ y5).setCell ⟨B, 6, none⟩ y6).setCell ⟨B, 7, none⟩ y7) :=
 (((((((h.set 0 y0).set 1 y1).set 2 y2).set 3 y3).set 4 y4).set 5 y5).set 6 y6).set 7 y7
theorem other8 {B B' : Nat} {vs : List Value} (h : K0.Blk B' vs W) (hne : B ≠ B') (y0 y1 y2 y3 y4 y5 y6 y7 : Value) :
  K0.Blk B' vs ((((((((W.setCell ⟨B, 0, none⟩ y0).setCell ⟨B, 1, none⟩ y1).setCell ⟨B, 2, none⟩ y2).setCell ⟨B, 3, none⟩ y3).setCell ⟨B, 4, none⟩ y4).setCell ⟨B, 5, none⟩ y5).setCell ⟨B, 6, none⟩ y6).setCell ⟨B, 7, none⟩ y7) :=
 (((((((h.setOther hne 0 y0).setOther hne 1 y1).setOther hne 2 y2).setOther hne 3 y3).setOther hne 4 y4).setOther hne 5 y5).setOther hne 6 y6).setOther hne 7 y7
theorem bel8 {B b : Nat} (h : Below b w W) (hb : b ≤ B) (y0 y1 y2 y3 y4 y5 y6 y7 : Value) :
  Below b w ((((((((W.setCell ⟨B, 0, none⟩ y0).setCell ⟨B, 1, none⟩ y1).setCell ⟨B, 2, none⟩ y2).setCell ⟨B, 3, none⟩ y3).setCell ⟨B, 4, none⟩ y4).setCell ⟨B, 5, none⟩ y5).setCell ⟨B, 6, none⟩ y6).setCell ⟨B, 7, none⟩ y7) :=
 (((((((h.setCell (p := ⟨B, 0, none⟩) hb y0).setCell (p := ⟨B, 1, none⟩) hb y1).setCell (p := ⟨B, 2, none⟩) hb y2).setCell (p := ⟨B, 3, none⟩) hb y3).setCell (p := ⟨B, 4, none⟩) hb y4).setCell (p := ⟨B, 5, none⟩) hb y5).setCell (p := ⟨B, 6, none⟩) hb y6).setCell (p := ⟨B, 7, none⟩) hb y7
end Go.Proofs.YthbcefopbmkppaaGreat.N4
namespace Go.Proofs.YthbcefopbmkppaaGreat.Q1
open Go.ChangeShapes Go.WideShapes Go.ChangeAt Go.RowKit
open I2 (ints)
open J0 (IBuf Own)
theorem run_append_none {P : Program} (w : World) (t ty e : TypeId) (i : TypeInfo) (ht : P.underlying t = some (.slice e)) (hi : P.info? e = some i) (b : Option Addr) (n cap : Nat) (hle : n ≤ cap) (ax : Option Addr) (cx : Nat) :
  (Builtin.append_ #[t, t] ty #[.slice b n cap, .slice ax 0 cx]).run P w = .ok (.slice b n cap) w := by
 cases b <;> cases ax <;> simp [Builtin.append_, run_underlying ht, sizeOf, typeInfo, hi, Builtin.lenOf, Builtin.firstCells, loadCells, loadCellsFrom, storeCells, hle]
variable {base n cap : Nat} {a : Option Addr} {w W : World} {zs : List Int}
theorem ints_one (xs : List Int) : ∀ u ∈ ints xs, u.oneCell' = true := by
 intro u h
 simp at h
 obtain ⟨z, _, rfl⟩ := h
 rfl
theorem append_rows {ops : Array Oper} {rest : List Oper} {o : Oper} {A : Act} {Q : Exit → Act → World → Prop} (hgd : o.guard = none) (sl x : Operand)
  (ho : o.op = .call { callee := .builtin .append, args := #[sl, x], argTypes := #[24, 24] })
  (hbuf : IBuf base w a n cap zs) (ax : Option Addr) (cx : Nat) (xs : List Int) (hs : A.eval sl = .slice a n cap) (hx : A.eval x = .slice ax xs.length cx) (hR : P0.Row w ax xs) (hlen : n + xs.length ≤ 4194304) (hb : base ≤ w.heap.size)
  (h : ∀ a' cap' w', IBuf base w' a' (n + xs.length) cap' (zs ++ xs) → Below base w w' → wpList Tryz.prog ops Q rest (A.put o.dst (.slice a' (n + xs.length) cap')) w') : wpList Tryz.prog ops Q (o :: rest) A w := by
 obtain ⟨i0, hi, hz0, hz1, hz2⟩ := info_parts I2.info3
 by_cases h0 : xs = []
 ·subst h0
  refine Lib.wpList_append_run _ hgd sl x 24 24 ho _ _ hs hx _ _ (run_append_none w 24 _ 3 i0 Tryz.underlying24 hi a n cap hbuf.fits ax cx) ?_
  exact h a cap w (by rw [List.append_nil]; exact hbuf) (Below.refl _ _)
 ·rcases hR with hR | ⟨b, off, rfl, hb2, hc⟩
  ·exact absurd hR h0
  ·have hm : 0 < xs.length := List.length_pos_iff.2 h0
   refine wpList_append_lies _ hgd sl x 24 ho base 3 i0 (.int .i64 0) 1 8 Tryz.underlying24 hi hz0 hz1 hz2 rfl (by omega) _ n _ hs hbuf.2 ⟨b, off, none⟩ xs.length cx (ints xs) hx (by simp) ?_ (ints_one xs) hm (by unfold maxLen; omega) (by omega) hb _ rfl ?_
   ·intro j u hj
    have hj' : j < xs.length := by
     have := (List.getElem?_eq_some_iff.1 hj).1
     simpa using this
    rw [B0.add_off, hc j hj', P0.getD_get _ _ hj', ← hj]
    simp [hj']
   ·intro g' cap' w' ho' hg' _ _
    refine h (some ⟨g', 0, none⟩) cap' w' ⟨by rw [hbuf.1]; simp, ?_⟩ ?_
    ·rw [show ints (zs ++ xs) = ints zs ++ ints xs by simp]
     exact ho'
    ·exact F0.below_grown (Below.refl _ _) hg' (J0.own_block hbuf) hb
set_option maxHeartbeats 2000000 in
theorem grow (k : Nat) (w : World) (hk : k ≤ 4194304) :
  Calls Tryz.prog 81 #[.slice none 0 0, .int .i64 k] w fun e w' => ∃ a c, e = .returned (.slice a 0 c) ∧ IBuf w.heap.size w' a 0 c [] ∧ Below w.heap.size w w' := by
 by_cases h0 : k = 0
 ·subst h0
  go_enter Tryz.func81, Tryz.ntmps81
  go_wp2
  go_ret
  exact ⟨none, 0, rfl, J0.ibuf_nil _, Below.refl _ _⟩
 ·obtain ⟨i0, hi, hz0, hz1, hz2⟩ := info_parts I2.info3
  have hrz : ∀ ty, (Builtin.append_ #[24, 3] ty #[.slice none 0 0, .int .i64 k]).run Tryz.prog w = .ok (.slice (some ⟨w.heap.size, 0, none⟩) (0 + k) (grownCap w (0 + k) 0 3)) (w.drew.alloc (.cells ((#[] : Array Value) ++ Builtin.zeroCells (Value.int .i64 0).cells k ++ Builtin.zeroCells (Value.int .i64 0).cells (grownCap w (0 + k) 0 3 - (0 + k))) 3)) := fun ty =>
   Lib.run_append_grow_zeros w 24 3 ty 3 i0 (.int .i64 0) .i64 .i64 Tryz.underlying24 Tryz.underlying3 hi hz0 none 0 0 [] (run_firstCells_none w.drew i0.size 0 0 0) k (by omega) (by omega) (by omega) (by omega) (by rw [hz2]; omega) (by rw [hz2, Builtin.nextslicecap, if_pos (by omega)]; omega)
  have hG := grownCap_ge w (0 + k) 0 3
  have hM := grownCap_le_maxLen w (0 + k) 0 3 (by unfold maxLen; omega)
  have hgt : (0 : Int) < (k : Int) := by omega
  have hnk : 0 < k := by omega
  obtain ⟨C, hC⟩ : ∃ C : Array Value, C = (#[] : Array Value) ++ Builtin.zeroCells (Value.int .i64 0).cells k ++ Builtin.zeroCells (Value.int .i64 0).cells (grownCap w (0 + k) 0 3 - (0 + k)) := ⟨_, rfl⟩
  rw [← hC] at hrz
  rw [Nat.zero_add] at hC hrz hG hM
  have hsz : C.size = grownCap w k 0 3 := by
   rw [hC]
   simp [Builtin.zeroCells, Value.cells]
   omega
  obtain ⟨G, hg⟩ : ∃ G, grownCap w k 0 3 = G := ⟨_, rfl⟩
  rw [hg] at hrz hG hM hsz
  have hbuf : IBuf w.heap.size (w.drew.alloc (.cells C 3)) (some ⟨w.heap.size, 0, none⟩) 0 G [] := ⟨rfl, World.ownsRow_made w.drew C G (Nat.le_refl _) hM (by omega)⟩
  have hbel : Below w.heap.size w (w.drew.alloc (.cells C 3)) := (Below.refl _ w).drew.alloc (Nat.le_refl _) _
  have hM' : G ≤ 9223372036854775807 := hM
  have hGk : k ≤ G := by omega
  clear hC hsz hg hM hi hz0 hz1 hz2
  go_enter Tryz.func81, Tryz.ntmps81
  go_wp2_with (at_builtin; refine Lib.wpList_append_run _ rfl _ _ _ _ rfl _ _ rfl rfl _ _ (hrz _) ?_)
  all_goals
   go_ret
   exact ⟨_, _, rfl, hbuf, hbel⟩
def pre (xs zs : List Int) (k : Nat) : List Int := if k = 0 then [] else if k = 1 then xs else zs
set_option maxHeartbeats 4000000 in
theorem concat0 (B : Nat) (a1 a2 : Option Addr) (c1 c2 : Nat) (xs ys zs : List Int) (hzs : zs = xs ++ ys) (w : World) (h1 : w.cell? ⟨B, 0, none⟩ = some (.slice a1 xs.length c1)) (h2 : w.cell? ⟨B, 1, none⟩ = some (.slice a2 ys.length c2)) (hB : B < w.heap.size)
  (R1 : P0.Row w a1 xs) (R2 : P0.Row w a2 ys) (hx : xs.length ≤ 1048576) (hy : ys.length ≤ 1048576) :
  Calls Tryz.prog 70 #[.slice (some ⟨B, 0, none⟩) 2 2] w fun e w' => ∃ a c, e = .returned (.slice a zs.length c) ∧ J0.Own w.heap.size w' a zs ∧ zs.length ≤ c ∧ Below w.heap.size w w' := by
 have HL : Hid (zs.length = xs.length + ys.length) := by rw [hzs]; exact List.length_append
 have HZ : Hid (xs ++ ys = zs) := hzs.symm
 have hzl : zs.length ≤ 4194304 := by rw [HL.out]; omega
 clear hzs
 go_enter Tryz.func70, Tryz.ntmps70
 go_wp2
 go_loop [3, 11] (fun v i => ∃ k : Nat, k ≤ 2 ∧ i = .int .i64 k ∧ v = .int .i64 ((pre xs zs k).length : Int)) (fun _ i => 2 - (intOf i).toNat)
 case atStart => exact ⟨0, Nat.zero_le _, rfl, rfl⟩
 case round =>
  obtain ⟨k, hk, rfl, rfl⟩ := hrel
  have hk' : k = 0 ∨ k = 1 ∨ k = 2 := by omega
  rcases hk' with rfl | rfl | rfl
  ·have e0 : (pre xs zs 0).length = 0 := rfl
   rw [e0]
   have e1 : ¬ ((xs.length : Int) < 0) := by omega
   go_wp2
   go_round
   case rel => exact ⟨1, by omega, by go_num, rfl⟩
   case measure => simp [intOf]
  ·have e0 : (pre xs zs 1).length = xs.length := rfl
   rw [e0]
   have e1 : ¬ ((xs.length : Int) + (ys.length : Int) < 0) := by omega
   go_wp2
   go_round
   case rel => exact ⟨2, by omega, by go_num, by show _ = Value.int .i64 ((zs.length : Nat) : Int); rw [HL.out]; go_num⟩
   case measure => simp [intOf]
  ·have e0 : (pre xs zs 2).length = zs.length := rfl
   rw [e0]
   have hgr := grow zs.length w (by omega)
   go_wp2_with (go_at_call 81; refine hgr.mono ?_; rintro e w1 ⟨a, c, rfl, hbuf, hbel⟩)
   clear hgr
   go_loopw [6, 27] (fun v i w' => ∃ (k c : Nat) (a : Option Addr), k ≤ 2 ∧ i = .int .i64 k ∧ v = .slice a (pre xs zs k).length c ∧ IBuf w.heap.size w' a (pre xs zs k).length c (pre xs zs k) ∧ Below w.heap.size w w') (fun _ i _ => 2 - (intOf i).toNat)
   case atStart => exact ⟨0, c, a, Nat.zero_le _, rfl, rfl, hbuf, hbel⟩
   case round =>
    obtain ⟨k, c', a', hk, rfl, rfl, hbuf', hbel'⟩ := hrel
    clear hbuf hbel
    have x1 := (hbel'.cell (p := ⟨B, 0, none⟩) hB).trans h1
    have x2 := (hbel'.cell (p := ⟨B, 1, none⟩) hB).trans h2
    have r1 := R1.below hbel'
    have r2 := R2.below hbel'
    have hk' : k = 0 ∨ k = 1 ∨ k = 2 := by omega
    rcases hk' with rfl | rfl | rfl
    ·have hb0 : IBuf w.heap.size wr a' 0 c' [] := hbuf'
     have e0 : (pre xs zs 0).length = 0 := rfl
     rw [e0]
     clear hbuf' h1 h2 R1 R2
     go_wp2_with (at_builtin; refine append_rows rfl (.tmp 31) (.tmp 32) rfl hb0 a1 c1 xs rfl rfl r1 (by omega) hbel'.size ?_; intro a3 c3 w3 b3 l3)
     go_roundw
     case rel => exact ⟨1, c3, a3, by omega, by go_num, rfl, by rw [Nat.zero_add] at b3; exact b3, hbel'.trans l3⟩
     case measure => simp [intOf]
    ·have hb0 : IBuf w.heap.size wr a' xs.length c' xs := hbuf'
     have e0 : (pre xs zs 1).length = xs.length := rfl
     rw [e0]
     clear hbuf' h1 h2 R1 R2
     go_wp2_with (at_builtin; refine append_rows rfl (.tmp 31) (.tmp 32) rfl hb0 a2 c2 ys rfl rfl r2 (by omega) hbel'.size ?_; intro a3 c3 w3 b3 l3)
     go_roundw
     case rel => exact ⟨2, c3, a3, by omega, by go_num, by rw [← HL.out]; rfl, by rw [← HL.out, HZ.out] at b3; exact b3, hbel'.trans l3⟩
     case measure => simp [intOf]
    ·have hb0 : IBuf w.heap.size wr a' zs.length c' zs := hbuf'
     have e0 : (pre xs zs 2).length = zs.length := rfl
     rw [e0]
     clear hbuf' h1 h2 R1 R2
     go_wp2
     go_ret
     exact ⟨a', c', rfl, hb0.own, hb0.fits, hbel'⟩
theorem concat (B : Nat) (a1 a2 : Option Addr) (c1 c2 : Nat) (xs ys : List Int) (w : World) (h1 : w.cell? ⟨B, 0, none⟩ = some (.slice a1 xs.length c1)) (h2 : w.cell? ⟨B, 1, none⟩ = some (.slice a2 ys.length c2)) (hB : B < w.heap.size)
  (R1 : P0.Row w a1 xs) (R2 : P0.Row w a2 ys) (hx : xs.length ≤ 1048576) (hy : ys.length ≤ 1048576) :
  Calls Tryz.prog 70 #[.slice (some ⟨B, 0, none⟩) 2 2] w fun e w' => ∃ a c, e = .returned (.slice a (xs ++ ys).length c) ∧ J0.Own w.heap.size w' a (xs ++ ys) ∧ (xs ++ ys).length ≤ c ∧ Below w.heap.size w w' :=
 concat0 B a1 a2 c1 c2 xs ys (xs ++ ys) rfl w h1 h2 hB R1 R2 hx hy
end Go.Proofs.YthbcefopbmkppaaGreat.Q1
