/- Joined texts: plain facts and contracts. -/
import Derived.Test.YtljnkicgahepfaaGreatDoorJlH
import Derived.Deep.RegionHeld3
import Derived.Laws.MakeOwn
import Derived.Test.YtljnkicgahepfaaGreatDoorJlF
import Derived.Lib.AppendZerosOnto
set_option linter.unusedVariables false
set_option linter.unusedSimpArgs false
set_option maxRecDepth 10000
namespace Go.Proofs.YtljnkicgahepfaaGreatDoor.Z2
open Go.ChangeShapes Go.WideShapes Go.ChangeAt Go.RowKit
open N0 (Ln)
open N1 (Sl val vals Lists FitM Fit LB lb_new)
open N3 (total)
open N4 (at3 Cp)
open Z0 (dat Row Lns Subs At Kp kval kvals FitK)
open Z1 (tot small tot_one)
abbrev zero8 : Array Value := #[.int .i64 0, .int .i64 0, .int .i64 0, .string ⟨#[]⟩, .slice none 0 0, .string ⟨#[]⟩, .slice none 0 0, .slice none 0 0]
theorem infoL : (Tryz.prog.info? 66).map (fun i => (i.zero, i.size, i.bytes)) = some (some (.agg zero8), 8, 128) := by kernel_rfl
theorem make_loans (n : Nat) (hn : n ≤ 1048576) : ∃ C : Array Value, C.size = n * 8 ∧ ∀ W : World, (Instr.makeSlice 26 (.int .i64 (n : Int)) (.int .i64 (n : Int))).run Tryz.prog W = .ok (.slice (some ⟨W.heap.size, 0, none⟩) n n) (W.alloc (.cells C 66)) := by
 obtain ⟨i0, hi, hz0, hz1, hz2⟩ := info_parts infoL
 refine ⟨madeCells (Value.agg zero8).cells (n * i0.size), by rw [size_madeCells, hz1], fun W => ?_⟩
 have h := run_make (P := Tryz.prog) W 26 66 i0 (.agg zero8) Tryz.underlying26 hi hz0 .i64 .i64 (n : Int) (n : Int) (by omega) (by omega) (by rw [hz2]; omega) (by omega)
 rw [show ((n : Int)).toNat = n by omega] at h
 exact h
def LAt (L : List Value) (o : Nat) (d : Ln) (s : Sl) : Prop :=
 L[o]? = some (.int .i64 d.ino) ∧ L[o + 1]? = some (.int .i64 d.cl) ∧ L[o + 2]? = some (.int .i64 d.un) ∧ L[o + 3]? = some (.string d.rc) ∧ L[o + 4]? = some (.slice s.a1 d.pg.length s.c1) ∧ L[o + 5]? = some (.string d.sav) ∧ L[o + 6]? = some (.slice s.a2 d.po.length s.c2) ∧ L[o + 7]? = some (.slice s.a3 d.fr.length s.c3)
theorem blk_get {B : Nat} {L : List Value} {W : World} (h : K0.Blk B L W) {x : Nat} {v : Value} (hx : L[x]? = some v) : W.cell? ⟨B, x, none⟩ = some v := by
 obtain ⟨hl, he⟩ := List.getElem?_eq_some_iff.1 hx
 rw [h.cell x hl, he]
theorem at_of {B : Nat} {L : List Value} {W : World} {o : Nat} {d : Ln} {s : Sl} (h : K0.Blk B L W) (hl : LAt L o d s) : At W B o d s := by
 obtain ⟨h0, h1, h2, h3, h4, h5, h6, h7⟩ := hl
 exact ⟨blk_get h h0, blk_get h h1, blk_get h h2, blk_get h h3, blk_get h h4, blk_get h h5, blk_get h h6, blk_get h h7⟩
def put (L : List Value) (o : Nat) (d : Ln) (s : Sl) : List Value := ((((((((L.set o (.int .i64 d.ino)).set (o + 1) (.int .i64 d.cl)).set (o + 2) (.int .i64 d.un)).set (o + 3) (.string d.rc)).set (o + 4) (.slice s.a1 d.pg.length s.c1)).set (o + 5) (.string d.sav)).set (o + 6) (.slice s.a2 d.po.length s.c2)).set (o + 7) (.slice s.a3 d.fr.length s.c3))
theorem put_len (L : List Value) (o : Nat) (d : Ln) (s : Sl) : (put L o d s).length = L.length := by simp [put]
theorem put_get (L : List Value) (o : Nat) (d : Ln) (s : Sl) (h : o + 7 < L.length) : LAt (put L o d s) o d s := by
 unfold LAt put
 refine ⟨?_, ?_, ?_, ?_, ?_, ?_, ?_, ?_⟩
 all_goals
  simp [List.getElem?_set]
  try omega
theorem put_other {L : List Value} {o x : Nat} {d : Ln} {s : Sl} (h : x < o ∨ o + 7 < x) : (put L o d s)[x]? = L[x]? := by
 unfold put
 repeat rw [List.getElem?_set_ne (by omega)]
theorem lat_other {L : List Value} {o x : Nat} {d e : Ln} {s t : Sl} (hx : x + 7 < o) (h : LAt L x e t) : LAt (put L o d s) x e t := by
 unfold LAt at h ⊢
 obtain ⟨h0, h1, h2, h3, h4, h5, h6, h7⟩ := h
 exact ⟨(put_other (by omega)).trans h0, (put_other (by omega)).trans h1, (put_other (by omega)).trans h2, (put_other (by omega)).trans h3, (put_other (by omega)).trans h4, (put_other (by omega)).trans h5, (put_other (by omega)).trans h6, (put_other (by omega)).trans h7⟩
def setL (W : World) (B o : Nat) (d : Ln) (s : Sl) : World := ((((((((W.setCell ⟨B, o, none⟩ (.int .i64 d.ino)).setCell ⟨B, o + 1, none⟩ (.int .i64 d.cl)).setCell ⟨B, o + 2, none⟩ (.int .i64 d.un)).setCell ⟨B, o + 3, none⟩ (.string d.rc)).setCell ⟨B, o + 4, none⟩ (.slice s.a1 d.pg.length s.c1)).setCell ⟨B, o + 5, none⟩ (.string d.sav)).setCell ⟨B, o + 6, none⟩ (.slice s.a2 d.po.length s.c2)).setCell ⟨B, o + 7, none⟩ (.slice s.a3 d.fr.length s.c3))
theorem blk_setL {B o : Nat} {L : List Value} {W : World} {d : Ln} {s : Sl} (h : K0.Blk B L W) : K0.Blk B (put L o d s) (setL W B o d s) :=
 (((((((h.set _ _).set _ _).set _ _).set _ _).set _ _).set _ _).set _ _).set _ _
theorem blk_otherL {B B' o : Nat} {L : List Value} {W : World} {d : Ln} {s : Sl} (h : K0.Blk B' L W) (hne : B ≠ B') : K0.Blk B' L (setL W B o d s) :=
 (((((((h.setOther hne _ _).setOther hne _ _).setOther hne _ _).setOther hne _ _).setOther hne _ _).setOther hne _ _).setOther hne _ _).setOther hne _ _
theorem bel_setL {B o b : Nat} {w W : World} {d : Ln} {s : Sl} (h : Below b w W) (hb : b ≤ B) : Below b w (setL W B o d s) :=
 (((((((h.setCell (p := ⟨B, o, none⟩) hb _).setCell (p := ⟨B, o + 1, none⟩) hb _).setCell (p := ⟨B, o + 2, none⟩) hb _).setCell (p := ⟨B, o + 3, none⟩) hb _).setCell (p := ⟨B, o + 4, none⟩) hb _).setCell (p := ⟨B, o + 5, none⟩) hb _).setCell (p := ⟨B, o + 6, none⟩) hb _).setCell (p := ⟨B, o + 7, none⟩) hb _
theorem cp_setL {B o b g1 g2 g3 : Nat} {W : World} {d e : Ln} {s : Sl} (h : Cp b e g1 g2 g3 W) (hb : B < b) : Cp b e g1 g2 g3 (setL W B o d s) := by
 have n1 := h.h1
 have n2 := h.h2
 have n3 := h.h3
 exact ⟨h.h1, h.h2, h.h3, blk_otherL h.k1 (by omega), blk_otherL h.k2 (by omega), blk_otherL h.k3 (by omega)⟩
structure Pl where
 g1 : Nat
 g2 : Nat
 g3 : Nat
def pls (ds : List Ln) (P : Nat → Pl) (j : Nat) : Sl := at3 (dat ds j) (P j).g1 (P j).g2 (P j).g3
structure Mk (g b n : Nat) (ds : List Ln) (P : Nat → Pl) (k : Nat) (L : List Value) (W : World) : Prop where
 len : L.length = n * 8
 blk : K0.Blk g L W
 done : ∀ j, j < k → LAt L (j * 8) (dat ds j) (pls ds P j)
 sub : ∀ j, j < k → Cp b (dat ds j) (P j).g1 (P j).g2 (P j).g3 W
variable {g b n k : Nat} {ds : List Ln} {P : Nat → Pl} {L : List Value} {w W W' : World}
theorem Mk.below (h : Mk g b n ds P k L W) (hb : Below W.heap.size W W') : Mk g b n ds P k L W' := ⟨h.len, h.blk.below hb, h.done, fun j hj => (h.sub j hj).below hb⟩
theorem Mk.step (h : Mk g b n ds P k L W) (hk : k < n) (hg : g < b) {q : Pl} (hc : Cp b (dat ds k) q.g1 q.g2 q.g3 W) :
  Mk g b n ds (fun j => if j = k then q else P j) (k + 1) (put L (k * 8) (dat ds k) (at3 (dat ds k) q.g1 q.g2 q.g3)) (setL W g (k * 8) (dat ds k) (at3 (dat ds k) q.g1 q.g2 q.g3)) := by
 have hl := h.len
 refine ⟨by rw [put_len, hl], blk_setL h.blk, fun j hj => ?_, fun j hj => ?_⟩
 ·by_cases e : j = k
  ·subst e
   have := put_get L (j * 8) (dat ds j) (at3 (dat ds j) q.g1 q.g2 q.g3) (by omega)
   simpa [pls] using this
  ·have hd := h.done j (by omega)
   have e2 : pls ds (fun j => if j = k then q else P j) j = pls ds P j := by simp [pls, e]
   rw [e2]
   exact lat_other (by omega) hd
 ·by_cases e : j = k
  ·subst e
   have := cp_setL (B := g) (o := j * 8) (d := dat ds j) (s := at3 (dat ds j) q.g1 q.g2 q.g3) hc hg
   simpa using this
  ·have := cp_setL (B := g) (o := k * 8) (d := dat ds k) (s := at3 (dat ds k) q.g1 q.g2 q.g3) (h.sub j (by omega)) hg
   simpa [e] using this
structure Cps (g b : Nat) (ds : List Ln) (P : Nat → Pl) (W : World) : Prop where
 ex : ∃ L : List Value, Mk g b ds.length ds P ds.length L W
 lt : g < b
theorem Cps.below (h : Cps g b ds P W) (hb : Below W.heap.size W W') : Cps g b ds P W' := by
 obtain ⟨L, hL⟩ := h.ex
 exact ⟨⟨L, hL.below hb⟩, h.lt⟩
theorem Cps.rows (h : Cps g b ds P W) : Lns W (some ⟨g, 0, none⟩) ds (pls ds P) := by
 obtain ⟨L, hL⟩ := h.ex
 refine ⟨Or.inr ⟨g, 0, rfl, hL.blk.lt, fun j hj => ?_⟩, fun j hj => (hL.sub j hj).lists⟩
 rw [Nat.zero_add]
 exact at_of hL.blk (hL.done j hj)
set_option maxHeartbeats 4000000 in
theorem toLoanS (a : Option Addr) (c : Nat) (ds : List Ln) (ss : Nat → Sl) (w : World) (hs : ds.length + tot ds ds.length ≤ 1048576) (hR : Lns w a ds ss) :
  Calls Tryz.prog 78 #[.slice a ds.length c] w fun e w' => ∃ P, e = .returned (.slice (some ⟨w.heap.size, 0, none⟩) ds.length ds.length) ∧ Cps w.heap.size (w.heap.size + 1) ds P w' ∧ Below w.heap.size w w' := by
 have hn : ds.length ≤ 1048576 := by omega
 obtain ⟨C, hC, hmk⟩ := make_loans ds.length (by omega)
 have hmk0 := hmk w
 have m0 : Mk w.heap.size (w.heap.size + 1) ds.length ds (fun _ => ⟨0, 0, 0⟩) 0 C.toList (w.alloc (.cells C 66)) := ⟨by rw [Array.length_toList, hC], by have := K0.blk_new C.toList w 66; rwa [Array.toArray_toList] at this, fun j hj => absurd hj (Nat.not_lt_zero _), fun j hj => absurd hj (Nat.not_lt_zero _)⟩
 have l0 := K0.below_new w (.cells C 66)
 obtain ⟨W0, hW0⟩ : ∃ W0, w.alloc (.cells C 66) = W0 := ⟨_, rfl⟩
 rw [hW0] at m0 l0 hmk0
 clear hmk hW0
 go_enter Tryz.func78, Tryz.ntmps78
 go_wp2
 go_loopw [4] (fun i w' => ∃ (k : Nat) (P : Nat → Pl) (L : List Value), k ≤ ds.length ∧ i = .int .i64 k ∧ Mk w.heap.size (w.heap.size + 1) ds.length ds P k L w' ∧ Below w.heap.size w w') (fun i _ => ds.length - (intOf i).toNat)
 case atStart => exact ⟨0, _, _, Nat.zero_le _, rfl, m0, l0⟩
 case round =>
  obtain ⟨k, P, L, hk, rfl, hmk, hbel⟩ := hrel
  clear m0 l0 hmk0
  by_cases hlt : k < ds.length
  ·have ls := (hR.sub.below hbel) k hlt
   have hz := tot_one hlt
   obtain ⟨b, off, rfl, hlt0, hc⟩ := (hR.row.below hbel).get hlt
   obtain ⟨y0, y1, y2, y3, y4, y5, y6, y7⟩ := hc k hlt
   have HS : Hid (∀ q W, Cp (w.heap.size + 1) (dat ds k) q.g1 q.g2 q.g3 W → Mk w.heap.size (w.heap.size + 1) ds.length ds P k L W → Mk w.heap.size (w.heap.size + 1) ds.length ds (fun j => if j = k then q else P j) (k + 1) (put L (k * 8) (dat ds k) (at3 (dat ds k) q.g1 q.g2 q.g3)) (setL W w.heap.size (k * 8) (dat ds k) (at3 (dat ds k) q.g1 q.g2 q.g3))) := fun q W h1 h2 => h2.step hlt (Nat.lt_succ_self _) h1
   obtain ⟨d, ed⟩ : ∃ d, dat ds k = d := ⟨_, rfl⟩
   obtain ⟨s, es⟩ : ∃ s, ss k = s := ⟨_, rfl⟩
   rw [ed, es] at ls
   rw [ed] at y0 y1 y2 y3 y4 y5 y6 y7 hz HS
   rw [es] at y4 y6 y7
   obtain ⟨z1, z2, z3, -, -⟩ := N12.sizes (d := d) (by omega)
   have e1 : (0 : Int) ≤ (k : Int) := by omega
   have e2 : (k : Int) < (ds.length : Int) := by omega
   have hB := hbel.size
   have hbs := hmk.blk.lt
   have hLl := hmk.len
   clear ed es hc hR hs
   go_wp2_with (go_at_call 147; refine (N4.toLoan d s _ z1 z2 z3 ls).mono ?_; rintro e w1 ⟨g1, g2, g3, rfl, cp, b1⟩; have mk1 := hmk.below b1; have m1 := mk1.blk; have cp1 := N12.cp_mono (b' := w.heap.size + 1) cp hbs; obtain ⟨x0, q0⟩ : ∃ x, w1.cell? ⟨w.heap.size, k * 8, none⟩ = some x := ⟨_, m1.cell (k * 8) (by omega)⟩; have f0 := m1.free (k * 8) (by omega); obtain ⟨x1, q1⟩ : ∃ x, w1.cell? ⟨w.heap.size, k * 8 + 1, none⟩ = some x := ⟨_, m1.cell (k * 8 + 1) (by omega)⟩; have f1 := m1.free (k * 8 + 1) (by omega); obtain ⟨x2, q2⟩ : ∃ x, w1.cell? ⟨w.heap.size, k * 8 + 2, none⟩ = some x := ⟨_, m1.cell (k * 8 + 2) (by omega)⟩; have f2 := m1.free (k * 8 + 2) (by omega); obtain ⟨x3, q3⟩ : ∃ x, w1.cell? ⟨w.heap.size, k * 8 + 3, none⟩ = some x := ⟨_, m1.cell (k * 8 + 3) (by omega)⟩; have f3 := m1.free (k * 8 + 3) (by omega); obtain ⟨x4, q4⟩ : ∃ x, w1.cell? ⟨w.heap.size, k * 8 + 4, none⟩ = some x := ⟨_, m1.cell (k * 8 + 4) (by omega)⟩; have f4 := m1.free (k * 8 + 4) (by omega); obtain ⟨x5, q5⟩ : ∃ x, w1.cell? ⟨w.heap.size, k * 8 + 5, none⟩ = some x := ⟨_, m1.cell (k * 8 + 5) (by omega)⟩; have f5 := m1.free (k * 8 + 5) (by omega); obtain ⟨x6, q6⟩ : ∃ x, w1.cell? ⟨w.heap.size, k * 8 + 6, none⟩ = some x := ⟨_, m1.cell (k * 8 + 6) (by omega)⟩; have f6 := m1.free (k * 8 + 6) (by omega); obtain ⟨x7, q7⟩ : ∃ x, w1.cell? ⟨w.heap.size, k * 8 + 7, none⟩ = some x := ⟨_, m1.cell (k * 8 + 7) (by omega)⟩; have f7 := m1.free (k * 8 + 7) (by omega))
   go_roundw
   case rel => exact ⟨k + 1, _, _, by omega, by go_num, HS.out ⟨g1, g2, g3⟩ _ cp1 mk1, bel_setL (hbel.trans (b1.mono hB)) (Nat.le_refl _)⟩
   case measure => simp [intOf]; omega
  ·obtain rfl : k = ds.length := by omega
   have hcp : Cps w.heap.size (w.heap.size + 1) ds P wr := ⟨⟨L, hmk⟩, Nat.lt_succ_self _⟩
   clear hR hmk
   go_wp2
   go_ret
   exact ⟨_, rfl, hcp, hbel⟩
set_option maxHeartbeats 4000000 in
theorem eqLoanS (a1 a2 : Option Addr) (c1 c2 : Nat) (ds : List Ln) (s1 s2 : Nat → Sl) (w : World) (hs : ds.length + tot ds ds.length ≤ 1048576) (h1 : Lns w a1 ds s1) (h2 : Lns w a2 ds s2) :
  Calls Tryz.prog 84 #[.slice a1 ds.length c1, .slice a2 ds.length c2] w fun e w' => e = .returned (.bool true) ∧ Below w.heap.size w w' := by
 have hn : ds.length ≤ 1048576 := by omega
 go_enter Tryz.func84, Tryz.ntmps84
 go_wp2
 go_loopw [5] (fun i w' => ∃ k : Nat, k ≤ ds.length ∧ i = .int .i64 k ∧ Below w.heap.size w w') (fun i _ => ds.length - (intOf i).toNat)
 case atStart => exact ⟨0, Nat.zero_le _, rfl, Below.refl _ _⟩
 case round =>
  obtain ⟨k, hk, rfl, hbel⟩ := hrel
  by_cases hlt : k < ds.length
  ·have ls1 := (h1.sub.below hbel) k hlt
   have ls2 := (h2.sub.below hbel) k hlt
   have hz := tot_one hlt
   obtain ⟨b1, o1, rfl, l1, r1⟩ := (h1.row.below hbel).get hlt
   obtain ⟨b2, o2, rfl, l2, r2⟩ := (h2.row.below hbel).get hlt
   have r1 := r1 k hlt
   have r2 := r2 k hlt
   obtain ⟨d, ed⟩ : ∃ d, dat ds k = d := ⟨_, rfl⟩
   obtain ⟨s, es⟩ : ∃ s, s1 k = s := ⟨_, rfl⟩
   obtain ⟨t, et⟩ : ∃ t, s2 k = t := ⟨_, rfl⟩
   rw [ed, es] at ls1 r1
   rw [ed, et] at ls2 r2
   rw [ed] at hz
   obtain ⟨z1, z2, z3, -, -⟩ := N12.sizes (d := d) (by omega)
   have hp' : d.pg.length ≤ 281474976710656 := by omega
   have ho' : d.po.length ≤ 281474976710656 := by omega
   have hf' : d.fr.length ≤ 281474976710656 := by omega
   have e1 : (0 : Int) ≤ (k : Int) := by omega
   have e2 : (k : Int) < (ds.length : Int) := by omega
   have hB := hbel.size
   have m1 : Lists wr.drew d s := ls1.drew
   have m2 : Lists wr.drew d t := ls2.drew
   have HN : Hid (∀ W, Below wr.drew.heap.size wr.drew W → (W.cell? ⟨b1, o1 + k * 8, none⟩ = some (.int .i64 d.ino) ∧ W.cell? ⟨b1, o1 + k * 8 + 1, none⟩ = some (.int .i64 d.cl) ∧ W.cell? ⟨b1, o1 + k * 8 + 2, none⟩ = some (.int .i64 d.un) ∧ W.cell? ⟨b1, o1 + k * 8 + 3, none⟩ = some (.string d.rc) ∧ W.cell? ⟨b1, o1 + k * 8 + 4, none⟩ = some (.slice s.a1 d.pg.length s.c1) ∧ W.cell? ⟨b1, o1 + k * 8 + 5, none⟩ = some (.string d.sav) ∧ W.cell? ⟨b1, o1 + k * 8 + 6, none⟩ = some (.slice s.a2 d.po.length s.c2) ∧ W.cell? ⟨b1, o1 + k * 8 + 7, none⟩ = some (.slice s.a3 d.fr.length s.c3)) ∧ (W.cell? ⟨b2, o2 + k * 8, none⟩ = some (.int .i64 d.ino) ∧ W.cell? ⟨b2, o2 + k * 8 + 1, none⟩ = some (.int .i64 d.cl) ∧ W.cell? ⟨b2, o2 + k * 8 + 2, none⟩ = some (.int .i64 d.un) ∧ W.cell? ⟨b2, o2 + k * 8 + 3, none⟩ = some (.string d.rc) ∧ W.cell? ⟨b2, o2 + k * 8 + 4, none⟩ = some (.slice t.a1 d.pg.length t.c1) ∧ W.cell? ⟨b2, o2 + k * 8 + 5, none⟩ = some (.string d.sav) ∧ W.cell? ⟨b2, o2 + k * 8 + 6, none⟩ = some (.slice t.a2 d.po.length t.c2) ∧ W.cell? ⟨b2, o2 + k * 8 + 7, none⟩ = some (.slice t.a3 d.fr.length t.c3))) := fun W hb => ⟨r1.below (W := wr.drew) l1 hb, r2.below (W := wr.drew) l2 hb⟩
   have hS0 := HN.out wr.drew (Below.refl _ _)
   clear ed es et r1 r2 h1 h2 hs ls1 ls2 z1 z2 z3
   go_wp2
   go_region_held3 (fun W => (W.cell? ⟨b1, o1 + k * 8, none⟩ = some (.int .i64 d.ino) ∧ W.cell? ⟨b1, o1 + k * 8 + 1, none⟩ = some (.int .i64 d.cl) ∧ W.cell? ⟨b1, o1 + k * 8 + 2, none⟩ = some (.int .i64 d.un) ∧ W.cell? ⟨b1, o1 + k * 8 + 3, none⟩ = some (.string d.rc) ∧ W.cell? ⟨b1, o1 + k * 8 + 4, none⟩ = some (.slice s.a1 d.pg.length s.c1) ∧ W.cell? ⟨b1, o1 + k * 8 + 5, none⟩ = some (.string d.sav) ∧ W.cell? ⟨b1, o1 + k * 8 + 6, none⟩ = some (.slice s.a2 d.po.length s.c2) ∧ W.cell? ⟨b1, o1 + k * 8 + 7, none⟩ = some (.slice s.a3 d.fr.length s.c3)) ∧ (W.cell? ⟨b2, o2 + k * 8, none⟩ = some (.int .i64 d.ino) ∧ W.cell? ⟨b2, o2 + k * 8 + 1, none⟩ = some (.int .i64 d.cl) ∧ W.cell? ⟨b2, o2 + k * 8 + 2, none⟩ = some (.int .i64 d.un) ∧ W.cell? ⟨b2, o2 + k * 8 + 3, none⟩ = some (.string d.rc) ∧ W.cell? ⟨b2, o2 + k * 8 + 4, none⟩ = some (.slice t.a1 d.pg.length t.c1) ∧ W.cell? ⟨b2, o2 + k * 8 + 5, none⟩ = some (.string d.sav) ∧ W.cell? ⟨b2, o2 + k * 8 + 6, none⟩ = some (.slice t.a2 d.po.length t.c2) ∧ W.cell? ⟨b2, o2 + k * 8 + 7, none⟩ = some (.slice t.a3 d.fr.length t.c3))) (assumption) ((go_at_call 157; refine (N3.eqLoan d s t _ hp' ho' hf' m1 m2).mono ?_; rintro e w4 ⟨rfl, b4⟩; have hS4 := HN.out w4 b4))
   all_goals
    go_wp2
    go_roundw
    case rel => exact ⟨k + 1, by omega, by go_num, hbel.trans ((show Below wr.heap.size wr w4 from ⟨b4.os, b4.tape, b4.output, b4.size, b4.block⟩).mono hB)⟩
    case measure => simp [intOf]; omega
  ·clear h1 h2
   go_wp2
   go_ret
   exact ⟨rfl, hbel⟩
end Go.Proofs.YtljnkicgahepfaaGreatDoor.Z2
namespace Go.Proofs.YtljnkicgahepfaaGreatDoor.Z3
open Go.ChangeShapes Go.WideShapes Go.ChangeAt Go.RowKit
open N0 (Ln)
open N1 (Sl Fit)
open Z0 (dat Row Lns Kp kval kvals FitK)
open Z1 (tot small tot_one)
open Z2 (Pl pls Cps Mk)
variable {g b n j B : Nat} {ds : List Ln} {P : Nat → Pl} {L : List Value} {w W W' : World} {k : Kp} {a : Option Addr} {c : Nat} {vs : List Value}
theorem cps_other (h : Cps g b ds P W) (hB : B < g) (j : Nat) (v : Value) : Cps g b ds P (W.setCell ⟨B, j, none⟩ v) := by
 obtain ⟨⟨L, hL⟩, hlt⟩ := h
 refine ⟨⟨L, hL.len, hL.blk.setOther (by omega) j v, hL.done, fun i hi => ?_⟩, hlt⟩
 have hc := hL.sub i hi
 have n1 := hc.h1
 have n2 := hc.h2
 have n3 := hc.h3
 exact ⟨n1, n2, n3, hc.k1.setOther (by omega) j v, hc.k2.setOther (by omega) j v, hc.k3.setOther (by omega) j v⟩
abbrev zero4 : List Value := [.string ⟨#[]⟩, .string ⟨#[]⟩, .slice none 0 0, .int .i64 0]
structure T (w : World) (k : Kp) (a : Option Addr) (c : Nat) (vs : List Value) (W : World) : Prop where
 arg : K0.Blk w.heap.size (kvals k a c) W
 res : K0.Blk (w.heap.size + 1) zero4 W
 tmp : K0.Blk (w.heap.size + 2) vs W
 bel : Below w.heap.size w W
theorem T.below (h : T w k a c vs W) (hb : Below W.heap.size W W') : T w k a c vs W' := ⟨h.arg.below hb, h.res.below hb, h.tmp.below hb, h.bel.trans (hb.mono h.bel.size)⟩
theorem T.set (h : T w k a c vs W) (j : Nat) (v : Value) : T w k a c (vs.set j v) (W.setCell ⟨w.heap.size + 2, j, none⟩ v) :=
 ⟨h.arg.setOther (by omega) j v, h.res.setOther (by omega) j v, h.tmp.set j v, h.bel.setCell (p := ⟨w.heap.size + 2, j, none⟩) (Nat.le_add_right _ _) v⟩
theorem t_new (w : World) (k : Kp) (a : Option Addr) (c : Nat) :
    T w k a c zero4 (((w.alloc (.cells #[.string k.mem, .string k.dur, .slice a k.ds.length c, .int .i64 k.ck] 41)).alloc (.cells #[.string ⟨#[]⟩, .string ⟨#[]⟩, .slice none 0 0, .int .i64 0] 28)).alloc (.cells #[.string ⟨#[]⟩, .string ⟨#[]⟩, .slice none 0 0, .int .i64 0] 28)) :=
  ⟨((K0.blk_new (kvals k a c) w 41).alloc _).alloc _, (K0.blk_at zero4 _ 28 (by simp)).alloc _, K0.blk_at zero4 _ 28 (by simp),
   (((Below.refl _ _).alloc (Nat.le_refl _) _).alloc (by simp) _).alloc (by simp; omega) _⟩
theorem toLoanS' (a : Option Addr) (c : Nat) (ds : List Ln) (ss : Nat → Sl) (w : World) (hs : ds.length + tot ds ds.length ≤ 1048576) (hR : Lns w a ds ss) :
  Calls Tryz.prog 78 #[.slice a ds.length c] w fun e w' => ∃ g P, e = .returned (.slice (some ⟨g, 0, none⟩) ds.length ds.length) ∧ w.heap.size ≤ g ∧ Cps g (g + 1) ds P w' ∧ Below w.heap.size w w' :=
 (Z2.toLoanS a c ds ss w hs hR).mono fun _ _ ⟨P, he, hc, hb⟩ => ⟨_, P, he, Nat.le_refl _, hc, hb⟩
set_option maxHeartbeats 4000000 in
theorem toKeeper (k : Kp) (a : Option Addr) (c : Nat) (ss : Nat → Sl) (w : World) (hs : k.ds.length + tot k.ds k.ds.length ≤ 1048576) (hR : Lns w a k.ds ss) :
  Calls Tryz.prog 20 #[kval k a c] w fun e w' => ∃ g P, e = .returned (kval k (some ⟨g, 0, none⟩) k.ds.length) ∧ w.heap.size ≤ g ∧ Cps g (g + 1) k.ds P w' ∧ Below w.heap.size w w' := by
 have t0 := t_new w k a c
 have HL : Hid (∀ W, Below w.heap.size w W → Lns W a k.ds ss) := fun W hb => hR.below hb
 clear hR
 go_enter Tryz.func20, Tryz.ntmps20
 go_wp2_with (first
  | (go_at_call 77; refine (D1.toDev _ _ _).mono ?_; rintro e w1 ⟨rfl, b1⟩; have t1 := t0.below b1; have c2 := t1.arg.c2; have x0 := t1.tmp.c0; have x1 := t1.tmp.c1; have y0 := t1.tmp.f0; have y1 := t1.tmp.f1; have u1 := (t1.set 0 (.string k.mem)).set 1 (.string k.dur); have r1 := HL.out _ u1.bel)
  | (go_at_call 78; refine (toLoanS' a c k.ds ss _ hs r1).mono ?_; rintro e w2 ⟨g, P, rfl, hg, cp, b2⟩; have t2 := u1.below b2; have c3 := t2.arg.c3; have z0 := t2.tmp.cell 0 (by simp); have z1 := t2.tmp.cell 1 (by simp); have z2 := t2.tmp.cell 2 (by simp); have z3 := t2.tmp.cell 3 (by simp); have y2 := t2.tmp.free 2 (by simp); have y3 := t2.tmp.free 3 (by simp); simp only [List.set_cons_zero, List.set_cons_succ, List.getElem_cons_zero, List.getElem_cons_succ] at z0 z1 z2 z3; have i0 := t2.res.c0; have i1 := t2.res.c1; have i2 := t2.res.c2; have i3 := t2.res.c3; have j0 := t2.res.f0; have j1 := t2.res.f1; have j2 := t2.res.f2; have j3 := t2.res.f3))
 have hg' : w.heap.size + 3 ≤ g := by
  have := u1.tmp.lt
  simp at hg this
  omega
 have u2 := (t2.set 2 (.slice (some ⟨g, 0, none⟩) k.ds.length k.ds.length)).set 3 (.int .i64 k.ck)
 have q := u2.res.put4 (.string k.mem) (.string k.dur) (.slice (some ⟨g, 0, none⟩) k.ds.length k.ds.length) (.int .i64 k.ck)
 have v0 := q.c0
 have v1 := q.c1
 have v2 := q.c2
 have v3 := q.c3
 refine bodyPost_ret (v := kval k (some ⟨g, 0, none⟩) k.ds.length) (by simp [results, Tryz.results20, go_sem, v0, v1, v2, v3]) rfl ⟨g, P, rfl, by omega, ?_, ?_⟩
 ·exact cps_other (cps_other (cps_other (cps_other (cps_other (cps_other cp (by omega) _ _) (by omega) _ _) (by omega) _ _) (by omega) _ _) (by omega) _ _) (by omega) _ _
 ·exact (((u2.bel.setCell (p := ⟨w.heap.size + 1, 0, none⟩) (Nat.le_succ _) _).setCell (p := ⟨w.heap.size + 1, 1, none⟩) (Nat.le_succ _) _).setCell (p := ⟨w.heap.size + 1, 2, none⟩) (Nat.le_succ _) _).setCell (p := ⟨w.heap.size + 1, 3, none⟩) (Nat.le_succ _) _
structure E (w : World) (k : Kp) (a1 a2 : Option Addr) (c1 c2 : Nat) (W : World) : Prop where
 x : K0.Blk w.heap.size (kvals k a1 c1) W
 y : K0.Blk (w.heap.size + 1) (kvals k a2 c2) W
 bel : Below w.heap.size w W
theorem E.below {a1 a2 : Option Addr} {c1 c2 : Nat} (h : E w k a1 a2 c1 c2 W) (hb : Below W.heap.size W W') : E w k a1 a2 c1 c2 W' := ⟨h.x.below hb, h.y.below hb, h.bel.trans (hb.mono h.bel.size)⟩
set_option maxHeartbeats 2000000 in
theorem eqKeeper (k : Kp) (a1 a2 : Option Addr) (c1 c2 : Nat) (s1 s2 : Nat → Sl) (w : World) (hs : k.ds.length + tot k.ds k.ds.length ≤ 1048576) (h1 : Lns w a1 k.ds s1) (h2 : Lns w a2 k.ds s2) :
  Calls Tryz.prog 22 #[kval k a1 c1, kval k a2 c2] w fun e w' => e = .returned (.bool true) ∧ Below w.heap.size w w' := by
 have e0 : E w k a1 a2 c1 c2 ((w.alloc (.cells #[.string k.mem, .string k.dur, .slice a1 k.ds.length c1, .int .i64 k.ck] 28)).alloc (.cells #[.string k.mem, .string k.dur, .slice a2 k.ds.length c2, .int .i64 k.ck] 28)) :=
  ⟨(K0.blk_new (kvals k a1 c1) w 28).alloc _, K0.blk_at (kvals k a2 c2) _ 28 (by simp), ((Below.refl _ _).alloc (Nat.le_refl _) _).alloc (by simp) _⟩
 have HE : Hid (∀ W, Below w.heap.size w W → Calls Tryz.prog 84 #[.slice a1 k.ds.length c1, .slice a2 k.ds.length c2] W fun e w' => e = .returned (.bool true) ∧ Below W.heap.size W w') := fun W hb => Z2.eqLoanS a1 a2 c1 c2 k.ds s1 s2 W hs (h1.below hb) (h2.below hb)
 clear h1 h2
 go_enter Tryz.func22, Tryz.ntmps22
 go_wp2_with (first
  | (go_at_call 83; refine (D1.eqDev _ _ _).mono ?_; rintro e w1 ⟨rfl, b1⟩; have t1 := e0.below b1; have x2 := t1.x.c2; have y2 := t1.y.c2)
  | (go_at_call 84; refine (HE.out _ t1.bel).mono ?_; rintro e w2 ⟨rfl, b2⟩; have t2 := t1.below b2; have x3 := t2.x.c3; have y3 := t2.y.c3))
 go_ret
 exact ⟨rfl, t2.bel⟩
structure A (w : World) (k : Kp) (a : Option Addr) (c : Nat) (ss : Nat → Sl) (W : World) : Prop where
 b : K0.Blk w.heap.size (kvals k a c) W
 l : Lns W a k.ds ss
 bel : Below w.heap.size w W
variable {ss : Nat → Sl}
theorem A.below (h : A w k a c ss W) (hb : Below W.heap.size W W') : A w k a c ss W' := ⟨h.b.below hb, h.l.below hb, h.bel.trans (hb.mono h.bel.size)⟩
theorem A.drew (h : A w k a c ss W) : A w k a c ss W.drew := h.below ((Below.refl _ _).drew)
theorem a_new (w : World) (k : Kp) (a : Option Addr) (c : Nat) (ss : Nat → Sl) (h : Lns w a k.ds ss) : A w k a c ss (w.alloc (.cells #[.string k.mem, .string k.dur, .slice a k.ds.length c, .int .i64 k.ck] 41)) :=
 ⟨K0.blk_new (kvals k a c) w 41, h.below (K0.below_new _ _), K0.below_new _ _⟩
structure U (w : World) (k : Kp) (a : Option Addr) (c : Nat) (ss : Nat → Sl) (g B : Nat) (P : Nat → Pl) (W : World) : Prop where
 t : A w k a c ss W
 n : K0.Blk B (kvals k (some ⟨g, 0, none⟩) k.ds.length) W
 cp : Cps g (g + 1) k.ds P W
theorem U.below (h : U w k a c ss g B P W) (hb : Below W.heap.size W W') : U w k a c ss g B P W' := ⟨h.t.below hb, h.n.below hb, h.cp.below hb⟩
theorem U.drew (h : U w k a c ss g B P W) : U w k a c ss g B P W.drew := h.below ((Below.refl _ _).drew)
theorem u_new (h : A w k a c ss W) (hc : Cps g (g + 1) k.ds P W) :
  U w k a c ss g W.heap.size P (W.alloc (.cells #[.string k.mem, .string k.dur, .slice (some ⟨g, 0, none⟩) k.ds.length k.ds.length, .int .i64 k.ck] 28)) :=
 ⟨h.below (K0.below_new _ _), K0.blk_new (kvals k (some ⟨g, 0, none⟩) k.ds.length) W 28, hc.below (K0.below_new _ _)⟩
theorem fits (hs : tot ds ds.length ≤ 1048576) (j : Nat) (hj : j < ds.length) : Fit (dat ds j) (pls ds P j) ∧ (dat ds j).po.length ≤ 1048576 ∧ (dat ds j).fr.length ≤ 1048576 := by
 have h := tot_one hj
 obtain ⟨z1, z2, z3, -, -⟩ := N12.sizes (d := dat ds j) (by omega)
 exact ⟨N12.fitc (by omega), z2, z3⟩
end Go.Proofs.YtljnkicgahepfaaGreatDoor.Z3
namespace Go.Proofs.YtljnkicgahepfaaGreatDoor.Q1
open Go.ChangeShapes Go.WideShapes Go.ChangeAt Go.RowKit
open I2 (ints)
open J0 (IBuf Own)
theorem run_append_none {P : Program} (w : World) (t ty e : TypeId) (i : TypeInfo) (ht : P.underlying t = some (.slice e)) (hi : P.info? e = some i) (b : Option Addr) (n cap : Nat) (hle : n ≤ cap) (ax : Option Addr) (cx : Nat) :
  (Builtin.append_ #[t, t] ty #[.slice b n cap, .slice ax 0 cx]).run P w = .ok (.slice b n cap) w := by
 cases b <;> cases ax <;> simp [Builtin.append_, run_underlying ht, sizeOf, typeInfo, hi, Builtin.lenOf, Builtin.firstCells, loadCells, loadCellsFrom, storeCells, hle]
variable {base n cap : Nat} {a : Option Addr} {w W : World} {zs : List Int}
theorem ints_one (xs : List Int) : ∀ u ∈ ints xs, u.oneCell' = true := by
 intro u h
 simp at h
 obtain ⟨z, _, rfl⟩ := h
 rfl
theorem append_rows {ops : Array Oper} {rest : List Oper} {o : Oper} {A : Act} {Q : Exit → Act → World → Prop} (hgd : o.guard = none) (sl x : Operand)
  (ho : o.op = .call { callee := .builtin .append, args := #[sl, x], argTypes := #[29, 29] })
  (hbuf : IBuf base w a n cap zs) (ax : Option Addr) (cx : Nat) (xs : List Int) (hs : A.eval sl = .slice a n cap) (hx : A.eval x = .slice ax xs.length cx) (hR : P0.Row w ax xs) (hlen : n + xs.length ≤ 4194304) (hb : base ≤ w.heap.size)
  (h : ∀ a' cap' w', IBuf base w' a' (n + xs.length) cap' (zs ++ xs) → Below base w w' → wpList Tryz.prog ops Q rest (A.put o.dst (.slice a' (n + xs.length) cap')) w') : wpList Tryz.prog ops Q (o :: rest) A w := by
 obtain ⟨i0, hi, hz0, hz1, hz2⟩ := info_parts I2.info3
 by_cases h0 : xs = []
 ·subst h0
  refine Lib.wpList_append_run _ hgd sl x 29 29 ho _ _ hs hx _ _ (run_append_none w 29 _ 3 i0 Tryz.underlying29 hi a n cap hbuf.fits ax cx) ?_
  exact h a cap w (by rw [List.append_nil]; exact hbuf) (Below.refl _ _)
 ·rcases hR with hR | ⟨b, off, rfl, hb2, hc⟩
  ·exact absurd hR h0
  ·have hm : 0 < xs.length := List.length_pos_iff.2 h0
   refine wpList_append_lies _ hgd sl x 29 ho base 3 i0 (.int .i64 0) 1 8 Tryz.underlying29 hi hz0 hz1 hz2 rfl (by omega) _ n _ hs hbuf.2 ⟨b, off, none⟩ xs.length cx (ints xs) hx (by simp) ?_ (ints_one xs) hm (by unfold maxLen; omega) (by omega) hb _ rfl ?_
   ·intro j u hj
    have hj' : j < xs.length := by
     have := (List.getElem?_eq_some_iff.1 hj).1
     simpa using this
    rw [B0.add_off, hc j hj', P0.getD_get _ _ hj', ← hj]
    simp [hj']
   ·intro g' cap' w' ho' hg' _ _
    refine h (some ⟨g', 0, none⟩) cap' w' ⟨by rw [hbuf.1]; simp, ?_⟩ ?_
    ·rw [show ints (zs ++ xs) = ints zs ++ ints xs by simp]
     exact ho'
    ·exact F0.below_grown (Below.refl _ _) hg' (J0.own_block hbuf) hb
set_option maxHeartbeats 2000000 in
theorem grow (k : Nat) (w : World) (hk : k ≤ 4194304) :
  Calls Tryz.prog 130 #[.slice none 0 0, .int .i64 k] w fun e w' => ∃ a c, e = .returned (.slice a 0 c) ∧ IBuf w.heap.size w' a 0 c [] ∧ Below w.heap.size w w' := by
 by_cases h0 : k = 0
 ·subst h0
  go_enter Tryz.func130, Tryz.ntmps130
  go_wp2
  go_ret
  exact ⟨none, 0, rfl, J0.ibuf_nil _, Below.refl _ _⟩
 ·obtain ⟨i0, hi, hz0, hz1, hz2⟩ := info_parts I2.info3
  have hrz : ∀ ty, (Builtin.append_ #[29, 3] ty #[.slice none 0 0, .int .i64 k]).run Tryz.prog w = .ok (.slice (some ⟨w.heap.size, 0, none⟩) (0 + k) (grownCap w (0 + k) 0 3)) (w.drew.alloc (.cells ((#[] : Array Value) ++ Builtin.zeroCells (Value.int .i64 0).cells k ++ Builtin.zeroCells (Value.int .i64 0).cells (grownCap w (0 + k) 0 3 - (0 + k))) 3)) := fun ty =>
   Lib.run_append_grow_zeros w 29 3 ty 3 i0 (.int .i64 0) .i64 .i64 Tryz.underlying29 Tryz.underlying3 hi hz0 none 0 0 [] (run_firstCells_none w.drew i0.size 0 0 0) k (by omega) (by omega) (by omega) (by omega) (by rw [hz2]; omega) (by rw [hz2, Builtin.nextslicecap, if_pos (by omega)]; omega)
  have hG := grownCap_ge w (0 + k) 0 3
  have hM := grownCap_le_maxLen w (0 + k) 0 3 (by unfold maxLen; omega)
  have hgt : (0 : Int) < (k : Int) := by omega
  have hnk : 0 < k := by omega
  obtain ⟨C, hC⟩ : ∃ C : Array Value, C = (#[] : Array Value) ++ Builtin.zeroCells (Value.int .i64 0).cells k ++ Builtin.zeroCells (Value.int .i64 0).cells (grownCap w (0 + k) 0 3 - (0 + k)) := ⟨_, rfl⟩
  rw [← hC] at hrz
  rw [Nat.zero_add] at hC hrz hG hM
  have hsz : C.size = grownCap w k 0 3 := by
   rw [hC]
   simp [Builtin.zeroCells, Value.cells]
   omega
  obtain ⟨G, hg⟩ : ∃ G, grownCap w k 0 3 = G := ⟨_, rfl⟩
  rw [hg] at hrz hG hM hsz
  have hbuf : IBuf w.heap.size (w.drew.alloc (.cells C 3)) (some ⟨w.heap.size, 0, none⟩) 0 G [] := ⟨rfl, World.ownsRow_made w.drew C G (Nat.le_refl _) hM (by omega)⟩
  have hbel : Below w.heap.size w (w.drew.alloc (.cells C 3)) := (Below.refl _ w).drew.alloc (Nat.le_refl _) _
  have hM' : G ≤ 9223372036854775807 := hM
  have hGk : k ≤ G := by omega
  clear hC hsz hg hM hi hz0 hz1 hz2
  go_enter Tryz.func130, Tryz.ntmps130
  go_wp2_with (at_builtin; refine Lib.wpList_append_run _ rfl _ _ _ _ rfl _ _ rfl rfl _ _ (hrz _) ?_)
  all_goals
   go_ret
   exact ⟨_, _, rfl, hbuf, hbel⟩
def pre (xs zs : List Int) (k : Nat) : List Int := if k = 0 then [] else if k = 1 then xs else zs
set_option maxHeartbeats 4000000 in
theorem concat0 (B : Nat) (a1 a2 : Option Addr) (c1 c2 : Nat) (xs ys zs : List Int) (hzs : zs = xs ++ ys) (w : World) (h1 : w.cell? ⟨B, 0, none⟩ = some (.slice a1 xs.length c1)) (h2 : w.cell? ⟨B, 1, none⟩ = some (.slice a2 ys.length c2)) (hB : B < w.heap.size)
  (R1 : P0.Row w a1 xs) (R2 : P0.Row w a2 ys) (hx : xs.length ≤ 1048576) (hy : ys.length ≤ 1048576) :
  Calls Tryz.prog 58 #[.slice (some ⟨B, 0, none⟩) 2 2] w fun e w' => ∃ a c, e = .returned (.slice a zs.length c) ∧ J0.Own w.heap.size w' a zs ∧ zs.length ≤ c ∧ Below w.heap.size w w' := by
 have HL : Hid (zs.length = xs.length + ys.length) := by rw [hzs]; exact List.length_append
 have HZ : Hid (xs ++ ys = zs) := hzs.symm
 have hzl : zs.length ≤ 4194304 := by rw [HL.out]; omega
 clear hzs
 go_enter Tryz.func58, Tryz.ntmps58
 go_wp2
 go_loop [3, 11] (fun v i => ∃ k : Nat, k ≤ 2 ∧ i = .int .i64 k ∧ v = .int .i64 ((pre xs zs k).length : Int)) (fun _ i => 2 - (intOf i).toNat)
 case atStart => exact ⟨0, Nat.zero_le _, rfl, rfl⟩
 case round =>
  obtain ⟨k, hk, rfl, rfl⟩ := hrel
  have hk' : k = 0 ∨ k = 1 ∨ k = 2 := by omega
  rcases hk' with rfl | rfl | rfl
  ·have e0 : (pre xs zs 0).length = 0 := rfl
   rw [e0]
   have e1 : ¬ ((xs.length : Int) < 0) := by omega
   go_wp2
   go_round
   case rel => exact ⟨1, by omega, by go_num, rfl⟩
   case measure => simp [intOf]
  ·have e0 : (pre xs zs 1).length = xs.length := rfl
   rw [e0]
   have e1 : ¬ ((xs.length : Int) + (ys.length : Int) < 0) := by omega
   go_wp2
   go_round
   case rel => exact ⟨2, by omega, by go_num, by show _ = Value.int .i64 ((zs.length : Nat) : Int); rw [HL.out]; go_num⟩
   case measure => simp [intOf]
  ·have e0 : (pre xs zs 2).length = zs.length := rfl
   rw [e0]
   have hgr := grow zs.length w (by omega)
   go_wp2_with (go_at_call 130; refine hgr.mono ?_; rintro e w1 ⟨a, c, rfl, hbuf, hbel⟩)
   clear hgr
   go_loopw [6, 27] (fun v i w' => ∃ (k c : Nat) (a : Option Addr), k ≤ 2 ∧ i = .int .i64 k ∧ v = .slice a (pre xs zs k).length c ∧ IBuf w.heap.size w' a (pre xs zs k).length c (pre xs zs k) ∧ Below w.heap.size w w') (fun _ i _ => 2 - (intOf i).toNat)
   case atStart => exact ⟨0, c, a, Nat.zero_le _, rfl, rfl, hbuf, hbel⟩
   case round =>
    obtain ⟨k, c', a', hk, rfl, rfl, hbuf', hbel'⟩ := hrel
    clear hbuf hbel
    have x1 := (hbel'.cell (p := ⟨B, 0, none⟩) hB).trans h1
    have x2 := (hbel'.cell (p := ⟨B, 1, none⟩) hB).trans h2
    have r1 := R1.below hbel'
    have r2 := R2.below hbel'
    have hk' : k = 0 ∨ k = 1 ∨ k = 2 := by omega
    rcases hk' with rfl | rfl | rfl
    ·have hb0 : IBuf w.heap.size wr a' 0 c' [] := hbuf'
     have e0 : (pre xs zs 0).length = 0 := rfl
     rw [e0]
     clear hbuf' h1 h2 R1 R2
     go_wp2_with (at_builtin; refine append_rows rfl (.tmp 31) (.tmp 32) rfl hb0 a1 c1 xs rfl rfl r1 (by omega) hbel'.size ?_; intro a3 c3 w3 b3 l3)
     go_roundw
     case rel => exact ⟨1, c3, a3, by omega, by go_num, rfl, by rw [Nat.zero_add] at b3; exact b3, hbel'.trans l3⟩
     case measure => simp [intOf]
    ·have hb0 : IBuf w.heap.size wr a' xs.length c' xs := hbuf'
     have e0 : (pre xs zs 1).length = xs.length := rfl
     rw [e0]
     clear hbuf' h1 h2 R1 R2
     go_wp2_with (at_builtin; refine append_rows rfl (.tmp 31) (.tmp 32) rfl hb0 a2 c2 ys rfl rfl r2 (by omega) hbel'.size ?_; intro a3 c3 w3 b3 l3)
     go_roundw
     case rel => exact ⟨2, c3, a3, by omega, by go_num, by rw [← HL.out]; rfl, by rw [← HL.out, HZ.out] at b3; exact b3, hbel'.trans l3⟩
     case measure => simp [intOf]
    ·have hb0 : IBuf w.heap.size wr a' zs.length c' zs := hbuf'
     have e0 : (pre xs zs 2).length = zs.length := rfl
     rw [e0]
     clear hbuf' h1 h2 R1 R2
     go_wp2
     go_ret
     exact ⟨a', c', rfl, hb0.own, hb0.fits, hbel'⟩
theorem concat (B : Nat) (a1 a2 : Option Addr) (c1 c2 : Nat) (xs ys : List Int) (w : World) (h1 : w.cell? ⟨B, 0, none⟩ = some (.slice a1 xs.length c1)) (h2 : w.cell? ⟨B, 1, none⟩ = some (.slice a2 ys.length c2)) (hB : B < w.heap.size)
  (R1 : P0.Row w a1 xs) (R2 : P0.Row w a2 ys) (hx : xs.length ≤ 1048576) (hy : ys.length ≤ 1048576) :
  Calls Tryz.prog 58 #[.slice (some ⟨B, 0, none⟩) 2 2] w fun e w' => ∃ a c, e = .returned (.slice a (xs ++ ys).length c) ∧ J0.Own w.heap.size w' a (xs ++ ys) ∧ (xs ++ ys).length ≤ c ∧ Below w.heap.size w w' :=
 concat0 B a1 a2 c1 c2 xs ys (xs ++ ys) rfl w h1 h2 hB R1 R2 hx hy
end Go.Proofs.YtljnkicgahepfaaGreatDoor.Q1
