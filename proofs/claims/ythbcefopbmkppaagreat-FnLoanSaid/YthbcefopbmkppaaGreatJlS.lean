/- Joined texts: plain facts and contracts. -/
import Derived.Test.YthbcefopbmkppaaGreatJlA
import Derived.Test.YthbcefopbmkppaaGreatJlQ
import Derived.Test.YthbcefopbmkppaaGreatJlR
import Derived.Deep.RegionHeld3
import Derived.Deep.LoopGhost
import Derived.Test.YthbcefopbmkppaaGreatJlH
set_option linter.unusedVariables false
set_option linter.unusedSimpArgs false
set_option maxRecDepth 10000
namespace Go.Proofs.YthbcefopbmkppaaGreat.LN
open Go.ChangeShapes Go.WideShapes Go.ChangeAt Go.RowKit C0
open C1 (pickNew pickTxtNew isInt IsInt below_any bytes_int once_any blk_grown grown_setNew grown_of_below grown_new)
open N0 (Ln)
open N1 (Sl)
open I2 (ints)
open LM (Sm)
variable {w0 w W W' : World} {a ai al : Option Addr} {zs Z : List Int} {c len cap I ci : Nat} {d : Ln} {s : Sl} {k o t : Int}
theorem ow_grown {lo hi : Nat} (h : LO.Ow lo hi W a zs) (hg : W.grownBy W' (some c)) (hc : c < lo) : LO.Ow lo hi W' a zs := h.imp id fun ⟨g, e, h1, h2, k⟩ => ⟨g, e, h1, h2, blk_grown k hg (by omega)⟩
theorem own_grown {base : Nat} (h : J0.Own base W a zs) (hg : W.grownBy W' (some c)) (hc : c < base) : J0.Own base W' a zs := h.imp id fun ⟨g, e, h1, k⟩ => ⟨g, e, h1, blk_grown k hg (by omega)⟩
structure L3 (w0 w : World) (c : Nat) (al : Option Addr) (len cap I : Nat) (d : Ln) (s : Sl) (k o t : Int) (ai : Option Addr) (Z : List Int) (ci : Nat) (W : World) : Prop where
 lb : K0.Blk w.heap.size (N1.vals d s) W
 ib : K0.Blk I [.int .i64 k, .int .i64 o, .int .i64 t, .slice ai Z.length ci] W
 row : LO.Ow (w.heap.size + 1) I W ai Z
 st : St w0 W c al len cap
 g : w.grownBy W (some c)
 lt : w.heap.size < I
theorem L3.below (h : L3 w0 w c al len cap I d s k o t ai Z ci W) (hb : Below W.heap.size W W') : L3 w0 w c al len cap I d s k o t ai Z ci W' := ⟨h.lb.below hb, h.ib.below hb, h.row.below hb, h.st.below hb, grown_below h.g hb, h.lt⟩
theorem L3.grown (h : L3 w0 w c al len cap I d s k o t ai Z ci W) (hc : c < w.heap.size) (hs : St w0 W' c al len cap) (hg : W.grownBy W' (some c)) : L3 w0 w c al len cap I d s k o t ai Z ci W' := ⟨blk_grown h.lb hg (by omega), blk_grown h.ib hg (by have := h.lt; omega), ow_grown h.row hg (by omega), hs, grown_trans h.g hg, h.lt⟩
theorem L3.drew (h : L3 w0 w c al len cap I d s k o t ai Z ci W) : L3 w0 w c al len cap I d s k o t ai Z ci W.drew := h.below (Below.refl _ _).drew
theorem grown_at (h : w.grownBy W (some c)) (hb : Below w.heap.size W W') : w.grownBy W' (some c) := ⟨hb.os.trans h.os, hb.tape.trans h.tape, hb.output.trans h.output, Nat.le_trans h.size hb.size, fun k hk hr => (hb.block k hk).trans (h.block k hk hr)⟩
theorem st_at (h : St w0 W c al len cap) {b : Nat} (hb : Below b W W') (hc : c < b) : St w0 W' c al len cap := ⟨⟨hb.os.trans h.bel.os, hb.tape.trans h.bel.tape, hb.output.trans h.bel.output, Nat.le_trans h.bel.size hb.size, fun k hk => (hb.block k (by have := h.new; omega)).trans (h.bel.block k hk)⟩, h.new, h.cur.of_block (Nat.lt_of_lt_of_le h.cur.lt hb.size) (hb.block c hc)⟩
theorem fits_app {es : List T0.Ent} {z : Int} {x : ByteArray} (h : T0.Fits es) (hx : x.size ≤ 100) : T0.Fits (es ++ [(z, x)]) := fun j hj => by
 by_cases hl : j < es.length
 ·rw [show T0.ent (es ++ [(z, x)]) j = T0.ent es j by rw [T0.ent_get _ _ hj, T0.ent_get _ _ hl, List.getElem_append_left hl]]
  exact h j hl
 ·obtain rfl : j = es.length := by simp at hj; omega
  rw [T0.ent_get _ _ hj]
  simp
  omega
structure L4 (w0 w : World) (c : Nat) (al : Option Addr) (len cap I : Nat) (d : Ln) (s : Sl) (k o t : Int) (ai : Option Addr) (Z : List Int) (ci X : Nat) (kx ox tx : Int) (ax : Option Addr) (zs : List Int) (cx : Nat) (W : World) : Prop where
 q : L3 w0 w c al len cap I d s k o t ai Z ci W
 xb : K0.Blk X [.int .i64 kx, .int .i64 ox, .int .i64 tx, .slice ax zs.length cx] W
 xr : J0.Own (w.heap.size + 1) W ax zs
 lx : zs.length ≤ 100 ∧ zs.length ≤ cx
 hx : I < X
variable {X cx : Nat} {kx ox tx : Int} {ax : Option Addr}
theorem L4.below (h : L4 w0 w c al len cap I d s k o t ai Z ci X kx ox tx ax zs cx W) (hb : Below W.heap.size W W') : L4 w0 w c al len cap I d s k o t ai Z ci X kx ox tx ax zs cx W' := ⟨h.q.below hb, h.xb.below hb, h.xr.below hb, h.lx, h.hx⟩
theorem L4.grown (h : L4 w0 w c al len cap I d s k o t ai Z ci X kx ox tx ax zs cx W) (hc : c < w.heap.size) (hs : St w0 W' c al len cap) (hg : W.grownBy W' (some c)) : L4 w0 w c al len cap I d s k o t ai Z ci X kx ox tx ax zs cx W' := ⟨h.q.grown hc hs hg, blk_grown h.xb hg (by have := h.hx; have := h.q.lt; omega), own_grown h.xr hg (by omega), h.lx, h.hx⟩
theorem L3.set (h : L3 w0 w c al len cap I d s k o t ai Z ci W) (hc : c < w.heap.size) (h0 : w0.heap.size ≤ c) (hX : I < X) (j : Nat) (v : Value) : L3 w0 w c al len cap I d s k o t ai Z ci (W.setCell ⟨X, j, none⟩ v) := by
 have hl := h.lt
 exact ⟨h.lb.setOther (by omega) j v, h.ib.setOther (by omega) j v, h.row.set (by omega) j v, LM.st_set h.st (by omega) (by omega) j v, grown_setNew h.g (by omega), hl⟩
theorem L3.set4 (h : L3 w0 w c al len cap I d s k o t ai Z ci W) (hc : c < w.heap.size) (h0 : w0.heap.size ≤ c) (hX : I < X) (y0 y1 y2 y3 : Value) : L3 w0 w c al len cap I d s k o t ai Z ci ((((W.setCell ⟨X, 0, none⟩ y0).setCell ⟨X, 1, none⟩ y1).setCell ⟨X, 2, none⟩ y2).setCell ⟨X, 3, none⟩ y3) := (((h.set hc h0 hX 0 y0).set hc h0 hX 1 y1).set hc h0 hX 2 y2).set hc h0 hX 3 y3
theorem blk_set4 {x0 x1 x2 x3 : Value} (h : K0.Blk X [x0, x1, x2, x3] W) (y0 y1 y2 y3 : Value) : K0.Blk X [y0, y1, y2, y3] ((((W.setCell ⟨X, 0, none⟩ y0).setCell ⟨X, 1, none⟩ y1).setCell ⟨X, 2, none⟩ y2).setCell ⟨X, 3, none⟩ y3) := (((h.set 0 y0).set 1 y1).set 2 y2).set 3 y3
theorem blk_oth4 {G : Nat} {vs : List Value} (h : K0.Blk G vs W) (hne : X ≠ G) (y0 y1 y2 y3 : Value) : K0.Blk G vs ((((W.setCell ⟨X, 0, none⟩ y0).setCell ⟨X, 1, none⟩ y1).setCell ⟨X, 2, none⟩ y2).setCell ⟨X, 3, none⟩ y3) := (((h.setOther hne 0 y0).setOther hne 1 y1).setOther hne 2 y2).setOther hne 3 y3
theorem cRec (i : Int) (W : World) : Calls Tryz.prog 25 #[.int .i64 i] W fun e w' => (∃ x : Int, e = .returned (.int .i64 x)) ∧ w' = W := (L1.spec_RecAt i W).mono fun e w' ⟨he, hb⟩ => ⟨⟨_, he⟩, hb⟩
theorem cWith (s : ByteArray) (i : Int) (t : ByteArray) (W : World) (hs : s.size ≤ 768) (ht : t.size ≤ 1000) :
  Calls Tryz.prog 24 #[.string s, .int .i64 i, .string t] W fun e w' => (∃ u : ByteArray, u.size ≤ 768 ∧ e = .returned (.string u)) ∧ Below W.heap.size W w' :=
 (B5.spec_With s i t W (by omega) (by omega)).mono fun e w' ⟨he, n, hw⟩ => ⟨⟨_, Nat.le_trans (Nat.le_of_eq (N13.laid_size s i t)) hs, he⟩, by rw [hw]; exact K0.below_drewN (Below.refl _ _) n⟩
theorem cPut (k o s : Int) (p : Option Addr) (cp : Nat) (zs : List Int) (W : World) (hn : zs.length ≤ 100) (hcp : zs.length ≤ cp) (hR : P0.Row W p zs) :
  Calls Tryz.prog 54 #[I0.val k o s p zs.length cp] W fun e w' => (∃ u : ByteArray, u.size ≤ 1000 ∧ e = .returned (.string u)) ∧ Below W.heap.size W w' :=
 (R2.spec_PutInode k o s p cp zs W (by omega) hcp hR).mono fun e w' ⟨he, hb⟩ => ⟨⟨_, Nat.le_trans (R0.putI_size _ _ _ _) (by omega), he⟩, hb⟩
theorem ld_size (mem : ByteArray) (i : Int) : (O0.lD mem i).size ≤ 1000 := by
 cases h : O0.isL mem i with
 | false => rw [(O0.l_no h).2.2.2.2]; exact Nat.zero_le _
 | true =>
  have h1 := S0.load_size h
  have h2 := (O0.l_yes h).2.2.1
  simp only [O0.isL, Bool.and_eq_true] at h
  have h3 := (O0.got h.2.1).1
  rw [h2] at h1
  omega
theorem cLoad (mem : ByteArray) (i : Int) (W : World) (hm : mem.size ≤ 281474976710656) : Calls Tryz.prog 60 #[.string mem, .int .i64 i] W fun e w' => ∃ k o t a Z c x b, e = .returned (.tuple #[I0.val k o t a Z.length c, .string x, .bool b]) ∧ Below W.heap.size W w' ∧ Z.length ≤ 6 ∧ Z.length ≤ c ∧ x.size ≤ 1000 ∧ J0.Own W.heap.size w' a Z := (O3.spec_Load mem i W hm).mono fun e w' ⟨a, c, he, ho, hc, hb⟩ => by
 refine ⟨_, _, _, a, _, c, _, _, he, hb, ?_, hc, ld_size mem i, ho⟩
 cases hl : O0.isL mem i with
 | false => rw [(O0.l_no hl).2.2.2.1]; exact Nat.zero_le _
 | true =>
  rw [(O0.l_yes hl).2.2.2.1]
  simp only [O0.isL, Bool.and_eq_true] at hl
  exact (O0.got hl.2.1).2.1
theorem L3.cell0 {g : Nat} (h : L3 w0 w c al len cap I d s k o t (some ⟨g, 0, none⟩) Z ci W) (hz : 0 < Z.length) : W.cell? ⟨g, 0, none⟩ = some (.int .i64 (Z.getD 0 0)) ∧ P0.Row W (some ⟨g, 0, none⟩) [Z.getD 0 0] := by
 rcases h.row with h0 | ⟨g', e, _, _, kb⟩
 ·rw [h0] at hz
  cases hz
 ·obtain rfl : g = g' := by injection e with e; injection e
  have hc : W.cell? ⟨g, 0, none⟩ = some (.int .i64 (Z.getD 0 0)) := by
   rw [kb.cell 0 (by simpa using hz)]
   simp [hz]
  exact ⟨hc, Or.inr ⟨g, 0, rfl, kb.lt, fun j hj => by
   obtain rfl : j = 0 := by simpa using hj
   simpa using hc⟩⟩
theorem row1 (W : World) (z : Int) (x : ByteArray) : T0.Row (W.alloc (.cells #[.int .i64 z, .string x] 88)) (some ⟨W.heap.size, 0, none⟩) [(z, x)] := Or.inr ⟨W.heap.size, 0, rfl, by simp, fun j hj => by
 obtain rfl : j = 0 := by simpa using hj
 exact ⟨by rw [World.cell?_alloc_mark]; rfl, by rw [World.cell?_alloc_mark]; rfl⟩⟩
theorem fits1 {z : Int} {x : ByteArray} (hx : x.size ≤ 100) : T0.Fits [(z, x)] := fun j hj => by
 obtain rfl : j = 0 := by simpa using hj
 exact Nat.le_trans (show x.size ≤ 100 from hx) (by omega)
theorem i7 : ∀ v ∈ (#[Value.int .i64 10, Value.int .i64 12, Value.int .i64 6, Value.int .i64 7, Value.int .i64 5, Value.int .i64 9] : Array Value).toList, IsInt v := by
 intro v hv
 simp at hv
 rcases hv with rfl | rfl | rfl | rfl | rfl | rfl <;> exact isInt (by omega) (by omega)
theorem i12 : ∀ v ∈ (#[Value.int .i64 4, Value.int .i64 5, Value.int .i64 4, Value.int .i64 3, Value.int .i64 1] : Array Value).toList, IsInt v := by
 intro v hv
 simp at hv
 rcases hv with rfl | rfl | rfl | rfl | rfl <;> exact isInt (by omega) (by omega)
theorem i14 : ∀ v ∈ (#[Value.int .i64 12, Value.int .i64 13, Value.int .i64 10, Value.int .i64 9] : Array Value).toList, IsInt v := by
 intro v hv
 simp at hv
 rcases hv with rfl | rfl | rfl | rfl <;> exact isInt (by omega) (by omega)
theorem i28 : ∀ v ∈ (#[Value.int .i64 1, Value.int .i64 2] : Array Value).toList, IsInt v := by
 intro v hv
 simp at hv
 rcases hv with rfl | rfl <;> exact isInt (by omega) (by omega)
theorem i16 : ∀ v ∈ (#[Value.int .i64 0, Value.int .i64 0, Value.int .i64 16] : Array Value).toList, IsInt v := by
 intro v hv
 simp at hv
 rcases hv with rfl | rfl | rfl <;> exact isInt (by omega) (by omega)
theorem i16c {z : Int} (hz : (Lit.int .i64 z).wf = true) : ∀ v ∈ (#[Value.int .i64 z, Value.int .i64 9] : Array Value).toList, IsInt v := by
 intro v hv
 simp at hv
 rcases hv with rfl | rfl
 ·exact ⟨z, hz, rfl⟩
 ·exact isInt (by omega) (by omega)
theorem t12 : ∀ v ∈ (#[Value.string ⟨#[110, 101, 119]⟩, Value.string ⟨#[98]⟩, Value.string ⟨#[110, 50]⟩] : Array Value).toList, C1.IsTxt v := C1.all_short (by kernel_rfl)
theorem t28 : ∀ v ∈ (#[Value.string ⟨#[97]⟩, Value.string ⟨#[122]⟩] : Array Value).toList, C1.IsTxt v := C1.all_short (by kernel_rfl)
set_option maxHeartbeats 8000000 in
theorem l05Changed (mem : ByteArray) (hm : mem.size ≤ 768) (sm : Sm d) (hcode : Given w0 al len) (h : St w0 w c al len cap) (hlen : len ≤ 1048576) :
  Calls Tryz.prog 42 #[.pointer (some ⟨c, 0, none⟩), .string mem, N1.val d s] w fun e w' => (∃ u : ByteArray, u.size ≤ 768 ∧ e = .returned (.string u)) ∧ St w0 w' c al len cap ∧ w.grownBy w' (some c) := by
 have hcl := h.cur.lt
 have hn0 := h.new
 have n0 := K0.below_new w (.cells #[.int .i64 d.ino, .int .i64 d.cl, .int .i64 d.un, .string d.rc, .slice s.a1 d.pg.length s.c1, .string d.sav, .slice s.a2 d.po.length s.c2, .slice s.a3 d.fr.length s.c3] 26)
 have v0 := K0.blk_new (N1.vals d s) w 26
 have h0 := h.below n0
 have g0 : w.grownBy (w.alloc (.cells #[.int .i64 d.ino, .int .i64 d.cl, .int .i64 d.un, .string d.rc, .slice s.a1 d.pg.length s.c1, .string d.sav, .slice s.a2 d.po.length s.c2, .slice s.a3 d.fr.length s.c3] 26)) (some c) := grown_of_below n0
 go_enter Tryz.func42, Tryz.ntmps42
 go_upto_region 1 with (fail)
 generalize (w.alloc (.cells #[.int .i64 d.ino, .int .i64 d.cl, .int .i64 d.un, .string d.rc, .slice s.a1 d.pg.length s.c1, .string d.sav, .slice s.a2 d.po.length s.c2, .slice s.a3 d.fr.length s.c3] 26)) = V0 at v0 h0 g0 n0 ⊢
 have p0 := v0.c0
 go_upto_region 2 with (go_at_call 60; refine (cLoad mem _ _ (by omega)).mono ?_; rintro e w1 ⟨k, o, t, ai, Z, ci, x, b, rfl, b1, hZ, hZc, hx, ho1⟩)
 have hv0 := v0.lt
 have n1 := K0.below_new w1 (.cells #[.int .i64 k, .int .i64 o, .int .i64 t, .slice ai Z.length ci] 55)
 have b1s := b1.size
 have q1 : L3 w0 w c al len cap w1.heap.size d s k o t ai Z ci (w1.alloc (.cells #[.int .i64 k, .int .i64 o, .int .i64 t, .slice ai Z.length ci] 55)) := ⟨(v0.below b1).below n1, K0.blk_new [.int .i64 k, .int .i64 o, .int .i64 t, .slice ai Z.length ci] w1 55, (LO.ow_of (ho1.mono (by omega))).below n1, (h0.below b1).below n1, grown_below (grown_below g0 b1) n1, by omega⟩
 generalize (w1.alloc (.cells #[.int .i64 k, .int .i64 o, .int .i64 t, .slice ai Z.length ci] 55)) = W1 at q1 ⊢
 generalize w1.heap.size = I at q1 ⊢
 clear v0 h0 g0 n0 n1 b1 ho1 p0 hv0 b1s
 go_upto_region 4 with (go_at_call 44; refine (below_any hcode q1.st hlen 8 (by omega) (by omega)).mono ?_; rintro e w2 ⟨⟨y, y0, y1, rfl⟩, s2, g2⟩; have q2 := q1.grown hcl s2 g2)
 clear q1 s2 g2
 by_cases e0 : y = 0
 ·subst e0
  go_wp2
  go_ret
  exact ⟨⟨mem, hm, rfl⟩, q2.st, q2.g⟩
 ·have e0' : (y == 0) = false := by simpa using e0
  by_cases e1 : y = 1
  ·subst e1
   have HS : Hid (∀ W, L3 w0 w c al len cap I d s k o t ai Z ci W → W.cell? ⟨w.heap.size, 0, none⟩ = some (.int .i64 d.ino) ∧ W.cell? ⟨I, 0, none⟩ = some (.int .i64 k) ∧ W.cell? ⟨I, 1, none⟩ = some (.int .i64 o)) := fun W h => ⟨h.lb.c0, h.ib.c0, h.ib.c1⟩
   have q3 := q2.drew
   have hS0 := HS.out _ q3
   have n3 := K0.below_new w2.drew (.cells #[.int .i64 10, .int .i64 12, .int .i64 6, .int .i64 7, .int .i64 5, .int .i64 9] 3)
   have hS1 := HS.out _ (q3.below n3)
   go_wp2
   go_region_held3 (fun W => W.cell? ⟨w.heap.size, 0, none⟩ = some (.int .i64 d.ino) ∧ W.cell? ⟨I, 0, none⟩ = some (.int .i64 k) ∧ W.cell? ⟨I, 1, none⟩ = some (.int .i64 o)) (assumption) ((first
    | (go_at_call 25; refine (cRec _ _).mono ?_; rintro e w3 ⟨⟨x3, rfl⟩, rfl⟩)
    | (go_at_call 23; refine (pickNew hcode q3.st hlen i7 (show 0 < 6 by decide) (show 6 ≤ 100 by decide)).mono ?_; rintro e w4 ⟨⟨z, wz, rfl⟩, s4, g4⟩; have q4 := (q3.below n3).grown hcl s4 g4; have q5 := q4.below (K0.below_new w4 (.cells #[.int .i64 z] 3)); have hS4 := HS.out _ q4; have hS5 := HS.out _ q5)
    | (go_at_call 54; refine (cPut _ _ _ _ _ [z] _ (by simp) (by simp) (C1.row_new w4 [z] _ rfl)).mono ?_; rintro e w6 ⟨⟨u6, hu6, rfl⟩, b6⟩; have q6 := q5.below b6; have hS6 := HS.out _ q6)
    | (go_at_call 24; refine (cWith mem _ u6 _ hm hu6).mono ?_; rintro e w7 ⟨⟨u7, hu7, rfl⟩, b7⟩; have q7 := q6.below b7; have hS7 := HS.out _ q7)))
   all_goals go_wp2
   all_goals go_ret
   all_goals exact ⟨⟨u7, hu7, rfl⟩, q7.st, q7.g⟩
  ·have e1' : (y == 1) = false := by simpa using e1
   by_cases e23 : y = 2 ∨ y = 3
   ·go_upto_if 54 with fail
    go_cut [54] (fun v wx => v = .bool true ∧ w2 = wx)
    case first =>
     rcases e23 with rfl | rfl
     all_goals go_wp2
     all_goals go_meet
     all_goals exact ⟨rfl, rfl⟩
    case rest =>
     obtain ⟨rfl, rfl⟩ := hcut
     by_cases hk : k = 2
     ·have hk2 : (k == 2) = true := by simpa using hk
      clear hk
      have c0 := q2.ib.c0
      have hc2 : c < w2.heap.size := Nat.lt_of_lt_of_le hcl q2.g.size
      go_upto_region 14 with (first
       | (go_at_call 36; refine (V3b.spec_GetDir x _ (by omega)).mono ?_; rintro e w3 ⟨ae, ce, es, be, rfl, eb3, hes, hfit, b3⟩; have q3 := q2.below b3; have G3 : w2.grownBy w3 (some c) := grown_of_below b3)
       | (go_at_call 23; refine (pickNew hcode q3.st hlen i12 (show 0 < 5 by decide) (show 5 ≤ 100 by decide)).mono ?_; rintro e w4 ⟨⟨z4, wz4, rfl⟩, s4, g4⟩; have n3 := K0.below_new w3 (.cells #[.int .i64 4, .int .i64 5, .int .i64 4, .int .i64 3, .int .i64 1] 3); have q4 := (q3.below n3).grown hcl s4 g4; have eb4 := C1.ebuf_grown (eb3.below n3) g4 hc2; have G4 := grown_trans (grown_below G3 n3) g4)
       | (go_at_call 61; refine (pickTxtNew hcode q4.st hlen t12 (show 0 < 3 by decide) (show 3 ≤ 100 by decide)).mono ?_; rintro e w5 ⟨⟨x5, hx5, rfl⟩, s5, g5⟩; have n4 := K0.below_new w4 (.cells #[.string ⟨#[110, 101, 119]⟩, .string ⟨#[98]⟩, .string ⟨#[110, 50]⟩] 9); have q5 := (q4.below n4).grown hcl s5 g5; have eb5 := C1.ebuf_grown (eb4.below n4) g5 hc2; have G5 := grown_trans (grown_below G4 n4) g5)
       | (at_builtin; refine V1.append_ent rfl (.tmp 65) (.tmp 73) rfl eb5 _ _ (by rfl) (H := w5.heap.size) rfl (by rfl) (by omega) G5.size ?_; intro g6 cp6 w6 eb6 bel6; have q6 := q2.grown hcl (st_at q5.st bel6 hc2) (grown_at G5 bel6); have HP : Calls Tryz.prog 56 #[.slice (some ⟨g6, 0, none⟩) (es.length + 1) cp6] w6 (fun e w' => e = .returned (.string (T0.putD (es ++ [(z4, x5)]))) ∧ Below w6.heap.size w6 w') := (by have h1 := T3.spec_PutDir (some ⟨g6, 0, none⟩) cp6 (es ++ [(z4, x5)]) w6 (by simp; omega) (by have := eb6.fits; simpa using this) (fits_app hfit hx5) eb6.own.row; rwa [List.length_append, List.length_singleton] at h1))
       | (go_at_call 56; refine HP.mono ?_; rintro e w7 ⟨rfl, b7⟩; have q7 := q6.below b7))
      have hd := C1.putD_size (es ++ [(z4, x5)])
      generalize T0.putD (es ++ [(z4, x5)]) = D at hd ⊢
      clear q3 q4 q5 q6 eb3 eb4 eb5 eb6 G3 G4 G5 n3 n4 g4 g5 s4 s5 bel6 HP b3 b7 c0 hfit
      go_cut [13] (fun v wx => ∃ X kx ox tx ax zs cx, v = .pointer (some ⟨X, 0, none⟩) ∧ L4 w0 w c al len cap I d s k o t ai Z ci X kx ox tx ax zs cx wx)
      case first =>
       have HS1 : Hid (∀ W, L3 w0 w c al len cap I d s k o t ai Z ci W → W.cell? ⟨w.heap.size, 1, none⟩ = some (.int .i64 d.cl)) := fun W h => h.lb.c1
       have qd := q7.drew
       have s0 := HS1.out _ qd
       go_wp2
       refine wp_region_held (S := fun W => W.cell? ⟨w.heap.size, 1, none⟩ = some (.int .i64 d.cl)) (by kernel_rfl) ?_
       refine wpAnyH_take (i := 0) (v := .pointer (some ⟨w.heap.size, 1, none⟩)) rfl (by kernel_rfl) (by kernel_rfl) (by kernel_rfl) (fun _ _ _ h => h) (Or.inl ⟨by rfl, fun w' hS' => ?_⟩) s0 ?_
       ·go_simp
       simp only [BZ.z, Act.put, Nat.reduceAdd]
       refine wpAnyH_take (i := 1) (v := .int .i64 d.cl) rfl (by kernel_rfl) (by kernel_rfl) (by kernel_rfl) (fun _ _ _ h => h) (Or.inl ⟨by rfl, fun w' hS' => ?_⟩) s0 ?_
       ·go_simp
       simp only [BZ.z, Act.put, Nat.reduceAdd]
       refine wpAnyH_take (i := 2) (v := .pointer (some ⟨c, 0, none⟩)) rfl (by kernel_rfl) (by kernel_rfl) (by kernel_rfl) (fun _ _ _ h => h) (Or.inl ⟨by rfl, fun w' hS' => by rfl⟩) s0 ?_
       simp only [BZ.z, Act.put, Nat.reduceAdd]
       refine wpAnyH_all (rs := [3, 7]) (by kernel_rfl) (by simp) ?_
       intro i hi
       rcases (show i = 3 ∨ i = 7 by simpa using hi) with rfl | rfl
       ·have hz4 : c < w7.heap.size := Nat.lt_of_lt_of_le hcl qd.g.size
        have of4 : C1.Of ((w7.drew).alloc (.cells #[.int .i64 12, .int .i64 13, .int .i64 10, .int .i64 9] 3)) w7.heap.size 4 IsInt := C1.Of.new (w7.drew) _ 3 IsInt (C1.of_all i14)
        have qa1 := qd.below (K0.below_new (w7.drew) (.cells #[.int .i64 12, .int .i64 13, .int .i64 10, .int .i64 9] 3))
        refine LO.op_plain (u := .slice (some ⟨w7.heap.size, 0, none⟩) 4 4) (w' := (w7.drew).alloc (.cells #[.int .i64 12, .int .i64 13, .int .i64 10, .int .i64 9] 3)) rfl (by rfl) ?_ ⟨HS1.out _ qa1, ?_⟩
        ·go_simp
        simp only [BZ.z, Act.put, Nat.reduceAdd]
        generalize (w7.drew).alloc (.cells #[.int .i64 12, .int .i64 13, .int .i64 10, .int .i64 9] 3) = V1 at qa1 of4 ⊢
        refine wpAnyH_all (rs := [4, 7]) (by kernel_rfl) (by simp) ?_
        intro i hi
        rcases (show i = 4 ∨ i = 7 by simpa using hi) with rfl | rfl
        ·refine LO.op_call2 rfl (by rfl) (.tmp 79) (.tmp 80) _ rfl (.pointer (some ⟨c, 0, none⟩)) (.slice (some ⟨w7.heap.size, 0, none⟩) 4 4) (by rfl) (by rfl) (enters_of Tryz.func23 (by kernel_rfl) rfl) ((C1.pickInt_any hcode qa1.st hlen of4 (Nat.ne_of_gt hz4) (by decide) (by decide)).mono ?_)
         rintro e w8 ⟨⟨z, wz, rfl⟩, s8, g8⟩
         have qa2 := qa1.grown hcl s8 g8
         refine ⟨_, rfl, HS1.out _ qa2, ?_⟩
         simp only [BZ.z, Act.put, Nat.reduceAdd]
         refine wpAnyH_all (rs := [5, 7]) (by kernel_rfl) (by simp) ?_
         intro i hi
         rcases (show i = 5 ∨ i = 7 by simpa using hi) with rfl | rfl
         ·have gb3 : K0.Blk (w8).heap.size (ints [z]) ((w8).alloc (.cells #[.int .i64 z] 3)) := K0.blk_new (ints [z]) (w8) 3
          have hGw : w.heap.size + 1 ≤ (w8).heap.size := Nat.le_trans (Nat.succ_le_of_lt qa2.lt) (Nat.le_of_lt qa2.ib.lt)
          have qa3 := qa2.below (K0.below_new (w8) (.cells #[.int .i64 z] 3))
          refine LO.op_plain (u := .slice (some ⟨(w8).heap.size, 0, none⟩) 1 1) (w' := (w8).alloc (.cells #[.int .i64 z] 3)) rfl (by rfl) ?_ ⟨HS1.out _ qa3, ?_⟩
          ·go_simp
          simp only [BZ.z, Act.put, Nat.reduceAdd]
          generalize (w8).alloc (.cells #[.int .i64 z] 3) = V3 at qa3 gb3 ⊢
          refine wpAnyH_take (i := 6) (v := .agg #[.int .i64 1, .int .i64 d.cl, .int .i64 20, .slice (some ⟨(w8).heap.size, 0, none⟩) 1 1]) rfl (by kernel_rfl) (by kernel_rfl) (by kernel_rfl) (fun _ _ _ h => h) (Or.inl ⟨by rfl, fun w' hS' => ?_⟩) (HS1.out _ qa3) ?_
          ·go_simp
          simp only [BZ.z, Act.put, Nat.reduceAdd]
          have xb4 : K0.Blk (V3).heap.size [.int .i64 0, .int .i64 0, .int .i64 0, .slice none 0 0] ((V3).alloc (.cells #[.int .i64 0, .int .i64 0, .int .i64 0, .slice none 0 0] 55)) := K0.blk_new [.int .i64 0, .int .i64 0, .int .i64 0, .slice none 0 0] (V3) 55
          have hX : I < (V3).heap.size := qa3.ib.lt
          have hXc : (V3).heap.size ≠ c := Nat.ne_of_gt (Nat.lt_of_lt_of_le hcl qa3.g.size)
          have qa4 := qa3.below (K0.below_new (V3) (.cells #[.int .i64 0, .int .i64 0, .int .i64 0, .slice none 0 0] 55))
          refine Y0.one_plain (i := 7) (u := .pointer (some ⟨(V3).heap.size, 0, none⟩)) (w' := (V3).alloc (.cells #[.int .i64 0, .int .i64 0, .int .i64 0, .slice none 0 0] 55)) (by kernel_rfl) rfl (by rfl) ?_ (HS1.out _ qa4) ?_
          ·go_simp
          simp only [BZ.z, Act.put, Nat.reduceAdd]
          have gb4 := gb3.below (K0.below_new (V3) (.cells #[.int .i64 0, .int .i64 0, .int .i64 0, .slice none 0 0] 55))
          have hXG : (V3).heap.size ≠ (w8).heap.size := Nat.ne_of_gt gb3.lt
          generalize (V3).alloc (.cells #[.int .i64 0, .int .i64 0, .int .i64 0, .slice none 0 0] 55) = V4 at qa4 xb4 gb4 ⊢
          have qf := qa4.set4 hcl hn0 hX (.int .i64 1) (.int .i64 d.cl) (.int .i64 20) (.slice (some ⟨(w8).heap.size, 0, none⟩) 1 1)
          have xf := blk_set4 xb4 (.int .i64 1) (.int .i64 d.cl) (.int .i64 20) (.slice (some ⟨(w8).heap.size, 0, none⟩) 1 1)
          have gf := blk_oth4 gb4 hXG (.int .i64 1) (.int .i64 d.cl) (.int .i64 20) (.slice (some ⟨(w8).heap.size, 0, none⟩) 1 1)
          have e0 := xb4.c0
          have e1 := xb4.c1
          have e2 := xb4.c2
          have e3 := xb4.c3
          have f0 := xb4.f0
          have f1 := xb4.f1
          have f2 := xb4.f2
          have f3 := xb4.f3
          refine Y0.one_skip (i := 8) (w' := ((((V4).setCell ⟨(V3).heap.size, 0, none⟩ (.int .i64 1)).setCell ⟨(V3).heap.size, 1, none⟩ (.int .i64 d.cl)).setCell ⟨(V3).heap.size, 2, none⟩ (.int .i64 20)).setCell ⟨(V3).heap.size, 3, none⟩ (.slice (some ⟨(w8).heap.size, 0, none⟩) 1 1)) (by kernel_rfl) rfl (by rfl) ?_ (HS1.out _ qf) ?_
          ·go_simp
          simp only [BZ.z, Act.put, Nat.reduceAdd]
          refine wpAnyH_done (by kernel_rfl) ?_ _
          try go_wp2_with fail
          go_meet
          exact ⟨(V3).heap.size, 1, d.cl, 20, some ⟨(w8).heap.size, 0, none⟩, [z], 1, rfl, qf, xf, Or.inr ⟨(w8).heap.size, rfl, hGw, gf⟩, ⟨by simp, by simp⟩, hX⟩
         ·have xb3 : K0.Blk (w8).heap.size [.int .i64 0, .int .i64 0, .int .i64 0, .slice none 0 0] ((w8).alloc (.cells #[.int .i64 0, .int .i64 0, .int .i64 0, .slice none 0 0] 55)) := K0.blk_new [.int .i64 0, .int .i64 0, .int .i64 0, .slice none 0 0] (w8) 55
          have hX : I < (w8).heap.size := qa2.ib.lt
          have hXc : (w8).heap.size ≠ c := Nat.ne_of_gt (Nat.lt_of_lt_of_le hcl qa2.g.size)
          have qa3 := qa2.below (K0.below_new (w8) (.cells #[.int .i64 0, .int .i64 0, .int .i64 0, .slice none 0 0] 55))
          refine LO.op_plain (u := .pointer (some ⟨(w8).heap.size, 0, none⟩)) (w' := (w8).alloc (.cells #[.int .i64 0, .int .i64 0, .int .i64 0, .slice none 0 0] 55)) rfl (by rfl) ?_ ⟨HS1.out _ qa3, ?_⟩
          ·go_simp
          simp only [BZ.z, Act.put, Nat.reduceAdd]
          generalize (w8).alloc (.cells #[.int .i64 0, .int .i64 0, .int .i64 0, .slice none 0 0] 55) = V3 at qa3 xb3 ⊢
          have gb4 : K0.Blk (V3).heap.size (ints [z]) ((V3).alloc (.cells #[.int .i64 z] 3)) := K0.blk_new (ints [z]) (V3) 3
          have hGw : w.heap.size + 1 ≤ (V3).heap.size := Nat.le_trans (Nat.succ_le_of_lt qa3.lt) (Nat.le_of_lt qa3.ib.lt)
          have qa4 := qa3.below (K0.below_new (V3) (.cells #[.int .i64 z] 3))
          refine Y0.one_plain (i := 5) (u := .slice (some ⟨(V3).heap.size, 0, none⟩) 1 1) (w' := (V3).alloc (.cells #[.int .i64 z] 3)) (by kernel_rfl) rfl (by rfl) ?_ (HS1.out _ qa4) ?_
          ·go_simp
          simp only [BZ.z, Act.put, Nat.reduceAdd]
          have xb4 := xb3.below (K0.below_new (V3) (.cells #[.int .i64 z] 3))
          have hXG : (w8).heap.size ≠ (V3).heap.size := Nat.ne_of_lt xb3.lt
          generalize (V3).alloc (.cells #[.int .i64 z] 3) = V4 at qa4 gb4 xb4 ⊢
          refine wpAnyH_take (i := 6) (v := .agg #[.int .i64 1, .int .i64 d.cl, .int .i64 20, .slice (some ⟨(V3).heap.size, 0, none⟩) 1 1]) rfl (by kernel_rfl) (by kernel_rfl) (by kernel_rfl) (fun _ _ _ h => h) (Or.inl ⟨by rfl, fun w' hS' => ?_⟩) (HS1.out _ qa4) ?_
          ·go_simp
          simp only [BZ.z, Act.put, Nat.reduceAdd]
          have qf := qa4.set4 hcl hn0 hX (.int .i64 1) (.int .i64 d.cl) (.int .i64 20) (.slice (some ⟨(V3).heap.size, 0, none⟩) 1 1)
          have xf := blk_set4 xb4 (.int .i64 1) (.int .i64 d.cl) (.int .i64 20) (.slice (some ⟨(V3).heap.size, 0, none⟩) 1 1)
          have gf := blk_oth4 gb4 hXG (.int .i64 1) (.int .i64 d.cl) (.int .i64 20) (.slice (some ⟨(V3).heap.size, 0, none⟩) 1 1)
          have e0 := xb4.c0
          have e1 := xb4.c1
          have e2 := xb4.c2
          have e3 := xb4.c3
          have f0 := xb4.f0
          have f1 := xb4.f1
          have f2 := xb4.f2
          have f3 := xb4.f3
          refine Y0.one_skip (i := 8) (w' := ((((V4).setCell ⟨(w8).heap.size, 0, none⟩ (.int .i64 1)).setCell ⟨(w8).heap.size, 1, none⟩ (.int .i64 d.cl)).setCell ⟨(w8).heap.size, 2, none⟩ (.int .i64 20)).setCell ⟨(w8).heap.size, 3, none⟩ (.slice (some ⟨(V3).heap.size, 0, none⟩) 1 1)) (by kernel_rfl) rfl (by rfl) ?_ (HS1.out _ qf) ?_
          ·go_simp
          simp only [BZ.z, Act.put, Nat.reduceAdd]
          refine wpAnyH_done (by kernel_rfl) ?_ _
          try go_wp2_with fail
          go_meet
          exact ⟨(w8).heap.size, 1, d.cl, 20, some ⟨(V3).heap.size, 0, none⟩, [z], 1, rfl, qf, xf, Or.inr ⟨(V3).heap.size, rfl, hGw, gf⟩, ⟨by simp, by simp⟩, hX⟩
        ·have xb2 : K0.Blk (V1).heap.size [.int .i64 0, .int .i64 0, .int .i64 0, .slice none 0 0] ((V1).alloc (.cells #[.int .i64 0, .int .i64 0, .int .i64 0, .slice none 0 0] 55)) := K0.blk_new [.int .i64 0, .int .i64 0, .int .i64 0, .slice none 0 0] (V1) 55
         have hX : I < (V1).heap.size := qa1.ib.lt
         have hXc : (V1).heap.size ≠ c := Nat.ne_of_gt (Nat.lt_of_lt_of_le hcl qa1.g.size)
         have qa2 := qa1.below (K0.below_new (V1) (.cells #[.int .i64 0, .int .i64 0, .int .i64 0, .slice none 0 0] 55))
         refine LO.op_plain (u := .pointer (some ⟨(V1).heap.size, 0, none⟩)) (w' := (V1).alloc (.cells #[.int .i64 0, .int .i64 0, .int .i64 0, .slice none 0 0] 55)) rfl (by rfl) ?_ ⟨HS1.out _ qa2, ?_⟩
         ·go_simp
         simp only [BZ.z, Act.put, Nat.reduceAdd]
         have of2 := of4.grown (grown_of_below (c := c) (K0.below_new (V1) (.cells #[.int .i64 0, .int .i64 0, .int .i64 0, .slice none 0 0] 55))) (Nat.ne_of_gt hz4)
         generalize (V1).alloc (.cells #[.int .i64 0, .int .i64 0, .int .i64 0, .slice none 0 0] 55) = V2 at qa2 xb2 of2 ⊢
         refine Y0.one_call2w (i := 4) (by kernel_rfl) rfl (by rfl) (.tmp 79) (.tmp 80) _ rfl (.pointer (some ⟨c, 0, none⟩)) (.slice (some ⟨w7.heap.size, 0, none⟩) 4 4) (by rfl) (by rfl) (enters_of Tryz.func23 (by kernel_rfl) rfl) ((C1.pickInt_any hcode qa2.st hlen of2 (Nat.ne_of_gt hz4) (by decide) (by decide)).mono ?_)
         rintro e w8 ⟨⟨z, wz, rfl⟩, s8, g8⟩
         have qa3 := qa2.grown hcl s8 g8
         have xb3 := blk_grown xb2 g8 hXc
         refine ⟨_, rfl, HS1.out _ qa3, ?_⟩
         simp only [BZ.z, Act.put, Nat.reduceAdd]
         have gb4 : K0.Blk (w8).heap.size (ints [z]) ((w8).alloc (.cells #[.int .i64 z] 3)) := K0.blk_new (ints [z]) (w8) 3
         have hGw : w.heap.size + 1 ≤ (w8).heap.size := Nat.le_trans (Nat.succ_le_of_lt qa3.lt) (Nat.le_of_lt qa3.ib.lt)
         have qa4 := qa3.below (K0.below_new (w8) (.cells #[.int .i64 z] 3))
         refine Y0.one_plain (i := 5) (u := .slice (some ⟨(w8).heap.size, 0, none⟩) 1 1) (w' := (w8).alloc (.cells #[.int .i64 z] 3)) (by kernel_rfl) rfl (by rfl) ?_ (HS1.out _ qa4) ?_
         ·go_simp
         simp only [BZ.z, Act.put, Nat.reduceAdd]
         have xb4 := xb3.below (K0.below_new (w8) (.cells #[.int .i64 z] 3))
         have hXG : (V1).heap.size ≠ (w8).heap.size := Nat.ne_of_lt xb3.lt
         generalize (w8).alloc (.cells #[.int .i64 z] 3) = V4 at qa4 gb4 xb4 ⊢
         refine wpAnyH_take (i := 6) (v := .agg #[.int .i64 1, .int .i64 d.cl, .int .i64 20, .slice (some ⟨(w8).heap.size, 0, none⟩) 1 1]) rfl (by kernel_rfl) (by kernel_rfl) (by kernel_rfl) (fun _ _ _ h => h) (Or.inl ⟨by rfl, fun w' hS' => ?_⟩) (HS1.out _ qa4) ?_
         ·go_simp
         simp only [BZ.z, Act.put, Nat.reduceAdd]
         have qf := qa4.set4 hcl hn0 hX (.int .i64 1) (.int .i64 d.cl) (.int .i64 20) (.slice (some ⟨(w8).heap.size, 0, none⟩) 1 1)
         have xf := blk_set4 xb4 (.int .i64 1) (.int .i64 d.cl) (.int .i64 20) (.slice (some ⟨(w8).heap.size, 0, none⟩) 1 1)
         have gf := blk_oth4 gb4 hXG (.int .i64 1) (.int .i64 d.cl) (.int .i64 20) (.slice (some ⟨(w8).heap.size, 0, none⟩) 1 1)
         have e0 := xb4.c0
         have e1 := xb4.c1
         have e2 := xb4.c2
         have e3 := xb4.c3
         have f0 := xb4.f0
         have f1 := xb4.f1
         have f2 := xb4.f2
         have f3 := xb4.f3
         refine Y0.one_skip (i := 8) (w' := ((((V4).setCell ⟨(V1).heap.size, 0, none⟩ (.int .i64 1)).setCell ⟨(V1).heap.size, 1, none⟩ (.int .i64 d.cl)).setCell ⟨(V1).heap.size, 2, none⟩ (.int .i64 20)).setCell ⟨(V1).heap.size, 3, none⟩ (.slice (some ⟨(w8).heap.size, 0, none⟩) 1 1)) (by kernel_rfl) rfl (by rfl) ?_ (HS1.out _ qf) ?_
         ·go_simp
         simp only [BZ.z, Act.put, Nat.reduceAdd]
         refine wpAnyH_done (by kernel_rfl) ?_ _
         try go_wp2_with fail
         go_meet
         exact ⟨(V1).heap.size, 1, d.cl, 20, some ⟨(w8).heap.size, 0, none⟩, [z], 1, rfl, qf, xf, Or.inr ⟨(w8).heap.size, rfl, hGw, gf⟩, ⟨by simp, by simp⟩, hX⟩
       ·have xb1 : K0.Blk w7.heap.size [.int .i64 0, .int .i64 0, .int .i64 0, .slice none 0 0] ((w7.drew).alloc (.cells #[.int .i64 0, .int .i64 0, .int .i64 0, .slice none 0 0] 55)) := K0.blk_new [.int .i64 0, .int .i64 0, .int .i64 0, .slice none 0 0] (w7.drew) 55
        have hX : I < w7.heap.size := qd.ib.lt
        have hXc : w7.heap.size ≠ c := Nat.ne_of_gt (Nat.lt_of_lt_of_le hcl qd.g.size)
        have qa1 := qd.below (K0.below_new (w7.drew) (.cells #[.int .i64 0, .int .i64 0, .int .i64 0, .slice none 0 0] 55))
        refine LO.op_plain (u := .pointer (some ⟨w7.heap.size, 0, none⟩)) (w' := (w7.drew).alloc (.cells #[.int .i64 0, .int .i64 0, .int .i64 0, .slice none 0 0] 55)) rfl (by rfl) ?_ ⟨HS1.out _ qa1, ?_⟩
        ·go_simp
        simp only [BZ.z, Act.put, Nat.reduceAdd]
        generalize (w7.drew).alloc (.cells #[.int .i64 0, .int .i64 0, .int .i64 0, .slice none 0 0] 55) = V1 at qa1 xb1 ⊢
        have hz4 : c < (V1).heap.size := Nat.lt_of_lt_of_le hcl qa1.g.size
        have of4 : C1.Of ((V1).alloc (.cells #[.int .i64 12, .int .i64 13, .int .i64 10, .int .i64 9] 3)) (V1).heap.size 4 IsInt := C1.Of.new (V1) _ 3 IsInt (C1.of_all i14)
        have qa2 := qa1.below (K0.below_new (V1) (.cells #[.int .i64 12, .int .i64 13, .int .i64 10, .int .i64 9] 3))
        refine Y0.one_plain (i := 3) (u := .slice (some ⟨(V1).heap.size, 0, none⟩) 4 4) (w' := (V1).alloc (.cells #[.int .i64 12, .int .i64 13, .int .i64 10, .int .i64 9] 3)) (by kernel_rfl) rfl (by rfl) ?_ (HS1.out _ qa2) ?_
        ·go_simp
        simp only [BZ.z, Act.put, Nat.reduceAdd]
        have xb2 := xb1.below (K0.below_new (V1) (.cells #[.int .i64 12, .int .i64 13, .int .i64 10, .int .i64 9] 3))
        generalize (V1).alloc (.cells #[.int .i64 12, .int .i64 13, .int .i64 10, .int .i64 9] 3) = V2 at qa2 of4 xb2 ⊢
        refine Y0.one_call2w (i := 4) (by kernel_rfl) rfl (by rfl) (.tmp 79) (.tmp 80) _ rfl (.pointer (some ⟨c, 0, none⟩)) (.slice (some ⟨(V1).heap.size, 0, none⟩) 4 4) (by rfl) (by rfl) (enters_of Tryz.func23 (by kernel_rfl) rfl) ((C1.pickInt_any hcode qa2.st hlen of4 (Nat.ne_of_gt hz4) (by decide) (by decide)).mono ?_)
        rintro e w8 ⟨⟨z, wz, rfl⟩, s8, g8⟩
        have qa3 := qa2.grown hcl s8 g8
        have xb3 := blk_grown xb2 g8 hXc
        refine ⟨_, rfl, HS1.out _ qa3, ?_⟩
        simp only [BZ.z, Act.put, Nat.reduceAdd]
        have gb4 : K0.Blk (w8).heap.size (ints [z]) ((w8).alloc (.cells #[.int .i64 z] 3)) := K0.blk_new (ints [z]) (w8) 3
        have hGw : w.heap.size + 1 ≤ (w8).heap.size := Nat.le_trans (Nat.succ_le_of_lt qa3.lt) (Nat.le_of_lt qa3.ib.lt)
        have qa4 := qa3.below (K0.below_new (w8) (.cells #[.int .i64 z] 3))
        refine Y0.one_plain (i := 5) (u := .slice (some ⟨(w8).heap.size, 0, none⟩) 1 1) (w' := (w8).alloc (.cells #[.int .i64 z] 3)) (by kernel_rfl) rfl (by rfl) ?_ (HS1.out _ qa4) ?_
        ·go_simp
        simp only [BZ.z, Act.put, Nat.reduceAdd]
        have xb4 := xb3.below (K0.below_new (w8) (.cells #[.int .i64 z] 3))
        have hXG : w7.heap.size ≠ (w8).heap.size := Nat.ne_of_lt xb3.lt
        generalize (w8).alloc (.cells #[.int .i64 z] 3) = V4 at qa4 gb4 xb4 ⊢
        refine wpAnyH_take (i := 6) (v := .agg #[.int .i64 1, .int .i64 d.cl, .int .i64 20, .slice (some ⟨(w8).heap.size, 0, none⟩) 1 1]) rfl (by kernel_rfl) (by kernel_rfl) (by kernel_rfl) (fun _ _ _ h => h) (Or.inl ⟨by rfl, fun w' hS' => ?_⟩) (HS1.out _ qa4) ?_
        ·go_simp
        simp only [BZ.z, Act.put, Nat.reduceAdd]
        have qf := qa4.set4 hcl hn0 hX (.int .i64 1) (.int .i64 d.cl) (.int .i64 20) (.slice (some ⟨(w8).heap.size, 0, none⟩) 1 1)
        have xf := blk_set4 xb4 (.int .i64 1) (.int .i64 d.cl) (.int .i64 20) (.slice (some ⟨(w8).heap.size, 0, none⟩) 1 1)
        have gf := blk_oth4 gb4 hXG (.int .i64 1) (.int .i64 d.cl) (.int .i64 20) (.slice (some ⟨(w8).heap.size, 0, none⟩) 1 1)
        have e0 := xb4.c0
        have e1 := xb4.c1
        have e2 := xb4.c2
        have e3 := xb4.c3
        have f0 := xb4.f0
        have f1 := xb4.f1
        have f2 := xb4.f2
        have f3 := xb4.f3
        refine Y0.one_skip (i := 8) (w' := ((((V4).setCell ⟨w7.heap.size, 0, none⟩ (.int .i64 1)).setCell ⟨w7.heap.size, 1, none⟩ (.int .i64 d.cl)).setCell ⟨w7.heap.size, 2, none⟩ (.int .i64 20)).setCell ⟨w7.heap.size, 3, none⟩ (.slice (some ⟨(w8).heap.size, 0, none⟩) 1 1)) (by kernel_rfl) rfl (by rfl) ?_ (HS1.out _ qf) ?_
        ·go_simp
        simp only [BZ.z, Act.put, Nat.reduceAdd]
        refine wpAnyH_done (by kernel_rfl) ?_ _
        try go_wp2_with fail
        go_meet
        exact ⟨w7.heap.size, 1, d.cl, 20, some ⟨(w8).heap.size, 0, none⟩, [z], 1, rfl, qf, xf, Or.inr ⟨(w8).heap.size, rfl, hGw, gf⟩, ⟨by simp, by simp⟩, hX⟩
      case rest =>
       obtain ⟨X, kx, ox, tx, ax, zs, cx, rfl, qx⟩ := hcut
       clear q7 q2
       have hX := qx.hx
       go_upto_if 85 with (go_at_call 58; refine (once_any hcode qx.q.st hlen 4 (by omega) (by omega)).mono ?_; rintro e w9 ⟨⟨b9, rfl⟩, s9, g9⟩; have q9 := qx.grown hcl s9 g9)
       clear qx s9 g9
       go_cut [] (fun wx => ∃ kx ox tx ax zs cx, L4 w0 w c al len cap I d s k o t ai Z ci X kx ox tx ax zs cx wx)
       case first =>
        cases b9 with
        | false =>
         go_wp2
         go_meet
         exact ⟨_, _, _, _, _, _, q9⟩
        | true =>
         have m1 := q9.q.lb.c1
         go_wp2_with (first
          | (go_at_call 23; have qa' := qa; refine (pickNew hcode qa.q.st hlen i16 (show 0 < 3 by decide) (show 3 ≤ 100 by decide)).mono ?_; rintro e w11 ⟨⟨z11, wz11, rfl⟩, s11, g11⟩; have qb := (qa.below (K0.below_new w10 _)).grown hcl s11 g11; have xb := qb.xb.alloc (.cells #[] 3); have e0 := xb.c0; have e1 := xb.c1; have e2 := xb.c2; have e3 := xb.c3; have f0 := xb.f0; have f1 := xb.f1; have f2 := xb.f2; have f3 := xb.f3)
          | (go_at_call 23; refine (pickNew hcode q9.q.st hlen (i16c sm.cl) (show 0 < 2 by decide) (show 2 ≤ 100 by decide)).mono ?_; rintro e w10 ⟨⟨z10, wz10, rfl⟩, s10, g10⟩; have qa := (q9.below (K0.below_new w9 _)).grown hcl s10 g10))
         go_meet
         have nE := K0.below_new w11 (.cells #[] 3)
         exact ⟨2, z10, z11, some ⟨w11.heap.size, 0, none⟩, [], 0, (qb.q.below nE).set4 hcl hn0 hX _ _ _ _, blk_set4 xb _ _ _ _, Or.inl rfl, ⟨by simp, by simp⟩, hX⟩
       case rest =>
        clear q9
        obtain ⟨kx, ox, tx, ax, zs, cx, qy⟩ := hcut
        have HX : Hid (∀ W, L4 w0 w c al len cap I d s k o t ai Z ci X kx ox tx ax zs cx W → W.cell? ⟨X, 0, none⟩ = some (.int .i64 kx) ∧ W.cell? ⟨X, 1, none⟩ = some (.int .i64 ox) ∧ W.cell? ⟨X, 2, none⟩ = some (.int .i64 tx) ∧ W.cell? ⟨X, 3, none⟩ = some (.slice ax zs.length cx)) := fun W h => ⟨h.xb.c0, h.xb.c1, h.xb.c2, h.xb.c3⟩
        have qz := qy.below (Below.refl _ _).drew
        have hS0 := HX.out _ qz
        clear qy
        go_wp2
        go_region_held3 (fun W => W.cell? ⟨X, 0, none⟩ = some (.int .i64 kx) ∧ W.cell? ⟨X, 1, none⟩ = some (.int .i64 ox) ∧ W.cell? ⟨X, 2, none⟩ = some (.int .i64 tx) ∧ W.cell? ⟨X, 3, none⟩ = some (.slice ax zs.length cx)) (assumption) ((first
         | (go_at_call 25; refine (cRec _ _).mono ?_; rintro e w12 ⟨⟨x12, rfl⟩, rfl⟩)
         | (go_at_call 54; refine (cPut _ _ _ _ _ zs _ qz.lx.1 qz.lx.2 qz.xr.row).mono ?_; rintro e w13 ⟨⟨u13, hu13, rfl⟩, b13⟩; have qz2 := qz.below b13; have hS2 := HX.out _ qz2)
         | (go_at_call 24; refine (cWith mem _ u13 _ hm hu13).mono ?_; rintro e w14 ⟨⟨u14, hu14, rfl⟩, b14⟩; have qz3 := qz2.below b14; have hS3 := HX.out _ qz3)))
        have q15 := qz3.q
        clear qz qz2 qz3 hS0 hS2 hS3 HX b13 b14 hX
        obtain ⟨V, hV⟩ : ∃ V, w14 = V := ⟨_, rfl⟩
        rw [hV] at q15 ⊢
        clear hV
        have nV := K0.below_new V (.cells #[] 3)
        have ib0 := J0.ibuf_made V (Nat.le_refl _)
        have rV : P0.Row (V.alloc (.cells #[] 3)) ai Z := q15.row.row.below nV
        have c3 := (q15.ib.alloc (.cells #[] 3)).c3
        have hn1 : P0.need (D.size : Int) ≤ 6 := by unfold P0.need; omega
        have HNd : Hid (∀ W, Calls Tryz.prog 53 #[.int .i64 (D.size : Int)] W fun e w' => e = .returned (.int .i64 (P0.need (D.size : Int))) ∧ w' = W) := fun W => P1.l03Need _ W (by omega) (by omega)
        generalize P0.need (D.size : Int) = nd at hn1 HNd
        go_upto_region 19 with (at_builtin; refine Q1.append_rows rfl (.tmp 101) (.tmp 103) rfl ib0 ai ci Z (by rfl) (by rfl) rV (by omega) nV.size ?_; intro a16 c16 w16 ib16 bel16)
        have l16 := (nV.trans bel16)
        clear ib0 rV c3 nV bel16
        go_loopg [14] (12 - Z.length) (fun gk v W => ∃ (a : Option Addr) (n cc : Nat) (P : List Int), n + gk = 12 ∧ v = .slice a n cc ∧ J0.IBuf V.heap.size W a n cc P ∧ Below V.heap.size V W)
        case atStart => exact ⟨a16, Z.length, c16, [] ++ Z, by omega, rfl, (by have h := ib16; rw [Nat.zero_add] at h; exact h), l16⟩
        case round =>
         obtain ⟨a17, n17, c17, P, hn17, rfl, ib17, l17⟩ := hrel
         clear ib16 l16
         by_cases hlt : (n17 : Int) < nd
         ·have nW := K0.below_new wr (.cells #[.int .i64 10] 3)
          have ib18 := ib17.below nW
          have r18 := C1.row_new wr [10] #[.int .i64 10] rfl
          have l18 := l17.trans (nW.mono l17.size)
          go_wp2_with (first
           | (go_at_call 53; refine (HNd.out _).mono ?_; rintro e w17 ⟨rfl, rfl⟩)
           | (at_builtin; refine Q1.append_rows rfl (.tmp 111) (.tmp 112) rfl ib18 (some ⟨_, 0, none⟩) 1 [10] (by rfl) (by rfl) r18 (by simp; omega) l18.size ?_; intro a19 c19 w19 ib19 bel19; have l19 := l18.trans bel19))
          go_roundg (gk - 1)
          case measure => omega
          case rel => exact ⟨a19, n17 + [10].length, c19, P ++ [10], by simp; omega, rfl, ib19, l19⟩
         ·have q17 := q15.below l17
          have hnP := ib17.1
          subst hnP
          have hfit := ib17.fits
          have ow17 := ib17.own
          have HS : Hid (∀ W, L3 w0 w c al len cap I d s k o t ai Z ci W → W.cell? ⟨w.heap.size, 0, none⟩ = some (.int .i64 d.ino) ∧ W.cell? ⟨I, 0, none⟩ = some (.int .i64 k) ∧ W.cell? ⟨I, 1, none⟩ = some (.int .i64 o)) := fun W h => ⟨h.lb.c0, h.ib.c0, h.ib.c1⟩
          have q18 := q17.drew
          have ow18 := ow17.drew
          have hS0 := HS.out _ q18
          clear ib17 l17 q17 ow17 q15
          go_wp2_with (go_at_call 53; refine (HNd.out _).mono ?_; rintro e w17 ⟨rfl, rfl⟩)
          clear HNd
          go_region_held3 (fun W => W.cell? ⟨w.heap.size, 0, none⟩ = some (.int .i64 d.ino) ∧ W.cell? ⟨I, 0, none⟩ = some (.int .i64 k) ∧ W.cell? ⟨I, 1, none⟩ = some (.int .i64 o)) (assumption) ((first
           | (go_at_call 25; refine (cRec _ _).mono ?_; rintro e w20 ⟨⟨x20, rfl⟩, rfl⟩)
           | (go_at_call 54; refine (cPut _ _ _ _ _ P _ (by omega) hfit ow18.row).mono ?_; rintro e w21 ⟨⟨u21, hu21, rfl⟩, b21⟩; have q21 := q18.below b21; have ow21 := ow18.below b21; have hS1 := HS.out _ q21)
           | (go_at_call 24; refine (cWith u14 _ u21 _ hu14 hu21).mono ?_; rintro e w22 ⟨⟨u22, hu22, rfl⟩, b22⟩; have q22 := q21.below b22; have ow22 := ow21.below b22; have hS2 := HS.out _ q22)))
          clear hS0 hS1 hS2 HS q18 ow18 q21 ow21 b21 b22
          have hz64 : (B4.zeros 64).size ≤ 64 := by rw [B4.zeros, if_pos (by decide), B4.nulls_size]; decide
          have HZ : Hid (∀ W, Calls Tryz.prog 27 #[.int .i64 64] W fun e w' => e = .returned (.string (B4.zeros 64)) ∧ w' = W) := fun W => B4.spec_Zeros 64 W
          generalize B4.zeros 64 = z64 at hz64 HZ
          go_wp2
          go_loopg [1, 15] P.length (fun gk v i W => ∃ (u : ByteArray) (j : Nat), j + gk = P.length ∧ i = .int .i64 j ∧ v = .string u ∧ u.size ≤ 768 ∧ J0.Own V.heap.size W a17 P ∧ L3 w0 w c al len cap I d s k o t ai Z ci W)
          case atStart => exact ⟨u22, 0, by omega, rfl, rfl, hu22, ow22, q22⟩
          case round =>
           obtain ⟨u, j, hj, rfl, rfl, hu, ow, q⟩ := hrel
           clear q22 ow22 hu22
           by_cases hjn : j < P.length
           ·obtain ⟨b, off, hab, hb1, hc1⟩ := (ow.drew).row.get hjn
            have y1 := hc1 j hjn
            obtain ⟨p, ep⟩ : ∃ p, P.getD j 0 = p := ⟨_, rfl⟩
            rw [ep] at y1
            subst hab
            have q23 := q.drew
            have ow23 := ow.drew
            have e1 : (0 : Int) ≤ (j : Int) := by omega
            have e2 : (j : Int) < (P.length : Int) := by omega
            have hwj : IntKind.i64.wrap ((j : Int) * 32) = (j : Int) * 32 := C1.wrap_of _ (by omega) (by omega)
            have s1 : ¬ (9223372036854775807 < D.size + z64.size) := by omega
            have hps : ∀ x : ByteArray, (B2.part x ((j : Int) * 32) 32).size ≤ 1000 := fun x => by
             unfold B2.part
             split
             ·rw [ByteArray.size_extract]; omega
             ·exact Nat.zero_le _
            have HPt : Hid (∀ W, Calls Tryz.prog 37 #[.string (D ++ z64), .int .i64 ((j : Int) * 32), .int .i64 32] W fun e w' => (∃ t : ByteArray, t.size ≤ 1000 ∧ e = .returned (.string t)) ∧ w' = W) := fun W => (B2.spec_Part (D ++ z64) ((j : Int) * 32) 32 W (by rw [ByteArray.size_append]; unfold maxLen; omega) (C1.wf_of _ (by omega) (by omega)) (by decide)).mono fun e w' ⟨he, hw⟩ => ⟨⟨_, hps _, he⟩, hw⟩
            clear ow q hc1 ep hps
            go_wp2
            go_region_held3 (fun W => W.cell? ⟨b, off + j, none⟩ = some (.int .i64 p)) (assumption) ((first
             | (go_at_call 27; refine (HZ.out _).mono ?_; rintro e w24 ⟨rfl, rfl⟩)
             | (go_at_call 37; refine (HPt.out _).mono ?_; rintro e w25 ⟨⟨t25, ht25, rfl⟩, rfl⟩)
             | (go_at_call 24; refine (cWith u _ t25 _ hu ht25).mono ?_; rintro e w26 ⟨⟨u26, hu26, rfl⟩, b26⟩; have q26 := q23.below b26; have ow26 := ow23.below b26; have y26 := (b26.cell (p := ⟨b, off + j, none⟩) hb1).trans y1)))
            go_wp2
            go_roundg (P.length - (j + 1))
            case measure => omega
            case rel => exact ⟨u26, j + 1, by omega, by go_num, rfl, hu26, ow26, q26⟩
           ·have e2 : ¬ ((j : Int) < (P.length : Int)) := by omega
            go_wp2
            go_ret
            exact ⟨⟨u, hu, rfl⟩, q.st, q.g⟩
     ·have hk2 : (k == 2) = false := by simpa using hk
      have c0 := q2.ib.c0
      go_wp2
      go_ret
      exact ⟨⟨mem, hm, rfl⟩, q2.st, q2.g⟩
   ·have e2' : (y == 2) = false := by simpa using fun h => e23 (Or.inl h)
    have e3' : (y == 3) = false := by simpa using fun h => e23 (Or.inr h)
    by_cases e4 : y = 4
    ·subst e4
     by_cases hk : k = 2
     ·have hk2 : (k == 2) = true := by simpa using hk
      clear hk
      by_cases hz : 0 < Z.length
      ·have hl : (0 : Int) < (Z.length : Int) := by omega
       obtain ⟨g, hg0⟩ : ∃ g, ai = some ⟨g, 0, none⟩ := by
        rcases q2.row with h0 | ⟨g, e, _, _, _⟩
        ·rw [h0] at hz; cases hz
        ·exact ⟨g, e⟩
       subst hg0
       have c0 := q2.ib.c0
       have c3 := q2.ib.c3
       go_upto_region 29 with (first
        | (go_at_call 23; refine (pickNew hcode q2.st hlen i28 (show 0 < 2 by decide) (show 2 ≤ 100 by decide)).mono ?_; rintro e w3 ⟨⟨z3, wz3, rfl⟩, s3, g3⟩; have q3 := (q2.below (K0.below_new w2 _)).grown hcl s3 g3)
        | (go_at_call 61; refine (pickTxtNew hcode q3.st hlen t28 (show 0 < 2 by decide) (show 2 ≤ 100 by decide)).mono ?_; rintro e w4 ⟨⟨x4, hx4, rfl⟩, s4, g4⟩; have q4 := (q3.below (K0.below_new w3 _)).grown hcl s4 g4)
        | (go_at_call 56; refine (T3.spec_PutDir (some ⟨w4.heap.size, 0, none⟩) 1 [(z3, x4)] _ (by simp) (by simp) (fits1 hx4) (row1 w4 z3 x4)).mono ?_; rintro e w5 ⟨rfl, b5⟩; have q5 := (q4.below (K0.below_new w4 (.cells #[.int .i64 z3, .string x4] 88))).below b5))
       have hd := C1.putD_size [(z3, x4)]
       generalize T0.putD [(z3, x4)] = D at hd ⊢
       have HS : Hid (∀ W, L3 w0 w c al len cap I d s k o t (some ⟨g, 0, none⟩) Z ci W → W.cell? ⟨w.heap.size, 0, none⟩ = some (.int .i64 d.ino) ∧ W.cell? ⟨I, 0, none⟩ = some (.int .i64 k) ∧ W.cell? ⟨I, 1, none⟩ = some (.int .i64 o) ∧ W.cell? ⟨I, 3, none⟩ = some (.slice (some ⟨g, 0, none⟩) Z.length ci)) := fun W h => ⟨h.lb.c0, h.ib.c0, h.ib.c1, h.ib.c3⟩
       have q6 := q5.drew
       have hS0 := HS.out _ q6
       have hr6 := (q6.cell0 hz).2
       have d1 : (1 : Int) ≤ (ci : Int) := by omega
       have d1n : 1 ≤ ci := by omega
       generalize Z.getD 0 0 = z0 at hr6
       clear q2 q3 q4 q5 c0 c3 b5 s3 g3 s4 g4
       go_wp2
       go_region_held3 (fun W => W.cell? ⟨w.heap.size, 0, none⟩ = some (.int .i64 d.ino) ∧ W.cell? ⟨I, 0, none⟩ = some (.int .i64 k) ∧ W.cell? ⟨I, 1, none⟩ = some (.int .i64 o) ∧ W.cell? ⟨I, 3, none⟩ = some (.slice (some ⟨g, 0, none⟩) Z.length ci)) (assumption) ((first
        | (go_at_call 25; refine (cRec _ _).mono ?_; rintro e w7 ⟨⟨x7, rfl⟩, rfl⟩)
        | (go_at_call 54; refine (cPut _ _ _ _ _ [z0] _ (by simp) (by simpa using d1n) hr6).mono ?_; rintro e w8 ⟨⟨u8, hu8, rfl⟩, b8⟩; have q8 := q6.below b8; have hS8 := HS.out _ q8)
        | (go_at_call 24; refine (cWith mem _ u8 _ hm hu8).mono ?_; rintro e w9 ⟨⟨u9, hu9, rfl⟩, b9⟩; have q9 := q8.below b9; have hS9 := HS.out _ q9)))
       have c3 := q9.ib.c3
       have c4 := (q9.cell0 hz).1
       clear hS0 hS8 hS9 HS hr6
       go_wp2_with (go_at_call 24; refine (cWith u9 _ D _ hu9 (by omega)).mono ?_; rintro e w10 ⟨⟨u10, hu10, rfl⟩, b10⟩; have q10 := q9.below b10)
       go_ret
       exact ⟨⟨u10, hu10, rfl⟩, q10.st, q10.g⟩
      ·have hl : ¬ ((0 : Int) < (Z.length : Int)) := by omega
       have c0 := q2.ib.c0
       have c3 := q2.ib.c3
       go_wp2
       go_ret
       exact ⟨⟨mem, hm, rfl⟩, q2.st, q2.g⟩
     ·have hk2 : (k == 2) = false := by simpa using hk
      have c0 := q2.ib.c0
      go_wp2
      go_ret
      exact ⟨⟨mem, hm, rfl⟩, q2.st, q2.g⟩
    ·have e4' : (y == 4) = false := by simpa using e4
     by_cases e5 : y = 5
     ·subst e5
      have p0 := q2.lb.c0
      go_wp2_with (first
       | (go_at_call 25; refine (cRec _ _).mono ?_; rintro e w3 ⟨⟨x3, rfl⟩, rfl⟩)
       | (go_at_call 44; refine (below_any hcode q2.st hlen 8 (by omega) (by omega)).mono ?_; rintro e w4 ⟨⟨x4, x40, x41, rfl⟩, s4, g4⟩; have q4 := q2.grown hcl s4 g4)
       | (go_at_call 57; refine (bytes_int hcode q4.st hlen 1 (by omega) (by omega)).mono ?_; rintro e w5 ⟨⟨u5, hu5, rfl⟩, s5, g5⟩; have q5 := q4.grown hcl s5 g5)
       | (go_at_call 24; refine (cWith mem _ u5 _ hm (by omega)).mono ?_; rintro e w6 ⟨⟨u6, hu6, rfl⟩, b6⟩; have q6 := q5.below b6))
      go_ret
      exact ⟨⟨u6, hu6, rfl⟩, q6.st, q6.g⟩
     ·have e5' : (y == 5) = false := by simpa using e5
      go_wp2_with (first
       | (go_at_call 44; refine (below_any hcode q2.st hlen 32 (by omega) (by omega)).mono ?_; rintro e w4 ⟨⟨x4, x40, x41, rfl⟩, s4, g4⟩; have q4 := q2.grown hcl s4 g4)
       | (go_at_call 57; refine (bytes_int hcode q4.st hlen 2 (by omega) (by omega)).mono ?_; rintro e w5 ⟨⟨u5, hu5, rfl⟩, s5, g5⟩; have q5 := q4.grown hcl s5 g5)
       | (go_at_call 24; refine (cWith mem _ u5 _ hm (by omega)).mono ?_; rintro e w6 ⟨⟨u6, hu6, rfl⟩, b6⟩; have q6 := q5.below b6))
      go_ret
      exact ⟨⟨u6, hu6, rfl⟩, q6.st, q6.g⟩
end Go.Proofs.YthbcefopbmkppaaGreat.LN
