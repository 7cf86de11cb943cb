/- Joined texts: plain facts and contracts. -/
import Derived.Test.YthbcefopbmkppaaGreatJlA
import Derived.Test.YthbcefopbmkppaaGreatJlK
import Derived.Deep.RegionHeld3
import Derived.Test.YthbcefopbmkppaaGreatJlI
set_option linter.unusedVariables false
set_option linter.unusedSimpArgs false
set_option maxRecDepth 10000
namespace Go.Proofs.YthbcefopbmkppaaGreat.N9
open Go.ChangeShapes Go.WideShapes Go.ChangeAt Go.RowKit
open N0 (Ln)
open N1 (Sl Lists Fit LB lb_new)
open N5 (pv oldE)
open N7 (tv tvs tObj)
variable {w W W' : World} {B : Nat}
theorem cells13 {v0 v1 v2 v3 v4 v5 v6 v7 v8 v9 v10 v11 v12 : Value} (h : K0.Blk B [v0, v1, v2, v3, v4, v5, v6, v7, v8, v9, v10, v11, v12] W) : W.cell? ⟨B, 0, none⟩ = some v0 ∧ W.cell? ⟨B, 1, none⟩ = some v1 ∧ W.cell? ⟨B, 2, none⟩ = some v2 ∧ W.cell? ⟨B, 3, none⟩ = some v3 ∧ W.cell? ⟨B, 4, none⟩ = some v4 ∧ W.cell? ⟨B, 5, none⟩ = some v5 ∧ W.cell? ⟨B, 6, none⟩ = some v6 ∧ W.cell? ⟨B, 7, none⟩ = some v7 ∧ W.cell? ⟨B, 8, none⟩ = some v8 ∧ W.cell? ⟨B, 9, none⟩ = some v9 ∧ W.cell? ⟨B, 10, none⟩ = some v10 ∧ W.cell? ⟨B, 11, none⟩ = some v11 ∧ W.cell? ⟨B, 12, none⟩ = some v12 := ⟨h.cell 0 (by simp), h.cell 1 (by simp), h.cell 2 (by simp), h.cell 3 (by simp), h.cell 4 (by simp), h.cell 5 (by simp), h.cell 6 (by simp), h.cell 7 (by simp), h.cell 8 (by simp), h.cell 9 (by simp), h.cell 10 (by simp), h.cell 11 (by simp), h.cell 12 (by simp)⟩
theorem free13 {v0 v1 v2 v3 v4 v5 v6 v7 v8 v9 v10 v11 v12 : Value} (h : K0.Blk B [v0, v1, v2, v3, v4, v5, v6, v7, v8, v9, v10, v11, v12] W) : W.frozen? ⟨B, 0, none⟩ = false ∧ W.frozen? ⟨B, 1, none⟩ = false ∧ W.frozen? ⟨B, 2, none⟩ = false ∧ W.frozen? ⟨B, 3, none⟩ = false ∧ W.frozen? ⟨B, 4, none⟩ = false ∧ W.frozen? ⟨B, 5, none⟩ = false ∧ W.frozen? ⟨B, 6, none⟩ = false ∧ W.frozen? ⟨B, 7, none⟩ = false ∧ W.frozen? ⟨B, 8, none⟩ = false ∧ W.frozen? ⟨B, 9, none⟩ = false ∧ W.frozen? ⟨B, 10, none⟩ = false ∧ W.frozen? ⟨B, 11, none⟩ = false ∧ W.frozen? ⟨B, 12, none⟩ = false := ⟨h.free 0 (by simp), h.free 1 (by simp), h.free 2 (by simp), h.free 3 (by simp), h.free 4 (by simp), h.free 5 (by simp), h.free 6 (by simp), h.free 7 (by simp), h.free 8 (by simp), h.free 9 (by simp), h.free 10 (by simp), h.free 11 (by simp), h.free 12 (by simp)⟩
abbrev W13 (W : World) (B : Nat) (y0 y1 y2 y3 y4 y5 y6 y7 y8 y9 y10 y11 y12 : Value) : World := (((((((((((((W.setCell ⟨B, 0, none⟩ y0).setCell ⟨B, 1, none⟩ y1).setCell ⟨B, 2, none⟩ y2).setCell ⟨B, 3, none⟩ y3).setCell ⟨B, 4, none⟩ y4).setCell ⟨B, 5, none⟩ y5).setCell ⟨B, 6, none⟩ y6).setCell ⟨B, 7, none⟩ y7).setCell ⟨B, 8, none⟩ y8).setCell ⟨B, 9, none⟩ y9).setCell ⟨B, 10, none⟩ y10).setCell ⟨B, 11, none⟩ y11).setCell ⟨B, 12, none⟩ y12)
theorem put13 {v0 v1 v2 v3 v4 v5 v6 v7 v8 v9 v10 v11 v12 : Value} (h : K0.Blk B [v0, v1, v2, v3, v4, v5, v6, v7, v8, v9, v10, v11, v12] W) (y0 y1 y2 y3 y4 y5 y6 y7 y8 y9 y10 y11 y12 : Value) : K0.Blk B [y0, y1, y2, y3, y4, y5, y6, y7, y8, y9, y10, y11, y12] (W13 W B y0 y1 y2 y3 y4 y5 y6 y7 y8 y9 y10 y11 y12) := (((((((((((((h.set 0 y0).set 1 y1).set 2 y2).set 3 y3).set 4 y4).set 5 y5).set 6 y6).set 7 y7).set 8 y8).set 9 y9).set 10 y10).set 11 y11).set 12 y12)
theorem other13 {B' : Nat} {vs : List Value} (h : K0.Blk B' vs W) (hne : B ≠ B') (y0 y1 y2 y3 y4 y5 y6 y7 y8 y9 y10 y11 y12 : Value) : K0.Blk B' vs (W13 W B y0 y1 y2 y3 y4 y5 y6 y7 y8 y9 y10 y11 y12) := (((((((((((((h.setOther hne 0 y0).setOther hne 1 y1).setOther hne 2 y2).setOther hne 3 y3).setOther hne 4 y4).setOther hne 5 y5).setOther hne 6 y6).setOther hne 7 y7).setOther hne 8 y8).setOther hne 9 y9).setOther hne 10 y10).setOther hne 11 y11).setOther hne 12 y12)
theorem bel13 {b : Nat} (h : Below b w W) (hb : b ≤ B) (y0 y1 y2 y3 y4 y5 y6 y7 y8 y9 y10 y11 y12 : Value) : Below b w (W13 W B y0 y1 y2 y3 y4 y5 y6 y7 y8 y9 y10 y11 y12) := (((((((((((((h.setCell (p := ⟨B, 0, none⟩) hb y0).setCell (p := ⟨B, 1, none⟩) hb y1).setCell (p := ⟨B, 2, none⟩) hb y2).setCell (p := ⟨B, 3, none⟩) hb y3).setCell (p := ⟨B, 4, none⟩) hb y4).setCell (p := ⟨B, 5, none⟩) hb y5).setCell (p := ⟨B, 6, none⟩) hb y6).setCell (p := ⟨B, 7, none⟩) hb y7).setCell (p := ⟨B, 8, none⟩) hb y8).setCell (p := ⟨B, 9, none⟩) hb y9).setCell (p := ⟨B, 10, none⟩) hb y10).setCell (p := ⟨B, 11, none⟩) hb y11).setCell (p := ⟨B, 12, none⟩) hb y12)
theorem own13 {base : Nat} {a : Option Addr} {zs : List Int} (h : J0.Own base W a zs) (hB : B < base) (y0 y1 y2 y3 y4 y5 y6 y7 y8 y9 y10 y11 y12 : Value) : J0.Own base (W13 W B y0 y1 y2 y3 y4 y5 y6 y7 y8 y9 y10 y11 y12) a zs := (((((((((((((h.set hB 0 y0).set hB 1 y1).set hB 2 y2).set hB 3 y3).set hB 4 y4).set hB 5 y5).set hB 6 y6).set hB 7 y7).set hB 8 y8).set hB 9 y9).set hB 10 y10).set hB 11 y11).set hB 12 y12)
theorem ownE13 {base : Nat} {a : Option Addr} {es : List T0.Ent} (h : V1.OwnE base W a es) (hB : B < base) (y0 y1 y2 y3 y4 y5 y6 y7 y8 y9 y10 y11 y12 : Value) : V1.OwnE base (W13 W B y0 y1 y2 y3 y4 y5 y6 y7 y8 y9 y10 y11 y12) a es := (N5.ownE_set (N5.ownE_set (N5.ownE_set (N5.ownE_set (N5.ownE_set (N5.ownE_set (N5.ownE_set (N5.ownE_set (N5.ownE_set (N5.ownE_set (N5.ownE_set (N5.ownE_set (N5.ownE_set h hB 0 y0) hB 1 y1) hB 2 y2) hB 3 y3) hB 4 y4) hB 5 y5) hB 6 y6) hB 7 y7) hB 8 y8) hB 9 y9) hB 10 y10) hB 11 y11) hB 12 y12)
def ln0 : Ln := ⟨0, 0, 0, ⟨#[]⟩, [], ⟨#[]⟩, [], []⟩
def sl0 : Sl := ⟨none, 0, none, 0, none, 0⟩
def Ans (d : Ln) (s : Sl) (w : World) (e : Ending) (w' : World) : Prop :=
 ∃ (k o t : Int) (a : Option Addr) (n c : Nat) (ae : Option Addr) (ne ce : Nat) (d' : Ln) (s' : Sl), e = .returned (.tuple #[tv k o t a n c ae ne ce d' s', .bool (N0.loanOk d)]) ∧ Below w.heap.size w w' ∧
  (N0.loanOk d = true → d' = d ∧ s' = s ∧ k = G0.gK d.rc ∧ o = G0.gO d.rc ∧ t = G0.gS d.rc ∧ n = (G0.gZ d.rc).length ∧ n ≤ c ∧ J0.Own w.heap.size w' a (G0.gZ d.rc) ∧ ne = (oldE d).length ∧ ne ≤ ce ∧ V1.OwnE w.heap.size w' ae (oldE d))
theorem ans_no {d : Ln} {s : Sl} {w w' : World} {k o t : Int} {a : Option Addr} {n c : Nat} {ae : Option Addr} {ne ce : Nat} {d' : Ln} {s' : Sl} (h : N0.loanOk d = false) (hb : Below w.heap.size w w') : Ans d s w (.returned (.tuple #[tv k o t a n c ae ne ce d' s', .bool false])) w' :=
 ⟨k, o, t, a, n, c, ae, ne, ce, d', s', by rw [h], hb, fun h' => by rw [h] at h'; cases h'⟩
theorem ans_yes {d : Ln} {s : Sl} {w w' : World} {k o t : Int} {a : Option Addr} {n c : Nat} {ae : Option Addr} {ne ce : Nat} (h : N0.loanOk d = true) (hb : Below w.heap.size w w') (hh : k = G0.gK d.rc ∧ o = G0.gO d.rc ∧ t = G0.gS d.rc ∧ n = (G0.gZ d.rc).length ∧ n ≤ c ∧ J0.Own w.heap.size w' a (G0.gZ d.rc) ∧ ne = (oldE d).length ∧ ne ≤ ce ∧ V1.OwnE w.heap.size w' ae (oldE d)) :
  Ans d s w (.returned (.tuple #[tv k o t a n c ae ne ce d s, .bool true])) w' :=
 ⟨k, o, t, a, n, c, ae, ne, ce, d, s, by rw [h], hb, fun _ => ⟨rfl, rfl, hh⟩⟩
structure RL (w : World) (d : Ln) (s : Sl) (W : World) : Prop where
 arg : LB w.heap.size d s W
 res : K0.Blk (w.heap.size + 1) (tvs 0 0 0 none 0 0 none 0 0 ln0 sl0) W
 bel : Below w.heap.size w W
variable {d : Ln} {s : Sl}
theorem RL.below (h : RL w d s W) (hb : Below W.heap.size W W') : RL w d s W' := ⟨h.arg.below hb, h.res.below hb, h.bel.trans (hb.mono h.bel.size)⟩
abbrev w00 (w : World) (d : Ln) (s : Sl) : World := (w.alloc (.cells #[.int .i64 d.ino, .int .i64 d.cl, .int .i64 d.un, .string d.rc, .slice s.a1 d.pg.length s.c1, .string d.sav, .slice s.a2 d.po.length s.c2, .slice s.a3 d.fr.length s.c3] 26)).alloc (.cells #[.int .i64 0, .int .i64 0, .int .i64 0, .slice none 0 0, .slice none 0 0, .int .i64 0, .int .i64 0, .int .i64 0, .string ⟨#[]⟩, .slice none 0 0, .string ⟨#[]⟩, .slice none 0 0, .slice none 0 0] 60)
theorem rl_new (w : World) (d : Ln) (s : Sl) : RL w d s (w00 w d s) :=
 ⟨⟨(K0.blk_new (N1.vals d s) w 26).alloc _⟩, K0.blk_at (tvs 0 0 0 none 0 0 none 0 0 ln0 sl0) _ 60 (by simp), ((Below.refl _ _).alloc (Nat.le_refl _) _).alloc (by simp) _⟩
theorem loanOk_frOk {d : Ln} (h : N0.past d = true) : N0.loanOk d = (N0.nums d && (((decide (d.po.length ≤ 4) && (N0.asc d.po && P0.pagesOk (G0.gZ d.rc ++ d.po)))) && N8.frOk (G0.gK d.rc) d)) := by
 rw [N0.loanOk, h, Bool.true_and]
 rfl
set_option maxHeartbeats 4000000 in
theorem readLoan (d : Ln) (s : Sl) (w : World) (hF : Fit d s) (hpo : d.po.length ≤ 1048576) (hfr : d.fr.length ≤ 1048576) (hR : Lists w d s) : Calls Tryz.prog 32 #[N1.val d s] w (Ans d s w) := by
 have r0 := rl_new w d s
 have HL : Hid (∀ W, Below w.heap.size w W → Lists W d s) := fun W hb => hR.below hb
 have HP : Hid (∀ W, Below w.heap.size w W → Calls Tryz.prog 47 #[N1.val d s] W (N5.Ans d W)) := fun W hb => N6.readPast d s W hF (hR.below hb)
 have hzl : (G0.gZ d.rc).length ≤ 12 := by
  unfold G0.gZ
  split
  ·rw [G0.pgs_length]; have := G0.cnt_le d.rc; omega
  ·exact Nat.zero_le _
 have HN : Hid (∀ k o t a n c ae ne ce d' s' w', N0.loanOk d = false → Below w.heap.size w w' → Ans d s w (.returned (.tuple #[tv k o t a n c ae ne ce d' s', .bool false])) w') := fun k o t a n c ae ne ce d' s' w' h hb => ans_no h hb
 have HY : Hid (∀ k o t a n c ae ne ce w', N0.loanOk d = true → Below w.heap.size w w' → (k = G0.gK d.rc ∧ o = G0.gO d.rc ∧ t = G0.gS d.rc ∧ n = (G0.gZ d.rc).length ∧ n ≤ c ∧ J0.Own w.heap.size w' a (G0.gZ d.rc) ∧ ne = (oldE d).length ∧ ne ≤ ce ∧ V1.OwnE w.heap.size w' ae (oldE d)) → Ans d s w (.returned (.tuple #[tv k o t a n c ae ne ce d s, .bool true])) w') := fun k o t a n c ae ne ce w' h hb hh => ans_yes h hb hh
 obtain ⟨R, hR'⟩ : ∃ R, Ans d s w = R := ⟨_, rfl⟩
 rw [hR'] at HN HY ⊢
 clear hR' hR hF
 cases hp : N0.past d with
 | false =>
  have HA : Hid (∀ W e w', N5.Ans d W e w' → ∃ (k o t : Int) (a : Option Addr) (n c : Nat) (ae : Option Addr) (ne ce : Nat), e = .returned (.tuple #[pv k o t a n c ae ne ce, .bool false]) ∧ Below W.heap.size W w') := fun W e w' ⟨k, o, t, a, n, c, ae, ne, ce, he, hb, _⟩ => ⟨k, o, t, a, n, c, ae, ne, ce, by rw [he, hp], hb⟩
  have hno : N0.loanOk d = false := by rw [N0.loanOk, hp]; rfl
  clear hp
  go_enter Tryz.func32, Tryz.ntmps32
  go_wp2_with (go_at_call 47; refine (HP.out _ r0.bel).mono ?_; intro e w1 hans; obtain ⟨k, o, t, a, n, c, ae, ne, ce, rfl, b1⟩ := HA.out _ _ _ hans; clear hans; have r1 := (r0.below b1).below (K0.below_new w1 (.cells #[.int .i64 k, .int .i64 o, .int .i64 t, .slice a n c, .slice ae ne ce] 58)); obtain ⟨i0, i1, i2, i3, i4, i5, i6, i7, i8, i9, i10, i11, i12⟩ := cells13 r1.res; obtain ⟨j0, j1, j2, j3, j4, j5, j6, j7, j8, j9, j10, j11, j12⟩ := free13 r1.res)
  have q := put13 r1.res (.int .i64 0) (.int .i64 0) (.int .i64 0) (.slice none 0 0) (.slice none 0 0) (.int .i64 0) (.int .i64 0) (.int .i64 0) (.string ⟨#[]⟩) (.slice none 0 0) (.string ⟨#[]⟩) (.slice none 0 0) (.slice none 0 0)
  obtain ⟨u0, u1, u2, u3, u4, u5, u6, u7, u8, u9, u10, u11, u12⟩ := cells13 q
  exact bodyPost_ret (v := .tuple #[tv 0 0 0 none 0 0 none 0 0 ln0 sl0, .bool false]) (by simp [results, Tryz.results32, go_sem, u0, u1, u2, u3, u4, u5, u6, u7, u8, u9, u10, u11, u12, ln0, sl0]) rfl (HN.out _ _ _ _ _ _ _ _ _ _ _ _ hno (bel13 r1.bel (by omega) _ _ _ _ _ _ _ _ _ _ _ _ _))
 | true =>
  have HA : Hid (∀ W e w', N5.Ans d W e w' → ∃ (k o t : Int) (a : Option Addr) (n c : Nat) (ae : Option Addr) (ne ce : Nat), e = .returned (.tuple #[pv k o t a n c ae ne ce, .bool true]) ∧ Below W.heap.size W w' ∧ Hid (k = G0.gK d.rc ∧ o = G0.gO d.rc ∧ t = G0.gS d.rc ∧ n = (G0.gZ d.rc).length ∧ n ≤ c ∧ J0.Own W.heap.size w' a (G0.gZ d.rc) ∧ ne = (oldE d).length ∧ ne ≤ ce ∧ V1.OwnE W.heap.size w' ae (oldE d))) := fun W e w' ⟨k, o, t, a, n, c, ae, ne, ce, he, hb, hh⟩ => ⟨k, o, t, a, n, c, ae, ne, ce, by rw [he, hp], hb, hh hp⟩
  have HLK : Hid (N0.loanOk d = (N0.nums d && (((decide (d.po.length ≤ 4) && (N0.asc d.po && P0.pagesOk (G0.gZ d.rc ++ d.po)))) && N8.frOk (G0.gK d.rc) d))) := loanOk_frOk hp
  clear hp
  go_enter Tryz.func32, Tryz.ntmps32
  go_wp2_with (go_at_call 47; refine (HP.out _ r0.bel).mono ?_; intro e w1 hans; obtain ⟨k, o, t, a, n, c, ae, ne, ce, rfl, b1, hh⟩ := HA.out _ _ _ hans; clear hans; have r1 := (r0.below b1).below (K0.below_new w1 (.cells #[.int .i64 k, .int .i64 o, .int .i64 t, .slice a n c, .slice ae ne ce] 58)); have y0 := r1.arg.c0; have y1 := r1.arg.c1; have y2 := r1.arg.c2; have y3 := r1.arg.c3; have y4 := r1.arg.c4; have y5 := r1.arg.c5; have y6 := r1.arg.c6; have y7 := r1.arg.c7)
  obtain ⟨hk, ho, ht, hn, hnc, hown, hne, hnce, hownE⟩ := hh.out
  clear hh
  subst hn
  have t2 := K0.blk_at (B := w1.heap.size + 1) (tvs k o t a (G0.gZ d.rc).length c ae ne ce d s) (w1.alloc (.cells #[.int .i64 k, .int .i64 o, .int .i64 t, .slice a (G0.gZ d.rc).length c, .slice ae ne ce] 58)) 60 (by simp)
  have r2 := r1.below (K0.below_new _ (tObj k o t a (G0.gZ d.rc).length c ae ne ce d s))
  have own2 := ((hown.alloc (.cells #[.int .i64 k, .int .i64 o, .int .i64 t, .slice a (G0.gZ d.rc).length c, .slice ae ne ce] 58)).alloc (tObj k o t a (G0.gZ d.rc).length c ae ne ce d s)).mono (base' := w.heap.size + 2) (by have := r0.res.lt; omega)
  have ownE2 := ((hownE.below (K0.below_new _ (.cells #[.int .i64 k, .int .i64 o, .int .i64 t, .slice a (G0.gZ d.rc).length c, .slice ae ne ce] 58))).below (K0.below_new _ (tObj k o t a (G0.gZ d.rc).length c ae ne ce d s))).mono (base' := w.heap.size + 2) (by have := r0.res.lt; omega)
  have hb6 : w.heap.size + 2 ≤ w1.heap.size + 1 := by have := b1.size; simp at this; omega
  have HNum : Hid (∀ W, Calls Tryz.prog 48 #[tv k o t a (G0.gZ d.rc).length c ae ne ce d s] W fun e w' => e = .returned (.bool (N0.nums d)) ∧ Below W.heap.size W w') := fun W => N7.numbersOk _ _ _ _ _ _ _ _ _ _ _ W
  have HPl : Hid (∀ W, P0.Row W a (G0.gZ d.rc) → P0.Row W s.a2 d.po → Calls Tryz.prog 49 #[tv k o t a (G0.gZ d.rc).length c ae ne ce d s] W fun e w' => e = .returned (.bool (decide (d.po.length ≤ 4) && (N0.asc d.po && P0.pagesOk (G0.gZ d.rc ++ d.po)))) ∧ Below W.heap.size W w') := fun W h1 h2 => N7.poolOk _ _ _ _ _ _ _ _ _ _ _ W hzl hpo h1 h2
  have HFr : Hid (∀ W, P0.Row W s.a3 d.fr → Calls Tryz.prog 50 #[tv k o t a (G0.gZ d.rc).length c ae ne ce d s] W fun e w' => e = .returned (.bool (N8.frOk k d)) ∧ Below W.heap.size W w') := fun W h => N8.freshOk _ _ _ _ _ _ _ _ _ _ _ W hfr h
  have HE : Hid (∀ W, Below w.heap.size w W → J0.Own (w.heap.size + 2) W a (G0.gZ d.rc) → V1.OwnE (w.heap.size + 2) W ae (oldE d) → N0.loanOk d = true → R (.returned (.tuple #[tv k o t a (G0.gZ d.rc).length c ae ne ce d s, .bool true])) W) := fun W hb h1 h2 hl => HY.out _ _ _ _ _ _ _ _ _ _ hl hb ⟨hk, ho, ht, rfl, hnc, h1.mono (by omega), hne, hnce, h2.mono (by omega)⟩
  rw [← hk] at HLK
  obtain ⟨Bo, hBo⟩ : ∃ Bo, w1.heap.size + 1 = Bo := ⟨_, rfl⟩
  obtain ⟨W2, hW2⟩ : ∃ W2, (w1.alloc (.cells #[.int .i64 k, .int .i64 o, .int .i64 t, .slice a (G0.gZ d.rc).length c, .slice ae ne ce] 58)).alloc (tObj k o t a (G0.gZ d.rc).length c ae ne ce d s) = W2 := ⟨_, rfl⟩
  rw [hBo] at hb6
  rw [hBo, hW2] at t2
  rw [hW2] at r2 own2 ownE2
  simp only [hBo]
  rw [hW2]
  obtain ⟨pl, hpl⟩ : ∃ pl, (decide (d.po.length ≤ 4) && (N0.asc d.po && P0.pagesOk (G0.gZ d.rc ++ d.po))) = pl := ⟨_, rfl⟩
  obtain ⟨fl, hfl⟩ : ∃ fl, N8.frOk k d = fl := ⟨_, rfl⟩
  obtain ⟨nu, hnu⟩ : ∃ nu, N0.nums d = nu := ⟨_, rfl⟩
  rw [hpl] at HPl
  rw [hfl] at HFr
  rw [hnu] at HNum
  rw [hpl, hfl, hnu] at HLK
  obtain ⟨Z, hZ⟩ : ∃ Z, G0.gZ d.rc = Z := ⟨_, rfl⟩
  rw [hZ] at own2 t2 HPl HFr HNum HE
  simp only [hZ]
  clear hpl hfl hnu hBo hW2 hk ho ht hne hnce hown hownE hnc y0 y1 y2 y3 y4 y5 y6 y7 HA HP HY hzl hpo hfr r0 r1 b1 hZ
  have bd : Below W2.heap.size W2 W2.drew := (Below.refl _ _).drew
  replace t2 := t2.below bd
  replace r2 := r2.below bd
  replace own2 := own2.below bd
  replace ownE2 := ownE2.below bd
  have s2 := cells13 t2
  clear bd
  cases nu with
  | false =>
   refine wp_region_held (S := fun W => W.cell? ⟨Bo, 0, none⟩ = some (.int .i64 k) ∧ W.cell? ⟨Bo, 1, none⟩ = some (.int .i64 o) ∧ W.cell? ⟨Bo, 2, none⟩ = some (.int .i64 t) ∧ W.cell? ⟨Bo, 3, none⟩ = some (.slice a Z.length c) ∧ W.cell? ⟨Bo, 4, none⟩ = some (.slice ae ne ce) ∧ W.cell? ⟨Bo, 5, none⟩ = some (.int .i64 d.ino) ∧ W.cell? ⟨Bo, 6, none⟩ = some (.int .i64 d.cl) ∧ W.cell? ⟨Bo, 7, none⟩ = some (.int .i64 d.un) ∧ W.cell? ⟨Bo, 8, none⟩ = some (.string d.rc) ∧ W.cell? ⟨Bo, 9, none⟩ = some (.slice s.a1 d.pg.length s.c1) ∧ W.cell? ⟨Bo, 10, none⟩ = some (.string d.sav) ∧ W.cell? ⟨Bo, 11, none⟩ = some (.slice s.a2 d.po.length s.c2) ∧ W.cell? ⟨Bo, 12, none⟩ = some (.slice s.a3 d.fr.length s.c3)) (by kernel_rfl) ?_
   refine wpAnyH_take (i := 0) (v := tv k o t a Z.length c ae ne ce d s) rfl (by kernel_rfl) (by kernel_rfl) (by kernel_rfl) (fun _ _ _ h => h) (Or.inl ⟨by rfl, fun w' hS' => ?_⟩) s2 ?_
   ·obtain ⟨q0, q1, q2, q3, q4, q5, q6, q7, q8, q9, q10, q11, q12⟩ := hS'
    go_simp
   simp only [BZ.z, Act.put, Nat.reduceAdd]
   refine wpAnyH_take (i := 1) (v := tv k o t a Z.length c ae ne ce d s) rfl (by kernel_rfl) (by kernel_rfl) (by kernel_rfl) (fun _ _ _ h => h) (Or.inl ⟨by rfl, fun w' hS' => ?_⟩) s2 ?_
   ·obtain ⟨q0, q1, q2, q3, q4, q5, q6, q7, q8, q9, q10, q11, q12⟩ := hS'
    go_simp
   simp only [BZ.z, Act.put, Nat.reduceAdd]
   refine Y0.one_callw (i := 2) (by kernel_rfl) rfl (by rfl) (.tmp 19) _ rfl (tv k o t a Z.length c ae ne ce d s) (by rfl) (enters_of Tryz.func48 (by kernel_rfl) rfl) ((HNum.out _).mono ?_)
   rintro e w3 ⟨rfl, b3⟩
   have t3 := t2.below b3; have r3 := r2.below b3; have own3 := own2.below b3; have ownE3 := ownE2.below b3; have s3 := cells13 t3
   refine ⟨_, rfl, s3, ?_⟩
   simp only [BZ.z, Act.put, Nat.reduceAdd]
   refine wpAnyH_take (i := 3) (v := .bool false) rfl (by kernel_rfl) (by kernel_rfl) (by kernel_rfl) (fun _ _ _ h => h) (Or.inl ⟨by rfl, fun w' hS' => by rfl⟩) s3 ?_
   simp only [BZ.z, Act.put, Nat.reduceAdd]
   refine wpAnyH_take (i := 4) (v := undef) rfl (by kernel_rfl) (by kernel_rfl) (by kernel_rfl) (fun _ _ _ h => h) (Or.inr ⟨by rfl, rfl⟩) s3 ?_
   simp only [BZ.z, Act.put, Nat.reduceAdd]
   refine wpAnyH_take (i := 5) (v := undef) rfl (by kernel_rfl) (by kernel_rfl) (by kernel_rfl) (fun _ _ _ h => h) (Or.inr ⟨by rfl, rfl⟩) s3 ?_
   simp only [BZ.z, Act.put, Nat.reduceAdd]
   refine wpAnyH_take (i := 6) (v := .bool false) rfl (by kernel_rfl) (by kernel_rfl) (by kernel_rfl) (fun _ _ _ h => h) (Or.inl ⟨by rfl, fun w' hS' => by rfl⟩) s3 ?_
   simp only [BZ.z, Act.put, Nat.reduceAdd]
   refine wpAnyH_take (i := 7) (v := .bool false) rfl (by kernel_rfl) (by kernel_rfl) (by kernel_rfl) (fun _ _ _ h => h) (Or.inl ⟨by rfl, fun w' hS' => by rfl⟩) s3 ?_
   simp only [BZ.z, Act.put, Nat.reduceAdd]
   refine wpAnyH_take (i := 8) (v := undef) rfl (by kernel_rfl) (by kernel_rfl) (by kernel_rfl) (fun _ _ _ h => h) (Or.inr ⟨by rfl, rfl⟩) s3 ?_
   simp only [BZ.z, Act.put, Nat.reduceAdd]
   refine wpAnyH_take (i := 9) (v := undef) rfl (by kernel_rfl) (by kernel_rfl) (by kernel_rfl) (fun _ _ _ h => h) (Or.inr ⟨by rfl, rfl⟩) s3 ?_
   simp only [BZ.z, Act.put, Nat.reduceAdd]
   refine wpAnyH_take (i := 10) (v := .bool false) rfl (by kernel_rfl) (by kernel_rfl) (by kernel_rfl) (fun _ _ _ h => h) (Or.inl ⟨by rfl, fun w' hS' => by rfl⟩) s3 ?_
   simp only [BZ.z, Act.put, Nat.reduceAdd]
   obtain ⟨i0, i1, i2, i3, i4, i5, i6, i7, i8, i9, i10, i11, i12⟩ := cells13 r3.res
   obtain ⟨j0, j1, j2, j3, j4, j5, j6, j7, j8, j9, j10, j11, j12⟩ := free13 r3.res
   have tq := cells13 (other13 t3 (B := w.heap.size + 1) (by omega) (.int .i64 k) (.int .i64 o) (.int .i64 t) (.slice a Z.length c) (.slice ae ne ce) (.int .i64 d.ino) (.int .i64 d.cl) (.int .i64 d.un) (.string d.rc) (.slice s.a1 d.pg.length s.c1) (.string d.sav) (.slice s.a2 d.po.length s.c2) (.slice s.a3 d.fr.length s.c3))
   refine Y0.one_skip (i := 11) (w' := W13 w3 (w.heap.size + 1) (.int .i64 k) (.int .i64 o) (.int .i64 t) (.slice a Z.length c) (.slice ae ne ce) (.int .i64 d.ino) (.int .i64 d.cl) (.int .i64 d.un) (.string d.rc) (.slice s.a1 d.pg.length s.c1) (.string d.sav) (.slice s.a2 d.po.length s.c2) (.slice s.a3 d.fr.length s.c3)) (by kernel_rfl) rfl (by rfl) ?_ tq ?_
   ·go_simp
   simp only [BZ.z, Act.put, Nat.reduceAdd]
   refine wpAnyH_take (i := 12) (v := .bool false) rfl (by kernel_rfl) (by kernel_rfl) (by kernel_rfl) (fun _ _ _ h => h) (Or.inl ⟨by rfl, fun w' hS' => by rfl⟩) tq ?_
   simp only [BZ.z, Act.put, Nat.reduceAdd]
   refine wpAnyH_done (by kernel_rfl) ?_ _
   obtain ⟨u0, u1, u2, u3, u4, u5, u6, u7, u8, u9, u10, u11, u12⟩ := cells13 (put13 r3.res (.int .i64 k) (.int .i64 o) (.int .i64 t) (.slice a Z.length c) (.slice ae ne ce) (.int .i64 d.ino) (.int .i64 d.cl) (.int .i64 d.un) (.string d.rc) (.slice s.a1 d.pg.length s.c1) (.string d.sav) (.slice s.a2 d.po.length s.c2) (.slice s.a3 d.fr.length s.c3))
   go_wp2
   refine bodyPost_ret (v := .tuple #[tv k o t a Z.length c ae ne ce d s, .bool false]) (by simp [results, Tryz.results32, go_sem, u0, u1, u2, u3, u4, u5, u6, u7, u8, u9, u10, u11, u12]) rfl ?_
   exact HN.out _ _ _ _ _ _ _ _ _ _ _ _ (HLK.out.trans (by simp)) (bel13 r3.bel (by omega) _ _ _ _ _ _ _ _ _ _ _ _ _)
  | true =>
   cases pl with
   | false =>
    refine wp_region_held (S := fun W => W.cell? ⟨Bo, 0, none⟩ = some (.int .i64 k) ∧ W.cell? ⟨Bo, 1, none⟩ = some (.int .i64 o) ∧ W.cell? ⟨Bo, 2, none⟩ = some (.int .i64 t) ∧ W.cell? ⟨Bo, 3, none⟩ = some (.slice a Z.length c) ∧ W.cell? ⟨Bo, 4, none⟩ = some (.slice ae ne ce) ∧ W.cell? ⟨Bo, 5, none⟩ = some (.int .i64 d.ino) ∧ W.cell? ⟨Bo, 6, none⟩ = some (.int .i64 d.cl) ∧ W.cell? ⟨Bo, 7, none⟩ = some (.int .i64 d.un) ∧ W.cell? ⟨Bo, 8, none⟩ = some (.string d.rc) ∧ W.cell? ⟨Bo, 9, none⟩ = some (.slice s.a1 d.pg.length s.c1) ∧ W.cell? ⟨Bo, 10, none⟩ = some (.string d.sav) ∧ W.cell? ⟨Bo, 11, none⟩ = some (.slice s.a2 d.po.length s.c2) ∧ W.cell? ⟨Bo, 12, none⟩ = some (.slice s.a3 d.fr.length s.c3)) (by kernel_rfl) ?_
    refine wpAnyH_take (i := 0) (v := tv k o t a Z.length c ae ne ce d s) rfl (by kernel_rfl) (by kernel_rfl) (by kernel_rfl) (fun _ _ _ h => h) (Or.inl ⟨by rfl, fun w' hS' => ?_⟩) s2 ?_
    ·obtain ⟨q0, q1, q2, q3, q4, q5, q6, q7, q8, q9, q10, q11, q12⟩ := hS'
     go_simp
    simp only [BZ.z, Act.put, Nat.reduceAdd]
    refine wpAnyH_take (i := 1) (v := tv k o t a Z.length c ae ne ce d s) rfl (by kernel_rfl) (by kernel_rfl) (by kernel_rfl) (fun _ _ _ h => h) (Or.inl ⟨by rfl, fun w' hS' => ?_⟩) s2 ?_
    ·obtain ⟨q0, q1, q2, q3, q4, q5, q6, q7, q8, q9, q10, q11, q12⟩ := hS'
     go_simp
    simp only [BZ.z, Act.put, Nat.reduceAdd]
    refine Y0.one_callw (i := 2) (by kernel_rfl) rfl (by rfl) (.tmp 19) _ rfl (tv k o t a Z.length c ae ne ce d s) (by rfl) (enters_of Tryz.func48 (by kernel_rfl) rfl) ((HNum.out _).mono ?_)
    rintro e w3 ⟨rfl, b3⟩
    have t3 := t2.below b3; have r3 := r2.below b3; have own3 := own2.below b3; have ownE3 := ownE2.below b3; have s3 := cells13 t3
    refine ⟨_, rfl, s3, ?_⟩
    simp only [BZ.z, Act.put, Nat.reduceAdd]
    refine wpAnyH_take (i := 3) (v := .bool true) rfl (by kernel_rfl) (by kernel_rfl) (by kernel_rfl) (fun _ _ _ h => h) (Or.inl ⟨by rfl, fun w' hS' => by rfl⟩) s3 ?_
    simp only [BZ.z, Act.put, Nat.reduceAdd]
    refine wpAnyH_take (i := 4) (v := tv k o t a Z.length c ae ne ce d s) rfl (by kernel_rfl) (by kernel_rfl) (by kernel_rfl) (fun _ _ _ h => h) (Or.inl ⟨by rfl, fun w' hS' => ?_⟩) s3 ?_
    ·obtain ⟨q0, q1, q2, q3, q4, q5, q6, q7, q8, q9, q10, q11, q12⟩ := hS'
     go_simp
    simp only [BZ.z, Act.put, Nat.reduceAdd]
    refine Y0.one_callw (i := 5) (by kernel_rfl) rfl (by rfl) (.tmp 22) _ rfl (tv k o t a Z.length c ae ne ce d s) (by rfl) (enters_of Tryz.func49 (by kernel_rfl) rfl) ((HPl.out _ own3.row (HL.out _ r3.bel).r2).mono ?_)
    rintro e w4 ⟨rfl, b4⟩
    have t4 := t3.below b4; have r4 := r3.below b4; have own4 := own3.below b4; have ownE4 := ownE3.below b4; have s4 := cells13 t4
    refine ⟨_, rfl, s4, ?_⟩
    simp only [BZ.z, Act.put, Nat.reduceAdd]
    refine wpAnyH_take (i := 6) (v := .bool false) rfl (by kernel_rfl) (by kernel_rfl) (by kernel_rfl) (fun _ _ _ h => h) (Or.inl ⟨by rfl, fun w' hS' => by rfl⟩) s4 ?_
    simp only [BZ.z, Act.put, Nat.reduceAdd]
    refine wpAnyH_take (i := 7) (v := .bool false) rfl (by kernel_rfl) (by kernel_rfl) (by kernel_rfl) (fun _ _ _ h => h) (Or.inl ⟨by rfl, fun w' hS' => by rfl⟩) s4 ?_
    simp only [BZ.z, Act.put, Nat.reduceAdd]
    refine wpAnyH_take (i := 8) (v := undef) rfl (by kernel_rfl) (by kernel_rfl) (by kernel_rfl) (fun _ _ _ h => h) (Or.inr ⟨by rfl, rfl⟩) s4 ?_
    simp only [BZ.z, Act.put, Nat.reduceAdd]
    refine wpAnyH_take (i := 9) (v := undef) rfl (by kernel_rfl) (by kernel_rfl) (by kernel_rfl) (fun _ _ _ h => h) (Or.inr ⟨by rfl, rfl⟩) s4 ?_
    simp only [BZ.z, Act.put, Nat.reduceAdd]
    refine wpAnyH_take (i := 10) (v := .bool false) rfl (by kernel_rfl) (by kernel_rfl) (by kernel_rfl) (fun _ _ _ h => h) (Or.inl ⟨by rfl, fun w' hS' => by rfl⟩) s4 ?_
    simp only [BZ.z, Act.put, Nat.reduceAdd]
    obtain ⟨i0, i1, i2, i3, i4, i5, i6, i7, i8, i9, i10, i11, i12⟩ := cells13 r4.res
    obtain ⟨j0, j1, j2, j3, j4, j5, j6, j7, j8, j9, j10, j11, j12⟩ := free13 r4.res
    have tq := cells13 (other13 t4 (B := w.heap.size + 1) (by omega) (.int .i64 k) (.int .i64 o) (.int .i64 t) (.slice a Z.length c) (.slice ae ne ce) (.int .i64 d.ino) (.int .i64 d.cl) (.int .i64 d.un) (.string d.rc) (.slice s.a1 d.pg.length s.c1) (.string d.sav) (.slice s.a2 d.po.length s.c2) (.slice s.a3 d.fr.length s.c3))
    refine Y0.one_skip (i := 11) (w' := W13 w4 (w.heap.size + 1) (.int .i64 k) (.int .i64 o) (.int .i64 t) (.slice a Z.length c) (.slice ae ne ce) (.int .i64 d.ino) (.int .i64 d.cl) (.int .i64 d.un) (.string d.rc) (.slice s.a1 d.pg.length s.c1) (.string d.sav) (.slice s.a2 d.po.length s.c2) (.slice s.a3 d.fr.length s.c3)) (by kernel_rfl) rfl (by rfl) ?_ tq ?_
    ·go_simp
    simp only [BZ.z, Act.put, Nat.reduceAdd]
    refine wpAnyH_take (i := 12) (v := .bool false) rfl (by kernel_rfl) (by kernel_rfl) (by kernel_rfl) (fun _ _ _ h => h) (Or.inl ⟨by rfl, fun w' hS' => by rfl⟩) tq ?_
    simp only [BZ.z, Act.put, Nat.reduceAdd]
    refine wpAnyH_done (by kernel_rfl) ?_ _
    obtain ⟨u0, u1, u2, u3, u4, u5, u6, u7, u8, u9, u10, u11, u12⟩ := cells13 (put13 r4.res (.int .i64 k) (.int .i64 o) (.int .i64 t) (.slice a Z.length c) (.slice ae ne ce) (.int .i64 d.ino) (.int .i64 d.cl) (.int .i64 d.un) (.string d.rc) (.slice s.a1 d.pg.length s.c1) (.string d.sav) (.slice s.a2 d.po.length s.c2) (.slice s.a3 d.fr.length s.c3))
    go_wp2
    refine bodyPost_ret (v := .tuple #[tv k o t a Z.length c ae ne ce d s, .bool false]) (by simp [results, Tryz.results32, go_sem, u0, u1, u2, u3, u4, u5, u6, u7, u8, u9, u10, u11, u12]) rfl ?_
    exact HN.out _ _ _ _ _ _ _ _ _ _ _ _ (HLK.out.trans (by simp)) (bel13 r4.bel (by omega) _ _ _ _ _ _ _ _ _ _ _ _ _)
   | true =>
    cases fl with
    | false =>
     refine wp_region_held (S := fun W => W.cell? ⟨Bo, 0, none⟩ = some (.int .i64 k) ∧ W.cell? ⟨Bo, 1, none⟩ = some (.int .i64 o) ∧ W.cell? ⟨Bo, 2, none⟩ = some (.int .i64 t) ∧ W.cell? ⟨Bo, 3, none⟩ = some (.slice a Z.length c) ∧ W.cell? ⟨Bo, 4, none⟩ = some (.slice ae ne ce) ∧ W.cell? ⟨Bo, 5, none⟩ = some (.int .i64 d.ino) ∧ W.cell? ⟨Bo, 6, none⟩ = some (.int .i64 d.cl) ∧ W.cell? ⟨Bo, 7, none⟩ = some (.int .i64 d.un) ∧ W.cell? ⟨Bo, 8, none⟩ = some (.string d.rc) ∧ W.cell? ⟨Bo, 9, none⟩ = some (.slice s.a1 d.pg.length s.c1) ∧ W.cell? ⟨Bo, 10, none⟩ = some (.string d.sav) ∧ W.cell? ⟨Bo, 11, none⟩ = some (.slice s.a2 d.po.length s.c2) ∧ W.cell? ⟨Bo, 12, none⟩ = some (.slice s.a3 d.fr.length s.c3)) (by kernel_rfl) ?_
     refine wpAnyH_take (i := 0) (v := tv k o t a Z.length c ae ne ce d s) rfl (by kernel_rfl) (by kernel_rfl) (by kernel_rfl) (fun _ _ _ h => h) (Or.inl ⟨by rfl, fun w' hS' => ?_⟩) s2 ?_
     ·obtain ⟨q0, q1, q2, q3, q4, q5, q6, q7, q8, q9, q10, q11, q12⟩ := hS'
      go_simp
     simp only [BZ.z, Act.put, Nat.reduceAdd]
     refine wpAnyH_take (i := 1) (v := tv k o t a Z.length c ae ne ce d s) rfl (by kernel_rfl) (by kernel_rfl) (by kernel_rfl) (fun _ _ _ h => h) (Or.inl ⟨by rfl, fun w' hS' => ?_⟩) s2 ?_
     ·obtain ⟨q0, q1, q2, q3, q4, q5, q6, q7, q8, q9, q10, q11, q12⟩ := hS'
      go_simp
     simp only [BZ.z, Act.put, Nat.reduceAdd]
     refine Y0.one_callw (i := 2) (by kernel_rfl) rfl (by rfl) (.tmp 19) _ rfl (tv k o t a Z.length c ae ne ce d s) (by rfl) (enters_of Tryz.func48 (by kernel_rfl) rfl) ((HNum.out _).mono ?_)
     rintro e w3 ⟨rfl, b3⟩
     have t3 := t2.below b3; have r3 := r2.below b3; have own3 := own2.below b3; have ownE3 := ownE2.below b3; have s3 := cells13 t3
     refine ⟨_, rfl, s3, ?_⟩
     simp only [BZ.z, Act.put, Nat.reduceAdd]
     refine wpAnyH_take (i := 3) (v := .bool true) rfl (by kernel_rfl) (by kernel_rfl) (by kernel_rfl) (fun _ _ _ h => h) (Or.inl ⟨by rfl, fun w' hS' => by rfl⟩) s3 ?_
     simp only [BZ.z, Act.put, Nat.reduceAdd]
     refine wpAnyH_take (i := 4) (v := tv k o t a Z.length c ae ne ce d s) rfl (by kernel_rfl) (by kernel_rfl) (by kernel_rfl) (fun _ _ _ h => h) (Or.inl ⟨by rfl, fun w' hS' => ?_⟩) s3 ?_
     ·obtain ⟨q0, q1, q2, q3, q4, q5, q6, q7, q8, q9, q10, q11, q12⟩ := hS'
      go_simp
     simp only [BZ.z, Act.put, Nat.reduceAdd]
     refine Y0.one_callw (i := 5) (by kernel_rfl) rfl (by rfl) (.tmp 22) _ rfl (tv k o t a Z.length c ae ne ce d s) (by rfl) (enters_of Tryz.func49 (by kernel_rfl) rfl) ((HPl.out _ own3.row (HL.out _ r3.bel).r2).mono ?_)
     rintro e w4 ⟨rfl, b4⟩
     have t4 := t3.below b4; have r4 := r3.below b4; have own4 := own3.below b4; have ownE4 := ownE3.below b4; have s4 := cells13 t4
     refine ⟨_, rfl, s4, ?_⟩
     simp only [BZ.z, Act.put, Nat.reduceAdd]
     refine wpAnyH_take (i := 6) (v := .bool true) rfl (by kernel_rfl) (by kernel_rfl) (by kernel_rfl) (fun _ _ _ h => h) (Or.inl ⟨by rfl, fun w' hS' => by rfl⟩) s4 ?_
     simp only [BZ.z, Act.put, Nat.reduceAdd]
     refine wpAnyH_take (i := 7) (v := .bool true) rfl (by kernel_rfl) (by kernel_rfl) (by kernel_rfl) (fun _ _ _ h => h) (Or.inl ⟨by rfl, fun w' hS' => by rfl⟩) s4 ?_
     simp only [BZ.z, Act.put, Nat.reduceAdd]
     refine wpAnyH_take (i := 8) (v := tv k o t a Z.length c ae ne ce d s) rfl (by kernel_rfl) (by kernel_rfl) (by kernel_rfl) (fun _ _ _ h => h) (Or.inl ⟨by rfl, fun w' hS' => ?_⟩) s4 ?_
     ·obtain ⟨q0, q1, q2, q3, q4, q5, q6, q7, q8, q9, q10, q11, q12⟩ := hS'
      go_simp
     simp only [BZ.z, Act.put, Nat.reduceAdd]
     refine Y0.one_callw (i := 9) (by kernel_rfl) rfl (by rfl) (.tmp 26) _ rfl (tv k o t a Z.length c ae ne ce d s) (by rfl) (enters_of Tryz.func50 (by kernel_rfl) rfl) ((HFr.out _ (HL.out _ r4.bel).r3).mono ?_)
     rintro e w5 ⟨rfl, b5⟩
     have t5 := t4.below b5; have r5 := r4.below b5; have own5 := own4.below b5; have ownE5 := ownE4.below b5; have s5 := cells13 t5
     refine ⟨_, rfl, s5, ?_⟩
     simp only [BZ.z, Act.put, Nat.reduceAdd]
     refine wpAnyH_take (i := 10) (v := .bool false) rfl (by kernel_rfl) (by kernel_rfl) (by kernel_rfl) (fun _ _ _ h => h) (Or.inl ⟨by rfl, fun w' hS' => by rfl⟩) s5 ?_
     simp only [BZ.z, Act.put, Nat.reduceAdd]
     obtain ⟨i0, i1, i2, i3, i4, i5, i6, i7, i8, i9, i10, i11, i12⟩ := cells13 r5.res
     obtain ⟨j0, j1, j2, j3, j4, j5, j6, j7, j8, j9, j10, j11, j12⟩ := free13 r5.res
     have tq := cells13 (other13 t5 (B := w.heap.size + 1) (by omega) (.int .i64 k) (.int .i64 o) (.int .i64 t) (.slice a Z.length c) (.slice ae ne ce) (.int .i64 d.ino) (.int .i64 d.cl) (.int .i64 d.un) (.string d.rc) (.slice s.a1 d.pg.length s.c1) (.string d.sav) (.slice s.a2 d.po.length s.c2) (.slice s.a3 d.fr.length s.c3))
     refine Y0.one_skip (i := 11) (w' := W13 w5 (w.heap.size + 1) (.int .i64 k) (.int .i64 o) (.int .i64 t) (.slice a Z.length c) (.slice ae ne ce) (.int .i64 d.ino) (.int .i64 d.cl) (.int .i64 d.un) (.string d.rc) (.slice s.a1 d.pg.length s.c1) (.string d.sav) (.slice s.a2 d.po.length s.c2) (.slice s.a3 d.fr.length s.c3)) (by kernel_rfl) rfl (by rfl) ?_ tq ?_
     ·go_simp
     simp only [BZ.z, Act.put, Nat.reduceAdd]
     refine wpAnyH_take (i := 12) (v := .bool false) rfl (by kernel_rfl) (by kernel_rfl) (by kernel_rfl) (fun _ _ _ h => h) (Or.inl ⟨by rfl, fun w' hS' => by rfl⟩) tq ?_
     simp only [BZ.z, Act.put, Nat.reduceAdd]
     refine wpAnyH_done (by kernel_rfl) ?_ _
     obtain ⟨u0, u1, u2, u3, u4, u5, u6, u7, u8, u9, u10, u11, u12⟩ := cells13 (put13 r5.res (.int .i64 k) (.int .i64 o) (.int .i64 t) (.slice a Z.length c) (.slice ae ne ce) (.int .i64 d.ino) (.int .i64 d.cl) (.int .i64 d.un) (.string d.rc) (.slice s.a1 d.pg.length s.c1) (.string d.sav) (.slice s.a2 d.po.length s.c2) (.slice s.a3 d.fr.length s.c3))
     go_wp2
     refine bodyPost_ret (v := .tuple #[tv k o t a Z.length c ae ne ce d s, .bool false]) (by simp [results, Tryz.results32, go_sem, u0, u1, u2, u3, u4, u5, u6, u7, u8, u9, u10, u11, u12]) rfl ?_
     exact HN.out _ _ _ _ _ _ _ _ _ _ _ _ (HLK.out.trans (by simp)) (bel13 r5.bel (by omega) _ _ _ _ _ _ _ _ _ _ _ _ _)
    | true =>
     refine wp_region_held (S := fun W => W.cell? ⟨Bo, 0, none⟩ = some (.int .i64 k) ∧ W.cell? ⟨Bo, 1, none⟩ = some (.int .i64 o) ∧ W.cell? ⟨Bo, 2, none⟩ = some (.int .i64 t) ∧ W.cell? ⟨Bo, 3, none⟩ = some (.slice a Z.length c) ∧ W.cell? ⟨Bo, 4, none⟩ = some (.slice ae ne ce) ∧ W.cell? ⟨Bo, 5, none⟩ = some (.int .i64 d.ino) ∧ W.cell? ⟨Bo, 6, none⟩ = some (.int .i64 d.cl) ∧ W.cell? ⟨Bo, 7, none⟩ = some (.int .i64 d.un) ∧ W.cell? ⟨Bo, 8, none⟩ = some (.string d.rc) ∧ W.cell? ⟨Bo, 9, none⟩ = some (.slice s.a1 d.pg.length s.c1) ∧ W.cell? ⟨Bo, 10, none⟩ = some (.string d.sav) ∧ W.cell? ⟨Bo, 11, none⟩ = some (.slice s.a2 d.po.length s.c2) ∧ W.cell? ⟨Bo, 12, none⟩ = some (.slice s.a3 d.fr.length s.c3)) (by kernel_rfl) ?_
     refine wpAnyH_take (i := 0) (v := tv k o t a Z.length c ae ne ce d s) rfl (by kernel_rfl) (by kernel_rfl) (by kernel_rfl) (fun _ _ _ h => h) (Or.inl ⟨by rfl, fun w' hS' => ?_⟩) s2 ?_
     ·obtain ⟨q0, q1, q2, q3, q4, q5, q6, q7, q8, q9, q10, q11, q12⟩ := hS'
      go_simp
     simp only [BZ.z, Act.put, Nat.reduceAdd]
     refine wpAnyH_take (i := 1) (v := tv k o t a Z.length c ae ne ce d s) rfl (by kernel_rfl) (by kernel_rfl) (by kernel_rfl) (fun _ _ _ h => h) (Or.inl ⟨by rfl, fun w' hS' => ?_⟩) s2 ?_
     ·obtain ⟨q0, q1, q2, q3, q4, q5, q6, q7, q8, q9, q10, q11, q12⟩ := hS'
      go_simp
     simp only [BZ.z, Act.put, Nat.reduceAdd]
     refine Y0.one_callw (i := 2) (by kernel_rfl) rfl (by rfl) (.tmp 19) _ rfl (tv k o t a Z.length c ae ne ce d s) (by rfl) (enters_of Tryz.func48 (by kernel_rfl) rfl) ((HNum.out _).mono ?_)
     rintro e w3 ⟨rfl, b3⟩
     have t3 := t2.below b3; have r3 := r2.below b3; have own3 := own2.below b3; have ownE3 := ownE2.below b3; have s3 := cells13 t3
     refine ⟨_, rfl, s3, ?_⟩
     simp only [BZ.z, Act.put, Nat.reduceAdd]
     refine wpAnyH_take (i := 3) (v := .bool true) rfl (by kernel_rfl) (by kernel_rfl) (by kernel_rfl) (fun _ _ _ h => h) (Or.inl ⟨by rfl, fun w' hS' => by rfl⟩) s3 ?_
     simp only [BZ.z, Act.put, Nat.reduceAdd]
     refine wpAnyH_take (i := 4) (v := tv k o t a Z.length c ae ne ce d s) rfl (by kernel_rfl) (by kernel_rfl) (by kernel_rfl) (fun _ _ _ h => h) (Or.inl ⟨by rfl, fun w' hS' => ?_⟩) s3 ?_
     ·obtain ⟨q0, q1, q2, q3, q4, q5, q6, q7, q8, q9, q10, q11, q12⟩ := hS'
      go_simp
     simp only [BZ.z, Act.put, Nat.reduceAdd]
     refine Y0.one_callw (i := 5) (by kernel_rfl) rfl (by rfl) (.tmp 22) _ rfl (tv k o t a Z.length c ae ne ce d s) (by rfl) (enters_of Tryz.func49 (by kernel_rfl) rfl) ((HPl.out _ own3.row (HL.out _ r3.bel).r2).mono ?_)
     rintro e w4 ⟨rfl, b4⟩
     have t4 := t3.below b4; have r4 := r3.below b4; have own4 := own3.below b4; have ownE4 := ownE3.below b4; have s4 := cells13 t4
     refine ⟨_, rfl, s4, ?_⟩
     simp only [BZ.z, Act.put, Nat.reduceAdd]
     refine wpAnyH_take (i := 6) (v := .bool true) rfl (by kernel_rfl) (by kernel_rfl) (by kernel_rfl) (fun _ _ _ h => h) (Or.inl ⟨by rfl, fun w' hS' => by rfl⟩) s4 ?_
     simp only [BZ.z, Act.put, Nat.reduceAdd]
     refine wpAnyH_take (i := 7) (v := .bool true) rfl (by kernel_rfl) (by kernel_rfl) (by kernel_rfl) (fun _ _ _ h => h) (Or.inl ⟨by rfl, fun w' hS' => by rfl⟩) s4 ?_
     simp only [BZ.z, Act.put, Nat.reduceAdd]
     refine wpAnyH_take (i := 8) (v := tv k o t a Z.length c ae ne ce d s) rfl (by kernel_rfl) (by kernel_rfl) (by kernel_rfl) (fun _ _ _ h => h) (Or.inl ⟨by rfl, fun w' hS' => ?_⟩) s4 ?_
     ·obtain ⟨q0, q1, q2, q3, q4, q5, q6, q7, q8, q9, q10, q11, q12⟩ := hS'
      go_simp
     simp only [BZ.z, Act.put, Nat.reduceAdd]
     refine Y0.one_callw (i := 9) (by kernel_rfl) rfl (by rfl) (.tmp 26) _ rfl (tv k o t a Z.length c ae ne ce d s) (by rfl) (enters_of Tryz.func50 (by kernel_rfl) rfl) ((HFr.out _ (HL.out _ r4.bel).r3).mono ?_)
     rintro e w5 ⟨rfl, b5⟩
     have t5 := t4.below b5; have r5 := r4.below b5; have own5 := own4.below b5; have ownE5 := ownE4.below b5; have s5 := cells13 t5
     refine ⟨_, rfl, s5, ?_⟩
     simp only [BZ.z, Act.put, Nat.reduceAdd]
     refine wpAnyH_take (i := 10) (v := .bool true) rfl (by kernel_rfl) (by kernel_rfl) (by kernel_rfl) (fun _ _ _ h => h) (Or.inl ⟨by rfl, fun w' hS' => by rfl⟩) s5 ?_
     simp only [BZ.z, Act.put, Nat.reduceAdd]
     obtain ⟨i0, i1, i2, i3, i4, i5, i6, i7, i8, i9, i10, i11, i12⟩ := cells13 r5.res
     obtain ⟨j0, j1, j2, j3, j4, j5, j6, j7, j8, j9, j10, j11, j12⟩ := free13 r5.res
     have tq := cells13 (other13 t5 (B := w.heap.size + 1) (by omega) (.int .i64 k) (.int .i64 o) (.int .i64 t) (.slice a Z.length c) (.slice ae ne ce) (.int .i64 d.ino) (.int .i64 d.cl) (.int .i64 d.un) (.string d.rc) (.slice s.a1 d.pg.length s.c1) (.string d.sav) (.slice s.a2 d.po.length s.c2) (.slice s.a3 d.fr.length s.c3))
     refine Y0.one_skip (i := 11) (w' := W13 w5 (w.heap.size + 1) (.int .i64 k) (.int .i64 o) (.int .i64 t) (.slice a Z.length c) (.slice ae ne ce) (.int .i64 d.ino) (.int .i64 d.cl) (.int .i64 d.un) (.string d.rc) (.slice s.a1 d.pg.length s.c1) (.string d.sav) (.slice s.a2 d.po.length s.c2) (.slice s.a3 d.fr.length s.c3)) (by kernel_rfl) rfl (by rfl) ?_ tq ?_
     ·go_simp
     simp only [BZ.z, Act.put, Nat.reduceAdd]
     refine wpAnyH_take (i := 12) (v := .bool true) rfl (by kernel_rfl) (by kernel_rfl) (by kernel_rfl) (fun _ _ _ h => h) (Or.inl ⟨by rfl, fun w' hS' => by rfl⟩) tq ?_
     simp only [BZ.z, Act.put, Nat.reduceAdd]
     refine wpAnyH_done (by kernel_rfl) ?_ _
     obtain ⟨u0, u1, u2, u3, u4, u5, u6, u7, u8, u9, u10, u11, u12⟩ := cells13 (put13 r5.res (.int .i64 k) (.int .i64 o) (.int .i64 t) (.slice a Z.length c) (.slice ae ne ce) (.int .i64 d.ino) (.int .i64 d.cl) (.int .i64 d.un) (.string d.rc) (.slice s.a1 d.pg.length s.c1) (.string d.sav) (.slice s.a2 d.po.length s.c2) (.slice s.a3 d.fr.length s.c3))
     go_wp2
     refine bodyPost_ret (v := .tuple #[tv k o t a Z.length c ae ne ce d s, .bool true]) (by simp [results, Tryz.results32, go_sem, u0, u1, u2, u3, u4, u5, u6, u7, u8, u9, u10, u11, u12]) rfl ?_
     exact HE.out _ (bel13 r5.bel (by omega) _ _ _ _ _ _ _ _ _ _ _ _ _) (own13 own5 (by omega) _ _ _ _ _ _ _ _ _ _ _ _ _) (ownE13 ownE5 (by omega) _ _ _ _ _ _ _ _ _ _ _ _ _) (HLK.out.trans rfl)
end Go.Proofs.YthbcefopbmkppaaGreat.N9
