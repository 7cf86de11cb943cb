/- Joined texts: plain facts and contracts. -/
import Derived.Test.YthbcefopbmkppaaGreatJlA
import Derived.Test.YthbcefopbmkppaaGreatJlX
import Derived.Test.YthbcefopbmkppaaGreatJlY
import Derived.Test.YthbcefopbmkppaaGreatJlN
import Derived.Test.YthbcefopbmkppaaGreatJlW
import Derived.Deep.RegionHeld3
import Derived.Deep.LoopGhost
import Derived.Deep.DeepCutAuto
import Derived.BigQuiet
set_option linter.unusedVariables false
set_option linter.unusedSimpArgs false
set_option maxRecDepth 10000
namespace Go.Proofs.YthbcefopbmkppaaGreat.LR
open Go.ChangeShapes Go.WideShapes Go.ChangeAt Go.RowKit
open C0 (Given)
open N0 (Ln loanOk)
open N1 (Sl Lists Fit)
open LM (Sm)
open N13 (undo undone)
open WI (rl within)
open HP (at_ cov)
open R6 (rg nR)
theorem tr {w wk w' : World} (f : Below w.heap.size w wk) (b : Below wk.heap.size wk w') : Below w.heap.size w w' := f.trans (b.mono f.size)
theorem below_drewN (W : World) (n : Nat) : Below W.heap.size W (W.drewN n) := K0.below_drewN (Below.refl _ _) n
theorem fit {d : Ln} {s : Sl} (h : Sm d) : Fit d s := ⟨by have := h.pg; omega, h.rc, by have := h.sav; omega⟩
set_option maxHeartbeats 2000000 in
theorem sameRanges (a1 a2 : Option Addr) (c1 c2 n : Nat) (zs : List Int) (w : World) (hz : zs.length = n * 2) (hn : n ≤ 1048576) (h1 : P0.Row w a1 zs) (h2 : P0.Row w a2 zs) :
  Calls Tryz.prog 10 #[.slice a1 n c1, .slice a2 n c2] w fun e w' => e = .returned (.bool true) ∧ ∃ m, w' = w.drewN m := by
 go_enter Tryz.func10, Tryz.ntmps10
 go_wp2
 go_loopw [5] (fun i w' => ∃ k m : Nat, k ≤ n ∧ w' = w.drewN m ∧ i = .int .i64 k) (fun i _ => n - (intOf i).toNat)
 case atStart => exact ⟨0, 0, Nat.zero_le _, rfl, rfl⟩
 case round =>
  obtain ⟨k, m, hk, rfl, rfl⟩ := hrel
  by_cases hlt : k < n
  ·have e1 : (0 : Int) ≤ (k : Int) := by omega
   have e2 : (k : Int) < (n : Int) := by omega
   obtain ⟨b1, off1, rfl, hb1, hc1⟩ := h1.get (show k * 2 + 1 < zs.length by omega)
   obtain ⟨b2, off2, rfl, hb2, hc2⟩ := h2.get (show k * 2 + 1 < zs.length by omega)
   have x1 := hc1 (k * 2) (by omega)
   have x2 := hc1 (k * 2 + 1) (by omega)
   have x3 := hc2 (k * 2) (by omega)
   have x4 := hc2 (k * 2 + 1) (by omega)
   obtain ⟨u, eu⟩ : ∃ u, zs.getD (k * 2) 0 = u := ⟨_, rfl⟩
   obtain ⟨v, ev⟩ : ∃ v, zs.getD (k * 2 + 1) 0 = v := ⟨_, rfl⟩
   rw [eu] at x1 x3
   rw [ev] at x2 x4
   rw [← Nat.add_assoc] at x2 x4
   clear eu ev hc1 hc2 h1 h2
   go_wp2
   go_quiet (fail)
   go_wp2
   go_roundw
   case rel => exact ⟨k + 1, _, by omega, rfl, by go_num⟩
   case measure => simp [intOf]; omega
  ·clear h1 h2
   go_wp2
   go_ret
   exact ⟨rfl, _, rfl⟩
structure LZ (w : World) (B X : Nat) (d d2 : Ln) (s s2 : Sl) (ar : Option Addr) (W : World) : Prop where
 lb : K0.Blk B (N1.vals d s) W
 xb : K0.Blk X (N1.vals d2 s2) W
 l1 : Lists W d s
 l2 : Lists W d2 s2
 rr : P0.Row W ar (rg d)
 bel : Below w.heap.size w W
theorem LZ.below {w W W' : World} {B X : Nat} {d d2 : Ln} {s s2 : Sl} {ar : Option Addr} (h : LZ w B X d d2 s s2 ar W) (hb : Below W.heap.size W W') : LZ w B X d d2 s s2 ar W' := ⟨h.lb.below hb, h.xb.below hb, h.l1.below hb, h.l2.below hb, h.rr.below hb, tr h.bel hb⟩
set_option maxHeartbeats 0 in
set_option maxRecDepth 100000 in
theorem walk_small (a : Option Addr) (len cap : Nat) (w : World) (hc : Given w a len) (hl : len ≤ 1048576) :
  Calls Tryz.prog 3 #[.slice a len cap] w fun e w' => e = .returned (.bool true) ∧ Below w.heap.size w w' := by
 have hbig : ¬ 1048576 < (len : Int) := by omega
 go_enter Tryz.func3, Tryz.ntmps3
 go_upto_region 7 with (first
  | (go_at_call 4; refine (Q0.big_no a len cap w hbig).mono ?_; rintro e wb ⟨rfl, rfl⟩)
  | (go_at_call 5; refine (LQ.drawUndo hc hl).mono ?_; rintro e w1 ⟨m, d, s, rfl, hm, sm, lw, f1⟩; have n1 := K0.below_new w1 (.cells #[.int .i64 d.ino, .int .i64 d.cl, .int .i64 d.un, .string d.rc, .slice s.a1 d.pg.length s.c1, .string d.sav, .slice s.a2 d.po.length s.c2, .slice s.a3 d.fr.length s.c3] 26); have k1 := K0.blk_new (N1.vals d s) w1 26; have L1 := lw.lists.below n1; have F1 := tr f1 n1; have hF : Fit d s := fit sm; have hpo : d.po.length ≤ 1048576 := (by have := sm.po; omega); have hfr : d.fr.length ≤ 1048576 := (by have := sm.fr; omega); obtain ⟨t0, t1, t2, t3, t4, t5, t6, t7⟩ := LO.LB8.cells k1)
  | (go_at_call 6; refine (N13.impl_Undo m d s _ (by omega) hF hpo hfr L1).mono ?_; rintro e w2 ⟨rfl, b2⟩; have L2 := L1.below b2; have F2 := tr F1 b2; have k2 := k1.below b2; obtain ⟨t0, t1, t2, t3, t4, t5, t6, t7⟩ := LO.LB8.cells k2)
  | (go_at_call 7; refine (R6.impl_Ranges d s _ hF hpo hfr L2).mono ?_; rintro e w3 ⟨ar, cr, rfl, hrl, hrc, or, b3⟩; have L3 := L2.below b3; have F3 := tr F2 b3; have k3 := k2.below b3; have r3 := or.row)
  | (go_at_call 8; refine (LQ.drawWithin (hc.below F3) hl).mono ?_; rintro e w4 ⟨d2, s2, i, n, rfl, sm2, lw2, b4⟩; have n4 := K0.below_new w4 (.cells #[.int .i64 d2.ino, .int .i64 d2.cl, .int .i64 d2.un, .string d2.rc, .slice s2.a1 d2.pg.length s2.c1, .string d2.sav, .slice s2.a2 d2.po.length s2.c2, .slice s2.a3 d2.fr.length s2.c3] 26)))
 have fz : LZ wb w1.heap.size w4.heap.size d d2 s s2 ar (w4.alloc (.cells #[.int .i64 d2.ino, .int .i64 d2.cl, .int .i64 d2.un, .string d2.rc, .slice s2.a1 d2.pg.length s2.c1, .string d2.sav, .slice s2.a2 d2.po.length s2.c2, .slice s2.a3 d2.fr.length s2.c3] 26)) := ⟨(k3.below b4).below n4, K0.blk_new (N1.vals d2 s2) w4 26, (L3.below b4).below n4, lw2.lists.below n4, (r3.below b4).below n4, tr (tr F3 b4) n4⟩
 have hF2 : Fit d2 s2 := fit sm2
 have hpo2 : d2.po.length ≤ 1048576 := by have := sm2.po; omega
 have hfr2 : d2.fr.length ≤ 1048576 := by have := sm2.fr; omega
 generalize (w4.alloc (.cells #[.int .i64 d2.ino, .int .i64 d2.cl, .int .i64 d2.un, .string d2.rc, .slice s2.a1 d2.pg.length s2.c1, .string d2.sav, .slice s2.a2 d2.po.length s2.c2, .slice s2.a3 d2.fr.length s2.c3] 26)) = W5 at fz ⊢
 generalize w1.heap.size = B at fz ⊢
 generalize w4.heap.size = X at fz ⊢
 clear n1 k1 L1 F1 t0 t1 t2 t3 t4 t5 t6 t7 b2 L2 F2 k2 or b3 L3 F3 k3 r3 lw2 b4 n4 f1 lw sm2
 have hnR : nR d ≤ 13 := by rw [← WI.rl_len]; exact WI.rl_small d
 have hUs : (undo m d).size ≤ 768 := by rw [LP.undo_size]; exact hm
 have sU : Hid (∀ W, LZ wb B X d d2 s s2 ar W → Calls Tryz.prog 9 #[.string m, N1.val d s] W fun e w' => e = .returned (.string (undo m d)) ∧ Below W.heap.size W w') := fun W h => N14.spec_Undo m d s W (by omega) hF hpo hfr h.l1
 have sR : Hid (∀ W, LZ wb B X d d2 s s2 ar W → Calls Tryz.prog 11 #[N1.val d s] W fun e w' => ∃ a2 c2, e = .returned (.slice a2 (nR d) c2) ∧ P0.Row w' a2 (rg d) ∧ Below W.heap.size W w') := fun W h => (R6.spec_Ranges d s W hF hpo hfr h.l1).mono fun e w' ⟨a2, c2, he, _, _, ho, hb⟩ => ⟨a2, c2, he, ho.row, hb⟩
 have sS : Hid (∀ a2 c2 W, P0.Row W ar (rg d) → P0.Row W a2 (rg d) → Calls Tryz.prog 10 #[.slice ar (nR d) cr, .slice a2 (nR d) c2] W fun e w' => e = .returned (.bool true) ∧ ∃ m, w' = W.drewN m) := fun a2 c2 W h1 h2 => sameRanges ar a2 cr c2 (nR d) (rg d) W hrl (by omega) h1 h2
 have iW : Hid (∀ W, LZ wb B X d d2 s s2 ar W → Calls Tryz.prog 12 #[N1.val d2 s2, .int .i64 i, .int .i64 n] W fun e w' => e = .returned (.bool (within d2 i n)) ∧ Below W.heap.size W w') := fun W h => WI.impl_Within d2 s2 i n W hF2 hpo2 hfr2 h.l2
 have sW : Hid (∀ W, LZ wb B X d d2 s s2 ar W → Calls Tryz.prog 13 #[N1.val d2 s2, .int .i64 i, .int .i64 n] W fun e w' => e = .returned (.bool (within d2 i n)) ∧ Below W.heap.size W w') := fun W h => WI.spec_Within d2 s2 i n W hF2 hpo2 hfr2 h.l2
 have iV : Hid (∀ (k : Int) W, LZ wb B X d d2 s s2 ar W → Calls Tryz.prog 12 #[N1.val d s, .int .i64 k, .int .i64 1] W fun e w' => e = .returned (.bool (within d k 1)) ∧ Below W.heap.size W w') := fun k W h => WI.impl_Within d s k 1 W hF hpo hfr h.l1
 have iL : Hid (∀ W, LZ wb B X d d2 s s2 ar W → Calls Tryz.prog 14 #[N1.val d s] W fun e w' => e = .returned (.bool (loanOk d)) ∧ Below W.heap.size W w') := fun W h => N10.impl_LoanOk d s W hF hpo hfr h.l1
 have sL : Hid (∀ W, LZ wb B X d d2 s s2 ar W → Calls Tryz.prog 15 #[N1.val d s] W fun e w' => e = .returned (.bool (loanOk d)) ∧ Below W.heap.size W w') := fun W h => N11.spec_LoanOk d s W hF hpo hfr h.l1
 have iU : Hid (∀ W, LZ wb B X d d2 s s2 ar W → Calls Tryz.prog 6 #[.string (undo m d), N1.val d s] W fun e w' => e = .returned (.string (undo m d)) ∧ Below W.heap.size W w') := fun W h => by
  have := N13.impl_Undo (undo m d) d s W (by omega) hF hpo hfr h.l1
  rwa [LP.undo_twice] at this
 have HN : Hid (¬ (loanOk d = true ∧ m.size = 768) → undo m d = m) := fun h => if_neg h
 have HY : Hid (loanOk d = true → m.size = 768 → undo m d = undone m d) := fun h1 h2 => if_pos ⟨h1, h2⟩
 have HSz : Hid ((undo m d).size = m.size) := LP.undo_size m d
 generalize hU : undo m d = U at *
 generalize within d2 i n = wi at *
 generalize hlo : loanOk d = lo at *
 have HLo : Hid (loanOk d = lo) := hlo
 clear hlo hU hF hF2 hpo hfr hpo2 hfr2 hrl hrc sm
 have HS : Hid (∀ W, LZ wb B X d d2 s s2 ar W → (W.cell? ⟨B, 0, none⟩ = some (.int .i64 d.ino) ∧ W.cell? ⟨B, 1, none⟩ = some (.int .i64 d.cl) ∧ W.cell? ⟨B, 2, none⟩ = some (.int .i64 d.un) ∧ W.cell? ⟨B, 3, none⟩ = some (.string d.rc) ∧ W.cell? ⟨B, 4, none⟩ = some (.slice s.a1 d.pg.length s.c1) ∧ W.cell? ⟨B, 5, none⟩ = some (.string d.sav) ∧ W.cell? ⟨B, 6, none⟩ = some (.slice s.a2 d.po.length s.c2) ∧ W.cell? ⟨B, 7, none⟩ = some (.slice s.a3 d.fr.length s.c3)) ∧ W.cell? ⟨X, 0, none⟩ = some (.int .i64 d2.ino) ∧ W.cell? ⟨X, 1, none⟩ = some (.int .i64 d2.cl) ∧ W.cell? ⟨X, 2, none⟩ = some (.int .i64 d2.un) ∧ W.cell? ⟨X, 3, none⟩ = some (.string d2.rc) ∧ W.cell? ⟨X, 4, none⟩ = some (.slice s2.a1 d2.pg.length s2.c1) ∧ W.cell? ⟨X, 5, none⟩ = some (.string d2.sav) ∧ W.cell? ⟨X, 6, none⟩ = some (.slice s2.a2 d2.po.length s2.c2) ∧ W.cell? ⟨X, 7, none⟩ = some (.slice s2.a3 d2.fr.length s2.c3)) := fun W h => ⟨LO.LB8.cells h.lb, LO.LB8.cells h.xb⟩
 have qd := fz.below (Below.refl _ _).drew
 have s0 := HS.out _ qd
 clear fz
 go_wp2
 refine wp_region_held (S := fun W => (W.cell? ⟨B, 0, none⟩ = some (.int .i64 d.ino) ∧ W.cell? ⟨B, 1, none⟩ = some (.int .i64 d.cl) ∧ W.cell? ⟨B, 2, none⟩ = some (.int .i64 d.un) ∧ W.cell? ⟨B, 3, none⟩ = some (.string d.rc) ∧ W.cell? ⟨B, 4, none⟩ = some (.slice s.a1 d.pg.length s.c1) ∧ W.cell? ⟨B, 5, none⟩ = some (.string d.sav) ∧ W.cell? ⟨B, 6, none⟩ = some (.slice s.a2 d.po.length s.c2) ∧ W.cell? ⟨B, 7, none⟩ = some (.slice s.a3 d.fr.length s.c3)) ∧ W.cell? ⟨X, 0, none⟩ = some (.int .i64 d2.ino) ∧ W.cell? ⟨X, 1, none⟩ = some (.int .i64 d2.cl) ∧ W.cell? ⟨X, 2, none⟩ = some (.int .i64 d2.un) ∧ W.cell? ⟨X, 3, none⟩ = some (.string d2.rc) ∧ W.cell? ⟨X, 4, none⟩ = some (.slice s2.a1 d2.pg.length s2.c1) ∧ W.cell? ⟨X, 5, none⟩ = some (.string d2.sav) ∧ W.cell? ⟨X, 6, none⟩ = some (.slice s2.a2 d2.po.length s2.c2) ∧ W.cell? ⟨X, 7, none⟩ = some (.slice s2.a3 d2.fr.length s2.c3)) (by kernel_rfl) ?_
 refine wpAnyH_take (i := 0) (v := .string U) rfl (by kernel_rfl) (by kernel_rfl) (by kernel_rfl) (fun _ _ _ h => h) (Or.inl ⟨by rfl, fun w' hS' => by rfl⟩) (HS.out _ qd) ?_
 simp only [BZ.z, Act.put, Nat.reduceAdd]
 refine wpAnyH_take (i := 1) (v := .string m) rfl (by kernel_rfl) (by kernel_rfl) (by kernel_rfl) (fun _ _ _ h => h) (Or.inl ⟨by rfl, fun w' hS' => by rfl⟩) (HS.out _ qd) ?_
 simp only [BZ.z, Act.put, Nat.reduceAdd]
 refine wpAnyH_take (i := 2) (v := .agg #[.int .i64 d.ino, .int .i64 d.cl, .int .i64 d.un, .string d.rc, .slice s.a1 d.pg.length s.c1, .string d.sav, .slice s.a2 d.po.length s.c2, .slice s.a3 d.fr.length s.c3]) rfl (by kernel_rfl) (by kernel_rfl) (by kernel_rfl) (fun _ _ _ h => h) (Or.inl ⟨by rfl, fun w' hS' => ?_⟩) (HS.out _ qd) ?_
 ·obtain ⟨⟨p0, p1, p2, p3, p4, p5, p6, p7⟩, r0, r1, r2, r3, r4, r5, r6, r7⟩ := hS'
  go_simp
 simp only [BZ.z, Act.put, Nat.reduceAdd]
 refine Y0.one_call2w (i := 3) (by kernel_rfl) rfl (by rfl) (.tmp 32) (.tmp 33) _ rfl (.string m) (.agg #[.int .i64 d.ino, .int .i64 d.cl, .int .i64 d.un, .string d.rc, .slice s.a1 d.pg.length s.c1, .string d.sav, .slice s.a2 d.po.length s.c2, .slice s.a3 d.fr.length s.c3]) (by rfl) (by rfl) (enters_of Tryz.func9 (by kernel_rfl) rfl) ((sU.out _ qd).mono ?_)
 rintro e v1 ⟨rfl, c1⟩
 have q1 := qd.below c1
 refine ⟨_, rfl, HS.out _ q1, ?_⟩
 simp only [BZ.z, Act.put, Nat.reduceAdd]
 refine wpAnyH_take (i := 4) (v := .bool false) rfl (by kernel_rfl) (by kernel_rfl) (by kernel_rfl) (fun _ _ _ h => h) (Or.inl ⟨by rfl, fun w' hS' => ?_⟩) (HS.out _ q1) ?_
 ·obtain ⟨⟨p0, p1, p2, p3, p4, p5, p6, p7⟩, r0, r1, r2, r3, r4, r5, r6, r7⟩ := hS'
  go_simp
 simp only [BZ.z, Act.put, Nat.reduceAdd]
 refine wpAnyH_take (i := 5) (v := .bool false) rfl (by kernel_rfl) (by kernel_rfl) (by kernel_rfl) (fun _ _ _ h => h) (Or.inl ⟨by rfl, fun w' hS' => by rfl⟩) (HS.out _ q1) ?_
 simp only [BZ.z, Act.put, Nat.reduceAdd]
 refine wpAnyH_take (i := 6) (v := .slice ar (nR d) cr) rfl (by kernel_rfl) (by kernel_rfl) (by kernel_rfl) (fun _ _ _ h => h) (Or.inl ⟨by rfl, fun w' hS' => by rfl⟩) (HS.out _ q1) ?_
 simp only [BZ.z, Act.put, Nat.reduceAdd]
 refine wpAnyH_take (i := 7) (v := .agg #[.int .i64 d.ino, .int .i64 d.cl, .int .i64 d.un, .string d.rc, .slice s.a1 d.pg.length s.c1, .string d.sav, .slice s.a2 d.po.length s.c2, .slice s.a3 d.fr.length s.c3]) rfl (by kernel_rfl) (by kernel_rfl) (by kernel_rfl) (fun _ _ _ h => h) (Or.inl ⟨by rfl, fun w' hS' => ?_⟩) (HS.out _ q1) ?_
 ·obtain ⟨⟨p0, p1, p2, p3, p4, p5, p6, p7⟩, r0, r1, r2, r3, r4, r5, r6, r7⟩ := hS'
  go_simp
 simp only [BZ.z, Act.put, Nat.reduceAdd]
 refine Y0.one_callw (i := 8) (by kernel_rfl) rfl (by rfl) (.tmp 38) _ rfl (.agg #[.int .i64 d.ino, .int .i64 d.cl, .int .i64 d.un, .string d.rc, .slice s.a1 d.pg.length s.c1, .string d.sav, .slice s.a2 d.po.length s.c2, .slice s.a3 d.fr.length s.c3]) (by rfl) (enters_of Tryz.func11 (by kernel_rfl) rfl) ((sR.out _ q1).mono ?_)
 rintro e v2 ⟨a2, c2, rfl, r2, c2b⟩
 have q2 := q1.below c2b
 refine ⟨_, rfl, HS.out _ q2, ?_⟩
 simp only [BZ.z, Act.put, Nat.reduceAdd]
 refine Y0.one_call2w (i := 9) (by kernel_rfl) rfl (by rfl) (.tmp 37) (.tmp 39) _ rfl (.slice ar (nR d) cr) (.slice a2 (nR d) c2) (by rfl) (by rfl) (enters_of Tryz.func10 (by kernel_rfl) rfl) ((sS.out _ _ _ q2.rr r2).mono ?_)
 rintro e v3 ⟨rfl, m3, rfl⟩
 have q3 := q2.below (below_drewN _ m3)
 refine ⟨_, rfl, HS.out _ q3, ?_⟩
 simp only [BZ.z, Act.put, Nat.reduceAdd]
 refine wpAnyH_take (i := 10) (v := .bool false) rfl (by kernel_rfl) (by kernel_rfl) (by kernel_rfl) (fun _ _ _ h => h) (Or.inl ⟨by rfl, fun w' hS' => ?_⟩) (HS.out _ q3) ?_
 ·obtain ⟨⟨p0, p1, p2, p3, p4, p5, p6, p7⟩, r0, r1, r2, r3, r4, r5, r6, r7⟩ := hS'
  go_simp
 simp only [BZ.z, Act.put, Nat.reduceAdd]
 refine wpAnyH_take (i := 11) (v := .bool false) rfl (by kernel_rfl) (by kernel_rfl) (by kernel_rfl) (fun _ _ _ h => h) (Or.inl ⟨by rfl, fun w' hS' => ?_⟩) (HS.out _ q3) ?_
 ·obtain ⟨⟨p0, p1, p2, p3, p4, p5, p6, p7⟩, r0, r1, r2, r3, r4, r5, r6, r7⟩ := hS'
  go_simp
 simp only [BZ.z, Act.put, Nat.reduceAdd]
 refine wpAnyH_take (i := 12) (v := .bool false) rfl (by kernel_rfl) (by kernel_rfl) (by kernel_rfl) (fun _ _ _ h => h) (Or.inl ⟨by rfl, fun w' hS' => by rfl⟩) (HS.out _ q3) ?_
 simp only [BZ.z, Act.put, Nat.reduceAdd]
 refine wpAnyH_take (i := 13) (v := .agg #[.int .i64 d2.ino, .int .i64 d2.cl, .int .i64 d2.un, .string d2.rc, .slice s2.a1 d2.pg.length s2.c1, .string d2.sav, .slice s2.a2 d2.po.length s2.c2, .slice s2.a3 d2.fr.length s2.c3]) rfl (by kernel_rfl) (by kernel_rfl) (by kernel_rfl) (fun _ _ _ h => h) (Or.inl ⟨by rfl, fun w' hS' => ?_⟩) (HS.out _ q3) ?_
 ·obtain ⟨⟨p0, p1, p2, p3, p4, p5, p6, p7⟩, r0, r1, r2, r3, r4, r5, r6, r7⟩ := hS'
  go_simp
 simp only [BZ.z, Act.put, Nat.reduceAdd]
 refine wpAnyH_take (i := 14) (v := .int .i64 i) rfl (by kernel_rfl) (by kernel_rfl) (by kernel_rfl) (fun _ _ _ h => h) (Or.inl ⟨by rfl, fun w' hS' => by rfl⟩) (HS.out _ q3) ?_
 simp only [BZ.z, Act.put, Nat.reduceAdd]
 refine wpAnyH_take (i := 15) (v := .int .i64 n) rfl (by kernel_rfl) (by kernel_rfl) (by kernel_rfl) (fun _ _ _ h => h) (Or.inl ⟨by rfl, fun w' hS' => by rfl⟩) (HS.out _ q3) ?_
 simp only [BZ.z, Act.put, Nat.reduceAdd]
 refine wpAnyH_take (i := 17) (v := .agg #[.int .i64 d2.ino, .int .i64 d2.cl, .int .i64 d2.un, .string d2.rc, .slice s2.a1 d2.pg.length s2.c1, .string d2.sav, .slice s2.a2 d2.po.length s2.c2, .slice s2.a3 d2.fr.length s2.c3]) rfl (by kernel_rfl) (by kernel_rfl) (by kernel_rfl) (fun _ _ _ h => h) (Or.inl ⟨by rfl, fun w' hS' => ?_⟩) (HS.out _ q3) ?_
 ·obtain ⟨⟨p0, p1, p2, p3, p4, p5, p6, p7⟩, r0, r1, r2, r3, r4, r5, r6, r7⟩ := hS'
  go_simp
 simp only [BZ.z, Act.put, Nat.reduceAdd]
 refine wpAnyH_take (i := 18) (v := .int .i64 i) rfl (by kernel_rfl) (by kernel_rfl) (by kernel_rfl) (fun _ _ _ h => h) (Or.inl ⟨by rfl, fun w' hS' => by rfl⟩) (HS.out _ q3) ?_
 simp only [BZ.z, Act.put, Nat.reduceAdd]
 refine wpAnyH_take (i := 19) (v := .int .i64 n) rfl (by kernel_rfl) (by kernel_rfl) (by kernel_rfl) (fun _ _ _ h => h) (Or.inl ⟨by rfl, fun w' hS' => by rfl⟩) (HS.out _ q3) ?_
 simp only [BZ.z, Act.put, Nat.reduceAdd]
 refine Y0.one_call3w (i := 16) (by kernel_rfl) rfl (by rfl) (.tmp 44) (.tmp 45) (.tmp 46) _ rfl (.agg #[.int .i64 d2.ino, .int .i64 d2.cl, .int .i64 d2.un, .string d2.rc, .slice s2.a1 d2.pg.length s2.c1, .string d2.sav, .slice s2.a2 d2.po.length s2.c2, .slice s2.a3 d2.fr.length s2.c3]) (.int .i64 i) (.int .i64 n) (by rfl) (by rfl) (by rfl) (enters_of Tryz.func12 (by kernel_rfl) rfl) ((iW.out _ q3).mono ?_)
 rintro e v4 ⟨rfl, c4⟩
 have q4 := q3.below c4
 refine ⟨_, rfl, HS.out _ q4, ?_⟩
 simp only [BZ.z, Act.put, Nat.reduceAdd]
 refine Y0.one_call3w (i := 20) (by kernel_rfl) rfl (by rfl) (.tmp 48) (.tmp 49) (.tmp 50) _ rfl (.agg #[.int .i64 d2.ino, .int .i64 d2.cl, .int .i64 d2.un, .string d2.rc, .slice s2.a1 d2.pg.length s2.c1, .string d2.sav, .slice s2.a2 d2.po.length s2.c2, .slice s2.a3 d2.fr.length s2.c3]) (.int .i64 i) (.int .i64 n) (by rfl) (by rfl) (by rfl) (enters_of Tryz.func13 (by kernel_rfl) rfl) ((sW.out _ q4).mono ?_)
 rintro e v5 ⟨rfl, c5⟩
 have q5 := q4.below c5
 refine ⟨_, rfl, HS.out _ q5, ?_⟩
 simp only [BZ.z, Act.put, Nat.reduceAdd]
 refine wpAnyH_take (i := 21) (v := .bool false) rfl (by kernel_rfl) (by kernel_rfl) (by kernel_rfl) (fun _ _ _ h => h) (Or.inl ⟨by rfl, fun w' hS' => ?_⟩) (HS.out _ q5) ?_
 ·obtain ⟨⟨p0, p1, p2, p3, p4, p5, p6, p7⟩, r0, r1, r2, r3, r4, r5, r6, r7⟩ := hS'
  go_simp
 simp only [BZ.z, Act.put, Nat.reduceAdd]
 refine wpAnyH_take (i := 22) (v := .bool false) rfl (by kernel_rfl) (by kernel_rfl) (by kernel_rfl) (fun _ _ _ h => h) (Or.inl ⟨by rfl, fun w' hS' => ?_⟩) (HS.out _ q5) ?_
 ·obtain ⟨⟨p0, p1, p2, p3, p4, p5, p6, p7⟩, r0, r1, r2, r3, r4, r5, r6, r7⟩ := hS'
  go_simp
 simp only [BZ.z, Act.put, Nat.reduceAdd]
 refine wpAnyH_take (i := 23) (v := .bool false) rfl (by kernel_rfl) (by kernel_rfl) (by kernel_rfl) (fun _ _ _ h => h) (Or.inl ⟨by rfl, fun w' hS' => by rfl⟩) (HS.out _ q5) ?_
 simp only [BZ.z, Act.put, Nat.reduceAdd]
 refine wpAnyH_take (i := 24) (v := .agg #[.int .i64 d.ino, .int .i64 d.cl, .int .i64 d.un, .string d.rc, .slice s.a1 d.pg.length s.c1, .string d.sav, .slice s.a2 d.po.length s.c2, .slice s.a3 d.fr.length s.c3]) rfl (by kernel_rfl) (by kernel_rfl) (by kernel_rfl) (fun _ _ _ h => h) (Or.inl ⟨by rfl, fun w' hS' => ?_⟩) (HS.out _ q5) ?_
 ·obtain ⟨⟨p0, p1, p2, p3, p4, p5, p6, p7⟩, r0, r1, r2, r3, r4, r5, r6, r7⟩ := hS'
  go_simp
 simp only [BZ.z, Act.put, Nat.reduceAdd]
 refine wpAnyH_take (i := 26) (v := .agg #[.int .i64 d.ino, .int .i64 d.cl, .int .i64 d.un, .string d.rc, .slice s.a1 d.pg.length s.c1, .string d.sav, .slice s.a2 d.po.length s.c2, .slice s.a3 d.fr.length s.c3]) rfl (by kernel_rfl) (by kernel_rfl) (by kernel_rfl) (fun _ _ _ h => h) (Or.inl ⟨by rfl, fun w' hS' => ?_⟩) (HS.out _ q5) ?_
 ·obtain ⟨⟨p0, p1, p2, p3, p4, p5, p6, p7⟩, r0, r1, r2, r3, r4, r5, r6, r7⟩ := hS'
  go_simp
 simp only [BZ.z, Act.put, Nat.reduceAdd]
 refine Y0.one_callw (i := 25) (by kernel_rfl) rfl (by rfl) (.tmp 55) _ rfl (.agg #[.int .i64 d.ino, .int .i64 d.cl, .int .i64 d.un, .string d.rc, .slice s.a1 d.pg.length s.c1, .string d.sav, .slice s.a2 d.po.length s.c2, .slice s.a3 d.fr.length s.c3]) (by rfl) (enters_of Tryz.func14 (by kernel_rfl) rfl) ((iL.out _ q5).mono ?_)
 rintro e v6 ⟨rfl, c6⟩
 have q6 := q5.below c6
 refine ⟨_, rfl, HS.out _ q6, ?_⟩
 simp only [BZ.z, Act.put, Nat.reduceAdd]
 refine Y0.one_callw (i := 27) (by kernel_rfl) rfl (by rfl) (.tmp 57) _ rfl (.agg #[.int .i64 d.ino, .int .i64 d.cl, .int .i64 d.un, .string d.rc, .slice s.a1 d.pg.length s.c1, .string d.sav, .slice s.a2 d.po.length s.c2, .slice s.a3 d.fr.length s.c3]) (by rfl) (enters_of Tryz.func15 (by kernel_rfl) rfl) ((sL.out _ q6).mono ?_)
 rintro e v7 ⟨rfl, c7⟩
 have q7 := q6.below c7
 refine ⟨_, rfl, HS.out _ q7, ?_⟩
 simp only [BZ.z, Act.put, Nat.reduceAdd]
 refine wpAnyH_take (i := 28) (v := .bool false) rfl (by kernel_rfl) (by kernel_rfl) (by kernel_rfl) (fun _ _ _ h => h) (Or.inl ⟨by rfl, fun w' hS' => ?_⟩) (HS.out _ q7) ?_
 ·obtain ⟨⟨p0, p1, p2, p3, p4, p5, p6, p7⟩, r0, r1, r2, r3, r4, r5, r6, r7⟩ := hS'
  go_simp
 simp only [BZ.z, Act.put, Nat.reduceAdd]
 refine wpAnyH_take (i := 29) (v := .bool false) rfl (by kernel_rfl) (by kernel_rfl) (by kernel_rfl) (fun _ _ _ h => h) (Or.inl ⟨by rfl, fun w' hS' => ?_⟩) (HS.out _ q7) ?_
 ·obtain ⟨⟨p0, p1, p2, p3, p4, p5, p6, p7⟩, r0, r1, r2, r3, r4, r5, r6, r7⟩ := hS'
  go_simp
 simp only [BZ.z, Act.put, Nat.reduceAdd]
 refine wpAnyH_take (i := 30) (v := .bool false) rfl (by kernel_rfl) (by kernel_rfl) (by kernel_rfl) (fun _ _ _ h => h) (Or.inl ⟨by rfl, fun w' hS' => by rfl⟩) (HS.out _ q7) ?_
 simp only [BZ.z, Act.put, Nat.reduceAdd]
 refine wpAnyH_take (i := 31) (v := .string U) rfl (by kernel_rfl) (by kernel_rfl) (by kernel_rfl) (fun _ _ _ h => h) (Or.inl ⟨by rfl, fun w' hS' => by rfl⟩) (HS.out _ q7) ?_
 simp only [BZ.z, Act.put, Nat.reduceAdd]
 refine wpAnyH_take (i := 32) (v := .agg #[.int .i64 d.ino, .int .i64 d.cl, .int .i64 d.un, .string d.rc, .slice s.a1 d.pg.length s.c1, .string d.sav, .slice s.a2 d.po.length s.c2, .slice s.a3 d.fr.length s.c3]) rfl (by kernel_rfl) (by kernel_rfl) (by kernel_rfl) (fun _ _ _ h => h) (Or.inl ⟨by rfl, fun w' hS' => ?_⟩) (HS.out _ q7) ?_
 ·obtain ⟨⟨p0, p1, p2, p3, p4, p5, p6, p7⟩, r0, r1, r2, r3, r4, r5, r6, r7⟩ := hS'
  go_simp
 simp only [BZ.z, Act.put, Nat.reduceAdd]
 refine wpAnyH_take (i := 34) (v := .string U) rfl (by kernel_rfl) (by kernel_rfl) (by kernel_rfl) (fun _ _ _ h => h) (Or.inl ⟨by rfl, fun w' hS' => by rfl⟩) (HS.out _ q7) ?_
 simp only [BZ.z, Act.put, Nat.reduceAdd]
 refine Y0.one_call2w (i := 33) (by kernel_rfl) rfl (by rfl) (.tmp 62) (.tmp 63) _ rfl (.string U) (.agg #[.int .i64 d.ino, .int .i64 d.cl, .int .i64 d.un, .string d.rc, .slice s.a1 d.pg.length s.c1, .string d.sav, .slice s.a2 d.po.length s.c2, .slice s.a3 d.fr.length s.c3]) (by rfl) (by rfl) (enters_of Tryz.func6 (by kernel_rfl) rfl) ((iU.out _ q7).mono ?_)
 rintro e v8 ⟨rfl, c8⟩
 have q8 := q7.below c8
 refine ⟨_, rfl, HS.out _ q8, ?_⟩
 simp only [BZ.z, Act.put, Nat.reduceAdd]
 refine wpAnyH_take (i := 35) (v := .bool false) rfl (by kernel_rfl) (by kernel_rfl) (by kernel_rfl) (fun _ _ _ h => h) (Or.inl ⟨by rfl, fun w' hS' => ?_⟩) (HS.out _ q8) ?_
 ·obtain ⟨⟨p0, p1, p2, p3, p4, p5, p6, p7⟩, r0, r1, r2, r3, r4, r5, r6, r7⟩ := hS'
  go_simp
 simp only [BZ.z, Act.put, Nat.reduceAdd]
 refine wpAnyH_take (i := 36) (v := .bool false) rfl (by kernel_rfl) (by kernel_rfl) (by kernel_rfl) (fun _ _ _ h => h) (Or.inl ⟨by rfl, fun w' hS' => ?_⟩) (HS.out _ q8) ?_
 ·obtain ⟨⟨p0, p1, p2, p3, p4, p5, p6, p7⟩, r0, r1, r2, r3, r4, r5, r6, r7⟩ := hS'
  go_simp
 simp only [BZ.z, Act.put, Nat.reduceAdd]
 refine wpAnyH_done (by kernel_rfl) ?_ _
 clear qd q1 q2 q3 q4 q5 q6 q7 c1 c2b c4 c5 c6 c7 c8 s0 sU sR sS iW sW iL iU r2
 obtain ⟨t0, t1, t2, t3, t4, t5, t6, t7⟩ := LO.LB8.cells q8.lb
 by_cases hgood : lo = true ∧ m.size = 768
 ·obtain ⟨hlo1, hms⟩ := hgood
  subst hlo1
  have HUe : Hid (U = undone m d) := HY.out rfl hms
  have hUz : U.size = 768 := by rw [HSz.out]; exact hms
  have HC : Hid (∀ k : Nat, k < 768 → within d (k : Int) 1 = cov (rl d) (k : Int)) := fun k hk => LP.within_one d k hk
  have HBy : Hid (∀ k : Nat, cov (rl d) (k : Int) = false → LP.by_ U k = LP.by_ m k) := fun k hk => by rw [HUe.out]; exact LP.stays HLo.out m k hk
  have HRc : Hid (B2.part U (L1.recAt d.ino) 16 = d.rc) := by show B2.part U (L1.recAt d.ino) 16 = d.rc; rw [HUe.out]; exact LP.rec_back HLo.out m hms
  have HZ : Hid (U.size = 768 ∧ m.size = 768) := ⟨hUz, hms⟩
  have hsz : ((m.size : Int) != 768) = false := by simp; omega
  clear hUz hms HUe HY HN HSz
  have hlen : (rl d).length = nR d := WI.rl_len d
  have HS8 : Hid (∀ W, LZ wb B X d d2 s s2 ar W → W.cell? ⟨B, 0, none⟩ = some (.int .i64 d.ino) ∧ W.cell? ⟨B, 1, none⟩ = some (.int .i64 d.cl) ∧ W.cell? ⟨B, 2, none⟩ = some (.int .i64 d.un) ∧ W.cell? ⟨B, 3, none⟩ = some (.string d.rc) ∧ W.cell? ⟨B, 4, none⟩ = some (.slice s.a1 d.pg.length s.c1) ∧ W.cell? ⟨B, 5, none⟩ = some (.string d.sav) ∧ W.cell? ⟨B, 6, none⟩ = some (.slice s.a2 d.po.length s.c2) ∧ W.cell? ⟨B, 7, none⟩ = some (.slice s.a3 d.fr.length s.c3)) := fun W h => LO.LB8.cells h.lb
  go_upto_region 11 with (go_at_call 15; refine (sL.out _ q8).mono ?_; rintro e v9 ⟨rfl, c9⟩; have q9 := q8.below c9)
  clear q8 c9 t0 t1 t2 t3 t4 t5 t6 t7 sL HS hsz
  go_wp2
  go_loopg [10] 768 (fun gk i W => ∃ k : Nat, k + gk = 768 ∧ i = .int .i64 k ∧ LZ wb B X d d2 s s2 ar W)
  case atStart => exact ⟨0, by omega, rfl, q9⟩
  case round =>
   obtain ⟨k, hk, rfl, qk⟩ := hrel
   clear q9
   by_cases hk8 : k < 768
   ·have e0 : (k : Int) < 768 := by omega
    have e0n : (0 : Int) ≤ (k : Int) := by omega
    go_wp2
    go_loopg [11, 12] (nR d) (fun gj v i W => ∃ j : Nat, j + gj = nR d ∧ i = .int .i64 j ∧ v = .bool (cov ((rl d).take j) (k : Int)) ∧ LZ wb B X d d2 s s2 ar W)
    case atStart => exact ⟨0, by omega, rfl, rfl, qk⟩
    case round =>
     obtain ⟨j, hj, rfl, rfl, qj⟩ := hrel
     clear qk
     by_cases hjn : j < nR d
     ·obtain ⟨b, off, har, x1, x2⟩ := LT.rg_cells qj.rr (j := j) (by omega)
      have hst := LT.cov_step (rl d) j (by omega) (k : Int)
      have hin := WI.at_in d (i := j) (by omega)
      obtain ⟨A, hA⟩ : ∃ A, (at_ (rl d) j).1 = A := ⟨_, rfl⟩
      obtain ⟨M, hM⟩ : ∃ M, (at_ (rl d) j).2 = M := ⟨_, rfl⟩
      rw [hA] at x1 hst hin
      rw [hM] at x2 hst hin
      have hw : IntKind.i64.wrap (A + M) = A + M := C1.wrap_of _ (by omega) (by omega)
      have e1 : (0 : Int) ≤ (j : Int) := by omega
      have e2 : (j : Int) < (nR d : Int) := by omega
      subst har
      clear hA hM
      cases hb : cov ((rl d).take j) (k : Int) with
      | true =>
       have HO : Hid (cov ((rl d).take (j + 1)) (k : Int) = true) := by show _ = _; rw [hst, hb, Bool.true_or]
       clear hst hb
       go_wp2
       go_quiet (fail)
       go_wp2
       have bq := below_drewN wr nq
       go_roundg (nR d - (j + 1))
       case measure => omega
       case rel => exact ⟨j + 1, by omega, by go_num, by rw [HO.out], qj.below bq⟩
      | false =>
       by_cases hAk : A ≤ (k : Int)
       ·have hd1 : decide (A ≤ (k : Int)) = true := by simpa using hAk
        have HO : Hid (cov ((rl d).take (j + 1)) (k : Int) = decide ((k : Int) < A + M)) := by show _ = _; rw [hst, hb, Bool.false_or]; simp [hAk]
        clear hst hb
        go_wp2
        go_quiet (fail)
        go_wp2
        have bq := below_drewN wr nq
        go_roundg (nR d - (j + 1))
        case measure => omega
        case rel => exact ⟨j + 1, by omega, by go_num, by rw [HO.out], qj.below bq⟩
       ·have hd1 : decide (A ≤ (k : Int)) = false := by simpa using hAk
        have HO : Hid (cov ((rl d).take (j + 1)) (k : Int) = false) := by show _ = _; rw [hst, hb, Bool.false_or]; simp [hAk]
        clear hst hb
        go_wp2
        go_quiet (fail)
        go_wp2
        have bq := below_drewN wr nq
        go_roundg (nR d - (j + 1))
        case measure => omega
        case rel => exact ⟨j + 1, by omega, by go_num, by rw [HO.out], qj.below bq⟩
     ·have e2 : ¬ ((j : Int) < (nR d : Int)) := by omega
      have hcv : cov ((rl d).take j) (k : Int) = cov (rl d) (k : Int) := by rw [List.take_of_length_le (by omega)]
      have hwk := HC.out k hk8
      have hby := HBy.out k
      rw [hcv]
      have hV := fun W h => iV.out (k : Int) W h
      rw [hwk] at hV
      have hkU : k < U.size := by rw [HZ.out.1]; exact hk8
      have hkm : k < m.size := by rw [HZ.out.2]; exact hk8
      have HV0 : Hid (∀ W, LZ wb B X d d2 s s2 ar W → Calls Tryz.prog 12 #[N1.val d s, .int .i64 (k : Int), .int .i64 1] W fun e w' => e = .returned (.bool (cov (rl d) (k : Int))) ∧ Below W.heap.size W w') := hV
      clear hcv hwk hV
      cases hb : cov (rl d) (k : Int) with
      | true =>
       rw [hb] at HV0
       have HVk := HV0
       clear hby hb HV0 hkU hkm
       have qk2 := qj.below (Below.refl _ _).drew
       go_wp2
       refine wp_region_held (S := fun W => W.cell? ⟨B, 0, none⟩ = some (.int .i64 d.ino) ∧ W.cell? ⟨B, 1, none⟩ = some (.int .i64 d.cl) ∧ W.cell? ⟨B, 2, none⟩ = some (.int .i64 d.un) ∧ W.cell? ⟨B, 3, none⟩ = some (.string d.rc) ∧ W.cell? ⟨B, 4, none⟩ = some (.slice s.a1 d.pg.length s.c1) ∧ W.cell? ⟨B, 5, none⟩ = some (.string d.sav) ∧ W.cell? ⟨B, 6, none⟩ = some (.slice s.a2 d.po.length s.c2) ∧ W.cell? ⟨B, 7, none⟩ = some (.slice s.a3 d.fr.length s.c3)) (by kernel_rfl) ?_
       refine wpAnyH_take (i := 0) (v := .bool true) rfl (by kernel_rfl) (by kernel_rfl) (by kernel_rfl) (fun _ _ _ h => h) (Or.inl ⟨by rfl, fun w' hS' => by rfl⟩) (HS8.out _ qk2) ?_
       simp only [BZ.z, Act.put, Nat.reduceAdd]
       refine wpAnyH_take (i := 1) (v := .agg #[.int .i64 d.ino, .int .i64 d.cl, .int .i64 d.un, .string d.rc, .slice s.a1 d.pg.length s.c1, .string d.sav, .slice s.a2 d.po.length s.c2, .slice s.a3 d.fr.length s.c3]) rfl (by kernel_rfl) (by kernel_rfl) (by kernel_rfl) (fun _ _ _ h => h) (Or.inl ⟨by rfl, fun w' hS' => ?_⟩) (HS8.out _ qk2) ?_
       ·obtain ⟨p0, p1, p2, p3, p4, p5, p6, p7⟩ := hS'
        go_simp
       simp only [BZ.z, Act.put, Nat.reduceAdd]
       refine wpAnyH_take (i := 2) (v := .int .i64 (k : Int)) rfl (by kernel_rfl) (by kernel_rfl) (by kernel_rfl) (fun _ _ _ h => h) (Or.inl ⟨by rfl, fun w' hS' => by rfl⟩) (HS8.out _ qk2) ?_
       simp only [BZ.z, Act.put, Nat.reduceAdd]
       refine Y0.one_call3w (i := 3) (by kernel_rfl) rfl (by rfl) (.tmp 115) (.tmp 116) (.const (.int .i64 1)) _ rfl (.agg #[.int .i64 d.ino, .int .i64 d.cl, .int .i64 d.un, .string d.rc, .slice s.a1 d.pg.length s.c1, .string d.sav, .slice s.a2 d.po.length s.c2, .slice s.a3 d.fr.length s.c3]) (.int .i64 (k : Int)) (.int .i64 1) (by rfl) (by rfl) (by rfl) (enters_of Tryz.func12 (by kernel_rfl) rfl) ((HVk.out _ qk2).mono ?_)
       rintro e v9 ⟨rfl, c9⟩
       have q9 := qk2.below c9
       refine ⟨_, rfl, HS8.out _ q9, ?_⟩
       simp only [BZ.z, Act.put, Nat.reduceAdd]
       refine wpAnyH_take (i := 4) (v := .bool false) rfl (by kernel_rfl) (by kernel_rfl) (by kernel_rfl) (fun _ _ _ h => h) (Or.inl ⟨by rfl, fun w' hS' => ?_⟩) (HS8.out _ q9) ?_
       ·obtain ⟨p0, p1, p2, p3, p4, p5, p6, p7⟩ := hS'
        go_simp
       simp only [BZ.z, Act.put, Nat.reduceAdd]
       refine wpAnyH_take (i := 5) (v := .bool false) rfl (by kernel_rfl) (by kernel_rfl) (by kernel_rfl) (fun _ _ _ h => h) (Or.inl ⟨by rfl, fun w' hS' => by rfl⟩) (HS8.out _ q9) ?_
       simp only [BZ.z, Act.put, Nat.reduceAdd]
       refine wpAnyH_take (i := 6) (v := .bool true) rfl (by kernel_rfl) (by kernel_rfl) (by kernel_rfl) (fun _ _ _ h => h) (Or.inl ⟨by rfl, fun w' hS' => by rfl⟩) (HS8.out _ q9) ?_
       simp only [BZ.z, Act.put, Nat.reduceAdd]
       refine wpAnyH_take (i := 7) (v := .bool false) rfl (by kernel_rfl) (by kernel_rfl) (by kernel_rfl) (fun _ _ _ h => h) (Or.inl ⟨by rfl, fun w' hS' => ?_⟩) (HS8.out _ q9) ?_
       ·obtain ⟨p0, p1, p2, p3, p4, p5, p6, p7⟩ := hS'
        go_simp
       simp only [BZ.z, Act.put, Nat.reduceAdd]
       refine wpAnyH_take (i := 8) (v := .bool false) rfl (by kernel_rfl) (by kernel_rfl) (by kernel_rfl) (fun _ _ _ h => h) (Or.inl ⟨by rfl, fun w' hS' => by rfl⟩) (HS8.out _ q9) ?_
       simp only [BZ.z, Act.put, Nat.reduceAdd]
       refine wpAnyH_take (i := 9) (v := undef) rfl (by kernel_rfl) (by kernel_rfl) (by kernel_rfl) (fun _ _ _ h => h) (Or.inr ⟨by rfl, rfl⟩) (HS8.out _ q9) ?_
       simp only [BZ.z, Act.put, Nat.reduceAdd]
       refine wpAnyH_take (i := 10) (v := undef) rfl (by kernel_rfl) (by kernel_rfl) (by kernel_rfl) (fun _ _ _ h => h) (Or.inr ⟨by rfl, rfl⟩) (HS8.out _ q9) ?_
       simp only [BZ.z, Act.put, Nat.reduceAdd]
       refine wpAnyH_take (i := 11) (v := undef) rfl (by kernel_rfl) (by kernel_rfl) (by kernel_rfl) (fun _ _ _ h => h) (Or.inr ⟨by rfl, rfl⟩) (HS8.out _ q9) ?_
       simp only [BZ.z, Act.put, Nat.reduceAdd]
       refine wpAnyH_take (i := 12) (v := undef) rfl (by kernel_rfl) (by kernel_rfl) (by kernel_rfl) (fun _ _ _ h => h) (Or.inr ⟨by rfl, rfl⟩) (HS8.out _ q9) ?_
       simp only [BZ.z, Act.put, Nat.reduceAdd]
       refine wpAnyH_take (i := 13) (v := undef) rfl (by kernel_rfl) (by kernel_rfl) (by kernel_rfl) (fun _ _ _ h => h) (Or.inr ⟨by rfl, rfl⟩) (HS8.out _ q9) ?_
       simp only [BZ.z, Act.put, Nat.reduceAdd]
       refine wpAnyH_take (i := 14) (v := undef) rfl (by kernel_rfl) (by kernel_rfl) (by kernel_rfl) (fun _ _ _ h => h) (Or.inr ⟨by rfl, rfl⟩) (HS8.out _ q9) ?_
       simp only [BZ.z, Act.put, Nat.reduceAdd]
       refine wpAnyH_take (i := 15) (v := undef) rfl (by kernel_rfl) (by kernel_rfl) (by kernel_rfl) (fun _ _ _ h => h) (Or.inr ⟨by rfl, rfl⟩) (HS8.out _ q9) ?_
       simp only [BZ.z, Act.put, Nat.reduceAdd]
       refine wpAnyH_take (i := 16) (v := .bool false) rfl (by kernel_rfl) (by kernel_rfl) (by kernel_rfl) (fun _ _ _ h => h) (Or.inl ⟨by rfl, fun w' hS' => ?_⟩) (HS8.out _ q9) ?_
       ·obtain ⟨p0, p1, p2, p3, p4, p5, p6, p7⟩ := hS'
        go_simp
       simp only [BZ.z, Act.put, Nat.reduceAdd]
       refine wpAnyH_take (i := 17) (v := .bool false) rfl (by kernel_rfl) (by kernel_rfl) (by kernel_rfl) (fun _ _ _ h => h) (Or.inl ⟨by rfl, fun w' hS' => ?_⟩) (HS8.out _ q9) ?_
       ·obtain ⟨p0, p1, p2, p3, p4, p5, p6, p7⟩ := hS'
        go_simp
       simp only [BZ.z, Act.put, Nat.reduceAdd]
       refine wpAnyH_done (by kernel_rfl) ?_ _
       go_wp2
       go_roundg (768 - (k + 1))
       case measure => omega
       case rel => exact ⟨k + 1, by omega, by go_num, q9⟩
      | false =>
       rw [hb] at HV0
       have HVk := HV0
       have hbb := LT.byte_eq hkU hkm (hby hb)
       clear hby hb HV0
       have qk2 := qj.below (Below.refl _ _).drew
       go_wp2
       refine wp_region_held (S := fun W => W.cell? ⟨B, 0, none⟩ = some (.int .i64 d.ino) ∧ W.cell? ⟨B, 1, none⟩ = some (.int .i64 d.cl) ∧ W.cell? ⟨B, 2, none⟩ = some (.int .i64 d.un) ∧ W.cell? ⟨B, 3, none⟩ = some (.string d.rc) ∧ W.cell? ⟨B, 4, none⟩ = some (.slice s.a1 d.pg.length s.c1) ∧ W.cell? ⟨B, 5, none⟩ = some (.string d.sav) ∧ W.cell? ⟨B, 6, none⟩ = some (.slice s.a2 d.po.length s.c2) ∧ W.cell? ⟨B, 7, none⟩ = some (.slice s.a3 d.fr.length s.c3)) (by kernel_rfl) ?_
       refine wpAnyH_take (i := 0) (v := .bool false) rfl (by kernel_rfl) (by kernel_rfl) (by kernel_rfl) (fun _ _ _ h => h) (Or.inl ⟨by rfl, fun w' hS' => by rfl⟩) (HS8.out _ qk2) ?_
       simp only [BZ.z, Act.put, Nat.reduceAdd]
       refine wpAnyH_take (i := 1) (v := .agg #[.int .i64 d.ino, .int .i64 d.cl, .int .i64 d.un, .string d.rc, .slice s.a1 d.pg.length s.c1, .string d.sav, .slice s.a2 d.po.length s.c2, .slice s.a3 d.fr.length s.c3]) rfl (by kernel_rfl) (by kernel_rfl) (by kernel_rfl) (fun _ _ _ h => h) (Or.inl ⟨by rfl, fun w' hS' => ?_⟩) (HS8.out _ qk2) ?_
       ·obtain ⟨p0, p1, p2, p3, p4, p5, p6, p7⟩ := hS'
        go_simp
       simp only [BZ.z, Act.put, Nat.reduceAdd]
       refine wpAnyH_take (i := 2) (v := .int .i64 (k : Int)) rfl (by kernel_rfl) (by kernel_rfl) (by kernel_rfl) (fun _ _ _ h => h) (Or.inl ⟨by rfl, fun w' hS' => by rfl⟩) (HS8.out _ qk2) ?_
       simp only [BZ.z, Act.put, Nat.reduceAdd]
       refine Y0.one_call3w (i := 3) (by kernel_rfl) rfl (by rfl) (.tmp 115) (.tmp 116) (.const (.int .i64 1)) _ rfl (.agg #[.int .i64 d.ino, .int .i64 d.cl, .int .i64 d.un, .string d.rc, .slice s.a1 d.pg.length s.c1, .string d.sav, .slice s.a2 d.po.length s.c2, .slice s.a3 d.fr.length s.c3]) (.int .i64 (k : Int)) (.int .i64 1) (by rfl) (by rfl) (by rfl) (enters_of Tryz.func12 (by kernel_rfl) rfl) ((HVk.out _ qk2).mono ?_)
       rintro e v9 ⟨rfl, c9⟩
       have q9 := qk2.below c9
       refine ⟨_, rfl, HS8.out _ q9, ?_⟩
       simp only [BZ.z, Act.put, Nat.reduceAdd]
       refine wpAnyH_take (i := 4) (v := .bool false) rfl (by kernel_rfl) (by kernel_rfl) (by kernel_rfl) (fun _ _ _ h => h) (Or.inl ⟨by rfl, fun w' hS' => ?_⟩) (HS8.out _ q9) ?_
       ·obtain ⟨p0, p1, p2, p3, p4, p5, p6, p7⟩ := hS'
        go_simp
       simp only [BZ.z, Act.put, Nat.reduceAdd]
       refine wpAnyH_take (i := 5) (v := .bool false) rfl (by kernel_rfl) (by kernel_rfl) (by kernel_rfl) (fun _ _ _ h => h) (Or.inl ⟨by rfl, fun w' hS' => by rfl⟩) (HS8.out _ q9) ?_
       simp only [BZ.z, Act.put, Nat.reduceAdd]
       refine wpAnyH_take (i := 6) (v := .bool false) rfl (by kernel_rfl) (by kernel_rfl) (by kernel_rfl) (fun _ _ _ h => h) (Or.inl ⟨by rfl, fun w' hS' => by rfl⟩) (HS8.out _ q9) ?_
       simp only [BZ.z, Act.put, Nat.reduceAdd]
       refine wpAnyH_take (i := 7) (v := .bool true) rfl (by kernel_rfl) (by kernel_rfl) (by kernel_rfl) (fun _ _ _ h => h) (Or.inl ⟨by rfl, fun w' hS' => ?_⟩) (HS8.out _ q9) ?_
       ·obtain ⟨p0, p1, p2, p3, p4, p5, p6, p7⟩ := hS'
        go_simp
       simp only [BZ.z, Act.put, Nat.reduceAdd]
       refine wpAnyH_take (i := 8) (v := .bool true) rfl (by kernel_rfl) (by kernel_rfl) (by kernel_rfl) (fun _ _ _ h => h) (Or.inl ⟨by rfl, fun w' hS' => by rfl⟩) (HS8.out _ q9) ?_
       simp only [BZ.z, Act.put, Nat.reduceAdd]
       refine wpAnyH_take (i := 9) (v := .string U) rfl (by kernel_rfl) (by kernel_rfl) (by kernel_rfl) (fun _ _ _ h => h) (Or.inl ⟨by rfl, fun w' hS' => by rfl⟩) (HS8.out _ q9) ?_
       simp only [BZ.z, Act.put, Nat.reduceAdd]
       refine wpAnyH_take (i := 10) (v := .int .i64 (k : Int)) rfl (by kernel_rfl) (by kernel_rfl) (by kernel_rfl) (fun _ _ _ h => h) (Or.inl ⟨by rfl, fun w' hS' => by rfl⟩) (HS8.out _ q9) ?_
       simp only [BZ.z, Act.put, Nat.reduceAdd]
       refine wpAnyH_take (i := 11) (v := .int .u8 ((U[k]'hkU).toNat : Int)) rfl (by kernel_rfl) (by kernel_rfl) (by kernel_rfl) (fun _ _ _ h => h) (Or.inl ⟨by rfl, fun w' hS' => ?_⟩) (HS8.out _ q9) ?_
       ·exact LT.idx_yield hkU
       simp only [BZ.z, Act.put, Nat.reduceAdd]
       refine wpAnyH_take (i := 12) (v := .string m) rfl (by kernel_rfl) (by kernel_rfl) (by kernel_rfl) (fun _ _ _ h => h) (Or.inl ⟨by rfl, fun w' hS' => by rfl⟩) (HS8.out _ q9) ?_
       simp only [BZ.z, Act.put, Nat.reduceAdd]
       refine wpAnyH_take (i := 13) (v := .int .i64 (k : Int)) rfl (by kernel_rfl) (by kernel_rfl) (by kernel_rfl) (fun _ _ _ h => h) (Or.inl ⟨by rfl, fun w' hS' => by rfl⟩) (HS8.out _ q9) ?_
       simp only [BZ.z, Act.put, Nat.reduceAdd]
       refine wpAnyH_take (i := 14) (v := .int .u8 ((m[k]'hkm).toNat : Int)) rfl (by kernel_rfl) (by kernel_rfl) (by kernel_rfl) (fun _ _ _ h => h) (Or.inl ⟨by rfl, fun w' hS' => ?_⟩) (HS8.out _ q9) ?_
       ·exact LT.idx_yield hkm
       simp only [BZ.z, Act.put, Nat.reduceAdd]
       refine wpAnyH_take (i := 15) (v := .bool false) rfl (by kernel_rfl) (by kernel_rfl) (by kernel_rfl) (fun _ _ _ h => h) (Or.inl ⟨by rfl, fun w' hS' => ?_⟩) (HS8.out _ q9) ?_
       ·obtain ⟨p0, p1, p2, p3, p4, p5, p6, p7⟩ := hS'
        go_simp
       simp only [BZ.z, Act.put, Nat.reduceAdd]
       refine wpAnyH_take (i := 16) (v := .bool false) rfl (by kernel_rfl) (by kernel_rfl) (by kernel_rfl) (fun _ _ _ h => h) (Or.inl ⟨by rfl, fun w' hS' => ?_⟩) (HS8.out _ q9) ?_
       ·obtain ⟨p0, p1, p2, p3, p4, p5, p6, p7⟩ := hS'
        go_simp
       simp only [BZ.z, Act.put, Nat.reduceAdd]
       refine wpAnyH_take (i := 17) (v := .bool false) rfl (by kernel_rfl) (by kernel_rfl) (by kernel_rfl) (fun _ _ _ h => h) (Or.inl ⟨by rfl, fun w' hS' => ?_⟩) (HS8.out _ q9) ?_
       ·obtain ⟨p0, p1, p2, p3, p4, p5, p6, p7⟩ := hS'
        go_simp
       simp only [BZ.z, Act.put, Nat.reduceAdd]
       refine wpAnyH_done (by kernel_rfl) ?_ _
       go_wp2
       go_roundg (768 - (k + 1))
       case measure => omega
       case rel => exact ⟨k + 1, by omega, by go_num, q9⟩
   ·have e0 : ¬ ((k : Int) < 768) := by omega
    have qk2 := qk.below (Below.refl _ _).drew
    have iRc : Hid (∀ W, Calls Tryz.prog 17 #[.int .i64 d.ino] W fun e w' => e = .returned (.int .i64 (L1.recAt d.ino)) ∧ w' = W) := fun W => L1.impl_RecAt d.ino W
    have iPt : Hid (∀ W, Calls Tryz.prog 16 #[.string U, .int .i64 (L1.recAt d.ino), .int .i64 16] W fun e w' => e = .returned (.string d.rc) ∧ Below W.heap.size W w') := fun W => by have h := B2.impl_Part U (L1.recAt d.ino) 16 W (by omega); rw [HRc.out] at h; exact h
    generalize L1.recAt d.ino = ra at iRc iPt
    clear HRc HBy HC iV
    go_wp2
    refine wp_region_held (S := fun W => W.cell? ⟨B, 0, none⟩ = some (.int .i64 d.ino) ∧ W.cell? ⟨B, 1, none⟩ = some (.int .i64 d.cl) ∧ W.cell? ⟨B, 2, none⟩ = some (.int .i64 d.un) ∧ W.cell? ⟨B, 3, none⟩ = some (.string d.rc) ∧ W.cell? ⟨B, 4, none⟩ = some (.slice s.a1 d.pg.length s.c1) ∧ W.cell? ⟨B, 5, none⟩ = some (.string d.sav) ∧ W.cell? ⟨B, 6, none⟩ = some (.slice s.a2 d.po.length s.c2) ∧ W.cell? ⟨B, 7, none⟩ = some (.slice s.a3 d.fr.length s.c3)) (by kernel_rfl) ?_
    refine wpAnyH_take (i := 0) (v := .string U) rfl (by kernel_rfl) (by kernel_rfl) (by kernel_rfl) (fun _ _ _ h => h) (Or.inl ⟨by rfl, fun w' hS' => by rfl⟩) (HS8.out _ qk2) ?_
    simp only [BZ.z, Act.put, Nat.reduceAdd]
    refine wpAnyH_take (i := 1) (v := .pointer (some ⟨B, 0, none⟩)) rfl (by kernel_rfl) (by kernel_rfl) (by kernel_rfl) (fun _ _ _ h => h) (Or.inl ⟨by rfl, fun w' hS' => ?_⟩) (HS8.out _ qk2) ?_
    ·obtain ⟨p0, p1, p2, p3, p4, p5, p6, p7⟩ := hS'
     go_simp
    simp only [BZ.z, Act.put, Nat.reduceAdd]
    refine wpAnyH_take (i := 2) (v := .int .i64 d.ino) rfl (by kernel_rfl) (by kernel_rfl) (by kernel_rfl) (fun _ _ _ h => h) (Or.inl ⟨by rfl, fun w' hS' => ?_⟩) (HS8.out _ qk2) ?_
    ·obtain ⟨p0, p1, p2, p3, p4, p5, p6, p7⟩ := hS'
     go_simp
    simp only [BZ.z, Act.put, Nat.reduceAdd]
    refine wpAnyH_take (i := 5) (v := .pointer (some ⟨B, 3, none⟩)) rfl (by kernel_rfl) (by kernel_rfl) (by kernel_rfl) (fun _ _ _ h => h) (Or.inl ⟨by rfl, fun w' hS' => ?_⟩) (HS8.out _ qk2) ?_
    ·obtain ⟨p0, p1, p2, p3, p4, p5, p6, p7⟩ := hS'
     go_simp
    simp only [BZ.z, Act.put, Nat.reduceAdd]
    refine wpAnyH_take (i := 6) (v := .string d.rc) rfl (by kernel_rfl) (by kernel_rfl) (by kernel_rfl) (fun _ _ _ h => h) (Or.inl ⟨by rfl, fun w' hS' => ?_⟩) (HS8.out _ qk2) ?_
    ·obtain ⟨p0, p1, p2, p3, p4, p5, p6, p7⟩ := hS'
     go_simp
    simp only [BZ.z, Act.put, Nat.reduceAdd]
    refine Y0.one_callw (i := 3) (by kernel_rfl) rfl (by rfl) (.tmp 134) _ rfl (.int .i64 d.ino) (by rfl) (enters_of Tryz.func17 (by kernel_rfl) rfl) ((iRc.out _).mono ?_)
    rintro e v10 ⟨rfl, hv10⟩
    subst hv10
    refine ⟨_, rfl, HS8.out _ qk2, ?_⟩
    simp only [BZ.z, Act.put, Nat.reduceAdd]
    refine Y0.one_call3w (i := 4) (by kernel_rfl) rfl (by rfl) (.tmp 132) (.tmp 135) (.const (.int .i64 16)) _ rfl (.string U) (.int .i64 ra) (.int .i64 16) (by rfl) (by rfl) (by rfl) (enters_of Tryz.func16 (by kernel_rfl) rfl) ((iPt.out _).mono ?_)
    rintro e v11 ⟨rfl, c11⟩
    have q11 := qk2.below c11
    refine ⟨_, rfl, HS8.out _ q11, ?_⟩
    simp only [BZ.z, Act.put, Nat.reduceAdd]
    refine wpAnyH_take (i := 7) (v := .bool true) rfl (by kernel_rfl) (by kernel_rfl) (by kernel_rfl) (fun _ _ _ h => h) (Or.inl ⟨by rfl, fun w' hS' => ?_⟩) (HS8.out _ q11) ?_
    ·obtain ⟨p0, p1, p2, p3, p4, p5, p6, p7⟩ := hS'
     go_simp
    simp only [BZ.z, Act.put, Nat.reduceAdd]
    refine wpAnyH_take (i := 8) (v := .bool true) rfl (by kernel_rfl) (by kernel_rfl) (by kernel_rfl) (fun _ _ _ h => h) (Or.inl ⟨by rfl, fun w' hS' => by rfl⟩) (HS8.out _ q11) ?_
    simp only [BZ.z, Act.put, Nat.reduceAdd]
    refine wpAnyH_done (by kernel_rfl) ?_ _
    try go_wp2
    go_ret
    exact ⟨rfl, q11.bel⟩
 ·have hUm := HN.out hgood
  subst hUm
  cases lo with
  | false =>
   go_wp2_with (go_at_call 15; refine (sL.out _ q8).mono ?_; rintro e v9 ⟨rfl, c9⟩; have q9 := q8.below c9)
   go_ret
   exact ⟨rfl, q9.bel⟩
  | true =>
   have h8 : ¬ U.size = 768 := fun h => hgood ⟨rfl, h⟩
   have hsz : ((U.size : Int) != 768) = true := by simp; omega
   go_wp2_with (go_at_call 15; refine (sL.out _ q8).mono ?_; rintro e v9 ⟨rfl, c9⟩; have q9 := q8.below c9)
   go_ret
   exact ⟨rfl, q9.bel⟩
set_option maxRecDepth 100000 in
theorem walk (a : Option Addr) (len cap : Nat) (w : World) (hc : Given w a len) : Calls Tryz.prog 3 #[.slice a len cap] w fun e w' => e = .returned (.bool true) ∧ Below w.heap.size w w' := by
 by_cases hl : 1048576 < (len : Int)
 ·go_enter Tryz.func3, Tryz.ntmps3
  go_wp2_with (go_at_call 4; refine (Q0.big_yes a len cap w hl).mono ?_; rintro e w1 ⟨rfl, rfl⟩)
  go_ret
  exact ⟨rfl, Below.refl _ _⟩
 ·exact walk_small a len cap w hc (by omega)
end Go.Proofs.YthbcefopbmkppaaGreat.LR
