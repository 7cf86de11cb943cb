/- Joined texts: plain facts and contracts. -/
import Derived.Test.YtljnkicgahepfaaGreatDoorJqJ
import Derived.Test.YtljnkicgahepfaaGreatDoorJqZR
import Derived.Test.YtljnkicgahepfaaGreatDoorJqZS
import Derived.Test.YtljnkicgahepfaaGreatDoorRows
import Derived.JoinedOf
import Derived.KernelRfl
set_option linter.unusedVariables false
set_option linter.unusedSimpArgs false
set_option maxRecDepth 10000
namespace Go.Proofs.YtljnkicgahepfaaGreatDoor.MW
open Go.ChangeShapes Go.WideShapes Go.ChangeAt Go.RowKit
open N0 (Ln)
open N1 (Sl)
open Z0 (dat Kp kval kvals)
open Z2 (Pl)
open LF (Wr Btw)
open LG (Sh)
set_option maxHeartbeats 4000000 in
theorem markLoanS (g hi : Nat) (ds : List Ln) (P : Nat → Pl) (L : List Value) (w : World) (hn : ds.length ≤ 1048576) (hz : ∀ j, j < ds.length → (dat ds j).pg.length ≤ 1048576 ∧ (dat ds j).po.length ≤ 1048576 ∧ (dat ds j).fr.length ≤ 1048576) (h : Sh g hi ds P L w) :
  Calls Tryz.prog 88 #[.slice (some ⟨g, 0, none⟩) ds.length ds.length, .int .i64 1] w fun e w' => (∃ q : Nat, q ≤ 4000000000000 ∧ e = .returned (.int .i64 (q : Int))) ∧ Btw g hi w w' := by
 have hghi := h.lt
 go_enter Tryz.func88, Tryz.ntmps88
 go_wp2
 go_loopw [1, 5] (fun q i w' => ∃ (k m : Nat) (L : List Value), k ≤ ds.length ∧ i = .int .i64 k ∧ q = .int .i64 (m : Int) ∧ 1 ≤ m ∧ m ≤ 1 + k * 3145733 ∧ Sh g hi ds P L w' ∧ Btw g hi w w') (fun _ i _ => ds.length - (intOf i).toNat)
 case atStart => exact ⟨0, 1, L, Nat.zero_le _, rfl, rfl, Nat.le_refl _, by omega, h, Btw.refl _ _ _⟩
 case round =>
  obtain ⟨k, m, L1, hk, rfl, rfl, hm1, hmk, hS, hgr⟩ := hrel
  clear h
  by_cases hlt : k < ds.length
  ·have e1 : (0 : Int) ≤ (k : Int) := by omega
   have e2 : (k : Int) < (ds.length : Int) := by omega
   obtain ⟨z1, z2, z3⟩ := hz k hlt
   obtain ⟨p1, q1, -⟩ := hS.w1 k hlt
   obtain ⟨p2, q2, -⟩ := hS.w2 k hlt
   obtain ⟨p3, q3, -⟩ := hS.w3 k hlt
   have hm2 : m ≤ 4000000000000 := by
    have : k * 3145733 ≤ 1048576 * 3145733 := Nat.mul_le_mul_right _ (by omega)
    omega
   have HT : Hid (∀ L W, Sh g hi ds P L W → Sh g hi ds P L W) := fun _ _ x => x
   obtain ⟨⟨x0, y0⟩, f0⟩ := hS.old (o := k * 8) (by omega)
   obtain ⟨⟨x1, y1⟩, f1⟩ := hS.old (o := k * 8 + 1) (by omega)
   obtain ⟨⟨x2, y2⟩, f2⟩ := hS.old (o := k * 8 + 2) (by omega)
   have S3 := ((hS.set (o := k * 8) (k := k) (r := 0) rfl (by omega) (.int .i64 (m : Int))).set (o := k * 8 + 1) (k := k) (r := 1) rfl (by omega) (.int .i64 ((m : Int) + 1))).set (o := k * 8 + 2) (k := k) (r := 2) rfl (by omega) (.int .i64 ((m : Int) + 1 + 1))
   have G3 := ((hgr.set (p := ⟨g, k * 8, none⟩) (Nat.le_refl _) hghi (.int .i64 (m : Int))).set (p := ⟨g, k * 8 + 1, none⟩) (Nat.le_refl _) hghi (.int .i64 ((m : Int) + 1))).set (p := ⟨g, k * 8 + 2, none⟩) (Nat.le_refl _) hghi (.int .i64 ((m : Int) + 1 + 1))
   have HZ : Hid (m ≤ 1 + k * 3145733) := hmk
   clear hS hgr hz hmk
   obtain ⟨n1, en1⟩ : ∃ n, (dat ds k).pg.length = n := ⟨_, rfl⟩
   obtain ⟨n2, en2⟩ : ∃ n, (dat ds k).po.length = n := ⟨_, rfl⟩
   obtain ⟨n3, en3⟩ : ∃ n, (dat ds k).fr.length = n := ⟨_, rfl⟩
   obtain ⟨b1, eb1⟩ : ∃ b, (P k).g1 = b := ⟨_, rfl⟩
   obtain ⟨b2, eb2⟩ : ∃ b, (P k).g2 = b := ⟨_, rfl⟩
   obtain ⟨b3, eb3⟩ : ∃ b, (P k).g3 = b := ⟨_, rfl⟩
   have H1 : Hid (∀ L W, Sh g hi ds P L W → W.cell? ⟨g, k * 8 + 4, none⟩ = some (.slice (some ⟨b1, 0, none⟩) n1 n1) ∧ Wr b1 n1 W) := fun L W hs => ⟨by have := hs.c4 hlt; rwa [en1, eb1] at this, by have := (hs.w1 k hlt).2.2; rwa [en1, eb1] at this⟩
   have H2 : Hid (∀ L W, Sh g hi ds P L W → W.cell? ⟨g, k * 8 + 6, none⟩ = some (.slice (some ⟨b2, 0, none⟩) n2 n2) ∧ Wr b2 n2 W) := fun L W hs => ⟨by have := hs.c6 hlt; rwa [en2, eb2] at this, by have := (hs.w2 k hlt).2.2; rwa [en2, eb2] at this⟩
   have H3 : Hid (∀ L W, Sh g hi ds P L W → W.cell? ⟨g, k * 8 + 7, none⟩ = some (.slice (some ⟨b3, 0, none⟩) n3 n3) ∧ Wr b3 n3 W) := fun L W hs => ⟨by have := hs.c7 hlt; rwa [en3, eb3] at this, by have := (hs.w3 k hlt).2.2; rwa [en3, eb3] at this⟩
   rw [en1] at z1
   rw [en2] at z2
   rw [en3] at z3
   rw [eb1] at p1 q1
   rw [eb2] at p2 q2
   rw [eb3] at p3 q3
   clear en1 en2 en3 eb1 eb2 eb3
   go_wp2_with (first
    | (go_at_call 27; have G8' := G7; refine (LG.mark_one (g := g) (hi := hi) (k := m + 5 + n1 + n2) (by omega) p3 q3 hw7 z3 (by omega)).mono ?_; rintro e w8 ⟨rfl, t8⟩; have S8 := S7.btw t8 (Nat.lt_succ_self _); have G8 := G7.trans (t8.mono (Nat.le_succ _) (Nat.le_refl _)))
    | (go_at_call 27; have G7' := G6; refine (LG.mark_one (g := g) (hi := hi) (k := m + 5 + n1) (by omega) p2 q2 hw6 z2 (by omega)).mono ?_; rintro e w7 ⟨rfl, t7⟩; have S7 := S6.btw t7 (Nat.lt_succ_self _); have G7 := G6.trans (t7.mono (Nat.le_succ _) (Nat.le_refl _)); obtain ⟨c7, hw7⟩ := H3.out _ _ S7)
    | (go_at_call 164; have G6' := G5; refine (LG.mark_text (v := m + 4 + n1) (by omega) (by omega) (by omega) _).mono ?_; rintro e w6 ⟨rfl, l6⟩; have S6a := S5.below l6; have G6a := G5.then l6; obtain ⟨⟨x5, y5⟩, f5⟩ := S6a.old (o := k * 8 + 5) (by omega); have S6 := S6a.set (o := k * 8 + 5) (k := k) (r := 5) rfl (by omega) (.string (M1.mt (m + 4 + n1))); have G6 := G6a.set (p := ⟨g, k * 8 + 5, none⟩) (Nat.le_refl _) hghi (.string (M1.mt (m + 4 + n1))); obtain ⟨c6, hw6⟩ := H2.out _ _ S6)
    | (go_at_call 27; have G5' := G4; refine (LG.mark_one (g := g) (hi := hi) (k := m + 4) (by omega) p1 q1 hw4 z1 (by omega)).mono ?_; rintro e w5 ⟨rfl, t5⟩; have S5 := S4.btw t5 (Nat.lt_succ_self _); have G5 := G4.trans (t5.mono (Nat.le_succ _) (Nat.le_refl _)))
    | (go_at_call 164; refine (LG.mark_text (v := m + 3) (by omega) (by omega) (by omega) _).mono ?_; rintro e w4 ⟨rfl, l4⟩; have S4a := S3.below l4; have G4a := G3.then l4; obtain ⟨⟨x3, y3⟩, f3⟩ := S4a.old (o := k * 8 + 3) (by omega); have S4 := S4a.set (o := k * 8 + 3) (k := k) (r := 3) rfl (by omega) (.string (M1.mt (m + 3))); have G4 := G4a.set (p := ⟨g, k * 8 + 3, none⟩) (Nat.le_refl _) hghi (.string (M1.mt (m + 3))); obtain ⟨c4, hw4⟩ := H1.out _ _ S4))
   go_roundw
   case rel =>
    have hz0 := HZ.out
    exact ⟨k + 1, m + 5 + n1 + n2 + n3, _, by omega, by go_num, by go_num, by omega, by omega, S8, G8⟩
   case measure => simp [intOf]; omega
  ·obtain rfl : k = ds.length := by omega
   have hfin : m ≤ 4000000000000 := by
    have : ds.length * 3145733 ≤ 1048576 * 3145733 := Nat.mul_le_mul_right _ hn
    omega
   clear hS
   go_wp2
   go_ret
   exact ⟨⟨m, hfin, rfl⟩, hgr⟩
theorem markKeeper (g hi : Nat) (k : Kp) (P : Nat → Pl) (L : List Value) (w : World) (hn : k.ds.length ≤ 1048576) (hz : ∀ j, j < k.ds.length → (dat k.ds j).pg.length ≤ 1048576 ∧ (dat k.ds j).po.length ≤ 1048576 ∧ (dat k.ds j).fr.length ≤ 1048576) (h : Sh g hi k.ds P L w) :
  Calls Tryz.prog 26 #[kval k (some ⟨g, 0, none⟩) k.ds.length, .int .i64 1] w fun e w' => (∃ q : Nat, q ≤ 4000000000000 ∧ e = .returned (.int .i64 (q : Int))) ∧ Btw g hi w w' := by
 have k0 := K0.blk_new (kvals k (some ⟨g, 0, none⟩) k.ds.length) w 28
 have l0 := K0.below_new w (.cells #[.string k.mem, .string k.dur, .slice (some ⟨g, 0, none⟩) k.ds.length k.ds.length, .int .i64 k.ck] 28)
 have h0 := h.below l0
 have m0 := markLoanS g hi k.ds P L _ hn hz h0
 have c2 := k0.c2
 clear h h0 hz
 go_enter Tryz.func26, Tryz.ntmps26
 go_wp2_with (go_at_call 88; refine m0.mono ?_; rintro e w1 ⟨⟨q, hq, rfl⟩, b1⟩)
 go_ret
 exact ⟨⟨q, hq, rfl⟩, (Btw.ofBelow l0).trans b1⟩
end Go.Proofs.YtljnkicgahepfaaGreatDoor.MW
namespace Go.Proofs.YtljnkicgahepfaaGreatDoor.PI
open Go.ChangeShapes Go.WideShapes Go.ChangeAt Go.RowKit
open N0 (Ln)
open N1 (Sl)
open Z0 (dat Row Lns Kp kval kvals)
open Z2 (Pl pls Cps)
open Z3 (A)
open I2 (ints)
open LF (Btw OwnIn)
open LG (Sh)
open KD (kob KA Small)
open AQ (Sz)
open MU (Oh Mh cnt)
open PD (pcut)
open PH (SB)
structure Q (w3 : World) (k R : Kp) (g Bk g8 lo hi Bg : Nat) (ag : Option Addr) (cg : Nat) (W : World) : Prop where
 bel : Below w3.heap.size w3 W
 nb : K0.Blk Bk (kvals k (some ⟨g, 0, none⟩) k.ds.length) W
 gb : K0.Blk Bg (kvals R ag cg) W
 o1 : w3.heap.size ≤ g ∧ g < Bk ∧ Bk < g8 ∧ g8 < lo ∧ lo ≤ hi ∧ hi ≤ Bg
variable {w3 W W' : World} {k R : Kp} {g Bk g8 lo hi Bg cg : Nat} {ag : Option Addr}
theorem Q.below (h : Q w3 k R g Bk g8 lo hi Bg ag cg W) (hb : Below W.heap.size W W') : Q w3 k R g Bk g8 lo hi Bg ag cg W' := ⟨h.bel.trans (hb.mono h.bel.size), h.nb.below hb, h.gb.below hb, h.o1⟩
theorem Q.btw {x y : Nat} (h : Q w3 k R g Bk g8 lo hi Bg ag cg W) (hb : Btw x y W W') (h1 : g ≤ x) (h2 : y ≤ Bk ∨ Bk < x) (h3 : y ≤ Bg) : Q w3 k R g Bk g8 lo hi Bg ag cg W' := by
 have o := h.o1
 have hs := h.bel.size
 exact ⟨h.bel.trans (hb.below (by omega) (by omega)), LF.blk_btw h.nb hb (by omega), LF.blk_btw h.gb hb (Or.inr h3), h.o1⟩
theorem small_of {ds : List Ln} (hs : ds.length + Z1.tot ds ds.length ≤ 1048576) : Small ds := fun j hj => by
 have h := Z1.tot_one hj
 exact N12.sizes (d := dat ds j) (by omega)
theorem pcut_small {k : Kp} (kept : List Int) (hs : k.ds.length + Z1.tot k.ds k.ds.length ≤ 1048576) : (pcut k kept).ds.length + Z1.tot (pcut k kept).ds (pcut k kept).ds.length ≤ 1048576 := by
 unfold pcut
 split
 ·show 0 + Z1.tot [] 0 ≤ 1048576
  simp [Z1.tot]
 ·exact hs
set_option maxHeartbeats 16000000 in
theorem walk (w : World) (k0 : Kp) (a0 : Option Addr) (c0 : Nat) (s0 : Nat → Sl) (x0 : Z0.FitK k0 s0) (R0 : Lns w a0 k0.ds s0) (ka : Option Addr) (kc : Nat) (zs : List Int) (wz : zs.length ≤ maxLen) (R1 : P0.Row w ka zs) :
  Calls Tryz.prog 7 #[kval k0 a0 c0, .slice ka zs.length kc] w fun e w' => e = .returned (.bool true) ∧ Below w.heap.size w w' := by
 have t0 := Z3.a_new w k0 a0 c0 s0 R0
 by_cases hbig : 1048576 < zs.length
 ·have h1 : (1048576 : Int) < (zs.length : Int) := by omega
  clear R0
  go_enter Tryz.func7, Tryz.ntmps7
  go_wp2
  go_ret
  exact ⟨rfl, t0.bel⟩
 have hzn : zs.length ≤ 1048576 := by omega
 have hzi : (zs.length : Int) ≤ 1048576 := by omega
 by_cases hz : Z1.small k0
 ·have hz' := hz
  unfold Z1.small at hz'
  have hs : k0.ds.length + Z1.tot k0.ds k0.ds.length ≤ 1048576 := by omega
  have hn : k0.ds.length ≤ 1048576 := by omega
  have hsm := small_of hs
  have hsz : Sz k0 := ⟨by omega, by omega, hs⟩
  have HI : Hid (∀ a c ss a1 c1 W, Lns W a k0.ds ss → P0.Row W a1 zs → Calls Tryz.prog 10 #[kval k0 a c, .slice a1 zs.length c1] W (KA (pcut k0 zs) W)) := fun a c ss a1 c1 W h h' => PD.impl_PowerCut k0 a c ss a1 c1 zs W hsz hzn h h'
  have HS : Hid (∀ a c ss a1 c1 W, Lns W a k0.ds ss → P0.Row W a1 zs → Calls Tryz.prog 12 #[kval k0 a c, .slice a1 zs.length c1] W (SB (pcut k0 zs) W)) := fun a c ss a1 c1 W h h' => PH.spec_PowerCut k0 a c ss a1 c1 zs W hsz hzn h h'
  have HZ : Hid (∀ j, j < k0.ds.length → (dat k0.ds j).pg.length ≤ 1048576 ∧ (dat k0.ds j).po.length ≤ 1048576 ∧ (dat k0.ds j).fr.length ≤ 1048576) := MU.small3 hsm
  have hsR := pcut_small zs hs
  obtain ⟨R, hR⟩ : ∃ R, pcut k0 zs = R := ⟨_, rfl⟩
  rw [hR] at HI HS hsR
  have hRn : R.ds.length ≤ 1048576 := by omega
  have hRs := small_of hsR
  have HR1 : Hid (∀ W, Below w.heap.size w W → P0.Row W ka zs) := fun W hb => R1.below hb
  have hcn := MU.cnt_le hRn hRs
  have hc0 : (0 : Int) ≤ (cnt R.ds : Int) := Int.natCast_nonneg _
  unfold SB at HS
  unfold KA at HI
  clear R0 R1 hz' hR hsm hsz
  go_enter Tryz.func7, Tryz.ntmps7
  go_wp2_with (first
   | (go_at_call 18; refine (Z1.szFit k0 a0 c0 s0 _ x0 hz t0.l.row).mono ?_; rintro e w1 ⟨⟨q, hq, rfl⟩, b1⟩; have hq' : decide (q < 0) = false := (by simpa using hq); have t1 := t0.below b1; have f0 := t1.b.c0; have f1 := t1.b.c1; have f2 := t1.b.c2; have f3 := t1.b.c3)
   | (go_at_call 12; refine (HS.out _ _ _ _ _ _ (cp2.rows.below b2') (I2.row_of_blk z2)).mono ?_; rintro e w3 ⟨aw, cw, sw, rfl, wl, b3⟩; have n3 := K0.below_new w3 (kob R aw cw); have t3 := (t2.below b3).below n3; have wb3 := K0.blk_new (kvals R aw cw) w3 28; have wl3 := wl.below n3; have HW : Hid (∀ W, Below (w3.alloc (kob R aw cw)).heap.size (w3.alloc (kob R aw cw)) W → A w k0 a0 c0 s0 W ∧ K0.Blk w3.heap.size (kvals R aw cw) W ∧ Lns W aw R.ds sw) := (fun W hb => ⟨t3.below hb, wb3.below hb, wl3.below hb⟩); have e0 := t3.b.c0; have e1 := t3.b.c1; have e2 := t3.b.c2; have e3 := t3.b.c3)
   | (go_at_call 10; refine (HI.out _ _ _ _ _ _ (cp5.rows) (I2.row_of_blk z5)).mono ?_; rintro e w6 ⟨ag, cg, rfl, ow, b6⟩; have n6 := K0.below_new w6 (kob R ag cg); have oh6 := (MU.oh_of ow).below n6; have s6 := b6.size; have K6 : Q (w3.alloc (kob R aw cw)) k0 R g4 w4.heap.size g8 w5.heap.size w6.heap.size w6.heap.size ag cg (w6.alloc (kob R ag cg)) := ⟨((bel5.trans (b6.mono bel5.size)).trans (n6.mono (Nat.le_trans bel5.size s6))), (nb5.below b6).below n6, K0.blk_new (kvals R ag cg) w6 28, ⟨hg4, hgk, hg8, z5.lt, s6, Nat.le_refl _⟩⟩; have cp6 := (cp5.below b6).below n6; have sh6 := (sh5.below b6).below n6; have z6 := (z5.below b6).below n6; have y0 := (HW.out _ K6.bel).2.1.c0; have y1 := (HW.out _ K6.bel).2.1.c1; have y2 := (HW.out _ K6.bel).2.1.c2; have y3 := (HW.out _ K6.bel).2.1.c3)
   | (go_at_call 22; obtain ⟨so, lo6⟩ := oh6.lns; refine (Z3.eqKeeper R _ _ _ _ _ _ _ hsR lo6 (HW.out _ K6.bel).2.2).mono ?_; rintro e w7 ⟨rfl, b7⟩; have K7 := K6.below b7; have cp7 := cp6.below b7; have sh7 := sh6.below b7; have z7 := z6.below b7; have oh7 := oh6.below b7)
   | (go_at_call 30; have hg4' := hg4; refine (I2.toIntS ka kc zs _ hzn (HR1.out _ (HW.out _ bel4).1.bel)).mono ?_; rintro e w5 ⟨g8, rfl, hg8', z5, b5⟩; have bel5 := bel4.trans (b5.mono bel4.size); have cp5 := cp4b.below b5; have sh5 := sh4b.below b5; have nb5 := nb4.below b5; have hg8 : w4.heap.size < g8 := (by simp at hg8'; omega); have x0 := nb5.c0; have x1 := nb5.c1; have x2 := nb5.c2; have x3 := nb5.c3)
   | (go_at_call 20; have t3' := t3; refine (Z3.toKeeper k0 a0 c0 s0 _ hs t3.l).mono ?_; rintro e w4 ⟨g4, P4, rfl, hg4, cp4, b4⟩; have n4 := K0.below_new w4 (kob k0 (some ⟨g4, 0, none⟩) k0.ds.length); obtain ⟨L4, sh4⟩ := LG.sh_of cp4; have hgk := sh4.lt; have cp4b := cp4.below n4; have sh4b := sh4.below n4; have nb4 := K0.blk_new (kvals k0 (some ⟨g4, 0, none⟩) k0.ds.length) w4 28; have bel4 : Below (w3.alloc (kob R aw cw)).heap.size (w3.alloc (kob R aw cw)) (w4.alloc (kob k0 (some ⟨g4, 0, none⟩) k0.ds.length)) := b4.trans (n4.mono b4.size))
   | (go_at_call 30; refine (I2.toIntS ka kc zs _ hzn (HR1.out _ t2a.bel)).mono ?_; rintro e w2b ⟨g2b, rfl, hg2b, z2, b2'⟩; have t2 := t2a.below b2')
   | (go_at_call 20; refine (Z3.toKeeper k0 a0 c0 s0 _ hs t1.l).mono ?_; rintro e w2 ⟨g2, P2, rfl, hg2, cp2, b2⟩; have t2a := t1.below b2))
  have dr := (Below.refl w7.heap.size w7).drew
  have K8 := K7.below dr
  have cp8 := cp7.below dr
  have sh8 := sh7.below dr
  have z8 := z7.below dr
  have oh8 := oh7.below dr
  have q8 : w7.drew.cell? ⟨w.heap.size, 0, none⟩ = some (.string k0.mem) ∧ w7.drew.cell? ⟨w.heap.size, 1, none⟩ = some (.string k0.dur) ∧ w7.drew.cell? ⟨w.heap.size, 2, none⟩ = some (.slice a0 k0.ds.length c0) ∧ w7.drew.cell? ⟨w.heap.size, 3, none⟩ = some (.int .i64 k0.ck) ∧ w7.drew.cell? ⟨w4.heap.size, 0, none⟩ = some (.string k0.mem) ∧ w7.drew.cell? ⟨w4.heap.size, 1, none⟩ = some (.string k0.dur) ∧ w7.drew.cell? ⟨w4.heap.size, 2, none⟩ = some (.slice (some ⟨g4, 0, none⟩) k0.ds.length k0.ds.length) ∧ w7.drew.cell? ⟨w4.heap.size, 3, none⟩ = some (.int .i64 k0.ck) := ⟨(HW.out _ K8.bel).1.b.c0, (HW.out _ K8.bel).1.b.c1, (HW.out _ K8.bel).1.b.c2, (HW.out _ K8.bel).1.b.c3, K8.nb.c0, K8.nb.c1, K8.nb.c2, K8.nb.c3⟩
  clear K6 K7 cp6 cp7 sh6 sh7 z6 z7 oh6 oh7 y0 y1 y2 y3 dr
  go_region_held3 (fun W => W.cell? ⟨w.heap.size, 0, none⟩ = some (.string k0.mem) ∧ W.cell? ⟨w.heap.size, 1, none⟩ = some (.string k0.dur) ∧ W.cell? ⟨w.heap.size, 2, none⟩ = some (.slice a0 k0.ds.length c0) ∧ W.cell? ⟨w.heap.size, 3, none⟩ = some (.int .i64 k0.ck) ∧ W.cell? ⟨w4.heap.size, 0, none⟩ = some (.string k0.mem) ∧ W.cell? ⟨w4.heap.size, 1, none⟩ = some (.string k0.dur) ∧ W.cell? ⟨w4.heap.size, 2, none⟩ = some (.slice (some ⟨g4, 0, none⟩) k0.ds.length k0.ds.length) ∧ W.cell? ⟨w4.heap.size, 3, none⟩ = some (.int .i64 k0.ck)) (assumption) ((first
   | (go_at_call 20; refine (Z3.toKeeper k0 a0 c0 s0 _ hs (HW.out _ K8.bel).1.l).mono ?_; rintro e w9 ⟨g9, P9, rfl, hg9, cp9x, b9⟩; have K9 := K8.below b9; have cp9 := cp8.below b9; have sh9 := sh8.below b9; have z9 := z8.below b9; have oh9 := oh8.below b9; have q9 : w9.cell? ⟨w.heap.size, 0, none⟩ = some (.string k0.mem) ∧ w9.cell? ⟨w.heap.size, 1, none⟩ = some (.string k0.dur) ∧ w9.cell? ⟨w.heap.size, 2, none⟩ = some (.slice a0 k0.ds.length c0) ∧ w9.cell? ⟨w.heap.size, 3, none⟩ = some (.int .i64 k0.ck) ∧ w9.cell? ⟨w4.heap.size, 0, none⟩ = some (.string k0.mem) ∧ w9.cell? ⟨w4.heap.size, 1, none⟩ = some (.string k0.dur) ∧ w9.cell? ⟨w4.heap.size, 2, none⟩ = some (.slice (some ⟨g4, 0, none⟩) k0.ds.length k0.ds.length) ∧ w9.cell? ⟨w4.heap.size, 3, none⟩ = some (.int .i64 k0.ck) := ⟨(HW.out _ K9.bel).1.b.c0, (HW.out _ K9.bel).1.b.c1, (HW.out _ K9.bel).1.b.c2, (HW.out _ K9.bel).1.b.c3, K9.nb.c0, K9.nb.c1, K9.nb.c2, K9.nb.c3⟩)
   | (go_at_call 22; refine (Z3.eqKeeper k0 _ _ _ _ _ _ _ hs cp9.rows cp9x.rows).mono ?_; rintro e w10 ⟨rfl, b10⟩; have K10 := K9.below b10; have sh10 := sh9.below b10; have z10 := z9.below b10; have oh10 := oh9.below b10; have q10 : w10.cell? ⟨w.heap.size, 0, none⟩ = some (.string k0.mem) ∧ w10.cell? ⟨w.heap.size, 1, none⟩ = some (.string k0.dur) ∧ w10.cell? ⟨w.heap.size, 2, none⟩ = some (.slice a0 k0.ds.length c0) ∧ w10.cell? ⟨w.heap.size, 3, none⟩ = some (.int .i64 k0.ck) ∧ w10.cell? ⟨w4.heap.size, 0, none⟩ = some (.string k0.mem) ∧ w10.cell? ⟨w4.heap.size, 1, none⟩ = some (.string k0.dur) ∧ w10.cell? ⟨w4.heap.size, 2, none⟩ = some (.slice (some ⟨g4, 0, none⟩) k0.ds.length k0.ds.length) ∧ w10.cell? ⟨w4.heap.size, 3, none⟩ = some (.int .i64 k0.ck) := ⟨(HW.out _ K10.bel).1.b.c0, (HW.out _ K10.bel).1.b.c1, (HW.out _ K10.bel).1.b.c2, (HW.out _ K10.bel).1.b.c3, K10.nb.c0, K10.nb.c1, K10.nb.c2, K10.nb.c3⟩)))
  have o10 := K10.o1
  clear q8 q9 q10 K8 K9 cp8 cp9 cp9x sh8 sh9 z8 z9 oh8 oh9
  go_wp2_with (first
   | (go_at_call 28; have b20' := b20; refine (MU.heldKeeper R cg hRn hRs mh20).mono ?_; rintro e w21 ⟨rfl, b21⟩; have K21 := K20.below b21)
   | (go_at_call 22; have b19' := b19; obtain ⟨sx, lx⟩ := ow19.lns; refine (Z3.eqKeeper R _ _ _ _ _ _ _ hsR lx (HW.out _ K19.bel).2.2).mono ?_; rintro e w20 ⟨rfl, b20⟩; have K20 := K19.below b20; have mh20 := mh19.below b20; have h0 := K20.gb.c0; have h1 := K20.gb.c1; have h2 := K20.gb.c2; have h3 := K20.gb.c3)
   | (go_at_call 10; refine (HI.out _ _ _ _ _ _ (cp17.rows.below b18) (I2.row_of_blk z18)).mono ?_; rintro e w19 ⟨ah, ch, rfl, ow, b19⟩; have n19 := K0.below_new w19 (kob R ah ch); have K19 := (K18.below b19).below n19; have mh19 := (mh18.below b19).below n19; have ow19 := ow.below n19; have y0 := (HW.out _ K19.bel).2.1.c0; have y1 := (HW.out _ K19.bel).2.1.c1; have y2 := (HW.out _ K19.bel).2.1.c2; have y3 := (HW.out _ K19.bel).2.1.c3)
   | (go_at_call 30; have b17' := b17; refine (I2.toIntS ka kc zs _ hzn (HR1.out _ (HW.out _ K17.bel).1.bel)).mono ?_; rintro e w18 ⟨g18, rfl, hg18, z18, b18⟩; have K18 := K17.below b18; have mh18 := mh17.below b18)
   | (go_at_call 20; refine (Z3.toKeeper k0 a0 c0 s0 _ hs (HW.out _ K16.bel).1.l).mono ?_; rintro e w17 ⟨g17, P17, rfl, hg17, cp17, b17⟩; have K17 := K16.below b17; have mh17 := mh16.below b17)
   | (go_at_call 28; refine (MU.heldKeeper R cg hRn hRs mh15).mono ?_; rintro e w16 ⟨rfl, b16⟩; have K16 := K15.below b16; have mh16 := mh15.below b16; have f0 := (HW.out _ K16.bel).1.b.c0; have f1 := (HW.out _ K16.bel).1.b.c1; have f2 := (HW.out _ K16.bel).1.b.c2; have f3 := (HW.out _ K16.bel).1.b.c3)
   | (go_at_call 26; have b14' := b14; refine (MU.markKeeper R cg hRn hRs oh14).mono ?_; rintro e w15 ⟨rfl, mh15, x15⟩; have K15 := K14.btw x15 (by omega) (Or.inr (by omega)) (by omega); have h0 := K15.gb.c0; have h1 := K15.gb.c1; have h2 := K15.gb.c2; have h3 := K15.gb.c3)
   | (go_at_call 22; have x13' := x13; obtain ⟨so2, lo14⟩ := oh13.lns; refine (Z3.eqKeeper R _ _ _ _ _ _ _ hsR lo14 (HW.out _ K13.bel).2.2).mono ?_; rintro e w14 ⟨rfl, b14⟩; have K14 := K13.below b14; have oh14 := oh13.below b14; have h0 := K14.gb.c0; have h1 := K14.gb.c1; have h2 := K14.gb.c2; have h3 := K14.gb.c3)
   | (go_at_call 27; refine (LF.markIn (k0 := r12) (Or.inr ⟨g8, rfl, Nat.le_refl _, Nat.lt_succ_self _, z12⟩ : OwnIn g8 (g8 + 1) w12 (some ⟨g8, 0, none⟩) zs) rfl hzn (by omega)).mono ?_; rintro e w13 ⟨rfl, u13, x13⟩; have K13 := K12.btw x13 (by omega) (Or.inr (by omega)) (by omega); have oh13 := oh12.btw x13 (by omega); have hr13 : decide (((r12 + zs.length : Nat) : Int) < 0) = false := (by simp; omega); have h0 := K13.gb.c0; have h1 := K13.gb.c1; have h2 := K13.gb.c2; have h3 := K13.gb.c3; have y0 := (HW.out _ K13.bel).2.1.c0; have y1 := (HW.out _ K13.bel).2.1.c1; have y2 := (HW.out _ K13.bel).2.1.c2; have y3 := (HW.out _ K13.bel).2.1.c3)
   | (go_at_call 26; refine (MW.markKeeper g4 w4.heap.size k0 P4 L4 _ hn HZ.out sh11).mono ?_; rintro e w12 ⟨⟨r12, hr12, rfl⟩, x12⟩; have K12 := K11.btw x12 (Nat.le_refl _) (Or.inl (Nat.le_refl _)) (by omega); have z12 := LF.blk_btw z11 x12 (Or.inr (by omega)); have oh12 := oh11.btw x12 (by omega))
   | (go_at_call 25; refine (I2.eqIntS _ _ _ _ zs _ (by omega) (I2.row_of_blk z10b) (I2.row_of_blk z11x)).mono ?_; rintro e w11 ⟨rfl, n11, hw11⟩; have dn : Below w10b.heap.size w10b w11 := (by rw [hw11]; exact K0.below_drewN (Below.refl _ _) n11); clear hw11; have K11 := K10b.below dn; have z11 := z10b.below dn; have sh11 := sh10b.below dn; have oh11 := oh10b.below dn; have x0 := K11.nb.c0; have x1 := K11.nb.c1; have x2 := K11.nb.c2; have x3 := K11.nb.c3)
   | (go_at_call 30; refine (I2.toIntS ka kc zs _ hzn (HR1.out _ (HW.out _ K10.bel).1.bel)).mono ?_; rintro e w10b ⟨g11, rfl, hg11, z11x, b10b⟩; have K10b := K10.below b10b; have z10b := z10.below b10b; have sh10b := sh10.below b10b; have oh10b := oh10.below b10b))
  go_ret
  exact ⟨rfl, (HW.out _ K21.bel).1.bel⟩
 ·clear R0
  go_enter Tryz.func7, Tryz.ntmps7
  go_wp2_with (go_at_call 18; refine (Z1.szBig k0 a0 c0 s0 _ x0 hz t0.l.row).mono ?_; rintro e w1 ⟨rfl, b1⟩; have t1 := t0.below b1)
  go_ret
  exact ⟨rfl, t1.bel⟩
end Go.Proofs.YtljnkicgahepfaaGreatDoor.PI
