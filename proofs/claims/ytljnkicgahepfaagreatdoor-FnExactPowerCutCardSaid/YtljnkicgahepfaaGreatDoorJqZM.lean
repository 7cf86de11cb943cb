/- Joined texts: plain facts and contracts. -/
import Derived.Test.YtljnkicgahepfaaGreatDoorJqZJ
import Derived.Test.YtljnkicgahepfaaGreatDoorJqZL
import Derived.Test.YtljnkicgahepfaaGreatDoorJqZA
import Derived.Test.YtljnkicgahepfaaGreatDoorJqZK
set_option linter.unusedVariables false
set_option linter.unusedSimpArgs false
set_option maxRecDepth 10000
namespace Go.Proofs.YtljnkicgahepfaaGreatDoor.PC
open Go.ChangeShapes Go.WideShapes Go.ChangeAt Go.RowKit
open N0 (Ln)
open N1 (Sl)
open Z0 (dat Row Lns Kp kval kvals)
open Z4 (unAll unAll_size)
open KQ (layS layS_size layN)
open WI (rl)
open W0 (pw pMem pDur)
open N13 (undo)
def cut (k : Kp) (kept : List Int) : Kp := ⟨unAll k.ds (pw k.mem k.dur kept) k.ds.length, layS (unAll k.ds (pw k.mem k.dur kept) k.ds.length) (pw k.mem k.dur kept) k.ds k.ds.length, [], k.ck⟩
theorem pw_size (a b : ByteArray) (kept : List Int) : (pw a b kept).size = 768 := by
 show (X0.mix _ _ _).toArray.size = 768
 rw [List.size_toArray, X0.mix_len]
abbrev wk (k : Kp) (a : Option Addr) (c : Nat) : List Value := [.int .i32 1, .int .u32 0, .string k.mem, .string k.dur, .slice a k.ds.length c, .int .i64 k.ck]
set_option maxHeartbeats 8000000 in
theorem powerCut (k : Kp) (P lo : Nat) (a : Option Addr) (c : Nat) (ss : Nat → Sl) (ka : Option Addr) (kc : Nat) (kept : List Int) (w : World) (hok : D1.ok k.mem k.dur = true) (hn : k.ds.length ≤ 1048576) (hkn : kept.length ≤ 1048576) (hF : Z4.Fits k.ds ss) (hlo : lo ≤ P) (hL : Lns w a k.ds ss) (hR : P0.Row w ka kept) (hp : K0.Blk P (wk k a c) w) :
  Calls Tryz.prog 36 #[.pointer (some ⟨P, 0, none⟩), .slice ka kept.length kc] w fun e w' => e = .returned (.tuple #[]) ∧ K0.Blk P (wk (cut k kept) none 0) w' ∧ Below lo w w' := by
 obtain ⟨h1, h2⟩ := D1.ok_true hok
 have hpw := W2.impl_Power k.mem k.dur ka kc kept w (by omega) (by omega) hkn hR
 rw [show pMem k.mem k.dur kept = pw k.mem k.dur kept from if_pos hok, show pDur k.mem k.dur kept = pw k.mem k.dur kept from if_pos hok] at hpw
 have hsz := pw_size k.mem k.dur kept
 have HC : Hid (cut k kept = ⟨unAll k.ds (pw k.mem k.dur kept) k.ds.length, layS (unAll k.ds (pw k.mem k.dur kept) k.ds.length) (pw k.mem k.dur kept) k.ds k.ds.length, [], k.ck⟩) := rfl
 obtain ⟨p, ep⟩ : ∃ p, pw k.mem k.dur kept = p := ⟨_, rfl⟩
 rw [ep] at hpw hsz HC
 have HL : Hid (∀ W, Below w.heap.size w W → Lns W a k.ds ss) := fun W hb => hL.below hb
 have HF : Hid (Z4.Fits k.ds ss) := hF
 have HP : Hid (K0.Blk P (wk k a c) w) := hp
 have c2 := hp.c2
 have c3 := hp.c3
 have hPl := hp.lt
 clear hL hF hR hok ep hp
 go_enter Tryz.func36, Tryz.ntmps36
 go_wp2_with (go_at_call 101; refine hpw.mono ?_; rintro e w1 ⟨rfl, b1⟩; have nb1 := K0.below_new w1 (.cells #[.string p, .string p] 25); have dv := K0.blk_new [.string p, .string p] w1 25; have s1 := b1.size; have M1 : Below w.heap.size w (w1.alloc (.cells #[.string p, .string p] 25)) := b1.trans (nb1.mono s1); have P1 := HP.out.below M1; have d4 := P1.cell 4 (by simp); simp only [List.getElem_cons_zero, List.getElem_cons_succ] at d4)
 have hPD : P < w1.heap.size := by omega
 go_loopw [22] (fun i w' => ∃ j : Nat, j ≤ k.ds.length ∧ i = .int .i64 j ∧ K0.Blk w1.heap.size [.string (unAll k.ds p j), .string p] w' ∧ Below w.heap.size w w') (fun i _ => k.ds.length - (intOf i).toNat)
 case atStart => exact ⟨0, Nat.zero_le _, rfl, dv, M1⟩
 case round =>
  obtain ⟨j, hj, rfl, dvk, hbel⟩ := hrel
  clear dv M1 P1 d4 c2 c3 nb1 hpw
  by_cases hlt : j < k.ds.length
  ·have ls := (HL.out _ hbel).sub j hlt
   obtain ⟨hf, hpo, hfr⟩ := HF.out j hlt
   obtain ⟨b, off, hab, hlt0, hc⟩ := (HL.out _ hbel).row.get hlt
   obtain ⟨y0, y1, y2, y3, y4, y5, y6, y7⟩ := hc j hlt
   have hus := unAll_size k.ds p j
   have hu : undo (unAll k.ds p j) (dat k.ds j) = unAll k.ds p (j + 1) := rfl
   obtain ⟨d, ed⟩ : ∃ d, dat k.ds j = d := ⟨_, rfl⟩
   obtain ⟨s, es⟩ : ∃ s, ss j = s := ⟨_, rfl⟩
   rw [ed, es] at ls hf
   rw [ed] at y0 y1 y2 y3 y4 y5 y6 y7 hpo hfr hu
   rw [es] at y4 y6 y7
   obtain ⟨cur, ec⟩ : ∃ cur, unAll k.ds p j = cur := ⟨_, rfl⟩
   rw [ec] at dvk hus hu
   have HU : Hid (undo cur d = unAll k.ds p (j + 1)) := hu
   have hun : Hid (∀ W, Below wr.heap.size wr W → Calls Tryz.prog 69 #[.string cur, N1.val d s] W fun e w' => e = .returned (.string (undo cur d)) ∧ Below W.heap.size W w') := fun W hb => N13.impl_Undo _ d s W (by omega) hf hpo hfr (ls.below hb)
   obtain ⟨nxt, en⟩ : ∃ nxt, undo cur d = nxt := ⟨_, rfl⟩
   rw [en] at hun HU
   rw [hab]
   have x1 : (0 : Int) ≤ (j : Int) := by omega
   have x2 : (j : Int) < (k.ds.length : Int) := by omega
   have nb := K0.below_new wr (.cells #[.int .i64 d.ino, .int .i64 d.cl, .int .i64 d.un, .string d.rc, .slice s.a1 d.pg.length s.c1, .string d.sav, .slice s.a2 d.po.length s.c2, .slice s.a3 d.fr.length s.c3] 66)
   have dvb := dvk.below nb
   have d0 := dvb.c0
   have d1 := dvb.c1
   have Mb := hbel.trans (nb.mono hbel.size)
   clear ed es ec en hu hc ls hf
   go_wp2_with (go_at_call 69; refine (hun.out _ nb).mono ?_; rintro e w5 ⟨rfl, b5⟩; have dv5 := dvb.below b5; have M5 := Mb.trans (b5.mono Mb.size); have f0 := dv5.c0; have f1 := dv5.c1; have g0 := dv5.f0; have g1 := dv5.f1)
   have q5 := dv5.set 0 (.string nxt)
   have M6 := M5.setCell (p := ⟨w1.heap.size, 0, none⟩) (by show w.heap.size ≤ w1.heap.size; omega) (.string nxt)
   go_roundw
   case rel => exact ⟨j + 1, by omega, by go_num, by rw [← HU.out]; exact q5, M6⟩
   case measure => simp [intOf]; omega
  ·obtain rfl : j = k.ds.length := by omega
   have hms := unAll_size k.ds p k.ds.length
   obtain ⟨m, em⟩ : ∃ m, unAll k.ds p k.ds.length = m := ⟨_, rfl⟩
   rw [em] at dvk hms HC
   have hmz : m.size = 768 := by omega
   have P2 := HP.out.below hbel
   have d4 := P2.cell 4 (by simp)
   simp only [List.getElem_cons_zero, List.getElem_cons_succ] at d4
   clear em
   go_wp2
   go_loopw [38] (fun i w' => ∃ j : Nat, j ≤ k.ds.length ∧ i = .int .i64 j ∧ K0.Blk w1.heap.size [.string m, .string (layS m p k.ds j)] w' ∧ Below w.heap.size w w') (fun i _ => k.ds.length - (intOf i).toNat)
   case atStart => exact ⟨0, Nat.zero_le _, rfl, dvk, hbel⟩
   case round =>
    obtain ⟨j, hj, rfl, dvl, hbel⟩ := hrel
    clear dvk P2 d4
    by_cases hlt : j < k.ds.length
    ·have ls := (HL.out _ hbel).sub j hlt
     obtain ⟨hf, hpo, hfr⟩ := HF.out j hlt
     obtain ⟨b, off, hab, hlt0, hc⟩ := (HL.out _ hbel).row.get hlt
     obtain ⟨y0, y1, y2, y3, y4, y5, y6, y7⟩ := hc j hlt
     have hlz := layS_size m p k.ds hsz j
     have hu : layS m p k.ds (j + 1) = layN m (layS m p k.ds j) (rl (dat k.ds j)) (rl (dat k.ds j)).length := rfl
     obtain ⟨d, ed⟩ : ∃ d, dat k.ds j = d := ⟨_, rfl⟩
     obtain ⟨s, es⟩ : ∃ s, ss j = s := ⟨_, rfl⟩
     rw [ed, es] at ls hf
     rw [ed] at y0 y1 y2 y3 y4 y5 y6 y7 hpo hfr hu
     rw [es] at y4 y6 y7
     obtain ⟨cur, ec⟩ : ∃ cur, layS m p k.ds j = cur := ⟨_, rfl⟩
     rw [ec] at dvl hlz hu
     have HU : Hid (layS m p k.ds (j + 1) = layN m cur (rl d) (rl d).length) := hu
     have hrl : Hid (∀ W, Below wr.heap.size wr W → Calls Tryz.prog 102 #[.agg #[.string m, .string cur], N1.val d s] W fun e w' => e = .returned (.agg #[.string m, .string (layN m cur (rl d) (rl d).length)]) ∧ Below W.heap.size W w') := fun W hb => KQ.rangesLast m cur d s W hmz hlz hf hpo hfr (ls.below hb)
     obtain ⟨nxt, en⟩ : ∃ nxt, layN m cur (rl d) (rl d).length = nxt := ⟨_, rfl⟩
     rw [en] at hrl HU
     rw [hab]
     have x1 : (0 : Int) ≤ (j : Int) := by omega
     have x2 : (j : Int) < (k.ds.length : Int) := by omega
     have nb := K0.below_new wr (.cells #[.int .i64 d.ino, .int .i64 d.cl, .int .i64 d.un, .string d.rc, .slice s.a1 d.pg.length s.c1, .string d.sav, .slice s.a2 d.po.length s.c2, .slice s.a3 d.fr.length s.c3] 66)
     have dvb := dvl.below nb
     have d0 := dvb.c0
     have d1 := dvb.c1
     have Mb := hbel.trans (nb.mono hbel.size)
     clear ed es ec en hu hc ls hf
     go_wp2_with (go_at_call 102; refine (hrl.out _ nb).mono ?_; rintro e w5 ⟨rfl, b5⟩; have dv5 := dvb.below b5; have M5 := Mb.trans (b5.mono Mb.size); have f0 := dv5.c0; have f1 := dv5.c1; have g0 := dv5.f0; have g1 := dv5.f1)
     have q5 := dv5.put2 (.string m) (.string nxt)
     have M6 := (M5.setCell (p := ⟨w1.heap.size, 0, none⟩) (by show w.heap.size ≤ w1.heap.size; omega) (.string m)).setCell (p := ⟨w1.heap.size, 1, none⟩) (by show w.heap.size ≤ w1.heap.size; omega) (.string nxt)
     go_roundw
     case rel => exact ⟨j + 1, by omega, by go_num, by rw [HU.out]; exact q5, M6⟩
     case measure => simp [intOf]; omega
    ·obtain rfl : j = k.ds.length := by omega
     have d0 := dvl.c0
     have d1 := dvl.c1
     have P3 := HP.out.below hbel
     have e2 := P3.cell 2 (by simp)
     have e3 := P3.cell 3 (by simp)
     have e4 := P3.cell 4 (by simp)
     simp only [List.getElem_cons_zero, List.getElem_cons_succ] at e2 e3 e4
     have i2 := P3.free 2 (by simp)
     have i3 := P3.free 3 (by simp)
     have i4 := P3.free 4 (by simp)
     obtain ⟨u, eu⟩ : ∃ u, layS m p k.ds k.ds.length = u := ⟨_, rfl⟩
     rw [eu] at dvl d1 HC
     have P4 := ((P3.set 2 (.string m)).set 3 (.string u)).set 4 (.slice none 0 0)
     have M4 := (((hbel.mono (by omega)).setCell (p := ⟨P, 2, none⟩) hlo (.string m)).setCell (p := ⟨P, 3, none⟩) hlo (.string u)).setCell (p := ⟨P, 4, none⟩) hlo (.slice none 0 0)
     clear HL HF HP
     go_wp2
     refine bodyPost_end (v := .tuple #[]) (by simp [results, Tryz.results36, go_sem]) rfl ?_
     exact ⟨rfl, by rw [HC.out]; exact P4, M4⟩
end Go.Proofs.YtljnkicgahepfaaGreatDoor.PC
namespace Go.Proofs.YtljnkicgahepfaaGreatDoor.PD
open Go.ChangeShapes Go.WideShapes Go.ChangeAt Go.RowKit
open N0 (Ln)
open N1 (Sl)
open Z0 (dat Row Lns Kp kval kvals)
open KD (KA Small kob zk)
open AQ (Bx bx_new co Sz)
open PC (cut wk)
set_option maxHeartbeats 2000000 in
theorem ask_not (k : Kp) (a : Option Addr) (c : Nat) (s0 : Nat → Sl) (q : Value) (w : World) (hz : Sz k) (hok : KI.iK k = false) (hR : Lns w a k.ds s0) :
  Calls Tryz.prog 79 #[kval k a c, q] w fun e w' => e = .returned (.tuple #[.agg #[.string ⟨#[]⟩, .string ⟨#[]⟩, .slice none 0 0, .int .i64 0], .int .i64 6]) ∧ Below w.heap.size w w' := by
 have t0 := bx_new w k a c
 have HL : Hid (∀ W, Below w.heap.size w W → Lns W a k.ds s0) := fun W hb => hR.below hb
 have hk0 := KI.impl_KeeperOk k a c s0 _ hz.m hz.d hz.t (hz.fits s0) (HL.out _ t0.bel)
 rw [hok] at hk0
 have c0 := t0.box.c0
 have c1 := t0.box.c1
 have c2 := t0.box.c2
 have c3 := t0.box.c3
 obtain ⟨W0, hW0⟩ : ∃ W0, ((w.alloc (kob k a c)).alloc zk).alloc co = W0 := ⟨_, rfl⟩
 rw [hW0] at t0 hk0 c0 c1 c2 c3
 clear hR hok HL
 go_enter_defers Tryz.func79, Tryz.ntmps79
 go_wp2_with (go_at_call 14; refine hk0.mono ?_; rintro e w1 ⟨rfl, b1⟩; have t1 := t0.below b1; have y0 := t1.ans.c0; have y1 := t1.ans.c1; have y2 := t1.ans.c2; have y3 := t1.ans.c3; have g0 := t1.ans.f0; have g1 := t1.ans.f1; have g2 := t1.ans.f2; have g3 := t1.ans.f3; have j0 := t1.code.c0; have jf := t1.code.f0)
 have n2 := (t1.ans.put4 (.string ⟨#[]⟩) (.string ⟨#[]⟩) (.slice none 0 0) (.int .i64 0)).setOther (B' := w.heap.size + 1 + 1) (by omega) 0 (.int .i64 6)
 have k2 := ((((t1.code.setOther (B' := w.heap.size + 1) (by omega) 0 (.string ⟨#[]⟩)).setOther (B' := w.heap.size + 1) (by omega) 1 (.string ⟨#[]⟩)).setOther (B' := w.heap.size + 1) (by omega) 2 (.slice none 0 0)).setOther (B' := w.heap.size + 1) (by omega) 3 (.int .i64 0)).set 0 (.int .i64 6)
 have l2 := ((((t1.bel.setCell (p := ⟨w.heap.size + 1, 0, none⟩) (Nat.le_succ _) (.string ⟨#[]⟩)).setCell (p := ⟨w.heap.size + 1, 1, none⟩) (Nat.le_succ _) (.string ⟨#[]⟩)).setCell (p := ⟨w.heap.size + 1, 2, none⟩) (Nat.le_succ _) (.slice none 0 0)).setCell (p := ⟨w.heap.size + 1, 3, none⟩) (Nat.le_succ _) (.int .i64 0)).setCell (p := ⟨w.heap.size + 1 + 1, 0, none⟩) (by show w.heap.size ≤ w.heap.size + 1 + 1; omega) (.int .i64 6)
 have v0 := n2.c0
 have v1 := n2.c1
 have v2 := n2.c2
 have v3 := n2.c3
 have v4 := k2.cell 0 (by simp)
 simp only [List.set_cons_zero, List.getElem_cons_zero] at v4
 obtain ⟨W2, hW2⟩ : ∃ W2, ((((w1.setCell ⟨w.heap.size + 1, 0, none⟩ (.string ⟨#[]⟩)).setCell ⟨w.heap.size + 1, 1, none⟩ (.string ⟨#[]⟩)).setCell ⟨w.heap.size + 1, 2, none⟩ (.slice none 0 0)).setCell ⟨w.heap.size + 1, 3, none⟩ (.int .i64 0)).setCell ⟨w.heap.size + 1 + 1, 0, none⟩ (.int .i64 6) = W2 := ⟨_, rfl⟩
 rw [hW2] at v0 v1 v2 v3 v4 l2 ⊢
 clear c0 c1 c2 c3 y0 y1 y2 y3 g0 g1 g2 g3 j0 jf hk0 n2 k2 hW2
 simp [bodyPostD, Leaves, settle, results, Tryz.results79, go_sem, v0, v1, v2, v3, v4]
 exact l2
set_option maxHeartbeats 2000000 in
theorem quest (k : Kp) (kept : List Int) (ka : Option Addr) (kc B : Nat) (w : World) (hz : Sz k) (hok : D1.ok k.mem k.dur = true) (hkn : kept.length ≤ 1048576) (hB : K0.Blk B [.slice ka kept.length kc] w) (hR : P0.Row w ka kept) :
  AQ.Quest w k (cut k kept) 35 #[.pointer (some ⟨B, 0, none⟩)] := by
 intro W P a' c' hP hp ho hb
 obtain ⟨ss, hL⟩ := ho.lns
 have hpc := PC.powerCut k P (w.heap.size + 3) a' c' ss ka kc kept W hok (by have := hz.t; omega) hkn (hz.fits ss) hP hL (hR.below hb) hp
 have b0 := (hB.below hb).c0
 show Calls Tryz.prog _ #[.pointer (some ⟨P, 0, none⟩), .pointer (some ⟨B, 0, none⟩)] W _
 clear hp ho hb hL hB hR
 go_enter Tryz.func35, Tryz.ntmps35
 go_wp2_with (go_at_call 36; refine hpc.mono ?_; rintro e w1 ⟨rfl, p1, b1⟩)
 go_ret
 exact ⟨rfl, ⟨none, 0, p1, Or.inl rfl⟩, b1⟩
structure B2 (w : World) (k : Kp) (a : Option Addr) (c : Nat) (W : World) : Prop where
 box : K0.Blk w.heap.size (kvals k a c) W
 ans : K0.Blk (w.heap.size + 1) Z3.zero4 W
 bel : Below w.heap.size w W
theorem B2.below {w W W' : World} {k : Kp} {a : Option Addr} {c : Nat} (h : B2 w k a c W) (hb : Below W.heap.size W W') : B2 w k a c W' := ⟨h.box.below hb, h.ans.below hb, h.bel.trans (hb.mono h.bel.size)⟩
theorem b2_new (w : World) (k : Kp) (a : Option Addr) (c : Nat) : B2 w k a c ((w.alloc (kob k a c)).alloc zk) :=
 ⟨(K0.blk_new (kvals k a c) w 28).alloc _, K0.blk_at Z3.zero4 _ 28 (by simp), ((Below.refl _ _).alloc (Nat.le_refl _) _).alloc (by simp) _⟩
theorem own_mono {lo lo' : Nat} {a : Option Addr} {ds : List Ln} {W : World} (h : KD.Own lo a ds W) (hl : lo' ≤ lo) : KD.Own lo' a ds W := AQ.own_mono h hl
theorem ends {A lo lo' : Nat} {x0 x1 x2 x3 : Value} {w W : World} (k : Kp) (a : Option Addr) (c : Nat) (h : K0.Blk A [x0, x1, x2, x3] W) (ho : KD.Own lo a k.ds W) (hA : A < lo) (hl : lo' ≤ lo) (hb : Below lo' w W) (hA' : lo' ≤ A) :
  let V := (((W.setCell ⟨A, 0, none⟩ (.string k.mem)).setCell ⟨A, 1, none⟩ (.string k.dur)).setCell ⟨A, 2, none⟩ (.slice a k.ds.length c)).setCell ⟨A, 3, none⟩ (.int .i64 k.ck)
  K0.Blk A (kvals k a c) V ∧ KD.Own lo' a k.ds V ∧ Below lo' w V :=
 ⟨h.put4 _ _ _ _, own_mono ((((ho.set hA 0 _).set hA 1 _).set hA 2 _).set hA 3 _) hl, (((hb.setCell (p := ⟨A, 0, none⟩) hA' _).setCell (p := ⟨A, 1, none⟩) hA' _).setCell (p := ⟨A, 2, none⟩) hA' _).setCell (p := ⟨A, 3, none⟩) hA' _⟩
set_option maxHeartbeats 4000000 in
theorem stay_yes (k k' : Kp) (a : Option Addr) (c : Nat) (q : Value) (w : World) (HA : ∀ W, Below w.heap.size w W → w.heap.size + 2 ≤ W.heap.size → Calls Tryz.prog 79 #[kval k a c, q] W fun e w' => ∃ a2 c2, e = .returned (.tuple #[kval k' a2 c2, .int .i64 0]) ∧ KD.Own (W.heap.size + 3) a2 k'.ds w' ∧ Below W.heap.size W w') :
  Calls Tryz.prog 34 #[kval k a c, q] w (KA k' w) := by
 have t0 := b2_new w k a c
 have hq := HA _ t0.bel (by simp)
 have c0 := t0.box.c0
 have c1 := t0.box.c1
 have c2 := t0.box.c2
 have c3 := t0.box.c3
 have z0 : w.heap.size + 2 = ((w.alloc (kob k a c)).alloc zk).heap.size := by simp
 obtain ⟨W0, hW0⟩ : ∃ W0, (w.alloc (kob k a c)).alloc zk = W0 := ⟨_, rfl⟩
 rw [hW0] at t0 hq c0 c1 c2 c3 z0
 clear HA
 unfold KA
 go_enter Tryz.func34, Tryz.ntmps34
 go_wp2_with (go_at_call 79; refine hq.mono ?_; rintro e w1 ⟨a2, c2', rfl, o1, b1⟩; have nw := K0.below_new w1 (.cells #[.string k'.mem, .string k'.dur, .slice a2 k'.ds.length c2', .int .i64 k'.ck] 28); have p1 := K0.blk_new (kvals k' a2 c2') w1 28; have t1 := (t0.below b1).below nw; have o2 : KD.Own (W0.heap.size + 3) a2 k'.ds (w1.alloc (.cells #[.string k'.mem, .string k'.dur, .slice a2 k'.ds.length c2', .int .i64 k'.ck] 28)) := o1.below nw; have y0 := t1.ans.c0; have y1 := t1.ans.c1; have y2 := t1.ans.c2; have y3 := t1.ans.c3; have g0 := t1.ans.f0; have g1 := t1.ans.f1; have g2 := t1.ans.f2; have g3 := t1.ans.f3; have x0 := p1.c0; have x1 := p1.c1; have x2 := p1.c2; have x3 := p1.c3)
 obtain ⟨q1, q2, q3⟩ := ends k' a2 c2' t1.ans o2 (A := w.heap.size + 1) (lo' := w.heap.size) (by omega) (by omega) t1.bel (Nat.le_succ _)
 have v0 := q1.c0
 have v1 := q1.c1
 have v2 := q1.c2
 have v3 := q1.c3
 exact bodyPost_ret (v := kval k' a2 c2') (by simp [results, Tryz.results34, go_sem, v0, v1, v2, v3]) rfl ⟨a2, c2', rfl, q2, q3⟩
abbrev zo : Obj := .cells #[.string ⟨#[]⟩, .string ⟨#[]⟩, .slice none 0 0, .int .i64 0] 28
set_option maxHeartbeats 4000000 in
theorem stay_not (k : Kp) (a : Option Addr) (c : Nat) (q : Value) (w : World) (HA : ∀ W, Below w.heap.size w W → Calls Tryz.prog 79 #[kval k a c, q] W fun e w' => e = .returned (.tuple #[.agg #[.string ⟨#[]⟩, .string ⟨#[]⟩, .slice none 0 0, .int .i64 0], .int .i64 6]) ∧ Below W.heap.size W w')
  (HC : ∀ W, Below w.heap.size w W → Calls Tryz.prog 100 #[kval k a c] W (KA k W)) :
  Calls Tryz.prog 34 #[kval k a c, q] w (KA k w) := by
 have t0 := b2_new w k a c
 have hq := HA _ t0.bel
 have HC' : Hid (∀ W, Below w.heap.size w W → Calls Tryz.prog 100 #[kval k a c] W (KA k W)) := HC
 have c0 := t0.box.c0
 have c1 := t0.box.c1
 have c2 := t0.box.c2
 have c3 := t0.box.c3
 have z0 : w.heap.size + 2 = ((w.alloc (kob k a c)).alloc zk).heap.size := by simp
 obtain ⟨W0, hW0⟩ : ∃ W0, (w.alloc (kob k a c)).alloc zk = W0 := ⟨_, rfl⟩
 rw [hW0] at t0 hq c0 c1 c2 c3 z0
 clear HA HC
 unfold KA
 go_enter Tryz.func34, Tryz.ntmps34
 go_wp2_with (first
  | (go_at_call 79; refine hq.mono ?_; rintro e w1 ⟨rfl, b1⟩; have nw := K0.below_new w1 zo; have t1 := (t0.below b1).below nw; have s1 := b1.size; have n1 := nw.size; have c0 := t1.box.c0; have c1 := t1.box.c1; have c2 := t1.box.c2; have c3 := t1.box.c3)
  | (go_at_call 100; refine (HC'.out _ t1.bel).mono ?_; rintro e w2 ⟨a2, c2', rfl, o2, b2⟩; have t2 := t1.below b2; have y0 := t2.ans.c0; have y1 := t2.ans.c1; have y2 := t2.ans.c2; have y3 := t2.ans.c3; have g0 := t2.ans.f0; have g1 := t2.ans.f1; have g2 := t2.ans.f2; have g3 := t2.ans.f3))
 obtain ⟨q1, q2, q3⟩ := ends k a2 c2' t2.ans o2 (A := w.heap.size + 1) (lo' := w.heap.size) (by omega) (by omega) t2.bel (Nat.le_succ _)
 have v0 := q1.c0
 have v1 := q1.c1
 have v2 := q1.c2
 have v3 := q1.c3
 exact bodyPost_ret (v := kval k a2 c2') (by simp [results, Tryz.results34, go_sem, v0, v1, v2, v3]) rfl ⟨a2, c2', rfl, q2, q3⟩
def pcut (k : Kp) (kept : List Int) : Kp := if KI.iK k = true then cut k kept else k
theorem iK_ok {k : Kp} (h : KI.iK k = true) : D1.ok k.mem k.dur = true := by
 unfold KI.iK at h
 simp only [Bool.and_eq_true] at h
 exact h.1
abbrev io (ka : Option Addr) (kn kc : Nat) : Obj := .cells #[.slice ka kn kc] 29
set_option maxHeartbeats 4000000 in
theorem impl_PowerCut (k : Kp) (a : Option Addr) (c : Nat) (s0 : Nat → Sl) (ka : Option Addr) (kc : Nat) (kept : List Int) (w : World) (hz : Sz k) (hkn : kept.length ≤ 1048576) (hL : Lns w a k.ds s0) (hR : P0.Row w ka kept) :
  Calls Tryz.prog 10 #[kval k a c, .slice ka kept.length kc] w (KA (pcut k kept) w) := by
 have x0 := (((Below.refl w.heap.size w).alloc (Nat.le_refl _) (kob k a c)).alloc (by simp) (io ka kept.length kc)).alloc (by simp; omega) zk
 have kb := (((K0.blk_new (kvals k a c) w 28).alloc (io ka kept.length kc))).alloc zk
 have ib := (K0.blk_at (B := w.heap.size + 1) [.slice ka kept.length kc] (w.alloc (kob k a c)) 29 (by simp)).alloc zk
 have ab := K0.blk_at (B := w.heap.size + 1 + 1) Z3.zero4 ((w.alloc (kob k a c)).alloc (io ka kept.length kc)) 28 (by simp)
 have z0 : w.heap.size + 3 = (((w.alloc (kob k a c)).alloc (io ka kept.length kc)).alloc zk).heap.size := by simp
 obtain ⟨W0, hW0⟩ : ∃ W0, ((w.alloc (kob k a c)).alloc (io ka kept.length kc)).alloc zk = W0 := ⟨_, rfl⟩
 have hst : Calls Tryz.prog 34 #[kval k a c, .func (.func 35) #[] #[.pointer (some ⟨w.heap.size + 1, 0, none⟩)]] W0 (KA (pcut k kept) W0) := by
  rw [hW0] at x0 ib
  by_cases hok : KI.iK k = true
  ·rw [show pcut k kept = cut k kept from if_pos hok]
   refine stay_yes k (cut k kept) a c _ W0 fun W hb hs => ?_
   exact AQ.ask_yes k (cut k kept) a c s0 _ W hz hok ((hL.below x0).below hb) (show (cut k kept).ds = [] from rfl) (quest k kept ka kc _ W hz (iK_ok hok) hkn (ib.below hb) ((hR.below x0).below hb))
  ·rw [show pcut k kept = k from if_neg hok]
   refine stay_not k a c _ W0 (fun W hb => ask_not k a c s0 _ W hz (by simpa using hok) ((hL.below x0).below hb)) fun W hb => ?_
   exact KD.keeperCopy k a c s0 W (by have := hz.m; omega) (by have := hz.d; omega) (by have := hz.t; omega) hz.small ((hL.below x0).below hb)
 have c0 := kb.c0
 have c1 := kb.c1
 have c2 := kb.c2
 have c3 := kb.c3
 rw [hW0] at x0 kb ib ab z0 c0 c1 c2 c3
 have hm0 := AQ.hmf
 obtain ⟨r, hr⟩ : ∃ r, pcut k kept = r := ⟨_, rfl⟩
 rw [hr] at hst ⊢
 obtain ⟨kn, hkn'⟩ : ∃ kn, kept.length = kn := ⟨_, rfl⟩
 rw [hkn'] at ib hW0 ⊢
 clear hL hR hr hkn'
 unfold KA at hst ⊢
 go_enter Tryz.func10, Tryz.ntmps10
 go_wp2_with (go_at_call 34; refine hst.mono ?_; rintro e w2 ⟨a2, c2', rfl, o2, b2⟩; have n2 := ab.below b2; have M2 := x0.trans (b2.mono x0.size); have y0 := n2.c0; have y1 := n2.c1; have y2 := n2.c2; have y3 := n2.c3; have g0 := n2.f0; have g1 := n2.f1; have g2 := n2.f2; have g3 := n2.f3)
 obtain ⟨q1, q2, q3⟩ := ends r a2 c2' n2 o2 (A := w.heap.size + 1 + 1) (lo' := w.heap.size) (by omega) (by omega) M2 (by omega)
 have v0 := q1.c0
 have v1 := q1.c1
 have v2 := q1.c2
 have v3 := q1.c3
 exact bodyPost_ret (v := kval r a2 c2') (by simp [results, Tryz.results10, go_sem, v0, v1, v2, v3]) rfl ⟨a2, c2', rfl, q2, q3⟩
end Go.Proofs.YtljnkicgahepfaaGreatDoor.PD
namespace Go.Proofs.YtljnkicgahepfaaGreatDoor.PE
open Go.ChangeShapes Go.WideShapes Go.ChangeAt Go.RowKit
open N0 (Ln)
open N1 (Sl Lists Fit LB lb_new)
open HP (Rg at_)
open WI (rl)
open Z0 (dat Kp Lns kval)
open I2 (ints)
open X0 (mix mix_len)
open KQ (lay layN layS lay_size layN_size layS_size)
theorem wf_small {i : Int} (h0 : 0 ≤ i) (h1 : i ≤ 768) : (Lit.int .i64 i).wf = true := by
 have e1 : IntKind.i64.min = -9223372036854775808 := by decide +kernel
 have e2 : IntKind.i64.max = 9223372036854775807 := by decide +kernel
 simp [Lit.wf, e1, e2]
 omega
theorem flush_lay (a b : ByteArray) (i n : Int) (w : World) (ha : a.size = 768) (hb : b.size = 768) (hi : 0 ≤ i) (hn : 1 ≤ n) (hin : i + n ≤ 768) :
  Calls Tryz.prog 113 #[.agg #[.string a, .string b], .int .i64 i, .int .i64 n] w fun e w' => e = .returned (.agg #[.string a, .string (lay a b (i, n))]) ∧ Below w.heap.size w w' := by
 have h := F3.spec_Flush a b i n w (by omega) (by omega) (wf_small hi (by omega)) (wf_small (by omega) (by omega))
 have e : F3.flushed a b i n = lay a b (i, n) := by
  unfold F3.flushed
  rw [if_pos (by unfold F3.goes; rw [D1.ok_mk ha hb, ha]; simp [B2.lies]; omega)]
  rfl
 rw [e] at h
 exact h
set_option maxHeartbeats 2000000 in
theorem l06Sync (a b : ByteArray) (d : Ln) (s : Sl) (w : World) (ha : a.size = 768) (hb : b.size = 768) (hF : Fit d s) (hpo : d.po.length ≤ 1048576) (hfr : d.fr.length ≤ 1048576) (hR : Lists w d s) :
  Calls Tryz.prog 41 #[.agg #[.string a, .string b], N1.val d s] w fun e w' => e = .returned (.agg #[.string a, .string (layN a b (rl d) (rl d).length)]) ∧ Below w.heap.size w w' := by
 have dv := K0.blk_new [.string a, .string b] w 25
 have m0 := K0.below_new w (.cells #[.string a, .string b] 25)
 have e1 : (w.alloc (.cells #[.string a, .string b] 25)).heap.size = w.heap.size + 1 := by simp
 have m1 := K0.below_new (w.alloc (.cells #[.string a, .string b] 25)) (.cells #[.int .i64 d.ino, .int .i64 d.cl, .int .i64 d.un, .string d.rc, .slice s.a1 d.pg.length s.c1, .string d.sav, .slice s.a2 d.po.length s.c2, .slice s.a3 d.fr.length s.c3] 66)
 have lb := N1.lb_new d s (w.alloc (.cells #[.string a, .string b] 25)) 66
 have e2 : ((w.alloc (.cells #[.string a, .string b] 25)).alloc (.cells #[.int .i64 d.ino, .int .i64 d.cl, .int .i64 d.un, .string d.rc, .slice s.a1 d.pg.length s.c1, .string d.sav, .slice s.a2 d.po.length s.c2, .slice s.a3 d.fr.length s.c3] 66)).heap.size = w.heap.size + 2 := by simp
 have m2 := K0.below_new ((w.alloc (.cells #[.string a, .string b] 25)).alloc (.cells #[.int .i64 d.ino, .int .i64 d.cl, .int .i64 d.un, .string d.rc, .slice s.a1 d.pg.length s.c1, .string d.sav, .slice s.a2 d.po.length s.c2, .slice s.a3 d.fr.length s.c3] 66)) (.cells #[.string ⟨#[]⟩, .string ⟨#[]⟩] 25)
 have rs := K0.blk_new [.string ⟨#[]⟩, .string ⟨#[]⟩] ((w.alloc (.cells #[.string a, .string b] 25)).alloc (.cells #[.int .i64 d.ino, .int .i64 d.cl, .int .i64 d.un, .string d.rc, .slice s.a1 d.pg.length s.c1, .string d.sav, .slice s.a2 d.po.length s.c2, .slice s.a3 d.fr.length s.c3] 66)) 25
 have dv3 := (dv.below m1).below m2
 have lb3 := lb.below m2
 have M3 := (m0.trans (m1.mono m0.size)).trans (m2.mono (Nat.le_trans m0.size m1.size))
 rw [e1] at lb3
 rw [e2] at rs
 have L3 := hR.below M3
 have c0 := lb3.c0
 have c1 := lb3.c1
 have c2 := lb3.c2
 have c3 := lb3.c3
 have c4 := lb3.c4
 have c5 := lb3.c5
 have c6 := lb3.c6
 have c7 := lb3.c7
 have hrg : Hid (∀ W, Lists W d s → Calls Tryz.prog 112 #[N1.val d s] W (R6.Ans d W)) := fun W h => R6.spec_Ranges d s W hF hpo hfr h
 have hlt3 : w.heap.size + 2 < (((w.alloc (.cells #[.string a, .string b] 25)).alloc (.cells #[.int .i64 d.ino, .int .i64 d.cl, .int .i64 d.un, .string d.rc, .slice s.a1 d.pg.length s.c1, .string d.sav, .slice s.a2 d.po.length s.c2, .slice s.a3 d.fr.length s.c3] 66)).alloc (.cells #[.string ⟨#[]⟩, .string ⟨#[]⟩] 25)).heap.size := rs.lt
 have hnr : (rl d).length = R6.nR d := WI.rl_len d
 obtain ⟨n, hn⟩ : ∃ n, (rl d).length = n := ⟨_, rfl⟩
 rw [hn] at hnr
 rw [hn]
 have hn13 : n ≤ 13 := by rw [← hn]; exact WI.rl_small d
 have HN : Hid ((rl d).length = n) := hn
 clear dv m0 m1 lb m2 e1 e2 hR hF hn
 go_enter Tryz.func41, Tryz.ntmps41
 go_wp2_with (go_at_call 112; refine (hrg.out _ L3).mono ?_; rintro e w4 ⟨a4, c4', rfl, hq4, hc4, o4, b4⟩; have M4 := M3.trans (b4.mono M3.size); have dv4 := dv3.below b4; have rs4 := rs.below b4; have r4 := WI.row_of o4)
 rw [← hnr] at *
 clear c0 c1 c2 c3 c4 c5 c6 c7 dv3 lb3 rs M3 L3 b4 o4 hrg hq4 hc4
 have hlt4 : w.heap.size + 3 ≤ ((((w.alloc (.cells #[.string a, .string b] 25)).alloc (.cells #[.int .i64 d.ino, .int .i64 d.cl, .int .i64 d.un, .string d.rc, .slice s.a1 d.pg.length s.c1, .string d.sav, .slice s.a2 d.po.length s.c2, .slice s.a3 d.fr.length s.c3] 66)).alloc (.cells #[.string ⟨#[]⟩, .string ⟨#[]⟩] 25))).heap.size := hlt3
 have r4' : rl d = [] ∨ ∃ G, a4 = some ⟨G, 0, none⟩ ∧ w.heap.size + 3 ≤ G ∧ K0.Blk G (ints (R6.rg d)) w4 := r4.imp id fun ⟨G, h1, h2, h3⟩ => ⟨G, h1, Nat.le_trans hlt4 h2, h3⟩
 clear r4 hlt3 hlt4
 go_loopw [6] (fun i w' => ∃ k : Nat, k ≤ n ∧ i = .int .i64 k ∧ K0.Blk w.heap.size [.string a, .string (layN a b (rl d) k)] w' ∧ K0.Blk (w.heap.size + 2) [.string ⟨#[]⟩, .string ⟨#[]⟩] w' ∧ (rl d = [] ∨ ∃ G, a4 = some ⟨G, 0, none⟩ ∧ w.heap.size + 3 ≤ G ∧ K0.Blk G (ints (R6.rg d)) w') ∧ Below w.heap.size w w') (fun i _ => n - (intOf i).toNat)
 case atStart => exact ⟨0, Nat.zero_le _, rfl, dv4, rs4, r4', M4⟩
 case round =>
  obtain ⟨k, hk, rfl, dvk, rsk, rk, hbel⟩ := hrel
  clear dv4 rs4 r4' M4
  by_cases hlt : k < n
  ·obtain ⟨G, rfl, hG, kG⟩ : ∃ G, a4 = some ⟨G, 0, none⟩ ∧ w.heap.size + 3 ≤ G ∧ K0.Blk G (ints (R6.rg d)) wr := by
    rcases rk with h0 | h0
    ·rw [h0] at HN
     have := HN.out
     simp at this
     omega
    ·exact h0
   have hkl : k < (rl d).length := by have := HN.out; omega
   obtain ⟨y1, y2⟩ := WI.row_get kG hkl
   obtain ⟨i1, i2, i3⟩ := WI.at_in d hkl
   have hsz := layN_size a b (rl d) hb k
   have hu : layN a b (rl d) (k + 1) = lay a (layN a b (rl d) k) (at_ (rl d) k) := rfl
   obtain ⟨r, er⟩ : ∃ r, at_ (rl d) k = r := ⟨_, rfl⟩
   rw [er] at y1 y2 i1 i2 i3 hu
   obtain ⟨u, v⟩ := r
   simp only at y1 y2 i1 i2 i3
   obtain ⟨cur, ec⟩ : ∃ cur, layN a b (rl d) k = cur := ⟨_, rfl⟩
   rw [ec] at dvk hsz hu
   have HU : Hid (layN a b (rl d) (k + 1) = lay a cur (u, v)) := hu
   have hfl : Hid (∀ W, Calls Tryz.prog 113 #[.agg #[.string a, .string cur], .int .i64 u, .int .i64 v] W fun e w' => e = .returned (.agg #[.string a, .string (lay a cur (u, v))]) ∧ Below W.heap.size W w') := fun W => flush_lay a cur u v W ha hsz i1 (by omega) i3
   have x1 : (0 : Int) ≤ (k : Int) := by omega
   have x2 : (k : Int) < (n : Int) := by omega
   have d0 := dvk.c0
   have d1 := dvk.c1
   clear er ec hu rk hb
   go_wp2
   go_region_with (go_at_call 113; refine (hfl.out _).mono ?_; rintro e w5 ⟨rfl, b5⟩; have dv5 := dvk.drew.below b5; have rs5 := rsk.drew.below b5; have k5 := kG.drew.below b5; have M5 := hbel.drew.trans (b5.mono hbel.drew.size); have f0 := dv5.c0; have f1 := dv5.c1; have g0 := dv5.f0; have g1 := dv5.f1)
   all_goals
    go_wp2
    have q5 := dv5.put2 (.string a) (.string (lay a cur (u, v)))
    have rs6 := (rs5.setOther (B' := w.heap.size) (by omega) 0 (.string a)).setOther (B' := w.heap.size) (by omega) 1 (.string (lay a cur (u, v)))
    have k6 := (k5.setOther (B' := w.heap.size) (by omega) 0 (.string a)).setOther (B' := w.heap.size) (by omega) 1 (.string (lay a cur (u, v)))
    have M6 := (M5.setCell (p := ⟨w.heap.size, 0, none⟩) (Nat.le_refl _) (.string a)).setCell (p := ⟨w.heap.size, 1, none⟩) (Nat.le_refl _) (.string (lay a cur (u, v)))
    go_roundw
    case rel => exact ⟨k + 1, by omega, by go_num, by rw [HU.out]; exact q5, rs6, Or.inr ⟨G, rfl, hG, k6⟩, M6⟩
    case measure => simp [intOf]; omega
  ·obtain rfl : k = n := by omega
   have d0 := dvk.c0
   have d1 := dvk.c1
   have f0 := rsk.c0
   have f1 := rsk.c1
   have g0 := rsk.f0
   have g1 := rsk.f1
   have q := rsk.put2 (.string a) (.string (layN a b (rl d) k))
   have MF := (hbel.setCell (p := ⟨w.heap.size + 2, 0, none⟩) (Nat.le_add_right _ 2) (.string a)).setCell (p := ⟨w.heap.size + 2, 1, none⟩) (Nat.le_add_right _ 2) (.string (layN a b (rl d) k))
   clear rk
   go_wp2
   exact bodyPost_ret (v := .agg #[.string a, .string (layN a b (rl d) k)]) (by simp [results, Tryz.results41, go_sem, q.c0, q.c1]) rfl ⟨rfl, MF⟩
end Go.Proofs.YtljnkicgahepfaaGreatDoor.PE
