/- Joined texts: plain facts and contracts. -/
import Derived.Test.YtljnkicgahepfaaGreatDoorJlZO
import Derived.Test.YtljnkicgahepfaaGreatDoorJlA
import Derived.Test.YtljnkicgahepfaaGreatDoorJlZL
set_option linter.unusedVariables false
set_option linter.unusedSimpArgs false
set_option maxRecDepth 10000
namespace Go.Proofs.YtljnkicgahepfaaGreatDoor.WQ
open Go.ChangeShapes Go.WideShapes Go.ChangeAt Go.RowKit
open N0 (Ln)
open N1 (Sl)
open Z0 (dat Row Lns Kp kval kvals)
open KD (KA Small kob zk)
open AQ (Bx bx_new co Sz wo wo1 own_mono)
open WN (er ref chain wk)
open WP (Chg blk_chg)
theorem setNew {B : Nat} {w W : World} (h : Chg B w W) {p : Addr} (hp : w.heap.size ≤ p.block) (v : Value) : Chg B w (W.setCell p v) :=
 ⟨h.os, h.tape, h.output, by simpa [World.setCell] using h.size, fun k hk hn => by
  have : (W.setCell p v).heap[k]? = W.heap[k]? := by
   unfold World.setCell
   simp [Array.getElem?_modify]
   omega
  rw [this]; exact h.block k hk hn⟩
set_option maxHeartbeats 8000000 in
theorem ask_yes (k : Kp) (a : Option Addr) (c : Nat) (s0 : Nat → Sl) (bc bi bn bs : Nat) (Y : ByteArray) (w : World) (hz : Sz k) (hok : KI.iK k = true) (hR : Lns w a k.ds s0) (hbs : bs < w.heap.size) (HQ : ∀ (W : World) (P : Nat) (a' : Option Addr) (c' : Nat), w.heap.size + 3 ≤ P → K0.Blk P (wk k a' c') W → KD.Own (w.heap.size + 3) a' k.ds W → Below w.heap.size w W → Calls Tryz.prog 80 #[.pointer (some ⟨P, 0, none⟩), .pointer (some ⟨bc, 0, none⟩), .pointer (some ⟨bi, 0, none⟩), .pointer (some ⟨bn, 0, none⟩), .pointer (some ⟨bs, 0, none⟩)] W fun e w' => e = .returned .nilIface ∧ K0.Blk bs [.string Y] w' ∧ Chg bs W w') :
  Calls Tryz.prog 79 #[kval k a c, .func (.func 80) #[] #[.pointer (some ⟨bc, 0, none⟩), .pointer (some ⟨bi, 0, none⟩), .pointer (some ⟨bn, 0, none⟩), .pointer (some ⟨bs, 0, none⟩)]] w fun e w' => ∃ a2 c2, e = .returned (.tuple #[kval k a2 c2, .int .i64 0]) ∧ K0.Blk bs [.string Y] w' ∧ Chg bs w w' := by
 have t0 := bx_new w k a c
 have HL : Hid (∀ W, Below w.heap.size w W → Lns W a k.ds s0) := fun W hb => hR.below hb
 have hk0 := KI.impl_KeeperOk k a c s0 _ hz.m hz.d hz.t (hz.fits s0) (HL.out _ t0.bel)
 rw [hok] at hk0
 have HC : Hid (∀ W, Below w.heap.size w W → Calls Tryz.prog 100 #[kval k a c] W (KA k W)) := fun W hb => KD.keeperCopy k a c s0 W (by have := hz.m; omega) (by have := hz.d; omega) (by have := hz.t; omega) hz.small (HL.out W hb)
 have HQ' : Hid (∀ (W : World) (P : Nat) (a' : Option Addr) (c' : Nat), w.heap.size + 3 ≤ P → K0.Blk P (wk k a' c') W → KD.Own (w.heap.size + 3) a' k.ds W → Below w.heap.size w W → Calls Tryz.prog 80 #[.pointer (some ⟨P, 0, none⟩), .pointer (some ⟨bc, 0, none⟩), .pointer (some ⟨bi, 0, none⟩), .pointer (some ⟨bn, 0, none⟩), .pointer (some ⟨bs, 0, none⟩)] W fun e w' => e = .returned .nilIface ∧ K0.Blk bs [.string Y] w' ∧ Chg bs W w') := HQ
 have c0 := t0.box.c0
 have c1 := t0.box.c1
 have c2 := t0.box.c2
 have c3 := t0.box.c3
 obtain ⟨W0, hW0⟩ : ∃ W0, ((w.alloc (kob k a c)).alloc zk).alloc co = W0 := ⟨_, rfl⟩
 rw [hW0] at t0 hk0 c0 c1 c2 c3
 have hm0 := AQ.hmf
 have z0 := t0.code.lt
 clear hR hok HL HQ
 go_enter_defers Tryz.func79, Tryz.ntmps79
 go_wp2_with (first
  | (go_at_call 14; refine hk0.mono ?_; rintro e w1 ⟨rfl, b1⟩; have t1 := t0.below b1; have c0 := t1.box.c0; have c1 := t1.box.c1; have c2 := t1.box.c2; have c3 := t1.box.c3)
  | (go_at_call 100; refine (HC.out _ t1.bel).mono ?_; rintro e w2 ⟨a2, c2', rfl, o2, b2⟩; have nw := K0.below_new w2 (wo k a2 c2'); have t2 := (t1.below b2).below nw; have p2 := K0.blk_new [.int .i32 0, .int .u32 0, .string k.mem, .string k.dur, .slice a2 k.ds.length c2', .int .i64 k.ck] w2 114; have hb1 := b1.size; have hb2 := b2.size; have o2b : KD.Own (w.heap.size + 3) a2 k.ds (w2.alloc (wo k a2 c2')) := (own_mono o2 (by omega)).below nw; have l0 := p2.cell 0 (by simp); have l0f := p2.free 0 (by simp); simp only [List.getElem_cons_zero] at l0)
  | (go_at_call 148; refine (Go.MuLone.lock_free LM.lib ⟨w2.heap.size, 0, none⟩ _ l0 l0f).mono ?_; rintro e w4 ⟨rfl, rfl⟩; clear t2 p2 o2b l0 l0f nw; have nw := K0.below_new w2 (wo1 k a2 c2'); have t4 := (t1.below b2).below nw; have p4 := K0.blk_new [.int .i32 1, .int .u32 0, .string k.mem, .string k.dur, .slice a2 k.ds.length c2', .int .i64 k.ck] w2 114; have o4 : KD.Own (w.heap.size + 3) a2 k.ds (w2.alloc (wo1 k a2 c2')) := (own_mono o2 (by omega)).below nw; have hq5 := HQ'.out (w2.alloc (wo1 k a2 c2')) w2.heap.size a2 c2' (by omega) p4 o4 t4.bel)
  | (go_at_call 80; refine hq5.mono ?_; rintro e w5 ⟨rfl, y5, b5⟩; have hP : w.heap.size + 3 ≤ w2.heap.size := (by omega); have x5 := blk_chg t4.box b5 (by omega); have n5 := blk_chg t4.ans b5 (by omega); have k5 := blk_chg t4.code b5 (by omega); have p5 := blk_chg p4 b5 (by omega); have l5 := (Chg.ofBelow (B := bs) t4.bel).trans b5; have j0 := k5.c0; have jf := k5.f0; have y0 := n5.c0; have g0 := n5.f0; have y1 := n5.c1; have g1 := n5.f1; have y2 := n5.c2; have g2 := n5.f2; have y3 := n5.c3; have g3 := n5.f3)
  | (go_at_call 151; refine (AK.codeOf_nil _).mono ?_; rintro e w6 ⟨rfl, hw6⟩; subst w6))
 have p6 := p5.setOther (B' := w.heap.size + 1 + 1) (by omega) 0 (.int .i64 0)
 have k6 := k5.set 0 (.int .i64 0)
 have n6 := n5.setOther (B' := w.heap.size + 1 + 1) (by omega) 0 (.int .i64 0)
 have y6 := y5.setOther (B' := w.heap.size + 1 + 1) (by omega) 0 (.int .i64 0)
 have l6 := setNew l5 (p := ⟨w.heap.size + 1 + 1, 0, none⟩) (by show w.heap.size ≤ w.heap.size + 1 + 1; omega) (.int .i64 0)
 obtain ⟨W6, hW6⟩ : ∃ W6, w5.setCell ⟨w.heap.size + 1 + 1, 0, none⟩ (.int .i64 0) = W6 := ⟨_, rfl⟩
 rw [hW6] at p6 k6 n6 y6 l6 ⊢
 have v0 := p6.cell 0 (by simp)
 have v2 := p6.cell 2 (by simp)
 have v3 := p6.cell 3 (by simp)
 have v4 := p6.cell 4 (by simp)
 have v5 := p6.cell 5 (by simp)
 simp only [List.getElem_cons_zero, List.getElem_cons_succ] at v0 v2 v3 v4 v5
 have q0 := k6.cell 0 (by simp)
 simp only [List.set_cons_zero, List.getElem_cons_zero] at q0
 have qf := k6.free 0 (by simp)
 have r0 := n6.c0
 have r1 := n6.c1
 have r2 := n6.c2
 have r3 := n6.c3
 have rf0 := n6.f0
 have rf1 := n6.f1
 have rf2 := n6.f2
 have rf3 := n6.f3
 clear hW6 j0 jf y0 y1 y2 y3 g0 g1 g2 g3 c0 c1 c2 c3 hk0 HC HQ' hq5 hm0
 go_region
 have p7 := (((((p6.setOther (B' := w.heap.size + 1) (by omega) 0 (.string k.mem)).setOther (B' := w.heap.size + 1) (by omega) 1 (.string k.dur)).setOther (B' := w.heap.size + 1) (by omega) 2 (.slice a2 k.ds.length c2')).setOther (B' := w.heap.size + 1) (by omega) 3 (.int .i64 k.ck)).setOther (B' := w.heap.size + 1 + 1) (by omega) 0 (.int .i64 0)).drew
 have n7 := ((n6.put4 (.string k.mem) (.string k.dur) (.slice a2 k.ds.length c2') (.int .i64 k.ck)).setOther (B' := w.heap.size + 1 + 1) (by omega) 0 (.int .i64 0)).drew
 have k7 := (((((k6.setOther (B' := w.heap.size + 1) (by omega) 0 (.string k.mem)).setOther (B' := w.heap.size + 1) (by omega) 1 (.string k.dur)).setOther (B' := w.heap.size + 1) (by omega) 2 (.slice a2 k.ds.length c2')).setOther (B' := w.heap.size + 1) (by omega) 3 (.int .i64 k.ck)).set 0 (.int .i64 0)).drew
 have y7 := (((((y6.setOther (B' := w.heap.size + 1) (by omega) 0 (.string k.mem)).setOther (B' := w.heap.size + 1) (by omega) 1 (.string k.dur)).setOther (B' := w.heap.size + 1) (by omega) 2 (.slice a2 k.ds.length c2')).setOther (B' := w.heap.size + 1) (by omega) 3 (.int .i64 k.ck)).setOther (B' := w.heap.size + 1 + 1) (by omega) 0 (.int .i64 0)).drew
 have l7 := (setNew (setNew (setNew (setNew (setNew l6 (p := ⟨w.heap.size + 1, 0, none⟩) (Nat.le_succ _) (.string k.mem)) (p := ⟨w.heap.size + 1, 1, none⟩) (Nat.le_succ _) (.string k.dur)) (p := ⟨w.heap.size + 1, 2, none⟩) (Nat.le_succ _) (.slice a2 k.ds.length c2')) (p := ⟨w.heap.size + 1, 3, none⟩) (Nat.le_succ _) (.int .i64 k.ck)) (p := ⟨w.heap.size + 1 + 1, 0, none⟩) (by show w.heap.size ≤ w.heap.size + 1 + 1; omega) (.int .i64 0)).step ((Below.refl _ _).drew) (setNew (setNew (setNew (setNew (setNew l6 (p := ⟨w.heap.size + 1, 0, none⟩) (Nat.le_succ _) (.string k.mem)) (p := ⟨w.heap.size + 1, 1, none⟩) (Nat.le_succ _) (.string k.dur)) (p := ⟨w.heap.size + 1, 2, none⟩) (Nat.le_succ _) (.slice a2 k.ds.length c2')) (p := ⟨w.heap.size + 1, 3, none⟩) (Nat.le_succ _) (.int .i64 k.ck)) (p := ⟨w.heap.size + 1 + 1, 0, none⟩) (by show w.heap.size ≤ w.heap.size + 1 + 1; omega) (.int .i64 0)).size
 clear v0 v2 v3 v4 v5 q0 qf r0 r1 r2 r3 rf0 rf1 rf2 rf3
 go_wp2
 obtain ⟨W7, hW7⟩ : ∃ W7, (((((W6.setCell ⟨w.heap.size + 1, 0, none⟩ (.string k.mem)).setCell ⟨w.heap.size + 1, 1, none⟩ (.string k.dur)).setCell ⟨w.heap.size + 1, 2, none⟩ (.slice a2 k.ds.length c2')).setCell ⟨w.heap.size + 1, 3, none⟩ (.int .i64 k.ck)).setCell ⟨w.heap.size + 1 + 1, 0, none⟩ (.int .i64 0)).drew = W7 := ⟨_, rfl⟩
 rw [hW7] at p7 n7 k7 y7 l7 ⊢
 have u0 := p7.cell 0 (by simp)
 have uf := p7.free 0 (by simp)
 simp only [List.getElem_cons_zero] at u0
 have n8 := n7.setOther (B' := w2.heap.size) (by omega) 0 (.int .i32 0)
 have k8 := k7.setOther (B' := w2.heap.size) (by omega) 0 (.int .i32 0)
 have y8 := y7.setOther (B' := w2.heap.size) (by omega) 0 (.int .i32 0)
 have l8 := setNew l7 (p := ⟨w2.heap.size, 0, none⟩) (by show w.heap.size ≤ w2.heap.size; omega) (.int .i32 0)
 refine leaves_cons (f := 150) (args := #[.pointer (some ⟨w.heap.size, 0, none⟩), .pointer (some ⟨w.heap.size + 1, 0, none⟩), .pointer (some ⟨w.heap.size + 1 + 1, 0, none⟩)]) (by simp) (by simp [go_sem]) ?_
 refine (AK.idle _ _ _ _).mono ?_
 rintro e u' w'' ⟨rfl, rfl, rfl⟩
 refine leaves_cons (f := 149) (args := #[.pointer (some ⟨w2.heap.size, 0, none⟩)]) (by simp [settle]) (by simp [go_sem]) ?_
 refine (Go.MuLone.unlock_deferred LM.lib ⟨w2.heap.size, 0, none⟩ _ _ u0 uf).mono ?_
 rintro e u' w'' ⟨rfl, rfl, rfl⟩
 have v0 := n8.c0
 have v1 := n8.c1
 have v2 := n8.c2
 have v3 := n8.c3
 have v4 := k8.cell 0 (by simp)
 simp only [List.set_cons_zero, List.getElem_cons_zero] at v4
 simp [Leaves, settle, results, Tryz.results79, go_sem, v0, v1, v2, v3, v4]
 exact ⟨y8, l8⟩
end Go.Proofs.YtljnkicgahepfaaGreatDoor.WQ
namespace Go.Proofs.YtljnkicgahepfaaGreatDoor.WR
open Go.ChangeShapes Go.WideShapes Go.ChangeAt Go.RowKit
open N0 (Ln)
open N1 (Sl)
open Z0 (dat Row Lns Kp kval kvals)
open KD (KA Small kob zk)
open AQ (Bx bx_new co Sz wo wo1 own_mono)
open WN (er ref chain wk)
open WO (Errs)
open LF (Btw)
theorem asRef (v : Value) (w : World) : (Instr.typeAssert (.iface 174 v) 20 174 true).run Tryz.prog w = .ok (.tuple #[v, .bool true]) w := by kernel_rfl
set_option maxHeartbeats 8000000 in
theorem caught (k : Kp) (a : Option Addr) (c : Nat) (s0 : Nat → Sl) (K : Nat) (pN pD pB pF : Addr) (w : World) (hz : Sz k) (hR : Lns w a k.ds s0) (hE : Errs pN pD pB pF w) (n1 : pF ≠ pN) (n2 : pF ≠ pD) (n3 : pF ≠ pB) (hb : K0.Blk K (kvals k a c) w) (ha : K0.Blk (K + 1) Z3.zero4 w) (hc : K0.Blk (K + 1 + 1) [.int .i64 0] w) :
  CallsD Tryz.prog 150 #[.pointer (some ⟨K, 0, none⟩), .pointer (some ⟨K + 1, 0, none⟩), .pointer (some ⟨K + 1 + 1, 0, none⟩)] (.panicking (chain pF)) w fun e u' w' => e = .returned (.tuple #[]) ∧ u' = .panicking [{ v := ref pF, recovered := true }] ∧ (∃ a2 c2, K0.Blk (K + 1) (kvals k a2 c2) w') ∧ K0.Blk (K + 1 + 1) [.int .i64 4] w' ∧ Btw (K + 1) (K + 3) w w' := by
 refine callsD_of_wpS Tryz.func150 rfl fun c₀ cs hu => ?_
 apply wpS_seq
 apply wpS_region
 simp [wpOpsS, go_sem, recoverD, hu, Tryz.ntmps150, Exit.thenS]
 apply wpS_seq
 apply wpS_region
 simp [wpOpsS, go_sem, Exit.thenS, Array.replicate]
 refine wpS_cond (t := true) (by simp [Act.eval, Array.replicate]) ?_
 simp only [if_true]
 refine wpS_of_wp ?_
 have hta := asRef
 have nb := K0.below_new w (.cells #[er pF] 174)
 have rb := K0.blk_new [er pF] w 174
 have HB : Hid (∀ W, Below (w.alloc (.cells #[er pF] 174)).heap.size (w.alloc (.cells #[er pF] 174)) W → (W.cell? ⟨K, 0, none⟩ = some (.string k.mem) ∧ W.cell? ⟨K, 1, none⟩ = some (.string k.dur) ∧ W.cell? ⟨K, 2, none⟩ = some (.slice a k.ds.length c) ∧ W.cell? ⟨K, 3, none⟩ = some (.int .i64 k.ck) ∧ W.cell? ⟨w.heap.size, 0, none⟩ = some (er pF)) ∧ K0.Blk (K + 1) Z3.zero4 W ∧ K0.Blk (K + 1 + 1) [.int .i64 0] W ∧ Lns W a k.ds s0 ∧ Errs pN pD pB pF W ∧ Below w.heap.size w W) := fun W h => ⟨⟨((hb.below nb).below h).c0, ((hb.below nb).below h).c1, ((hb.below nb).below h).c2, ((hb.below nb).below h).c3, (rb.below h).c0⟩, (ha.below nb).below h, (hc.below nb).below h, (hR.below nb).below h, (hE.below nb).below h, nb.trans (h.mono (by simp))⟩
 have HC : Hid (∀ W, Lns W a k.ds s0 → Calls Tryz.prog 100 #[kval k a c] W (KA k W)) := fun W h => KD.keeperCopy k a c s0 W (by have := hz.m; omega) (by have := hz.d; omega) (by have := hz.t; omega) hz.small h
 have hK := hc.lt
 have HK : Hid (∀ (W : World) (B j : Nat) (v : Value), B ≠ K → B ≠ w.heap.size → (W.cell? ⟨K, 0, none⟩ = some (.string k.mem) ∧ W.cell? ⟨K, 1, none⟩ = some (.string k.dur) ∧ W.cell? ⟨K, 2, none⟩ = some (.slice a k.ds.length c) ∧ W.cell? ⟨K, 3, none⟩ = some (.int .i64 k.ck) ∧ W.cell? ⟨w.heap.size, 0, none⟩ = some (er pF)) → ((W.setCell ⟨B, j, none⟩ v).cell? ⟨K, 0, none⟩ = some (.string k.mem) ∧ (W.setCell ⟨B, j, none⟩ v).cell? ⟨K, 1, none⟩ = some (.string k.dur) ∧ (W.setCell ⟨B, j, none⟩ v).cell? ⟨K, 2, none⟩ = some (.slice a k.ds.length c) ∧ (W.setCell ⟨B, j, none⟩ v).cell? ⟨K, 3, none⟩ = some (.int .i64 k.ck) ∧ (W.setCell ⟨B, j, none⟩ v).cell? ⟨w.heap.size, 0, none⟩ = some (er pF))) := fun W B j v e1 e2 ⟨q0, q1, q2, q3, q4⟩ => ⟨by rw [World.cell?_setCell_other _ _ _ _ (fun h => e1 (Addr.mk.inj h).1)]; exact q0, by rw [World.cell?_setCell_other _ _ _ _ (fun h => e1 (Addr.mk.inj h).1)]; exact q1, by rw [World.cell?_setCell_other _ _ _ _ (fun h => e1 (Addr.mk.inj h).1)]; exact q2, by rw [World.cell?_setCell_other _ _ _ _ (fun h => e1 (Addr.mk.inj h).1)]; exact q3, by rw [World.cell?_setCell_other _ _ _ _ (fun h => e2 (Addr.mk.inj h).1)]; exact q4⟩
 obtain ⟨s0', h1, h2, h3, h4, h5⟩ := HB.out _ ((Below.refl _ (w.alloc (.cells #[er pF] 174))).drew)
 go_wp2
 refine wp_region_held (S := fun W => W.cell? ⟨K, 0, none⟩ = some (.string k.mem) ∧ W.cell? ⟨K, 1, none⟩ = some (.string k.dur) ∧ W.cell? ⟨K, 2, none⟩ = some (.slice a k.ds.length c) ∧ W.cell? ⟨K, 3, none⟩ = some (.int .i64 k.ck) ∧ W.cell? ⟨w.heap.size, 0, none⟩ = some (er pF)) (by kernel_rfl) ?_
 refine wpAnyH_take (i := 0) (v := kval k a c) rfl (by kernel_rfl) (by kernel_rfl) (by kernel_rfl) (fun _ _ _ h => h) (Or.inl ⟨by rfl, fun w' hS' => ?_⟩) s0' ?_
 ·obtain ⟨q0, q1, q2, q3, q4⟩ := hS'
  go_simp
 simp only [BZ.z, Act.put, Nat.reduceAdd]
 refine wpAnyH_take (i := 2) (v := .agg #[er pF]) rfl (by kernel_rfl) (by kernel_rfl) (by kernel_rfl) (fun _ _ _ h => h) (Or.inl ⟨by rfl, fun w' hS' => ?_⟩) s0' ?_
 ·obtain ⟨q0, q1, q2, q3, q4⟩ := hS'
  go_simp
 simp only [BZ.z, Act.put, Nat.reduceAdd]
 refine wpAnyH_take (i := 3) (v := ref pF) rfl (by kernel_rfl) (by kernel_rfl) (by kernel_rfl) (fun _ _ _ h => h) (Or.inl ⟨by rfl, fun w' hS' => ?_⟩) s0' ?_
 ·go_simp
 simp only [BZ.z, Act.put, Nat.reduceAdd]
 refine Y0.one_callw (i := 1) (by kernel_rfl) rfl (by rfl) (.tmp 14) _ rfl (kval k a c) (by rfl) (enters_of Tryz.func100 (by kernel_rfl) rfl) ((HC.out _ h3).mono ?_)
 rintro e w3 ⟨a3, c3, rfl, o3, b3⟩
 have e3 := ((Below.refl _ (w.alloc (.cells #[er pF] 174))).drew).trans (b3.mono (Nat.le_refl _))
 obtain ⟨s3, i1, i2, i3, i4, i5⟩ := HB.out _ e3
 refine ⟨_, rfl, s3, ?_⟩
 simp only [BZ.z, Act.put, Nat.reduceAdd]
 refine Y0.one_callw (i := 4) (by kernel_rfl) rfl (by rfl) (.tmp 17) _ rfl (ref pF) (by rfl) (enters_of Tryz.func151 (by kernel_rfl) rfl) ((WO.codeOf_fault pN pD pB pF _ i4 n1 n2 n3).mono ?_)
 rintro e w4 ⟨rfl, b4⟩
 have e4 := e3.trans (b4.mono e3.size)
 obtain ⟨s4, j1, j2, j3, j4, j5⟩ := HB.out _ e4
 refine ⟨_, rfl, s4, ?_⟩
 simp only [BZ.z, Act.put, Nat.reduceAdd]
 have y0 := j1.c0
 have y1 := j1.c1
 have y2 := j1.c2
 have y3 := j1.c3
 have g0 := j1.f0
 have g1 := j1.f1
 have g2 := j1.f2
 have g3 := j1.f3
 have s5 : ((((w4.setCell ⟨K + 1, 0, none⟩ (.string k.mem)).setCell ⟨K + 1, 1, none⟩ (.string k.dur)).setCell ⟨K + 1, 2, none⟩ (.slice a3 k.ds.length c3)).setCell ⟨K + 1, 3, none⟩ (.int .i64 k.ck)).cell? ⟨K, 0, none⟩ = some (.string k.mem) ∧ ((((w4.setCell ⟨K + 1, 0, none⟩ (.string k.mem)).setCell ⟨K + 1, 1, none⟩ (.string k.dur)).setCell ⟨K + 1, 2, none⟩ (.slice a3 k.ds.length c3)).setCell ⟨K + 1, 3, none⟩ (.int .i64 k.ck)).cell? ⟨K, 1, none⟩ = some (.string k.dur) ∧ ((((w4.setCell ⟨K + 1, 0, none⟩ (.string k.mem)).setCell ⟨K + 1, 1, none⟩ (.string k.dur)).setCell ⟨K + 1, 2, none⟩ (.slice a3 k.ds.length c3)).setCell ⟨K + 1, 3, none⟩ (.int .i64 k.ck)).cell? ⟨K, 2, none⟩ = some (.slice a k.ds.length c) ∧ ((((w4.setCell ⟨K + 1, 0, none⟩ (.string k.mem)).setCell ⟨K + 1, 1, none⟩ (.string k.dur)).setCell ⟨K + 1, 2, none⟩ (.slice a3 k.ds.length c3)).setCell ⟨K + 1, 3, none⟩ (.int .i64 k.ck)).cell? ⟨K, 3, none⟩ = some (.int .i64 k.ck) ∧ ((((w4.setCell ⟨K + 1, 0, none⟩ (.string k.mem)).setCell ⟨K + 1, 1, none⟩ (.string k.dur)).setCell ⟨K + 1, 2, none⟩ (.slice a3 k.ds.length c3)).setCell ⟨K + 1, 3, none⟩ (.int .i64 k.ck)).cell? ⟨w.heap.size, 0, none⟩ = some (er pF) := HK.out _ _ _ _ (by omega) (by omega) (HK.out _ _ _ _ (by omega) (by omega) (HK.out _ _ _ _ (by omega) (by omega) (HK.out _ _ _ _ (by omega) (by omega) s4)))
 have n5 := j1.put4 (.string k.mem) (.string k.dur) (.slice a3 k.ds.length c3) (.int .i64 k.ck)
 have k5 := (((j2.setOther (B' := K + 1) (by omega) 0 (.string k.mem)).setOther (B' := K + 1) (by omega) 1 (.string k.dur)).setOther (B' := K + 1) (by omega) 2 (.slice a3 k.ds.length c3)).setOther (B' := K + 1) (by omega) 3 (.int .i64 k.ck)
 refine Y0.one_skip (i := 5) (w' := (((w4.setCell ⟨K + 1, 0, none⟩ (.string k.mem)).setCell ⟨K + 1, 1, none⟩ (.string k.dur)).setCell ⟨K + 1, 2, none⟩ (.slice a3 k.ds.length c3)).setCell ⟨K + 1, 3, none⟩ (.int .i64 k.ck)) (by kernel_rfl) rfl (by rfl) ?_ s5 ?_
 ·go_simp
 simp only [BZ.z, Act.put, Nat.reduceAdd]
 have q0 := k5.c0
 have qf := k5.f0
 have s6 : (((((w4.setCell ⟨K + 1, 0, none⟩ (.string k.mem)).setCell ⟨K + 1, 1, none⟩ (.string k.dur)).setCell ⟨K + 1, 2, none⟩ (.slice a3 k.ds.length c3)).setCell ⟨K + 1, 3, none⟩ (.int .i64 k.ck)).setCell ⟨K + 1 + 1, 0, none⟩ (.int .i64 4)).cell? ⟨K, 0, none⟩ = some (.string k.mem) ∧ (((((w4.setCell ⟨K + 1, 0, none⟩ (.string k.mem)).setCell ⟨K + 1, 1, none⟩ (.string k.dur)).setCell ⟨K + 1, 2, none⟩ (.slice a3 k.ds.length c3)).setCell ⟨K + 1, 3, none⟩ (.int .i64 k.ck)).setCell ⟨K + 1 + 1, 0, none⟩ (.int .i64 4)).cell? ⟨K, 1, none⟩ = some (.string k.dur) ∧ (((((w4.setCell ⟨K + 1, 0, none⟩ (.string k.mem)).setCell ⟨K + 1, 1, none⟩ (.string k.dur)).setCell ⟨K + 1, 2, none⟩ (.slice a3 k.ds.length c3)).setCell ⟨K + 1, 3, none⟩ (.int .i64 k.ck)).setCell ⟨K + 1 + 1, 0, none⟩ (.int .i64 4)).cell? ⟨K, 2, none⟩ = some (.slice a k.ds.length c) ∧ (((((w4.setCell ⟨K + 1, 0, none⟩ (.string k.mem)).setCell ⟨K + 1, 1, none⟩ (.string k.dur)).setCell ⟨K + 1, 2, none⟩ (.slice a3 k.ds.length c3)).setCell ⟨K + 1, 3, none⟩ (.int .i64 k.ck)).setCell ⟨K + 1 + 1, 0, none⟩ (.int .i64 4)).cell? ⟨K, 3, none⟩ = some (.int .i64 k.ck) ∧ (((((w4.setCell ⟨K + 1, 0, none⟩ (.string k.mem)).setCell ⟨K + 1, 1, none⟩ (.string k.dur)).setCell ⟨K + 1, 2, none⟩ (.slice a3 k.ds.length c3)).setCell ⟨K + 1, 3, none⟩ (.int .i64 k.ck)).setCell ⟨K + 1 + 1, 0, none⟩ (.int .i64 4)).cell? ⟨w.heap.size, 0, none⟩ = some (er pF) := HK.out _ _ _ _ (by omega) (by omega) s5
 have n6 := n5.setOther (B' := K + 1 + 1) (by omega) 0 (.int .i64 4)
 have k6 := k5.set 0 (.int .i64 4)
 have t6 : Btw (K + 1) (K + 3) w (((((w4.setCell ⟨K + 1, 0, none⟩ (.string k.mem)).setCell ⟨K + 1, 1, none⟩ (.string k.dur)).setCell ⟨K + 1, 2, none⟩ (.slice a3 k.ds.length c3)).setCell ⟨K + 1, 3, none⟩ (.int .i64 k.ck)).setCell ⟨K + 1 + 1, 0, none⟩ (.int .i64 4)) := ((((((Btw.ofBelow j5).set (p := ⟨K + 1, 0, none⟩) (Nat.le_refl _) (by show K + 1 < K + 3; omega) _).set (p := ⟨K + 1, 1, none⟩) (Nat.le_refl _) (by show K + 1 < K + 3; omega) _).set (p := ⟨K + 1, 2, none⟩) (Nat.le_refl _) (by show K + 1 < K + 3; omega) _).set (p := ⟨K + 1, 3, none⟩) (Nat.le_refl _) (by show K + 1 < K + 3; omega) _).set (p := ⟨K + 1 + 1, 0, none⟩) (by show K + 1 ≤ K + 1 + 1; omega) (by show K + 1 + 1 < K + 3; omega) _)
 refine Y0.one_skip (i := 6) (w' := ((((w4.setCell ⟨K + 1, 0, none⟩ (.string k.mem)).setCell ⟨K + 1, 1, none⟩ (.string k.dur)).setCell ⟨K + 1, 2, none⟩ (.slice a3 k.ds.length c3)).setCell ⟨K + 1, 3, none⟩ (.int .i64 k.ck)).setCell ⟨K + 1 + 1, 0, none⟩ (.int .i64 4)) (by kernel_rfl) rfl (by rfl) ?_ s6 ?_
 ·go_simp
 simp only [BZ.z, Act.put, Nat.reduceAdd]
 refine wpAnyH_done (by kernel_rfl) ?_ _
 have F : (∃ a2 c2, K0.Blk (K + 1) (kvals k a2 c2) (((((w4.setCell ⟨K + 1, 0, none⟩ (.string k.mem)).setCell ⟨K + 1, 1, none⟩ (.string k.dur)).setCell ⟨K + 1, 2, none⟩ (.slice a3 k.ds.length c3)).setCell ⟨K + 1, 3, none⟩ (.int .i64 k.ck)).setCell ⟨K + 1 + 1, 0, none⟩ (.int .i64 4))) ∧ K0.Blk (K + 1 + 1) [.int .i64 4] (((((w4.setCell ⟨K + 1, 0, none⟩ (.string k.mem)).setCell ⟨K + 1, 1, none⟩ (.string k.dur)).setCell ⟨K + 1, 2, none⟩ (.slice a3 k.ds.length c3)).setCell ⟨K + 1, 3, none⟩ (.int .i64 k.ck)).setCell ⟨K + 1 + 1, 0, none⟩ (.int .i64 4)) ∧ Btw (K + 1) (K + 3) w (((((w4.setCell ⟨K + 1, 0, none⟩ (.string k.mem)).setCell ⟨K + 1, 1, none⟩ (.string k.dur)).setCell ⟨K + 1, 2, none⟩ (.slice a3 k.ds.length c3)).setCell ⟨K + 1, 3, none⟩ (.int .i64 k.ck)).setCell ⟨K + 1 + 1, 0, none⟩ (.int .i64 4)) := ⟨⟨a3, c3, n6⟩, k6, t6⟩
 clear n6 k6 t6 s6 s5 n5 k5 q0 qf
 generalize ((((w4.setCell ⟨K + 1, 0, none⟩ (.string k.mem)).setCell ⟨K + 1, 1, none⟩ (.string k.dur)).setCell ⟨K + 1, 2, none⟩ (.slice a3 k.ds.length c3)).setCell ⟨K + 1, 3, none⟩ (.int .i64 k.ck)).setCell ⟨K + 1 + 1, 0, none⟩ (.int .i64 4) = W6 at F ⊢
 show bodyPostS _ _ _ _ _ _ _ _ _
 simp [bodyPostS, results, Tryz.results150]
 exact F
end Go.Proofs.YtljnkicgahepfaaGreatDoor.WR
namespace Go.Proofs.YtljnkicgahepfaaGreatDoor.WS
open Go.ChangeShapes Go.WideShapes Go.ChangeAt Go.RowKit
open N0 (Ln)
open N1 (Sl)
open Z0 (dat Row Lns Kp kval kvals)
open KD (KA Small kob zk)
open AQ (Bx bx_new co Sz wo wo1 own_mono)
open WN (er ref chain wk)
open WO (Errs)
open LF (Btw)
set_option maxHeartbeats 8000000 in
theorem ask_no (k : Kp) (a : Option Addr) (c : Nat) (s0 : Nat → Sl) (bc bi bn bs : Nat) (pN pD pB p : Addr) (w : World) (hz : Sz k) (hok : KI.iK k = true) (hR : Lns w a k.ds s0) (hE : Errs pN pD pB p w) (d1 : p ≠ pN) (d2 : p ≠ pD) (d3 : p ≠ pB) (HQ : ∀ (W : World) (P : Nat) (a' : Option Addr) (c' : Nat), w.heap.size + 3 ≤ P → K0.Blk P (wk k a' c') W → KD.Own (w.heap.size + 3) a' k.ds W → Below w.heap.size w W → Calls Tryz.prog 80 #[.pointer (some ⟨P, 0, none⟩), .pointer (some ⟨bc, 0, none⟩), .pointer (some ⟨bi, 0, none⟩), .pointer (some ⟨bn, 0, none⟩), .pointer (some ⟨bs, 0, none⟩)] W fun e w' => e = .panicked (chain p) ∧ Below W.heap.size W w') :
  Calls Tryz.prog 79 #[kval k a c, .func (.func 80) #[] #[.pointer (some ⟨bc, 0, none⟩), .pointer (some ⟨bi, 0, none⟩), .pointer (some ⟨bn, 0, none⟩), .pointer (some ⟨bs, 0, none⟩)]] w fun e w' => ∃ a2 c2, e = .returned (.tuple #[kval k a2 c2, .int .i64 4]) ∧ Below w.heap.size w w' := by
 have HLE : Hid (∀ W, Below w.heap.size w W → Lns W a k.ds s0 ∧ Errs pN pD pB p W) := fun W hb => ⟨hR.below hb, hE.below hb⟩
 have t0 := bx_new w k a c
 have HL : Hid (∀ W, Below w.heap.size w W → Lns W a k.ds s0) := fun W hb => hR.below hb
 have hk0 := KI.impl_KeeperOk k a c s0 _ hz.m hz.d hz.t (hz.fits s0) (HL.out _ t0.bel)
 rw [hok] at hk0
 have HC : Hid (∀ W, Below w.heap.size w W → Calls Tryz.prog 100 #[kval k a c] W (KA k W)) := fun W hb => KD.keeperCopy k a c s0 W (by have := hz.m; omega) (by have := hz.d; omega) (by have := hz.t; omega) hz.small (HL.out W hb)
 have HQ' : Hid (∀ (W : World) (P : Nat) (a' : Option Addr) (c' : Nat), w.heap.size + 3 ≤ P → K0.Blk P (wk k a' c') W → KD.Own (w.heap.size + 3) a' k.ds W → Below w.heap.size w W → Calls Tryz.prog 80 #[.pointer (some ⟨P, 0, none⟩), .pointer (some ⟨bc, 0, none⟩), .pointer (some ⟨bi, 0, none⟩), .pointer (some ⟨bn, 0, none⟩), .pointer (some ⟨bs, 0, none⟩)] W fun e w' => e = .panicked (chain p) ∧ Below W.heap.size W w') := HQ
 have c0 := t0.box.c0
 have c1 := t0.box.c1
 have c2 := t0.box.c2
 have c3 := t0.box.c3
 obtain ⟨W0, hW0⟩ : ∃ W0, ((w.alloc (kob k a c)).alloc zk).alloc co = W0 := ⟨_, rfl⟩
 rw [hW0] at t0 hk0 c0 c1 c2 c3
 have hm0 := AQ.hmf
 have z0 := t0.code.lt
 clear hR hok HL HQ hE
 go_enter_defers Tryz.func79, Tryz.ntmps79
 go_wp2_with (first
  | (go_at_call 14; refine hk0.mono ?_; rintro e w1 ⟨rfl, b1⟩; have t1 := t0.below b1; have c0 := t1.box.c0; have c1 := t1.box.c1; have c2 := t1.box.c2; have c3 := t1.box.c3)
  | (go_at_call 100; refine (HC.out _ t1.bel).mono ?_; rintro e w2 ⟨a2, c2', rfl, o2, b2⟩; have nw := K0.below_new w2 (wo k a2 c2'); have t2 := (t1.below b2).below nw; have p2 := K0.blk_new [.int .i32 0, .int .u32 0, .string k.mem, .string k.dur, .slice a2 k.ds.length c2', .int .i64 k.ck] w2 114; have hb1 := b1.size; have hb2 := b2.size; have o2b : KD.Own (w.heap.size + 3) a2 k.ds (w2.alloc (wo k a2 c2')) := (own_mono o2 (by omega)).below nw; have l0 := p2.cell 0 (by simp); have l0f := p2.free 0 (by simp); simp only [List.getElem_cons_zero] at l0)
  | (go_at_call 148; refine (Go.MuLone.lock_free LM.lib ⟨w2.heap.size, 0, none⟩ _ l0 l0f).mono ?_; rintro e w4 ⟨rfl, rfl⟩; clear t2 p2 o2b l0 l0f nw; have nw := K0.below_new w2 (wo1 k a2 c2'); have t4 := (t1.below b2).below nw; have p4 := K0.blk_new [.int .i32 1, .int .u32 0, .string k.mem, .string k.dur, .slice a2 k.ds.length c2', .int .i64 k.ck] w2 114; have o4 : KD.Own (w.heap.size + 3) a2 k.ds (w2.alloc (wo1 k a2 c2')) := (own_mono o2 (by omega)).below nw; have hq5 := HQ'.out (w2.alloc (wo1 k a2 c2')) w2.heap.size a2 c2' (by omega) p4 o4 t4.bel)
  | (go_at_call 80; refine hq5.mono ?_; rintro e w5 ⟨rfl, b5⟩; have t5 := t4.below b5; have p5 := p4.below b5))
 have hP : w.heap.size + 3 ≤ w2.heap.size := by omega
 obtain ⟨hL5, hE5⟩ := HLE.out _ t5.bel
 refine leaves_cons (f := 150) (args := #[.pointer (some ⟨w.heap.size, 0, none⟩), .pointer (some ⟨w.heap.size + 1, 0, none⟩), .pointer (some ⟨w.heap.size + 1 + 1, 0, none⟩)]) (by simp) (by simp [go_sem]) ?_
 refine (WR.caught k a c s0 w.heap.size pN pD pB p w5 hz hL5 hE5 d1 d2 d3 t5.box t5.ans t5.code).mono ?_
 rintro e u' w6 ⟨rfl, rfl, ⟨a6, c6, n6⟩, k6, t6⟩
 have p6 := LF.blk_btw p5 t6 (by omega)
 have l6 := t5.bel.trans (t6.below (b := w.heap.size) (by omega) t5.bel.size)
 have u0 := p6.cell 0 (by simp)
 have uf := p6.free 0 (by simp)
 simp only [List.getElem_cons_zero] at u0
 have n8 := n6.setOther (B' := w2.heap.size) (by omega) 0 (.int .i32 0)
 have k8 := k6.setOther (B' := w2.heap.size) (by omega) 0 (.int .i32 0)
 have l8 := l6.setCell (p := ⟨w2.heap.size, 0, none⟩) (by show w.heap.size ≤ w2.heap.size; omega) (.int .i32 0)
 refine leaves_cons (f := 149) (args := #[.pointer (some ⟨w2.heap.size, 0, none⟩)]) (by simp [settle]) (by simp [go_sem]) ?_
 refine (Go.MuLone.unlock_deferred LM.lib ⟨w2.heap.size, 0, none⟩ _ _ u0 uf).mono ?_
 rintro e u' w'' ⟨rfl, rfl, rfl⟩
 have v0 := n8.c0
 have v1 := n8.c1
 have v2 := n8.c2
 have v3 := n8.c3
 have v4 := k8.cell 0 (by simp)
 simp only [List.getElem_cons_zero] at v4
 simp [Leaves, settle, results, Tryz.results79, go_sem, v0, v1, v2, v3, v4]
 exact l8
end Go.Proofs.YtljnkicgahepfaaGreatDoor.WS
namespace Go.Proofs.YtljnkicgahepfaaGreatDoor.WT
open Go.ChangeShapes Go.WideShapes Go.ChangeAt Go.RowKit
open N0 (Ln)
open N1 (Sl)
open Z0 (dat Row Lns Kp kval kvals)
open KD (kob)
open AQ (Sz)
open WN (er ref chain wk)
open WO (Errs)
open WM (Cap)
open WP (Chg blk_chg)
open WL (lets)
abbrev io (x : Int) : Obj := .cells #[.int .i64 x] 3
abbrev so : Obj := .cells #[.string ⟨#[]⟩] 9
structure Bl (w : World) (k : Kp) (a : Option Addr) (c : Nat) (cl i n : Int) (x : ByteArray) (W : World) : Prop where
 box : K0.Blk w.heap.size (kvals k a c) W
 cap : Cap (w.heap.size + 1) (w.heap.size + 1 + 1) (w.heap.size + 1 + 1 + 1) cl i n W
 seen : K0.Blk (w.heap.size + 1 + 1 + 1 + 1) [.string x] W
 bel : Below w.heap.size w W
theorem bl_new (w : World) (k : Kp) (a : Option Addr) (c : Nat) (cl i n : Int) : Bl w k a c cl i n ⟨#[]⟩ (((((w.alloc (kob k a c)).alloc (io cl)).alloc (io i)).alloc (io n)).alloc so) := by
 have k1 := (((K0.blk_at (B := w.heap.size + 1) [.int .i64 cl] (w.alloc (kob k a c)) 3 (by simp)).alloc (io i)).alloc (io n)).alloc so
 have k2 := ((K0.blk_at (B := w.heap.size + 1 + 1) [.int .i64 i] ((w.alloc (kob k a c)).alloc (io cl)) 3 (by simp)).alloc (io n)).alloc so
 have k3 := (K0.blk_at (B := w.heap.size + 1 + 1 + 1) [.int .i64 n] (((w.alloc (kob k a c)).alloc (io cl)).alloc (io i)) 3 (by simp)).alloc so
 have k4 := K0.blk_at (B := w.heap.size + 1 + 1 + 1 + 1) [.string ⟨#[]⟩] ((((w.alloc (kob k a c)).alloc (io cl)).alloc (io i)).alloc (io n)) 9 (by simp)
 exact ⟨((((K0.blk_new (kvals k a c) w 28).alloc _).alloc _).alloc _).alloc _, ⟨k1.c0, k2.c0, k3.c0, k1.lt, k2.lt, k3.lt⟩, k4, (((((Below.refl _ _).alloc (Nat.le_refl _) _).alloc (by simp) _).alloc (by simp; omega) _).alloc (by simp; omega) _).alloc (by simp; omega) _⟩
set_option maxHeartbeats 8000000 in
theorem impl_Look (k : Kp) (a : Option Addr) (c : Nat) (ss : Nat → Sl) (cl i n : Int) (pN pD pB pF : Addr) (w : World) (hz : Sz k) (hR : Lns w a k.ds ss) (hE : Errs pN pD pB pF w) (d1 : pF ≠ pN) (d2 : pF ≠ pD) (d3 : pF ≠ pB) :
  Calls Tryz.prog 21 #[kval k a c, .int .i64 cl, .int .i64 i, .int .i64 n] w fun e w' => e = .returned (.tuple #[.string (WL.look k cl i n).1, .int .i64 (WL.look k cl i n).2]) ∧ Below w.heap.size w w' := by
 have t0 := bl_new w k a c cl i n
 obtain ⟨W1, hW1⟩ : ∃ W1, (((((w.alloc (kob k a c)).alloc (io cl)).alloc (io i)).alloc (io n)).alloc so) = W1 := ⟨_, rfl⟩
 rw [hW1] at t0
 have HW1 : Hid ((((((w.alloc (kob k a c)).alloc (io cl)).alloc (io i)).alloc (io n)).alloc so) = W1) := hW1
 clear hW1
 have hL1 := hR.below t0.bel
 have hE1 := hE.below t0.bel
 have hm0 := AQ.hmf
 have hs1 : w.heap.size + 5 ≤ W1.heap.size := t0.seen.lt
 have hn : k.ds.length ≤ 1048576 := by have := hz.t; omega
 have hgl : ∀ W, Errs pN pD pB pF W → 0 < W.heap.size := fun W h => by have := h.sz; omega
 unfold WL.look
 cases hK : KI.iK k with
 | false =>
  simp only [Bool.false_eq_true, if_false]
  have HA := PD.ask_not k a c ss (.func (.func 80) #[] #[.pointer (some ⟨w.heap.size + 1, 0, none⟩), .pointer (some ⟨w.heap.size + 1 + 1, 0, none⟩), .pointer (some ⟨w.heap.size + 1 + 1 + 1, 0, none⟩), .pointer (some ⟨w.heap.size + 1 + 1 + 1 + 1, 0, none⟩)]) W1 hz hK hL1
  have HT : Hid (Bl w k a c cl i n ⟨#[]⟩ W1) := t0
  clear t0 hL1 hE1 hR hE hgl hK
  go_enter Tryz.func21, Tryz.ntmps21
  go_wp2_with (go_at_call 79; have HA' := HA; rw [← HW1.out] at HA'; refine HA'.mono ?_; rintro e w2 ⟨rfl, b2⟩; rw [HW1.out] at b2; have nb := K0.below_new w2 (.cells #[.string ⟨#[]⟩, .string ⟨#[]⟩, .slice none 0 0, .int .i64 0] 28); have y2 := ((HT.out.seen.below b2).below nb).c0; have l2 := (HT.out.bel.trans (b2.mono HT.out.bel.size)); have l3 := l2.trans (nb.mono l2.size))
  go_ret2
  exact ⟨rfl, l3⟩
 | true =>
  simp only [if_true]
  cases hq : lets cl i n k.ds with
  | true =>
   simp only [if_true]
   have HA := WQ.ask_yes k a c ss (w.heap.size + 1) (w.heap.size + 1 + 1) (w.heap.size + 1 + 1 + 1) (w.heap.size + 1 + 1 + 1 + 1) (B2.part k.mem i n) W1 hz hK hL1 (by omega) (fun W P a' c' hP hp ho hb => by
    obtain ⟨ss', hL⟩ := ho.lns
    have he := hE1.below hb
    exact WP.quest_yes k P a' c' ss' cl i n _ _ _ _ (.string ⟨#[]⟩) pF W hz.m hn (hz.fits ss') hL hp (t0.cap.below hb) (t0.seen.below hb) ⟨by omega, by omega, by omega⟩ he.gF (hgl W he) hq)
   generalize B2.part k.mem i n = Y at HA ⊢
   have HT : Hid (Bl w k a c cl i n ⟨#[]⟩ W1) := t0
   clear t0 hL1 hE1 hR hE hgl hK hq
   go_enter Tryz.func21, Tryz.ntmps21
   go_wp2_with (go_at_call 79; have HA' := HA; rw [← HW1.out] at HA'; refine HA'.mono ?_; rintro e w2 ⟨a2, c2', rfl, s2, b2⟩; rw [HW1.out] at b2; have nb := K0.below_new w2 (.cells #[.string k.mem, .string k.dur, .slice a2 k.ds.length c2', .int .i64 k.ck] 28); have y2 := (s2.below nb).c0; have l2 := HT.out.bel.trans (b2.below (n := w.heap.size) (by omega) (by omega)); have l3 := l2.trans (nb.mono l2.size))
   go_ret2
   exact ⟨rfl, l3⟩
  | false =>
   simp only [Bool.false_eq_true, if_false]
   have HA := WS.ask_no k a c ss (w.heap.size + 1) (w.heap.size + 1 + 1) (w.heap.size + 1 + 1 + 1) (w.heap.size + 1 + 1 + 1 + 1) pN pD pB pF W1 hz hK hL1 hE1 d1 d2 d3 (fun W P a' c' hP hp ho hb => by
    obtain ⟨ss', hL⟩ := ho.lns
    have he := hE1.below hb
    exact WP.quest_not k P a' c' ss' cl i n _ _ _ _ pF W hn (hz.fits ss') hL hp (t0.cap.below hb) he.gF (hgl W he) hq)
   have HT : Hid (Bl w k a c cl i n ⟨#[]⟩ W1) := t0
   clear t0 hL1 hE1 hR hE hgl hK hq
   go_enter Tryz.func21, Tryz.ntmps21
   go_wp2_with (go_at_call 79; have HA' := HA; rw [← HW1.out] at HA'; refine HA'.mono ?_; rintro e w2 ⟨a2, c2', rfl, b2⟩; rw [HW1.out] at b2; have nb := K0.below_new w2 (.cells #[.string k.mem, .string k.dur, .slice a2 k.ds.length c2', .int .i64 k.ck] 28); have y2 := ((HT.out.seen.below b2).below nb).c0; have l2 := (HT.out.bel.trans (b2.mono HT.out.bel.size)); have l3 := l2.trans (nb.mono l2.size))
   go_ret2
   exact ⟨rfl, l3⟩
end Go.Proofs.YtljnkicgahepfaaGreatDoor.WT
