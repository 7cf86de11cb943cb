/- Joined texts: plain facts and contracts. -/
import Derived.Test.YtljnkicgahepfaaGreatDoorJqL
import Derived.Test.YtljnkicgahepfaaGreatDoorJqZI
import Derived.Deep.RegionHeld3
import Derived.Test.YtljnkicgahepfaaGreatDoorJqE
import Derived.Test.YtljnkicgahepfaaGreatDoorJqX
import Derived.Test.YtljnkicgahepfaaGreatDoorJqC
import Derived.Test.YtljnkicgahepfaaGreatDoorJqZ
set_option linter.unusedVariables false
set_option linter.unusedSimpArgs false
set_option maxRecDepth 10000
namespace Go.Proofs.YtljnkicgahepfaaGreatDoor.AQ
open Go.ChangeShapes Go.WideShapes Go.ChangeAt Go.RowKit
open N0 (Ln)
open N1 (Sl)
open Z0 (dat Row Lns Kp kval kvals)
open KD (KA Small kob zk)
theorem hmf : ∀ (fn : Fn) (first cap : Array Value) (w : World), (Instr.makeFunc fn first cap).run Tryz.prog w = .ok (.func fn first cap) w := fun _ _ _ _ => rfl
structure Bx (w : World) (k : Kp) (a : Option Addr) (c : Nat) (W : World) : Prop where
 box : K0.Blk w.heap.size (kvals k a c) W
 ans : K0.Blk (w.heap.size + 1) Z3.zero4 W
 code : K0.Blk (w.heap.size + 1 + 1) [.int .i64 0] W
 bel : Below w.heap.size w W
variable {w W W' : World} {k k' : Kp} {a : Option Addr} {c : Nat}
theorem Bx.below (h : Bx w k a c W) (hb : Below W.heap.size W W') : Bx w k a c W' := ⟨h.box.below hb, h.ans.below hb, h.code.below hb, h.bel.trans (hb.mono h.bel.size)⟩
theorem Bx.keep {B : Nat} (h : Bx w k a c W) (hb : Below B W W') (hB : w.heap.size + 3 ≤ B) : Bx w k a c W' :=
 ⟨J0.blk_keep h.box hb (by omega), J0.blk_keep h.ans hb (by omega), J0.blk_keep h.code hb (by omega), h.bel.trans (hb.mono (by omega))⟩
abbrev co : Obj := .cells #[.int .i64 0] 3
theorem bx_new (w : World) (k : Kp) (a : Option Addr) (c : Nat) : Bx w k a c (((w.alloc (kob k a c)).alloc zk).alloc co) :=
 ⟨((K0.blk_new (kvals k a c) w 28).alloc _).alloc _, (K0.blk_at Z3.zero4 _ 28 (by simp)).alloc _, K0.blk_at [.int .i64 0] _ 3 (by simp), (((Below.refl _ _).alloc (Nat.le_refl _) _).alloc (by simp) _).alloc (by simp; omega) _⟩
theorem own_mono {lo lo' : Nat} {ds : List Ln} (h : KD.Own lo a ds W) (hl : lo' ≤ lo) : KD.Own lo' a ds W := h.imp id fun ⟨g, b, ss, L, e, h1, h2⟩ => ⟨g, b, ss, L, e, by omega, h2⟩
structure Sz (k : Kp) : Prop where
 m : k.mem.size ≤ 1048576
 d : k.dur.size ≤ 1048576
 t : k.ds.length + Z1.tot k.ds k.ds.length ≤ 1048576
theorem Sz.small (h : Sz k) : Small k.ds := fun j hj => by
 have := Z1.tot_one hj
 have := h.t
 exact N12.sizes (d := dat k.ds j) (by omega)
theorem Sz.fits (h : Sz k) (ss : Nat → Sl) : Z4.Fits k.ds ss := fun j hj => by
 obtain ⟨z1, z2, z3, z4, z5⟩ := h.small j hj
 exact ⟨⟨by omega, by omega, by omega⟩, z2, z3⟩
abbrev wo1 (k : Kp) (a : Option Addr) (c : Nat) : Obj := .cells #[.int .i32 1, .int .u32 0, .string k.mem, .string k.dur, .slice a k.ds.length c, .int .i64 k.ck] 114
abbrev wo (k : Kp) (a : Option Addr) (c : Nat) : Obj := .cells #[.int .i32 0, .int .u32 0, .string k.mem, .string k.dur, .slice a k.ds.length c, .int .i64 k.ck] 114
def Quest (w : World) (k k' : Kp) (q : Nat) (caps : Array Value) : Prop := ∀ (W : World) (P : Nat) (a' : Option Addr) (c' : Nat), w.heap.size + 3 ≤ P → K0.Blk P [.int .i32 1, .int .u32 0, .string k.mem, .string k.dur, .slice a' k.ds.length c', .int .i64 k.ck] W → KD.Own (w.heap.size + 3) a' k.ds W → Below w.heap.size w W →
 Calls Tryz.prog q (#[.pointer (some ⟨P, 0, none⟩)] ++ caps) W fun e w' => e = .returned .nilIface ∧ (∃ a2 c2, K0.Blk P [.int .i32 1, .int .u32 0, .string k'.mem, .string k'.dur, .slice a2 k'.ds.length c2, .int .i64 k'.ck] w' ∧ KD.Own (w.heap.size + 3) a2 k'.ds w') ∧ Below (w.heap.size + 3) W w'
set_option maxHeartbeats 8000000 in
theorem ask_yes (k k' : Kp) (a : Option Addr) (c : Nat) (s0 : Nat → Sl) (x0 : Value) (w : World) (hz : Sz k) (hok : KI.iK k = true) (hR : Lns w a k.ds s0) (hds : Hid (k'.ds = [])) (HQ : Quest w k k' 35 #[x0]) :
  Calls Tryz.prog 79 #[kval k a c, .func (.func 35) #[] #[x0]] w fun e w' => ∃ a2 c2, e = .returned (.tuple #[kval k' a2 c2, .int .i64 0]) ∧ KD.Own (w.heap.size + 3) a2 k'.ds w' ∧ Below w.heap.size w w' := by
 have t0 := bx_new w k a c
 have HL : Hid (∀ W, Below w.heap.size w W → Lns W a k.ds s0) := fun W hb => hR.below hb
 have hk0 := KI.impl_KeeperOk k a c s0 _ hz.m hz.d hz.t (hz.fits s0) (HL.out _ t0.bel)
 rw [hok] at hk0
 have HC : Hid (∀ W, Below w.heap.size w W → Calls Tryz.prog 100 #[kval k a c] W (KA k W)) := fun W hb => KD.keeperCopy k a c s0 W (by have := hz.m; omega) (by have := hz.d; omega) (by have := hz.t; omega) hz.small (HL.out W hb)
 have HQ' : Hid (Quest w k k' 35 #[x0]) := HQ
 have c0 := t0.box.c0
 have c1 := t0.box.c1
 have c2 := t0.box.c2
 have c3 := t0.box.c3
 obtain ⟨W0, hW0⟩ : ∃ W0, ((w.alloc (kob k a c)).alloc zk).alloc co = W0 := ⟨_, rfl⟩
 rw [hW0] at t0 hk0 c0 c1 c2 c3
 have hm0 := hmf
 have z0 := t0.code.lt
 clear hR hok HL HQ
 go_enter_defers Tryz.func79, Tryz.ntmps79
 go_wp2_with (first
  | (go_at_call 14; refine hk0.mono ?_; rintro e w1 ⟨rfl, b1⟩; have t1 := t0.below b1; have c0 := t1.box.c0; have c1 := t1.box.c1; have c2 := t1.box.c2; have c3 := t1.box.c3)
  | (go_at_call 100; refine (HC.out _ t1.bel).mono ?_; rintro e w2 ⟨a2, c2', rfl, o2, b2⟩; have nw := K0.below_new w2 (wo k a2 c2'); have t2 := (t1.below b2).below nw; have p2 := K0.blk_new [.int .i32 0, .int .u32 0, .string k.mem, .string k.dur, .slice a2 k.ds.length c2', .int .i64 k.ck] w2 114; have hb1 := b1.size; have hb2 := b2.size; have o2b : KD.Own (w.heap.size + 3) a2 k.ds (w2.alloc (wo k a2 c2')) := (own_mono o2 (by omega)).below nw; have l0 := p2.cell 0 (by simp); have l0f := p2.free 0 (by simp); simp only [List.getElem_cons_zero] at l0)
  | (go_at_call 148; refine (Go.MuLone.lock_free LM.lib ⟨w2.heap.size, 0, none⟩ _ l0 l0f).mono ?_; rintro e w4 ⟨rfl, rfl⟩; clear t2 p2 o2b l0 l0f nw; have nw := K0.below_new w2 (wo1 k a2 c2'); have t4 := (t1.below b2).below nw; have p4 := K0.blk_new [.int .i32 1, .int .u32 0, .string k.mem, .string k.dur, .slice a2 k.ds.length c2', .int .i64 k.ck] w2 114; have o4 : KD.Own (w.heap.size + 3) a2 k.ds (w2.alloc (wo1 k a2 c2')) := (own_mono o2 (by omega)).below nw; have hq5 := HQ'.out (w2.alloc (wo1 k a2 c2')) w2.heap.size a2 c2' (by omega) p4 o4 t4.bel; rw [show (#[.pointer (some ⟨w2.heap.size, 0, none⟩)] ++ #[x0] : Array Value) = #[.pointer (some ⟨w2.heap.size, 0, none⟩), x0] from rfl] at hq5)
  | (go_at_call 35; refine hq5.mono ?_; rintro e w5 ⟨rfl, ⟨a5, c5, p5, o5⟩, b5⟩; have t5 := t4.keep b5 (Nat.le_refl _); have j0 := t5.code.c0; have jf := t5.code.f0; have y0 := t5.ans.c0; have y1 := t5.ans.c1; have y2 := t5.ans.c2; have y3 := t5.ans.c3; have g0 := t5.ans.f0; have g1 := t5.ans.f1; have g2 := t5.ans.f2; have g3 := t5.ans.f3)
  | (go_at_call 151; refine (AK.codeOf_nil _).mono ?_; rintro e w6 ⟨rfl, hw6⟩; subst w6))
 have hP : w.heap.size + 3 ≤ w2.heap.size := by omega
 have HOS : Hid (∀ W, KD.Own (w.heap.size + 3) a5 k'.ds W → KD.Own (w.heap.size + 3) a5 k'.ds (W.setCell ⟨w2.heap.size, 0, none⟩ (.int .i32 0))) := fun W _ => Or.inl hds.out
 have p6 := p5.setOther (B' := w.heap.size + 1 + 1) (by omega) 0 (.int .i64 0)
 have k6 := t5.code.set 0 (.int .i64 0)
 have n6 := t5.ans.setOther (B' := w.heap.size + 1 + 1) (by omega) 0 (.int .i64 0)
 have o6 := o5.set (B := w.heap.size + 1 + 1) (by omega) 0 (.int .i64 0)
 have l6 := t5.bel.setCell (p := ⟨w.heap.size + 1 + 1, 0, none⟩) (by show w.heap.size ≤ w.heap.size + 1 + 1; omega) (.int .i64 0)
 obtain ⟨W6, hW6⟩ : ∃ W6, w5.setCell ⟨w.heap.size + 1 + 1, 0, none⟩ (.int .i64 0) = W6 := ⟨_, rfl⟩
 rw [hW6] at p6 k6 n6 o6 l6 ⊢
 have v0 := p6.cell 0 (by simp)
 have v2 := p6.cell 2 (by simp)
 have v3 := p6.cell 3 (by simp)
 have v4 := p6.cell 4 (by simp)
 have v5 := p6.cell 5 (by simp)
 simp only [List.getElem_cons_zero, List.getElem_cons_succ] at v0 v2 v3 v4 v5
 have q0 := k6.cell 0 (by simp)
 simp only [List.set_cons_zero, List.getElem_cons_zero] at q0
 have qf := k6.free 0 (by simp)
 have r0 := n6.c0
 have r1 := n6.c1
 have r2 := n6.c2
 have r3 := n6.c3
 have rf0 := n6.f0
 have rf1 := n6.f1
 have rf2 := n6.f2
 have rf3 := n6.f3
 clear hW6 j0 jf y0 y1 y2 y3 g0 g1 g2 g3 c0 c1 c2 c3 hk0 HC HQ' hq5 hm0
 go_region
 have p7 := (((((p6.setOther (B' := w.heap.size + 1) (by omega) 0 (.string k'.mem)).setOther (B' := w.heap.size + 1) (by omega) 1 (.string k'.dur)).setOther (B' := w.heap.size + 1) (by omega) 2 (.slice a5 k'.ds.length c5)).setOther (B' := w.heap.size + 1) (by omega) 3 (.int .i64 k'.ck)).setOther (B' := w.heap.size + 1 + 1) (by omega) 0 (.int .i64 0)).drew
 have n7 := ((n6.put4 (.string k'.mem) (.string k'.dur) (.slice a5 k'.ds.length c5) (.int .i64 k'.ck)).setOther (B' := w.heap.size + 1 + 1) (by omega) 0 (.int .i64 0)).drew
 have k7 := (((((k6.setOther (B' := w.heap.size + 1) (by omega) 0 (.string k'.mem)).setOther (B' := w.heap.size + 1) (by omega) 1 (.string k'.dur)).setOther (B' := w.heap.size + 1) (by omega) 2 (.slice a5 k'.ds.length c5)).setOther (B' := w.heap.size + 1) (by omega) 3 (.int .i64 k'.ck)).set 0 (.int .i64 0)).drew
 have o7 := (((((o6.set (B := w.heap.size + 1) (by omega) 0 (.string k'.mem)).set (B := w.heap.size + 1) (by omega) 1 (.string k'.dur)).set (B := w.heap.size + 1) (by omega) 2 (.slice a5 k'.ds.length c5)).set (B := w.heap.size + 1) (by omega) 3 (.int .i64 k'.ck)).set (B := w.heap.size + 1 + 1) (by omega) 0 (.int .i64 0)).below ((Below.refl _ _).drew)
 have l7 := (((((l6.setCell (p := ⟨w.heap.size + 1, 0, none⟩) (Nat.le_succ _) (.string k'.mem)).setCell (p := ⟨w.heap.size + 1, 1, none⟩) (Nat.le_succ _) (.string k'.dur)).setCell (p := ⟨w.heap.size + 1, 2, none⟩) (Nat.le_succ _) (.slice a5 k'.ds.length c5)).setCell (p := ⟨w.heap.size + 1, 3, none⟩) (Nat.le_succ _) (.int .i64 k'.ck)).setCell (p := ⟨w.heap.size + 1 + 1, 0, none⟩) (by show w.heap.size ≤ w.heap.size + 1 + 1; omega) (.int .i64 0)).drew
 clear v0 v2 v3 v4 v5 q0 qf r0 r1 r2 r3 rf0 rf1 rf2 rf3
 go_wp2
 obtain ⟨W7, hW7⟩ : ∃ W7, (((((W6.setCell ⟨w.heap.size + 1, 0, none⟩ (.string k'.mem)).setCell ⟨w.heap.size + 1, 1, none⟩ (.string k'.dur)).setCell ⟨w.heap.size + 1, 2, none⟩ (.slice a5 k'.ds.length c5)).setCell ⟨w.heap.size + 1, 3, none⟩ (.int .i64 k'.ck)).setCell ⟨w.heap.size + 1 + 1, 0, none⟩ (.int .i64 0)).drew = W7 := ⟨_, rfl⟩
 rw [hW7] at p7 n7 k7 o7 l7 ⊢
 have u0 := p7.cell 0 (by simp)
 have uf := p7.free 0 (by simp)
 simp only [List.getElem_cons_zero] at u0
 have n8 := n7.setOther (B' := w2.heap.size) (by omega) 0 (.int .i32 0)
 have k8 := k7.setOther (B' := w2.heap.size) (by omega) 0 (.int .i32 0)
 have o8 : KD.Own (w.heap.size + 3) a5 k'.ds (W7.setCell ⟨w2.heap.size, 0, none⟩ (.int .i32 0)) := HOS.out W7 o7
 have l8 := l7.setCell (p := ⟨w2.heap.size, 0, none⟩) (by show w.heap.size ≤ w2.heap.size; omega) (.int .i32 0)
 refine leaves_cons (f := 150) (args := #[.pointer (some ⟨w.heap.size, 0, none⟩), .pointer (some ⟨w.heap.size + 1, 0, none⟩), .pointer (some ⟨w.heap.size + 1 + 1, 0, none⟩)]) (by simp) (by simp [go_sem]) ?_
 refine (AK.idle _ _ _ _).mono ?_
 rintro e u' w'' ⟨rfl, rfl, rfl⟩
 refine leaves_cons (f := 149) (args := #[.pointer (some ⟨w2.heap.size, 0, none⟩)]) (by simp [settle]) (by simp [go_sem]) ?_
 refine (Go.MuLone.unlock_deferred LM.lib ⟨w2.heap.size, 0, none⟩ _ _ u0 uf).mono ?_
 rintro e u' w'' ⟨rfl, rfl, rfl⟩
 have v0 := n8.c0
 have v1 := n8.c1
 have v2 := n8.c2
 have v3 := n8.c3
 have v4 := k8.cell 0 (by simp)
 simp only [List.set_cons_zero, List.getElem_cons_zero] at v4
 simp [Leaves, settle, results, Tryz.results79, go_sem, v0, v1, v2, v3, v4]
 exact ⟨o8, l8⟩
end Go.Proofs.YtljnkicgahepfaaGreatDoor.AQ
namespace Go.Proofs.YtljnkicgahepfaaGreatDoor.F2
open Go.ChangeShapes Go.WideShapes Go.ChangeAt Go.RowKit
open X0 (row mix)
def span (x y : Nat) (k : Nat) : Bool := decide (x ≤ k ∧ k ≤ y)
def upto (x y m : Nat) (k : Nat) : Bool := decide (x ≤ k ∧ k ≤ y ∧ k < m)
theorem upto_step {x y k i : Nat} (hi : i ≠ k) : upto x y k i = upto x y (k + 1) i := by simp only [upto]; congr 1; apply propext; omega
variable {B : Nat} {w W : World} {a b : ByteArray}
theorem set1 (h : D2.Fr B w a b W) (x : ByteArray) : D2.Fr B w a x (W.setCell ⟨B, 1, none⟩ (.string x)) :=
  ⟨(World.cell?_setCell_other _ _ _ _ (by simp)).trans h.c0, World.cell?_setCell_same _ _ _ h.c1, (World.cell?_setCell_other _ _ _ _ (by simp)).trans h.r0, (World.cell?_setCell_other _ _ _ _ (by simp)).trans h.r1,
   by rw [World.frozen?_setCell]; exact h.f0, by rw [World.frozen?_setCell]; exact h.f1, by rw [World.frozen?_setCell]; exact h.g0, by rw [World.frozen?_setCell]; exact h.g1,
   by have := h.lt; simpa [World.setCell] using this, h.bel.setCell (p := ⟨B, 1, none⟩) (Nat.le_refl _) _⟩
theorem wf_of (n : Int) (h0 : -9223372036854775808 ≤ n) (h1 : n ≤ 9223372036854775807) : (Lit.int .i64 n).wf = true := by
 simp [Lit.wf, IntKind.min, IntKind.max, IntKind.signed, IntKind.bits]
 omega
set_option maxHeartbeats 4000000 in
theorem l02Line (a b : ByteArray) (k : Nat) (w : World) (ha : a.size = 768) (hb : b.size = 768) (hk : k < 96) :
  Calls Tryz.prog 107 #[.agg #[.string a, .string b], .int .i64 (k : Int)] w fun e w' => e = .returned (.agg #[.string a, .string (B5.laid b ((k : Int) * 8) (B2.part a ((k : Int) * 8) 8))]) ∧ Below w.heap.size w w' := by
 have hF := D2.fr_new a b w
 have wk : (Lit.int .i64 ((k : Int) * 8)).wf = true := wf_of _ (by omega) (by omega)
 have hp : (B2.part a ((k : Int) * 8) 8).size = 8 := by rw [X0.part_row a k ha hk]; show (row a.data.toList k).toArray.size = 8; rw [List.size_toArray, X0.row, List.length_take, List.length_drop, ← Lib.size_eq]; omega
 obtain ⟨p, hpp⟩ : ∃ p, B2.part a ((k : Int) * 8) 8 = p := ⟨_, rfl⟩
 rw [hpp] at hp ⊢
 go_enter Tryz.func107, Tryz.ntmps107
 go_wp2
 obtain ⟨W, hW⟩ : ∃ W, (w.alloc (.cells #[.string a, .string b] 25)).alloc (.cells #[.string ⟨#[]⟩, .string ⟨#[]⟩] 25) = W := ⟨_, rfl⟩
 rw [hW] at hF ⊢
 have c0 := hF.c0
 have c1 := hF.c1
 have g1 := hF.g1
 have hFd := hF.drew
 have hwr : IntKind.i64.wrap ((k : Int) * 8) = (k : Int) * 8 := by rw [IntKind.wrap_i64]; omega
 have hpt : Hid (∀ W, Calls Tryz.prog 76 #[.string a, .int .i64 ((k : Int) * 8), .int .i64 8] W fun e w' => e = .returned (.string p) ∧ W = w') := fun W => (B2.spec_Part _ _ _ _ (by unfold maxLen; omega) wk rfl).mono fun _ _ h => ⟨by rw [h.1, hpp], h.2.symm⟩
 clear hpp hW
 go_region_with (first
  | (go_at_call 76; refine (hpt.out _).mono ?_; rintro e w3 ⟨rfl, rfl⟩)
  | (go_at_call 97; refine (D2.spec_with_fr (B := w.heap.size) (w := w) (a := a) (b := b) _ _ _ (by omega) (by omega) hFd).mono ?_; rintro e w4 ⟨rfl, h4⟩; have z0 := h4.c1; have z1 := h4.g1))
 all_goals
  have h5 := set1 h4 (B5.laid b ((k : Int) * 8) p)
  have y0 := h5.c0
  have y1 := h5.c1
  have y2 := h5.r0
  have y3 := h5.r1
  have y4 := h5.f0
  have y5 := h5.f1
  go_wp2
  have q := D2.ret2 (a := a) (b := B5.laid b ((k : Int) * 8) p) y2 y3
  exact bodyPost_ret (v := .agg #[.string a, .string (B5.laid b ((k : Int) * 8) p)]) (by simp [results, Tryz.results107, go_sem, q.1, q.2]) rfl ⟨rfl, h5.done _ _⟩
end Go.Proofs.YtljnkicgahepfaaGreatDoor.F2
namespace Go.Proofs.YtljnkicgahepfaaGreatDoor.Y0
open Go.ChangeShapes Go.WideShapes Go.ChangeAt Go.RowKit
def same (a b : ByteArray) (k : Nat) : Bool := (B2.part a ((k : Int) * 8) 8).toList == (B2.part b ((k : Int) * 8) 8).toList
def drt (a b : ByteArray) (k : Nat) : List Int := ((List.range k).filter fun j => !same a b j).map fun (j : Nat) => (j : Int)
def dirty (a b : ByteArray) : List Int := if D1.ok a b then drt a b 96 else []
theorem drt_yes {a b : ByteArray} {k : Nat} (h : same a b k = true) : drt a b (k + 1) = drt a b k := by simp [drt, List.range_succ, List.filter_append, h]
theorem drt_no {a b : ByteArray} {k : Nat} (h : same a b k = false) : drt a b k ++ [(k : Int)] = drt a b (k + 1) := by simp [drt, List.range_succ, List.filter_append, h]
theorem drt_len (a b : ByteArray) (k : Nat) : (drt a b k).length ≤ k := by
 have := List.length_filter_le (fun j => !same a b j) (List.range k)
 simpa [drt] using this
def Ans (a b : ByteArray) (w : World) (e : Ending) (w' : World) : Prop :=
 ∃ p c, e = .returned (.slice p (dirty a b).length c) ∧ J0.Own w.heap.size w' p (dirty a b) ∧ (dirty a b).length ≤ c ∧ Below w.heap.size w w'
theorem ans_no {a b : ByteArray} {w w' : World} {p : Option Addr} {c : Nat} (h : D1.ok a b = false) (hb : Below w.heap.size w w') : Ans a b w (.returned (.slice p 0 c)) w' := by
 have hd : dirty a b = [] := by rw [dirty, h]; rfl
 exact ⟨p, c, by rw [hd]; rfl, by rw [hd]; exact Or.inl rfl, by rw [hd]; exact Nat.zero_le _, hb⟩
theorem ans_yes {a b : ByteArray} {w w' : World} {p : Option Addr} {n c : Nat} (h : D1.ok a b = true) (hn : n = (drt a b 96).length) (ho : J0.Own w.heap.size w' p (drt a b 96)) (hc : n ≤ c) (hb : Below w.heap.size w w') : Ans a b w (.returned (.slice p n c)) w' := by
 have hd : dirty a b = drt a b 96 := by rw [dirty, h]; rfl
 subst hn
 exact ⟨p, c, by rw [hd], by rw [hd]; exact ho, by rw [hd]; exact hc, hb⟩
set_option maxHeartbeats 4000000 in
theorem spec_Dirty (a b : ByteArray) (w : World) (ha : a.size ≤ 281474976710656) (hb : b.size ≤ 281474976710656) : Calls Tryz.prog 105 #[.agg #[.string a, .string b]] w (Ans a b w) := by
 have hma : a.size ≤ maxLen := by unfold maxLen; omega
 have hmb : b.size ≤ maxLen := by unfold maxLen; omega
 have HN : Hid (∀ p c w', D1.ok a b = false → Below w.heap.size w w' → Ans a b w (.returned (.slice p 0 c)) w') := fun p c w' h hb => ans_no h hb
 have HY : Hid (∀ p n c w', D1.ok a b = true → n = (drt a b 96).length → J0.Own w.heap.size w' p (drt a b 96) → n ≤ c → Below w.heap.size w w' → Ans a b w (.returned (.slice p n c)) w') := fun p n c w' h1 hn ho hc hb => ans_yes h1 hn ho hc hb
 obtain ⟨R, hR⟩ : ∃ R, Ans a b w = R := ⟨_, rfl⟩
 rw [hR] at HN HY ⊢
 clear hR
 have k0 := (K0.blk_new [.string a, .string b] w 25).alloc (.cells #[] 3)
 have b0 := J0.ibuf_made (base := w.heap.size + 1) (w.alloc (.cells #[.string a, .string b] 25)) (by simp)
 have l0 := (K0.below_new w (.cells #[.string a, .string b] 25)).alloc (by simp) (.cells #[] 3)
 have hdv : Hid (∀ W, Calls Tryz.prog 43 #[.agg #[.string a, .string b]] W fun e w' => e = .returned (.bool (D1.ok a b)) ∧ w' = W.alloc (.cells #[.string a, .string b] 25)) := fun W => D1.spec_DevOk a b W hma hmb
 by_cases hok : D1.ok a b = true
 ·rw [hok] at hdv
  go_enter Tryz.func105, Tryz.ntmps105
  go_wp2
  go_loopw [3, 4] (fun v i w' => ∃ (k n c : Nat) (p : Option Addr), k ≤ 96 ∧ i = .int .i64 (k : Int) ∧ v = .slice p n c ∧ J0.IBuf (w.heap.size + 1) w' p n c (drt a b k) ∧ K0.Blk w.heap.size [.string a, .string b] w' ∧ Below w.heap.size w w') (fun _ i _ => 96 - (intOf i).toNat)
  case atStart => exact ⟨0, 0, 0, _, Nat.zero_le _, rfl, rfl, by simpa [drt] using b0, k0, l0⟩
  case round =>
   obtain ⟨k, n, c, p, hk, rfl, rfl, hbuf, hblk, hbel⟩ := hrel
   clear b0 k0 l0
   by_cases hlt : k < 96
   ·have e1 : (k : Int) < 96 := by omega
    have x0 := hblk.cell 0 (by simp)
    have x1 := hblk.cell 1 (by simp)
    simp only [List.getElem_cons_zero, List.getElem_cons_succ] at x0 x1
    have hwr : IntKind.i64.wrap ((k : Int) * 8) = (k : Int) * 8 := by rw [IntKind.wrap_i64]; omega
    have wk : (Lit.int .i64 ((k : Int) * 8)).wf = true := F2.wf_of _ (by omega) (by omega)
    have hn : n ≤ 96 := by rw [hbuf.1]; have := drt_len a b k; omega
    obtain ⟨W1, hW1⟩ : ∃ W1, wr.alloc (.cells #[.string a, .string b] 25) = W1 := ⟨_, rfl⟩
    have u1 := hbuf.alloc (.cells #[.string a, .string b] 25)
    have k1 := hblk.alloc (.cells #[.string a, .string b] 25)
    have f1 := hbel.alloc hbel.size (.cells #[.string a, .string b] 25)
    have s1 : w.heap.size + 1 ≤ W1.heap.size := by rw [← hW1]; have := hbel.size; simp; omega
    have hdk : Hid (Calls Tryz.prog 43 #[.agg #[.string a, .string b]] wr fun e w' => e = .returned (.bool true) ∧ w' = W1) := by have := hdv.out wr; rw [hW1] at this; exact this
    rw [hW1] at u1 k1 f1
    have y0 := k1.cell 0 (by simp)
    have y1 := k1.cell 1 (by simp)
    simp only [List.getElem_cons_zero, List.getElem_cons_succ] at y0 y1
    have hpt : Hid (∀ (s : ByteArray) W, s.size ≤ maxLen → Calls Tryz.prog 76 #[.string s, .int .i64 ((k : Int) * 8), .int .i64 8] W fun e w' => e = .returned (.string (B2.part s ((k : Int) * 8) 8)) ∧ W = w') := fun s W hs => (B2.spec_Part _ _ _ _ hs wk rfl).mono fun _ _ h => ⟨h.1, h.2.symm⟩
    have HQ : Hid (same a b k = ((B2.part a ((k : Int) * 8) 8).toList == (B2.part b ((k : Int) * 8) 8).toList)) := rfl
    have hS0 : W1.drew.cell? ⟨w.heap.size, 0, none⟩ = some (.string a) ∧ W1.drew.cell? ⟨w.heap.size, 1, none⟩ = some (.string b) := ⟨y0, y1⟩
    clear hdv hW1 hbuf hblk
    by_cases hs : ((B2.part a ((k : Int) * 8) 8).toList == (B2.part b ((k : Int) * 8) 8).toList) = true
    ·have HS : Hid (drt a b (k + 1) = drt a b k) := drt_yes (by rw [HQ.out]; exact hs)
     go_wp2_with (go_at_call 43; refine hdk.out.mono ?_; rintro e w1 ⟨rfl, rfl⟩)
     go_region_held3 (fun W => W.cell? ⟨w.heap.size, 0, none⟩ = some (.string a) ∧ W.cell? ⟨w.heap.size, 1, none⟩ = some (.string b)) (assumption) ((go_at_call 76; refine (hpt.out _ _ (by assumption)).mono ?_; rintro e w3 ⟨rfl, rfl⟩))
     all_goals
      go_wp2
      go_roundw
      case rel => exact ⟨k + 1, n, c, p, by omega, by go_num, rfl, by rw [HS.out]; exact u1.drewN 1, k1.drewN 1, K0.below_drewN f1 1⟩
      case measure => simp [intOf]; omega
    ·have hs' : ((B2.part a ((k : Int) * 8) 8).toList == (B2.part b ((k : Int) * 8) 8).toList) = false := by simpa using hs
     have HS : Hid (drt a b k ++ [(k : Int)] = drt a b (k + 1)) := drt_no (by rw [HQ.out]; exact hs')
     clear hs
     go_wp2_with (go_at_call 43; refine hdk.out.mono ?_; rintro e w1 ⟨rfl, rfl⟩)
     go_region_held3 (fun W => W.cell? ⟨w.heap.size, 0, none⟩ = some (.string a) ∧ W.cell? ⟨w.heap.size, 1, none⟩ = some (.string b)) (assumption) ((go_at_call 76; refine (hpt.out _ _ (by assumption)).mono ?_; rintro e w3 ⟨rfl, rfl⟩))
     all_goals
      go_wp2_with (at_builtin; refine J0.append_int rfl (.tmp 25) (.tmp 27) rfl (u1.drewN 1) _ (by rfl) (by rfl) (by omega) s1 ?_; intro g1 cap1 w4 hbuf4 bel4)
      go_roundw
      case rel => exact ⟨k + 1, n + 1, cap1, _, by omega, by go_num, rfl, by rw [← HS.out]; exact hbuf4, J0.blk_keep (k1.drewN 1) bel4 (by omega), (K0.below_drewN f1 1).trans (bel4.mono (by omega))⟩
      case measure => simp [intOf]; omega
   ·obtain rfl : k = 96 := by omega
    clear hdv
    go_wp2
    exact HY.out _ _ _ _ hok hbuf.1 (hbuf.own.mono (by omega)) hbuf.fits hbel
 ·have hok' : D1.ok a b = false := by simpa using hok
  rw [hok'] at hdv
  go_enter Tryz.func105, Tryz.ntmps105
  go_wp2
  have x0 := k0.cell 0 (by simp)
  have x1 := k0.cell 1 (by simp)
  simp only [List.getElem_cons_zero, List.getElem_cons_succ] at x0 x1
  obtain ⟨W0, hW0⟩ : ∃ W0, (w.alloc (.cells #[.string a, .string b] 25)).alloc (.cells #[] 3) = W0 := ⟨_, rfl⟩
  rw [hW0] at x0 x1 l0 ⊢
  clear hW0 k0 b0
  go_loopw [3, 4] (fun v i w' => i = .int .i64 0 ∧ (∃ p, v = .slice p 0 0) ∧ w' = W0) (fun _ _ _ => 0)
  case atStart => exact ⟨rfl, ⟨_, rfl⟩, rfl⟩
  case round =>
   obtain ⟨rfl, ⟨p, rfl⟩, rfl⟩ := hrel
   have f1 := l0.alloc l0.size (.cells #[.string a, .string b] 25)
   go_wp2_with (go_at_call 43; refine (hdv.out _).mono ?_; rintro e w1 ⟨rfl, rfl⟩)
   exact HN.out _ _ _ hok' f1
end Go.Proofs.YtljnkicgahepfaaGreatDoor.Y0
namespace Go.Proofs.YtljnkicgahepfaaGreatDoor.Y1
open Go.ChangeShapes Go.WideShapes Go.ChangeAt Go.RowKit Go.Shelf
open X0 (row mix)
open F0 (Has)
open I2 (ints)
theorem same_row {a b : ByteArray} {k : Nat} (ha : a.size = 768) (hb : b.size = 768) (hk : k < 96) : Y0.same a b k = decide (row a.data.toList k = row b.data.toList k) := by
 rw [Y0.same, X0.part_row a k ha hk, X0.part_row b k hb hk, Lib.toList_data, Lib.toList_data]
 by_cases h : row a.data.toList k = row b.data.toList k
 ·simp [h]
 ·simp [h]
theorem ibuf_own {base n cap : Nat} {a : Option Addr} {W V : World} {zs : List Int} {row : Option Nat} (h : J0.IBuf base W a n cap zs) (hg : W.grownBy V row) (hr : ∀ r, row = some r → ∃ o : Obj, W.heap[r]? = some o ∧ o.isCells = false) : J0.IBuf base V a n cap zs := by
 refine ⟨h.1, h.2.1, ?_⟩
 rcases h.2.2 with h0 | ⟨g, c, cur, hv, hbase, hc, hrest⟩
 ·exact Or.inl h0
 ·refine Or.inr ⟨g, c, cur, hv, hbase, ?_, hrest⟩
  rw [hg.block g (Array.getElem?_eq_some_iff.1 hc).1 (fun e => ?_)]
  ·exact hc
  ·obtain ⟨o, ho, hno⟩ := hr g e.symm
   rw [hc] at ho
   cases ho
   simp [Obj.isCells] at hno
theorem ibuf_block {base n cap : Nat} {a : Option Addr} {W V : World} {zs : List Int} (h : J0.IBuf base W a n cap zs) (hk : ∀ g, (Value.slice a n cap).ownBlock = some g → V.heap[g]? = W.heap[g]?) : J0.IBuf base V a n cap zs := by
 refine ⟨h.1, h.2.1, ?_⟩
 rcases h.2.2 with h0 | ⟨g, c, cur, hv, hbase, hc, hrest⟩
 ·exact Or.inl h0
 ·refine Or.inr ⟨g, c, cur, hv, hbase, ?_, hrest⟩
  rw [hk g (by rw [hv]; rfl)]
  exact hc
structure Dr (w : World) (G f : Nat) (la lb : List UInt8) (zs : List Int) (W : World) : Prop where
 dl : A3.Dl G la lb W
 lst : ∃ p n c, Has f 0 (.slice p n c) W ∧ J0.IBuf w.heap.size W p n c zs ∧ ∀ g, (Value.slice p n c).ownBlock = some g → g ≠ G ∧ g ≠ f
 fg : f ≠ G ∧ w.heap.size ≤ f
 bel : Below w.heap.size w W
variable {w W V : World} {G f : Nat} {la lb : List UInt8} {zs : List Int}
theorem Dr.own {row : Option Nat} {B : Nat} (h : Dr w G f la lb zs W) (hB : w.heap.size ≤ B) (hg : W.grownBy V row) (hr : ∀ r, row = some r → B ≤ r ∧ ∃ o : Obj, W.heap[r]? = some o ∧ o.isCells = false) : Dr w G f la lb zs V := by
 obtain ⟨p, n, c, h1, h2, h3⟩ := h.lst
 exact ⟨F0.dl_own h.dl hg fun r e => (hr r e).2, ⟨p, n, c, h1.own hg fun r e => (hr r e).2, ibuf_own h2 hg fun r e => (hr r e).2, h3⟩, h.fg, h.bel.grown hg h.bel.size fun r e => Nat.le_trans hB (hr r e).1⟩
theorem dl_block {V : World} (h : A3.Dl G la lb W) (hz : W.heap.size ≤ V.heap.size) (hb : V.heap[G]? = W.heap[G]?) : A3.Dl G la lb V :=
  ⟨fun j v hj => (World.cell?_of_block (a := ⟨G, 0 + j, none⟩) hb).trans (h.m j v hj), fun j v hj => (World.cell?_of_block (a := ⟨G, 768 + j, none⟩) hb).trans (h.d j v hj),
   fun j hj => ⟨by rw [World.cell?_of_block (a := ⟨G, _, none⟩) hb]; exact (h.t j hj).1, (World.frozen?_of_block (a := ⟨G, _, none⟩) hb).trans (h.t j hj).2⟩, Nat.lt_of_lt_of_le h.lt hz⟩
theorem Dr.step {p : Option Addr} {n c g' cap' : Nat} {z : Int} (h : Dr w G f la lb zs W) (hf : Has f 0 (.slice p n c) W) (hi : J0.IBuf w.heap.size W p n c zs) (hne : ∀ g, (Value.slice p n c).ownBlock = some g → g ≠ G ∧ g ≠ f)
  (hb : J0.IBuf w.heap.size V (some ⟨g', 0, none⟩) (n + 1) cap' (zs ++ [z])) (hg : (W.alloc (.cells #[.int .i64 z] 3)).grownBy V (Value.slice p n c).ownBlock) (hg' : (Value.slice p n c).ownBlock = some g' ∨ g' = W.heap.size + 1) :
  Dr w G f la lb (zs ++ [z]) (V.setCell ⟨f, 0, none⟩ (.slice (some ⟨g', 0, none⟩) (n + 1) cap')) ∧ ∀ B, KeepsFrom B W (V.setCell ⟨f, 0, none⟩ (.slice (some ⟨g', 0, none⟩) (n + 1) cap')) := by
 have hsz : W.heap.size + 1 ≤ V.heap.size := by have := hg.size; simpa using this
 have hlt := h.dl.lt
 have hfl := hf.2.2
 have ha : ∀ k, k < W.heap.size → (W.alloc (.cells #[.int .i64 z] 3)).heap[k]? = W.heap[k]? := fun k hk => Below.heap_alloc _ _ _ hk
 have hG : V.heap[G]? = W.heap[G]? := by
  rw [hg.block G (by simp; omega) (fun e => (hne G e.symm).1 rfl)]
  exact ha G hlt
 have hF : V.heap[f]? = W.heap[f]? := by
  rw [hg.block f (by simp; omega) (fun e => (hne f e.symm).2 rfl)]
  exact ha f hfl
 have hgn : g' ≠ G ∧ g' ≠ f := by
  rcases hg' with e | e
  ·exact hne g' e
  ·omega
 have hV : Has f 0 (.slice p n c) V := ⟨(World.cell?_of_block (a := ⟨f, 0, none⟩) hF).trans hf.1, (World.frozen?_of_block (a := ⟨f, 0, none⟩) hF).trans hf.2.1, by omega⟩
 have hbV : Below w.heap.size w V := F0.below_grown (h.bel.alloc h.bel.size _) hg (fun g e => by
  have := J0.own_block hi g e
  exact this) (by have := h.bel.size; simp; omega)
 refine ⟨⟨dl_block (dl_block h.dl (by omega) hG) (by simp) (Below.heap_setCell _ _ _ _ h.fg.1.symm), ⟨_, _, _, ⟨World.cell?_setCell_same _ _ _ hV.1, by rw [World.frozen?_setCell]; exact hV.2.1, by simpa using hV.2.2⟩, ibuf_block hb (fun g e => ?_), fun g e => ?_⟩, h.fg, hbV.setCell (p := ⟨f, 0, none⟩) h.fg.2 _⟩, fun B => ?_⟩
 ·cases e
  exact Below.heap_setCell _ _ _ _ hgn.2
 ·cases e
  exact hgn
 ·refine KeepsFrom.trans (KeepsFrom.trans ((KeepsOthers.alloc W _).from B) ((KeepsOthers.of_grownBy hg (fun j o e ho => ?_)).from B)) ((KeepsOthers.setCell _ _ _).from B)
  rcases hi.2.2 with ⟨h0, _⟩ | ⟨g, cc, cur, hv, hbase, hc, hrest⟩
  ·rw [h0] at e
   cases e
  ·rw [hv] at e
   cases e
   rw [ha g (Array.getElem?_eq_some_iff.1 hc).1, hc] at ho
   cases ho
   rfl
end Go.Proofs.YtljnkicgahepfaaGreatDoor.Y1
namespace Go.Proofs.YtljnkicgahepfaaGreatDoor.Y2
open Go.ChangeShapes Go.WideShapes Go.ChangeAt Go.RowKit Go.Shelf
open X0 (row mix)
open F0 (Has)
open I2 (ints)
attribute [local go_sem] Oper.semAt_some
end Go.Proofs.YtljnkicgahepfaaGreatDoor.Y2
