/- Joined texts: plain facts and contracts. -/
import Derived.Test.YtljnkicgahepfaaGreatDoorJlZM
import Derived.Deep.RegionHeld3
import Derived.Test.YtljnkicgahepfaaGreatDoorJlZL
import Derived.Defers
import Derived.Recover
import Derived.Laws.Pointers
import Derived.Test.YtljnkicgahepfaaGreatDoorJlZJ
import Derived.Test.YtljnkicgahepfaaGreatDoorJlA
set_option linter.unusedVariables false
set_option linter.unusedSimpArgs false
set_option maxRecDepth 10000
namespace Go.Proofs.YtljnkicgahepfaaGreatDoor.KD
open Go.ChangeShapes Go.WideShapes Go.ChangeAt Go.RowKit
open N0 (Ln)
open N1 (Sl val vals Lists LB lb_new)
open Z0 (dat Row Lns Kp kval kvals dz sz0 At)
open Z2 (LAt put setL blk_setL blk_otherL bel_setL put_len put_get lat_other put_other at_of)
open LF (Btw OwnIn)
open LH (HL lob)
open KC (flat flat_len flat_at CA)
structure Lp (g : Nat) (b : Nat → Nat) (ds : List Ln) (s0 ss : Nat → Sl) (k : Nat) (L : List Value) (W : World) : Prop where
 len : L.length = ds.length * 8
 blk : K0.Blk g L W
 new : ∀ j, j < k → LAt L (j * 8) (dat ds j) (ss j)
 old : ∀ j, k ≤ j → j < ds.length → LAt L (j * 8) (dat ds j) (s0 j)
 sub : ∀ j, j < k → ∃ m1 m2, HL (b j) m1 m2 (b (j + 1)) (ss j) (dat ds j).pg (dat ds j).po (dat ds j).fr W
 gb : g < b 0
 hi : b k ≤ W.heap.size
variable {g k : Nat} {b : Nat → Nat} {ds : List Ln} {s0 ss : Nat → Sl} {L : List Value} {w W W' : World}
theorem Lp.below (h : Lp g b ds s0 ss k L W) (hb : Below W.heap.size W W') : Lp g b ds s0 ss k L W' :=
 ⟨h.len, h.blk.below hb, h.new, h.old, fun j hj => by obtain ⟨m1, m2, q⟩ := h.sub j hj; exact ⟨m1, m2, q.below hb⟩, h.gb, Nat.le_trans h.hi hb.size⟩
theorem b_le (h : Lp g b ds s0 ss k L W) : ∀ j, j ≤ k → b 0 ≤ b j
 | 0, _ => Nat.le_refl _
 | j + 1, hj => by
  have := b_le h j (by omega)
  obtain ⟨m1, m2, q⟩ := h.sub j (by omega)
  have := q.le
  omega
theorem setL_btw (W : World) (g o : Nat) (d : Ln) (s : Sl) : Btw g (g + 1) W (setL W g o d s) := by
 unfold setL
 exact ((((((((Btw.refl _ _ W).set (p := ⟨g, o, none⟩) (Nat.le_refl _) (Nat.lt_succ_self _) _).set (p := ⟨g, o + 1, none⟩) (Nat.le_refl _) (Nat.lt_succ_self _) _).set (p := ⟨g, o + 2, none⟩) (Nat.le_refl _) (Nat.lt_succ_self _) _).set (p := ⟨g, o + 3, none⟩) (Nat.le_refl _) (Nat.lt_succ_self _) _).set (p := ⟨g, o + 4, none⟩) (Nat.le_refl _) (Nat.lt_succ_self _) _).set (p := ⟨g, o + 5, none⟩) (Nat.le_refl _) (Nat.lt_succ_self _) _).set (p := ⟨g, o + 6, none⟩) (Nat.le_refl _) (Nat.lt_succ_self _) _).set (p := ⟨g, o + 7, none⟩) (Nat.le_refl _) (Nat.lt_succ_self _) _
theorem lat_other2 {L : List Value} {o x : Nat} {d e : Ln} {s t : Sl} (hx : x + 7 < o ∨ o + 7 < x) (h : LAt L x e t) : LAt (put L o d s) x e t := by
 unfold LAt at h ⊢
 obtain ⟨h0, h1, h2, h3, h4, h5, h6, h7⟩ := h
 exact ⟨(put_other (by omega)).trans h0, (put_other (by omega)).trans h1, (put_other (by omega)).trans h2, (put_other (by omega)).trans h3, (put_other (by omega)).trans h4, (put_other (by omega)).trans h5, (put_other (by omega)).trans h6, (put_other (by omega)).trans h7⟩
theorem Lp.step {lo m1 m2 hi : Nat} {q : Sl} (h : Lp g b ds s0 ss k L W) (hk : k < ds.length) (hl : HL lo m1 m2 hi q (dat ds k).pg (dat ds k).po (dat ds k).fr W) (hlo : b k ≤ lo) (hh : hi ≤ W.heap.size) :
  Lp g (fun j => if j ≤ k then b j else hi) ds s0 (fun j => if j = k then q else ss j) (k + 1) (put L (k * 8) (dat ds k) q) (setL W g (k * 8) (dat ds k) q) := by
 have hlen := h.len
 have ht := setL_btw W g (k * 8) (dat ds k) q
 have hgb := h.gb
 refine ⟨by rw [put_len]; exact hlen, blk_setL h.blk, fun j hj => ?_, fun j hj hj2 => ?_, fun j hj => ?_, ?_, ?_⟩
 ·by_cases e : j = k
  ·subst e
   have := put_get L (j * 8) (dat ds j) q (by omega)
   simpa using this
  ·have := lat_other2 (o := k * 8) (d := dat ds k) (s := q) (Or.inl (by omega)) (h.new j (by omega))
   simpa [e] using this
 ·exact lat_other2 (Or.inr (by omega)) (h.old j (by omega) hj2)
 ·by_cases e : j = k
  ·subst e
   have hb0 := b_le h j (Nat.le_refl _)
   have hle := hl.le
   have h1 : HL (b j) m1 m2 hi q (dat ds j).pg (dat ds j).po (dat ds j).fr W := ⟨hl.p1.mono hlo (Nat.le_refl _), hl.p2, hl.p3, by omega⟩
   refine ⟨m1, m2, ?_⟩
   have h2 := h1.btw ht (Or.inr (by omega))
   have e2 : ¬ j + 1 ≤ j := by omega
   simpa [e2] using h2
  ·obtain ⟨n1, n2, hq⟩ := h.sub j (by omega)
   have hb0 := b_le h j (by omega)
   refine ⟨n1, n2, ?_⟩
   have h2 := hq.btw ht (Or.inr (by omega))
   have e1 : j ≤ k := by omega
   have e2 : j + 1 ≤ k := by omega
   simpa [e, e1, e2] using h2
 ·simpa using hgb
 ·have e : ¬ k + 1 ≤ k := by omega
  simp only [e, if_false]
  exact Nat.le_trans hh ht.size
structure AC (g : Nat) (b : Nat → Nat) (ds : List Ln) (ss : Nat → Sl) (L : List Value) (W : World) : Prop where
 len : L.length = ds.length * 8
 blk : K0.Blk g L W
 at_ : ∀ j, j < ds.length → LAt L (j * 8) (dat ds j) (ss j)
 sub : ∀ j, j < ds.length → ∃ m1 m2, HL (b j) m1 m2 (b (j + 1)) (ss j) (dat ds j).pg (dat ds j).po (dat ds j).fr W
 gb : g < b 0
 hi : b ds.length ≤ W.heap.size
theorem AC.below (h : AC g b ds ss L W) (hb : Below W.heap.size W W') : AC g b ds ss L W' :=
 ⟨h.len, h.blk.below hb, h.at_, fun j hj => by obtain ⟨m1, m2, q⟩ := h.sub j hj; exact ⟨m1, m2, q.below hb⟩, h.gb, Nat.le_trans h.hi hb.size⟩
theorem ac_of (h : Lp g b ds s0 ss ds.length L W) : AC g b ds ss L W := ⟨h.len, h.blk, h.new, h.sub, h.gb, h.hi⟩
theorem AC.lns (h : AC g b ds ss L W) : Lns W (some ⟨g, 0, none⟩) ds ss := by
 refine ⟨Or.inr ⟨g, 0, rfl, h.blk.lt, fun j hj => ?_⟩, fun j hj => ?_⟩
 ·rw [Nat.zero_add]
  exact at_of h.blk (h.at_ j hj)
 ·obtain ⟨m1, m2, q⟩ := h.sub j hj
  exact q.lists
def Own (lo : Nat) (a : Option Addr) (ds : List Ln) (W : World) : Prop := ds = [] ∨ ∃ g b ss L, a = some ⟨g, 0, none⟩ ∧ lo ≤ g ∧ AC g b ds ss L W
theorem Own.below {lo : Nat} {a : Option Addr} (h : Own lo a ds W) (hb : Below W.heap.size W W') : Own lo a ds W' := h.imp id fun ⟨g, b, ss, L, e, h1, h2⟩ => ⟨g, b, ss, L, e, h1, h2.below hb⟩
theorem Own.lns {lo : Nat} {a : Option Addr} (h : Own lo a ds W) : ∃ ss, Lns W a ds ss := by
 rcases h with rfl | ⟨g, b, ss, L, rfl, h1, h2⟩
 ·exact ⟨fun _ => sz0, Or.inl rfl, fun j hj => by simp at hj⟩
 ·exact ⟨ss, h2.lns⟩
theorem Own.set {lo B : Nat} {a : Option Addr} (h : Own lo a ds W) (hB : B < lo) (j : Nat) (v : Value) : Own lo a ds (W.setCell ⟨B, j, none⟩ v) := by
 rcases h with h | ⟨g, b, ss, L, e, h1, h2⟩
 ·exact Or.inl h
 ·have ht : Btw B (B + 1) W (W.setCell ⟨B, j, none⟩ v) := (Btw.refl _ _ W).set (p := ⟨B, j, none⟩) (Nat.le_refl _) (Nat.lt_succ_self _) v
  have hgb := h2.gb
  have hb0 : ∀ i, i ≤ ds.length → b 0 ≤ b i := fun i => by
   induction i with
   | zero => intro _; exact Nat.le_refl _
   | succ i ih =>
    intro hi
    have := ih (by omega)
    obtain ⟨m1, m2, q⟩ := h2.sub i (by omega)
    have := q.le
    omega
  refine Or.inr ⟨g, b, ss, L, e, h1, h2.len, h2.blk.setOther (by omega) j v, h2.at_, fun i hi => ?_, hgb, Nat.le_trans h2.hi ht.size⟩
  obtain ⟨m1, m2, q⟩ := h2.sub i hi
  have := hb0 i (by omega)
  exact ⟨m1, m2, q.btw ht (Or.inr (by omega))⟩
def KA (k : Kp) (w : World) (e : Ending) (w' : World) : Prop := ∃ a' c', e = .returned (kval k a' c') ∧ Own w.heap.size a' k.ds w' ∧ Below w.heap.size w w'
def Small (ds : List Ln) : Prop := ∀ j, j < ds.length → (dat ds j).pg.length ≤ 1048576 ∧ (dat ds j).po.length ≤ 1048576 ∧ (dat ds j).fr.length ≤ 1048576 ∧ (dat ds j).rc.size ≤ 1048576 ∧ (dat ds j).sav.size ≤ 1048576
abbrev zk : Obj := .cells #[.string ⟨#[]⟩, .string ⟨#[]⟩, .slice none 0 0, .int .i64 0] 28
abbrev kob (k : Kp) (a : Option Addr) (c : Nat) : Obj := .cells #[.string k.mem, .string k.dur, .slice a k.ds.length c, .int .i64 k.ck] 28
structure Bx (w : World) (k : Kp) (a : Option Addr) (c : Nat) (W : World) : Prop where
 box : K0.Blk w.heap.size (kvals k a c) W
 res : K0.Blk (w.heap.size + 1) Z3.zero4 W
 bel : Below w.heap.size w W
variable {K : Kp} {a : Option Addr} {c : Nat}
theorem Bx.below (h : Bx w K a c W) (hb : Below W.heap.size W W') : Bx w K a c W' := ⟨h.box.below hb, h.res.below hb, h.bel.trans (hb.mono h.bel.size)⟩
theorem Bx.keep {B : Nat} (h : Bx w K a c W) (hb : Below B W W') (hB : w.heap.size + 2 ≤ B) : Bx w K a c W' :=
 ⟨J0.blk_keep h.box hb (by omega), J0.blk_keep h.res hb (by omega), h.bel.trans (hb.mono (by omega))⟩
theorem bx_new (w : World) (k : Kp) (a : Option Addr) (c : Nat) : Bx w k a c ((w.alloc (kob k a c)).alloc zk) :=
 ⟨(K0.blk_new (kvals k a c) w 28).alloc _, K0.blk_at Z3.zero4 _ 28 (by simp), ((Below.refl _ _).alloc (Nat.le_refl _) _).alloc (by simp) _⟩
set_option maxHeartbeats 4000000 in
theorem keeperCopy (k : Kp) (a : Option Addr) (c : Nat) (s0 : Nat → Sl) (w : World) (hm : k.mem.size ≤ 281474976710656) (hd : k.dur.size ≤ 281474976710656) (hn : k.ds.length ≤ 1048576) (hz : Small k.ds) (hR : Lns w a k.ds s0) :
  Calls Tryz.prog 100 #[kval k a c] w (KA k w) := by
 have t0 := bx_new w k a c
 have c2 := t0.box.c2
 have HR0 : Hid (∀ W, Below w.heap.size w W → Lns W a k.ds s0) := fun W hb => hR.below hb
 have hcl := KC.clone a c k.ds s0 _ hn (HR0.out _ t0.bel).row
 obtain ⟨W0, hW0⟩ : ∃ W0, (w.alloc (kob k a c)).alloc zk = W0 := ⟨_, rfl⟩
 rw [hW0] at t0 c2 hcl
 have hlt0 := t0.res.lt
 clear hR
 have HZ : Hid (Small k.ds) := hz
 clear hz
 go_enter Tryz.func100, Tryz.ntmps100
 go_wp2_with (go_at_call 162; refine hcl.mono ?_; rintro e w1 ⟨a1, c1, rfl, h1, b1⟩; have t1 := t0.below b1)
 have H1 : Hid (k.ds = [] ∨ ∃ g b ss L, a1 = some ⟨g, 0, none⟩ ∧ W0.heap.size ≤ g ∧ Lp g b k.ds s0 ss 0 L w1) := by
  rcases h1 with h | ⟨g, e, hg, hk⟩
  ·exact Or.inl h
  ·exact Or.inr ⟨g, fun _ => w1.heap.size, s0, flat k.ds s0, e, hg, flat_len _ _, hk, fun j hj => absurd hj (Nat.not_lt_zero _), fun j _ hj => flat_at _ _ j hj, fun j hj => absurd hj (Nat.not_lt_zero _), hk.lt, Nat.le_refl _⟩
 clear h1 t0 c2 hcl
 go_loopw [11] (fun i w' => ∃ j : Nat, j ≤ k.ds.length ∧ i = .int .i64 j ∧ Bx w k a c w' ∧ Hid (k.ds = [] ∨ ∃ g b ss L, a1 = some ⟨g, 0, none⟩ ∧ W0.heap.size ≤ g ∧ Lp g b k.ds s0 ss j L w')) (fun i _ => k.ds.length - (intOf i).toNat)
 case atStart => exact ⟨0, Nat.zero_le _, rfl, t1, H1⟩
 case round =>
  obtain ⟨j, hj, rfl, hbx, HL⟩ := hrel
  clear H1 t1
  by_cases hlt : j < k.ds.length
  ·obtain ⟨g, b, ss, L, rfl, hg, hLp⟩ : ∃ g b ss L, a1 = some ⟨g, 0, none⟩ ∧ W0.heap.size ≤ g ∧ Lp g b k.ds s0 ss j L wr := by
    rcases HL.out with h | h
    ·rw [h] at hlt; simp at hlt
    ·exact h
   clear HL
   obtain ⟨y0, y1, y2, y3, y4, y5, y6, y7⟩ := at_of hLp.blk (hLp.old j (Nat.le_refl _) hlt)
   obtain ⟨z1, z2, z3, z4, z5⟩ := HZ.out j hlt
   have ls := (HR0.out _ (hbx.bel.trans ((K0.below_new wr (lob (dat k.ds j) (s0 j))).mono hbx.bel.size))).sub j hlt
   have HS : Hid (∀ lo m1 m2 hi q W, Lp g b k.ds s0 ss j L W → HL lo m1 m2 hi q (dat k.ds j).pg (dat k.ds j).po (dat k.ds j).fr W → b j ≤ lo → hi ≤ W.heap.size → Lp g (fun i => if i ≤ j then b i else hi) k.ds s0 (fun i => if i = j then q else ss i) (j + 1) (put L (j * 8) (dat k.ds j) q) (setL W g (j * 8) (dat k.ds j) q)) := fun lo m1 m2 hi q W h1 h2 h3 h4 => h1.step hlt h2 h3 h4
   have e1 : (0 : Int) ≤ (j : Int) := by omega
   have e2 : (j : Int) < (k.ds.length : Int) := by omega
   have hlen := hLp.len
   have hbj := hLp.hi
   obtain ⟨d, ed⟩ : ∃ d, dat k.ds j = d := ⟨_, rfl⟩
   obtain ⟨s, es⟩ : ∃ s, s0 j = s := ⟨_, rfl⟩
   rw [ed, es] at ls
   rw [ed] at y0 y1 y2 y3 y4 y5 y6 y7 z1 z2 z3 z4 z5 HS
   rw [es] at y4 y6 y7
   have nb := K0.below_new wr (lob d s)
   have hcp := LI.impl_copy d s _ z1 z2 z3 (by omega) (by omega) ls
   clear ed es HR0 HZ ls
   go_wp2_with (go_at_call 174; refine hcp.mono ?_; rintro e w2 ⟨q, m1, m2, hi, rfl, hl, hh, b2⟩; have L2 := (hLp.below nb).below b2; have B2 := (hbx.below nb).below b2; have m2b := L2.blk; obtain ⟨x0, q0⟩ : ∃ x, w2.cell? ⟨g, j * 8, none⟩ = some x := ⟨_, m2b.cell (j * 8) (by omega)⟩; have f0 := m2b.free (j * 8) (by omega); obtain ⟨x1, q1⟩ : ∃ x, w2.cell? ⟨g, j * 8 + 1, none⟩ = some x := ⟨_, m2b.cell (j * 8 + 1) (by omega)⟩; have f1 := m2b.free (j * 8 + 1) (by omega); obtain ⟨x2, q2⟩ : ∃ x, w2.cell? ⟨g, j * 8 + 2, none⟩ = some x := ⟨_, m2b.cell (j * 8 + 2) (by omega)⟩; have f2 := m2b.free (j * 8 + 2) (by omega); obtain ⟨x3, q3⟩ : ∃ x, w2.cell? ⟨g, j * 8 + 3, none⟩ = some x := ⟨_, m2b.cell (j * 8 + 3) (by omega)⟩; have f3 := m2b.free (j * 8 + 3) (by omega); obtain ⟨x4, q4⟩ : ∃ x, w2.cell? ⟨g, j * 8 + 4, none⟩ = some x := ⟨_, m2b.cell (j * 8 + 4) (by omega)⟩; have f4 := m2b.free (j * 8 + 4) (by omega); obtain ⟨x5, q5⟩ : ∃ x, w2.cell? ⟨g, j * 8 + 5, none⟩ = some x := ⟨_, m2b.cell (j * 8 + 5) (by omega)⟩; have f5 := m2b.free (j * 8 + 5) (by omega); obtain ⟨x6, q6⟩ : ∃ x, w2.cell? ⟨g, j * 8 + 6, none⟩ = some x := ⟨_, m2b.cell (j * 8 + 6) (by omega)⟩; have f6 := m2b.free (j * 8 + 6) (by omega); obtain ⟨x7, q7⟩ : ∃ x, w2.cell? ⟨g, j * 8 + 7, none⟩ = some x := ⟨_, m2b.cell (j * 8 + 7) (by omega)⟩; have f7 := m2b.free (j * 8 + 7) (by omega))
   go_roundw
   case rel => exact ⟨j + 1, by omega, by go_num, B2.keep ((setL_btw w2 g (j * 8) d q).below (b := g) (Nat.le_refl _) (Nat.le_of_lt m2b.lt)) (by omega), Or.inr ⟨g, _, _, _, rfl, hg, HS.out _ m1 m2 hi q w2 L2 hl (Nat.le_trans hbj nb.size) hh⟩⟩
   case measure => simp [intOf]; omega
  ·obtain rfl : j = k.ds.length := by omega
   have HO : Hid (Own (w.heap.size + 2) a1 k.ds wr) := by
    rcases HL.out with h | ⟨g, b, ss, L, e, hg, h⟩
    ·exact Or.inl h
    ·exact Or.inr ⟨g, b, ss, L, e, by omega, ac_of h⟩
   clear HL HR0 HZ
   have dx := hbx.below ((Below.refl _ _).drew)
   have HD : Hid (∀ W, Calls Tryz.prog 175 #[.agg #[.string k.mem, .string k.dur]] W fun e w' => e = .returned (.agg #[.string k.mem, .string k.dur]) ∧ Below W.heap.size W w') := fun W => D2.devCopy k.mem k.dur W hm hd
   have HO2 : Hid (∀ W, Below wr.drew.heap.size wr.drew W → Own (w.heap.size + 2) a1 k.ds W) := fun W hb => (HO.out.below ((Below.refl _ _).drew)).below hb
   have HS : Hid (∀ W, Bx w k a c W → W.cell? ⟨w.heap.size, 0, none⟩ = some (.string k.mem) ∧ W.cell? ⟨w.heap.size, 1, none⟩ = some (.string k.dur) ∧ W.cell? ⟨w.heap.size, 3, none⟩ = some (.int .i64 k.ck)) := fun W h => ⟨h.box.c0, h.box.c1, h.box.c3⟩
   have s0' := HS.out _ dx
   go_wp2
   go_region_held3 (fun W => W.cell? ⟨w.heap.size, 0, none⟩ = some (.string k.mem) ∧ W.cell? ⟨w.heap.size, 1, none⟩ = some (.string k.dur) ∧ W.cell? ⟨w.heap.size, 3, none⟩ = some (.int .i64 k.ck)) (assumption) ((go_at_call 175; refine (HD.out _).mono ?_; rintro e w2 ⟨rfl, b2⟩; have B2 := dx.below b2; have s2 := HS.out _ B2; have O2 := HO2.out _ b2; have r0 := B2.res.c0; have r1 := B2.res.c1; have r2 := B2.res.c2; have r3 := B2.res.c3; have f0 := B2.res.f0; have f1 := B2.res.f1; have f2 := B2.res.f2; have f3 := B2.res.f3; have s2b : ((((w2.setCell ⟨w.heap.size + 1, 0, none⟩ (.string k.mem)).setCell ⟨w.heap.size + 1, 1, none⟩ (.string k.dur)).setCell ⟨w.heap.size + 1, 2, none⟩ (.slice a1 k.ds.length c1)).setCell ⟨w.heap.size + 1, 3, none⟩ (.int .i64 k.ck)).cell? ⟨w.heap.size, 0, none⟩ = some (.string k.mem) ∧ ((((w2.setCell ⟨w.heap.size + 1, 0, none⟩ (.string k.mem)).setCell ⟨w.heap.size + 1, 1, none⟩ (.string k.dur)).setCell ⟨w.heap.size + 1, 2, none⟩ (.slice a1 k.ds.length c1)).setCell ⟨w.heap.size + 1, 3, none⟩ (.int .i64 k.ck)).cell? ⟨w.heap.size, 1, none⟩ = some (.string k.dur) ∧ ((((w2.setCell ⟨w.heap.size + 1, 0, none⟩ (.string k.mem)).setCell ⟨w.heap.size + 1, 1, none⟩ (.string k.dur)).setCell ⟨w.heap.size + 1, 2, none⟩ (.slice a1 k.ds.length c1)).setCell ⟨w.heap.size + 1, 3, none⟩ (.int .i64 k.ck)).cell? ⟨w.heap.size, 3, none⟩ = some (.int .i64 k.ck) := (by have hb := (((B2.box.setOther (B' := w.heap.size + 1) (by omega) 0 (.string k.mem)).setOther (B' := w.heap.size + 1) (by omega) 1 (.string k.dur)).setOther (B' := w.heap.size + 1) (by omega) 2 (.slice a1 k.ds.length c1)).setOther (B' := w.heap.size + 1) (by omega) 3 (.int .i64 k.ck); exact ⟨hb.c0, hb.c1, hb.c3⟩)))
   all_goals
    go_wp2
    have q := B2.res.put4 (.string k.mem) (.string k.dur) (.slice a1 k.ds.length c1) (.int .i64 k.ck)
    have v0 := q.c0
    have v1 := q.c1
    have v2 := q.c2
    have v3 := q.c3
    have O3 := (((O2.set (B := w.heap.size + 1) (by omega) 0 (.string k.mem)).set (B := w.heap.size + 1) (by omega) 1 (.string k.dur)).set (B := w.heap.size + 1) (by omega) 2 (.slice a1 k.ds.length c1)).set (B := w.heap.size + 1) (by omega) 3 (.int .i64 k.ck)
    refine bodyPost_ret (v := kval k a1 c1) (by simp [results, Tryz.results100, go_sem, v0, v1, v2, v3]) rfl ⟨a1, c1, rfl, ?_, ?_⟩
    ·exact O3.imp id fun ⟨g, b, ss, L, e, h1, h2⟩ => ⟨g, b, ss, L, e, by omega, h2⟩
    ·exact (((B2.bel.setCell (p := ⟨w.heap.size + 1, 0, none⟩) (Nat.le_succ _) _).setCell (p := ⟨w.heap.size + 1, 1, none⟩) (Nat.le_succ _) _).setCell (p := ⟨w.heap.size + 1, 2, none⟩) (Nat.le_succ _) _).setCell (p := ⟨w.heap.size + 1, 3, none⟩) (Nat.le_succ _) _
end Go.Proofs.YtljnkicgahepfaaGreatDoor.KD
namespace Go.Proofs.YtljnkicgahepfaaGreatDoor.AK
open Go.ChangeShapes Go.WideShapes Go.ChangeAt Go.RowKit
theorem idle (p q r : Option Addr) (w : World) :
  CallsD Tryz.prog 150 #[.pointer p, .pointer q, .pointer r] .returning w fun e u' w' => e = .returned (.tuple #[]) ∧ u' = .returning ∧ w' = w := by
 refine callsD_of_wpS Tryz.func150 rfl fun c₀ cs hu => ?_
 apply wpS_seq
 apply wpS_region
 simp [wpOpsS, go_sem, recoverD, hu, Tryz.ntmps150, Exit.thenS]
 apply wpS_seq
 apply wpS_region
 simp [wpOpsS, go_sem, Exit.thenS, Array.replicate]
 refine wpS_cond (t := false) (by simp [Act.eval, Array.replicate]) ?_
 simp only [Bool.false_eq_true, if_false]
 refine wpS_of_wp (wp_skip ?_)
 cases c₀
 simp_all [bodyPostS, results, Tryz.results150]
theorem codeOf_nil (w : World) : Calls Tryz.prog 151 #[.nilIface] w fun e w' => e = .returned (.int .i64 0) ∧ w' = w := by
 go_enter Tryz.func151, Tryz.ntmps151
 go_wp2
 go_ret
 exact ⟨rfl, rfl⟩
end Go.Proofs.YtljnkicgahepfaaGreatDoor.AK
namespace Go.Proofs.YtljnkicgahepfaaGreatDoor.AQ
open Go.ChangeShapes Go.WideShapes Go.ChangeAt Go.RowKit
open N0 (Ln)
open N1 (Sl)
open Z0 (dat Row Lns Kp kval kvals)
open KD (KA Small kob zk)
theorem hmf : ∀ (fn : Fn) (first cap : Array Value) (w : World), (Instr.makeFunc fn first cap).run Tryz.prog w = .ok (.func fn first cap) w := fun _ _ _ _ => rfl
structure Bx (w : World) (k : Kp) (a : Option Addr) (c : Nat) (W : World) : Prop where
 box : K0.Blk w.heap.size (kvals k a c) W
 ans : K0.Blk (w.heap.size + 1) Z3.zero4 W
 code : K0.Blk (w.heap.size + 1 + 1) [.int .i64 0] W
 bel : Below w.heap.size w W
variable {w W W' : World} {k k' : Kp} {a : Option Addr} {c : Nat}
theorem Bx.below (h : Bx w k a c W) (hb : Below W.heap.size W W') : Bx w k a c W' := ⟨h.box.below hb, h.ans.below hb, h.code.below hb, h.bel.trans (hb.mono h.bel.size)⟩
theorem Bx.keep {B : Nat} (h : Bx w k a c W) (hb : Below B W W') (hB : w.heap.size + 3 ≤ B) : Bx w k a c W' :=
 ⟨J0.blk_keep h.box hb (by omega), J0.blk_keep h.ans hb (by omega), J0.blk_keep h.code hb (by omega), h.bel.trans (hb.mono (by omega))⟩
abbrev co : Obj := .cells #[.int .i64 0] 3
theorem bx_new (w : World) (k : Kp) (a : Option Addr) (c : Nat) : Bx w k a c (((w.alloc (kob k a c)).alloc zk).alloc co) :=
 ⟨((K0.blk_new (kvals k a c) w 28).alloc _).alloc _, (K0.blk_at Z3.zero4 _ 28 (by simp)).alloc _, K0.blk_at [.int .i64 0] _ 3 (by simp), (((Below.refl _ _).alloc (Nat.le_refl _) _).alloc (by simp) _).alloc (by simp; omega) _⟩
theorem own_mono {lo lo' : Nat} {ds : List Ln} (h : KD.Own lo a ds W) (hl : lo' ≤ lo) : KD.Own lo' a ds W := h.imp id fun ⟨g, b, ss, L, e, h1, h2⟩ => ⟨g, b, ss, L, e, by omega, h2⟩
structure Sz (k : Kp) : Prop where
 m : k.mem.size ≤ 1048576
 d : k.dur.size ≤ 1048576
 t : k.ds.length + Z1.tot k.ds k.ds.length ≤ 1048576
theorem Sz.small (h : Sz k) : Small k.ds := fun j hj => by
 have := Z1.tot_one hj
 have := h.t
 exact N12.sizes (d := dat k.ds j) (by omega)
theorem Sz.fits (h : Sz k) (ss : Nat → Sl) : Z4.Fits k.ds ss := fun j hj => by
 obtain ⟨z1, z2, z3, z4, z5⟩ := h.small j hj
 exact ⟨⟨by omega, by omega, by omega⟩, z2, z3⟩
abbrev wo1 (k : Kp) (a : Option Addr) (c : Nat) : Obj := .cells #[.int .i32 1, .int .u32 0, .string k.mem, .string k.dur, .slice a k.ds.length c, .int .i64 k.ck] 114
abbrev wo (k : Kp) (a : Option Addr) (c : Nat) : Obj := .cells #[.int .i32 0, .int .u32 0, .string k.mem, .string k.dur, .slice a k.ds.length c, .int .i64 k.ck] 114
end Go.Proofs.YtljnkicgahepfaaGreatDoor.AQ
namespace Go.Proofs.YtljnkicgahepfaaGreatDoor.WN
open Go.ChangeShapes Go.WideShapes Go.ChangeAt Go.RowKit
open N0 (Ln)
open N1 (Sl val vals Lists)
open Z0 (dat Row Lns Kp kval kvals)
open Z4 (Fits)
open WL (lt1 lets)
abbrev er (p : Addr) : Value := .iface 353 (.pointer (some p))
abbrev ref (p : Addr) : Value := .iface 174 (.agg #[er p])
abbrev chain (p : Addr) : List PanicEntry := [{ v := ref p, recovered := false }]
theorem check_yes (p : Addr) (w : World) : Calls Tryz.prog 152 #[.bool true, er p] w fun e w' => e = .returned (.tuple #[]) ∧ w' = w := by
 go_enter Tryz.func152, Tryz.ntmps152
 go_wp2
 refine bodyPost_end (v := .tuple #[]) (by simp [results, Tryz.results152, go_sem]) rfl ?_
 exact ⟨rfl, rfl⟩
theorem check_not (p : Addr) (w : World) : Calls Tryz.prog 152 #[.bool false, er p] w fun e w' => e = .panicked (chain p) ∧ w' = w := by
 go_enter Tryz.func152, Tryz.ntmps152
 go_wp2
 exact ⟨rfl, rfl, rfl⟩
abbrev wk (k : Kp) (a : Option Addr) (c : Nat) : List Value := [.int .i32 1, .int .u32 0, .string k.mem, .string k.dur, .slice a k.ds.length c, .int .i64 k.ck]
theorem one_panic2 {P : Program} {ops : Array Oper} {Q : Exit → Act → World → Prop} {S : World → Prop} {a : Act} {w : World} {i f : Nat} {o : Oper} {listed : Array Bool} {fuel : Nat} {md : Region.Mode} (hr : Region.ready md ops listed = [i]) (ho : ops[i]? = some o) (hw : Region.wanted o (yielded ops a.tmps) = true)
  (x y : Operand) (ts : Array TypeId) (hop : o.op = .call { callee := .value (.func f), args := #[x, y], argTypes := ts }) (v u1 : Value) (hx0 : a.eval x = v) (hx1 : a.eval y = u1) (eg : ∀ args w, (callFunc f args).run P w = .ok (.enter f args) w)
  (hc : Calls P f #[v, u1] w fun e w' => ∃ ch, e = .panicked ch ∧ Q (.panic ch) a w') : wpAnyH P md ops Q S (fuel + 1) listed a w := by
 refine wpAnyH_all hr (by simp) ?_
 intro j hj
 obtain rfl : j = i := by simpa using hj
 unfold wpOp
 rw [ho]
 refine Y0.of_if hw (.inl ?_)
 have he : (execOp a.eval o).run P w = .ok (.enter f #[v, u1]) w := by
  subst hx0 hx1
  simp [execOp, hop, resolve, go_sem, invoke, eg]
 unfold Oper.wp
 rw [he]
 refine Calls.mono hc ?_
 rintro e w' ⟨ch, rfl, h⟩
 exact h
set_option maxHeartbeats 4000000 in
theorem checkLent_yes (k : Kp) (P : Nat) (a : Option Addr) (c : Nat) (ss : Nat → Sl) (cl i n : Int) (p : Addr) (w : World) (hn : k.ds.length ≤ 1048576) (hF : Fits k.ds ss) (hR : Lns w a k.ds ss) (hP : K0.Blk P (wk k a c) w) (hg : w.cell? ⟨0, 0, none⟩ = some (er p)) (hgl : 0 < w.heap.size) (hq : lets cl i n k.ds = true) :
  Calls Tryz.prog 81 #[.pointer (some ⟨P, 0, none⟩), .int .i64 cl, .int .i64 i, .int .i64 n] w fun e w' => e = .returned (.tuple #[]) ∧ Below w.heap.size w w' := by
 obtain ⟨W0, hW0⟩ : ∃ W0, (((w.alloc (.cells #[.int .i64 cl] 3)).alloc (.cells #[.int .i64 i] 3)).alloc (.cells #[.int .i64 n] 3)) = W0 := ⟨_, rfl⟩
 have l1 : Below w.heap.size w W0 := by rw [← hW0]; exact (((Below.refl _ _).alloc (Nat.le_refl _) _).alloc (by simp) _).alloc (by simp; omega) _
 have hC : WM.Cap w.heap.size (w.heap.size + 1) (w.heap.size + 1 + 1) cl i n W0 := by
  rw [← hW0]
  have k0 := ((K0.blk_new [.int .i64 cl] w 3).alloc (.cells #[.int .i64 i] 3)).alloc (.cells #[.int .i64 n] 3)
  have k1 := (K0.blk_at (B := w.heap.size + 1) [.int .i64 i] (w.alloc (.cells #[.int .i64 cl] 3)) 3 (by simp)).alloc (.cells #[.int .i64 n] 3)
  have k2 := K0.blk_at (B := w.heap.size + 1 + 1) [.int .i64 n] ((w.alloc (.cells #[.int .i64 cl] 3)).alloc (.cells #[.int .i64 i] 3)) 3 (by simp)
  exact ⟨k0.c0, k1.c0, k2.c0, k0.lt, k1.lt, k2.lt⟩
 have d1 : Below W0.heap.size W0 W0.drew := (Below.refl _ _).drew
 have hx := WM.containsFunc a c k.ds ss cl i n w.heap.size (w.heap.size + 1) (w.heap.size + 1 + 1) W0.drew hn hF ((hR.below l1).below d1) (hC.below d1)
 rw [hq] at hx
 have p1 := hP.below l1
 have hz := p1.cell 4 (by simp)
 simp only [List.getElem_cons_zero, List.getElem_cons_succ] at hz
 have hg1 := (l1.cell (p := ⟨0, 0, none⟩) hgl).trans hg
 have HB : Hid (∀ W, Below W0.drew.heap.size W0.drew W → (W.cell? ⟨P, 4, none⟩ = some (.slice a k.ds.length c) ∧ W.cell? ⟨0, 0, none⟩ = some (er p)) ∧ Below w.heap.size w W) := fun W hb => ⟨⟨(hb.cell (p := ⟨P, 4, none⟩) p1.lt).trans hz, (hb.cell (p := ⟨0, 0, none⟩) (Nat.lt_of_lt_of_le hgl l1.size)).trans hg1⟩, l1.trans (d1.mono l1.size |>.trans (hb.mono l1.size))⟩
 have s0 : W0.drew.cell? ⟨P, 4, none⟩ = some (.slice a k.ds.length c) ∧ W0.drew.cell? ⟨0, 0, none⟩ = some (er p) := ⟨hz, hg1⟩
 have hm0 := AQ.hmf
 clear hR hC hF hP p1 hz hg1 hq
 go_enter Tryz.func81, Tryz.ntmps81
 go_wp2
 clear hW0
 go_region_held3 (fun W => W.cell? ⟨P, 4, none⟩ = some (.slice a k.ds.length c) ∧ W.cell? ⟨0, 0, none⟩ = some (er p)) (assumption) ((first
  | (go_at_call 153; refine hx.mono ?_; rintro e w2 ⟨rfl, b2⟩; obtain ⟨s2, l2⟩ := HB.out _ b2)
  | (go_at_call 152; refine (check_yes p _).mono ?_; rintro e w3 ⟨rfl, hw3⟩; subst w3)))
 exact bodyPost_end (v := .tuple #[]) (by simp [results, Tryz.results81, go_sem]) rfl ⟨rfl, l2⟩
set_option maxHeartbeats 4000000 in
theorem checkLent_not (k : Kp) (P : Nat) (a : Option Addr) (c : Nat) (ss : Nat → Sl) (cl i n : Int) (p : Addr) (w : World) (hn : k.ds.length ≤ 1048576) (hF : Fits k.ds ss) (hR : Lns w a k.ds ss) (hP : K0.Blk P (wk k a c) w) (hg : w.cell? ⟨0, 0, none⟩ = some (er p)) (hgl : 0 < w.heap.size) (hq : lets cl i n k.ds = false) :
  Calls Tryz.prog 81 #[.pointer (some ⟨P, 0, none⟩), .int .i64 cl, .int .i64 i, .int .i64 n] w fun e w' => e = .panicked (chain p) ∧ Below w.heap.size w w' := by
 obtain ⟨W0, hW0⟩ : ∃ W0, (((w.alloc (.cells #[.int .i64 cl] 3)).alloc (.cells #[.int .i64 i] 3)).alloc (.cells #[.int .i64 n] 3)) = W0 := ⟨_, rfl⟩
 have l1 : Below w.heap.size w W0 := by rw [← hW0]; exact (((Below.refl _ _).alloc (Nat.le_refl _) _).alloc (by simp) _).alloc (by simp; omega) _
 have hC : WM.Cap w.heap.size (w.heap.size + 1) (w.heap.size + 1 + 1) cl i n W0 := by
  rw [← hW0]
  have k0 := ((K0.blk_new [.int .i64 cl] w 3).alloc (.cells #[.int .i64 i] 3)).alloc (.cells #[.int .i64 n] 3)
  have k1 := (K0.blk_at (B := w.heap.size + 1) [.int .i64 i] (w.alloc (.cells #[.int .i64 cl] 3)) 3 (by simp)).alloc (.cells #[.int .i64 n] 3)
  have k2 := K0.blk_at (B := w.heap.size + 1 + 1) [.int .i64 n] ((w.alloc (.cells #[.int .i64 cl] 3)).alloc (.cells #[.int .i64 i] 3)) 3 (by simp)
  exact ⟨k0.c0, k1.c0, k2.c0, k0.lt, k1.lt, k2.lt⟩
 have d1 : Below W0.heap.size W0 W0.drew := (Below.refl _ _).drew
 have hx := WM.containsFunc a c k.ds ss cl i n w.heap.size (w.heap.size + 1) (w.heap.size + 1 + 1) W0.drew hn hF ((hR.below l1).below d1) (hC.below d1)
 rw [hq] at hx
 have p1 := hP.below l1
 have hz := p1.cell 4 (by simp)
 simp only [List.getElem_cons_zero, List.getElem_cons_succ] at hz
 have hg1 := (l1.cell (p := ⟨0, 0, none⟩) hgl).trans hg
 have HB : Hid (∀ W, Below W0.drew.heap.size W0.drew W → (W.cell? ⟨P, 4, none⟩ = some (.slice a k.ds.length c) ∧ W.cell? ⟨0, 0, none⟩ = some (er p)) ∧ Below w.heap.size w W) := fun W hb => ⟨⟨(hb.cell (p := ⟨P, 4, none⟩) p1.lt).trans hz, (hb.cell (p := ⟨0, 0, none⟩) (Nat.lt_of_lt_of_le hgl l1.size)).trans hg1⟩, l1.trans (d1.mono l1.size |>.trans (hb.mono l1.size))⟩
 have s0 : W0.drew.cell? ⟨P, 4, none⟩ = some (.slice a k.ds.length c) ∧ W0.drew.cell? ⟨0, 0, none⟩ = some (er p) := ⟨hz, hg1⟩
 have hm0 := AQ.hmf
 clear hR hC hF hP p1 hz hg1 hq
 go_enter Tryz.func81, Tryz.ntmps81
 go_wp2
 clear hW0
 refine wp_region_held (S := fun W => W.cell? ⟨P, 4, none⟩ = some (.slice a k.ds.length c) ∧ W.cell? ⟨0, 0, none⟩ = some (er p)) (by kernel_rfl) ?_
 refine wpAnyH_take (i := 0) (v := .pointer (some ⟨P, 0, none⟩)) rfl (by kernel_rfl) (by kernel_rfl) (by kernel_rfl) (fun _ _ _ h => h) (Or.inl ⟨by rfl, fun w' hS' => by rfl⟩) s0 ?_
 simp only [BZ.z, Act.put, Nat.reduceAdd]
 refine wpAnyH_take (i := 1) (v := .pointer (some ⟨P, 0, none⟩)) rfl (by kernel_rfl) (by kernel_rfl) (by kernel_rfl) (fun _ _ _ h => h) (Or.inl ⟨by rfl, fun w' hS' => by rfl⟩) s0 ?_
 simp only [BZ.z, Act.put, Nat.reduceAdd]
 refine wpAnyH_take (i := 2) (v := .pointer (some ⟨P, 2, none⟩)) rfl (by kernel_rfl) (by kernel_rfl) (by kernel_rfl) (fun _ _ _ h => h) (Or.inl ⟨by rfl, fun w' hS' => by rfl⟩) s0 ?_
 simp only [BZ.z, Act.put, Nat.reduceAdd]
 refine wpAnyH_take (i := 3) (v := .pointer (some ⟨P, 4, none⟩)) rfl (by kernel_rfl) (by kernel_rfl) (by kernel_rfl) (fun _ _ _ h => h) (Or.inl ⟨by rfl, fun w' hS' => by rfl⟩) s0 ?_
 simp only [BZ.z, Act.put, Nat.reduceAdd]
 refine wpAnyH_take (i := 4) (v := .slice a k.ds.length c) rfl (by kernel_rfl) (by kernel_rfl) (by kernel_rfl) (fun _ _ _ h => h) (Or.inl ⟨by rfl, fun w' hS' => ?_⟩) s0 ?_
 ·obtain ⟨n1, n2⟩ := hS'
  go_simp
 simp only [BZ.z, Act.put, Nat.reduceAdd]
 refine wpAnyH_take (i := 5) (v := .func (.func 154) #[] #[.pointer (some ⟨w.heap.size, 0, none⟩), .pointer (some ⟨w.heap.size + 1, 0, none⟩), .pointer (some ⟨w.heap.size + 1 + 1, 0, none⟩)]) rfl (by kernel_rfl) (by kernel_rfl) (by kernel_rfl) (fun _ _ _ h => h) (Or.inl ⟨by rfl, fun w' hS' => ?_⟩) s0 ?_
 ·go_simp
 simp only [BZ.z, Act.put, Nat.reduceAdd]
 refine wpAnyH_take (i := 7) (v := er p) rfl (by kernel_rfl) (by kernel_rfl) (by kernel_rfl) (fun _ _ _ h => h) (Or.inl ⟨by rfl, fun w' hS' => ?_⟩) s0 ?_
 ·obtain ⟨n1, n2⟩ := hS'
  go_simp
 simp only [BZ.z, Act.put, Nat.reduceAdd]
 refine Y0.one_call2w (i := 6) (by kernel_rfl) rfl (by rfl) (.tmp 12) (.tmp 13) _ rfl (.slice a k.ds.length c) (.func (.func 154) #[] #[.pointer (some ⟨w.heap.size, 0, none⟩), .pointer (some ⟨w.heap.size + 1, 0, none⟩), .pointer (some ⟨w.heap.size + 1 + 1, 0, none⟩)]) (by rfl) (by rfl) (enters_of Tryz.func153 (by kernel_rfl) rfl) (hx.mono ?_)
 rintro e w2 ⟨rfl, b2⟩
 obtain ⟨s2, l2⟩ := HB.out _ b2
 refine ⟨_, rfl, s2, ?_⟩
 simp only [BZ.z, Act.put, Nat.reduceAdd]
 refine one_panic2 (i := 8) (by kernel_rfl) rfl (by rfl) (.tmp 14) (.tmp 15) _ rfl (.bool false) (er p) (by rfl) (by rfl) (enters_of Tryz.func152 (by kernel_rfl) rfl) ((check_not p _).mono ?_)
 rintro e w3 ⟨rfl, hw3⟩
 subst w3
 exact ⟨_, rfl, rfl, rfl, l2⟩
end Go.Proofs.YtljnkicgahepfaaGreatDoor.WN
