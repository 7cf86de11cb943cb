/- Joined texts: plain facts and contracts. -/
import Derived.Test.YtljnkicgahepfaaGreatDoorJqZM
import Derived.Test.YtljnkicgahepfaaGreatDoorJqT
import Derived.Test.YtljnkicgahepfaaGreatDoorJqA
import Derived.Test.YtljnkicgahepfaaGreatDoorJqK
import Derived.Test.YtljnkicgahepfaaGreatDoorJqZK
import Derived.Test.YtljnkicgahepfaaGreatDoorJqX
set_option linter.unusedVariables false
set_option linter.unusedSimpArgs false
set_option maxRecDepth 10000
namespace Go.Proofs.YtljnkicgahepfaaGreatDoor.PF
open Go.ChangeShapes Go.WideShapes Go.ChangeAt Go.RowKit
open N0 (Ln)
open N1 (Sl val vals Lists LB lb_new)
open Z0 (dat Row Lns Kp kval kvals dz sz0 At)
open Z2 (LAt at_of)
open I2 (ints)
open LF (OwnIn)
open LH (HL)
open KC (flat flat_len flat_at flat_one)
open KD (kob zk Small)
theorem flat_snoc (d : Ln) : ∀ (xs : List Ln) (ss : Nat → Sl), flat (xs ++ [d]) ss = flat xs ss ++ vals d (ss xs.length)
 | [], ss => by simp [flat]
 | x :: r, ss => by
  rw [List.cons_append, flat, flat, flat_snoc d r, List.append_assoc]
  rfl
theorem flat_congr : ∀ (xs : List Ln) (ss tt : Nat → Sl), (∀ i, i < xs.length → ss i = tt i) → flat xs ss = flat xs tt
 | [], ss, tt, _ => rfl
 | x :: r, ss, tt, h => by
  rw [flat, flat, h 0 (by simp), flat_congr r _ (fun j => tt (j + 1)) (fun i hi => h (i + 1) (by simpa using hi))]
def more (ss : Nat → Sl) (j : Nat) (s : Sl) : Nat → Sl := fun i => if i < j then ss i else s
theorem flat_more {ds : List Ln} {j : Nat} (hj : j < ds.length) (ss : Nat → Sl) (s : Sl) : flat (ds.take (j + 1)) (more ss j s) = flat (ds.take j) ss ++ vals (dat ds j) s := by
 have e : ds.take (j + 1) = ds.take j ++ [dat ds j] := by
  rw [List.take_add_one, List.getElem?_eq_getElem hj]
  simp [dat, hj]
 have hl : (ds.take j).length = j := by simp; omega
 rw [e, flat_snoc, hl, flat_congr (ds.take j) (more ss j s) ss (fun i hi => by rw [hl] at hi; simp [more, hi])]
 simp [more]
def RX (base : Nat) (g : Option Nat) (W : World) (a : Option Addr) (zs : List Int) : Prop := zs = [] ∨ ∃ b, a = some ⟨b, 0, none⟩ ∧ base ≤ b ∧ g ≠ some b ∧ K0.Blk b (ints zs) W
variable {base : Nat} {g g' : Option Nat} {w W W' : World} {a : Option Addr} {zs : List Int} {d : Ln} {s : Sl}
theorem RX.below (h : RX base g W a zs) (hb : Below W.heap.size W W') : RX base g W' a zs := h.imp id fun ⟨b, e, h1, h2, h3⟩ => ⟨b, e, h1, h2, h3.below hb⟩
theorem RX.set (h : RX base g W a zs) {B : Nat} (hB : B < base) (j : Nat) (v : Value) : RX base g (W.setCell ⟨B, j, none⟩ v) a zs := h.imp id fun ⟨b, e, h1, h2, h3⟩ => ⟨b, e, h1, h2, h3.setOther (by omega) j v⟩
theorem RX.grown (h : RX base g W a zs) (hg : W.grownBy W' g) (h' : ∀ x, g' = some x → g = some x ∨ x = W.heap.size) : RX base g' W' a zs :=
 h.imp id fun ⟨b, e, h1, h2, h3⟩ => ⟨b, e, h1, fun q => by
  rcases h' b q with h' | h'
  ·exact h2 h'
  ·have := h3.lt
   omega, D7.blk_grown h3 hg h2⟩
theorem RX.row (h : RX base g W a zs) : P0.Row W a zs := by
 rcases h with h | ⟨b, rfl, _, _, h⟩
 ·exact Or.inl h
 ·exact I2.row_of_blk h
theorem rx_in {lo hi : Nat} (h : OwnIn lo hi W a zs) (hb : base ≤ lo) (hg : ∀ x, g = some x → x < lo) : RX base g W a zs :=
 h.imp id fun ⟨b, e, h1, h2, h3⟩ => ⟨b, e, by omega, fun q => by have := hg b q; omega, h3⟩
structure LX (base : Nat) (g : Option Nat) (d : Ln) (s : Sl) (W : World) : Prop where
 r1 : RX base g W s.a1 d.pg
 r2 : RX base g W s.a2 d.po
 r3 : RX base g W s.a3 d.fr
structure LQ (base : Nat) (ds : List Ln) (j : Nat) (ss : Nat → Sl) (a : Option Addr) (cap : Nat) (W : World) : Prop where
 own : W.ownsRow base 66 8 (.slice a j cap) j (flat (ds.take j) ss)
 sub : ∀ i, i < j → LX base (Value.slice a j cap).ownBlock (dat ds i) (ss i) W
variable {ds : List Ln} {j cap : Nat} {ss : Nat → Sl}
theorem LQ.below (h : LQ base ds j ss a cap W) (hb : Below W.heap.size W W') : LQ base ds j ss a cap W' := ⟨F0.owns_below h.own hb, fun i hi => ⟨(h.sub i hi).r1.below hb, (h.sub i hi).r2.below hb, (h.sub i hi).r3.below hb⟩⟩
theorem LQ.set (h : LQ base ds j ss a cap W) {B : Nat} (hB : B < base) (k : Nat) (v : Value) : LQ base ds j ss a cap (W.setCell ⟨B, k, none⟩ v) :=
 ⟨ownsRow_setCell_below h.own (a := ⟨B, k, none⟩) hB v, fun i hi => ⟨(h.sub i hi).r1.set hB k v, (h.sub i hi).r2.set hB k v, (h.sub i hi).r3.set hB k v⟩⟩
theorem lq_nil (ds : List Ln) (ss : Nat → Sl) (W : World) : LQ base ds 0 ss none 0 W := ⟨⟨by simp [flat], Or.inl ⟨rfl, rfl⟩⟩, fun i hi => by omega⟩
theorem LQ.lt (h : LQ base ds j ss a cap W) : ∀ x, (Value.slice a j cap).ownBlock = some x → x < W.heap.size := fun x hx => (h.own.lt x hx).2
theorem LQ.lns (h : LQ base ds ds.length ss a cap W) : Lns W a ds ss := by
 refine ⟨?_, fun i hi => ⟨(h.sub i hi).r1.row, (h.sub i hi).r2.row, (h.sub i hi).r3.row⟩⟩
 have ho := h.own
 rw [List.take_length] at ho
 rcases ho.2 with ⟨_, h0⟩ | ⟨g, c, cur, hv, _⟩
 ·exact Or.inl (List.eq_nil_of_length_eq_zero h0)
 ·simp at hv
  obtain ⟨rfl, rfl⟩ := hv
  obtain ⟨_, hk⟩ := KC.blk_of_owns ho (flat_len ds ss)
  exact Or.inr ⟨g, 0, rfl, hk.lt, fun i hi => by rw [Nat.zero_add]; exact at_of hk (flat_at ds ss i hi)⟩
theorem LQ.step {lo m1 m2 hi cap' : Nat} {a' : Option Addr} (h : LQ base ds j ss a cap W) (hl : HL lo m1 m2 hi s (dat ds j).pg (dat ds j).po (dat ds j).fr W) (hb : base ≤ lo) (hg : ∀ x, (Value.slice a j cap).ownBlock = some x → x < lo) (hj : j < ds.length)
  (ho : W'.ownsRow base 66 8 (.slice a' (j + 1) cap') (j + 1) (flat (ds.take j) ss ++ vals (dat ds j) s)) (hw : W.grownBy W' (Value.slice a j cap).ownBlock) (hx : ∀ x, (Value.slice a' (j + 1) cap').ownBlock = some x → (Value.slice a j cap).ownBlock = some x ∨ x = W.heap.size) :
  LQ base ds (j + 1) (more ss j s) a' cap' W' := by
 refine ⟨by rw [flat_more hj]; exact ho, fun i hi => ?_⟩
 by_cases hij : i < j
 ·have e : more ss j s i = ss i := if_pos hij
  rw [e]
  have q := h.sub i hij
  exact ⟨q.r1.grown hw hx, q.r2.grown hw hx, q.r3.grown hw hx⟩
 ·obtain rfl : i = j := by omega
  have e : more ss i s i = s := if_neg hij
  rw [e]
  exact ⟨(rx_in hl.p1 hb hg).grown hw hx, (rx_in hl.p2 (by have := hl.le; omega) (fun x q => by have := hg x q; have := hl.le; omega)).grown hw hx, (rx_in hl.p3 (by have := hl.le; omega) (fun x q => by have := hg x q; have := hl.le; omega)).grown hw hx⟩
end Go.Proofs.YtljnkicgahepfaaGreatDoor.PF
namespace Go.Proofs.YtljnkicgahepfaaGreatDoor.PG
open Go.ChangeShapes Go.WideShapes Go.ChangeAt Go.RowKit
open N0 (Ln)
open N1 (Sl val vals Lists LB lb_new)
open Z0 (dat Row Lns Kp kval kvals dz sz0 At)
open LH (HL)
open KC (flat flat_len flat_at flat_one)
open KD (kob zk Small)
open PF (LQ lq_nil more)
section
open AT (wpAnyT)
variable {P : Program} {ops : Array Oper} {Q : Exit → Act → World → Prop} {md : Region.Mode} {S : World → Prop} {n : Nat}
theorem mem1 {a : Act} {w w' : World} {u : Value} {i : Nat} {o : Oper} {listed : Array Bool} {fuel : Nat} (hr : Region.ready md ops listed = [i]) (ho : ops[i]? = some o) (hw : Region.wanted o (yielded ops a.tmps) = true)
  (he : (execOp a.eval o).run P w = .ok (.value u) w') (hS : S w') (h : wpAnyT P md ops Q S n fuel (listed.setIfInBounds i true) (a.put o.dst u) w') : wpAnyT P md ops Q S n (fuel + 1) listed a w := by
 refine AT.all hr (by simp) ?_
 intro j hj
 obtain rfl : j = i := by simpa using hj
 unfold wpOp
 rw [ho]
 refine Y0.of_if hw (.inl ?_)
 unfold Oper.wp
 rw [he]
 exact ⟨fun _ => hS, h⟩
theorem app1 {a : Act} {w : World} {i : Nat} {o : Oper} {listed : Array Bool} {fuel : Nat} (hr : Region.ready md ops listed = [i]) (ho : ops[i]? = some o) (hw : Region.wanted o (yielded ops a.tmps) = true)
  (h : Oper.wp P o a w (fun a' w' => (i < n → S w') ∧ wpAnyT P md ops Q S n fuel (listed.setIfInBounds i true) a' w') Q) : wpAnyT P md ops Q S n (fuel + 1) listed a w := by
 refine AT.all hr (by simp) ?_
 intro j hj
 obtain rfl : j = i := by simpa using hj
 unfold wpOp
 rw [ho]
 exact Y0.of_if hw (.inl h)
end
theorem vals_one (d : Ln) (s : Sl) : ∀ u ∈ vals d s, u.oneCell' = true := by
 intro u h
 simp at h
 rcases h with rfl | rfl | rfl | rfl | rfl | rfl | rfl | rfl <;> rfl
structure Cb (w : World) (k : Kp) (a : Option Addr) (c j : Nat) (ab : Option Addr) (cc : Nat) (W : World) : Prop where
 box : K0.Blk w.heap.size (kvals k a c) W
 ans : K0.Blk (w.heap.size + 1) Z3.zero4 W
 cpy : K0.Blk (w.heap.size + 1 + 1) [.string k.mem, .string k.dur, .slice ab j cc, .int .i64 k.ck] W
variable {w W W' : World} {k : Kp} {a ab : Option Addr} {c j cc : Nat} {ss : Nat → Sl} {row : Option Nat}
theorem Cb.below (h : Cb w k a c j ab cc W) (hb : Below W.heap.size W W') : Cb w k a c j ab cc W' := ⟨h.box.below hb, h.ans.below hb, h.cpy.below hb⟩
theorem Cb.set (h : Cb w k a c j ab cc W) (ab' : Option Addr) (j' cc' : Nat) : Cb w k a c j' ab' cc' (W.setCell ⟨w.heap.size + 1 + 1, 2, none⟩ (.slice ab' j' cc')) :=
 ⟨h.box.setOther (by omega) _ _, h.ans.setOther (by omega) _ _, h.cpy.set 2 _⟩
def Ct (w : World) (k : Kp) (a : Option Addr) (c j : Nat) (ss : Nat → Sl) (ab : Option Addr) (cc : Nat) (W : World) : Prop := Cb w k a c j ab cc W ∧ LQ (w.heap.size + 3) k.ds j ss ab cc W ∧ Below w.heap.size w W
theorem Ct.below (h : Ct w k a c j ss ab cc W) (hb : Below W.heap.size W W') : Ct w k a c j ss ab cc W' := ⟨h.1.below hb, h.2.1.below hb, h.2.2.trans (hb.mono h.2.2.size)⟩
theorem Ct.lt (h : Ct w k a c j ss ab cc W) : ∀ x, (Value.slice ab j cc).ownBlock = some x → x < W.heap.size := h.2.1.lt
theorem Ct.grown (h : Ct w k a c j ss ab cc W) (hg : W.grownBy W' (Value.slice ab j cc).ownBlock) : Cb w k a c j ab cc W' ∧ Below w.heap.size w W' := by
 have hn : ∀ x, (Value.slice ab j cc).ownBlock = some x → w.heap.size + 3 ≤ x := fun x hx => (h.2.1.own.lt x hx).1
 exact ⟨⟨D7.blk_grown h.1.box hg (fun q => by have := hn _ q; omega), D7.blk_grown h.1.ans hg (fun q => by have := hn _ q; omega), D7.blk_grown h.1.cpy hg (fun q => by have := hn _ q; omega)⟩, F0.below_grown h.2.2 hg (fun g q => by have := hn _ q; omega) h.2.2.size⟩
abbrev cob (k : Kp) : Obj := .cells #[.string k.mem, .string k.dur, .slice none 0 0, .int .i64 k.ck] 28
theorem ct_new (w : World) (k : Kp) (a : Option Addr) (c : Nat) (ss : Nat → Sl) : Ct w k a c 0 ss none 0 (((w.alloc (kob k a c)).alloc zk).alloc (cob k)) :=
 ⟨⟨((K0.blk_new (kvals k a c) w 28).alloc _).alloc _, (K0.blk_at Z3.zero4 _ 28 (by simp)).alloc _, K0.blk_at [.string k.mem, .string k.dur, .slice none 0 0, .int .i64 k.ck] _ 28 (by simp)⟩, lq_nil _ _ _, (((Below.refl _ _).alloc (Nat.le_refl _) _).alloc (by simp) _).alloc (by simp; omega) _⟩
def SA (k : Kp) (w : World) (e : Ending) (w' : World) : Prop := ∃ a' c' ss, e = .returned (kval k a' c') ∧ LQ (w.heap.size + 3) k.ds k.ds.length ss a' c' w' ∧ Below w.heap.size w w'
set_option maxHeartbeats 8000000 in
theorem l06Copy (k : Kp) (a : Option Addr) (c : Nat) (s0 : Nat → Sl) (w : World) (hn : k.ds.length ≤ 1048576) (hz : Small k.ds) (hR : Lns w a k.ds s0) :
  Calls Tryz.prog 38 #[kval k a c] w (SA k w) := by
 have t0 := ct_new w k a c s0
 have HL : Hid (∀ W, Below w.heap.size w W → Lns W a k.ds s0) := fun W hb => hR.below hb
 have HZ : Hid (Small k.ds) := hz
 have b0 := (K0.blk_new (kvals k a c) w 28).alloc zk
 have c0 := b0.c0
 have c1 := b0.c1
 have c3 := b0.c3
 obtain ⟨i0, hi0, hz0, hz1, hz2⟩ := info_parts Z2.infoL
 clear hR hz b0
 unfold SA
 go_enter Tryz.func38, Tryz.ntmps38
 go_wp2
 go_loopw [4] (fun i w' => ∃ (j : Nat) (ss : Nat → Sl) (ab : Option Addr) (cc : Nat), j ≤ k.ds.length ∧ i = .int .i64 j ∧ Ct w k a c j ss ab cc w') (fun i _ => k.ds.length - (intOf i).toNat)
 case atStart => exact ⟨0, s0, none, 0, Nat.zero_le _, rfl, t0⟩
 case round =>
  obtain ⟨j, ss, ab, cc, hj, rfl, tr⟩ := hrel
  clear t0 c0 c1 c3
  have c2 := tr.1.box.c2
  by_cases hlt : j < k.ds.length
  ·have ls := (HL.out _ tr.2.2).sub j hlt
   obtain ⟨q1, q2, q3, q4, q5⟩ := HZ.out j hlt
   obtain ⟨b, off, rfl, hlt0, hc⟩ := (HL.out _ tr.2.2).row.get hlt
   have HJ : Hid (j < k.ds.length) := hlt
   have HA : Hid (∀ W, Below w.heap.size w W → ∃ b' off', some (⟨b, off, none⟩ : Addr) = some ⟨b', off', none⟩ ∧ b' < W.heap.size ∧ ∀ j, j < k.ds.length → At W b' (off' + j * 8) (dat k.ds j) (s0 j)) := fun W hb => (HL.out W hb).row.get HJ.out
   obtain ⟨d, ed⟩ : ∃ d, dat k.ds j = d := ⟨_, rfl⟩
   obtain ⟨s, es⟩ : ∃ s, s0 j = s := ⟨_, rfl⟩
   have HD : Hid (dat k.ds j = d) := ed
   have HS : Hid (∀ W, Cb w k (some ⟨b, off, none⟩) c j ab cc W → Below w.heap.size w W → W.cell? ⟨w.heap.size + 1 + 1, 2, none⟩ = some (.slice ab j cc) ∧ W.cell? ⟨w.heap.size, 2, none⟩ = some (.slice (some ⟨b, off, none⟩) k.ds.length c) ∧ W.cell? ⟨b, off + j * 8, none⟩ = some (.int .i64 d.ino) ∧ W.cell? ⟨b, off + j * 8 + 1, none⟩ = some (.int .i64 d.cl) ∧ W.cell? ⟨b, off + j * 8 + 2, none⟩ = some (.int .i64 d.un) ∧ W.cell? ⟨b, off + j * 8 + 3, none⟩ = some (.string d.rc) ∧ W.cell? ⟨b, off + j * 8 + 4, none⟩ = some (.slice s.a1 d.pg.length s.c1) ∧ W.cell? ⟨b, off + j * 8 + 5, none⟩ = some (.string d.sav) ∧ W.cell? ⟨b, off + j * 8 + 6, none⟩ = some (.slice s.a2 d.po.length s.c2) ∧ W.cell? ⟨b, off + j * 8 + 7, none⟩ = some (.slice s.a3 d.fr.length s.c3)) := fun W h hb => by
    obtain ⟨b', off', e', _, h'⟩ := HA.out W hb
    simp at e'
    obtain ⟨rfl, rfl⟩ := e'
    obtain ⟨y0, y1, y2, y3, y4, y5, y6, y7⟩ := h' j HJ.out
    rw [ed] at y0 y1 y2 y3 y4 y5 y6 y7
    rw [es] at y4 y6 y7
    exact ⟨h.cpy.c2, h.box.c2, y0, y1, y2, y3, y4, y5, y6, y7⟩
   rw [ed, es] at ls
   rw [ed] at q1 q2 q3 q4 q5
   have t4 := tr.below ((Below.refl _ wr).drew)
   have hcp : Hid (Calls Tryz.prog 104 #[N1.val d s] wr.drew (LI.Ans d wr.drew)) := LI.spec_copy d s wr.drew (by omega) (by omega) (by omega) (ls.below ((Below.refl _ wr).drew))
   have s4 := HS.out _ t4.1 t4.2.2
   have x1 : (0 : Int) ≤ (j : Int) := by omega
   have x2 : (j : Int) < (k.ds.length : Int) := by omega
   have z4 : w.heap.size + 3 ≤ wr.drew.heap.size := t4.1.cpy.lt
   clear ed es hc ls HA
   go_wp2
   refine AT.region (n := 11) (S := fun W => W.cell? ⟨w.heap.size + 1 + 1, 2, none⟩ = some (.slice ab j cc) ∧ W.cell? ⟨w.heap.size, 2, none⟩ = some (.slice (some ⟨b, off, none⟩) k.ds.length c) ∧ W.cell? ⟨b, off + j * 8, none⟩ = some (.int .i64 d.ino) ∧ W.cell? ⟨b, off + j * 8 + 1, none⟩ = some (.int .i64 d.cl) ∧ W.cell? ⟨b, off + j * 8 + 2, none⟩ = some (.int .i64 d.un) ∧ W.cell? ⟨b, off + j * 8 + 3, none⟩ = some (.string d.rc) ∧ W.cell? ⟨b, off + j * 8 + 4, none⟩ = some (.slice s.a1 d.pg.length s.c1) ∧ W.cell? ⟨b, off + j * 8 + 5, none⟩ = some (.string d.sav) ∧ W.cell? ⟨b, off + j * 8 + 6, none⟩ = some (.slice s.a2 d.po.length s.c2) ∧ W.cell? ⟨b, off + j * 8 + 7, none⟩ = some (.slice s.a3 d.fr.length s.c3)) (by kernel_rfl) ?_
   refine AT.take (i := 0) (v := .pointer (some ⟨w.heap.size + 1 + 1, 2, none⟩)) rfl (by decide) (by kernel_rfl) (by kernel_rfl) (by kernel_rfl) (by kernel_rfl) (fun _ _ _ h => h) (Or.inl ⟨by rfl, fun w' hS' => by rfl⟩) s4 ?_
   simp only [BZ.z, Act.put, Nat.reduceAdd]
   refine AT.take (i := 1) (v := .slice ab j cc) rfl (by decide) (by kernel_rfl) (by kernel_rfl) (by kernel_rfl) (by kernel_rfl) (fun _ _ _ h => h) (Or.inl ⟨by rfl, fun w' hS' => ?_⟩) s4 ?_
   ·obtain ⟨n1, n2, y0, y1, y2, y3, y4, y5, y6, y7⟩ := hS'
    go_simp
   simp only [BZ.z, Act.put, Nat.reduceAdd]
   refine AT.take (i := 2) (v := .pointer (some ⟨w.heap.size, 2, none⟩)) rfl (by decide) (by kernel_rfl) (by kernel_rfl) (by kernel_rfl) (by kernel_rfl) (fun _ _ _ h => h) (Or.inl ⟨by rfl, fun w' hS' => by rfl⟩) s4 ?_
   simp only [BZ.z, Act.put, Nat.reduceAdd]
   refine AT.take (i := 3) (v := .slice (some ⟨b, off, none⟩) k.ds.length c) rfl (by decide) (by kernel_rfl) (by kernel_rfl) (by kernel_rfl) (by kernel_rfl) (fun _ _ _ h => h) (Or.inl ⟨by rfl, fun w' hS' => ?_⟩) s4 ?_
   ·obtain ⟨n1, n2, y0, y1, y2, y3, y4, y5, y6, y7⟩ := hS'
    go_simp
   simp only [BZ.z, Act.put, Nat.reduceAdd]
   refine AT.take (i := 4) (v := .int .i64 j) rfl (by decide) (by kernel_rfl) (by kernel_rfl) (by kernel_rfl) (by kernel_rfl) (fun _ _ _ h => h) (Or.inl ⟨by rfl, fun w' hS' => by rfl⟩) s4 ?_
   simp only [BZ.z, Act.put, Nat.reduceAdd]
   refine AT.take (i := 5) (v := .pointer (some ⟨b, off + j * 8, none⟩)) rfl (by decide) (by kernel_rfl) (by kernel_rfl) (by kernel_rfl) (by kernel_rfl) (fun _ _ _ h => h) (Or.inl ⟨by rfl, fun w' hS' => ?_⟩) s4 ?_
   ·obtain ⟨n1, n2, y0, y1, y2, y3, y4, y5, y6, y7⟩ := hS'
    go_simp
   simp only [BZ.z, Act.put, Nat.reduceAdd]
   refine AT.take (i := 6) (v := .agg #[.int .i64 d.ino, .int .i64 d.cl, .int .i64 d.un, .string d.rc, .slice s.a1 d.pg.length s.c1, .string d.sav, .slice s.a2 d.po.length s.c2, .slice s.a3 d.fr.length s.c3]) rfl (by decide) (by kernel_rfl) (by kernel_rfl) (by kernel_rfl) (by kernel_rfl) (fun _ _ _ h => h) (Or.inl ⟨by rfl, fun w' hS' => ?_⟩) s4 ?_
   ·obtain ⟨n1, n2, y0, y1, y2, y3, y4, y5, y6, y7⟩ := hS'
    go_simp
   simp only [BZ.z, Act.put, Nat.reduceAdd]
   refine AT.call1 (i := 7) (by kernel_rfl) rfl (by rfl) (.tmp 23) _ rfl (N1.val d s) (by rfl) (enters_of Tryz.func104 (by kernel_rfl) rfl) (hcp.out.mono ?_)
   rintro e w5 ⟨s', m1, m2, hi, rfl, hl, hh, b5⟩
   have t5 := t4.below b5
   have s5 := HS.out _ t5.1 t5.2.2
   have z5 := b5.size
   refine ⟨_, rfl, s5, ?_⟩
   simp only [BZ.z, Act.put, Nat.reduceAdd]
   have nb := K0.below_new w5 (.cells #[.int .i64 d.ino, .int .i64 d.cl, .int .i64 d.un, .string d.rc, .slice s'.a1 d.pg.length s'.c1, .string d.sav, .slice s'.a2 d.po.length s'.c2, .slice s'.a3 d.fr.length s'.c3] 66)
   have t6 := t5.below nb
   have s6 := HS.out _ t6.1 t6.2.2
   have hl6 := hl.below nb
   refine mem1 (i := 8) (w' := w5.alloc (.cells #[.int .i64 d.ino, .int .i64 d.cl, .int .i64 d.un, .string d.rc, .slice s'.a1 d.pg.length s'.c1, .string d.sav, .slice s'.a2 d.po.length s'.c2, .slice s'.a3 d.fr.length s'.c3] 66)) (u := .slice (some ⟨w5.heap.size, 0, none⟩) 1 1) (by kernel_rfl) rfl (by rfl) ?_ s6 ?_
   ·go_simp
   simp only [BZ.z, Act.put, Nat.reduceAdd]
   refine app1 (i := 9) (by kernel_rfl) rfl (by rfl) ?_
   refine wp_append_lies (w5.alloc (.cells #[.int .i64 d.ino, .int .i64 d.cl, .int .i64 d.un, .string d.rc, .slice s'.a1 d.pg.length s'.c1, .string d.sav, .slice s'.a2 d.po.length s'.c2, .slice s'.a3 d.fr.length s'.c3] 66)) (.tmp 18) (.tmp 25) 26 rfl (w.heap.size + 3) 66 i0 (.agg Z2.zero8) 8 128 Tryz.underlying26 hi0 hz0 hz1 hz2 rfl (by omega) (.slice ab j cc) j _ (by rfl) t6.2.1.own ⟨w5.heap.size, 0, none⟩ 1 1 (N1.vals d s') (by rfl) rfl (World.news_of_block (heap_alloc_new w5 _)) (vals_one d s') (by omega) (by unfold maxLen; omega) (by omega) (by simp; omega) _ rfl ?_
   intro g' cap' w7 ho' hg' hx' hlt'
   have t7 := t6.grown hg'
   have s7 := HS.out _ t7.1 t7.2
   have lq7 := LQ.step t6.2.1 (by rw [HD.out]; exact hl6) (by omega) t4.lt HJ.out (by rw [HD.out]; exact ho') hg' (fun x hx => by simp [Value.ownBlock] at hx; subst hx; exact hx')
   refine ⟨fun _ => s7, ?_⟩
   simp only [BZ.z, Act.put, Nat.reduceAdd]
   refine AT.take (i := 10) (v := .pointer (some ⟨w.heap.size + 1 + 1, 2, none⟩)) rfl (by decide) (by kernel_rfl) (by kernel_rfl) (by kernel_rfl) (by kernel_rfl) (fun _ _ _ h => h) (Or.inl ⟨by rfl, fun w' hS' => by rfl⟩) s7 ?_
   simp only [BZ.z, Act.put, Nat.reduceAdd]
   have f7 := t7.1.cpy.free 2 (by simp)
   obtain ⟨n1, n2, y0, y1, y2, y3, y4, y5, y6, y7⟩ := s7
   refine AT.store (i := 11) (w' := w7.setCell ⟨w.heap.size + 1 + 1, 2, none⟩ (.slice (some ⟨g', 0, none⟩) (j + 1) cap')) (by kernel_rfl) rfl (by decide) (by rfl) ?_ ?_
   ·go_simp
   simp only [BZ.z, Act.put, Nat.reduceAdd]
   refine AT.done (by kernel_rfl) ?_ _
   have t8 := t7.1.set (some ⟨g', 0, none⟩) (j + 1) cap'
   have l8 := lq7.set (B := w.heap.size + 1 + 1) (by omega) 2 (.slice (some ⟨g', 0, none⟩) (j + 1) cap')
   have m8 := t7.2.setCell (p := ⟨w.heap.size + 1 + 1, 2, none⟩) (by show w.heap.size ≤ w.heap.size + 1 + 1; omega) (.slice (some ⟨g', 0, none⟩) (j + 1) cap')
   go_wp2
   go_roundw
   case rel => exact ⟨j + 1, more ss j s', some ⟨g', 0, none⟩, cap', HJ.out, by go_num, t8, l8, m8⟩
   case measure => simp [intOf]; omega
  ·obtain rfl : j = k.ds.length := by omega
   have d0 := tr.1.cpy.c0
   have d1 := tr.1.cpy.c1
   have d2 := tr.1.cpy.c2
   have d3 := tr.1.cpy.c3
   have y0 := tr.1.ans.c0
   have y1 := tr.1.ans.c1
   have y2 := tr.1.ans.c2
   have y3 := tr.1.ans.c3
   have g0 := tr.1.ans.f0
   have g1 := tr.1.ans.f1
   have g2 := tr.1.ans.f2
   have g3 := tr.1.ans.f3
   have qq := tr.1.ans.put4 (.string k.mem) (.string k.dur) (.slice ab k.ds.length cc) (.int .i64 k.ck)
   have ll := (((tr.2.1.set (B := w.heap.size + 1) (by omega) 0 (.string k.mem)).set (B := w.heap.size + 1) (by omega) 1 (.string k.dur)).set (B := w.heap.size + 1) (by omega) 2 (.slice ab k.ds.length cc)).set (B := w.heap.size + 1) (by omega) 3 (.int .i64 k.ck)
   have mm := (((tr.2.2.setCell (p := ⟨w.heap.size + 1, 0, none⟩) (Nat.le_succ _) (.string k.mem)).setCell (p := ⟨w.heap.size + 1, 1, none⟩) (Nat.le_succ _) (.string k.dur)).setCell (p := ⟨w.heap.size + 1, 2, none⟩) (Nat.le_succ _) (.slice ab k.ds.length cc)).setCell (p := ⟨w.heap.size + 1, 3, none⟩) (Nat.le_succ _) (.int .i64 k.ck)
   have v0 := qq.c0
   have v1 := qq.c1
   have v2 := qq.c2
   have v3 := qq.c3
   clear HL HZ
   go_wp2
   exact bodyPost_ret (v := kval k ab cc) (by simp [results, Tryz.results38, go_sem, v0, v1, v2, v3]) rfl ⟨ab, cc, ss, rfl, ll, mm⟩
end Go.Proofs.YtljnkicgahepfaaGreatDoor.PG
namespace Go.Proofs.YtljnkicgahepfaaGreatDoor.W1
open Go.ChangeShapes Go.WideShapes Go.ChangeAt Go.RowKit
open X0 (row mix)
open W0 (has sel pick pw pMem pDur)
set_option maxHeartbeats 4000000 in
theorem spec_Power (a b : ByteArray) (ka : Option Addr) (kc : Nat) (kept : List Int) (w : World) (ha : a.size ≤ 281474976710656) (hb : b.size ≤ 281474976710656) (hn : kept.length ≤ 1048576) (hR : P0.Row w ka kept) :
  Calls Tryz.prog 39 #[.agg #[.string a, .string b], .slice ka kept.length kc] w fun e w' => e = .returned (.agg #[.string (pMem a b kept), .string (pDur a b kept)]) ∧ Below w.heap.size w w' := by
 have hF := D2.fr_new a b w
 by_cases hok : D1.ok a b = true
 ·obtain ⟨ha7, hb7⟩ := D1.ok_true hok
  have eM : pMem a b kept = pw a b kept := if_pos hok
  have eD : pDur a b kept = pw a b kept := if_pos hok
  rw [eM, eD]
  have hlb : b.data.toList.length = 768 := by rw [← Lib.size_eq]; exact hb7
  have hd : Y0.dirty a b = Y0.drt a b 96 := if_pos hok
  have HG : Hid (∀ i, i < (Y0.drt a b 96).length → ∃ q : Nat, q < 96 ∧ (Y0.drt a b 96).getD i 0 = (q : Int)) := fun i hi => W0.drt_get hi
  have HA : Hid (mix a.data.toList b.data.toList (sel (Y0.drt a b 96) kept (Y0.drt a b 96).length) = mix a.data.toList b.data.toList (pick kept)) := W0.sel_all ha7 hb7
  have hzl := Y0.drt_len a b 96
  have sD : Hid (∀ W, Calls Tryz.prog 105 #[.agg #[.string a, .string b]] W fun e w' => ∃ p c, e = .returned (.slice p (Y0.drt a b 96).length c) ∧ J0.Own W.heap.size w' p (Y0.drt a b 96) ∧ Below W.heap.size W w') := fun W => (Y0.spec_Dirty a b W ha hb).mono fun e w' ⟨p, c, he, ho, hc, hb⟩ => by rw [hd] at he ho; exact ⟨p, c, he, ho, hb⟩
  obtain ⟨Z, hZ⟩ : ∃ Z, Y0.drt a b 96 = Z := ⟨_, rfl⟩
  rw [hZ] at HG HA hzl sD
  clear hZ hd
  have HH : Hid (∀ (q : Int) W, Below w.heap.size w W → Calls Tryz.prog 106 #[.slice ka kept.length kc, .int .i64 q] W fun e w' => e = .returned (.bool (has kept q)) ∧ W = w') := fun q W hW => (W0.spec_has ka kc kept q W hn (hR.below hW)).mono fun _ _ h => ⟨h.1, h.2.symm⟩
  go_enter Tryz.func39, Tryz.ntmps39
  go_wp2_with (go_at_call 105; refine (sD.out _).mono ?_; rintro e w1 ⟨p, c, rfl, o1, b1⟩; have h1 := hF.below b1)
  have o2 : J0.Own (w.heap.size + 2) w1 p Z := by simpa using o1
  go_loopw [6] (fun t w' => ∃ k : Nat, k ≤ Z.length ∧ t = .int .i64 k ∧ D2.Fr w.heap.size w a ⟨(mix a.data.toList b.data.toList (sel Z kept k)).toArray⟩ w' ∧ J0.Own (w.heap.size + 2) w' p Z) (fun t _ => Z.length - (intOf t).toNat)
  case atStart =>
   refine ⟨0, Nat.zero_le _, rfl, ?_, o2⟩
   rw [X0.mix_none _ _ hlb (sel Z kept 0) (fun k _ => rfl), show (⟨b.data.toList.toArray⟩ : ByteArray) = b from Lib.mk_data b]
   exact h1
  case round =>
   obtain ⟨k, hk, rfl, hFr, ho⟩ := hrel
   clear h1 o1 o2 b1 hF sD
   have z0 := hFr.c0
   have z1 := hFr.c1
   by_cases hlt : k < Z.length
   ·obtain ⟨q, hq96, hq⟩ := HG.out k hlt
    obtain ⟨g, off, hp, hgl, hc⟩ := ho.row.get hlt
    have x1 := hc k hlt
    rw [hq] at x1
    have e1 : (0 : Int) ≤ (k : Int) := by omega
    have e2 : (k : Int) < (Z.length : Int) := by omega
    have hbel := hFr.bel
    have hbs := F3.fd_size a.data.toList b.data.toList (sel Z kept k)
    clear hc HG HA
    by_cases hh : has kept (q : Int) = true
    ·have HM : Hid (B5.laid ⟨(mix a.data.toList b.data.toList (sel Z kept k)).toArray⟩ ((q : Int) * 8) (B2.part a ((q : Int) * 8) 8) = ⟨(mix a.data.toList b.data.toList (sel Z kept (k + 1))).toArray⟩) := X0.laid_row a b.data.toList (sel Z kept k) (sel Z kept (k + 1)) q ha7 hq96 (W0.sel_other hlt hq) (W0.sel_yes hlt hq hh)
     have hHq := HH.out (q : Int)
     rw [hh] at hHq
     have HQ : Hid (∀ W, Below w.heap.size w W → Calls Tryz.prog 106 #[.slice ka kept.length kc, .int .i64 (q : Int)] W fun e w' => e = .returned (.bool true) ∧ W = w') := hHq
     obtain ⟨bk, hbk⟩ : ∃ bk : ByteArray, (⟨(mix a.data.toList b.data.toList (sel Z kept k)).toArray⟩ : ByteArray) = bk := ⟨_, rfl⟩
     rw [hbk] at hFr z1 HM hbs
     clear hbk hHq HH hq hh
     subst hp
     have hFd := hFr.drew
     have hod := ho.drew
     go_wp2_with (go_at_call 106; refine (HQ.out _ hbel).mono ?_; rintro e w2 ⟨rfl, rfl⟩)
     go_region_with (go_at_call 107; refine (F2.l02Line a bk q _ ha7 hbs hq96).mono ?_; rintro e w3 ⟨rfl, b3⟩; have h4 := hFd.below b3; have o4 := hod.below b3; have v0 := h4.c0; have v1 := h4.c1; have v2 := h4.g0; have v3 := h4.g1)
     all_goals
      have h5 := F2.set1 (h4.set0 a) (B5.laid bk ((q : Int) * 8) (B2.part a ((q : Int) * 8) 8))
      have o5 := (o4.set (B := w.heap.size) (by omega) 0 (.string a)).set (B := w.heap.size) (by omega) 1 (.string (B5.laid bk ((q : Int) * 8) (B2.part a ((q : Int) * 8) 8)))
      go_wp2
      go_roundw
      case rel => exact ⟨k + 1, by omega, by go_num, by rw [← HM.out]; exact h5, o5⟩
      case measure => simp [intOf]; omega
    ·have hh' : has kept (q : Int) = false := by simpa using hh
     have HM : Hid (mix a.data.toList b.data.toList (sel Z kept k) = mix a.data.toList b.data.toList (sel Z kept (k + 1))) := X0.mix_congr _ _ _ _ (W0.sel_no hlt hq hh')
     have hHq := HH.out (q : Int)
     rw [hh'] at hHq
     have HQ : Hid (∀ W, Below w.heap.size w W → Calls Tryz.prog 106 #[.slice ka kept.length kc, .int .i64 (q : Int)] W fun e w' => e = .returned (.bool false) ∧ W = w') := hHq
     clear hHq HH hq hh hh'
     subst hp
     go_wp2_with (go_at_call 106; refine (HQ.out _ hbel).mono ?_; rintro e w2 ⟨rfl, rfl⟩)
     go_roundw
     case rel => exact ⟨k + 1, by omega, by go_num, by rw [← HM.out]; exact hFr, ho⟩
     case measure => simp [intOf]; omega
   ·obtain rfl : k = Z.length := by omega
    rw [HA.out] at hFr z1
    have hbs := F3.fd_size a.data.toList b.data.toList (pick kept)
    obtain ⟨bk, hbk⟩ : ∃ bk : ByteArray, (⟨(mix a.data.toList b.data.toList (pick kept)).toArray⟩ : ByteArray) = bk := ⟨_, rfl⟩
    rw [hbk] at hFr z1 hbs
    have HB : Hid (pw a b kept = bk) := hbk
    have hok2 : D1.ok a bk = true := D1.ok_mk ha7 hbs
    clear hbk HG HA HH hok eM eD
    go_wp2_with (go_at_call 43; refine (D2.spec_DevOk_fr _ _ ha (by omega) hFr).mono ?_; rintro e w2 ⟨rfl, h2⟩; rw [hok2]; have y0 := h2.c0; have y1 := h2.c1; have y2 := h2.g0; have y3 := h2.g1; have h3 := h2.set0 bk; have u0 := h3.c0; have u1 := h3.c1; have d2 := h3.r0; have d3 := h3.r1; have d4 := h3.f0; have d5 := h3.f1)
    have q := D2.ret2 (a := bk) (b := bk) d2 d3
    exact bodyPost_ret (v := .agg #[.string bk, .string bk]) (by simp [results, Tryz.results39, go_sem, q.1, q.2]) rfl ⟨by rw [HB.out], h3.done _ _⟩
 ·have hok' : D1.ok a b = false := by simpa using hok
  have eM : pMem a b kept = a := if_neg hok
  have eD : pDur a b kept = b := if_neg hok
  rw [eM, eD]
  have hd : Y0.dirty a b = [] := if_neg hok
  have sD : Hid (∀ W, Calls Tryz.prog 105 #[.agg #[.string a, .string b]] W fun e w' => ∃ p c, e = .returned (.slice p 0 c) ∧ Below W.heap.size W w') := fun W => (Y0.spec_Dirty a b W ha hb).mono fun e w' ⟨p, c, he, ho, hc, hb⟩ => by rw [hd] at he; exact ⟨p, c, he, hb⟩
  clear hd eM eD hok
  go_enter Tryz.func39, Tryz.ntmps39
  go_wp2_with (go_at_call 105; refine (sD.out _).mono ?_; rintro e w1 ⟨p, c, rfl, b1⟩; have h1 := hF.below b1)
  go_loopw [6] (fun t w' => t = .int .i64 0 ∧ w' = w1) (fun t _ => 0)
  case atStart => exact ⟨rfl, rfl⟩
  case round =>
   obtain ⟨rfl, rfl⟩ := hrel
   have z0 := h1.c0
   have z1 := h1.c1
   clear hF sD
   go_wp2_with (go_at_call 43; refine (D2.spec_DevOk_fr _ _ ha hb h1).mono ?_; rintro e w2 ⟨rfl, h2⟩; rw [hok']; have y0 := h2.c0; have y1 := h2.c1; have d2 := h2.r0; have d3 := h2.r1; have d4 := h2.f0; have d5 := h2.f1)
   have q := D2.ret2 (a := a) (b := b) d2 d3
   exact bodyPost_ret (v := .agg #[.string a, .string b]) (by simp [results, Tryz.results39, go_sem, q.1, q.2]) rfl ⟨rfl, h2.done _ _⟩
end Go.Proofs.YtljnkicgahepfaaGreatDoor.W1
