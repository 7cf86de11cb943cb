/- Joined texts: plain facts and contracts. -/
import Derived.Test.YtljnkicgahepfaaGreatDoorJlG
import Derived.Test.YtljnkicgahepfaaGreatDoorJlA
import Derived.Test.YtljnkicgahepfaaGreatDoorJlZL
import Derived.Deep.RegionHeld3
import Derived.Test.YtljnkicgahepfaaGreatDoorJlZE
import Derived.Lib.AppendZerosOnto
import Derived.Deep.AppendLies
set_option linter.unusedVariables false
set_option linter.unusedSimpArgs false
set_option maxRecDepth 10000
namespace Go.Proofs.YtljnkicgahepfaaGreatDoor.AT
open Go.RowKit
section
variable {P : Program} {ops : Array Oper} {Q : Exit → Act → World → Prop} {md : Region.Mode} {S : World → Prop} {n : Nat}
def wpAnyT (P : Program) (md : Region.Mode) (ops : Array Oper) (Q : Exit → Act → World → Prop) (S : World → Prop) (n : Nat) : Nat → Array Bool → Act → World → Prop
 | 0, listed, a, w => Region.ready md ops listed = [] ∧ Q .normal a w
 | fuel + 1, listed, a, w =>
  (Region.ready md ops listed = [] → Q .normal a w) ∧
  ∀ i ∈ Region.ready md ops listed, wpOp P ops Q i (fun a' w' => (i < n → S w') ∧ wpAnyT P md ops Q S n fuel (listed.setIfInBounds i true) a' w') a w
theorem wpAny_of_T : ∀ (fuel : Nat) (listed : Array Bool) (a : Act) (w : World), wpAnyT P md ops Q S n fuel listed a w → wpAny P md ops Q fuel listed a w
 | 0, _, _, _, h => h
 | fuel + 1, _, _, _, h => ⟨h.1, fun i hi => wpOp_mono (fun a' w' h' => wpAny_of_T fuel _ a' w' h'.2) (h.2 i hi)⟩
theorem first {i : Nat} {oi : Oper} {v : Value} (hi : ops[i]? = some oi) (hin : i < n) (hlate : ∀ (j : Nat) (o : Oper), ops[j]? = some o → n ≤ j → ∃ e ∈ o.after, Region.binds md e = true ∧ e.on = i) (hsel : ∀ (j : Nat) (o : Oper) cs b, ops[j]? = some o → o.op ≠ .select cs b)
  (hQ : ∀ c a w, Q (.panic c) (a.put oi.dst v) w → Q (.panic c) a w) :
  ∀ (fuel : Nat) (listed : Array Bool) (a : Act) (w : World),
   (∀ j oj, ops[j]? = some oj → j ≠ i → listed.getD j true = false → (∀ e ∈ oj.after, Region.binds md e = true → e.on ≠ i) → oi.apart ops oj = true) →
   i ∈ Region.ready md ops listed → YieldsIf P ops S oi v a → S w →
   wpAnyT P md ops Q S n fuel (listed.setIfInBounds i true) (a.put oi.dst v) w → wpAnyT P md ops Q S n (fuel + 1) listed a w := by
 intro fuel
 induction fuel with
 | zero =>
  intro listed a w _ hr hy hS H
  refine ⟨fun h => (by rw [h] at hr; cases hr), fun j hj => ?_⟩
  by_cases hji : j = i
  ·subst hji; exact hy.wpOp hi hS ⟨fun _ => hS, H⟩
  ·have := ready_mono hj hji
   rw [H.1] at this
   cases this
 | succ fuel ih =>
  intro listed a w hfree hr hy hS H
  refine ⟨fun h => (by rw [h] at hr; cases hr), fun j hj => ?_⟩
  by_cases hji : j = i
  ·subst hji; exact hy.wpOp hi hS ⟨fun _ => hS, H⟩
  ·have h1 := H.2 j (ready_mono hj hji)
   obtain ⟨hjun, oj, hoj, hall⟩ := mem_ready.1 hj
   have hnot : ∀ e ∈ oj.after, Region.binds md e = true → e.on ≠ i := fun e he hb heq => by
    have h1 := hall e he hb
    have h0 := (mem_ready.1 hr).1
    rw [heq] at h1
    rcases Nat.lt_or_ge i listed.size with h' | h'
    ·simp [h'] at h0 h1; rw [h0] at h1; cases h1
    ·simp [Array.getElem?_eq_none h'] at h1
   have hjn : j < n := by
    rcases Nat.lt_or_ge j n with h' | h'
    ·exact h'
    ·obtain ⟨e, he, hb, ho⟩ := hlate j oj hoj h'
     exact absurd ho (hnot e he hb)
   have h2 := wpOp_putIf hoj (hfree j oj hoj hji hjun hnot) (fun cs b => hsel i oi cs b hi) (fun cs b => hsel j oj cs b hoj) hQ hy h1
   have hfree' : ∀ k ok, ops[k]? = some ok → k ≠ i → (listed.setIfInBounds j true).getD k true = false →
     (∀ e ∈ ok.after, Region.binds md e = true → e.on ≠ i) → oi.apart ops ok = true := fun k ok hk hki hun hno => by
    refine hfree k ok hk hki ?_ hno
    by_cases hjk : j = k
    ·subst hjk; exact hjun
    ·rw [getD_set_ne true hjk] at hun; exact hun
   refine wpOp_mono (fun a' w' h3 => ⟨h3.2.1, ih (listed.setIfInBounds j true) a' w' hfree' (ready_mono hr (Ne.symm hji)) h3.1 (h3.2.1 hjn) ?_⟩) h2
   rw [Array.setIfInBounds_comm _ _ hji]
   exact h3.2.2
def lateB (md : Region.Mode) (ops : Array Oper) (n i : Nat) : Bool := (List.range ops.size).all fun j => decide (j < n) || match ops[j]? with
 | some o => o.after.any fun e => Region.binds md e && e.on == i
 | none => true
theorem late_spec {i : Nat} (h : lateB md ops n i = true) (j : Nat) (o : Oper) (hj : ops[j]? = some o) (hn : n ≤ j) : ∃ e ∈ o.after, Region.binds md e = true ∧ e.on = i := by
 simp only [lateB, List.all_eq_true, List.mem_range] at h
 have h1 := h j (Array.getElem?_eq_some_iff.1 hj).1
 simp only [hj, Bool.or_eq_true, decide_eq_true_eq] at h1
 rcases h1 with h1 | h1
 ·omega
 ·obtain ⟨e, he, hb⟩ := Array.any_eq_true'.1 h1
  simp only [Bool.and_eq_true, beq_iff_eq] at hb
  exact ⟨e, he, hb.1, hb.2⟩
theorem take {i : Nat} {oi : Oper} {v : Value} {fuel : Nat} {listed : Array Bool} {a : Act} {w : World} (hi : ops[i]? = some oi) (hin : i < n) (hl : lateB md ops n i = true)
  (hs : Region.noSelect ops = true) (hf : Region.free md ops listed i = true) (hr : (Region.ready md ops listed).contains i = true)
  (hQ : ∀ c a w, Q (.panic c) (a.put oi.dst v) w → Q (.panic c) a w) (hy : YieldsIf P ops S oi v a) (hS : S w)
  (h : wpAnyT P md ops Q S n fuel (listed.setIfInBounds i true) (a.put oi.dst v) w) : wpAnyT P md ops Q S n (fuel + 1) listed a w :=
 first hi hin (late_spec hl) (Region.noSelect_spec hs) hQ fuel listed a w (Region.free_spec hi hf) (by simpa using hr) hy hS h
theorem all {rs : List Nat} {fuel : Nat} {listed : Array Bool} {a : Act} {w : World} (hr : Region.ready md ops listed = rs) (hne : rs ≠ [])
  (h : ∀ i ∈ rs, wpOp P ops Q i (fun a' w' => (i < n → S w') ∧ wpAnyT P md ops Q S n fuel (listed.setIfInBounds i true) a' w') a w) : wpAnyT P md ops Q S n (fuel + 1) listed a w :=
 ⟨fun h0 => absurd (hr ▸ h0) hne, hr ▸ h⟩
theorem done {listed : Array Bool} {a : Act} {w : World} (hr : Region.ready md ops listed = []) (h : Q .normal a w) :
  ∀ fuel, wpAnyT P md ops Q S n fuel listed a w
 | 0 => ⟨hr, h⟩
 | _ + 1 => ⟨fun _ => h, by rw [hr]; simp⟩
theorem region {id : Nat} {a : Act} {w : World} (hm : P.follows .mixedOrders = true)
  (h : wpAnyT P .any ops Q S n ops.size (Array.replicate ops.size false) a w.drew) : (Code.region id ops true).wp P Q a w :=
 wp_region_any hm (wpAny_of_T _ _ _ _ h)
theorem call1 {a : Act} {w : World} {i f : Nat} {o : Oper} {listed : Array Bool} {fuel : Nat} (hr : Region.ready md ops listed = [i]) (ho : ops[i]? = some o) (hw : Region.wanted o (yielded ops a.tmps) = true)
  (x : Operand) (ts : Array TypeId) (hop : o.op = .call { callee := .value (.func f), args := #[x], argTypes := ts }) (v : Value) (hx : a.eval x = v) (eg : ∀ args w, (callFunc f args).run P w = .ok (.enter f args) w)
  (hc : Calls P f #[v] w fun e w' => ∃ u, e = .returned u ∧ S w' ∧ wpAnyT P md ops Q S n fuel (listed.setIfInBounds i true) (a.put o.dst u) w') : wpAnyT P md ops Q S n (fuel + 1) listed a w := by
 refine all hr (by simp) ?_
 intro j hj
 obtain rfl : j = i := by simpa using hj
 unfold wpOp
 rw [ho]
 refine Y0.of_if hw (.inl ?_)
 have he : (execOp a.eval o).run P w = .ok (.enter f #[v]) w := by
  subst hx
  simp [execOp, hop, resolve, go_sem, invoke, eg]
 unfold Oper.wp
 rw [he]
 refine Calls.mono hc ?_
 rintro e w' ⟨u, rfl, hS, h⟩
 exact ⟨fun _ => hS, h⟩
theorem store {a : Act} {w w' : World} {i : Nat} {o : Oper} {listed : Array Bool} {fuel : Nat} (hr : Region.ready md ops listed = [i]) (ho : ops[i]? = some o) (hn : n ≤ i) (hw : Region.wanted o (yielded ops a.tmps) = true)
  (he : (execOp a.eval o).run P w = .ok .skip w') (h : wpAnyT P md ops Q S n fuel (listed.setIfInBounds i true) (a.put o.dst undef) w') : wpAnyT P md ops Q S n (fuel + 1) listed a w := by
 refine all hr (by simp) ?_
 intro j hj
 obtain rfl : j = i := by simpa using hj
 unfold wpOp
 rw [ho]
 refine Y0.of_if hw (.inl ?_)
 unfold Oper.wp
 rw [he]
 exact ⟨fun h' => absurd h' (by omega), h⟩
theorem plain {a : Act} {w w' : World} {u : Value} {i : Nat} {o : Oper} {listed : Array Bool} {fuel : Nat} (hr : Region.ready md ops listed = [i]) (ho : ops[i]? = some o) (hn : n ≤ i) (hw : Region.wanted o (yielded ops a.tmps) = true)
  (he : (execOp a.eval o).run P w = .ok (.value u) w') (h : wpAnyT P md ops Q S n fuel (listed.setIfInBounds i true) (a.put o.dst u) w') : wpAnyT P md ops Q S n (fuel + 1) listed a w := by
 refine all hr (by simp) ?_
 intro j hj
 obtain rfl : j = i := by simpa using hj
 unfold wpOp
 rw [ho]
 refine Y0.of_if hw (.inl ?_)
 unfold Oper.wp
 rw [he]
 exact ⟨fun h' => absurd h' (by omega), h⟩
end
end Go.Proofs.YtljnkicgahepfaaGreatDoor.AT
namespace Go.Proofs.YtljnkicgahepfaaGreatDoor.LI
open Go.ChangeShapes Go.WideShapes Go.ChangeAt Go.RowKit
open N0 (Ln)
open N1 (Sl val vals Lists LB lb_new)
open N4 (put8 other8 bel8)
open LF (Btw OwnIn)
open LH (HL lob)
open J0 (IBuf Own)
variable {w W W' : World} {d : Ln} {s : Sl} {x4 x6 x7 : Value} {b : Nat}
abbrev zo : Obj := .cells #[.int .i64 0, .int .i64 0, .int .i64 0, .string ⟨#[]⟩, .slice none 0 0, .string ⟨#[]⟩, .slice none 0 0, .slice none 0 0] 66
structure Cf (w : World) (d : Ln) (x4 x6 x7 : Value) (W : World) : Prop where
 box : K0.Blk w.heap.size [.int .i64 d.ino, .int .i64 d.cl, .int .i64 d.un, .string d.rc, x4, .string d.sav, x6, x7] W
 res : K0.Blk (w.heap.size + 1) N4.zero8 W
 bel : Below w.heap.size w W
theorem Cf.keep (h : Cf w d x4 x6 x7 W) (hb : Below b W W') (hB : w.heap.size + 2 ≤ b) : Cf w d x4 x6 x7 W' :=
 ⟨J0.blk_keep h.box hb (by omega), J0.blk_keep h.res hb (by omega), h.bel.trans (hb.mono (by omega))⟩
theorem Cf.below (h : Cf w d x4 x6 x7 W) (hb : Below W.heap.size W W') : Cf w d x4 x6 x7 W' := ⟨h.box.below hb, h.res.below hb, h.bel.trans (hb.mono h.bel.size)⟩
theorem Cf.drew (h : Cf w d x4 x6 x7 W) : Cf w d x4 x6 x7 W.drew := h.below ((Below.refl _ _).drew)
theorem Cf.lt (h : Cf w d x4 x6 x7 W) : w.heap.size + 2 ≤ W.heap.size := h.res.lt
theorem Cf.set4 (h : Cf w d x4 x6 x7 W) (v : Value) : Cf w d v x6 x7 (W.setCell ⟨w.heap.size, 4, none⟩ v) := ⟨h.box.set 4 v, h.res.setOther (by omega) 4 v, h.bel.setCell (p := ⟨w.heap.size, 4, none⟩) (Nat.le_refl _) v⟩
theorem Cf.set6 (h : Cf w d x4 x6 x7 W) (v : Value) : Cf w d x4 v x7 (W.setCell ⟨w.heap.size, 6, none⟩ v) := ⟨h.box.set 6 v, h.res.setOther (by omega) 6 v, h.bel.setCell (p := ⟨w.heap.size, 6, none⟩) (Nat.le_refl _) v⟩
theorem Cf.set7 (h : Cf w d x4 x6 x7 W) (v : Value) : Cf w d x4 x6 v (W.setCell ⟨w.heap.size, 7, none⟩ v) := ⟨h.box.set 7 v, h.res.setOther (by omega) 7 v, h.bel.setCell (p := ⟨w.heap.size, 7, none⟩) (Nat.le_refl _) v⟩
theorem Cf.set3 (h : Cf w d x4 x6 x7 W) : Cf w d x4 x6 x7 (W.setCell ⟨w.heap.size, 3, none⟩ (.string d.rc)) := ⟨h.box.set 3 (.string d.rc), h.res.setOther (by omega) 3 _, h.bel.setCell (p := ⟨w.heap.size, 3, none⟩) (Nat.le_refl _) _⟩
theorem Cf.set5 (h : Cf w d x4 x6 x7 W) : Cf w d x4 x6 x7 (W.setCell ⟨w.heap.size, 5, none⟩ (.string d.sav)) := ⟨h.box.set 5 (.string d.sav), h.res.setOther (by omega) 5 _, h.bel.setCell (p := ⟨w.heap.size, 5, none⟩) (Nat.le_refl _) _⟩
theorem cf_new (w : World) (d : Ln) (s : Sl) : Cf w d (.slice s.a1 d.pg.length s.c1) (.slice s.a2 d.po.length s.c2) (.slice s.a3 d.fr.length s.c3) ((w.alloc (lob d s)).alloc zo) :=
 ⟨(K0.blk_new (vals d s) w 66).alloc _, K0.blk_at N4.zero8 _ 66 (by simp), ((Below.refl _ _).alloc (Nat.le_refl _) _).alloc (by simp) _⟩
def Ans (d : Ln) (w : World) (e : Ending) (w' : World) : Prop := ∃ s' m1 m2 hi, e = .returned (val d s') ∧ HL w.heap.size m1 m2 hi s' d.pg d.po d.fr w' ∧ hi ≤ w'.heap.size ∧ Below w.heap.size w w'
theorem fin8 {a1 a2 a3 : Option Addr} {c1 c2 c3 m1 m2 hi : Nat} (h : Cf w d (.slice a1 d.pg.length c1) (.slice a2 d.po.length c2) (.slice a3 d.fr.length c3) W) (hl : HL (w.heap.size + 2) m1 m2 hi ⟨a1, c1, a2, c2, a3, c3⟩ d.pg d.po d.fr W) (hh : hi ≤ W.heap.size) (W' : World)
  (hW : (((((((W.setCell ⟨w.heap.size + 1, 0, none⟩ (.int .i64 d.ino)).setCell ⟨w.heap.size + 1, 1, none⟩ (.int .i64 d.cl)).setCell ⟨w.heap.size + 1, 2, none⟩ (.int .i64 d.un)).setCell ⟨w.heap.size + 1, 3, none⟩ (.string d.rc)).setCell ⟨w.heap.size + 1, 4, none⟩ (.slice a1 d.pg.length c1)).setCell ⟨w.heap.size + 1, 5, none⟩ (.string d.sav)).setCell ⟨w.heap.size + 1, 6, none⟩ (.slice a2 d.po.length c2)).setCell ⟨w.heap.size + 1, 7, none⟩ (.slice a3 d.fr.length c3) = W') :
  K0.Blk (w.heap.size + 1) (vals d ⟨a1, c1, a2, c2, a3, c3⟩) W' ∧ Ans d w (.returned (val d ⟨a1, c1, a2, c2, a3, c3⟩)) W' := by
 have q := put8 (y0 := .int .i64 d.ino) (y1 := .int .i64 d.cl) (y2 := .int .i64 d.un) (y3 := .string d.rc) (y4 := .slice a1 d.pg.length c1) (y5 := .string d.sav) (y6 := .slice a2 d.po.length c2) (y7 := .slice a3 d.fr.length c3) h.res
 have hlt := h.res.lt
 have t : Btw (w.heap.size + 1) (w.heap.size + 2) W W' := by
  rw [← hW]
  exact ((((((((Btw.refl _ _ W).set (p := ⟨w.heap.size + 1, 0, none⟩) (Nat.le_refl _) (Nat.lt_succ_self _) _).set (p := ⟨w.heap.size + 1, 1, none⟩) (Nat.le_refl _) (Nat.lt_succ_self _) _).set (p := ⟨w.heap.size + 1, 2, none⟩) (Nat.le_refl _) (Nat.lt_succ_self _) _).set (p := ⟨w.heap.size + 1, 3, none⟩) (Nat.le_refl _) (Nat.lt_succ_self _) _).set (p := ⟨w.heap.size + 1, 4, none⟩) (Nat.le_refl _) (Nat.lt_succ_self _) _).set (p := ⟨w.heap.size + 1, 5, none⟩) (Nat.le_refl _) (Nat.lt_succ_self _) _).set (p := ⟨w.heap.size + 1, 6, none⟩) (Nat.le_refl _) (Nat.lt_succ_self _) _).set (p := ⟨w.heap.size + 1, 7, none⟩) (Nat.le_refl _) (Nat.lt_succ_self _) _
 rw [hW] at q
 have hl' := hl.btw t (Or.inr (Nat.le_refl _))
 exact ⟨q, _, m1, m2, hi, rfl, ⟨hl'.p1.mono (by omega) (Nat.le_refl _), hl'.p2, hl'.p3, by have := hl'.le; omega⟩, Nat.le_trans hh t.size, h.bel.trans (t.below (by omega) (by omega))⟩
set_option maxHeartbeats 4000000 in
theorem impl_copy (d : Ln) (s : Sl) (w : World) (hp : d.pg.length ≤ 1048576) (ho : d.po.length ≤ 1048576) (hf : d.fr.length ≤ 1048576) (hr : d.rc.size ≤ 281474976710656) (hs : d.sav.size ≤ 281474976710656) (hR : Lists w d s) :
  Calls Tryz.prog 174 #[val d s] w (Ans d w) := by
 have t0 := (cf_new w d s).drew
 have HL0 : Hid (∀ W, Below w.heap.size w W → Lists W d s) := fun W hb => hR.below hb
 have HC : Hid (∀ (x : ByteArray) W, x.size ≤ 281474976710656 → Cf w d (.slice s.a1 d.pg.length s.c1) (.slice s.a2 d.po.length s.c2) (.slice s.a3 d.fr.length s.c3) W → Calls Tryz.prog 68 #[.string x] W fun e w' => e = .returned (.string x) ∧ Cf w d (.slice s.a1 d.pg.length s.c1) (.slice s.a2 d.po.length s.c2) (.slice s.a3 d.fr.length s.c3) w') := fun x W hx hc => (B2.clone_any x W hx).mono fun _ _ ⟨he, hb⟩ => ⟨he, hc.below hb⟩
 clear hR
 go_enter Tryz.func174, Tryz.ntmps174
 go_wp2
 obtain ⟨W0, hW0⟩ : ∃ W0, (w.alloc (lob d s)).alloc zo = W0 := ⟨_, rfl⟩
 rw [hW0] at t0 ⊢
 have HS : Hid (∀ {x4 x6 x7 : Value} W, Cf w d x4 x6 x7 W → W.cell? ⟨w.heap.size, 3, none⟩ = some (.string d.rc) ∧ W.cell? ⟨w.heap.size, 5, none⟩ = some (.string d.sav)) := fun W h => ⟨h.box.cell 3 (by simp), h.box.cell 5 (by simp)⟩
 have s0 := HS.out _ t0
 go_region_held3 (fun W => W.cell? ⟨w.heap.size, 3, none⟩ = some (.string d.rc) ∧ W.cell? ⟨w.heap.size, 5, none⟩ = some (.string d.sav)) (assumption) ((first
  | (go_at_call 68; have t1' := t1; refine (HC.out _ _ (by omega) t1).mono ?_; rintro e w2 ⟨rfl, t2⟩; have s2 := HS.out _ t2; have f3 := t2.box.free 3 (by simp); have f5 := t2.box.free 5 (by simp); have t3 := t2.set3.set5; have s2a := HS.out _ t2.set3; have s2b := HS.out _ t3)
  | (go_at_call 68; refine (HC.out _ _ (by omega) t0).mono ?_; rintro e w1 ⟨rfl, t1⟩; have s1 := HS.out _ t1)))
 obtain ⟨W3, hW3⟩ : ∃ W3, (w2.setCell ⟨w.heap.size, 3, none⟩ (.string d.rc)).setCell ⟨w.heap.size, 5, none⟩ (.string d.sav) = W3 := ⟨_, rfl⟩
 rw [hW3] at t3 ⊢
 clear s2b s2a s2 f3 f5 t2 t1' s1 t1 s0 t0 hW0 hW3 HC HS
 have HC : Hid (∀ (a : Option Addr) (c : Nat) (zs : List Int) W, zs.length ≤ 1048576 → P0.Row W a zs → Cf w d (.slice s.a1 d.pg.length s.c1) (.slice s.a2 d.po.length s.c2) (.slice s.a3 d.fr.length s.c3) W → Calls Tryz.prog 128 #[.slice a zs.length c] W fun e w' => ∃ a' c', e = .returned (.slice a' zs.length c') ∧ OwnIn W.heap.size w'.heap.size w' a' zs ∧ Below W.heap.size W w' ∧ Cf w d (.slice s.a1 d.pg.length s.c1) (.slice s.a2 d.po.length s.c2) (.slice s.a3 d.fr.length s.c3) w') := fun a c zs W hn hr hc => (LF.clone a c zs W hn hr).mono fun _ _ ⟨a', c', he, ho, hb⟩ => ⟨a', c', he, LF.own_in ho, hb, hc.below hb⟩
 have HS : Hid (∀ W, Cf w d (.slice s.a1 d.pg.length s.c1) (.slice s.a2 d.po.length s.c2) (.slice s.a3 d.fr.length s.c3) W → W.cell? ⟨w.heap.size, 4, none⟩ = some (.slice s.a1 d.pg.length s.c1) ∧ W.cell? ⟨w.heap.size, 6, none⟩ = some (.slice s.a2 d.po.length s.c2) ∧ W.cell? ⟨w.heap.size, 7, none⟩ = some (.slice s.a3 d.fr.length s.c3)) := fun W h => ⟨h.box.cell 4 (by simp), h.box.cell 6 (by simp), h.box.cell 7 (by simp)⟩
 have t4 := t3.drew
 have z4 := t4.lt
 have s4 := HS.out _ t4
 go_wp2
 refine AT.region (n := 10) (S := fun W => W.cell? ⟨w.heap.size, 4, none⟩ = some (.slice s.a1 d.pg.length s.c1) ∧ W.cell? ⟨w.heap.size, 6, none⟩ = some (.slice s.a2 d.po.length s.c2) ∧ W.cell? ⟨w.heap.size, 7, none⟩ = some (.slice s.a3 d.fr.length s.c3)) (by kernel_rfl) ?_
 refine AT.take (i := 0) (v := .pointer (some ⟨w.heap.size, 4, none⟩)) rfl (by decide) (by kernel_rfl) (by kernel_rfl) (by kernel_rfl) (by kernel_rfl) (fun _ _ _ h => h) (Or.inl ⟨by rfl, fun w' hS' => by rfl⟩) s4 ?_
 simp only [BZ.z, Act.put, Nat.reduceAdd]
 refine AT.take (i := 1) (v := .slice s.a1 d.pg.length s.c1) rfl (by decide) (by kernel_rfl) (by kernel_rfl) (by kernel_rfl) (by kernel_rfl) (fun _ _ _ h => h) (Or.inl ⟨by rfl, fun w' hS' => ?_⟩) s4 ?_
 ·obtain ⟨p4, p6, p7⟩ := hS'
  go_simp
 simp only [BZ.z, Act.put, Nat.reduceAdd]
 refine AT.take (i := 3) (v := .pointer (some ⟨w.heap.size, 6, none⟩)) rfl (by decide) (by kernel_rfl) (by kernel_rfl) (by kernel_rfl) (by kernel_rfl) (fun _ _ _ h => h) (Or.inl ⟨by rfl, fun w' hS' => by rfl⟩) s4 ?_
 simp only [BZ.z, Act.put, Nat.reduceAdd]
 refine AT.take (i := 4) (v := .slice s.a2 d.po.length s.c2) rfl (by decide) (by kernel_rfl) (by kernel_rfl) (by kernel_rfl) (by kernel_rfl) (fun _ _ _ h => h) (Or.inl ⟨by rfl, fun w' hS' => ?_⟩) s4 ?_
 ·obtain ⟨p4, p6, p7⟩ := hS'
  go_simp
 simp only [BZ.z, Act.put, Nat.reduceAdd]
 refine AT.take (i := 6) (v := .pointer (some ⟨w.heap.size, 7, none⟩)) rfl (by decide) (by kernel_rfl) (by kernel_rfl) (by kernel_rfl) (by kernel_rfl) (fun _ _ _ h => h) (Or.inl ⟨by rfl, fun w' hS' => by rfl⟩) s4 ?_
 simp only [BZ.z, Act.put, Nat.reduceAdd]
 refine AT.take (i := 7) (v := .slice s.a3 d.fr.length s.c3) rfl (by decide) (by kernel_rfl) (by kernel_rfl) (by kernel_rfl) (by kernel_rfl) (fun _ _ _ h => h) (Or.inl ⟨by rfl, fun w' hS' => ?_⟩) s4 ?_
 ·obtain ⟨p4, p6, p7⟩ := hS'
  go_simp
 simp only [BZ.z, Act.put, Nat.reduceAdd]
 refine AT.call1 (i := 2) (by kernel_rfl) rfl (by rfl) (.tmp 12) _ rfl (.slice s.a1 d.pg.length s.c1) (by rfl) (enters_of Tryz.func128 (by kernel_rfl) rfl) ((HC.out s.a1 s.c1 d.pg _ hp (HL0.out _ t4.bel).r1 t4).mono ?_)
 rintro e w5 ⟨a1, c1, rfl, o1, b1, t5⟩
 have s5 := HS.out _ t5
 refine ⟨_, rfl, s5, ?_⟩
 simp only [BZ.z, Act.put, Nat.reduceAdd]
 refine AT.take (i := 9) (v := .pointer (some ⟨w.heap.size, 4, none⟩)) rfl (by decide) (by kernel_rfl) (by kernel_rfl) (by kernel_rfl) (by kernel_rfl) (fun _ _ _ h => h) (Or.inl ⟨by rfl, fun w' hS' => by rfl⟩) s5 ?_
 simp only [BZ.z, Act.put, Nat.reduceAdd]
 refine AT.call1 (i := 5) (by kernel_rfl) rfl (by rfl) (.tmp 15) _ rfl (.slice s.a2 d.po.length s.c2) (by rfl) (enters_of Tryz.func128 (by kernel_rfl) rfl) ((HC.out s.a2 s.c2 d.po _ ho (HL0.out _ t5.bel).r2 t5).mono ?_)
 rintro e w6 ⟨a2, c2, rfl, o2, b2, t6⟩
 have s6 := HS.out _ t6
 have o12 := o1.below b2
 refine ⟨_, rfl, s6, ?_⟩
 simp only [BZ.z, Act.put, Nat.reduceAdd]
 refine AT.call1 (i := 8) (by kernel_rfl) rfl (by rfl) (.tmp 18) _ rfl (.slice s.a3 d.fr.length s.c3) (by rfl) (enters_of Tryz.func128 (by kernel_rfl) rfl) ((HC.out s.a3 s.c3 d.fr _ hf (HL0.out _ t6.bel).r3 t6).mono ?_)
 rintro e w7 ⟨a3, c3, rfl, o3, b3, t7⟩
 have s7 := HS.out _ t7
 have g1 := o12.below b3
 have g2 := o2.below b3
 refine ⟨_, rfl, s7, ?_⟩
 simp only [BZ.z, Act.put, Nat.reduceAdd]
 have y4 := t7.box.free 4 (by simp)
 have y6 := t7.box.free 6 (by simp)
 have y7 := t7.box.free 7 (by simp)
 obtain ⟨p4, p6, p7⟩ := s7
 refine AT.store (i := 10) (w' := (w7.setCell ⟨w.heap.size, 4, none⟩ (.slice a1 d.pg.length c1))) (by kernel_rfl) rfl (by decide) (by rfl) ?_ ?_
 ·go_simp
 simp only [BZ.z, Act.put, Nat.reduceAdd]
 refine AT.plain (i := 11) (w' := (w7.setCell ⟨w.heap.size, 4, none⟩ (.slice a1 d.pg.length c1))) (u := .pointer (some ⟨w.heap.size, 6, none⟩)) (by kernel_rfl) rfl (by decide) (by rfl) (by rfl) ?_
 simp only [BZ.z, Act.put, Nat.reduceAdd]
 refine AT.store (i := 12) (w' := ((w7.setCell ⟨w.heap.size, 4, none⟩ (.slice a1 d.pg.length c1)).setCell ⟨w.heap.size, 6, none⟩ (.slice a2 d.po.length c2))) (by kernel_rfl) rfl (by decide) (by rfl) ?_ ?_
 ·go_simp
 simp only [BZ.z, Act.put, Nat.reduceAdd]
 refine AT.plain (i := 13) (w' := ((w7.setCell ⟨w.heap.size, 4, none⟩ (.slice a1 d.pg.length c1)).setCell ⟨w.heap.size, 6, none⟩ (.slice a2 d.po.length c2))) (u := .pointer (some ⟨w.heap.size, 7, none⟩)) (by kernel_rfl) rfl (by decide) (by rfl) (by rfl) ?_
 simp only [BZ.z, Act.put, Nat.reduceAdd]
 refine AT.store (i := 14) (w' := (((w7.setCell ⟨w.heap.size, 4, none⟩ (.slice a1 d.pg.length c1)).setCell ⟨w.heap.size, 6, none⟩ (.slice a2 d.po.length c2)).setCell ⟨w.heap.size, 7, none⟩ (.slice a3 d.fr.length c3))) (by kernel_rfl) rfl (by decide) (by rfl) ?_ ?_
 ·go_simp
 simp only [BZ.z, Act.put, Nat.reduceAdd]
 refine AT.done (by kernel_rfl) ?_ _
 have u := ((t7.set4 (.slice a1 d.pg.length c1)).set6 (.slice a2 d.po.length c2)).set7 (.slice a3 d.fr.length c3)
 have x1 := ((g1.set (B := w.heap.size) (by omega) 4 (.slice a1 d.pg.length c1)).set (B := w.heap.size) (by omega) 6 (.slice a2 d.po.length c2)).set (B := w.heap.size) (by omega) 7 (.slice a3 d.fr.length c3)
 have x2 := ((g2.set (B := w.heap.size) (by have := t5.lt; omega) 4 (.slice a1 d.pg.length c1)).set (B := w.heap.size) (by have := t5.lt; omega) 6 (.slice a2 d.po.length c2)).set (B := w.heap.size) (by have := t5.lt; omega) 7 (.slice a3 d.fr.length c3)
 have x3 := ((o3.set (B := w.heap.size) (by have := t6.lt; omega) 4 (.slice a1 d.pg.length c1)).set (B := w.heap.size) (by have := t6.lt; omega) 6 (.slice a2 d.po.length c2)).set (B := w.heap.size) (by have := t6.lt; omega) 7 (.slice a3 d.fr.length c3)
 have hh : ((((w7.setCell ⟨w.heap.size, 4, none⟩ (.slice a1 d.pg.length c1)).setCell ⟨w.heap.size, 6, none⟩ (.slice a2 d.po.length c2)).setCell ⟨w.heap.size, 7, none⟩ (.slice a3 d.fr.length c3))).heap.size = w7.heap.size := by simp
 obtain ⟨W7, hW7⟩ : ∃ W7, (((w7.setCell ⟨w.heap.size, 4, none⟩ (.slice a1 d.pg.length c1)).setCell ⟨w.heap.size, 6, none⟩ (.slice a2 d.po.length c2)).setCell ⟨w.heap.size, 7, none⟩ (.slice a3 d.fr.length c3)) = W7 := ⟨_, rfl⟩
 rw [hW7] at u x1 x2 x3 hh ⊢
 have e0 := u.box.cell 0 (by simp)
 have e1 := u.box.cell 1 (by simp)
 have e2 := u.box.cell 2 (by simp)
 have e3 := u.box.cell 3 (by simp)
 have e4 := u.box.cell 4 (by simp)
 have e5 := u.box.cell 5 (by simp)
 have e6 := u.box.cell 6 (by simp)
 have e7 := u.box.cell 7 (by simp)
 have j0 := u.res.cell 0 (by simp)
 have j1 := u.res.cell 1 (by simp)
 have j2 := u.res.cell 2 (by simp)
 have j3 := u.res.cell 3 (by simp)
 have j4 := u.res.cell 4 (by simp)
 have j5 := u.res.cell 5 (by simp)
 have j6 := u.res.cell 6 (by simp)
 have j7 := u.res.cell 7 (by simp)
 have n0 := u.res.free 0 (by simp)
 have n1 := u.res.free 1 (by simp)
 have n2 := u.res.free 2 (by simp)
 have n3 := u.res.free 3 (by simp)
 have n4 := u.res.free 4 (by simp)
 have n5 := u.res.free 5 (by simp)
 have n6 := u.res.free 6 (by simp)
 have n7 := u.res.free 7 (by simp)
 simp only [List.getElem_cons_zero, List.getElem_cons_succ] at e0 e1 e2 e3 e4 e5 e6 e7 j0 j1 j2 j3 j4 j5 j6 j7
 have hz5 := t5.lt
 have hs12 := b2.size
 have hs23 := b3.size
 obtain ⟨q, ha⟩ := fin8 (m1 := w5.heap.size) (m2 := w6.heap.size) (hi := w7.heap.size) u ⟨x1.mono z4 (Nat.le_refl _), x2, x3, hz5, hs12, hs23⟩ (by omega) _ rfl
 have v0 := q.cell 0 (by simp)
 have v1 := q.cell 1 (by simp)
 have v2 := q.cell 2 (by simp)
 have v3 := q.cell 3 (by simp)
 have v4 := q.cell 4 (by simp)
 have v5 := q.cell 5 (by simp)
 have v6 := q.cell 6 (by simp)
 have v7 := q.cell 7 (by simp)
 simp only [List.getElem_cons_zero, List.getElem_cons_succ] at v0 v1 v2 v3 v4 v5 v6 v7
 have HV : Hid (_ ∧ _ ∧ _ ∧ _ ∧ _ ∧ _ ∧ _ ∧ _) := ⟨v0, v1, v2, v3, v4, v5, v6, v7⟩
 clear v0 v1 v2 v3 v4 v5 v6 v7 hW7 hh q x1 x2 x3 u
 go_wp2
 obtain ⟨v0, v1, v2, v3, v4, v5, v6, v7⟩ := HV.out
 exact bodyPost_ret (v := val d ⟨a1, c1, a2, c2, a3, c3⟩) (by simp [results, Tryz.results174, go_sem, v0, v1, v2, v3, v4, v5, v6, v7]) rfl ha
end Go.Proofs.YtljnkicgahepfaaGreatDoor.LI
namespace Go.Proofs.YtljnkicgahepfaaGreatDoor.KC
open Go.ChangeShapes Go.WideShapes Go.ChangeAt Go.RowKit
open N0 (Ln)
open N1 (Sl val vals Lists LB lb_new)
open Z0 (dat Row Lns Kp kval kvals dz sz0 At)
open Z2 (LAt put setL blk_setL blk_otherL bel_setL put_len put_get lat_other put_other at_of)
open LF (Btw OwnIn)
open LH (HL lob)
theorem W0b.below {w W W' : World} {row : Option Nat} (h : Below w.heap.size w W) (hg : W.grownBy W' row) (hr : ∀ g, row = some g → w.heap.size ≤ g) : Below w.heap.size w W' := F0.below_grown h hg hr h.size
def flat : List Ln → (Nat → Sl) → List Value
 | [], _ => []
 | d :: r, ss => vals d (ss 0) ++ flat r (fun j => ss (j + 1))
theorem flat_len : ∀ (ds : List Ln) (ss : Nat → Sl), (flat ds ss).length = ds.length * 8
 | [], _ => rfl
 | d :: r, ss => by simp [flat, flat_len r]; omega
theorem flat_at : ∀ (ds : List Ln) (ss : Nat → Sl) (j : Nat), j < ds.length → LAt (flat ds ss) (j * 8) (dat ds j) (ss j)
 | [], _, j, h => by simp at h
 | d :: r, ss, 0, _ => ⟨rfl, rfl, rfl, rfl, rfl, rfl, rfl, rfl⟩
 | d :: r, ss, j + 1, h => by
  have ih := flat_at r (fun j => ss (j + 1)) j (by simpa using h)
  unfold LAt at ih ⊢
  have e : ∀ x, (flat (d :: r) ss)[(j + 1) * 8 + x]? = (flat r (fun j => ss (j + 1)))[j * 8 + x]? := fun x => by
   rw [flat, List.getElem?_append_right (by simp; omega)]
   congr 1
   simp
   omega
  have e0 := e 0
  simp only [Nat.add_zero] at e0
  rw [e0, e 1, e 2, e 3, e 4, e 5, e 6, e 7]
  exact ih
theorem flat_one : ∀ (ds : List Ln) (ss : Nat → Sl), ∀ u ∈ flat ds ss, u.oneCell' = true
 | [], _, u, h => by cases h
 | d :: r, ss, u, h => by
  rw [flat, List.mem_append] at h
  rcases h with h | h
  ·simp at h
   rcases h with rfl | rfl | rfl | rfl | rfl | rfl | rfl | rfl <;> rfl
  ·exact flat_one r _ u h
theorem row_cells {W : World} {b off : Nat} {ds : List Ln} {ss : Nat → Sl} (hc : ∀ j, j < ds.length → At W b (off + j * 8) (dat ds j) (ss j)) (i : Nat) (u : Value) (h : (flat ds ss)[i]? = some u) : W.cell? ⟨b, off + i, none⟩ = some u := by
 have hi : i < ds.length * 8 := by
  have := (List.getElem?_eq_some_iff.1 h).1
  rwa [flat_len] at this
 have hj : i / 8 < ds.length := by omega
 obtain ⟨f0, f1, f2, f3, f4, f5, f6, f7⟩ := flat_at ds ss (i / 8) hj
 obtain ⟨c0, c1, c2, c3, c4, c5, c6, c7⟩ := hc (i / 8) hj
 rcases (show i = i / 8 * 8 ∨ i = i / 8 * 8 + 1 ∨ i = i / 8 * 8 + 2 ∨ i = i / 8 * 8 + 3 ∨ i = i / 8 * 8 + 4 ∨ i = i / 8 * 8 + 5 ∨ i = i / 8 * 8 + 6 ∨ i = i / 8 * 8 + 7 by omega) with e | e | e | e | e | e | e | e
 ·rw [e, f0] at h
  rw [e, ← h]; exact c0
 ·rw [e, f1] at h
  rw [e, ← h]; exact c1
 ·rw [e, f2] at h
  rw [e, ← h]; exact c2
 ·rw [e, f3] at h
  rw [e, ← h]; exact c3
 ·rw [e, f4] at h
  rw [e, ← h]; exact c4
 ·rw [e, f5] at h
  rw [e, ← h]; exact c5
 ·rw [e, f6] at h
  rw [e, ← h]; exact c6
 ·rw [e, f7] at h
  rw [e, ← h]; exact c7
theorem blk_of_owns {W : World} {base n g cap : Nat} {e : TypeId} {vs : List Value} (h : W.ownsRow base e 8 (.slice (some ⟨g, 0, none⟩) n cap) n vs) (hl : vs.length = n * 8) : base ≤ g ∧ K0.Blk g vs W := by
 rcases h.2 with ⟨h0, _⟩ | ⟨g', cap', cur, hv, hg, hc, hle, hm, hs, ht⟩
 ·cases h0
 ·obtain ⟨rfl, rfl⟩ : g = g' ∧ cap = cap' := by simpa using hv
  refine ⟨hg, fun j hj => ?_, fun j hj => ?_, (Array.getElem?_eq_some_iff.1 hc).1⟩
  ·have hcell : W.cell? ⟨g, j, none⟩ = cur[j]? := by
    unfold World.cell?
    rw [hc]
    simp
   have e1 : (cur.toList.take (n * 8))[j]? = vs[j]? := by rw [ht]
   rw [List.getElem?_take_of_lt (by omega)] at e1
   rw [hcell, ← Array.getElem?_toList, e1, List.getElem?_eq_getElem hj]
  ·unfold World.frozen?
   rw [hc]
   simp
def CA (ds : List Ln) (ss : Nat → Sl) (w : World) (e : Ending) (w' : World) : Prop := ∃ a' c', e = .returned (.slice a' ds.length c') ∧ (ds = [] ∨ ∃ g, a' = some ⟨g, 0, none⟩ ∧ w.heap.size ≤ g ∧ K0.Blk g (flat ds ss) w') ∧ Below w.heap.size w w'
theorem clone (a : Option Addr) (c : Nat) (ds : List Ln) (ss : Nat → Sl) (w : World) (hn : ds.length ≤ 1048576) (hR : Row w a ds ss) :
  Calls Tryz.prog 162 #[.slice a ds.length c] w (CA ds ss w) := by
 have qn : ∀ (w : World) (a : Option Addr) (n c n' c' : Nat), (binOp .eql 26 (.slice a n c) (.slice none n' c')).run Tryz.prog w = .ok (.bool a.isNone) w := fun w a n c n' c' => Lib.run_eql_slice_nil w _ _ a n c n' c' Tryz.underlying26
 cases a with
 | none =>
  have h0 : ds = [] := by
   rcases hR with h | ⟨b, off, h, _⟩
   ·exact h
   ·cases h
  subst h0
  go_enter Tryz.func162, Tryz.ntmps162
  go_wp2
  go_ret
  exact ⟨none, 0, rfl, Or.inl rfl, Below.refl _ _⟩
 | some p =>
  obtain ⟨i0, hi, hz0, hz1, hz2⟩ := info_parts Z2.infoL
  have l0 := K0.below_new w (.cells #[] 66)
  have o0 : (w.alloc (.cells #[] 66)).ownsRow w.heap.size 66 8 (.slice (some ⟨w.heap.size, 0, none⟩) 0 0) 0 [] := World.ownsRow_made w #[] 0 (Nat.le_refl _) (Nat.zero_le _) rfl
  have r0 := hR.below l0
  by_cases hd : ds = []
  ·subst hd
   have hrun := Q1.run_append_none (P := Tryz.prog) (w.alloc (.cells #[] 66)) 26 26 66 i0 Tryz.underlying26 hi (some ⟨w.heap.size, 0, none⟩) 0 0 (Nat.le_refl _) (some p) c
   clear hR r0 o0
   go_enter Tryz.func162, Tryz.ntmps162
   go_wp2_with (at_builtin; refine Lib.wpList_append_run _ rfl (.tmp 5) (.tmp 6) 26 26 rfl _ _ (by rfl) (by rfl) _ _ hrun ?_)
   go_ret
   exact ⟨_, _, rfl, Or.inl rfl, l0⟩
  ·obtain ⟨b, off, hp, hlt, hc⟩ : ∃ b off, p = ⟨b, off, none⟩ ∧ b < (w.alloc (.cells #[] 66)).heap.size ∧ ∀ j, j < ds.length → At (w.alloc (.cells #[] 66)) b (off + j * 8) (dat ds j) (ss j) := by
    rcases r0 with h | ⟨b, off, h, hl, hc⟩
    ·exact absurd h hd
    ·exact ⟨b, off, Option.some.inj h, hl, hc⟩
   subst hp
   have hm : 0 < ds.length := List.length_pos_iff.2 hd
   clear hR r0
   go_enter Tryz.func162, Tryz.ntmps162
   go_wp2_with (at_builtin; refine wpList_append_lies _ rfl (.tmp 5) (.tmp 6) 26 rfl w.heap.size 66 i0 (.agg Z2.zero8) 8 128 Tryz.underlying26 hi hz0 hz1 hz2 rfl (by omega) _ 0 _ (by rfl) o0 ⟨b, off, none⟩ ds.length c (flat ds ss) (by rfl) (flat_len ds ss) (fun j u hj => by rw [B0.add_off]; exact row_cells hc j u hj) (flat_one ds ss) hm (by unfold maxLen; omega) (by omega) l0.size _ rfl ?_; intro g cap' w1 ho' hg' hl' hlt'; rw [List.nil_append, Nat.zero_add] at ho'; simp only [Nat.zero_add])
   go_ret
   obtain ⟨hg1, hk1⟩ := blk_of_owns ho' (flat_len ds ss)
   exact ⟨_, cap', rfl, Or.inr ⟨g, rfl, hg1, hk1⟩, W0b.below l0 hg' (fun k hk => by simp [Value.ownBlock] at hk; omega)⟩
end Go.Proofs.YtljnkicgahepfaaGreatDoor.KC
