/- Joined texts: plain facts and contracts, as each part says. -/
import Derived.Test.YtnfcpcejfajcfaaJoC
import Derived.Test.YtnfcpcejfajcfaaJoD
import Derived.Deep.RegionHeld3

/- A region that draws its order and whose last operations write what its first ones read: what is held is held up to those. -/
namespace Go.Proofs.Ytnfcpcejfajcfaa.AT
open Go.RowKit
set_option linter.unusedVariables false
set_option linter.unusedSimpArgs false

section
variable {P : Program} {ops : Array Oper} {Q : Exit → Act → World → Prop} {md : Region.Mode} {S : World → Prop} {n : Nat}

/-- Whatever order is picked from here on, and S holds behind every operation that is carried out, but for those from number n on. -/
def wpAnyT (P : Program) (md : Region.Mode) (ops : Array Oper) (Q : Exit → Act → World → Prop) (S : World → Prop) (n : Nat) : Nat → Array Bool → Act → World → Prop
  | 0, listed, a, w => Region.ready md ops listed = [] ∧ Q .normal a w
  | fuel + 1, listed, a, w =>
    (Region.ready md ops listed = [] → Q .normal a w) ∧
    ∀ i ∈ Region.ready md ops listed, wpOp P ops Q i (fun a' w' => (i < n → S w') ∧ wpAnyT P md ops Q S n fuel (listed.setIfInBounds i true) a' w') a w

theorem wpAny_of_T : ∀ (fuel : Nat) (listed : Array Bool) (a : Act) (w : World), wpAnyT P md ops Q S n fuel listed a w → wpAny P md ops Q fuel listed a w
  | 0, _, _, _, h => h
  | fuel + 1, _, _, _, h => ⟨h.1, fun i hi => wpOp_mono (fun a' w' h' => wpAny_of_T fuel _ a' w' h'.2) (h.2 i hi)⟩

theorem first {i : Nat} {oi : Oper} {v : Value} (hi : ops[i]? = some oi) (hin : i < n) (hlate : ∀ (j : Nat) (o : Oper), ops[j]? = some o → n ≤ j → ∃ e ∈ o.after, Region.binds md e = true ∧ e.on = i) (hsel : ∀ (j : Nat) (o : Oper) cs b, ops[j]? = some o → o.op ≠ .select cs b)
    (hQ : ∀ c a w, Q (.panic c) (a.put oi.dst v) w → Q (.panic c) a w) :
    ∀ (fuel : Nat) (listed : Array Bool) (a : Act) (w : World),
      (∀ j oj, ops[j]? = some oj → j ≠ i → listed.getD j true = false → (∀ e ∈ oj.after, Region.binds md e = true → e.on ≠ i) → oi.apart ops oj = true) →
      i ∈ Region.ready md ops listed → YieldsIf P ops S oi v a → S w →
      wpAnyT P md ops Q S n fuel (listed.setIfInBounds i true) (a.put oi.dst v) w → wpAnyT P md ops Q S n (fuel + 1) listed a w := by
  intro fuel
  induction fuel with
  | zero =>
    intro listed a w _ hr hy hS H
    refine ⟨fun h => (by rw [h] at hr; cases hr), fun j hj => ?_⟩
    by_cases hji : j = i
    · subst hji; exact hy.wpOp hi hS ⟨fun _ => hS, H⟩
    · have := ready_mono hj hji
      rw [H.1] at this
      cases this
  | succ fuel ih =>
    intro listed a w hfree hr hy hS H
    refine ⟨fun h => (by rw [h] at hr; cases hr), fun j hj => ?_⟩
    by_cases hji : j = i
    · subst hji; exact hy.wpOp hi hS ⟨fun _ => hS, H⟩
    · have h1 := H.2 j (ready_mono hj hji)
      obtain ⟨hjun, oj, hoj, hall⟩ := mem_ready.1 hj
      have hnot : ∀ e ∈ oj.after, Region.binds md e = true → e.on ≠ i := fun e he hb heq => by
        have h1 := hall e he hb
        have h0 := (mem_ready.1 hr).1
        rw [heq] at h1
        rcases Nat.lt_or_ge i listed.size with h' | h'
        · simp [h'] at h0 h1; rw [h0] at h1; cases h1
        · simp [Array.getElem?_eq_none h'] at h1
      have hjn : j < n := by
        rcases Nat.lt_or_ge j n with h' | h'
        · exact h'
        · obtain ⟨e, he, hb, ho⟩ := hlate j oj hoj h'
          exact absurd ho (hnot e he hb)
      have h2 := wpOp_putIf hoj (hfree j oj hoj hji hjun hnot) (fun cs b => hsel i oi cs b hi) (fun cs b => hsel j oj cs b hoj) hQ hy h1
      have hfree' : ∀ k ok, ops[k]? = some ok → k ≠ i → (listed.setIfInBounds j true).getD k true = false →
          (∀ e ∈ ok.after, Region.binds md e = true → e.on ≠ i) → oi.apart ops ok = true := fun k ok hk hki hun hno => by
        refine hfree k ok hk hki ?_ hno
        by_cases hjk : j = k
        · subst hjk; exact hjun
        · rw [getD_set_ne true hjk] at hun; exact hun
      refine wpOp_mono (fun a' w' h3 => ⟨h3.2.1, ih (listed.setIfInBounds j true) a' w' hfree' (ready_mono hr (Ne.symm hji)) h3.1 (h3.2.1 hjn) ?_⟩) h2
      rw [Array.setIfInBounds_comm _ _ hji]
      exact h3.2.2

/-- Every operation from number n on waits for number i. -/
def lateB (md : Region.Mode) (ops : Array Oper) (n i : Nat) : Bool := (List.range ops.size).all fun j => decide (j < n) || match ops[j]? with
  | some o => o.after.any fun e => Region.binds md e && e.on == i
  | none => true

theorem late_spec {i : Nat} (h : lateB md ops n i = true) (j : Nat) (o : Oper) (hj : ops[j]? = some o) (hn : n ≤ j) : ∃ e ∈ o.after, Region.binds md e = true ∧ e.on = i := by
  simp only [lateB, List.all_eq_true, List.mem_range] at h
  have h1 := h j (Array.getElem?_eq_some_iff.1 hj).1
  simp only [hj, Bool.or_eq_true, decide_eq_true_eq] at h1
  rcases h1 with h1 | h1
  · omega
  · obtain ⟨e, he, hb⟩ := Array.any_eq_true'.1 h1
    simp only [Bool.and_eq_true, beq_iff_eq] at hb
    exact ⟨e, he, hb.1, hb.2⟩

theorem take {i : Nat} {oi : Oper} {v : Value} {fuel : Nat} {listed : Array Bool} {a : Act} {w : World} (hi : ops[i]? = some oi) (hin : i < n) (hl : lateB md ops n i = true)
    (hs : Region.noSelect ops = true) (hf : Region.free md ops listed i = true) (hr : (Region.ready md ops listed).contains i = true)
    (hQ : ∀ c a w, Q (.panic c) (a.put oi.dst v) w → Q (.panic c) a w) (hy : YieldsIf P ops S oi v a) (hS : S w)
    (h : wpAnyT P md ops Q S n fuel (listed.setIfInBounds i true) (a.put oi.dst v) w) : wpAnyT P md ops Q S n (fuel + 1) listed a w :=
  first hi hin (late_spec hl) (Region.noSelect_spec hs) hQ fuel listed a w (Region.free_spec hi hf) (by simpa using hr) hy hS h

theorem all {rs : List Nat} {fuel : Nat} {listed : Array Bool} {a : Act} {w : World} (hr : Region.ready md ops listed = rs) (hne : rs ≠ [])
    (h : ∀ i ∈ rs, wpOp P ops Q i (fun a' w' => (i < n → S w') ∧ wpAnyT P md ops Q S n fuel (listed.setIfInBounds i true) a' w') a w) : wpAnyT P md ops Q S n (fuel + 1) listed a w :=
  ⟨fun h0 => absurd (hr ▸ h0) hne, hr ▸ h⟩

theorem done {listed : Array Bool} {a : Act} {w : World} (hr : Region.ready md ops listed = []) (h : Q .normal a w) :
    ∀ fuel, wpAnyT P md ops Q S n fuel listed a w
  | 0 => ⟨hr, h⟩
  | _ + 1 => ⟨fun _ => h, by rw [hr]; simp⟩

theorem region {id : Nat} {a : Act} {w : World} (hm : P.follows .mixedOrders = true)
    (h : wpAnyT P .any ops Q S n ops.size (Array.replicate ops.size false) a w.drew) : (Code.region id ops true).wp P Q a w :=
  wp_region_any hm (wpAny_of_T _ _ _ _ h)

theorem call1 {a : Act} {w : World} {i f : Nat} {o : Oper} {listed : Array Bool} {fuel : Nat} (hr : Region.ready md ops listed = [i]) (ho : ops[i]? = some o) (hw : Region.wanted o (yielded ops a.tmps) = true)
    (x : Operand) (ts : Array TypeId) (hop : o.op = .call { callee := .value (.func f), args := #[x], argTypes := ts }) (v : Value) (hx : a.eval x = v) (eg : ∀ args w, (callFunc f args).run P w = .ok (.enter f args) w)
    (hc : Calls P f #[v] w fun e w' => ∃ u, e = .returned u ∧ S w' ∧ wpAnyT P md ops Q S n fuel (listed.setIfInBounds i true) (a.put o.dst u) w') : wpAnyT P md ops Q S n (fuel + 1) listed a w := by
  refine all hr (by simp) ?_
  intro j hj
  obtain rfl : j = i := by simpa using hj
  unfold wpOp
  rw [ho]
  refine Y0.of_if hw (.inl ?_)
  have he : (execOp a.eval o).run P w = .ok (.enter f #[v]) w := by
    subst hx
    simp [execOp, hop, resolve, go_sem, invoke, eg]
  unfold Oper.wp
  rw [he]
  refine Calls.mono hc ?_
  rintro e w' ⟨u, rfl, hS, h⟩
  exact ⟨fun _ => hS, h⟩

/-- A store of the last ones. -/
theorem store {a : Act} {w w' : World} {i : Nat} {o : Oper} {listed : Array Bool} {fuel : Nat} (hr : Region.ready md ops listed = [i]) (ho : ops[i]? = some o) (hn : n ≤ i) (hw : Region.wanted o (yielded ops a.tmps) = true)
    (he : (execOp a.eval o).run P w = .ok .skip w') (h : wpAnyT P md ops Q S n fuel (listed.setIfInBounds i true) (a.put o.dst undef) w') : wpAnyT P md ops Q S n (fuel + 1) listed a w := by
  refine all hr (by simp) ?_
  intro j hj
  obtain rfl : j = i := by simpa using hj
  unfold wpOp
  rw [ho]
  refine Y0.of_if hw (.inl ?_)
  unfold Oper.wp
  rw [he]
  exact ⟨fun h' => absurd h' (by omega), h⟩

/-- Another of the last ones (an address). -/
theorem plain {a : Act} {w w' : World} {u : Value} {i : Nat} {o : Oper} {listed : Array Bool} {fuel : Nat} (hr : Region.ready md ops listed = [i]) (ho : ops[i]? = some o) (hn : n ≤ i) (hw : Region.wanted o (yielded ops a.tmps) = true)
    (he : (execOp a.eval o).run P w = .ok (.value u) w') (h : wpAnyT P md ops Q S n fuel (listed.setIfInBounds i true) (a.put o.dst u) w') : wpAnyT P md ops Q S n (fuel + 1) listed a w := by
  refine all hr (by simp) ?_
  intro j hj
  obtain rfl : j = i := by simpa using hj
  unfold wpOp
  rw [ho]
  refine Y0.of_if hw (.inl ?_)
  unfold Oper.wp
  rw [he]
  exact ⟨fun h' => absurd h' (by omega), h⟩
end
end Go.Proofs.Ytnfcpcejfajcfaa.AT

/- Contracts of spec.l06CopyLoan and impl.loanCopy, as the given laws call them. -/
namespace Go.Proofs.Ytnfcpcejfajcfaa.LI
open Go.ChangeShapes Go.WideShapes Go.ChangeAt Go.RowKit
set_option linter.unusedVariables false
set_option linter.unusedSimpArgs false
set_option maxRecDepth 10000

open N0 (Ln)
open N1 (Sl val vals Lists LB lb_new)
open N4 (put8 other8 bel8)
open LF (Btw OwnIn)
open LH (HL lob)
open J0 (IBuf Own)

variable {w W W' : World} {d : Ln} {s : Sl} {x4 x6 x7 : Value} {b : Nat}

abbrev zo : Obj := .cells #[.int .i64 0, .int .i64 0, .int .i64 0, .string ⟨#[]⟩, .slice none 0 0, .string ⟨#[]⟩, .slice none 0 0, .slice none 0 0] 30

/-- The two blocks of a function that copies a loan. -/
structure Cf (w : World) (d : Ln) (x4 x6 x7 : Value) (W : World) : Prop where
  box : K0.Blk w.heap.size [.int .i64 d.ino, .int .i64 d.cl, .int .i64 d.un, .string d.rc, x4, .string d.sav, x6, x7] W
  res : K0.Blk (w.heap.size + 1) N4.zero8 W
  bel : Below w.heap.size w W

theorem Cf.keep (h : Cf w d x4 x6 x7 W) (hb : Below b W W') (hB : w.heap.size + 2 ≤ b) : Cf w d x4 x6 x7 W' :=
  ⟨J0.blk_keep h.box hb (by omega), J0.blk_keep h.res hb (by omega), h.bel.trans (hb.mono (by omega))⟩
theorem Cf.below (h : Cf w d x4 x6 x7 W) (hb : Below W.heap.size W W') : Cf w d x4 x6 x7 W' := ⟨h.box.below hb, h.res.below hb, h.bel.trans (hb.mono h.bel.size)⟩
theorem Cf.drew (h : Cf w d x4 x6 x7 W) : Cf w d x4 x6 x7 W.drew := h.below ((Below.refl _ _).drew)
theorem Cf.lt (h : Cf w d x4 x6 x7 W) : w.heap.size + 2 ≤ W.heap.size := h.res.lt
theorem Cf.set4 (h : Cf w d x4 x6 x7 W) (v : Value) : Cf w d v x6 x7 (W.setCell ⟨w.heap.size, 4, none⟩ v) := ⟨h.box.set 4 v, h.res.setOther (by omega) 4 v, h.bel.setCell (p := ⟨w.heap.size, 4, none⟩) (Nat.le_refl _) v⟩
theorem Cf.set6 (h : Cf w d x4 x6 x7 W) (v : Value) : Cf w d x4 v x7 (W.setCell ⟨w.heap.size, 6, none⟩ v) := ⟨h.box.set 6 v, h.res.setOther (by omega) 6 v, h.bel.setCell (p := ⟨w.heap.size, 6, none⟩) (Nat.le_refl _) v⟩
theorem Cf.set7 (h : Cf w d x4 x6 x7 W) (v : Value) : Cf w d x4 x6 v (W.setCell ⟨w.heap.size, 7, none⟩ v) := ⟨h.box.set 7 v, h.res.setOther (by omega) 7 v, h.bel.setCell (p := ⟨w.heap.size, 7, none⟩) (Nat.le_refl _) v⟩
theorem Cf.set3 (h : Cf w d x4 x6 x7 W) : Cf w d x4 x6 x7 (W.setCell ⟨w.heap.size, 3, none⟩ (.string d.rc)) := ⟨h.box.set 3 (.string d.rc), h.res.setOther (by omega) 3 _, h.bel.setCell (p := ⟨w.heap.size, 3, none⟩) (Nat.le_refl _) _⟩
theorem Cf.set5 (h : Cf w d x4 x6 x7 W) : Cf w d x4 x6 x7 (W.setCell ⟨w.heap.size, 5, none⟩ (.string d.sav)) := ⟨h.box.set 5 (.string d.sav), h.res.setOther (by omega) 5 _, h.bel.setCell (p := ⟨w.heap.size, 5, none⟩) (Nat.le_refl _) _⟩
theorem cf_new (w : World) (d : Ln) (s : Sl) : Cf w d (.slice s.a1 d.pg.length s.c1) (.slice s.a2 d.po.length s.c2) (.slice s.a3 d.fr.length s.c3) ((w.alloc (lob d s)).alloc zo) :=
  ⟨(K0.blk_new (vals d s) w 30).alloc _, K0.blk_at N4.zero8 _ 30 (by simp), ((Below.refl _ _).alloc (Nat.le_refl _) _).alloc (by simp) _⟩

theorem keepIn {lo hi b : Nat} {a : Option Addr} {zs : List Int} (h : OwnIn lo hi W a zs) (hb : Below b W W') (hx : hi ≤ b) : OwnIn lo hi W' a zs := h.imp id fun ⟨g, e, h1, h2, hk⟩ => ⟨g, e, h1, h2, J0.blk_keep hk hb (by omega)⟩

/-- What a copy of a loan answers. -/
def Ans (d : Ln) (w : World) (e : Ending) (w' : World) : Prop := ∃ s' m1 m2 hi, e = .returned (val d s') ∧ HL w.heap.size m1 m2 hi s' d.pg d.po d.fr w' ∧ hi ≤ w'.heap.size ∧ Below w.heap.size w w'

/-- The result's cells, written last. -/
theorem fin8 {a1 a2 a3 : Option Addr} {c1 c2 c3 m1 m2 hi : Nat} (h : Cf w d (.slice a1 d.pg.length c1) (.slice a2 d.po.length c2) (.slice a3 d.fr.length c3) W) (hl : HL (w.heap.size + 2) m1 m2 hi ⟨a1, c1, a2, c2, a3, c3⟩ d.pg d.po d.fr W) (hh : hi ≤ W.heap.size) (W' : World)
    (hW : (((((((W.setCell ⟨w.heap.size + 1, 0, none⟩ (.int .i64 d.ino)).setCell ⟨w.heap.size + 1, 1, none⟩ (.int .i64 d.cl)).setCell ⟨w.heap.size + 1, 2, none⟩ (.int .i64 d.un)).setCell ⟨w.heap.size + 1, 3, none⟩ (.string d.rc)).setCell ⟨w.heap.size + 1, 4, none⟩ (.slice a1 d.pg.length c1)).setCell ⟨w.heap.size + 1, 5, none⟩ (.string d.sav)).setCell ⟨w.heap.size + 1, 6, none⟩ (.slice a2 d.po.length c2)).setCell ⟨w.heap.size + 1, 7, none⟩ (.slice a3 d.fr.length c3) = W') :
    K0.Blk (w.heap.size + 1) (vals d ⟨a1, c1, a2, c2, a3, c3⟩) W' ∧ Ans d w (.returned (val d ⟨a1, c1, a2, c2, a3, c3⟩)) W' := by
  have q := put8 (y0 := .int .i64 d.ino) (y1 := .int .i64 d.cl) (y2 := .int .i64 d.un) (y3 := .string d.rc) (y4 := .slice a1 d.pg.length c1) (y5 := .string d.sav) (y6 := .slice a2 d.po.length c2) (y7 := .slice a3 d.fr.length c3) h.res
  have hlt := h.res.lt
  have t : Btw (w.heap.size + 1) (w.heap.size + 2) W W' := by
    rw [← hW]
    exact ((((((((Btw.refl _ _ W).set (p := ⟨w.heap.size + 1, 0, none⟩) (Nat.le_refl _) (Nat.lt_succ_self _) _).set (p := ⟨w.heap.size + 1, 1, none⟩) (Nat.le_refl _) (Nat.lt_succ_self _) _).set (p := ⟨w.heap.size + 1, 2, none⟩) (Nat.le_refl _) (Nat.lt_succ_self _) _).set (p := ⟨w.heap.size + 1, 3, none⟩) (Nat.le_refl _) (Nat.lt_succ_self _) _).set (p := ⟨w.heap.size + 1, 4, none⟩) (Nat.le_refl _) (Nat.lt_succ_self _) _).set (p := ⟨w.heap.size + 1, 5, none⟩) (Nat.le_refl _) (Nat.lt_succ_self _) _).set (p := ⟨w.heap.size + 1, 6, none⟩) (Nat.le_refl _) (Nat.lt_succ_self _) _).set (p := ⟨w.heap.size + 1, 7, none⟩) (Nat.le_refl _) (Nat.lt_succ_self _) _
  rw [hW] at q
  have hl' := hl.btw t (Or.inr (Nat.le_refl _))
  exact ⟨q, _, m1, m2, hi, rfl, ⟨hl'.p1.mono (by omega) (Nat.le_refl _), hl'.p2, hl'.p3, by have := hl'.le; omega⟩, Nat.le_trans hh t.size, h.bel.trans (t.below (by omega) (by omega))⟩

set_option maxHeartbeats 4000000 in
theorem spec_copy (d : Ln) (s : Sl) (w : World) (hp : d.pg.length ≤ 1048576) (ho : d.po.length ≤ 1048576) (hf : d.fr.length ≤ 1048576) (hR : Lists w d s) :
    Calls Try.prog 15 #[val d s] w (Ans d w) := by
  have t0 := cf_new w d s
  have HL0 : Hid (∀ W, Below w.heap.size w W → Lists W d s) := fun W hb => hR.below hb
  obtain ⟨W0, hW0⟩ : ∃ W0, (w.alloc (lob d s)).alloc zo = W0 := ⟨_, rfl⟩
  rw [hW0] at t0
  have z0 := t0.lt
  have t0a := t0.below (K0.below_new W0 (.cells #[] 3))
  have l0a := K0.below_new W0 (.cells #[] 3)
  have i0 := J0.ibuf_made W0 (Nat.le_refl _)
  have r0 := (HL0.out _ t0a.bel).r1
  have y4 := t0a.box.cell 4 (by simp)
  simp only [List.getElem_cons_zero, List.getElem_cons_succ] at y4
  clear hR
  go_enter Try.func15, Try.ntmps15
  go_wp2_with (first
    | (at_builtin; have q2 := o2; refine Q1.append_rows rfl (.tmp 13) (.tmp 15) rfl i2 s.a3 s.c3 d.fr (by rfl) (by rfl) r2 (by omega) (by simp) ?_; intro a3 c3 w3 b3 l3; rw [Nat.zero_add] at b3; rw [List.nil_append] at b3; simp only [Nat.zero_add]; have t3 := t2a.keep l3 z2; have o3 := (LF.own_in b3.own).set (B := w.heap.size) (by omega) 7 (.slice a3 d.fr.length c3); have y7' := t3.box.cell 7 (by simp); have f7 := t3.box.free 7 (by simp); simp only [List.getElem_cons_zero, List.getElem_cons_succ] at y7'; have g1 := (keepIn v12a l3 (by omega)).set (B := w.heap.size) (by omega) 7 (.slice a3 d.fr.length c3); have g2 := (keepIn v2a l3 (by omega)).set (B := w.heap.size) (by omega) 7 (.slice a3 d.fr.length c3); have u3 := t3.set7 (.slice a3 d.fr.length c3); clear y7; have e0 := u3.box.cell 0 (by simp); have e1 := u3.box.cell 1 (by simp); have e2 := u3.box.cell 2 (by simp); have e3 := u3.box.cell 3 (by simp); have e4 := u3.box.cell 4 (by simp); have e5 := u3.box.cell 5 (by simp); have e6 := u3.box.cell 6 (by simp); have e7 := u3.box.cell 7 (by simp); simp only [List.getElem_cons_zero, List.getElem_cons_succ] at e0 e1 e2 e3 e4 e5 e6 e7; have j0 := u3.res.cell 0 (by simp); have j1 := u3.res.cell 1 (by simp); have j2 := u3.res.cell 2 (by simp); have j3 := u3.res.cell 3 (by simp); have j4 := u3.res.cell 4 (by simp); have j5 := u3.res.cell 5 (by simp); have j6 := u3.res.cell 6 (by simp); have j7 := u3.res.cell 7 (by simp); simp only [List.getElem_cons_zero, List.getElem_cons_succ] at j0 j1 j2 j3 j4 j5 j6 j7; have n0 := u3.res.free 0 (by simp); have n1 := u3.res.free 1 (by simp); have n2 := u3.res.free 2 (by simp); have n3 := u3.res.free 3 (by simp); have n4 := u3.res.free 4 (by simp); have n5 := u3.res.free 5 (by simp); have n6 := u3.res.free 6 (by simp); have n7 := u3.res.free 7 (by simp))
    | (at_builtin; have q1 := o1; refine Q1.append_rows rfl (.tmp 8) (.tmp 10) rfl i1 s.a2 s.c2 d.po (by rfl) (by rfl) r1 (by omega) (by simp) ?_; intro a2 c2 w2 b2 l2; rw [Nat.zero_add] at b2; rw [List.nil_append] at b2; simp only [Nat.zero_add]; have t2 := t1a.keep l2 z1; have o2 := (LF.own_in b2.own).set (B := w.heap.size) (by omega) 6 (.slice a2 d.po.length c2); have y6' := t2.box.cell 6 (by simp); have f6 := t2.box.free 6 (by simp); simp only [List.getElem_cons_zero, List.getElem_cons_succ] at y6'; have v12 := (keepIn v1a l2 (Nat.le_refl _)).set (B := w.heap.size) (by omega) 6 (.slice a2 d.po.length c2); have u2 := t2.set6 (.slice a2 d.po.length c2); clear y6; have l2a := K0.below_new (w2.setCell ⟨w.heap.size, 6, none⟩ (.slice a2 d.po.length c2)) (.cells #[] 3); have t2a := u2.below l2a; have v12a := v12.below l2a; have v2a := o2.below l2a; have i2 := J0.ibuf_made (w2.setCell ⟨w.heap.size, 6, none⟩ (.slice a2 d.po.length c2)) (Nat.le_refl _); have z2 := t2.lt; have r2 := (HL0.out _ t2a.bel).r3; have y7 := t2a.box.cell 7 (by simp); simp only [List.getElem_cons_zero, List.getElem_cons_succ] at y7; have hs2 : (w2.setCell ⟨w.heap.size, 6, none⟩ (.slice a2 d.po.length c2)).heap.size = w2.heap.size := (by simp); rw [hs2] at i2; clear hs2; have hs12 : w1.heap.size ≤ w2.heap.size := (by have := l2.size; simp at this; omega))
    | (at_builtin; refine Q1.append_rows rfl (.tmp 3) (.tmp 5) rfl i0 s.a1 s.c1 d.pg (by rfl) (by rfl) r0 (by omega) l0a.size ?_; intro a1 c1 w1 b1 l1; rw [Nat.zero_add] at b1; rw [List.nil_append] at b1; simp only [Nat.zero_add]; have t1 := t0a.keep l1 z0; have o1 := (LF.own_in b1.own).set (B := w.heap.size) (by omega) 4 (.slice a1 d.pg.length c1); have y4' := t1.box.cell 4 (by simp); have f4 := t1.box.free 4 (by simp); simp only [List.getElem_cons_zero, List.getElem_cons_succ] at y4'; have u1 := t1.set4 (.slice a1 d.pg.length c1); clear y4; have l1a := K0.below_new (w1.setCell ⟨w.heap.size, 4, none⟩ (.slice a1 d.pg.length c1)) (.cells #[] 3); have t1a := u1.below l1a; have v1a := o1.below l1a; have i1 := J0.ibuf_made (w1.setCell ⟨w.heap.size, 4, none⟩ (.slice a1 d.pg.length c1)) (Nat.le_refl _); have z1 := t1.lt; have r1 := (HL0.out _ t1a.bel).r2; have y6 := t1a.box.cell 6 (by simp); simp only [List.getElem_cons_zero, List.getElem_cons_succ] at y6; have hs1 : (w1.setCell ⟨w.heap.size, 4, none⟩ (.slice a1 d.pg.length c1)).heap.size = w1.heap.size := (by simp); rw [hs1] at i1; clear hs1))
  have hs23 : w2.heap.size ≤ w3.heap.size := by have := l3.size; simp at this; omega
  obtain ⟨q, ha⟩ := fin8 (m1 := w1.heap.size) (m2 := w2.heap.size) (hi := w3.heap.size) u3 ⟨g1.mono (by omega) (Nat.le_refl _), g2, o3, by omega, by omega, by omega⟩ (by simp) _ rfl
  have v0 := q.cell 0 (by simp)
  have v1 := q.cell 1 (by simp)
  have v2 := q.cell 2 (by simp)
  have v3 := q.cell 3 (by simp)
  have v4 := q.cell 4 (by simp)
  have v5 := q.cell 5 (by simp)
  have v6 := q.cell 6 (by simp)
  have v7 := q.cell 7 (by simp)
  simp only [List.getElem_cons_zero, List.getElem_cons_succ] at v0 v1 v2 v3 v4 v5 v6 v7
  exact bodyPost_ret (v := val d ⟨a1, c1, a2, c2, a3, c3⟩) (by simp [results, Try.results15, go_sem, v0, v1, v2, v3, v4, v5, v6, v7]) rfl ha

set_option maxHeartbeats 4000000 in
theorem impl_copy (d : Ln) (s : Sl) (w : World) (hp : d.pg.length ≤ 1048576) (ho : d.po.length ≤ 1048576) (hf : d.fr.length ≤ 1048576) (hr : d.rc.size ≤ 281474976710656) (hs : d.sav.size ≤ 281474976710656) (hR : Lists w d s) :
    Calls Try.prog 19 #[val d s] w (Ans d w) := by
  have t0 := (cf_new w d s).drew
  have HL0 : Hid (∀ W, Below w.heap.size w W → Lists W d s) := fun W hb => hR.below hb
  have HC : Hid (∀ (x : ByteArray) W, x.size ≤ 281474976710656 → Cf w d (.slice s.a1 d.pg.length s.c1) (.slice s.a2 d.po.length s.c2) (.slice s.a3 d.fr.length s.c3) W → Calls Try.prog 30 #[.string x] W fun e w' => e = .returned (.string x) ∧ Cf w d (.slice s.a1 d.pg.length s.c1) (.slice s.a2 d.po.length s.c2) (.slice s.a3 d.fr.length s.c3) w') := fun x W hx hc => (B2.clone_any x W hx).mono fun _ _ ⟨he, hb⟩ => ⟨he, hc.below hb⟩
  clear hR
  go_enter Try.func19, Try.ntmps19
  go_wp2
  obtain ⟨W0, hW0⟩ : ∃ W0, (w.alloc (lob d s)).alloc zo = W0 := ⟨_, rfl⟩
  rw [hW0] at t0 ⊢
  have HS : Hid (∀ {x4 x6 x7 : Value} W, Cf w d x4 x6 x7 W → W.cell? ⟨w.heap.size, 3, none⟩ = some (.string d.rc) ∧ W.cell? ⟨w.heap.size, 5, none⟩ = some (.string d.sav)) := fun W h => ⟨h.box.cell 3 (by simp), h.box.cell 5 (by simp)⟩
  have s0 := HS.out _ t0
  go_region_held3 (fun W => W.cell? ⟨w.heap.size, 3, none⟩ = some (.string d.rc) ∧ W.cell? ⟨w.heap.size, 5, none⟩ = some (.string d.sav)) (assumption) ((first
    | (go_at_call 30; have t1' := t1; refine (HC.out _ _ (by omega) t1).mono ?_; rintro e w2 ⟨rfl, t2⟩; have s2 := HS.out _ t2; have f3 := t2.box.free 3 (by simp); have f5 := t2.box.free 5 (by simp); have t3 := t2.set3.set5; have s2a := HS.out _ t2.set3; have s2b := HS.out _ t3)
    | (go_at_call 30; refine (HC.out _ _ (by omega) t0).mono ?_; rintro e w1 ⟨rfl, t1⟩; have s1 := HS.out _ t1)))
  obtain ⟨W3, hW3⟩ : ∃ W3, (w2.setCell ⟨w.heap.size, 3, none⟩ (.string d.rc)).setCell ⟨w.heap.size, 5, none⟩ (.string d.sav) = W3 := ⟨_, rfl⟩
  rw [hW3] at t3 ⊢
  clear s2b s2a s2 f3 f5 t2 t1' s1 t1 s0 t0 hW0 hW3 HC HS
  have HC : Hid (∀ (a : Option Addr) (c : Nat) (zs : List Int) W, zs.length ≤ 1048576 → P0.Row W a zs → Cf w d (.slice s.a1 d.pg.length s.c1) (.slice s.a2 d.po.length s.c2) (.slice s.a3 d.fr.length s.c3) W → Calls Try.prog 31 #[.slice a zs.length c] W fun e w' => ∃ a' c', e = .returned (.slice a' zs.length c') ∧ OwnIn W.heap.size w'.heap.size w' a' zs ∧ Below W.heap.size W w' ∧ Cf w d (.slice s.a1 d.pg.length s.c1) (.slice s.a2 d.po.length s.c2) (.slice s.a3 d.fr.length s.c3) w') := fun a c zs W hn hr hc => (LF.clone a c zs W hn hr).mono fun _ _ ⟨a', c', he, ho, hb⟩ => ⟨a', c', he, LF.own_in ho, hb, hc.below hb⟩
  have HS : Hid (∀ W, Cf w d (.slice s.a1 d.pg.length s.c1) (.slice s.a2 d.po.length s.c2) (.slice s.a3 d.fr.length s.c3) W → W.cell? ⟨w.heap.size, 4, none⟩ = some (.slice s.a1 d.pg.length s.c1) ∧ W.cell? ⟨w.heap.size, 6, none⟩ = some (.slice s.a2 d.po.length s.c2) ∧ W.cell? ⟨w.heap.size, 7, none⟩ = some (.slice s.a3 d.fr.length s.c3)) := fun W h => ⟨h.box.cell 4 (by simp), h.box.cell 6 (by simp), h.box.cell 7 (by simp)⟩
  have t4 := t3.drew
  have z4 := t4.lt
  have s4 := HS.out _ t4
  go_wp2
  refine AT.region (n := 10) (S := fun W => W.cell? ⟨w.heap.size, 4, none⟩ = some (.slice s.a1 d.pg.length s.c1) ∧ W.cell? ⟨w.heap.size, 6, none⟩ = some (.slice s.a2 d.po.length s.c2) ∧ W.cell? ⟨w.heap.size, 7, none⟩ = some (.slice s.a3 d.fr.length s.c3)) (by kernel_rfl) ?_
  refine AT.take (i := 0) (v := .pointer (some ⟨w.heap.size, 4, none⟩)) rfl (by decide) (by kernel_rfl) (by kernel_rfl) (by kernel_rfl) (by kernel_rfl) (fun _ _ _ h => h) (Or.inl ⟨by rfl, fun w' hS' => by rfl⟩) s4 ?_
  simp only [List.getElem_toArray, List.getElem_cons_succ, List.getElem_cons_zero, Act.put, List.setIfInBounds_toArray, List.set_cons_succ, List.set_cons_zero, Nat.reduceAdd]
  refine AT.take (i := 1) (v := .slice s.a1 d.pg.length s.c1) rfl (by decide) (by kernel_rfl) (by kernel_rfl) (by kernel_rfl) (by kernel_rfl) (fun _ _ _ h => h) (Or.inl ⟨by rfl, fun w' hS' => ?_⟩) s4 ?_
  · obtain ⟨p4, p6, p7⟩ := hS'
    go_simp
  simp only [List.getElem_toArray, List.getElem_cons_succ, List.getElem_cons_zero, Act.put, List.setIfInBounds_toArray, List.set_cons_succ, List.set_cons_zero, Nat.reduceAdd]
  refine AT.take (i := 3) (v := .pointer (some ⟨w.heap.size, 6, none⟩)) rfl (by decide) (by kernel_rfl) (by kernel_rfl) (by kernel_rfl) (by kernel_rfl) (fun _ _ _ h => h) (Or.inl ⟨by rfl, fun w' hS' => by rfl⟩) s4 ?_
  simp only [List.getElem_toArray, List.getElem_cons_succ, List.getElem_cons_zero, Act.put, List.setIfInBounds_toArray, List.set_cons_succ, List.set_cons_zero, Nat.reduceAdd]
  refine AT.take (i := 4) (v := .slice s.a2 d.po.length s.c2) rfl (by decide) (by kernel_rfl) (by kernel_rfl) (by kernel_rfl) (by kernel_rfl) (fun _ _ _ h => h) (Or.inl ⟨by rfl, fun w' hS' => ?_⟩) s4 ?_
  · obtain ⟨p4, p6, p7⟩ := hS'
    go_simp
  simp only [List.getElem_toArray, List.getElem_cons_succ, List.getElem_cons_zero, Act.put, List.setIfInBounds_toArray, List.set_cons_succ, List.set_cons_zero, Nat.reduceAdd]
  refine AT.take (i := 6) (v := .pointer (some ⟨w.heap.size, 7, none⟩)) rfl (by decide) (by kernel_rfl) (by kernel_rfl) (by kernel_rfl) (by kernel_rfl) (fun _ _ _ h => h) (Or.inl ⟨by rfl, fun w' hS' => by rfl⟩) s4 ?_
  simp only [List.getElem_toArray, List.getElem_cons_succ, List.getElem_cons_zero, Act.put, List.setIfInBounds_toArray, List.set_cons_succ, List.set_cons_zero, Nat.reduceAdd]
  refine AT.take (i := 7) (v := .slice s.a3 d.fr.length s.c3) rfl (by decide) (by kernel_rfl) (by kernel_rfl) (by kernel_rfl) (by kernel_rfl) (fun _ _ _ h => h) (Or.inl ⟨by rfl, fun w' hS' => ?_⟩) s4 ?_
  · obtain ⟨p4, p6, p7⟩ := hS'
    go_simp
  simp only [List.getElem_toArray, List.getElem_cons_succ, List.getElem_cons_zero, Act.put, List.setIfInBounds_toArray, List.set_cons_succ, List.set_cons_zero, Nat.reduceAdd]
  refine AT.call1 (i := 2) (by kernel_rfl) rfl (by rfl) (.tmp 12) _ rfl (.slice s.a1 d.pg.length s.c1) (by rfl) (enters_of Try.func31 (by kernel_rfl) rfl) ((HC.out s.a1 s.c1 d.pg _ hp (HL0.out _ t4.bel).r1 t4).mono ?_)
  rintro e w5 ⟨a1, c1, rfl, o1, b1, t5⟩
  have s5 := HS.out _ t5
  refine ⟨_, rfl, s5, ?_⟩
  simp only [List.getElem_toArray, List.getElem_cons_succ, List.getElem_cons_zero, Act.put, List.setIfInBounds_toArray, List.set_cons_succ, List.set_cons_zero, Nat.reduceAdd]
  refine AT.take (i := 9) (v := .pointer (some ⟨w.heap.size, 4, none⟩)) rfl (by decide) (by kernel_rfl) (by kernel_rfl) (by kernel_rfl) (by kernel_rfl) (fun _ _ _ h => h) (Or.inl ⟨by rfl, fun w' hS' => by rfl⟩) s5 ?_
  simp only [List.getElem_toArray, List.getElem_cons_succ, List.getElem_cons_zero, Act.put, List.setIfInBounds_toArray, List.set_cons_succ, List.set_cons_zero, Nat.reduceAdd]
  refine AT.call1 (i := 5) (by kernel_rfl) rfl (by rfl) (.tmp 15) _ rfl (.slice s.a2 d.po.length s.c2) (by rfl) (enters_of Try.func31 (by kernel_rfl) rfl) ((HC.out s.a2 s.c2 d.po _ ho (HL0.out _ t5.bel).r2 t5).mono ?_)
  rintro e w6 ⟨a2, c2, rfl, o2, b2, t6⟩
  have s6 := HS.out _ t6
  have o12 := o1.below b2
  refine ⟨_, rfl, s6, ?_⟩
  simp only [List.getElem_toArray, List.getElem_cons_succ, List.getElem_cons_zero, Act.put, List.setIfInBounds_toArray, List.set_cons_succ, List.set_cons_zero, Nat.reduceAdd]
  refine AT.call1 (i := 8) (by kernel_rfl) rfl (by rfl) (.tmp 18) _ rfl (.slice s.a3 d.fr.length s.c3) (by rfl) (enters_of Try.func31 (by kernel_rfl) rfl) ((HC.out s.a3 s.c3 d.fr _ hf (HL0.out _ t6.bel).r3 t6).mono ?_)
  rintro e w7 ⟨a3, c3, rfl, o3, b3, t7⟩
  have s7 := HS.out _ t7
  have g1 := o12.below b3
  have g2 := o2.below b3
  refine ⟨_, rfl, s7, ?_⟩
  simp only [List.getElem_toArray, List.getElem_cons_succ, List.getElem_cons_zero, Act.put, List.setIfInBounds_toArray, List.set_cons_succ, List.set_cons_zero, Nat.reduceAdd]
  have y4 := t7.box.free 4 (by simp)
  have y6 := t7.box.free 6 (by simp)
  have y7 := t7.box.free 7 (by simp)
  obtain ⟨p4, p6, p7⟩ := s7
  refine AT.store (i := 10) (w' := (w7.setCell ⟨w.heap.size, 4, none⟩ (.slice a1 d.pg.length c1))) (by kernel_rfl) rfl (by decide) (by rfl) ?_ ?_
  · go_simp
  simp only [List.getElem_toArray, List.getElem_cons_succ, List.getElem_cons_zero, Act.put, List.setIfInBounds_toArray, List.set_cons_succ, List.set_cons_zero, Nat.reduceAdd]
  refine AT.plain (i := 11) (w' := (w7.setCell ⟨w.heap.size, 4, none⟩ (.slice a1 d.pg.length c1))) (u := .pointer (some ⟨w.heap.size, 6, none⟩)) (by kernel_rfl) rfl (by decide) (by rfl) (by rfl) ?_
  simp only [List.getElem_toArray, List.getElem_cons_succ, List.getElem_cons_zero, Act.put, List.setIfInBounds_toArray, List.set_cons_succ, List.set_cons_zero, Nat.reduceAdd]
  refine AT.store (i := 12) (w' := ((w7.setCell ⟨w.heap.size, 4, none⟩ (.slice a1 d.pg.length c1)).setCell ⟨w.heap.size, 6, none⟩ (.slice a2 d.po.length c2))) (by kernel_rfl) rfl (by decide) (by rfl) ?_ ?_
  · go_simp
  simp only [List.getElem_toArray, List.getElem_cons_succ, List.getElem_cons_zero, Act.put, List.setIfInBounds_toArray, List.set_cons_succ, List.set_cons_zero, Nat.reduceAdd]
  refine AT.plain (i := 13) (w' := ((w7.setCell ⟨w.heap.size, 4, none⟩ (.slice a1 d.pg.length c1)).setCell ⟨w.heap.size, 6, none⟩ (.slice a2 d.po.length c2))) (u := .pointer (some ⟨w.heap.size, 7, none⟩)) (by kernel_rfl) rfl (by decide) (by rfl) (by rfl) ?_
  simp only [List.getElem_toArray, List.getElem_cons_succ, List.getElem_cons_zero, Act.put, List.setIfInBounds_toArray, List.set_cons_succ, List.set_cons_zero, Nat.reduceAdd]
  refine AT.store (i := 14) (w' := (((w7.setCell ⟨w.heap.size, 4, none⟩ (.slice a1 d.pg.length c1)).setCell ⟨w.heap.size, 6, none⟩ (.slice a2 d.po.length c2)).setCell ⟨w.heap.size, 7, none⟩ (.slice a3 d.fr.length c3))) (by kernel_rfl) rfl (by decide) (by rfl) ?_ ?_
  · go_simp
  simp only [List.getElem_toArray, List.getElem_cons_succ, List.getElem_cons_zero, Act.put, List.setIfInBounds_toArray, List.set_cons_succ, List.set_cons_zero, Nat.reduceAdd]
  refine AT.done (by kernel_rfl) ?_ _
  have u := ((t7.set4 (.slice a1 d.pg.length c1)).set6 (.slice a2 d.po.length c2)).set7 (.slice a3 d.fr.length c3)
  have x1 := ((g1.set (B := w.heap.size) (by omega) 4 (.slice a1 d.pg.length c1)).set (B := w.heap.size) (by omega) 6 (.slice a2 d.po.length c2)).set (B := w.heap.size) (by omega) 7 (.slice a3 d.fr.length c3)
  have x2 := ((g2.set (B := w.heap.size) (by have := t5.lt; omega) 4 (.slice a1 d.pg.length c1)).set (B := w.heap.size) (by have := t5.lt; omega) 6 (.slice a2 d.po.length c2)).set (B := w.heap.size) (by have := t5.lt; omega) 7 (.slice a3 d.fr.length c3)
  have x3 := ((o3.set (B := w.heap.size) (by have := t6.lt; omega) 4 (.slice a1 d.pg.length c1)).set (B := w.heap.size) (by have := t6.lt; omega) 6 (.slice a2 d.po.length c2)).set (B := w.heap.size) (by have := t6.lt; omega) 7 (.slice a3 d.fr.length c3)
  have hh : ((((w7.setCell ⟨w.heap.size, 4, none⟩ (.slice a1 d.pg.length c1)).setCell ⟨w.heap.size, 6, none⟩ (.slice a2 d.po.length c2)).setCell ⟨w.heap.size, 7, none⟩ (.slice a3 d.fr.length c3))).heap.size = w7.heap.size := by simp
  obtain ⟨W7, hW7⟩ : ∃ W7, (((w7.setCell ⟨w.heap.size, 4, none⟩ (.slice a1 d.pg.length c1)).setCell ⟨w.heap.size, 6, none⟩ (.slice a2 d.po.length c2)).setCell ⟨w.heap.size, 7, none⟩ (.slice a3 d.fr.length c3)) = W7 := ⟨_, rfl⟩
  rw [hW7] at u x1 x2 x3 hh ⊢
  have e0 := u.box.cell 0 (by simp)
  have e1 := u.box.cell 1 (by simp)
  have e2 := u.box.cell 2 (by simp)
  have e3 := u.box.cell 3 (by simp)
  have e4 := u.box.cell 4 (by simp)
  have e5 := u.box.cell 5 (by simp)
  have e6 := u.box.cell 6 (by simp)
  have e7 := u.box.cell 7 (by simp)
  have j0 := u.res.cell 0 (by simp)
  have j1 := u.res.cell 1 (by simp)
  have j2 := u.res.cell 2 (by simp)
  have j3 := u.res.cell 3 (by simp)
  have j4 := u.res.cell 4 (by simp)
  have j5 := u.res.cell 5 (by simp)
  have j6 := u.res.cell 6 (by simp)
  have j7 := u.res.cell 7 (by simp)
  have n0 := u.res.free 0 (by simp)
  have n1 := u.res.free 1 (by simp)
  have n2 := u.res.free 2 (by simp)
  have n3 := u.res.free 3 (by simp)
  have n4 := u.res.free 4 (by simp)
  have n5 := u.res.free 5 (by simp)
  have n6 := u.res.free 6 (by simp)
  have n7 := u.res.free 7 (by simp)
  simp only [List.getElem_cons_zero, List.getElem_cons_succ] at e0 e1 e2 e3 e4 e5 e6 e7 j0 j1 j2 j3 j4 j5 j6 j7
  have hz5 := t5.lt
  have hs12 := b2.size
  have hs23 := b3.size
  obtain ⟨q, ha⟩ := fin8 (m1 := w5.heap.size) (m2 := w6.heap.size) (hi := w7.heap.size) u ⟨x1.mono z4 (Nat.le_refl _), x2, x3, hz5, hs12, hs23⟩ (by omega) _ rfl
  have v0 := q.cell 0 (by simp)
  have v1 := q.cell 1 (by simp)
  have v2 := q.cell 2 (by simp)
  have v3 := q.cell 3 (by simp)
  have v4 := q.cell 4 (by simp)
  have v5 := q.cell 5 (by simp)
  have v6 := q.cell 6 (by simp)
  have v7 := q.cell 7 (by simp)
  simp only [List.getElem_cons_zero, List.getElem_cons_succ] at v0 v1 v2 v3 v4 v5 v6 v7
  have HV : Hid (_ ∧ _ ∧ _ ∧ _ ∧ _ ∧ _ ∧ _ ∧ _) := ⟨v0, v1, v2, v3, v4, v5, v6, v7⟩
  clear v0 v1 v2 v3 v4 v5 v6 v7 hW7 hh q x1 x2 x3 u
  go_wp2
  obtain ⟨v0, v1, v2, v3, v4, v5, v6, v7⟩ := HV.out
  exact bodyPost_ret (v := val d ⟨a1, c1, a2, c2, a3, c3⟩) (by simp [results, Try.results19, go_sem, v0, v1, v2, v3, v4, v5, v6, v7]) rfl ha
end Go.Proofs.Ytnfcpcejfajcfaa.LI

/- Contracts of spec.LoanOf, impl.loanPlace and impl.LoanOf, as the given laws call them. -/
namespace Go.Proofs.Ytnfcpcejfajcfaa.LJ
open Go.ChangeShapes Go.WideShapes Go.ChangeAt Go.RowKit
set_option linter.unusedVariables false
set_option linter.unusedSimpArgs false
set_option maxRecDepth 10000

open N0 (Ln)
open N1 (Sl val vals Lists LB lb_new)
open N4 (put8)
open Z0 (dat Row Lns Kp kval kvals dz sz0)
open LF (Btw OwnIn)
open LH (HL lob)
open LI (zo)

/-- The first loan of an inode to a client. -/
def fnd (c i : Int) : List Ln → Option Ln
  | [] => none
  | d :: r => if d.cl = c ∧ d.ino = i then some d else fnd c i r

theorem dat_zero (d : Ln) (r : List Ln) : dat (d :: r) 0 = d := rfl
theorem dat_succ (d : Ln) (r : List Ln) (k : Nat) : dat (d :: r) (k + 1) = dat r k := rfl

theorem fnd_some (c i : Int) : ∀ (ds : List Ln) (k : Nat), k < ds.length → (∀ j, j < k → ¬ ((dat ds j).cl = c ∧ (dat ds j).ino = i)) → (dat ds k).cl = c ∧ (dat ds k).ino = i → fnd c i ds = some (dat ds k)
  | [], k, hk, _, _ => by simp at hk
  | d :: r, 0, _, _, h => by rw [dat_zero] at h ⊢; rw [fnd, if_pos h]
  | d :: r, k + 1, hk, hn, h => by
    have h0 := hn 0 (Nat.succ_pos _)
    rw [dat_zero] at h0
    rw [dat_succ] at h ⊢
    rw [fnd, if_neg h0]
    exact fnd_some c i r k (by simpa using hk) (fun j hj => by have := hn (j + 1) (by omega); rwa [dat_succ] at this) h

theorem fnd_none (c i : Int) : ∀ (ds : List Ln), (∀ j, j < ds.length → ¬ ((dat ds j).cl = c ∧ (dat ds j).ino = i)) → fnd c i ds = none
  | [], _ => rfl
  | d :: r, h => by
    have h0 := h 0 (by simp)
    rw [dat_zero] at h0
    rw [fnd, if_neg h0]
    exact fnd_none c i r (fun j hj => by have := h (j + 1) (by simpa using hj); rwa [dat_succ] at this)

def got (c i : Int) (ds : List Ln) : Ln := (fnd c i ds).getD dz
def has (c i : Int) (ds : List Ln) : Bool := (fnd c i ds).isSome

/-- What LoanOf answers. -/
def Ans (D : Ln) (ok : Bool) (w : World) (e : Ending) (w' : World) : Prop := ∃ s' m1 m2 hi, e = .returned (.tuple #[val D s', .bool ok]) ∧ HL w.heap.size m1 m2 hi s' D.pg D.po D.fr w' ∧ hi ≤ w'.heap.size ∧ Below w.heap.size w w'

variable {w W W' : World} {k : Kp} {a : Option Addr} {c : Nat}

/-- The two blocks: the keeper, the result. -/
structure Lf (w : World) (k : Kp) (a : Option Addr) (c : Nat) (W : World) : Prop where
  box : K0.Blk w.heap.size (kvals k a c) W
  res : K0.Blk (w.heap.size + 1) N4.zero8 W
  bel : Below w.heap.size w W
theorem Lf.below (h : Lf w k a c W) (hb : Below W.heap.size W W') : Lf w k a c W' := ⟨h.box.below hb, h.res.below hb, h.bel.trans (hb.mono h.bel.size)⟩
abbrev kob (k : Kp) (a : Option Addr) (c : Nat) : Obj := .cells #[.string k.mem, .string k.dur, .slice a k.ds.length c, .int .i64 k.ck] 36
theorem lf_new (w : World) (k : Kp) (a : Option Addr) (c : Nat) : Lf w k a c ((w.alloc (kob k a c)).alloc zo) :=
  ⟨(K0.blk_new (kvals k a c) w 36).alloc _, K0.blk_at N4.zero8 _ 30 (by simp), ((Below.refl _ _).alloc (Nat.le_refl _) _).alloc (by simp) _⟩

/-- A loan is laid into the result's cells. -/
theorem fin {d : Ln} {s : Sl} {m1 m2 hi : Nat} (h : Lf w k a c W) (hl : HL (w.heap.size + 2) m1 m2 hi s d.pg d.po d.fr W) (hh : hi ≤ W.heap.size) (ok : Bool) (W' : World)
    (hW : (((((((W.setCell ⟨w.heap.size + 1, 0, none⟩ (.int .i64 d.ino)).setCell ⟨w.heap.size + 1, 1, none⟩ (.int .i64 d.cl)).setCell ⟨w.heap.size + 1, 2, none⟩ (.int .i64 d.un)).setCell ⟨w.heap.size + 1, 3, none⟩ (.string d.rc)).setCell ⟨w.heap.size + 1, 4, none⟩ (.slice s.a1 d.pg.length s.c1)).setCell ⟨w.heap.size + 1, 5, none⟩ (.string d.sav)).setCell ⟨w.heap.size + 1, 6, none⟩ (.slice s.a2 d.po.length s.c2)).setCell ⟨w.heap.size + 1, 7, none⟩ (.slice s.a3 d.fr.length s.c3) = W') :
    K0.Blk (w.heap.size + 1) (vals d s) W' ∧ Ans d ok w (.returned (.tuple #[val d s, .bool ok])) W' := by
  have q := put8 (y0 := .int .i64 d.ino) (y1 := .int .i64 d.cl) (y2 := .int .i64 d.un) (y3 := .string d.rc) (y4 := .slice s.a1 d.pg.length s.c1) (y5 := .string d.sav) (y6 := .slice s.a2 d.po.length s.c2) (y7 := .slice s.a3 d.fr.length s.c3) h.res
  have hlt := h.res.lt
  have t : Btw (w.heap.size + 1) (w.heap.size + 2) W W' := by
    rw [← hW]
    exact ((((((((Btw.refl _ _ W).set (p := ⟨w.heap.size + 1, 0, none⟩) (Nat.le_refl _) (Nat.lt_succ_self _) _).set (p := ⟨w.heap.size + 1, 1, none⟩) (Nat.le_refl _) (Nat.lt_succ_self _) _).set (p := ⟨w.heap.size + 1, 2, none⟩) (Nat.le_refl _) (Nat.lt_succ_self _) _).set (p := ⟨w.heap.size + 1, 3, none⟩) (Nat.le_refl _) (Nat.lt_succ_self _) _).set (p := ⟨w.heap.size + 1, 4, none⟩) (Nat.le_refl _) (Nat.lt_succ_self _) _).set (p := ⟨w.heap.size + 1, 5, none⟩) (Nat.le_refl _) (Nat.lt_succ_self _) _).set (p := ⟨w.heap.size + 1, 6, none⟩) (Nat.le_refl _) (Nat.lt_succ_self _) _).set (p := ⟨w.heap.size + 1, 7, none⟩) (Nat.le_refl _) (Nat.lt_succ_self _) _
  rw [hW] at q
  have hl' := hl.btw t (Or.inr (Nat.le_refl _))
  exact ⟨q, s, m1, m2, hi, rfl, ⟨hl'.p1.mono (by omega) (Nat.le_refl _), hl'.p2, hl'.p3, by have := hl'.le; omega⟩, Nat.le_trans hh t.size, h.bel.trans (t.below (by omega) (by omega))⟩

theorem hl_none {lo m : Nat} (W : World) (h : lo ≤ m) : HL lo m m m sz0 dz.pg dz.po dz.fr W := ⟨Or.inl rfl, Or.inl rfl, Or.inl rfl, h, Nat.le_refl _, Nat.le_refl _⟩

def Small (ds : List Ln) : Prop := ∀ j, j < ds.length → (dat ds j).pg.length ≤ 1048576 ∧ (dat ds j).po.length ≤ 1048576 ∧ (dat ds j).fr.length ≤ 1048576 ∧ (dat ds j).rc.size ≤ 1048576 ∧ (dat ds j).sav.size ≤ 1048576

set_option maxHeartbeats 4000000 in
theorem spec_LoanOf (k : Kp) (a : Option Addr) (c : Nat) (ss : Nat → Sl) (cl ino : Int) (w : World) (hn : k.ds.length ≤ 1048576) (hz : Small k.ds) (hR : Lns w a k.ds ss) :
    Calls Try.prog 5 #[kval k a c, .int .i64 cl, .int .i64 ino] w (Ans (got cl ino k.ds) (has cl ino k.ds) w) := by
  have t0 := lf_new w k a c
  have c2 := t0.box.c2
  have HR0 : Hid (Lns ((w.alloc (kob k a c)).alloc zo) a k.ds ss) := hR.below t0.bel
  clear hR
  obtain ⟨W0, hW0⟩ : ∃ W0, (w.alloc (kob k a c)).alloc zo = W0 := ⟨_, rfl⟩
  rw [hW0] at t0 c2 HR0
  go_enter Try.func5, Try.ntmps5
  go_wp2
  go_loop [8] (fun i => ∃ j : Nat, j ≤ k.ds.length ∧ i = .int .i64 j ∧ Hid (∀ x, x < j → ¬ ((dat k.ds x).cl = cl ∧ (dat k.ds x).ino = ino))) (fun i => k.ds.length - (intOf i).toNat)
  case atStart => exact ⟨0, Nat.zero_le _, rfl, fun x hx => absurd hx (Nat.not_lt_zero _)⟩
  case round =>
    obtain ⟨j, hj, rfl, HN⟩ := hrel
    by_cases hlt : j < k.ds.length
    · obtain ⟨b, off, rfl, hlt0, hc⟩ := HR0.out.row.get hlt
      obtain ⟨y0, y1, y2, y3, y4, y5, y6, y7⟩ := hc j hlt
      have ls := HR0.out.sub j hlt
      obtain ⟨z1, z2, z3, -, -⟩ := hz j hlt
      have e1 : (0 : Int) ≤ (j : Int) := by omega
      have e2 : (j : Int) < (k.ds.length : Int) := by omega
      have HF : Hid ((dat k.ds j).cl = cl → (dat k.ds j).ino = ino → got cl ino k.ds = dat k.ds j ∧ has cl ino k.ds = true) := fun h1 h2 => by
        have := fnd_some cl ino k.ds j hlt HN.out ⟨h1, h2⟩
        exact ⟨by rw [got, this]; rfl, by rw [has, this]; rfl⟩
      have HM : Hid (¬ ((dat k.ds j).cl = cl ∧ (dat k.ds j).ino = ino) → ∀ x, x < j + 1 → ¬ ((dat k.ds x).cl = cl ∧ (dat k.ds x).ino = ino)) := fun h x hx => by
        rcases Nat.lt_or_eq_of_le (Nat.le_of_lt_succ hx) with h1 | h1
        · exact HN.out x h1
        · rw [h1]; exact h
      obtain ⟨d, ed⟩ : ∃ d, dat k.ds j = d := ⟨_, rfl⟩
      obtain ⟨s, es⟩ : ∃ s, ss j = s := ⟨_, rfl⟩
      rw [ed, es] at ls
      rw [ed] at y0 y1 y2 y3 y4 y5 y6 y7 z1 z2 z3 HF HM
      rw [es] at y4 y6 y7
      clear ed es hc HR0 hz HN
      have HA : Hid (d.cl = cl → d.ino = ino → ∀ e w', Ans d true w e w' → Ans (got cl ino k.ds) (has cl ino k.ds) w e w') := fun h1 h2 e w' h => by
        obtain ⟨g1, g2⟩ := HF.out h1 h2
        rw [g1, g2]
        exact h
      clear HF
      by_cases h1 : d.cl = cl
      · by_cases h2 : d.ino = ino
        · have HB : Hid (∀ e w', Ans d true w e w' → Ans (got cl ino k.ds) (has cl ino k.ds) w e w') := HA.out h1 h2
          have cp := LI.spec_copy d s W0 z1 z2 z3 ls
          have hlt1 := t0.res.lt
          clear HA HM ls
          subst h1 h2
          go_wp2_with (go_at_call 15; refine cp.mono ?_; rintro e w1 ⟨s1, m1, m2, hi, rfl, hl, hh, b1⟩; have t1 := t0.below b1; have j0 := t1.res.cell 0 (by simp); have j1 := t1.res.cell 1 (by simp); have j2 := t1.res.cell 2 (by simp); have j3 := t1.res.cell 3 (by simp); have j4 := t1.res.cell 4 (by simp); have j5 := t1.res.cell 5 (by simp); have j6 := t1.res.cell 6 (by simp); have j7 := t1.res.cell 7 (by simp); simp only [List.getElem_cons_zero, List.getElem_cons_succ] at j0 j1 j2 j3 j4 j5 j6 j7; have n0 := t1.res.free 0 (by simp); have n1 := t1.res.free 1 (by simp); have n2 := t1.res.free 2 (by simp); have n3 := t1.res.free 3 (by simp); have n4 := t1.res.free 4 (by simp); have n5 := t1.res.free 5 (by simp); have n6 := t1.res.free 6 (by simp); have n7 := t1.res.free 7 (by simp))
          have hle := hl.le
          obtain ⟨q, ha⟩ := fin t1 ⟨hl.p1.mono (lo' := w.heap.size + 2) (by omega) (Nat.le_refl _), hl.p2, hl.p3, by omega, by omega, by omega⟩ hh true _ rfl
          have v0 := q.cell 0 (by simp)
          have v1 := q.cell 1 (by simp)
          have v2 := q.cell 2 (by simp)
          have v3 := q.cell 3 (by simp)
          have v4 := q.cell 4 (by simp)
          have v5 := q.cell 5 (by simp)
          have v6 := q.cell 6 (by simp)
          have v7 := q.cell 7 (by simp)
          simp only [List.getElem_cons_zero, List.getElem_cons_succ] at v0 v1 v2 v3 v4 v5 v6 v7
          exact bodyPost_ret (v := .tuple #[val d s1, .bool true]) (by simp [results, Try.results5, go_sem, v0, v1, v2, v3, v4, v5, v6, v7]) rfl (HB.out _ _ ha)
        · have HM' : Hid (∀ x, x < j + 1 → ¬ ((dat k.ds x).cl = cl ∧ (dat k.ds x).ino = ino)) := HM.out (fun h => h2 h.2)
          clear HA HM ls
          subst h1
          go_wp2
          go_round
          case rel => exact ⟨j + 1, by omega, by go_num, HM'⟩
          case measure => simp [intOf]; omega
      · have HM' : Hid (∀ x, x < j + 1 → ¬ ((dat k.ds x).cl = cl ∧ (dat k.ds x).ino = ino)) := HM.out (fun h => h1 h.1)
        clear HA HM ls
        go_wp2
        go_round
        case rel => exact ⟨j + 1, by omega, by go_num, HM'⟩
        case measure => simp [intOf]; omega
    · obtain rfl : j = k.ds.length := by omega
      have HB : Hid (∀ e w', Ans dz false w e w' → Ans (got cl ino k.ds) (has cl ino k.ds) w e w') := fun e w' h => by
        have := fnd_none cl ino k.ds HN.out
        rw [got, has, this]
        exact h
      have hlt1 := t0.res.lt
      clear HR0 hz HN
      have j0 := t0.res.cell 0 (by simp)
      have j1 := t0.res.cell 1 (by simp)
      have j2 := t0.res.cell 2 (by simp)
      have j3 := t0.res.cell 3 (by simp)
      have j4 := t0.res.cell 4 (by simp)
      have j5 := t0.res.cell 5 (by simp)
      have j6 := t0.res.cell 6 (by simp)
      have j7 := t0.res.cell 7 (by simp)
      simp only [List.getElem_cons_zero, List.getElem_cons_succ] at j0 j1 j2 j3 j4 j5 j6 j7
      have n0 := t0.res.free 0 (by simp)
      have n1 := t0.res.free 1 (by simp)
      have n2 := t0.res.free 2 (by simp)
      have n3 := t0.res.free 3 (by simp)
      have n4 := t0.res.free 4 (by simp)
      have n5 := t0.res.free 5 (by simp)
      have n6 := t0.res.free 6 (by simp)
      have n7 := t0.res.free 7 (by simp)
      go_wp2
      obtain ⟨q, ha⟩ := fin (d := dz) (s := sz0) t0 (hl_none W0 hlt1) (Nat.le_refl _) false _ rfl
      have v0 := q.cell 0 (by simp)
      have v1 := q.cell 1 (by simp)
      have v2 := q.cell 2 (by simp)
      have v3 := q.cell 3 (by simp)
      have v4 := q.cell 4 (by simp)
      have v5 := q.cell 5 (by simp)
      have v6 := q.cell 6 (by simp)
      have v7 := q.cell 7 (by simp)
      simp only [List.getElem_cons_zero, List.getElem_cons_succ, dz, sz0, List.length_nil] at v0 v1 v2 v3 v4 v5 v6 v7
      exact bodyPost_ret (v := .tuple #[val dz sz0, .bool false]) (by simp [results, Try.results5, go_sem, v0, v1, v2, v3, v4, v5, v6, v7, dz, sz0]) rfl (HB.out _ _ ha)
end Go.Proofs.Ytnfcpcejfajcfaa.LJ

/- Contracts of impl.loanPlace and impl.LoanOf, as the given laws call them. -/
namespace Go.Proofs.Ytnfcpcejfajcfaa.LK
open Go.ChangeShapes Go.WideShapes Go.ChangeAt Go.RowKit
set_option linter.unusedVariables false
set_option linter.unusedSimpArgs false
set_option maxRecDepth 10000

open N0 (Ln)
open N1 (Sl val vals Lists LB lb_new)
open Z0 (dat Row Lns Kp kval kvals dz sz0)
open LH (HL lob)
open LI (zo)
open LJ (Ans Lf lf_new kob got has Small fnd_some fnd_none fin hl_none)

/-- Whether a loan is of an inode to a client. -/
def isOf (cl ino : Int) (d : Ln) : Bool := decide (d.ino = ino) && decide (d.cl = cl)

theorem place1 (d : Ln) (s : Sl) (cl ino : Int) (bi bc : Nat) (w : World) (hi : w.cell? ⟨bi, 0, none⟩ = some (.int .i64 ino)) (hc : w.cell? ⟨bc, 0, none⟩ = some (.int .i64 cl)) (hi' : bi < w.heap.size) (hc' : bc < w.heap.size) :
    Calls Try.prog 29 #[val d s, .pointer (some ⟨bi, 0, none⟩), .pointer (some ⟨bc, 0, none⟩)] w fun e w' => e = .returned (.bool (isOf cl ino d)) ∧ Below w.heap.size w w' := by
  have bx := lb_new d s w 30
  have n0 := K0.below_new w (lob d s)
  have c0 := bx.c0
  have c1 := bx.c1
  have i0 := (n0.cell (p := ⟨bi, 0, none⟩) hi').trans hi
  have i1 := (n0.cell (p := ⟨bc, 0, none⟩) hc').trans hc
  clear hi hc hi' hc'
  by_cases h1 : d.ino = ino
  · by_cases h2 : d.cl = cl
    · have e : isOf cl ino d = true := by simp [isOf, h1, h2]
      rw [e]
      clear e
      subst h1 h2
      go_enter Try.func29, Try.ntmps29
      go_wp2
      go_ret
      exact ⟨rfl, n0⟩
    · have e : isOf cl ino d = false := by simp [isOf, h2]
      rw [e]
      clear e
      subst h1
      have q : (d.cl == cl) = false := by simpa using h2
      go_enter Try.func29, Try.ntmps29
      go_wp2
      go_ret
      exact ⟨rfl, n0⟩
  · have e : isOf cl ino d = false := by simp [isOf, h1]
    rw [e]
    clear e
    go_enter Try.func29, Try.ntmps29
    go_wp2
    go_ret
    exact ⟨rfl, n0⟩

/-- The place of the first loan that is so, or -1. -/
def At (cl ino : Int) (ds : List Ln) (x : Int) : Prop := (x = -1 ∧ ∀ j, j < ds.length → isOf cl ino (dat ds j) = false) ∨ ∃ j, j < ds.length ∧ x = (j : Int) ∧ isOf cl ino (dat ds j) = true ∧ ∀ y, y < j → isOf cl ino (dat ds y) = false

set_option maxHeartbeats 2000000 in
theorem indexFunc (a : Option Addr) (c : Nat) (ds : List Ln) (ss : Nat → Sl) (cl ino : Int) (bi bc : Nat) (w : World) (hn : ds.length ≤ 1048576) (hR : Row w a ds ss) (hi : w.cell? ⟨bi, 0, none⟩ = some (.int .i64 ino)) (hc : w.cell? ⟨bc, 0, none⟩ = some (.int .i64 cl)) (hi' : bi < w.heap.size) (hc' : bc < w.heap.size) :
    Calls Try.prog 28 #[.slice a ds.length c, .func (.func 29) #[] #[.pointer (some ⟨bi, 0, none⟩), .pointer (some ⟨bc, 0, none⟩)]] w fun e w' => (∃ x, e = .returned (.int .i64 x) ∧ At cl ino ds x) ∧ Below w.heap.size w w' := by
  have HC : Hid (∀ W d s, Below w.heap.size w W → Calls Try.prog 29 #[val d s, .pointer (some ⟨bi, 0, none⟩), .pointer (some ⟨bc, 0, none⟩)] W fun e w' => e = .returned (.bool (isOf cl ino d)) ∧ Below W.heap.size W w') := fun W d s hb => place1 d s cl ino bi bc W ((hb.cell (p := ⟨bi, 0, none⟩) hi').trans hi) ((hb.cell (p := ⟨bc, 0, none⟩) hc').trans hc) (Nat.lt_of_lt_of_le hi' hb.size) (Nat.lt_of_lt_of_le hc' hb.size)
  have HR : Hid (∀ W, Below w.heap.size w W → Row W a ds ss) := fun W hb => hR.below hb
  clear hi hc hi' hc' hR
  go_enter Try.func28, Try.ntmps28
  go_wp2
  go_loopw [8] (fun i w' => ∃ j : Nat, j ≤ ds.length ∧ i = .int .i64 j ∧ Hid (∀ y, y < j → isOf cl ino (dat ds y) = false) ∧ Below w.heap.size w w') (fun i _ => ds.length - (intOf i).toNat)
  case atStart => exact ⟨0, Nat.zero_le _, rfl, fun x hx => absurd hx (Nat.not_lt_zero _), Below.refl _ _⟩
  case round =>
    obtain ⟨j, hj, rfl, HN, hbel⟩ := hrel
    by_cases hlt : j < ds.length
    · obtain ⟨b, off, rfl, hlt0, hc⟩ := (HR.out _ hbel).get hlt
      obtain ⟨y0, y1, y2, y3, y4, y5, y6, y7⟩ := hc j hlt
      have e1 : (0 : Int) ≤ (j : Int) := by omega
      have e2 : (j : Int) < (ds.length : Int) := by omega
      have hB := hbel.size
      have HY : Hid (isOf cl ino (dat ds j) = true → At cl ino ds (j : Int)) := fun h => Or.inr ⟨j, hlt, rfl, h, HN.out⟩
      have HM : Hid (isOf cl ino (dat ds j) = false → ∀ y, y < j + 1 → isOf cl ino (dat ds y) = false) := fun h y hy => by
        rcases Nat.lt_or_eq_of_le (Nat.le_of_lt_succ hy) with h1 | h1
        · exact HN.out y h1
        · rw [h1]; exact h
      obtain ⟨d, ed⟩ : ∃ d, dat ds j = d := ⟨_, rfl⟩
      obtain ⟨s, es⟩ : ∃ s, ss j = s := ⟨_, rfl⟩
      rw [ed] at y0 y1 y2 y3 y4 y5 y6 y7 HY HM
      rw [es] at y4 y6 y7
      have hcl := HC.out wr d s hbel
      clear ed es hc HR HN HC
      cases hq : isOf cl ino d with
      | true =>
        rw [hq] at hcl HY HM
        have HY' : Hid (At cl ino ds (j : Int)) := HY.out rfl
        clear HY HM hq
        go_wp2_with (go_at_call 29; refine hcl.mono ?_; rintro e w1 ⟨rfl, b1⟩)
        go_ret
        exact ⟨⟨_, rfl, HY'.out⟩, hbel.trans (b1.mono hB)⟩
      | false =>
        rw [hq] at hcl HY HM
        have HM' : Hid (∀ y, y < j + 1 → isOf cl ino (dat ds y) = false) := HM.out rfl
        clear HY HM hq
        go_wp2_with (go_at_call 29; refine hcl.mono ?_; rintro e w1 ⟨rfl, b1⟩)
        go_roundw
        case rel => exact ⟨j + 1, by omega, by go_num, HM', hbel.trans (b1.mono hB)⟩
        case measure => simp [intOf]; omega
    · obtain rfl : j = ds.length := by omega
      have HY : Hid (At cl ino ds (-1)) := Or.inl ⟨rfl, HN.out⟩
      clear HC HR HN
      go_wp2
      go_ret
      exact ⟨⟨_, rfl, HY.out⟩, hbel⟩

theorem hmf : ∀ (fn : Fn) (first cap : Array Value) (w : World), (Instr.makeFunc fn first cap).run Try.prog w = .ok (.func fn first cap) w := fun _ _ _ _ => rfl

set_option maxHeartbeats 2000000 in
theorem loanPlace (a : Option Addr) (c : Nat) (ds : List Ln) (ss : Nat → Sl) (cl ino : Int) (w : World) (hn : ds.length ≤ 1048576) (hR : Row w a ds ss) :
    Calls Try.prog 18 #[.slice a ds.length c, .int .i64 cl, .int .i64 ino] w fun e w' => (∃ x, e = .returned (.int .i64 x) ∧ At cl ino ds x) ∧ Below w.heap.size w w' := by
  have l1 : Below w.heap.size w ((w.alloc (.cells #[.int .i64 cl] 3)).alloc (.cells #[.int .i64 ino] 3)) := ((Below.refl _ _).alloc (Nat.le_refl _) _).alloc (by simp) _
  have k0 := (K0.blk_new [.int .i64 cl] w 3).alloc (.cells #[.int .i64 ino] 3)
  have k1 := K0.blk_at (B := w.heap.size + 1) [.int .i64 ino] (w.alloc (.cells #[.int .i64 cl] 3)) 3 (by simp)
  have hx := indexFunc a c ds ss cl ino (w.heap.size + 1) w.heap.size _ hn (hR.below l1) k1.c0 k0.c0 k1.lt k0.lt
  have hm0 := hmf
  clear hR k0 k1
  go_enter Try.func18, Try.ntmps18
  go_wp2_with (go_at_call 28; refine hx.mono ?_; rintro e w1 ⟨⟨x, rfl, hA⟩, b1⟩)
  go_ret
  exact ⟨⟨x, rfl, hA⟩, l1.trans (b1.mono l1.size)⟩

theorem least (p : Nat → Bool) : ∀ n, (∀ j, j < n → p j = false) ∨ ∃ j, j < n ∧ p j = true ∧ ∀ y, y < j → p y = false
  | 0 => Or.inl fun j hj => absurd hj (Nat.not_lt_zero _)
  | n + 1 => by
    rcases least p n with h | ⟨j, hj, h1, h2⟩
    · cases hp : p n with
      | true => exact Or.inr ⟨n, Nat.lt_succ_self _, hp, h⟩
      | false =>
        refine Or.inl fun j hj => ?_
        rcases Nat.lt_or_eq_of_le (Nat.le_of_lt_succ hj) with h' | h'
        · exact h j h'
        · rw [h']; exact hp
    · exact Or.inr ⟨j, by omega, h1, h2⟩

theorem at_ex (cl ino : Int) (ds : List Ln) : ∃ x, At cl ino ds x := by
  rcases least (fun j => isOf cl ino (dat ds j)) ds.length with h | ⟨j, hj, h1, h2⟩
  · exact ⟨-1, Or.inl ⟨rfl, h⟩⟩
  · exact ⟨j, Or.inr ⟨j, hj, rfl, h1, h2⟩⟩

theorem at_one {cl ino : Int} {ds : List Ln} {x y : Int} (h : At cl ino ds x) (k : At cl ino ds y) : x = y := by
  rcases h with ⟨rfl, h⟩ | ⟨j, hj, rfl, h1, h2⟩
  · rcases k with ⟨rfl, k⟩ | ⟨i, hi, rfl, k1, k2⟩
    · rfl
    · rw [h i hi] at k1; cases k1
  · rcases k with ⟨rfl, k⟩ | ⟨i, hi, rfl, k1, k2⟩
    · rw [k j hj] at h1; cases h1
    · rcases Nat.lt_trichotomy i j with q | q | q
      · rw [h2 i q] at k1; cases k1
      · rw [q]
      · rw [k2 j q] at h1; cases h1

set_option maxHeartbeats 4000000 in
theorem impl_LoanOf (k : Kp) (a : Option Addr) (c : Nat) (ss : Nat → Sl) (cl ino : Int) (w : World) (hn : k.ds.length ≤ 1048576) (hz : Small k.ds) (hR : Lns w a k.ds ss) :
    Calls Try.prog 7 #[kval k a c, .int .i64 cl, .int .i64 ino] w (Ans (got cl ino k.ds) (has cl ino k.ds) w) := by
  have t0 := lf_new w k a c
  have c2 := t0.box.c2
  have HR0 : Hid (∀ W, Below w.heap.size w W → Lns W a k.ds ss) := fun W hb => hR.below hb
  obtain ⟨x0, hx0⟩ := at_ex cl ino k.ds
  have hp := (loanPlace a c k.ds ss cl ino _ hn (HR0.out _ t0.bel).row).mono (R' := fun e w' => e = .returned (.int .i64 x0) ∧ Below ((w.alloc (kob k a c)).alloc zo).heap.size ((w.alloc (kob k a c)).alloc zo) w') fun e w' ⟨⟨x, he, hA⟩, hb⟩ => ⟨by rw [he, at_one hA hx0], hb⟩
  obtain ⟨W0, hW0⟩ : ∃ W0, (w.alloc (kob k a c)).alloc zo = W0 := ⟨_, rfl⟩
  rw [hW0] at t0 c2 hp
  have hlt1 := t0.res.lt
  clear hR
  have conv : ∀ y, isOf cl ino (dat k.ds y) = false → ¬ ((dat k.ds y).cl = cl ∧ (dat k.ds y).ino = ino) := fun y hy hh => by simp [isOf, hh.1, hh.2] at hy
  rcases hx0 with ⟨rfl, hA⟩ | ⟨j, hj, rfl, hA, hB⟩
  · have e := fnd_none cl ino k.ds (fun y hy => conv y (hA y hy))
    rw [got, has, e]
    clear conv hA hz HR0 e
    show Calls Try.prog 7 #[kval k a c, .int .i64 cl, .int .i64 ino] w (Ans dz false w)
    go_enter Try.func7, Try.ntmps7
    go_wp2_with (go_at_call 18; refine hp.mono ?_; rintro e w1 ⟨rfl, b1⟩; have t1 := t0.below b1; have j0 := t1.res.cell 0 (by simp); have j1 := t1.res.cell 1 (by simp); have j2 := t1.res.cell 2 (by simp); have j3 := t1.res.cell 3 (by simp); have j4 := t1.res.cell 4 (by simp); have j5 := t1.res.cell 5 (by simp); have j6 := t1.res.cell 6 (by simp); have j7 := t1.res.cell 7 (by simp); simp only [List.getElem_cons_zero, List.getElem_cons_succ] at j0 j1 j2 j3 j4 j5 j6 j7; have n0 := t1.res.free 0 (by simp); have n1 := t1.res.free 1 (by simp); have n2 := t1.res.free 2 (by simp); have n3 := t1.res.free 3 (by simp); have n4 := t1.res.free 4 (by simp); have n5 := t1.res.free 5 (by simp); have n6 := t1.res.free 6 (by simp); have n7 := t1.res.free 7 (by simp))
    obtain ⟨q, ha⟩ := fin (d := dz) (s := sz0) t1 (hl_none w1 (Nat.le_trans hlt1 b1.size)) (Nat.le_refl _) false _ rfl
    have v0 := q.cell 0 (by simp)
    have v1 := q.cell 1 (by simp)
    have v2 := q.cell 2 (by simp)
    have v3 := q.cell 3 (by simp)
    have v4 := q.cell 4 (by simp)
    have v5 := q.cell 5 (by simp)
    have v6 := q.cell 6 (by simp)
    have v7 := q.cell 7 (by simp)
    simp only [List.getElem_cons_zero, List.getElem_cons_succ, dz, sz0, List.length_nil] at v0 v1 v2 v3 v4 v5 v6 v7
    exact bodyPost_ret (v := .tuple #[val dz sz0, .bool false]) (by simp [results, Try.results7, go_sem, v0, v1, v2, v3, v4, v5, v6, v7, dz, sz0]) rfl ha
  · have hm : (dat k.ds j).cl = cl ∧ (dat k.ds j).ino = ino := by
      simp [isOf] at hA
      exact ⟨hA.2, hA.1⟩
    have e := fnd_some cl ino k.ds j hj (fun y hy => conv y (hB y hy)) hm
    rw [got, has, e]
    show Calls Try.prog 7 #[kval k a c, .int .i64 cl, .int .i64 ino] w (Ans (dat k.ds j) true w)
    obtain ⟨b, off, rfl, -, -⟩ := (HR0.out _ t0.bel).row.get hj
    have HC : Hid (∀ W, Below w.heap.size w W → Z0.At W b (off + j * 8) (dat k.ds j) (ss j) ∧ Lists W (dat k.ds j) (ss j)) := fun W hb => by
      obtain ⟨b', off', he, hlt0, hc⟩ := (HR0.out _ hb).row.get hj
      cases he
      exact ⟨hc j hj, (HR0.out _ hb).sub j hj⟩
    obtain ⟨z1, z2, z3, z4, z5⟩ := hz j hj
    obtain ⟨d, ed⟩ : ∃ d, dat k.ds j = d := ⟨_, rfl⟩
    obtain ⟨s, es⟩ : ∃ s, ss j = s := ⟨_, rfl⟩
    rw [ed, es] at HC
    rw [ed] at z1 z2 z3 z4 z5
    rw [ed]
    have HK : Hid (∀ W, Lists W d s → Calls Try.prog 19 #[val d s] W (LI.Ans d W)) := fun W h => LI.impl_copy d s W z1 z2 z3 (by omega) (by omega) h
    have e1 : (0 : Int) ≤ (j : Int) := by omega
    have e2 : (j : Int) < (k.ds.length : Int) := by omega
    clear conv hA hB hz HR0 e hm ed es
    go_enter Try.func7, Try.ntmps7
    go_wp2_with (first
      | (go_at_call 18; refine hp.mono ?_; rintro e w1 ⟨rfl, b1⟩; have t1 := t0.below b1; have c2b := t1.box.c2; obtain ⟨⟨y0, y1, y2, y3, y4, y5, y6, y7⟩, ls⟩ := HC.out _ t1.bel)
      | (go_at_call 19; refine (HK.out _ ls).mono ?_; rintro e w2 ⟨s1, m1, m2, hi, rfl, hl, hh, b2⟩; have t2 := t1.below b2; have j0 := t2.res.cell 0 (by simp); have j1 := t2.res.cell 1 (by simp); have j2 := t2.res.cell 2 (by simp); have j3 := t2.res.cell 3 (by simp); have j4 := t2.res.cell 4 (by simp); have j5 := t2.res.cell 5 (by simp); have j6 := t2.res.cell 6 (by simp); have j7 := t2.res.cell 7 (by simp); simp only [List.getElem_cons_zero, List.getElem_cons_succ] at j0 j1 j2 j3 j4 j5 j6 j7; have n0 := t2.res.free 0 (by simp); have n1 := t2.res.free 1 (by simp); have n2 := t2.res.free 2 (by simp); have n3 := t2.res.free 3 (by simp); have n4 := t2.res.free 4 (by simp); have n5 := t2.res.free 5 (by simp); have n6 := t2.res.free 6 (by simp); have n7 := t2.res.free 7 (by simp)))
    have hle := hl.le
    have hb1 := b1.size
    obtain ⟨q, ha⟩ := fin t2 ⟨hl.p1.mono (lo' := w.heap.size + 2) (by omega) (Nat.le_refl _), hl.p2, hl.p3, by omega, by omega, by omega⟩ hh true _ rfl
    have v0 := q.cell 0 (by simp)
    have v1 := q.cell 1 (by simp)
    have v2 := q.cell 2 (by simp)
    have v3 := q.cell 3 (by simp)
    have v4 := q.cell 4 (by simp)
    have v5 := q.cell 5 (by simp)
    have v6 := q.cell 6 (by simp)
    have v7 := q.cell 7 (by simp)
    simp only [List.getElem_cons_zero, List.getElem_cons_succ] at v0 v1 v2 v3 v4 v5 v6 v7
    exact bodyPost_ret (v := .tuple #[val d s1, .bool true]) (by simp [results, Try.results7, go_sem, v0, v1, v2, v3, v4, v5, v6, v7]) rfl ha
end Go.Proofs.Ytnfcpcejfajcfaa.LK

/- What the exact law over LoanOf keeps: its keeper, a copy of it, two loans that were handed out. -/
namespace Go.Proofs.Ytnfcpcejfajcfaa.LL1
open Go.ChangeShapes Go.WideShapes Go.ChangeAt Go.RowKit
set_option linter.unusedVariables false
set_option linter.unusedSimpArgs false
set_option maxRecDepth 10000

open N0 (Ln)
open N1 (Sl val vals Lists LB lb_new)
open Z0 (dat Row Lns Kp kval kvals dz sz0)
open Z3 (A)
open LF (Btw)
open LH (HL lob)
open LJ (fnd got Small)

theorem fnd_in (c i : Int) : ∀ (ds : List Ln) (d : Ln), fnd c i ds = some d → ∃ j, j < ds.length ∧ d = dat ds j
  | [], d, h => by cases h
  | x :: r, d, h => by
    rw [fnd] at h
    split at h
    · cases h
      exact ⟨0, by simp, rfl⟩
    · obtain ⟨j, hj, he⟩ := fnd_in c i r d h
      exact ⟨j + 1, by simpa using hj, by rw [LJ.dat_succ]; exact he⟩

theorem got_small {c i : Int} {ds : List Ln} (h : Small ds) : (got c i ds).pg.length ≤ 1048576 ∧ (got c i ds).po.length ≤ 1048576 ∧ (got c i ds).fr.length ≤ 1048576 := by
  unfold got
  cases e : fnd c i ds with
  | none => exact ⟨Nat.zero_le _, Nat.zero_le _, Nat.zero_le _⟩
  | some d =>
    obtain ⟨j, hj, rfl⟩ := fnd_in c i ds d e
    obtain ⟨z1, z2, z3, -, -⟩ := h j hj
    exact ⟨z1, z2, z3⟩

theorem small_of {ds : List Ln} (hs : ds.length + Z1.tot ds ds.length ≤ 1048576) : Small ds := fun j hj => by
  have h := Z1.tot_one hj
  exact N12.sizes (d := dat ds j) (by omega)

variable {w W W' : World} {k : Kp} {a : Option Addr} {c : Nat} {ss : Nat → Sl} {D : Ln} {sw sg : Sl} {Bw lo1 n1 n2 hi1 g hix Bg lo3 p1 p2 hi3 : Nat} {z1 z2 z3 : List Int}

/-- The law's keeper; the loan that was handed out first, and the second one; between them lies the copy. -/
structure K (w : World) (k : Kp) (a : Option Addr) (c : Nat) (ss : Nat → Sl) (D : Ln) (sw : Sl) (Bw lo1 n1 n2 hi1 g hix : Nat) (sg : Sl) (Bg lo3 p1 p2 hi3 : Nat) (z1 z2 z3 : List Int) (W : World) : Prop where
  t : A w k a c ss W
  wb : LB Bw D sw W
  wl : HL lo1 n1 n2 hi1 sw D.pg D.po D.fr W
  gb : LB Bg D sg W
  gl : HL lo3 p1 p2 hi3 sg z1 z2 z3 W
  o1 : w.heap.size < g ∧ Bw < g ∧ hi1 ≤ g ∧ g < hix
  o2 : hix ≤ Bg ∧ hix ≤ lo3 ∧ hi3 ≤ Bg

theorem K.below (h : K w k a c ss D sw Bw lo1 n1 n2 hi1 g hix sg Bg lo3 p1 p2 hi3 z1 z2 z3 W) (hb : Below W.heap.size W W') : K w k a c ss D sw Bw lo1 n1 n2 hi1 g hix sg Bg lo3 p1 p2 hi3 z1 z2 z3 W' :=
  ⟨h.t.below hb, h.wb.below hb, h.wl.below hb, h.gb.below hb, h.gl.below hb, h.o1, h.o2⟩
theorem K.drew (h : K w k a c ss D sw Bw lo1 n1 n2 hi1 g hix sg Bg lo3 p1 p2 hi3 z1 z2 z3 W) : K w k a c ss D sw Bw lo1 n1 n2 hi1 g hix sg Bg lo3 p1 p2 hi3 z1 z2 z3 W.drew := h.below ((Below.refl _ _).drew)

theorem a_btw {lo hi : Nat} (h : A w k a c ss W) (hR : Lns w a k.ds ss) (hb : Btw lo hi W W') (hlt : w.heap.size < lo) : A w k a c ss W' := by
  have b : Below w.heap.size w W' := h.bel.trans (hb.below (by omega) h.bel.size)
  exact ⟨LF.blk_btw h.b hb (Or.inl hlt), hR.below b, b⟩

/-- The copy is marked. -/
theorem K.markX (h : K w k a c ss D sw Bw lo1 n1 n2 hi1 g hix sg Bg lo3 p1 p2 hi3 z1 z2 z3 W) (hR : Lns w a k.ds ss) (hb : Btw g hix W W') : K w k a c ss D sw Bw lo1 n1 n2 hi1 g hix sg Bg lo3 p1 p2 hi3 z1 z2 z3 W' := by
  have o1 := h.o1
  have o2 := h.o2
  exact ⟨a_btw h.t hR hb o1.1, ⟨LF.blk_btw h.wb.b hb (Or.inl o1.2.1)⟩, h.wl.btw hb (Or.inl o1.2.2.1), ⟨LF.blk_btw h.gb.b hb (Or.inr o2.1)⟩, h.gl.btw hb (Or.inr o2.2.1), o1, o2⟩

/-- The second loan is marked. -/
theorem K.markG {y1 y2 y3 : List Int} (h : K w k a c ss D sw Bw lo1 n1 n2 hi1 g hix sg Bg lo3 p1 p2 hi3 z1 z2 z3 W) (hR : Lns w a k.ds ss) (hl : HL lo3 p1 p2 hi3 sg y1 y2 y3 W') (hb : Btw lo3 hi3 W W') : K w k a c ss D sw Bw lo1 n1 n2 hi1 g hix sg Bg lo3 p1 p2 hi3 y1 y2 y3 W' := by
  have o1 := h.o1
  have o2 := h.o2
  exact ⟨a_btw h.t hR hb (by omega), ⟨LF.blk_btw h.wb.b hb (Or.inl (by omega))⟩, h.wl.btw hb (Or.inl (by omega)), ⟨LF.blk_btw h.gb.b hb (Or.inr o2.2.2)⟩, hl, o1, o2⟩
end Go.Proofs.Ytnfcpcejfajcfaa.LL1
