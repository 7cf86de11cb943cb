/- Joined texts: plain facts and contracts, as each part says. -/
import Derived.Test.YtdljajjgppcjpaaGreatJkG

/- The contract of impl.readPast, as the given laws call it: the walk. -/
namespace Go.Proofs.YtdljajjgppcjpaaGreat.N6
open Go.ChangeShapes Go.WideShapes Go.ChangeAt Go.RowKit
set_option linter.unusedVariables false
set_option linter.unusedSimpArgs false
set_option maxRecDepth 10000

open N0 (Ln)
open N1 (Sl Lists Fit LB lb_new)
open N5 (Ans ans_no ans_yes pv pvs oldE PR pr_new W5 put5 bel5 own5 ownE5 w00 bel00)

/-- What readPast asks, one by one. -/
theorem past_cases (d : Ln) :
    (G0.isI d.rc = false ∧ N0.past d = false) ∨ (G0.isI d.rc = true ∧ (G0.gK d.rc == 0) = true ∧ N0.past d = false) ∨
    (G0.isI d.rc = true ∧ (G0.gK d.rc == 0) = false ∧ decide (G0.gZ d.rc = d.pg) = false ∧ N0.past d = false) ∨
    (G0.isI d.rc = true ∧ (G0.gK d.rc == 0) = false ∧ decide (G0.gZ d.rc = d.pg) = true ∧ ((d.sav.size : Int) != (d.pg.length : Int) * 32) = true ∧ N0.past d = false) ∨
    (G0.isI d.rc = true ∧ (G0.gK d.rc == 0) = false ∧ decide (G0.gZ d.rc = d.pg) = true ∧ ((d.sav.size : Int) != (d.pg.length : Int) * 32) = false ∧ (G0.gK d.rc != 2) = true ∧ N0.past d = true ∧ oldE d = []) ∨
    (G0.isI d.rc = true ∧ (G0.gK d.rc == 0) = false ∧ decide (G0.gZ d.rc = d.pg) = true ∧ ((d.sav.size : Int) != (d.pg.length : Int) * 32) = false ∧ (G0.gK d.rc != 2) = false ∧ N0.past d = V0.isD (B2.part d.sav 0 (G0.gS d.rc)) ∧ oldE d = V0.dE (B2.part d.sav 0 (G0.gS d.rc))) := by
  unfold N0.past
  cases hI : G0.isI d.rc with
  | false => exact Or.inl ⟨rfl, rfl⟩
  | true =>
    right
    by_cases h0 : G0.gK d.rc = 0
    · left
      exact ⟨rfl, by simpa using h0, by rw [decide_eq_true h0]; rfl⟩
    · right
      have h0' : (G0.gK d.rc == 0) = false := by simpa using h0
      by_cases hz : G0.gZ d.rc = d.pg
      · right
        by_cases hs : d.sav.size = d.pg.length * 32
        · right
          have hs' : ((d.sav.size : Int) != (d.pg.length : Int) * 32) = false := by simp; omega
          by_cases h2 : G0.gK d.rc = 2
          · right
            refine ⟨rfl, h0', decide_eq_true hz, hs', by simpa using h2, ?_, by rw [oldE, if_pos h2]⟩
            rw [decide_eq_false h0, decide_eq_true hz, decide_eq_true hs, decide_eq_true h2]
            rfl
          · left
            refine ⟨rfl, h0', decide_eq_true hz, hs', by simpa using h2, ?_, by rw [oldE, if_neg h2]⟩
            rw [decide_eq_false h0, decide_eq_true hz, decide_eq_true hs, decide_eq_false h2]
            rfl
        · left
          refine ⟨rfl, h0', decide_eq_true hz, by simp; omega, ?_⟩
          rw [decide_eq_false hs, Bool.false_and, Bool.and_false, Bool.and_false]
          rfl
      · left
        refine ⟨rfl, h0', decide_eq_false hz, ?_⟩
        rw [decide_eq_false hz, Bool.false_and, Bool.and_false]
        rfl

set_option maxHeartbeats 4000000 in
theorem readPast (d : Ln) (s : Sl) (w : World) (hF : Fit d s) (hR : Lists w d s) : Calls Tryz.prog 78 #[N1.val d s] w (Ans d w) := by
  have hG : Hid (∀ W, Calls Tryz.prog 115 #[.string d.rc] W (G3.Ans d.rc W)) := fun W => G3.impl_GetInode d.rc W hF.m4
  have HL : Hid (∀ W, Below w.heap.size w W → P0.Row W s.a1 d.pg) := fun W hb => (hR.below hb).r1
  have hpt : Hid (∀ W, Calls Tryz.prog 17 #[.string d.sav, .int .i64 0, .int .i64 (G0.gS d.rc)] W fun e w' => e = .returned (.string (B2.part d.sav 0 (G0.gS d.rc))) ∧ Below W.heap.size W w') := fun W => B2.impl_Part _ _ _ _ hF.m5
  have hgd : Hid (∀ W, Calls Tryz.prog 117 #[.string (B2.part d.sav 0 (G0.gS d.rc))] W (V1.Ans (B2.part d.sav 0 (G0.gS d.rc)) W)) := fun W => V2.impl_GetDir _ _ (Nat.le_trans (B2.part_size _ _ _) hF.m5)
  have hpl : d.pg.length ≤ 281474976710656 := hF.p1
  have hsl := hF.m5
  have hb00 := bel00 w d s
  have HN : Hid (∀ k o t a n c ae ne ce w', N0.past d = false → Below w.heap.size w w' → Ans d w (.returned (.tuple #[pv k o t a n c ae ne ce, .bool false])) w') := fun k o t a n c ae ne ce w' h hb => ans_no h hb
  have HY : Hid (∀ a c ae ce w', N0.past d = true → Below w.heap.size w w' → (G0.gZ d.rc).length ≤ c → J0.Own w.heap.size w' a (G0.gZ d.rc) → (oldE d).length ≤ ce → V1.OwnE w.heap.size w' ae (oldE d) → Ans d w (.returned (.tuple #[pv (G0.gK d.rc) (G0.gO d.rc) (G0.gS d.rc) a (G0.gZ d.rc).length c ae (oldE d).length ce, .bool true])) w') := fun a c ae ce w' h hb hc ho hce hoe => ans_yes h hb hc ho hce hoe
  have hA : Hid (∀ W e w', G3.Ans d.rc W e w' → ∃ a c, e = .returned (.tuple #[I0.val (G0.gK d.rc) (G0.gO d.rc) (G0.gS d.rc) a (G0.gZ d.rc).length c, .bool (G0.isI d.rc)]) ∧ J0.Own W.heap.size w' a (G0.gZ d.rc) ∧ (G0.gZ d.rc).length ≤ c ∧ Below W.heap.size W w') := fun W e w' h => h
  have hzl : (G0.gZ d.rc).length ≤ 281474976710656 := by
    unfold G0.gZ
    split
    · rw [G0.pgs_length]; have := G0.cnt_le d.rc; omega
    · exact Nat.zero_le _
  have hcase := past_cases d
  obtain ⟨R, hR'⟩ : ∃ R, Ans d w = R := ⟨_, rfl⟩
  rw [hR'] at HN HY ⊢
  obtain ⟨P, hP⟩ : ∃ P, B2.part d.sav 0 (G0.gS d.rc) = P := ⟨_, rfl⟩
  rw [hP] at hpt hgd hcase
  obtain ⟨K, hK⟩ : ∃ K, G0.gK d.rc = K := ⟨_, rfl⟩
  obtain ⟨O, hO⟩ : ∃ O, G0.gO d.rc = O := ⟨_, rfl⟩
  obtain ⟨S, hS⟩ : ∃ S, G0.gS d.rc = S := ⟨_, rfl⟩
  obtain ⟨Z, hZ⟩ : ∃ Z, G0.gZ d.rc = Z := ⟨_, rfl⟩
  rw [hK, hZ] at hcase
  rw [hK, hO, hS, hZ] at HY hA
  rw [hS] at hpt
  rw [hZ] at hzl
  clear hK hO hS hZ hP hR' hR hF
  rcases hcase with ⟨gI, hp⟩ | ⟨gI, g0, hp⟩ | ⟨gI, g0, gz, hp⟩ | ⟨gI, g0, gz, gs, hp⟩ | ⟨gI, g0, gz, gs, g2, hp, hE⟩ | ⟨gI, g0, gz, gs, g2, hp, hE⟩
  iterate 2
    · rw [gI] at hA
      clear gI
      go_enter Tryz.func78, Tryz.ntmps78
      go_wp2_with (go_at_call 115; refine (hG.out _).mono ?_; intro e w1 hans; obtain ⟨a, c, rfl, ho, hc, b1⟩ := hA.out _ _ _ hans; clear hans; have p1 := pr_new (k := K) (o := O) (t := S) (a := a) (n := Z.length) (c := c) b1; have x0 := p1.nb.c0; have i0 := p1.res.cell 0 (by simp); have i1 := p1.res.cell 1 (by simp); have i2 := p1.res.cell 2 (by simp); have i3 := p1.res.cell 3 (by simp); have i4 := p1.res.cell 4 (by simp); simp only [List.getElem_cons_zero, List.getElem_cons_succ] at i0 i1 i2 i3 i4; have j0 := p1.res.free 0 (by simp); have j1 := p1.res.free 1 (by simp); have j2 := p1.res.free 2 (by simp); have j3 := p1.res.free 3 (by simp); have j4 := p1.res.free 4 (by simp))
      have q := put5 (y0 := .int .i64 0) (y1 := .int .i64 0) (y2 := .int .i64 0) (y3 := .slice none 0 0) (y4 := .slice none 0 0) p1.res
      have v0 := q.cell 0 (by simp)
      have v1 := q.cell 1 (by simp)
      have v2 := q.cell 2 (by simp)
      have v3 := q.cell 3 (by simp)
      have v4 := q.cell 4 (by simp)
      simp only [List.getElem_cons_zero, List.getElem_cons_succ] at v0 v1 v2 v3 v4
      exact bodyPost_ret (v := .tuple #[pv 0 0 0 none 0 0 none 0 0, .bool false]) (by simp [results, Tryz.results78, go_sem, v0, v1, v2, v3, v4]) rfl (HN.out _ _ _ _ _ _ _ _ _ _ hp (bel5 p1.bel (by omega) _ _ _ _ _))
  iterate 2
    · rw [gI] at hA
      clear gI
      go_enter Tryz.func78, Tryz.ntmps78
      go_wp2_with (first
        | (go_at_call 115; refine (hG.out _).mono ?_; intro e w1 hans; obtain ⟨a, c, rfl, ho, hc, b1⟩ := hA.out _ _ _ hans; clear hans; have p1 := pr_new (k := K) (o := O) (t := S) (a := a) (n := Z.length) (c := c) b1; have x0 := p1.nb.c0; have x3 := p1.nb.c3; have c4 := p1.arg.c4; have c5 := p1.arg.c5; have r1 := ho.row.alloc (.cells #[.int .i64 K, .int .i64 O, .int .i64 S, .slice a Z.length c] 69); have r2 := HL.out _ p1.bel; have i0 := p1.res.cell 0 (by simp); have i1 := p1.res.cell 1 (by simp); have i2 := p1.res.cell 2 (by simp); have i3 := p1.res.cell 3 (by simp); have i4 := p1.res.cell 4 (by simp); simp only [List.getElem_cons_zero, List.getElem_cons_succ] at i0 i1 i2 i3 i4; have j0 := p1.res.free 0 (by simp); have j1 := p1.res.free 1 (by simp); have j2 := p1.res.free 2 (by simp); have j3 := p1.res.free 3 (by simp); have j4 := p1.res.free 4 (by simp))
        | (go_at_call 116; refine (N2.equal _ _ _ _ _ _ _ hzl hpl r1 r2).mono ?_; rintro e w2 ⟨rfl, m, rfl⟩))
      have q := put5 (y0 := .int .i64 0) (y1 := .int .i64 0) (y2 := .int .i64 0) (y3 := .slice none 0 0) (y4 := .slice none 0 0) (p1.drewN m).res
      have v0 := q.cell 0 (by simp)
      have v1 := q.cell 1 (by simp)
      have v2 := q.cell 2 (by simp)
      have v3 := q.cell 3 (by simp)
      have v4 := q.cell 4 (by simp)
      simp only [List.getElem_cons_zero, List.getElem_cons_succ] at v0 v1 v2 v3 v4
      exact bodyPost_ret (v := .tuple #[pv 0 0 0 none 0 0 none 0 0, .bool false]) (by simp [results, Tryz.results78, go_sem, v0, v1, v2, v3, v4]) rfl (HN.out _ _ _ _ _ _ _ _ _ _ hp (bel5 (p1.drewN m).bel (by omega) _ _ _ _ _))
  · rw [gI] at hA
    clear gI
    rw [hE] at HY
    go_enter Tryz.func78, Tryz.ntmps78
    go_wp2_with (first
      | (go_at_call 115; refine (hG.out _).mono ?_; intro e w1 hans; obtain ⟨a, c, rfl, ho, hc, b1⟩ := hA.out _ _ _ hans; clear hans; have p1 := pr_new (k := K) (o := O) (t := S) (a := a) (n := Z.length) (c := c) b1; have x0 := p1.nb.c0; have x1 := p1.nb.c1; have x2 := p1.nb.c2; have x3 := p1.nb.c3; have c4 := p1.arg.c4; have c5 := p1.arg.c5; have r1 := ho.row.alloc (.cells #[.int .i64 K, .int .i64 O, .int .i64 S, .slice a Z.length c] 69); have r2 := HL.out _ p1.bel; have i0 := p1.res.cell 0 (by simp); have i1 := p1.res.cell 1 (by simp); have i2 := p1.res.cell 2 (by simp); have i3 := p1.res.cell 3 (by simp); have i4 := p1.res.cell 4 (by simp); simp only [List.getElem_cons_zero, List.getElem_cons_succ] at i0 i1 i2 i3 i4; have j0 := p1.res.free 0 (by simp); have j1 := p1.res.free 1 (by simp); have j2 := p1.res.free 2 (by simp); have j3 := p1.res.free 3 (by simp); have j4 := p1.res.free 4 (by simp))
      | (go_at_call 116; refine (N2.equal _ _ _ _ _ _ _ hzl hpl r1 r2).mono ?_; rintro e w2 ⟨rfl, m, rfl⟩))
    have q := put5 (y0 := .int .i64 K) (y1 := .int .i64 O) (y2 := .int .i64 S) (y3 := .slice a Z.length c) (y4 := .slice none 0 0) (p1.drewN m).res
    have v0 := q.cell 0 (by simp)
    have v1 := q.cell 1 (by simp)
    have v2 := q.cell 2 (by simp)
    have v3 := q.cell 3 (by simp)
    have v4 := q.cell 4 (by simp)
    simp only [List.getElem_cons_zero, List.getElem_cons_succ] at v0 v1 v2 v3 v4
    refine bodyPost_ret (v := .tuple #[pv K O S a Z.length c none 0 0, .bool true]) (by simp [results, Tryz.results78, go_sem, v0, v1, v2, v3, v4]) rfl (HY.out a c none 0 _ hp (bel5 (p1.drewN m).bel (by omega) _ _ _ _ _) hc ?_ (Nat.le_refl _) (Or.inl rfl))
    exact (own5 ((ho.alloc _).drewN m) (by simp) _ _ _ _ _).mono (by simp; omega)
  · rw [gI] at hA
    clear gI
    rw [hE] at HY
    have HD : Hid (∀ W e w', V1.Ans P W e w' → ∃ a c, e = .returned (.tuple #[.slice a (V0.dE P).length c, .bool (V0.isD P)]) ∧ V1.OwnE W.heap.size w' a (V0.dE P) ∧ (V0.dE P).length ≤ c ∧ Below W.heap.size W w') := fun W e w' h => h
    have HP : Hid (N0.past d = V0.isD P) := hp
    clear hp hE
    go_enter Tryz.func78, Tryz.ntmps78
    go_wp2_with (first
      | (go_at_call 115; refine (hG.out _).mono ?_; intro e w1 hans; obtain ⟨a, c, rfl, ho, hc, b1⟩ := hA.out _ _ _ hans; clear hans; have p1 := pr_new (k := K) (o := O) (t := S) (a := a) (n := Z.length) (c := c) b1; have x0 := p1.nb.c0; have x1 := p1.nb.c1; have x2 := p1.nb.c2; have x3 := p1.nb.c3; have c4 := p1.arg.c4; have c5 := p1.arg.c5; have r1 := ho.row.alloc (.cells #[.int .i64 K, .int .i64 O, .int .i64 S, .slice a Z.length c] 69); have r2 := HL.out _ p1.bel)
      | (go_at_call 116; refine (N2.equal _ _ _ _ _ _ _ hzl hpl r1 r2).mono ?_; rintro e w2 ⟨rfl, m, rfl⟩)
      | (go_at_call 17; refine (hpt.out _).mono ?_; rintro e w3 ⟨rfl, b3⟩; have p3 := (p1.drewN m).below b3)
      | (go_at_call 117; refine (hgd.out _).mono ?_; intro e w4 hans; obtain ⟨ae, ce, rfl, hoe, hce, b4⟩ := HD.out _ _ _ hans; clear hans; have p4 := p3.below b4; have z0 := p4.nb.c0; have z1 := p4.nb.c1; have z2 := p4.nb.c2; have z3 := p4.nb.c3; have i0 := p4.res.cell 0 (by simp); have i1 := p4.res.cell 1 (by simp); have i2 := p4.res.cell 2 (by simp); have i3 := p4.res.cell 3 (by simp); have i4 := p4.res.cell 4 (by simp); simp only [List.getElem_cons_zero, List.getElem_cons_succ] at i0 i1 i2 i3 i4; have j0 := p4.res.free 0 (by simp); have j1 := p4.res.free 1 (by simp); have j2 := p4.res.free 2 (by simp); have j3 := p4.res.free 3 (by simp); have j4 := p4.res.free 4 (by simp)))
    have q := put5 (y0 := .int .i64 K) (y1 := .int .i64 O) (y2 := .int .i64 S) (y3 := .slice a Z.length c) (y4 := .slice ae (V0.dE P).length ce) p4.res
    have v0 := q.cell 0 (by simp)
    have v1 := q.cell 1 (by simp)
    have v2 := q.cell 2 (by simp)
    have v3 := q.cell 3 (by simp)
    have v4 := q.cell 4 (by simp)
    simp only [List.getElem_cons_zero, List.getElem_cons_succ] at v0 v1 v2 v3 v4
    have hbl := bel5 p4.bel (B := w.heap.size + 1) (by omega) (.int .i64 K) (.int .i64 O) (.int .i64 S) (.slice a Z.length c) (.slice ae (V0.dE P).length ce)
    have h1 := p1.bel.size
    have h3 := p3.bel.size
    refine bodyPost_ret (v := .tuple #[pv K O S a Z.length c ae (V0.dE P).length ce, .bool (V0.isD P)]) (by simp [results, Tryz.results78, go_sem, v0, v1, v2, v3, v4]) rfl ?_
    cases hD : V0.isD P with
    | false => exact HN.out _ _ _ _ _ _ _ _ _ _ (HP.out.trans hD) hbl
    | true =>
      refine HY.out a c ae ce _ (HP.out.trans hD) hbl hc ?_ hce ?_
      · exact (own5 ((((ho.alloc _).drewN m).below b3).below b4) (by simp) _ _ _ _ _).mono (by simp; omega)
      · exact (ownE5 hoe (by have := p3.res.lt; omega) _ _ _ _ _).mono (by omega)
end Go.Proofs.YtdljajjgppcjpaaGreat.N6

/- Contracts of impl.past's isDir and impl.tenure's numbersOk, poolOk and freshOk, as the given laws call them. -/
namespace Go.Proofs.YtdljajjgppcjpaaGreat.N7
open Go.ChangeShapes Go.WideShapes Go.ChangeAt Go.RowKit
set_option linter.unusedVariables false
set_option linter.unusedSimpArgs false
set_option maxRecDepth 10000

open N0 (Ln)
open N1 (Sl Lists Fit)
open N5 (pv)
open P1 (ret_bool)

abbrev tv (k o t : Int) (a : Option Addr) (n c : Nat) (ae : Option Addr) (ne ce : Nat) (d : Ln) (s : Sl) : Value := .agg #[.int .i64 k, .int .i64 o, .int .i64 t, .slice a n c, .slice ae ne ce, .int .i64 d.ino, .int .i64 d.cl, .int .i64 d.un, .string d.rc, .slice s.a1 d.pg.length s.c1, .string d.sav, .slice s.a2 d.po.length s.c2, .slice s.a3 d.fr.length s.c3]
abbrev tvs (k o t : Int) (a : Option Addr) (n c : Nat) (ae : Option Addr) (ne ce : Nat) (d : Ln) (s : Sl) : List Value := [.int .i64 k, .int .i64 o, .int .i64 t, .slice a n c, .slice ae ne ce, .int .i64 d.ino, .int .i64 d.cl, .int .i64 d.un, .string d.rc, .slice s.a1 d.pg.length s.c1, .string d.sav, .slice s.a2 d.po.length s.c2, .slice s.a3 d.fr.length s.c3]
abbrev tObj (k o t : Int) (a : Option Addr) (n c : Nat) (ae : Option Addr) (ne ce : Nat) (d : Ln) (s : Sl) : Obj := .cells #[.int .i64 k, .int .i64 o, .int .i64 t, .slice a n c, .slice ae ne ce, .int .i64 d.ino, .int .i64 d.cl, .int .i64 d.un, .string d.rc, .slice s.a1 d.pg.length s.c1, .string d.sav, .slice s.a2 d.po.length s.c2, .slice s.a3 d.fr.length s.c3] 74

theorem isDir (k o t : Int) (a : Option Addr) (n c : Nat) (ae : Option Addr) (ne ce : Nat) (w : World) :
    Calls Tryz.prog 120 #[pv k o t a n c ae ne ce] w fun e w' => e = .returned (.bool (k == 2)) ∧ Below w.heap.size w w' := by
  have hB := K0.below_new w (.cells #[.int .i64 k, .int .i64 o, .int .i64 t, .slice a n c, .slice ae ne ce] 72)
  go_enter Tryz.func120, Tryz.ntmps120
  go_wp2
  go_ret
  exact ⟨rfl, hB⟩

theorem nums_cases (d : Ln) :
    (decide (0 ≤ d.ino) = false ∧ N0.nums d = false) ∨ (0 ≤ d.ino ∧ decide (d.ino < 8) = false ∧ N0.nums d = false) ∨ (0 ≤ d.ino ∧ d.ino < 8 ∧ B1.inB d.cl 0 8 = false ∧ N0.nums d = false) ∨
    (0 ≤ d.ino ∧ d.ino < 8 ∧ B1.inB d.cl 0 8 = true ∧ decide (0 ≤ d.un) = false ∧ N0.nums d = false) ∨ (0 ≤ d.ino ∧ d.ino < 8 ∧ B1.inB d.cl 0 8 = true ∧ 0 ≤ d.un ∧ N0.nums d = true) := by
  unfold N0.nums B1.inB
  by_cases h1 : 0 ≤ d.ino <;> by_cases h2 : d.ino < 8 <;> by_cases h3 : 0 ≤ d.cl <;> by_cases h4 : d.cl ≤ 8 <;> by_cases h5 : 0 ≤ d.un <;> simp [h1, h2, h3, h4, h5]

set_option maxHeartbeats 2000000 in
theorem numbersOk (k o t : Int) (a : Option Addr) (n c : Nat) (ae : Option Addr) (ne ce : Nat) (d : Ln) (s : Sl) (w : World) :
    Calls Tryz.prog 79 #[tv k o t a n c ae ne ce d s] w fun e w' => e = .returned (.bool (N0.nums d)) ∧ Below w.heap.size w w' := by
  have hB := K0.below_new w (tObj k o t a n c ae ne ce d s)
  have hB2 := hB.alloc hB.size (.cells #[.int .i64 d.ino, .int .i64 d.cl, .int .i64 d.un, .string d.rc, .slice s.a1 d.pg.length s.c1, .string d.sav, .slice s.a2 d.po.length s.c2, .slice s.a3 d.fr.length s.c3] 26)
  have HC : Hid (∀ W, Calls Tryz.prog 118 #[.int .i64 d.cl] W fun e w' => e = .returned (.bool (B1.inB d.cl 0 8)) ∧ w' = W) := fun W => I0.clientOk _ _
  rcases nums_cases d with ⟨h1, hp⟩ | ⟨h1, h2, hp⟩ | ⟨h1, h2, h3, hp⟩ | ⟨h1, h2, h3, h5, hp⟩ | ⟨h1, h2, h3, h5, hp⟩
  all_goals
    rw [hp]
    clear hp
  · go_enter Tryz.func79, Tryz.ntmps79
    go_wp2
    go_ret
    exact ⟨rfl, hB2⟩
  · go_enter Tryz.func79, Tryz.ntmps79
    go_wp2
    go_ret
    exact ⟨rfl, hB2⟩
  all_goals
    rw [h3] at HC
    clear h3
    go_enter Tryz.func79, Tryz.ntmps79
    go_wp2_with (go_at_call 118; refine (HC.out _).mono ?_; rintro e w1 ⟨rfl, rfl⟩)
    go_ret
    exact ⟨rfl, hB2⟩

set_option maxHeartbeats 2000000 in
theorem poolOk (k o t : Int) (a : Option Addr) (c : Nat) (ae : Option Addr) (ne ce : Nat) (d : Ln) (s : Sl) (Z : List Int) (w : World) (hz : Z.length ≤ 12) (hpo : d.po.length ≤ 1048576) (hR : P0.Row w a Z) (h2 : P0.Row w s.a2 d.po) :
    Calls Tryz.prog 80 #[tv k o t a Z.length c ae ne ce d s] w fun e w' => e = .returned (.bool (decide (d.po.length ≤ 4) && (N0.asc d.po && P0.pagesOk (Z ++ d.po)))) ∧ Below w.heap.size w w' := by
  have hB := K0.below_new w (tObj k o t a Z.length c ae ne ce d s)
  have r1 := hR.alloc (tObj k o t a Z.length c ae ne ce d s)
  have r2 := h2.alloc (tObj k o t a Z.length c ae ne ce d s)
  have HA := N2.ascends s.a2 s.c2 d.po _ (by omega) r2
  by_cases hl : d.po.length ≤ 4
  · have hl' : (d.po.length : Int) ≤ 4 := by omega
    rw [decide_eq_true hl, Bool.true_and]
    cases hasc : N0.asc d.po with
    | false =>
      rw [hasc] at HA
      clear hR h2 r1 r2
      go_enter Tryz.func80, Tryz.ntmps80
      go_wp2_with (go_at_call 61; refine HA.mono ?_; rintro e w1 ⟨rfl, m, rfl⟩)
      go_ret
      exact ⟨rfl, K0.below_drewN hB m⟩
    | true =>
      rw [hasc] at HA
      rw [Bool.true_and]
      have HC : Hid (∀ m, Calls Tryz.prog 65 #[.slice (some ⟨w.heap.size + 1, 0, none⟩) 2 2] (((w.alloc (tObj k o t a Z.length c ae ne ce d s)).drewN m).alloc (.cells #[.slice a Z.length c, .slice s.a2 d.po.length s.c2] 24)) fun e w' => ∃ a' c', e = .returned (.slice a' (Z ++ d.po).length c') ∧ J0.Own ((((w.alloc (tObj k o t a Z.length c ae ne ce d s)).drewN m).alloc (.cells #[.slice a Z.length c, .slice s.a2 d.po.length s.c2] 24))).heap.size w' a' (Z ++ d.po) ∧ (Z ++ d.po).length ≤ c' ∧ Below ((((w.alloc (tObj k o t a Z.length c ae ne ce d s)).drewN m).alloc (.cells #[.slice a Z.length c, .slice s.a2 d.po.length s.c2] 24))).heap.size (((w.alloc (tObj k o t a Z.length c ae ne ce d s)).drewN m).alloc (.cells #[.slice a Z.length c, .slice s.a2 d.po.length s.c2] 24)) w') := fun m => by
        have hk := K0.blk_at (B := w.heap.size + 1) [.slice a Z.length c, .slice s.a2 d.po.length s.c2] ((w.alloc (tObj k o t a Z.length c ae ne ce d s)).drewN m) 24 (by simp)
        exact Q1.concat (w.heap.size + 1) a s.a2 c s.c2 Z d.po _ hk.c0 hk.c1 hk.lt ((r1.drewN m).alloc _) ((r2.drewN m).alloc _) (by omega) hpo
      have HL : Hid ((Z ++ d.po).length ≤ 281474976710656) := by
        show (Z ++ d.po).length ≤ _
        rw [List.length_append]
        omega
      obtain ⟨Y, hY⟩ : ∃ Y, Z ++ d.po = Y := ⟨_, rfl⟩
      rw [hY] at HC HL ⊢
      clear hR h2 r1 r2 hY
      go_enter Tryz.func80, Tryz.ntmps80
      go_wp2_with (first
        | (go_at_call 61; refine HA.mono ?_; rintro e w1 ⟨rfl, m, rfl⟩)
        | (go_at_call 65; refine (HC.out m).mono ?_; rintro e w2 ⟨a', c', rfl, ho, hc', b2⟩)
        | (go_at_call 119; refine (P1.pagesOk a' c' Y _ HL.out hc' ho.row).mono ?_; rintro e w3 ⟨rfl, rfl⟩))
      go_ret
      exact ⟨rfl, ((K0.below_drewN hB m).alloc (by simp) _).trans (b2.mono (by simp; omega))⟩
  · have hl' : decide ((d.po.length : Int) ≤ 4) = false := by simp; omega
    have hl2 : decide (d.po.length ≤ 4) = false := by simp; omega
    rw [hl2, Bool.false_and]
    clear HA hR h2 r1 r2
    go_enter Tryz.func80, Tryz.ntmps80
    go_wp2
    go_ret
    exact ⟨rfl, hB⟩
end Go.Proofs.YtdljajjgppcjpaaGreat.N7

/- The contract of impl.tenure's freshOk, as the given laws call it. -/
namespace Go.Proofs.YtdljajjgppcjpaaGreat.N8
open Go.ChangeShapes Go.WideShapes Go.ChangeAt Go.RowKit
set_option linter.unusedVariables false
set_option linter.unusedSimpArgs false
set_option maxRecDepth 10000

open N0 (Ln)
open N1 (Sl Lists Fit)
open N7 (tv tvs tObj)
open P1 (ret_bool)

def frOk (k : Int) (d : Ln) : Bool := if k = 2 then decide (d.fr.length ≤ 2) && (N0.asc d.fr && N0.to (N0.frAt d.fr d.ino) d.fr.length) else decide (d.fr.length = 0)

set_option maxHeartbeats 2000000 in
theorem freshOk (k o t : Int) (a : Option Addr) (n c : Nat) (ae : Option Addr) (ne ce : Nat) (d : Ln) (s : Sl) (w : World) (hfr : d.fr.length ≤ 1048576) (h3 : P0.Row w s.a3 d.fr) :
    Calls Tryz.prog 81 #[tv k o t a n c ae ne ce d s] w fun e w' => e = .returned (.bool (frOk k d)) ∧ Below w.heap.size w w' := by
  have hB := K0.below_new w (tObj k o t a n c ae ne ce d s)
  have hT := K0.blk_new (tvs k o t a n c ae ne ce d s) w 74
  have r3 := h3.alloc (tObj k o t a n c ae ne ce d s)
  clear h3
  by_cases hk : k = 2
  · have hk' : (k == 2) = true := by simpa using hk
    by_cases hl : d.fr.length ≤ 2
    · have hl' : ¬ (2 < (d.fr.length : Int)) := by omega
      have hl2 : decide (2 < (d.fr.length : Int)) = false := by simp; omega
      have HV : Hid (frOk k d = (N0.asc d.fr && N0.to (N0.frAt d.fr d.ino) d.fr.length)) := by
        show frOk k d = _
        rw [frOk, if_pos hk, decide_eq_true hl, Bool.true_and]
      clear hk
      cases hasc : N0.asc d.fr with
      | false =>
        rw [HV.out, hasc, Bool.false_and]
        clear HV
        go_enter Tryz.func81, Tryz.ntmps81
        go_wp2_with (first
          | (go_at_call 120; refine (N7.isDir _ _ _ _ _ _ _ _ _ _).mono ?_; rintro e w1 ⟨rfl, b1⟩; have q3 := r3.below b1)
          | (go_at_call 61; refine (N2.ascends _ _ _ _ (by omega) q3).mono ?_; rintro e w2 ⟨rfl, m, rfl⟩))
        go_ret
        exact ⟨rfl, K0.below_drewN (hB.trans (b1.mono hB.size)) m⟩
      | true =>
        rw [HV.out, hasc, Bool.true_and]
        clear HV
        go_enter Tryz.func81, Tryz.ntmps81
        go_wp2_with (first
          | (go_at_call 120; refine (N7.isDir _ _ _ _ _ _ _ _ _ _).mono ?_; rintro e w1 ⟨rfl, b1⟩; have q3 := r3.below b1; have t1 := hT.below b1)
          | (go_at_call 61; refine (N2.ascends _ _ _ _ (by omega) q3).mono ?_; rintro e w2 ⟨rfl, m, rfl⟩))
        have x5 := (t1.drewN m).cell 5 (by simp)
        simp only [List.getElem_cons_zero, List.getElem_cons_succ] at x5
        have q4 := q3.drewN m
        have hBel := K0.below_drewN (hB.trans (b1.mono hB.size)) m
        obtain ⟨V, hV⟩ : ∃ V, w1.drewN m = V := ⟨_, rfl⟩
        rw [hV] at x5 q4 hBel ⊢
        clear hV b1 q3 t1 r3 hT hB hasc
        go_loop [26] (fun i => ∃ j : Nat, j ≤ d.fr.length ∧ N0.to (N0.frAt d.fr d.ino) j = true ∧ i = .int .i64 j) (fun i => d.fr.length - (intOf i).toNat)
        case atStart => exact ⟨0, Nat.zero_le _, rfl, rfl⟩
        case round =>
          obtain ⟨j, hj, hok, rfl⟩ := hrel
          by_cases hlt : j < d.fr.length
          · obtain ⟨b, off, hab, _, hc⟩ := q4.get hlt
            have x1 := hc j hlt
            have hat : N0.frAt d.fr d.ino j = (B1.inB (d.fr.getD j 0) 1 7 && !decide (d.fr.getD j 0 = d.ino)) := rfl
            obtain ⟨z, ez⟩ : ∃ z, d.fr.getD j 0 = z := ⟨_, rfl⟩
            rw [ez] at x1 hat
            rw [hab]
            have e1 : (0 : Int) ≤ (j : Int) := by omega
            have e2 : (j : Int) < (d.fr.length : Int) := by omega
            by_cases g1 : z < 1
            · have HR : Hid (N0.to (N0.frAt d.fr d.ino) d.fr.length = false) := N0.to_bad hlt (by rw [hat, show B1.inB z 1 7 = false from decide_eq_false (by omega)]; rfl)
              clear hat hok ez hc
              go_wp2
              go_ret
              exact ⟨ret_bool HR.out.symm, hBel⟩
            · have g1' : decide (z < 1) = false := by simpa using g1
              by_cases g2 : 8 ≤ z
              · have HR : Hid (N0.to (N0.frAt d.fr d.ino) d.fr.length = false) := N0.to_bad hlt (by rw [hat, show B1.inB z 1 7 = false from decide_eq_false (by omega)]; rfl)
                clear hat hok ez hc
                go_wp2
                go_ret
                exact ⟨ret_bool HR.out.symm, hBel⟩
              · have g2' : decide (8 ≤ z) = false := by simpa using g2
                have hin : B1.inB z 1 7 = true := decide_eq_true (by omega)
                by_cases g3 : z = d.ino
                · have g3' : (z == d.ino) = true := by simpa using g3
                  have HR : Hid (N0.to (N0.frAt d.fr d.ino) d.fr.length = false) := N0.to_bad hlt (by rw [hat, decide_eq_true g3]; simp)
                  clear hat hok ez hc g3
                  go_wp2
                  go_ret
                  exact ⟨ret_bool HR.out.symm, hBel⟩
                · have g3' : (z == d.ino) = false := by simpa using g3
                  have HO : Hid (N0.to (N0.frAt d.fr d.ino) (j + 1) = true) := N0.to_step hok (by rw [hat, hin, decide_eq_false g3]; rfl)
                  clear hat hok ez hc
                  go_wp2
                  go_round
                  case rel => exact ⟨j + 1, by omega, HO.out, by go_num⟩
                  case measure => simp [intOf]; omega
          · obtain rfl : j = d.fr.length := by omega
            have HR : Hid (N0.to (N0.frAt d.fr d.ino) d.fr.length = true) := hok
            clear hok q4
            go_wp2
            go_ret
            exact ⟨ret_bool HR.out.symm, hBel⟩
    · have hl' : 2 < (d.fr.length : Int) := by omega
      have HV : frOk k d = false := by rw [frOk, if_pos hk, decide_eq_false hl]; rfl
      rw [HV]
      clear HV r3 hk
      go_enter Tryz.func81, Tryz.ntmps81
      go_wp2_with (go_at_call 120; refine (N7.isDir _ _ _ _ _ _ _ _ _ _).mono ?_; rintro e w1 ⟨rfl, b1⟩)
      go_ret
      exact ⟨rfl, hB.trans (b1.mono hB.size)⟩
  · have hk' : (k == 2) = false := by simpa using hk
    have HV : Hid (((d.fr.length : Int) == 0) = frOk k d) := by
      show _ = frOk k d
      rw [frOk, if_neg hk]
      by_cases h0 : d.fr.length = 0
      · simp [h0]
      · rw [decide_eq_false h0]
        simp
        intro e
        exact h0 (by rw [e]; rfl)
    clear r3 hk
    go_enter Tryz.func81, Tryz.ntmps81
    go_wp2_with (go_at_call 120; refine (N7.isDir _ _ _ _ _ _ _ _ _ _).mono ?_; rintro e w1 ⟨rfl, b1⟩)
    go_ret
    exact ⟨ret_bool HV.out, hB.trans (b1.mono hB.size)⟩
end Go.Proofs.YtdljajjgppcjpaaGreat.N8
