/- Joined texts: plain facts and contracts, as each part says. -/
import Derived.Test.YtdljajjgppcjpaaGreatJkE
import Derived.Test.YtdljajjgppcjpaaGreatJkC
import Derived.Lib.AppendZerosOnto
import Derived.Test.YtdljajjgppcjpaaGreatJkB
import Derived.Deep.RegionWith

/- Contracts of laws.toKeeper and laws.eqKeeper, as the given laws call them. -/
namespace Go.Proofs.YtdljajjgppcjpaaGreat.Z3
open Go.ChangeShapes Go.WideShapes Go.ChangeAt Go.RowKit
set_option linter.unusedVariables false
set_option linter.unusedSimpArgs false
set_option maxRecDepth 10000

open N0 (Ln)
open N1 (Sl Fit)
open Z0 (dat Row Lns Kp kval kvals FitK)
open Z1 (tot small tot_one)
open Z2 (Pl pls Cps Mk)

variable {g b n j B : Nat} {ds : List Ln} {P : Nat → Pl} {L : List Value} {w W W' : World} {k : Kp} {a : Option Addr} {c : Nat} {vs : List Value}

theorem cps_other (h : Cps g b ds P W) (hB : B < g) (j : Nat) (v : Value) : Cps g b ds P (W.setCell ⟨B, j, none⟩ v) := by
  obtain ⟨⟨L, hL⟩, hlt⟩ := h
  refine ⟨⟨L, hL.len, hL.blk.setOther (by omega) j v, hL.done, fun i hi => ?_⟩, hlt⟩
  have hc := hL.sub i hi
  have n1 := hc.h1
  have n2 := hc.h2
  have n3 := hc.h3
  exact ⟨n1, n2, n3, hc.k1.setOther (by omega) j v, hc.k2.setOther (by omega) j v, hc.k3.setOther (by omega) j v⟩

abbrev zero4 : List Value := [.string ⟨#[]⟩, .string ⟨#[]⟩, .slice none 0 0, .int .i64 0]

/-- The three blocks of toKeeper. -/
structure T (w : World) (k : Kp) (a : Option Addr) (c : Nat) (vs : List Value) (W : World) : Prop where
  arg : K0.Blk w.heap.size (kvals k a c) W
  res : K0.Blk (w.heap.size + 1) zero4 W
  tmp : K0.Blk (w.heap.size + 2) vs W
  bel : Below w.heap.size w W

theorem T.below (h : T w k a c vs W) (hb : Below W.heap.size W W') : T w k a c vs W' := ⟨h.arg.below hb, h.res.below hb, h.tmp.below hb, h.bel.trans (hb.mono h.bel.size)⟩
theorem T.set (h : T w k a c vs W) (j : Nat) (v : Value) : T w k a c (vs.set j v) (W.setCell ⟨w.heap.size + 2, j, none⟩ v) :=
  ⟨h.arg.setOther (by omega) j v, h.res.setOther (by omega) j v, h.tmp.set j v, h.bel.setCell (p := ⟨w.heap.size + 2, j, none⟩) (Nat.le_add_right _ _) v⟩

theorem t_new (w : World) (k : Kp) (a : Option Addr) (c : Nat) :
    T w k a c zero4 (((w.alloc (.cells #[.string k.mem, .string k.dur, .slice a k.ds.length c, .int .i64 k.ck] 45)).alloc (.cells #[.string ⟨#[]⟩, .string ⟨#[]⟩, .slice none 0 0, .int .i64 0] 51)).alloc (.cells #[.string ⟨#[]⟩, .string ⟨#[]⟩, .slice none 0 0, .int .i64 0] 51)) :=
  ⟨((K0.blk_new (kvals k a c) w 45).alloc _).alloc _, (K0.blk_at zero4 _ 51 (by simp)).alloc _, K0.blk_at zero4 _ 51 (by simp),
   (((Below.refl _ _).alloc (Nat.le_refl _) _).alloc (by simp) _).alloc (by simp; omega) _⟩

theorem toLoanS' (a : Option Addr) (c : Nat) (ds : List Ln) (ss : Nat → Sl) (w : World) (hs : ds.length + tot ds ds.length ≤ 1048576) (hR : Lns w a ds ss) :
    Calls Tryz.prog 58 #[.slice a ds.length c] w fun e w' => ∃ g P, e = .returned (.slice (some ⟨g, 0, none⟩) ds.length ds.length) ∧ w.heap.size ≤ g ∧ Cps g (g + 1) ds P w' ∧ Below w.heap.size w w' :=
  (Z2.toLoanS a c ds ss w hs hR).mono fun _ _ ⟨P, he, hc, hb⟩ => ⟨_, P, he, Nat.le_refl _, hc, hb⟩

set_option maxHeartbeats 4000000 in
theorem toKeeper (k : Kp) (a : Option Addr) (c : Nat) (ss : Nat → Sl) (w : World) (hs : k.ds.length + tot k.ds k.ds.length ≤ 1048576) (hR : Lns w a k.ds ss) :
    Calls Tryz.prog 21 #[kval k a c] w fun e w' => ∃ g P, e = .returned (kval k (some ⟨g, 0, none⟩) k.ds.length) ∧ w.heap.size ≤ g ∧ Cps g (g + 1) k.ds P w' ∧ Below w.heap.size w w' := by
  have t0 := t_new w k a c
  have HL : Hid (∀ W, Below w.heap.size w W → Lns W a k.ds ss) := fun W hb => hR.below hb
  clear hR
  go_enter Tryz.func21, Tryz.ntmps21
  go_wp2_with (first
    | (go_at_call 57; refine (D1.toDev _ _ _).mono ?_; rintro e w1 ⟨rfl, b1⟩; have t1 := t0.below b1; have c2 := t1.arg.c2; have x0 := t1.tmp.c0; have x1 := t1.tmp.c1; have y0 := t1.tmp.f0; have y1 := t1.tmp.f1; have u1 := (t1.set 0 (.string k.mem)).set 1 (.string k.dur); have r1 := HL.out _ u1.bel)
    | (go_at_call 58; refine (toLoanS' a c k.ds ss _ hs r1).mono ?_; rintro e w2 ⟨g, P, rfl, hg, cp, b2⟩; have t2 := u1.below b2; have c3 := t2.arg.c3; have z0 := t2.tmp.cell 0 (by simp); have z1 := t2.tmp.cell 1 (by simp); have z2 := t2.tmp.cell 2 (by simp); have z3 := t2.tmp.cell 3 (by simp); have y2 := t2.tmp.free 2 (by simp); have y3 := t2.tmp.free 3 (by simp); simp only [List.set_cons_zero, List.set_cons_succ, List.getElem_cons_zero, List.getElem_cons_succ] at z0 z1 z2 z3; have i0 := t2.res.c0; have i1 := t2.res.c1; have i2 := t2.res.c2; have i3 := t2.res.c3; have j0 := t2.res.f0; have j1 := t2.res.f1; have j2 := t2.res.f2; have j3 := t2.res.f3))
  have hg' : w.heap.size + 3 ≤ g := by
    have := u1.tmp.lt
    simp at hg this
    omega
  have u2 := (t2.set 2 (.slice (some ⟨g, 0, none⟩) k.ds.length k.ds.length)).set 3 (.int .i64 k.ck)
  have q := u2.res.put4 (.string k.mem) (.string k.dur) (.slice (some ⟨g, 0, none⟩) k.ds.length k.ds.length) (.int .i64 k.ck)
  have v0 := q.c0
  have v1 := q.c1
  have v2 := q.c2
  have v3 := q.c3
  refine bodyPost_ret (v := kval k (some ⟨g, 0, none⟩) k.ds.length) (by simp [results, Tryz.results21, go_sem, v0, v1, v2, v3]) rfl ⟨g, P, rfl, by omega, ?_, ?_⟩
  · exact cps_other (cps_other (cps_other (cps_other (cps_other (cps_other cp (by omega) _ _) (by omega) _ _) (by omega) _ _) (by omega) _ _) (by omega) _ _) (by omega) _ _
  · exact (((u2.bel.setCell (p := ⟨w.heap.size + 1, 0, none⟩) (Nat.le_succ _) _).setCell (p := ⟨w.heap.size + 1, 1, none⟩) (Nat.le_succ _) _).setCell (p := ⟨w.heap.size + 1, 2, none⟩) (Nat.le_succ _) _).setCell (p := ⟨w.heap.size + 1, 3, none⟩) (Nat.le_succ _) _

/-- Two keepers in their boxes. -/
structure E (w : World) (k : Kp) (a1 a2 : Option Addr) (c1 c2 : Nat) (W : World) : Prop where
  x : K0.Blk w.heap.size (kvals k a1 c1) W
  y : K0.Blk (w.heap.size + 1) (kvals k a2 c2) W
  bel : Below w.heap.size w W
theorem E.below {a1 a2 : Option Addr} {c1 c2 : Nat} (h : E w k a1 a2 c1 c2 W) (hb : Below W.heap.size W W') : E w k a1 a2 c1 c2 W' := ⟨h.x.below hb, h.y.below hb, h.bel.trans (hb.mono h.bel.size)⟩

set_option maxHeartbeats 2000000 in
theorem eqKeeper (k : Kp) (a1 a2 : Option Addr) (c1 c2 : Nat) (s1 s2 : Nat → Sl) (w : World) (hs : k.ds.length + tot k.ds k.ds.length ≤ 1048576) (h1 : Lns w a1 k.ds s1) (h2 : Lns w a2 k.ds s2) :
    Calls Tryz.prog 23 #[kval k a1 c1, kval k a2 c2] w fun e w' => e = .returned (.bool true) ∧ Below w.heap.size w w' := by
  have e0 : E w k a1 a2 c1 c2 ((w.alloc (.cells #[.string k.mem, .string k.dur, .slice a1 k.ds.length c1, .int .i64 k.ck] 51)).alloc (.cells #[.string k.mem, .string k.dur, .slice a2 k.ds.length c2, .int .i64 k.ck] 51)) :=
    ⟨(K0.blk_new (kvals k a1 c1) w 51).alloc _, K0.blk_at (kvals k a2 c2) _ 51 (by simp), ((Below.refl _ _).alloc (Nat.le_refl _) _).alloc (by simp) _⟩
  have HE : Hid (∀ W, Below w.heap.size w W → Calls Tryz.prog 70 #[.slice a1 k.ds.length c1, .slice a2 k.ds.length c2] W fun e w' => e = .returned (.bool true) ∧ Below W.heap.size W w') := fun W hb => Z2.eqLoanS a1 a2 c1 c2 k.ds s1 s2 W hs (h1.below hb) (h2.below hb)
  clear h1 h2
  go_enter Tryz.func23, Tryz.ntmps23
  go_wp2_with (first
    | (go_at_call 69; refine (D1.eqDev _ _ _).mono ?_; rintro e w1 ⟨rfl, b1⟩; have t1 := e0.below b1; have x2 := t1.x.c2; have y2 := t1.y.c2)
    | (go_at_call 70; refine (HE.out _ t1.bel).mono ?_; rintro e w2 ⟨rfl, b2⟩; have t2 := t1.below b2; have x3 := t2.x.c3; have y3 := t2.y.c3))
  go_ret
  exact ⟨rfl, t2.bel⟩

/-- What a law keeps of its keeper, in its box. -/
structure A (w : World) (k : Kp) (a : Option Addr) (c : Nat) (ss : Nat → Sl) (W : World) : Prop where
  b : K0.Blk w.heap.size (kvals k a c) W
  l : Lns W a k.ds ss
  bel : Below w.heap.size w W
variable {ss : Nat → Sl}
theorem A.below (h : A w k a c ss W) (hb : Below W.heap.size W W') : A w k a c ss W' := ⟨h.b.below hb, h.l.below hb, h.bel.trans (hb.mono h.bel.size)⟩
theorem A.drew (h : A w k a c ss W) : A w k a c ss W.drew := h.below ((Below.refl _ _).drew)
theorem a_new (w : World) (k : Kp) (a : Option Addr) (c : Nat) (ss : Nat → Sl) (h : Lns w a k.ds ss) : A w k a c ss (w.alloc (.cells #[.string k.mem, .string k.dur, .slice a k.ds.length c, .int .i64 k.ck] 45)) :=
  ⟨K0.blk_new (kvals k a c) w 45, h.below (K0.below_new _ _), K0.below_new _ _⟩

/-- Beside it a copy of it, boxed. -/
structure U (w : World) (k : Kp) (a : Option Addr) (c : Nat) (ss : Nat → Sl) (g B : Nat) (P : Nat → Pl) (W : World) : Prop where
  t : A w k a c ss W
  n : K0.Blk B (kvals k (some ⟨g, 0, none⟩) k.ds.length) W
  cp : Cps g (g + 1) k.ds P W
theorem U.below (h : U w k a c ss g B P W) (hb : Below W.heap.size W W') : U w k a c ss g B P W' := ⟨h.t.below hb, h.n.below hb, h.cp.below hb⟩
theorem U.drew (h : U w k a c ss g B P W) : U w k a c ss g B P W.drew := h.below ((Below.refl _ _).drew)
theorem u_new (h : A w k a c ss W) (hc : Cps g (g + 1) k.ds P W) :
    U w k a c ss g W.heap.size P (W.alloc (.cells #[.string k.mem, .string k.dur, .slice (some ⟨g, 0, none⟩) k.ds.length k.ds.length, .int .i64 k.ck] 51)) :=
  ⟨h.below (K0.below_new _ _), K0.blk_new (kvals k (some ⟨g, 0, none⟩) k.ds.length) W 51, hc.below (K0.below_new _ _)⟩

theorem fits (hs : tot ds ds.length ≤ 1048576) (j : Nat) (hj : j < ds.length) : Fit (dat ds j) (pls ds P j) ∧ (dat ds j).po.length ≤ 1048576 ∧ (dat ds j).fr.length ≤ 1048576 := by
  have h := tot_one hj
  obtain ⟨z1, z2, z3, -, -⟩ := N12.sizes (d := dat ds j) (by omega)
  exact ⟨N12.fitc (by omega), z2, z3⟩
end Go.Proofs.YtdljajjgppcjpaaGreat.Z3

/- A row of numbers appended to another; contracts of slices.Grow and slices.Concat, as the given laws call them. -/
namespace Go.Proofs.YtdljajjgppcjpaaGreat.Q1
open Go.ChangeShapes Go.WideShapes Go.ChangeAt Go.RowKit
set_option linter.unusedVariables false
set_option linter.unusedSimpArgs false
set_option maxRecDepth 10000

open I2 (ints)
open J0 (IBuf Own)

theorem run_append_none {P : Program} (w : World) (t ty e : TypeId) (i : TypeInfo) (ht : P.underlying t = some (.slice e)) (hi : P.info? e = some i) (b : Option Addr) (n cap : Nat) (hle : n ≤ cap) (ax : Option Addr) (cx : Nat) :
    (Builtin.append_ #[t, t] ty #[.slice b n cap, .slice ax 0 cx]).run P w = .ok (.slice b n cap) w := by
  cases b <;> cases ax <;> simp [Builtin.append_, run_underlying ht, sizeOf, typeInfo, hi, Builtin.lenOf, Builtin.firstCells, loadCells, loadCellsFrom, storeCells, hle]

variable {base n cap : Nat} {a : Option Addr} {w W : World} {zs : List Int}

theorem ints_one (xs : List Int) : ∀ u ∈ ints xs, u.oneCell' = true := by
  intro u h
  simp at h
  obtain ⟨z, _, rfl⟩ := h
  rfl

/-- 'list = append(list, others...)'. -/
theorem append_rows {ops : Array Oper} {rest : List Oper} {o : Oper} {A : Act} {Q : Exit → Act → World → Prop} (hgd : o.guard = none) (sl x : Operand)
    (ho : o.op = .call { callee := .builtin .append, args := #[sl, x], argTypes := #[24, 24] })
    (hbuf : IBuf base w a n cap zs) (ax : Option Addr) (cx : Nat) (xs : List Int) (hs : A.eval sl = .slice a n cap) (hx : A.eval x = .slice ax xs.length cx) (hR : P0.Row w ax xs) (hlen : n + xs.length ≤ 4194304) (hb : base ≤ w.heap.size)
    (h : ∀ a' cap' w', IBuf base w' a' (n + xs.length) cap' (zs ++ xs) → Below base w w' → wpList Tryz.prog ops Q rest (A.put o.dst (.slice a' (n + xs.length) cap')) w') : wpList Tryz.prog ops Q (o :: rest) A w := by
  obtain ⟨i0, hi, hz0, hz1, hz2⟩ := info_parts I2.info3
  by_cases h0 : xs = []
  · subst h0
    refine Lib.wpList_append_run _ hgd sl x 24 24 ho _ _ hs hx _ _ (run_append_none w 24 _ 3 i0 Tryz.underlying24 hi a n cap hbuf.fits ax cx) ?_
    exact h a cap w (by rw [List.append_nil]; exact hbuf) (Below.refl _ _)
  · rcases hR with hR | ⟨b, off, rfl, hb2, hc⟩
    · exact absurd hR h0
    · have hm : 0 < xs.length := List.length_pos_iff.2 h0
      refine wpList_append_lies _ hgd sl x 24 ho base 3 i0 (.int .i64 0) 1 8 Tryz.underlying24 hi hz0 hz1 hz2 rfl (by omega) _ n _ hs hbuf.2 ⟨b, off, none⟩ xs.length cx (ints xs) hx (by simp) ?_ (ints_one xs) hm (by unfold maxLen; omega) (by omega) hb _ rfl ?_
      · intro j u hj
        have hj' : j < xs.length := by
          have := (List.getElem?_eq_some_iff.1 hj).1
          simpa using this
        rw [B0.add_off, hc j hj', P0.getD_get _ _ hj', ← hj]
        simp [hj']
      · intro g' cap' w' ho' hg' _ _
        refine h (some ⟨g', 0, none⟩) cap' w' ⟨by rw [hbuf.1]; simp, ?_⟩ ?_
        · rw [show ints (zs ++ xs) = ints zs ++ ints xs by simp]
          exact ho'
        · exact F0.below_grown (Below.refl _ _) hg' (J0.own_block hbuf) hb

set_option maxHeartbeats 2000000 in
theorem grow (k : Nat) (w : World) (hk : k ≤ 4194304) :
    Calls Tryz.prog 106 #[.slice none 0 0, .int .i64 k] w fun e w' => ∃ a c, e = .returned (.slice a 0 c) ∧ IBuf w.heap.size w' a 0 c [] ∧ Below w.heap.size w w' := by
  by_cases h0 : k = 0
  · subst h0
    go_enter Tryz.func106, Tryz.ntmps106
    go_wp2
    go_ret
    exact ⟨none, 0, rfl, J0.ibuf_nil _, Below.refl _ _⟩
  · obtain ⟨i0, hi, hz0, hz1, hz2⟩ := info_parts I2.info3
    have hrz : ∀ ty, (Builtin.append_ #[24, 3] ty #[.slice none 0 0, .int .i64 k]).run Tryz.prog w = .ok (.slice (some ⟨w.heap.size, 0, none⟩) (0 + k) (grownCap w (0 + k) 0 3)) (w.drew.alloc (.cells ((#[] : Array Value) ++ Builtin.zeroCells (Value.int .i64 0).cells k ++ Builtin.zeroCells (Value.int .i64 0).cells (grownCap w (0 + k) 0 3 - (0 + k))) 3)) := fun ty =>
      Lib.run_append_grow_zeros w 24 3 ty 3 i0 (.int .i64 0) .i64 .i64 Tryz.underlying24 Tryz.underlying3 hi hz0 none 0 0 [] (run_firstCells_none w.drew i0.size 0 0 0) k (by omega) (by omega) (by omega) (by omega) (by rw [hz2]; omega) (by rw [hz2, Builtin.nextslicecap, if_pos (by omega)]; omega)
    have hG := grownCap_ge w (0 + k) 0 3
    have hM := grownCap_le_maxLen w (0 + k) 0 3 (by unfold maxLen; omega)
    have hgt : (0 : Int) < (k : Int) := by omega
    have hnk : 0 < k := by omega
    obtain ⟨C, hC⟩ : ∃ C : Array Value, C = (#[] : Array Value) ++ Builtin.zeroCells (Value.int .i64 0).cells k ++ Builtin.zeroCells (Value.int .i64 0).cells (grownCap w (0 + k) 0 3 - (0 + k)) := ⟨_, rfl⟩
    rw [← hC] at hrz
    rw [Nat.zero_add] at hC hrz hG hM
    have hsz : C.size = grownCap w k 0 3 := by
      rw [hC]
      simp [Builtin.zeroCells, Value.cells]
      omega
    obtain ⟨G, hg⟩ : ∃ G, grownCap w k 0 3 = G := ⟨_, rfl⟩
    rw [hg] at hrz hG hM hsz
    have hbuf : IBuf w.heap.size (w.drew.alloc (.cells C 3)) (some ⟨w.heap.size, 0, none⟩) 0 G [] := ⟨rfl, World.ownsRow_made w.drew C G (Nat.le_refl _) hM (by omega)⟩
    have hbel : Below w.heap.size w (w.drew.alloc (.cells C 3)) := (Below.refl _ w).drew.alloc (Nat.le_refl _) _
    have hM' : G ≤ 9223372036854775807 := hM
    have hGk : k ≤ G := by omega
    clear hC hsz hg hM hi hz0 hz1 hz2
    go_enter Tryz.func106, Tryz.ntmps106
    go_wp2_with (at_builtin; refine Lib.wpList_append_run _ rfl _ _ _ _ rfl _ _ rfl rfl _ _ (hrz _) ?_)
    all_goals
      go_ret
      exact ⟨_, _, rfl, hbuf, hbel⟩

/-- The first of two lists, joined. -/
def pre (xs zs : List Int) (k : Nat) : List Int := if k = 0 then [] else if k = 1 then xs else zs

set_option maxHeartbeats 4000000 in
theorem concat0 (B : Nat) (a1 a2 : Option Addr) (c1 c2 : Nat) (xs ys zs : List Int) (hzs : zs = xs ++ ys) (w : World) (h1 : w.cell? ⟨B, 0, none⟩ = some (.slice a1 xs.length c1)) (h2 : w.cell? ⟨B, 1, none⟩ = some (.slice a2 ys.length c2)) (hB : B < w.heap.size)
    (R1 : P0.Row w a1 xs) (R2 : P0.Row w a2 ys) (hx : xs.length ≤ 1048576) (hy : ys.length ≤ 1048576) :
    Calls Tryz.prog 65 #[.slice (some ⟨B, 0, none⟩) 2 2] w fun e w' => ∃ a c, e = .returned (.slice a zs.length c) ∧ Own w.heap.size w' a zs ∧ zs.length ≤ c ∧ Below w.heap.size w w' := by
  have HL : Hid (zs.length = xs.length + ys.length) := by rw [hzs]; exact List.length_append
  have HZ : Hid (xs ++ ys = zs) := hzs.symm
  have hzl : zs.length ≤ 4194304 := by rw [HL.out]; omega
  clear hzs
  go_enter Tryz.func65, Tryz.ntmps65
  go_wp2
  go_loop [3, 11] (fun v i => ∃ k : Nat, k ≤ 2 ∧ i = .int .i64 k ∧ v = .int .i64 ((pre xs zs k).length : Int)) (fun _ i => 2 - (intOf i).toNat)
  case atStart => exact ⟨0, Nat.zero_le _, rfl, rfl⟩
  case round =>
    obtain ⟨k, hk, rfl, rfl⟩ := hrel
    have hk' : k = 0 ∨ k = 1 ∨ k = 2 := by omega
    rcases hk' with rfl | rfl | rfl
    · have e0 : (pre xs zs 0).length = 0 := rfl
      rw [e0]
      have e1 : ¬ ((xs.length : Int) < 0) := by omega
      go_wp2
      go_round
      case rel => exact ⟨1, by omega, by go_num, rfl⟩
      case measure => simp [intOf]
    · have e0 : (pre xs zs 1).length = xs.length := rfl
      rw [e0]
      have e1 : ¬ ((xs.length : Int) + (ys.length : Int) < 0) := by omega
      go_wp2
      go_round
      case rel => exact ⟨2, by omega, by go_num, by show _ = Value.int .i64 ((zs.length : Nat) : Int); rw [HL.out]; go_num⟩
      case measure => simp [intOf]
    · have e0 : (pre xs zs 2).length = zs.length := rfl
      rw [e0]
      have hgr := grow zs.length w (by omega)
      go_wp2_with (go_at_call 106; refine hgr.mono ?_; rintro e w1 ⟨a, c, rfl, hbuf, hbel⟩)
      clear hgr
      go_loopw [6, 27] (fun v i w' => ∃ (k c : Nat) (a : Option Addr), k ≤ 2 ∧ i = .int .i64 k ∧ v = .slice a (pre xs zs k).length c ∧ IBuf w.heap.size w' a (pre xs zs k).length c (pre xs zs k) ∧ Below w.heap.size w w') (fun _ i _ => 2 - (intOf i).toNat)
      case atStart => exact ⟨0, c, a, Nat.zero_le _, rfl, rfl, hbuf, hbel⟩
      case round =>
        obtain ⟨k, c', a', hk, rfl, rfl, hbuf', hbel'⟩ := hrel
        clear hbuf hbel
        have x1 := (hbel'.cell (p := ⟨B, 0, none⟩) hB).trans h1
        have x2 := (hbel'.cell (p := ⟨B, 1, none⟩) hB).trans h2
        have r1 := R1.below hbel'
        have r2 := R2.below hbel'
        have hk' : k = 0 ∨ k = 1 ∨ k = 2 := by omega
        rcases hk' with rfl | rfl | rfl
        · have hb0 : IBuf w.heap.size wr a' 0 c' [] := hbuf'
          have e0 : (pre xs zs 0).length = 0 := rfl
          rw [e0]
          clear hbuf' h1 h2 R1 R2
          go_wp2_with (at_builtin; refine append_rows rfl (.tmp 31) (.tmp 32) rfl hb0 a1 c1 xs rfl rfl r1 (by omega) hbel'.size ?_; intro a3 c3 w3 b3 l3)
          go_roundw
          case rel => exact ⟨1, c3, a3, by omega, by go_num, rfl, by rw [Nat.zero_add] at b3; exact b3, hbel'.trans l3⟩
          case measure => simp [intOf]
        · have hb0 : IBuf w.heap.size wr a' xs.length c' xs := hbuf'
          have e0 : (pre xs zs 1).length = xs.length := rfl
          rw [e0]
          clear hbuf' h1 h2 R1 R2
          go_wp2_with (at_builtin; refine append_rows rfl (.tmp 31) (.tmp 32) rfl hb0 a2 c2 ys rfl rfl r2 (by omega) hbel'.size ?_; intro a3 c3 w3 b3 l3)
          go_roundw
          case rel => exact ⟨2, c3, a3, by omega, by go_num, by rw [← HL.out]; rfl, by rw [← HL.out, HZ.out] at b3; exact b3, hbel'.trans l3⟩
          case measure => simp [intOf]
        · have hb0 : IBuf w.heap.size wr a' zs.length c' zs := hbuf'
          have e0 : (pre xs zs 2).length = zs.length := rfl
          rw [e0]
          clear hbuf' h1 h2 R1 R2
          go_wp2
          go_ret
          exact ⟨a', c', rfl, hb0.own, hb0.fits, hbel'⟩
theorem concat (B : Nat) (a1 a2 : Option Addr) (c1 c2 : Nat) (xs ys : List Int) (w : World) (h1 : w.cell? ⟨B, 0, none⟩ = some (.slice a1 xs.length c1)) (h2 : w.cell? ⟨B, 1, none⟩ = some (.slice a2 ys.length c2)) (hB : B < w.heap.size)
    (R1 : P0.Row w a1 xs) (R2 : P0.Row w a2 ys) (hx : xs.length ≤ 1048576) (hy : ys.length ≤ 1048576) :
    Calls Tryz.prog 65 #[.slice (some ⟨B, 0, none⟩) 2 2] w fun e w' => ∃ a c, e = .returned (.slice a (xs ++ ys).length c) ∧ Own w.heap.size w' a (xs ++ ys) ∧ (xs ++ ys).length ≤ c ∧ Below w.heap.size w w' :=
  concat0 B a1 a2 c1 c2 xs ys (xs ++ ys) rfl w h1 h2 hB R1 R2 hx hy
end Go.Proofs.YtdljajjgppcjpaaGreat.Q1

/- Contracts of impl.recordText and impl.PutInode, as the given laws call them. -/
namespace Go.Proofs.YtdljajjgppcjpaaGreat.R1
open Go.ChangeShapes Go.WideShapes Go.ChangeAt Go.RowKit
set_option linter.unusedVariables false
set_option linter.unusedSimpArgs false
set_option maxRecDepth 10000

open I0 (val vals)

theorem ret_str {a b : ByteArray} (h : a = b) : Ending.returned (.string a) = .returned (.string b) := by rw [h]

/-- The record's text so far: kind, owner, size, and the first pages. -/
def upto (k o s : Int) (zs : List Int) (j : Nat) : ByteArray := R0.two k o ++ B3.pair s ++ R0.pg (zs.take j)

theorem upto_zero (k o s : Int) (zs : List Int) : upto k o s zs 0 = R0.two k o ++ B3.pair s := by
  apply ByteArray.ext
  simp [upto, R0.pg]
theorem upto_succ (k o s : Int) (zs : List Int) (j : Nat) (h : j < zs.length) : upto k o s zs j ++ ⟨#[UInt8.ofNat (zs.getD j 0).toNat]⟩ = upto k o s zs (j + 1) := by
  rw [upto, upto, ByteArray.append_assoc, R0.pg_snoc zs j h]
theorem upto_all (k o s : Int) (zs : List Int) : upto k o s zs zs.length = R0.head k o s zs := by rw [upto, List.take_length, R0.head]

theorem zeros_buf {base g n cap : Nat} {W : World} {t : ByteArray} (m : Int) (h : F0.Buf base W g n cap t) :
    Calls Tryz.prog 27 #[.int .i64 m] W fun e w' => e = .returned (.string (B4.zeros m)) ∧ F0.Buf base w' g n cap t ∧ Below W.heap.size W w' :=
  (B4.impl_Zeros m W).mono fun _ _ ⟨he, hb⟩ => ⟨he, h.below hb, hb⟩

/-- A world behind the call's own box, with the row. -/
structure St (w : World) (W1 : World) (g n cap : Nat) (t : ByteArray) (W : World) : Prop where
  buf : F0.Buf W1.heap.size W g n cap t
  bel : Below W1.heap.size W1 W

variable {w W1 W W' : World} {g n cap : Nat} {t : ByteArray}

theorem St.below (h : St w W1 g n cap t W) (hb : Below W.heap.size W W') : St w W1 g n cap t W' := ⟨h.buf.below hb, h.bel.trans (hb.mono h.bel.size)⟩
theorem St.drew (h : St w W1 g n cap t W) : St w W1 g n cap t W.drew := ⟨h.buf.drew, h.bel.drew⟩

theorem zeros_st (m : Int) (h : St w W1 g n cap t W) :
    Calls Tryz.prog 27 #[.int .i64 m] W fun e w' => e = .returned (.string (B4.zeros m)) ∧ St w W1 g n cap t w' :=
  (B4.impl_Zeros m W).mono fun _ _ ⟨he, hb⟩ => ⟨he, h.below hb⟩

theorem with_st (a : ByteArray) (k : Int) (u : ByteArray) (hs : a.size ≤ 281474976710656) (ht : u.size ≤ 281474976710656) (h : St w W1 g n cap t W) :
    Calls Tryz.prog 26 #[.string a, .int .i64 k, .string u] W fun e w' => e = .returned (.string (B5.laid a k u)) ∧ St w W1 g n cap t w' :=
  (B5.impl_With a k u W hs ht).mono fun _ _ ⟨he, hb⟩ => ⟨he, h.below hb⟩

set_option maxHeartbeats 2000000 in
theorem recordText (k o s : Int) (a : Option Addr) (c : Nat) (zs : List Int) (w : World) (hok : I0.ok k o s zs = true) (hR : P0.Row w a zs) :
    Calls Tryz.prog 164 #[val k o s a zs.length c] w fun e w' => e = .returned (.string (R0.putI k o s zs)) ∧ Below w.heap.size w w' := by
  obtain ⟨hk, ho, hs, hl, -, hp⟩ := R0.ok_bounds hok
  have hP2 := R0.pair_size s (by omega) (by omega)
  have hbox := K0.blk_new (vals k o s a zs.length c) w 69
  have hl0 := K0.below_new w (.cells #[.int .i64 k, .int .i64 o, .int .i64 s, .slice a zs.length c] 69)
  have hR1 := hR.below hl0
  have hbuf0 := F0.buf_two (base := (w.alloc (.cells #[.int .i64 k, .int .i64 o, .int .i64 s, .slice a zs.length c] 69)).heap.size) (w.alloc (.cells #[.int .i64 k, .int .i64 o, .int .i64 s, .slice a zs.length c] 69)) k o (by omega) (by omega) (Nat.le_refl _)
  have hbuf0 := hbuf0.at (g' := w.heap.size + 1) (by simp)
  have hbl0 := K0.below_new (w.alloc (.cells #[.int .i64 k, .int .i64 o, .int .i64 s, .slice a zs.length c] 69)) (.cells #[.int .u8 k, .int .u8 o] 5)
  have hbox0 := hbox.below hbl0
  have HT : Hid (R0.putI k o s zs = B5.laid (B4.zeros 16) 0 (R0.head k o s zs)) := by
    have hz := R0.head_size k o s zs (by omega) (by omega)
    rw [R0.putI, if_pos hok, B4.zeros, if_pos (by decide), show ((16 : Int)).toNat = 16 from rfl, E0.laid_front _ 16 (by omega), hz, show 16 - (4 + zs.length) = 12 - zs.length by omega]
    rfl
  have hz4 : (R0.head k o s zs).size ≤ 281474976710656 := by rw [R0.head_size k o s zs (by omega) (by omega)]; omega
  have hz5 : (B4.zeros 16).size ≤ 281474976710656 := by decide
  clear hR hok
  have hs0 : 0 ≤ s := hs.1
  have hk0 : 0 ≤ k := hk.1
  have hk1 : k ≤ 2 := hk.2
  have ho0 : 0 ≤ o := ho.1
  have ho1 : o ≤ 9 := ho.2
  go_enter Tryz.func164, Tryz.ntmps164
  go_wp2_with (first
    | (go_at_call 176; refine (B3.impl_Pair _ _).mono ?_; rintro e w2 ⟨rfl, b2⟩; have hbuf2 := hbuf0.below b2; have bel2 := hbl0.trans (b2.mono hbl0.size); have hbox2 := hbox.below bel2; have c3 := hbox2.c3)
    | (at_builtin; refine F0.append_text rfl (.tmp 13) (.tmp 16) rfl hbuf2 (B3.pair s) (by rfl) (by rfl) (by omega) bel2.size ?_; intro g3 cap3 w3 hbuf3 bel3'; have bel3 := bel2.trans bel3'; have hbox3 := hbox.below bel3; have d3 := hbox3.c3))
  go_loopw [3, 21] (fun r i w' => ∃ (j g cap : Nat), j ≤ zs.length ∧ i = .int .i64 j ∧ r = .slice (some ⟨g, 0, none⟩) (4 + j) cap ∧ F0.Buf (w.alloc (.cells #[.int .i64 k, .int .i64 o, .int .i64 s, .slice a zs.length c] 69)).heap.size w' g (4 + j) cap (upto k o s zs j) ∧ Below (w.alloc (.cells #[.int .i64 k, .int .i64 o, .int .i64 s, .slice a zs.length c] 69)).heap.size (w.alloc (.cells #[.int .i64 k, .int .i64 o, .int .i64 s, .slice a zs.length c] 69)) w') (fun _ i _ => zs.length - (intOf i).toNat)
  case atStart =>
    rw [hP2] at hbuf3
    exact ⟨0, g3, cap3, Nat.zero_le _, rfl, rfl, by rw [upto_zero]; exact hbuf3, bel3⟩
  case round =>
    obtain ⟨j, g, cap, hj, rfl, rfl, hbuf, hbel⟩ := hrel
    clear hbuf0 hbl0 hbox0 hbuf2 bel2 hbox2 c3 hbuf3 bel3 bel3' hbox3 d3 b2
    by_cases hlt : j < zs.length
    · obtain ⟨b, off, rfl, hb, hc⟩ := (hR1.below hbel).get hlt
      have x1 := hc j hlt
      have hz := R0.pages_bounds hp hlt
      have hu := upto_succ k o s zs j hlt
      obtain ⟨z, ez⟩ : ∃ z, zs.getD j 0 = z := ⟨_, rfl⟩
      rw [ez] at x1 hz hu
      have z0 : 0 ≤ z := by omega
      have z1 : z ≤ 23 := hz.2
      have e1 : (0 : Int) ≤ (j : Int) := by omega
      have e2 : (j : Int) < (zs.length : Int) := by omega
      have HU : Hid (upto k o s zs j ++ ⟨#[UInt8.ofNat z.toNat]⟩ = upto k o s zs (j + 1)) := hu
      clear hu ez hc hz
      go_wp2_with (at_builtin; refine F0.append_byte rfl (.tmp 25) (.tmp 28) rfl hbuf z (by omega) (by rfl) (by rfl) (by omega) hbel.size ?_; intro g1 cap1 w1 hbuf1 bel1)
      go_roundw
      case rel => exact ⟨j + 1, g1, cap1, by omega, by go_num, rfl, by rw [← HU.out]; exact hbuf1, hbel.trans bel1⟩
      case measure => simp [intOf]; omega
    · obtain rfl : j = zs.length := by omega
      rw [upto_all] at hbuf
      have st : St w (w.alloc (.cells #[.int .i64 k, .int .i64 o, .int .i64 s, .slice a zs.length c] 69)) g (4 + zs.length) cap (R0.head k o s zs) wr := ⟨hbuf, hbel⟩
      have hfin : Hid (∀ W, St w (w.alloc (.cells #[.int .i64 k, .int .i64 o, .int .i64 s, .slice a zs.length c] 69)) g (4 + zs.length) cap (R0.head k o s zs) W → Below w.heap.size w W) := fun W h => hl0.trans (h.bel.mono hl0.size)
      clear hR1 hbuf hbel hbox hl0
      go_wp2
      have st1 := st.drew
      have cv0 := st.buf.conv
      have cv1 := st1.buf.conv
      go_region_with (first
        | (go_at_call 27; refine (zeros_st _ (by assumption)).mono ?_; rintro e w4 ⟨rfl, h4⟩; have cv4 := h4.buf.conv)
        | (go_at_call 26; refine (with_st _ _ _ hz5 hz4 (by assumption)).mono ?_; rintro e w5 ⟨rfl, h5⟩))
      all_goals
        go_wp2
        go_ret
        exact ⟨ret_str HT.out.symm, hfin.out _ h5⟩

end Go.Proofs.YtdljajjgppcjpaaGreat.R1

/- Contracts of impl.readPages, impl.readRecord, impl.isFree, impl.inodeOf and impl.GetInode, as the given laws call them. -/
namespace Go.Proofs.YtdljajjgppcjpaaGreat.G1
open Go.ChangeShapes Go.WideShapes Go.ChangeAt Go.RowKit
set_option linter.unusedVariables false
set_option linter.unusedSimpArgs false
set_option maxRecDepth 10000

open I0 (val vals)

set_option maxHeartbeats 1000000 in
theorem readPages (s : ByteArray) (w : World) (h16 : s.size = 16) :
    Calls Tryz.prog 161 #[.string s, .int .i64 (P0.need (B6.pairAt s 2))] w fun e w' => ∃ a c, e = .returned (.slice a (G0.pgs s (G0.cnt s)).length c) ∧ J0.IBuf w.heap.size w' a (G0.pgs s (G0.cnt s)).length c (G0.pgs s (G0.cnt s)) ∧ Below w.heap.size w w' := by
  rw [G0.pgs_length]
  have hm : s.size ≤ maxLen := by unfold maxLen; omega
  have hz : (s.size : Int) = 16 := by omega
  have b0 := J0.ibuf_made w (Nat.le_refl _)
  have l0 := K0.below_new w (.cells #[] 3)
  have hcl := G0.cnt_le s
  have hct := G0.cnt_lt s
  obtain ⟨N, hN⟩ : ∃ N, P0.need (B6.pairAt s 2) = N := ⟨_, rfl⟩
  rw [hN] at hct ⊢
  obtain ⟨C, hC⟩ : ∃ C, G0.cnt s = C := ⟨_, rfl⟩
  rw [hC] at hct hcl ⊢
  clear hN hC
  go_enter Tryz.func161, Tryz.ntmps161
  go_wp2
  go_loopw [5, 6] (fun v i w' => ∃ (k c : Nat) (a : Option Addr), k ≤ C ∧ i = .int .i64 (4 + (k : Int)) ∧ v = .slice a k c ∧ J0.IBuf w.heap.size w' a k c (G0.pgs s k) ∧ Below w.heap.size w w') (fun _ i _ => 16 - (intOf i).toNat)
  case atStart => exact ⟨0, 0, _, Nat.zero_le _, rfl, rfl, b0, l0⟩
  case round =>
    obtain ⟨k, c, a, hk, rfl, rfl, hbuf, hbel⟩ := hrel
    clear b0 l0
    by_cases hlt : k < C
    · obtain ⟨h1, h2⟩ := (hct k).1 hlt
      have e1 : 4 + (k : Int) < 16 := by omega
      have HS : Hid (G0.pgs s k ++ [B1.byteAt s (4 + (k : Int))] = G0.pgs s (k + 1)) := G0.pgs_succ s k
      go_wp2_with (first
        | (go_at_call 160; refine (B1.impl_ByteAt _ _ _ hm).mono ?_; rintro e w' ⟨rfl, rfl⟩)
        | (at_builtin; refine J0.append_int rfl (.tmp 20) (.tmp 24) rfl hbuf _ (by rfl) (by rfl) (by omega) hbel.size ?_; intro g1 cap1 w1 hbuf1 bel1))
      go_roundw
      case rel => exact ⟨k + 1, cap1, _, by omega, by go_num, rfl, by rw [← HS.out]; exact hbuf1, hbel.trans bel1⟩
      case measure => simp [intOf]; omega
    · obtain rfl : k = C := by omega
      by_cases h12 : k < 12
      · have e1 : 4 + (k : Int) < 16 := by omega
        have e2 : ¬ (k : Int) < N := fun h => hlt ((hct k).2 ⟨h, h12⟩)
        have e3 : decide ((k : Int) < N) = false := by simpa using e2
        go_wp2
        go_ret
        exact ⟨a, c, rfl, hbuf, hbel⟩
      · have e1 : ¬ 4 + (k : Int) < 16 := by omega
        have e3 : decide (4 + (k : Int) < 16) = false := by simpa using e1
        go_wp2
        go_ret
        exact ⟨a, c, rfl, hbuf, hbel⟩

theorem as00 (v : Value) (w : World) : (Instr.typeAssert (.iface 226 v) 177 226 true).run Tryz.prog w = .ok (.tuple #[v, .bool true]) w := by kernel_rfl
theorem as10 (v : Value) (w : World) : (Instr.typeAssert (.iface 214 v) 177 226 true).run Tryz.prog w = .ok (.tuple #[val 0 0 0 none 0 0, .bool false]) w := by kernel_rfl
theorem as20 (v : Value) (w : World) : (Instr.typeAssert (.iface 216 v) 177 226 true).run Tryz.prog w = .ok (.tuple #[val 0 0 0 none 0 0, .bool false]) w := by kernel_rfl
theorem as11 (v : Value) (w : World) : (Instr.typeAssert (.iface 214 v) 177 214 true).run Tryz.prog w = .ok (.tuple #[v, .bool true]) w := by kernel_rfl
theorem as21 (v : Value) (w : World) : (Instr.typeAssert (.iface 216 v) 177 214 true).run Tryz.prog w = .ok (.tuple #[val 0 0 0 none 0 0, .bool false]) w := by kernel_rfl
theorem as22 (v : Value) (w : World) : (Instr.typeAssert (.iface 216 v) 177 216 false).run Tryz.prog w = .ok v w := by kernel_rfl

theorem isFree0 (v : Value) (k o s : Int) (a : Option Addr) (n c : Nat) (hv : v = val k o s a n c) (w : World) :
    Calls Tryz.prog 165 #[.iface 226 v] w fun e w' => e = .returned (.bool true) ∧ Below w.heap.size w w' := by
  have ha := as00
  subst hv
  go_enter Tryz.func165, Tryz.ntmps165
  go_wp2
  go_ret
  exact ⟨rfl, K0.below_new _ _⟩

theorem isFree1 (v : Value) (k o s : Int) (a : Option Addr) (n c : Nat) (hv : v = val k o s a n c) (w : World) :
    Calls Tryz.prog 165 #[.iface 214 v] w fun e w' => e = .returned (.bool false) ∧ Below w.heap.size w w' := by
  have ha := as10
  subst hv
  go_enter Tryz.func165, Tryz.ntmps165
  go_wp2
  go_ret
  exact ⟨rfl, K0.below_new _ _⟩

theorem isFree2 (v : Value) (k o s : Int) (a : Option Addr) (n c : Nat) (hv : v = val k o s a n c) (w : World) :
    Calls Tryz.prog 165 #[.iface 216 v] w fun e w' => e = .returned (.bool false) ∧ Below w.heap.size w w' := by
  have ha := as20
  subst hv
  go_enter Tryz.func165, Tryz.ntmps165
  go_wp2
  go_ret
  exact ⟨rfl, K0.below_new _ _⟩

theorem inodeOf0 (k o s : Int) (a : Option Addr) (n c : Nat) (w : World) :
    Calls Tryz.prog 136 #[.iface 226 (val k o s a n c)] w fun e w' => e = .returned (val 0 0 0 none 0 0) ∧ Below w.heap.size w w' := by
  have n0 := K0.blk_new (vals 0 0 0 none 0 0) w 69
  have l0 := K0.below_new w (.cells #[.int .i64 0, .int .i64 0, .int .i64 0, .slice none 0 0] 69)
  go_enter Tryz.func136, Tryz.ntmps136
  go_wp2_with (go_at_call 165; refine (isFree0 _ k o s a n c rfl _).mono ?_; rintro e w1 ⟨rfl, b1⟩; have n1 := n0.below b1; have l1 := l0.trans (b1.mono l0.size); have c0 := n1.c0; have c1 := n1.c1; have c2 := n1.c2; have c3 := n1.c3; have f0 := n1.f0; have f1 := n1.f1; have f2 := n1.f2; have f3 := n1.f3)
  have q := n1.put4 (.int .i64 0) (.int .i64 0) (.int .i64 0) (.slice none 0 0)
  refine bodyPost_ret (v := val 0 0 0 none 0 0) (by simp [results, Tryz.results136, go_sem, q.c0, q.c1, q.c2, q.c3]) rfl ⟨rfl, ?_⟩
  exact (((l1.setCell (p := ⟨w.heap.size, 0, none⟩) (Nat.le_refl _) _).setCell (p := ⟨w.heap.size, 1, none⟩) (Nat.le_refl _) _).setCell (p := ⟨w.heap.size, 2, none⟩) (Nat.le_refl _) _).setCell (p := ⟨w.heap.size, 3, none⟩) (Nat.le_refl _) _

set_option maxHeartbeats 1000000 in
theorem inodeOf1 (k o s : Int) (a : Option Addr) (n c : Nat) (w : World) :
    Calls Tryz.prog 136 #[.iface 214 (val k o s a n c)] w fun e w' => e = .returned (val k o s a n c) ∧ Below w.heap.size w w' := by
  have ha := as11
  have n0 := K0.blk_new (vals 0 0 0 none 0 0) w 69
  have l0 := K0.below_new w (.cells #[.int .i64 0, .int .i64 0, .int .i64 0, .slice none 0 0] 69)
  go_enter Tryz.func136, Tryz.ntmps136
  go_wp2_with (go_at_call 165; refine (isFree1 _ k o s a n c rfl _).mono ?_; rintro e w1 ⟨rfl, b1⟩; have n1 := (n0.below b1).alloc (.cells #[.int .i64 k, .int .i64 o, .int .i64 s, .slice a n c] 214); have l1 := (l0.trans (b1.mono l0.size)).alloc (Nat.le_trans l0.size b1.size) (.cells #[.int .i64 k, .int .i64 o, .int .i64 s, .slice a n c] 214); have c0 := n1.c0; have c1 := n1.c1; have c2 := n1.c2; have c3 := n1.c3; have f0 := n1.f0; have f1 := n1.f1; have f2 := n1.f2; have f3 := n1.f3)
  have q := n1.put4 (.int .i64 k) (.int .i64 o) (.int .i64 s) (.slice a n c)
  refine bodyPost_ret (v := val k o s a n c) (by simp [results, Tryz.results136, go_sem, q.c0, q.c1, q.c2, q.c3]) rfl ⟨rfl, ?_⟩
  exact (((l1.setCell (p := ⟨w.heap.size, 0, none⟩) (Nat.le_refl _) _).setCell (p := ⟨w.heap.size, 1, none⟩) (Nat.le_refl _) _).setCell (p := ⟨w.heap.size, 2, none⟩) (Nat.le_refl _) _).setCell (p := ⟨w.heap.size, 3, none⟩) (Nat.le_refl _) _

set_option maxHeartbeats 1000000 in
theorem inodeOf2 (k o s : Int) (a : Option Addr) (n c : Nat) (w : World) :
    Calls Tryz.prog 136 #[.iface 216 (val k o s a n c)] w fun e w' => e = .returned (val k o s a n c) ∧ Below w.heap.size w w' := by
  have ha := as21
  have hb := as22
  have n0 := K0.blk_new (vals 0 0 0 none 0 0) w 69
  have l0 := K0.below_new w (.cells #[.int .i64 0, .int .i64 0, .int .i64 0, .slice none 0 0] 69)
  go_enter Tryz.func136, Tryz.ntmps136
  go_wp2_with (go_at_call 165; refine (isFree2 _ k o s a n c rfl _).mono ?_; rintro e w1 ⟨rfl, b1⟩; have n1 := (n0.below b1).alloc (.cells #[.int .i64 0, .int .i64 0, .int .i64 0, .slice none 0 0] 214); have l1 := (l0.trans (b1.mono l0.size)).alloc (Nat.le_trans l0.size b1.size) (.cells #[.int .i64 0, .int .i64 0, .int .i64 0, .slice none 0 0] 214); have c0 := n1.c0; have c1 := n1.c1; have c2 := n1.c2; have c3 := n1.c3; have f0 := n1.f0; have f1 := n1.f1; have f2 := n1.f2; have f3 := n1.f3)
  have q := n1.put4 (.int .i64 k) (.int .i64 o) (.int .i64 s) (.slice a n c)
  refine bodyPost_ret (v := val k o s a n c) (by simp [results, Tryz.results136, go_sem, q.c0, q.c1, q.c2, q.c3]) rfl ⟨rfl, ?_⟩
  exact (((l1.setCell (p := ⟨w.heap.size, 0, none⟩) (Nat.le_refl _) _).setCell (p := ⟨w.heap.size, 1, none⟩) (Nat.le_refl _) _).setCell (p := ⟨w.heap.size, 2, none⟩) (Nat.le_refl _) _).setCell (p := ⟨w.heap.size, 3, none⟩) (Nat.le_refl _) _
end Go.Proofs.YtdljajjgppcjpaaGreat.G1

/- The contract of impl.readRecord, as the given laws call it. -/
namespace Go.Proofs.YtdljajjgppcjpaaGreat.G2
open Go.ChangeShapes Go.WideShapes Go.ChangeAt Go.RowKit
set_option linter.unusedVariables false
set_option linter.unusedSimpArgs false
set_option maxRecDepth 10000

open I0 (val vals)

theorem below_of_drew {w w1 : World} {n : Nat} (h : Below (w.drewN n).heap.size (w.drewN n) w1) : Below w.heap.size w w1 := ⟨h.os, h.tape, h.output, h.size, h.block⟩

/-- The record's inode in its box, with its pages. -/
structure Nd (w : World) (B : Nat) (k o s : Int) (a : Option Addr) (zs : List Int) (c : Nat) (W : World) : Prop where
  box : K0.Blk B (vals k o s a zs.length c) W
  own : J0.Own w.heap.size W a zs
  fits : zs.length ≤ c
  bel : Below w.heap.size w W

variable {w W W' : World} {B : Nat} {k o s : Int} {a : Option Addr} {zs : List Int} {c : Nat}

theorem Nd.below (h : Nd w B k o s a zs c W) (hb : Below W.heap.size W W') : Nd w B k o s a zs c W' := ⟨h.box.below hb, h.own.below hb, h.fits, h.bel.trans (hb.mono h.bel.size)⟩

theorem nd_new (hb : Below w.heap.size w W) (hi : J0.IBuf w.heap.size W a zs.length c zs) : Nd w W.heap.size k o s a zs c (W.alloc (.cells #[.int .i64 k, .int .i64 o, .int .i64 s, .slice a zs.length c] 69)) :=
  ⟨K0.blk_new (vals k o s a zs.length c) W 69, hi.own.alloc _, hi.fits, hb.alloc hb.size _⟩

/-- What readRecord answers. -/
def Ans (s : ByteArray) (w : World) (e : Ending) (w' : World) : Prop :=
  Below w.heap.size w w' ∧ ((G0.isI s = false ∧ e = .returned (.tuple #[.nilIface, .bool false])) ∨
    (G0.isI s = true ∧ ∃ a c, e = .returned (.tuple #[I1.rec (B1.byteAt s 0) (val (B1.byteAt s 0) (B1.byteAt s 1) (B6.pairAt s 2) a (G0.pgs s (G0.cnt s)).length c), .bool true]) ∧ J0.Own w.heap.size w' a (G0.pgs s (G0.cnt s)) ∧ (G0.pgs s (G0.cnt s)).length ≤ c))

theorem ans_no {s : ByteArray} {w w' : World} (h : G0.isI s = false) (hb : Below w.heap.size w w') : Ans s w (.returned (.tuple #[.nilIface, .bool false])) w' := ⟨hb, Or.inl ⟨h, rfl⟩⟩

set_option maxHeartbeats 2000000 in
theorem readRecord (s : ByteArray) (w : World) (hs : s.size ≤ 281474976710656) :
    Calls Tryz.prog 135 #[.string s] w (Ans s w) := by
  have hm : s.size ≤ maxLen := by unfold maxLen; omega
  by_cases h16 : s.size = 16
  · have g16 : ((s.size : Int) != 16) = false := by simp; omega
    have hpa := G0.pairAt_lt s 2
    have hbad := @G0.isI_bad s
    have hof := @G0.isI_of s h16
    have hnot := @G0.isI_not s
    have hans : Ans s w = fun e w' => Below w.heap.size w w' ∧ ((G0.isI s = false ∧ e = .returned (.tuple #[.nilIface, .bool false])) ∨
      (G0.isI s = true ∧ ∃ a c, e = .returned (.tuple #[I1.rec (B1.byteAt s 0) (val (B1.byteAt s 0) (B1.byteAt s 1) (B6.pairAt s 2) a (G0.pgs s (G0.cnt s)).length c), .bool true]) ∧ J0.Own w.heap.size w' a (G0.pgs s (G0.cnt s)) ∧ (G0.pgs s (G0.cnt s)).length ≤ c)) := rfl
    rw [hans]
    clear hans
    have hrp : Hid (∀ W, Calls Tryz.prog 161 #[.string s, .int .i64 (P0.need (B6.pairAt s 2))] W fun e w' => ∃ a c, e = .returned (.slice a (G0.pgs s (G0.cnt s)).length c) ∧ J0.IBuf W.heap.size w' a (G0.pgs s (G0.cnt s)).length c (G0.pgs s (G0.cnt s)) ∧ Below W.heap.size W w') := fun W => G1.readPages s W h16
    have hlen : (G0.pgs s (G0.cnt s)).length ≤ 281474976710656 := by rw [G0.pgs_length]; have := G0.cnt_le s; omega
    unfold G0.txt at hof hnot
    obtain ⟨Z, hZ⟩ : ∃ Z, G0.pgs s (G0.cnt s) = Z := ⟨_, rfl⟩
    rw [hZ] at hbad hof hnot hrp hlen ⊢
    clear hZ
    by_cases hok : I0.ok (B1.byteAt s 0) (B1.byteAt s 1) (B6.pairAt s 2) Z = true
    · by_cases htx : ((R0.putI (B1.byteAt s 0) (B1.byteAt s 1) (B6.pairAt s 2) Z).toList == s.toList) = true
      · have HI : Hid (G0.isI s = true) := hof htx
        clear hbad hof hnot
        go_enter Tryz.func135, Tryz.ntmps135
        go_wp2_with (first
          | (go_at_call 159; refine (B6.impl_PairAt _ _ _ hs).mono ?_; rintro e w0 ⟨rfl, m0, rfl⟩)
          | (go_at_call 160; refine (B1.impl_ByteAt _ _ _ hm).mono ?_; rintro e w' ⟨rfl, rfl⟩)
          | (go_at_call 162; refine (P1.pagesFor _ _ hpa.1 hpa.2).mono ?_; rintro e w' ⟨rfl, rfl⟩)
          | (go_at_call 161; refine (hrp.out _).mono ?_; rintro e w1 ⟨a, c, rfl, hib, b1⟩; have n1 := nd_new (w := w) (k := B1.byteAt s 0) (o := B1.byteAt s 1) (s := B6.pairAt s 2) (below_of_drew b1) hib)
          | (go_at_call 163; refine (I1.recordOf _ _ _ _ _ Z _ hlen n1.fits n1.own.row).mono ?_; rintro e w2 ⟨rfl, b2⟩; have n2 := n1.below b2; have c0 := n2.box.c0; have c1 := n2.box.c1; have c2 := n2.box.c2; have c3 := n2.box.c3)
          | (go_at_call 164; refine (R1.recordText _ _ _ _ _ Z _ hok n2.own.row).mono ?_; rintro e w3 ⟨rfl, b3⟩; have n3 := n2.below b3))
        go_ret2
        exact ⟨n3.bel, Or.inr ⟨HI.out, a, c, rfl, n3.own, n3.fits⟩⟩
      · have htx' : ((R0.putI (B1.byteAt s 0) (B1.byteAt s 1) (B6.pairAt s 2) Z).toList == s.toList) = false := by simpa using htx
        have HI : Hid (G0.isI s = false) := hnot htx'
        clear hbad hof hnot htx
        go_enter Tryz.func135, Tryz.ntmps135
        go_wp2_with (first
          | (go_at_call 159; refine (B6.impl_PairAt _ _ _ hs).mono ?_; rintro e w0 ⟨rfl, m0, rfl⟩)
          | (go_at_call 160; refine (B1.impl_ByteAt _ _ _ hm).mono ?_; rintro e w' ⟨rfl, rfl⟩)
          | (go_at_call 162; refine (P1.pagesFor _ _ hpa.1 hpa.2).mono ?_; rintro e w' ⟨rfl, rfl⟩)
          | (go_at_call 161; refine (hrp.out _).mono ?_; rintro e w1 ⟨a, c, rfl, hib, b1⟩; have n1 := nd_new (w := w) (k := B1.byteAt s 0) (o := B1.byteAt s 1) (s := B6.pairAt s 2) (below_of_drew b1) hib)
          | (go_at_call 163; refine (I1.recordOf _ _ _ _ _ Z _ hlen n1.fits n1.own.row).mono ?_; rintro e w2 ⟨rfl, b2⟩; have n2 := n1.below b2; have c0 := n2.box.c0; have c1 := n2.box.c1; have c2 := n2.box.c2; have c3 := n2.box.c3)
          | (go_at_call 164; refine (R1.recordText _ _ _ _ _ Z _ hok n2.own.row).mono ?_; rintro e w3 ⟨rfl, b3⟩; have n3 := n2.below b3))
        go_ret2
        exact ⟨n3.bel, Or.inl ⟨HI.out, rfl⟩⟩
    · have hok' : I0.ok (B1.byteAt s 0) (B1.byteAt s 1) (B6.pairAt s 2) Z = false := by simpa using hok
      have HI : Hid (G0.isI s = false) := hbad hok'
      clear hbad hof hnot hok
      go_enter Tryz.func135, Tryz.ntmps135
      go_wp2_with (first
        | (go_at_call 159; refine (B6.impl_PairAt _ _ _ hs).mono ?_; rintro e w0 ⟨rfl, m0, rfl⟩)
        | (go_at_call 160; refine (B1.impl_ByteAt _ _ _ hm).mono ?_; rintro e w' ⟨rfl, rfl⟩)
        | (go_at_call 162; refine (P1.pagesFor _ _ hpa.1 hpa.2).mono ?_; rintro e w' ⟨rfl, rfl⟩)
        | (go_at_call 161; refine (hrp.out _).mono ?_; rintro e w1 ⟨a, c, rfl, hib, b1⟩; have n1 := nd_new (w := w) (k := B1.byteAt s 0) (o := B1.byteAt s 1) (s := B6.pairAt s 2) (below_of_drew b1) hib)
        | (go_at_call 163; refine (I1.recordOf _ _ _ _ _ Z _ hlen n1.fits n1.own.row).mono ?_; rintro e w2 ⟨rfl, b2⟩; have n2 := n1.below b2))
      go_ret2
      exact ⟨n2.bel, Or.inl ⟨HI.out, rfl⟩⟩
  · have g16 : ((s.size : Int) != 16) = true := by simp; omega
    have HI : Hid (G0.isI s = false) := G0.isI_no h16
    go_enter Tryz.func135, Tryz.ntmps135
    go_wp2
    go_ret2
    exact ans_no HI.out (Below.refl _ _)
end Go.Proofs.YtdljajjgppcjpaaGreat.G2

/- The contract of impl.GetInode, as the given laws call it. -/
namespace Go.Proofs.YtdljajjgppcjpaaGreat.G3
open Go.ChangeShapes Go.WideShapes Go.ChangeAt Go.RowKit
set_option linter.unusedVariables false
set_option linter.unusedSimpArgs false
set_option maxRecDepth 10000

open I0 (val vals)

/-- What GetInode answers. -/
def Ans (s : ByteArray) (w : World) (e : Ending) (w' : World) : Prop :=
  ∃ a c, e = .returned (.tuple #[val (G0.gK s) (G0.gO s) (G0.gS s) a (G0.gZ s).length c, .bool (G0.isI s)]) ∧ J0.Own w.heap.size w' a (G0.gZ s) ∧ (G0.gZ s).length ≤ c ∧ Below w.heap.size w w'

theorem ans_no {s : ByteArray} {w w' : World} (h : G0.isI s = false) (hb : Below w.heap.size w w') : Ans s w (.returned (.tuple #[val 0 0 0 none 0 0, .bool false])) w' := by
  obtain ⟨h1, h2, h3, h4⟩ := G0.g_no h
  exact ⟨none, 0, by rw [h1, h2, h3, h4, h]; rfl, by rw [h4]; exact Or.inl rfl, by rw [h4]; exact Nat.le_refl _, hb⟩

theorem ans_yes {s : ByteArray} {w w' : World} {a : Option Addr} {c : Nat} (h : G0.isI s = true) (ho : J0.Own w.heap.size w' a (G0.pgs s (G0.cnt s))) (hc : (G0.pgs s (G0.cnt s)).length ≤ c) (hb : Below w.heap.size w w') :
    Ans s w (.returned (.tuple #[val (B1.byteAt s 0) (B1.byteAt s 1) (B6.pairAt s 2) a (G0.pgs s (G0.cnt s)).length c, .bool true])) w' := by
  obtain ⟨h1, h2, h3, h4⟩ := G0.g_yes h
  exact ⟨a, c, by rw [h1, h2, h3, h4, h], by rw [h4]; exact ho, by rw [h4]; exact hc, hb⟩

/-- A free inode. -/
theorem ans_free {s : ByteArray} {w w' : World} (h : G0.isI s = true) (hk : B1.byteAt s 0 = 0) (hb : Below w.heap.size w w') : Ans s w (.returned (.tuple #[val 0 0 0 none 0 0, .bool true])) w' := by
  have hok := (G0.isI_ok h).2.2
  rw [I0.ok, if_pos hk] at hok
  simp only [I0.free, Bool.and_eq_true, decide_eq_true_eq] at hok
  have hz : G0.pgs s (G0.cnt s) = [] := List.eq_nil_of_length_eq_zero hok.2.2
  have := ans_yes (a := none) (c := 0) h (by rw [hz]; exact Or.inl rfl) (by rw [hz]; exact Nat.le_refl _) hb
  rwa [hk, hok.1, hok.2.1, hz] at this

variable {w W W' : World}

theorem read_no {s : ByteArray} (hs : s.size ≤ 281474976710656) (h : G0.isI s = false) :
    Calls Tryz.prog 135 #[.string s] W fun e w' => e = .returned (.tuple #[.nilIface, .bool false]) ∧ Below W.heap.size W w' :=
  (G2.readRecord s W hs).mono fun e w' ⟨hb, hc⟩ => by
    rcases hc with ⟨_, he⟩ | ⟨h2, _⟩
    · exact ⟨he, hb⟩
    · rw [h] at h2; cases h2

theorem read_yes {s : ByteArray} (hs : s.size ≤ 281474976710656) (h : G0.isI s = true) {v : Value → Value} (hv : ∀ x, I1.rec (B1.byteAt s 0) x = v x) :
    Calls Tryz.prog 135 #[.string s] W fun e w' => ∃ a c, e = .returned (.tuple #[v (val (B1.byteAt s 0) (B1.byteAt s 1) (B6.pairAt s 2) a (G0.pgs s (G0.cnt s)).length c), .bool true]) ∧ J0.Own W.heap.size w' a (G0.pgs s (G0.cnt s)) ∧ (G0.pgs s (G0.cnt s)).length ≤ c ∧ Below W.heap.size W w' :=
  (G2.readRecord s W hs).mono fun e w' ⟨hb, hc⟩ => by
    rcases hc with ⟨h2, _⟩ | ⟨_, a, c, he, ho, hl⟩
    · rw [h] at h2; cases h2
    · exact ⟨a, c, by rw [he, hv], ho, hl, hb⟩

/-- The answer's block, with the pages. -/
structure Rs (w : World) (a : Option Addr) (zs : List Int) (W : World) : Prop where
  res : K0.Blk w.heap.size (vals 0 0 0 none 0 0) W
  own : J0.Own (w.heap.size + 1) W a zs
  bel : Below w.heap.size w W

theorem Rs.below {a : Option Addr} {zs : List Int} (h : Rs w a zs W) (hb : Below W.heap.size W W') : Rs w a zs W' := ⟨h.res.below hb, h.own.below hb, h.bel.trans (hb.mono h.bel.size)⟩

theorem rs_new {a : Option Addr} {zs : List Int} (hb : Below (w.alloc (.cells #[.int .i64 0, .int .i64 0, .int .i64 0, .slice none 0 0] 69)).heap.size (w.alloc (.cells #[.int .i64 0, .int .i64 0, .int .i64 0, .slice none 0 0] 69)) W)
    (ho : J0.Own (w.alloc (.cells #[.int .i64 0, .int .i64 0, .int .i64 0, .slice none 0 0] 69)).heap.size W a zs) : Rs w a zs W :=
  ⟨(K0.blk_new (vals 0 0 0 none 0 0) w 69).below hb, ho.mono (by simp), (K0.below_new w _).trans (hb.mono (by simp))⟩

theorem Rs.done {a : Option Addr} {zs : List Int} (h : Rs w a zs W) (x y z u : Value) : J0.Own w.heap.size ((((W.setCell ⟨w.heap.size, 0, none⟩ x).setCell ⟨w.heap.size, 1, none⟩ y).setCell ⟨w.heap.size, 2, none⟩ z).setCell ⟨w.heap.size, 3, none⟩ u) a zs ∧
    Below w.heap.size w ((((W.setCell ⟨w.heap.size, 0, none⟩ x).setCell ⟨w.heap.size, 1, none⟩ y).setCell ⟨w.heap.size, 2, none⟩ z).setCell ⟨w.heap.size, 3, none⟩ u) :=
  ⟨((((h.own.set (Nat.lt_succ_self _) 0 x).set (Nat.lt_succ_self _) 1 y).set (Nat.lt_succ_self _) 2 z).set (Nat.lt_succ_self _) 3 u).mono (Nat.le_succ _),
   (((h.bel.setCell (p := ⟨w.heap.size, 0, none⟩) (Nat.le_refl _) _).setCell (p := ⟨w.heap.size, 1, none⟩) (Nat.le_refl _) _).setCell (p := ⟨w.heap.size, 2, none⟩) (Nat.le_refl _) _).setCell (p := ⟨w.heap.size, 3, none⟩) (Nat.le_refl _) _⟩

set_option maxHeartbeats 2000000 in
theorem impl_GetInode (s : ByteArray) (w : World) (hs : s.size ≤ 281474976710656) : Calls Tryz.prog 115 #[.string s] w (Ans s w) := by
  by_cases hI : G0.isI s = true
  · have hok := R0.ok_bounds (G0.isI_ok hI).2.2
    by_cases h0 : B1.byteAt s 0 = 0
    · have hv : ∀ x, I1.rec (B1.byteAt s 0) x = .iface 226 x := fun x => by rw [I1.rec, if_pos h0]
      have HF : Hid (∀ w', Below w.heap.size w w' → Ans s w (.returned (.tuple #[val 0 0 0 none 0 0, .bool true])) w') := fun w' hb => ans_free hI h0 hb
      have hr : Hid (∀ W, Calls Tryz.prog 135 #[.string s] W fun e w' => ∃ a c, e = .returned (.tuple #[.iface 226 (val (B1.byteAt s 0) (B1.byteAt s 1) (B6.pairAt s 2) a (G0.pgs s (G0.cnt s)).length c), .bool true]) ∧ J0.Own W.heap.size w' a (G0.pgs s (G0.cnt s)) ∧ (G0.pgs s (G0.cnt s)).length ≤ c ∧ Below W.heap.size W w') := fun W => read_yes hs hI hv
      clear hok hv h0 hI
      go_enter Tryz.func115, Tryz.ntmps115
      go_wp2_with (first
        | (go_at_call 135; refine (hr.out _).mono ?_; rintro e w1 ⟨a, c, rfl, ho, hl, b1⟩; have r1 := rs_new b1 ho)
        | (go_at_call 136; refine (G1.inodeOf0 _ _ _ _ _ _ _).mono ?_; rintro e w2 ⟨rfl, b2⟩; have r2 := r1.below b2; have c0 := r2.res.c0; have c1 := r2.res.c1; have c2 := r2.res.c2; have c3 := r2.res.c3; have f0 := r2.res.f0; have f1 := r2.res.f1; have f2 := r2.res.f2; have f3 := r2.res.f3))
      have q := r2.res.put4 (.int .i64 0) (.int .i64 0) (.int .i64 0) (.slice none 0 0)
      have d := r2.done (.int .i64 0) (.int .i64 0) (.int .i64 0) (.slice none 0 0)
      exact bodyPost_ret (v := .tuple #[val 0 0 0 none 0 0, .bool true]) (by simp [results, Tryz.results115, go_sem, q.c0, q.c1, q.c2, q.c3]) rfl (HF.out _ d.2)
    · have HF : Hid (∀ a c w', J0.Own w.heap.size w' a (G0.pgs s (G0.cnt s)) → (G0.pgs s (G0.cnt s)).length ≤ c → Below w.heap.size w w' → Ans s w (.returned (.tuple #[val (B1.byteAt s 0) (B1.byteAt s 1) (B6.pairAt s 2) a (G0.pgs s (G0.cnt s)).length c, .bool true])) w') := fun a c w' ho hl hb => ans_yes hI ho hl hb
      by_cases h1 : B1.byteAt s 0 = 1
      · have hv : ∀ x, I1.rec (B1.byteAt s 0) x = .iface 214 x := fun x => by rw [I1.rec, if_neg h0, if_pos h1]
        have hr : Hid (∀ W, Calls Tryz.prog 135 #[.string s] W fun e w' => ∃ a c, e = .returned (.tuple #[.iface 214 (val (B1.byteAt s 0) (B1.byteAt s 1) (B6.pairAt s 2) a (G0.pgs s (G0.cnt s)).length c), .bool true]) ∧ J0.Own W.heap.size w' a (G0.pgs s (G0.cnt s)) ∧ (G0.pgs s (G0.cnt s)).length ≤ c ∧ Below W.heap.size W w') := fun W => read_yes hs hI hv
        clear hok hv h0 h1 hI
        go_enter Tryz.func115, Tryz.ntmps115
        go_wp2_with (first
          | (go_at_call 135; refine (hr.out _).mono ?_; rintro e w1 ⟨a, c, rfl, ho, hl, b1⟩; have r1 := rs_new b1 ho)
          | (go_at_call 136; refine (G1.inodeOf1 _ _ _ _ _ _ _).mono ?_; rintro e w2 ⟨rfl, b2⟩; have r2 := r1.below b2; have c0 := r2.res.c0; have c1 := r2.res.c1; have c2 := r2.res.c2; have c3 := r2.res.c3; have f0 := r2.res.f0; have f1 := r2.res.f1; have f2 := r2.res.f2; have f3 := r2.res.f3))
        have q := r2.res.put4 (.int .i64 (B1.byteAt s 0)) (.int .i64 (B1.byteAt s 1)) (.int .i64 (B6.pairAt s 2)) (.slice a (G0.pgs s (G0.cnt s)).length c)
        have d := r2.done (.int .i64 (B1.byteAt s 0)) (.int .i64 (B1.byteAt s 1)) (.int .i64 (B6.pairAt s 2)) (.slice a (G0.pgs s (G0.cnt s)).length c)
        exact bodyPost_ret (v := .tuple #[val (B1.byteAt s 0) (B1.byteAt s 1) (B6.pairAt s 2) a (G0.pgs s (G0.cnt s)).length c, .bool true]) (by simp [results, Tryz.results115, go_sem, q.c0, q.c1, q.c2, q.c3]) rfl (HF.out _ _ _ d.1 hl d.2)
      · have h2 : B1.byteAt s 0 = 2 := by omega
        have hv : ∀ x, I1.rec (B1.byteAt s 0) x = .iface 216 x := fun x => by rw [I1.rec, if_neg h0, if_neg h1, if_pos h2]
        have hr : Hid (∀ W, Calls Tryz.prog 135 #[.string s] W fun e w' => ∃ a c, e = .returned (.tuple #[.iface 216 (val (B1.byteAt s 0) (B1.byteAt s 1) (B6.pairAt s 2) a (G0.pgs s (G0.cnt s)).length c), .bool true]) ∧ J0.Own W.heap.size w' a (G0.pgs s (G0.cnt s)) ∧ (G0.pgs s (G0.cnt s)).length ≤ c ∧ Below W.heap.size W w') := fun W => read_yes hs hI hv
        clear hok hv h0 h1 h2 hI
        go_enter Tryz.func115, Tryz.ntmps115
        go_wp2_with (first
          | (go_at_call 135; refine (hr.out _).mono ?_; rintro e w1 ⟨a, c, rfl, ho, hl, b1⟩; have r1 := rs_new b1 ho)
          | (go_at_call 136; refine (G1.inodeOf2 _ _ _ _ _ _ _).mono ?_; rintro e w2 ⟨rfl, b2⟩; have r2 := r1.below b2; have c0 := r2.res.c0; have c1 := r2.res.c1; have c2 := r2.res.c2; have c3 := r2.res.c3; have f0 := r2.res.f0; have f1 := r2.res.f1; have f2 := r2.res.f2; have f3 := r2.res.f3))
        have q := r2.res.put4 (.int .i64 (B1.byteAt s 0)) (.int .i64 (B1.byteAt s 1)) (.int .i64 (B6.pairAt s 2)) (.slice a (G0.pgs s (G0.cnt s)).length c)
        have d := r2.done (.int .i64 (B1.byteAt s 0)) (.int .i64 (B1.byteAt s 1)) (.int .i64 (B6.pairAt s 2)) (.slice a (G0.pgs s (G0.cnt s)).length c)
        exact bodyPost_ret (v := .tuple #[val (B1.byteAt s 0) (B1.byteAt s 1) (B6.pairAt s 2) a (G0.pgs s (G0.cnt s)).length c, .bool true]) (by simp [results, Tryz.results115, go_sem, q.c0, q.c1, q.c2, q.c3]) rfl (HF.out _ _ _ d.1 hl d.2)
  · have hI' : G0.isI s = false := by simpa using hI
    have HF : Hid (∀ w', Below w.heap.size w w' → Ans s w (.returned (.tuple #[val 0 0 0 none 0 0, .bool false])) w') := fun w' hb => ans_no hI' hb
    have hr : Hid (∀ W, Calls Tryz.prog 135 #[.string s] W fun e w' => e = .returned (.tuple #[.nilIface, .bool false]) ∧ Below W.heap.size W w') := fun W => read_no hs hI'
    clear hI hI'
    go_enter Tryz.func115, Tryz.ntmps115
    go_wp2_with (go_at_call 135; refine (hr.out _).mono ?_; rintro e w1 ⟨rfl, b1⟩; have r1 := rs_new (a := none) (zs := []) b1 (Or.inl rfl); have c0 := r1.res.c0; have c1 := r1.res.c1; have c2 := r1.res.c2; have c3 := r1.res.c3; have f0 := r1.res.f0; have f1 := r1.res.f1; have f2 := r1.res.f2; have f3 := r1.res.f3)
    have q := r1.res.put4 (.int .i64 0) (.int .i64 0) (.int .i64 0) (.slice none 0 0)
    have d := r1.done (.int .i64 0) (.int .i64 0) (.int .i64 0) (.slice none 0 0)
    exact bodyPost_ret (v := .tuple #[val 0 0 0 none 0 0, .bool false]) (by simp [results, Tryz.results115, go_sem, q.c0, q.c1, q.c2, q.c3]) rfl (HF.out _ d.2)
end Go.Proofs.YtdljajjgppcjpaaGreat.G3
