/- Joined texts: plain facts and contracts. -/
import Derived.Test.YtljnkicgahepfaaGreatDoorJlZP
import Derived.Test.YtljnkicgahepfaaGreatDoorJlZO
import Derived.Stop.LaidTwo
set_option linter.unusedVariables false
set_option linter.unusedSimpArgs false
set_option maxRecDepth 10000
namespace Go.Proofs.YtljnkicgahepfaaGreatDoor.WU
open Go.ChangeShapes Go.WideShapes Go.ChangeAt Go.RowKit
open N0 (Ln)
open N1 (Sl)
open Z0 (dat Row Lns Kp kval kvals)
open AQ (Sz)
open WO (Errs)
set_option maxHeartbeats 8000000 in
theorem walk (w : World) (k0 : Kp) (a0 : Option Addr) (c0 : Nat) (s0 : Nat → Sl) (x0 : Z0.FitK k0 s0) (R0 : Lns w a0 k0.ds s0) (cl i n : Int) (wi : (Lit.int .i64 i).wf = true) (wn : (Lit.int .i64 n).wf = true) (pN pD pB pF : Addr) (hE : Errs pN pD pB pF w) (d1 : pF ≠ pN) (d2 : pF ≠ pD) (d3 : pF ≠ pB) :
  Calls Tryz.prog 5 #[kval k0 a0 c0, .int .i64 cl, .int .i64 i, .int .i64 n] w fun e w' => e = .returned (.bool true) ∧ Below w.heap.size w w' := by
 have t0 := Z3.a_new w k0 a0 c0 s0 R0
 by_cases hz : Z1.small k0
 ·have hz' := hz
  unfold Z1.small at hz'
  have hs : k0.ds.length + Z1.tot k0.ds k0.ds.length ≤ 1048576 := by omega
  have hm1 : k0.mem.size ≤ 1048576 := by omega
  have hm2 : k0.dur.size ≤ 1048576 := by omega
  have ht : Z1.tot k0.ds k0.ds.length ≤ 1048576 := by omega
  have hsz : Sz k0 := ⟨by omega, by omega, hs⟩
  obtain ⟨Y, hY⟩ : ∃ Y, (WL.look k0 cl i n).1 = Y := ⟨_, rfl⟩
  obtain ⟨Z, hZ⟩ : ∃ Z, (WL.look k0 cl i n).2 = Z := ⟨_, rfl⟩
  have HSp : Hid (∀ a c P W, Z0.Lns W a k0.ds (Z2.pls k0.ds P) → Calls Tryz.prog 19 #[kval k0 a c, .int .i64 cl, .int .i64 i, .int .i64 n] W fun e w' => e = .returned (.tuple #[.string Y, .int .i64 Z]) ∧ Below W.heap.size W w') := fun a c P W h => by
   have := WL.spec_Look k0 a c _ cl i n W wi wn hm1 hm2 hs (Z3.fits ht) h
   rwa [hY, hZ] at this
  have HIm : Hid (∀ a c P W, Below w.heap.size w W → Z0.Lns W a k0.ds (Z2.pls k0.ds P) → Calls Tryz.prog 21 #[kval k0 a c, .int .i64 cl, .int .i64 i, .int .i64 n] W fun e w' => e = .returned (.tuple #[.string Y, .int .i64 Z]) ∧ Below W.heap.size W w') := fun a c P W hb h => by
   have := WT.impl_Look k0 a c _ cl i n pN pD pB pF W hsz h (hE.below hb) d1 d2 d3
   rwa [hY, hZ] at this
  have hu2 : (Z != Z) = false := by simp
  clear R0 hz' hY hZ hE d1 d2 d3
  go_enter Tryz.func5, Tryz.ntmps5
  go_wp2_with (first
   | (go_at_call 18; refine (Z1.szFit k0 a0 c0 s0 _ x0 hz t0.l.row).mono ?_; rintro e w1 ⟨⟨q, hq, rfl⟩, b1⟩; have hq' : decide (q < 0) = false := (by simpa using hq); have t1 := t0.below b1; have f0 := t1.b.c0; have f1 := t1.b.c1; have f2 := t1.b.c2; have f3 := t1.b.c3)
   | (go_at_call 19; refine (HSp.out _ _ _ _ cp2.rows).mono ?_; rintro e w3 ⟨rfl, b3⟩; have t3 := t2.below b3; have e0 := t3.b.c0; have e1 := t3.b.c1; have e2 := t3.b.c2; have e3 := t3.b.c3)
   | (go_at_call 21; refine (HIm.out _ _ _ _ u4.t.bel u4.cp.rows).mono ?_; rintro e w5 ⟨rfl, b5⟩; have u5 := u4.below b5; have j0 := u5.t.b.c0; have j1 := u5.t.b.c1; have j2 := u5.t.b.c2; have j3 := u5.t.b.c3; have i0 := u5.n.c0; have i1 := u5.n.c1; have i2 := u5.n.c2; have i3 := u5.n.c3)
   | (go_at_call 20; have t3' := t3; refine (Z3.toKeeper k0 a0 c0 s0 _ hs t3.l).mono ?_; rintro e w4 ⟨g4, P4, rfl, hg4, cp4, b4⟩; have u4 := Z3.u_new (t3.below b4) cp4)
   | (go_at_call 20; refine (Z3.toKeeper k0 a0 c0 s0 _ hs t1.l).mono ?_; rintro e w2 ⟨g2, P2, rfl, hg2, cp2, b2⟩; have t2 := t1.below b2))
  have u6 := u5.drew
  go_region_with (first
   | (go_at_call 20; refine (Z3.toKeeper k0 a0 c0 s0 _ hs u6.t.l).mono ?_; rintro e w7 ⟨g7, P7, rfl, hg7, cp7, b7⟩; have u7 := u6.below b7; have n0 := u7.n.c0; have n1 := u7.n.c1; have n2 := u7.n.c2; have n3 := u7.n.c3)
   | (go_at_call 22; refine (Z3.eqKeeper k0 _ _ _ _ _ _ _ hs u7.cp.rows cp7.rows).mono ?_; rintro e w8 ⟨rfl, b8⟩; have t8 := u7.t.below b8))
  all_goals
   go_wp2
   go_ret
   exact ⟨rfl, t8.bel⟩
 ·clear R0
  go_enter Tryz.func5, Tryz.ntmps5
  go_wp2_with (go_at_call 18; refine (Z1.szBig k0 a0 c0 s0 _ x0 hz t0.l.row).mono ?_; rintro e w1 ⟨rfl, b1⟩; have t1 := t0.below b1)
  go_ret
  exact ⟨rfl, t1.bel⟩
end Go.Proofs.YtljnkicgahepfaaGreatDoor.WU
namespace Go.Proofs.YtljnkicgahepfaaGreatDoor.WV
open Go.ChangeShapes Go.WideShapes Go.ChangeAt Go.RowKit
open WN (er)
open WO (Errs Lies)
theorem laid_step {P : Program} {n nm : String} {text : List UInt8} {r : List (String × DataW Unit)} {W : World} {ps : List MemPlace} {g : Nat} {ti tp te ts : TypeId} {ms : Array (String × TypeId)} {f : Field}
  (h : DataW.LaidVars P W ((n, .iface nm (.ptr (.agg [.lit (.string text)]))) :: r) ps)
  (hrows : ∀ b off, MemPlace.cell b off ∈ ps → (∃ c t, W.heap[b]? = some (.cells c t (0, 0))) ∧ ∀ u v, W.cell? ⟨b, off, none⟩ = some (.iface u v) → Value.okWide P W .any 0 u v)
  (hg : P.globalNamed n = some g) (ht : (P.globals[g]?).map (·.type) = some ti)
  (hi : P.underlying ti = some (.interface ms)) (hrow : ∀ u, P.typeName? 3 u = some nm → u = tp)
  (hp : P.underlying tp = some (.pointer te)) (he : P.underlying te = some (.struct #[f])) (hft : f.type = ts) (hfo : f.offset = 0) (hs : P.underlying ts = some .string) (hc : P.cellsOf te = 1) (hcs : P.cellsOf ts = 1) :
  ∃ (a : Addr) (q : List MemPlace), W.cell? ⟨g, 0, none⟩ = some (.iface tp (.pointer (some a))) ∧ (∃ c t, W.heap[a.block]? = some (.cells c t (0, 0))) ∧ (∃ c t, W.heap[g]? = some (.cells c t (0, 0))) ∧ MemPlace.cell a.block a.off ∈ ps ∧ (∀ b off, MemPlace.cell b off ∈ q → MemPlace.cell b off ∈ ps) ∧ (ps.Nodup → MemPlace.cell a.block a.off ∉ q ∧ q.Nodup) ∧ DataW.LaidVars P W r q := by
 obtain ⟨g0, t0, cs0, f0, p0, q0, hg0, ht0, hv0, hd0, hr, e0⟩ := h
 obtain rfl := Option.some.inj (hg.symm.trans hg0)
 obtain rfl := Option.some.inj (ht.symm.trans ht0)
 subst e0
 obtain ⟨l0⟩ := cs0
 have hcell := World.var?_cell hg0 hv0 0
 have ok0 : ∀ u v, l0 = [.iface u v] → Value.okWide P W .any 0 u v := fun u v e => by
  subst e
  exact (hrows g 0 (by simp [MemPlace.row])).2 u v (by simpa using hcell)
 obtain ⟨a0, s0, rfl, hc0, hs0, hz0, rfl⟩ := errorString_of_trod hi hrow hp he hft hfo hs hc hcs hd0 ok0
 refine ⟨a0, q0, by simpa using hcell, (hrows a0.block a0.off (by simp [MemPlace.row])).1, (hrows g 0 (by simp [MemPlace.row])).1, by simp [MemPlace.row], fun b off h => List.mem_append_right _ h, fun hn => ?_, hr⟩
 simp [MemPlace.row] at hn
 refine ⟨?_, ?_⟩
 ·intro h
  simp_all
 ·simp_all
theorem gN : Tryz.prog.globalNamed "loop.example/g00278/impl.errNoFile" = some 2 := by kernel_rfl
theorem gD : Tryz.prog.globalNamed "loop.example/g00278/impl.errDenied" = some 3 := by kernel_rfl
theorem gB : Tryz.prog.globalNamed "loop.example/g00278/impl.errBusy" = some 4 := by kernel_rfl
theorem gF : Tryz.prog.globalNamed "loop.example/g00278/impl.errFault" = some 0 := by kernel_rfl
theorem tN : (Tryz.prog.globals[2]?).map (·.type) = some 61 := by kernel_rfl
theorem tD : (Tryz.prog.globals[3]?).map (·.type) = some 61 := by kernel_rfl
theorem tB : (Tryz.prog.globals[4]?).map (·.type) = some 61 := by kernel_rfl
theorem tF : (Tryz.prog.globals[0]?).map (·.type) = some 61 := by kernel_rfl
theorem cE : Tryz.prog.cellsOf 375 = 1 := by kernel_rfl
theorem cS : Tryz.prog.cellsOf 9 = 1 := by kernel_rfl
theorem star : "*" ++ "errors.errorString" = "*errors.errorString" := by decide
theorem rowE (u : TypeId) (h : Tryz.prog.typeName? 3 u = some "*errors.errorString") : u = 353 :=
 typeName_ptr_named (nm := "errors.errorString") (by rw [star]; kernel_rfl) (by kernel_rfl) (by decide) u (by rw [star]; exact h)
theorem errs {xN xD xB xF : List UInt8} {r : List (String × DataW Unit)} {W : World} (h : laidMet Tryz.prog (("loop.example/g00278/impl.errNoFile", .iface "*errors.errorString" (.ptr (.agg [.lit (.string xN)]))) :: ("loop.example/g00278/impl.errDenied", .iface "*errors.errorString" (.ptr (.agg [.lit (.string xD)]))) :: ("loop.example/g00278/impl.errBusy", .iface "*errors.errorString" (.ptr (.agg [.lit (.string xB)]))) :: ("loop.example/g00278/impl.errFault", .iface "*errors.errorString" (.ptr (.agg [.lit (.string xF)]))) :: r) W) :
  ∃ pN pD pB pF, Errs pN pD pB pF W ∧ pF ≠ pN ∧ pF ≠ pD ∧ pF ≠ pB := by
 obtain ⟨ps, hv, hnd, hrows⟩ := h
 obtain ⟨pN, q1, c1, l1, g1, m1, s1, u1, v1⟩ := laid_step hv hrows gN tN Tryz.underlying61 rowE Tryz.underlying353 Tryz.underlying375 rfl rfl Tryz.underlying9 cE cS
 obtain ⟨n1, d1⟩ := u1 hnd
 obtain ⟨pD, q2, c2, l2, g2, m2, s2, u2, v2⟩ := laid_step v1 (fun b off h => hrows b off (s1 b off h)) gD tD Tryz.underlying61 rowE Tryz.underlying353 Tryz.underlying375 rfl rfl Tryz.underlying9 cE cS
 obtain ⟨n2, d2⟩ := u2 d1
 obtain ⟨pB, q3, c3, l3, g3, m3, s3, u3, v3⟩ := laid_step v2 (fun b off h => hrows b off (s1 b off (s2 b off h))) gB tB Tryz.underlying61 rowE Tryz.underlying353 Tryz.underlying375 rfl rfl Tryz.underlying9 cE cS
 obtain ⟨n3, d3⟩ := u3 d2
 obtain ⟨pF, q4, c4, l4, g4, m4, s4, u4, v4⟩ := laid_step v3 (fun b off h => hrows b off (s1 b off (s2 b off (s3 b off h)))) gF tF Tryz.underlying61 rowE Tryz.underlying353 Tryz.underlying375 rfl rfl Tryz.underlying9 cE cS
 have hglob : ∃ c t, W.heap[(4 : Nat)]? = some (.cells c t (0, 0)) := g3
 refine ⟨pN, pD, pB, pF, ⟨c1, c2, c3, c4, l1, l2, l3, l4, ?_⟩, ?_, ?_, ?_⟩
 ·obtain ⟨c, t, hb⟩ := hglob
  exact (Array.getElem?_eq_some_iff.1 hb).1
 ·rintro rfl
  exact n1 (s2 _ _ (s3 _ _ m4))
 ·rintro rfl
  exact n2 (s3 _ _ m4)
 ·rintro rfl
  exact n3 m4
end Go.Proofs.YtljnkicgahepfaaGreatDoor.WV
