/- Joined texts: plain facts and contracts. -/
import Derived.Test.YthbcefopbmkppaaGreatJlO
import Derived.Test.YthbcefopbmkppaaGreatJlP
import Derived.Deep.DeepCutAuto
import Derived.Test.YthbcefopbmkppaaGreatJlB
import Derived.Test.YthbcefopbmkppaaGreatJlC
import Derived.Test.YthbcefopbmkppaaGreatJlI
set_option linter.unusedVariables false
set_option linter.unusedSimpArgs false
set_option maxRecDepth 10000
namespace Go.Proofs.YthbcefopbmkppaaGreat.LM
open Go.ChangeShapes Go.WideShapes Go.ChangeAt Go.RowKit C0
open C1 (pickNew isInt IsInt below_any blk_grown grown_setNew grown_of_below grown_new)
open N0 (Ln)
open N1 (Sl Lists)
open LO (Lw)
open I2 (ints)
def OwN (lo B : Nat) (W : World) (a : Option Addr) (zs : List Int) : Prop := zs = [] ∨ ∃ g, a = some ⟨g, 0, none⟩ ∧ lo < g ∧ g ≠ B ∧ K0.Blk g (ints zs) W
variable {lo B : Nat} {w0 w W W' : World} {a : Option Addr} {zs : List Int} {c len cap : Nat} {al : Option Addr} {d d' : Ln} {s s' : Sl}
theorem OwN.below (h : OwN lo B W a zs) (hb : Below W.heap.size W W') : OwN lo B W' a zs := h.imp id fun ⟨g, e, h1, h2, k⟩ => ⟨g, e, h1, h2, k.below hb⟩
theorem OwN.grown (h : OwN lo B W a zs) (hg : W.grownBy W' (some c)) (hc : c ≤ lo) : OwN lo B W' a zs := h.imp id fun ⟨g, e, h1, h2, k⟩ => ⟨g, e, h1, h2, blk_grown k hg (by omega)⟩
theorem OwN.setB (h : OwN lo B W a zs) (j : Nat) (v : Value) : OwN lo B (W.setCell ⟨B, j, none⟩ v) a zs := h.imp id fun ⟨g, e, h1, h2, k⟩ => ⟨g, e, h1, h2, k.setOther (fun e => h2 e.symm) j v⟩
theorem OwN.own (h : OwN lo B W a zs) : J0.Own lo W a zs := h.imp id fun ⟨g, e, h1, h2, k⟩ => ⟨g, e, by omega, k⟩
theorem owN_of (h : J0.Own (lo + 1) W a zs) (hB : W.heap.size ≤ B) : OwN lo B W a zs := h.imp id fun ⟨g, e, h1, k⟩ => ⟨g, e, by omega, by have := k.lt; omega, k⟩
structure Sm (d : Ln) : Prop where
 ino : (Lit.int .i64 d.ino).wf = true
 cl : (Lit.int .i64 d.cl).wf = true
 pg : d.pg.length ≤ 6
 rc : d.rc.size ≤ 281474976710656
 sav : d.sav.size ≤ 400
 po : d.po.length ≤ 3
 fr : d.fr.length ≤ 2
structure L2 (w0 w : World) (c : Nat) (al : Option Addr) (len cap B : Nat) (d : Ln) (s : Sl) (W : World) : Prop where
 res : K0.Blk w.heap.size [.int .i64 0, .int .i64 0, .int .i64 0, .string ⟨#[]⟩, .slice none 0 0, .string ⟨#[]⟩, .slice none 0 0, .slice none 0 0] W
 lb : K0.Blk B (N1.vals d s) W
 p1 : OwN w.heap.size B W s.a1 d.pg
 p2 : OwN w.heap.size B W s.a2 d.po
 p3 : OwN w.heap.size B W s.a3 d.fr
 st : St w0 W c al len cap
 g : w.grownBy W (some c)
 lt : w.heap.size < B
theorem L2.below (h : L2 w0 w c al len cap B d s W) (hb : Below W.heap.size W W') : L2 w0 w c al len cap B d s W' := ⟨h.res.below hb, h.lb.below hb, h.p1.below hb, h.p2.below hb, h.p3.below hb, h.st.below hb, grown_below h.g hb, h.lt⟩
theorem L2.grown (h : L2 w0 w c al len cap B d s W) (hc : c < w.heap.size) (hs : St w0 W' c al len cap) (hg : W.grownBy W' (some c)) : L2 w0 w c al len cap B d s W' := ⟨blk_grown h.res hg (by omega), blk_grown h.lb hg (by have := h.lt; omega), h.p1.grown hg (by omega), h.p2.grown hg (by omega), h.p3.grown hg (by omega), hs, grown_trans h.g hg, h.lt⟩
theorem st_set (h : St w0 W c al len cap) {R : Nat} (h1 : w0.heap.size ≤ R) (h2 : c ≠ R) (j : Nat) (v : Value) : St w0 (W.setCell ⟨R, j, none⟩ v) c al len cap := h.grown (grown_set (grown_refl _ _) v) h2 h1
theorem L2.set (h : L2 w0 w c al len cap B d s W) (hc : c < w.heap.size) (h0 : w0.heap.size ≤ c) (j : Nat) (v : Value) (hv : (N1.vals d s).set j v = N1.vals d' s')
  (q1 : OwN w.heap.size B (W.setCell ⟨B, j, none⟩ v) s'.a1 d'.pg) (q2 : OwN w.heap.size B (W.setCell ⟨B, j, none⟩ v) s'.a2 d'.po) (q3 : OwN w.heap.size B (W.setCell ⟨B, j, none⟩ v) s'.a3 d'.fr) : L2 w0 w c al len cap B d' s' (W.setCell ⟨B, j, none⟩ v) := by
 have hl := h.lt
 have q := h.lb.set j v
 rw [hv] at q
 exact ⟨h.res.setOther (by omega) j v, q, q1, q2, q3, st_set h.st (by omega) (by omega) j v, grown_setNew h.g (by omega), hl⟩
theorem L2.put6 (h : L2 w0 w c al len cap B d s W) (hc : c < w.heap.size) (h0 : w0.heap.size ≤ c) (xs : List Int) : L2 w0 w c al len cap B { d with po := xs } { s with a2 := some ⟨W.heap.size, 0, none⟩, c2 := xs.length } ((W.setCell ⟨B, 6, none⟩ (.slice (some ⟨W.heap.size, 0, none⟩) xs.length xs.length)).alloc (.cells (ints xs).toArray 3)) := by
 have hl := h.lt
 have hBW := h.lb.lt
 have hr := h.res.lt
 exact ⟨(h.res.setOther (by omega) 6 _).alloc _, (h.lb.set 6 _).alloc _, (h.p1.setB 6 _).below (K0.below_new _ _), Or.inr ⟨W.heap.size, rfl, hr, by omega, K0.blk_at (B := W.heap.size) (ints xs) _ 3 (by simp)⟩, (h.p3.setB 6 _).below (K0.below_new _ _), (st_set h.st (by omega) (by omega) 6 _).below (K0.below_new _ _), grown_below (grown_setNew h.g (by omega)) (K0.below_new _ _), hl⟩
theorem L2.put7 (h : L2 w0 w c al len cap B d s W) (hc : c < w.heap.size) (h0 : w0.heap.size ≤ c) (xs : List Int) : L2 w0 w c al len cap B { d with fr := xs } { s with a3 := some ⟨W.heap.size, 0, none⟩, c3 := xs.length } ((W.setCell ⟨B, 7, none⟩ (.slice (some ⟨W.heap.size, 0, none⟩) xs.length xs.length)).alloc (.cells (ints xs).toArray 3)) := by
 have hl := h.lt
 have hBW := h.lb.lt
 have hr := h.res.lt
 exact ⟨(h.res.setOther (by omega) 7 _).alloc _, (h.lb.set 7 _).alloc _, (h.p1.setB 7 _).below (K0.below_new _ _), (h.p2.setB 7 _).below (K0.below_new _ _), Or.inr ⟨W.heap.size, rfl, hr, by omega, K0.blk_at (B := W.heap.size) (ints xs) _ 3 (by simp)⟩, (st_set h.st (by omega) (by omega) 7 _).below (K0.below_new _ _), grown_below (grown_setNew h.g (by omega)) (K0.below_new _ _), hl⟩
theorem OwN.set8 (h : OwN lo B W a zs) (y0 y1 y2 y3 y4 y5 y6 y7 : Value) : J0.Own lo (((((((((W.setCell ⟨lo, 0, none⟩ y0).setCell ⟨lo, 1, none⟩ y1).setCell ⟨lo, 2, none⟩ y2).setCell ⟨lo, 3, none⟩ y3).setCell ⟨lo, 4, none⟩ y4).setCell ⟨lo, 5, none⟩ y5).setCell ⟨lo, 6, none⟩ y6).setCell ⟨lo, 7, none⟩ y7)) a zs := h.imp id fun ⟨g, e, h1, h2, k⟩ => ⟨g, e, by omega, N4.other8 k (by omega) y0 y1 y2 y3 y4 y5 y6 y7⟩
theorem L2.fin (h : L2 w0 w c al len cap B d s W) (hc : c < w.heap.size) (h0 : w0.heap.size ≤ c) (y0 y1 y2 y3 y4 y5 y6 y7 : Value) : Lw w.heap.size (((((((((W.setCell ⟨w.heap.size, 0, none⟩ y0).setCell ⟨w.heap.size, 1, none⟩ y1).setCell ⟨w.heap.size, 2, none⟩ y2).setCell ⟨w.heap.size, 3, none⟩ y3).setCell ⟨w.heap.size, 4, none⟩ y4).setCell ⟨w.heap.size, 5, none⟩ y5).setCell ⟨w.heap.size, 6, none⟩ y6).setCell ⟨w.heap.size, 7, none⟩ y7)) d s ∧ St w0 (((((((((W.setCell ⟨w.heap.size, 0, none⟩ y0).setCell ⟨w.heap.size, 1, none⟩ y1).setCell ⟨w.heap.size, 2, none⟩ y2).setCell ⟨w.heap.size, 3, none⟩ y3).setCell ⟨w.heap.size, 4, none⟩ y4).setCell ⟨w.heap.size, 5, none⟩ y5).setCell ⟨w.heap.size, 6, none⟩ y6).setCell ⟨w.heap.size, 7, none⟩ y7)) c al len cap ∧ w.grownBy (((((((((W.setCell ⟨w.heap.size, 0, none⟩ y0).setCell ⟨w.heap.size, 1, none⟩ y1).setCell ⟨w.heap.size, 2, none⟩ y2).setCell ⟨w.heap.size, 3, none⟩ y3).setCell ⟨w.heap.size, 4, none⟩ y4).setCell ⟨w.heap.size, 5, none⟩ y5).setCell ⟨w.heap.size, 6, none⟩ y6).setCell ⟨w.heap.size, 7, none⟩ y7)) (some c) :=
  ⟨⟨h.p1.set8 y0 y1 y2 y3 y4 y5 y6 y7, h.p2.set8 y0 y1 y2 y3 y4 y5 y6 y7, h.p3.set8 y0 y1 y2 y3 y4 y5 y6 y7⟩,
   st_set (st_set (st_set (st_set (st_set (st_set (st_set (st_set h.st (by omega) (by omega) 0 y0) (by omega) (by omega) 1 y1) (by omega) (by omega) 2 y2) (by omega) (by omega) 3 y3) (by omega) (by omega) 4 y4) (by omega) (by omega) 5 y5) (by omega) (by omega) 6 y6) (by omega) (by omega) 7 y7,
   grown_setNew (grown_setNew (grown_setNew (grown_setNew (grown_setNew (grown_setNew (grown_setNew (grown_setNew h.g (Nat.le_refl _)) (Nat.le_refl _)) (Nat.le_refl _)) (Nat.le_refl _)) (Nat.le_refl _)) (Nat.le_refl _)) (Nat.le_refl _)) (Nat.le_refl _)⟩
theorem mem4 {z : Int} (hz : (Lit.int .i64 z).wf = true) : ∀ v ∈ (#[Value.int .i64 0, Value.int .i64 7, Value.int .i64 8, Value.int .i64 z] : Array Value).toList, IsInt v := by
 intro v hv
 simp at hv
 rcases hv with rfl | rfl | rfl | rfl
 ·exact isInt (by omega) (by omega)
 ·exact isInt (by omega) (by omega)
 ·exact isInt (by omega) (by omega)
 ·exact ⟨z, hz, rfl⟩
theorem memA : ∀ v ∈ (#[Value.int .i64 0, Value.int .i64 1, Value.int .i64 2, Value.int .i64 0] : Array Value).toList, IsInt v := by
 intro v hv
 simp at hv
 rcases hv with rfl | rfl | rfl | rfl <;> exact isInt (by omega) (by omega)
theorem memB : ∀ v ∈ (#[Value.int .i64 4, Value.int .i64 24, Value.int .i64 5, Value.int .i64 23] : Array Value).toList, IsInt v := by
 intro v hv
 simp at hv
 rcases hv with rfl | rfl | rfl | rfl <;> exact isInt (by omega) (by omega)
theorem memC : ∀ v ∈ (#[Value.int .i64 (-1), Value.int .i64 8, Value.int .i64 9] : Array Value).toList, IsInt v := by
 intro v hv
 simp at hv
 rcases hv with rfl | rfl | rfl <;> exact isInt (by omega) (by omega)
theorem app1 {t : ByteArray} (h : t.size ≤ 300) : (t ++ ⟨#[120]⟩).size ≤ 400 := by
 rw [ByteArray.size_append]
 have : (⟨#[120]⟩ : ByteArray).size = 1 := rfl
 omega
theorem z16_le : (B4.zeros 16).size ≤ 281474976710656 := by
 unfold B4.zeros
 split
 ·rw [B4.nulls_size]; decide
 ·exact Nat.zero_le _
set_option maxHeartbeats 8000000 in
theorem l05Loan (mem : ByteArray) (hm : mem.size ≤ 281474976710656) (hcode : Given w0 al len) (h : St w0 w c al len cap) (hlen : len ≤ 1048576) :
  Calls Tryz.prog 41 #[.pointer (some ⟨c, 0, none⟩), .string mem] w fun e w' => ∃ d s, e = .returned (N1.val d s) ∧ Sm d ∧ Lw w.heap.size w' d s ∧ St w0 w' c al len cap ∧ w.grownBy w' (some c) := by
 have hcl := h.cur.lt
 have hn0 := h.new
 have n0 := K0.below_new w (.cells #[.int .i64 0, .int .i64 0, .int .i64 0, .string ⟨#[]⟩, .slice none 0 0, .string ⟨#[]⟩, .slice none 0 0, .slice none 0 0] 26)
 have v0 := K0.blk_new [.int .i64 0, .int .i64 0, .int .i64 0, .string ⟨#[]⟩, .slice none 0 0, .string ⟨#[]⟩, .slice none 0 0, .slice none 0 0] w 26
 have h0 := h.below n0
 have g0 : w.grownBy (w.alloc (.cells #[.int .i64 0, .int .i64 0, .int .i64 0, .string ⟨#[]⟩, .slice none 0 0, .string ⟨#[]⟩, .slice none 0 0, .slice none 0 0] 26)) (some c) := grown_of_below n0
 go_enter Tryz.func41, Tryz.ntmps41
 go_upto_region 1 with (fail)
 generalize (w.alloc (.cells #[.int .i64 0, .int .i64 0, .int .i64 0, .string ⟨#[]⟩, .slice none 0 0, .string ⟨#[]⟩, .slice none 0 0, .slice none 0 0] 26)) = V0 at v0 h0 g0 n0 ⊢
 go_upto_region 2 with (first
  | (go_at_call 23; refine (pickNew hcode h0 hlen memA (show 0 < 4 by decide) (show 4 ≤ 100 by decide)).mono ?_; rintro e w1 ⟨⟨z1, wz1, rfl⟩, s1, g1⟩; have gg1 := grown_trans (grown_below g0 (K0.below_new _ _)) g1; have v1 := blk_grown (v0.below (K0.below_new _ _)) g1 (by omega))
  | (go_at_call 44; refine (below_any hcode s1 hlen 2 (by omega) (by omega)).mono ?_; rintro e w2 ⟨⟨x2, x20, x21, rfl⟩, s2, g2⟩; have gg2 := grown_trans gg1 g2; have v2 := blk_grown v1 g2 (by omega); have hx2 : IntKind.i64.wrap (1 + x2) = 1 + x2 := C1.wrap_of _ (by omega) (by omega))
  | (go_at_call 59; refine (LO.l05Lend mem _ _ _ hm).mono ?_; rintro e w3 ⟨d, s, rfl, hd, l1, l2, l3, l4, l5, lw, b3⟩; have s5z : (Lit.int .i64 (1 + x2)).wf = true := (C1.wf_of _ (by omega) (by omega)); have sm : Sm d := ⟨(by rw [hd.1]; exact wz1), (by rw [hd.2]; first | exact s5z | (rw [hx2]; exact s5z)), l1, l2, (by omega), l4, l5⟩; clear hd s5z; have s3 := s2.below b3; have gg3 := grown_below gg2 b3; have v3 := v2.below b3))
 have hv2 := v2.lt
 have n4 := K0.below_new w3 (.cells #[.int .i64 d.ino, .int .i64 d.cl, .int .i64 d.un, .string d.rc, .slice s.a1 d.pg.length s.c1, .string d.sav, .slice s.a2 d.po.length s.c2, .slice s.a3 d.fr.length s.c3] 26)
 have q4 : L2 w0 w c al len cap w3.heap.size d s (w3.alloc (.cells #[.int .i64 d.ino, .int .i64 d.cl, .int .i64 d.un, .string d.rc, .slice s.a1 d.pg.length s.c1, .string d.sav, .slice s.a2 d.po.length s.c2, .slice s.a3 d.fr.length s.c3] 26)) := ⟨v3.below n4, K0.blk_new (N1.vals d s) w3 26, (owN_of (lw.o1.mono (by omega)) (Nat.le_refl _)).below n4, (owN_of (lw.o2.mono (by omega)) (Nat.le_refl _)).below n4, (owN_of (lw.o3.mono (by omega)) (Nat.le_refl _)).below n4, s3.below n4, grown_below gg3 n4, v3.lt⟩
 generalize (w3.alloc (.cells #[.int .i64 d.ino, .int .i64 d.cl, .int .i64 d.un, .string d.rc, .slice s.a1 d.pg.length s.c1, .string d.sav, .slice s.a2 d.po.length s.c2, .slice s.a3 d.fr.length s.c3] 26)) = W4 at q4 ⊢
 generalize w3.heap.size = B at q4 ⊢
 clear n4 v3 v2 v1 v0 h0 g0 s1 s2 s3 gg1 gg2 gg3 g1 g2 b3 lw n0
 go_upto_region 3 with (go_at_call 44; refine (below_any hcode q4.st hlen 16 (by omega) (by omega)).mono ?_; rintro e w5 ⟨⟨x, x0, x1, rfl⟩, s5, g5⟩; have q5 := q4.grown hcl s5 g5)
 clear q4 s5 g5
 by_cases e0 : x = 0
 ·subst e0
  go_upto_region 15 with (go_at_call 23; refine (pickNew hcode q5.st hlen memB (show 0 < 4 by decide) (show 4 ≤ 100 by decide)).mono ?_; rintro e w6 ⟨⟨z, wz, rfl⟩, s6, g6⟩; have q6 := (q5.below (K0.below_new w5 _)).grown hcl s6 g6; have hBr := q6.lb.lt; obtain ⟨k0, k1, k2, k3, k4, k5, k6, k7⟩ := LO.LB8.cells (q6.lb.alloc (.cells #[.int .i64 z, .int .i64 24] 3)); obtain ⟨h0, h1, h2, h3, h4, h5, h6, h7⟩ := LO.LB8.free (q6.lb.alloc (.cells #[.int .i64 z, .int .i64 24] 3)))
  have qf : L2 w0 w c al len cap B { d with po := [z, 24] } { s with a2 := some ⟨w6.heap.size, 0, none⟩, c2 := 2 } ((w6.setCell ⟨B, 6, none⟩ (.slice (some ⟨w6.heap.size, 0, none⟩) 2 2)).alloc (.cells #[.int .i64 z, .int .i64 24] 3)) := q6.put6 hcl hn0 [z, 24]
  have sf : Sm { d with po := [z, 24] } := ⟨sm.ino, sm.cl, sm.pg, sm.rc, sm.sav, (by show 2 ≤ 3; omega), sm.fr⟩
  generalize ((w6.setCell ⟨B, 6, none⟩ (.slice (some ⟨w6.heap.size, 0, none⟩) 2 2)).alloc (.cells #[.int .i64 z, .int .i64 24] 3)) = V at qf ⊢
  generalize ({ d with po := [z, 24] } : Ln) = e at qf sf
  generalize ({ s with a2 := some ⟨w6.heap.size, 0, none⟩, c2 := 2 } : Sl) = r at qf
  clear q5 sm
  obtain ⟨t0, t1, t2, t3, t4, t5, t6, t7⟩ := LO.LB8.cells qf.lb
  obtain ⟨u0, u1, u2, u3, u4, u5, u6, u7⟩ := LO.LB8.cells qf.res
  obtain ⟨x0, x1, x2, x3, x4, x5, x6, x7⟩ := LO.LB8.free qf.res
  have qq := N4.put8 (y0 := .int .i64 e.ino) (y1 := .int .i64 e.cl) (y2 := .int .i64 e.un) (y3 := .string e.rc) (y4 := .slice r.a1 e.pg.length r.c1) (y5 := .string e.sav) (y6 := .slice r.a2 e.po.length r.c2) (y7 := .slice r.a3 e.fr.length r.c3) qf.res
  obtain ⟨f1, f2, f3⟩ := qf.fin hcl hn0 (.int .i64 e.ino) (.int .i64 e.cl) (.int .i64 e.un) (.string e.rc) (.slice r.a1 e.pg.length r.c1) (.string e.sav) (.slice r.a2 e.po.length r.c2) (.slice r.a3 e.fr.length r.c3)
  obtain ⟨r0, r1, r2, r3, r4, r5, r6, r7⟩ := LO.LB8.cells qq
  clear qf
  go_wp2
  refine bodyPost_ret (v := N1.val e r) (by simp [results, Tryz.results41, go_sem, r0, r1, r2, r3, r4, r5, r6, r7]) rfl ?_
  exact ⟨e, r, rfl, sf, f1, f2, f3⟩
 ·have e0' : (x == 0) = false := by simpa using e0
  by_cases e1 : x = 1
  ·subst e1
   have i0 := q5.lb.c0
   go_upto_region 15 with (go_at_call 23; refine (pickNew hcode q5.st hlen (mem4 sm.ino) (show 0 < 4 by decide) (show 4 ≤ 100 by decide)).mono ?_; rintro e w6 ⟨⟨z, wz, rfl⟩, s6, g6⟩; have q6 := (q5.below (K0.below_new w5 _)).grown hcl s6 g6; have hBr := q6.lb.lt; obtain ⟨k0, k1, k2, k3, k4, k5, k6, k7⟩ := LO.LB8.cells (q6.lb.alloc (.cells #[.int .i64 z] 3)); obtain ⟨h0, h1, h2, h3, h4, h5, h6, h7⟩ := LO.LB8.free (q6.lb.alloc (.cells #[.int .i64 z] 3)))
   have qf : L2 w0 w c al len cap B { d with fr := [z] } { s with a3 := some ⟨w6.heap.size, 0, none⟩, c3 := 1 } ((w6.setCell ⟨B, 7, none⟩ (.slice (some ⟨w6.heap.size, 0, none⟩) 1 1)).alloc (.cells #[.int .i64 z] 3)) := q6.put7 hcl hn0 [z]
   have sf : Sm { d with fr := [z] } := ⟨sm.ino, sm.cl, sm.pg, sm.rc, sm.sav, sm.po, (by show 1 ≤ 2; omega)⟩
   generalize ((w6.setCell ⟨B, 7, none⟩ (.slice (some ⟨w6.heap.size, 0, none⟩) 1 1)).alloc (.cells #[.int .i64 z] 3)) = V at qf ⊢
   generalize ({ d with fr := [z] } : Ln) = e at qf sf
   generalize ({ s with a3 := some ⟨w6.heap.size, 0, none⟩, c3 := 1 } : Sl) = r at qf
   clear q5 sm
   obtain ⟨t0, t1, t2, t3, t4, t5, t6, t7⟩ := LO.LB8.cells qf.lb
   obtain ⟨u0, u1, u2, u3, u4, u5, u6, u7⟩ := LO.LB8.cells qf.res
   obtain ⟨x0, x1, x2, x3, x4, x5, x6, x7⟩ := LO.LB8.free qf.res
   have qq := N4.put8 (y0 := .int .i64 e.ino) (y1 := .int .i64 e.cl) (y2 := .int .i64 e.un) (y3 := .string e.rc) (y4 := .slice r.a1 e.pg.length r.c1) (y5 := .string e.sav) (y6 := .slice r.a2 e.po.length r.c2) (y7 := .slice r.a3 e.fr.length r.c3) qf.res
   obtain ⟨f1, f2, f3⟩ := qf.fin hcl hn0 (.int .i64 e.ino) (.int .i64 e.cl) (.int .i64 e.un) (.string e.rc) (.slice r.a1 e.pg.length r.c1) (.string e.sav) (.slice r.a2 e.po.length r.c2) (.slice r.a3 e.fr.length r.c3)
   obtain ⟨r0, r1, r2, r3, r4, r5, r6, r7⟩ := LO.LB8.cells qq
   clear qf
   go_wp2
   refine bodyPost_ret (v := N1.val e r) (by simp [results, Tryz.results41, go_sem, r0, r1, r2, r3, r4, r5, r6, r7]) rfl ?_
   exact ⟨e, r, rfl, sf, f1, f2, f3⟩
  ·have e1' : (x == 1) = false := by simpa using e1
   by_cases e2 : x = 2
   ·subst e2
    go_upto_region 15 with (go_at_call 23; refine (pickNew hcode q5.st hlen memC (show 0 < 3 by decide) (show 3 ≤ 100 by decide)).mono ?_; rintro e w6 ⟨⟨z, wz, rfl⟩, s6, g6⟩; have q6 := (q5.below (K0.below_new w5 _)).grown hcl s6 g6; have hBr := q6.lb.lt; obtain ⟨k0, k1, k2, k3, k4, k5, k6, k7⟩ := LO.LB8.cells q6.lb; obtain ⟨h0, h1, h2, h3, h4, h5, h6, h7⟩ := LO.LB8.free q6.lb)
    have qf : L2 w0 w c al len cap B { d with cl := z } s (w6.setCell ⟨B, 1, none⟩ (.int .i64 z)) := q6.set hcl hn0 1 _ rfl (q6.p1.setB 1 _) (q6.p2.setB 1 _) (q6.p3.setB 1 _)
    have sf : Sm { d with cl := z } := ⟨sm.ino, wz, sm.pg, sm.rc, sm.sav, sm.po, sm.fr⟩
    generalize (w6.setCell ⟨B, 1, none⟩ (.int .i64 z)) = V at qf ⊢
    generalize ({ d with cl := z } : Ln) = e at qf sf
    generalize (s : Sl) = r at qf
    clear q5 sm
    obtain ⟨t0, t1, t2, t3, t4, t5, t6, t7⟩ := LO.LB8.cells qf.lb
    obtain ⟨u0, u1, u2, u3, u4, u5, u6, u7⟩ := LO.LB8.cells qf.res
    obtain ⟨x0, x1, x2, x3, x4, x5, x6, x7⟩ := LO.LB8.free qf.res
    have qq := N4.put8 (y0 := .int .i64 e.ino) (y1 := .int .i64 e.cl) (y2 := .int .i64 e.un) (y3 := .string e.rc) (y4 := .slice r.a1 e.pg.length r.c1) (y5 := .string e.sav) (y6 := .slice r.a2 e.po.length r.c2) (y7 := .slice r.a3 e.fr.length r.c3) qf.res
    obtain ⟨f1, f2, f3⟩ := qf.fin hcl hn0 (.int .i64 e.ino) (.int .i64 e.cl) (.int .i64 e.un) (.string e.rc) (.slice r.a1 e.pg.length r.c1) (.string e.sav) (.slice r.a2 e.po.length r.c2) (.slice r.a3 e.fr.length r.c3)
    obtain ⟨r0, r1, r2, r3, r4, r5, r6, r7⟩ := LO.LB8.cells qq
    clear qf
    go_wp2
    refine bodyPost_ret (v := N1.val e r) (by simp [results, Tryz.results41, go_sem, r0, r1, r2, r3, r4, r5, r6, r7]) rfl ?_
    exact ⟨e, r, rfl, sf, f1, f2, f3⟩
   ·have e2' : (x == 2) = false := by simpa using e2
    by_cases e3 : x = 3
    ·subst e3
     obtain ⟨k0, k1, k2, k3, k4, k5, k6, k7⟩ := LO.LB8.cells q5.lb
     obtain ⟨h0, h1, h2, h3, h4, h5, h6, h7⟩ := LO.LB8.free q5.lb
     go_upto_region 15 with (fail)
     have qf : L2 w0 w c al len cap B { d with un := -1 } s (w5.setCell ⟨B, 2, none⟩ (.int .i64 (-1))) := q5.set hcl hn0 2 _ rfl (q5.p1.setB 2 _) (q5.p2.setB 2 _) (q5.p3.setB 2 _)
     have sf : Sm { d with un := -1 } := ⟨sm.ino, sm.cl, sm.pg, sm.rc, sm.sav, sm.po, sm.fr⟩
     generalize (w5.setCell ⟨B, 2, none⟩ (.int .i64 (-1))) = V at qf ⊢
     generalize ({ d with un := -1 } : Ln) = e at qf sf
     generalize (s : Sl) = r at qf
     clear q5 sm
     obtain ⟨t0, t1, t2, t3, t4, t5, t6, t7⟩ := LO.LB8.cells qf.lb
     obtain ⟨u0, u1, u2, u3, u4, u5, u6, u7⟩ := LO.LB8.cells qf.res
     obtain ⟨x0, x1, x2, x3, x4, x5, x6, x7⟩ := LO.LB8.free qf.res
     have qq := N4.put8 (y0 := .int .i64 e.ino) (y1 := .int .i64 e.cl) (y2 := .int .i64 e.un) (y3 := .string e.rc) (y4 := .slice r.a1 e.pg.length r.c1) (y5 := .string e.sav) (y6 := .slice r.a2 e.po.length r.c2) (y7 := .slice r.a3 e.fr.length r.c3) qf.res
     obtain ⟨f1, f2, f3⟩ := qf.fin hcl hn0 (.int .i64 e.ino) (.int .i64 e.cl) (.int .i64 e.un) (.string e.rc) (.slice r.a1 e.pg.length r.c1) (.string e.sav) (.slice r.a2 e.po.length r.c2) (.slice r.a3 e.fr.length r.c3)
     obtain ⟨r0, r1, r2, r3, r4, r5, r6, r7⟩ := LO.LB8.cells qq
     clear qf
     go_wp2
     refine bodyPost_ret (v := N1.val e r) (by simp [results, Tryz.results41, go_sem, r0, r1, r2, r3, r4, r5, r6, r7]) rfl ?_
     exact ⟨e, r, rfl, sf, f1, f2, f3⟩
    ·have e3' : (x == 3) = false := by simpa using e3
     by_cases e4 : x = 4
     ·subst e4
      obtain ⟨k0, k1, k2, k3, k4, k5, k6, k7⟩ := LO.LB8.cells q5.lb
      obtain ⟨h0, h1, h2, h3, h4, h5, h6, h7⟩ := LO.LB8.free q5.lb
      have hss := sm.sav
      have y1 : ¬ (9223372036854775807 < d.sav.size + 1) := by omega
      go_upto_region 15 with (fail)
      have qf : L2 w0 w c al len cap B { d with sav := d.sav ++ (⟨#[120]⟩ : ByteArray) } s (w5.setCell ⟨B, 5, none⟩ (.string (d.sav ++ ⟨#[120]⟩))) := q5.set hcl hn0 5 _ rfl (q5.p1.setB 5 _) (q5.p2.setB 5 _) (q5.p3.setB 5 _)
      have sf : Sm { d with sav := d.sav ++ (⟨#[120]⟩ : ByteArray) } := ⟨sm.ino, sm.cl, sm.pg, sm.rc, app1 l3, sm.po, sm.fr⟩
      generalize (w5.setCell ⟨B, 5, none⟩ (.string (d.sav ++ ⟨#[120]⟩))) = V at qf ⊢
      generalize ({ d with sav := d.sav ++ (⟨#[120]⟩ : ByteArray) } : Ln) = e at qf sf
      generalize (s : Sl) = r at qf
      clear q5 sm
      obtain ⟨t0, t1, t2, t3, t4, t5, t6, t7⟩ := LO.LB8.cells qf.lb
      obtain ⟨u0, u1, u2, u3, u4, u5, u6, u7⟩ := LO.LB8.cells qf.res
      obtain ⟨x0, x1, x2, x3, x4, x5, x6, x7⟩ := LO.LB8.free qf.res
      have qq := N4.put8 (y0 := .int .i64 e.ino) (y1 := .int .i64 e.cl) (y2 := .int .i64 e.un) (y3 := .string e.rc) (y4 := .slice r.a1 e.pg.length r.c1) (y5 := .string e.sav) (y6 := .slice r.a2 e.po.length r.c2) (y7 := .slice r.a3 e.fr.length r.c3) qf.res
      obtain ⟨f1, f2, f3⟩ := qf.fin hcl hn0 (.int .i64 e.ino) (.int .i64 e.cl) (.int .i64 e.un) (.string e.rc) (.slice r.a1 e.pg.length r.c1) (.string e.sav) (.slice r.a2 e.po.length r.c2) (.slice r.a3 e.fr.length r.c3)
      obtain ⟨r0, r1, r2, r3, r4, r5, r6, r7⟩ := LO.LB8.cells qq
      clear qf
      go_wp2
      refine bodyPost_ret (v := N1.val e r) (by simp [results, Tryz.results41, go_sem, r0, r1, r2, r3, r4, r5, r6, r7]) rfl ?_
      exact ⟨e, r, rfl, sf, f1, f2, f3⟩
     ·have e4' : (x == 4) = false := by simpa using e4
      by_cases e5 : x = 5
      ·subst e5
       obtain ⟨k0, k1, k2, k3, k4, k5, k6, k7⟩ := LO.LB8.cells q5.lb
       obtain ⟨h0, h1, h2, h3, h4, h5, h6, h7⟩ := LO.LB8.free q5.lb
       go_upto_region 15 with (go_at_call 27; refine (B4.spec_Zeros 16 _).mono ?_; rintro e w6 ⟨rfl, rfl⟩)
       have qf : L2 w0 w c al len cap B { d with rc := B4.zeros 16 } s (w6.setCell ⟨B, 3, none⟩ (.string (B4.zeros 16))) := q5.set hcl hn0 3 _ rfl (q5.p1.setB 3 _) (q5.p2.setB 3 _) (q5.p3.setB 3 _)
       have sf : Sm { d with rc := B4.zeros 16 } := ⟨sm.ino, sm.cl, sm.pg, z16_le, sm.sav, sm.po, sm.fr⟩
       generalize (w6.setCell ⟨B, 3, none⟩ (.string (B4.zeros 16))) = V at qf ⊢
       generalize ({ d with rc := B4.zeros 16 } : Ln) = e at qf sf
       generalize (s : Sl) = r at qf
       clear q5 sm
       obtain ⟨t0, t1, t2, t3, t4, t5, t6, t7⟩ := LO.LB8.cells qf.lb
       obtain ⟨u0, u1, u2, u3, u4, u5, u6, u7⟩ := LO.LB8.cells qf.res
       obtain ⟨x0, x1, x2, x3, x4, x5, x6, x7⟩ := LO.LB8.free qf.res
       have qq := N4.put8 (y0 := .int .i64 e.ino) (y1 := .int .i64 e.cl) (y2 := .int .i64 e.un) (y3 := .string e.rc) (y4 := .slice r.a1 e.pg.length r.c1) (y5 := .string e.sav) (y6 := .slice r.a2 e.po.length r.c2) (y7 := .slice r.a3 e.fr.length r.c3) qf.res
       obtain ⟨f1, f2, f3⟩ := qf.fin hcl hn0 (.int .i64 e.ino) (.int .i64 e.cl) (.int .i64 e.un) (.string e.rc) (.slice r.a1 e.pg.length r.c1) (.string e.sav) (.slice r.a2 e.po.length r.c2) (.slice r.a3 e.fr.length r.c3)
       obtain ⟨r0, r1, r2, r3, r4, r5, r6, r7⟩ := LO.LB8.cells qq
       clear qf
       go_wp2
       refine bodyPost_ret (v := N1.val e r) (by simp [results, Tryz.results41, go_sem, r0, r1, r2, r3, r4, r5, r6, r7]) rfl ?_
       exact ⟨e, r, rfl, sf, f1, f2, f3⟩
      ·have e5' : (x == 5) = false := by simpa using e5
       go_upto_region 15 with (fail)
       have qf : L2 w0 w c al len cap B d s (w5) := q5
       have sf : Sm d := sm
       generalize w5 = V at qf ⊢
       generalize (d : Ln) = e at qf sf
       generalize (s : Sl) = r at qf
       clear q5 sm
       obtain ⟨t0, t1, t2, t3, t4, t5, t6, t7⟩ := LO.LB8.cells qf.lb
       obtain ⟨u0, u1, u2, u3, u4, u5, u6, u7⟩ := LO.LB8.cells qf.res
       obtain ⟨x0, x1, x2, x3, x4, x5, x6, x7⟩ := LO.LB8.free qf.res
       have qq := N4.put8 (y0 := .int .i64 e.ino) (y1 := .int .i64 e.cl) (y2 := .int .i64 e.un) (y3 := .string e.rc) (y4 := .slice r.a1 e.pg.length r.c1) (y5 := .string e.sav) (y6 := .slice r.a2 e.po.length r.c2) (y7 := .slice r.a3 e.fr.length r.c3) qf.res
       obtain ⟨f1, f2, f3⟩ := qf.fin hcl hn0 (.int .i64 e.ino) (.int .i64 e.cl) (.int .i64 e.un) (.string e.rc) (.slice r.a1 e.pg.length r.c1) (.string e.sav) (.slice r.a2 e.po.length r.c2) (.slice r.a3 e.fr.length r.c3)
       obtain ⟨r0, r1, r2, r3, r4, r5, r6, r7⟩ := LO.LB8.cells qq
       clear qf
       go_wp2
       refine bodyPost_ret (v := N1.val e r) (by simp [results, Tryz.results41, go_sem, r0, r1, r2, r3, r4, r5, r6, r7]) rfl ?_
       exact ⟨e, r, rfl, sf, f1, f2, f3⟩
end Go.Proofs.YthbcefopbmkppaaGreat.LM
namespace Go.Proofs.YthbcefopbmkppaaGreat.C1
open Go.ChangeShapes Go.WideShapes Go.ChangeAt Go.RowKit C0
structure Dv (w0 w : World) (c : Nat) (a : Option Addr) (len cap R B : Nat) (rs vs : List Value) (W : World) : Prop where
 st : St w0 W c a len cap
 res : K0.Blk R rs W
 dev : K0.Blk B vs W
 ne : R ≠ c ∧ B ≠ c ∧ R ≠ B
 old : w.heap.size ≤ R ∧ w.heap.size ≤ B ∧ w0.heap.size ≤ R ∧ w0.heap.size ≤ B
 gr : w.grownBy W (some c)
section
variable {w0 w W W' : World} {c : Nat} {a : Option Addr} {len cap R B : Nat} {rs vs : List Value}
theorem Dv.grown (h : Dv w0 w c a len cap R B rs vs W) (s : St w0 W' c a len cap) (g : W.grownBy W' (some c)) : Dv w0 w c a len cap R B rs vs W' :=
 ⟨s, blk_grown h.res g h.ne.1, blk_grown h.dev g h.ne.2.1, h.ne, h.old, grown_trans h.gr g⟩
theorem Dv.below (h : Dv w0 w c a len cap R B rs vs W) (hb : Below W.heap.size W W') : Dv w0 w c a len cap R B rs vs W' :=
 ⟨h.st.below hb, h.res.below hb, h.dev.below hb, h.ne, h.old, grown_below h.gr hb⟩
theorem Dv.drew (h : Dv w0 w c a len cap R B rs vs W) : Dv w0 w c a len cap R B rs vs W.drew := h.below (K0.below_drewN (Below.refl _ _) 1)
theorem Dv.alloc (h : Dv w0 w c a len cap R B rs vs W) (o : Obj) : Dv w0 w c a len cap R B rs vs (W.alloc o) := h.below (K0.below_new _ _)
theorem Dv.put (h : Dv w0 w c a len cap R B rs vs W) (j : Nat) (v : Value) : Dv w0 w c a len cap R B rs (vs.set j v) (W.setCell ⟨B, j, none⟩ v) :=
 ⟨st_other h.st h.ne.2.1 h.old.2.2.2 _, h.res.setOther (Ne.symm h.ne.2.2) _ _, h.dev.set j v, h.ne, h.old, grown_setNew h.gr h.old.2.1⟩
theorem Dv.fin (h : Dv w0 w c a len cap R B rs vs W) (j : Nat) (v : Value) : Dv w0 w c a len cap R B (rs.set j v) vs (W.setCell ⟨R, j, none⟩ v) :=
 ⟨st_other h.st h.ne.1 h.old.2.2.1 _, h.res.set j v, h.dev.setOther h.ne.2.2 _ _, h.ne, h.old, grown_setNew h.gr h.old.1⟩
end
variable {w0 w : World} {c : Nat} {a : Option Addr} {len cap : Nat}
theorem laid_size (s : ByteArray) (i : Int) (t : ByteArray) : (B5.laid s i t).size = s.size := by
 unfold B5.laid
 split
 ·rename_i h
  obtain ⟨h0, h1, h2⟩ := B2.lies_true h
  rw [ByteArray.size_append, ByteArray.size_append, ByteArray.size_extract, ByteArray.size_extract]
  omega
 ·rfl
end Go.Proofs.YthbcefopbmkppaaGreat.C1
namespace Go.Proofs.YthbcefopbmkppaaGreat.C1
open Go.ChangeShapes Go.WideShapes Go.ChangeAt Go.RowKit C0
theorem ebuf_block {base n cp : Nat} {p : Option Addr} {W V : World} {es : List T0.Ent} (h : V1.EBuf base W p n cp es) (hk : ∀ g, (Value.slice p n cp).ownBlock = some g → V.heap[g]? = W.heap[g]?) : V1.EBuf base V p n cp es := by
 refine ⟨h.1, h.2.1, ?_⟩
 rcases h.2.2 with h0 | ⟨g, c, cur, hv, hbase, hc, hrest⟩
 ·exact Or.inl h0
 ·refine Or.inr ⟨g, c, cur, hv, hbase, ?_, hrest⟩
  rw [hk g (by rw [hv]; rfl)]
  exact hc
theorem ebuf_grown {base n cp c : Nat} {p : Option Addr} {W V : World} {es : List T0.Ent} (h : V1.EBuf base W p n cp es) (hg : W.grownBy V (some c)) (hc : c < base) : V1.EBuf base V p n cp es := by
 refine ⟨h.1, h.2.1, ?_⟩
 rcases h.2.2 with h0 | ⟨g, cc, cur, hv, hbase, hcur, hrest⟩
 ·exact Or.inl h0
 ·refine Or.inr ⟨g, cc, cur, hv, hbase, ?_, hrest⟩
  rw [hg.block g (Array.getElem?_eq_some_iff.1 hcur).1 (fun e => by have := Option.some.inj e; omega)]
  exact hcur
theorem ebuf_lt {base n cp g : Nat} {W : World} {es : List T0.Ent} (h : V1.EBuf base W (some ⟨g, 0, none⟩) n cp es) : base ≤ g ∧ g < W.heap.size := by
 have := h.2.lt g rfl
 exact ⟨this.1, by
  rcases h.2.2 with ⟨h0, _⟩ | ⟨g', c, cur, hv, hbase, hc, hrest⟩
  ·cases h0
  ·cases hv
   exact (Array.getElem?_eq_some_iff.1 hc).1⟩
structure Ld (w0 w : World) (c : Nat) (a : Option Addr) (len cap N g n cp : Nat) (es : List T0.Ent) (W : World) : Prop where
 st : St w0 W c a len cap
 gr : w.grownBy W (some c)
 buf : V1.EBuf w.heap.size W (some ⟨g, 0, none⟩) n cp es
 nm : Of W N 6 IsTxt
 ne : N ≠ c ∧ N ≠ g ∧ c < w.heap.size
section
variable {w0 w W W' : World} {c : Nat} {a : Option Addr} {len cap N g n cp : Nat} {es : List T0.Ent}
theorem Of.below {w W : World} {l n : Nat} {Q : Value → Prop} (h : Of w l n Q) (hb : Below w.heap.size w W) : Of W l n Q :=
 ⟨Nat.lt_of_lt_of_le h.lt hb.size, fun j hj => by
  obtain ⟨v, hv, hc⟩ := h.cell j hj
  exact ⟨v, hv, (hb.cell (p := ⟨l, j, none⟩) h.lt).trans hc⟩⟩
theorem Ld.below (h : Ld w0 w c a len cap N g n cp es W) (hb : Below W.heap.size W W') : Ld w0 w c a len cap N g n cp es W' :=
 ⟨h.st.below hb, grown_below h.gr hb, h.buf.below hb, h.nm.below hb, h.ne⟩
theorem Ld.grown (h : Ld w0 w c a len cap N g n cp es W) (s : St w0 W' c a len cap) (hg : W.grownBy W' (some c)) : Ld w0 w c a len cap N g n cp es W' := by
 have hl := ebuf_lt h.buf
 have := h.ne.2.2
 exact ⟨s, grown_trans h.gr hg, ebuf_block h.buf (fun g' e => by cases e; exact hg.block g hl.2 (fun e => by have := Option.some.inj e; omega)), h.nm.grown hg h.ne.1, h.ne⟩
theorem Ld.set (h : Ld w0 w c a len cap N g n cp es W) {E j : Nat} {v : Value} (h1 : E ≠ c) (h2 : E ≠ g) (h3 : E ≠ N) (h4 : w.heap.size ≤ E) (h5 : w0.heap.size ≤ E) : Ld w0 w c a len cap N g n cp es (W.setCell ⟨E, j, none⟩ v) := by
 refine ⟨st_other h.st h1 h5 _, grown_setNew h.gr h4, ebuf_block h.buf (fun g' e => by cases e; exact Below.heap_setCell _ _ _ _ (Ne.symm h2)), ⟨by simpa using h.nm.lt, fun i hi => ?_⟩, h.ne⟩
 obtain ⟨x, hx, hc⟩ := h.nm.cell i hi
 exact ⟨x, hx, (World.cell?_setCell_other _ _ _ _ (fun e => h3 (Addr.mk.inj e).1)).trans hc⟩
theorem Ld.step (h : Ld w0 w c a len cap N g n cp es W) {u : Int} {v : ByteArray} {g' cap' : Nat} {w' : World} (hb : V1.EBuf w.heap.size w' (some ⟨g', 0, none⟩) (n + 1) cap' (es ++ [(u, v)])) (hg : (W.alloc (.cells #[.int .i64 u, .string v] 88)).grownBy w' (Value.slice (some ⟨g, 0, none⟩) n cp).ownBlock)
  (hw : (Value.slice (some ⟨g, 0, none⟩) n cp).ownBlock = some g' ∨ g' = W.heap.size + 1) (hn0 : w0.heap.size ≤ c) : Ld w0 w c a len cap N g' (n + 1) cap' (es ++ [(u, v)]) w' := by
 have hl := ebuf_lt h.buf
 have h2 := h.below (K0.below_new W (.cells #[.int .i64 u, .string v] 88))
 have hnl := h.nm.lt
 have hg2 : (W.alloc (.cells #[.int .i64 u, .string v] 88)).grownBy w' (some g) := hg
 have hne := h.ne
 refine ⟨h2.st.grown (g := g) hg2 (by omega) (by omega), grown_new h2.gr hg2 hl.1, hb, h2.nm.grown hg2 h.ne.2.1, h.ne.1, ?_, h.ne.2.2⟩
 rcases hw with e | e
 ·cases e
  exact h.ne.2.1
 ·omega
end
variable {w0 w : World} {c : Nat} {a : Option Addr} {len cap : Nat}
end Go.Proofs.YthbcefopbmkppaaGreat.C1
