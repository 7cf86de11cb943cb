/- Joined texts: plain facts and contracts. -/
import Derived.Test.YthbcefopbmkppaaGreatJlA
import Derived.Test.YthbcefopbmkppaaGreatJlT
import Derived.Test.YthbcefopbmkppaaGreatJlW
import Derived.Test.YthbcefopbmkppaaGreatJlM
set_option linter.unusedVariables false
set_option linter.unusedSimpArgs false
set_option maxRecDepth 10000
namespace Go.Proofs.YthbcefopbmkppaaGreat.LQ
open Go.ChangeShapes Go.WideShapes Go.ChangeAt Go.RowKit C0
open C1 (pickNew isInt IsInt below_any blk_grown grown_setNew grown_of_below grown_new)
open N0 (Ln)
open N1 (Sl)
open LM (Sm)
open LO (Lw)
variable {w W W' : World} {a : Option Addr} {len cap c : Nat}
theorem j12 : ∀ v ∈ (#[Value.int .i64 32, Value.int .i64 40, Value.int .i64 48, Value.int .i64 160, Value.int .i64 190, Value.int .i64 320, Value.int .i64 0, Value.int .i64 (-1), Value.int .i64 767, Value.int .i64 350, Value.int .i64 384, Value.int .i64 400] : Array Value).toList, IsInt v := by
 intro v hv
 simp at hv
 rcases hv with rfl | rfl | rfl | rfl | rfl | rfl | rfl | rfl | rfl | rfl | rfl | rfl <;> exact isInt (by omega) (by omega)
theorem j9 : ∀ v ∈ (#[Value.int .i64 1, Value.int .i64 8, Value.int .i64 16, Value.int .i64 32, Value.int .i64 33, Value.int .i64 64, Value.int .i64 0, Value.int .i64 769, Value.int .i64 768] : Array Value).toList, IsInt v := by
 intro v hv
 simp at hv
 rcases hv with rfl | rfl | rfl | rfl | rfl | rfl | rfl | rfl | rfl <;> exact isInt (by omega) (by omega)
structure LW (V0 : World) (c : Nat) (a : Option Addr) (len cap R B base : Nat) (d : Ln) (s : Sl) (W : World) : Prop where
 st : St V0 W c a len cap
 kb : K0.Blk B (N1.vals d s) W
 rb : K0.Blk R [.int .i64 0, .int .i64 0, .int .i64 0, .string ⟨#[]⟩, .slice none 0 0, .string ⟨#[]⟩, .slice none 0 0, .slice none 0 0] W
 lw : Lw base W d s
 h1 : c < base
 h2 : c < B
 h3 : R < V0.heap.size
variable {V0 : World} {R B base : Nat} {d : Ln} {s : Sl}
theorem LW.below (h : LW V0 c a len cap R B base d s W) (hb : Below W.heap.size W W') : LW V0 c a len cap R B base d s W' := ⟨h.st.below hb, h.kb.below hb, h.rb.below hb, h.lw.below hb, h.h1, h.h2, h.h3⟩
theorem LW.grown (h : LW V0 c a len cap R B base d s W) (hs : St V0 W' c a len cap) (hg : W.grownBy W' (some c)) : LW V0 c a len cap R B base d s W' := ⟨hs, blk_grown h.kb hg (by have := h.h2; omega), blk_grown h.rb hg (by have := h.h3; have := h.st.new; omega), lw_grown h.lw hg h.h1, h.h1, h.h2, h.h3⟩
set_option maxHeartbeats 8000000 in
theorem drawWithin (hcode : Given w a len) (hlen : len ≤ 1048576) : Calls Tryz.prog 8 #[.slice a len cap] w fun e w' => ∃ d s i n, e = .returned (.tuple #[N1.val d s, .int .i64 i, .int .i64 n]) ∧ Sm d ∧ Lw w.heap.size w' d s ∧ Below w.heap.size w w' := by
 have n0 := K0.below_new w (.cells #[.int .i64 0, .int .i64 0, .int .i64 0, .string ⟨#[]⟩, .slice none 0 0, .string ⟨#[]⟩, .slice none 0 0, .slice none 0 0] 26)
 have v0 := K0.blk_new [.int .i64 0, .int .i64 0, .int .i64 0, .string ⟨#[]⟩, .slice none 0 0, .string ⟨#[]⟩, .slice none 0 0, .slice none 0 0] w 26
 have hc0 := hcode.below n0
 go_enter Tryz.func8, Tryz.ntmps8
 go_upto_region 1 with (fail)
 generalize (w.alloc (.cells #[.int .i64 0, .int .i64 0, .int .i64 0, .string ⟨#[]⟩, .slice none 0 0, .string ⟨#[]⟩, .slice none 0 0, .slice none 0 0] 26)) = V0 at v0 n0 hc0 ⊢
 have hv0 := v0.lt
 go_upto_region 3 with (first
  | (go_at_call 22; refine (C1.new_any hc0 hlen).mono ?_; rintro e w1 ⟨c, rfl, s1⟩; have hc1 := hc0.below s1.bel)
  | (go_at_call 18; refine (l05Both hc1 hlen).mono ?_; rintro e w2 ⟨u2, d, s, rfl, hu2, sm, l2, b2⟩; have s2 := s1.below b2))
 have hcl := s1.cur.lt
 have hw12 := b2.size
 have n3 := K0.below_new w2 (.cells #[.int .i64 d.ino, .int .i64 d.cl, .int .i64 d.un, .string d.rc, .slice s.a1 d.pg.length s.c1, .string d.sav, .slice s.a2 d.po.length s.c2, .slice s.a3 d.fr.length s.c3] 26)
 have q3 : LW V0 c a len cap w.heap.size w2.heap.size w1.heap.size d s (w2.alloc (.cells #[.int .i64 d.ino, .int .i64 d.cl, .int .i64 d.un, .string d.rc, .slice s.a1 d.pg.length s.c1, .string d.sav, .slice s.a2 d.po.length s.c2, .slice s.a3 d.fr.length s.c3] 26)) := ⟨s2.below n3, K0.blk_new (N1.vals d s) w2 26, ((v0.below s1.bel).below b2).below n3, l2.below n3, hcl, by omega, hv0⟩
 have hwb : w.heap.size ≤ w1.heap.size := Nat.le_trans (Nat.le_of_lt hv0) s1.bel.size
 generalize (w2.alloc (.cells #[.int .i64 d.ino, .int .i64 d.cl, .int .i64 d.un, .string d.rc, .slice s.a1 d.pg.length s.c1, .string d.sav, .slice s.a2 d.po.length s.c2, .slice s.a3 d.fr.length s.c3] 26)) = W3 at q3 ⊢
 have hRb : w.heap.size < w1.heap.size := Nat.lt_of_lt_of_le hv0 s1.bel.size
 have hRB : w.heap.size ≠ w2.heap.size := by omega
 generalize w2.heap.size = B at q3 hRB ⊢
 generalize w1.heap.size = base at q3 hwb hRb
 clear v0 s1 s2 l2 b2 n3 hcl hw12 hc1
 have HS : Hid (∀ W, LW V0 c a len cap w.heap.size B base d s W → W.cell? ⟨B, 0, none⟩ = some (.int .i64 d.ino) ∧ W.cell? ⟨B, 1, none⟩ = some (.int .i64 d.cl) ∧ W.cell? ⟨B, 2, none⟩ = some (.int .i64 d.un) ∧ W.cell? ⟨B, 3, none⟩ = some (.string d.rc) ∧ W.cell? ⟨B, 4, none⟩ = some (.slice s.a1 d.pg.length s.c1) ∧ W.cell? ⟨B, 5, none⟩ = some (.string d.sav) ∧ W.cell? ⟨B, 6, none⟩ = some (.slice s.a2 d.po.length s.c2) ∧ W.cell? ⟨B, 7, none⟩ = some (.slice s.a3 d.fr.length s.c3)) := fun W h => LO.LB8.cells h.kb
 have qd := q3.below (Below.refl _ _).drew
 have s0 := HS.out _ qd
 clear q3
 go_wp2
 refine wp_region_held (S := fun W => W.cell? ⟨B, 0, none⟩ = some (.int .i64 d.ino) ∧ W.cell? ⟨B, 1, none⟩ = some (.int .i64 d.cl) ∧ W.cell? ⟨B, 2, none⟩ = some (.int .i64 d.un) ∧ W.cell? ⟨B, 3, none⟩ = some (.string d.rc) ∧ W.cell? ⟨B, 4, none⟩ = some (.slice s.a1 d.pg.length s.c1) ∧ W.cell? ⟨B, 5, none⟩ = some (.string d.sav) ∧ W.cell? ⟨B, 6, none⟩ = some (.slice s.a2 d.po.length s.c2) ∧ W.cell? ⟨B, 7, none⟩ = some (.slice s.a3 d.fr.length s.c3)) (by kernel_rfl) ?_
 refine wpAnyH_take (i := 0) (v := .agg #[.int .i64 d.ino, .int .i64 d.cl, .int .i64 d.un, .string d.rc, .slice s.a1 d.pg.length s.c1, .string d.sav, .slice s.a2 d.po.length s.c2, .slice s.a3 d.fr.length s.c3]) rfl (by kernel_rfl) (by kernel_rfl) (by kernel_rfl) (fun _ _ _ h => h) (Or.inl ⟨by rfl, fun w' hS' => ?_⟩) s0 ?_
 ·obtain ⟨p0, p1, p2, p3, p4, p5, p6, p7⟩ := hS'
  go_simp
 simp only [BZ.z, Act.put, Nat.reduceAdd]
 refine wpAnyH_take (i := 1) (v := .pointer (some ⟨c, 0, none⟩)) rfl (by kernel_rfl) (by kernel_rfl) (by kernel_rfl) (fun _ _ _ h => h) (Or.inl ⟨by rfl, fun w' hS' => by rfl⟩) s0 ?_
 simp only [BZ.z, Act.put, Nat.reduceAdd]
 refine wpAnyH_take (i := 4) (v := .pointer (some ⟨c, 0, none⟩)) rfl (by kernel_rfl) (by kernel_rfl) (by kernel_rfl) (fun _ _ _ h => h) (Or.inl ⟨by rfl, fun w' hS' => by rfl⟩) s0 ?_
 simp only [BZ.z, Act.put, Nat.reduceAdd]
 refine wpAnyH_all (rs := [2, 5]) (by kernel_rfl) (by simp) ?_
 intro i hi
 rcases (show i = 2 ∨ i = 5 by simpa using hi) with rfl | rfl
 ·have hz2 : c < W3.heap.size := qd.st.cur.lt
  have of2_0 : C1.Of ((W3.drew).alloc (.cells #[.int .i64 32, .int .i64 40, .int .i64 48, .int .i64 160, .int .i64 190, .int .i64 320, .int .i64 0, .int .i64 (-1), .int .i64 767, .int .i64 350, .int .i64 384, .int .i64 400] 3)) W3.heap.size 12 IsInt := C1.Of.new (W3.drew) _ 3 IsInt (C1.of_all j12)
  have q0 := qd.below (K0.below_new (W3.drew) (.cells #[.int .i64 32, .int .i64 40, .int .i64 48, .int .i64 160, .int .i64 190, .int .i64 320, .int .i64 0, .int .i64 (-1), .int .i64 767, .int .i64 350, .int .i64 384, .int .i64 400] 3))
  refine LO.op_plain (u := .slice (some ⟨W3.heap.size, 0, none⟩) 12 12) (w' := (W3.drew).alloc (.cells #[.int .i64 32, .int .i64 40, .int .i64 48, .int .i64 160, .int .i64 190, .int .i64 320, .int .i64 0, .int .i64 (-1), .int .i64 767, .int .i64 350, .int .i64 384, .int .i64 400] 3)) rfl (by rfl) ?_ ⟨HS.out _ q0, ?_⟩
  ·go_simp
  simp only [BZ.z, Act.put, Nat.reduceAdd]
  generalize (W3.drew).alloc (.cells #[.int .i64 32, .int .i64 40, .int .i64 48, .int .i64 160, .int .i64 190, .int .i64 320, .int .i64 0, .int .i64 (-1), .int .i64 767, .int .i64 350, .int .i64 384, .int .i64 400] 3) = Vw0 at of2_0 q0 ⊢
  refine wpAnyH_all (rs := [3, 5]) (by kernel_rfl) (by simp) ?_
  intro i hi
  rcases (show i = 3 ∨ i = 5 by simpa using hi) with rfl | rfl
  ·refine LO.op_call2 rfl (by rfl) (.tmp 16) (.tmp 17) _ rfl (.pointer (some ⟨c, 0, none⟩)) (.slice (some ⟨W3.heap.size, 0, none⟩) 12 12) (by rfl) (by rfl) (enters_of Tryz.func23 (by kernel_rfl) rfl) ((C1.pickInt_any hc0 q0.st hlen of2_0 (Nat.ne_of_gt hz2) (by decide) (by decide)).mono ?_)
   rintro e Vw1 ⟨⟨z3, wz3, rfl⟩, s1, g1⟩
   have q1 := q0.grown s1 g1
   refine ⟨_, rfl, HS.out _ q1, ?_⟩
   simp only [BZ.z, Act.put, Nat.reduceAdd]
   have hz5 : c < (Vw1).heap.size := q1.st.cur.lt
   have of5_2 : C1.Of ((Vw1).alloc (.cells #[.int .i64 1, .int .i64 8, .int .i64 16, .int .i64 32, .int .i64 33, .int .i64 64, .int .i64 0, .int .i64 769, .int .i64 768] 3)) (Vw1).heap.size 9 IsInt := C1.Of.new (Vw1) _ 3 IsInt (C1.of_all j9)
   have q2 := q1.below (K0.below_new (Vw1) (.cells #[.int .i64 1, .int .i64 8, .int .i64 16, .int .i64 32, .int .i64 33, .int .i64 64, .int .i64 0, .int .i64 769, .int .i64 768] 3))
   refine Y0.one_plain (i := 5) (u := .slice (some ⟨(Vw1).heap.size, 0, none⟩) 9 9) (w' := (Vw1).alloc (.cells #[.int .i64 1, .int .i64 8, .int .i64 16, .int .i64 32, .int .i64 33, .int .i64 64, .int .i64 0, .int .i64 769, .int .i64 768] 3)) (by kernel_rfl) rfl (by rfl) ?_ (HS.out _ q2) ?_
   ·go_simp
   simp only [BZ.z, Act.put, Nat.reduceAdd]
   generalize (Vw1).alloc (.cells #[.int .i64 1, .int .i64 8, .int .i64 16, .int .i64 32, .int .i64 33, .int .i64 64, .int .i64 0, .int .i64 769, .int .i64 768] 3) = Vw2 at of5_2 q2 ⊢
   refine Y0.one_call2w (i := 6) (by kernel_rfl) rfl (by rfl) (.tmp 19) (.tmp 20) _ rfl (.pointer (some ⟨c, 0, none⟩)) (.slice (some ⟨(Vw1).heap.size, 0, none⟩) 9 9) (by rfl) (by rfl) (enters_of Tryz.func23 (by kernel_rfl) rfl) ((C1.pickInt_any hc0 q2.st hlen of5_2 (Nat.ne_of_gt hz5) (by decide) (by decide)).mono ?_)
   rintro e Vw3 ⟨⟨z6, wz6, rfl⟩, s3, g3⟩
   have q3 := q2.grown s3 g3
   refine ⟨_, rfl, HS.out _ q3, ?_⟩
   simp only [BZ.z, Act.put, Nat.reduceAdd]
   obtain ⟨e0, e1, e2, e3, e4, e5, e6, e7⟩ := LO.LB8.cells q3.rb
   obtain ⟨f0, f1, f2, f3, f4, f5, f6, f7⟩ := LO.LB8.free q3.rb
   have kf := N4.other8 q3.kb (B := w.heap.size) hRB (.int .i64 d.ino) (.int .i64 d.cl) (.int .i64 d.un) (.string d.rc) (.slice s.a1 d.pg.length s.c1) (.string d.sav) (.slice s.a2 d.po.length s.c2) (.slice s.a3 d.fr.length s.c3)
   refine Y0.one_skip (i := 7) (w' := ((((((((Vw3).setCell ⟨w.heap.size, 0, none⟩ (.int .i64 d.ino)).setCell ⟨w.heap.size, 1, none⟩ (.int .i64 d.cl)).setCell ⟨w.heap.size, 2, none⟩ (.int .i64 d.un)).setCell ⟨w.heap.size, 3, none⟩ (.string d.rc)).setCell ⟨w.heap.size, 4, none⟩ (.slice s.a1 d.pg.length s.c1)).setCell ⟨w.heap.size, 5, none⟩ (.string d.sav)).setCell ⟨w.heap.size, 6, none⟩ (.slice s.a2 d.po.length s.c2)).setCell ⟨w.heap.size, 7, none⟩ (.slice s.a3 d.fr.length s.c3)) (by kernel_rfl) rfl (by rfl) ?_ (LO.LB8.cells kf) ?_
   ·go_simp
   simp only [BZ.z, Act.put, Nat.reduceAdd]
   refine wpAnyH_take (i := 8) (v := .int .i64 z3) rfl (by kernel_rfl) (by kernel_rfl) (by kernel_rfl) (fun _ _ _ h => h) (Or.inl ⟨by rfl, fun w' hS' => by rfl⟩) (LO.LB8.cells kf) ?_
   simp only [BZ.z, Act.put, Nat.reduceAdd]
   refine wpAnyH_take (i := 9) (v := .int .i64 z6) rfl (by kernel_rfl) (by kernel_rfl) (by kernel_rfl) (fun _ _ _ h => h) (Or.inl ⟨by rfl, fun w' hS' => by rfl⟩) (LO.LB8.cells kf) ?_
   simp only [BZ.z, Act.put, Nat.reduceAdd]
   have qq := N4.put8 (y0 := .int .i64 d.ino) (y1 := .int .i64 d.cl) (y2 := .int .i64 d.un) (y3 := .string d.rc) (y4 := .slice s.a1 d.pg.length s.c1) (y5 := .string d.sav) (y6 := .slice s.a2 d.po.length s.c2) (y7 := .slice s.a3 d.fr.length s.c3) q3.rb
   obtain ⟨r0, r1, r2, r3, r4, r5, r6, r7⟩ := LO.LB8.cells qq
   have lE := lw_set8 (R := w.heap.size) q3.lw hRb (.int .i64 d.ino) (.int .i64 d.cl) (.int .i64 d.un) (.string d.rc) (.slice s.a1 d.pg.length s.c1) (.string d.sav) (.slice s.a2 d.po.length s.c2) (.slice s.a3 d.fr.length s.c3)
   have bE := N4.bel8 (n0.trans (q3.st.bel.mono n0.size)) (B := w.heap.size) (Nat.le_refl _) (.int .i64 d.ino) (.int .i64 d.cl) (.int .i64 d.un) (.string d.rc) (.slice s.a1 d.pg.length s.c1) (.string d.sav) (.slice s.a2 d.po.length s.c2) (.slice s.a3 d.fr.length s.c3)
   refine wpAnyH_done (by kernel_rfl) ?_ _
   try go_wp2
   refine bodyPost_ret (v := .tuple #[N1.val d s, .int .i64 z3, .int .i64 z6]) (by simp [results, Tryz.results8, go_sem, r0, r1, r2, r3, r4, r5, r6, r7]) rfl ?_
   exact ⟨d, s, z3, z6, rfl, sm, lE.mono hwb, bE⟩
  ·have hz5 : c < (Vw0).heap.size := q0.st.cur.lt
   have of5_1 : C1.Of ((Vw0).alloc (.cells #[.int .i64 1, .int .i64 8, .int .i64 16, .int .i64 32, .int .i64 33, .int .i64 64, .int .i64 0, .int .i64 769, .int .i64 768] 3)) (Vw0).heap.size 9 IsInt := C1.Of.new (Vw0) _ 3 IsInt (C1.of_all j9)
   have q1 := q0.below (K0.below_new (Vw0) (.cells #[.int .i64 1, .int .i64 8, .int .i64 16, .int .i64 32, .int .i64 33, .int .i64 64, .int .i64 0, .int .i64 769, .int .i64 768] 3))
   have of2_1 := of2_0.grown (grown_of_below (c := c) (K0.below_new (Vw0) (.cells #[.int .i64 1, .int .i64 8, .int .i64 16, .int .i64 32, .int .i64 33, .int .i64 64, .int .i64 0, .int .i64 769, .int .i64 768] 3))) (Nat.ne_of_gt hz2)
   refine LO.op_plain (u := .slice (some ⟨(Vw0).heap.size, 0, none⟩) 9 9) (w' := (Vw0).alloc (.cells #[.int .i64 1, .int .i64 8, .int .i64 16, .int .i64 32, .int .i64 33, .int .i64 64, .int .i64 0, .int .i64 769, .int .i64 768] 3)) rfl (by rfl) ?_ ⟨HS.out _ q1, ?_⟩
   ·go_simp
   simp only [BZ.z, Act.put, Nat.reduceAdd]
   generalize (Vw0).alloc (.cells #[.int .i64 1, .int .i64 8, .int .i64 16, .int .i64 32, .int .i64 33, .int .i64 64, .int .i64 0, .int .i64 769, .int .i64 768] 3) = Vw1 at of5_1 q1 of2_1 ⊢
   refine Y0.one_call2w (i := 3) (by kernel_rfl) rfl (by rfl) (.tmp 16) (.tmp 17) _ rfl (.pointer (some ⟨c, 0, none⟩)) (.slice (some ⟨W3.heap.size, 0, none⟩) 12 12) (by rfl) (by rfl) (enters_of Tryz.func23 (by kernel_rfl) rfl) ((C1.pickInt_any hc0 q1.st hlen of2_1 (Nat.ne_of_gt hz2) (by decide) (by decide)).mono ?_)
   rintro e Vw2 ⟨⟨z3, wz3, rfl⟩, s2, g2⟩
   have q2 := q1.grown s2 g2
   have of5_2 := of5_1.grown g2 (Nat.ne_of_gt hz5)
   refine ⟨_, rfl, HS.out _ q2, ?_⟩
   simp only [BZ.z, Act.put, Nat.reduceAdd]
   refine Y0.one_call2w (i := 6) (by kernel_rfl) rfl (by rfl) (.tmp 19) (.tmp 20) _ rfl (.pointer (some ⟨c, 0, none⟩)) (.slice (some ⟨(Vw0).heap.size, 0, none⟩) 9 9) (by rfl) (by rfl) (enters_of Tryz.func23 (by kernel_rfl) rfl) ((C1.pickInt_any hc0 q2.st hlen of5_2 (Nat.ne_of_gt hz5) (by decide) (by decide)).mono ?_)
   rintro e Vw3 ⟨⟨z6, wz6, rfl⟩, s3, g3⟩
   have q3 := q2.grown s3 g3
   refine ⟨_, rfl, HS.out _ q3, ?_⟩
   simp only [BZ.z, Act.put, Nat.reduceAdd]
   obtain ⟨e0, e1, e2, e3, e4, e5, e6, e7⟩ := LO.LB8.cells q3.rb
   obtain ⟨f0, f1, f2, f3, f4, f5, f6, f7⟩ := LO.LB8.free q3.rb
   have kf := N4.other8 q3.kb (B := w.heap.size) hRB (.int .i64 d.ino) (.int .i64 d.cl) (.int .i64 d.un) (.string d.rc) (.slice s.a1 d.pg.length s.c1) (.string d.sav) (.slice s.a2 d.po.length s.c2) (.slice s.a3 d.fr.length s.c3)
   refine Y0.one_skip (i := 7) (w' := ((((((((Vw3).setCell ⟨w.heap.size, 0, none⟩ (.int .i64 d.ino)).setCell ⟨w.heap.size, 1, none⟩ (.int .i64 d.cl)).setCell ⟨w.heap.size, 2, none⟩ (.int .i64 d.un)).setCell ⟨w.heap.size, 3, none⟩ (.string d.rc)).setCell ⟨w.heap.size, 4, none⟩ (.slice s.a1 d.pg.length s.c1)).setCell ⟨w.heap.size, 5, none⟩ (.string d.sav)).setCell ⟨w.heap.size, 6, none⟩ (.slice s.a2 d.po.length s.c2)).setCell ⟨w.heap.size, 7, none⟩ (.slice s.a3 d.fr.length s.c3)) (by kernel_rfl) rfl (by rfl) ?_ (LO.LB8.cells kf) ?_
   ·go_simp
   simp only [BZ.z, Act.put, Nat.reduceAdd]
   refine wpAnyH_take (i := 8) (v := .int .i64 z3) rfl (by kernel_rfl) (by kernel_rfl) (by kernel_rfl) (fun _ _ _ h => h) (Or.inl ⟨by rfl, fun w' hS' => by rfl⟩) (LO.LB8.cells kf) ?_
   simp only [BZ.z, Act.put, Nat.reduceAdd]
   refine wpAnyH_take (i := 9) (v := .int .i64 z6) rfl (by kernel_rfl) (by kernel_rfl) (by kernel_rfl) (fun _ _ _ h => h) (Or.inl ⟨by rfl, fun w' hS' => by rfl⟩) (LO.LB8.cells kf) ?_
   simp only [BZ.z, Act.put, Nat.reduceAdd]
   have qq := N4.put8 (y0 := .int .i64 d.ino) (y1 := .int .i64 d.cl) (y2 := .int .i64 d.un) (y3 := .string d.rc) (y4 := .slice s.a1 d.pg.length s.c1) (y5 := .string d.sav) (y6 := .slice s.a2 d.po.length s.c2) (y7 := .slice s.a3 d.fr.length s.c3) q3.rb
   obtain ⟨r0, r1, r2, r3, r4, r5, r6, r7⟩ := LO.LB8.cells qq
   have lE := lw_set8 (R := w.heap.size) q3.lw hRb (.int .i64 d.ino) (.int .i64 d.cl) (.int .i64 d.un) (.string d.rc) (.slice s.a1 d.pg.length s.c1) (.string d.sav) (.slice s.a2 d.po.length s.c2) (.slice s.a3 d.fr.length s.c3)
   have bE := N4.bel8 (n0.trans (q3.st.bel.mono n0.size)) (B := w.heap.size) (Nat.le_refl _) (.int .i64 d.ino) (.int .i64 d.cl) (.int .i64 d.un) (.string d.rc) (.slice s.a1 d.pg.length s.c1) (.string d.sav) (.slice s.a2 d.po.length s.c2) (.slice s.a3 d.fr.length s.c3)
   refine wpAnyH_done (by kernel_rfl) ?_ _
   try go_wp2
   refine bodyPost_ret (v := .tuple #[N1.val d s, .int .i64 z3, .int .i64 z6]) (by simp [results, Tryz.results8, go_sem, r0, r1, r2, r3, r4, r5, r6, r7]) rfl ?_
   exact ⟨d, s, z3, z6, rfl, sm, lE.mono hwb, bE⟩
 ·have hz5 : c < W3.heap.size := qd.st.cur.lt
  have of5_0 : C1.Of ((W3.drew).alloc (.cells #[.int .i64 1, .int .i64 8, .int .i64 16, .int .i64 32, .int .i64 33, .int .i64 64, .int .i64 0, .int .i64 769, .int .i64 768] 3)) W3.heap.size 9 IsInt := C1.Of.new (W3.drew) _ 3 IsInt (C1.of_all j9)
  have q0 := qd.below (K0.below_new (W3.drew) (.cells #[.int .i64 1, .int .i64 8, .int .i64 16, .int .i64 32, .int .i64 33, .int .i64 64, .int .i64 0, .int .i64 769, .int .i64 768] 3))
  refine LO.op_plain (u := .slice (some ⟨W3.heap.size, 0, none⟩) 9 9) (w' := (W3.drew).alloc (.cells #[.int .i64 1, .int .i64 8, .int .i64 16, .int .i64 32, .int .i64 33, .int .i64 64, .int .i64 0, .int .i64 769, .int .i64 768] 3)) rfl (by rfl) ?_ ⟨HS.out _ q0, ?_⟩
  ·go_simp
  simp only [BZ.z, Act.put, Nat.reduceAdd]
  generalize (W3.drew).alloc (.cells #[.int .i64 1, .int .i64 8, .int .i64 16, .int .i64 32, .int .i64 33, .int .i64 64, .int .i64 0, .int .i64 769, .int .i64 768] 3) = Vw0 at of5_0 q0 ⊢
  have hz2 : c < (Vw0).heap.size := q0.st.cur.lt
  have of2_1 : C1.Of ((Vw0).alloc (.cells #[.int .i64 32, .int .i64 40, .int .i64 48, .int .i64 160, .int .i64 190, .int .i64 320, .int .i64 0, .int .i64 (-1), .int .i64 767, .int .i64 350, .int .i64 384, .int .i64 400] 3)) (Vw0).heap.size 12 IsInt := C1.Of.new (Vw0) _ 3 IsInt (C1.of_all j12)
  have q1 := q0.below (K0.below_new (Vw0) (.cells #[.int .i64 32, .int .i64 40, .int .i64 48, .int .i64 160, .int .i64 190, .int .i64 320, .int .i64 0, .int .i64 (-1), .int .i64 767, .int .i64 350, .int .i64 384, .int .i64 400] 3))
  have of5_1 := of5_0.grown (grown_of_below (c := c) (K0.below_new (Vw0) (.cells #[.int .i64 32, .int .i64 40, .int .i64 48, .int .i64 160, .int .i64 190, .int .i64 320, .int .i64 0, .int .i64 (-1), .int .i64 767, .int .i64 350, .int .i64 384, .int .i64 400] 3))) (Nat.ne_of_gt hz5)
  refine Y0.one_plain (i := 2) (u := .slice (some ⟨(Vw0).heap.size, 0, none⟩) 12 12) (w' := (Vw0).alloc (.cells #[.int .i64 32, .int .i64 40, .int .i64 48, .int .i64 160, .int .i64 190, .int .i64 320, .int .i64 0, .int .i64 (-1), .int .i64 767, .int .i64 350, .int .i64 384, .int .i64 400] 3)) (by kernel_rfl) rfl (by rfl) ?_ (HS.out _ q1) ?_
  ·go_simp
  simp only [BZ.z, Act.put, Nat.reduceAdd]
  generalize (Vw0).alloc (.cells #[.int .i64 32, .int .i64 40, .int .i64 48, .int .i64 160, .int .i64 190, .int .i64 320, .int .i64 0, .int .i64 (-1), .int .i64 767, .int .i64 350, .int .i64 384, .int .i64 400] 3) = Vw1 at of2_1 q1 of5_1 ⊢
  refine Y0.one_call2w (i := 3) (by kernel_rfl) rfl (by rfl) (.tmp 16) (.tmp 17) _ rfl (.pointer (some ⟨c, 0, none⟩)) (.slice (some ⟨(Vw0).heap.size, 0, none⟩) 12 12) (by rfl) (by rfl) (enters_of Tryz.func23 (by kernel_rfl) rfl) ((C1.pickInt_any hc0 q1.st hlen of2_1 (Nat.ne_of_gt hz2) (by decide) (by decide)).mono ?_)
  rintro e Vw2 ⟨⟨z3, wz3, rfl⟩, s2, g2⟩
  have q2 := q1.grown s2 g2
  have of5_2 := of5_1.grown g2 (Nat.ne_of_gt hz5)
  refine ⟨_, rfl, HS.out _ q2, ?_⟩
  simp only [BZ.z, Act.put, Nat.reduceAdd]
  refine Y0.one_call2w (i := 6) (by kernel_rfl) rfl (by rfl) (.tmp 19) (.tmp 20) _ rfl (.pointer (some ⟨c, 0, none⟩)) (.slice (some ⟨W3.heap.size, 0, none⟩) 9 9) (by rfl) (by rfl) (enters_of Tryz.func23 (by kernel_rfl) rfl) ((C1.pickInt_any hc0 q2.st hlen of5_2 (Nat.ne_of_gt hz5) (by decide) (by decide)).mono ?_)
  rintro e Vw3 ⟨⟨z6, wz6, rfl⟩, s3, g3⟩
  have q3 := q2.grown s3 g3
  refine ⟨_, rfl, HS.out _ q3, ?_⟩
  simp only [BZ.z, Act.put, Nat.reduceAdd]
  obtain ⟨e0, e1, e2, e3, e4, e5, e6, e7⟩ := LO.LB8.cells q3.rb
  obtain ⟨f0, f1, f2, f3, f4, f5, f6, f7⟩ := LO.LB8.free q3.rb
  have kf := N4.other8 q3.kb (B := w.heap.size) hRB (.int .i64 d.ino) (.int .i64 d.cl) (.int .i64 d.un) (.string d.rc) (.slice s.a1 d.pg.length s.c1) (.string d.sav) (.slice s.a2 d.po.length s.c2) (.slice s.a3 d.fr.length s.c3)
  refine Y0.one_skip (i := 7) (w' := ((((((((Vw3).setCell ⟨w.heap.size, 0, none⟩ (.int .i64 d.ino)).setCell ⟨w.heap.size, 1, none⟩ (.int .i64 d.cl)).setCell ⟨w.heap.size, 2, none⟩ (.int .i64 d.un)).setCell ⟨w.heap.size, 3, none⟩ (.string d.rc)).setCell ⟨w.heap.size, 4, none⟩ (.slice s.a1 d.pg.length s.c1)).setCell ⟨w.heap.size, 5, none⟩ (.string d.sav)).setCell ⟨w.heap.size, 6, none⟩ (.slice s.a2 d.po.length s.c2)).setCell ⟨w.heap.size, 7, none⟩ (.slice s.a3 d.fr.length s.c3)) (by kernel_rfl) rfl (by rfl) ?_ (LO.LB8.cells kf) ?_
  ·go_simp
  simp only [BZ.z, Act.put, Nat.reduceAdd]
  refine wpAnyH_take (i := 8) (v := .int .i64 z3) rfl (by kernel_rfl) (by kernel_rfl) (by kernel_rfl) (fun _ _ _ h => h) (Or.inl ⟨by rfl, fun w' hS' => by rfl⟩) (LO.LB8.cells kf) ?_
  simp only [BZ.z, Act.put, Nat.reduceAdd]
  refine wpAnyH_take (i := 9) (v := .int .i64 z6) rfl (by kernel_rfl) (by kernel_rfl) (by kernel_rfl) (fun _ _ _ h => h) (Or.inl ⟨by rfl, fun w' hS' => by rfl⟩) (LO.LB8.cells kf) ?_
  simp only [BZ.z, Act.put, Nat.reduceAdd]
  have qq := N4.put8 (y0 := .int .i64 d.ino) (y1 := .int .i64 d.cl) (y2 := .int .i64 d.un) (y3 := .string d.rc) (y4 := .slice s.a1 d.pg.length s.c1) (y5 := .string d.sav) (y6 := .slice s.a2 d.po.length s.c2) (y7 := .slice s.a3 d.fr.length s.c3) q3.rb
  obtain ⟨r0, r1, r2, r3, r4, r5, r6, r7⟩ := LO.LB8.cells qq
  have lE := lw_set8 (R := w.heap.size) q3.lw hRb (.int .i64 d.ino) (.int .i64 d.cl) (.int .i64 d.un) (.string d.rc) (.slice s.a1 d.pg.length s.c1) (.string d.sav) (.slice s.a2 d.po.length s.c2) (.slice s.a3 d.fr.length s.c3)
  have bE := N4.bel8 (n0.trans (q3.st.bel.mono n0.size)) (B := w.heap.size) (Nat.le_refl _) (.int .i64 d.ino) (.int .i64 d.cl) (.int .i64 d.un) (.string d.rc) (.slice s.a1 d.pg.length s.c1) (.string d.sav) (.slice s.a2 d.po.length s.c2) (.slice s.a3 d.fr.length s.c3)
  refine wpAnyH_done (by kernel_rfl) ?_ _
  try go_wp2
  refine bodyPost_ret (v := .tuple #[N1.val d s, .int .i64 z3, .int .i64 z6]) (by simp [results, Tryz.results8, go_sem, r0, r1, r2, r3, r4, r5, r6, r7]) rfl ?_
  exact ⟨d, s, z3, z6, rfl, sm, lE.mono hwb, bE⟩
end Go.Proofs.YthbcefopbmkppaaGreat.LQ
namespace Go.Proofs.YthbcefopbmkppaaGreat.LP
open N0 (Ln)
open N13 (uPg uFr undone undo laid_size)
open HP (Rg at_ cov covAll cov_iff covAll_iff)
open WI (rl within)
abbrev by_ (s : ByteArray) (k : Nat) : Option UInt8 := s.data.toList[k]?
theorem by_ext {a b : ByteArray} (h : ∀ k, by_ a k = by_ b k) : a = b := ByteArray.ext (Array.toList_inj.1 (List.ext_getElem? h))
theorem get_laid (s : ByteArray) (i : Int) (t : ByteArray) (k : Nat) : by_ (B5.laid s i t) k = if B2.lies s.size i t.size = true ∧ i ≤ (k : Int) ∧ (k : Int) < i + (t.size : Int) then by_ t (k - i.toNat) else by_ s k := by
 unfold B5.laid by_
 by_cases hl : B2.lies s.size i t.size = true
 ·rw [if_pos hl]
  obtain ⟨h0, h1, h2⟩ := B2.lies_true hl
  simp only [ByteArray.data_append, Array.toList_append, Lib.extract_data, List.drop_zero, Nat.sub_zero, List.append_assoc]
  have l1 : (s.data.toList.take i.toNat).length = i.toNat := by rw [List.length_take, ← Lib.size_eq]; omega
  by_cases ha : (k : Int) < i
  ·rw [if_neg (by omega), List.getElem?_append_left (by omega), List.getElem?_take, if_pos (by omega)]
  ·rw [List.getElem?_append_right (by omega), l1]
   by_cases hb : (k : Int) < i + (t.size : Int)
   ·rw [if_pos ⟨hl, by omega, hb⟩, List.getElem?_append_left (by rw [← Lib.size_eq]; omega)]
   ·rw [if_neg (by omega), List.getElem?_append_right (by rw [← Lib.size_eq]; omega), ← Lib.size_eq, List.getElem?_take]
    by_cases hk : k < s.size
    ·rw [if_pos (by omega), List.getElem?_drop]
     congr 1
     omega
    ·rw [if_neg (by omega), List.getElem?_eq_none (by rw [← Lib.size_eq]; omega)]
 ·rw [if_neg hl, if_neg (fun h => hl h.1)]
def ap (m : ByteArray) : List (Int × ByteArray) → ByteArray
 | [] => m
 | p :: r => ap (B5.laid m p.1 p.2) r
theorem ap_append (m : ByteArray) : ∀ (l r : List (Int × ByteArray)), ap m (l ++ r) = ap (ap m l) r := by
 intro l
 induction l generalizing m with
 | nil => intro r; rfl
 | cons p l ih => intro r; rw [List.cons_append, ap, ap, ih]
theorem ap_size : ∀ (l : List (Int × ByteArray)) (m : ByteArray), (ap m l).size = m.size
 | [], m => rfl
 | p :: r, m => by rw [ap, ap_size r, laid_size]
theorem ap_byte (n k : Nat) : ∀ (l : List (Int × ByteArray)), (∃ v, ∀ m : ByteArray, m.size = n → by_ (ap m l) k = v) ∨ (∀ m : ByteArray, m.size = n → by_ (ap m l) k = by_ m k)
 | [] => Or.inr fun m _ => rfl
 | p :: r => by
  rcases ap_byte n k r with ⟨v, hv⟩ | h
  ·exact Or.inl ⟨v, fun m hm => hv _ (by rw [laid_size, hm])⟩
  ·by_cases hc : B2.lies n p.1 p.2.size = true ∧ p.1 ≤ (k : Int) ∧ (k : Int) < p.1 + (p.2.size : Int)
   ·left
    refine ⟨by_ p.2 (k - p.1.toNat), fun m hm => ?_⟩
    rw [ap, h _ (by rw [laid_size, hm]), get_laid, if_pos (by rw [hm]; exact hc)]
   ·right
    intro m hm
    rw [ap, h _ (by rw [laid_size, hm]), get_laid, if_neg (by rw [hm]; exact hc)]
theorem ap_twice (l : List (Int × ByteArray)) (m : ByteArray) : ap (ap m l) l = ap m l := by
 refine by_ext fun k => ?_
 rcases ap_byte m.size k l with ⟨v, hv⟩ | h
 ·rw [hv _ (ap_size l m), hv _ rfl]
 ·exact h _ (ap_size l m)
theorem ap_apart (k : Nat) : ∀ (l : List (Int × ByteArray)) (m : ByteArray), (∀ p ∈ l, ¬ (p.1 ≤ (k : Int) ∧ (k : Int) < p.1 + (p.2.size : Int))) → by_ (ap m l) k = by_ m k
 | [], m, _ => rfl
 | p :: r, m, h => by
  have h1 := h p List.mem_cons_self
  rw [ap, ap_apart k r _ fun q hq => h q (List.mem_cons_of_mem _ hq), get_laid, if_neg (fun x => h1 x.2)]
def opsPg (d : Ln) (n : Nat) : List (Int × ByteArray) := (List.range n).map fun k => (d.pg.getD k 0 * 32, B2.part d.sav ((k : Int) * 32) 32)
def opsFr (d : Ln) (n : Nat) : List (Int × ByteArray) := (List.range n).map fun k => (L1.recAt (d.fr.getD k 0), B4.zeros 16)
theorem uPg_ap (d : Ln) (m : ByteArray) : ∀ n, uPg d m n = ap m (opsPg d n)
 | 0 => rfl
 | n + 1 => by
  rw [uPg, uPg_ap d m n, opsPg, opsPg, List.range_succ, List.map_append, ap_append]
  rfl
theorem uFr_ap (d : Ln) (m : ByteArray) : ∀ n, uFr d m n = ap m (opsFr d n)
 | 0 => rfl
 | n + 1 => by
  rw [uFr, uFr_ap d m n, opsFr, opsFr, List.range_succ, List.map_append, ap_append]
  rfl
def ops (d : Ln) : List (Int × ByteArray) := (L1.recAt d.ino, d.rc) :: (opsPg d d.pg.length ++ opsFr d d.fr.length)
theorem undone_ap (mem : ByteArray) (d : Ln) : undone mem d = ap mem (ops d) := by
 unfold undone ops
 rw [ap, ap_append, uFr_ap, uPg_ap]
theorem undo_size (mem : ByteArray) (d : Ln) : (undo mem d).size = mem.size := by
 unfold undo
 split
 ·rw [undone_ap, ap_size]
 ·rfl
theorem undo_twice (mem : ByteArray) (d : Ln) : undo (undo mem d) d = undo mem d := by
 by_cases h : N0.loanOk d = true ∧ mem.size = 768
 ·have e : undo mem d = undone mem d := by unfold undo; rw [if_pos h]
  have hs : (undo mem d).size = 768 := by rw [undo_size]; exact h.2
  rw [show undo (undo mem d) d = undone (undo mem d) d by unfold undo; rw [if_pos ⟨h.1, by rw [e] at hs; simpa [undo, h] using hs⟩]; done]
  rw [e, undone_ap, undone_ap, ap_twice]
 ·have e : undo mem d = mem := by unfold undo; rw [if_neg h]
  rw [e, e]
theorem part_size (s : ByteArray) (i : Int) (n : Nat) : (B2.part s i n).size ≤ n := by
 unfold B2.part
 split
 ·rw [ByteArray.size_extract]; omega
 ·exact Nat.zero_le _
theorem z16 : (B4.zeros 16).size = 16 := by rw [B4.zeros, if_pos (by decide), B4.nulls_size]; rfl
theorem mem_opsPg {d : Ln} {p : Int × ByteArray} (h : p ∈ opsPg d d.pg.length) : ∃ z ∈ d.pg, p.1 = z * 32 ∧ p.2.size ≤ 32 := by
 obtain ⟨k, hk, rfl⟩ := List.mem_map.1 h
 have hk' := List.mem_range.1 hk
 exact ⟨d.pg.getD k 0, N0.getD_mem hk', rfl, part_size _ _ 32⟩
theorem mem_opsFr {d : Ln} {p : Int × ByteArray} (h : p ∈ opsFr d d.fr.length) : ∃ z ∈ d.fr, p.1 = L1.recAt z ∧ p.2.size = 16 := by
 obtain ⟨k, hk, rfl⟩ := List.mem_map.1 h
 have hk' := List.mem_range.1 hk
 exact ⟨d.fr.getD k 0, N0.getD_mem hk', rfl, z16⟩
end Go.Proofs.YthbcefopbmkppaaGreat.LP
namespace Go.Proofs.YthbcefopbmkppaaGreat.LP
open N0 (Ln)
open N13 (uPg uFr undone undo laid_size)
open HP (Rg at_ cov covAll cov_iff covAll_iff)
open WI (rl within)
variable {d : Ln}
theorem rc_size (h : N0.loanOk d = true) : d.rc.size = 16 := (G0.isI_ok (N0.loanOk_is h).1).1
theorem within_one (d : Ln) (k : Nat) (hk : k < 768) : within d (k : Int) 1 = cov (rl d) (k : Int) := by
 rw [WI.within_impl d (k : Int) 1 (by omega)]
 show covAll (rl d) (k : Int) 1 = _
 cases h : cov (rl d) (k : Int) with
 | true =>
  refine covAll_iff.2 fun j h1 h2 => ?_
  obtain rfl : j = (k : Int) := by omega
  exact h
 | false =>
  cases h' : covAll (rl d) (k : Int) 1 with
  | false => rfl
  | true =>
   have := covAll_iff.1 h' (k : Int) (by omega) (by omega)
   rw [h] at this
   cases this
theorem rl_yes (h : N0.loanOk d = true) : rl d = [(L1.recAt d.ino, 16)] ++ d.pg.map (fun p => (p * 32, 32)) ++ d.po.map (fun p => (p * 32, 32)) ++ d.fr.map (fun f => (L1.recAt f, 16)) := by
 unfold rl
 rw [if_pos h]
theorem stays (h : N0.loanOk d = true) (mem : ByteArray) (k : Nat) (hc : cov (rl d) (k : Int) = false) : by_ (undone mem d) k = by_ mem k := by
 have hno : ∀ r ∈ rl d, ¬ (r.1 ≤ (k : Int) ∧ (k : Int) < r.1 + r.2) := fun r hr hx => by
  have := cov_iff.2 ⟨r, hr, hx⟩
  rw [hc] at this
  cases this
 rw [rl_yes h] at hno
 rw [undone_ap]
 refine ap_apart k (ops d) mem fun p hp hx => ?_
 unfold ops at hp
 rcases List.mem_cons.1 hp with rfl | hp
 ·have := rc_size h
  exact hno (L1.recAt d.ino, 16) (by simp) ⟨hx.1, by have := hx.2; simp only at this ⊢; omega⟩
 ·rcases List.mem_append.1 hp with hp | hp
  ·obtain ⟨z, hz, e1, e2⟩ := mem_opsPg hp
   exact hno (z * 32, 32) (List.mem_append_left _ (List.mem_append_left _ (List.mem_append_right _ (List.mem_map.2 ⟨z, hz, rfl⟩)))) ⟨by have := hx.1; simp only; omega, by have := hx.2; simp only; omega⟩
  ·obtain ⟨z, hz, e1, e2⟩ := mem_opsFr hp
   exact hno (L1.recAt z, 16) (List.mem_append_right _ (List.mem_map.2 ⟨z, hz, rfl⟩)) ⟨by have := hx.1; simp only; omega, by have := hx.2; simp only; omega⟩
theorem rec_at {z : Int} (h0 : 0 ≤ z) (h7 : z ≤ 7) : L1.recAt z = 32 + z * 16 := by
 unfold L1.recAt
 rw [if_pos (N0.inB_iff.2 ⟨h0, h7⟩)]
theorem fr_ino (h : N0.loanOk d = true) : ∀ z ∈ d.fr, z ≠ d.ino := by
 have h' := h
 rw [← N0.sOk_eq] at h'
 simp only [N0.sOk, N0.sLast, Bool.and_eq_true, Bool.not_eq_true'] at h'
 have hh := h'.2.2.2.2.2.2.2.1
 intro z hz e
 subst e
 rw [N0.has_iff.2 hz] at hh
 cases hh
theorem rec_back (h : N0.loanOk d = true) (mem : ByteArray) (hm : mem.size = 768) : B2.part (undone mem d) (L1.recAt d.ino) 16 = d.rc := by
 obtain ⟨-, -, -, -, hi, -, -, -, -, hpp, hfr, -, -⟩ := N0.loanOk_is h
 have hr := rec_at hi.1 hi.2
 have hrs := rc_size h
 have hpg := (N0.pagesOk_iff.1 hpp).1
 have hus : (undone mem d).size = 768 := by rw [undone_ap, ap_size, hm]
 have hl : B2.lies (undone mem d).size (L1.recAt d.ino) 16 = true := by rw [hus, hr]; simp [B2.lies]; omega
 have hl2 : B2.lies mem.size (L1.recAt d.ino) d.rc.size = true := by rw [hm, hr, hrs]; simp [B2.lies]; omega
 refine by_ext fun j => ?_
 have hd : (B2.part (undone mem d) (L1.recAt d.ino) 16).data.toList = ((undone mem d).data.toList.drop (L1.recAt d.ino).toNat).take 16 := by
  rw [B2.part, if_pos hl, Lib.extract_data]
  congr 1
  omega
 show (B2.part (undone mem d) (L1.recAt d.ino) 16).data.toList[j]? = d.rc.data.toList[j]?
 rw [hd, List.getElem?_take]
 by_cases hj : j < 16
 ·rw [if_pos hj, List.getElem?_drop]
  have hk : by_ (undone mem d) ((L1.recAt d.ino).toNat + j) = by_ (B5.laid mem (L1.recAt d.ino) d.rc) ((L1.recAt d.ino).toNat + j) := by
   rw [undone_ap, ops, ap]
   refine ap_apart _ _ _ fun p hp hx => ?_
   rcases List.mem_append.1 hp with hp | hp
   ·obtain ⟨z, hz, e1, e2⟩ := mem_opsPg hp
    have := hpg z (List.mem_append_left _ hz)
    have := hx.1
    omega
   ·obtain ⟨z, hz, e1, e2⟩ := mem_opsFr hp
    have h1 := hfr z hz
    have h2 := fr_ino h z hz
    rw [rec_at (by omega) (by omega)] at e1
    have := hx.1
    have := hx.2
    omega
  refine hk.trans ?_
  rw [get_laid, if_pos ⟨hl2, by omega, by omega⟩]
  show d.rc.data.toList[_]? = _
  congr 1
  omega
 ·rw [if_neg hj, List.getElem?_eq_none (by rw [← Lib.size_eq]; omega)]
end Go.Proofs.YthbcefopbmkppaaGreat.LP
namespace Go.Proofs.YthbcefopbmkppaaGreat.LT
open Go.ChangeShapes Go.WideShapes Go.ChangeAt Go.RowKit
open HP (at_ cov Rg)
open N0 (Ln)
open WI (rl)
theorem idx (s : ByteArray) (k : Nat) (hk : k < s.size) (W : World) : (Instr.index 9 (.string s) (.int .i64 (k : Int))).run Tryz.prog W = .ok (.int .u8 ((s[k]'hk).toNat : Int)) W := by
 have h1 : (0 : Int) ≤ (k : Int) := by omega
 have h2 : (k : Int) < (s.size : Int) := by omega
 go_simp
theorem idx_yield {s : ByteArray} {k : Nat} (hk : k < s.size) {A : Act} {o : Oper} {W : World} {x y : Operand} (ho : o.op = .index 9 x y := by rfl) (hx : A.eval x = .string s := by rfl) (hy : A.eval y = .int .i64 (k : Int) := by rfl) : (execOp A.eval o).run Tryz.prog W = .ok (.value (.int .u8 ((s[k]'hk).toNat : Int))) W := by
 have hr := idx s k hk W
 obtain ⟨ev, hev⟩ : ∃ ev, A.eval = ev := ⟨_, rfl⟩
 rw [hev] at hx hy ⊢
 simp [execOp, ho, hx, hy, hr, Result.andThen]
theorem byte_eq {s t : ByteArray} {k : Nat} (h1 : k < s.size) (h2 : k < t.size) (h : LP.by_ s k = LP.by_ t k) : s[k] = t[k] := by
 unfold LP.by_ at h
 rw [List.getElem?_eq_getElem (by rw [← Lib.size_eq]; exact h1), List.getElem?_eq_getElem (by rw [← Lib.size_eq]; exact h2)] at h
 exact Option.some.inj h
theorem cov_step (l : List Rg) (j : Nat) (hj : j < l.length) (k : Int) : cov (l.take (j + 1)) k = (cov (l.take j) k || decide ((at_ l j).1 ≤ k ∧ k < (at_ l j).1 + (at_ l j).2)) := by
 unfold cov
 rw [List.take_succ_eq_append_getElem hj, List.any_append, HP.at_get l j hj]
 simp
theorem rg_cells {W : World} {d : Ln} {ar : Option Addr} {j : Nat} (h : P0.Row W ar (R6.rg d)) (hj : j < (rl d).length) : ∃ b off, ar = some ⟨b, off, none⟩ ∧ W.cell? ⟨b, off + j * 2, none⟩ = some (.int .i64 (at_ (rl d) j).1) ∧ W.cell? ⟨b, off + j * 2 + 1, none⟩ = some (.int .i64 (at_ (rl d) j).2) := by
 have hl : (R6.rg d).length = (rl d).length * 2 := by rw [← WI.rl_fl, WI.fl_length]
 obtain ⟨b, off, e, hb, hc⟩ := h.get (show j * 2 + 1 < (R6.rg d).length by omega)
 obtain ⟨g1, g2⟩ := WI.fl_get (rl d) j hj
 rw [WI.rl_fl] at g1 g2
 refine ⟨b, off, e, ?_, ?_⟩
 ·rw [hc (j * 2) (by omega)]
  simp [List.getD, g1]
 ·have := hc (j * 2 + 1) (by omega)
  rw [← Nat.add_assoc] at this
  rw [this]
  simp [List.getD, g2]
end Go.Proofs.YthbcefopbmkppaaGreat.LT
