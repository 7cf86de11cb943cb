/- Joined texts: plain facts and contracts. -/
import Derived.Test.YthbcefopbmkppaaGreatJlA
import Derived.Test.YthbcefopbmkppaaGreatJlS
import Derived.Test.YthbcefopbmkppaaGreatJlG
import Derived.Test.YthbcefopbmkppaaGreatJlH
import Derived.Deep.RegionHeld3
set_option linter.unusedVariables false
set_option linter.unusedSimpArgs false
set_option maxRecDepth 10000
namespace Go.Proofs.YthbcefopbmkppaaGreat.LQ
open Go.ChangeShapes Go.WideShapes Go.ChangeAt Go.RowKit C0
open C1 (pickNew isInt IsInt below_any blk_grown grown_setNew grown_of_below grown_new)
open N0 (Ln)
open N1 (Sl)
open I2 (ints)
open LM (Sm)
open LO (Lw)
variable {w W W' : World} {a : Option Addr} {len cap c : Nat} {d : Ln} {s : Sl}
theorem lw_grown {base : Nat} (h : Lw base W d s) (hg : W.grownBy W' (some c)) (hc : c < base) : Lw base W' d s := ⟨LN.own_grown h.o1 hg hc, LN.own_grown h.o2 hg hc, LN.own_grown h.o3 hg hc⟩
theorem lw_set8 {base R : Nat} (h : Lw base W d s) (hR : R < base) (y0 y1 y2 y3 y4 y5 y6 y7 : Value) : Lw base ((((((((W.setCell ⟨R, 0, none⟩ y0).setCell ⟨R, 1, none⟩ y1).setCell ⟨R, 2, none⟩ y2).setCell ⟨R, 3, none⟩ y3).setCell ⟨R, 4, none⟩ y4).setCell ⟨R, 5, none⟩ y5).setCell ⟨R, 6, none⟩ y6).setCell ⟨R, 7, none⟩ y7) d s := (((((((h.set hR 0 y0).set hR 1 y1).set hR 2 y2).set hR 3 y3).set hR 4 y4).set hR 5 y5).set hR 6 y6).set hR 7 y7
def Dr (w : World) (e : Ending) (w' : World) : Prop := ∃ u d s, e = .returned (.tuple #[.string u, N1.val d s]) ∧ u.size ≤ 768 ∧ Sm d ∧ Lw w.heap.size w' d s ∧ Below w.heap.size w w'
set_option maxHeartbeats 8000000 in
theorem l05Both (hcode : Given w a len) (hlen : len ≤ 1048576) : Calls Tryz.prog 18 #[.slice a len cap] w (Dr w) := by
 have n0 := K0.below_new w (.cells #[.int .i64 0, .int .i64 0, .int .i64 0, .string ⟨#[]⟩, .slice none 0 0, .string ⟨#[]⟩, .slice none 0 0, .slice none 0 0] 26)
 have v0 := K0.blk_new [.int .i64 0, .int .i64 0, .int .i64 0, .string ⟨#[]⟩, .slice none 0 0, .string ⟨#[]⟩, .slice none 0 0, .slice none 0 0] w 26
 have hc0 := hcode.below n0
 obtain ⟨R, hR⟩ : ∃ R, Dr w = R := ⟨_, rfl⟩
 have HR : Hid (Dr w = R) := hR
 rw [hR]
 clear hR
 go_enter Tryz.func18, Tryz.ntmps18
 go_upto_region 1 with (fail)
 generalize (w.alloc (.cells #[.int .i64 0, .int .i64 0, .int .i64 0, .string ⟨#[]⟩, .slice none 0 0, .string ⟨#[]⟩, .slice none 0 0, .slice none 0 0] 26)) = V0 at v0 n0 hc0 ⊢
 have hv0 := v0.lt
 go_upto_region 4 with (first
  | (go_at_call 22; refine (C1.new_any hc0 hlen).mono ?_; rintro e w1 ⟨c, rfl, s1⟩)
  | (go_at_call 40; refine (C1.l03Mem hc0 s1 hlen).mono ?_; rintro e w2 ⟨⟨u, hu, rfl⟩, s2, g2⟩)
  | (go_at_call 41; refine (LM.l05Loan u (by omega) hc0 s2 hlen).mono ?_; rintro e w3 ⟨d, s, rfl, sm, lw, s3, g3⟩))
 have hcV := s1.new
 have hc2 := s2.cur.lt
 have b2 := s2.bel
 have n3 := K0.below_new w3 (.cells #[.int .i64 d.ino, .int .i64 d.cl, .int .i64 d.un, .string d.rc, .slice s.a1 d.pg.length s.c1, .string d.sav, .slice s.a2 d.po.length s.c2, .slice s.a3 d.fr.length s.c3] 26)
 have k3 := K0.blk_new (N1.vals d s) w3 26
 have s4 := s3.below n3
 have lw4 := (lw.below n3)
 have r4 : K0.Blk w.heap.size [.int .i64 0, .int .i64 0, .int .i64 0, .string ⟨#[]⟩, .slice none 0 0, .string ⟨#[]⟩, .slice none 0 0, .slice none 0 0] (w3.alloc (.cells #[.int .i64 d.ino, .int .i64 d.cl, .int .i64 d.un, .string d.rc, .slice s.a1 d.pg.length s.c1, .string d.sav, .slice s.a2 d.po.length s.c2, .slice s.a3 d.fr.length s.c3] 26)) := ((v0.below s3.bel).below n3)
 have hB2 : w2.heap.size ≤ w3.heap.size := g3.size
 have hVw : V0.heap.size ≤ w2.heap.size := b2.size
 generalize (w3.alloc (.cells #[.int .i64 d.ino, .int .i64 d.cl, .int .i64 d.un, .string d.rc, .slice s.a1 d.pg.length s.c1, .string d.sav, .slice s.a2 d.po.length s.c2, .slice s.a3 d.fr.length s.c3] 26)) = W4 at n3 k3 s4 lw4 r4 ⊢
 generalize w3.heap.size = B at k3 hB2 ⊢
 have HS : Hid (∀ W, K0.Blk B (N1.vals d s) W → W.cell? ⟨B, 0, none⟩ = some (.int .i64 d.ino) ∧ W.cell? ⟨B, 1, none⟩ = some (.int .i64 d.cl) ∧ W.cell? ⟨B, 2, none⟩ = some (.int .i64 d.un) ∧ W.cell? ⟨B, 3, none⟩ = some (.string d.rc) ∧ W.cell? ⟨B, 4, none⟩ = some (.slice s.a1 d.pg.length s.c1) ∧ W.cell? ⟨B, 5, none⟩ = some (.string d.sav) ∧ W.cell? ⟨B, 6, none⟩ = some (.slice s.a2 d.po.length s.c2) ∧ W.cell? ⟨B, 7, none⟩ = some (.slice s.a3 d.fr.length s.c3)) := fun W h => LO.LB8.cells h
 have kd := k3.drew
 have hS0 := HS.out _ kd
 have sd : St V0 W4.drew c a len cap := s4.below (Below.refl _ _).drew
 have rd := r4.drew
 have ld : Lw w2.heap.size W4.drew d s := lw4.below (Below.refl _ _).drew
 clear k3 s4 r4 lw4 s1 s2 s3 g2 g3 lw n3 b2
 go_wp2
 refine wp_region_held (S := fun W => W.cell? ⟨B, 0, none⟩ = some (.int .i64 d.ino) ∧ W.cell? ⟨B, 1, none⟩ = some (.int .i64 d.cl) ∧ W.cell? ⟨B, 2, none⟩ = some (.int .i64 d.un) ∧ W.cell? ⟨B, 3, none⟩ = some (.string d.rc) ∧ W.cell? ⟨B, 4, none⟩ = some (.slice s.a1 d.pg.length s.c1) ∧ W.cell? ⟨B, 5, none⟩ = some (.string d.sav) ∧ W.cell? ⟨B, 6, none⟩ = some (.slice s.a2 d.po.length s.c2) ∧ W.cell? ⟨B, 7, none⟩ = some (.slice s.a3 d.fr.length s.c3)) (by kernel_rfl) ?_
 refine wpAnyH_take (i := 0) (v := .pointer (some ⟨c, 0, none⟩)) rfl (by kernel_rfl) (by kernel_rfl) (by kernel_rfl) (fun _ _ _ h => h) (Or.inl ⟨by rfl, fun w' hS' => by rfl⟩) hS0 ?_
 simp only [BZ.z, Act.put, Nat.reduceAdd]
 refine wpAnyH_take (i := 1) (v := .string u) rfl (by kernel_rfl) (by kernel_rfl) (by kernel_rfl) (fun _ _ _ h => h) (Or.inl ⟨by rfl, fun w' hS' => by rfl⟩) hS0 ?_
 simp only [BZ.z, Act.put, Nat.reduceAdd]
 refine wpAnyH_take (i := 2) (v := .agg #[.int .i64 d.ino, .int .i64 d.cl, .int .i64 d.un, .string d.rc, .slice s.a1 d.pg.length s.c1, .string d.sav, .slice s.a2 d.po.length s.c2, .slice s.a3 d.fr.length s.c3]) rfl (by kernel_rfl) (by kernel_rfl) (by kernel_rfl) (fun _ _ _ h => h) (Or.inl ⟨by rfl, fun w' hS' => ?_⟩) hS0 ?_
 ·obtain ⟨p0, p1, p2, p3, p4, p5, p6, p7⟩ := hS'
  go_simp
 simp only [BZ.z, Act.put, Nat.reduceAdd]
 refine wpAnyH_take (i := 4) (v := .agg #[.int .i64 d.ino, .int .i64 d.cl, .int .i64 d.un, .string d.rc, .slice s.a1 d.pg.length s.c1, .string d.sav, .slice s.a2 d.po.length s.c2, .slice s.a3 d.fr.length s.c3]) rfl (by kernel_rfl) (by kernel_rfl) (by kernel_rfl) (fun _ _ _ h => h) (Or.inl ⟨by rfl, fun w' hS' => ?_⟩) hS0 ?_
 ·obtain ⟨p0, p1, p2, p3, p4, p5, p6, p7⟩ := hS'
  go_simp
 simp only [BZ.z, Act.put, Nat.reduceAdd]
 refine Y0.one_call3w (i := 3) (by kernel_rfl) rfl (by rfl) (.tmp 14) (.tmp 15) (.tmp 16) _ rfl (.pointer (some ⟨c, 0, none⟩)) (.string u) (.agg #[.int .i64 d.ino, .int .i64 d.cl, .int .i64 d.un, .string d.rc, .slice s.a1 d.pg.length s.c1, .string d.sav, .slice s.a2 d.po.length s.c2, .slice s.a3 d.fr.length s.c3]) (by rfl) (by rfl) (by rfl) (enters_of Tryz.func42 (by kernel_rfl) rfl) ((LN.l05Changed u hu sm hc0 sd hlen).mono ?_)
 rintro e w5 ⟨⟨u5, hu5, rfl⟩, s5, g5⟩
 have k5 := blk_grown kd g5 (by omega)
 have r5 := blk_grown rd g5 (by omega)
 have l5 := lw_grown ld g5 hc2
 refine ⟨_, rfl, HS.out _ k5, ?_⟩
 simp only [BZ.z, Act.put, Nat.reduceAdd]
 refine wpAnyH_take (i := 5) (v := .string u5) rfl (by kernel_rfl) (by kernel_rfl) (by kernel_rfl) (fun _ _ _ h => h) (Or.inl ⟨by rfl, fun w' hS' => by rfl⟩) (HS.out _ k5) ?_
 simp only [BZ.z, Act.put, Nat.reduceAdd]
 obtain ⟨x0, x1, x2, x3, x4, x5, x6, x7⟩ := LO.LB8.free r5
 obtain ⟨e0, e1, e2, e3, e4, e5, e6, e7⟩ := LO.LB8.cells r5
 refine Y0.one_skip (i := 6) (w' := ((((((((w5).setCell ⟨w.heap.size, 0, none⟩ (.int .i64 d.ino)).setCell ⟨w.heap.size, 1, none⟩ (.int .i64 d.cl)).setCell ⟨w.heap.size, 2, none⟩ (.int .i64 d.un)).setCell ⟨w.heap.size, 3, none⟩ (.string d.rc)).setCell ⟨w.heap.size, 4, none⟩ (.slice s.a1 d.pg.length s.c1)).setCell ⟨w.heap.size, 5, none⟩ (.string d.sav)).setCell ⟨w.heap.size, 6, none⟩ (.slice s.a2 d.po.length s.c2)).setCell ⟨w.heap.size, 7, none⟩ (.slice s.a3 d.fr.length s.c3)) (by kernel_rfl) rfl (by rfl) ?_ (HS.out _ (N4.other8 k5 (B := w.heap.size) (by omega) (.int .i64 d.ino) (.int .i64 d.cl) (.int .i64 d.un) (.string d.rc) (.slice s.a1 d.pg.length s.c1) (.string d.sav) (.slice s.a2 d.po.length s.c2) (.slice s.a3 d.fr.length s.c3))) ?_
 ·go_simp
 simp only [BZ.z, Act.put, Nat.reduceAdd]
 have qq := N4.put8 (y0 := .int .i64 d.ino) (y1 := .int .i64 d.cl) (y2 := .int .i64 d.un) (y3 := .string d.rc) (y4 := .slice s.a1 d.pg.length s.c1) (y5 := .string d.sav) (y6 := .slice s.a2 d.po.length s.c2) (y7 := .slice s.a3 d.fr.length s.c3) r5
 obtain ⟨r0, r1, r2, r3, r4, r5', r6, r7⟩ := LO.LB8.cells qq
 have lE := lw_set8 (R := w.heap.size) l5 (by omega) (.int .i64 d.ino) (.int .i64 d.cl) (.int .i64 d.un) (.string d.rc) (.slice s.a1 d.pg.length s.c1) (.string d.sav) (.slice s.a2 d.po.length s.c2) (.slice s.a3 d.fr.length s.c3)
 have bE := N4.bel8 (n0.trans (s5.bel.mono n0.size)) (B := w.heap.size) (Nat.le_refl _) (.int .i64 d.ino) (.int .i64 d.cl) (.int .i64 d.un) (.string d.rc) (.slice s.a1 d.pg.length s.c1) (.string d.sav) (.slice s.a2 d.po.length s.c2) (.slice s.a3 d.fr.length s.c3)
 clear HS
 refine wpAnyH_done (by kernel_rfl) ?_ _
 try go_wp2
 refine bodyPost_ret (v := .tuple #[.string u5, N1.val d s]) (by simp [results, Tryz.results18, go_sem, r0, r1, r2, r3, r4, r5', r6, r7]) rfl ?_
 rw [← HR.out]
 exact ⟨u5, d, s, rfl, hu5, sm, lE.mono (Nat.le_trans (Nat.le_of_lt hv0) hVw), bE⟩
set_option maxHeartbeats 8000000 in
theorem drawUndo (hcode : Given w a len) (hlen : len ≤ 1048576) : Calls Tryz.prog 5 #[.slice a len cap] w (Dr w) := by
 have n0 := K0.below_new w (.cells #[.int .i64 0, .int .i64 0, .int .i64 0, .string ⟨#[]⟩, .slice none 0 0, .string ⟨#[]⟩, .slice none 0 0, .slice none 0 0] 26)
 have v0 := K0.blk_new [.int .i64 0, .int .i64 0, .int .i64 0, .string ⟨#[]⟩, .slice none 0 0, .string ⟨#[]⟩, .slice none 0 0, .slice none 0 0] w 26
 have hc0 := hcode.below n0
 obtain ⟨R, hR⟩ : ∃ R, Dr w = R := ⟨_, rfl⟩
 have HR : Hid (Dr w = R) := hR
 rw [hR]
 clear hR
 go_enter Tryz.func5, Tryz.ntmps5
 go_upto_region 1 with (fail)
 generalize (w.alloc (.cells #[.int .i64 0, .int .i64 0, .int .i64 0, .string ⟨#[]⟩, .slice none 0 0, .string ⟨#[]⟩, .slice none 0 0, .slice none 0 0] 26)) = V0 at v0 n0 hc0 ⊢
 have hv0 := v0.lt
 go_wp2_with (go_at_call 18; refine (l05Both hc0 hlen).mono ?_; rintro e w5 ⟨u5, d, s, rfl, hu5, sm, l5, b5⟩; have r5 := v0.below b5; obtain ⟨x0, x1, x2, x3, x4, x5, x6, x7⟩ := LO.LB8.free r5; obtain ⟨u0, u1, u2, u3, u4, u5', u6, u7⟩ := LO.LB8.cells r5)
 have qq := N4.put8 (y0 := .int .i64 d.ino) (y1 := .int .i64 d.cl) (y2 := .int .i64 d.un) (y3 := .string d.rc) (y4 := .slice s.a1 d.pg.length s.c1) (y5 := .string d.sav) (y6 := .slice s.a2 d.po.length s.c2) (y7 := .slice s.a3 d.fr.length s.c3) r5
 obtain ⟨r0, r1, r2, r3, r4, r5', r6, r7⟩ := LO.LB8.cells qq
 have lE := lw_set8 (R := w.heap.size) l5 (by omega) (.int .i64 d.ino) (.int .i64 d.cl) (.int .i64 d.un) (.string d.rc) (.slice s.a1 d.pg.length s.c1) (.string d.sav) (.slice s.a2 d.po.length s.c2) (.slice s.a3 d.fr.length s.c3)
 have bE := N4.bel8 (n0.trans (b5.mono n0.size)) (B := w.heap.size) (Nat.le_refl _) (.int .i64 d.ino) (.int .i64 d.cl) (.int .i64 d.un) (.string d.rc) (.slice s.a1 d.pg.length s.c1) (.string d.sav) (.slice s.a2 d.po.length s.c2) (.slice s.a3 d.fr.length s.c3)
 refine bodyPost_ret (v := .tuple #[.string u5, N1.val d s]) (by simp [results, Tryz.results5, go_sem, r0, r1, r2, r3, r4, r5', r6, r7]) rfl ?_
 rw [← HR.out]
 exact ⟨u5, d, s, rfl, hu5, sm, lE.mono (Nat.le_of_lt hv0), bE⟩
end Go.Proofs.YthbcefopbmkppaaGreat.LQ
namespace Go.Proofs.YthbcefopbmkppaaGreat.HP
abbrev Rg := Int × Int
def at_ (l : List Rg) (i : Nat) : Rg := l.getD i (0, 0)
def key (l : List Rg) (i : Nat) : Int := (at_ l i).1
theorem at_get (l : List Rg) (i : Nat) (h : i < l.length) : at_ l i = l[i] := by simp [at_, List.getD, h]
def swp (l : List Rg) (i j : Nat) : List Rg := (l.set i (at_ l j)).set j (at_ l i)
theorem swp_length (l : List Rg) (i j : Nat) : (swp l i j).length = l.length := by simp [swp]
theorem swp_at (l : List Rg) (i j k : Nat) (hi : i < l.length) (hj : j < l.length) : at_ (swp l i j) k = if k = j then at_ l i else if k = i then at_ l j else at_ l k := by
 by_cases hk : k < l.length
 ·rw [at_get _ _ (by rw [swp_length]; exact hk)]
  unfold swp
  rw [List.getElem_set, List.getElem_set]
  by_cases e1 : k = j
  ·rw [if_pos e1.symm, if_pos e1]
  ·rw [if_neg (fun e => e1 e.symm), if_neg e1]
   by_cases e2 : k = i
   ·rw [if_pos e2.symm, if_pos e2]
   ·rw [if_neg (fun e => e2 e.symm), if_neg e2, at_get _ _ hk]
 ·rw [if_neg (by omega), if_neg (by omega)]
  have h1 : at_ (swp l i j) k = (0, 0) := by
   have : (swp l i j).length ≤ k := by rw [swp_length]; omega
   simp [at_, List.getD, List.getElem?_eq_none this]
  have h2 : at_ l k = (0, 0) := by simp [at_, List.getD, List.getElem?_eq_none (show l.length ≤ k by omega)]
  rw [h1, h2]
theorem swp_key (l : List Rg) (i j k : Nat) (hi : i < l.length) (hj : j < l.length) : key (swp l i j) k = if k = j then key l i else if k = i then key l j else key l k := by
 unfold key
 rw [swp_at l i j k hi hj]
 split
 ·rfl
 ·split <;> rfl
theorem swp_perm (l : List Rg) (i j : Nat) (hi : i < l.length) (hj : j < l.length) : (swp l i j).Perm l := by
 unfold swp
 rw [at_get l i hi, at_get l j hj]
 exact List.set_set_perm hi hj
def HeapN (l : List Rg) (n : Nat) : Prop := ∀ i, 0 < i → i < n → key l ((i - 1) / 2) ≤ key l i
def UpInv (l : List Rg) (j : Nat) : Prop := (∀ i, 0 < i → i < l.length → i ≠ j → key l ((i - 1) / 2) ≤ key l i) ∧ (0 < j → ∀ c, 0 < c → c < l.length → (c - 1) / 2 = j → key l ((j - 1) / 2) ≤ key l c) ∧ j < l.length
def DownInv (l : List Rg) (n i : Nat) : Prop := (∀ k, 0 < k → k < n → (k - 1) / 2 ≠ i → key l ((k - 1) / 2) ≤ key l k) ∧ (0 < i → ∀ c, 0 < c → c < n → (c - 1) / 2 = i → key l ((i - 1) / 2) ≤ key l c) ∧ n ≤ l.length
theorem up_end {l : List Rg} {j : Nat} (h : UpInv l j) (he : j = 0 ∨ ¬ key l j < key l ((j - 1) / 2)) : HeapN l l.length := by
 intro i h0 hi
 by_cases e : i = j
 ·subst e
  rcases he with he | he
  ·omega
  ·omega
 ·exact h.1 i h0 hi e
theorem up_step {l : List Rg} {j : Nat} (h : UpInv l j) (hj : 0 < j) (hl : key l j < key l ((j - 1) / 2)) : UpInv (swp l ((j - 1) / 2) j) ((j - 1) / 2) := by
 obtain ⟨h1, h2, h3⟩ := h
 have hp : (j - 1) / 2 < l.length := by omega
 have hpj : (j - 1) / 2 < j := by omega
 have K := fun k => swp_key l ((j - 1) / 2) j k hp h3
 refine ⟨fun i h0 hi hne => ?_, fun hp0 c hc0 hc he => ?_, by rw [swp_length]; exact hp⟩
 ·rw [swp_length] at hi
  rw [K, K]
  by_cases e : i = j
  ·subst e
   rw [if_neg (by omega), if_pos rfl, if_pos rfl]
   omega
  ·rw [if_neg e, if_neg hne]
   by_cases e1 : (i - 1) / 2 = j
   ·rw [if_pos e1]
    exact h2 hj i h0 hi e1
   ·rw [if_neg e1]
    by_cases e2 : (i - 1) / 2 = (j - 1) / 2
    ·rw [if_pos e2]
     have := h1 i h0 hi e
     rw [e2] at this
     omega
    ·rw [if_neg e2]
     exact h1 i h0 hi e
 ·rw [swp_length] at hc
  rw [K, K]
  have hg : key l (((j - 1) / 2 - 1) / 2) ≤ key l ((j - 1) / 2) := h1 ((j - 1) / 2) hp0 hp (by omega)
  rw [if_neg (by omega), if_neg (by omega)]
  by_cases e : c = j
  ·rw [if_pos e]
   exact hg
  ·rw [if_neg e, if_neg (by omega)]
   have := h1 c hc0 hc e
   rw [he] at this
   omega
def kid (l : List Rg) (n i : Nat) : Nat := if 2 * i + 2 < n ∧ key l (2 * i + 2) < key l (2 * i + 1) then 2 * i + 2 else 2 * i + 1
theorem kid_lt {l : List Rg} {n i : Nat} (h : 2 * i + 1 < n) : kid l n i < n ∧ i < kid l n i ∧ (kid l n i - 1) / 2 = i := by
 unfold kid
 split <;> omega
theorem kid_le {l : List Rg} {n i c : Nat} (hc0 : 0 < c) (hc : c < n) (he : (c - 1) / 2 = i) : key l (kid l n i) ≤ key l c := by
 have : c = 2 * i + 1 ∨ c = 2 * i + 2 := by omega
 unfold kid
 rcases this with e | e
 ·subst e
  split
  ·rename_i h
   omega
  ·exact Int.le_refl _
 ·subst e
  split
  ·exact Int.le_refl _
  ·rename_i h
   omega
theorem down_end {l : List Rg} {n i : Nat} (h : DownInv l n i) (he : ¬ 2 * i + 1 < n ∨ ¬ key l (kid l n i) < key l i) : HeapN l n := by
 intro k h0 hk
 by_cases e : (k - 1) / 2 = i
 ·rcases he with he | he
  ·omega
  ·have := kid_le (l := l) h0 hk e
   rw [e]
   omega
 ·exact h.1 k h0 hk e
theorem down_step {l : List Rg} {n i : Nat} (h : DownInv l n i) (hc : 2 * i + 1 < n) (hl : key l (kid l n i) < key l i) : DownInv (swp l i (kid l n i)) n (kid l n i) := by
 obtain ⟨h1, h2, h3⟩ := h
 obtain ⟨k1, k2, k3⟩ := kid_lt (l := l) hc
 obtain ⟨j, hj⟩ : ∃ j, kid l n i = j := ⟨_, rfl⟩
 have hle := fun c h0 hc he => kid_le (l := l) (n := n) (i := i) (c := c) h0 hc he
 rw [hj] at k1 k2 k3 hl hle ⊢
 have K := fun k => swp_key l i j k (by omega) (by omega)
 refine ⟨fun k h0 hk hne => ?_, fun _ c hc0 hc' he => ?_, by rw [swp_length]; exact h3⟩
 ·rw [K, K, if_neg hne]
  by_cases e : k = j
  ·subst e
   rw [if_pos k3, if_pos rfl]
   omega
  ·rw [if_neg e]
   by_cases e1 : (k - 1) / 2 = i
   ·rw [if_pos e1, if_neg (by omega)]
    exact hle k h0 hk e1
   ·rw [if_neg e1]
    by_cases e2 : k = i
    ·rw [if_pos e2]
     subst e2
     exact h2 h0 j (by omega) k1 k3
    ·rw [if_neg e2]
     exact h1 k h0 hk e1
 ·rw [K, K, if_neg (by omega), if_pos k3, if_neg (by omega), if_neg (by omega)]
  have := h1 c hc0 hc' (by omega)
  rw [he] at this
  exact this
theorem heap_min {l : List Rg} {n : Nat} (h : HeapN l n) : ∀ i, i < n → key l 0 ≤ key l i := by
 intro i
 induction i using Nat.strongRecOn with
 | _ i ih =>
  intro hi
  by_cases h0 : i = 0
  ·rw [h0]
   exact Int.le_refl _
  ·have h1 := h i (by omega) hi
   have h2 := ih ((i - 1) / 2) (by omega) (by omega)
   omega
theorem pop_start {l : List Rg} {m : Nat} (h : HeapN l l.length) (hm : l.length = m + 1) : DownInv (swp l 0 m) m 0 := by
 refine ⟨fun k h0 hk hne => ?_, fun h => absurd h (by decide), by rw [swp_length]; omega⟩
 rw [swp_key _ _ _ _ (by omega) (by omega), swp_key _ _ _ _ (by omega) (by omega), if_neg (by omega), if_neg (by omega), if_neg (by omega), if_neg (by omega)]
 exact h k h0 (by omega)
theorem push_start {l : List Rg} (h : HeapN l l.length) (r : Rg) : UpInv (l ++ [r]) l.length := by
 have hk : ∀ i, i < l.length → key (l ++ [r]) i = key l i := by
  intro i hi
  unfold key at_
  rw [List.getD_eq_getElem?_getD, List.getD_eq_getElem?_getD, List.getElem?_append_left hi]
 refine ⟨fun i h0 hi hne => ?_, fun _ c h0 hc he => ?_, by simp⟩
 ·have hi' : i < l.length := by simp at hi; omega
  rw [hk _ (by omega), hk _ hi']
  exact h i h0 hi'
 ·simp at hc
  omega
def cov (l : List Rg) (k : Int) : Bool := l.any fun r => decide (r.1 ≤ k ∧ k < r.1 + r.2)
theorem cov_iff {l : List Rg} {k : Int} : cov l k = true ↔ ∃ r ∈ l, r.1 ≤ k ∧ k < r.1 + r.2 := by
 unfold cov
 rw [List.any_eq_true]
 constructor
 ·rintro ⟨r, hr, h⟩
  exact ⟨r, hr, by simpa using h⟩
 ·rintro ⟨r, hr, h⟩
  exact ⟨r, hr, by simpa using h⟩
def covAll (l : List Rg) (i : Int) (n : Nat) : Bool := (List.range n).all fun j => cov l (i + (j : Int))
theorem covAll_iff {l : List Rg} {i : Int} {n : Nat} : covAll l i n = true ↔ ∀ k, i ≤ k → k < i + (n : Int) → cov l k = true := by
 unfold covAll
 rw [List.all_eq_true]
 constructor
 ·intro h k h0 h1
  have := h (k - i).toNat (List.mem_range.2 (by omega))
  rwa [show i + ((k - i).toNat : Int) = k by omega] at this
 ·intro h j hj
  have := List.mem_range.1 hj
  exact h _ (by omega) (by omega)
structure Go (all done rest : List Rg) (i0 i : Int) : Prop where
 perm : (done ++ rest).Perm all
 heap : HeapN rest rest.length
 low : ∀ d ∈ done, ∀ r ∈ rest, d.1 ≤ r.1
 not : ∀ d ∈ done, ¬ (d.1 ≤ i ∧ i < d.1 + d.2)
 yes : ∀ k, i0 ≤ k → k < i → cov all k = true
 le : i0 ≤ i
theorem key_mem {l : List Rg} {r : Rg} (h : r ∈ l) : ∃ i, i < l.length ∧ key l i = r.1 := by
 obtain ⟨i, hi, e⟩ := List.mem_iff_getElem.1 h
 exact ⟨i, hi, by rw [key, at_get l i hi, e]⟩
theorem Go.pop {all done rest : List Rg} {i0 i : Int} {r : Rg} {rest' : List Rg} (h : Go all done rest i0 i) (h0 : 0 < rest.length) (hr : r = at_ rest 0) (hp : (r :: rest').Perm rest) (hh : HeapN rest' rest'.length) :
  (r.1 ≤ i ∧ i < r.1 + r.2 → Go all (r :: done) rest' i0 (r.1 + r.2)) ∧ (¬ (r.1 ≤ i ∧ i < r.1 + r.2) → Go all (r :: done) rest' i0 i) := by
 have hmem : ∀ x ∈ rest', x ∈ rest := fun x hx => hp.mem_iff.1 (List.mem_cons_of_mem _ hx)
 have hrm : r ∈ rest := hp.mem_iff.1 (by simp)
 have hmin : ∀ x ∈ rest, r.1 ≤ x.1 := by
  intro x hx
  obtain ⟨j, hj, e⟩ := key_mem hx
  have := heap_min h.heap j hj
  rw [e] at this
  rw [hr]
  exact this
 have hperm : (r :: done ++ rest').Perm all := by
  refine (List.Perm.trans ?_ h.perm)
  have : (r :: done ++ rest').Perm (done ++ (r :: rest')) := by
   rw [List.cons_append]
   exact (List.perm_middle (l₁ := done) (l₂ := rest') (a := r)).symm
  exact this.trans (hp.append_left done)
 have hlow : ∀ d ∈ r :: done, ∀ x ∈ rest', d.1 ≤ x.1 := by
  intro d hd x hx
  rcases List.mem_cons.1 hd with rfl | hd
  ·exact hmin x (hmem x hx)
  ·exact h.low d hd x (hmem x hx)
 constructor
 ·intro hc
  refine ⟨hperm, hh, hlow, fun d hd => ?_, fun k hk0 hk => ?_, by have := h.le; omega⟩
  ·rcases List.mem_cons.1 hd with rfl | hd
   ·omega
   ·have h1 := h.not d hd
    have h2 := h.low d hd r hrm
    omega
  ·by_cases hki : k < i
   ·exact h.yes k hk0 hki
   ·exact cov_iff.2 ⟨r, h.perm.mem_iff.1 (List.mem_append_right _ hrm), by omega, by omega⟩
 ·intro hc
  refine ⟨hperm, hh, hlow, fun d hd => ?_, h.yes, h.le⟩
  rcases List.mem_cons.1 hd with rfl | hd
  ·exact hc
  ·exact h.not d hd
theorem Go.done_yes {all done rest : List Rg} {i0 i : Int} {n : Nat} (h : Go all done rest i0 i) (hi : i0 + (n : Int) ≤ i) : covAll all i0 n = true := covAll_iff.2 fun k h0 h1 => h.yes k h0 (by omega)
theorem Go.done_no {all done : List Rg} {i0 i : Int} {n : Nat} (h : Go all done [] i0 i) (hi : i < i0 + (n : Int)) : covAll all i0 n = false := by
 cases hc : covAll all i0 n with
 | false => rfl
 | true =>
  exfalso
  obtain ⟨r, hr, h1, h2⟩ := cov_iff.1 (covAll_iff.1 hc i h.le hi)
  have := h.perm.mem_iff.2 hr
  rw [List.append_nil] at this
  exact h.not r this ⟨h1, h2⟩
end Go.Proofs.YthbcefopbmkppaaGreat.HP
namespace Go.Proofs.YthbcefopbmkppaaGreat.R5
open Go.ChangeShapes Go.WideShapes Go.ChangeAt Go.RowKit
open I2 (ints)
open J0 (Own)
open M0 (grown_refl grown_set)
def RBuf (base : Nat) (w : World) (a : Option Addr) (n cap : Nat) (zs : List Int) : Prop := zs.length = n * 2 ∧ w.ownsRow base 38 2 (.slice a n cap) n (ints zs)
theorem infoR : (Tryz.prog.info? 38).map (fun i => (i.zero, i.size, i.bytes)) = some (some (.agg #[.int .i64 0, .int .i64 0]), 2, 16) := by kernel_rfl
variable {base n cap : Nat} {a : Option Addr} {w W : World} {zs : List Int}
theorem RBuf.below (h : RBuf base w a n cap zs) (hb : Below w.heap.size w W) : RBuf base W a n cap zs := ⟨h.1, F0.owns_below h.2 hb⟩
theorem RBuf.alloc (h : RBuf base w a n cap zs) (o : Obj) : RBuf base (w.alloc o) a n cap zs := h.below ((Below.refl _ _).alloc (Nat.le_refl _) o)
theorem rbuf_one (w : World) (x y : Int) (hb : base ≤ w.heap.size) : RBuf base (w.alloc (.cells #[.int .i64 x, .int .i64 y] 38)) (some ⟨w.heap.size, 0, none⟩) 1 1 [x, y] :=
 ⟨rfl, rfl, Or.inr ⟨w.heap.size, 1, #[.int .i64 x, .int .i64 y], rfl, hb, heap_alloc_new w _, Nat.le_refl _, by unfold maxLen; omega, rfl, rfl⟩⟩
theorem RBuf.fits (h : RBuf base w a n cap zs) : n ≤ cap := by
 rcases h.2.2 with ⟨h0, h1⟩ | ⟨g, c, cur, hv, _, _, hle, _⟩
 ·omega
 ·simp at hv
  omega
theorem RBuf.own (h : RBuf base w a n cap zs) : J0.Own base w a zs := by
 rcases h.2.2 with ⟨h0, h1⟩ | ⟨g, c, cur, hv, hg, hc, hle, _, hs, ht⟩
 ·left
  exact List.eq_nil_of_length_eq_zero (by rw [h.1, h1])
 ·right
  simp at hv
  have hn := h.1
  refine ⟨g, hv.1, hg, ⟨fun j hj => ?_, fun j hj => ?_, (Array.getElem?_eq_some_iff.1 hc).1⟩⟩
  ·have hcell : w.cell? ⟨g, j, none⟩ = cur[j]? := by
    unfold World.cell?
    rw [hc]
    simp
   have hj' : j < zs.length := by simpa using hj
   have e1 : (cur.toList.take (n * 2))[j]? = (ints zs)[j]? := by rw [ht]
   rw [List.getElem?_take_of_lt (by omega)] at e1
   rw [hcell, ← Array.getElem?_toList, e1]
   simp [hj']
  ·unfold World.frozen?
   rw [hc]
   simp
theorem one_rng (x y : Int) : ∀ u ∈ [Value.int .i64 x, .int .i64 y], u.oneCell' = true := by
 intro u h
 simp at h
 rcases h with rfl | rfl <;> rfl
theorem append_rng {ops : Array Oper} {rest : List Oper} {o : Oper} {A : Act} {Q : Exit → Act → World → Prop} (hgd : o.guard = none) (sl x : Operand)
  (ho : o.op = .call { callee := .builtin .append, args := #[sl, x], argTypes := #[30, 30] })
  (hbuf : RBuf base w a n cap zs) (u v : Int) (hs : A.eval sl = .slice a n cap) (hx : A.eval x = .slice (some ⟨w.heap.size, 0, none⟩) 1 1) (hlen : n + 1 ≤ 1048576) (hb : base ≤ w.heap.size)
  (h : ∀ g' cap' w', RBuf base w' (some ⟨g', 0, none⟩) (n + 1) cap' (zs ++ [u, v]) → Below base w w' → wpList Tryz.prog ops Q rest (A.put o.dst (.slice (some ⟨g', 0, none⟩) (n + 1) cap')) w') : wpList Tryz.prog ops Q (o :: rest) A (w.alloc (.cells #[.int .i64 u, .int .i64 v] 38)) := by
 obtain ⟨i0, hi, hz0, hz1, hz2⟩ := info_parts infoR
 have hb2 := hbuf.alloc (.cells #[.int .i64 u, .int .i64 v] 38)
 refine wpList_append_lies _ hgd sl x 30 ho base 38 i0 (.agg #[.int .i64 0, .int .i64 0]) 2 16 Tryz.underlying30 hi hz0 hz1 hz2 rfl (by omega) _ n _ hs hb2.2 ⟨w.heap.size, 0, none⟩ 1 1 [.int .i64 u, .int .i64 v] hx rfl (World.news_of_block (heap_alloc_new w _)) (one_rng u v) (by omega) (by unfold maxLen; omega) (by omega) (by simp; omega) _ rfl ?_
 intro g' cap' w' ho' hg' _ _
 refine h g' cap' w' ⟨by rw [List.length_append, hbuf.1]; simp; omega, ?_⟩ ?_
 ·rw [show ints (zs ++ [u, v]) = ints zs ++ [.int .i64 u, .int .i64 v] by simp]
  exact ho'
 ·exact F0.below_grown ((Below.refl _ _).alloc hb _) hg' (fun g hg => (hbuf.2.lt g hg).1) (by simp; omega)
end Go.Proofs.YthbcefopbmkppaaGreat.R5
