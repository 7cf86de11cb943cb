/- Joined texts: plain facts and contracts. -/
import Derived.Test.YtljnkicgahepfaaGreatDoorJlZF
import Derived.Deep.RegionHeld3
import Derived.Deep.RegionWith
set_option linter.unusedVariables false
set_option linter.unusedSimpArgs false
set_option maxRecDepth 10000
namespace Go.Proofs.YtljnkicgahepfaaGreatDoor.F1
open Go.ChangeShapes Go.WideShapes Go.ChangeAt Go.RowKit Go.Shelf
open X0 (row mix)
open F0 (Has)
attribute [local go_sem] Oper.semAt_some
def span (x y : Nat) (k : Nat) : Bool := decide (x ≤ k ∧ k ≤ y)
def upto (x y m : Nat) (k : Nat) : Bool := decide (x ≤ k ∧ k ≤ y ∧ k < m)
structure Fl (w : World) (G f1 f2 f3 x y : Nat) (la ld : List UInt8) (W : World) : Prop where
 dl : A3.Dl G la ld W
 c1 : Has f1 0 (.int .i64 x) W
 c2 : Has f2 0 (.int .i64 y) W
 c3 : Has f3 0 (.pointer (some ⟨G, 0, none⟩)) W
 r0 : Has (w.heap.size + 1) 0 (.string ⟨#[]⟩) W
 r1 : Has (w.heap.size + 1) 1 (.string ⟨#[]⟩) W
 bel : Below w.heap.size w W
variable {w W V : World} {G f1 f2 f3 x y : Nat} {la ld le : List UInt8}
theorem Fl.own {row : Option Nat} {B : Nat} (h : Fl w G f1 f2 f3 x y la ld W) (hB : w.heap.size ≤ B) (hg : W.grownBy V row) (hr : ∀ r, row = some r → B ≤ r ∧ ∃ o : Obj, W.heap[r]? = some o ∧ o.isCells = false) : Fl w G f1 f2 f3 x y la ld V :=
  ⟨F0.dl_own h.dl hg fun r e => (hr r e).2, h.c1.own hg fun r e => (hr r e).2, h.c2.own hg fun r e => (hr r e).2, h.c3.own hg fun r e => (hr r e).2, h.r0.own hg fun r e => (hr r e).2, h.r1.own hg fun r e => (hr r e).2,
   h.bel.grown hg h.bel.size fun r e => Nat.le_trans hB (hr r e).1⟩
theorem Fl.set {k : Nat} (h : Fl w G f1 f2 f3 x y la ld W) (hn : f1 ≠ G ∧ f2 ≠ G ∧ f3 ≠ G ∧ w.heap.size + 1 ≠ G ∧ w.heap.size ≤ G) (hla : la.length = 768) (hld : ld.length = 768) (hk : k < 96) (he : ld.take (k * 8) ++ row la k ++ ld.drop (k * 8 + 8) = le) :
  Fl w G f1 f2 f3 x y la le (W.setCells G (768 + k * 8) (Lib.byteCells (row la k))) :=
 ⟨F0.dl_set h.dl hla hld hk he, h.c1.set hn.1 _, h.c2.set hn.2.1 _, h.c3.set hn.2.2.1 _, h.r0.set hn.2.2.2.1 _, h.r1.set hn.2.2.2.1 _, B0.below_setCells hn.2.2.2.2 _ _ _ h.bel⟩
theorem Fl.drew (h : Fl w G f1 f2 f3 x y la ld W) : Fl w G f1 f2 f3 x y la ld W.drew := ⟨⟨h.dl.m, h.dl.d, h.dl.t, h.dl.lt⟩, h.c1, h.c2, h.c3, h.r0, h.r1, h.bel.drew⟩
theorem keeps_set (B : Nat) (W : World) (g o : Nat) : ∀ (vs : List Value) (o : Nat) (V : World), KeepsFrom B W V → KeepsFrom B W (V.setCells g o vs)
 | [], _, _, h => h
 | v :: r, o, V, h => keeps_set B W g o r (o + 1) _ (h.trans ((KeepsOthers.setCell _ _ _).from _))
theorem keeps_drew (B : Nat) (W : World) : KeepsFrom B W W.drew := ⟨Nat.le_refl _, fun _ _ _ h _ => h⟩
theorem upto_step {x y k i : Nat} (hi : i ≠ k) : upto x y k i = upto x y (k + 1) i := by simp only [upto]; congr 1; apply propext; omega
theorem heap_set {k g : Nat} : ∀ (vs : List Value), k ≠ g → ∀ (o : Nat) (W : World) (_ : Unit), (W.setCells g o vs).heap[k]? = W.heap[k]?
 | [], _, _, _, _ => rfl
 | v :: r, h, o, W, u => (heap_set r h (o + 1) _ u).trans (Below.heap_setCell _ _ _ _ h)
theorem infoDev : (Tryz.prog.info? 25).map (·.size) = some 2 := by kernel_rfl
theorem fr_alloc {B : Nat} {w W : World} {a b : ByteArray} (h : D2.Fr B w a b W) (o : Obj) : D2.Fr B w a b (W.alloc o) := h.below ((Below.refl _ _).alloc (Nat.le_refl _) o)
theorem fl_start {a b : ByteArray} {w2 w3 : World} (h1 : D2.Fr w.heap.size w a b w2) (hG : ((w2.alloc (.cells #[.int .i64 (x : Int)] 3)).alloc (.cells #[.int .i64 (y : Int)] 3)).heap.size ≤ G) (hD : A3.Dl G la ld w3)
  (b3 : Below ((w2.alloc (.cells #[.int .i64 (x : Int)] 3)).alloc (.cells #[.int .i64 (y : Int)] 3)).heap.size ((w2.alloc (.cells #[.int .i64 (x : Int)] 3)).alloc (.cells #[.int .i64 (y : Int)] 3)) w3) :
  Fl w G w2.heap.size (w2.heap.size + 1) w3.heap.size x y la ld (w3.alloc (.cells #[.pointer (some ⟨G, 0, none⟩)] 196)) ∧ w2.heap.size ≠ G ∧ w2.heap.size + 1 ≠ G ∧ w3.heap.size ≠ G ∧ w.heap.size + 1 ≠ G ∧ w.heap.size ≤ G ∧ ¬ w.heap.size + 1 = w3.heap.size := by
 have hb := (Below.refl w3.heap.size w3).alloc (Nat.le_refl _) (.cells #[.pointer (some ⟨G, 0, none⟩)] 196)
 have g1 := ((F0.has_new w2 (.int .i64 (x : Int)) 3 #[.int .i64 (x : Int)] 0 rfl).alloc (.cells #[.int .i64 (y : Int)] 3)).below b3
 have g2 := (F0.has_new (w2.alloc (.cells #[.int .i64 (x : Int)] 3)) (.int .i64 (y : Int)) 3 #[.int .i64 (y : Int)] 0 rfl).below b3
 rw [World.size_alloc] at g2
 have h3 := (fr_alloc (fr_alloc h1 (.cells #[.int .i64 (x : Int)] 3)) (.cells #[.int .i64 (y : Int)] 3)).below b3
 have hs := h1.lt
 have hl := hD.lt
 simp only [World.size_alloc] at hG
 refine ⟨⟨F0.dl_below hD hb, g1.below hb, g2.below hb, F0.has_new w3 _ _ _ 0 rfl, Has.below ⟨h3.r0, h3.f0, h3.lt⟩ hb, Has.below ⟨h3.r1, h3.f1, h3.lt⟩ hb, h3.bel.alloc h3.bel.size _⟩, ?_, ?_, ?_, ?_, ?_, ?_⟩ <;> (have := h3.lt; omega)
theorem Fl.below (h : Fl w G f1 f2 f3 x y la ld W) (hb : Below W.heap.size W V) : Fl w G f1 f2 f3 x y la ld V :=
 ⟨F0.dl_below h.dl hb, h.c1.below hb, h.c2.below hb, h.c3.below hb, h.r0.below hb, h.r1.below hb, h.bel.trans (hb.mono h.bel.size)⟩
structure Fd (D : Nat) (w : World) (G f1 f2 f3 x y : Nat) (la ld : List UInt8) (W : World) : Prop where
 fl : Fl w G f1 f2 f3 x y la ld W
 dk : W.heap[D]? = some (.deferred (some []))
theorem Fd.below {D : Nat} (h : Fd D w G f1 f2 f3 x y la ld W) (hb : Below W.heap.size W V) : Fd D w G f1 f2 f3 x y la ld V :=
 ⟨h.fl.below hb, (hb.block D (Array.getElem?_eq_some_iff.1 h.dk).1).trans h.dk⟩
theorem Fd.drew {D : Nat} (h : Fd D w G f1 f2 f3 x y la ld W) : Fd D w G f1 f2 f3 x y la ld W.drew := ⟨h.fl.drew, h.dk⟩
theorem text_m {D : Nat} (h : Fd D w G f1 f2 f3 x y la ld W) (hl : la.length = 768) :
  Calls Tryz.prog 179 #[.pointer (some ⟨G, 0, none⟩)] W fun e w' => e = .returned (.string ⟨la.toArray⟩) ∧ Fd D w G f1 f2 f3 x y la ld w' :=
 (A2.text la G 0 W hl h.fl.dl.lt h.fl.dl.m).mono fun _ _ ⟨he, hb⟩ => ⟨he, h.below hb⟩
theorem text_d {D : Nat} (h : Fd D w G f1 f2 f3 x y la ld W) (hl : ld.length = 768) :
  Calls Tryz.prog 179 #[.pointer (some ⟨G, 768, none⟩)] W fun e w' => e = .returned (.string ⟨ld.toArray⟩) ∧ Fd D w G f1 f2 f3 x y la ld w' :=
 (A2.text ld G 768 W hl h.fl.dl.lt h.fl.dl.d).mono fun _ _ ⟨he, hb⟩ => ⟨he, h.below hb⟩
set_option maxRecDepth 100000 in
set_option maxHeartbeats 8000000 in
theorem impl_Flush_main (a b : ByteArray) (i n : Int) (w : World) (ha : a.size = 768) (hb : b.size = 768) (hi : 0 ≤ i) (hn : 1 ≤ n) (hin : i + n ≤ 768) :
  Calls Tryz.prog 181 #[.agg #[.string a, .string b], .int .i64 i, .int .i64 n] w fun e w' => e = .returned (.agg #[.string a, .string ⟨(mix a.data.toList b.data.toList (span (i.toNat / 8) ((i.toNat + n.toNat - 1) / 8))).toArray⟩]) ∧ Below w.heap.size w w' := by
 obtain ⟨m, rfl⟩ : ∃ m : Nat, i = m := ⟨i.toNat, by omega⟩
 obtain ⟨c, rfl⟩ : ∃ c : Nat, n = c := ⟨n.toNat, by omega⟩
 have hla : a.data.toList.length = 768 := by rw [← Lib.size_eq]; exact ha
 have hlb : b.data.toList.length = 768 := by rw [← Lib.size_eq]; exact hb
 have hok : D1.ok a b = true := D1.ok_mk ha hb
 have hlie : B2.lies a.size (m : Int) (c : Int) = true := decide_eq_true (by omega)
 have hF := D2.fr_new a b w
 simp only [Int.toNat_natCast]
 obtain ⟨x, hx⟩ : ∃ x, m / 8 = x := ⟨_, rfl⟩
 obtain ⟨y, hy⟩ : ∃ y, (m + c - 1) / 8 = y := ⟨_, rfl⟩
 rw [hx, hy]
 have q1 : (m : Int) / 8 = (x : Int) := by omega
 have q2 : ((m : Int) + (c : Int) - 1) / 8 = (y : Int) := by omega
 have q3 : Int.tdiv (m : Int) 8 = (x : Int) := by rw [Int.tdiv_eq_ediv_of_nonneg (by omega)]; exact q1
 have q4 : Int.tdiv ((m : Int) + (c : Int) - 1) 8 = (y : Int) := by rw [Int.tdiv_eq_ediv_of_nonneg (by omega)]; exact q2
 have hxy : Hid (x ≤ y ∧ y < 96) := show _ ∧ _ by omega
 clear hx hy
 have hn0 : ((c : Int) == 0) = false := by simp; omega
 refine (callsIn_wide (n := 5)).1 ?_
 refine callsIn_of_wp_marks Tryz.func181 rfl trivial ?_ rfl
 simp only [Tryz.ntmps181, List.size_toArray, List.length_cons, List.length_nil, Nat.reduceAdd, Nat.reduceSub, Array.replicate_succ, Array.replicate_zero, List.push_toArray, List.append_toArray, List.nil_append, List.cons_append]
 refine wpIn_wide.2 ?_
 go_wp2_with (first
  | (go_at_call 53; refine (D2.impl_DevOk_fr _ _ (by omega) (by omega) hF).mono ?_; rintro e w1 ⟨rfl, h1⟩; have c0 := h1.c0; have c1 := h1.c1; have h2 := (fr_alloc h1 (.cells #[.int .i64 x] 3)); have h3 := fr_alloc h2 (.cells #[.int .i64 y] 3); have d0 := h3.c0; have d1 := h3.c1)
  | (go_at_call 156; refine (B2.liesIn_any _ _ _ _ (by unfold maxLen; omega)).mono ?_; rintro e w2 ⟨rfl, rfl⟩; rw [hlie])
  | (go_at_call 176; refine (A3.cutDev a b _ ha hb).mono ?_; rintro e w3 ⟨G, rfl, hG, hD, b3⟩; rename_i w2 _))
 obtain ⟨hfl, hn1⟩ := fl_start h1 hG hD b3
 have hnf := hn1.2.2.2.2.2
 replace hn1 := (⟨hn1.1, hn1.2.1, hn1.2.2.1, hn1.2.2.2.1, hn1.2.2.2.2.1⟩ : _ ∧ _ ∧ _ ∧ _ ∧ _)
 clear d0 d1 h2 h3 c0 c1
 have hsz : w.heap.size ≤ (w3.alloc (.cells #[.pointer (some ⟨G, 0, none⟩)] 196)).heap.size := hfl.bel.size
 obtain ⟨WL, hWL⟩ : ∃ WL, w3.alloc (.cells #[.pointer (some ⟨G, 0, none⟩)] 196) = WL := ⟨_, rfl⟩
 rw [hWL] at hfl hsz ⊢
 clear hWL h1 hG hD b3 hF
 obtain ⟨f1, hf1⟩ : ∃ f1, w2.heap.size = f1 := ⟨_, rfl⟩
 obtain ⟨f3, hf3⟩ : ∃ f3, w3.heap.size = f3 := ⟨_, rfl⟩
 rw [hf1, hf3] at hfl hn1 ⊢
 rw [hf3] at hnf
 clear hf1 hf3
 refine wpIn_wide.1 (R0.range_bound (n := 5) (gf := 177) (N := 96) (bd := #[.pointer (some ⟨G, 0, none⟩)]) rfl (enters_of Tryz.func177 (by kernel_rfl) rfl) rfl
  (fun k W => Fl w G f1 (f1 + 1) f3 x y a.data.toList (mix a.data.toList b.data.toList (upto x y k)) W) (R1.Differ G a.data.toList)
  (fun c W => c = .exit 0 ∧ Fl w G f1 (f1 + 1) f3 x y a.data.toList (mix a.data.toList b.data.toList (span x y)) W)
  (fun k W V row h hg hr => h.own hsz hg hr) (fun k W V row ⟨lb', h1, h2, h3⟩ hg hr => ⟨lb', h1, F0.dl_own h2 hg (fun r e => (hr r e).2), h3⟩) (fun c W V row h hg hr => ⟨h.1, h.2.own hsz hg hr⟩)
  (by rw [X0.mix_none _ _ hlb _ (fun k _ => by simp [upto])]; exact hfl)
  (fun l J Jx W a1 a2 a3 a4 a5 a6 => R1.dirty_in 5 G a.data.toList hla _ (fun k W h => ⟨_, X0.mix_len _ _ _, h.dl⟩) (fun k W lb' hk h hl' hd' he => by
   have e := F0.dl_unique hd' h.dl (by rw [hl', X0.mix_len])
   subst e
   rw [X0.mix_same _ _ (upto x y k) (upto x y (k + 1)) k hla (fun i _ hi => upto_step hi) hk (by simp [upto]) he]
   exact h) l J Jx W a1 a2 a3 a4 a5 a6) ?round ?done ?stop)
 case round =>
  rintro l k W V hk hI -
  clear hfl
  have e1 : (0 : Int) ≤ (k : Int) := by omega
  have e2 : (k : Int) < 96 := by omega
  have c1 := hI.c1.1
  have c2 := hI.c2.1
  have c3 := hI.c3.1
  by_cases h1 : (y : Int) < (k : Int)
  ·have e := X0.mix_congr a.data.toList b.data.toList (upto x y k) (span x y) (fun i _ => by simp only [upto, span]; congr 1; apply propext; omega)
   gi_wp2
   refine ⟨trivial, ?_⟩
   gi_wp2
   exact ⟨KeepsFrom.refl _ _, rfl, e ▸ hI⟩
  ·by_cases h2 : (x : Int) ≤ (k : Int)
   ·obtain ⟨ld, hld⟩ : ∃ ld, mix a.data.toList b.data.toList (upto x y k) = ld := ⟨_, rfl⟩
    have hll : ld.length = 768 := by rw [← hld, X0.mix_len]
    have he : Hid (ld.take (k * 8) ++ row a.data.toList k ++ ld.drop (k * 8 + 8) = mix a.data.toList b.data.toList (upto x y (k + 1))) := by
     rw [← hld]; exact X0.mix_set _ _ _ _ k hla hk (fun i _ hi => upto_step hi) (by simp only [upto]; exact decide_eq_true (by omega))
    rw [hld] at hI
    have hset := (hI.drew).set hn1 hla hll hk he
    have hrl : (Lib.byteCells (row a.data.toList k)).length = 8 := by rw [Lib.byteCells_length, R1.row_len hla hk]
    have hrow : V.rangeAt G (k * 8) (Lib.byteCells (row a.data.toList k)) := by
     have := A0.rangeAt_part hI.dl.m (k * 8) 8
     rw [A0.bytes_part, Nat.zero_add] at this
     exact this
    have hfin : ∀ a', R0.left WL.heap.size (fun k W => Fl w G f1 (f1 + 1) f3 x y a.data.toList (mix a.data.toList b.data.toList (upto x y k)) W) (fun c W => c = .exit 0 ∧ Fl w G f1 (f1 + 1) f3 x y a.data.toList (mix a.data.toList b.data.toList (span x y)) W) k V .normal a' (V.drew.setCells G (768 + k * 8) (Lib.byteCells (row a.data.toList k))) := fun a' => ⟨keeps_set _ _ _ 0 _ _ _ (keeps_drew _ _), hset⟩
    let S : World → Prop := fun W' => Has f3 0 (.pointer (some ⟨G, 0, none⟩)) W' ∧ W'.rangeAt G (k * 8) (Lib.byteCells (row a.data.toList k)) ∧ W'.there G (768 + k * 8) 8
    have hSV : S V.drew := ⟨hI.c3, hrow, A0.there_sub hI.dl.t (by omega) (by omega)⟩
    gi_wp2
    refine R2.abs_act _ (fun A => A.eval (.tmp 9) = .pointer (some ⟨f3, 0, none⟩) ∧ A.eval (.tmp 10) = .int .i64 (k : Int) ∧ 56 < A.tmps.size) ⟨rfl, rfl, by simp⟩ ?_
    rintro A ⟨h9, h10, hsz'⟩
    have h9' : A.tmps[9]?.getD undef = .pointer (some ⟨f3, 0, none⟩) := by rw [← Array.getD_eq_getD_getElem?]; exact h9
    have h10' : A.tmps[10]?.getD undef = .int .i64 (k : Int) := by rw [← Array.getD_eq_getD_getElem?]; exact h10
    have s46 : 46 < A.tmps.size := by omega
    have s47 : 47 < A.tmps.size := by omega
    have s48 : 48 < A.tmps.size := by omega
    have s49 : 49 < A.tmps.size := by omega
    have s50 : 50 < A.tmps.size := by omega
    have s51 : 51 < A.tmps.size := by omega
    have s52 : 52 < A.tmps.size := by omega
    have s53 : 53 < A.tmps.size := by omega
    have s54 : 54 < A.tmps.size := by omega
    have s55 : 55 < A.tmps.size := by omega
    have s56 : 56 < A.tmps.size := by omega
    clear hsz'
    refine R2.region_round (S := S) (by simp) (by rintro ⟨_, _, h⟩; exact h.elim) (by kernel_rfl) ?_
    refine wpAnyH_take (i := 1) (v := .int .i64 (k : Int)) rfl (by kernel_rfl) (by kernel_rfl) (by kernel_rfl) (fun _ _ _ h => h) (Or.inl ⟨by rfl, fun w' hS' => ?_⟩) hSV ?_
    ·simp only [List.getElem_toArray, List.getElem_cons_succ, List.getElem_cons_zero, execOp, R2.ev_same, R2.ev_other, R2.size_put, ne_eq, Nat.reduceEqDiff, not_false_eq_true, h9, h10, s46, s47, s48, s49, s50, s51, s52, s53, s54, s55, s56]
     go_simp
    simp only [List.getElem_toArray, List.getElem_cons_succ, List.getElem_cons_zero]
    refine wpAnyH_take (i := 3) (v := .int .i64 (k : Int)) rfl (by kernel_rfl) (by kernel_rfl) (by kernel_rfl) (fun _ _ _ h => h) (Or.inl ⟨by rfl, fun w' hS' => ?_⟩) hSV ?_
    ·simp only [List.getElem_toArray, List.getElem_cons_succ, List.getElem_cons_zero, execOp, R2.ev_same, R2.ev_other, R2.size_put, ne_eq, Nat.reduceEqDiff, not_false_eq_true, h9, h10, s46, s47, s48, s49, s50, s51, s52, s53, s54, s55, s56]
     go_simp
    simp only [List.getElem_toArray, List.getElem_cons_succ, List.getElem_cons_zero]
    refine wpAnyH_take (i := 0) (v := .pointer (some ⟨G, 0, none⟩)) rfl (by kernel_rfl) (by kernel_rfl) (by kernel_rfl) (fun _ _ _ h => h) (Or.inl ⟨by rfl, fun w' hS' => ?_⟩) hSV ?_
    ·have hc := hS'.1.1
     simp only [List.getElem_toArray, List.getElem_cons_succ, List.getElem_cons_zero, execOp, R2.ev_same, R2.ev_other, R2.size_put, ne_eq, Nat.reduceEqDiff, not_false_eq_true, h9, h10, s46, s47, s48, s49, s50, s51, s52, s53, s54, s55, s56]
     go_simp
    simp only [List.getElem_toArray, List.getElem_cons_succ, List.getElem_cons_zero]
    refine wpAnyH_take (i := 2) (v := .pointer (some ⟨G, 0, none⟩)) rfl (by kernel_rfl) (by kernel_rfl) (by kernel_rfl) (fun _ _ _ h => h) (Or.inl ⟨by rfl, fun w' hS' => ?_⟩) hSV ?_
    ·have hc := hS'.1.1
     simp only [List.getElem_toArray, List.getElem_cons_succ, List.getElem_cons_zero, execOp, R2.ev_same, R2.ev_other, R2.size_put, ne_eq, Nat.reduceEqDiff, not_false_eq_true, h9, h10, s46, s47, s48, s49, s50, s51, s52, s53, s54, s55, s56]
     go_simp
    simp only [List.getElem_toArray, List.getElem_cons_succ, List.getElem_cons_zero]
    refine wpAnyH_take (i := 4) (v := .pointer (some ⟨G, 0, none⟩)) rfl (by kernel_rfl) (by kernel_rfl) (by kernel_rfl) (fun _ _ _ h => h) (Or.inl ⟨by rfl, fun w' hS' => ?_⟩) hSV ?_
    ·simp only [List.getElem_toArray, List.getElem_cons_succ, List.getElem_cons_zero, execOp, R2.ev_same, R2.ev_other, R2.size_put, ne_eq, Nat.reduceEqDiff, not_false_eq_true, h9, h10, s46, s47, s48, s49, s50, s51, s52, s53, s54, s55, s56]
     go_simp
    simp only [List.getElem_toArray, List.getElem_cons_succ, List.getElem_cons_zero]
    refine wpAnyH_take (i := 5) (v := .pointer (some ⟨G, 0, none⟩)) rfl (by kernel_rfl) (by kernel_rfl) (by kernel_rfl) (fun _ _ _ h => h) (Or.inl ⟨by rfl, fun w' hS' => ?_⟩) hSV ?_
    ·simp only [List.getElem_toArray, List.getElem_cons_succ, List.getElem_cons_zero, execOp, R2.ev_same, R2.ev_other, R2.size_put, ne_eq, Nat.reduceEqDiff, not_false_eq_true, h9, h10, s46, s47, s48, s49, s50, s51, s52, s53, s54, s55, s56]
     go_simp
    simp only [List.getElem_toArray, List.getElem_cons_succ, List.getElem_cons_zero]
    refine wpAnyH_take (i := 6) (v := .pointer (some ⟨G, k * 8, none⟩)) rfl (by kernel_rfl) (by kernel_rfl) (by kernel_rfl) (fun _ _ _ h => h) (Or.inl ⟨by rfl, fun w' hS' => ?_⟩) hSV ?_
    ·simp only [List.getElem_toArray, List.getElem_cons_succ, List.getElem_cons_zero, execOp, R2.ev_same, R2.ev_other, R2.size_put, ne_eq, Nat.reduceEqDiff, not_false_eq_true, h9, h10, s46, s47, s48, s49, s50, s51, s52, s53, s54, s55, s56]
     go_simp
    simp only [List.getElem_toArray, List.getElem_cons_succ, List.getElem_cons_zero]
    refine wpAnyH_take (i := 7) (v := .agg (Lib.byteCells (row a.data.toList k)).toArray) rfl (by kernel_rfl) (by kernel_rfl) (by kernel_rfl) (fun _ _ _ h => h) (yieldsIf_load_mid (by rfl) 199 (.tmp 52) rfl G (k * 8) (by simp only [R2.ev_same, R2.ev_other, R2.size_put, ne_eq, Nat.reduceEqDiff, not_false_eq_true, h9, h10, s46, s47, s48, s49, s50, s51, s52, s53, s54, s55, s56]) _ _ (fun w' hS' => hS'.2.1) Tryz.underlying199 rfl (by rw [A0.infoLine, hrl])) hSV ?_
    simp only [List.getElem_toArray, List.getElem_cons_succ, List.getElem_cons_zero]
    refine wpAnyH_take (i := 8) (v := .pointer (some ⟨G, 0, none⟩)) rfl (by kernel_rfl) (by kernel_rfl) (by kernel_rfl) (fun _ _ _ h => h) (Or.inl ⟨by rfl, fun w' hS' => ?_⟩) hSV ?_
    ·simp only [List.getElem_toArray, List.getElem_cons_succ, List.getElem_cons_zero, execOp, R2.ev_same, R2.ev_other, R2.size_put, ne_eq, Nat.reduceEqDiff, not_false_eq_true, h9, h10, s46, s47, s48, s49, s50, s51, s52, s53, s54, s55, s56]
     go_simp
    simp only [List.getElem_toArray, List.getElem_cons_succ, List.getElem_cons_zero]
    refine wpAnyH_take (i := 9) (v := .pointer (some ⟨G, 768, none⟩)) rfl (by kernel_rfl) (by kernel_rfl) (by kernel_rfl) (fun _ _ _ h => h) (Or.inl ⟨by rfl, fun w' hS' => ?_⟩) hSV ?_
    ·simp only [List.getElem_toArray, List.getElem_cons_succ, List.getElem_cons_zero, execOp, R2.ev_same, R2.ev_other, R2.size_put, ne_eq, Nat.reduceEqDiff, not_false_eq_true, h9, h10, s46, s47, s48, s49, s50, s51, s52, s53, s54, s55, s56]
     go_simp
    simp only [List.getElem_toArray, List.getElem_cons_succ, List.getElem_cons_zero]
    refine wpAnyH_take (i := 10) (v := .pointer (some ⟨G, 768 + k * 8, none⟩)) rfl (by kernel_rfl) (by kernel_rfl) (by kernel_rfl) (fun _ _ _ h => h) (Or.inl ⟨by rfl, fun w' hS' => ?_⟩) hSV ?_
    ·simp only [List.getElem_toArray, List.getElem_cons_succ, List.getElem_cons_zero, execOp, R2.ev_same, R2.ev_other, R2.size_put, ne_eq, Nat.reduceEqDiff, not_false_eq_true, h9, h10, s46, s47, s48, s49, s50, s51, s52, s53, s54, s55, s56]
     go_simp
    simp only [List.getElem_toArray, List.getElem_cons_succ, List.getElem_cons_zero]
    refine R2.last_store (i := 11) (by kernel_rfl) rfl rfl 199 (.tmp 56) (.tmp 53) rfl G (768 + k * 8) (Lib.byteCells (row a.data.toList k)) (by simp only [R2.ev_same, R2.ev_other, R2.size_put, ne_eq, Nat.reduceEqDiff, not_false_eq_true, h9, h10, s46, s47, s48, s49, s50, s51, s52, s53, s54, s55, s56]) (by simp only [R2.ev_same, R2.ev_other, R2.size_put, ne_eq, Nat.reduceEqDiff, not_false_eq_true, h9, h10, s46, s47, s48, s49, s50, s51, s52, s53, s54, s55, s56]) (by rw [hrl]; exact hSV.2.2) (by rw [A0.infoLine, hrl]) (Lib.byteCells_one _)
     ⟨hSV.1.set hn1.2.2.1 _, World.rangeAt_setCells_apart hSV.2.1 _ _ _ (by rw [hrl]; omega), World.there_setCells hSV.2.2 _ _ _⟩ (by kernel_rfl) ?_
    exact ⟨(hfin A).1, (hfin A).2⟩
   ·have e := X0.mix_congr a.data.toList b.data.toList (upto x y k) (upto x y (k + 1)) (fun i _ => by simp only [upto]; congr 1; apply propext; omega)
    gi_wp2
    rw [e] at hI
    exact ⟨KeepsFrom.refl _ _, hI⟩
 case done =>
  rintro D W hD hI hK
  have hlt1 := hfl.r0.2.2
  clear hfl
  rw [X0.mix_congr _ _ (upto x y 96) (span x y) (fun i hi => by simp only [upto, span]; congr 1; apply propext; omega)] at hI
  go_wp2
  rename_i K hKr
  obtain ⟨ld, hld⟩ : ∃ ld, mix a.data.toList b.data.toList (span x y) = ld := ⟨_, rfl⟩
  have hll : ld.length = 768 := by rw [← hld, X0.mix_len]
  rw [hld] at hI
  have hself : (⟨a.data.toList.toArray⟩ : ByteArray) = a := Lib.mk_data a
  have hFd : Fd D w G f1 (f1 + 1) f3 x y a.data.toList ld W.drew := Fd.drew ⟨hI, hK⟩
  refine R2.abs_wp _ (fun A => A.eval (.tmp 9) = .pointer (some ⟨f3, 0, none⟩) ∧ A.eval (.tmp 6) = .pointer (some ⟨w.heap.size + 1, 0, none⟩) ∧ 65 < A.tmps.size ∧ A.defers = [{ target := .collected D, args := #[] }]) ⟨rfl, rfl, by simp, rfl⟩ ?_
  rintro A ⟨h9, h6, hsz', hdf⟩
  have h9' : A.tmps[9]?.getD undef = .pointer (some ⟨f3, 0, none⟩) := by rw [← Array.getD_eq_getD_getElem?]; exact h9
  have s57 : 57 < A.tmps.size := by omega
  have s58 : 58 < A.tmps.size := by omega
  have s59 : 59 < A.tmps.size := by omega
  have s60 : 60 < A.tmps.size := by omega
  have s61 : 61 < A.tmps.size := by omega
  have s62 : 62 < A.tmps.size := by omega
  have s63 : 63 < A.tmps.size := by omega
  have s64 : 64 < A.tmps.size := by omega
  have s65 : 65 < A.tmps.size := by omega
  clear hsz'
  have hSV : Has f3 0 (.pointer (some ⟨G, 0, none⟩)) W.drew := hFd.fl.c3
  refine wp_region_noPanic ?_
  refine wp_region_held (S := Has f3 0 (.pointer (some ⟨G, 0, none⟩))) (by kernel_rfl) ?_
  refine wpAnyH_take (i := 0) (v := .pointer (some ⟨G, 0, none⟩)) rfl (by kernel_rfl) (by kernel_rfl) (by kernel_rfl) (fun _ _ _ h => h) (Or.inl ⟨by rfl, fun w' hS' => ?_⟩) hSV ?_
  ·have hc := hS'.1
   simp only [List.getElem_toArray, List.getElem_cons_succ, List.getElem_cons_zero, execOp, R2.ev_same, R2.ev_other, R2.size_put, ne_eq, Nat.reduceEqDiff, not_false_eq_true, h9, h6, s57, s58, s59, s60, s61, s62, s63, s64, s65]
   go_simp
  simp only [List.getElem_toArray, List.getElem_cons_succ, List.getElem_cons_zero]
  refine wpAnyH_take (i := 4) (v := .pointer (some ⟨G, 0, none⟩)) rfl (by kernel_rfl) (by kernel_rfl) (by kernel_rfl) (fun _ _ _ h => h) (Or.inl ⟨by rfl, fun w' hS' => ?_⟩) hSV ?_
  ·have hc := hS'.1
   simp only [List.getElem_toArray, List.getElem_cons_succ, List.getElem_cons_zero, execOp, R2.ev_same, R2.ev_other, R2.size_put, ne_eq, Nat.reduceEqDiff, not_false_eq_true, h9, h6, s57, s58, s59, s60, s61, s62, s63, s64, s65]
   go_simp
  simp only [List.getElem_toArray, List.getElem_cons_succ, List.getElem_cons_zero]
  refine wpAnyH_take (i := 1) (v := .pointer (some ⟨G, 0, none⟩)) rfl (by kernel_rfl) (by kernel_rfl) (by kernel_rfl) (fun _ _ _ h => h) (Or.inl ⟨by rfl, fun w' hS' => ?_⟩) hSV ?_
  ·simp only [List.getElem_toArray, List.getElem_cons_succ, List.getElem_cons_zero, execOp, R2.ev_same, R2.ev_other, R2.size_put, ne_eq, Nat.reduceEqDiff, not_false_eq_true, h9, h6, s57, s58, s59, s60, s61, s62, s63, s64, s65]
   go_simp
  simp only [List.getElem_toArray, List.getElem_cons_succ, List.getElem_cons_zero]
  refine wpAnyH_take (i := 5) (v := .pointer (some ⟨G, 0, none⟩)) rfl (by kernel_rfl) (by kernel_rfl) (by kernel_rfl) (fun _ _ _ h => h) (Or.inl ⟨by rfl, fun w' hS' => ?_⟩) hSV ?_
  ·simp only [List.getElem_toArray, List.getElem_cons_succ, List.getElem_cons_zero, execOp, R2.ev_same, R2.ev_other, R2.size_put, ne_eq, Nat.reduceEqDiff, not_false_eq_true, h9, h6, s57, s58, s59, s60, s61, s62, s63, s64, s65]
   go_simp
  simp only [List.getElem_toArray, List.getElem_cons_succ, List.getElem_cons_zero]
  refine wpAnyH_take (i := 2) (v := .pointer (some ⟨G, 0, none⟩)) rfl (by kernel_rfl) (by kernel_rfl) (by kernel_rfl) (fun _ _ _ h => h) (Or.inl ⟨by rfl, fun w' hS' => ?_⟩) hSV ?_
  ·simp only [List.getElem_toArray, List.getElem_cons_succ, List.getElem_cons_zero, execOp, R2.ev_same, R2.ev_other, R2.size_put, ne_eq, Nat.reduceEqDiff, not_false_eq_true, h9, h6, s57, s58, s59, s60, s61, s62, s63, s64, s65]
   go_simp
  simp only [List.getElem_toArray, List.getElem_cons_succ, List.getElem_cons_zero]
  refine wpAnyH_take (i := 6) (v := .pointer (some ⟨G, 768, none⟩)) rfl (by kernel_rfl) (by kernel_rfl) (by kernel_rfl) (fun _ _ _ h => h) (Or.inl ⟨by rfl, fun w' hS' => ?_⟩) hSV ?_
  ·simp only [List.getElem_toArray, List.getElem_cons_succ, List.getElem_cons_zero, execOp, R2.ev_same, R2.ev_other, R2.size_put, ne_eq, Nat.reduceEqDiff, not_false_eq_true, h9, h6, s57, s58, s59, s60, s61, s62, s63, s64, s65]
   go_simp
  simp only [List.getElem_toArray, List.getElem_cons_succ, List.getElem_cons_zero]
  refine R2.one_call (i := 3) (by kernel_rfl) rfl rfl (.tmp 59) _ rfl (.pointer (some ⟨G, 0, none⟩)) (by simp only [R2.ev_same, R2.ev_other, R2.size_put, ne_eq, Nat.reduceEqDiff, not_false_eq_true, h9, h6, s57, s58, s59, s60, s61, s62, s63, s64, s65]) (enters_of Tryz.func179 (by kernel_rfl) rfl) ((text_m hFd hla).mono ?_)
  rintro e w4 ⟨rfl, h4⟩
  refine ⟨_, rfl, h4.fl.c3, ?_⟩
  simp only [List.getElem_toArray, List.getElem_cons_succ, List.getElem_cons_zero]
  refine R2.one_call (i := 7) (by kernel_rfl) rfl rfl (.tmp 63) _ rfl (.pointer (some ⟨G, 768, none⟩)) (by simp only [R2.ev_same, R2.ev_other, R2.size_put, ne_eq, Nat.reduceEqDiff, not_false_eq_true, h9, h6, s57, s58, s59, s60, s61, s62, s63, s64, s65]) (enters_of Tryz.func179 (by kernel_rfl) rfl) ((text_d h4 hll).mono ?_)
  rintro e w5 ⟨rfl, h5⟩
  refine ⟨_, rfl, h5.fl.c3, ?_⟩
  simp only [List.getElem_toArray, List.getElem_cons_succ, List.getElem_cons_zero]
  refine wpAnyH_take (i := 8) (v := .agg #[.string ⟨a.data.toList.toArray⟩, .string ⟨ld.toArray⟩]) rfl (by kernel_rfl) (by kernel_rfl) (by kernel_rfl) (fun _ _ _ h => h) (Or.inl ⟨by rfl, fun w' hS' => ?_⟩) h5.fl.c3 ?_
  ·simp only [List.getElem_toArray, List.getElem_cons_succ, List.getElem_cons_zero, execOp, R2.ev_same, R2.ev_other, R2.size_put, ne_eq, Nat.reduceEqDiff, not_false_eq_true, h9, h6, s57, s58, s59, s60, s61, s62, s63, s64, s65]
   go_simp
  simp only [List.getElem_toArray, List.getElem_cons_succ, List.getElem_cons_zero]
  have hth : w5.there (w.heap.size + 1) 0 2 := fun j hj => by
   match j, hj with
   | 0, _ => exact ⟨by rw [h5.fl.r0.1]; rfl, h5.fl.r0.2.1⟩
   | 1, _ => exact ⟨by rw [h5.fl.r1.1]; rfl, h5.fl.r1.2.1⟩
  refine R2.last_store (i := 9) (by kernel_rfl) rfl rfl 25 (.tmp 6) (.tmp 65) rfl (w.heap.size + 1) 0 [.string ⟨a.data.toList.toArray⟩, .string ⟨ld.toArray⟩] (by simp only [R2.ev_same, R2.ev_other, R2.size_put, ne_eq, Nat.reduceEqDiff, not_false_eq_true, h9, h6, s57, s58, s59, s60, s61, s62, s63, s64, s65]) (by simp only [R2.ev_same, R2.ev_other, R2.size_put, ne_eq, Nat.reduceEqDiff, not_false_eq_true, h9, h6, s57, s58, s59, s60, s61, s62, s63, s64, s65]) hth infoDev (by simp [Value.oneCell']) (h5.fl.c3.set (fun e => hnf e.symm) _) (by kernel_rfl) ?_
  refine NoPanic.normal ?_
  have hh : (w5.setCells (w.heap.size + 1) 0 [.string ⟨a.data.toList.toArray⟩, .string ⟨ld.toArray⟩]).heap[D]? = some (.deferred (some [])) := (heap_set _ (by omega) _ _ ()).trans h5.dk
  have hrng := World.rangeAt_setCells_same w5 (w.heap.size + 1) 0 [.string ⟨a.data.toList.toArray⟩, .string ⟨ld.toArray⟩] hth
  have hbel := B0.below_setCells (Nat.le_succ w.heap.size) [.string ⟨a.data.toList.toArray⟩, .string ⟨ld.toArray⟩] 0 _ h5.fl.bel
  rw [hself] at hh hrng hbel ⊢
  obtain ⟨W6, hW6⟩ : ∃ W6, w5.setCells (w.heap.size + 1) 0 [.string a, .string ⟨ld.toArray⟩] = W6 := ⟨_, rfl⟩
  rw [hW6] at hh hrng hbel ⊢
  refine hKr _ _ ?_
  refine R2.abs_wp _ (fun A2 => A2.eval (.tmp 6) = .pointer (some ⟨w.heap.size + 1, 0, none⟩) ∧ A2.defers = [{ target := .collected D, args := #[] }]) ⟨by simp only [List.getElem_toArray, List.getElem_cons_succ, List.getElem_cons_zero, R2.put_none, R2.ev_same, R2.ev_other, R2.size_put, ne_eq, Nat.reduceEqDiff, not_false_eq_true, h9, h6, s57, s58, s59, s60, s61, s62, s63, s64, s65], by simp only [List.getElem_toArray, List.getElem_cons_succ, List.getElem_cons_zero, R2.put_none, R2.defers_put]; exact hdf⟩ ?_
  rintro A2 ⟨k6, kdf⟩
  have hr' : (W6.putObj D (.deferred none)).rangeAt (w.heap.size + 1) 0 [.string a, .string ⟨ld.toArray⟩] := fun j v hj => cell_kept (hrng j v hj) (grownBy_putObj' _ D _) (fun r e => by cases e; exact ⟨_, hh, rfl⟩)
  have hlv := run_loadVar_mid (P := Tryz.prog) _ _ _ 25 _ _ hr' Tryz.underlying25 rfl infoDev
  have hbb := hbel.trans (belowK_b (w := w) (Nat.le_refl _) W6 D _ (.deferred none) (by omega) hh rfl rfl)
  clear hKr h4 h5 hth hrng hbel hFd hSV
  refine wp_ret ?_
  refine R2.leave kdf hh ⟨.agg #[.string a, .string ⟨ld.toArray⟩], ?_, ?_⟩
  ·rw [A0.results_cell rfl]
   show ((asAddr (A2.eval (.tmp 6))).run Tryz.prog _).andThen _ = _
   rw [k6]
   simp only [asAddr, Sem.run_pure, Result.andThen_ok]
   exact hlv
  ·exact ⟨by rw [← hld], hbb⟩
 case stop =>
  rintro D c W hD ⟨rfl, hI⟩ hK
  have hlt1 := hfl.r0.2.2
  clear hfl
  refine wpIn_wide.2 ?_
  go_wp2
  rename_i K hKr
  obtain ⟨ld, hld⟩ : ∃ ld, mix a.data.toList b.data.toList (span x y) = ld := ⟨_, rfl⟩
  have hll : ld.length = 768 := by rw [← hld, X0.mix_len]
  rw [hld] at hI
  have hself : (⟨a.data.toList.toArray⟩ : ByteArray) = a := Lib.mk_data a
  have hFd : Fd D w G f1 (f1 + 1) f3 x y a.data.toList ld W.drew := Fd.drew ⟨hI, hK⟩
  refine R2.abs_wp _ (fun A => A.eval (.tmp 9) = .pointer (some ⟨f3, 0, none⟩) ∧ A.eval (.tmp 6) = .pointer (some ⟨w.heap.size + 1, 0, none⟩) ∧ 65 < A.tmps.size ∧ A.defers = [{ target := .collected D, args := #[] }]) ⟨rfl, rfl, by simp, rfl⟩ ?_
  rintro A ⟨h9, h6, hsz', hdf⟩
  have h9' : A.tmps[9]?.getD undef = .pointer (some ⟨f3, 0, none⟩) := by rw [← Array.getD_eq_getD_getElem?]; exact h9
  have s57 : 57 < A.tmps.size := by omega
  have s58 : 58 < A.tmps.size := by omega
  have s59 : 59 < A.tmps.size := by omega
  have s60 : 60 < A.tmps.size := by omega
  have s61 : 61 < A.tmps.size := by omega
  have s62 : 62 < A.tmps.size := by omega
  have s63 : 63 < A.tmps.size := by omega
  have s64 : 64 < A.tmps.size := by omega
  have s65 : 65 < A.tmps.size := by omega
  clear hsz'
  have hSV : Has f3 0 (.pointer (some ⟨G, 0, none⟩)) W.drew := hFd.fl.c3
  refine wp_region_noPanic ?_
  refine wp_region_held (S := Has f3 0 (.pointer (some ⟨G, 0, none⟩))) (by kernel_rfl) ?_
  refine wpAnyH_take (i := 0) (v := .pointer (some ⟨G, 0, none⟩)) rfl (by kernel_rfl) (by kernel_rfl) (by kernel_rfl) (fun _ _ _ h => h) (Or.inl ⟨by rfl, fun w' hS' => ?_⟩) hSV ?_
  ·have hc := hS'.1
   simp only [List.getElem_toArray, List.getElem_cons_succ, List.getElem_cons_zero, execOp, R2.ev_same, R2.ev_other, R2.size_put, ne_eq, Nat.reduceEqDiff, not_false_eq_true, h9, h6, s57, s58, s59, s60, s61, s62, s63, s64, s65]
   go_simp
  simp only [List.getElem_toArray, List.getElem_cons_succ, List.getElem_cons_zero]
  refine wpAnyH_take (i := 4) (v := .pointer (some ⟨G, 0, none⟩)) rfl (by kernel_rfl) (by kernel_rfl) (by kernel_rfl) (fun _ _ _ h => h) (Or.inl ⟨by rfl, fun w' hS' => ?_⟩) hSV ?_
  ·have hc := hS'.1
   simp only [List.getElem_toArray, List.getElem_cons_succ, List.getElem_cons_zero, execOp, R2.ev_same, R2.ev_other, R2.size_put, ne_eq, Nat.reduceEqDiff, not_false_eq_true, h9, h6, s57, s58, s59, s60, s61, s62, s63, s64, s65]
   go_simp
  simp only [List.getElem_toArray, List.getElem_cons_succ, List.getElem_cons_zero]
  refine wpAnyH_take (i := 1) (v := .pointer (some ⟨G, 0, none⟩)) rfl (by kernel_rfl) (by kernel_rfl) (by kernel_rfl) (fun _ _ _ h => h) (Or.inl ⟨by rfl, fun w' hS' => ?_⟩) hSV ?_
  ·simp only [List.getElem_toArray, List.getElem_cons_succ, List.getElem_cons_zero, execOp, R2.ev_same, R2.ev_other, R2.size_put, ne_eq, Nat.reduceEqDiff, not_false_eq_true, h9, h6, s57, s58, s59, s60, s61, s62, s63, s64, s65]
   go_simp
  simp only [List.getElem_toArray, List.getElem_cons_succ, List.getElem_cons_zero]
  refine wpAnyH_take (i := 5) (v := .pointer (some ⟨G, 0, none⟩)) rfl (by kernel_rfl) (by kernel_rfl) (by kernel_rfl) (fun _ _ _ h => h) (Or.inl ⟨by rfl, fun w' hS' => ?_⟩) hSV ?_
  ·simp only [List.getElem_toArray, List.getElem_cons_succ, List.getElem_cons_zero, execOp, R2.ev_same, R2.ev_other, R2.size_put, ne_eq, Nat.reduceEqDiff, not_false_eq_true, h9, h6, s57, s58, s59, s60, s61, s62, s63, s64, s65]
   go_simp
  simp only [List.getElem_toArray, List.getElem_cons_succ, List.getElem_cons_zero]
  refine wpAnyH_take (i := 2) (v := .pointer (some ⟨G, 0, none⟩)) rfl (by kernel_rfl) (by kernel_rfl) (by kernel_rfl) (fun _ _ _ h => h) (Or.inl ⟨by rfl, fun w' hS' => ?_⟩) hSV ?_
  ·simp only [List.getElem_toArray, List.getElem_cons_succ, List.getElem_cons_zero, execOp, R2.ev_same, R2.ev_other, R2.size_put, ne_eq, Nat.reduceEqDiff, not_false_eq_true, h9, h6, s57, s58, s59, s60, s61, s62, s63, s64, s65]
   go_simp
  simp only [List.getElem_toArray, List.getElem_cons_succ, List.getElem_cons_zero]
  refine wpAnyH_take (i := 6) (v := .pointer (some ⟨G, 768, none⟩)) rfl (by kernel_rfl) (by kernel_rfl) (by kernel_rfl) (fun _ _ _ h => h) (Or.inl ⟨by rfl, fun w' hS' => ?_⟩) hSV ?_
  ·simp only [List.getElem_toArray, List.getElem_cons_succ, List.getElem_cons_zero, execOp, R2.ev_same, R2.ev_other, R2.size_put, ne_eq, Nat.reduceEqDiff, not_false_eq_true, h9, h6, s57, s58, s59, s60, s61, s62, s63, s64, s65]
   go_simp
  simp only [List.getElem_toArray, List.getElem_cons_succ, List.getElem_cons_zero]
  refine R2.one_call (i := 3) (by kernel_rfl) rfl rfl (.tmp 59) _ rfl (.pointer (some ⟨G, 0, none⟩)) (by simp only [R2.ev_same, R2.ev_other, R2.size_put, ne_eq, Nat.reduceEqDiff, not_false_eq_true, h9, h6, s57, s58, s59, s60, s61, s62, s63, s64, s65]) (enters_of Tryz.func179 (by kernel_rfl) rfl) ((text_m hFd hla).mono ?_)
  rintro e w4 ⟨rfl, h4⟩
  refine ⟨_, rfl, h4.fl.c3, ?_⟩
  simp only [List.getElem_toArray, List.getElem_cons_succ, List.getElem_cons_zero]
  refine R2.one_call (i := 7) (by kernel_rfl) rfl rfl (.tmp 63) _ rfl (.pointer (some ⟨G, 768, none⟩)) (by simp only [R2.ev_same, R2.ev_other, R2.size_put, ne_eq, Nat.reduceEqDiff, not_false_eq_true, h9, h6, s57, s58, s59, s60, s61, s62, s63, s64, s65]) (enters_of Tryz.func179 (by kernel_rfl) rfl) ((text_d h4 hll).mono ?_)
  rintro e w5 ⟨rfl, h5⟩
  refine ⟨_, rfl, h5.fl.c3, ?_⟩
  simp only [List.getElem_toArray, List.getElem_cons_succ, List.getElem_cons_zero]
  refine wpAnyH_take (i := 8) (v := .agg #[.string ⟨a.data.toList.toArray⟩, .string ⟨ld.toArray⟩]) rfl (by kernel_rfl) (by kernel_rfl) (by kernel_rfl) (fun _ _ _ h => h) (Or.inl ⟨by rfl, fun w' hS' => ?_⟩) h5.fl.c3 ?_
  ·simp only [List.getElem_toArray, List.getElem_cons_succ, List.getElem_cons_zero, execOp, R2.ev_same, R2.ev_other, R2.size_put, ne_eq, Nat.reduceEqDiff, not_false_eq_true, h9, h6, s57, s58, s59, s60, s61, s62, s63, s64, s65]
   go_simp
  simp only [List.getElem_toArray, List.getElem_cons_succ, List.getElem_cons_zero]
  have hth : w5.there (w.heap.size + 1) 0 2 := fun j hj => by
   match j, hj with
   | 0, _ => exact ⟨by rw [h5.fl.r0.1]; rfl, h5.fl.r0.2.1⟩
   | 1, _ => exact ⟨by rw [h5.fl.r1.1]; rfl, h5.fl.r1.2.1⟩
  refine R2.last_store (i := 9) (by kernel_rfl) rfl rfl 25 (.tmp 6) (.tmp 65) rfl (w.heap.size + 1) 0 [.string ⟨a.data.toList.toArray⟩, .string ⟨ld.toArray⟩] (by simp only [R2.ev_same, R2.ev_other, R2.size_put, ne_eq, Nat.reduceEqDiff, not_false_eq_true, h9, h6, s57, s58, s59, s60, s61, s62, s63, s64, s65]) (by simp only [R2.ev_same, R2.ev_other, R2.size_put, ne_eq, Nat.reduceEqDiff, not_false_eq_true, h9, h6, s57, s58, s59, s60, s61, s62, s63, s64, s65]) hth infoDev (by simp [Value.oneCell']) (h5.fl.c3.set (fun e => hnf e.symm) _) (by kernel_rfl) ?_
  refine NoPanic.normal ?_
  have hh : (w5.setCells (w.heap.size + 1) 0 [.string ⟨a.data.toList.toArray⟩, .string ⟨ld.toArray⟩]).heap[D]? = some (.deferred (some [])) := (heap_set _ (by omega) _ _ ()).trans h5.dk
  have hrng := World.rangeAt_setCells_same w5 (w.heap.size + 1) 0 [.string ⟨a.data.toList.toArray⟩, .string ⟨ld.toArray⟩] hth
  have hbel := B0.below_setCells (Nat.le_succ w.heap.size) [.string ⟨a.data.toList.toArray⟩, .string ⟨ld.toArray⟩] 0 _ h5.fl.bel
  rw [hself] at hh hrng hbel ⊢
  obtain ⟨W6, hW6⟩ : ∃ W6, w5.setCells (w.heap.size + 1) 0 [.string a, .string ⟨ld.toArray⟩] = W6 := ⟨_, rfl⟩
  rw [hW6] at hh hrng hbel ⊢
  refine hKr _ _ ?_
  refine R2.abs_wp _ (fun A2 => A2.eval (.tmp 6) = .pointer (some ⟨w.heap.size + 1, 0, none⟩) ∧ A2.defers = [{ target := .collected D, args := #[] }]) ⟨by simp only [List.getElem_toArray, List.getElem_cons_succ, List.getElem_cons_zero, R2.put_none, R2.ev_same, R2.ev_other, R2.size_put, ne_eq, Nat.reduceEqDiff, not_false_eq_true, h9, h6, s57, s58, s59, s60, s61, s62, s63, s64, s65], by simp only [List.getElem_toArray, List.getElem_cons_succ, List.getElem_cons_zero, R2.put_none, R2.defers_put]; exact hdf⟩ ?_
  rintro A2 ⟨k6, kdf⟩
  have hr' : (W6.putObj D (.deferred none)).rangeAt (w.heap.size + 1) 0 [.string a, .string ⟨ld.toArray⟩] := fun j v hj => cell_kept (hrng j v hj) (grownBy_putObj' _ D _) (fun r e => by cases e; exact ⟨_, hh, rfl⟩)
  have hlv := run_loadVar_mid (P := Tryz.prog) _ _ _ 25 _ _ hr' Tryz.underlying25 rfl infoDev
  have hbb := hbel.trans (belowK_b (w := w) (Nat.le_refl _) W6 D _ (.deferred none) (by omega) hh rfl rfl)
  clear hKr h4 h5 hth hrng hbel hFd hSV
  refine wp_ret ?_
  refine R2.leave kdf hh ⟨.agg #[.string a, .string ⟨ld.toArray⟩], ?_, ?_⟩
  ·rw [A0.results_cell rfl]
   show ((asAddr (A2.eval (.tmp 6))).run Tryz.prog _).andThen _ = _
   rw [k6]
   simp only [asAddr, Sem.run_pure, Result.andThen_ok]
   exact hlv
  ·exact ⟨by rw [← hld], hbb⟩
end Go.Proofs.YtljnkicgahepfaaGreatDoor.F1
