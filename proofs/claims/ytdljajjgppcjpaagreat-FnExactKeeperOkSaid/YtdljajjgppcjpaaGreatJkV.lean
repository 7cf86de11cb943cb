/- Joined texts: plain facts and contracts, as each part says. -/
import Derived.Test.YtdljajjgppcjpaaGreatJkU
import Derived.Deep.RegionHeld3
import Derived.Deep.RegionWith
import Derived.Test.YtdljajjgppcjpaaGreatJkL
import Derived.Test.YtdljajjgppcjpaaGreatJkT
import Derived.Test.YtdljajjgppcjpaaGreatJkJ

/- The contract of the program's Flush. -/
namespace Go.Proofs.YtdljajjgppcjpaaGreat.F1
set_option maxRecDepth 10000
open Go.ChangeShapes Go.WideShapes Go.ChangeAt Go.RowKit Go.Shelf
open X0 (row mix)
open F0 (Has)
attribute [local go_sem] Oper.semAt_some
set_option linter.unusedVariables false
set_option linter.unusedSimpArgs false

/-- The lines from the one to the other. -/
def span (x y : Nat) (k : Nat) : Bool := decide (x ≤ k ∧ k ≤ y)
/-- Those of them ahead of one. -/
def upto (x y m : Nat) (k : Nat) : Bool := decide (x ≤ k ∧ k ≤ y ∧ k < m)

/-- What lies ready as the dirty lines are gone through: the two ends, the lines, the place of the answer. -/
structure Fl (w : World) (G f1 f2 f3 x y : Nat) (la ld : List UInt8) (W : World) : Prop where
  dl : A3.Dl G la ld W
  c1 : Has f1 0 (.int .i64 x) W
  c2 : Has f2 0 (.int .i64 y) W
  c3 : Has f3 0 (.pointer (some ⟨G, 0, none⟩)) W
  r0 : Has (w.heap.size + 1) 0 (.string ⟨#[]⟩) W
  r1 : Has (w.heap.size + 1) 1 (.string ⟨#[]⟩) W
  bel : Below w.heap.size w W

variable {w W V : World} {G f1 f2 f3 x y : Nat} {la ld le : List UInt8}

theorem Fl.own {row : Option Nat} {B : Nat} (h : Fl w G f1 f2 f3 x y la ld W) (hB : w.heap.size ≤ B) (hg : W.grownBy V row) (hr : ∀ r, row = some r → B ≤ r ∧ ∃ o : Obj, W.heap[r]? = some o ∧ o.isCells = false) : Fl w G f1 f2 f3 x y la ld V :=
  ⟨F0.dl_own h.dl hg fun r e => (hr r e).2, h.c1.own hg fun r e => (hr r e).2, h.c2.own hg fun r e => (hr r e).2, h.c3.own hg fun r e => (hr r e).2, h.r0.own hg fun r e => (hr r e).2, h.r1.own hg fun r e => (hr r e).2,
   h.bel.grown hg h.bel.size fun r e => Nat.le_trans hB (hr r e).1⟩

theorem Fl.set {k : Nat} (h : Fl w G f1 f2 f3 x y la ld W) (hn : f1 ≠ G ∧ f2 ≠ G ∧ f3 ≠ G ∧ w.heap.size + 1 ≠ G ∧ w.heap.size ≤ G) (hla : la.length = 768) (hld : ld.length = 768) (hk : k < 96) (he : ld.take (k * 8) ++ row la k ++ ld.drop (k * 8 + 8) = le) :
    Fl w G f1 f2 f3 x y la le (W.setCells G (768 + k * 8) (Lib.byteCells (row la k))) :=
  ⟨F0.dl_set h.dl hla hld hk he, h.c1.set hn.1 _, h.c2.set hn.2.1 _, h.c3.set hn.2.2.1 _, h.r0.set hn.2.2.2.1 _, h.r1.set hn.2.2.2.1 _, B0.below_setCells hn.2.2.2.2 _ _ _ h.bel⟩

theorem Fl.drew (h : Fl w G f1 f2 f3 x y la ld W) : Fl w G f1 f2 f3 x y la ld W.drew := ⟨⟨h.dl.m, h.dl.d, h.dl.t, h.dl.lt⟩, h.c1, h.c2, h.c3, h.r0, h.r1, h.bel.drew⟩

theorem keeps_set (B : Nat) (W : World) (g o : Nat) : ∀ (vs : List Value) (o : Nat) (V : World), KeepsFrom B W V → KeepsFrom B W (V.setCells g o vs)
  | [], _, _, h => h
  | v :: r, o, V, h => keeps_set B W g o r (o + 1) _ (h.trans ((KeepsOthers.setCell _ _ _).from _))

theorem keeps_drew (B : Nat) (W : World) : KeepsFrom B W W.drew := ⟨Nat.le_refl _, fun _ _ _ h _ => h⟩

theorem upto_step {x y k i : Nat} (hi : i ≠ k) : upto x y k i = upto x y (k + 1) i := by simp only [upto]; congr 1; apply propext; omega

theorem heap_set {k g : Nat} : ∀ (vs : List Value), k ≠ g → ∀ (o : Nat) (W : World) (_ : Unit), (W.setCells g o vs).heap[k]? = W.heap[k]?
  | [], _, _, _, _ => rfl
  | v :: r, h, o, W, u => (heap_set r h (o + 1) _ u).trans (Below.heap_setCell _ _ _ _ h)

theorem infoDev : (Tryz.prog.info? 48).map (·.size) = some 2 := by kernel_rfl

theorem fr_alloc {B : Nat} {w W : World} {a b : ByteArray} (h : D2.Fr B w a b W) (o : Obj) : D2.Fr B w a b (W.alloc o) := h.below ((Below.refl _ _).alloc (Nat.le_refl _) o)

theorem fl_start {a b : ByteArray} {w2 w3 : World} (h1 : D2.Fr w.heap.size w a b w2) (hG : ((w2.alloc (.cells #[.int .i64 (x : Int)] 3)).alloc (.cells #[.int .i64 (y : Int)] 3)).heap.size ≤ G) (hD : A3.Dl G la ld w3)
    (b3 : Below ((w2.alloc (.cells #[.int .i64 (x : Int)] 3)).alloc (.cells #[.int .i64 (y : Int)] 3)).heap.size ((w2.alloc (.cells #[.int .i64 (x : Int)] 3)).alloc (.cells #[.int .i64 (y : Int)] 3)) w3) :
    Fl w G w2.heap.size (w2.heap.size + 1) w3.heap.size x y la ld (w3.alloc (.cells #[.pointer (some ⟨G, 0, none⟩)] 202)) ∧ w2.heap.size ≠ G ∧ w2.heap.size + 1 ≠ G ∧ w3.heap.size ≠ G ∧ w.heap.size + 1 ≠ G ∧ w.heap.size ≤ G ∧ ¬ w.heap.size + 1 = w3.heap.size := by
  have hb := (Below.refl w3.heap.size w3).alloc (Nat.le_refl _) (.cells #[.pointer (some ⟨G, 0, none⟩)] 202)
  have g1 := ((F0.has_new w2 (.int .i64 (x : Int)) 3 #[.int .i64 (x : Int)] 0 rfl).alloc (.cells #[.int .i64 (y : Int)] 3)).below b3
  have g2 := (F0.has_new (w2.alloc (.cells #[.int .i64 (x : Int)] 3)) (.int .i64 (y : Int)) 3 #[.int .i64 (y : Int)] 0 rfl).below b3
  rw [World.size_alloc] at g2
  have h3 := (fr_alloc (fr_alloc h1 (.cells #[.int .i64 (x : Int)] 3)) (.cells #[.int .i64 (y : Int)] 3)).below b3
  have hs := h1.lt
  have hl := hD.lt
  simp only [World.size_alloc] at hG
  refine ⟨⟨F0.dl_below hD hb, g1.below hb, g2.below hb, F0.has_new w3 _ _ _ 0 rfl, Has.below ⟨h3.r0, h3.f0, h3.lt⟩ hb, Has.below ⟨h3.r1, h3.f1, h3.lt⟩ hb, h3.bel.alloc h3.bel.size _⟩, ?_, ?_, ?_, ?_, ?_, ?_⟩ <;> (have := h3.lt; omega)

theorem Fl.below (h : Fl w G f1 f2 f3 x y la ld W) (hb : Below W.heap.size W V) : Fl w G f1 f2 f3 x y la ld V :=
  ⟨F0.dl_below h.dl hb, h.c1.below hb, h.c2.below hb, h.c3.below hb, h.r0.below hb, h.r1.below hb, h.bel.trans (hb.mono h.bel.size)⟩

/-- The same, the block of what is deferred beside it. -/
structure Fd (D : Nat) (w : World) (G f1 f2 f3 x y : Nat) (la ld : List UInt8) (W : World) : Prop where
  fl : Fl w G f1 f2 f3 x y la ld W
  dk : W.heap[D]? = some (.deferred (some []))

theorem Fd.below {D : Nat} (h : Fd D w G f1 f2 f3 x y la ld W) (hb : Below W.heap.size W V) : Fd D w G f1 f2 f3 x y la ld V :=
  ⟨h.fl.below hb, (hb.block D (Array.getElem?_eq_some_iff.1 h.dk).1).trans h.dk⟩

theorem Fd.drew {D : Nat} (h : Fd D w G f1 f2 f3 x y la ld W) : Fd D w G f1 f2 f3 x y la ld W.drew := ⟨h.fl.drew, h.dk⟩

theorem text_m {D : Nat} (h : Fd D w G f1 f2 f3 x y la ld W) (hl : la.length = 768) :
    Calls Tryz.prog 158 #[.pointer (some ⟨G, 0, none⟩)] W fun e w' => e = .returned (.string ⟨la.toArray⟩) ∧ Fd D w G f1 f2 f3 x y la ld w' :=
  (A2.text la G 0 W hl h.fl.dl.lt h.fl.dl.m).mono fun _ _ ⟨he, hb⟩ => ⟨he, h.below hb⟩

theorem text_d {D : Nat} (h : Fd D w G f1 f2 f3 x y la ld W) (hl : ld.length = 768) :
    Calls Tryz.prog 158 #[.pointer (some ⟨G, 768, none⟩)] W fun e w' => e = .returned (.string ⟨ld.toArray⟩) ∧ Fd D w G f1 f2 f3 x y la ld w' :=
  (A2.text ld G 768 W hl h.fl.dl.lt h.fl.dl.d).mono fun _ _ ⟨he, hb⟩ => ⟨he, h.below hb⟩

set_option maxRecDepth 100000 in
set_option maxHeartbeats 8000000 in
theorem impl_Flush_main (a b : ByteArray) (i n : Int) (w : World) (ha : a.size = 768) (hb : b.size = 768) (hi : 0 ≤ i) (hn : 1 ≤ n) (hin : i + n ≤ 768) :
    Calls Tryz.prog 133 #[.agg #[.string a, .string b], .int .i64 i, .int .i64 n] w fun e w' => e = .returned (.agg #[.string a, .string ⟨(mix a.data.toList b.data.toList (span (i.toNat / 8) ((i.toNat + n.toNat - 1) / 8))).toArray⟩]) ∧ Below w.heap.size w w' := by
  obtain ⟨m, rfl⟩ : ∃ m : Nat, i = m := ⟨i.toNat, by omega⟩
  obtain ⟨c, rfl⟩ : ∃ c : Nat, n = c := ⟨n.toNat, by omega⟩
  have hla : a.data.toList.length = 768 := by rw [← Lib.size_eq]; exact ha
  have hlb : b.data.toList.length = 768 := by rw [← Lib.size_eq]; exact hb
  have hok : D1.ok a b = true := D1.ok_mk ha hb
  have hlie : B2.lies a.size (m : Int) (c : Int) = true := decide_eq_true (by omega)
  have hF := D2.fr_new a b w
  simp only [Int.toNat_natCast]
  obtain ⟨x, hx⟩ : ∃ x, m / 8 = x := ⟨_, rfl⟩
  obtain ⟨y, hy⟩ : ∃ y, (m + c - 1) / 8 = y := ⟨_, rfl⟩
  rw [hx, hy]
  have q1 : (m : Int) / 8 = (x : Int) := by omega
  have q2 : ((m : Int) + (c : Int) - 1) / 8 = (y : Int) := by omega
  have q3 : Int.tdiv (m : Int) 8 = (x : Int) := by rw [Int.tdiv_eq_ediv_of_nonneg (by omega)]; exact q1
  have q4 : Int.tdiv ((m : Int) + (c : Int) - 1) 8 = (y : Int) := by rw [Int.tdiv_eq_ediv_of_nonneg (by omega)]; exact q2
  have hxy : Hid (x ≤ y ∧ y < 96) := show _ ∧ _ by omega
  clear hx hy
  have hn0 : ((c : Int) == 0) = false := by simp; omega
  refine (callsIn_wide (n := 5)).1 ?_
  refine callsIn_of_wp_marks Tryz.func133 rfl trivial ?_ rfl
  simp only [Tryz.ntmps133, List.size_toArray, List.length_cons, List.length_nil, Nat.reduceAdd, Nat.reduceSub, Array.replicate_succ, Array.replicate_zero, List.push_toArray, List.append_toArray, List.nil_append, List.cons_append]
  refine wpIn_wide.2 ?_
  go_wp2_with (first
    | (go_at_call 60; refine (D2.impl_DevOk_fr _ _ (by omega) (by omega) hF).mono ?_; rintro e w1 ⟨rfl, h1⟩; have c0 := h1.c0; have c1 := h1.c1; have h2 := (fr_alloc h1 (.cells #[.int .i64 x] 3)); have h3 := fr_alloc h2 (.cells #[.int .i64 y] 3); have d0 := h3.c0; have d1 := h3.c1)
    | (go_at_call 45; refine (B2.liesIn_any _ _ _ _ (by unfold maxLen; omega)).mono ?_; rintro e w2 ⟨rfl, rfl⟩; rw [hlie])
    | (go_at_call 156; refine (A3.cutDev a b _ ha hb).mono ?_; rintro e w3 ⟨G, rfl, hG, hD, b3⟩; rename_i w2 _))
  obtain ⟨hfl, hn1⟩ := fl_start h1 hG hD b3
  have hnf := hn1.2.2.2.2.2
  replace hn1 := (⟨hn1.1, hn1.2.1, hn1.2.2.1, hn1.2.2.2.1, hn1.2.2.2.2.1⟩ : _ ∧ _ ∧ _ ∧ _ ∧ _)
  clear d0 d1 h2 h3 c0 c1
  have hsz : w.heap.size ≤ (w3.alloc (.cells #[.pointer (some ⟨G, 0, none⟩)] 202)).heap.size := hfl.bel.size
  obtain ⟨WL, hWL⟩ : ∃ WL, w3.alloc (.cells #[.pointer (some ⟨G, 0, none⟩)] 202) = WL := ⟨_, rfl⟩
  rw [hWL] at hfl hsz ⊢
  clear hWL h1 hG hD b3 hF
  obtain ⟨f1, hf1⟩ : ∃ f1, w2.heap.size = f1 := ⟨_, rfl⟩
  obtain ⟨f3, hf3⟩ : ∃ f3, w3.heap.size = f3 := ⟨_, rfl⟩
  rw [hf1, hf3] at hfl hn1 ⊢
  rw [hf3] at hnf
  clear hf1 hf3
  refine wpIn_wide.1 (R0.range_bound (n := 5) (gf := 157) (N := 96) (bd := #[.pointer (some ⟨G, 0, none⟩)]) rfl (enters_of Tryz.func157 (by kernel_rfl) rfl) rfl
    (fun k W => Fl w G f1 (f1 + 1) f3 x y a.data.toList (mix a.data.toList b.data.toList (upto x y k)) W) (R1.Differ G a.data.toList)
    (fun c W => c = .exit 0 ∧ Fl w G f1 (f1 + 1) f3 x y a.data.toList (mix a.data.toList b.data.toList (span x y)) W)
    (fun k W V row h hg hr => h.own hsz hg hr) (fun k W V row ⟨lb', h1, h2, h3⟩ hg hr => ⟨lb', h1, F0.dl_own h2 hg (fun r e => (hr r e).2), h3⟩) (fun c W V row h hg hr => ⟨h.1, h.2.own hsz hg hr⟩)
    (by rw [X0.mix_none _ _ hlb _ (fun k _ => by simp [upto])]; exact hfl)
    (fun l J Jx W a1 a2 a3 a4 a5 a6 => R1.dirty_in 5 G a.data.toList hla _ (fun k W h => ⟨_, X0.mix_len _ _ _, h.dl⟩) (fun k W lb' hk h hl' hd' he => by
      have e := F0.dl_unique hd' h.dl (by rw [hl', X0.mix_len])
      subst e
      rw [X0.mix_same _ _ (upto x y k) (upto x y (k + 1)) k hla (fun i _ hi => upto_step hi) hk (by simp [upto]) he]
      exact h) l J Jx W a1 a2 a3 a4 a5 a6) ?round ?done ?stop)
  case round =>
    rintro l k W V hk hI -
    clear hfl
    have e1 : (0 : Int) ≤ (k : Int) := by omega
    have e2 : (k : Int) < 96 := by omega
    have c1 := hI.c1.1
    have c2 := hI.c2.1
    have c3 := hI.c3.1
    by_cases h1 : (y : Int) < (k : Int)
    · have e := X0.mix_congr a.data.toList b.data.toList (upto x y k) (span x y) (fun i _ => by simp only [upto, span]; congr 1; apply propext; omega)
      gi_wp2
      refine ⟨trivial, ?_⟩
      gi_wp2
      exact ⟨KeepsFrom.refl _ _, rfl, e ▸ hI⟩
    · by_cases h2 : (x : Int) ≤ (k : Int)
      · obtain ⟨ld, hld⟩ : ∃ ld, mix a.data.toList b.data.toList (upto x y k) = ld := ⟨_, rfl⟩
        have hll : ld.length = 768 := by rw [← hld, X0.mix_len]
        have he : Hid (ld.take (k * 8) ++ row a.data.toList k ++ ld.drop (k * 8 + 8) = mix a.data.toList b.data.toList (upto x y (k + 1))) := by
          rw [← hld]; exact X0.mix_set _ _ _ _ k hla hk (fun i _ hi => upto_step hi) (by simp only [upto]; exact decide_eq_true (by omega))
        rw [hld] at hI
        have hset := (hI.drew).set hn1 hla hll hk he
        have hrl : (Lib.byteCells (row a.data.toList k)).length = 8 := by rw [Lib.byteCells_length, R1.row_len hla hk]
        have hrow : V.rangeAt G (k * 8) (Lib.byteCells (row a.data.toList k)) := by
          have := A0.rangeAt_part hI.dl.m (k * 8) 8
          rw [A0.bytes_part, Nat.zero_add] at this
          exact this
        have hfin : ∀ a', R0.left WL.heap.size (fun k W => Fl w G f1 (f1 + 1) f3 x y a.data.toList (mix a.data.toList b.data.toList (upto x y k)) W) (fun c W => c = .exit 0 ∧ Fl w G f1 (f1 + 1) f3 x y a.data.toList (mix a.data.toList b.data.toList (span x y)) W) k V .normal a' (V.drew.setCells G (768 + k * 8) (Lib.byteCells (row a.data.toList k))) := fun a' => ⟨keeps_set _ _ _ 0 _ _ _ (keeps_drew _ _), hset⟩
        let S : World → Prop := fun W' => Has f3 0 (.pointer (some ⟨G, 0, none⟩)) W' ∧ W'.rangeAt G (k * 8) (Lib.byteCells (row a.data.toList k)) ∧ W'.there G (768 + k * 8) 8
        have hSV : S V.drew := ⟨hI.c3, hrow, A0.there_sub hI.dl.t (by omega) (by omega)⟩
        gi_wp2
        refine R2.abs_act _ (fun A => A.eval (.tmp 9) = .pointer (some ⟨f3, 0, none⟩) ∧ A.eval (.tmp 10) = .int .i64 (k : Int) ∧ 56 < A.tmps.size) ⟨rfl, rfl, by simp⟩ ?_
        rintro A ⟨h9, h10, hsz'⟩
        have h9' : A.tmps[9]?.getD undef = .pointer (some ⟨f3, 0, none⟩) := by rw [← Array.getD_eq_getD_getElem?]; exact h9
        have h10' : A.tmps[10]?.getD undef = .int .i64 (k : Int) := by rw [← Array.getD_eq_getD_getElem?]; exact h10
        have s46 : 46 < A.tmps.size := by omega
        have s47 : 47 < A.tmps.size := by omega
        have s48 : 48 < A.tmps.size := by omega
        have s49 : 49 < A.tmps.size := by omega
        have s50 : 50 < A.tmps.size := by omega
        have s51 : 51 < A.tmps.size := by omega
        have s52 : 52 < A.tmps.size := by omega
        have s53 : 53 < A.tmps.size := by omega
        have s54 : 54 < A.tmps.size := by omega
        have s55 : 55 < A.tmps.size := by omega
        have s56 : 56 < A.tmps.size := by omega
        clear hsz'
        refine R2.region_round (S := S) (by simp) (by rintro ⟨_, _, h⟩; exact h.elim) (by kernel_rfl) ?_
        refine wpAnyH_take (i := 1) (v := .int .i64 (k : Int)) rfl (by kernel_rfl) (by kernel_rfl) (by kernel_rfl) (fun _ _ _ h => h) (Or.inl ⟨by rfl, fun w' hS' => ?_⟩) hSV ?_
        · simp only [List.getElem_toArray, List.getElem_cons_succ, List.getElem_cons_zero, execOp, R2.ev_same, R2.ev_other, R2.size_put, ne_eq, Nat.reduceEqDiff, not_false_eq_true, h9, h10, s46, s47, s48, s49, s50, s51, s52, s53, s54, s55, s56]
          go_simp
        simp only [List.getElem_toArray, List.getElem_cons_succ, List.getElem_cons_zero]
        refine wpAnyH_take (i := 3) (v := .int .i64 (k : Int)) rfl (by kernel_rfl) (by kernel_rfl) (by kernel_rfl) (fun _ _ _ h => h) (Or.inl ⟨by rfl, fun w' hS' => ?_⟩) hSV ?_
        · simp only [List.getElem_toArray, List.getElem_cons_succ, List.getElem_cons_zero, execOp, R2.ev_same, R2.ev_other, R2.size_put, ne_eq, Nat.reduceEqDiff, not_false_eq_true, h9, h10, s46, s47, s48, s49, s50, s51, s52, s53, s54, s55, s56]
          go_simp
        simp only [List.getElem_toArray, List.getElem_cons_succ, List.getElem_cons_zero]
        refine wpAnyH_take (i := 0) (v := .pointer (some ⟨G, 0, none⟩)) rfl (by kernel_rfl) (by kernel_rfl) (by kernel_rfl) (fun _ _ _ h => h) (Or.inl ⟨by rfl, fun w' hS' => ?_⟩) hSV ?_
        · have hc := hS'.1.1
          simp only [List.getElem_toArray, List.getElem_cons_succ, List.getElem_cons_zero, execOp, R2.ev_same, R2.ev_other, R2.size_put, ne_eq, Nat.reduceEqDiff, not_false_eq_true, h9, h10, s46, s47, s48, s49, s50, s51, s52, s53, s54, s55, s56]
          go_simp
        simp only [List.getElem_toArray, List.getElem_cons_succ, List.getElem_cons_zero]
        refine wpAnyH_take (i := 2) (v := .pointer (some ⟨G, 0, none⟩)) rfl (by kernel_rfl) (by kernel_rfl) (by kernel_rfl) (fun _ _ _ h => h) (Or.inl ⟨by rfl, fun w' hS' => ?_⟩) hSV ?_
        · have hc := hS'.1.1
          simp only [List.getElem_toArray, List.getElem_cons_succ, List.getElem_cons_zero, execOp, R2.ev_same, R2.ev_other, R2.size_put, ne_eq, Nat.reduceEqDiff, not_false_eq_true, h9, h10, s46, s47, s48, s49, s50, s51, s52, s53, s54, s55, s56]
          go_simp
        simp only [List.getElem_toArray, List.getElem_cons_succ, List.getElem_cons_zero]
        refine wpAnyH_take (i := 4) (v := .pointer (some ⟨G, 0, none⟩)) rfl (by kernel_rfl) (by kernel_rfl) (by kernel_rfl) (fun _ _ _ h => h) (Or.inl ⟨by rfl, fun w' hS' => ?_⟩) hSV ?_
        · simp only [List.getElem_toArray, List.getElem_cons_succ, List.getElem_cons_zero, execOp, R2.ev_same, R2.ev_other, R2.size_put, ne_eq, Nat.reduceEqDiff, not_false_eq_true, h9, h10, s46, s47, s48, s49, s50, s51, s52, s53, s54, s55, s56]
          go_simp
        simp only [List.getElem_toArray, List.getElem_cons_succ, List.getElem_cons_zero]
        refine wpAnyH_take (i := 5) (v := .pointer (some ⟨G, 0, none⟩)) rfl (by kernel_rfl) (by kernel_rfl) (by kernel_rfl) (fun _ _ _ h => h) (Or.inl ⟨by rfl, fun w' hS' => ?_⟩) hSV ?_
        · simp only [List.getElem_toArray, List.getElem_cons_succ, List.getElem_cons_zero, execOp, R2.ev_same, R2.ev_other, R2.size_put, ne_eq, Nat.reduceEqDiff, not_false_eq_true, h9, h10, s46, s47, s48, s49, s50, s51, s52, s53, s54, s55, s56]
          go_simp
        simp only [List.getElem_toArray, List.getElem_cons_succ, List.getElem_cons_zero]
        refine wpAnyH_take (i := 6) (v := .pointer (some ⟨G, k * 8, none⟩)) rfl (by kernel_rfl) (by kernel_rfl) (by kernel_rfl) (fun _ _ _ h => h) (Or.inl ⟨by rfl, fun w' hS' => ?_⟩) hSV ?_
        · simp only [List.getElem_toArray, List.getElem_cons_succ, List.getElem_cons_zero, execOp, R2.ev_same, R2.ev_other, R2.size_put, ne_eq, Nat.reduceEqDiff, not_false_eq_true, h9, h10, s46, s47, s48, s49, s50, s51, s52, s53, s54, s55, s56]
          go_simp
        simp only [List.getElem_toArray, List.getElem_cons_succ, List.getElem_cons_zero]
        refine wpAnyH_take (i := 7) (v := .agg (Lib.byteCells (row a.data.toList k)).toArray) rfl (by kernel_rfl) (by kernel_rfl) (by kernel_rfl) (fun _ _ _ h => h) (yieldsIf_load_mid (by rfl) 205 (.tmp 52) rfl G (k * 8) (by simp only [R2.ev_same, R2.ev_other, R2.size_put, ne_eq, Nat.reduceEqDiff, not_false_eq_true, h9, h10, s46, s47, s48, s49, s50, s51, s52, s53, s54, s55, s56]) _ _ (fun w' hS' => hS'.2.1) Tryz.underlying205 rfl (by rw [A0.infoLine, hrl])) hSV ?_
        simp only [List.getElem_toArray, List.getElem_cons_succ, List.getElem_cons_zero]
        refine wpAnyH_take (i := 8) (v := .pointer (some ⟨G, 0, none⟩)) rfl (by kernel_rfl) (by kernel_rfl) (by kernel_rfl) (fun _ _ _ h => h) (Or.inl ⟨by rfl, fun w' hS' => ?_⟩) hSV ?_
        · simp only [List.getElem_toArray, List.getElem_cons_succ, List.getElem_cons_zero, execOp, R2.ev_same, R2.ev_other, R2.size_put, ne_eq, Nat.reduceEqDiff, not_false_eq_true, h9, h10, s46, s47, s48, s49, s50, s51, s52, s53, s54, s55, s56]
          go_simp
        simp only [List.getElem_toArray, List.getElem_cons_succ, List.getElem_cons_zero]
        refine wpAnyH_take (i := 9) (v := .pointer (some ⟨G, 768, none⟩)) rfl (by kernel_rfl) (by kernel_rfl) (by kernel_rfl) (fun _ _ _ h => h) (Or.inl ⟨by rfl, fun w' hS' => ?_⟩) hSV ?_
        · simp only [List.getElem_toArray, List.getElem_cons_succ, List.getElem_cons_zero, execOp, R2.ev_same, R2.ev_other, R2.size_put, ne_eq, Nat.reduceEqDiff, not_false_eq_true, h9, h10, s46, s47, s48, s49, s50, s51, s52, s53, s54, s55, s56]
          go_simp
        simp only [List.getElem_toArray, List.getElem_cons_succ, List.getElem_cons_zero]
        refine wpAnyH_take (i := 10) (v := .pointer (some ⟨G, 768 + k * 8, none⟩)) rfl (by kernel_rfl) (by kernel_rfl) (by kernel_rfl) (fun _ _ _ h => h) (Or.inl ⟨by rfl, fun w' hS' => ?_⟩) hSV ?_
        · simp only [List.getElem_toArray, List.getElem_cons_succ, List.getElem_cons_zero, execOp, R2.ev_same, R2.ev_other, R2.size_put, ne_eq, Nat.reduceEqDiff, not_false_eq_true, h9, h10, s46, s47, s48, s49, s50, s51, s52, s53, s54, s55, s56]
          go_simp
        simp only [List.getElem_toArray, List.getElem_cons_succ, List.getElem_cons_zero]
        refine R2.last_store (i := 11) (by kernel_rfl) rfl rfl 205 (.tmp 56) (.tmp 53) rfl G (768 + k * 8) (Lib.byteCells (row a.data.toList k)) (by simp only [R2.ev_same, R2.ev_other, R2.size_put, ne_eq, Nat.reduceEqDiff, not_false_eq_true, h9, h10, s46, s47, s48, s49, s50, s51, s52, s53, s54, s55, s56]) (by simp only [R2.ev_same, R2.ev_other, R2.size_put, ne_eq, Nat.reduceEqDiff, not_false_eq_true, h9, h10, s46, s47, s48, s49, s50, s51, s52, s53, s54, s55, s56]) (by rw [hrl]; exact hSV.2.2) (by rw [A0.infoLine, hrl]) (Lib.byteCells_one _)
          ⟨hSV.1.set hn1.2.2.1 _, World.rangeAt_setCells_apart hSV.2.1 _ _ _ (by rw [hrl]; omega), World.there_setCells hSV.2.2 _ _ _⟩ (by kernel_rfl) ?_
        exact ⟨(hfin A).1, (hfin A).2⟩
      · have e := X0.mix_congr a.data.toList b.data.toList (upto x y k) (upto x y (k + 1)) (fun i _ => by simp only [upto]; congr 1; apply propext; omega)
        gi_wp2
        rw [e] at hI
        exact ⟨KeepsFrom.refl _ _, hI⟩
  case done =>
    rintro D W hD hI hK
    have hlt1 := hfl.r0.2.2
    clear hfl
    rw [X0.mix_congr _ _ (upto x y 96) (span x y) (fun i hi => by simp only [upto, span]; congr 1; apply propext; omega)] at hI
    go_wp2
    rename_i K hKr
    obtain ⟨ld, hld⟩ : ∃ ld, mix a.data.toList b.data.toList (span x y) = ld := ⟨_, rfl⟩
    have hll : ld.length = 768 := by rw [← hld, X0.mix_len]
    rw [hld] at hI
    have hself : (⟨a.data.toList.toArray⟩ : ByteArray) = a := Lib.mk_data a
    have hFd : Fd D w G f1 (f1 + 1) f3 x y a.data.toList ld W.drew := Fd.drew ⟨hI, hK⟩
    refine R2.abs_wp _ (fun A => A.eval (.tmp 9) = .pointer (some ⟨f3, 0, none⟩) ∧ A.eval (.tmp 6) = .pointer (some ⟨w.heap.size + 1, 0, none⟩) ∧ 65 < A.tmps.size ∧ A.defers = [{ target := .collected D, args := #[] }]) ⟨rfl, rfl, by simp, rfl⟩ ?_
    rintro A ⟨h9, h6, hsz', hdf⟩
    have h9' : A.tmps[9]?.getD undef = .pointer (some ⟨f3, 0, none⟩) := by rw [← Array.getD_eq_getD_getElem?]; exact h9
    have s57 : 57 < A.tmps.size := by omega
    have s58 : 58 < A.tmps.size := by omega
    have s59 : 59 < A.tmps.size := by omega
    have s60 : 60 < A.tmps.size := by omega
    have s61 : 61 < A.tmps.size := by omega
    have s62 : 62 < A.tmps.size := by omega
    have s63 : 63 < A.tmps.size := by omega
    have s64 : 64 < A.tmps.size := by omega
    have s65 : 65 < A.tmps.size := by omega
    clear hsz'
    have hSV : Has f3 0 (.pointer (some ⟨G, 0, none⟩)) W.drew := hFd.fl.c3
    refine wp_region_noPanic ?_
    refine wp_region_held (S := Has f3 0 (.pointer (some ⟨G, 0, none⟩))) (by kernel_rfl) ?_
    refine wpAnyH_take (i := 0) (v := .pointer (some ⟨G, 0, none⟩)) rfl (by kernel_rfl) (by kernel_rfl) (by kernel_rfl) (fun _ _ _ h => h) (Or.inl ⟨by rfl, fun w' hS' => ?_⟩) hSV ?_
    · have hc := hS'.1
      simp only [List.getElem_toArray, List.getElem_cons_succ, List.getElem_cons_zero, execOp, R2.ev_same, R2.ev_other, R2.size_put, ne_eq, Nat.reduceEqDiff, not_false_eq_true, h9, h6, s57, s58, s59, s60, s61, s62, s63, s64, s65]
      go_simp
    simp only [List.getElem_toArray, List.getElem_cons_succ, List.getElem_cons_zero]
    refine wpAnyH_take (i := 4) (v := .pointer (some ⟨G, 0, none⟩)) rfl (by kernel_rfl) (by kernel_rfl) (by kernel_rfl) (fun _ _ _ h => h) (Or.inl ⟨by rfl, fun w' hS' => ?_⟩) hSV ?_
    · have hc := hS'.1
      simp only [List.getElem_toArray, List.getElem_cons_succ, List.getElem_cons_zero, execOp, R2.ev_same, R2.ev_other, R2.size_put, ne_eq, Nat.reduceEqDiff, not_false_eq_true, h9, h6, s57, s58, s59, s60, s61, s62, s63, s64, s65]
      go_simp
    simp only [List.getElem_toArray, List.getElem_cons_succ, List.getElem_cons_zero]
    refine wpAnyH_take (i := 1) (v := .pointer (some ⟨G, 0, none⟩)) rfl (by kernel_rfl) (by kernel_rfl) (by kernel_rfl) (fun _ _ _ h => h) (Or.inl ⟨by rfl, fun w' hS' => ?_⟩) hSV ?_
    · simp only [List.getElem_toArray, List.getElem_cons_succ, List.getElem_cons_zero, execOp, R2.ev_same, R2.ev_other, R2.size_put, ne_eq, Nat.reduceEqDiff, not_false_eq_true, h9, h6, s57, s58, s59, s60, s61, s62, s63, s64, s65]
      go_simp
    simp only [List.getElem_toArray, List.getElem_cons_succ, List.getElem_cons_zero]
    refine wpAnyH_take (i := 5) (v := .pointer (some ⟨G, 0, none⟩)) rfl (by kernel_rfl) (by kernel_rfl) (by kernel_rfl) (fun _ _ _ h => h) (Or.inl ⟨by rfl, fun w' hS' => ?_⟩) hSV ?_
    · simp only [List.getElem_toArray, List.getElem_cons_succ, List.getElem_cons_zero, execOp, R2.ev_same, R2.ev_other, R2.size_put, ne_eq, Nat.reduceEqDiff, not_false_eq_true, h9, h6, s57, s58, s59, s60, s61, s62, s63, s64, s65]
      go_simp
    simp only [List.getElem_toArray, List.getElem_cons_succ, List.getElem_cons_zero]
    refine wpAnyH_take (i := 2) (v := .pointer (some ⟨G, 0, none⟩)) rfl (by kernel_rfl) (by kernel_rfl) (by kernel_rfl) (fun _ _ _ h => h) (Or.inl ⟨by rfl, fun w' hS' => ?_⟩) hSV ?_
    · simp only [List.getElem_toArray, List.getElem_cons_succ, List.getElem_cons_zero, execOp, R2.ev_same, R2.ev_other, R2.size_put, ne_eq, Nat.reduceEqDiff, not_false_eq_true, h9, h6, s57, s58, s59, s60, s61, s62, s63, s64, s65]
      go_simp
    simp only [List.getElem_toArray, List.getElem_cons_succ, List.getElem_cons_zero]
    refine wpAnyH_take (i := 6) (v := .pointer (some ⟨G, 768, none⟩)) rfl (by kernel_rfl) (by kernel_rfl) (by kernel_rfl) (fun _ _ _ h => h) (Or.inl ⟨by rfl, fun w' hS' => ?_⟩) hSV ?_
    · simp only [List.getElem_toArray, List.getElem_cons_succ, List.getElem_cons_zero, execOp, R2.ev_same, R2.ev_other, R2.size_put, ne_eq, Nat.reduceEqDiff, not_false_eq_true, h9, h6, s57, s58, s59, s60, s61, s62, s63, s64, s65]
      go_simp
    simp only [List.getElem_toArray, List.getElem_cons_succ, List.getElem_cons_zero]
    refine R2.one_call (i := 3) (by kernel_rfl) rfl rfl (.tmp 59) _ rfl (.pointer (some ⟨G, 0, none⟩)) (by simp only [R2.ev_same, R2.ev_other, R2.size_put, ne_eq, Nat.reduceEqDiff, not_false_eq_true, h9, h6, s57, s58, s59, s60, s61, s62, s63, s64, s65]) (enters_of Tryz.func158 (by kernel_rfl) rfl) ((text_m hFd hla).mono ?_)
    rintro e w4 ⟨rfl, h4⟩
    refine ⟨_, rfl, h4.fl.c3, ?_⟩
    simp only [List.getElem_toArray, List.getElem_cons_succ, List.getElem_cons_zero]
    refine R2.one_call (i := 7) (by kernel_rfl) rfl rfl (.tmp 63) _ rfl (.pointer (some ⟨G, 768, none⟩)) (by simp only [R2.ev_same, R2.ev_other, R2.size_put, ne_eq, Nat.reduceEqDiff, not_false_eq_true, h9, h6, s57, s58, s59, s60, s61, s62, s63, s64, s65]) (enters_of Tryz.func158 (by kernel_rfl) rfl) ((text_d h4 hll).mono ?_)
    rintro e w5 ⟨rfl, h5⟩
    refine ⟨_, rfl, h5.fl.c3, ?_⟩
    simp only [List.getElem_toArray, List.getElem_cons_succ, List.getElem_cons_zero]
    refine wpAnyH_take (i := 8) (v := .agg #[.string ⟨a.data.toList.toArray⟩, .string ⟨ld.toArray⟩]) rfl (by kernel_rfl) (by kernel_rfl) (by kernel_rfl) (fun _ _ _ h => h) (Or.inl ⟨by rfl, fun w' hS' => ?_⟩) h5.fl.c3 ?_
    · simp only [List.getElem_toArray, List.getElem_cons_succ, List.getElem_cons_zero, execOp, R2.ev_same, R2.ev_other, R2.size_put, ne_eq, Nat.reduceEqDiff, not_false_eq_true, h9, h6, s57, s58, s59, s60, s61, s62, s63, s64, s65]
      go_simp
    simp only [List.getElem_toArray, List.getElem_cons_succ, List.getElem_cons_zero]
    have hth : w5.there (w.heap.size + 1) 0 2 := fun j hj => by
      match j, hj with
      | 0, _ => exact ⟨by rw [h5.fl.r0.1]; rfl, h5.fl.r0.2.1⟩
      | 1, _ => exact ⟨by rw [h5.fl.r1.1]; rfl, h5.fl.r1.2.1⟩
    refine R2.last_store (i := 9) (by kernel_rfl) rfl rfl 48 (.tmp 6) (.tmp 65) rfl (w.heap.size + 1) 0 [.string ⟨a.data.toList.toArray⟩, .string ⟨ld.toArray⟩] (by simp only [R2.ev_same, R2.ev_other, R2.size_put, ne_eq, Nat.reduceEqDiff, not_false_eq_true, h9, h6, s57, s58, s59, s60, s61, s62, s63, s64, s65]) (by simp only [R2.ev_same, R2.ev_other, R2.size_put, ne_eq, Nat.reduceEqDiff, not_false_eq_true, h9, h6, s57, s58, s59, s60, s61, s62, s63, s64, s65]) hth infoDev (by simp [Value.oneCell']) (h5.fl.c3.set (fun e => hnf e.symm) _) (by kernel_rfl) ?_
    refine NoPanic.normal ?_
    have hh : (w5.setCells (w.heap.size + 1) 0 [.string ⟨a.data.toList.toArray⟩, .string ⟨ld.toArray⟩]).heap[D]? = some (.deferred (some [])) := (heap_set _ (by omega) _ _ ()).trans h5.dk
    have hrng := World.rangeAt_setCells_same w5 (w.heap.size + 1) 0 [.string ⟨a.data.toList.toArray⟩, .string ⟨ld.toArray⟩] hth
    have hbel := B0.below_setCells (Nat.le_succ w.heap.size) [.string ⟨a.data.toList.toArray⟩, .string ⟨ld.toArray⟩] 0 _ h5.fl.bel
    rw [hself] at hh hrng hbel ⊢
    obtain ⟨W6, hW6⟩ : ∃ W6, w5.setCells (w.heap.size + 1) 0 [.string a, .string ⟨ld.toArray⟩] = W6 := ⟨_, rfl⟩
    rw [hW6] at hh hrng hbel ⊢
    refine hKr _ _ ?_
    refine R2.abs_wp _ (fun A2 => A2.eval (.tmp 6) = .pointer (some ⟨w.heap.size + 1, 0, none⟩) ∧ A2.defers = [{ target := .collected D, args := #[] }]) ⟨by simp only [List.getElem_toArray, List.getElem_cons_succ, List.getElem_cons_zero, R2.put_none, R2.ev_same, R2.ev_other, R2.size_put, ne_eq, Nat.reduceEqDiff, not_false_eq_true, h9, h6, s57, s58, s59, s60, s61, s62, s63, s64, s65], by simp only [List.getElem_toArray, List.getElem_cons_succ, List.getElem_cons_zero, R2.put_none, R2.defers_put]; exact hdf⟩ ?_
    rintro A2 ⟨k6, kdf⟩
    have hr' : (W6.putObj D (.deferred none)).rangeAt (w.heap.size + 1) 0 [.string a, .string ⟨ld.toArray⟩] := fun j v hj => cell_kept (hrng j v hj) (grownBy_putObj' _ D _) (fun r e => by cases e; exact ⟨_, hh, rfl⟩)
    have hlv := run_loadVar_mid (P := Tryz.prog) _ _ _ 48 _ _ hr' Tryz.underlying48 rfl infoDev
    have hbb := hbel.trans (belowK_b (w := w) (Nat.le_refl _) W6 D _ (.deferred none) (by omega) hh rfl rfl)
    clear hKr h4 h5 hth hrng hbel hFd hSV
    refine wp_ret ?_
    refine R2.leave kdf hh ⟨.agg #[.string a, .string ⟨ld.toArray⟩], ?_, ?_⟩
    · rw [A0.results_cell rfl]
      show ((asAddr (A2.eval (.tmp 6))).run Tryz.prog _).andThen _ = _
      rw [k6]
      simp only [asAddr, Sem.run_pure, Result.andThen_ok]
      exact hlv
    · exact ⟨by rw [← hld], hbb⟩
  case stop =>
    rintro D c W hD ⟨rfl, hI⟩ hK
    have hlt1 := hfl.r0.2.2
    clear hfl
    refine wpIn_wide.2 ?_
    go_wp2
    rename_i K hKr
    obtain ⟨ld, hld⟩ : ∃ ld, mix a.data.toList b.data.toList (span x y) = ld := ⟨_, rfl⟩
    have hll : ld.length = 768 := by rw [← hld, X0.mix_len]
    rw [hld] at hI
    have hself : (⟨a.data.toList.toArray⟩ : ByteArray) = a := Lib.mk_data a
    have hFd : Fd D w G f1 (f1 + 1) f3 x y a.data.toList ld W.drew := Fd.drew ⟨hI, hK⟩
    refine R2.abs_wp _ (fun A => A.eval (.tmp 9) = .pointer (some ⟨f3, 0, none⟩) ∧ A.eval (.tmp 6) = .pointer (some ⟨w.heap.size + 1, 0, none⟩) ∧ 65 < A.tmps.size ∧ A.defers = [{ target := .collected D, args := #[] }]) ⟨rfl, rfl, by simp, rfl⟩ ?_
    rintro A ⟨h9, h6, hsz', hdf⟩
    have h9' : A.tmps[9]?.getD undef = .pointer (some ⟨f3, 0, none⟩) := by rw [← Array.getD_eq_getD_getElem?]; exact h9
    have s57 : 57 < A.tmps.size := by omega
    have s58 : 58 < A.tmps.size := by omega
    have s59 : 59 < A.tmps.size := by omega
    have s60 : 60 < A.tmps.size := by omega
    have s61 : 61 < A.tmps.size := by omega
    have s62 : 62 < A.tmps.size := by omega
    have s63 : 63 < A.tmps.size := by omega
    have s64 : 64 < A.tmps.size := by omega
    have s65 : 65 < A.tmps.size := by omega
    clear hsz'
    have hSV : Has f3 0 (.pointer (some ⟨G, 0, none⟩)) W.drew := hFd.fl.c3
    refine wp_region_noPanic ?_
    refine wp_region_held (S := Has f3 0 (.pointer (some ⟨G, 0, none⟩))) (by kernel_rfl) ?_
    refine wpAnyH_take (i := 0) (v := .pointer (some ⟨G, 0, none⟩)) rfl (by kernel_rfl) (by kernel_rfl) (by kernel_rfl) (fun _ _ _ h => h) (Or.inl ⟨by rfl, fun w' hS' => ?_⟩) hSV ?_
    · have hc := hS'.1
      simp only [List.getElem_toArray, List.getElem_cons_succ, List.getElem_cons_zero, execOp, R2.ev_same, R2.ev_other, R2.size_put, ne_eq, Nat.reduceEqDiff, not_false_eq_true, h9, h6, s57, s58, s59, s60, s61, s62, s63, s64, s65]
      go_simp
    simp only [List.getElem_toArray, List.getElem_cons_succ, List.getElem_cons_zero]
    refine wpAnyH_take (i := 4) (v := .pointer (some ⟨G, 0, none⟩)) rfl (by kernel_rfl) (by kernel_rfl) (by kernel_rfl) (fun _ _ _ h => h) (Or.inl ⟨by rfl, fun w' hS' => ?_⟩) hSV ?_
    · have hc := hS'.1
      simp only [List.getElem_toArray, List.getElem_cons_succ, List.getElem_cons_zero, execOp, R2.ev_same, R2.ev_other, R2.size_put, ne_eq, Nat.reduceEqDiff, not_false_eq_true, h9, h6, s57, s58, s59, s60, s61, s62, s63, s64, s65]
      go_simp
    simp only [List.getElem_toArray, List.getElem_cons_succ, List.getElem_cons_zero]
    refine wpAnyH_take (i := 1) (v := .pointer (some ⟨G, 0, none⟩)) rfl (by kernel_rfl) (by kernel_rfl) (by kernel_rfl) (fun _ _ _ h => h) (Or.inl ⟨by rfl, fun w' hS' => ?_⟩) hSV ?_
    · simp only [List.getElem_toArray, List.getElem_cons_succ, List.getElem_cons_zero, execOp, R2.ev_same, R2.ev_other, R2.size_put, ne_eq, Nat.reduceEqDiff, not_false_eq_true, h9, h6, s57, s58, s59, s60, s61, s62, s63, s64, s65]
      go_simp
    simp only [List.getElem_toArray, List.getElem_cons_succ, List.getElem_cons_zero]
    refine wpAnyH_take (i := 5) (v := .pointer (some ⟨G, 0, none⟩)) rfl (by kernel_rfl) (by kernel_rfl) (by kernel_rfl) (fun _ _ _ h => h) (Or.inl ⟨by rfl, fun w' hS' => ?_⟩) hSV ?_
    · simp only [List.getElem_toArray, List.getElem_cons_succ, List.getElem_cons_zero, execOp, R2.ev_same, R2.ev_other, R2.size_put, ne_eq, Nat.reduceEqDiff, not_false_eq_true, h9, h6, s57, s58, s59, s60, s61, s62, s63, s64, s65]
      go_simp
    simp only [List.getElem_toArray, List.getElem_cons_succ, List.getElem_cons_zero]
    refine wpAnyH_take (i := 2) (v := .pointer (some ⟨G, 0, none⟩)) rfl (by kernel_rfl) (by kernel_rfl) (by kernel_rfl) (fun _ _ _ h => h) (Or.inl ⟨by rfl, fun w' hS' => ?_⟩) hSV ?_
    · simp only [List.getElem_toArray, List.getElem_cons_succ, List.getElem_cons_zero, execOp, R2.ev_same, R2.ev_other, R2.size_put, ne_eq, Nat.reduceEqDiff, not_false_eq_true, h9, h6, s57, s58, s59, s60, s61, s62, s63, s64, s65]
      go_simp
    simp only [List.getElem_toArray, List.getElem_cons_succ, List.getElem_cons_zero]
    refine wpAnyH_take (i := 6) (v := .pointer (some ⟨G, 768, none⟩)) rfl (by kernel_rfl) (by kernel_rfl) (by kernel_rfl) (fun _ _ _ h => h) (Or.inl ⟨by rfl, fun w' hS' => ?_⟩) hSV ?_
    · simp only [List.getElem_toArray, List.getElem_cons_succ, List.getElem_cons_zero, execOp, R2.ev_same, R2.ev_other, R2.size_put, ne_eq, Nat.reduceEqDiff, not_false_eq_true, h9, h6, s57, s58, s59, s60, s61, s62, s63, s64, s65]
      go_simp
    simp only [List.getElem_toArray, List.getElem_cons_succ, List.getElem_cons_zero]
    refine R2.one_call (i := 3) (by kernel_rfl) rfl rfl (.tmp 59) _ rfl (.pointer (some ⟨G, 0, none⟩)) (by simp only [R2.ev_same, R2.ev_other, R2.size_put, ne_eq, Nat.reduceEqDiff, not_false_eq_true, h9, h6, s57, s58, s59, s60, s61, s62, s63, s64, s65]) (enters_of Tryz.func158 (by kernel_rfl) rfl) ((text_m hFd hla).mono ?_)
    rintro e w4 ⟨rfl, h4⟩
    refine ⟨_, rfl, h4.fl.c3, ?_⟩
    simp only [List.getElem_toArray, List.getElem_cons_succ, List.getElem_cons_zero]
    refine R2.one_call (i := 7) (by kernel_rfl) rfl rfl (.tmp 63) _ rfl (.pointer (some ⟨G, 768, none⟩)) (by simp only [R2.ev_same, R2.ev_other, R2.size_put, ne_eq, Nat.reduceEqDiff, not_false_eq_true, h9, h6, s57, s58, s59, s60, s61, s62, s63, s64, s65]) (enters_of Tryz.func158 (by kernel_rfl) rfl) ((text_d h4 hll).mono ?_)
    rintro e w5 ⟨rfl, h5⟩
    refine ⟨_, rfl, h5.fl.c3, ?_⟩
    simp only [List.getElem_toArray, List.getElem_cons_succ, List.getElem_cons_zero]
    refine wpAnyH_take (i := 8) (v := .agg #[.string ⟨a.data.toList.toArray⟩, .string ⟨ld.toArray⟩]) rfl (by kernel_rfl) (by kernel_rfl) (by kernel_rfl) (fun _ _ _ h => h) (Or.inl ⟨by rfl, fun w' hS' => ?_⟩) h5.fl.c3 ?_
    · simp only [List.getElem_toArray, List.getElem_cons_succ, List.getElem_cons_zero, execOp, R2.ev_same, R2.ev_other, R2.size_put, ne_eq, Nat.reduceEqDiff, not_false_eq_true, h9, h6, s57, s58, s59, s60, s61, s62, s63, s64, s65]
      go_simp
    simp only [List.getElem_toArray, List.getElem_cons_succ, List.getElem_cons_zero]
    have hth : w5.there (w.heap.size + 1) 0 2 := fun j hj => by
      match j, hj with
      | 0, _ => exact ⟨by rw [h5.fl.r0.1]; rfl, h5.fl.r0.2.1⟩
      | 1, _ => exact ⟨by rw [h5.fl.r1.1]; rfl, h5.fl.r1.2.1⟩
    refine R2.last_store (i := 9) (by kernel_rfl) rfl rfl 48 (.tmp 6) (.tmp 65) rfl (w.heap.size + 1) 0 [.string ⟨a.data.toList.toArray⟩, .string ⟨ld.toArray⟩] (by simp only [R2.ev_same, R2.ev_other, R2.size_put, ne_eq, Nat.reduceEqDiff, not_false_eq_true, h9, h6, s57, s58, s59, s60, s61, s62, s63, s64, s65]) (by simp only [R2.ev_same, R2.ev_other, R2.size_put, ne_eq, Nat.reduceEqDiff, not_false_eq_true, h9, h6, s57, s58, s59, s60, s61, s62, s63, s64, s65]) hth infoDev (by simp [Value.oneCell']) (h5.fl.c3.set (fun e => hnf e.symm) _) (by kernel_rfl) ?_
    refine NoPanic.normal ?_
    have hh : (w5.setCells (w.heap.size + 1) 0 [.string ⟨a.data.toList.toArray⟩, .string ⟨ld.toArray⟩]).heap[D]? = some (.deferred (some [])) := (heap_set _ (by omega) _ _ ()).trans h5.dk
    have hrng := World.rangeAt_setCells_same w5 (w.heap.size + 1) 0 [.string ⟨a.data.toList.toArray⟩, .string ⟨ld.toArray⟩] hth
    have hbel := B0.below_setCells (Nat.le_succ w.heap.size) [.string ⟨a.data.toList.toArray⟩, .string ⟨ld.toArray⟩] 0 _ h5.fl.bel
    rw [hself] at hh hrng hbel ⊢
    obtain ⟨W6, hW6⟩ : ∃ W6, w5.setCells (w.heap.size + 1) 0 [.string a, .string ⟨ld.toArray⟩] = W6 := ⟨_, rfl⟩
    rw [hW6] at hh hrng hbel ⊢
    refine hKr _ _ ?_
    refine R2.abs_wp _ (fun A2 => A2.eval (.tmp 6) = .pointer (some ⟨w.heap.size + 1, 0, none⟩) ∧ A2.defers = [{ target := .collected D, args := #[] }]) ⟨by simp only [List.getElem_toArray, List.getElem_cons_succ, List.getElem_cons_zero, R2.put_none, R2.ev_same, R2.ev_other, R2.size_put, ne_eq, Nat.reduceEqDiff, not_false_eq_true, h9, h6, s57, s58, s59, s60, s61, s62, s63, s64, s65], by simp only [List.getElem_toArray, List.getElem_cons_succ, List.getElem_cons_zero, R2.put_none, R2.defers_put]; exact hdf⟩ ?_
    rintro A2 ⟨k6, kdf⟩
    have hr' : (W6.putObj D (.deferred none)).rangeAt (w.heap.size + 1) 0 [.string a, .string ⟨ld.toArray⟩] := fun j v hj => cell_kept (hrng j v hj) (grownBy_putObj' _ D _) (fun r e => by cases e; exact ⟨_, hh, rfl⟩)
    have hlv := run_loadVar_mid (P := Tryz.prog) _ _ _ 48 _ _ hr' Tryz.underlying48 rfl infoDev
    have hbb := hbel.trans (belowK_b (w := w) (Nat.le_refl _) W6 D _ (.deferred none) (by omega) hh rfl rfl)
    clear hKr h4 h5 hth hrng hbel hFd hSV
    refine wp_ret ?_
    refine R2.leave kdf hh ⟨.agg #[.string a, .string ⟨ld.toArray⟩], ?_, ?_⟩
    · rw [A0.results_cell rfl]
      show ((asAddr (A2.eval (.tmp 6))).run Tryz.prog _).andThen _ = _
      rw [k6]
      simp only [asAddr, Sem.run_pure, Result.andThen_ok]
      exact hlv
    · exact ⟨by rw [← hld], hbb⟩
end Go.Proofs.YtdljajjgppcjpaaGreat.F1

/- Contracts of impl.rangesLast and impl.restLasts, as the given laws call them. -/
namespace Go.Proofs.YtdljajjgppcjpaaGreat.KQ
open Go.ChangeShapes Go.WideShapes Go.ChangeAt Go.RowKit
set_option linter.unusedVariables false
set_option linter.unusedSimpArgs false
set_option maxRecDepth 10000

open N0 (Ln)
open N1 (Sl Lists Fit LB lb_new)
open HP (Rg at_)
open WI (rl)
open Z0 (dat Kp Lns kval)
open I2 (ints)
open X0 (mix mix_len)
open F1 (span)

/-- What lasts when a range is flushed. -/
def lay (a b : ByteArray) (r : Rg) : ByteArray := ⟨(mix a.data.toList b.data.toList (span (r.1.toNat / 8) ((r.1.toNat + r.2.toNat - 1) / 8))).toArray⟩
def layN (a b : ByteArray) (rs : List Rg) : Nat → ByteArray
  | 0 => b
  | k + 1 => lay a (layN a b rs k) (at_ rs k)
/-- .. when those of the first of some loans are. -/
def layS (a b : ByteArray) (ds : List Ln) : Nat → ByteArray
  | 0 => b
  | k + 1 => layN a (layS a b ds k) (rl (dat ds k)) (rl (dat ds k)).length

theorem lay_size (a b : ByteArray) (r : Rg) : (lay a b r).size = 768 := by
  show (mix a.data.toList b.data.toList _).toArray.size = 768
  rw [List.size_toArray, mix_len]
theorem layN_size (a b : ByteArray) (rs : List Rg) (hb : b.size = 768) : ∀ k, (layN a b rs k).size = 768
  | 0 => hb
  | k + 1 => lay_size _ _ _
theorem layS_size (a b : ByteArray) (ds : List Ln) (hb : b.size = 768) : ∀ k, (layS a b ds k).size = 768
  | 0 => hb
  | k + 1 => layN_size _ _ _ (layS_size a b ds hb k) _

set_option maxHeartbeats 2000000 in
theorem rangesLast (a b : ByteArray) (d : Ln) (s : Sl) (w : World) (ha : a.size = 768) (hb : b.size = 768) (hF : Fit d s) (hpo : d.po.length ≤ 1048576) (hfr : d.fr.length ≤ 1048576) (hR : Lists w d s) :
    Calls Tryz.prog 107 #[.agg #[.string a, .string b], N1.val d s] w fun e w' => e = .returned (.agg #[.string a, .string (layN a b (rl d) (rl d).length)]) ∧ Below w.heap.size w w' := by
  have dv := K0.blk_new [.string a, .string b] w 48
  have m0 := K0.below_new w (.cells #[.string a, .string b] 48)
  have e1 : (w.alloc (.cells #[.string a, .string b] 48)).heap.size = w.heap.size + 1 := by simp
  have m1 := K0.below_new (w.alloc (.cells #[.string a, .string b] 48)) (.cells #[.int .i64 d.ino, .int .i64 d.cl, .int .i64 d.un, .string d.rc, .slice s.a1 d.pg.length s.c1, .string d.sav, .slice s.a2 d.po.length s.c2, .slice s.a3 d.fr.length s.c3] 26)
  have lb := N1.lb_new d s (w.alloc (.cells #[.string a, .string b] 48)) 26
  have e2 : ((w.alloc (.cells #[.string a, .string b] 48)).alloc (.cells #[.int .i64 d.ino, .int .i64 d.cl, .int .i64 d.un, .string d.rc, .slice s.a1 d.pg.length s.c1, .string d.sav, .slice s.a2 d.po.length s.c2, .slice s.a3 d.fr.length s.c3] 26)).heap.size = w.heap.size + 2 := by simp
  have m2 := K0.below_new ((w.alloc (.cells #[.string a, .string b] 48)).alloc (.cells #[.int .i64 d.ino, .int .i64 d.cl, .int .i64 d.un, .string d.rc, .slice s.a1 d.pg.length s.c1, .string d.sav, .slice s.a2 d.po.length s.c2, .slice s.a3 d.fr.length s.c3] 26)) (.cells #[.string ⟨#[]⟩, .string ⟨#[]⟩] 48)
  have rs := K0.blk_new [.string ⟨#[]⟩, .string ⟨#[]⟩] ((w.alloc (.cells #[.string a, .string b] 48)).alloc (.cells #[.int .i64 d.ino, .int .i64 d.cl, .int .i64 d.un, .string d.rc, .slice s.a1 d.pg.length s.c1, .string d.sav, .slice s.a2 d.po.length s.c2, .slice s.a3 d.fr.length s.c3] 26)) 48
  have dv3 := (dv.below m1).below m2
  have lb3 := lb.below m2
  have M3 := (m0.trans (m1.mono m0.size)).trans (m2.mono (Nat.le_trans m0.size m1.size))
  rw [e1] at lb3
  rw [e2] at rs
  have L3 := hR.below M3
  have c0 := lb3.c0
  have c1 := lb3.c1
  have c2 := lb3.c2
  have c3 := lb3.c3
  have c4 := lb3.c4
  have c5 := lb3.c5
  have c6 := lb3.c6
  have c7 := lb3.c7
  have hrg : Hid (∀ W, Lists W d s → Calls Tryz.prog 8 #[N1.val d s] W (R6.Ans d W)) := fun W h => R6.impl_Ranges d s W hF hpo hfr h
  have hlt3 : w.heap.size + 2 < (((w.alloc (.cells #[.string a, .string b] 48)).alloc (.cells #[.int .i64 d.ino, .int .i64 d.cl, .int .i64 d.un, .string d.rc, .slice s.a1 d.pg.length s.c1, .string d.sav, .slice s.a2 d.po.length s.c2, .slice s.a3 d.fr.length s.c3] 26)).alloc (.cells #[.string ⟨#[]⟩, .string ⟨#[]⟩] 48)).heap.size := rs.lt
  have hnr : (rl d).length = R6.nR d := WI.rl_len d
  obtain ⟨n, hn⟩ : ∃ n, (rl d).length = n := ⟨_, rfl⟩
  rw [hn] at hnr
  rw [hn]
  have hn13 : n ≤ 13 := by rw [← hn]; exact WI.rl_small d
  have HN : Hid ((rl d).length = n) := hn
  clear dv m0 m1 lb m2 e1 e2 hR hF hn
  go_enter Tryz.func107, Tryz.ntmps107
  go_wp2_with (go_at_call 8; refine (hrg.out _ L3).mono ?_; rintro e w4 ⟨a4, c4', rfl, hq4, hc4, o4, b4⟩; have M4 := M3.trans (b4.mono M3.size); have dv4 := dv3.below b4; have rs4 := rs.below b4; have r4 := WI.row_of o4)
  rw [← hnr] at *
  clear c0 c1 c2 c3 c4 c5 c6 c7 dv3 lb3 rs M3 L3 b4 o4 hrg hq4 hc4
  have hlt4 : w.heap.size + 3 ≤ ((((w.alloc (.cells #[.string a, .string b] 48)).alloc (.cells #[.int .i64 d.ino, .int .i64 d.cl, .int .i64 d.un, .string d.rc, .slice s.a1 d.pg.length s.c1, .string d.sav, .slice s.a2 d.po.length s.c2, .slice s.a3 d.fr.length s.c3] 26)).alloc (.cells #[.string ⟨#[]⟩, .string ⟨#[]⟩] 48))).heap.size := hlt3
  have r4' : rl d = [] ∨ ∃ G, a4 = some ⟨G, 0, none⟩ ∧ w.heap.size + 3 ≤ G ∧ K0.Blk G (ints (R6.rg d)) w4 := r4.imp id fun ⟨G, h1, h2, h3⟩ => ⟨G, h1, Nat.le_trans hlt4 h2, h3⟩
  clear r4 hlt3 hlt4
  go_loopw [10] (fun i w' => ∃ k : Nat, k ≤ n ∧ i = .int .i64 k ∧ K0.Blk w.heap.size [.string a, .string (layN a b (rl d) k)] w' ∧ K0.Blk (w.heap.size + 2) [.string ⟨#[]⟩, .string ⟨#[]⟩] w' ∧ (rl d = [] ∨ ∃ G, a4 = some ⟨G, 0, none⟩ ∧ w.heap.size + 3 ≤ G ∧ K0.Blk G (ints (R6.rg d)) w') ∧ Below w.heap.size w w') (fun i _ => n - (intOf i).toNat)
  case atStart => exact ⟨0, Nat.zero_le _, rfl, dv4, rs4, r4', M4⟩
  case round =>
    obtain ⟨k, hk, rfl, dvk, rsk, rk, hbel⟩ := hrel
    clear dv4 rs4 r4' M4
    by_cases hlt : k < n
    · obtain ⟨G, rfl, hG, kG⟩ : ∃ G, a4 = some ⟨G, 0, none⟩ ∧ w.heap.size + 3 ≤ G ∧ K0.Blk G (ints (R6.rg d)) wr := by
        rcases rk with h0 | h0
        · rw [h0] at HN
          have := HN.out
          simp at this
          omega
        · exact h0
      have hkl : k < (rl d).length := by have := HN.out; omega
      obtain ⟨y1, y2⟩ := WI.row_get kG hkl
      obtain ⟨i1, i2, i3⟩ := WI.at_in d hkl
      have hsz := layN_size a b (rl d) hb k
      have hu : layN a b (rl d) (k + 1) = lay a (layN a b (rl d) k) (at_ (rl d) k) := rfl
      obtain ⟨r, er⟩ : ∃ r, at_ (rl d) k = r := ⟨_, rfl⟩
      rw [er] at y1 y2 i1 i2 i3 hu
      obtain ⟨u, v⟩ := r
      simp only at y1 y2 i1 i2 i3
      obtain ⟨cur, ec⟩ : ∃ cur, layN a b (rl d) k = cur := ⟨_, rfl⟩
      rw [ec] at dvk hsz hu
      have HU : Hid (layN a b (rl d) (k + 1) = lay a cur (u, v)) := hu
      have hfl : Hid (∀ W, Calls Tryz.prog 133 #[.agg #[.string a, .string cur], .int .i64 u, .int .i64 v] W fun e w' => e = .returned (.agg #[.string a, .string (lay a cur (u, v))]) ∧ Below W.heap.size W w') := fun W => F1.impl_Flush_main a cur u v W ha hsz i1 (by omega) i3
      have x1 : (0 : Int) ≤ (k : Int) := by omega
      have x2 : (k : Int) < (n : Int) := by omega
      have nb := K0.below_new wr (.cells #[.int .i64 u, .int .i64 v] 38)
      have bx := K0.blk_new [.int .i64 u, .int .i64 v] wr 38
      have z0 := bx.c0
      have z1 := bx.c1
      have dvb := dvk.below nb
      have d0 := dvb.c0
      have d1 := dvb.c1
      have Mb := hbel.trans (nb.mono hbel.size)
      clear er ec hu rk hb
      go_wp2_with (go_at_call 133; refine (hfl.out _).mono ?_; rintro e w5 ⟨rfl, b5⟩; have dv5 := dvb.below b5; have rs5 := (rsk.below nb).below b5; have k5 := (kG.below nb).below b5; have M5 := Mb.trans (b5.mono Mb.size); have f0 := dv5.c0; have f1 := dv5.c1; have g0 := dv5.f0; have g1 := dv5.f1)
      have q5 := dv5.put2 (.string a) (.string (lay a cur (u, v)))
      have rs6 := (rs5.setOther (B' := w.heap.size) (by omega) 0 (.string a)).setOther (B' := w.heap.size) (by omega) 1 (.string (lay a cur (u, v)))
      have k6 := (k5.setOther (B' := w.heap.size) (by omega) 0 (.string a)).setOther (B' := w.heap.size) (by omega) 1 (.string (lay a cur (u, v)))
      have M6 := (M5.setCell (p := ⟨w.heap.size, 0, none⟩) (Nat.le_refl _) (.string a)).setCell (p := ⟨w.heap.size, 1, none⟩) (Nat.le_refl _) (.string (lay a cur (u, v)))
      go_roundw
      case rel => exact ⟨k + 1, by omega, by go_num, by rw [HU.out]; exact q5, rs6, Or.inr ⟨G, rfl, hG, k6⟩, M6⟩
      case measure => simp [intOf]; omega
    · obtain rfl : k = n := by omega
      have d0 := dvk.c0
      have d1 := dvk.c1
      have f0 := rsk.c0
      have f1 := rsk.c1
      have g0 := rsk.f0
      have g1 := rsk.f1
      have q := rsk.put2 (.string a) (.string (layN a b (rl d) k))
      have MF := (hbel.setCell (p := ⟨w.heap.size + 2, 0, none⟩) (Nat.le_add_right _ 2) (.string a)).setCell (p := ⟨w.heap.size + 2, 1, none⟩) (Nat.le_add_right _ 2) (.string (layN a b (rl d) k))
      clear rk
      go_wp2
      exact bodyPost_ret (v := .agg #[.string a, .string (layN a b (rl d) k)]) (by simp [results, Tryz.results107, go_sem, q.c0, q.c1]) rfl ⟨rfl, MF⟩

set_option maxHeartbeats 2000000 in
theorem restLasts (k : Kp) (a : Option Addr) (c : Nat) (ss : Nat → Sl) (w : World) (h1 : k.mem.size = 768) (h2 : k.dur.size = 768) (hn : k.ds.length ≤ 1048576) (hF : Z4.Fits k.ds ss) (hR : Lns w a k.ds ss) :
    Calls Tryz.prog 68 #[kval k a c] w fun e w' => e = .returned (.bool (k.mem.toList == (layS k.mem k.dur k.ds k.ds.length).toList)) ∧ Below w.heap.size w w' := by
  have x0 := Z4.bk_new w k a c
  have m1 := K0.below_new (w.alloc (.cells #[.string k.mem, .string k.dur, .slice a k.ds.length c, .int .i64 k.ck] 51)) (.cells #[.string k.mem, .string k.dur] 48)
  have e1 : (w.alloc (.cells #[.string k.mem, .string k.dur, .slice a k.ds.length c, .int .i64 k.ck] 51)).heap.size = w.heap.size + 1 := by simp
  have dv := K0.blk_new [.string k.mem, .string k.dur] (w.alloc (.cells #[.string k.mem, .string k.dur, .slice a k.ds.length c, .int .i64 k.ck] 51)) 48
  have M1 := x0.bel.trans (m1.mono x0.bel.size)
  have kb1 := x0.arg.below m1
  rw [e1] at dv
  have c0 := kb1.c0
  have c1 := kb1.c1
  have c2 := kb1.c2
  have HL : Hid (∀ W, Below w.heap.size w W → Lns W a k.ds ss) := fun W hb => hR.below hb
  have HF : Hid (Z4.Fits k.ds ss) := hF
  clear x0 m1 e1 hR hF
  go_enter Tryz.func68, Tryz.ntmps68
  go_wp2
  go_loopw [11] (fun i w' => ∃ j : Nat, j ≤ k.ds.length ∧ i = .int .i64 j ∧ K0.Blk (w.heap.size + 1) [.string k.mem, .string (layS k.mem k.dur k.ds j)] w' ∧ Below w.heap.size w w') (fun i _ => k.ds.length - (intOf i).toNat)
  case atStart => exact ⟨0, Nat.zero_le _, rfl, dv, M1⟩
  case round =>
    obtain ⟨j, hj, rfl, dvk, hbel⟩ := hrel
    clear dv M1 kb1 c0 c1 c2
    by_cases hlt : j < k.ds.length
    · have ls := (HL.out _ hbel).sub j hlt
      obtain ⟨hf, hpo, hfr⟩ := HF.out j hlt
      obtain ⟨b, off, hab, hlt0, hc⟩ := (HL.out _ hbel).row.get hlt
      subst hab
      obtain ⟨y0, y1, y2, y3, y4, y5, y6, y7⟩ := hc j hlt
      have hsz := layS_size k.mem k.dur k.ds h2 j
      have hu : layS k.mem k.dur k.ds (j + 1) = layN k.mem (layS k.mem k.dur k.ds j) (rl (dat k.ds j)) (rl (dat k.ds j)).length := rfl
      obtain ⟨d, ed⟩ : ∃ d, dat k.ds j = d := ⟨_, rfl⟩
      obtain ⟨s, es⟩ : ∃ s, ss j = s := ⟨_, rfl⟩
      rw [ed, es] at ls hf
      rw [ed] at y0 y1 y2 y3 y4 y5 y6 y7 hpo hfr hu
      rw [es] at y4 y6 y7
      obtain ⟨cur, ec⟩ : ∃ cur, layS k.mem k.dur k.ds j = cur := ⟨_, rfl⟩
      rw [ec] at dvk hsz hu
      have HU : Hid (layS k.mem k.dur k.ds (j + 1) = layN k.mem cur (rl d) (rl d).length) := hu
      have hrl : Hid (∀ W, Below wr.heap.size wr W → Calls Tryz.prog 107 #[.agg #[.string k.mem, .string cur], N1.val d s] W fun e w' => e = .returned (.agg #[.string k.mem, .string (layN k.mem cur (rl d) (rl d).length)]) ∧ Below W.heap.size W w') := fun W hb => rangesLast k.mem cur d s W h1 hsz hf hpo hfr (ls.below hb)
      obtain ⟨nxt, en⟩ : ∃ nxt, layN k.mem cur (rl d) (rl d).length = nxt := ⟨_, rfl⟩
      rw [en] at hrl HU
      have x1 : (0 : Int) ≤ (j : Int) := by omega
      have x2 : (j : Int) < (k.ds.length : Int) := by omega
      have nb := K0.below_new wr (.cells #[.int .i64 d.ino, .int .i64 d.cl, .int .i64 d.un, .string d.rc, .slice s.a1 d.pg.length s.c1, .string d.sav, .slice s.a2 d.po.length s.c2, .slice s.a3 d.fr.length s.c3] 26)
      have dvb := dvk.below nb
      have d0 := dvb.c0
      have d1 := dvb.c1
      have Mb := hbel.trans (nb.mono hbel.size)
      clear ed es ec en hu hc ls hf
      go_wp2_with (go_at_call 107; refine (hrl.out _ nb).mono ?_; rintro e w5 ⟨rfl, b5⟩; have dv5 := dvb.below b5; have M5 := Mb.trans (b5.mono Mb.size); have f0 := dv5.c0; have f1 := dv5.c1; have g0 := dv5.f0; have g1 := dv5.f1)
      have q5 := dv5.put2 (.string k.mem) (.string nxt)
      have M6 := (M5.setCell (p := ⟨w.heap.size + 1, 0, none⟩) (Nat.le_succ _) (.string k.mem)).setCell (p := ⟨w.heap.size + 1, 1, none⟩) (Nat.le_succ _) (.string nxt)
      go_roundw
      case rel => exact ⟨j + 1, by omega, by go_num, by rw [HU.out]; exact q5, M6⟩
      case measure => simp [intOf]; omega
    · obtain rfl : j = k.ds.length := by omega
      have d0 := dvk.c0
      have d1 := dvk.c1
      clear HL HF
      go_wp2
      go_ret
      exact ⟨rfl, hbel⟩
end Go.Proofs.YtdljajjgppcjpaaGreat.KQ

/- The contract of spec.l06Outside, as the given laws call it. -/
namespace Go.Proofs.YtdljajjgppcjpaaGreat.KT
open Go.ChangeShapes Go.WideShapes Go.ChangeAt Go.RowKit
set_option linter.unusedVariables false
set_option linter.unusedSimpArgs false
set_option maxRecDepth 10000

open N0 (Ln)
open N1 (Sl Lists Fit)
open HP (Rg at_)
open WI (rl)
open Z0 (dat Kp Lns kval)
open Z4 (Bk bk_new)
open I2 (ints)
open N13 (laid_size)

/-- A memory with the first ranges wiped. -/
def outN (a : ByteArray) (rs : List Rg) : Nat → ByteArray
  | 0 => a
  | k + 1 => B5.laid (outN a rs k) (at_ rs k).1 (B4.zeros (at_ rs k).2)
/-- .. those of the first loans. -/
def outS (a : ByteArray) (ds : List Ln) : Nat → ByteArray
  | 0 => a
  | k + 1 => outN (outS a ds k) (rl (dat ds k)) (rl (dat ds k)).length
theorem outN_size (a : ByteArray) (rs : List Rg) : ∀ k, (outN a rs k).size = a.size
  | 0 => rfl
  | k + 1 => by rw [outN, laid_size, outN_size a rs k]
theorem outS_size (a : ByteArray) (ds : List Ln) : ∀ k, (outS a ds k).size = a.size
  | 0 => rfl
  | k + 1 => by rw [outS, outN_size, outS_size a ds k]

theorem zeros_small (v : Int) : (B4.zeros v).size ≤ 281474976710656 := by
  unfold B4.zeros
  split
  · rename_i h
    rw [B4.nulls_size]
    omega
  · exact Nat.zero_le _

set_option maxHeartbeats 4000000 in
theorem l06Outside (k : Kp) (a : Option Addr) (c : Nat) (ss : Nat → Sl) (w : World) (hm1 : k.mem.size ≤ 281474976710656) (hm2 : k.dur.size ≤ 281474976710656) (hn : k.ds.length ≤ 1048576) (hF : Z4.Fits k.ds ss) (hR : Lns w a k.ds ss) :
    Calls Tryz.prog 54 #[kval k a c] w fun e w' => e = .returned (.bool ((outS k.mem k.ds k.ds.length).toList == (outS k.dur k.ds k.ds.length).toList)) ∧ Below w.heap.size w w' := by
  have x0 := bk_new w k a c
  have HL : Hid (∀ W, Below w.heap.size w W → Lns W a k.ds ss) := fun W hb => hR.below hb
  have HF : Hid (Z4.Fits k.ds ss) := hF
  have x1 : Bk w k a c (w.alloc (.cells #[.string k.mem, .string k.dur, .slice a k.ds.length c, .int .i64 k.ck] 51)).drew := x0.below ((Below.refl _ _).drew)
  have c0 := x0.arg.c0
  have c1 := x0.arg.c1
  clear hR hF
  go_enter Tryz.func54, Tryz.ntmps54
  go_wp2
  go_quiet (fail)
  have x2 := x0.below (K0.below_drewN (Below.refl _ _) nq)
  clear c0 c1 x1 x0
  go_wp2
  go_loopw [3, 4, 5] (fun p q i w' => ∃ j : Nat, j ≤ k.ds.length ∧ i = .int .i64 j ∧ p = .string (outS k.mem k.ds j) ∧ q = .string (outS k.dur k.ds j) ∧ Bk w k a c w') (fun _ _ i _ => k.ds.length - (intOf i).toNat)
  case atStart => exact ⟨0, Nat.zero_le _, rfl, rfl, rfl, x2⟩
  case round =>
    obtain ⟨j, hj, rfl, rfl, rfl, xr⟩ := hrel
    clear x2
    have c2 := xr.arg.c2
    by_cases hlt : j < k.ds.length
    · have ls := (HL.out _ xr.bel).sub j hlt
      obtain ⟨hf, hpo, hfr⟩ := HF.out j hlt
      obtain ⟨b, off, hab, hlt0, hc⟩ := (HL.out _ xr.bel).row.get hlt
      obtain ⟨y0, y1, y2, y3, y4, y5, y6, y7⟩ := hc j hlt
      have s1 := outS_size k.mem k.ds j
      have s2 := outS_size k.dur k.ds j
      have hs1 : outS k.mem k.ds (j + 1) = outN (outS k.mem k.ds j) (rl (dat k.ds j)) (rl (dat k.ds j)).length := rfl
      have hs2 : outS k.dur k.ds (j + 1) = outN (outS k.dur k.ds j) (rl (dat k.ds j)) (rl (dat k.ds j)).length := rfl
      obtain ⟨d, ed⟩ : ∃ d, dat k.ds j = d := ⟨_, rfl⟩
      obtain ⟨s, es⟩ : ∃ s, ss j = s := ⟨_, rfl⟩
      rw [ed, es] at ls hf
      rw [ed] at y0 y1 y2 y3 y4 y5 y6 y7 hs1 hs2 hpo hfr
      rw [es] at y4 y6 y7
      rw [hab] at c2
      obtain ⟨A, eA⟩ : ∃ A, outS k.mem k.ds j = A := ⟨_, rfl⟩
      obtain ⟨B, eB⟩ : ∃ B, outS k.dur k.ds j = B := ⟨_, rfl⟩
      rw [eA] at hs1 s1
      rw [eB] at hs2 s2
      rw [eA, eB]
      have HS1 : Hid (outS k.mem k.ds (j + 1) = outN A (rl d) (rl d).length) := hs1
      have HS2 : Hid (outS k.dur k.ds (j + 1) = outN B (rl d) (rl d).length) := hs2
      have e1 : (0 : Int) ≤ (j : Int) := by omega
      have e2 : (j : Int) < (k.ds.length : Int) := by omega
      have HRg : Hid (Calls Tryz.prog 12 #[N1.val d s] wr (R6.Ans d wr)) := R6.spec_Ranges d s wr hf hpo hfr ls
      have hnr : (rl d).length = R6.nR d := WI.rl_len d
      obtain ⟨n, hnn⟩ : ∃ n, (rl d).length = n := ⟨_, rfl⟩
      rw [hnn] at hnr
      have hn13 : n ≤ 13 := by rw [← hnn]; exact WI.rl_small d
      have HN : Hid ((rl d).length = n) := hnn
      clear hab ed es hc ls hf eA eB hs1 hs2 hnn
      go_wp2_with (go_at_call 12; refine HRg.out.mono ?_; rintro e w4 ⟨a4, c4', rfl, hq4, hc4, o4, b4⟩; have x4 := xr.below b4; have r4 := WI.row_of o4)
      rw [← hnr] at *
      have r4' : rl d = [] ∨ ∃ G, a4 = some ⟨G, 0, none⟩ ∧ K0.Blk G (ints (R6.rg d)) w4 := r4.imp id fun ⟨G, h1, h2, h3⟩ => ⟨G, h1, h3⟩
      clear r4 hq4 hc4 o4 b4 HRg y0 y1 y2 y3 y4 y5 y6 y7 c2 xr
      go_loopw [3, 4, 7] (fun p q i w' => ∃ t : Nat, t ≤ n ∧ i = .int .i64 t ∧ p = .string (outN A (rl d) t) ∧ q = .string (outN B (rl d) t) ∧ Bk w k a c w' ∧ (rl d = [] ∨ ∃ G, a4 = some ⟨G, 0, none⟩ ∧ K0.Blk G (ints (R6.rg d)) w')) (fun _ _ i _ => n - (intOf i).toNat)
      case atStart => exact ⟨0, Nat.zero_le _, rfl, rfl, rfl, x4, r4'⟩
      case round =>
        obtain ⟨t, ht, rfl, rfl, rfl, xq, rk⟩ := hrel
        clear x4 r4'
        by_cases hlt2 : t < n
        · obtain ⟨G, rfl, kG⟩ : ∃ G, a4 = some ⟨G, 0, none⟩ ∧ K0.Blk G (ints (R6.rg d)) wr := by
            rcases rk with h0 | h0
            · rw [h0] at HN
              have := HN.out
              simp at this
              omega
            · exact h0
          have hkl : t < (rl d).length := by have := HN.out; omega
          obtain ⟨y1, y2⟩ := WI.row_get kG hkl
          have z1 := outN_size A (rl d) t
          have z2 := outN_size B (rl d) t
          have h1 : outN A (rl d) (t + 1) = B5.laid (outN A (rl d) t) (at_ (rl d) t).1 (B4.zeros (at_ (rl d) t).2) := rfl
          have h2 : outN B (rl d) (t + 1) = B5.laid (outN B (rl d) t) (at_ (rl d) t).1 (B4.zeros (at_ (rl d) t).2) := rfl
          obtain ⟨r, er⟩ : ∃ r, at_ (rl d) t = r := ⟨_, rfl⟩
          rw [er] at y1 y2 h1 h2
          obtain ⟨u, v⟩ := r
          simp only at y1 y2 h1 h2
          obtain ⟨A', eA⟩ : ∃ A', outN A (rl d) t = A' := ⟨_, rfl⟩
          obtain ⟨B', eB⟩ : ∃ B', outN B (rl d) t = B' := ⟨_, rfl⟩
          rw [eA] at h1 z1
          rw [eB] at h2 z2
          rw [eA, eB]
          have H1 : Hid (outN A (rl d) (t + 1) = B5.laid A' u (B4.zeros v)) := h1
          have H2 : Hid (outN B (rl d) (t + 1) = B5.laid B' u (B4.zeros v)) := h2
          have hwa : Hid (∀ W, Calls Tryz.prog 30 #[.string A', .int .i64 u, .string (B4.zeros v)] W fun e w' => e = .returned (.string (B5.laid A' u (B4.zeros v))) ∧ ∃ n, w' = W.drewN n) := fun W => B5.spec_With _ _ _ _ (by omega) (zeros_small v)
          have hwb : Hid (∀ W, Calls Tryz.prog 30 #[.string B', .int .i64 u, .string (B4.zeros v)] W fun e w' => e = .returned (.string (B5.laid B' u (B4.zeros v))) ∧ ∃ n, w' = W.drewN n) := fun W => B5.spec_With _ _ _ _ (by omega) (zeros_small v)
          have q1 : (0 : Int) ≤ (t : Int) := by omega
          have q2 : (t : Int) < (n : Int) := by omega
          clear eA eB h1 h2 rk
          go_wp2
          go_quiet ((first
            | (go_at_call 33; exact Calls.quiet_of_same (B4.spec_Zeros _ _))
            | (go_at_call 30; exact Calls.quiet_of (hwa.out _))))
          have xs := xq.below (K0.below_drewN (Below.refl _ _) nq)
          have kH := kG.drewN nq
          obtain ⟨w5, hw5⟩ : ∃ w5, wr.drewN nq = w5 := ⟨_, rfl⟩
          rw [hw5] at xs kH ⊢
          obtain ⟨y1', y2'⟩ := WI.row_get kH hkl
          rw [er] at y1' y2'
          simp only at y1' y2'
          clear hw5 er
          go_wp2
          go_quiet ((first
            | (go_at_call 33; exact Calls.quiet_of_same (B4.spec_Zeros _ _))
            | (go_at_call 30; exact Calls.quiet_of (hwb.out _))))
          have xs2 := xs.below (K0.below_drewN (Below.refl _ _) nq)
          have kH2 := kH.drewN nq
          go_wp2
          go_roundw
          case rel => exact ⟨t + 1, by omega, by go_num, by rw [H1.out], by rw [H2.out], xs2, Or.inr ⟨G, rfl, kH2⟩⟩
          case measure => simp [intOf]; omega
        · obtain rfl : t = n := by omega
          have e9 : decide ((t : Int) < (t : Int)) = false := by simp
          have HN2 := HN.out
          go_wp2
          go_roundw
          case rel => exact ⟨j + 1, by omega, by go_num, by rw [HS1.out, HN2], by rw [HS2.out, HN2], xq⟩
          case measure => simp [intOf]; omega
    · obtain rfl : j = k.ds.length := by omega
      have e9 : decide ((k.ds.length : Int) < (k.ds.length : Int)) = false := by simp
      clear HL HF
      go_wp2
      go_ret
      exact ⟨rfl, xr.bel⟩
end Go.Proofs.YtdljajjgppcjpaaGreat.KT
