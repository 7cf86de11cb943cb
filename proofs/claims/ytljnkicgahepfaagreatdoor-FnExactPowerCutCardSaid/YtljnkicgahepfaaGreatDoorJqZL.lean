/- Joined texts: plain facts and contracts. -/
import Derived.Test.YtljnkicgahepfaaGreatDoorJqZK
import Derived.Test.YtljnkicgahepfaaGreatDoorJqZ
set_option linter.unusedVariables false
set_option linter.unusedSimpArgs false
set_option maxRecDepth 10000
namespace Go.Proofs.YtljnkicgahepfaaGreatDoor.W2
open Go.ChangeShapes Go.WideShapes Go.ChangeAt Go.RowKit Go.Shelf
open X0 (row mix)
open F0 (Has)
open W0 (has pick pw pMem pDur)
attribute [local go_sem] Oper.semAt_some
def upto (kept : List Int) (m : Nat) (k : Nat) : Bool := pick kept k && decide (k < m)
structure Fl (w : World) (G f1 f3 : Nat) (kv : Value) (la ld : List UInt8) (W : World) : Prop where
 dl : A3.Dl G la ld W
 c1 : Has f1 0 kv W
 c3 : Has f3 0 (.pointer (some ⟨G, 0, none⟩)) W
 r0 : Has (w.heap.size + 2) 0 (.string ⟨#[]⟩) W
 r1 : Has (w.heap.size + 2) 1 (.string ⟨#[]⟩) W
 bel : Below w.heap.size w W
variable {w W V : World} {G f1 f3 : Nat} {kv : Value} {la ld le : List UInt8}
theorem Fl.own {row : Option Nat} {B : Nat} (h : Fl w G f1 f3 kv la ld W) (hB : w.heap.size ≤ B) (hg : W.grownBy V row) (hr : ∀ r, row = some r → B ≤ r ∧ ∃ o : Obj, W.heap[r]? = some o ∧ o.isCells = false) : Fl w G f1 f3 kv la ld V :=
  ⟨F0.dl_own h.dl hg fun r e => (hr r e).2, h.c1.own hg fun r e => (hr r e).2, h.c3.own hg fun r e => (hr r e).2, h.r0.own hg fun r e => (hr r e).2, h.r1.own hg fun r e => (hr r e).2,
   h.bel.grown hg h.bel.size fun r e => Nat.le_trans hB (hr r e).1⟩
theorem Fl.set {k : Nat} (h : Fl w G f1 f3 kv la ld W) (hn : f1 ≠ G ∧ f3 ≠ G ∧ w.heap.size + 2 ≠ G ∧ w.heap.size ≤ G) (hla : la.length = 768) (hld : ld.length = 768) (hk : k < 96) (he : ld.take (k * 8) ++ row la k ++ ld.drop (k * 8 + 8) = le) :
  Fl w G f1 f3 kv la le (W.setCells G (768 + k * 8) (Lib.byteCells (row la k))) :=
 ⟨F0.dl_set h.dl hla hld hk he, h.c1.set hn.1 _, h.c3.set hn.2.1 _, h.r0.set hn.2.2.1 _, h.r1.set hn.2.2.1 _, B0.below_setCells hn.2.2.2 _ _ _ h.bel⟩
theorem Fl.drew (h : Fl w G f1 f3 kv la ld W) : Fl w G f1 f3 kv la ld W.drew := ⟨⟨h.dl.m, h.dl.d, h.dl.t, h.dl.lt⟩, h.c1, h.c3, h.r0, h.r1, h.bel.drew⟩
theorem upto_step {kept : List Int} {k i : Nat} (hi : i ≠ k) : upto kept k i = upto kept (k + 1) i := by
 unfold upto
 congr 1
 exact decide_eq_decide.2 (by omega)
theorem upto_none {kept : List Int} {k : Nat} (h : pick kept k = false) (i : Nat) : upto kept k i = upto kept (k + 1) i := by
 by_cases e : i = k
 ·subst e
  unfold upto
  rw [h, Bool.false_and, Bool.false_and]
 ·exact upto_step e
theorem upto_self (kept : List Int) (k : Nat) : upto kept k k = false := by
 unfold upto
 rw [decide_eq_false (by omega), Bool.and_false]
theorem upto_yes {kept : List Int} {k : Nat} (h : pick kept k = true) : upto kept (k + 1) k = true := by
 unfold upto
 rw [h, decide_eq_true (by omega)]
 rfl
theorem fl_start {w W0 w3 : World} (c1 : Has (w.heap.size + 1) 0 kv W0) (r0 : Has (w.heap.size + 2) 0 (.string ⟨#[]⟩) W0) (r1 : Has (w.heap.size + 2) 1 (.string ⟨#[]⟩) W0) (hb : Below w.heap.size w W0) (hG : W0.heap.size ≤ G) (hD : A3.Dl G la ld w3) (b3 : Below W0.heap.size W0 w3) :
  Fl w G (w.heap.size + 1) w3.heap.size kv la ld (w3.alloc (.cells #[.pointer (some ⟨G, 0, none⟩)] 196)) ∧ (w.heap.size + 1 ≠ G ∧ w3.heap.size ≠ G ∧ w.heap.size + 2 ≠ G ∧ w.heap.size ≤ G) ∧ ¬ w.heap.size + 2 = w3.heap.size := by
 have hn := K0.below_new w3 (.cells #[.pointer (some ⟨G, 0, none⟩)] 196)
 have l1 := c1.2.2
 have l2 := r0.2.2
 have l3 := hD.lt
 have l4 := b3.size
 exact ⟨⟨F0.dl_below hD hn, (c1.below b3).below hn, F0.has_new w3 _ _ _ 0 rfl, (r0.below b3).below hn, (r1.below b3).below hn, (hb.trans (b3.mono hb.size)).alloc (by omega) _⟩, ⟨by omega, by omega, by omega, by omega⟩, by omega⟩
theorem Fl.below (h : Fl w G f1 f3 kv la ld W) (hb : Below W.heap.size W V) : Fl w G f1 f3 kv la ld V :=
 ⟨F0.dl_below h.dl hb, h.c1.below hb, h.c3.below hb, h.r0.below hb, h.r1.below hb, h.bel.trans (hb.mono h.bel.size)⟩
structure Fd (D : Nat) (w : World) (G f1 f3 : Nat) (kv : Value) (la ld : List UInt8) (W : World) : Prop where
 fl : Fl w G f1 f3 kv la ld W
 dk : W.heap[D]? = some (.deferred (some []))
theorem Fd.below {D : Nat} (h : Fd D w G f1 f3 kv la ld W) (hb : Below W.heap.size W V) : Fd D w G f1 f3 kv la ld V :=
 ⟨h.fl.below hb, (hb.block D (Array.getElem?_eq_some_iff.1 h.dk).1).trans h.dk⟩
theorem Fd.drew {D : Nat} (h : Fd D w G f1 f3 kv la ld W) : Fd D w G f1 f3 kv la ld W.drew := ⟨h.fl.drew, h.dk⟩
theorem text_d {D : Nat} (h : Fd D w G f1 f3 kv la ld W) (hl : ld.length = 768) :
  Calls Tryz.prog 179 #[.pointer (some ⟨G, 768, none⟩)] W fun e w' => e = .returned (.string ⟨ld.toArray⟩) ∧ Fd D w G f1 f3 kv la ld w' :=
 (A2.text ld G 768 W hl h.fl.dl.lt h.fl.dl.d).mono fun _ _ ⟨he, hb⟩ => ⟨he, h.below hb⟩
theorem has_start (a b : ByteArray) (kv : Value) (w : World) :
  Has (w.heap.size + 1) 0 kv (((w.alloc (.cells #[.string a, .string b] 25)).alloc (.cells #[kv] 29)).alloc (.cells #[.string ⟨#[]⟩, .string ⟨#[]⟩] 25)) ∧ Has (w.heap.size + 2) 0 (.string ⟨#[]⟩) (((w.alloc (.cells #[.string a, .string b] 25)).alloc (.cells #[kv] 29)).alloc (.cells #[.string ⟨#[]⟩, .string ⟨#[]⟩] 25)) ∧ Has (w.heap.size + 2) 1 (.string ⟨#[]⟩) (((w.alloc (.cells #[.string a, .string b] 25)).alloc (.cells #[kv] 29)).alloc (.cells #[.string ⟨#[]⟩, .string ⟨#[]⟩] 25)) ∧ Below w.heap.size w (((w.alloc (.cells #[.string a, .string b] 25)).alloc (.cells #[kv] 29)).alloc (.cells #[.string ⟨#[]⟩, .string ⟨#[]⟩] 25)) := by
 have h1 := (F0.has_new (w.alloc (.cells #[.string a, .string b] 25)) kv 29 #[kv] 0 rfl).alloc (.cells #[.string ⟨#[]⟩, .string ⟨#[]⟩] 25)
 have h2 := F0.has_new ((w.alloc (.cells #[.string a, .string b] 25)).alloc (.cells #[kv] 29)) (.string ⟨#[]⟩) 25 #[.string ⟨#[]⟩, .string ⟨#[]⟩] 0 rfl
 have h3 := F0.has_new ((w.alloc (.cells #[.string a, .string b] 25)).alloc (.cells #[kv] 29)) (.string ⟨#[]⟩) 25 #[.string ⟨#[]⟩, .string ⟨#[]⟩] 1 rfl
 simp only [World.size_alloc] at h1 h2 h3
 exact ⟨h1, h2, h3, ((K0.below_new w _).alloc (by simp) _).alloc (by simp; omega) _⟩
set_option maxRecDepth 100000 in
set_option maxHeartbeats 8000000 in
theorem impl_Power_main (a b : ByteArray) (ka : Option Addr) (kc : Nat) (kept : List Int) (w : World) (ha : a.size = 768) (hb : b.size = 768) (hnk : kept.length ≤ 1048576) (hR : P0.Row w ka kept) :
  Calls Tryz.prog 101 #[.agg #[.string a, .string b], .slice ka kept.length kc] w fun e w' => e = .returned (.agg #[.string (pw a b kept), .string (pw a b kept)]) ∧ Below w.heap.size w w' := by
 have hla : a.data.toList.length = 768 := by rw [← Lib.size_eq]; exact ha
 have hlb : b.data.toList.length = 768 := by rw [← Lib.size_eq]; exact hb
 have hok : D1.ok a b = true := D1.ok_mk ha hb
 have hma : a.size ≤ maxLen := by unfold maxLen; omega
 have hmb : b.size ≤ maxLen := by unfold maxLen; omega
 have HC : Hid (∀ (q : Int) W, Below w.heap.size w W → Calls Tryz.prog 178 #[.slice ka kept.length kc, .int .i64 q] W fun e w' => e = .returned (.bool (has kept q)) ∧ w' = W) := fun q W hW => W0.impl_has ka kc kept q W hnk (hR.below hW)
 obtain ⟨kl, hkl⟩ : ∃ kl, kept.length = kl := ⟨_, rfl⟩
 rw [hkl] at HC ⊢
 obtain ⟨s1, s2, s3, s4⟩ := has_start a b (.slice ka kl kc) w
 have k0 := ((K0.blk_new [.string a, .string b] w 25).alloc (.cells #[.slice ka kl kc] 29)).alloc (.cells #[.string ⟨#[]⟩, .string ⟨#[]⟩] 25)
 have x0 := k0.c0
 have x1 := k0.c1
 have k1 := k0.alloc (.cells #[.string a, .string b] 25)
 have y0 := k1.c0
 have y1 := k1.c1
 refine (callsIn_wide (n := 5)).1 ?_
 refine callsIn_of_wp_marks Tryz.func101 rfl trivial ?_ rfl
 simp only [Tryz.ntmps101, List.size_toArray, List.length_cons, List.length_nil, Nat.reduceAdd, Nat.reduceSub, Array.replicate_succ, Array.replicate_zero, List.push_toArray, List.append_toArray, List.nil_append, List.cons_append]
 refine wpIn_wide.2 ?_
 go_wp2_with (first
  | (go_at_call 53; refine (D1.impl_DevOk _ _ _ hma hmb).mono ?_; rintro e w1 ⟨rfl, rfl⟩; rw [hok])
  | (go_at_call 176; refine (A3.cutDev a b _ ha hb).mono ?_; rintro e w3 ⟨G, rfl, hG, hD, b3⟩))
 obtain ⟨hfl, hn1, hnf⟩ := fl_start s1 s2 s3 s4 (Nat.le_trans (by simp) hG) hD ((K0.below_new _ _).trans (b3.mono (by simp)))
 clear k0 k1 x0 x1 y0 y1 s1 s2 s3 s4 hG hD b3
 have hsz : w.heap.size ≤ (w3.alloc (.cells #[.pointer (some ⟨G, 0, none⟩)] 196)).heap.size := hfl.bel.size
 obtain ⟨WL, hWL⟩ : ∃ WL, w3.alloc (.cells #[.pointer (some ⟨G, 0, none⟩)] 196) = WL := ⟨_, rfl⟩
 rw [hWL] at hfl hsz ⊢
 clear hWL
 obtain ⟨f3, hf3⟩ : ∃ f3, w3.heap.size = f3 := ⟨_, rfl⟩
 rw [hf3] at hfl hn1 hnf
 simp only [hf3]
 clear hf3
 refine wpIn_wide.1 (R0.range_bound (n := 5) (gf := 177) (N := 96) (bd := #[.pointer (some ⟨G, 0, none⟩)]) rfl (enters_of Tryz.func177 (by kernel_rfl) rfl) rfl
  (fun k W => Fl w G (w.heap.size + 1) f3 (.slice ka kl kc) a.data.toList (mix a.data.toList b.data.toList (upto kept k)) W) (R1.Differ G a.data.toList)
  (fun c W => False)
  (fun k W V row h hg hr => h.own hsz hg hr) (fun k W V row ⟨lb', h1, h2, h3⟩ hg hr => ⟨lb', h1, F0.dl_own h2 hg (fun r e => (hr r e).2), h3⟩) (fun c W V row h hg hr => h)
  (by rw [X0.mix_none _ _ hlb _ (fun k _ => by simp [upto])]; exact hfl)
  (fun l J Jx W a1 a2 a3 a4 a5 a6 => R1.dirty_in 5 G a.data.toList hla _ (fun k W h => ⟨_, X0.mix_len _ _ _, h.dl⟩) (fun k W lb' hk h hl' hd' he => by
   have e := F0.dl_unique hd' h.dl (by rw [hl', X0.mix_len])
   subst e
   rw [X0.mix_same _ _ (upto kept k) (upto kept (k + 1)) k hla (fun i _ hi => upto_step hi) hk (upto_self kept k) he]
   exact h) l J Jx W a1 a2 a3 a4 a5 a6) ?round ?done ?stop)
 case round =>
  rintro l k W V hk hI -
  clear hfl
  have e1 : (0 : Int) ≤ (k : Int) := by omega
  have e2 : (k : Int) < 96 := by omega
  have c1 := hI.c1.1
  have c3 := hI.c3.1
  have hCk := HC.out (k : Int) V hI.bel
  by_cases hpk : pick kept k = true
  ·rw [show has kept (k : Int) = true from hpk] at hCk
   have HK : Hid (Calls Tryz.prog 178 #[.slice ka kl kc, .int .i64 (k : Int)] V fun e w' => e = .returned (.bool true) ∧ w' = V) := hCk
   clear HC hCk
   obtain ⟨ld, hld⟩ : ∃ ld, mix a.data.toList b.data.toList (upto kept k) = ld := ⟨_, rfl⟩
   have hll : ld.length = 768 := by rw [← hld, X0.mix_len]
   have he : Hid (ld.take (k * 8) ++ row a.data.toList k ++ ld.drop (k * 8 + 8) = mix a.data.toList b.data.toList (upto kept (k + 1))) := by
    rw [← hld]; exact X0.mix_set _ _ _ _ k hla hk (fun i _ hi => upto_step hi) (upto_yes hpk)
   rw [hld] at hI
   have hset := (hI.drew).set hn1 hla hll hk he
   have hrl : (Lib.byteCells (row a.data.toList k)).length = 8 := by rw [Lib.byteCells_length, R1.row_len hla hk]
   have hrow : V.rangeAt G (k * 8) (Lib.byteCells (row a.data.toList k)) := by
    have := A0.rangeAt_part hI.dl.m (k * 8) 8
    rw [A0.bytes_part, Nat.zero_add] at this
    exact this
   have hfin : ∀ a', R0.left WL.heap.size (fun k W => Fl w G (w.heap.size + 1) f3 (.slice ka kl kc) a.data.toList (mix a.data.toList b.data.toList (upto kept k)) W) (fun c W => False) k V .normal a' (V.drew.setCells G (768 + k * 8) (Lib.byteCells (row a.data.toList k))) := fun a' => ⟨F1.keeps_set _ _ _ 0 _ _ _ (F1.keeps_drew _ _), hset⟩
   let S : World → Prop := fun W' => Has f3 0 (.pointer (some ⟨G, 0, none⟩)) W' ∧ W'.rangeAt G (k * 8) (Lib.byteCells (row a.data.toList k)) ∧ W'.there G (768 + k * 8) 8
   have hSV : S V.drew := ⟨hI.c3, hrow, A0.there_sub hI.dl.t (by omega) (by omega)⟩
   gi_wp2
   refine ⟨trivial, ?_⟩
   gi_wp2
   refine ⟨trivial, CallsIn.inRound l (callsIn_wide.2 (HK.out.mono ?_))⟩
   rintro _ _ ⟨rfl, rfl⟩
   gi_wp2
   refine R2.abs_act _ (fun A => A.eval (.tmp 5) = .pointer (some ⟨f3, 0, none⟩) ∧ A.eval (.tmp 6) = .int .i64 (k : Int) ∧ 30 < A.tmps.size) ⟨rfl, rfl, by simp⟩ ?_
   rintro A ⟨h9, h10, hsz'⟩
   have h9' : A.tmps[5]?.getD undef = .pointer (some ⟨f3, 0, none⟩) := by rw [← Array.getD_eq_getD_getElem?]; exact h9
   have h10' : A.tmps[6]?.getD undef = .int .i64 (k : Int) := by rw [← Array.getD_eq_getD_getElem?]; exact h10
   have q20 : 20 < A.tmps.size := by omega
   have q21 : 21 < A.tmps.size := by omega
   have q22 : 22 < A.tmps.size := by omega
   have q23 : 23 < A.tmps.size := by omega
   have q24 : 24 < A.tmps.size := by omega
   have q25 : 25 < A.tmps.size := by omega
   have q26 : 26 < A.tmps.size := by omega
   have q27 : 27 < A.tmps.size := by omega
   have q28 : 28 < A.tmps.size := by omega
   have q29 : 29 < A.tmps.size := by omega
   have q30 : 30 < A.tmps.size := by omega
   clear hsz'
   refine R2.region_round (S := S) (by simp) (by rintro ⟨_, _, h⟩; exact h.elim) (by kernel_rfl) ?_
   refine wpAnyH_take (i := 1) (v := .int .i64 (k : Int)) rfl (by kernel_rfl) (by kernel_rfl) (by kernel_rfl) (fun _ _ _ h => h) (Or.inl ⟨by rfl, fun w' hS' => ?_⟩) hSV ?_
   ·simp only [List.getElem_toArray, List.getElem_cons_succ, List.getElem_cons_zero, execOp, R2.ev_same, R2.ev_other, R2.size_put, ne_eq, Nat.reduceEqDiff, not_false_eq_true, h9, h10, q20, q21, q22, q23, q24, q25, q26, q27, q28, q29, q30]
    go_simp
   simp only [List.getElem_toArray, List.getElem_cons_succ, List.getElem_cons_zero]
   refine wpAnyH_take (i := 3) (v := .int .i64 (k : Int)) rfl (by kernel_rfl) (by kernel_rfl) (by kernel_rfl) (fun _ _ _ h => h) (Or.inl ⟨by rfl, fun w' hS' => ?_⟩) hSV ?_
   ·simp only [List.getElem_toArray, List.getElem_cons_succ, List.getElem_cons_zero, execOp, R2.ev_same, R2.ev_other, R2.size_put, ne_eq, Nat.reduceEqDiff, not_false_eq_true, h9, h10, q20, q21, q22, q23, q24, q25, q26, q27, q28, q29, q30]
    go_simp
   simp only [List.getElem_toArray, List.getElem_cons_succ, List.getElem_cons_zero]
   refine wpAnyH_take (i := 0) (v := .pointer (some ⟨G, 0, none⟩)) rfl (by kernel_rfl) (by kernel_rfl) (by kernel_rfl) (fun _ _ _ h => h) (Or.inl ⟨by rfl, fun w' hS' => ?_⟩) hSV ?_
   ·have hc := hS'.1.1
    simp only [List.getElem_toArray, List.getElem_cons_succ, List.getElem_cons_zero, execOp, R2.ev_same, R2.ev_other, R2.size_put, ne_eq, Nat.reduceEqDiff, not_false_eq_true, h9, h10, q20, q21, q22, q23, q24, q25, q26, q27, q28, q29, q30]
    go_simp
   simp only [List.getElem_toArray, List.getElem_cons_succ, List.getElem_cons_zero]
   refine wpAnyH_take (i := 2) (v := .pointer (some ⟨G, 0, none⟩)) rfl (by kernel_rfl) (by kernel_rfl) (by kernel_rfl) (fun _ _ _ h => h) (Or.inl ⟨by rfl, fun w' hS' => ?_⟩) hSV ?_
   ·have hc := hS'.1.1
    simp only [List.getElem_toArray, List.getElem_cons_succ, List.getElem_cons_zero, execOp, R2.ev_same, R2.ev_other, R2.size_put, ne_eq, Nat.reduceEqDiff, not_false_eq_true, h9, h10, q20, q21, q22, q23, q24, q25, q26, q27, q28, q29, q30]
    go_simp
   simp only [List.getElem_toArray, List.getElem_cons_succ, List.getElem_cons_zero]
   refine wpAnyH_take (i := 4) (v := .pointer (some ⟨G, 0, none⟩)) rfl (by kernel_rfl) (by kernel_rfl) (by kernel_rfl) (fun _ _ _ h => h) (Or.inl ⟨by rfl, fun w' hS' => ?_⟩) hSV ?_
   ·simp only [List.getElem_toArray, List.getElem_cons_succ, List.getElem_cons_zero, execOp, R2.ev_same, R2.ev_other, R2.size_put, ne_eq, Nat.reduceEqDiff, not_false_eq_true, h9, h10, q20, q21, q22, q23, q24, q25, q26, q27, q28, q29, q30]
    go_simp
   simp only [List.getElem_toArray, List.getElem_cons_succ, List.getElem_cons_zero]
   refine wpAnyH_take (i := 5) (v := .pointer (some ⟨G, 0, none⟩)) rfl (by kernel_rfl) (by kernel_rfl) (by kernel_rfl) (fun _ _ _ h => h) (Or.inl ⟨by rfl, fun w' hS' => ?_⟩) hSV ?_
   ·simp only [List.getElem_toArray, List.getElem_cons_succ, List.getElem_cons_zero, execOp, R2.ev_same, R2.ev_other, R2.size_put, ne_eq, Nat.reduceEqDiff, not_false_eq_true, h9, h10, q20, q21, q22, q23, q24, q25, q26, q27, q28, q29, q30]
    go_simp
   simp only [List.getElem_toArray, List.getElem_cons_succ, List.getElem_cons_zero]
   refine wpAnyH_take (i := 6) (v := .pointer (some ⟨G, k * 8, none⟩)) rfl (by kernel_rfl) (by kernel_rfl) (by kernel_rfl) (fun _ _ _ h => h) (Or.inl ⟨by rfl, fun w' hS' => ?_⟩) hSV ?_
   ·simp only [List.getElem_toArray, List.getElem_cons_succ, List.getElem_cons_zero, execOp, R2.ev_same, R2.ev_other, R2.size_put, ne_eq, Nat.reduceEqDiff, not_false_eq_true, h9, h10, q20, q21, q22, q23, q24, q25, q26, q27, q28, q29, q30]
    go_simp
   simp only [List.getElem_toArray, List.getElem_cons_succ, List.getElem_cons_zero]
   refine wpAnyH_take (i := 7) (v := .agg (Lib.byteCells (row a.data.toList k)).toArray) rfl (by kernel_rfl) (by kernel_rfl) (by kernel_rfl) (fun _ _ _ h => h) (yieldsIf_load_mid (by rfl) 199 (.tmp 26) rfl G (k * 8) (by simp only [R2.ev_same, R2.ev_other, R2.size_put, ne_eq, Nat.reduceEqDiff, not_false_eq_true, h9, h10, q20, q21, q22, q23, q24, q25, q26, q27, q28, q29, q30]) _ _ (fun w' hS' => hS'.2.1) Tryz.underlying199 rfl (by rw [A0.infoLine, hrl])) hSV ?_
   simp only [List.getElem_toArray, List.getElem_cons_succ, List.getElem_cons_zero]
   refine wpAnyH_take (i := 8) (v := .pointer (some ⟨G, 0, none⟩)) rfl (by kernel_rfl) (by kernel_rfl) (by kernel_rfl) (fun _ _ _ h => h) (Or.inl ⟨by rfl, fun w' hS' => ?_⟩) hSV ?_
   ·simp only [List.getElem_toArray, List.getElem_cons_succ, List.getElem_cons_zero, execOp, R2.ev_same, R2.ev_other, R2.size_put, ne_eq, Nat.reduceEqDiff, not_false_eq_true, h9, h10, q20, q21, q22, q23, q24, q25, q26, q27, q28, q29, q30]
    go_simp
   simp only [List.getElem_toArray, List.getElem_cons_succ, List.getElem_cons_zero]
   refine wpAnyH_take (i := 9) (v := .pointer (some ⟨G, 768, none⟩)) rfl (by kernel_rfl) (by kernel_rfl) (by kernel_rfl) (fun _ _ _ h => h) (Or.inl ⟨by rfl, fun w' hS' => ?_⟩) hSV ?_
   ·simp only [List.getElem_toArray, List.getElem_cons_succ, List.getElem_cons_zero, execOp, R2.ev_same, R2.ev_other, R2.size_put, ne_eq, Nat.reduceEqDiff, not_false_eq_true, h9, h10, q20, q21, q22, q23, q24, q25, q26, q27, q28, q29, q30]
    go_simp
   simp only [List.getElem_toArray, List.getElem_cons_succ, List.getElem_cons_zero]
   refine wpAnyH_take (i := 10) (v := .pointer (some ⟨G, 768 + k * 8, none⟩)) rfl (by kernel_rfl) (by kernel_rfl) (by kernel_rfl) (fun _ _ _ h => h) (Or.inl ⟨by rfl, fun w' hS' => ?_⟩) hSV ?_
   ·simp only [List.getElem_toArray, List.getElem_cons_succ, List.getElem_cons_zero, execOp, R2.ev_same, R2.ev_other, R2.size_put, ne_eq, Nat.reduceEqDiff, not_false_eq_true, h9, h10, q20, q21, q22, q23, q24, q25, q26, q27, q28, q29, q30]
    go_simp
   simp only [List.getElem_toArray, List.getElem_cons_succ, List.getElem_cons_zero]
   refine R2.last_store (i := 11) (by kernel_rfl) rfl rfl 199 (.tmp 30) (.tmp 27) rfl G (768 + k * 8) (Lib.byteCells (row a.data.toList k)) (by simp only [R2.ev_same, R2.ev_other, R2.size_put, ne_eq, Nat.reduceEqDiff, not_false_eq_true, h9, h10, q20, q21, q22, q23, q24, q25, q26, q27, q28, q29, q30]) (by simp only [R2.ev_same, R2.ev_other, R2.size_put, ne_eq, Nat.reduceEqDiff, not_false_eq_true, h9, h10, q20, q21, q22, q23, q24, q25, q26, q27, q28, q29, q30]) (by rw [hrl]; exact hSV.2.2) (by rw [A0.infoLine, hrl]) (Lib.byteCells_one _)
    ⟨hSV.1.set hn1.2.1 _, World.rangeAt_setCells_apart hSV.2.1 _ _ _ (by rw [hrl]; omega), World.there_setCells hSV.2.2 _ _ _⟩ (by kernel_rfl) ?_
   exact ⟨(hfin A).1, (hfin A).2⟩
  ·have hpk' : pick kept k = false := by simpa using hpk
   rw [show has kept (k : Int) = false from hpk'] at hCk
   have HK : Hid (Calls Tryz.prog 178 #[.slice ka kl kc, .int .i64 (k : Int)] V fun e w' => e = .returned (.bool false) ∧ w' = V) := hCk
   have e := X0.mix_congr a.data.toList b.data.toList (upto kept k) (upto kept (k + 1)) (fun i _ => upto_none hpk' i)
   clear HC hCk
   gi_wp2
   refine ⟨trivial, ?_⟩
   gi_wp2
   refine ⟨trivial, CallsIn.inRound l (callsIn_wide.2 (HK.out.mono ?_))⟩
   rintro _ _ ⟨rfl, rfl⟩
   gi_wp2
   rw [e] at hI
   exact ⟨KeepsFrom.refl _ _, hI⟩
 case done =>
  rintro D W hD hI hK
  have hlt1 := hfl.r0.2.2
  clear hfl
  rw [X0.mix_congr _ _ (upto kept 96) (pick kept) (fun i hi => by rw [upto, decide_eq_true hi, Bool.and_true])] at hI
  go_wp2
  rename_i K hKr
  obtain ⟨ld, hld⟩ : ∃ ld, mix a.data.toList b.data.toList (pick kept) = ld := ⟨_, rfl⟩
  have hll : ld.length = 768 := by rw [← hld, X0.mix_len]
  rw [hld] at hI
  have hFd : Fd D w G (w.heap.size + 1) f3 (.slice ka kl kc) a.data.toList ld W.drew := Fd.drew ⟨hI, hK⟩
  refine R2.abs_wp _ (fun A => A.eval (.tmp 5) = .pointer (some ⟨f3, 0, none⟩) ∧ A.eval (.tmp 4) = .pointer (some ⟨w.heap.size + 2, 0, none⟩) ∧ 39 < A.tmps.size ∧ A.defers = [{ target := .collected D, args := #[] }]) ⟨rfl, rfl, by simp, rfl⟩ ?_
  rintro A ⟨h9, h6, hsz', hdf⟩
  have h9' : A.tmps[5]?.getD undef = .pointer (some ⟨f3, 0, none⟩) := by rw [← Array.getD_eq_getD_getElem?]; exact h9
  have q31 : 31 < A.tmps.size := by omega
  have q32 : 32 < A.tmps.size := by omega
  have q33 : 33 < A.tmps.size := by omega
  have q34 : 34 < A.tmps.size := by omega
  have q35 : 35 < A.tmps.size := by omega
  have q36 : 36 < A.tmps.size := by omega
  have q37 : 37 < A.tmps.size := by omega
  have q38 : 38 < A.tmps.size := by omega
  have q39 : 39 < A.tmps.size := by omega
  clear hsz'
  have hSV : Has f3 0 (.pointer (some ⟨G, 0, none⟩)) W.drew := hFd.fl.c3
  refine wp_region_noPanic ?_
  refine wp_region_held (S := Has f3 0 (.pointer (some ⟨G, 0, none⟩))) (by kernel_rfl) ?_
  refine wpAnyH_take (i := 0) (v := .pointer (some ⟨G, 0, none⟩)) rfl (by kernel_rfl) (by kernel_rfl) (by kernel_rfl) (fun _ _ _ h => h) (Or.inl ⟨by rfl, fun w' hS' => ?_⟩) hSV ?_
  ·have hc := hS'.1
   simp only [List.getElem_toArray, List.getElem_cons_succ, List.getElem_cons_zero, execOp, R2.ev_same, R2.ev_other, R2.size_put, ne_eq, Nat.reduceEqDiff, not_false_eq_true, h9, h6, q31, q32, q33, q34, q35, q36, q37, q38, q39]
   go_simp
  simp only [List.getElem_toArray, List.getElem_cons_succ, List.getElem_cons_zero]
  refine wpAnyH_take (i := 4) (v := .pointer (some ⟨G, 0, none⟩)) rfl (by kernel_rfl) (by kernel_rfl) (by kernel_rfl) (fun _ _ _ h => h) (Or.inl ⟨by rfl, fun w' hS' => ?_⟩) hSV ?_
  ·have hc := hS'.1
   simp only [List.getElem_toArray, List.getElem_cons_succ, List.getElem_cons_zero, execOp, R2.ev_same, R2.ev_other, R2.size_put, ne_eq, Nat.reduceEqDiff, not_false_eq_true, h9, h6, q31, q32, q33, q34, q35, q36, q37, q38, q39]
   go_simp
  simp only [List.getElem_toArray, List.getElem_cons_succ, List.getElem_cons_zero]
  refine wpAnyH_take (i := 1) (v := .pointer (some ⟨G, 0, none⟩)) rfl (by kernel_rfl) (by kernel_rfl) (by kernel_rfl) (fun _ _ _ h => h) (Or.inl ⟨by rfl, fun w' hS' => ?_⟩) hSV ?_
  ·simp only [List.getElem_toArray, List.getElem_cons_succ, List.getElem_cons_zero, execOp, R2.ev_same, R2.ev_other, R2.size_put, ne_eq, Nat.reduceEqDiff, not_false_eq_true, h9, h6, q31, q32, q33, q34, q35, q36, q37, q38, q39]
   go_simp
  simp only [List.getElem_toArray, List.getElem_cons_succ, List.getElem_cons_zero]
  refine wpAnyH_take (i := 5) (v := .pointer (some ⟨G, 0, none⟩)) rfl (by kernel_rfl) (by kernel_rfl) (by kernel_rfl) (fun _ _ _ h => h) (Or.inl ⟨by rfl, fun w' hS' => ?_⟩) hSV ?_
  ·simp only [List.getElem_toArray, List.getElem_cons_succ, List.getElem_cons_zero, execOp, R2.ev_same, R2.ev_other, R2.size_put, ne_eq, Nat.reduceEqDiff, not_false_eq_true, h9, h6, q31, q32, q33, q34, q35, q36, q37, q38, q39]
   go_simp
  simp only [List.getElem_toArray, List.getElem_cons_succ, List.getElem_cons_zero]
  refine wpAnyH_take (i := 2) (v := .pointer (some ⟨G, 768, none⟩)) rfl (by kernel_rfl) (by kernel_rfl) (by kernel_rfl) (fun _ _ _ h => h) (Or.inl ⟨by rfl, fun w' hS' => ?_⟩) hSV ?_
  ·simp only [List.getElem_toArray, List.getElem_cons_succ, List.getElem_cons_zero, execOp, R2.ev_same, R2.ev_other, R2.size_put, ne_eq, Nat.reduceEqDiff, not_false_eq_true, h9, h6, q31, q32, q33, q34, q35, q36, q37, q38, q39]
   go_simp
  simp only [List.getElem_toArray, List.getElem_cons_succ, List.getElem_cons_zero]
  refine wpAnyH_take (i := 6) (v := .pointer (some ⟨G, 768, none⟩)) rfl (by kernel_rfl) (by kernel_rfl) (by kernel_rfl) (fun _ _ _ h => h) (Or.inl ⟨by rfl, fun w' hS' => ?_⟩) hSV ?_
  ·simp only [List.getElem_toArray, List.getElem_cons_succ, List.getElem_cons_zero, execOp, R2.ev_same, R2.ev_other, R2.size_put, ne_eq, Nat.reduceEqDiff, not_false_eq_true, h9, h6, q31, q32, q33, q34, q35, q36, q37, q38, q39]
   go_simp
  simp only [List.getElem_toArray, List.getElem_cons_succ, List.getElem_cons_zero]
  refine R2.one_call (i := 3) (by kernel_rfl) rfl rfl (.tmp 33) _ rfl (.pointer (some ⟨G, 768, none⟩)) (by simp only [R2.ev_same, R2.ev_other, R2.size_put, ne_eq, Nat.reduceEqDiff, not_false_eq_true, h9, h6, q31, q32, q33, q34, q35, q36, q37, q38, q39]) (enters_of Tryz.func179 (by kernel_rfl) rfl) ((text_d hFd hll).mono ?_)
  rintro e w4 ⟨rfl, h4⟩
  refine ⟨_, rfl, h4.fl.c3, ?_⟩
  simp only [List.getElem_toArray, List.getElem_cons_succ, List.getElem_cons_zero]
  refine R2.one_call (i := 7) (by kernel_rfl) rfl rfl (.tmp 37) _ rfl (.pointer (some ⟨G, 768, none⟩)) (by simp only [R2.ev_same, R2.ev_other, R2.size_put, ne_eq, Nat.reduceEqDiff, not_false_eq_true, h9, h6, q31, q32, q33, q34, q35, q36, q37, q38, q39]) (enters_of Tryz.func179 (by kernel_rfl) rfl) ((text_d h4 hll).mono ?_)
  rintro e w5 ⟨rfl, h5⟩
  refine ⟨_, rfl, h5.fl.c3, ?_⟩
  simp only [List.getElem_toArray, List.getElem_cons_succ, List.getElem_cons_zero]
  refine wpAnyH_take (i := 8) (v := .agg #[.string ⟨ld.toArray⟩, .string ⟨ld.toArray⟩]) rfl (by kernel_rfl) (by kernel_rfl) (by kernel_rfl) (fun _ _ _ h => h) (Or.inl ⟨by rfl, fun w' hS' => ?_⟩) h5.fl.c3 ?_
  ·simp only [List.getElem_toArray, List.getElem_cons_succ, List.getElem_cons_zero, execOp, R2.ev_same, R2.ev_other, R2.size_put, ne_eq, Nat.reduceEqDiff, not_false_eq_true, h9, h6, q31, q32, q33, q34, q35, q36, q37, q38, q39]
   go_simp
  simp only [List.getElem_toArray, List.getElem_cons_succ, List.getElem_cons_zero]
  have hth : w5.there (w.heap.size + 2) 0 2 := fun j hj => by
   match j, hj with
   | 0, _ => exact ⟨by rw [h5.fl.r0.1]; rfl, h5.fl.r0.2.1⟩
   | 1, _ => exact ⟨by rw [h5.fl.r1.1]; rfl, h5.fl.r1.2.1⟩
  refine R2.last_store (i := 9) (by kernel_rfl) rfl rfl 25 (.tmp 4) (.tmp 39) rfl (w.heap.size + 2) 0 [.string ⟨ld.toArray⟩, .string ⟨ld.toArray⟩] (by simp only [R2.ev_same, R2.ev_other, R2.size_put, ne_eq, Nat.reduceEqDiff, not_false_eq_true, h9, h6, q31, q32, q33, q34, q35, q36, q37, q38, q39]) (by simp only [R2.ev_same, R2.ev_other, R2.size_put, ne_eq, Nat.reduceEqDiff, not_false_eq_true, h9, h6, q31, q32, q33, q34, q35, q36, q37, q38, q39]) hth F1.infoDev (by simp [Value.oneCell']) (h5.fl.c3.set (fun e => hnf e.symm) _) (by kernel_rfl) ?_
  refine NoPanic.normal ?_
  have hh : (w5.setCells (w.heap.size + 2) 0 [.string ⟨ld.toArray⟩, .string ⟨ld.toArray⟩]).heap[D]? = some (.deferred (some [])) := (F1.heap_set _ (by omega) _ _ ()).trans h5.dk
  have hrng := World.rangeAt_setCells_same w5 (w.heap.size + 2) 0 [.string ⟨ld.toArray⟩, .string ⟨ld.toArray⟩] hth
  have hbel := B0.below_setCells (show w.heap.size ≤ w.heap.size + 2 by omega) [.string ⟨ld.toArray⟩, .string ⟨ld.toArray⟩] 0 _ h5.fl.bel
  obtain ⟨W6, hW6⟩ : ∃ W6, w5.setCells (w.heap.size + 2) 0 [.string ⟨ld.toArray⟩, .string ⟨ld.toArray⟩] = W6 := ⟨_, rfl⟩
  rw [hW6] at hh hrng hbel ⊢
  refine hKr _ _ ?_
  refine R2.abs_wp _ (fun A2 => A2.eval (.tmp 4) = .pointer (some ⟨w.heap.size + 2, 0, none⟩) ∧ A2.defers = [{ target := .collected D, args := #[] }]) ⟨by simp only [List.getElem_toArray, List.getElem_cons_succ, List.getElem_cons_zero, R2.put_none, R2.ev_same, R2.ev_other, R2.size_put, ne_eq, Nat.reduceEqDiff, not_false_eq_true, h9, h6, q31, q32, q33, q34, q35, q36, q37, q38, q39], by simp only [List.getElem_toArray, List.getElem_cons_succ, List.getElem_cons_zero, R2.put_none, R2.defers_put]; exact hdf⟩ ?_
  rintro A2 ⟨k6, kdf⟩
  have hr' : (W6.putObj D (.deferred none)).rangeAt (w.heap.size + 2) 0 [.string ⟨ld.toArray⟩, .string ⟨ld.toArray⟩] := fun j v hj => cell_kept (hrng j v hj) (grownBy_putObj' _ D _) (fun r e => by cases e; exact ⟨_, hh, rfl⟩)
  have hlv := run_loadVar_mid (P := Tryz.prog) _ _ _ 25 _ _ hr' Tryz.underlying25 rfl F1.infoDev
  have hbb := hbel.trans (belowK_b (w := w) (Nat.le_refl _) W6 D _ (.deferred none) (by omega) hh rfl rfl)
  clear hKr h4 h5 hth hrng hbel hFd hSV
  refine wp_ret ?_
  refine R2.leave kdf hh ⟨.agg #[.string ⟨ld.toArray⟩, .string ⟨ld.toArray⟩], ?_, ?_⟩
  ·rw [A0.results_cell rfl]
   show ((asAddr (A2.eval (.tmp 4))).run Tryz.prog _).andThen _ = _
   rw [k6]
   simp only [asAddr, Sem.run_pure, Result.andThen_ok]
   exact hlv
  ·exact ⟨by rw [← hld]; rfl, hbb⟩
 case stop =>
  rintro D c W hD h hK
  exact h.elim
set_option maxHeartbeats 2000000 in
theorem impl_Power (a b : ByteArray) (ka : Option Addr) (kc : Nat) (kept : List Int) (w : World) (ha : a.size ≤ 281474976710656) (hb : b.size ≤ 281474976710656) (hn : kept.length ≤ 1048576) (hR : P0.Row w ka kept) :
  Calls Tryz.prog 101 #[.agg #[.string a, .string b], .slice ka kept.length kc] w fun e w' => e = .returned (.agg #[.string (pMem a b kept), .string (pDur a b kept)]) ∧ Below w.heap.size w w' := by
 by_cases hok : D1.ok a b = true
 ·have eM : pMem a b kept = pw a b kept := if_pos hok
  have eD : pDur a b kept = pw a b kept := if_pos hok
  rw [eM, eD]
  exact impl_Power_main a b ka kc kept w (D1.ok_true hok).1 (D1.ok_true hok).2 hn hR
 ·have hok' : D1.ok a b = false := by simpa using hok
  have eM : pMem a b kept = a := if_neg hok
  have eD : pDur a b kept = b := if_neg hok
  rw [eM, eD]
  have hma : a.size ≤ maxLen := by unfold maxLen; omega
  have hmb : b.size ≤ maxLen := by unfold maxLen; omega
  obtain ⟨kl, hkl⟩ : ∃ kl, kept.length = kl := ⟨_, rfl⟩
  rw [hkl]
  obtain ⟨s1, s2, s3, s4⟩ := has_start a b (.slice ka kl kc) w
  have k0 := ((K0.blk_new [.string a, .string b] w 25).alloc (.cells #[.slice ka kl kc] 29)).alloc (.cells #[.string ⟨#[]⟩, .string ⟨#[]⟩] 25)
  have x0 := k0.c0
  have x1 := k0.c1
  have k1 := k0.alloc (.cells #[.string a, .string b] 25)
  have y0 := k1.c0
  have y1 := k1.c1
  have t2 := s2.alloc (.cells #[.string a, .string b] 25)
  have t3 := s3.alloc (.cells #[.string a, .string b] 25)
  have t4 := s4.alloc s4.size (.cells #[.string a, .string b] 25)
  clear eM eD hkl hR hok
  go_enter Tryz.func101, Tryz.ntmps101
  go_wp2_with (first
   | (go_at_call 53; refine (D1.impl_DevOk _ _ _ hma hmb).mono ?_; rintro e w1 ⟨rfl, rfl⟩; rw [hok'])
   | (go_at_call 175; refine (D2.devCopy _ _ _ ha hb).mono ?_; rintro e w2 ⟨rfl, b2⟩; have u2 := t2.below b2; have u3 := t3.below b2; have d2 := u2.1; have d3 := u3.1; have d4 := u2.2.1; have d5 := u3.2.1; have u4 := t4.trans (b2.mono t4.size)))
  have q := D2.ret2 (a := a) (b := b) (B := w.heap.size + 1 + 1) d2 d3
  exact bodyPost_ret (v := .agg #[.string a, .string b]) (by simp [results, Tryz.results101, go_sem, q.1, q.2]) rfl ⟨rfl, (u4.setCell (p := ⟨w.heap.size + 2, 0, none⟩) (show w.heap.size ≤ w.heap.size + 2 by omega) _).setCell (p := ⟨w.heap.size + 2, 1, none⟩) (show w.heap.size ≤ w.heap.size + 2 by omega) _⟩
end Go.Proofs.YtljnkicgahepfaaGreatDoor.W2
