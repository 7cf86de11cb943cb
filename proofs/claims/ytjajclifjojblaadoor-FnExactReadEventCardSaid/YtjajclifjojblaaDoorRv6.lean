/- A line behind its first word: (*reader).event, kind by kind (made by gen-rv6.py). -/
import Derived.Test.YtjajclifjojblaaDoorRv5
import Derived.Test.YtjajclifjojblaaDoorEv1
namespace Go.Proofs.YtjajclifjojblaaDoor.RE
open Go.ChangeShapes Go.WideShapes Go.ChangeAt Go.RowKit
set_option linter.unusedVariables false
set_option linter.unusedSimpArgs false
set_option maxRecDepth 10000
open RV (mk sp jn nib un hexOk okH txt)
open LF (Btw)
open RX (RB rv Ok)
open EX (Tabs)
open RY (TB Chg blk_chg bad)
open EW (zero6 z6 m6 put6 other6)
open RW (n wd ans)

/-- The blocks of event: the line, the result, the event. -/
structure ES (B : Nat) (s : ByteArray) (R : List (List UInt8)) (w : World) (i : Nat) (x : Bool) (vs : List Value) (W : World) : Prop where
  rd : RB B s (R.drop i) x W
  res : K0.Blk w.heap.size zero6 W
  tmp : K0.Blk (w.heap.size + 1) vs W
  tb : TB B W
  ch : Chg B w W
  lt : B < w.heap.size

section
variable {B : Nat} {s : ByteArray} {R : List (List UInt8)} {w W W' : World} {i : Nat} {x y : Bool} {vs : List Value}
theorem ES.btw (h : ES B s R w i x vs W) (hb : Btw B (B + 1) W W') {i' : Nat} (hr : RB B s (R.drop i') y W') : ES B s R w i' y vs W' :=
  ⟨hr, LF.blk_btw h.res hb (Or.inr h.lt), LF.blk_btw h.tmp hb (Or.inr (by have := h.lt; omega)), h.tb.btw hb, h.ch.trans (Chg.ofBtw hb), h.lt⟩
theorem ES.set (h : ES B s R w i x vs W) (j : Nat) (v : Value) : ES B s R w i x (vs.set j v) (W.setCell ⟨w.heap.size + 1, j, none⟩ v) :=
  ⟨h.rd.setOther (by have := h.lt; omega) j v, h.res.setOther (by omega) j v, h.tmp.set j v,
   (by obtain ⟨w0, h1, h2, h3⟩ := h.tb; exact ⟨w0, h1, h2, h3.setCell (p := ⟨w.heap.size + 1, j, none⟩) (by have := h.lt; simp; omega) v⟩),
   ⟨h.ch.os, h.ch.tape, h.ch.output, by simpa [World.setCell] using h.ch.size, fun k hk hn => by rw [Below.heap_setCell _ _ _ _ (by simp; omega)]; exact h.ch.block k hk hn⟩, h.lt⟩
theorem es_new (w : World) (k : Int) (hb : RB B s R false w) (hT : TB B w) : ES B s R w 0 false [.int .i64 k, .int .i64 0, .int .i64 0, .int .i64 0, .string ⟨#[]⟩, .slice none 0 0] ((w.alloc z6).alloc (m6 ⟨k, 0, 0, 0, ⟨#[]⟩, []⟩)) := by
  have b1 := K0.below_new w z6
  have b2 := K0.below_new (w.alloc z6) (m6 ⟨k, 0, 0, 0, ⟨#[]⟩, []⟩)
  exact ⟨(hb.alloc _).alloc _, (K0.blk_new zero6 w 24).alloc _, K0.blk_at _ _ 24 (by simp), (hT.below b1).below b2, ((Chg.refl _ _).step b1 (Nat.le_refl _)).step b2 (by simp), hb.lt⟩
theorem hd_drop (i : Nat) : (R.drop i).headD [] = wd R i := by
  rcases Nat.lt_or_ge i R.length with h | h
  · rw [List.drop_eq_getElem_cons h, RW.wd_get h]
    rfl
  · rw [List.drop_eq_nil_of_le h, RW.wd_not h]
    rfl
theorem stepN (hR : Ok R) (h : ES B s R w i x vs W) : Calls Tryd.prog 30 #[.pointer (some ⟨B, 0, none⟩)] W fun e w' => e = .returned (.int .i64 (n R i)) ∧ ES B s R w (i + 1) (x || !decide (0 ≤ n R i)) vs w' := by
  refine (RY.number (hR.drop i) h.tb h.rd).mono ?_
  rintro e w1 ⟨he, hb, g⟩
  rw [hd_drop] at he hb
  rw [List.tail_drop] at hb
  exact ⟨he, h.btw g hb⟩
theorem stepZ (hR : Ok R) (h : ES B s R w i x vs W) : Calls Tryd.prog 32 #[.pointer (some ⟨B, 0, none⟩)] W fun e w' => e = .returned (.string (B4.zeros (n R i))) ∧ ES B s R w (i + 1) (x || !decide (0 ≤ n R i) || !decide (n R i ≤ 768)) vs w' := by
  refine (RY.zeros (hR.drop i) h.tb h.rd).mono ?_
  rintro e w1 ⟨he, hb, g⟩
  rw [hd_drop] at he hb
  rw [List.tail_drop] at hb
  exact ⟨he, h.btw g hb⟩
theorem stepB (hR : Ok R) (h : ES B s R w i x vs W) : Calls Tryd.prog 31 #[.pointer (some ⟨B, 0, none⟩)] W fun e w' => ∃ t, e = .returned (.string t) ∧ Hid (okH (wd R i) = true → t = mk (txt (wd R i))) ∧ ES B s R w (i + 1) (x || !okH (wd R i)) vs w' := by
  refine (RU.bytes (hR.drop i) h.tb h.rd).mono ?_
  rintro e w1 ⟨⟨t, he, ht⟩, hb, g⟩
  rw [hd_drop] at ht hb
  rw [List.tail_drop] at hb
  exact ⟨t, he, ht, h.btw g hb⟩
theorem stepR (hR : Ok R) (h : ES B s R w i x vs W) : Calls Tryd.prog 34 #[.pointer (some ⟨B, 0, none⟩)] W fun e w' => e = .returned (.string (mk (jn (R.drop i)))) ∧ ES B s R w (i + R.length) (x || (R.drop i).isEmpty) vs w' := by
  refine (RY.rest (hR.drop i) h.rd).mono ?_
  rintro e w1 ⟨he, hb, g⟩
  exact ⟨he, h.btw g (by rw [List.drop_eq_nil_of_le (by omega)]; exact hb)⟩

/-- What event answers. -/
def Ans (B : Nat) (s : ByteArray) (R : List (List UInt8)) (k : Nat) (w : World) (e : Ending) (w' : World) : Prop :=
  ∃ d a c, e = .returned (EV.val d a c) ∧ J0.Own w.heap.size w' a d.kp ∧ ((ans k R).2 = true → d = (ans k R).1) ∧ ∃ R' x', RB B s R' x' w' ∧ (R'.isEmpty && !x') = (ans k R).2 ∧ Chg B w w'

theorem iso (L : List (List UInt8)) : L.isEmpty = decide (L = []) := by cases L <;> rfl

/-- The end: what was put together is handed out. -/
theorem fin {v0 v1 v2 v3 v4 v5 : Value} (h : ES B s R w i x [v0, v1, v2, v3, v4, v5] W) :
    K0.Blk w.heap.size [v0, v1, v2, v3, v4, v5] ((((((W.setCell ⟨w.heap.size, 0, none⟩ v0).setCell ⟨w.heap.size, 1, none⟩ v1).setCell ⟨w.heap.size, 2, none⟩ v2).setCell ⟨w.heap.size, 3, none⟩ v3).setCell ⟨w.heap.size, 4, none⟩ v4).setCell ⟨w.heap.size, 5, none⟩ v5) ∧
    RB B s (R.drop i) x ((((((W.setCell ⟨w.heap.size, 0, none⟩ v0).setCell ⟨w.heap.size, 1, none⟩ v1).setCell ⟨w.heap.size, 2, none⟩ v2).setCell ⟨w.heap.size, 3, none⟩ v3).setCell ⟨w.heap.size, 4, none⟩ v4).setCell ⟨w.heap.size, 5, none⟩ v5) ∧
    Chg B w ((((((W.setCell ⟨w.heap.size, 0, none⟩ v0).setCell ⟨w.heap.size, 1, none⟩ v1).setCell ⟨w.heap.size, 2, none⟩ v2).setCell ⟨w.heap.size, 3, none⟩ v3).setCell ⟨w.heap.size, 4, none⟩ v4).setCell ⟨w.heap.size, 5, none⟩ v5) := by
  have hlt := h.lt
  have st : ∀ (W : World) (j : Nat) (v : Value), Chg B w W → Chg B w (W.setCell ⟨w.heap.size, j, none⟩ v) := fun W j v c => ⟨c.os, c.tape, c.output, by simpa [World.setCell] using c.size, fun k hk hn => by rw [Below.heap_setCell _ _ _ _ (by simp; omega)]; exact c.block k hk hn⟩
  exact ⟨put6 h.res, other6 h.rd (by omega) _ _ _ _ _ _, st _ _ _ (st _ _ _ (st _ _ _ (st _ _ _ (st _ _ _ (st _ _ _ h.ch)))))⟩
end

set_option maxHeartbeats 4000000 in
theorem event0 {B : Nat} {s : ByteArray} {R : List (List UInt8)} {w : World} (hR : Ok R) (hT : TB B w) (hb : RB B s R false w) :
    Calls Tryd.prog 21 #[.pointer (some ⟨B, 0, none⟩), .int .i64 0] w (Ans B s R 0 w) := by
  have h1 := es_new w 0 hb hT
  have HN : Hid (∀ i x W, ES B s R w i x [.int .i64 0, .int .i64 0, .int .i64 0, .int .i64 0, .string ⟨#[]⟩, .slice none 0 0] W → Calls Tryd.prog 30 #[.pointer (some ⟨B, 0, none⟩)] W fun e w' => e = .returned (.int .i64 (n R i)) ∧ ES B s R w (i + 1) (x || !decide (0 ≤ n R i)) [.int .i64 0, .int .i64 0, .int .i64 0, .int .i64 0, .string ⟨#[]⟩, .slice none 0 0] w') := fun i x W h => stepN hR h
  have z0 := h1.tmp.cell 0 (by simp)
  have f0 := h1.tmp.free 0 (by simp)
  have y0 := h1.res.cell 0 (by simp)
  have g0 := h1.res.free 0 (by simp)
  have z1 := h1.tmp.cell 1 (by simp)
  have f1 := h1.tmp.free 1 (by simp)
  have y1 := h1.res.cell 1 (by simp)
  have g1 := h1.res.free 1 (by simp)
  have z2 := h1.tmp.cell 2 (by simp)
  have f2 := h1.tmp.free 2 (by simp)
  have y2 := h1.res.cell 2 (by simp)
  have g2 := h1.res.free 2 (by simp)
  have z3 := h1.tmp.cell 3 (by simp)
  have f3 := h1.tmp.free 3 (by simp)
  have y3 := h1.res.cell 3 (by simp)
  have g3 := h1.res.free 3 (by simp)
  have z4 := h1.tmp.cell 4 (by simp)
  have f4 := h1.tmp.free 4 (by simp)
  have y4 := h1.res.cell 4 (by simp)
  have g4 := h1.res.free 4 (by simp)
  have z5 := h1.tmp.cell 5 (by simp)
  have f5 := h1.tmp.free 5 (by simp)
  have y5 := h1.res.cell 5 (by simp)
  have g5 := h1.res.free 5 (by simp)
  simp only [zero6, List.getElem_cons_zero, List.getElem_cons_succ] at z0 z1 z2 z3 z4 z5 y0 y1 y2 y3 y4 y5
  go_enter Tryd.func21, Tryd.ntmps21
  go_wp2_with (first
    | (go_at_call 30; refine (HN.out _ _ _ (by assumption)).mono ?_; rintro e w1 ⟨rfl, h1⟩; have z0 := h1.tmp.cell 0 (by simp); have f0 := h1.tmp.free 0 (by simp); have y0 := h1.res.cell 0 (by simp); have g0 := h1.res.free 0 (by simp); have z1 := h1.tmp.cell 1 (by simp); have f1 := h1.tmp.free 1 (by simp); have y1 := h1.res.cell 1 (by simp); have g1 := h1.res.free 1 (by simp); have z2 := h1.tmp.cell 2 (by simp); have f2 := h1.tmp.free 2 (by simp); have y2 := h1.res.cell 2 (by simp); have g2 := h1.res.free 2 (by simp); have z3 := h1.tmp.cell 3 (by simp); have f3 := h1.tmp.free 3 (by simp); have y3 := h1.res.cell 3 (by simp); have g3 := h1.res.free 3 (by simp); have z4 := h1.tmp.cell 4 (by simp); have f4 := h1.tmp.free 4 (by simp); have y4 := h1.res.cell 4 (by simp); have g4 := h1.res.free 4 (by simp); have z5 := h1.tmp.cell 5 (by simp); have f5 := h1.tmp.free 5 (by simp); have y5 := h1.res.cell 5 (by simp); have g5 := h1.res.free 5 (by simp); simp only [zero6, List.getElem_cons_zero, List.getElem_cons_succ] at z0 z1 z2 z3 z4 z5 y0 y1 y2 y3 y4 y5))
  have u1 : ES B s R w _ _ [.int .i64 0, .int .i64 (n R 0), .int .i64 (n R 1), .int .i64 (n R 2), .string ⟨#[]⟩, .slice none 0 0] _ := (((h1.set 1 (.int .i64 (n R 0))).set 2 (.int .i64 (n R 1))).set 3 (.int .i64 (n R 2)))
  obtain ⟨q, qr, qc⟩ := fin u1
  have v0 := q.cell 0 (by simp)
  have v1 := q.cell 1 (by simp)
  have v2 := q.cell 2 (by simp)
  have v3 := q.cell 3 (by simp)
  have v4 := q.cell 4 (by simp)
  have v5 := q.cell 5 (by simp)
  simp only [List.getElem_cons_zero, List.getElem_cons_succ] at v0 v1 v2 v3 v4 v5
  refine bodyPost_ret (v := EV.val ⟨0,  (n R 0),  (n R 1),  (n R 2), ⟨#[]⟩, []⟩ none 0) (by simp [results, Tryd.results21, go_sem, v0, v1, v2, v3, v4, v5]) rfl ⟨⟨0,  (n R 0),  (n R 1),  (n R 2), ⟨#[]⟩, []⟩, none, 0, rfl, Or.inl rfl, ?_, _, _, qr, ?_, qc⟩
  · intro _
    rfl
  · simp only [ans, iso]
    show _ = _
    generalize decide (0 ≤ n R 0) = b0
    generalize decide (0 ≤ n R 1) = b1
    generalize decide (0 ≤ n R 2) = b2
    generalize decide (R.drop 3 = []) = b3
    revert b0 b1 b2 b3
    decide

set_option maxHeartbeats 4000000 in
theorem event1 {B : Nat} {s : ByteArray} {R : List (List UInt8)} {w : World} (hR : Ok R) (hT : TB B w) (hb : RB B s R false w) :
    Calls Tryd.prog 21 #[.pointer (some ⟨B, 0, none⟩), .int .i64 1] w (Ans B s R 1 w) := by
  have h1 := es_new w 1 hb hT
  have HB : Hid (∀ i x W, ES B s R w i x [.int .i64 1, .int .i64 0, .int .i64 0, .int .i64 0, .string ⟨#[]⟩, .slice none 0 0] W → Calls Tryd.prog 31 #[.pointer (some ⟨B, 0, none⟩)] W fun e w' => ∃ t, e = .returned (.string t) ∧ Hid (okH (wd R i) = true → t = mk (txt (wd R i))) ∧ ES B s R w (i + 1) (x || !okH (wd R i)) [.int .i64 1, .int .i64 0, .int .i64 0, .int .i64 0, .string ⟨#[]⟩, .slice none 0 0] w') := fun i x W h => stepB hR h
  have HN : Hid (∀ i x W, ES B s R w i x [.int .i64 1, .int .i64 0, .int .i64 0, .int .i64 0, .string ⟨#[]⟩, .slice none 0 0] W → Calls Tryd.prog 30 #[.pointer (some ⟨B, 0, none⟩)] W fun e w' => e = .returned (.int .i64 (n R i)) ∧ ES B s R w (i + 1) (x || !decide (0 ≤ n R i)) [.int .i64 1, .int .i64 0, .int .i64 0, .int .i64 0, .string ⟨#[]⟩, .slice none 0 0] w') := fun i x W h => stepN hR h
  have z0 := h1.tmp.cell 0 (by simp)
  have f0 := h1.tmp.free 0 (by simp)
  have y0 := h1.res.cell 0 (by simp)
  have g0 := h1.res.free 0 (by simp)
  have z1 := h1.tmp.cell 1 (by simp)
  have f1 := h1.tmp.free 1 (by simp)
  have y1 := h1.res.cell 1 (by simp)
  have g1 := h1.res.free 1 (by simp)
  have z2 := h1.tmp.cell 2 (by simp)
  have f2 := h1.tmp.free 2 (by simp)
  have y2 := h1.res.cell 2 (by simp)
  have g2 := h1.res.free 2 (by simp)
  have z3 := h1.tmp.cell 3 (by simp)
  have f3 := h1.tmp.free 3 (by simp)
  have y3 := h1.res.cell 3 (by simp)
  have g3 := h1.res.free 3 (by simp)
  have z4 := h1.tmp.cell 4 (by simp)
  have f4 := h1.tmp.free 4 (by simp)
  have y4 := h1.res.cell 4 (by simp)
  have g4 := h1.res.free 4 (by simp)
  have z5 := h1.tmp.cell 5 (by simp)
  have f5 := h1.tmp.free 5 (by simp)
  have y5 := h1.res.cell 5 (by simp)
  have g5 := h1.res.free 5 (by simp)
  simp only [zero6, List.getElem_cons_zero, List.getElem_cons_succ] at z0 z1 z2 z3 z4 z5 y0 y1 y2 y3 y4 y5
  go_enter Tryd.func21, Tryd.ntmps21
  go_wp2_with (first
    | (go_at_call 31; refine (HB.out _ _ _ (by assumption)).mono ?_; rintro e w1 ⟨t, rfl, HT, h1⟩; have z0 := h1.tmp.cell 0 (by simp); have f0 := h1.tmp.free 0 (by simp); have y0 := h1.res.cell 0 (by simp); have g0 := h1.res.free 0 (by simp); have z1 := h1.tmp.cell 1 (by simp); have f1 := h1.tmp.free 1 (by simp); have y1 := h1.res.cell 1 (by simp); have g1 := h1.res.free 1 (by simp); have z2 := h1.tmp.cell 2 (by simp); have f2 := h1.tmp.free 2 (by simp); have y2 := h1.res.cell 2 (by simp); have g2 := h1.res.free 2 (by simp); have z3 := h1.tmp.cell 3 (by simp); have f3 := h1.tmp.free 3 (by simp); have y3 := h1.res.cell 3 (by simp); have g3 := h1.res.free 3 (by simp); have z4 := h1.tmp.cell 4 (by simp); have f4 := h1.tmp.free 4 (by simp); have y4 := h1.res.cell 4 (by simp); have g4 := h1.res.free 4 (by simp); have z5 := h1.tmp.cell 5 (by simp); have f5 := h1.tmp.free 5 (by simp); have y5 := h1.res.cell 5 (by simp); have g5 := h1.res.free 5 (by simp); simp only [zero6, List.getElem_cons_zero, List.getElem_cons_succ] at z0 z1 z2 z3 z4 z5 y0 y1 y2 y3 y4 y5)
    | (go_at_call 30; refine (HN.out _ _ _ (by assumption)).mono ?_; rintro e w1 ⟨rfl, h1⟩; have z0 := h1.tmp.cell 0 (by simp); have f0 := h1.tmp.free 0 (by simp); have y0 := h1.res.cell 0 (by simp); have g0 := h1.res.free 0 (by simp); have z1 := h1.tmp.cell 1 (by simp); have f1 := h1.tmp.free 1 (by simp); have y1 := h1.res.cell 1 (by simp); have g1 := h1.res.free 1 (by simp); have z2 := h1.tmp.cell 2 (by simp); have f2 := h1.tmp.free 2 (by simp); have y2 := h1.res.cell 2 (by simp); have g2 := h1.res.free 2 (by simp); have z3 := h1.tmp.cell 3 (by simp); have f3 := h1.tmp.free 3 (by simp); have y3 := h1.res.cell 3 (by simp); have g3 := h1.res.free 3 (by simp); have z4 := h1.tmp.cell 4 (by simp); have f4 := h1.tmp.free 4 (by simp); have y4 := h1.res.cell 4 (by simp); have g4 := h1.res.free 4 (by simp); have z5 := h1.tmp.cell 5 (by simp); have f5 := h1.tmp.free 5 (by simp); have y5 := h1.res.cell 5 (by simp); have g5 := h1.res.free 5 (by simp); simp only [zero6, List.getElem_cons_zero, List.getElem_cons_succ] at z0 z1 z2 z3 z4 z5 y0 y1 y2 y3 y4 y5))
  have u1 : ES B s R w _ _ [.int .i64 1, .int .i64 (n R 0), .int .i64 0, .int .i64 (n R 1), .string t, .slice none 0 0] _ := (((h1.set 1 (.int .i64 (n R 0))).set 3 (.int .i64 (n R 1))).set 4 (.string t))
  obtain ⟨q, qr, qc⟩ := fin u1
  have v0 := q.cell 0 (by simp)
  have v1 := q.cell 1 (by simp)
  have v2 := q.cell 2 (by simp)
  have v3 := q.cell 3 (by simp)
  have v4 := q.cell 4 (by simp)
  have v5 := q.cell 5 (by simp)
  simp only [List.getElem_cons_zero, List.getElem_cons_succ] at v0 v1 v2 v3 v4 v5
  refine bodyPost_ret (v := EV.val ⟨1,  (n R 0),  0,  (n R 1), t, []⟩ none 0) (by simp [results, Tryd.results21, go_sem, v0, v1, v2, v3, v4, v5]) rfl ⟨⟨1,  (n R 0),  0,  (n R 1), t, []⟩, none, 0, rfl, Or.inl rfl, ?_, _, _, qr, ?_, qc⟩
  · intro h
    simp only [ans, Bool.and_eq_true] at h
    rw [HT.out (by simp [h])]
    rfl
  · simp only [ans, iso]
    show _ = _
    generalize decide (0 ≤ n R 0) = b0
    generalize decide (0 ≤ n R 1) = b1
    generalize okH (wd R 2) = b2
    generalize decide (R.drop 3 = []) = b3
    revert b0 b1 b2 b3
    decide

set_option maxHeartbeats 4000000 in
theorem event2 {B : Nat} {s : ByteArray} {R : List (List UInt8)} {w : World} (hR : Ok R) (hT : TB B w) (hb : RB B s R false w) :
    Calls Tryd.prog 21 #[.pointer (some ⟨B, 0, none⟩), .int .i64 2] w (Ans B s R 2 w) := by
  have h1 := es_new w 2 hb hT
  have HN : Hid (∀ i x W, ES B s R w i x [.int .i64 2, .int .i64 0, .int .i64 0, .int .i64 0, .string ⟨#[]⟩, .slice none 0 0] W → Calls Tryd.prog 30 #[.pointer (some ⟨B, 0, none⟩)] W fun e w' => e = .returned (.int .i64 (n R i)) ∧ ES B s R w (i + 1) (x || !decide (0 ≤ n R i)) [.int .i64 2, .int .i64 0, .int .i64 0, .int .i64 0, .string ⟨#[]⟩, .slice none 0 0] w') := fun i x W h => stepN hR h
  have HZ : Hid (∀ i x W, ES B s R w i x [.int .i64 2, .int .i64 0, .int .i64 0, .int .i64 0, .string ⟨#[]⟩, .slice none 0 0] W → Calls Tryd.prog 32 #[.pointer (some ⟨B, 0, none⟩)] W fun e w' => e = .returned (.string (B4.zeros (n R i))) ∧ ES B s R w (i + 1) (x || !decide (0 ≤ n R i) || !decide (n R i ≤ 768)) [.int .i64 2, .int .i64 0, .int .i64 0, .int .i64 0, .string ⟨#[]⟩, .slice none 0 0] w') := fun i x W h => stepZ hR h
  have z0 := h1.tmp.cell 0 (by simp)
  have f0 := h1.tmp.free 0 (by simp)
  have y0 := h1.res.cell 0 (by simp)
  have g0 := h1.res.free 0 (by simp)
  have z1 := h1.tmp.cell 1 (by simp)
  have f1 := h1.tmp.free 1 (by simp)
  have y1 := h1.res.cell 1 (by simp)
  have g1 := h1.res.free 1 (by simp)
  have z2 := h1.tmp.cell 2 (by simp)
  have f2 := h1.tmp.free 2 (by simp)
  have y2 := h1.res.cell 2 (by simp)
  have g2 := h1.res.free 2 (by simp)
  have z3 := h1.tmp.cell 3 (by simp)
  have f3 := h1.tmp.free 3 (by simp)
  have y3 := h1.res.cell 3 (by simp)
  have g3 := h1.res.free 3 (by simp)
  have z4 := h1.tmp.cell 4 (by simp)
  have f4 := h1.tmp.free 4 (by simp)
  have y4 := h1.res.cell 4 (by simp)
  have g4 := h1.res.free 4 (by simp)
  have z5 := h1.tmp.cell 5 (by simp)
  have f5 := h1.tmp.free 5 (by simp)
  have y5 := h1.res.cell 5 (by simp)
  have g5 := h1.res.free 5 (by simp)
  simp only [zero6, List.getElem_cons_zero, List.getElem_cons_succ] at z0 z1 z2 z3 z4 z5 y0 y1 y2 y3 y4 y5
  go_enter Tryd.func21, Tryd.ntmps21
  go_wp2_with (first
    | (go_at_call 30; refine (HN.out _ _ _ (by assumption)).mono ?_; rintro e w1 ⟨rfl, h1⟩; have z0 := h1.tmp.cell 0 (by simp); have f0 := h1.tmp.free 0 (by simp); have y0 := h1.res.cell 0 (by simp); have g0 := h1.res.free 0 (by simp); have z1 := h1.tmp.cell 1 (by simp); have f1 := h1.tmp.free 1 (by simp); have y1 := h1.res.cell 1 (by simp); have g1 := h1.res.free 1 (by simp); have z2 := h1.tmp.cell 2 (by simp); have f2 := h1.tmp.free 2 (by simp); have y2 := h1.res.cell 2 (by simp); have g2 := h1.res.free 2 (by simp); have z3 := h1.tmp.cell 3 (by simp); have f3 := h1.tmp.free 3 (by simp); have y3 := h1.res.cell 3 (by simp); have g3 := h1.res.free 3 (by simp); have z4 := h1.tmp.cell 4 (by simp); have f4 := h1.tmp.free 4 (by simp); have y4 := h1.res.cell 4 (by simp); have g4 := h1.res.free 4 (by simp); have z5 := h1.tmp.cell 5 (by simp); have f5 := h1.tmp.free 5 (by simp); have y5 := h1.res.cell 5 (by simp); have g5 := h1.res.free 5 (by simp); simp only [zero6, List.getElem_cons_zero, List.getElem_cons_succ] at z0 z1 z2 z3 z4 z5 y0 y1 y2 y3 y4 y5)
    | (go_at_call 32; refine (HZ.out _ _ _ (by assumption)).mono ?_; rintro e w1 ⟨rfl, h1⟩; have z0 := h1.tmp.cell 0 (by simp); have f0 := h1.tmp.free 0 (by simp); have y0 := h1.res.cell 0 (by simp); have g0 := h1.res.free 0 (by simp); have z1 := h1.tmp.cell 1 (by simp); have f1 := h1.tmp.free 1 (by simp); have y1 := h1.res.cell 1 (by simp); have g1 := h1.res.free 1 (by simp); have z2 := h1.tmp.cell 2 (by simp); have f2 := h1.tmp.free 2 (by simp); have y2 := h1.res.cell 2 (by simp); have g2 := h1.res.free 2 (by simp); have z3 := h1.tmp.cell 3 (by simp); have f3 := h1.tmp.free 3 (by simp); have y3 := h1.res.cell 3 (by simp); have g3 := h1.res.free 3 (by simp); have z4 := h1.tmp.cell 4 (by simp); have f4 := h1.tmp.free 4 (by simp); have y4 := h1.res.cell 4 (by simp); have g4 := h1.res.free 4 (by simp); have z5 := h1.tmp.cell 5 (by simp); have f5 := h1.tmp.free 5 (by simp); have y5 := h1.res.cell 5 (by simp); have g5 := h1.res.free 5 (by simp); simp only [zero6, List.getElem_cons_zero, List.getElem_cons_succ] at z0 z1 z2 z3 z4 z5 y0 y1 y2 y3 y4 y5))
  have u1 : ES B s R w _ _ [.int .i64 2, .int .i64 (n R 0), .int .i64 0, .int .i64 (n R 1), .string (B4.zeros (n R 2)), .slice none 0 0] _ := (((h1.set 1 (.int .i64 (n R 0))).set 3 (.int .i64 (n R 1))).set 4 (.string (B4.zeros (n R 2))))
  obtain ⟨q, qr, qc⟩ := fin u1
  have v0 := q.cell 0 (by simp)
  have v1 := q.cell 1 (by simp)
  have v2 := q.cell 2 (by simp)
  have v3 := q.cell 3 (by simp)
  have v4 := q.cell 4 (by simp)
  have v5 := q.cell 5 (by simp)
  simp only [List.getElem_cons_zero, List.getElem_cons_succ] at v0 v1 v2 v3 v4 v5
  refine bodyPost_ret (v := EV.val ⟨2,  (n R 0),  0,  (n R 1), (B4.zeros (n R 2)), []⟩ none 0) (by simp [results, Tryd.results21, go_sem, v0, v1, v2, v3, v4, v5]) rfl ⟨⟨2,  (n R 0),  0,  (n R 1), (B4.zeros (n R 2)), []⟩, none, 0, rfl, Or.inl rfl, ?_, _, _, qr, ?_, qc⟩
  · intro _
    rfl
  · simp only [ans, iso]
    show _ = _
    generalize decide (0 ≤ n R 0) = b0
    generalize decide (0 ≤ n R 1) = b1
    generalize decide (0 ≤ n R 2) = b2
    generalize decide (n R 2 ≤ 768) = b3
    generalize decide (R.drop 3 = []) = b4
    revert b0 b1 b2 b3 b4
    decide

set_option maxHeartbeats 4000000 in
theorem event3 {B : Nat} {s : ByteArray} {R : List (List UInt8)} {w : World} (hR : Ok R) (hT : TB B w) (hb : RB B s R false w) :
    Calls Tryd.prog 21 #[.pointer (some ⟨B, 0, none⟩), .int .i64 3] w (Ans B s R 3 w) := by
  have h1 := es_new w 3 hb hT
  have HN : Hid (∀ i x W, ES B s R w i x [.int .i64 3, .int .i64 0, .int .i64 0, .int .i64 0, .string ⟨#[]⟩, .slice none 0 0] W → Calls Tryd.prog 30 #[.pointer (some ⟨B, 0, none⟩)] W fun e w' => e = .returned (.int .i64 (n R i)) ∧ ES B s R w (i + 1) (x || !decide (0 ≤ n R i)) [.int .i64 3, .int .i64 0, .int .i64 0, .int .i64 0, .string ⟨#[]⟩, .slice none 0 0] w') := fun i x W h => stepN hR h
  have z0 := h1.tmp.cell 0 (by simp)
  have f0 := h1.tmp.free 0 (by simp)
  have y0 := h1.res.cell 0 (by simp)
  have g0 := h1.res.free 0 (by simp)
  have z1 := h1.tmp.cell 1 (by simp)
  have f1 := h1.tmp.free 1 (by simp)
  have y1 := h1.res.cell 1 (by simp)
  have g1 := h1.res.free 1 (by simp)
  have z2 := h1.tmp.cell 2 (by simp)
  have f2 := h1.tmp.free 2 (by simp)
  have y2 := h1.res.cell 2 (by simp)
  have g2 := h1.res.free 2 (by simp)
  have z3 := h1.tmp.cell 3 (by simp)
  have f3 := h1.tmp.free 3 (by simp)
  have y3 := h1.res.cell 3 (by simp)
  have g3 := h1.res.free 3 (by simp)
  have z4 := h1.tmp.cell 4 (by simp)
  have f4 := h1.tmp.free 4 (by simp)
  have y4 := h1.res.cell 4 (by simp)
  have g4 := h1.res.free 4 (by simp)
  have z5 := h1.tmp.cell 5 (by simp)
  have f5 := h1.tmp.free 5 (by simp)
  have y5 := h1.res.cell 5 (by simp)
  have g5 := h1.res.free 5 (by simp)
  simp only [zero6, List.getElem_cons_zero, List.getElem_cons_succ] at z0 z1 z2 z3 z4 z5 y0 y1 y2 y3 y4 y5
  go_enter Tryd.func21, Tryd.ntmps21
  go_wp2_with (first
    | (go_at_call 30; refine (HN.out _ _ _ (by assumption)).mono ?_; rintro e w1 ⟨rfl, h1⟩; have z0 := h1.tmp.cell 0 (by simp); have f0 := h1.tmp.free 0 (by simp); have y0 := h1.res.cell 0 (by simp); have g0 := h1.res.free 0 (by simp); have z1 := h1.tmp.cell 1 (by simp); have f1 := h1.tmp.free 1 (by simp); have y1 := h1.res.cell 1 (by simp); have g1 := h1.res.free 1 (by simp); have z2 := h1.tmp.cell 2 (by simp); have f2 := h1.tmp.free 2 (by simp); have y2 := h1.res.cell 2 (by simp); have g2 := h1.res.free 2 (by simp); have z3 := h1.tmp.cell 3 (by simp); have f3 := h1.tmp.free 3 (by simp); have y3 := h1.res.cell 3 (by simp); have g3 := h1.res.free 3 (by simp); have z4 := h1.tmp.cell 4 (by simp); have f4 := h1.tmp.free 4 (by simp); have y4 := h1.res.cell 4 (by simp); have g4 := h1.res.free 4 (by simp); have z5 := h1.tmp.cell 5 (by simp); have f5 := h1.tmp.free 5 (by simp); have y5 := h1.res.cell 5 (by simp); have g5 := h1.res.free 5 (by simp); simp only [zero6, List.getElem_cons_zero, List.getElem_cons_succ] at z0 z1 z2 z3 z4 z5 y0 y1 y2 y3 y4 y5))
  have u1 : ES B s R w _ _ [.int .i64 3, .int .i64 (n R 0), .int .i64 (n R 1), .int .i64 0, .string ⟨#[]⟩, .slice none 0 0] _ := ((h1.set 1 (.int .i64 (n R 0))).set 2 (.int .i64 (n R 1)))
  obtain ⟨q, qr, qc⟩ := fin u1
  have v0 := q.cell 0 (by simp)
  have v1 := q.cell 1 (by simp)
  have v2 := q.cell 2 (by simp)
  have v3 := q.cell 3 (by simp)
  have v4 := q.cell 4 (by simp)
  have v5 := q.cell 5 (by simp)
  simp only [List.getElem_cons_zero, List.getElem_cons_succ] at v0 v1 v2 v3 v4 v5
  refine bodyPost_ret (v := EV.val ⟨3,  (n R 0),  (n R 1),  0, ⟨#[]⟩, []⟩ none 0) (by simp [results, Tryd.results21, go_sem, v0, v1, v2, v3, v4, v5]) rfl ⟨⟨3,  (n R 0),  (n R 1),  0, ⟨#[]⟩, []⟩, none, 0, rfl, Or.inl rfl, ?_, _, _, qr, ?_, qc⟩
  · intro _
    rfl
  · simp only [ans, iso]
    show _ = _
    generalize decide (0 ≤ n R 0) = b0
    generalize decide (0 ≤ n R 1) = b1
    generalize decide (R.drop 2 = []) = b2
    revert b0 b1 b2
    decide

set_option maxHeartbeats 4000000 in
theorem event6 {B : Nat} {s : ByteArray} {R : List (List UInt8)} {w : World} (hR : Ok R) (hT : TB B w) (hb : RB B s R false w) :
    Calls Tryd.prog 21 #[.pointer (some ⟨B, 0, none⟩), .int .i64 6] w (Ans B s R 6 w) := by
  have h1 := es_new w 6 hb hT
  have HB : Hid (∀ i x W, ES B s R w i x [.int .i64 6, .int .i64 0, .int .i64 0, .int .i64 0, .string ⟨#[]⟩, .slice none 0 0] W → Calls Tryd.prog 31 #[.pointer (some ⟨B, 0, none⟩)] W fun e w' => ∃ t, e = .returned (.string t) ∧ Hid (okH (wd R i) = true → t = mk (txt (wd R i))) ∧ ES B s R w (i + 1) (x || !okH (wd R i)) [.int .i64 6, .int .i64 0, .int .i64 0, .int .i64 0, .string ⟨#[]⟩, .slice none 0 0] w') := fun i x W h => stepB hR h
  have HN : Hid (∀ i x W, ES B s R w i x [.int .i64 6, .int .i64 0, .int .i64 0, .int .i64 0, .string ⟨#[]⟩, .slice none 0 0] W → Calls Tryd.prog 30 #[.pointer (some ⟨B, 0, none⟩)] W fun e w' => e = .returned (.int .i64 (n R i)) ∧ ES B s R w (i + 1) (x || !decide (0 ≤ n R i)) [.int .i64 6, .int .i64 0, .int .i64 0, .int .i64 0, .string ⟨#[]⟩, .slice none 0 0] w') := fun i x W h => stepN hR h
  have z0 := h1.tmp.cell 0 (by simp)
  have f0 := h1.tmp.free 0 (by simp)
  have y0 := h1.res.cell 0 (by simp)
  have g0 := h1.res.free 0 (by simp)
  have z1 := h1.tmp.cell 1 (by simp)
  have f1 := h1.tmp.free 1 (by simp)
  have y1 := h1.res.cell 1 (by simp)
  have g1 := h1.res.free 1 (by simp)
  have z2 := h1.tmp.cell 2 (by simp)
  have f2 := h1.tmp.free 2 (by simp)
  have y2 := h1.res.cell 2 (by simp)
  have g2 := h1.res.free 2 (by simp)
  have z3 := h1.tmp.cell 3 (by simp)
  have f3 := h1.tmp.free 3 (by simp)
  have y3 := h1.res.cell 3 (by simp)
  have g3 := h1.res.free 3 (by simp)
  have z4 := h1.tmp.cell 4 (by simp)
  have f4 := h1.tmp.free 4 (by simp)
  have y4 := h1.res.cell 4 (by simp)
  have g4 := h1.res.free 4 (by simp)
  have z5 := h1.tmp.cell 5 (by simp)
  have f5 := h1.tmp.free 5 (by simp)
  have y5 := h1.res.cell 5 (by simp)
  have g5 := h1.res.free 5 (by simp)
  simp only [zero6, List.getElem_cons_zero, List.getElem_cons_succ] at z0 z1 z2 z3 z4 z5 y0 y1 y2 y3 y4 y5
  go_enter Tryd.func21, Tryd.ntmps21
  go_wp2_with (first
    | (go_at_call 31; refine (HB.out _ _ _ (by assumption)).mono ?_; rintro e w1 ⟨t, rfl, HT, h1⟩; have z0 := h1.tmp.cell 0 (by simp); have f0 := h1.tmp.free 0 (by simp); have y0 := h1.res.cell 0 (by simp); have g0 := h1.res.free 0 (by simp); have z1 := h1.tmp.cell 1 (by simp); have f1 := h1.tmp.free 1 (by simp); have y1 := h1.res.cell 1 (by simp); have g1 := h1.res.free 1 (by simp); have z2 := h1.tmp.cell 2 (by simp); have f2 := h1.tmp.free 2 (by simp); have y2 := h1.res.cell 2 (by simp); have g2 := h1.res.free 2 (by simp); have z3 := h1.tmp.cell 3 (by simp); have f3 := h1.tmp.free 3 (by simp); have y3 := h1.res.cell 3 (by simp); have g3 := h1.res.free 3 (by simp); have z4 := h1.tmp.cell 4 (by simp); have f4 := h1.tmp.free 4 (by simp); have y4 := h1.res.cell 4 (by simp); have g4 := h1.res.free 4 (by simp); have z5 := h1.tmp.cell 5 (by simp); have f5 := h1.tmp.free 5 (by simp); have y5 := h1.res.cell 5 (by simp); have g5 := h1.res.free 5 (by simp); simp only [zero6, List.getElem_cons_zero, List.getElem_cons_succ] at z0 z1 z2 z3 z4 z5 y0 y1 y2 y3 y4 y5)
    | (go_at_call 30; refine (HN.out _ _ _ (by assumption)).mono ?_; rintro e w1 ⟨rfl, h1⟩; have z0 := h1.tmp.cell 0 (by simp); have f0 := h1.tmp.free 0 (by simp); have y0 := h1.res.cell 0 (by simp); have g0 := h1.res.free 0 (by simp); have z1 := h1.tmp.cell 1 (by simp); have f1 := h1.tmp.free 1 (by simp); have y1 := h1.res.cell 1 (by simp); have g1 := h1.res.free 1 (by simp); have z2 := h1.tmp.cell 2 (by simp); have f2 := h1.tmp.free 2 (by simp); have y2 := h1.res.cell 2 (by simp); have g2 := h1.res.free 2 (by simp); have z3 := h1.tmp.cell 3 (by simp); have f3 := h1.tmp.free 3 (by simp); have y3 := h1.res.cell 3 (by simp); have g3 := h1.res.free 3 (by simp); have z4 := h1.tmp.cell 4 (by simp); have f4 := h1.tmp.free 4 (by simp); have y4 := h1.res.cell 4 (by simp); have g4 := h1.res.free 4 (by simp); have z5 := h1.tmp.cell 5 (by simp); have f5 := h1.tmp.free 5 (by simp); have y5 := h1.res.cell 5 (by simp); have g5 := h1.res.free 5 (by simp); simp only [zero6, List.getElem_cons_zero, List.getElem_cons_succ] at z0 z1 z2 z3 z4 z5 y0 y1 y2 y3 y4 y5))
  have u1 : ES B s R w _ _ [.int .i64 6, .int .i64 (n R 0), .int .i64 (n R 1), .int .i64 0, .string t, .slice none 0 0] _ := (((h1.set 1 (.int .i64 (n R 0))).set 2 (.int .i64 (n R 1))).set 4 (.string t))
  obtain ⟨q, qr, qc⟩ := fin u1
  have v0 := q.cell 0 (by simp)
  have v1 := q.cell 1 (by simp)
  have v2 := q.cell 2 (by simp)
  have v3 := q.cell 3 (by simp)
  have v4 := q.cell 4 (by simp)
  have v5 := q.cell 5 (by simp)
  simp only [List.getElem_cons_zero, List.getElem_cons_succ] at v0 v1 v2 v3 v4 v5
  refine bodyPost_ret (v := EV.val ⟨6,  (n R 0),  (n R 1),  0, t, []⟩ none 0) (by simp [results, Tryd.results21, go_sem, v0, v1, v2, v3, v4, v5]) rfl ⟨⟨6,  (n R 0),  (n R 1),  0, t, []⟩, none, 0, rfl, Or.inl rfl, ?_, _, _, qr, ?_, qc⟩
  · intro h
    simp only [ans, Bool.and_eq_true] at h
    rw [HT.out (by simp [h])]
    rfl
  · simp only [ans, iso]
    show _ = _
    generalize decide (0 ≤ n R 0) = b0
    generalize decide (0 ≤ n R 1) = b1
    generalize okH (wd R 2) = b2
    generalize decide (R.drop 3 = []) = b3
    revert b0 b1 b2 b3
    decide

set_option maxHeartbeats 4000000 in
theorem event7 {B : Nat} {s : ByteArray} {R : List (List UInt8)} {w : World} (hR : Ok R) (hT : TB B w) (hb : RB B s R false w) :
    Calls Tryd.prog 21 #[.pointer (some ⟨B, 0, none⟩), .int .i64 7] w (Ans B s R 7 w) := by
  have h1 := es_new w 7 hb hT
  have HN : Hid (∀ i x W, ES B s R w i x [.int .i64 7, .int .i64 0, .int .i64 0, .int .i64 0, .string ⟨#[]⟩, .slice none 0 0] W → Calls Tryd.prog 30 #[.pointer (some ⟨B, 0, none⟩)] W fun e w' => e = .returned (.int .i64 (n R i)) ∧ ES B s R w (i + 1) (x || !decide (0 ≤ n R i)) [.int .i64 7, .int .i64 0, .int .i64 0, .int .i64 0, .string ⟨#[]⟩, .slice none 0 0] w') := fun i x W h => stepN hR h
  have HR : Hid (∀ i x W, ES B s R w i x [.int .i64 7, .int .i64 0, .int .i64 0, .int .i64 0, .string ⟨#[]⟩, .slice none 0 0] W → Calls Tryd.prog 34 #[.pointer (some ⟨B, 0, none⟩)] W fun e w' => e = .returned (.string (mk (jn (R.drop i)))) ∧ ES B s R w (i + R.length) (x || (R.drop i).isEmpty) [.int .i64 7, .int .i64 0, .int .i64 0, .int .i64 0, .string ⟨#[]⟩, .slice none 0 0] w') := fun i x W h => stepR hR h
  have z0 := h1.tmp.cell 0 (by simp)
  have f0 := h1.tmp.free 0 (by simp)
  have y0 := h1.res.cell 0 (by simp)
  have g0 := h1.res.free 0 (by simp)
  have z1 := h1.tmp.cell 1 (by simp)
  have f1 := h1.tmp.free 1 (by simp)
  have y1 := h1.res.cell 1 (by simp)
  have g1 := h1.res.free 1 (by simp)
  have z2 := h1.tmp.cell 2 (by simp)
  have f2 := h1.tmp.free 2 (by simp)
  have y2 := h1.res.cell 2 (by simp)
  have g2 := h1.res.free 2 (by simp)
  have z3 := h1.tmp.cell 3 (by simp)
  have f3 := h1.tmp.free 3 (by simp)
  have y3 := h1.res.cell 3 (by simp)
  have g3 := h1.res.free 3 (by simp)
  have z4 := h1.tmp.cell 4 (by simp)
  have f4 := h1.tmp.free 4 (by simp)
  have y4 := h1.res.cell 4 (by simp)
  have g4 := h1.res.free 4 (by simp)
  have z5 := h1.tmp.cell 5 (by simp)
  have f5 := h1.tmp.free 5 (by simp)
  have y5 := h1.res.cell 5 (by simp)
  have g5 := h1.res.free 5 (by simp)
  simp only [zero6, List.getElem_cons_zero, List.getElem_cons_succ] at z0 z1 z2 z3 z4 z5 y0 y1 y2 y3 y4 y5
  go_enter Tryd.func21, Tryd.ntmps21
  go_wp2_with (first
    | (go_at_call 30; refine (HN.out _ _ _ (by assumption)).mono ?_; rintro e w1 ⟨rfl, h1⟩; have z0 := h1.tmp.cell 0 (by simp); have f0 := h1.tmp.free 0 (by simp); have y0 := h1.res.cell 0 (by simp); have g0 := h1.res.free 0 (by simp); have z1 := h1.tmp.cell 1 (by simp); have f1 := h1.tmp.free 1 (by simp); have y1 := h1.res.cell 1 (by simp); have g1 := h1.res.free 1 (by simp); have z2 := h1.tmp.cell 2 (by simp); have f2 := h1.tmp.free 2 (by simp); have y2 := h1.res.cell 2 (by simp); have g2 := h1.res.free 2 (by simp); have z3 := h1.tmp.cell 3 (by simp); have f3 := h1.tmp.free 3 (by simp); have y3 := h1.res.cell 3 (by simp); have g3 := h1.res.free 3 (by simp); have z4 := h1.tmp.cell 4 (by simp); have f4 := h1.tmp.free 4 (by simp); have y4 := h1.res.cell 4 (by simp); have g4 := h1.res.free 4 (by simp); have z5 := h1.tmp.cell 5 (by simp); have f5 := h1.tmp.free 5 (by simp); have y5 := h1.res.cell 5 (by simp); have g5 := h1.res.free 5 (by simp); simp only [zero6, List.getElem_cons_zero, List.getElem_cons_succ] at z0 z1 z2 z3 z4 z5 y0 y1 y2 y3 y4 y5)
    | (go_at_call 34; refine (HR.out _ _ _ (by assumption)).mono ?_; rintro e w1 ⟨rfl, h1⟩; have z0 := h1.tmp.cell 0 (by simp); have f0 := h1.tmp.free 0 (by simp); have y0 := h1.res.cell 0 (by simp); have g0 := h1.res.free 0 (by simp); have z1 := h1.tmp.cell 1 (by simp); have f1 := h1.tmp.free 1 (by simp); have y1 := h1.res.cell 1 (by simp); have g1 := h1.res.free 1 (by simp); have z2 := h1.tmp.cell 2 (by simp); have f2 := h1.tmp.free 2 (by simp); have y2 := h1.res.cell 2 (by simp); have g2 := h1.res.free 2 (by simp); have z3 := h1.tmp.cell 3 (by simp); have f3 := h1.tmp.free 3 (by simp); have y3 := h1.res.cell 3 (by simp); have g3 := h1.res.free 3 (by simp); have z4 := h1.tmp.cell 4 (by simp); have f4 := h1.tmp.free 4 (by simp); have y4 := h1.res.cell 4 (by simp); have g4 := h1.res.free 4 (by simp); have z5 := h1.tmp.cell 5 (by simp); have f5 := h1.tmp.free 5 (by simp); have y5 := h1.res.cell 5 (by simp); have g5 := h1.res.free 5 (by simp); simp only [zero6, List.getElem_cons_zero, List.getElem_cons_succ] at z0 z1 z2 z3 z4 z5 y0 y1 y2 y3 y4 y5))
  have u1 : ES B s R w _ _ [.int .i64 7, .int .i64 (n R 0), .int .i64 (n R 1), .int .i64 (n R 2), .string (mk (jn (R.drop 3))), .slice none 0 0] _ := ((((h1.set 1 (.int .i64 (n R 0))).set 2 (.int .i64 (n R 1))).set 3 (.int .i64 (n R 2))).set 4 (.string (mk (jn (R.drop 3)))))
  obtain ⟨q, qr, qc⟩ := fin u1
  have v0 := q.cell 0 (by simp)
  have v1 := q.cell 1 (by simp)
  have v2 := q.cell 2 (by simp)
  have v3 := q.cell 3 (by simp)
  have v4 := q.cell 4 (by simp)
  have v5 := q.cell 5 (by simp)
  simp only [List.getElem_cons_zero, List.getElem_cons_succ] at v0 v1 v2 v3 v4 v5
  refine bodyPost_ret (v := EV.val ⟨7,  (n R 0),  (n R 1),  (n R 2), (mk (jn (R.drop 3))), []⟩ none 0) (by simp [results, Tryd.results21, go_sem, v0, v1, v2, v3, v4, v5]) rfl ⟨⟨7,  (n R 0),  (n R 1),  (n R 2), (mk (jn (R.drop 3))), []⟩, none, 0, rfl, Or.inl rfl, ?_, _, _, qr, ?_, qc⟩
  · intro _
    rfl
  · simp only [ans, iso]
    rw [show decide (R.drop (3 + R.length) = []) = true from decide_eq_true (List.drop_eq_nil_of_le (by omega))]
    rw [show decide (R.drop 3 ≠ []) = !decide (R.drop 3 = []) from decide_not]
    show _ = _
    generalize decide (0 ≤ n R 0) = b0
    generalize decide (0 ≤ n R 1) = b1
    generalize decide (0 ≤ n R 2) = b2
    generalize decide (R.drop 3 = []) = b3
    revert b0 b1 b2 b3
    decide

set_option maxHeartbeats 4000000 in
theorem event8 {B : Nat} {s : ByteArray} {R : List (List UInt8)} {w : World} (hR : Ok R) (hT : TB B w) (hb : RB B s R false w) :
    Calls Tryd.prog 21 #[.pointer (some ⟨B, 0, none⟩), .int .i64 8] w (Ans B s R 8 w) := by
  have h1 := es_new w 8 hb hT
  have HN : Hid (∀ i x W, ES B s R w i x [.int .i64 8, .int .i64 0, .int .i64 0, .int .i64 0, .string ⟨#[]⟩, .slice none 0 0] W → Calls Tryd.prog 30 #[.pointer (some ⟨B, 0, none⟩)] W fun e w' => e = .returned (.int .i64 (n R i)) ∧ ES B s R w (i + 1) (x || !decide (0 ≤ n R i)) [.int .i64 8, .int .i64 0, .int .i64 0, .int .i64 0, .string ⟨#[]⟩, .slice none 0 0] w') := fun i x W h => stepN hR h
  have HR : Hid (∀ i x W, ES B s R w i x [.int .i64 8, .int .i64 0, .int .i64 0, .int .i64 0, .string ⟨#[]⟩, .slice none 0 0] W → Calls Tryd.prog 34 #[.pointer (some ⟨B, 0, none⟩)] W fun e w' => e = .returned (.string (mk (jn (R.drop i)))) ∧ ES B s R w (i + R.length) (x || (R.drop i).isEmpty) [.int .i64 8, .int .i64 0, .int .i64 0, .int .i64 0, .string ⟨#[]⟩, .slice none 0 0] w') := fun i x W h => stepR hR h
  have z0 := h1.tmp.cell 0 (by simp)
  have f0 := h1.tmp.free 0 (by simp)
  have y0 := h1.res.cell 0 (by simp)
  have g0 := h1.res.free 0 (by simp)
  have z1 := h1.tmp.cell 1 (by simp)
  have f1 := h1.tmp.free 1 (by simp)
  have y1 := h1.res.cell 1 (by simp)
  have g1 := h1.res.free 1 (by simp)
  have z2 := h1.tmp.cell 2 (by simp)
  have f2 := h1.tmp.free 2 (by simp)
  have y2 := h1.res.cell 2 (by simp)
  have g2 := h1.res.free 2 (by simp)
  have z3 := h1.tmp.cell 3 (by simp)
  have f3 := h1.tmp.free 3 (by simp)
  have y3 := h1.res.cell 3 (by simp)
  have g3 := h1.res.free 3 (by simp)
  have z4 := h1.tmp.cell 4 (by simp)
  have f4 := h1.tmp.free 4 (by simp)
  have y4 := h1.res.cell 4 (by simp)
  have g4 := h1.res.free 4 (by simp)
  have z5 := h1.tmp.cell 5 (by simp)
  have f5 := h1.tmp.free 5 (by simp)
  have y5 := h1.res.cell 5 (by simp)
  have g5 := h1.res.free 5 (by simp)
  simp only [zero6, List.getElem_cons_zero, List.getElem_cons_succ] at z0 z1 z2 z3 z4 z5 y0 y1 y2 y3 y4 y5
  go_enter Tryd.func21, Tryd.ntmps21
  go_wp2_with (first
    | (go_at_call 30; refine (HN.out _ _ _ (by assumption)).mono ?_; rintro e w1 ⟨rfl, h1⟩; have z0 := h1.tmp.cell 0 (by simp); have f0 := h1.tmp.free 0 (by simp); have y0 := h1.res.cell 0 (by simp); have g0 := h1.res.free 0 (by simp); have z1 := h1.tmp.cell 1 (by simp); have f1 := h1.tmp.free 1 (by simp); have y1 := h1.res.cell 1 (by simp); have g1 := h1.res.free 1 (by simp); have z2 := h1.tmp.cell 2 (by simp); have f2 := h1.tmp.free 2 (by simp); have y2 := h1.res.cell 2 (by simp); have g2 := h1.res.free 2 (by simp); have z3 := h1.tmp.cell 3 (by simp); have f3 := h1.tmp.free 3 (by simp); have y3 := h1.res.cell 3 (by simp); have g3 := h1.res.free 3 (by simp); have z4 := h1.tmp.cell 4 (by simp); have f4 := h1.tmp.free 4 (by simp); have y4 := h1.res.cell 4 (by simp); have g4 := h1.res.free 4 (by simp); have z5 := h1.tmp.cell 5 (by simp); have f5 := h1.tmp.free 5 (by simp); have y5 := h1.res.cell 5 (by simp); have g5 := h1.res.free 5 (by simp); simp only [zero6, List.getElem_cons_zero, List.getElem_cons_succ] at z0 z1 z2 z3 z4 z5 y0 y1 y2 y3 y4 y5)
    | (go_at_call 34; refine (HR.out _ _ _ (by assumption)).mono ?_; rintro e w1 ⟨rfl, h1⟩; have z0 := h1.tmp.cell 0 (by simp); have f0 := h1.tmp.free 0 (by simp); have y0 := h1.res.cell 0 (by simp); have g0 := h1.res.free 0 (by simp); have z1 := h1.tmp.cell 1 (by simp); have f1 := h1.tmp.free 1 (by simp); have y1 := h1.res.cell 1 (by simp); have g1 := h1.res.free 1 (by simp); have z2 := h1.tmp.cell 2 (by simp); have f2 := h1.tmp.free 2 (by simp); have y2 := h1.res.cell 2 (by simp); have g2 := h1.res.free 2 (by simp); have z3 := h1.tmp.cell 3 (by simp); have f3 := h1.tmp.free 3 (by simp); have y3 := h1.res.cell 3 (by simp); have g3 := h1.res.free 3 (by simp); have z4 := h1.tmp.cell 4 (by simp); have f4 := h1.tmp.free 4 (by simp); have y4 := h1.res.cell 4 (by simp); have g4 := h1.res.free 4 (by simp); have z5 := h1.tmp.cell 5 (by simp); have f5 := h1.tmp.free 5 (by simp); have y5 := h1.res.cell 5 (by simp); have g5 := h1.res.free 5 (by simp); simp only [zero6, List.getElem_cons_zero, List.getElem_cons_succ] at z0 z1 z2 z3 z4 z5 y0 y1 y2 y3 y4 y5))
  have u1 : ES B s R w _ _ [.int .i64 8, .int .i64 (n R 0), .int .i64 (n R 1), .int .i64 0, .string (mk (jn (R.drop 2))), .slice none 0 0] _ := (((h1.set 1 (.int .i64 (n R 0))).set 2 (.int .i64 (n R 1))).set 4 (.string (mk (jn (R.drop 2)))))
  obtain ⟨q, qr, qc⟩ := fin u1
  have v0 := q.cell 0 (by simp)
  have v1 := q.cell 1 (by simp)
  have v2 := q.cell 2 (by simp)
  have v3 := q.cell 3 (by simp)
  have v4 := q.cell 4 (by simp)
  have v5 := q.cell 5 (by simp)
  simp only [List.getElem_cons_zero, List.getElem_cons_succ] at v0 v1 v2 v3 v4 v5
  refine bodyPost_ret (v := EV.val ⟨8,  (n R 0),  (n R 1),  0, (mk (jn (R.drop 2))), []⟩ none 0) (by simp [results, Tryd.results21, go_sem, v0, v1, v2, v3, v4, v5]) rfl ⟨⟨8,  (n R 0),  (n R 1),  0, (mk (jn (R.drop 2))), []⟩, none, 0, rfl, Or.inl rfl, ?_, _, _, qr, ?_, qc⟩
  · intro _
    rfl
  · simp only [ans, iso]
    rw [show decide (R.drop (2 + R.length) = []) = true from decide_eq_true (List.drop_eq_nil_of_le (by omega))]
    rw [show decide (R.drop 2 ≠ []) = !decide (R.drop 2 = []) from decide_not]
    show _ = _
    generalize decide (0 ≤ n R 0) = b0
    generalize decide (0 ≤ n R 1) = b1
    generalize decide (R.drop 2 = []) = b2
    revert b0 b1 b2
    decide

set_option maxHeartbeats 4000000 in
theorem event9 {B : Nat} {s : ByteArray} {R : List (List UInt8)} {w : World} (hR : Ok R) (hT : TB B w) (hb : RB B s R false w) :
    Calls Tryd.prog 21 #[.pointer (some ⟨B, 0, none⟩), .int .i64 9] w (Ans B s R 9 w) := by
  have h1 := es_new w 9 hb hT
  have HB : Hid (∀ i x W, ES B s R w i x [.int .i64 9, .int .i64 0, .int .i64 0, .int .i64 0, .string ⟨#[]⟩, .slice none 0 0] W → Calls Tryd.prog 31 #[.pointer (some ⟨B, 0, none⟩)] W fun e w' => ∃ t, e = .returned (.string t) ∧ Hid (okH (wd R i) = true → t = mk (txt (wd R i))) ∧ ES B s R w (i + 1) (x || !okH (wd R i)) [.int .i64 9, .int .i64 0, .int .i64 0, .int .i64 0, .string ⟨#[]⟩, .slice none 0 0] w') := fun i x W h => stepB hR h
  have HN : Hid (∀ i x W, ES B s R w i x [.int .i64 9, .int .i64 0, .int .i64 0, .int .i64 0, .string ⟨#[]⟩, .slice none 0 0] W → Calls Tryd.prog 30 #[.pointer (some ⟨B, 0, none⟩)] W fun e w' => e = .returned (.int .i64 (n R i)) ∧ ES B s R w (i + 1) (x || !decide (0 ≤ n R i)) [.int .i64 9, .int .i64 0, .int .i64 0, .int .i64 0, .string ⟨#[]⟩, .slice none 0 0] w') := fun i x W h => stepN hR h
  have z0 := h1.tmp.cell 0 (by simp)
  have f0 := h1.tmp.free 0 (by simp)
  have y0 := h1.res.cell 0 (by simp)
  have g0 := h1.res.free 0 (by simp)
  have z1 := h1.tmp.cell 1 (by simp)
  have f1 := h1.tmp.free 1 (by simp)
  have y1 := h1.res.cell 1 (by simp)
  have g1 := h1.res.free 1 (by simp)
  have z2 := h1.tmp.cell 2 (by simp)
  have f2 := h1.tmp.free 2 (by simp)
  have y2 := h1.res.cell 2 (by simp)
  have g2 := h1.res.free 2 (by simp)
  have z3 := h1.tmp.cell 3 (by simp)
  have f3 := h1.tmp.free 3 (by simp)
  have y3 := h1.res.cell 3 (by simp)
  have g3 := h1.res.free 3 (by simp)
  have z4 := h1.tmp.cell 4 (by simp)
  have f4 := h1.tmp.free 4 (by simp)
  have y4 := h1.res.cell 4 (by simp)
  have g4 := h1.res.free 4 (by simp)
  have z5 := h1.tmp.cell 5 (by simp)
  have f5 := h1.tmp.free 5 (by simp)
  have y5 := h1.res.cell 5 (by simp)
  have g5 := h1.res.free 5 (by simp)
  simp only [zero6, List.getElem_cons_zero, List.getElem_cons_succ] at z0 z1 z2 z3 z4 z5 y0 y1 y2 y3 y4 y5
  go_enter Tryd.func21, Tryd.ntmps21
  go_wp2_with (first
    | (go_at_call 31; refine (HB.out _ _ _ (by assumption)).mono ?_; rintro e w1 ⟨t, rfl, HT, h1⟩; have z0 := h1.tmp.cell 0 (by simp); have f0 := h1.tmp.free 0 (by simp); have y0 := h1.res.cell 0 (by simp); have g0 := h1.res.free 0 (by simp); have z1 := h1.tmp.cell 1 (by simp); have f1 := h1.tmp.free 1 (by simp); have y1 := h1.res.cell 1 (by simp); have g1 := h1.res.free 1 (by simp); have z2 := h1.tmp.cell 2 (by simp); have f2 := h1.tmp.free 2 (by simp); have y2 := h1.res.cell 2 (by simp); have g2 := h1.res.free 2 (by simp); have z3 := h1.tmp.cell 3 (by simp); have f3 := h1.tmp.free 3 (by simp); have y3 := h1.res.cell 3 (by simp); have g3 := h1.res.free 3 (by simp); have z4 := h1.tmp.cell 4 (by simp); have f4 := h1.tmp.free 4 (by simp); have y4 := h1.res.cell 4 (by simp); have g4 := h1.res.free 4 (by simp); have z5 := h1.tmp.cell 5 (by simp); have f5 := h1.tmp.free 5 (by simp); have y5 := h1.res.cell 5 (by simp); have g5 := h1.res.free 5 (by simp); simp only [zero6, List.getElem_cons_zero, List.getElem_cons_succ] at z0 z1 z2 z3 z4 z5 y0 y1 y2 y3 y4 y5)
    | (go_at_call 30; refine (HN.out _ _ _ (by assumption)).mono ?_; rintro e w1 ⟨rfl, h1⟩; have z0 := h1.tmp.cell 0 (by simp); have f0 := h1.tmp.free 0 (by simp); have y0 := h1.res.cell 0 (by simp); have g0 := h1.res.free 0 (by simp); have z1 := h1.tmp.cell 1 (by simp); have f1 := h1.tmp.free 1 (by simp); have y1 := h1.res.cell 1 (by simp); have g1 := h1.res.free 1 (by simp); have z2 := h1.tmp.cell 2 (by simp); have f2 := h1.tmp.free 2 (by simp); have y2 := h1.res.cell 2 (by simp); have g2 := h1.res.free 2 (by simp); have z3 := h1.tmp.cell 3 (by simp); have f3 := h1.tmp.free 3 (by simp); have y3 := h1.res.cell 3 (by simp); have g3 := h1.res.free 3 (by simp); have z4 := h1.tmp.cell 4 (by simp); have f4 := h1.tmp.free 4 (by simp); have y4 := h1.res.cell 4 (by simp); have g4 := h1.res.free 4 (by simp); have z5 := h1.tmp.cell 5 (by simp); have f5 := h1.tmp.free 5 (by simp); have y5 := h1.res.cell 5 (by simp); have g5 := h1.res.free 5 (by simp); simp only [zero6, List.getElem_cons_zero, List.getElem_cons_succ] at z0 z1 z2 z3 z4 z5 y0 y1 y2 y3 y4 y5))
  have u1 : ES B s R w _ _ [.int .i64 9, .int .i64 (n R 0), .int .i64 (n R 1), .int .i64 (n R 2), .string t, .slice none 0 0] _ := ((((h1.set 1 (.int .i64 (n R 0))).set 2 (.int .i64 (n R 1))).set 3 (.int .i64 (n R 2))).set 4 (.string t))
  obtain ⟨q, qr, qc⟩ := fin u1
  have v0 := q.cell 0 (by simp)
  have v1 := q.cell 1 (by simp)
  have v2 := q.cell 2 (by simp)
  have v3 := q.cell 3 (by simp)
  have v4 := q.cell 4 (by simp)
  have v5 := q.cell 5 (by simp)
  simp only [List.getElem_cons_zero, List.getElem_cons_succ] at v0 v1 v2 v3 v4 v5
  refine bodyPost_ret (v := EV.val ⟨9,  (n R 0),  (n R 1),  (n R 2), t, []⟩ none 0) (by simp [results, Tryd.results21, go_sem, v0, v1, v2, v3, v4, v5]) rfl ⟨⟨9,  (n R 0),  (n R 1),  (n R 2), t, []⟩, none, 0, rfl, Or.inl rfl, ?_, _, _, qr, ?_, qc⟩
  · intro h
    simp only [ans, Bool.and_eq_true] at h
    rw [HT.out (by simp [h])]
    rfl
  · simp only [ans, iso]
    show _ = _
    generalize decide (0 ≤ n R 0) = b0
    generalize decide (0 ≤ n R 1) = b1
    generalize decide (0 ≤ n R 2) = b2
    generalize okH (wd R 3) = b3
    generalize decide (R.drop 4 = []) = b4
    revert b0 b1 b2 b3 b4
    decide

theorem stepM {B : Nat} {s : ByteArray} {R : List (List UInt8)} {w W : World} {vs : List Value} (hR : Ok R) (hn : R.length ≤ 1048576) (h : ES B s R w 0 false vs W) :
    Calls Tryd.prog 33 #[.pointer (some ⟨B, 0, none⟩)] W fun e w' => ∃ a c, e = .returned (.slice a R.length c) ∧ J0.Own (w.heap.size + 2) w' a (R.map fun p => R0.rd (mk p)) ∧ ES B s R w R.length (bad false R R.length) vs w' := by
  refine (RY.numbers hR hn h.tb h.rd).mono ?_
  rintro e w1 ⟨a, c, he, ho, hr, hc⟩
  have hlt := h.tmp.lt
  have hB := h.lt
  exact ⟨a, c, he, ho.mono (by omega), by rw [List.drop_length]; exact hr, blk_chg h.res hc (by omega), blk_chg h.tmp hc (by omega), h.tb.chg hc, h.ch.trans hc, h.lt⟩

set_option maxHeartbeats 4000000 in
theorem event5 {B : Nat} {s : ByteArray} {R : List (List UInt8)} {w : World} (hR : Ok R) (hn : R.length ≤ 1048576) (hT : TB B w) (hb : RB B s R false w) :
    Calls Tryd.prog 21 #[.pointer (some ⟨B, 0, none⟩), .int .i64 5] w (Ans B s R 5 w) := by
  have h1 := es_new w 5 hb hT
  have HN : Hid (∀ W, ES B s R w 0 false [.int .i64 5, .int .i64 0, .int .i64 0, .int .i64 0, .string ⟨#[]⟩, .slice none 0 0] W → Calls Tryd.prog 33 #[.pointer (some ⟨B, 0, none⟩)] W fun e w' => ∃ a c, e = .returned (.slice a R.length c) ∧ J0.Own (w.heap.size + 2) w' a (R.map fun p => R0.rd (mk p)) ∧ ES B s R w R.length (bad false R R.length) [.int .i64 5, .int .i64 0, .int .i64 0, .int .i64 0, .string ⟨#[]⟩, .slice none 0 0] w') := fun W h => stepM hR hn h
  go_enter Tryd.func21, Tryd.ntmps21
  go_wp2_with (go_at_call 33; refine (HN.out _ (by assumption)).mono ?_; rintro e w1 ⟨a, c, rfl, ho, h2⟩; have z0 := h2.tmp.cell 0 (by simp); have f0 := h2.tmp.free 0 (by simp); have y0 := h2.res.cell 0 (by simp); have g0 := h2.res.free 0 (by simp); have z1 := h2.tmp.cell 1 (by simp); have f1 := h2.tmp.free 1 (by simp); have y1 := h2.res.cell 1 (by simp); have g1 := h2.res.free 1 (by simp); have z2 := h2.tmp.cell 2 (by simp); have f2 := h2.tmp.free 2 (by simp); have y2 := h2.res.cell 2 (by simp); have g2 := h2.res.free 2 (by simp); have z3 := h2.tmp.cell 3 (by simp); have f3 := h2.tmp.free 3 (by simp); have y3 := h2.res.cell 3 (by simp); have g3 := h2.res.free 3 (by simp); have z4 := h2.tmp.cell 4 (by simp); have f4 := h2.tmp.free 4 (by simp); have y4 := h2.res.cell 4 (by simp); have g4 := h2.res.free 4 (by simp); have z5 := h2.tmp.cell 5 (by simp); have f5 := h2.tmp.free 5 (by simp); have y5 := h2.res.cell 5 (by simp); have g5 := h2.res.free 5 (by simp); simp only [zero6, List.getElem_cons_zero, List.getElem_cons_succ] at z0 z1 z2 z3 z4 z5 y0 y1 y2 y3 y4 y5)
  have u1 : ES B s R w _ _ [.int .i64 5, .int .i64 0, .int .i64 0, .int .i64 0, .string ⟨#[]⟩, .slice a R.length c] _ := h2.set 5 (.slice a R.length c)
  obtain ⟨q, qr, qc⟩ := fin u1
  have v0 := q.cell 0 (by simp)
  have v1 := q.cell 1 (by simp)
  have v2 := q.cell 2 (by simp)
  have v3 := q.cell 3 (by simp)
  have v4 := q.cell 4 (by simp)
  have v5 := q.cell 5 (by simp)
  simp only [List.getElem_cons_zero, List.getElem_cons_succ] at v0 v1 v2 v3 v4 v5
  refine bodyPost_ret (v := EV.val ⟨5, 0, 0, 0, ⟨#[]⟩, R.map fun p => R0.rd (mk p)⟩ a c) (by simp [results, Tryd.results21, go_sem, v0, v1, v2, v3, v4, v5]) rfl ⟨⟨5, 0, 0, 0, ⟨#[]⟩, R.map fun p => R0.rd (mk p)⟩, a, c, rfl, ?_, fun _ => rfl, _, _, qr, ?_, qc⟩
  · have o1 := ho.set (B := w.heap.size + 1) (by omega) 5 (.slice a R.length c)
    exact ((((((o1.set (by omega) 0 _).set (by omega) 1 _).set (by omega) 2 _).set (by omega) 3 _).set (by omega) 4 _).set (by omega) 5 _).mono (by omega)
  · rw [List.drop_length]
    simp [ans, bad]

set_option maxHeartbeats 1000000 in
theorem event4 {B : Nat} {s : ByteArray} {R : List (List UInt8)} {w : World} (hR : Ok R) (hT : TB B w) (hb : RB B s R false w) :
    Calls Tryd.prog 21 #[.pointer (some ⟨B, 0, none⟩), .int .i64 4] w (Ans B s R 4 w) := by
  obtain ⟨X, hX⟩ : ∃ X, X = m6 ⟨4, 0, 0, 0, ⟨#[]⟩, []⟩ := ⟨_, rfl⟩
  have q : K0.Blk w.heap.size [.int .i64 4, .int .i64 0, .int .i64 0, .int .i64 0, .string ⟨#[]⟩, .slice none 0 0] ((w.alloc X).alloc X) := by
    rw [hX]
    exact (K0.blk_new [.int .i64 4, .int .i64 0, .int .i64 0, .int .i64 0, .string ⟨#[]⟩, .slice none 0 0] w 24).alloc _
  have qr : RB B s R false ((w.alloc X).alloc X) := (hb.alloc _).alloc _
  have qc : Chg B w ((w.alloc X).alloc X) := ((Chg.refl _ _).step (K0.below_new w X) (Nat.le_refl _)).step (K0.below_new (w.alloc X) X) (by simp)
  have v0 := q.cell 0 (by simp)
  have v1 := q.cell 1 (by simp)
  have v2 := q.cell 2 (by simp)
  have v3 := q.cell 3 (by simp)
  have v4 := q.cell 4 (by simp)
  have v5 := q.cell 5 (by simp)
  simp only [List.getElem_cons_zero, List.getElem_cons_succ] at v0 v1 v2 v3 v4 v5
  subst hX
  have HQ : Hid (RB B s R false ((w.alloc (m6 ⟨4, 0, 0, 0, ⟨#[]⟩, []⟩)).alloc (m6 ⟨4, 0, 0, 0, ⟨#[]⟩, []⟩)) ∧ Chg B w ((w.alloc (m6 ⟨4, 0, 0, 0, ⟨#[]⟩, []⟩)).alloc (m6 ⟨4, 0, 0, 0, ⟨#[]⟩, []⟩))) := ⟨qr, qc⟩
  clear q qr qc
  go_enter Tryd.func21, Tryd.ntmps21
  go_wp2
  refine bodyPost_ret (v := EV.val ⟨4, 0, 0, 0, ⟨#[]⟩, []⟩ none 0) (by simp [results, Tryd.results21, go_sem, v0, v1, v2, v3, v4, v5]) rfl ⟨⟨4, 0, 0, 0, ⟨#[]⟩, []⟩, none, 0, rfl, Or.inl rfl, fun _ => rfl, R, false, HQ.out.1, ?_, HQ.out.2⟩
  simp [ans, iso]

end Go.Proofs.YtjajclifjojblaaDoor.RE
