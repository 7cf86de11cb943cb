/- The contract of spec.ReadEvent. -/
import Derived.Test.YtjajclifjojblaaDoorBun0
import Derived.Test.YtjajclifjojblaaDoorRv9
import Derived.Test.YtjajclifjojblaaDoorAny2
import Derived.Deep.DeepCutAuto
import Derived.Deep.CutBlock
namespace Go.Proofs.YtjajclifjojblaaDoor.RO
open Go.ChangeShapes Go.WideShapes Go.ChangeAt Go.RowKit
set_option linter.unusedVariables false
set_option linter.unusedSimpArgs false
set_option maxRecDepth 10000
open RV (mk sp jn nib un hexOk okH txt)
open EW (zero6 z6 put6 other6)
open RW (n wd cand cd)
open EV (Ev)

abbrev wsOf (s : ByteArray) : List ByteArray := (sp s.data.toList).map mk

/-- The blocks of ReadEvent: the result, the event, the words. -/
structure SS (s : ByteArray) (w : World) (E g : Nat) (vs : List Value) (W : World) : Prop where
  res : K0.Blk w.heap.size zero6 W
  ev : K0.Blk E vs W
  row : W0.Row W g (wsOf s)
  bel : Below w.heap.size w W
  l1 : w.heap.size < E
  l2 : w.heap.size < g
  l3 : g < E

section
variable {s : ByteArray} {w W W' : World} {E g : Nat} {vs : List Value}
theorem SS.below (h : SS s w E g vs W) (hb : Below W.heap.size W W') : SS s w E g vs W' := ⟨h.res.below hb, h.ev.below hb, h.row.below hb, h.bel.trans (hb.mono h.bel.size), h.l1, h.l2, h.l3⟩
theorem SS.set (h : SS s w E g vs W) (j : Nat) (v : Value) : SS s w E g (vs.set j v) (W.setCell ⟨E, j, none⟩ v) := by
  have l1 := h.l1
  have l2 := h.l2
  have l3 := h.l3
  refine ⟨h.res.setOther (by omega) j v, h.ev.set j v, ⟨?_, fun i hi => ?_, fun i hi => ?_⟩, h.bel.setCell (p := ⟨E, j, none⟩) (by simp; omega) v, l1, l2, l3⟩
  · have := h.row.lt
    simpa [World.setCell] using this
  · rw [World.cell?_setCell_other _ _ _ _ (fun x => by have := (Addr.mk.inj x).1; omega)]
    exact h.row.cell i hi
  · rw [World.frozen?_setCell]
    exact h.row.free i hi

theorem ibuf_set {base m cap B : Nat} {a : Option Addr} {zs : List Int} (h : J0.IBuf base W a m cap zs) (hB : B < base) (j : Nat) (v : Value) : J0.IBuf base (W.setCell ⟨B, j, none⟩ v) a m cap zs := by
  refine ⟨h.1, h.2.1, ?_⟩
  rcases h.2.2 with h0 | ⟨g, cap, cur, hv, hg, hc, r⟩
  · exact Or.inl h0
  · refine Or.inr ⟨g, cap, cur, hv, hg, ?_, r⟩
    rw [Below.heap_setCell _ _ _ _ (by simp; omega)]
    exact hc

theorem num_eqL (L : List (List UInt8)) (i : Nat) : (if i + 1 < (L.map mk).length then R0.rd ((L.map mk).getD (i + 1) ⟨#[]⟩) else -1) = n L.tail i := by
  cases L with
  | nil =>
    rw [if_neg (by simp)]
    show -1 = n [] i
    rw [n, RW.wd_not (by simp), RW.rd_nil]
  | cons p L =>
    by_cases h : i < L.length
    · rw [if_pos (by simp; omega)]
      have e : ((p :: L).map mk).getD (i + 1) ⟨#[]⟩ = mk L[i] := by simp [List.getD, h]
      rw [e, n, RW.wd_get (R := (p :: L).tail) (by exact h)]
      rfl
    · rw [if_neg (by simp; omega), n, RW.wd_not (by simp; omega), RW.rd_nil]
theorem num_eq (s : ByteArray) (i : Nat) : (if i + 1 < (wsOf s).length then R0.rd ((wsOf s).getD (i + 1) ⟨#[]⟩) else -1) = n (sp s.data.toList).tail i := num_eqL _ i
theorem head_eq (L : List (List UInt8)) (h : 0 < (L.map mk).length) : (L.map mk)[0] = mk (L.headD []) := by
  cases L with
  | nil => simp at h
  | cons p L => rfl
end

theorem row_sz (s : ByteArray) (hs : s.size ≤ 1048576) : ∀ p ∈ wsOf s, p.size ≤ 1048576 := by
  intro p hp
  obtain ⟨q, hq, rfl⟩ := List.mem_map.1 hp
  have := RV.mem_le _ q hq
  rw [RV.jn_sp, ← Lib.size_eq] at this
  show q.toArray.size ≤ 1048576
  rw [List.size_toArray]
  omega

theorem numZ (s : ByteArray) (g cap : Nat) (w : World) (hs : s.size ≤ 1048576) (hr : W0.Row w g (wsOf s)) (z : Int) (h1 : 1 ≤ z) (h2 : z ≤ 3) :
    Calls Tryd.prog 11 #[.slice (some ⟨g, 0, none⟩) (wsOf s).length cap, .int .i64 z] w fun e w' => e = .returned (.int .i64 (n (sp s.data.toList).tail (z.toNat - 1))) ∧ w' = w := by
  obtain ⟨i, rfl⟩ : ∃ i : Nat, z = ((i + 1 : Nat) : Int) := ⟨z.toNat - 1, by omega⟩
  have hc := RV.sp_count s.data.toList
  rw [← Lib.size_eq] at hc
  refine (RT.num (wsOf s) g cap (i + 1) w hr (by simp; omega) (by omega) (row_sz s hs)).mono ?_
  rintro e w' ⟨he, hw⟩
  rw [num_eq] at he
  exact ⟨by rw [he]; simp, hw⟩

theorem drop_tl (L : List (List UInt8)) (k : Nat) : L.drop (k + 1) = L.tail.drop k := by cases L <;> simp

theorem n_le (R : List (List UInt8)) (i : Nat) : -1 ≤ n R i ∧ n R i ≤ 999999 := RW.rd_le _

theorem fit_of {d : Ev} (h0 : -1 ≤ d.kd ∧ d.kd ≤ 999999) (h1 : -1 ≤ d.cl ∧ d.cl ≤ 999999) (h2 : -1 ≤ d.ino ∧ d.ino ≤ 999999) (h3 : -1 ≤ d.at_ ∧ d.at_ ≤ 999999) (ht : d.tx.size ≤ 1048576) (hk : ∀ z ∈ d.kp, -1 ≤ z ∧ z ≤ 999999) (hl : d.kp.length ≤ 1048576) : EV.Fit d ∧ d.tx.size ≤ 1048576 ∧ d.kp.length ≤ 1048576 :=
  ⟨⟨R1.wf_of _ (by omega) (by omega), R1.wf_of _ (by omega) (by omega), R1.wf_of _ (by omega) (by omega), R1.wf_of _ (by omega) (by omega), fun z hz => R1.wf_of _ (by have := hk z hz; omega) (by have := hk z hz; omega), by unfold maxLen; omega, by unfold maxLen; omega⟩, ht, hl⟩

theorem cand_fit (R : List (List UInt8)) (K : Nat) (hK : K ≤ 10) (hsz : ∀ k, (jn (R.drop k)).length ≤ 1048576) (hl : R.length ≤ 1048576) (hok : (cand K R).2 = true) : EV.Fit (cand K R).1 ∧ (cand K R).1.tx.size ≤ 1048576 ∧ (cand K R).1.kp.length ≤ 1048576 := by
  have e0 : ∀ l : List UInt8, (mk l).size = l.length := fun l => by show l.toArray.size = l.length; rw [List.size_toArray]
  have z0 : (-1 : Int) ≤ 0 ∧ (0 : Int) ≤ 999999 := by omega
  have em : ∀ z ∈ ([] : List Int), -1 ≤ z ∧ z ≤ 999999 := fun z h => by cases h
  have tx2 : ∀ k, (mk (txt (jn (R.drop k)))).size ≤ 1048576 := fun k => by rw [e0]; exact Nat.le_trans (RV.txt_len _) (hsz k)
  have tx3 : ∀ k, (mk (jn (R.drop k))).size ≤ 1048576 := fun k => by rw [e0]; exact hsz k
  have h : K = 0 ∨ K = 1 ∨ K = 2 ∨ K = 3 ∨ K = 4 ∨ K = 5 ∨ K = 6 ∨ K = 7 ∨ K = 8 ∨ K = 9 ∨ K = 10 := by omega
  rcases h with rfl | rfl | rfl | rfl | rfl | rfl | rfl | rfl | rfl | rfl | rfl
  · exact fit_of (show _ by simp [cand]) (n_le R 0) (n_le R 1) (n_le R 2) (Nat.zero_le _) em (Nat.zero_le _)
  · exact fit_of (show _ by simp [cand]) (n_le R 0) z0 (n_le R 1) (tx2 2) em (Nat.zero_le _)
  · refine fit_of (show _ by simp [cand]) (n_le R 0) z0 (n_le R 1) ?_ em (Nat.zero_le _)
    simp only [cand, Bool.and_eq_true, decide_eq_true_eq] at hok
    show (B4.zeros (n R 2)).size ≤ 1048576
    unfold B4.zeros
    rw [if_pos (by omega), B4.nulls_size]
    omega
  · exact fit_of (show _ by simp [cand]) (n_le R 0) (n_le R 1) z0 (Nat.zero_le _) em (Nat.zero_le _)
  · exact fit_of (show _ by simp [cand]) z0 z0 z0 (Nat.zero_le _) em (Nat.zero_le _)
  · refine fit_of (show _ by simp [cand]) z0 z0 z0 (Nat.zero_le _) ?_ ?_
    · intro z hz
      obtain ⟨q, _, rfl⟩ := List.mem_map.1 hz
      exact RW.rd_le _
    · show (R.map fun p => R0.rd (mk p)).length ≤ 1048576
      rw [List.length_map]
      exact hl
  · exact fit_of (show _ by simp [cand]) (n_le R 0) (n_le R 1) z0 (tx2 2) em (Nat.zero_le _)
  · exact fit_of (show _ by simp [cand]) (n_le R 0) (n_le R 1) (n_le R 2) (tx3 3) em (Nat.zero_le _)
  · exact fit_of (show _ by simp [cand]) (n_le R 0) (n_le R 1) z0 (tx3 2) em (Nat.zero_le _)
  · exact fit_of (show _ by simp [cand]) (n_le R 0) (n_le R 1) (n_le R 2) (tx2 3) em (Nat.zero_le _)
  · exact fit_of (show _ by simp [cand]) z0 z0 z0 (Nat.zero_le _) em (Nat.zero_le _)

/-- What the switch leaves: a candidate, and whether its bytes are such. -/
def Cut (s : ByteArray) (w : World) (E g : Nat) (C : Ev × Bool) (ok : Value) (wx : World) : Prop :=
  ∃ (d : Ev) (a : Option Addr) (c : Nat), ok = .bool C.2 ∧ (C.2 = true → d = C.1) ∧ SS s w E g (EV.vals d a c) wx ∧ J0.Own (E + 1) wx a d.kp

set_option maxHeartbeats 4000000 in
theorem spec_ReadEvent (s : ByteArray) (w : World) (hs : s.size ≤ 1048576) :
    Calls Tryd.prog 4 #[.string s] w (RF.Ans s w) := by
  have hws : W0.words s = wsOf s := RV.words_sp s
  have HW : Hid (Calls Tryd.prog 9 #[.string s] (w.alloc z6) fun e w' => ∃ g cap, e = .returned (.slice (some ⟨g, 0, none⟩) (wsOf s).length cap) ∧ W0.Row w' g (wsOf s) ∧ w.heap.size < g ∧ Below (w.alloc z6).heap.size (w.alloc z6) w') := by
    refine (W1.spec_Words s (w.alloc z6) hs).mono ?_
    rintro e w' ⟨g, cap, he, ho, hb⟩
    rw [hws] at he ho
    have hne : 0 < (wsOf s).length := by
      have := RV.sp_ne s.data.toList
      cases h : sp s.data.toList with
      | nil => exact absurd h this
      | cons p L => simp [wsOf, h]
    obtain ⟨hr, hg, _⟩ := W0.row_of_owns ho hne
    exact ⟨g, cap, he, hr, by simp at hg; omega, hb⟩
  have hlen : 0 < (wsOf s).length := by
    have := RV.sp_ne s.data.toList
    cases h : sp s.data.toList with
    | nil => exact absurd h this
    | cons p L => simp [wsOf, h]
  have h0 : (wsOf s)[0] = mk ((sp s.data.toList).headD []) := head_eq _ hlen
  have HK : Hid (∀ W, Calls Tryd.prog 10 #[.string (mk ((sp s.data.toList).headD []))] W fun e w' => e = .returned (.int .i64 (RT.ki (RW.kind ((sp s.data.toList).headD [])))) ∧ Below W.heap.size W w') := fun W => RT.kindOf _ W
  have HN : Hid (∀ g cap W, W0.Row W g (wsOf s) → ∀ z : Int, 1 ≤ z → z ≤ 3 → Calls Tryd.prog 11 #[.slice (some ⟨g, 0, none⟩) (wsOf s).length cap, .int .i64 z] W fun e w' => e = .returned (.int .i64 (n (sp s.data.toList).tail (z.toNat - 1))) ∧ w' = W) := fun g cap W h z h1 h2 => numZ s g cap W hs h z h1 h2
  have hlen' : (0 : Int) < ((wsOf s).length : Int) := by omega
  have zb0 := K0.blk_new zero6 w 24
  have bl0 := K0.below_new w z6
  obtain ⟨L, hL⟩ : ∃ L, (wsOf s).length = L := ⟨_, rfl⟩
  rw [hL] at HW HN hlen'
  have HL : Hid ((wsOf s).length = L) := hL
  have HC0 : Hid (∀ W g, W0.Row W g (wsOf s) → W.cell? ⟨g, 0, none⟩ = some (.string (mk ((sp s.data.toList).headD [])))) := fun W g h => by rw [h.cell 0 hlen, h0]
  clear hws hL h0 hlen
  generalize mk ((sp s.data.toList).headD []) = p0 at HK HC0
  have HCD : Hid (cd s.data.toList = cand (RW.kind ((sp s.data.toList).headD [])) (sp s.data.toList).tail) := rfl
  have hK10 := RW.kind_le ((sp s.data.toList).headD [])
  generalize RW.kind ((sp s.data.toList).headD []) = K at HK HCD hK10
  obtain ⟨kI, hkI⟩ : ∃ kI, RT.ki K = kI := ⟨_, rfl⟩
  rw [hkI] at HK
  have HKI : Hid (RT.ki K = kI) := hkI
  clear hkI
  have HR : Hid (∀ W g, W0.Row W g (wsOf s) → True) := fun _ _ _ => trivial
  obtain ⟨R, hRt⟩ : ∃ R, (sp s.data.toList).tail = R := ⟨_, rfl⟩
  rw [hRt] at HN HCD
  have HRT : Hid ((sp s.data.toList).tail = R) := hRt
  clear hRt HR
  go_enter Tryd.func4, Tryd.ntmps4
  go_upto_block 0 with (first
    | (go_at_call 9; refine HW.out.mono ?_; rintro e w1 ⟨g, cap, rfl, r1, hg, b1⟩; have c1 := HC0.out _ _ r1; have zb1 := zb0.below b1; have bl1 := bl0.trans (b1.mono bl0.size); clear HW)
    | (go_at_call 10; refine (HK.out _).mono ?_; rintro e w2 ⟨rfl, b2⟩; have r2 := r1.below b2; have zb2 := zb1.below b2; have bl2 := bl1.trans (b2.mono bl1.size); have r3 := r2.below (K0.below_new w2 (.cells #[.int .i64 kI, .int .i64 0, .int .i64 0, .int .i64 0, .string ⟨#[]⟩, .slice none 0 0] 24)); clear HK)
    | (go_at_call 11; refine (HN.out _ _ _ (by assumption) _ (by omega) (by omega)).mono ?_; rintro e w3 ⟨rfl, hw3⟩; subst w3))
  have ss0 : SS s w w2.heap.size g [.int .i64 kI, .int .i64 0, .int .i64 0, .int .i64 0, .string ⟨#[]⟩, .slice none 0 0] (w2.alloc (.cells #[.int .i64 kI, .int .i64 0, .int .i64 0, .int .i64 0, .string ⟨#[]⟩, .slice none 0 0] 24)) :=
    ⟨zb2.alloc _, K0.blk_new [.int .i64 kI, .int .i64 0, .int .i64 0, .int .i64 0, .string ⟨#[]⟩, .slice none 0 0] w2 24, r3, bl2.trans ((K0.below_new w2 _).mono bl2.size), zb2.lt, hg, r2.lt⟩
  have hsz0 : (w2.alloc (.cells #[.int .i64 kI, .int .i64 0, .int .i64 0, .int .i64 0, .string ⟨#[]⟩, .slice none 0 0] 24)).heap.size = w2.heap.size + 1 := by simp
  generalize hW3 : (w2.alloc (.cells #[.int .i64 kI, .int .i64 0, .int .i64 0, .int .i64 0, .string ⟨#[]⟩, .slice none 0 0] 24)) = W3 at *
  generalize hE : w2.heap.size = E at *
  clear hW3 hE zb0 bl0 r1 hg b1 c1 zb1 bl1 b2 r2 zb2 bl2 r3 HN
  have hjs : ∀ k, (mk (jn (R.drop k))).size ≤ 1048576 := by
    intro k
    show (jn (R.drop k)).toArray.size ≤ 1048576
    rw [List.size_toArray, ← HRT.out, ← drop_tl]
    have := RV.jn_drop_le (k + 1) (sp s.data.toList)
    rw [RV.jn_sp, ← Lib.size_eq] at this
    omega
  have hjn : ∀ k, (jn (R.drop k)).length ≤ 1048576 := fun k => by
    have := hjs k
    rw [show (mk (jn (R.drop k))).size = (jn (R.drop k)).toArray.size from rfl, List.size_toArray] at this
    exact this
  have hRl : R.length ≤ 1048576 := by
    rw [← HRT.out, List.length_tail]
    have := RV.sp_count s.data.toList
    rw [← Lib.size_eq] at this
    omega
  have HR3 : Hid (∀ W, Calls Tryd.prog 13 #[.string s, .int .i64 3] W fun e w' => e = .returned (.string (mk (jn (R.drop 2)))) ∧ w' = W) := fun W => by
    have := RT.restOf s 3 (by omega) (by omega) W hs
    rw [drop_tl, HRT.out] at this
    exact this
  have HR4 : Hid (∀ W, Calls Tryd.prog 13 #[.string s, .int .i64 4] W fun e w' => e = .returned (.string (mk (jn (R.drop 3)))) ∧ w' = W) := fun W => by
    have := RT.restOf s 4 (by omega) (by omega) W hs
    rw [drop_tl, HRT.out] at this
    exact this
  have z0 := ss0.ev.cell 0 (by simp)
  have f0 := ss0.ev.free 0 (by simp)
  have z1 := ss0.ev.cell 1 (by simp)
  have f1 := ss0.ev.free 1 (by simp)
  have z2 := ss0.ev.cell 2 (by simp)
  have f2 := ss0.ev.free 2 (by simp)
  have z3 := ss0.ev.cell 3 (by simp)
  have f3 := ss0.ev.free 3 (by simp)
  have z4 := ss0.ev.cell 4 (by simp)
  have f4 := ss0.ev.free 4 (by simp)
  have z5 := ss0.ev.cell 5 (by simp)
  have f5 := ss0.ev.free 5 (by simp)
  simp only [List.getElem_cons_zero, List.getElem_cons_succ] at z0 z1 z2 z3 z4 z5
  go_cut [6] (fun v wx => Cut s w E g (cand K R) v wx)
  case first =>
    clear hjn
    have hK : K = 0 ∨ K = 1 ∨ K = 2 ∨ K = 3 ∨ K = 4 ∨ K = 5 ∨ K = 6 ∨ K = 7 ∨ K = 8 ∨ K = 9 ∨ K = 10 := by omega
    clear hK10
    rcases hK with rfl | rfl | rfl | rfl | rfl | rfl | rfl | rfl | rfl | rfl | rfl
    · obtain rfl : kI = 0 := HKI.out.symm
      clear HKI HCD
      go_wp2
      go_meet
      exact ⟨⟨0, n R 0, n R 1, n R 2, ⟨#[]⟩, []⟩, none, 0, rfl, fun _ => rfl, (((ss0.set 1 (.int .i64 (n R 0))).set 2 (.int .i64 (n R 1))).set 3 (.int .i64 (n R 2))), Or.inl rfl⟩
    · obtain rfl : kI = 1 := HKI.out.symm
      clear HKI HCD
      have ss1 := ((ss0.set 1 (.int .i64 (n R 0))).set 3 (.int .i64 (n R 1)))
      have HB : Hid (∀ W, Calls Tryd.prog 12 #[.string (mk (jn (R.drop 2)))] W fun e w' => (∃ t, e = .returned (.tuple #[.string t, .bool (okH (jn (R.drop 2)))]) ∧ Hid (okH (jn (R.drop 2)) = true → t = mk (txt (jn (R.drop 2))))) ∧ Below W.heap.size W w') := fun W => RS.bytesOf _ W (hjs 2)
      go_wp2_with (first
        | (go_at_call 13; refine (HR3.out _).mono ?_; rintro e w4 ⟨rfl, hw4⟩; subst w4)
        | (go_at_call 12; refine (HB.out _).mono ?_; rintro e w4 ⟨⟨t, rfl, HT⟩, b4⟩; have ss4 := ss1.below b4; have z0 := ss4.ev.cell 0 (by simp); have f0 := ss4.ev.free 0 (by simp); have z1 := ss4.ev.cell 1 (by simp); have f1 := ss4.ev.free 1 (by simp); have z2 := ss4.ev.cell 2 (by simp); have f2 := ss4.ev.free 2 (by simp); have z3 := ss4.ev.cell 3 (by simp); have f3 := ss4.ev.free 3 (by simp); have z4 := ss4.ev.cell 4 (by simp); have f4 := ss4.ev.free 4 (by simp); have z5 := ss4.ev.cell 5 (by simp); have f5 := ss4.ev.free 5 (by simp)))
      go_meet
      exact ⟨⟨1, n R 0, 0, n R 1, t, []⟩, none, 0, rfl, fun h => by rw [HT.out h]; rfl, ss4.set 4 (.string t), Or.inl rfl⟩
    · obtain rfl : kI = 2 := HKI.out.symm
      clear HKI HCD
      have ss1 := (ss0.set 1 (.int .i64 (n R 0))).set 3 (.int .i64 (n R 1))
      by_cases hin : 0 ≤ n R 2 ∧ n R 2 ≤ 768
      · have HI : Hid (∀ W, Calls Tryd.prog 14 #[.int .i64 (n R 2), .int .i64 0, .int .i64 768] W fun e w' => e = .returned (.bool true) ∧ w' = W) := fun W => (B1.l01In_any _ _ _ _).mono fun e w' ⟨he, hw⟩ => ⟨by rw [he, show B1.inB (n R 2) 0 768 = true from decide_eq_true hin], hw⟩
        have HQ : Hid ((cand 2 R).2 = true) := by
          show (decide (0 ≤ n R 2) && decide (n R 2 ≤ 768)) = true
          rw [decide_eq_true hin.1, decide_eq_true hin.2]
          rfl
        clear hin
        go_wp2_with (first
          | (go_at_call 14; refine (HI.out _).mono ?_; rintro e w4 ⟨rfl, hw4⟩; subst w4)
          | (go_at_call 15; refine (B4.spec_Zeros _ _).mono ?_; rintro e w4 ⟨rfl, hw4⟩; subst w4))
        go_meet
        exact ⟨⟨2, n R 0, 0, n R 1, B4.zeros (n R 2), []⟩, none, 0, by rw [HQ.out], fun _ => rfl, ss1.set 4 (.string (B4.zeros (n R 2))), Or.inl rfl⟩
      · have HI : Hid (∀ W, Calls Tryd.prog 14 #[.int .i64 (n R 2), .int .i64 0, .int .i64 768] W fun e w' => e = .returned (.bool false) ∧ w' = W) := fun W => (B1.l01In_any _ _ _ _).mono fun e w' ⟨he, hw⟩ => ⟨by rw [he, show B1.inB (n R 2) 0 768 = false from decide_eq_false hin], hw⟩
        have HQ : Hid ((cand 2 R).2 = false) := by
          show (decide (0 ≤ n R 2) && decide (n R 2 ≤ 768)) = false
          rw [Bool.and_eq_false_iff, decide_eq_false_iff_not, decide_eq_false_iff_not]
          by_cases h0 : 0 ≤ n R 2
          · exact Or.inr fun h => hin ⟨h0, h⟩
          · exact Or.inl h0
        clear hin
        go_wp2_with (go_at_call 14; refine (HI.out _).mono ?_; rintro e w4 ⟨rfl, hw4⟩; subst w4)
        go_meet
        exact ⟨⟨2, n R 0, 0, n R 1, ⟨#[]⟩, []⟩, none, 0, by rw [HQ.out], fun h => (by rw [HQ.out] at h; cases h), ss1, Or.inl rfl⟩
    · obtain rfl : kI = 3 := HKI.out.symm
      clear HKI HCD
      go_wp2
      go_meet
      exact ⟨⟨3, n R 0, n R 1, 0, ⟨#[]⟩, []⟩, none, 0, rfl, fun _ => rfl, ((ss0.set 1 (.int .i64 (n R 0))).set 2 (.int .i64 (n R 1))), Or.inl rfl⟩
    · obtain rfl : kI = 4 := HKI.out.symm
      clear HKI HCD
      go_wp2
      go_meet
      exact ⟨⟨4, 0, 0, 0, ⟨#[]⟩, []⟩, none, 0, rfl, fun _ => rfl, ss0, Or.inl rfl⟩
    · obtain rfl : kI = 5 := HKI.out.symm
      clear HKI HCD
      have HLR : Hid (L = R.length + 1) := by
        have h1 := HL.out
        rw [List.length_map] at h1
        have h2 := RV.sp_cons s.data.toList
        have h3 : (sp s.data.toList).length = (sp s.data.toList).tail.length + 1 := by rw [h2]; simp
        rw [HRT.out] at h3
        show L = R.length + 1
        omega
      have HCE : Hid (∀ (j : Nat) (hj : j < R.length) (W : World), W0.Row W g (wsOf s) → W.cell? ⟨g, j + 1, none⟩ = some (.string (mk R[j])) ∧ (mk R[j]).size ≤ 1048576) := by
        intro j hj W hr
        have hj1 : j + 1 < (wsOf s).length := by rw [HL.out, HLR.out]; omega
        have e : (wsOf s)[j + 1] = mk R[j] := by
          have e2 := HRT.out
          subst e2
          simp only [wsOf, List.getElem_map, List.getElem_tail]
        refine ⟨by rw [hr.cell (j + 1) hj1, e], ?_⟩
        rw [← e]
        exact row_sz s hs _ (List.getElem_mem hj1)
      have ib0 : J0.IBuf (E + 1) W3 none 0 0 [] := J0.ibuf_nil W3
      have HSZ : Hid (E + 1 ≤ W3.heap.size) := Nat.le_of_eq hsz0.symm
      clear z0 z1 z2 z3 z4 z5 f0 f1 f2 f3 f4 f5 HR3 HR4 hsz0
      go_wp2
      go_loopw [6, 12] (fun v i W => ∃ (j k c : Nat) (a : Option Addr), j ≤ R.length ∧ Hid (k = j + 1) ∧ i = .int .i64 (k : Int) ∧ k ≤ 1048577 ∧ v = .bool ((R.take j).all fun p => decide (0 ≤ R0.rd (mk p))) ∧ SS s w E g [.int .i64 5, .int .i64 0, .int .i64 0, .int .i64 0, .string ⟨#[]⟩, .slice a j c] W ∧ J0.IBuf (E + 1) W a j c ((R.take j).map fun p => R0.rd (mk p)) ∧ E + 1 ≤ W.heap.size) (fun _ i _ => L - (intOf i).toNat)
      case atStart => exact ⟨0, 1, 0, none, Nat.zero_le _, rfl, rfl, by omega, rfl, ss0, ib0, HSZ.out⟩
      case round =>
        obtain ⟨j, k, c, a, hj, HJ, rfl, hk1, rfl, ssr, hbuf, hszr⟩ := hrel
        clear ss0 ib0 HSZ
        by_cases hlt : j < R.length
        · have hkL : (k : Int) < (L : Int) := by have := HLR.out; have := HJ.out; omega
          obtain ⟨cj, zj⟩ := HCE.out j hlt _ ssr.row
          rw [show j + 1 = k from HJ.out.symm] at cj
          have HM : Hid (((R.take j).map fun p => R0.rd (mk p)) ++ [R0.rd (mk R[j])] = (R.take (j + 1)).map fun p => R0.rd (mk p)) := RY.map_succ j hlt
          have HA : Hid ((((R.take j).all fun p => decide (0 ≤ R0.rd (mk p))) && decide (0 ≤ R0.rd (mk R[j]))) = ((R.take (j + 1)).all fun p => decide (0 ≤ R0.rd (mk p)))) := by
            show _ = _
            rw [List.take_succ_eq_append_getElem hlt, List.all_append]
            simp
          have HCK : Hid (∀ W, W0.Row W g (wsOf s) → W.cell? ⟨g, k, none⟩ = some (.string (mk R[j]))) := fun W h => by
            have := (HCE.out j hlt W h).1
            rw [show j + 1 = k from HJ.out.symm] at this
            exact this
          have HRD : Hid (∀ W, Calls Tryd.prog 16 #[.string (mk R[j])] W fun e w' => e = .returned (.int .i64 (R0.rd (mk R[j]))) ∧ w' = W) := fun W => R1.spec_ReadDec _ W (by omega)
          generalize mk R[j] = pj at cj zj HM HA HCK HRD
          generalize ((R.take j).all fun p => decide (0 ≤ R0.rd (mk p))) = o at HA ⊢
          have hE := ssr.l3
          have s4 : (wr.drew).cell? ⟨E, 5, none⟩ = some (.slice a j c) ∧ (wr.drew).cell? ⟨g, k, none⟩ = some (.string pj) := ⟨ssr.ev.cell 5 (by simp), cj⟩
          have x1 : (0 : Int) ≤ (k : Int) := by omega
          have hz4 : E + 1 ≤ wr.drew.heap.size := hszr
          have hbuf4 := hbuf.drew
          have hjl : j + 1 ≤ 1048576 := by omega
          go_wp2
          refine AT.region (n := 10) (S := fun W => W.cell? ⟨E, 5, none⟩ = some (.slice a j c) ∧ W.cell? ⟨g, k, none⟩ = some (.string pj)) (by kernel_rfl) ?_
          refine AT.take (i := 0) (v := .pointer (some ⟨E, 5, none⟩)) rfl (by decide) (by kernel_rfl) (by kernel_rfl) (by kernel_rfl) (by kernel_rfl) (fun _ _ _ h => h) (Or.inl ⟨by rfl, fun w' hS' => by rfl⟩) s4 ?_
          simp only [BZ.z, Act.put, Nat.reduceAdd]
          refine AT.take (i := 1) (v := .slice a j c) rfl (by decide) (by kernel_rfl) (by kernel_rfl) (by kernel_rfl) (by kernel_rfl) (fun _ _ _ h => h) (Or.inl ⟨by rfl, fun w' hS' => ?_⟩) s4 ?_
          · obtain ⟨n1, n2⟩ := hS'
            go_simp
          simp only [BZ.z, Act.put, Nat.reduceAdd]
          refine AT.take (i := 2) (v := .slice (some ⟨g, 0, none⟩) L cap) rfl (by decide) (by kernel_rfl) (by kernel_rfl) (by kernel_rfl) (by kernel_rfl) (fun _ _ _ h => h) (Or.inl ⟨by rfl, fun w' hS' => by rfl⟩) s4 ?_
          simp only [BZ.z, Act.put, Nat.reduceAdd]
          refine AT.take (i := 3) (v := .int .i64 (k : Int)) rfl (by decide) (by kernel_rfl) (by kernel_rfl) (by kernel_rfl) (by kernel_rfl) (fun _ _ _ h => h) (Or.inl ⟨by rfl, fun w' hS' => by rfl⟩) s4 ?_
          simp only [BZ.z, Act.put, Nat.reduceAdd]
          refine AT.take (i := 4) (v := .pointer (some ⟨g, k, none⟩)) rfl (by decide) (by kernel_rfl) (by kernel_rfl) (by kernel_rfl) (by kernel_rfl) (fun _ _ _ h => h) (Or.inl ⟨by rfl, fun w' hS' => ?_⟩) s4 ?_
          · obtain ⟨n1, n2⟩ := hS'
            go_simp
          simp only [BZ.z, Act.put, Nat.reduceAdd]
          refine AT.take (i := 5) (v := .string pj) rfl (by decide) (by kernel_rfl) (by kernel_rfl) (by kernel_rfl) (by kernel_rfl) (fun _ _ _ h => h) (Or.inl ⟨by rfl, fun w' hS' => ?_⟩) s4 ?_
          · obtain ⟨n1, n2⟩ := hS'
            go_simp
          simp only [BZ.z, Act.put, Nat.reduceAdd]
          refine AT.call1 (i := 6) (by kernel_rfl) rfl (by rfl) (.tmp 86) _ rfl (.string pj) (by rfl) (enters_of Tryd.func16 (by kernel_rfl) rfl) ((HRD.out _).mono ?_)
          rintro e w5 ⟨rfl, hw5⟩
          subst w5
          refine ⟨_, rfl, s4, ?_⟩
          simp only [BZ.z, Act.put, Nat.reduceAdd]
          have nb := K0.below_new wr.drew (.cells #[.int .i64 (R0.rd pj)] 3)
          have hEl : E < wr.drew.heap.size := by omega
          have hgl : g < wr.drew.heap.size := by omega
          have s6 : (wr.drew.alloc (.cells #[.int .i64 (R0.rd pj)] 3)).cell? ⟨E, 5, none⟩ = some (.slice a j c) ∧ (wr.drew.alloc (.cells #[.int .i64 (R0.rd pj)] 3)).cell? ⟨g, k, none⟩ = some (.string pj) := ⟨(nb.cell (p := ⟨E, 5, none⟩) hEl).trans s4.1, (nb.cell (p := ⟨g, k, none⟩) hgl).trans s4.2⟩
          refine AU.mem1 (i := 7) (w' := wr.drew.alloc (.cells #[.int .i64 (R0.rd pj)] 3)) (u := .slice (some ⟨wr.drew.heap.size, 0, none⟩) 1 1) (by kernel_rfl) rfl (by rfl) ?_ s6 ?_
          · go_simp
          simp only [BZ.z, Act.put, Nat.reduceAdd]
          refine AU.app2 (i := 8) (by kernel_rfl) rfl (by rfl) (J0.step_int rfl (.tmp 82) (.tmp 88) rfl hbuf4 (R0.rd pj) (by rfl) (by rfl) hjl hz4 ?_)
          intro g' cap' w7 hbuf7 b7
          have s7 : w7.cell? ⟨E, 5, none⟩ = some (.slice a j c) ∧ w7.cell? ⟨g, k, none⟩ = some (.string pj) := ⟨(b7.cell (p := ⟨E, 5, none⟩) (Nat.lt_succ_self _)).trans s4.1, (b7.cell (p := ⟨g, k, none⟩) (Nat.lt_succ_of_lt hE)).trans s4.2⟩
          refine ⟨fun _ => s7, ?_⟩
          simp only [BZ.z, Act.put, Nat.reduceAdd]
          refine AT.take (i := 9) (v := .pointer (some ⟨E, 5, none⟩)) rfl (by decide) (by kernel_rfl) (by kernel_rfl) (by kernel_rfl) (by kernel_rfl) (fun _ _ _ h => h) (Or.inl ⟨by rfl, fun w' hS' => by rfl⟩) s7 ?_
          simp only [BZ.z, Act.put, Nat.reduceAdd]
          have ss7 : SS s w E g [.int .i64 5, .int .i64 0, .int .i64 0, .int .i64 0, .string ⟨#[]⟩, .slice a j c] w7 := by
            have l1 := ssr.l1
            have l2 := ssr.l2
            exact ⟨J0.blk_keep ssr.res.drew b7 (by omega), J0.blk_keep ssr.ev.drew b7 (Nat.lt_succ_self _), ⟨Nat.lt_of_lt_of_le hgl b7.size, fun i hi => (b7.cell (p := ⟨g, i, none⟩) (Nat.lt_succ_of_lt hE)).trans (ssr.row.cell i hi), fun i hi => (b7.frozen (p := ⟨g, i, none⟩) (Nat.lt_succ_of_lt hE)).trans (ssr.row.free i hi)⟩, ssr.bel.drew.trans (b7.mono (by omega)), l1, l2, hE⟩
          have f7 := ss7.ev.free 5 (by simp)
          have ss8 := ss7.set 5 (.slice (some ⟨g', 0, none⟩) (j + 1) cap')
          have cj8 := HCK.out _ ss8.row
          have hbuf8 : J0.IBuf (E + 1) (w7.setCell ⟨E, 5, none⟩ (.slice (some ⟨g', 0, none⟩) (j + 1) cap')) (some ⟨g', 0, none⟩) (j + 1) cap' ((R.take (j + 1)).map fun p => R0.rd (mk p)) := by
            rw [← HM.out]
            exact RO.ibuf_set hbuf7 (Nat.lt_succ_self _) 5 _
          have hsz8 : E + 1 ≤ (w7.setCell ⟨E, 5, none⟩ (.slice (some ⟨g', 0, none⟩) (j + 1) cap')).heap.size := by
            have := b7.size
            simp [World.setCell]
            omega
          obtain ⟨n1, n2⟩ := s7
          refine AT.store (i := 10) (w' := w7.setCell ⟨E, 5, none⟩ (.slice (some ⟨g', 0, none⟩) (j + 1) cap')) (by kernel_rfl) rfl (by decide) (by rfl) ?_ ?_
          · go_simp
          simp only [BZ.z, Act.put, Nat.reduceAdd]
          refine AT.done (by kernel_rfl) ?_ _
          have HJ2 : Hid (k + 1 = j + 1 + 1) := by have := HJ.out; show _ = _; omega
          generalize hW8 : w7.setCell ⟨E, 5, none⟩ (.slice (some ⟨g', 0, none⟩) (j + 1) cap') = W8 at ss8 cj8 hbuf8 hsz8 ⊢
          clear hW8 ssr hbuf cj s4 s6 hbuf4 hbuf7 b7 ss7 f7 n1 n2 nb
          cases o
          · have HO : Hid (false = ((R.take (j + 1)).all fun p => decide (0 ≤ R0.rd (mk p)))) := HA.out
            go_wp2
            go_roundw
            case rel => exact ⟨j + 1, k + 1, cap', some ⟨g', 0, none⟩, by omega, HJ2, by go_num, by have := HJ.out; omega, by rw [← HO.out], ss8, hbuf8, hsz8⟩
            case measure => simp [intOf]; have := HLR.out; have := HJ.out; omega
          · have HO : Hid (decide (0 ≤ R0.rd pj) = ((R.take (j + 1)).all fun p => decide (0 ≤ R0.rd (mk p)))) := HA.out
            generalize R0.rd pj = zz at HRD HO
            go_wp2_with (go_at_call 16; refine (HRD.out _).mono ?_; rintro e w9 ⟨rfl, hw9⟩; subst w9)
            go_roundw
            case rel => exact ⟨j + 1, k + 1, cap', some ⟨g', 0, none⟩, by omega, HJ2, by go_num, by have := HJ.out; omega, by rw [← HO.out], ss8, hbuf8, hsz8⟩
            case measure => simp [intOf]; have := HLR.out; have := HJ.out; omega
        · obtain rfl : j = R.length := by omega
          have hkL : ¬ (k : Int) < (L : Int) := by have := HLR.out; have := HJ.out; omega
          rw [List.take_length] at hbuf ⊢
          have HO := hbuf.own
          have HF : Hid ((R.all fun p => decide (0 ≤ R0.rd (mk p))) = (cand 5 R).2) := rfl
          have HSS : Hid (SS s w E g (EV.vals ⟨5, 0, 0, 0, ⟨#[]⟩, R.map fun p => R0.rd (mk p)⟩ a c) wr) := by
            show SS s w E g [_, _, _, _, _, .slice a (R.map fun p => R0.rd (mk p)).length c] wr
            rw [List.length_map]
            exact ssr
          go_wp2
          go_meet
          exact ⟨⟨5, 0, 0, 0, ⟨#[]⟩, R.map fun p => R0.rd (mk p)⟩, a, c, rfl, fun _ => rfl, HSS.out, HO⟩
    · obtain rfl : kI = 6 := HKI.out.symm
      clear HKI HCD
      have ss1 := ((ss0.set 1 (.int .i64 (n R 0))).set 2 (.int .i64 (n R 1)))
      have HB : Hid (∀ W, Calls Tryd.prog 12 #[.string (mk (jn (R.drop 2)))] W fun e w' => (∃ t, e = .returned (.tuple #[.string t, .bool (okH (jn (R.drop 2)))]) ∧ Hid (okH (jn (R.drop 2)) = true → t = mk (txt (jn (R.drop 2))))) ∧ Below W.heap.size W w') := fun W => RS.bytesOf _ W (hjs 2)
      go_wp2_with (first
        | (go_at_call 13; refine (HR3.out _).mono ?_; rintro e w4 ⟨rfl, hw4⟩; subst w4)
        | (go_at_call 12; refine (HB.out _).mono ?_; rintro e w4 ⟨⟨t, rfl, HT⟩, b4⟩; have ss4 := ss1.below b4; have z0 := ss4.ev.cell 0 (by simp); have f0 := ss4.ev.free 0 (by simp); have z1 := ss4.ev.cell 1 (by simp); have f1 := ss4.ev.free 1 (by simp); have z2 := ss4.ev.cell 2 (by simp); have f2 := ss4.ev.free 2 (by simp); have z3 := ss4.ev.cell 3 (by simp); have f3 := ss4.ev.free 3 (by simp); have z4 := ss4.ev.cell 4 (by simp); have f4 := ss4.ev.free 4 (by simp); have z5 := ss4.ev.cell 5 (by simp); have f5 := ss4.ev.free 5 (by simp)))
      go_meet
      exact ⟨⟨6, n R 0, n R 1, 0, t, []⟩, none, 0, rfl, fun h => by rw [HT.out h]; rfl, ss4.set 4 (.string t), Or.inl rfl⟩
    · obtain rfl : kI = 7 := HKI.out.symm
      clear HKI HCD
      go_wp2_with (go_at_call 13; refine (HR4.out _).mono ?_; rintro e w4 ⟨rfl, hw4⟩; subst w4)
      go_meet
      exact ⟨⟨7, n R 0, n R 1, n R 2, mk (jn (R.drop 3)), []⟩, none, 0, rfl, fun _ => rfl, ((((ss0.set 1 (.int .i64 (n R 0))).set 2 (.int .i64 (n R 1))).set 3 (.int .i64 (n R 2))).set 4 (.string (mk (jn (R.drop 3))))), Or.inl rfl⟩
    · obtain rfl : kI = 8 := HKI.out.symm
      clear HKI HCD
      go_wp2_with (go_at_call 13; refine (HR3.out _).mono ?_; rintro e w4 ⟨rfl, hw4⟩; subst w4)
      go_meet
      exact ⟨⟨8, n R 0, n R 1, 0, mk (jn (R.drop 2)), []⟩, none, 0, rfl, fun _ => rfl, (((ss0.set 1 (.int .i64 (n R 0))).set 2 (.int .i64 (n R 1))).set 4 (.string (mk (jn (R.drop 2))))), Or.inl rfl⟩
    · obtain rfl : kI = 9 := HKI.out.symm
      clear HKI HCD
      have ss1 := (((ss0.set 1 (.int .i64 (n R 0))).set 2 (.int .i64 (n R 1))).set 3 (.int .i64 (n R 2)))
      have HB : Hid (∀ W, Calls Tryd.prog 12 #[.string (mk (jn (R.drop 3)))] W fun e w' => (∃ t, e = .returned (.tuple #[.string t, .bool (okH (jn (R.drop 3)))]) ∧ Hid (okH (jn (R.drop 3)) = true → t = mk (txt (jn (R.drop 3))))) ∧ Below W.heap.size W w') := fun W => RS.bytesOf _ W (hjs 3)
      go_wp2_with (first
        | (go_at_call 13; refine (HR4.out _).mono ?_; rintro e w4 ⟨rfl, hw4⟩; subst w4)
        | (go_at_call 12; refine (HB.out _).mono ?_; rintro e w4 ⟨⟨t, rfl, HT⟩, b4⟩; have ss4 := ss1.below b4; have z0 := ss4.ev.cell 0 (by simp); have f0 := ss4.ev.free 0 (by simp); have z1 := ss4.ev.cell 1 (by simp); have f1 := ss4.ev.free 1 (by simp); have z2 := ss4.ev.cell 2 (by simp); have f2 := ss4.ev.free 2 (by simp); have z3 := ss4.ev.cell 3 (by simp); have f3 := ss4.ev.free 3 (by simp); have z4 := ss4.ev.cell 4 (by simp); have f4 := ss4.ev.free 4 (by simp); have z5 := ss4.ev.cell 5 (by simp); have f5 := ss4.ev.free 5 (by simp)))
      go_meet
      exact ⟨⟨9, n R 0, n R 1, n R 2, t, []⟩, none, 0, rfl, fun h => by rw [HT.out h]; rfl, ss4.set 4 (.string t), Or.inl rfl⟩
    · obtain rfl : kI = -1 := HKI.out.symm
      clear HKI HCD
      go_wp2
      go_meet
      exact ⟨⟨-1, 0, 0, 0, ⟨#[]⟩, []⟩, none, 0, rfl, fun _ => rfl, ss0, Or.inl rfl⟩
  case rest =>
    obtain ⟨d, a, c, rfl, hd, ss, ho⟩ := hcut
    have HD : Hid ((cand K R).2 = true → d = (cand K R).1) := hd
    have HNOT : Hid (¬ RW.good (cand K R).1 (cand K R).2 s.data.toList → RW.read s.data.toList = (RW.ev0, false)) := by rw [← HCD.out]; exact RW.read_not _
    have HGOOD : Hid (RW.good (cand K R).1 (cand K R).2 s.data.toList → RW.read s.data.toList = ((cand K R).1, true)) := by rw [← HCD.out]; exact RW.read_good _
    have HFIT : Hid ((cand K R).2 = true → EV.Fit (cand K R).1 ∧ (cand K R).1.tx.size ≤ 1048576 ∧ (cand K R).1.kp.length ≤ 1048576) := cand_fit R K hK10 hjn hRl
    clear hd HCD HKI hsz0 hjn hRl
    have hmks : mk s.data.toList = s := Lib.mk_data s
    have htl : s.toList = s.data.toList := Lib.toList_data s
    have z0 := ss.ev.cell 0 (by simp)
    have y0 := ss.res.cell 0 (by simp)
    have g0 := ss.res.free 0 (by simp)
    have z1 := ss.ev.cell 1 (by simp)
    have y1 := ss.res.cell 1 (by simp)
    have g1 := ss.res.free 1 (by simp)
    have z2 := ss.ev.cell 2 (by simp)
    have y2 := ss.res.cell 2 (by simp)
    have g2 := ss.res.free 2 (by simp)
    have z3 := ss.ev.cell 3 (by simp)
    have y3 := ss.res.cell 3 (by simp)
    have g3 := ss.res.free 3 (by simp)
    have z4 := ss.ev.cell 4 (by simp)
    have y4 := ss.res.cell 4 (by simp)
    have g4 := ss.res.free 4 (by simp)
    have z5 := ss.ev.cell 5 (by simp)
    have y5 := ss.res.cell 5 (by simp)
    have g5 := ss.res.free 5 (by simp)
    simp only [zero6, List.getElem_cons_zero, List.getElem_cons_succ] at y0 y1 y2 y3 y4 y5 z0 z1 z2 z3 z4 z5
    generalize cand K R = C at *
    obtain ⟨C1, f⟩ := C
    simp only at HD HNOT HGOOD HFIT ⊢
    by_cases hs0 : s.data.toList = []
    · have HRN : Hid (RW.read s.data.toList = (RW.ev0, false)) := HNOT.out fun h => h.1 hs0
      have hb : (s.toList == []) = true := by rw [htl, hs0]; rfl
      clear hmks htl hs0 HD HNOT HGOOD HFIT
      go_wp2
      have q := put6 (y0 := .int .i64 0) (y1 := .int .i64 0) (y2 := .int .i64 0) (y3 := .int .i64 0) (y4 := .string ⟨#[]⟩) (y5 := .slice none 0 0) ss.res
      have v0 := q.cell 0 (by simp)
      have v1 := q.cell 1 (by simp)
      have v2 := q.cell 2 (by simp)
      have v3 := q.cell 3 (by simp)
      have v4 := q.cell 4 (by simp)
      have v5 := q.cell 5 (by simp)
      simp only [List.getElem_cons_zero, List.getElem_cons_succ] at v0 v1 v2 v3 v4 v5
      refine bodyPost_ret (v := .tuple #[EV.val RW.ev0 none 0, .bool false]) (by simp [results, Tryd.results4, go_sem, v0, v1, v2, v3, v4, v5, RW.ev0]) rfl ⟨none, 0, by rw [HRN.out], by rw [HRN.out]; exact Or.inl rfl, EW.bel6 ss.bel (Nat.le_refl _) _ _ _ _ _ _⟩
    · have hb : (s.toList == []) = false := by
        rw [htl]
        cases h : s.data.toList with
        | nil => exact absurd h hs0
        | cons p l => rfl
      have hb2 : s.toList.isEmpty = false := by
        rw [htl]
        cases h : s.data.toList with
        | nil => exact absurd h hs0
        | cons p l => rfl
      cases f
      · have HRN : Hid (RW.read s.data.toList = (RW.ev0, false)) := HNOT.out fun h => by cases h.2.1
        clear hmks htl hs0 HD HNOT HGOOD HFIT
        go_wp2
        have q := put6 (y0 := .int .i64 0) (y1 := .int .i64 0) (y2 := .int .i64 0) (y3 := .int .i64 0) (y4 := .string ⟨#[]⟩) (y5 := .slice none 0 0) ss.res
        have v0 := q.cell 0 (by simp)
        have v1 := q.cell 1 (by simp)
        have v2 := q.cell 2 (by simp)
        have v3 := q.cell 3 (by simp)
        have v4 := q.cell 4 (by simp)
        have v5 := q.cell 5 (by simp)
        simp only [List.getElem_cons_zero, List.getElem_cons_succ] at v0 v1 v2 v3 v4 v5
        refine bodyPost_ret (v := .tuple #[EV.val RW.ev0 none 0, .bool false]) (by simp [results, Tryd.results4, go_sem, v0, v1, v2, v3, v4, v5, RW.ev0]) rfl ⟨none, 0, by rw [HRN.out], by rw [HRN.out]; exact Or.inl rfl, EW.bel6 ss.bel (Nat.le_refl _) _ _ _ _ _ _⟩
      · have hd := HD.out rfl
        have hft := HFIT.out rfl
        subst hd
        clear HD HFIT
        by_cases h1 : d.cl < 0
        · have HRN : Hid (RW.read s.data.toList = (RW.ev0, false)) := HNOT.out fun h => by have := h.2.2.1; omega
          clear hmks htl hs0 HNOT HGOOD hft
          go_wp2
          have q := put6 (y0 := .int .i64 0) (y1 := .int .i64 0) (y2 := .int .i64 0) (y3 := .int .i64 0) (y4 := .string ⟨#[]⟩) (y5 := .slice none 0 0) ss.res
          have v0 := q.cell 0 (by simp)
          have v1 := q.cell 1 (by simp)
          have v2 := q.cell 2 (by simp)
          have v3 := q.cell 3 (by simp)
          have v4 := q.cell 4 (by simp)
          have v5 := q.cell 5 (by simp)
          simp only [List.getElem_cons_zero, List.getElem_cons_succ] at v0 v1 v2 v3 v4 v5
          refine bodyPost_ret (v := .tuple #[EV.val RW.ev0 none 0, .bool false]) (by simp [results, Tryd.results4, go_sem, v0, v1, v2, v3, v4, v5, RW.ev0]) rfl ⟨none, 0, by rw [HRN.out], by rw [HRN.out]; exact Or.inl rfl, EW.bel6 ss.bel (Nat.le_refl _) _ _ _ _ _ _⟩
        · by_cases h2 : d.ino < 0
          · have HRN : Hid (RW.read s.data.toList = (RW.ev0, false)) := HNOT.out fun h => by have := h.2.2.2.1; omega
            clear hmks htl hs0 HNOT HGOOD hft
            go_wp2
            have q := put6 (y0 := .int .i64 0) (y1 := .int .i64 0) (y2 := .int .i64 0) (y3 := .int .i64 0) (y4 := .string ⟨#[]⟩) (y5 := .slice none 0 0) ss.res
            have v0 := q.cell 0 (by simp)
            have v1 := q.cell 1 (by simp)
            have v2 := q.cell 2 (by simp)
            have v3 := q.cell 3 (by simp)
            have v4 := q.cell 4 (by simp)
            have v5 := q.cell 5 (by simp)
            simp only [List.getElem_cons_zero, List.getElem_cons_succ] at v0 v1 v2 v3 v4 v5
            refine bodyPost_ret (v := .tuple #[EV.val RW.ev0 none 0, .bool false]) (by simp [results, Tryd.results4, go_sem, v0, v1, v2, v3, v4, v5, RW.ev0]) rfl ⟨none, 0, by rw [HRN.out], by rw [HRN.out]; exact Or.inl rfl, EW.bel6 ss.bel (Nat.le_refl _) _ _ _ _ _ _⟩
          · by_cases h3 : d.at_ < 0
            · have HRN : Hid (RW.read s.data.toList = (RW.ev0, false)) := HNOT.out fun h => by have := h.2.2.2.2.1; omega
              clear hmks htl hs0 HNOT HGOOD hft
              go_wp2
              have q := put6 (y0 := .int .i64 0) (y1 := .int .i64 0) (y2 := .int .i64 0) (y3 := .int .i64 0) (y4 := .string ⟨#[]⟩) (y5 := .slice none 0 0) ss.res
              have v0 := q.cell 0 (by simp)
              have v1 := q.cell 1 (by simp)
              have v2 := q.cell 2 (by simp)
              have v3 := q.cell 3 (by simp)
              have v4 := q.cell 4 (by simp)
              have v5 := q.cell 5 (by simp)
              simp only [List.getElem_cons_zero, List.getElem_cons_succ] at v0 v1 v2 v3 v4 v5
              refine bodyPost_ret (v := .tuple #[EV.val RW.ev0 none 0, .bool false]) (by simp [results, Tryd.results4, go_sem, v0, v1, v2, v3, v4, v5, RW.ev0]) rfl ⟨none, 0, by rw [HRN.out], by rw [HRN.out]; exact Or.inl rfl, EW.bel6 ss.bel (Nat.le_refl _) _ _ _ _ _ _⟩
            · have HT : Hid (∀ W, P0.Row W a d.kp → Calls Tryd.prog 17 #[EV.val d a c] W fun e w' => e = .returned (.string (EV.text d)) ∧ Below W.heap.size W w') := fun W h => ET.spec_EventText hft.1 hft.2.1 hft.2.2 h
              have HRW : Hid (P0.Row wc a d.kp) := ho.row
              by_cases h4 : EV.text d = s
              · have HRD : Hid (RW.read s.data.toList = (d, true)) := HGOOD.out ⟨hs0, rfl, by omega, by omega, by omega, by rw [hmks]; exact h4⟩
                have HOW : Hid (J0.Own (E + 1) wc a d.kp) := ho
                rw [h4] at HT
                have hu : (s.toList == s.toList) = true := by simp
                clear hmks htl hs0 HNOT HGOOD hft h4 ho
                go_wp2_with (go_at_call 17; refine (HT.out _ HRW.out).mono ?_; rintro e w5 ⟨rfl, b5⟩; have ss5 := ss.below b5; have z0 := ss5.ev.cell 0 (by simp); have y0 := ss5.res.cell 0 (by simp); have g0 := ss5.res.free 0 (by simp); have z1 := ss5.ev.cell 1 (by simp); have y1 := ss5.res.cell 1 (by simp); have g1 := ss5.res.free 1 (by simp); have z2 := ss5.ev.cell 2 (by simp); have y2 := ss5.res.cell 2 (by simp); have g2 := ss5.res.free 2 (by simp); have z3 := ss5.ev.cell 3 (by simp); have y3 := ss5.res.cell 3 (by simp); have g3 := ss5.res.free 3 (by simp); have z4 := ss5.ev.cell 4 (by simp); have y4 := ss5.res.cell 4 (by simp); have g4 := ss5.res.free 4 (by simp); have z5 := ss5.ev.cell 5 (by simp); have y5 := ss5.res.cell 5 (by simp); have g5 := ss5.res.free 5 (by simp); simp only [zero6, List.getElem_cons_zero, List.getElem_cons_succ] at y0 y1 y2 y3 y4 y5 z0 z1 z2 z3 z4 z5)
                have q := put6 (y0 := .int .i64 d.kd) (y1 := .int .i64 d.cl) (y2 := .int .i64 d.ino) (y3 := .int .i64 d.at_) (y4 := .string d.tx) (y5 := .slice a d.kp.length c) ss5.res
                have v0 := q.cell 0 (by simp)
                have v1 := q.cell 1 (by simp)
                have v2 := q.cell 2 (by simp)
                have v3 := q.cell 3 (by simp)
                have v4 := q.cell 4 (by simp)
                have v5 := q.cell 5 (by simp)
                simp only [List.getElem_cons_zero, List.getElem_cons_succ] at v0 v1 v2 v3 v4 v5
                have hl1 := ss.l1
                have o1 := HOW.out.below b5
                have hs2 : w.heap.size < E + 1 := by omega
                refine bodyPost_ret (v := .tuple #[EV.val d a c, .bool true]) (by simp [results, Tryd.results4, go_sem, v0, v1, v2, v3, v4, v5]) rfl ⟨a, c, by rw [HRD.out], ?_, EW.bel6 ss5.bel (Nat.le_refl _) _ _ _ _ _ _⟩
                rw [HRD.out]
                exact ((((((o1.set hs2 0 _).set hs2 1 _).set hs2 2 _).set hs2 3 _).set hs2 4 _).set hs2 5 _).mono (by omega)
              · have HRN : Hid (RW.read s.data.toList = (RW.ev0, false)) := HNOT.out fun h => h4 (by have := h.2.2.2.2.2; rw [hmks] at this; exact this)
                have hu : ((EV.text d).toList == s.toList) = false := by
                  rw [Lib.toList_data, Lib.toList_data]
                  apply Bool.eq_false_iff.2
                  intro h
                  exact h4 (by rw [← Lib.mk_data (EV.text d), eq_of_beq h, Lib.mk_data])
                generalize EV.text d = X at HT hu
                clear hmks htl hs0 HNOT HGOOD hft h4 ho
                go_wp2_with (go_at_call 17; refine (HT.out _ HRW.out).mono ?_; rintro e w5 ⟨rfl, b5⟩; have ss5 := ss.below b5; have z0 := ss5.ev.cell 0 (by simp); have y0 := ss5.res.cell 0 (by simp); have g0 := ss5.res.free 0 (by simp); have z1 := ss5.ev.cell 1 (by simp); have y1 := ss5.res.cell 1 (by simp); have g1 := ss5.res.free 1 (by simp); have z2 := ss5.ev.cell 2 (by simp); have y2 := ss5.res.cell 2 (by simp); have g2 := ss5.res.free 2 (by simp); have z3 := ss5.ev.cell 3 (by simp); have y3 := ss5.res.cell 3 (by simp); have g3 := ss5.res.free 3 (by simp); have z4 := ss5.ev.cell 4 (by simp); have y4 := ss5.res.cell 4 (by simp); have g4 := ss5.res.free 4 (by simp); have z5 := ss5.ev.cell 5 (by simp); have y5 := ss5.res.cell 5 (by simp); have g5 := ss5.res.free 5 (by simp); simp only [zero6, List.getElem_cons_zero, List.getElem_cons_succ] at y0 y1 y2 y3 y4 y5 z0 z1 z2 z3 z4 z5)
                have q := put6 (y0 := .int .i64 0) (y1 := .int .i64 0) (y2 := .int .i64 0) (y3 := .int .i64 0) (y4 := .string ⟨#[]⟩) (y5 := .slice none 0 0) ss5.res
                have v0 := q.cell 0 (by simp)
                have v1 := q.cell 1 (by simp)
                have v2 := q.cell 2 (by simp)
                have v3 := q.cell 3 (by simp)
                have v4 := q.cell 4 (by simp)
                have v5 := q.cell 5 (by simp)
                simp only [List.getElem_cons_zero, List.getElem_cons_succ] at v0 v1 v2 v3 v4 v5
                refine bodyPost_ret (v := .tuple #[EV.val RW.ev0 none 0, .bool false]) (by simp [results, Tryd.results4, go_sem, v0, v1, v2, v3, v4, v5, RW.ev0]) rfl ⟨none, 0, by rw [HRN.out], by rw [HRN.out]; exact Or.inl rfl, EW.bel6 ss5.bel (Nat.le_refl _) _ _ _ _ _ _⟩
end Go.Proofs.YtjajclifjojblaaDoor.RO
