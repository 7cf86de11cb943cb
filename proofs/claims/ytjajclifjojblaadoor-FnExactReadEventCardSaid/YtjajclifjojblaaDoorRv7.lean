/- The contract of impl.ReadEvent. -/
import Derived.Test.YtjajclifjojblaaDoorRv6
namespace Go.Proofs.YtjajclifjojblaaDoor.RF
open Go.ChangeShapes Go.WideShapes Go.ChangeAt Go.RowKit
set_option linter.unusedVariables false
set_option linter.unusedSimpArgs false
set_option maxRecDepth 10000
open RV (mk sp jn)
open LF (Btw)
open RX (RB rv Ok)
open EX (Tabs)
open RY (TB Chg blk_chg)
open EW (zero6 z6 put6 other6)
open RW (ans)

theorem event (k : Nat) (hk : k < 10) {B : Nat} {s : ByteArray} {R : List (List UInt8)} {w : World} (hR : Ok R) (hn : R.length ≤ 1048576) (hT : TB B w) (hb : RB B s R false w) :
    Calls Tryd.prog 21 #[.pointer (some ⟨B, 0, none⟩), .int .i64 (k : Int)] w (RE.Ans B s R k w) := by
  match k, hk with
  | 0, _ => exact RE.event0 hR hT hb
  | 1, _ => exact RE.event1 hR hT hb
  | 2, _ => exact RE.event2 hR hT hb
  | 3, _ => exact RE.event3 hR hT hb
  | 4, _ => exact RE.event4 hR hT hb
  | 5, _ => exact RE.event5 hR hn hT hb
  | 6, _ => exact RE.event6 hR hT hb
  | 7, _ => exact RE.event7 hR hT hb
  | 8, _ => exact RE.event8 hR hT hb
  | 9, _ => exact RE.event9 hR hT hb

theorem readerOf (s : ByteArray) (w : World) :
    Calls Tryd.prog 18 #[.string s] w fun e w' => e = .returned (.pointer (some ⟨w.heap.size, 0, none⟩)) ∧ w' = w.alloc (.cells #[.string s, .string s, .bool false, .bool false] 53) := by
  go_enter Tryd.func18, Tryd.ntmps18
  go_wp2
  go_ret
  exact ⟨rfl, rfl⟩

/-- What ReadEvent answers: an event and whether there is one; its list is its own. -/
def Ans (s : ByteArray) (w : World) (e : Ending) (w' : World) : Prop :=
  ∃ a c, e = .returned (.tuple #[EV.val (RW.read s.data.toList).1 a c, .bool (RW.read s.data.toList).2]) ∧ J0.Own w.heap.size w' a (RW.read s.data.toList).1.kp ∧ Below w.heap.size w w'

theorem ok_sp (s : ByteArray) (hs : s.size ≤ 1048576) : Ok (sp s.data.toList) :=
  ⟨RV.sp_free _, by rw [RV.jn_sp, ← Lib.size_eq]; exact hs⟩

set_option maxHeartbeats 4000000 in
theorem impl_ReadEvent (s : ByteArray) (w : World) (hs : s.size ≤ 1048576) (hT : Tabs w) :
    Calls Tryd.prog 5 #[.string s] w (Ans s w) := by
  have hok := ok_sp s hs
  have hj : jn (sp s.data.toList) = s.data.toList := RV.jn_sp _
  have hne := RV.sp_ne s.data.toList
  have hcnt := RV.sp_count s.data.toList
  rw [← Lib.size_eq] at hcnt
  have hrd : RW.read s.data.toList = if (ans (RW.kind ((sp s.data.toList).headD [])) (sp s.data.toList).tail).2 = true then ans (RW.kind ((sp s.data.toList).headD [])) (sp s.data.toList).tail else (RW.ev0, false) := rfl
  have hk10 := RW.kind_le ((sp s.data.toList).headD [])
  have hms : mk (jn (sp s.data.toList)) = s := by rw [hj]
  have hem : (sp s.data.toList).isEmpty = false := by
    cases h : sp s.data.toList with
    | nil => exact absurd h hne
    | cons p R => rfl
  have htl : (sp s.data.toList).tail.length ≤ 1048576 := by rw [List.length_tail]; omega
  have htok := hok.tail
  generalize sp s.data.toList = R at *
  obtain ⟨K, hK⟩ : ∃ K, RW.kind (R.headD []) = K := ⟨_, rfl⟩
  have n1 := K0.below_new w z6
  have hT1 : Tabs (w.alloc z6) := hT.below n1
  have rb0 : RB (w.heap.size + 1) s R false ((w.alloc z6).alloc (.cells #[.string s, .string s, .bool false, .bool false] 53)) := by
    have := K0.blk_at (B := w.heap.size + 1) [.string s, .string s, .bool false, .bool false] (w.alloc z6) 53 (by simp)
    rw [RB, rv, hms, hem]
    exact this
  have zb0 : K0.Blk w.heap.size zero6 ((w.alloc z6).alloc (.cells #[.string s, .string s, .bool false, .bool false] 53)) := (K0.blk_new zero6 w 24).alloc _
  have n2 := K0.below_new (w.alloc z6) (.cells #[.string s, .string s, .bool false, .bool false] 53)
  have tb0 : TB (w.heap.size + 1) ((w.alloc z6).alloc (.cells #[.string s, .string s, .bool false, .bool false] 53)) := ⟨w, hT, by omega, (n1.trans (n2.mono (by simp)))⟩
  have hb0 : Below w.heap.size w ((w.alloc z6).alloc (.cells #[.string s, .string s, .bool false, .bool false] 53)) := n1.trans (n2.mono (by simp))
  generalize hW1 : ((w.alloc z6).alloc (.cells #[.string s, .string s, .bool false, .bool false] 53)) = W1 at rb0 zb0 tb0 hb0
  have HW1 : Hid (((w.alloc z6).alloc (.cells #[.string s, .string s, .bool false, .bool false] 53)) = W1) := hW1
  clear hW1 n1 n2 hT1
  have HRO : Hid (Calls Tryd.prog 18 #[.string s] (w.alloc z6) fun e w' => e = .returned (.pointer (some ⟨w.heap.size + 1, 0, none⟩)) ∧ w' = W1) := by
    have := readerOf s (w.alloc z6)
    rw [HW1.out] at this
    refine this.mono ?_
    rintro e w' ⟨he, hw⟩
    refine ⟨?_, hw⟩
    rw [he]
    simp
  have HWD : Hid (Calls Tryd.prog 20 #[.pointer (some ⟨w.heap.size + 1, 0, none⟩)] W1 fun e w' => e = .returned (.string (mk (R.headD []))) ∧ RB (w.heap.size + 1) s R.tail false w' ∧ Btw (w.heap.size + 1) (w.heap.size + 2) W1 w') := RX.word _ s R false W1 hok rb0
  have HEK : Hid (∀ W, Tabs W → Calls Tryd.prog 19 #[.string (mk (R.headD []))] W fun e w' => e = .returned (.tuple #[.int .i64 (RZ.kv K), .bool (RZ.kb K)]) ∧ w' = W) := fun W h => by
    have := RZ.eventKind (R.headD []) W h
    rw [hK] at this
    exact this
  rw [hK] at hrd hk10
  by_cases h10 : K < 10
  · have hkv : RZ.kv K = (K : Int) := if_pos h10
    have hkb : RZ.kb K = true := decide_eq_true h10
    rw [hkv, hkb] at HEK
    have HEV : Hid (∀ W, TB (w.heap.size + 1) W → RB (w.heap.size + 1) s R.tail false W → Calls Tryd.prog 21 #[.pointer (some ⟨w.heap.size + 1, 0, none⟩), .int .i64 (K : Int)] W (RE.Ans (w.heap.size + 1) s R.tail K W)) := fun W h1 h2 => event K h10 htok htl h1 h2
    have HRD : Hid (RW.read s.data.toList = if (ans K R.tail).2 = true then ans K R.tail else (RW.ev0, false)) := hrd
    generalize mk (R.headD []) = p0 at HWD HEK
    clear hrd hok hj hne hcnt hms hem htl htok hK rb0 hkv hkb h10 hk10
    cases hA : (ans K R.tail).2
    · have HR0 : Hid (RW.read s.data.toList = (RW.ev0, false)) := by
        rw [HRD.out, hA]
        rfl
      clear HRD
      go_enter Tryd.func5, Tryd.ntmps5
      go_wp2_with (first
        | (go_at_call 18; refine HRO.out.mono ?_; rintro e w1 ⟨rfl, hw1⟩; subst w1)
        | (go_at_call 20; refine HWD.out.mono ?_; rintro e w2 ⟨rfl, rb2, g2⟩; have tb2 := tb0.btw g2; have zb2 := LF.blk_btw zb0 g2 (Or.inl (Nat.lt_succ_self _)); have bl2 := hb0.trans (g2.below (b := w.heap.size) (Nat.le_succ _) hb0.size); clear HWD)
        | (go_at_call 19; refine (HEK.out _ tb2.tabs).mono ?_; rintro e w3 ⟨rfl, hw3⟩; subst w3; clear HEK)
        | (go_at_call 21; refine (HEV.out _ tb2 rb2).mono ?_; rintro e w4 ⟨d, a, c, rfl, ho, hd, R', x', rb4, hfl, ch4⟩; rw [hA] at hfl; have HD : Hid ((ans K R.tail).2 = true → d = (ans K R.tail).1) := hd; clear hd; have zb4 := blk_chg zb2 ch4 (by omega); have bl4 := bl2.trans (ch4.below (n := w.heap.size) (Nat.le_succ _) bl2.size); have rb5 := rb4.alloc (.cells #[.int .i64 d.kd, .int .i64 d.cl, .int .i64 d.ino, .int .i64 d.at_, .string d.tx, .slice a d.kp.length c] 24); have zb5 := zb4.alloc (.cells #[.int .i64 d.kd, .int .i64 d.cl, .int .i64 d.ino, .int .i64 d.at_, .string d.tx, .slice a d.kp.length c] 24); have eb5 := K0.blk_new (EV.vals d a c) w4 24; have z0 := eb5.cell 0 (by simp); have z1 := eb5.cell 1 (by simp); have z2 := eb5.cell 2 (by simp); have z3 := eb5.cell 3 (by simp); have z4 := eb5.cell 4 (by simp); have z5 := eb5.cell 5 (by simp); have y0 := zb5.cell 0 (by simp); have g0 := zb5.free 0 (by simp); have y1 := zb5.cell 1 (by simp); have g1 := zb5.free 1 (by simp); have y2 := zb5.cell 2 (by simp); have g2 := zb5.free 2 (by simp); have y3 := zb5.cell 3 (by simp); have g3 := zb5.free 3 (by simp); have y4 := zb5.cell 4 (by simp); have g4 := zb5.free 4 (by simp); have y5 := zb5.cell 5 (by simp); have g5 := zb5.free 5 (by simp); simp only [zero6, List.getElem_cons_zero, List.getElem_cons_succ] at y0 y1 y2 y3 y4 y5 z0 z1 z2 z3 z4 z5; clear HEV)
        | (go_at_call 22; refine (RY.isDone rb5).mono ?_; rintro e w6 ⟨rfl, hw6⟩; subst w6; rw [hfl]))
      have q := put6 (y0 := .int .i64 0) (y1 := .int .i64 0) (y2 := .int .i64 0) (y3 := .int .i64 0) (y4 := .string ⟨#[]⟩) (y5 := .slice none 0 0) zb5
      have v0 := q.cell 0 (by simp)
      have v1 := q.cell 1 (by simp)
      have v2 := q.cell 2 (by simp)
      have v3 := q.cell 3 (by simp)
      have v4 := q.cell 4 (by simp)
      have v5 := q.cell 5 (by simp)
      simp only [List.getElem_cons_zero, List.getElem_cons_succ] at v0 v1 v2 v3 v4 v5
      refine bodyPost_ret (v := .tuple #[EV.val RW.ev0 none 0, .bool false]) (by simp [results, Tryd.results5, go_sem, v0, v1, v2, v3, v4, v5, RW.ev0]) rfl ⟨none, 0, ?_, ?_, ?_⟩
      · rw [HR0.out]
      · rw [HR0.out]
        exact Or.inl rfl
      · exact EW.bel6 (bl4.alloc bl4.size _) (Nat.le_refl _) _ _ _ _ _ _
    · have HR0 : Hid (RW.read s.data.toList = ans K R.tail) := by
        rw [HRD.out, hA]
        rfl
      have HA : Hid ((ans K R.tail).2 = true) := hA
      clear HRD
      go_enter Tryd.func5, Tryd.ntmps5
      go_wp2_with (first
        | (go_at_call 18; refine HRO.out.mono ?_; rintro e w1 ⟨rfl, hw1⟩; subst w1)
        | (go_at_call 20; refine HWD.out.mono ?_; rintro e w2 ⟨rfl, rb2, g2⟩; have tb2 := tb0.btw g2; have zb2 := LF.blk_btw zb0 g2 (Or.inl (Nat.lt_succ_self _)); have bl2 := hb0.trans (g2.below (b := w.heap.size) (Nat.le_succ _) hb0.size); clear HWD)
        | (go_at_call 19; refine (HEK.out _ tb2.tabs).mono ?_; rintro e w3 ⟨rfl, hw3⟩; subst w3; clear HEK)
        | (go_at_call 21; refine (HEV.out _ tb2 rb2).mono ?_; rintro e w4 ⟨d, a, c, rfl, ho, hd, R', x', rb4, hfl, ch4⟩; rw [hA] at hfl; have HD : Hid ((ans K R.tail).2 = true → d = (ans K R.tail).1) := hd; clear hd; have zb4 := blk_chg zb2 ch4 (by omega); have bl4 := bl2.trans (ch4.below (n := w.heap.size) (Nat.le_succ _) bl2.size); have rb5 := rb4.alloc (.cells #[.int .i64 d.kd, .int .i64 d.cl, .int .i64 d.ino, .int .i64 d.at_, .string d.tx, .slice a d.kp.length c] 24); have zb5 := zb4.alloc (.cells #[.int .i64 d.kd, .int .i64 d.cl, .int .i64 d.ino, .int .i64 d.at_, .string d.tx, .slice a d.kp.length c] 24); have eb5 := K0.blk_new (EV.vals d a c) w4 24; have z0 := eb5.cell 0 (by simp); have z1 := eb5.cell 1 (by simp); have z2 := eb5.cell 2 (by simp); have z3 := eb5.cell 3 (by simp); have z4 := eb5.cell 4 (by simp); have z5 := eb5.cell 5 (by simp); have y0 := zb5.cell 0 (by simp); have g0 := zb5.free 0 (by simp); have y1 := zb5.cell 1 (by simp); have g1 := zb5.free 1 (by simp); have y2 := zb5.cell 2 (by simp); have g2 := zb5.free 2 (by simp); have y3 := zb5.cell 3 (by simp); have g3 := zb5.free 3 (by simp); have y4 := zb5.cell 4 (by simp); have g4 := zb5.free 4 (by simp); have y5 := zb5.cell 5 (by simp); have g5 := zb5.free 5 (by simp); simp only [zero6, List.getElem_cons_zero, List.getElem_cons_succ] at y0 y1 y2 y3 y4 y5 z0 z1 z2 z3 z4 z5; clear HEV)
        | (go_at_call 22; refine (RY.isDone rb5).mono ?_; rintro e w6 ⟨rfl, hw6⟩; subst w6; rw [hfl]))
      have q := put6 (y0 := .int .i64 d.kd) (y1 := .int .i64 d.cl) (y2 := .int .i64 d.ino) (y3 := .int .i64 d.at_) (y4 := .string d.tx) (y5 := .slice a d.kp.length c) zb5
      have v0 := q.cell 0 (by simp)
      have v1 := q.cell 1 (by simp)
      have v2 := q.cell 2 (by simp)
      have v3 := q.cell 3 (by simp)
      have v4 := q.cell 4 (by simp)
      have v5 := q.cell 5 (by simp)
      simp only [List.getElem_cons_zero, List.getElem_cons_succ] at v0 v1 v2 v3 v4 v5
      have hd1 := HD.out HA.out
      have hs2 : w.heap.size < w2.heap.size := zb2.lt
      refine bodyPost_ret (v := .tuple #[EV.val d a c, .bool true]) (by simp [results, Tryd.results5, go_sem, v0, v1, v2, v3, v4, v5]) rfl ⟨a, c, ?_, ?_, ?_⟩
      · rw [HR0.out, HA.out, ← hd1]
      · rw [HR0.out, ← hd1]
        have o1 := ho.alloc (.cells #[.int .i64 d.kd, .int .i64 d.cl, .int .i64 d.ino, .int .i64 d.at_, .string d.tx, .slice a d.kp.length c] 24)
        exact ((((((o1.set hs2 0 _).set hs2 1 _).set hs2 2 _).set hs2 3 _).set hs2 4 _).set hs2 5 _).mono (Nat.le_of_lt hs2)
      · exact EW.bel6 (bl4.alloc bl4.size _) (Nat.le_refl _) _ _ _ _ _ _
  · have e10 : K = 10 := by omega
    subst e10
    have HR0 : Hid (RW.read s.data.toList = (RW.ev0, false)) := hrd
    have hkb : RZ.kb 10 = false := rfl
    rw [hkb] at HEK
    generalize RZ.kv 10 = k0 at HEK
    generalize mk (R.headD []) = p0 at HWD HEK
    clear hrd hok hj hne hcnt hms hem htl htok hK rb0 hkb h10 hk10
    go_enter Tryd.func5, Tryd.ntmps5
    go_wp2_with (first
      | (go_at_call 18; refine HRO.out.mono ?_; rintro e w1 ⟨rfl, hw1⟩; subst w1)
      | (go_at_call 20; refine HWD.out.mono ?_; rintro e w2 ⟨rfl, rb2, g2⟩; have tb2 := tb0.btw g2; have zb5 := LF.blk_btw zb0 g2 (Or.inl (Nat.lt_succ_self _)); have bl2 := hb0.trans (g2.below (b := w.heap.size) (Nat.le_succ _) hb0.size); clear HWD)
      | (go_at_call 19; refine (HEK.out _ tb2.tabs).mono ?_; rintro e w3 ⟨rfl, hw3⟩; subst w3; clear HEK; have y0 := zb5.cell 0 (by simp); have g0 := zb5.free 0 (by simp); have y1 := zb5.cell 1 (by simp); have g1 := zb5.free 1 (by simp); have y2 := zb5.cell 2 (by simp); have g2 := zb5.free 2 (by simp); have y3 := zb5.cell 3 (by simp); have g3 := zb5.free 3 (by simp); have y4 := zb5.cell 4 (by simp); have g4 := zb5.free 4 (by simp); have y5 := zb5.cell 5 (by simp); have g5 := zb5.free 5 (by simp); simp only [zero6, List.getElem_cons_zero, List.getElem_cons_succ] at y0 y1 y2 y3 y4 y5))
    have q := put6 (y0 := .int .i64 0) (y1 := .int .i64 0) (y2 := .int .i64 0) (y3 := .int .i64 0) (y4 := .string ⟨#[]⟩) (y5 := .slice none 0 0) zb5
    have v0 := q.cell 0 (by simp)
    have v1 := q.cell 1 (by simp)
    have v2 := q.cell 2 (by simp)
    have v3 := q.cell 3 (by simp)
    have v4 := q.cell 4 (by simp)
    have v5 := q.cell 5 (by simp)
    simp only [List.getElem_cons_zero, List.getElem_cons_succ] at v0 v1 v2 v3 v4 v5
    refine bodyPost_ret (v := .tuple #[EV.val RW.ev0 none 0, .bool false]) (by simp [results, Tryd.results5, go_sem, v0, v1, v2, v3, v4, v5, RW.ev0]) rfl ⟨none, 0, ?_, ?_, ?_⟩
    · rw [HR0.out]
    · rw [HR0.out]
      exact Or.inl rfl
    · exact EW.bel6 bl2 (Nat.le_refl _) _ _ _ _ _ _
end Go.Proofs.YtjajclifjojblaaDoor.RF
