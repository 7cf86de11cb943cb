/- What the law over ReadEvent keeps: the wanted event, the one that was answered, their lists apart. -/
import Derived.Test.YtjajclifjojblaaDoorRv9
import Derived.Test.YtjajclifjojblaaDoorEv1
import Derived.Test.YtjajclifjojblaaDoorLf0
namespace Go.Proofs.YtjajclifjojblaaDoor.RQ
open Go.ChangeShapes Go.WideShapes Go.ChangeAt Go.RowKit
set_option linter.unusedVariables false
set_option linter.unusedSimpArgs false
set_option maxRecDepth 10000
open EV (Ev)
open LF (Btw OwnIn mfrom)
open EX (Tabs)

theorem ans_len (K : Nat) (R : List (List UInt8)) : (RW.ans K R).1.kp.length ≤ R.length := by
  rcases Nat.lt_or_ge K 10 with h | h
  · match K, h with
    | 0, _ => exact Nat.zero_le _
    | 1, _ => exact Nat.zero_le _
    | 2, _ => exact Nat.zero_le _
    | 3, _ => exact Nat.zero_le _
    | 4, _ => exact Nat.zero_le _
    | 5, _ =>
      show (R.map fun p => R0.rd (RV.mk p)).length ≤ R.length
      rw [List.length_map]
      exact Nat.le_refl _
    | 6, _ => exact Nat.zero_le _
    | 7, _ => exact Nat.zero_le _
    | 8, _ => exact Nat.zero_le _
    | 9, _ => exact Nat.zero_le _
  · have e : RW.ans K R = (RW.ev0, false) := by
      obtain ⟨k, rfl⟩ : ∃ k, K = k + 10 := ⟨K - 10, by omega⟩
      rfl
    rw [e]
    exact Nat.zero_le _

theorem read_len (s : ByteArray) (hs : s.size ≤ 1048576) : (RW.read s.data.toList).1.kp.length ≤ 1048576 := by
  unfold RW.read
  split
  · refine Nat.le_trans (ans_len _ _) ?_
    rw [List.length_tail]
    have := RV.sp_count s.data.toList
    rw [← Lib.size_eq] at this
    omega
  · exact Nat.zero_le _

section
variable {w W W' : World} {d : Ev} {a0 a1 : Option Addr} {c0 c1 E3 E5 : Nat} {zs : List Int}

structure LB (w : World) (d : Ev) (a0 : Option Addr) (c0 : Nat) (a1 : Option Addr) (c1 E3 E5 : Nat) (zs : List Int) (W : World) : Prop where
  b3 : K0.Blk E3 (EV.vals d a0 c0) W
  b5 : K0.Blk E5 (EV.vals d a1 c1) W
  r0 : OwnIn w.heap.size E3 W a0 d.kp
  r1 : OwnIn (E3 + 1) E5 W a1 zs
  bel : Below w.heap.size w W
  l1 : w.heap.size ≤ E3
  l2 : E3 < E5

theorem LB.below (h : LB w d a0 c0 a1 c1 E3 E5 zs W) (hb : Below W.heap.size W W') : LB w d a0 c0 a1 c1 E3 E5 zs W' :=
  ⟨h.b3.below hb, h.b5.below hb, h.r0.below hb, h.r1.below hb, h.bel.trans (hb.mono h.bel.size), h.l1, h.l2⟩

theorem lb_new {w1 w2 : World} {o : Obj} (ho : J0.Own w.heap.size w1 a0 d.kp) (b1 : Below w.heap.size w w1) (ho1 : J0.Own (w1.alloc (.cells (EV.vals d a0 c0).toArray 24)).heap.size w2 a1 d.kp) (b2 : Below (w1.alloc (.cells (EV.vals d a0 c0).toArray 24)).heap.size (w1.alloc (.cells (EV.vals d a0 c0).toArray 24)) w2) :
    LB w d a0 c0 a1 c1 w1.heap.size w2.heap.size d.kp (w2.alloc (.cells (EV.vals d a1 c1).toArray 24)) := by
  have n1 := K0.below_new w1 (.cells (EV.vals d a0 c0).toArray 24)
  have n2 := K0.below_new w2 (.cells (EV.vals d a1 c1).toArray 24)
  have hs : (w1.alloc (.cells (EV.vals d a0 c0).toArray 24)).heap.size = w1.heap.size + 1 := by simp
  have h2 := b2.size
  rw [hs] at h2
  have i0 := LF.own_in ho
  have i1 := LF.own_in ho1
  rw [hs] at i1
  exact ⟨((K0.blk_new (EV.vals d a0 c0) w1 24).below b2).below n2, K0.blk_new _ w2 _, ((i0.below n1).below b2).below n2, i1.below n2,
    ((b1.trans (n1.mono b1.size)).trans (b2.mono (by have := b1.size; omega))).trans (n2.mono (by have := b1.size; omega)), b1.size, by omega⟩

theorem eq1 (h : LB w d a0 c0 a1 c1 E3 E5 d.kp W) (hn : d.kp.length ≤ 1048576) :
    Calls Tryd.prog 6 #[EV.val d a1 c1, EV.val d a0 c0] W fun e w' => e = .returned (.bool true) ∧ LB w d a0 c0 a1 c1 E3 E5 d.kp w' := by
  refine (EW.eqEvent d a1 a0 c1 c0 W (by omega) h.r1.row h.r0.row).mono ?_
  rintro e w' ⟨he, hb⟩
  exact ⟨he, h.below hb⟩

theorem eq2 {a2 : Option Addr} {c2 : Nat} (h : LB w d a0 c0 a1 c1 E3 E5 zs W) (hr : P0.Row W a2 d.kp) (hn : d.kp.length ≤ 1048576) :
    Calls Tryd.prog 6 #[EV.val d a2 c2, EV.val d a0 c0] W fun e w' => e = .returned (.bool true) ∧ LB w d a0 c0 a1 c1 E3 E5 zs w' := by
  refine (EW.eqEvent d a2 a0 c2 c0 W (by omega) hr h.r0.row).mono ?_
  rintro e w' ⟨he, hb⟩
  exact ⟨he, h.below hb⟩

theorem mark (h : LB w d a0 c0 a1 c1 E3 E5 d.kp W) (hn : d.kp.length ≤ 1048576) :
    Calls Tryd.prog 7 #[EV.val d a1 c1, .int .i64 1] W fun e w' => e = .returned (.int .i64 ((1 + d.kp.length : Nat) : Int)) ∧ LB w d a0 c0 a1 c1 E3 E5 (mfrom 1 d.kp.length) w' := by
  have n0 := K0.below_new W (.cells (EV.vals d a1 c1).toArray 24)
  have x0 := EW.eb_new d a1 c1 W 24
  have c5 := x0.c5
  have h1 := h.below n0
  have HM : Hid (Calls Tryd.prog 24 #[.slice a1 d.kp.length c1, .int .i64 1] (W.alloc (.cells (EV.vals d a1 c1).toArray 24)) fun e w' => e = .returned (.int .i64 ((1 + d.kp.length : Nat) : Int)) ∧ LB w d a0 c0 a1 c1 E3 E5 (mfrom 1 d.kp.length) w') := by
    refine (LF.markIn (k0 := 1) h1.r1 rfl hn (by omega)).mono ?_
    rintro e w' ⟨he, hr, hb⟩
    have l1 := h.l1
    have l2 := h.l2
    exact ⟨he, LF.blk_btw h1.b3 hb (by omega), LF.blk_btw h1.b5 hb (by omega), h1.r0.btw hb (by omega), hr, h1.bel.trans (hb.below (by omega) h1.bel.size), l1, l2⟩
  generalize d.kp.length = N at *
  go_enter Tryd.func7, Tryd.ntmps7
  go_wp2_with (go_at_call 24; refine HM.out.mono ?_; rintro e w1 ⟨rfl, h2⟩)
  go_ret
  exact ⟨rfl, h2⟩

theorem held (h : LB w d a0 c0 a1 c1 E3 E5 (mfrom 1 d.kp.length) W) (hn : d.kp.length ≤ 1048576) :
    Calls Tryd.prog 8 #[EV.val d a1 c1, .int .i64 1] W fun e w' => e = .returned (.int .i64 ((1 + d.kp.length : Nat) : Int)) ∧ LB w d a0 c0 a1 c1 E3 E5 (mfrom 1 d.kp.length) w' := by
  have n0 := K0.below_new W (.cells (EV.vals d a1 c1).toArray 24)
  have x0 := EW.eb_new d a1 c1 W 24
  have c5 := x0.c5
  have h1 := h.below n0
  have HM : Hid (Calls Tryd.prog 25 #[.slice a1 d.kp.length c1, .int .i64 1] (W.alloc (.cells (EV.vals d a1 c1).toArray 24)) fun e w' => e = .returned (.int .i64 ((1 + d.kp.length : Nat) : Int)) ∧ LB w d a0 c0 a1 c1 E3 E5 (mfrom 1 d.kp.length) w') := by
    refine (LF.heldIn (k0 := 1) h1.r1 hn (by omega)).mono ?_
    rintro e w' ⟨he, hw⟩
    rw [hw]
    exact ⟨he, h1⟩
  have hp : ¬ ((1 + d.kp.length : Nat) : Int) < 0 := by omega
  generalize d.kp.length = N at *
  obtain ⟨Z, hZ⟩ : ∃ Z, ((1 + N : Nat) : Int) = Z := ⟨_, rfl⟩
  rw [hZ] at HM hp ⊢
  clear hZ
  go_enter Tryd.func8, Tryd.ntmps8
  go_wp2_with (go_at_call 25; refine HM.out.mono ?_; rintro e w1 ⟨rfl, h2⟩)
  go_ret
  exact ⟨rfl, h2⟩
end
end Go.Proofs.YtjajclifjojblaaDoor.RQ
