/- Joined texts: plain facts and contracts, as each part says. -/
import Derived.Test.YtnfcpcejfajcfaaJoC
import Derived.Deep.RegionHeld3
import Derived.Laws.MakeOwn
import Derived.Test.YtnfcpcejfajcfaaJoB

/- Contracts of laws.szLoanS and laws.szKeeper, as the given laws call them. -/
namespace Go.Proofs.Ytnfcpcejfajcfaa.Z1
open Go.ChangeShapes Go.WideShapes Go.ChangeAt Go.RowKit
set_option linter.unusedVariables false
set_option linter.unusedSimpArgs false
set_option maxRecDepth 10000

open N0 (Ln)
open N1 (Sl val vals Lists FitM LB lb_new)
open N3 (total szOk szNo)
open Z0 (dat Row Lns Kp kval kvals FitK)

/-- What is left of a number behind a loan; -1 where nothing is. -/
def leftL (d : Ln) (l : Int) : Int := if (total d : Int) ≤ l then l - (total d : Int) else -1

theorem ret_int {k : IntKind} {a b : Int} (h : a = b) : Ending.returned (.int k a) = .returned (.int k b) := by rw [h]

set_option maxHeartbeats 1000000 in
theorem szLoan (d : Ln) (s : Sl) (l : Int) (w : World) (hF : FitM d s) (h0 : 0 ≤ l) (hl : l ≤ 1048576) :
    Calls Try.prog 26 #[val d s, .int .i64 l] w fun e w' => e = .returned (.int .i64 (leftL d l)) ∧ Below w.heap.size w w' := by
  have hB := K0.below_new w (.cells #[.int .i64 d.ino, .int .i64 d.cl, .int .i64 d.un, .string d.rc, .slice s.a1 d.pg.length s.c1, .string d.sav, .slice s.a2 d.po.length s.c2, .slice s.a3 d.fr.length s.c3] 55)
  have l1 := hF.l1
  have l2 := hF.l2
  have l3 := hF.l3
  have l4 := hF.m4
  have l5 := hF.m5
  have l4' : d.rc.size ≤ 9223372036854775807 := l4
  have l5' : d.sav.size ≤ 9223372036854775807 := l5
  by_cases h : (total d : Int) ≤ l
  · have HR : Hid (leftL d l = l - (d.rc.size : Int) - (d.pg.length : Int) - (d.sav.size : Int) - (d.po.length : Int) - (d.fr.length : Int)) := by
      show leftL d l = _
      rw [leftL, if_pos h, total]
      omega
    unfold total at h
    have e1 : (0 : Int) ≤ l - (d.rc.size : Int) := by omega
    have g1 : ¬ (l - (d.rc.size : Int) < 0) := by omega
    have g2 : ¬ (l - (d.rc.size : Int) - (d.pg.length : Int) < 0) := by omega
    have g3 : ¬ (l - (d.rc.size : Int) - (d.pg.length : Int) - (d.sav.size : Int) < 0) := by omega
    have g4 : ¬ (l - (d.rc.size : Int) - (d.pg.length : Int) - (d.sav.size : Int) - (d.po.length : Int) < 0) := by omega
    have g5 : ¬ (l - (d.rc.size : Int) - (d.pg.length : Int) - (d.sav.size : Int) - (d.po.length : Int) - (d.fr.length : Int) < 0) := by omega
    go_enter Try.func26, Try.ntmps26
    go_wp2_with (go_at_call 33; refine (szOk _ _ _ _ _ (by assumption) (by omega) (by omega)).mono ?_; rintro e w' ⟨rfl, rfl⟩)
    go_ret
    exact ⟨ret_int HR.out.symm, hB⟩
  · have HR : Hid (leftL d l = -1) := if_neg h
    rw [HR.out]
    unfold total at h
    by_cases g1 : l - (d.rc.size : Int) < 0
    · go_enter Try.func26, Try.ntmps26
      go_wp2
      go_ret
      exact ⟨rfl, hB⟩
    · by_cases g2 : l - (d.rc.size : Int) - (d.pg.length : Int) < 0
      · go_enter Try.func26, Try.ntmps26
        go_wp2_with (go_at_call 33; refine (szNo _ _ _ _ _ (by assumption) (by omega) (by omega) (by omega)).mono ?_; rintro e w' ⟨rfl, rfl⟩)
        go_ret
        exact ⟨rfl, hB⟩
      · by_cases g3 : l - (d.rc.size : Int) - (d.pg.length : Int) - (d.sav.size : Int) < 0
        · go_enter Try.func26, Try.ntmps26
          go_wp2_with (go_at_call 33; refine (szOk _ _ _ _ _ (by assumption) (by omega) (by omega)).mono ?_; rintro e w' ⟨rfl, rfl⟩)
          go_ret
          exact ⟨rfl, hB⟩
        · by_cases g4 : l - (d.rc.size : Int) - (d.pg.length : Int) - (d.sav.size : Int) - (d.po.length : Int) < 0
          · go_enter Try.func26, Try.ntmps26
            go_wp2_with (first
              | (go_at_call 33; refine (szOk _ _ _ _ _ (by assumption) (by omega) (by omega)).mono ?_; rintro e w' ⟨rfl, rfl⟩)
              | (go_at_call 33; refine (szNo _ _ _ _ _ (by assumption) (by omega) (by omega) (by omega)).mono ?_; rintro e w' ⟨rfl, rfl⟩))
            go_ret
            exact ⟨rfl, hB⟩
          · go_enter Try.func26, Try.ntmps26
            go_wp2_with (first
              | (go_at_call 33; refine (szOk _ _ _ _ _ (by assumption) (by omega) (by omega)).mono ?_; rintro e w' ⟨rfl, rfl⟩)
              | (go_at_call 33; refine (szNo _ _ _ _ _ (by assumption) (by omega) (by omega) (by omega)).mono ?_; rintro e w' ⟨rfl, rfl⟩))
            go_ret
            exact ⟨rfl, hB⟩

/-- The loans' sizes, all together. -/
def tot (ds : List Ln) : Nat → Nat
  | 0 => 0
  | k + 1 => tot ds k + total (dat ds k)

theorem tot_mono (ds : List Ln) (k : Nat) : ∀ m, tot ds k ≤ tot ds (k + m)
  | 0 => Nat.le_refl _
  | m + 1 => Nat.le_trans (tot_mono ds k m) (Nat.le_add_right _ _)

theorem tot_le {ds : List Ln} {k n : Nat} (h : k ≤ n) : tot ds k ≤ tot ds n := by
  have := tot_mono ds k (n - k)
  rwa [show k + (n - k) = n by omega] at this

theorem tot_one {ds : List Ln} {j : Nat} (hj : j < ds.length) : total (dat ds j) ≤ tot ds ds.length := by
  have h1 := tot_le (ds := ds) (k := j + 1) (n := ds.length) (by omega)
  have h2 : tot ds (j + 1) = tot ds j + total (dat ds j) := rfl
  omega

def leftS (ds : List Ln) (l : Int) : Int := if ((ds.length + tot ds ds.length : Nat) : Int) ≤ l then l - (ds.length : Int) - (tot ds ds.length : Int) else -1

set_option maxHeartbeats 1000000 in
theorem szLoanS (a : Option Addr) (c : Nat) (ds : List Ln) (ss : Nat → Sl) (l : Int) (w : World) (hn : ds.length ≤ maxLen) (hF : ∀ j, j < ds.length → FitM (dat ds j) (ss j)) (h0 : 0 ≤ l) (hl : l ≤ 1048576) (hR : Row w a ds ss) :
    Calls Try.prog 14 #[.slice a ds.length c, .int .i64 l] w fun e w' => e = .returned (.int .i64 (leftS ds l)) ∧ Below w.heap.size w w' := by
  unfold maxLen at hn
  by_cases h1 : l - (ds.length : Int) < 0
  · have HR : Hid (leftS ds l = -1) := if_neg (by omega)
    go_enter Try.func14, Try.ntmps14
    go_wp2
    go_ret
    exact ⟨ret_int HR.out.symm, Below.refl _ _⟩
  · go_enter Try.func14, Try.ntmps14
    go_wp2
    go_loopw [1, 5] (fun q i w' => ∃ k : Nat, k ≤ ds.length ∧ i = .int .i64 k ∧ q = .int .i64 (l - (ds.length : Int) - (tot ds k : Int)) ∧ ((ds.length + tot ds k : Nat) : Int) ≤ l ∧ Below w.heap.size w w') (fun _ i _ => ds.length - (intOf i).toNat)
    case atStart => exact ⟨0, Nat.zero_le _, rfl, by simp [tot], by simp [tot]; omega, Below.refl _ _⟩
    case round =>
      obtain ⟨k, hk, rfl, rfl, hs, hbel⟩ := hrel
      have hB := hbel.size
      by_cases hlt : k < ds.length
      · obtain ⟨b, off, rfl, hlt0, hc⟩ := (hR.below hbel).get hlt
        obtain ⟨y0, y1, y2, y3, y4, y5, y6, y7⟩ := hc k hlt
        have hf := hF k hlt
        have hsum : tot ds (k + 1) = tot ds k + total (dat ds k) := rfl
        obtain ⟨d, ed⟩ : ∃ d, dat ds k = d := ⟨_, rfl⟩
        obtain ⟨s, es⟩ : ∃ s, ss k = s := ⟨_, rfl⟩
        rw [ed, es] at hf
        rw [ed] at hsum y0 y1 y2 y3 y4 y5 y6 y7
        rw [es] at y4 y6 y7
        have e1 : (0 : Int) ≤ (k : Int) := by omega
        have e2 : (k : Int) < (ds.length : Int) := by omega
        have hsz : Hid (∀ W, Calls Try.prog 26 #[val d s, .int .i64 (l - (ds.length : Int) - (tot ds k : Int))] W fun e w' => e = .returned (.int .i64 (leftL d (l - (ds.length : Int) - (tot ds k : Int)))) ∧ Below W.heap.size W w') := fun W => szLoan d s _ W hf (by omega) (by omega)
        clear ed es hc hF hR hf
        by_cases h2 : ((ds.length + tot ds (k + 1) : Nat) : Int) ≤ l
        · have hz : leftL d (l - (ds.length : Int) - (tot ds k : Int)) = l - (ds.length : Int) - (tot ds (k + 1) : Int) := by rw [leftL, if_pos (by omega)]; omega
          rw [hz] at hsz
          have h3 : ¬ l - (ds.length : Int) - (tot ds (k + 1) : Int) < 0 := by omega
          clear hz hsum
          go_wp2_with (go_at_call 26; refine (hsz.out _).mono ?_; rintro e w1 ⟨rfl, b1⟩)
          go_roundw
          case rel => exact ⟨k + 1, by omega, by go_num, rfl, h2, hbel.trans (b1.mono hB)⟩
          case measure => simp [intOf]; omega
        · have hz : leftL d (l - (ds.length : Int) - (tot ds k : Int)) = -1 := by rw [leftL, if_neg (by omega)]
          rw [hz] at hsz
          have HR : Hid (leftS ds l = -1) := by
            refine if_neg ?_
            have := tot_le (ds := ds) (k := k + 1) (n := ds.length) (by omega)
            omega
          clear hz hsum
          go_wp2_with (go_at_call 26; refine (hsz.out _).mono ?_; rintro e w1 ⟨rfl, b1⟩)
          go_ret
          exact ⟨ret_int HR.out.symm, hbel.trans (b1.mono hB)⟩
      · obtain rfl : k = ds.length := by omega
        have HR : Hid (leftS ds l = l - (ds.length : Int) - (tot ds ds.length : Int)) := if_pos hs
        clear hR hF
        go_wp2
        go_ret
        exact ⟨ret_int HR.out.symm, hbel⟩

/-- All that a keeper has is small. -/
def small (k : Kp) : Prop := k.mem.size + k.dur.size + k.ds.length + tot k.ds k.ds.length ≤ 1048576

set_option maxHeartbeats 1000000 in
theorem szFit (k : Kp) (a : Option Addr) (c : Nat) (ss : Nat → Sl) (w : World) (hF : FitK k ss) (h : small k) (hR : Row w a k.ds ss) :
    Calls Try.prog 4 #[kval k a c, .int .i64 1048576] w fun e w' => (∃ q : Int, 0 ≤ q ∧ e = .returned (.int .i64 q)) ∧ Below w.heap.size w w' := by
  have hB := K0.below_new w (.cells #[.string k.mem, .string k.dur, .slice a k.ds.length c, .int .i64 k.ck] 26)
  have hk := K0.blk_new (kvals k a c) w 26
  unfold small at h
  have hd := D1.szDev k.mem k.dur (w.alloc (.cells #[.string k.mem, .string k.dur, .slice a k.ds.length c, .int .i64 k.ck] 26)) hF.m1 hF.m2
  have ed : D1.sz k.mem k.dur = 1048576 - (k.mem.size : Int) - (k.dur.size : Int) := if_pos (by omega)
  rw [ed] at hd
  have HS : Hid (∀ W, Below w.heap.size w W → Calls Try.prog 14 #[.slice a k.ds.length c, .int .i64 (1048576 - (k.mem.size : Int) - (k.dur.size : Int))] W fun e w' => e = .returned (.int .i64 (1048576 - (k.mem.size : Int) - (k.dur.size : Int) - (k.ds.length : Int) - (tot k.ds k.ds.length : Int))) ∧ Below W.heap.size W w') := fun W hb => (szLoanS a c k.ds ss _ W hF.n hF.each (by omega) (by omega) (hR.below hb)).mono fun _ _ ⟨he, hb⟩ => ⟨by rw [he, leftS, if_pos (by omega)], hb⟩
  have g1 : ¬ (1048576 - (k.mem.size : Int) - (k.dur.size : Int) < 0) := by omega
  have g2 : ¬ (1048576 - (k.mem.size : Int) - (k.dur.size : Int) - (k.ds.length : Int) - (tot k.ds k.ds.length : Int) < 0) := by omega
  clear ed hR hF
  go_enter Try.func4, Try.ntmps4
  go_wp2_with (first
    | (go_at_call 13; refine hd.mono ?_; rintro e w1 ⟨rfl, b1⟩; have k1 := hk.below b1; have x2 := k1.c2; have l1 := hB.trans (b1.mono hB.size))
    | (go_at_call 14; refine (HS.out _ l1).mono ?_; rintro e w2 ⟨rfl, b2⟩))
  go_ret
  exact ⟨⟨_, by omega, rfl⟩, l1.trans (b2.mono l1.size)⟩

set_option maxHeartbeats 1000000 in
theorem szBig (k : Kp) (a : Option Addr) (c : Nat) (ss : Nat → Sl) (w : World) (hF : FitK k ss) (h : ¬ small k) (hR : Row w a k.ds ss) :
    Calls Try.prog 4 #[kval k a c, .int .i64 1048576] w fun e w' => e = .returned (.int .i64 (-1)) ∧ Below w.heap.size w w' := by
  have hB := K0.below_new w (.cells #[.string k.mem, .string k.dur, .slice a k.ds.length c, .int .i64 k.ck] 26)
  have hk := K0.blk_new (kvals k a c) w 26
  unfold small at h
  have hd := D1.szDev k.mem k.dur (w.alloc (.cells #[.string k.mem, .string k.dur, .slice a k.ds.length c, .int .i64 k.ck] 26)) hF.m1 hF.m2
  by_cases h1 : (k.mem.size : Int) + k.dur.size ≤ 1048576
  · have ed : D1.sz k.mem k.dur = 1048576 - (k.mem.size : Int) - (k.dur.size : Int) := if_pos h1
    rw [ed] at hd
    have HS : Hid (∀ W, Below w.heap.size w W → Calls Try.prog 14 #[.slice a k.ds.length c, .int .i64 (1048576 - (k.mem.size : Int) - (k.dur.size : Int))] W fun e w' => e = .returned (.int .i64 (-1)) ∧ Below W.heap.size W w') := fun W hb => (szLoanS a c k.ds ss _ W hF.n hF.each (by omega) (by omega) (hR.below hb)).mono fun _ _ ⟨he, hb⟩ => ⟨by rw [he, leftS, if_neg (by omega)], hb⟩
    have g1 : ¬ (1048576 - (k.mem.size : Int) - (k.dur.size : Int) < 0) := by omega
    clear ed hR hF
    go_enter Try.func4, Try.ntmps4
    go_wp2_with (first
      | (go_at_call 13; refine hd.mono ?_; rintro e w1 ⟨rfl, b1⟩; have k1 := hk.below b1; have x2 := k1.c2; have l1 := hB.trans (b1.mono hB.size))
      | (go_at_call 14; refine (HS.out _ l1).mono ?_; rintro e w2 ⟨rfl, b2⟩))
    go_ret
    exact ⟨rfl, l1.trans (b2.mono l1.size)⟩
  · have ed : D1.sz k.mem k.dur = -1 := if_neg h1
    rw [ed] at hd
    clear ed hR hF
    go_enter Try.func4, Try.ntmps4
    go_wp2_with (go_at_call 13; refine hd.mono ?_; rintro e w1 ⟨rfl, b1⟩)
    go_ret
    exact ⟨rfl, hB.trans (b1.mono hB.size)⟩
end Go.Proofs.Ytnfcpcejfajcfaa.Z1

/- Contracts of laws.toLoanS, laws.toKeeper, laws.eqLoanS and laws.eqKeeper, as the given laws call them. -/
namespace Go.Proofs.Ytnfcpcejfajcfaa.Z2
open Go.ChangeShapes Go.WideShapes Go.ChangeAt Go.RowKit
set_option linter.unusedVariables false
set_option linter.unusedSimpArgs false
set_option maxRecDepth 10000

open N0 (Ln)
open N1 (Sl val vals Lists FitM Fit LB lb_new)
open N3 (total)
open N4 (at3 Cp)
open Z0 (dat Row Lns Subs At Kp kval kvals FitK)
open Z1 (tot small tot_one)

abbrev zero8 : Array Value := #[.int .i64 0, .int .i64 0, .int .i64 0, .string ⟨#[]⟩, .slice none 0 0, .string ⟨#[]⟩, .slice none 0 0, .slice none 0 0]

theorem infoL : (Try.prog.info? 30).map (fun i => (i.zero, i.size, i.bytes)) = some (some (.agg zero8), 8, 128) := by kernel_rfl

theorem make_loans (n : Nat) (hn : n ≤ 1048576) : ∃ C : Array Value, C.size = n * 8 ∧ ∀ W : World, (Instr.makeSlice 34 (.int .i64 (n : Int)) (.int .i64 (n : Int))).run Try.prog W = .ok (.slice (some ⟨W.heap.size, 0, none⟩) n n) (W.alloc (.cells C 30)) := by
  obtain ⟨i0, hi, hz0, hz1, hz2⟩ := info_parts infoL
  refine ⟨madeCells (Value.agg zero8).cells (n * i0.size), by rw [size_madeCells, hz1], fun W => ?_⟩
  have h := run_make (P := Try.prog) W 34 30 i0 (.agg zero8) Try.underlying34 hi hz0 .i64 .i64 (n : Int) (n : Int) (by omega) (by omega) (by rw [hz2]; omega) (by omega)
  rw [show ((n : Int)).toNat = n by omega] at h
  exact h

/-- Eight of a list's values tell a loan. -/
def LAt (L : List Value) (o : Nat) (d : Ln) (s : Sl) : Prop :=
  L[o]? = some (.int .i64 d.ino) ∧ L[o + 1]? = some (.int .i64 d.cl) ∧ L[o + 2]? = some (.int .i64 d.un) ∧ L[o + 3]? = some (.string d.rc) ∧ L[o + 4]? = some (.slice s.a1 d.pg.length s.c1) ∧ L[o + 5]? = some (.string d.sav) ∧ L[o + 6]? = some (.slice s.a2 d.po.length s.c2) ∧ L[o + 7]? = some (.slice s.a3 d.fr.length s.c3)

theorem blk_get {B : Nat} {L : List Value} {W : World} (h : K0.Blk B L W) {x : Nat} {v : Value} (hx : L[x]? = some v) : W.cell? ⟨B, x, none⟩ = some v := by
  obtain ⟨hl, he⟩ := List.getElem?_eq_some_iff.1 hx
  rw [h.cell x hl, he]

theorem at_of {B : Nat} {L : List Value} {W : World} {o : Nat} {d : Ln} {s : Sl} (h : K0.Blk B L W) (hl : LAt L o d s) : At W B o d s := by
  obtain ⟨h0, h1, h2, h3, h4, h5, h6, h7⟩ := hl
  exact ⟨blk_get h h0, blk_get h h1, blk_get h h2, blk_get h h3, blk_get h h4, blk_get h h5, blk_get h h6, blk_get h h7⟩

/-- A list with a loan put at a place. -/
def put (L : List Value) (o : Nat) (d : Ln) (s : Sl) : List Value := ((((((((L.set o (.int .i64 d.ino)).set (o + 1) (.int .i64 d.cl)).set (o + 2) (.int .i64 d.un)).set (o + 3) (.string d.rc)).set (o + 4) (.slice s.a1 d.pg.length s.c1)).set (o + 5) (.string d.sav)).set (o + 6) (.slice s.a2 d.po.length s.c2)).set (o + 7) (.slice s.a3 d.fr.length s.c3))

theorem put_len (L : List Value) (o : Nat) (d : Ln) (s : Sl) : (put L o d s).length = L.length := by simp [put]

theorem put_get (L : List Value) (o : Nat) (d : Ln) (s : Sl) (h : o + 7 < L.length) : LAt (put L o d s) o d s := by
  unfold LAt put
  refine ⟨?_, ?_, ?_, ?_, ?_, ?_, ?_, ?_⟩
  all_goals
    simp [List.getElem?_set]
    try omega

theorem put_other {L : List Value} {o x : Nat} {d : Ln} {s : Sl} (h : x < o ∨ o + 7 < x) : (put L o d s)[x]? = L[x]? := by
  unfold put
  repeat rw [List.getElem?_set_ne (by omega)]

theorem lat_other {L : List Value} {o x : Nat} {d e : Ln} {s t : Sl} (hx : x + 7 < o) (h : LAt L x e t) : LAt (put L o d s) x e t := by
  unfold LAt at h ⊢
  obtain ⟨h0, h1, h2, h3, h4, h5, h6, h7⟩ := h
  exact ⟨(put_other (by omega)).trans h0, (put_other (by omega)).trans h1, (put_other (by omega)).trans h2, (put_other (by omega)).trans h3, (put_other (by omega)).trans h4, (put_other (by omega)).trans h5, (put_other (by omega)).trans h6, (put_other (by omega)).trans h7⟩

/-- A block with a loan put at a place. -/
def setL (W : World) (B o : Nat) (d : Ln) (s : Sl) : World := ((((((((W.setCell ⟨B, o, none⟩ (.int .i64 d.ino)).setCell ⟨B, o + 1, none⟩ (.int .i64 d.cl)).setCell ⟨B, o + 2, none⟩ (.int .i64 d.un)).setCell ⟨B, o + 3, none⟩ (.string d.rc)).setCell ⟨B, o + 4, none⟩ (.slice s.a1 d.pg.length s.c1)).setCell ⟨B, o + 5, none⟩ (.string d.sav)).setCell ⟨B, o + 6, none⟩ (.slice s.a2 d.po.length s.c2)).setCell ⟨B, o + 7, none⟩ (.slice s.a3 d.fr.length s.c3))

theorem blk_setL {B o : Nat} {L : List Value} {W : World} {d : Ln} {s : Sl} (h : K0.Blk B L W) : K0.Blk B (put L o d s) (setL W B o d s) :=
  (((((((h.set _ _).set _ _).set _ _).set _ _).set _ _).set _ _).set _ _).set _ _
theorem blk_otherL {B B' o : Nat} {L : List Value} {W : World} {d : Ln} {s : Sl} (h : K0.Blk B' L W) (hne : B ≠ B') : K0.Blk B' L (setL W B o d s) :=
  (((((((h.setOther hne _ _).setOther hne _ _).setOther hne _ _).setOther hne _ _).setOther hne _ _).setOther hne _ _).setOther hne _ _).setOther hne _ _
theorem bel_setL {B o b : Nat} {w W : World} {d : Ln} {s : Sl} (h : Below b w W) (hb : b ≤ B) : Below b w (setL W B o d s) :=
  (((((((h.setCell (p := ⟨B, o, none⟩) hb _).setCell (p := ⟨B, o + 1, none⟩) hb _).setCell (p := ⟨B, o + 2, none⟩) hb _).setCell (p := ⟨B, o + 3, none⟩) hb _).setCell (p := ⟨B, o + 4, none⟩) hb _).setCell (p := ⟨B, o + 5, none⟩) hb _).setCell (p := ⟨B, o + 6, none⟩) hb _).setCell (p := ⟨B, o + 7, none⟩) hb _
theorem cp_setL {B o b g1 g2 g3 : Nat} {W : World} {d e : Ln} {s : Sl} (h : Cp b e g1 g2 g3 W) (hb : B < b) : Cp b e g1 g2 g3 (setL W B o d s) := by
  have n1 := h.h1
  have n2 := h.h2
  have n3 := h.h3
  exact ⟨h.h1, h.h2, h.h3, blk_otherL h.k1 (by omega), blk_otherL h.k2 (by omega), blk_otherL h.k3 (by omega)⟩

/-- Where the copies of loans stand. -/
structure Pl where
  g1 : Nat
  g2 : Nat
  g3 : Nat

/-- The places of the copies' lists. -/
def pls (ds : List Ln) (P : Nat → Pl) (j : Nat) : Sl := at3 (dat ds j) (P j).g1 (P j).g2 (P j).g3

/-- A row of loans while it is being filled. -/
structure Mk (g b n : Nat) (ds : List Ln) (P : Nat → Pl) (k : Nat) (L : List Value) (W : World) : Prop where
  len : L.length = n * 8
  blk : K0.Blk g L W
  done : ∀ j, j < k → LAt L (j * 8) (dat ds j) (pls ds P j)
  sub : ∀ j, j < k → Cp b (dat ds j) (P j).g1 (P j).g2 (P j).g3 W

variable {g b n k : Nat} {ds : List Ln} {P : Nat → Pl} {L : List Value} {w W W' : World}

theorem Mk.below (h : Mk g b n ds P k L W) (hb : Below W.heap.size W W') : Mk g b n ds P k L W' := ⟨h.len, h.blk.below hb, h.done, fun j hj => (h.sub j hj).below hb⟩

theorem Mk.step (h : Mk g b n ds P k L W) (hk : k < n) (hg : g < b) {q : Pl} (hc : Cp b (dat ds k) q.g1 q.g2 q.g3 W) :
    Mk g b n ds (fun j => if j = k then q else P j) (k + 1) (put L (k * 8) (dat ds k) (at3 (dat ds k) q.g1 q.g2 q.g3)) (setL W g (k * 8) (dat ds k) (at3 (dat ds k) q.g1 q.g2 q.g3)) := by
  have hl := h.len
  refine ⟨by rw [put_len, hl], blk_setL h.blk, fun j hj => ?_, fun j hj => ?_⟩
  · by_cases e : j = k
    · subst e
      have := put_get L (j * 8) (dat ds j) (at3 (dat ds j) q.g1 q.g2 q.g3) (by omega)
      simpa [pls] using this
    · have hd := h.done j (by omega)
      have e2 : pls ds (fun j => if j = k then q else P j) j = pls ds P j := by simp [pls, e]
      rw [e2]
      exact lat_other (by omega) hd
  · by_cases e : j = k
    · subst e
      have := cp_setL (B := g) (o := j * 8) (d := dat ds j) (s := at3 (dat ds j) q.g1 q.g2 q.g3) hc hg
      simpa using this
    · have := cp_setL (B := g) (o := k * 8) (d := dat ds k) (s := at3 (dat ds k) q.g1 q.g2 q.g3) (h.sub j (by omega)) hg
      simpa [e] using this

/-- A row of copies: each loan's lists are its own, all above a block. -/
structure Cps (g b : Nat) (ds : List Ln) (P : Nat → Pl) (W : World) : Prop where
  ex : ∃ L : List Value, Mk g b ds.length ds P ds.length L W
  lt : g < b

theorem Cps.below (h : Cps g b ds P W) (hb : Below W.heap.size W W') : Cps g b ds P W' := by
  obtain ⟨L, hL⟩ := h.ex
  exact ⟨⟨L, hL.below hb⟩, h.lt⟩
theorem Cps.rows (h : Cps g b ds P W) : Lns W (some ⟨g, 0, none⟩) ds (pls ds P) := by
  obtain ⟨L, hL⟩ := h.ex
  refine ⟨Or.inr ⟨g, 0, rfl, hL.blk.lt, fun j hj => ?_⟩, fun j hj => (hL.sub j hj).lists⟩
  rw [Nat.zero_add]
  exact at_of hL.blk (hL.done j hj)

set_option maxHeartbeats 4000000 in
theorem toLoanS (a : Option Addr) (c : Nat) (ds : List Ln) (ss : Nat → Sl) (w : World) (hs : ds.length + tot ds ds.length ≤ 1048576) (hR : Lns w a ds ss) :
    Calls Try.prog 17 #[.slice a ds.length c] w fun e w' => ∃ P, e = .returned (.slice (some ⟨w.heap.size, 0, none⟩) ds.length ds.length) ∧ Cps w.heap.size (w.heap.size + 1) ds P w' ∧ Below w.heap.size w w' := by
  have hn : ds.length ≤ 1048576 := by omega
  obtain ⟨C, hC, hmk⟩ := make_loans ds.length (by omega)
  have hmk0 := hmk w
  have m0 : Mk w.heap.size (w.heap.size + 1) ds.length ds (fun _ => ⟨0, 0, 0⟩) 0 C.toList (w.alloc (.cells C 30)) := ⟨by rw [Array.length_toList, hC], by have := K0.blk_new C.toList w 30; rwa [Array.toArray_toList] at this, fun j hj => absurd hj (Nat.not_lt_zero _), fun j hj => absurd hj (Nat.not_lt_zero _)⟩
  have l0 := K0.below_new w (.cells C 30)
  obtain ⟨W0, hW0⟩ : ∃ W0, w.alloc (.cells C 30) = W0 := ⟨_, rfl⟩
  rw [hW0] at m0 l0 hmk0
  clear hmk hW0
  go_enter Try.func17, Try.ntmps17
  go_wp2
  go_loopw [4] (fun i w' => ∃ (k : Nat) (P : Nat → Pl) (L : List Value), k ≤ ds.length ∧ i = .int .i64 k ∧ Mk w.heap.size (w.heap.size + 1) ds.length ds P k L w' ∧ Below w.heap.size w w') (fun i _ => ds.length - (intOf i).toNat)
  case atStart => exact ⟨0, _, _, Nat.zero_le _, rfl, m0, l0⟩
  case round =>
    obtain ⟨k, P, L, hk, rfl, hmk, hbel⟩ := hrel
    clear m0 l0 hmk0
    by_cases hlt : k < ds.length
    · have ls := (hR.sub.below hbel) k hlt
      have hz := tot_one hlt
      obtain ⟨b, off, rfl, hlt0, hc⟩ := (hR.row.below hbel).get hlt
      obtain ⟨y0, y1, y2, y3, y4, y5, y6, y7⟩ := hc k hlt
      have HS : Hid (∀ q W, Cp (w.heap.size + 1) (dat ds k) q.g1 q.g2 q.g3 W → Mk w.heap.size (w.heap.size + 1) ds.length ds P k L W → Mk w.heap.size (w.heap.size + 1) ds.length ds (fun j => if j = k then q else P j) (k + 1) (put L (k * 8) (dat ds k) (at3 (dat ds k) q.g1 q.g2 q.g3)) (setL W w.heap.size (k * 8) (dat ds k) (at3 (dat ds k) q.g1 q.g2 q.g3))) := fun q W h1 h2 => h2.step hlt (Nat.lt_succ_self _) h1
      obtain ⟨d, ed⟩ : ∃ d, dat ds k = d := ⟨_, rfl⟩
      obtain ⟨s, es⟩ : ∃ s, ss k = s := ⟨_, rfl⟩
      rw [ed, es] at ls
      rw [ed] at y0 y1 y2 y3 y4 y5 y6 y7 hz HS
      rw [es] at y4 y6 y7
      obtain ⟨z1, z2, z3, -, -⟩ := N12.sizes (d := d) (by omega)
      have e1 : (0 : Int) ≤ (k : Int) := by omega
      have e2 : (k : Int) < (ds.length : Int) := by omega
      have hB := hbel.size
      have hbs := hmk.blk.lt
      have hLl := hmk.len
      clear ed es hc hR hs
      go_wp2_with (go_at_call 27; refine (N4.toLoan d s _ z1 z2 z3 ls).mono ?_; rintro e w1 ⟨g1, g2, g3, rfl, cp, b1⟩; have mk1 := hmk.below b1; have m1 := mk1.blk; have cp1 := N12.cp_mono (b' := w.heap.size + 1) cp hbs; obtain ⟨x0, q0⟩ : ∃ x, w1.cell? ⟨w.heap.size, k * 8, none⟩ = some x := ⟨_, m1.cell (k * 8) (by omega)⟩; have f0 := m1.free (k * 8) (by omega); obtain ⟨x1, q1⟩ : ∃ x, w1.cell? ⟨w.heap.size, k * 8 + 1, none⟩ = some x := ⟨_, m1.cell (k * 8 + 1) (by omega)⟩; have f1 := m1.free (k * 8 + 1) (by omega); obtain ⟨x2, q2⟩ : ∃ x, w1.cell? ⟨w.heap.size, k * 8 + 2, none⟩ = some x := ⟨_, m1.cell (k * 8 + 2) (by omega)⟩; have f2 := m1.free (k * 8 + 2) (by omega); obtain ⟨x3, q3⟩ : ∃ x, w1.cell? ⟨w.heap.size, k * 8 + 3, none⟩ = some x := ⟨_, m1.cell (k * 8 + 3) (by omega)⟩; have f3 := m1.free (k * 8 + 3) (by omega); obtain ⟨x4, q4⟩ : ∃ x, w1.cell? ⟨w.heap.size, k * 8 + 4, none⟩ = some x := ⟨_, m1.cell (k * 8 + 4) (by omega)⟩; have f4 := m1.free (k * 8 + 4) (by omega); obtain ⟨x5, q5⟩ : ∃ x, w1.cell? ⟨w.heap.size, k * 8 + 5, none⟩ = some x := ⟨_, m1.cell (k * 8 + 5) (by omega)⟩; have f5 := m1.free (k * 8 + 5) (by omega); obtain ⟨x6, q6⟩ : ∃ x, w1.cell? ⟨w.heap.size, k * 8 + 6, none⟩ = some x := ⟨_, m1.cell (k * 8 + 6) (by omega)⟩; have f6 := m1.free (k * 8 + 6) (by omega); obtain ⟨x7, q7⟩ : ∃ x, w1.cell? ⟨w.heap.size, k * 8 + 7, none⟩ = some x := ⟨_, m1.cell (k * 8 + 7) (by omega)⟩; have f7 := m1.free (k * 8 + 7) (by omega))
      go_roundw
      case rel => exact ⟨k + 1, _, _, by omega, by go_num, HS.out ⟨g1, g2, g3⟩ _ cp1 mk1, bel_setL (hbel.trans (b1.mono hB)) (Nat.le_refl _)⟩
      case measure => simp [intOf]; omega
    · obtain rfl : k = ds.length := by omega
      have hcp : Cps w.heap.size (w.heap.size + 1) ds P wr := ⟨⟨L, hmk⟩, Nat.lt_succ_self _⟩
      clear hR hmk
      go_wp2
      go_ret
      exact ⟨_, rfl, hcp, hbel⟩

set_option maxHeartbeats 4000000 in
theorem eqLoanS (a1 a2 : Option Addr) (c1 c2 : Nat) (ds : List Ln) (s1 s2 : Nat → Sl) (w : World) (hs : ds.length + tot ds ds.length ≤ 1048576) (h1 : Lns w a1 ds s1) (h2 : Lns w a2 ds s2) :
    Calls Try.prog 22 #[.slice a1 ds.length c1, .slice a2 ds.length c2] w fun e w' => e = .returned (.bool true) ∧ Below w.heap.size w w' := by
  have hn : ds.length ≤ 1048576 := by omega
  go_enter Try.func22, Try.ntmps22
  go_wp2
  go_loopw [5] (fun i w' => ∃ k : Nat, k ≤ ds.length ∧ i = .int .i64 k ∧ Below w.heap.size w w') (fun i _ => ds.length - (intOf i).toNat)
  case atStart => exact ⟨0, Nat.zero_le _, rfl, Below.refl _ _⟩
  case round =>
    obtain ⟨k, hk, rfl, hbel⟩ := hrel
    by_cases hlt : k < ds.length
    · have ls1 := (h1.sub.below hbel) k hlt
      have ls2 := (h2.sub.below hbel) k hlt
      have hz := tot_one hlt
      obtain ⟨b1, o1, rfl, l1, r1⟩ := (h1.row.below hbel).get hlt
      obtain ⟨b2, o2, rfl, l2, r2⟩ := (h2.row.below hbel).get hlt
      have r1 := r1 k hlt
      have r2 := r2 k hlt
      obtain ⟨d, ed⟩ : ∃ d, dat ds k = d := ⟨_, rfl⟩
      obtain ⟨s, es⟩ : ∃ s, s1 k = s := ⟨_, rfl⟩
      obtain ⟨t, et⟩ : ∃ t, s2 k = t := ⟨_, rfl⟩
      rw [ed, es] at ls1 r1
      rw [ed, et] at ls2 r2
      rw [ed] at hz
      obtain ⟨z1, z2, z3, -, -⟩ := N12.sizes (d := d) (by omega)
      have hp' : d.pg.length ≤ 281474976710656 := by omega
      have ho' : d.po.length ≤ 281474976710656 := by omega
      have hf' : d.fr.length ≤ 281474976710656 := by omega
      have e1 : (0 : Int) ≤ (k : Int) := by omega
      have e2 : (k : Int) < (ds.length : Int) := by omega
      have hB := hbel.size
      have m1 : Lists wr.drew d s := ls1.drew
      have m2 : Lists wr.drew d t := ls2.drew
      have HN : Hid (∀ W, Below wr.drew.heap.size wr.drew W → (W.cell? ⟨b1, o1 + k * 8, none⟩ = some (.int .i64 d.ino) ∧ W.cell? ⟨b1, o1 + k * 8 + 1, none⟩ = some (.int .i64 d.cl) ∧ W.cell? ⟨b1, o1 + k * 8 + 2, none⟩ = some (.int .i64 d.un) ∧ W.cell? ⟨b1, o1 + k * 8 + 3, none⟩ = some (.string d.rc) ∧ W.cell? ⟨b1, o1 + k * 8 + 4, none⟩ = some (.slice s.a1 d.pg.length s.c1) ∧ W.cell? ⟨b1, o1 + k * 8 + 5, none⟩ = some (.string d.sav) ∧ W.cell? ⟨b1, o1 + k * 8 + 6, none⟩ = some (.slice s.a2 d.po.length s.c2) ∧ W.cell? ⟨b1, o1 + k * 8 + 7, none⟩ = some (.slice s.a3 d.fr.length s.c3)) ∧ (W.cell? ⟨b2, o2 + k * 8, none⟩ = some (.int .i64 d.ino) ∧ W.cell? ⟨b2, o2 + k * 8 + 1, none⟩ = some (.int .i64 d.cl) ∧ W.cell? ⟨b2, o2 + k * 8 + 2, none⟩ = some (.int .i64 d.un) ∧ W.cell? ⟨b2, o2 + k * 8 + 3, none⟩ = some (.string d.rc) ∧ W.cell? ⟨b2, o2 + k * 8 + 4, none⟩ = some (.slice t.a1 d.pg.length t.c1) ∧ W.cell? ⟨b2, o2 + k * 8 + 5, none⟩ = some (.string d.sav) ∧ W.cell? ⟨b2, o2 + k * 8 + 6, none⟩ = some (.slice t.a2 d.po.length t.c2) ∧ W.cell? ⟨b2, o2 + k * 8 + 7, none⟩ = some (.slice t.a3 d.fr.length t.c3))) := fun W hb => ⟨r1.below (W := wr.drew) l1 hb, r2.below (W := wr.drew) l2 hb⟩
      have hS0 := HN.out wr.drew (Below.refl _ _)
      clear ed es et r1 r2 h1 h2 hs ls1 ls2 z1 z2 z3
      go_wp2
      go_region_held3 (fun W => (W.cell? ⟨b1, o1 + k * 8, none⟩ = some (.int .i64 d.ino) ∧ W.cell? ⟨b1, o1 + k * 8 + 1, none⟩ = some (.int .i64 d.cl) ∧ W.cell? ⟨b1, o1 + k * 8 + 2, none⟩ = some (.int .i64 d.un) ∧ W.cell? ⟨b1, o1 + k * 8 + 3, none⟩ = some (.string d.rc) ∧ W.cell? ⟨b1, o1 + k * 8 + 4, none⟩ = some (.slice s.a1 d.pg.length s.c1) ∧ W.cell? ⟨b1, o1 + k * 8 + 5, none⟩ = some (.string d.sav) ∧ W.cell? ⟨b1, o1 + k * 8 + 6, none⟩ = some (.slice s.a2 d.po.length s.c2) ∧ W.cell? ⟨b1, o1 + k * 8 + 7, none⟩ = some (.slice s.a3 d.fr.length s.c3)) ∧ (W.cell? ⟨b2, o2 + k * 8, none⟩ = some (.int .i64 d.ino) ∧ W.cell? ⟨b2, o2 + k * 8 + 1, none⟩ = some (.int .i64 d.cl) ∧ W.cell? ⟨b2, o2 + k * 8 + 2, none⟩ = some (.int .i64 d.un) ∧ W.cell? ⟨b2, o2 + k * 8 + 3, none⟩ = some (.string d.rc) ∧ W.cell? ⟨b2, o2 + k * 8 + 4, none⟩ = some (.slice t.a1 d.pg.length t.c1) ∧ W.cell? ⟨b2, o2 + k * 8 + 5, none⟩ = some (.string d.sav) ∧ W.cell? ⟨b2, o2 + k * 8 + 6, none⟩ = some (.slice t.a2 d.po.length t.c2) ∧ W.cell? ⟨b2, o2 + k * 8 + 7, none⟩ = some (.slice t.a3 d.fr.length t.c3))) (assumption) ((go_at_call 8; refine (N3.eqLoan d s t _ hp' ho' hf' m1 m2).mono ?_; rintro e w4 ⟨rfl, b4⟩; have hS4 := HN.out w4 b4))
      all_goals
        go_wp2
        go_roundw
        case rel => exact ⟨k + 1, by omega, by go_num, hbel.trans ((show Below wr.heap.size wr w4 from ⟨b4.os, b4.tape, b4.output, b4.size, b4.block⟩).mono hB)⟩
        case measure => simp [intOf]; omega
    · clear h1 h2
      go_wp2
      go_ret
      exact ⟨rfl, hbel⟩
end Go.Proofs.Ytnfcpcejfajcfaa.Z2

/- Contracts of laws.toKeeper and laws.eqKeeper, as the given laws call them. -/
namespace Go.Proofs.Ytnfcpcejfajcfaa.Z3
open Go.ChangeShapes Go.WideShapes Go.ChangeAt Go.RowKit
set_option linter.unusedVariables false
set_option linter.unusedSimpArgs false
set_option maxRecDepth 10000

open N0 (Ln)
open N1 (Sl Fit)
open Z0 (dat Row Lns Kp kval kvals FitK)
open Z1 (tot small tot_one)
open Z2 (Pl pls Cps Mk)

variable {g b n j B : Nat} {ds : List Ln} {P : Nat → Pl} {L : List Value} {w W W' : World} {k : Kp} {a : Option Addr} {c : Nat} {vs : List Value}

theorem cps_other (h : Cps g b ds P W) (hB : B < g) (j : Nat) (v : Value) : Cps g b ds P (W.setCell ⟨B, j, none⟩ v) := by
  obtain ⟨⟨L, hL⟩, hlt⟩ := h
  refine ⟨⟨L, hL.len, hL.blk.setOther (by omega) j v, hL.done, fun i hi => ?_⟩, hlt⟩
  have hc := hL.sub i hi
  have n1 := hc.h1
  have n2 := hc.h2
  have n3 := hc.h3
  exact ⟨n1, n2, n3, hc.k1.setOther (by omega) j v, hc.k2.setOther (by omega) j v, hc.k3.setOther (by omega) j v⟩

abbrev zero4 : List Value := [.string ⟨#[]⟩, .string ⟨#[]⟩, .slice none 0 0, .int .i64 0]

/-- The three blocks of toKeeper. -/
structure T (w : World) (k : Kp) (a : Option Addr) (c : Nat) (vs : List Value) (W : World) : Prop where
  arg : K0.Blk w.heap.size (kvals k a c) W
  res : K0.Blk (w.heap.size + 1) zero4 W
  tmp : K0.Blk (w.heap.size + 2) vs W
  bel : Below w.heap.size w W

theorem T.below (h : T w k a c vs W) (hb : Below W.heap.size W W') : T w k a c vs W' := ⟨h.arg.below hb, h.res.below hb, h.tmp.below hb, h.bel.trans (hb.mono h.bel.size)⟩
theorem T.set (h : T w k a c vs W) (j : Nat) (v : Value) : T w k a c (vs.set j v) (W.setCell ⟨w.heap.size + 2, j, none⟩ v) :=
  ⟨h.arg.setOther (by omega) j v, h.res.setOther (by omega) j v, h.tmp.set j v, h.bel.setCell (p := ⟨w.heap.size + 2, j, none⟩) (Nat.le_add_right _ _) v⟩

theorem t_new (w : World) (k : Kp) (a : Option Addr) (c : Nat) :
    T w k a c zero4 (((w.alloc (.cells #[.string k.mem, .string k.dur, .slice a k.ds.length c, .int .i64 k.ck] 26)).alloc (.cells #[.string ⟨#[]⟩, .string ⟨#[]⟩, .slice none 0 0, .int .i64 0] 36)).alloc (.cells #[.string ⟨#[]⟩, .string ⟨#[]⟩, .slice none 0 0, .int .i64 0] 36)) :=
  ⟨((K0.blk_new (kvals k a c) w 26).alloc _).alloc _, (K0.blk_at zero4 _ 36 (by simp)).alloc _, K0.blk_at zero4 _ 36 (by simp),
   (((Below.refl _ _).alloc (Nat.le_refl _) _).alloc (by simp) _).alloc (by simp; omega) _⟩

theorem toLoanS' (a : Option Addr) (c : Nat) (ds : List Ln) (ss : Nat → Sl) (w : World) (hs : ds.length + tot ds ds.length ≤ 1048576) (hR : Lns w a ds ss) :
    Calls Try.prog 17 #[.slice a ds.length c] w fun e w' => ∃ g P, e = .returned (.slice (some ⟨g, 0, none⟩) ds.length ds.length) ∧ w.heap.size ≤ g ∧ Cps g (g + 1) ds P w' ∧ Below w.heap.size w w' :=
  (Z2.toLoanS a c ds ss w hs hR).mono fun _ _ ⟨P, he, hc, hb⟩ => ⟨_, P, he, Nat.le_refl _, hc, hb⟩

set_option maxHeartbeats 4000000 in
theorem toKeeper (k : Kp) (a : Option Addr) (c : Nat) (ss : Nat → Sl) (w : World) (hs : k.ds.length + tot k.ds k.ds.length ≤ 1048576) (hR : Lns w a k.ds ss) :
    Calls Try.prog 6 #[kval k a c] w fun e w' => ∃ g P, e = .returned (kval k (some ⟨g, 0, none⟩) k.ds.length) ∧ w.heap.size ≤ g ∧ Cps g (g + 1) k.ds P w' ∧ Below w.heap.size w w' := by
  have t0 := t_new w k a c
  have HL : Hid (∀ W, Below w.heap.size w W → Lns W a k.ds ss) := fun W hb => hR.below hb
  clear hR
  go_enter Try.func6, Try.ntmps6
  go_wp2_with (first
    | (go_at_call 16; refine (D1.toDev _ _ _).mono ?_; rintro e w1 ⟨rfl, b1⟩; have t1 := t0.below b1; have c2 := t1.arg.c2; have x0 := t1.tmp.c0; have x1 := t1.tmp.c1; have y0 := t1.tmp.f0; have y1 := t1.tmp.f1; have u1 := (t1.set 0 (.string k.mem)).set 1 (.string k.dur); have r1 := HL.out _ u1.bel)
    | (go_at_call 17; refine (toLoanS' a c k.ds ss _ hs r1).mono ?_; rintro e w2 ⟨g, P, rfl, hg, cp, b2⟩; have t2 := u1.below b2; have c3 := t2.arg.c3; have z0 := t2.tmp.cell 0 (by simp); have z1 := t2.tmp.cell 1 (by simp); have z2 := t2.tmp.cell 2 (by simp); have z3 := t2.tmp.cell 3 (by simp); have y2 := t2.tmp.free 2 (by simp); have y3 := t2.tmp.free 3 (by simp); simp only [List.set_cons_zero, List.set_cons_succ, List.getElem_cons_zero, List.getElem_cons_succ] at z0 z1 z2 z3; have i0 := t2.res.c0; have i1 := t2.res.c1; have i2 := t2.res.c2; have i3 := t2.res.c3; have j0 := t2.res.f0; have j1 := t2.res.f1; have j2 := t2.res.f2; have j3 := t2.res.f3))
  have hg' : w.heap.size + 3 ≤ g := by
    have := u1.tmp.lt
    simp at hg this
    omega
  have u2 := (t2.set 2 (.slice (some ⟨g, 0, none⟩) k.ds.length k.ds.length)).set 3 (.int .i64 k.ck)
  have q := u2.res.put4 (.string k.mem) (.string k.dur) (.slice (some ⟨g, 0, none⟩) k.ds.length k.ds.length) (.int .i64 k.ck)
  have v0 := q.c0
  have v1 := q.c1
  have v2 := q.c2
  have v3 := q.c3
  refine bodyPost_ret (v := kval k (some ⟨g, 0, none⟩) k.ds.length) (by simp [results, Try.results6, go_sem, v0, v1, v2, v3]) rfl ⟨g, P, rfl, by omega, ?_, ?_⟩
  · exact cps_other (cps_other (cps_other (cps_other (cps_other (cps_other cp (by omega) _ _) (by omega) _ _) (by omega) _ _) (by omega) _ _) (by omega) _ _) (by omega) _ _
  · exact (((u2.bel.setCell (p := ⟨w.heap.size + 1, 0, none⟩) (Nat.le_succ _) _).setCell (p := ⟨w.heap.size + 1, 1, none⟩) (Nat.le_succ _) _).setCell (p := ⟨w.heap.size + 1, 2, none⟩) (Nat.le_succ _) _).setCell (p := ⟨w.heap.size + 1, 3, none⟩) (Nat.le_succ _) _

/-- Two keepers in their boxes. -/
structure E (w : World) (k : Kp) (a1 a2 : Option Addr) (c1 c2 : Nat) (W : World) : Prop where
  x : K0.Blk w.heap.size (kvals k a1 c1) W
  y : K0.Blk (w.heap.size + 1) (kvals k a2 c2) W
  bel : Below w.heap.size w W
theorem E.below {a1 a2 : Option Addr} {c1 c2 : Nat} (h : E w k a1 a2 c1 c2 W) (hb : Below W.heap.size W W') : E w k a1 a2 c1 c2 W' := ⟨h.x.below hb, h.y.below hb, h.bel.trans (hb.mono h.bel.size)⟩

set_option maxHeartbeats 2000000 in
theorem eqKeeper (k : Kp) (a1 a2 : Option Addr) (c1 c2 : Nat) (s1 s2 : Nat → Sl) (w : World) (hs : k.ds.length + tot k.ds k.ds.length ≤ 1048576) (h1 : Lns w a1 k.ds s1) (h2 : Lns w a2 k.ds s2) :
    Calls Try.prog 9 #[kval k a1 c1, kval k a2 c2] w fun e w' => e = .returned (.bool true) ∧ Below w.heap.size w w' := by
  have e0 : E w k a1 a2 c1 c2 ((w.alloc (.cells #[.string k.mem, .string k.dur, .slice a1 k.ds.length c1, .int .i64 k.ck] 36)).alloc (.cells #[.string k.mem, .string k.dur, .slice a2 k.ds.length c2, .int .i64 k.ck] 36)) :=
    ⟨(K0.blk_new (kvals k a1 c1) w 36).alloc _, K0.blk_at (kvals k a2 c2) _ 36 (by simp), ((Below.refl _ _).alloc (Nat.le_refl _) _).alloc (by simp) _⟩
  have HE : Hid (∀ W, Below w.heap.size w W → Calls Try.prog 22 #[.slice a1 k.ds.length c1, .slice a2 k.ds.length c2] W fun e w' => e = .returned (.bool true) ∧ Below W.heap.size W w') := fun W hb => Z2.eqLoanS a1 a2 c1 c2 k.ds s1 s2 W hs (h1.below hb) (h2.below hb)
  clear h1 h2
  go_enter Try.func9, Try.ntmps9
  go_wp2_with (first
    | (go_at_call 21; refine (D1.eqDev _ _ _).mono ?_; rintro e w1 ⟨rfl, b1⟩; have t1 := e0.below b1; have x2 := t1.x.c2; have y2 := t1.y.c2)
    | (go_at_call 22; refine (HE.out _ t1.bel).mono ?_; rintro e w2 ⟨rfl, b2⟩; have t2 := t1.below b2; have x3 := t2.x.c3; have y3 := t2.y.c3))
  go_ret
  exact ⟨rfl, t2.bel⟩

/-- What a law keeps of its keeper, in its box. -/
structure A (w : World) (k : Kp) (a : Option Addr) (c : Nat) (ss : Nat → Sl) (W : World) : Prop where
  b : K0.Blk w.heap.size (kvals k a c) W
  l : Lns W a k.ds ss
  bel : Below w.heap.size w W
variable {ss : Nat → Sl}
theorem A.below (h : A w k a c ss W) (hb : Below W.heap.size W W') : A w k a c ss W' := ⟨h.b.below hb, h.l.below hb, h.bel.trans (hb.mono h.bel.size)⟩
theorem A.drew (h : A w k a c ss W) : A w k a c ss W.drew := h.below ((Below.refl _ _).drew)
theorem a_new (w : World) (k : Kp) (a : Option Addr) (c : Nat) (ss : Nat → Sl) (h : Lns w a k.ds ss) : A w k a c ss (w.alloc (.cells #[.string k.mem, .string k.dur, .slice a k.ds.length c, .int .i64 k.ck] 26)) :=
  ⟨K0.blk_new (kvals k a c) w 26, h.below (K0.below_new _ _), K0.below_new _ _⟩

/-- Beside it a copy of it, boxed. -/
structure U (w : World) (k : Kp) (a : Option Addr) (c : Nat) (ss : Nat → Sl) (g B : Nat) (P : Nat → Pl) (W : World) : Prop where
  t : A w k a c ss W
  n : K0.Blk B (kvals k (some ⟨g, 0, none⟩) k.ds.length) W
  cp : Cps g (g + 1) k.ds P W
theorem U.below (h : U w k a c ss g B P W) (hb : Below W.heap.size W W') : U w k a c ss g B P W' := ⟨h.t.below hb, h.n.below hb, h.cp.below hb⟩
theorem U.drew (h : U w k a c ss g B P W) : U w k a c ss g B P W.drew := h.below ((Below.refl _ _).drew)
theorem u_new (h : A w k a c ss W) (hc : Cps g (g + 1) k.ds P W) :
    U w k a c ss g W.heap.size P (W.alloc (.cells #[.string k.mem, .string k.dur, .slice (some ⟨g, 0, none⟩) k.ds.length k.ds.length, .int .i64 k.ck] 36)) :=
  ⟨h.below (K0.below_new _ _), K0.blk_new (kvals k (some ⟨g, 0, none⟩) k.ds.length) W 36, hc.below (K0.below_new _ _)⟩

theorem fits (hs : tot ds ds.length ≤ 1048576) (j : Nat) (hj : j < ds.length) : Fit (dat ds j) (pls ds P j) ∧ (dat ds j).po.length ≤ 1048576 ∧ (dat ds j).fr.length ≤ 1048576 := by
  have h := tot_one hj
  obtain ⟨z1, z2, z3, -, -⟩ := N12.sizes (d := dat ds j) (by omega)
  exact ⟨N12.fitc (by omega), z2, z3⟩
end Go.Proofs.Ytnfcpcejfajcfaa.Z3

/- Contracts of laws.markLoanS and laws.markKeeper over a copy, of which nothing is told but where it turns; of laws.markLoan and laws.heldLoan over a loan that was handed out. -/
namespace Go.Proofs.Ytnfcpcejfajcfaa.LG
open Go.ChangeShapes Go.WideShapes Go.ChangeAt Go.RowKit
set_option linter.unusedVariables false
set_option linter.unusedSimpArgs false
set_option maxRecDepth 10000

open N0 (Ln)
open N1 (Sl val vals Lists LB lb_new)
open N4 (at3 Cp)
open Z0 (dat Kp kval kvals)
open Z1 (tot tot_one)
open Z2 (Pl pls Cps Mk)
open LF (Wr Btw OwnIn mfrom)

variable {g hi : Nat} {ds : List Ln} {P : Nat → Pl} {L : List Value} {w W W' : World}

/-- A row of copies whose lists may be written; what they hold is not told. -/
structure Sh (g hi : Nat) (ds : List Ln) (P : Nat → Pl) (L : List Value) (W : World) : Prop where
  len : L.length = ds.length * 8
  blk : K0.Blk g L W
  lt : g < hi
  s4 : ∀ j, j < ds.length → L[j * 8 + 4]? = some (.slice (some ⟨(P j).g1, 0, none⟩) (dat ds j).pg.length (dat ds j).pg.length)
  s6 : ∀ j, j < ds.length → L[j * 8 + 6]? = some (.slice (some ⟨(P j).g2, 0, none⟩) (dat ds j).po.length (dat ds j).po.length)
  s7 : ∀ j, j < ds.length → L[j * 8 + 7]? = some (.slice (some ⟨(P j).g3, 0, none⟩) (dat ds j).fr.length (dat ds j).fr.length)
  w1 : ∀ j, j < ds.length → g < (P j).g1 ∧ (P j).g1 < hi ∧ Wr (P j).g1 (dat ds j).pg.length W
  w2 : ∀ j, j < ds.length → g < (P j).g2 ∧ (P j).g2 < hi ∧ Wr (P j).g2 (dat ds j).po.length W
  w3 : ∀ j, j < ds.length → g < (P j).g3 ∧ (P j).g3 < hi ∧ Wr (P j).g3 (dat ds j).fr.length W

theorem sh_of (h : Cps g (g + 1) ds P W) : ∃ L, Sh g W.heap.size ds P L W := by
  obtain ⟨⟨L, hL⟩, _⟩ := h
  refine ⟨L, hL.len, hL.blk, hL.blk.lt, fun j hj => (hL.done j hj).2.2.2.2.1, fun j hj => (hL.done j hj).2.2.2.2.2.2.1, fun j hj => (hL.done j hj).2.2.2.2.2.2.2, fun j hj => ?_, fun j hj => ?_, fun j hj => ?_⟩
  · have hc := hL.sub j hj
    have := LF.wr_blk hc.k1
    exact ⟨hc.h1, hc.k1.lt, by simpa using this⟩
  · have hc := hL.sub j hj
    have := LF.wr_blk hc.k2
    exact ⟨hc.h2, hc.k2.lt, by simpa using this⟩
  · have hc := hL.sub j hj
    have := LF.wr_blk hc.k3
    exact ⟨hc.h3, hc.k3.lt, by simpa using this⟩

/-- What happens elsewhere, or in the lists. -/
theorem Sh.btw {lo hi' : Nat} (h : Sh g hi ds P L W) (hb : Btw lo hi' W W') (hx : g < lo) : Sh g hi ds P L W' :=
  ⟨h.len, LF.blk_btw h.blk hb (Or.inl hx), h.lt, h.s4, h.s6, h.s7, fun j hj => ⟨(h.w1 j hj).1, (h.w1 j hj).2.1, hb.wr _ _ (h.w1 j hj).2.2⟩, fun j hj => ⟨(h.w2 j hj).1, (h.w2 j hj).2.1, hb.wr _ _ (h.w2 j hj).2.2⟩, fun j hj => ⟨(h.w3 j hj).1, (h.w3 j hj).2.1, hb.wr _ _ (h.w3 j hj).2.2⟩⟩
theorem Sh.below (h : Sh g hi ds P L W) (hb : Below W.heap.size W W') : Sh g hi ds P L W' := h.btw (lo := g + 1) (hi' := hi) (Btw.ofBelow hb) (Nat.lt_succ_self _)

theorem Sh.set (h : Sh g hi ds P L W) {o k r : Nat} (ho : o = k * 8 + r) (hr : r < 4 ∨ r = 5) (v : Value) : Sh g hi ds P (L.set o v) (W.setCell ⟨g, o, none⟩ v) := by
  subst ho
  refine ⟨by rw [List.length_set]; exact h.len, h.blk.set _ v, h.lt, fun j hj => ?_, fun j hj => ?_, fun j hj => ?_, fun j hj => ⟨(h.w1 j hj).1, (h.w1 j hj).2.1, LF.wr_set (h.w1 j hj).2.2 _ _⟩, fun j hj => ⟨(h.w2 j hj).1, (h.w2 j hj).2.1, LF.wr_set (h.w2 j hj).2.2 _ _⟩, fun j hj => ⟨(h.w3 j hj).1, (h.w3 j hj).2.1, LF.wr_set (h.w3 j hj).2.2 _ _⟩⟩
  · rw [List.getElem?_set_ne (by omega)]
    exact h.s4 j hj
  · rw [List.getElem?_set_ne (by omega)]
    exact h.s6 j hj
  · rw [List.getElem?_set_ne (by omega)]
    exact h.s7 j hj

theorem Sh.old (h : Sh g hi ds P L W) {o : Nat} (ho : o < ds.length * 8) : (∃ v, W.cell? ⟨g, o, none⟩ = some v) ∧ W.frozen? ⟨g, o, none⟩ = false :=
  ⟨⟨_, h.blk.cell o (by rw [h.len]; exact ho)⟩, h.blk.free o (by rw [h.len]; exact ho)⟩
theorem Sh.c4 (h : Sh g hi ds P L W) {j : Nat} (hj : j < ds.length) : W.cell? ⟨g, j * 8 + 4, none⟩ = some (.slice (some ⟨(P j).g1, 0, none⟩) (dat ds j).pg.length (dat ds j).pg.length) := Z2.blk_get h.blk (h.s4 j hj)
theorem Sh.c6 (h : Sh g hi ds P L W) {j : Nat} (hj : j < ds.length) : W.cell? ⟨g, j * 8 + 6, none⟩ = some (.slice (some ⟨(P j).g2, 0, none⟩) (dat ds j).po.length (dat ds j).po.length) := Z2.blk_get h.blk (h.s6 j hj)
theorem Sh.c7 (h : Sh g hi ds P L W) {j : Nat} (hj : j < ds.length) : W.cell? ⟨g, j * 8 + 7, none⟩ = some (.slice (some ⟨(P j).g3, 0, none⟩) (dat ds j).fr.length (dat ds j).fr.length) := Z2.blk_get h.blk (h.s7 j hj)

/-- One list of a copy is marked. -/
theorem mark_one {b n c : Nat} {k : Nat} {x : Int} (hx : x = (k : Int)) (hlt : g < b) (hb : b < hi) (hw : Wr b n W) (hn : n ≤ 1048576) (h0 : k ≤ 1125899906842624) :
    Calls Try.prog 24 #[.slice (some ⟨b, 0, none⟩) n c, .int .i64 x] W fun e w' => e = .returned (.int .i64 ((k + n : Nat) : Int)) ∧ Btw (g + 1) hi W w' := by
  subst hx
  exact (LF.markWr b c n k W hn h0 hw).mono fun _ _ ⟨he, hg⟩ => ⟨he, hg.mono hlt hb⟩

theorem mark_text {x : Int} {v : Nat} (hx : x = (v : Int)) (hv : v ≠ 0) (hm : v ≤ 9223372036854775807) (w : World) :
    Calls Try.prog 32 #[.int .i64 x] w fun e w' => e = .returned (.string (M1.mt v)) ∧ Below w.heap.size w w' := by
  subst hx
  exact M1.markText_any v hv hm w

set_option maxHeartbeats 4000000 in
theorem markLoanS (g hi : Nat) (ds : List Ln) (P : Nat → Pl) (L : List Value) (w : World) (hn : ds.length ≤ 1048576) (hz : ∀ j, j < ds.length → (dat ds j).pg.length ≤ 1048576 ∧ (dat ds j).po.length ≤ 1048576 ∧ (dat ds j).fr.length ≤ 1048576) (h : Sh g hi ds P L w) :
    Calls Try.prog 23 #[.slice (some ⟨g, 0, none⟩) ds.length ds.length, .int .i64 1] w fun e w' => (∃ q : Nat, e = .returned (.int .i64 (q : Int))) ∧ Btw g hi w w' := by
  have hghi := h.lt
  go_enter Try.func23, Try.ntmps23
  go_wp2
  go_loopw [1, 5] (fun q i w' => ∃ (k m : Nat) (L : List Value), k ≤ ds.length ∧ i = .int .i64 k ∧ q = .int .i64 (m : Int) ∧ 1 ≤ m ∧ m ≤ 1 + k * 3145733 ∧ Sh g hi ds P L w' ∧ Btw g hi w w') (fun _ i _ => ds.length - (intOf i).toNat)
  case atStart => exact ⟨0, 1, L, Nat.zero_le _, rfl, rfl, Nat.le_refl _, by omega, h, Btw.refl _ _ _⟩
  case round =>
    obtain ⟨k, m, L1, hk, rfl, rfl, hm1, hmk, hS, hgr⟩ := hrel
    clear h
    by_cases hlt : k < ds.length
    · have e1 : (0 : Int) ≤ (k : Int) := by omega
      have e2 : (k : Int) < (ds.length : Int) := by omega
      obtain ⟨z1, z2, z3⟩ := hz k hlt
      obtain ⟨p1, q1, -⟩ := hS.w1 k hlt
      obtain ⟨p2, q2, -⟩ := hS.w2 k hlt
      obtain ⟨p3, q3, -⟩ := hS.w3 k hlt
      have hm2 : m ≤ 4000000000000 := by
        have : k * 3145733 ≤ 1048576 * 3145733 := Nat.mul_le_mul_right _ (by omega)
        omega
      have HT : Hid (∀ L W, Sh g hi ds P L W → Sh g hi ds P L W) := fun _ _ x => x
      obtain ⟨⟨x0, y0⟩, f0⟩ := hS.old (o := k * 8) (by omega)
      obtain ⟨⟨x1, y1⟩, f1⟩ := hS.old (o := k * 8 + 1) (by omega)
      obtain ⟨⟨x2, y2⟩, f2⟩ := hS.old (o := k * 8 + 2) (by omega)
      have S3 := ((hS.set (o := k * 8) (k := k) (r := 0) rfl (by omega) (.int .i64 (m : Int))).set (o := k * 8 + 1) (k := k) (r := 1) rfl (by omega) (.int .i64 ((m : Int) + 1))).set (o := k * 8 + 2) (k := k) (r := 2) rfl (by omega) (.int .i64 ((m : Int) + 1 + 1))
      have G3 := ((hgr.set (p := ⟨g, k * 8, none⟩) (Nat.le_refl _) hghi (.int .i64 (m : Int))).set (p := ⟨g, k * 8 + 1, none⟩) (Nat.le_refl _) hghi (.int .i64 ((m : Int) + 1))).set (p := ⟨g, k * 8 + 2, none⟩) (Nat.le_refl _) hghi (.int .i64 ((m : Int) + 1 + 1))
      have HZ : Hid (m ≤ 1 + k * 3145733) := hmk
      clear hS hgr hz hmk
      obtain ⟨n1, en1⟩ : ∃ n, (dat ds k).pg.length = n := ⟨_, rfl⟩
      obtain ⟨n2, en2⟩ : ∃ n, (dat ds k).po.length = n := ⟨_, rfl⟩
      obtain ⟨n3, en3⟩ : ∃ n, (dat ds k).fr.length = n := ⟨_, rfl⟩
      obtain ⟨b1, eb1⟩ : ∃ b, (P k).g1 = b := ⟨_, rfl⟩
      obtain ⟨b2, eb2⟩ : ∃ b, (P k).g2 = b := ⟨_, rfl⟩
      obtain ⟨b3, eb3⟩ : ∃ b, (P k).g3 = b := ⟨_, rfl⟩
      have H1 : Hid (∀ L W, Sh g hi ds P L W → W.cell? ⟨g, k * 8 + 4, none⟩ = some (.slice (some ⟨b1, 0, none⟩) n1 n1) ∧ Wr b1 n1 W) := fun L W hs => ⟨by have := hs.c4 hlt; rwa [en1, eb1] at this, by have := (hs.w1 k hlt).2.2; rwa [en1, eb1] at this⟩
      have H2 : Hid (∀ L W, Sh g hi ds P L W → W.cell? ⟨g, k * 8 + 6, none⟩ = some (.slice (some ⟨b2, 0, none⟩) n2 n2) ∧ Wr b2 n2 W) := fun L W hs => ⟨by have := hs.c6 hlt; rwa [en2, eb2] at this, by have := (hs.w2 k hlt).2.2; rwa [en2, eb2] at this⟩
      have H3 : Hid (∀ L W, Sh g hi ds P L W → W.cell? ⟨g, k * 8 + 7, none⟩ = some (.slice (some ⟨b3, 0, none⟩) n3 n3) ∧ Wr b3 n3 W) := fun L W hs => ⟨by have := hs.c7 hlt; rwa [en3, eb3] at this, by have := (hs.w3 k hlt).2.2; rwa [en3, eb3] at this⟩
      rw [en1] at z1
      rw [en2] at z2
      rw [en3] at z3
      rw [eb1] at p1 q1
      rw [eb2] at p2 q2
      rw [eb3] at p3 q3
      clear en1 en2 en3 eb1 eb2 eb3
      go_wp2_with (first
        | (go_at_call 24; have G8' := G7; refine (mark_one (g := g) (hi := hi) (k := m + 5 + n1 + n2) (by omega) p3 q3 hw7 z3 (by omega)).mono ?_; rintro e w8 ⟨rfl, t8⟩; have S8 := S7.btw t8 (Nat.lt_succ_self _); have G8 := G7.trans (t8.mono (Nat.le_succ _) (Nat.le_refl _)))
        | (go_at_call 24; have G7' := G6; refine (mark_one (g := g) (hi := hi) (k := m + 5 + n1) (by omega) p2 q2 hw6 z2 (by omega)).mono ?_; rintro e w7 ⟨rfl, t7⟩; have S7 := S6.btw t7 (Nat.lt_succ_self _); have G7 := G6.trans (t7.mono (Nat.le_succ _) (Nat.le_refl _)); obtain ⟨c7, hw7⟩ := H3.out _ _ S7)
        | (go_at_call 32; have G6' := G5; refine (mark_text (v := m + 4 + n1) (by omega) (by omega) (by omega) _).mono ?_; rintro e w6 ⟨rfl, l6⟩; have S6a := S5.below l6; have G6a := G5.then l6; obtain ⟨⟨x5, y5⟩, f5⟩ := S6a.old (o := k * 8 + 5) (by omega); have S6 := S6a.set (o := k * 8 + 5) (k := k) (r := 5) rfl (by omega) (.string (M1.mt (m + 4 + n1))); have G6 := G6a.set (p := ⟨g, k * 8 + 5, none⟩) (Nat.le_refl _) hghi (.string (M1.mt (m + 4 + n1))); obtain ⟨c6, hw6⟩ := H2.out _ _ S6)
        | (go_at_call 24; have G5' := G4; refine (mark_one (g := g) (hi := hi) (k := m + 4) (by omega) p1 q1 hw4 z1 (by omega)).mono ?_; rintro e w5 ⟨rfl, t5⟩; have S5 := S4.btw t5 (Nat.lt_succ_self _); have G5 := G4.trans (t5.mono (Nat.le_succ _) (Nat.le_refl _)))
        | (go_at_call 32; refine (mark_text (v := m + 3) (by omega) (by omega) (by omega) _).mono ?_; rintro e w4 ⟨rfl, l4⟩; have S4a := S3.below l4; have G4a := G3.then l4; obtain ⟨⟨x3, y3⟩, f3⟩ := S4a.old (o := k * 8 + 3) (by omega); have S4 := S4a.set (o := k * 8 + 3) (k := k) (r := 3) rfl (by omega) (.string (M1.mt (m + 3))); have G4 := G4a.set (p := ⟨g, k * 8 + 3, none⟩) (Nat.le_refl _) hghi (.string (M1.mt (m + 3))); obtain ⟨c4, hw4⟩ := H1.out _ _ S4))
      go_roundw
      case rel =>
        have hz0 := HZ.out
        exact ⟨k + 1, m + 5 + n1 + n2 + n3, _, by omega, by go_num, by go_num, by omega, by omega, S8, G8⟩
      case measure => simp [intOf]; omega
    · obtain rfl : k = ds.length := by omega
      clear hS
      go_wp2
      go_ret
      exact ⟨⟨m, rfl⟩, hgr⟩
end Go.Proofs.Ytnfcpcejfajcfaa.LG

/- Contracts of laws.markKeeper over a copy, of laws.markLoan and laws.heldLoan over a loan that was handed out, of spec.l06CopyLoan and impl.loanCopy. -/
namespace Go.Proofs.Ytnfcpcejfajcfaa.LH
open Go.ChangeShapes Go.WideShapes Go.ChangeAt Go.RowKit
set_option linter.unusedVariables false
set_option linter.unusedSimpArgs false
set_option maxRecDepth 10000

open N0 (Ln)
open N1 (Sl val vals Lists LB lb_new)
open N4 (at3 Cp)
open Z0 (dat Kp kval kvals)
open Z2 (Pl pls Cps Mk)
open LF (Wr Btw OwnIn mfrom)
open LG (Sh)
open J0 (IBuf Own)

variable {g hi : Nat} {ds : List Ln} {P : Nat → Pl} {L : List Value} {w W W' : World} {d : Ln} {s : Sl}

theorem markKeeper (g hi : Nat) (k : Kp) (P : Nat → Pl) (L : List Value) (w : World) (hn : k.ds.length ≤ 1048576) (hz : ∀ j, j < k.ds.length → (dat k.ds j).pg.length ≤ 1048576 ∧ (dat k.ds j).po.length ≤ 1048576 ∧ (dat k.ds j).fr.length ≤ 1048576) (h : Sh g hi k.ds P L w) :
    Calls Try.prog 10 #[kval k (some ⟨g, 0, none⟩) k.ds.length, .int .i64 1] w fun e w' => (∃ q : Nat, e = .returned (.int .i64 (q : Int))) ∧ Btw g hi w w' := by
  have k0 := K0.blk_new (kvals k (some ⟨g, 0, none⟩) k.ds.length) w 36
  have l0 := K0.below_new w (.cells #[.string k.mem, .string k.dur, .slice (some ⟨g, 0, none⟩) k.ds.length k.ds.length, .int .i64 k.ck] 36)
  have h0 := h.below l0
  have m0 := LG.markLoanS g hi k.ds P L _ hn hz h0
  have c2 := k0.c2
  clear h h0 hz
  go_enter Try.func10, Try.ntmps10
  go_wp2_with (go_at_call 23; refine m0.mono ?_; rintro e w1 ⟨⟨q, rfl⟩, b1⟩)
  go_ret
  exact ⟨⟨q, rfl⟩, (Btw.ofBelow l0).trans b1⟩

/-- A loan's lists, each of its own, one behind the other. -/
structure HL (lo m1 m2 hi : Nat) (s : Sl) (z1 z2 z3 : List Int) (W : World) : Prop where
  p1 : OwnIn lo m1 W s.a1 z1
  p2 : OwnIn m1 m2 W s.a2 z2
  p3 : OwnIn m2 hi W s.a3 z3
  le : lo ≤ m1 ∧ m1 ≤ m2 ∧ m2 ≤ hi

variable {lo m1 m2 lo' hi' : Nat} {z1 z2 z3 : List Int}
theorem HL.below (h : HL lo m1 m2 hi s z1 z2 z3 W) (hb : Below W.heap.size W W') : HL lo m1 m2 hi s z1 z2 z3 W' := ⟨h.p1.below hb, h.p2.below hb, h.p3.below hb, h.le⟩
theorem HL.btw (h : HL lo m1 m2 hi s z1 z2 z3 W) (hb : Btw lo' hi' W W') (hx : hi ≤ lo' ∨ hi' ≤ lo) : HL lo m1 m2 hi s z1 z2 z3 W' :=
  ⟨h.p1.btw hb (by have := h.le; omega), h.p2.btw hb (by have := h.le; omega), h.p3.btw hb (by have := h.le; omega), h.le⟩
theorem HL.lists (h : HL lo m1 m2 hi s d.pg d.po d.fr W) : Lists W d s := ⟨h.p1.row, h.p2.row, h.p3.row⟩

abbrev lob (d : Ln) (s : Sl) : Obj := .cells #[.int .i64 d.ino, .int .i64 d.cl, .int .i64 d.un, .string d.rc, .slice s.a1 d.pg.length s.c1, .string d.sav, .slice s.a2 d.po.length s.c2, .slice s.a3 d.fr.length s.c3] 30

set_option maxHeartbeats 2000000 in
theorem markLoan (hp : d.pg.length ≤ 1048576) (ho : d.po.length ≤ 1048576) (hf : d.fr.length ≤ 1048576) (h : HL lo m1 m2 hi s d.pg d.po d.fr W) (hh : hi ≤ W.heap.size) :
    Calls Try.prog 11 #[val d s, .int .i64 1] W fun e w' => e = .returned (.int .i64 ((1 + d.pg.length + d.po.length + d.fr.length : Nat) : Int)) ∧ HL lo m1 m2 hi s (mfrom 1 d.pg.length) (mfrom (1 + d.pg.length) d.po.length) (mfrom (1 + d.pg.length + d.po.length) d.fr.length) w' ∧ Btw lo hi W w' := by
  have n0 := K0.below_new W (lob d s)
  have bx := lb_new d s W 30
  have h0 := h.below n0
  have hle := h.le
  have K1 := h0.p1
  have K2 := h0.p2
  have K3 := h0.p3
  have c4 := bx.c4
  clear h h0
  go_enter Try.func11, Try.ntmps11
  go_wp2_with (first
    | (go_at_call 24; have t2' := t2; refine (LF.markIn (k0 := 1 + d.pg.length + d.po.length) k32 rfl hf (by omega)).mono ?_; rintro e w3 ⟨rfl, u3, t3⟩; have v1 := u12.btw t3 (by omega); have v2 := u2.btw t3 (by omega))
    | (go_at_call 24; have t1' := t1; refine (LF.markIn (k0 := 1 + d.pg.length) k21 rfl ho (by omega)).mono ?_; rintro e w2 ⟨rfl, u2, t2⟩; have u12 := u1.btw t2 (by omega); have k32 := k31.btw t2 (by omega); have b2 : LB W.heap.size d s w2 := ⟨LF.blk_btw b1.b t2 (by omega)⟩; have c7 := b2.c7)
    | (go_at_call 24; refine (LF.markIn (k0 := 1) K1 rfl hp (by omega)).mono ?_; rintro e w1 ⟨rfl, u1, t1⟩; have k21 := K2.btw t1 (by omega); have k31 := K3.btw t1 (by omega); have b1 : LB W.heap.size d s w1 := ⟨LF.blk_btw bx.b t1 (by omega)⟩; have c6 := b1.c6))
  go_ret
  exact ⟨rfl, ⟨v1, v2, u3, hle⟩, (((Btw.ofBelow n0).trans (t1.mono (Nat.le_refl _) (by omega))).trans (t2.mono (by omega) (by omega))).trans (t3.mono (by omega) (Nat.le_refl _))⟩

set_option maxHeartbeats 2000000 in
theorem heldLoan (hp : d.pg.length ≤ 1048576) (ho : d.po.length ≤ 1048576) (hf : d.fr.length ≤ 1048576) (h : HL lo m1 m2 hi s (mfrom 1 d.pg.length) (mfrom (1 + d.pg.length) d.po.length) (mfrom (1 + d.pg.length + d.po.length) d.fr.length) W) :
    Calls Try.prog 12 #[val d s, .int .i64 1] W fun e w' => e = .returned (.int .i64 ((1 + d.pg.length + d.po.length + d.fr.length : Nat) : Int)) ∧ Below W.heap.size W w' := by
  have n0 := K0.below_new W (lob d s)
  have bx := lb_new d s W 30
  have h0 := h.below n0
  have K1 := h0.p1
  have K2 := h0.p2
  have K3 := h0.p3
  have c4 := bx.c4
  have c6 := bx.c6
  have c7 := bx.c7
  clear h h0
  go_enter Try.func12, Try.ntmps12
  go_wp2_with (first
    | (go_at_call 25; have q2' := q2; refine (LF.heldIn (k0 := 1 + d.pg.length + d.po.length) K3 hf (by omega)).mono ?_; rintro e w3 ⟨rfl, hw3⟩; subst w3)
    | (go_at_call 25; have q1' := q1; refine (LF.heldIn (k0 := 1 + d.pg.length) K2 ho (by omega)).mono ?_; rintro e w2 ⟨rfl, hw2⟩; subst w2; have q2 : True := trivial)
    | (go_at_call 25; refine (LF.heldIn (k0 := 1) K1 hp (by omega)).mono ?_; rintro e w1 ⟨rfl, hw1⟩; subst w1; have q1 : True := trivial))
  go_ret
  exact ⟨rfl, n0⟩
end Go.Proofs.Ytnfcpcejfajcfaa.LH
