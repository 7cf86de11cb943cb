/- Joined texts: plain facts and contracts. -/
import Derived.Test.YthbcefopbmkppaaGreatJlJ
set_option linter.unusedVariables false
set_option linter.unusedSimpArgs false
set_option maxRecDepth 10000
namespace Go.Proofs.YthbcefopbmkppaaGreat.N7
open Go.ChangeShapes Go.WideShapes Go.ChangeAt Go.RowKit
open N0 (Ln)
open N1 (Sl Lists Fit)
open N5 (pv)
open P1 (ret_bool)
abbrev tv (k o t : Int) (a : Option Addr) (n c : Nat) (ae : Option Addr) (ne ce : Nat) (d : Ln) (s : Sl) : Value := .agg #[.int .i64 k, .int .i64 o, .int .i64 t, .slice a n c, .slice ae ne ce, .int .i64 d.ino, .int .i64 d.cl, .int .i64 d.un, .string d.rc, .slice s.a1 d.pg.length s.c1, .string d.sav, .slice s.a2 d.po.length s.c2, .slice s.a3 d.fr.length s.c3]
abbrev tvs (k o t : Int) (a : Option Addr) (n c : Nat) (ae : Option Addr) (ne ce : Nat) (d : Ln) (s : Sl) : List Value := [.int .i64 k, .int .i64 o, .int .i64 t, .slice a n c, .slice ae ne ce, .int .i64 d.ino, .int .i64 d.cl, .int .i64 d.un, .string d.rc, .slice s.a1 d.pg.length s.c1, .string d.sav, .slice s.a2 d.po.length s.c2, .slice s.a3 d.fr.length s.c3]
abbrev tObj (k o t : Int) (a : Option Addr) (n c : Nat) (ae : Option Addr) (ne ce : Nat) (d : Ln) (s : Sl) : Obj := .cells #[.int .i64 k, .int .i64 o, .int .i64 t, .slice a n c, .slice ae ne ce, .int .i64 d.ino, .int .i64 d.cl, .int .i64 d.un, .string d.rc, .slice s.a1 d.pg.length s.c1, .string d.sav, .slice s.a2 d.po.length s.c2, .slice s.a3 d.fr.length s.c3] 60
theorem isDir (k o t : Int) (a : Option Addr) (n c : Nat) (ae : Option Addr) (ne ce : Nat) (w : World) :
  Calls Tryz.prog 71 #[pv k o t a n c ae ne ce] w fun e w' => e = .returned (.bool (k == 2)) ∧ Below w.heap.size w w' := by
 have hB := K0.below_new w (.cells #[.int .i64 k, .int .i64 o, .int .i64 t, .slice a n c, .slice ae ne ce] 58)
 go_enter Tryz.func71, Tryz.ntmps71
 go_wp2
 go_ret
 exact ⟨rfl, hB⟩
theorem nums_cases (d : Ln) :
  (decide (0 ≤ d.ino) = false ∧ N0.nums d = false) ∨ (0 ≤ d.ino ∧ decide (d.ino < 8) = false ∧ N0.nums d = false) ∨ (0 ≤ d.ino ∧ d.ino < 8 ∧ B1.inB d.cl 0 8 = false ∧ N0.nums d = false) ∨
  (0 ≤ d.ino ∧ d.ino < 8 ∧ B1.inB d.cl 0 8 = true ∧ decide (0 ≤ d.un) = false ∧ N0.nums d = false) ∨ (0 ≤ d.ino ∧ d.ino < 8 ∧ B1.inB d.cl 0 8 = true ∧ 0 ≤ d.un ∧ N0.nums d = true) := by
 unfold N0.nums B1.inB
 by_cases h1 : 0 ≤ d.ino <;> by_cases h2 : d.ino < 8 <;> by_cases h3 : 0 ≤ d.cl <;> by_cases h4 : d.cl ≤ 8 <;> by_cases h5 : 0 ≤ d.un <;> simp [h1, h2, h3, h4, h5]
set_option maxHeartbeats 2000000 in
theorem numbersOk (k o t : Int) (a : Option Addr) (n c : Nat) (ae : Option Addr) (ne ce : Nat) (d : Ln) (s : Sl) (w : World) :
  Calls Tryz.prog 48 #[tv k o t a n c ae ne ce d s] w fun e w' => e = .returned (.bool (N0.nums d)) ∧ Below w.heap.size w w' := by
 have hB := K0.below_new w (tObj k o t a n c ae ne ce d s)
 have hB2 := hB.alloc hB.size (.cells #[.int .i64 d.ino, .int .i64 d.cl, .int .i64 d.un, .string d.rc, .slice s.a1 d.pg.length s.c1, .string d.sav, .slice s.a2 d.po.length s.c2, .slice s.a3 d.fr.length s.c3] 26)
 have HC : Hid (∀ W, Calls Tryz.prog 67 #[.int .i64 d.cl] W fun e w' => e = .returned (.bool (B1.inB d.cl 0 8)) ∧ w' = W) := fun W => I0.clientOk _ _
 rcases nums_cases d with ⟨h1, hp⟩ | ⟨h1, h2, hp⟩ | ⟨h1, h2, h3, hp⟩ | ⟨h1, h2, h3, h5, hp⟩ | ⟨h1, h2, h3, h5, hp⟩
 all_goals
  rw [hp]
  clear hp
 ·go_enter Tryz.func48, Tryz.ntmps48
  go_wp2
  go_ret
  exact ⟨rfl, hB2⟩
 ·go_enter Tryz.func48, Tryz.ntmps48
  go_wp2
  go_ret
  exact ⟨rfl, hB2⟩
 all_goals
  rw [h3] at HC
  clear h3
  go_enter Tryz.func48, Tryz.ntmps48
  go_wp2_with (go_at_call 67; refine (HC.out _).mono ?_; rintro e w1 ⟨rfl, rfl⟩)
  go_ret
  exact ⟨rfl, hB2⟩
set_option maxHeartbeats 2000000 in
theorem poolOk (k o t : Int) (a : Option Addr) (c : Nat) (ae : Option Addr) (ne ce : Nat) (d : Ln) (s : Sl) (Z : List Int) (w : World) (hz : Z.length ≤ 12) (hpo : d.po.length ≤ 1048576) (hR : P0.Row w a Z) (h2 : P0.Row w s.a2 d.po) :
  Calls Tryz.prog 49 #[tv k o t a Z.length c ae ne ce d s] w fun e w' => e = .returned (.bool (decide (d.po.length ≤ 4) && (N0.asc d.po && P0.pagesOk (Z ++ d.po)))) ∧ Below w.heap.size w w' := by
 have hB := K0.below_new w (tObj k o t a Z.length c ae ne ce d s)
 have r1 := hR.alloc (tObj k o t a Z.length c ae ne ce d s)
 have r2 := h2.alloc (tObj k o t a Z.length c ae ne ce d s)
 have HA := N2.ascends s.a2 s.c2 d.po _ (by omega) r2
 by_cases hl : d.po.length ≤ 4
 ·have hl' : (d.po.length : Int) ≤ 4 := by omega
  rw [decide_eq_true hl, Bool.true_and]
  cases hasc : N0.asc d.po with
  | false =>
   rw [hasc] at HA
   clear hR h2 r1 r2
   go_enter Tryz.func49, Tryz.ntmps49
   go_wp2_with (go_at_call 68; refine HA.mono ?_; rintro e w1 ⟨rfl, m, rfl⟩)
   go_ret
   exact ⟨rfl, K0.below_drewN hB m⟩
  | true =>
   rw [hasc] at HA
   rw [Bool.true_and]
   have HC : Hid (∀ m, Calls Tryz.prog 70 #[.slice (some ⟨w.heap.size + 1, 0, none⟩) 2 2] (((w.alloc (tObj k o t a Z.length c ae ne ce d s)).drewN m).alloc (.cells #[.slice a Z.length c, .slice s.a2 d.po.length s.c2] 24)) fun e w' => ∃ a' c', e = .returned (.slice a' (Z ++ d.po).length c') ∧ J0.Own ((((w.alloc (tObj k o t a Z.length c ae ne ce d s)).drewN m).alloc (.cells #[.slice a Z.length c, .slice s.a2 d.po.length s.c2] 24))).heap.size w' a' (Z ++ d.po) ∧ (Z ++ d.po).length ≤ c' ∧ Below ((((w.alloc (tObj k o t a Z.length c ae ne ce d s)).drewN m).alloc (.cells #[.slice a Z.length c, .slice s.a2 d.po.length s.c2] 24))).heap.size (((w.alloc (tObj k o t a Z.length c ae ne ce d s)).drewN m).alloc (.cells #[.slice a Z.length c, .slice s.a2 d.po.length s.c2] 24)) w') := fun m => by
    have hk := K0.blk_at (B := w.heap.size + 1) [.slice a Z.length c, .slice s.a2 d.po.length s.c2] ((w.alloc (tObj k o t a Z.length c ae ne ce d s)).drewN m) 24 (by simp)
    exact Q1.concat (w.heap.size + 1) a s.a2 c s.c2 Z d.po _ hk.c0 hk.c1 hk.lt ((r1.drewN m).alloc _) ((r2.drewN m).alloc _) (by omega) hpo
   have HL : Hid ((Z ++ d.po).length ≤ 281474976710656) := by
    show (Z ++ d.po).length ≤ _
    rw [List.length_append]
    omega
   obtain ⟨Y, hY⟩ : ∃ Y, Z ++ d.po = Y := ⟨_, rfl⟩
   rw [hY] at HC HL ⊢
   clear hR h2 r1 r2 hY
   go_enter Tryz.func49, Tryz.ntmps49
   go_wp2_with (first
    | (go_at_call 68; refine HA.mono ?_; rintro e w1 ⟨rfl, m, rfl⟩)
    | (go_at_call 70; refine (HC.out m).mono ?_; rintro e w2 ⟨a', c', rfl, ho, hc', b2⟩)
    | (go_at_call 69; refine (P1.pagesOk a' c' Y _ HL.out hc' ho.row).mono ?_; rintro e w3 ⟨rfl, rfl⟩))
   go_ret
   exact ⟨rfl, ((K0.below_drewN hB m).alloc (by simp) _).trans (b2.mono (by simp; omega))⟩
 ·have hl' : decide ((d.po.length : Int) ≤ 4) = false := by simp; omega
  have hl2 : decide (d.po.length ≤ 4) = false := by simp; omega
  rw [hl2, Bool.false_and]
  clear HA hR h2 r1 r2
  go_enter Tryz.func49, Tryz.ntmps49
  go_wp2
  go_ret
  exact ⟨rfl, hB⟩
end Go.Proofs.YthbcefopbmkppaaGreat.N7
namespace Go.Proofs.YthbcefopbmkppaaGreat.N8
open Go.ChangeShapes Go.WideShapes Go.ChangeAt Go.RowKit
open N0 (Ln)
open N1 (Sl Lists Fit)
open N7 (tv tvs tObj)
open P1 (ret_bool)
def frOk (k : Int) (d : Ln) : Bool := if k = 2 then decide (d.fr.length ≤ 2) && (N0.asc d.fr && N0.to (N0.frAt d.fr d.ino) d.fr.length) else decide (d.fr.length = 0)
set_option maxHeartbeats 2000000 in
theorem freshOk (k o t : Int) (a : Option Addr) (n c : Nat) (ae : Option Addr) (ne ce : Nat) (d : Ln) (s : Sl) (w : World) (hfr : d.fr.length ≤ 1048576) (h3 : P0.Row w s.a3 d.fr) :
  Calls Tryz.prog 50 #[tv k o t a n c ae ne ce d s] w fun e w' => e = .returned (.bool (frOk k d)) ∧ Below w.heap.size w w' := by
 have hB := K0.below_new w (tObj k o t a n c ae ne ce d s)
 have hT := K0.blk_new (tvs k o t a n c ae ne ce d s) w 60
 have r3 := h3.alloc (tObj k o t a n c ae ne ce d s)
 clear h3
 by_cases hk : k = 2
 ·have hk' : (k == 2) = true := by simpa using hk
  by_cases hl : d.fr.length ≤ 2
  ·have hl' : ¬ (2 < (d.fr.length : Int)) := by omega
   have hl2 : decide (2 < (d.fr.length : Int)) = false := by simp; omega
   have HV : Hid (frOk k d = (N0.asc d.fr && N0.to (N0.frAt d.fr d.ino) d.fr.length)) := by
    show frOk k d = _
    rw [frOk, if_pos hk, decide_eq_true hl, Bool.true_and]
   clear hk
   cases hasc : N0.asc d.fr with
   | false =>
    rw [HV.out, hasc, Bool.false_and]
    clear HV
    go_enter Tryz.func50, Tryz.ntmps50
    go_wp2_with (first
     | (go_at_call 71; refine (N7.isDir _ _ _ _ _ _ _ _ _ _).mono ?_; rintro e w1 ⟨rfl, b1⟩; have q3 := r3.below b1)
     | (go_at_call 68; refine (N2.ascends _ _ _ _ (by omega) q3).mono ?_; rintro e w2 ⟨rfl, m, rfl⟩))
    go_ret
    exact ⟨rfl, K0.below_drewN (hB.trans (b1.mono hB.size)) m⟩
   | true =>
    rw [HV.out, hasc, Bool.true_and]
    clear HV
    go_enter Tryz.func50, Tryz.ntmps50
    go_wp2_with (first
     | (go_at_call 71; refine (N7.isDir _ _ _ _ _ _ _ _ _ _).mono ?_; rintro e w1 ⟨rfl, b1⟩; have q3 := r3.below b1; have t1 := hT.below b1)
     | (go_at_call 68; refine (N2.ascends _ _ _ _ (by omega) q3).mono ?_; rintro e w2 ⟨rfl, m, rfl⟩))
    have x5 := (t1.drewN m).cell 5 (by simp)
    simp only [List.getElem_cons_zero, List.getElem_cons_succ] at x5
    have q4 := q3.drewN m
    have hBel := K0.below_drewN (hB.trans (b1.mono hB.size)) m
    obtain ⟨V, hV⟩ : ∃ V, w1.drewN m = V := ⟨_, rfl⟩
    rw [hV] at x5 q4 hBel ⊢
    clear hV b1 q3 t1 r3 hT hB hasc
    go_loop [26] (fun i => ∃ j : Nat, j ≤ d.fr.length ∧ N0.to (N0.frAt d.fr d.ino) j = true ∧ i = .int .i64 j) (fun i => d.fr.length - (intOf i).toNat)
    case atStart => exact ⟨0, Nat.zero_le _, rfl, rfl⟩
    case round =>
     obtain ⟨j, hj, hok, rfl⟩ := hrel
     by_cases hlt : j < d.fr.length
     ·obtain ⟨b, off, hab, _, hc⟩ := q4.get hlt
      have x1 := hc j hlt
      have hat : N0.frAt d.fr d.ino j = (B1.inB (d.fr.getD j 0) 1 7 && !decide (d.fr.getD j 0 = d.ino)) := rfl
      obtain ⟨z, ez⟩ : ∃ z, d.fr.getD j 0 = z := ⟨_, rfl⟩
      rw [ez] at x1 hat
      rw [hab]
      have e1 : (0 : Int) ≤ (j : Int) := by omega
      have e2 : (j : Int) < (d.fr.length : Int) := by omega
      by_cases g1 : z < 1
      ·have HR : Hid (N0.to (N0.frAt d.fr d.ino) d.fr.length = false) := N0.to_bad hlt (by rw [hat, show B1.inB z 1 7 = false from decide_eq_false (by omega)]; rfl)
       clear hat hok ez hc
       go_wp2
       go_ret
       exact ⟨ret_bool HR.out.symm, hBel⟩
      ·have g1' : decide (z < 1) = false := by simpa using g1
       by_cases g2 : 8 ≤ z
       ·have HR : Hid (N0.to (N0.frAt d.fr d.ino) d.fr.length = false) := N0.to_bad hlt (by rw [hat, show B1.inB z 1 7 = false from decide_eq_false (by omega)]; rfl)
        clear hat hok ez hc
        go_wp2
        go_ret
        exact ⟨ret_bool HR.out.symm, hBel⟩
       ·have g2' : decide (8 ≤ z) = false := by simpa using g2
        have hin : B1.inB z 1 7 = true := decide_eq_true (by omega)
        by_cases g3 : z = d.ino
        ·have g3' : (z == d.ino) = true := by simpa using g3
         have HR : Hid (N0.to (N0.frAt d.fr d.ino) d.fr.length = false) := N0.to_bad hlt (by rw [hat, decide_eq_true g3]; simp)
         clear hat hok ez hc g3
         go_wp2
         go_ret
         exact ⟨ret_bool HR.out.symm, hBel⟩
        ·have g3' : (z == d.ino) = false := by simpa using g3
         have HO : Hid (N0.to (N0.frAt d.fr d.ino) (j + 1) = true) := N0.to_step hok (by rw [hat, hin, decide_eq_false g3]; rfl)
         clear hat hok ez hc
         go_wp2
         go_round
         case rel => exact ⟨j + 1, by omega, HO.out, by go_num⟩
         case measure => simp [intOf]; omega
     ·obtain rfl : j = d.fr.length := by omega
      have HR : Hid (N0.to (N0.frAt d.fr d.ino) d.fr.length = true) := hok
      clear hok q4
      go_wp2
      go_ret
      exact ⟨ret_bool HR.out.symm, hBel⟩
  ·have hl' : 2 < (d.fr.length : Int) := by omega
   have HV : frOk k d = false := by rw [frOk, if_pos hk, decide_eq_false hl]; rfl
   rw [HV]
   clear HV r3 hk
   go_enter Tryz.func50, Tryz.ntmps50
   go_wp2_with (go_at_call 71; refine (N7.isDir _ _ _ _ _ _ _ _ _ _).mono ?_; rintro e w1 ⟨rfl, b1⟩)
   go_ret
   exact ⟨rfl, hB.trans (b1.mono hB.size)⟩
 ·have hk' : (k == 2) = false := by simpa using hk
  have HV : Hid (((d.fr.length : Int) == 0) = frOk k d) := by
   show _ = frOk k d
   rw [frOk, if_neg hk]
   by_cases h0 : d.fr.length = 0
   ·simp [h0]
   ·rw [decide_eq_false h0]
    simp
    intro e
    exact h0 (by rw [e]; rfl)
  clear r3 hk
  go_enter Tryz.func50, Tryz.ntmps50
  go_wp2_with (go_at_call 71; refine (N7.isDir _ _ _ _ _ _ _ _ _ _).mono ?_; rintro e w1 ⟨rfl, b1⟩)
  go_ret
  exact ⟨ret_bool HV.out, hB.trans (b1.mono hB.size)⟩
end Go.Proofs.YthbcefopbmkppaaGreat.N8
