/- Joined texts: plain facts and contracts. -/
import Derived.Test.YthbcefopbmkppaaGreatJlM
set_option linter.unusedVariables false
set_option linter.unusedSimpArgs false
set_option maxRecDepth 10000
namespace Go.Proofs.YthbcefopbmkppaaGreat.N14
open Go.ChangeShapes Go.WideShapes Go.ChangeAt Go.RowKit
open N0 (Ln)
open N1 (Sl Lists Fit LB lb_new)
open N13 (uPg uFr undone undo uPg_size uFr_size laid_size zeros_le Bx bx_new)
set_option maxHeartbeats 4000000 in
theorem spec_Undo (mem : ByteArray) (d : Ln) (s : Sl) (w : World) (hms : mem.size ≤ 281474976710656) (hF : Fit d s) (hpo : d.po.length ≤ 1048576) (hfr : d.fr.length ≤ 1048576) (hR : Lists w d s) :
  Calls Tryz.prog 9 #[.string mem, N1.val d s] w fun e w' => e = .returned (.string (undo mem d)) ∧ Below w.heap.size w w' := by
 have x0 := bx_new w d s
 have HL : Hid (∀ W, Below w.heap.size w W → Lists W d s) := fun W hb => hR.below hb
 have HO : Hid (∀ W, Below w.heap.size w W → Calls Tryz.prog 15 #[N1.val d s] W fun e w' => e = .returned (.bool (N0.loanOk d)) ∧ Below W.heap.size W w') := fun W hb => N11.spec_LoanOk d s W hF hpo hfr (hR.below hb)
 have hrs := hF.m4
 have hss := hF.m5
 clear hR hF
 cases hok : N0.loanOk d with
 | false =>
  rw [hok] at HO
  have HU : Hid (undo mem d = mem) := by
   show undo mem d = mem
   rw [undo, if_neg]
   rintro ⟨h, _⟩
   rw [hok] at h
   cases h
  rw [HU.out]
  clear HU hok
  go_enter Tryz.func9, Tryz.ntmps9
  go_wp2_with (go_at_call 15; refine (HO.out _ x0.bel).mono ?_; rintro e w1 ⟨rfl, b1⟩; have x1 := x0.below b1)
  go_ret
  exact ⟨rfl, x1.bel⟩
 | true =>
  rw [hok] at HO
  by_cases hm : mem.size = 768
  ·have g8 : ((mem.size : Int) != 768) = false := by simp; omega
   have HU : Hid (undo mem d = undone mem d) := by
    show undo mem d = _
    rw [undo, if_pos ⟨hok, hm⟩]
   obtain ⟨-, -, -, -, -, -, hp6, -, hf2, hpp, -, -, -⟩ := N0.loanOk_is hok
   have hpg : ∀ j, j < d.pg.length → 5 ≤ d.pg.getD j 0 ∧ d.pg.getD j 0 ≤ 23 := fun j hj => (N0.pagesOk_iff.1 hpp).1 _ (List.mem_append.2 (Or.inl (N0.getD_mem hj)))
   rw [HU.out]
   have h1s : (B5.laid mem (L1.recAt d.ino) d.rc).size = 768 := by rw [laid_size]; exact hm
   have HE : Hid (undone mem d = uFr d (uPg d (B5.laid mem (L1.recAt d.ino) d.rc) d.pg.length) d.fr.length) := rfl
   have hW : Hid (∀ W, Calls Tryz.prog 24 #[.string mem, .int .i64 (L1.recAt d.ino), .string d.rc] W fun e w' => e = .returned (.string (B5.laid mem (L1.recAt d.ino) d.rc)) ∧ ∃ n, w' = W.drewN n) := fun W => B5.spec_With _ _ _ _ hms hrs
   obtain ⟨m1, hm1⟩ : ∃ m1, B5.laid mem (L1.recAt d.ino) d.rc = m1 := ⟨_, rfl⟩
   rw [hm1] at h1s HE hW
   rw [HE.out]
   clear HU HE hok hm1 hpp
   go_enter Tryz.func9, Tryz.ntmps9
   go_wp2_with (go_at_call 15; refine (HO.out _ x0.bel).mono ?_; rintro e w1 ⟨rfl, b1⟩; have x1 := x0.below b1; have c0 := x1.arg.c0; have c3 := x1.arg.c3)
   go_quiet ((first
    | (go_at_call 25; exact Calls.quiet_of_same (L1.spec_RecAt _ _))
    | (go_at_call 24; exact Calls.quiet_of (hW.out _))))
   have x3 := x1.drewN nq
   obtain ⟨w3, hw3⟩ : ∃ w3, w1.drewN nq = w3 := ⟨_, rfl⟩
   rw [hw3] at x3 ⊢
   clear c0 c3 x1 b1 x0 hw3
   go_wp2
   go_loopw [0, 5] (fun v i w' => ∃ k : Nat, k ≤ d.pg.length ∧ i = .int .i64 k ∧ v = .string (uPg d m1 k) ∧ Bx w d s w') (fun _ i _ => d.pg.length - (intOf i).toNat)
   case atStart => exact ⟨0, Nat.zero_le _, rfl, rfl, x3⟩
   case round =>
    obtain ⟨k, hk, rfl, rfl, xr⟩ := hrel
    have hus := uPg_size d m1 k
    have c4 := xr.arg.c4
    have c5 := xr.arg.c5
    by_cases hlt : k < d.pg.length
    ·obtain ⟨b, off, hab, _, hcell⟩ := (HL.out _ xr.bel).r1.get hlt
     have y1 := hcell k hlt
     have hz := hpg k hlt
     have HS : Hid (B5.laid (uPg d m1 k) (d.pg.getD k 0 * 32) (B2.part d.sav ((k : Int) * 32) 32) = uPg d m1 (k + 1)) := rfl
     obtain ⟨z, ez⟩ : ∃ z, d.pg.getD k 0 = z := ⟨_, rfl⟩
     rw [ez] at y1 hz HS
     rw [hab] at c4
     clear hab
     have e1 : (0 : Int) ≤ (k : Int) := by omega
     have e2 : (k : Int) < (d.pg.length : Int) := by omega
     have hpt : Hid (∀ W, Calls Tryz.prog 26 #[.string d.sav, .int .i64 (k : Int)] W fun e w' => e = .returned (.string (B2.part d.sav ((k : Int) * 32) 32)) ∧ w' = W) := fun W => N13.l03Page0 _ _ _ hss (by omega)
     have hwt : Hid (∀ W, Calls Tryz.prog 24 #[.string (uPg d m1 k), .int .i64 (z * 32), .string (B2.part d.sav ((k : Int) * 32) 32)] W fun e w' => e = .returned (.string (B5.laid (uPg d m1 k) (z * 32) (B2.part d.sav ((k : Int) * 32) 32))) ∧ ∃ n, w' = W.drewN n) := fun W => B5.spec_With _ _ _ _ (by rw [hus]; omega) (Nat.le_trans (B2.part_size _ _ _) hss)
     clear ez hcell hus
     go_wp2
     go_quiet ((first
      | (go_at_call 26; exact Calls.quiet_of_same (hpt.out _))
      | (go_at_call 24; exact Calls.quiet_of (hwt.out _))))
     have x5 := xr.drewN nq
     go_wp2
     go_roundw
     case rel => exact ⟨k + 1, by omega, by go_num, by rw [HS.out], x5⟩
     case measure => simp [intOf]; omega
    ·obtain rfl : k = d.pg.length := by omega
     have e9 : decide ((d.pg.length : Int) < (d.pg.length : Int)) = false := by simp
     obtain ⟨m2, hm2⟩ : ∃ m2, uPg d m1 d.pg.length = m2 := ⟨_, rfl⟩
     have HM2 : Hid (uPg d m1 d.pg.length = m2) := hm2
     rw [hm2] at hus ⊢
     clear hm2 x3 c5
     go_wp2
     go_loopw [0, 6] (fun v i w' => ∃ k : Nat, k ≤ d.fr.length ∧ i = .int .i64 k ∧ v = .string (uFr d m2 k) ∧ Bx w d s w') (fun _ i _ => d.fr.length - (intOf i).toNat)
     case atStart => exact ⟨0, Nat.zero_le _, rfl, rfl, xr⟩
     case round =>
      rename_i wr2
      obtain ⟨j, hj, rfl, rfl, xq⟩ := hrel
      have hvs := uFr_size d m2 j
      have c7 := xq.arg.c7
      by_cases hlt2 : j < d.fr.length
      ·obtain ⟨b, off, hab, _, hcell⟩ := (HL.out _ xq.bel).r3.get hlt2
       have y1 := hcell j hlt2
       have HS : Hid (B5.laid (uFr d m2 j) (L1.recAt (d.fr.getD j 0)) (B4.zeros 16) = uFr d m2 (j + 1)) := rfl
       obtain ⟨z, ez⟩ : ∃ z, d.fr.getD j 0 = z := ⟨_, rfl⟩
       rw [ez] at y1 HS
       rw [hab] at c7
       clear hab
       have e1 : (0 : Int) ≤ (j : Int) := by omega
       have e2 : (j : Int) < (d.fr.length : Int) := by omega
       have hwt : Hid (∀ W, Calls Tryz.prog 24 #[.string (uFr d m2 j), .int .i64 (L1.recAt z), .string (B4.zeros 16)] W fun e w' => e = .returned (.string (B5.laid (uFr d m2 j) (L1.recAt z) (B4.zeros 16))) ∧ ∃ n, w' = W.drewN n) := fun W => B5.spec_With _ _ _ _ (by rw [hvs]; omega) zeros_le
       clear ez hcell hvs
       go_wp2_with (first
        | (go_at_call 25; refine (L1.spec_RecAt _ _).mono ?_; rintro e w' ⟨rfl, rfl⟩)
        | (go_at_call 27; refine (B4.spec_Zeros _ _).mono ?_; rintro e w' ⟨rfl, rfl⟩)
        | (go_at_call 24; refine (hwt.out _).mono ?_; rintro e w7 ⟨rfl, m7, rfl⟩; have x7 := xq.drewN m7))
       go_roundw
       case rel => exact ⟨j + 1, by omega, by go_num, by rw [HS.out], x7⟩
       case measure => simp [intOf]; omega
      ·obtain rfl : j = d.fr.length := by omega
       have e8 : decide ((d.fr.length : Int) < (d.fr.length : Int)) = false := by simp
       go_wp2
       go_ret
       exact ⟨by rw [HM2.out]; rfl, xq.bel⟩
  ·have g8 : ((mem.size : Int) != 768) = true := by simp; omega
   have HU : Hid (undo mem d = mem) := by
    show undo mem d = mem
    rw [undo, if_neg]
    rintro ⟨_, h⟩
    exact hm h
   rw [HU.out]
   clear HU hok hm
   go_enter Tryz.func9, Tryz.ntmps9
   go_wp2_with (go_at_call 15; refine (HO.out _ x0.bel).mono ?_; rintro e w1 ⟨rfl, b1⟩; have x1 := x0.below b1)
   go_ret
   exact ⟨rfl, x1.bel⟩
end Go.Proofs.YthbcefopbmkppaaGreat.N14
