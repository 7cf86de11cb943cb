/- Joined texts: plain facts and contracts. -/
import Derived.Test.YtljnkicgahepfaaGreatDoorJlO
import Derived.Test.YtljnkicgahepfaaGreatDoorJlG
import Derived.Test.YtljnkicgahepfaaGreatDoorJlA
import Derived.Test.YtljnkicgahepfaaGreatDoorJlI
import Derived.Lib.SliceRun
import Derived.Deep.RegionHeld3
set_option linter.unusedVariables false
set_option linter.unusedSimpArgs false
set_option maxRecDepth 10000
namespace Go.Proofs.YtljnkicgahepfaaGreatDoor.N13
open Go.ChangeShapes Go.WideShapes Go.ChangeAt Go.RowKit
open N0 (Ln)
open N1 (Sl Lists Fit LB lb_new)
def uPg (d : Ln) (m : ByteArray) : Nat → ByteArray
 | 0 => m
 | k + 1 => B5.laid (uPg d m k) (d.pg.getD k 0 * 32) (B2.part d.sav ((k : Int) * 32) 32)
def uFr (d : Ln) (m : ByteArray) : Nat → ByteArray
 | 0 => m
 | k + 1 => B5.laid (uFr d m k) (L1.recAt (d.fr.getD k 0)) (B4.zeros 16)
def undone (mem : ByteArray) (d : Ln) : ByteArray := uFr d (uPg d (B5.laid mem (L1.recAt d.ino) d.rc) d.pg.length) d.fr.length
def undo (mem : ByteArray) (d : Ln) : ByteArray := if N0.loanOk d = true ∧ mem.size = 768 then undone mem d else mem
theorem laid_size (s : ByteArray) (i : Int) (t : ByteArray) : (B5.laid s i t).size = s.size := by
 unfold B5.laid
 split
 ·rename_i h
  obtain ⟨h1, h2, h3⟩ := B2.lies_true h
  simp only [ByteArray.size_append, ByteArray.size_extract]
  omega
 ·rfl
theorem uPg_size (d : Ln) (m : ByteArray) : ∀ k, (uPg d m k).size = m.size
 | 0 => rfl
 | k + 1 => by rw [uPg, laid_size, uPg_size d m k]
theorem uFr_size (d : Ln) (m : ByteArray) : ∀ k, (uFr d m k).size = m.size
 | 0 => rfl
 | k + 1 => by rw [uFr, laid_size, uFr_size d m k]
theorem zeros_le : (B4.zeros 16).size ≤ 281474976710656 := by
 unfold B4.zeros
 split
 ·rw [B4.nulls_size]; decide
 ·exact Nat.zero_le _
structure Bx (w : World) (d : Ln) (s : Sl) (W : World) : Prop where
 arg : LB w.heap.size d s W
 bel : Below w.heap.size w W
variable {w W W' : World} {d : Ln} {s : Sl}
theorem Bx.below (h : Bx w d s W) (hb : Below W.heap.size W W') : Bx w d s W' := ⟨h.arg.below hb, h.bel.trans (hb.mono h.bel.size)⟩
theorem Bx.drewN (h : Bx w d s W) (m : Nat) : Bx w d s (W.drewN m) := ⟨⟨h.arg.b.drewN m⟩, K0.below_drewN h.bel m⟩
theorem bx_new (w : World) (d : Ln) (s : Sl) : Bx w d s (N10.w0 w d s) := ⟨lb_new d s w 66, K0.below_new _ _⟩
theorem l03Page0 (mem : ByteArray) (k : Nat) (w : World) (hs : mem.size ≤ 281474976710656) (hk : k ≤ 100) :
  Calls Tryz.prog 110 #[.string mem, .int .i64 (k : Int)] w fun e w' => e = .returned (.string (B2.part mem ((k : Int) * 32) 32)) ∧ w' = w := by
 have hm : mem.size ≤ maxLen := by unfold maxLen; omega
 have hw : IntKind.i64.wrap ((k : Int) * 32) = (k : Int) * 32 := by rw [IntKind.wrap_i64]; omega
 have hpt := B2.spec_Part mem ((k : Int) * 32) 32 w hm (N11.wf_of _ (by omega) (by omega)) (by decide)
 go_enter Tryz.func110, Tryz.ntmps110
 go_wp2_with (go_at_call 76; refine hpt.mono ?_; rintro e w' ⟨rfl, rfl⟩)
 go_ret
 exact ⟨rfl, rfl⟩
set_option maxHeartbeats 4000000 in
theorem impl_Undo (mem : ByteArray) (d : Ln) (s : Sl) (w : World) (hms : mem.size ≤ 281474976710656) (hF : Fit d s) (hpo : d.po.length ≤ 1048576) (hfr : d.fr.length ≤ 1048576) (hR : Lists w d s) :
  Calls Tryz.prog 69 #[.string mem, N1.val d s] w fun e w' => e = .returned (.string (undo mem d)) ∧ Below w.heap.size w w' := by
 have x0 := bx_new w d s
 have HL : Hid (∀ W, Below w.heap.size w W → Lists W d s) := fun W hb => hR.below hb
 have HO : Hid (∀ W, Below w.heap.size w W → Calls Tryz.prog 124 #[N1.val d s] W fun e w' => e = .returned (.bool (N0.loanOk d)) ∧ Below W.heap.size W w') := fun W hb => N10.impl_LoanOk d s W hF hpo hfr (hR.below hb)
 have hrs := hF.m4
 have hss := hF.m5
 clear hR hF
 cases hok : N0.loanOk d with
 | false =>
  rw [hok] at HO
  have HU : Hid (undo mem d = mem) := by
   show undo mem d = mem
   rw [undo, if_neg]
   rintro ⟨h, _⟩
   rw [hok] at h
   cases h
  rw [HU.out]
  clear HU hok
  go_enter Tryz.func69, Tryz.ntmps69
  go_wp2_with (first
   | (go_at_call 124; refine (HO.out _ x0.bel).mono ?_; rintro e w1 ⟨rfl, b1⟩; have x1 := x0.below b1)
   | (go_at_call 68; refine (B2.clone_any _ _ hms).mono ?_; rintro e w2 ⟨rfl, b2⟩; have x2 := x1.below b2))
  go_ret
  exact ⟨rfl, x2.bel⟩
 | true =>
  rw [hok] at HO
  by_cases hm : mem.size = 768
  ·have g8 : ((mem.size : Int) != 768) = false := by simp; omega
   have HU : Hid (undo mem d = undone mem d) := by
    show undo mem d = _
    rw [undo, if_pos ⟨hok, hm⟩]
   obtain ⟨-, -, -, -, -, -, hp6, -, hf2, hpp, -, -, -⟩ := N0.loanOk_is hok
   have hpg : ∀ j, j < d.pg.length → 5 ≤ d.pg.getD j 0 ∧ d.pg.getD j 0 ≤ 23 := fun j hj => (N0.pagesOk_iff.1 hpp).1 _ (List.mem_append.2 (Or.inl (N0.getD_mem hj)))
   rw [HU.out]
   have h1s : (B5.laid mem (L1.recAt d.ino) d.rc).size = 768 := by rw [laid_size]; exact hm
   have HE : Hid (undone mem d = uFr d (uPg d (B5.laid mem (L1.recAt d.ino) d.rc) d.pg.length) d.fr.length) := rfl
   have hW : Hid (∀ W, Calls Tryz.prog 131 #[.string mem, .int .i64 (L1.recAt d.ino), .string d.rc] W fun e w' => e = .returned (.string (B5.laid mem (L1.recAt d.ino) d.rc)) ∧ Below W.heap.size W w') := fun W => B5.impl_With _ _ _ _ hms hrs
   obtain ⟨m1, hm1⟩ : ∃ m1, B5.laid mem (L1.recAt d.ino) d.rc = m1 := ⟨_, rfl⟩
   rw [hm1] at h1s HE hW
   rw [HE.out]
   clear HU HE hok hm1 hpp
   go_enter Tryz.func69, Tryz.ntmps69
   go_wp2_with (go_at_call 124; refine (HO.out _ x0.bel).mono ?_; rintro e w1 ⟨rfl, b1⟩; have x1 := x0.below b1)
   have x2 := x1.below (W' := w1.drew) ((Below.refl _ _).drew)
   have c0 := x2.arg.c0
   have c3 := x2.arg.c3
   have s2 : w1.drew.cell? ⟨w.heap.size, 0, none⟩ = some (.int .i64 d.ino) ∧ w1.drew.cell? ⟨w.heap.size, 3, none⟩ = some (.string d.rc) := ⟨c0, c3⟩
   go_region_held3 (fun W => W.cell? ⟨w.heap.size, 0, none⟩ = some (.int .i64 d.ino) ∧ W.cell? ⟨w.heap.size, 3, none⟩ = some (.string d.rc)) (assumption) ((first
    | (go_at_call 125; refine (L1.impl_RecAt _ _).mono ?_; rintro e w' ⟨rfl, rfl⟩)
    | (go_at_call 131; refine (hW.out _).mono ?_; rintro e w3 ⟨rfl, b3⟩; have x3 := x2.below b3; have s3 : w3.cell? ⟨w.heap.size, 0, none⟩ = some (.int .i64 d.ino) ∧ w3.cell? ⟨w.heap.size, 3, none⟩ = some (.string d.rc) := ⟨x3.arg.c0, x3.arg.c3⟩)))
   have c4 := x3.arg.c4
   clear s3 s2 c0 c3 x2 x1 b1 b3 x0
   go_wp2
   go_loopw [0, 29] (fun v i w' => ∃ k : Nat, k ≤ d.pg.length ∧ i = .int .i64 k ∧ v = .string (uPg d m1 k) ∧ Bx w d s w') (fun _ i _ => d.pg.length - (intOf i).toNat)
   case atStart => exact ⟨0, Nat.zero_le _, rfl, rfl, x3⟩
   case round =>
    obtain ⟨k, hk, rfl, rfl, xr⟩ := hrel
    have hus := uPg_size d m1 k
    by_cases hlt : k < d.pg.length
    ·obtain ⟨b, off, hab, _, hcell⟩ := (HL.out _ xr.bel).r1.get hlt
     have y1 := hcell k hlt
     have hz := hpg k hlt
     have HS : Hid (B5.laid (uPg d m1 k) (d.pg.getD k 0 * 32) (B2.part d.sav ((k : Int) * 32) 32) = uPg d m1 (k + 1)) := rfl
     obtain ⟨z, ez⟩ : ∃ z, d.pg.getD k 0 = z := ⟨_, rfl⟩
     rw [ez] at y1 hz HS
     rw [hab]
     have c5 := xr.arg.c5
     have e1 : (0 : Int) ≤ (k : Int) := by omega
     have e2 : (k : Int) < (d.pg.length : Int) := by omega
     have hpt : Hid (∀ W, Calls Tryz.prog 82 #[.string d.sav, .int .i64 ((k : Int) * 32), .int .i64 32] W fun e w' => e = .returned (.string (B2.part d.sav ((k : Int) * 32) 32)) ∧ Below W.heap.size W w') := fun W => B2.impl_Part _ _ _ _ hss
     have hwt : Hid (∀ W, Calls Tryz.prog 131 #[.string (uPg d m1 k), .int .i64 (z * 32), .string (B2.part d.sav ((k : Int) * 32) 32)] W fun e w' => e = .returned (.string (B5.laid (uPg d m1 k) (z * 32) (B2.part d.sav ((k : Int) * 32) 32))) ∧ Below W.heap.size W w') := fun W => B5.impl_With _ _ _ _ (by rw [hus]; omega) (Nat.le_trans (B2.part_size _ _ _) hss)
     clear ez hcell hus
     go_wp2_with (first
      | (go_at_call 82; refine (hpt.out _).mono ?_; rintro e w4 ⟨rfl, b4⟩; have x4 := xr.below b4)
      | (go_at_call 131; refine (hwt.out _).mono ?_; rintro e w5 ⟨rfl, b5⟩; have x5 := x4.below b5))
     go_roundw
     case rel => exact ⟨k + 1, by omega, by go_num, by rw [HS.out], x5⟩
     case measure => simp [intOf]; omega
    ·obtain rfl : k = d.pg.length := by omega
     have c7 := xr.arg.c7
     obtain ⟨m2, hm2⟩ : ∃ m2, uPg d m1 d.pg.length = m2 := ⟨_, rfl⟩
     have HM2 : Hid (uPg d m1 d.pg.length = m2) := hm2
     rw [hm2] at hus ⊢
     clear hm2 x3
     go_wp2
     go_loopw [0, 47] (fun v i w' => ∃ k : Nat, k ≤ d.fr.length ∧ i = .int .i64 k ∧ v = .string (uFr d m2 k) ∧ Bx w d s w') (fun _ i _ => d.fr.length - (intOf i).toNat)
     case atStart => exact ⟨0, Nat.zero_le _, rfl, rfl, xr⟩
     case round =>
      rename_i wr2
      obtain ⟨j, hj, rfl, rfl, xq⟩ := hrel
      have hvs := uFr_size d m2 j
      by_cases hlt2 : j < d.fr.length
      ·obtain ⟨b, off, hab, _, hcell⟩ := (HL.out _ xq.bel).r3.get hlt2
       have y1 := hcell j hlt2
       have HS : Hid (B5.laid (uFr d m2 j) (L1.recAt (d.fr.getD j 0)) (B4.zeros 16) = uFr d m2 (j + 1)) := rfl
       obtain ⟨z, ez⟩ : ∃ z, d.fr.getD j 0 = z := ⟨_, rfl⟩
       rw [ez] at y1 HS
       rw [hab]
       have e1 : (0 : Int) ≤ (j : Int) := by omega
       have e2 : (j : Int) < (d.fr.length : Int) := by omega
       have hwt : Hid (∀ W, Calls Tryz.prog 131 #[.string (uFr d m2 j), .int .i64 (L1.recAt z), .string (B4.zeros 16)] W fun e w' => e = .returned (.string (B5.laid (uFr d m2 j) (L1.recAt z) (B4.zeros 16))) ∧ Below W.heap.size W w') := fun W => B5.impl_With _ _ _ _ (by rw [hvs]; omega) zeros_le
       clear ez hcell hvs
       go_wp2_with (first
        | (go_at_call 125; refine (L1.impl_RecAt _ _).mono ?_; rintro e w' ⟨rfl, rfl⟩)
        | (go_at_call 132; refine (B4.impl_Zeros _ _).mono ?_; rintro e w6 ⟨rfl, b6⟩; have x6 := xq.below b6)
        | (go_at_call 131; refine (hwt.out _).mono ?_; rintro e w7 ⟨rfl, b7⟩; have x7 := x6.below b7))
       go_roundw
       case rel => exact ⟨j + 1, by omega, by go_num, by rw [HS.out], x7⟩
       case measure => simp [intOf]; omega
      ·obtain rfl : j = d.fr.length := by omega
       go_wp2
       go_ret
       exact ⟨by rw [HM2.out]; rfl, xq.bel⟩
  ·have g8 : ((mem.size : Int) != 768) = true := by simp; omega
   have HU : Hid (undo mem d = mem) := by
    show undo mem d = mem
    rw [undo, if_neg]
    rintro ⟨_, h⟩
    exact hm h
   rw [HU.out]
   clear HU hok hm
   go_enter Tryz.func69, Tryz.ntmps69
   go_wp2_with (first
    | (go_at_call 124; refine (HO.out _ x0.bel).mono ?_; rintro e w1 ⟨rfl, b1⟩; have x1 := x0.below b1)
    | (go_at_call 68; refine (B2.clone_any _ _ hms).mono ?_; rintro e w2 ⟨rfl, b2⟩; have x2 := x1.below b2))
   go_ret
   exact ⟨rfl, x2.bel⟩
end Go.Proofs.YtljnkicgahepfaaGreatDoor.N13
namespace Go.Proofs.YtljnkicgahepfaaGreatDoor.N14
open Go.ChangeShapes Go.WideShapes Go.ChangeAt Go.RowKit
open N0 (Ln)
open N1 (Sl Lists Fit LB lb_new)
open N13 (uPg uFr undone undo uPg_size uFr_size laid_size zeros_le Bx bx_new)
set_option maxHeartbeats 4000000 in
theorem spec_Undo (mem : ByteArray) (d : Ln) (s : Sl) (w : World) (hms : mem.size ≤ 281474976710656) (hF : Fit d s) (hpo : d.po.length ≤ 1048576) (hfr : d.fr.length ≤ 1048576) (hR : Lists w d s) :
  Calls Tryz.prog 40 #[.string mem, N1.val d s] w fun e w' => e = .returned (.string (undo mem d)) ∧ Below w.heap.size w w' := by
 have x0 := bx_new w d s
 have HL : Hid (∀ W, Below w.heap.size w W → Lists W d s) := fun W hb => hR.below hb
 have HO : Hid (∀ W, Below w.heap.size w W → Calls Tryz.prog 108 #[N1.val d s] W fun e w' => e = .returned (.bool (N0.loanOk d)) ∧ Below W.heap.size W w') := fun W hb => N11.spec_LoanOk d s W hF hpo hfr (hR.below hb)
 have hrs := hF.m4
 have hss := hF.m5
 clear hR hF
 cases hok : N0.loanOk d with
 | false =>
  rw [hok] at HO
  have HU : Hid (undo mem d = mem) := by
   show undo mem d = mem
   rw [undo, if_neg]
   rintro ⟨h, _⟩
   rw [hok] at h
   cases h
  rw [HU.out]
  clear HU hok
  go_enter Tryz.func40, Tryz.ntmps40
  go_wp2_with (go_at_call 108; refine (HO.out _ x0.bel).mono ?_; rintro e w1 ⟨rfl, b1⟩; have x1 := x0.below b1)
  go_ret
  exact ⟨rfl, x1.bel⟩
 | true =>
  rw [hok] at HO
  by_cases hm : mem.size = 768
  ·have g8 : ((mem.size : Int) != 768) = false := by simp; omega
   have HU : Hid (undo mem d = undone mem d) := by
    show undo mem d = _
    rw [undo, if_pos ⟨hok, hm⟩]
   obtain ⟨-, -, -, -, -, -, hp6, -, hf2, hpp, -, -, -⟩ := N0.loanOk_is hok
   have hpg : ∀ j, j < d.pg.length → 5 ≤ d.pg.getD j 0 ∧ d.pg.getD j 0 ≤ 23 := fun j hj => (N0.pagesOk_iff.1 hpp).1 _ (List.mem_append.2 (Or.inl (N0.getD_mem hj)))
   rw [HU.out]
   have h1s : (B5.laid mem (L1.recAt d.ino) d.rc).size = 768 := by rw [laid_size]; exact hm
   have HE : Hid (undone mem d = uFr d (uPg d (B5.laid mem (L1.recAt d.ino) d.rc) d.pg.length) d.fr.length) := rfl
   have hW : Hid (∀ W, Calls Tryz.prog 97 #[.string mem, .int .i64 (L1.recAt d.ino), .string d.rc] W fun e w' => e = .returned (.string (B5.laid mem (L1.recAt d.ino) d.rc)) ∧ ∃ n, w' = W.drewN n) := fun W => B5.spec_With _ _ _ _ hms hrs
   obtain ⟨m1, hm1⟩ : ∃ m1, B5.laid mem (L1.recAt d.ino) d.rc = m1 := ⟨_, rfl⟩
   rw [hm1] at h1s HE hW
   rw [HE.out]
   clear HU HE hok hm1 hpp
   go_enter Tryz.func40, Tryz.ntmps40
   go_wp2_with (go_at_call 108; refine (HO.out _ x0.bel).mono ?_; rintro e w1 ⟨rfl, b1⟩; have x1 := x0.below b1; have c0 := x1.arg.c0; have c3 := x1.arg.c3)
   go_quiet ((first
    | (go_at_call 109; exact Calls.quiet_of_same (L1.spec_RecAt _ _))
    | (go_at_call 97; exact Calls.quiet_of (hW.out _))))
   have x3 := x1.drewN nq
   obtain ⟨w3, hw3⟩ : ∃ w3, w1.drewN nq = w3 := ⟨_, rfl⟩
   rw [hw3] at x3 ⊢
   clear c0 c3 x1 b1 x0 hw3
   go_wp2
   go_loopw [0, 5] (fun v i w' => ∃ k : Nat, k ≤ d.pg.length ∧ i = .int .i64 k ∧ v = .string (uPg d m1 k) ∧ Bx w d s w') (fun _ i _ => d.pg.length - (intOf i).toNat)
   case atStart => exact ⟨0, Nat.zero_le _, rfl, rfl, x3⟩
   case round =>
    obtain ⟨k, hk, rfl, rfl, xr⟩ := hrel
    have hus := uPg_size d m1 k
    have c4 := xr.arg.c4
    have c5 := xr.arg.c5
    by_cases hlt : k < d.pg.length
    ·obtain ⟨b, off, hab, _, hcell⟩ := (HL.out _ xr.bel).r1.get hlt
     have y1 := hcell k hlt
     have hz := hpg k hlt
     have HS : Hid (B5.laid (uPg d m1 k) (d.pg.getD k 0 * 32) (B2.part d.sav ((k : Int) * 32) 32) = uPg d m1 (k + 1)) := rfl
     obtain ⟨z, ez⟩ : ∃ z, d.pg.getD k 0 = z := ⟨_, rfl⟩
     rw [ez] at y1 hz HS
     rw [hab] at c4
     clear hab
     have e1 : (0 : Int) ≤ (k : Int) := by omega
     have e2 : (k : Int) < (d.pg.length : Int) := by omega
     have hpt : Hid (∀ W, Calls Tryz.prog 110 #[.string d.sav, .int .i64 (k : Int)] W fun e w' => e = .returned (.string (B2.part d.sav ((k : Int) * 32) 32)) ∧ w' = W) := fun W => N13.l03Page0 _ _ _ hss (by omega)
     have hwt : Hid (∀ W, Calls Tryz.prog 97 #[.string (uPg d m1 k), .int .i64 (z * 32), .string (B2.part d.sav ((k : Int) * 32) 32)] W fun e w' => e = .returned (.string (B5.laid (uPg d m1 k) (z * 32) (B2.part d.sav ((k : Int) * 32) 32))) ∧ ∃ n, w' = W.drewN n) := fun W => B5.spec_With _ _ _ _ (by rw [hus]; omega) (Nat.le_trans (B2.part_size _ _ _) hss)
     clear ez hcell hus
     go_wp2
     go_quiet ((first
      | (go_at_call 110; exact Calls.quiet_of_same (hpt.out _))
      | (go_at_call 97; exact Calls.quiet_of (hwt.out _))))
     have x5 := xr.drewN nq
     go_wp2
     go_roundw
     case rel => exact ⟨k + 1, by omega, by go_num, by rw [HS.out], x5⟩
     case measure => simp [intOf]; omega
    ·obtain rfl : k = d.pg.length := by omega
     have e9 : decide ((d.pg.length : Int) < (d.pg.length : Int)) = false := by simp
     obtain ⟨m2, hm2⟩ : ∃ m2, uPg d m1 d.pg.length = m2 := ⟨_, rfl⟩
     have HM2 : Hid (uPg d m1 d.pg.length = m2) := hm2
     rw [hm2] at hus ⊢
     clear hm2 x3 c5
     go_wp2
     go_loopw [0, 6] (fun v i w' => ∃ k : Nat, k ≤ d.fr.length ∧ i = .int .i64 k ∧ v = .string (uFr d m2 k) ∧ Bx w d s w') (fun _ i _ => d.fr.length - (intOf i).toNat)
     case atStart => exact ⟨0, Nat.zero_le _, rfl, rfl, xr⟩
     case round =>
      rename_i wr2
      obtain ⟨j, hj, rfl, rfl, xq⟩ := hrel
      have hvs := uFr_size d m2 j
      have c7 := xq.arg.c7
      by_cases hlt2 : j < d.fr.length
      ·obtain ⟨b, off, hab, _, hcell⟩ := (HL.out _ xq.bel).r3.get hlt2
       have y1 := hcell j hlt2
       have HS : Hid (B5.laid (uFr d m2 j) (L1.recAt (d.fr.getD j 0)) (B4.zeros 16) = uFr d m2 (j + 1)) := rfl
       obtain ⟨z, ez⟩ : ∃ z, d.fr.getD j 0 = z := ⟨_, rfl⟩
       rw [ez] at y1 HS
       rw [hab] at c7
       clear hab
       have e1 : (0 : Int) ≤ (j : Int) := by omega
       have e2 : (j : Int) < (d.fr.length : Int) := by omega
       have hwt : Hid (∀ W, Calls Tryz.prog 97 #[.string (uFr d m2 j), .int .i64 (L1.recAt z), .string (B4.zeros 16)] W fun e w' => e = .returned (.string (B5.laid (uFr d m2 j) (L1.recAt z) (B4.zeros 16))) ∧ ∃ n, w' = W.drewN n) := fun W => B5.spec_With _ _ _ _ (by rw [hvs]; omega) zeros_le
       clear ez hcell hvs
       go_wp2_with (first
        | (go_at_call 109; refine (L1.spec_RecAt _ _).mono ?_; rintro e w' ⟨rfl, rfl⟩)
        | (go_at_call 111; refine (B4.spec_Zeros _ _).mono ?_; rintro e w' ⟨rfl, rfl⟩)
        | (go_at_call 97; refine (hwt.out _).mono ?_; rintro e w7 ⟨rfl, m7, rfl⟩; have x7 := xq.drewN m7))
       go_roundw
       case rel => exact ⟨j + 1, by omega, by go_num, by rw [HS.out], x7⟩
       case measure => simp [intOf]; omega
      ·obtain rfl : j = d.fr.length := by omega
       have e8 : decide ((d.fr.length : Int) < (d.fr.length : Int)) = false := by simp
       go_wp2
       go_ret
       exact ⟨by rw [HM2.out]; rfl, xq.bel⟩
  ·have g8 : ((mem.size : Int) != 768) = true := by simp; omega
   have HU : Hid (undo mem d = mem) := by
    show undo mem d = mem
    rw [undo, if_neg]
    rintro ⟨_, h⟩
    exact hm h
   rw [HU.out]
   clear HU hok hm
   go_enter Tryz.func40, Tryz.ntmps40
   go_wp2_with (go_at_call 108; refine (HO.out _ x0.bel).mono ?_; rintro e w1 ⟨rfl, b1⟩; have x1 := x0.below b1)
   go_ret
   exact ⟨rfl, x1.bel⟩
end Go.Proofs.YtljnkicgahepfaaGreatDoor.N14
namespace Go.Proofs.YtljnkicgahepfaaGreatDoor.Z4
open Go.ChangeShapes Go.WideShapes Go.ChangeAt Go.RowKit
open N0 (Ln)
open N1 (Sl Fit Lists val)
open N13 (undo uPg_size uFr_size laid_size)
open Z0 (dat Row Lns Kp kval kvals)
theorem undo_size (m : ByteArray) (d : Ln) : (undo m d).size = m.size := by
 unfold undo
 split
 ·rw [N13.undone, uFr_size, uPg_size, laid_size]
 ·rfl
def unAll (ds : List Ln) (m : ByteArray) : Nat → ByteArray
 | 0 => m
 | k + 1 => undo (unAll ds m k) (dat ds k)
theorem unAll_size (ds : List Ln) (m : ByteArray) : ∀ k, (unAll ds m k).size = m.size
 | 0 => rfl
 | k + 1 => by rw [unAll, undo_size, unAll_size ds m k]
def truth (k : Kp) : ByteArray := unAll k.ds k.mem k.ds.length
structure Bk (w : World) (k : Kp) (a : Option Addr) (c : Nat) (W : World) : Prop where
 arg : K0.Blk w.heap.size (kvals k a c) W
 bel : Below w.heap.size w W
variable {w W W' : World} {k : Kp} {a : Option Addr} {c : Nat}
theorem Bk.below (h : Bk w k a c W) (hb : Below W.heap.size W W') : Bk w k a c W' := ⟨h.arg.below hb, h.bel.trans (hb.mono h.bel.size)⟩
theorem bk_new (w : World) (k : Kp) (a : Option Addr) (c : Nat) : Bk w k a c (w.alloc (.cells #[.string k.mem, .string k.dur, .slice a k.ds.length c, .int .i64 k.ck] 28)) := ⟨K0.blk_new (kvals k a c) w 28, K0.below_new _ _⟩
def Fits (ds : List Ln) (ss : Nat → Sl) : Prop := ∀ j, j < ds.length → Fit (dat ds j) (ss j) ∧ (dat ds j).po.length ≤ 1048576 ∧ (dat ds j).fr.length ≤ 1048576
set_option maxHeartbeats 4000000 in
theorem spec_Truth (k : Kp) (a : Option Addr) (c : Nat) (ss : Nat → Sl) (w : World) (hms : k.mem.size ≤ 281474976710656) (hn : k.ds.length ≤ 1048576) (hF : Fits k.ds ss) (hR : Lns w a k.ds ss) :
  Calls Tryz.prog 42 #[kval k a c] w fun e w' => e = .returned (.string (truth k)) ∧ Below w.heap.size w w' := by
 have x0 := bk_new w k a c
 have HL : Hid (∀ W, Below w.heap.size w W → Lns W a k.ds ss) := fun W hb => hR.below hb
 have HT : Hid (truth k = unAll k.ds k.mem k.ds.length) := rfl
 have HF : Hid (Fits k.ds ss) := hF
 clear hR hF
 go_enter Tryz.func42, Tryz.ntmps42
 go_wp2
 go_loopw [3, 4] (fun v i w' => ∃ j : Nat, j ≤ k.ds.length ∧ i = .int .i64 j ∧ v = .string (unAll k.ds k.mem j) ∧ Bk w k a c w') (fun _ i _ => k.ds.length - (intOf i).toNat)
 case atStart => exact ⟨0, Nat.zero_le _, rfl, rfl, x0⟩
 case round =>
  obtain ⟨j, hj, rfl, rfl, xr⟩ := hrel
  clear x0
  have hus := unAll_size k.ds k.mem j
  have c2 := xr.arg.c2
  by_cases hlt : j < k.ds.length
  ·have ls := (HL.out _ xr.bel).sub j hlt
   obtain ⟨hf, hpo, hfr⟩ := HF.out j hlt
   obtain ⟨b, off, hab, hlt0, hc⟩ := (HL.out _ xr.bel).row.get hlt
   obtain ⟨y0, y1, y2, y3, y4, y5, y6, y7⟩ := hc j hlt
   have HS : Hid (undo (unAll k.ds k.mem j) (dat k.ds j) = unAll k.ds k.mem (j + 1)) := rfl
   obtain ⟨d, ed⟩ : ∃ d, dat k.ds j = d := ⟨_, rfl⟩
   obtain ⟨s, es⟩ : ∃ s, ss j = s := ⟨_, rfl⟩
   rw [ed, es] at ls hf
   rw [ed] at y0 y1 y2 y3 y4 y5 y6 y7 HS hpo hfr
   rw [es] at y4 y6 y7
   rw [hab] at c2
   clear hab
   have e1 : (0 : Int) ≤ (j : Int) := by omega
   have e2 : (j : Int) < (k.ds.length : Int) := by omega
   have HU : Hid (Calls Tryz.prog 40 #[.string (unAll k.ds k.mem j), val d s] wr fun e w' => e = .returned (.string (undo (unAll k.ds k.mem j) d)) ∧ Below wr.heap.size wr w') := N14.spec_Undo _ d s wr (by omega) hf hpo hfr ls
   clear ed es hc ls hf
   go_wp2_with (go_at_call 40; refine HU.out.mono ?_; rintro e w1 ⟨rfl, b1⟩; have x1 := xr.below b1)
   go_roundw
   case rel => exact ⟨j + 1, by omega, by go_num, by rw [HS.out], x1⟩
   case measure => simp [intOf]; omega
  ·obtain rfl : j = k.ds.length := by omega
   have e9 : decide ((k.ds.length : Int) < (k.ds.length : Int)) = false := by simp
   go_wp2
   go_ret
   exact ⟨by rw [HT.out]; rfl, xr.bel⟩
set_option maxHeartbeats 4000000 in
theorem impl_Truth (k : Kp) (a : Option Addr) (c : Nat) (ss : Nat → Sl) (w : World) (hms : k.mem.size ≤ 281474976710656) (hn : k.ds.length ≤ 1048576) (hF : Fits k.ds ss) (hR : Lns w a k.ds ss) :
  Calls Tryz.prog 16 #[kval k a c] w fun e w' => e = .returned (.string (truth k)) ∧ Below w.heap.size w w' := by
 have x0 := bk_new w k a c
 have HL : Hid (∀ W, Below w.heap.size w W → Lns W a k.ds ss) := fun W hb => hR.below hb
 have HT : Hid (truth k = unAll k.ds k.mem k.ds.length) := rfl
 have HF : Hid (Fits k.ds ss) := hF
 clear hR hF
 go_enter Tryz.func16, Tryz.ntmps16
 go_wp2_with (go_at_call 68; refine (B2.clone_any _ _ hms).mono ?_; rintro e w2 ⟨rfl, b2⟩; have x2 := x0.below b2; have c2 := x2.arg.c2)
 go_loopw [3, 13] (fun v i w' => ∃ j : Nat, j ≤ k.ds.length ∧ i = .int .i64 j ∧ v = .string (unAll k.ds k.mem j) ∧ Bk w k a c w') (fun _ i _ => k.ds.length - (intOf i).toNat)
 case atStart => exact ⟨0, Nat.zero_le _, rfl, rfl, x2⟩
 case round =>
  obtain ⟨j, hj, rfl, rfl, xr⟩ := hrel
  clear x0 x2 c2 b2
  have hus := unAll_size k.ds k.mem j
  by_cases hlt : j < k.ds.length
  ·have ls := (HL.out _ xr.bel).sub j hlt
   obtain ⟨hf, hpo, hfr⟩ := HF.out j hlt
   obtain ⟨b, off, hab, hlt0, hc⟩ := (HL.out _ xr.bel).row.get hlt
   obtain ⟨y0, y1, y2, y3, y4, y5, y6, y7⟩ := hc j hlt
   have HS : Hid (undo (unAll k.ds k.mem j) (dat k.ds j) = unAll k.ds k.mem (j + 1)) := rfl
   obtain ⟨d, ed⟩ : ∃ d, dat k.ds j = d := ⟨_, rfl⟩
   obtain ⟨s, es⟩ : ∃ s, ss j = s := ⟨_, rfl⟩
   rw [ed, es] at ls hf
   rw [ed] at y0 y1 y2 y3 y4 y5 y6 y7 HS hpo hfr
   rw [es] at y4 y6 y7
   rw [hab]
   have e1 : (0 : Int) ≤ (j : Int) := by omega
   have e2 : (j : Int) < (k.ds.length : Int) := by omega
   have HU : Hid (∀ W, Below wr.heap.size wr W → Calls Tryz.prog 69 #[.string (unAll k.ds k.mem j), val d s] W fun e w' => e = .returned (.string (undo (unAll k.ds k.mem j) d)) ∧ Below W.heap.size W w') := fun W hb => N13.impl_Undo _ d s W (by omega) hf hpo hfr (ls.below hb)
   clear ed es hc ls hf
   have hal := K0.below_new wr (.cells #[.int .i64 d.ino, .int .i64 d.cl, .int .i64 d.un, .string d.rc, .slice s.a1 d.pg.length s.c1, .string d.sav, .slice s.a2 d.po.length s.c2, .slice s.a3 d.fr.length s.c3] 66)
   have x5 := xr.below hal
   go_wp2_with (go_at_call 69; refine (HU.out _ hal).mono ?_; rintro e w1 ⟨rfl, b1⟩; have x6 := x5.below b1)
   go_roundw
   case rel => exact ⟨j + 1, by omega, by go_num, by rw [HS.out], hab ▸ x6⟩
   case measure => simp [intOf]; omega
  ·obtain rfl : j = k.ds.length := by omega
   go_wp2
   go_ret
   exact ⟨by rw [HT.out]; rfl, xr.bel⟩
end Go.Proofs.YtljnkicgahepfaaGreatDoor.Z4
namespace Go.Proofs.YtljnkicgahepfaaGreatDoor.D0
open Go.ChangeShapes Go.WideShapes Go.ChangeAt Go.RowKit
open N0 (Ln)
open N5 (pv)
open P1 (ret_bool)
open J0 (IBuf Own)
theorem clone (a : Option Addr) (c : Nat) (zs : List Int) (w : World) (hn : zs.length ≤ 1000) (hR : P0.Row w a zs) :
  Calls Tryz.prog 128 #[.slice a zs.length c] w fun e w' => ∃ a' c', e = .returned (.slice a' zs.length c') ∧ IBuf w.heap.size w' a' zs.length c' zs ∧ Below w.heap.size w w' := by
 have qn : ∀ (w : World) (a : Option Addr) (n c n' c' : Nat), (binOp .eql 29 (.slice a n c) (.slice none n' c')).run Tryz.prog w = .ok (.bool a.isNone) w := fun w a n c n' c' => Lib.run_eql_slice_nil w _ _ a n c n' c' Tryz.underlying29
 cases a with
 | none =>
  have h0 : zs = [] := by
   rcases hR with h | ⟨b, off, h, _⟩
   ·exact h
   ·cases h
  subst h0
  go_enter Tryz.func128, Tryz.ntmps128
  go_wp2
  go_ret
  exact ⟨none, 0, rfl, J0.ibuf_nil _, Below.refl _ _⟩
 | some p =>
  have b0 := J0.ibuf_made w (Nat.le_refl _)
  have l0 := K0.below_new w (.cells #[] 3)
  have r0 := hR.below l0
  clear hR
  go_enter Tryz.func128, Tryz.ntmps128
  go_wp2_with (at_builtin; refine Q1.append_rows rfl (.tmp 5) (.tmp 6) rfl b0 _ _ zs (by rfl) (by rfl) r0 (by omega) l0.size ?_; intro a1 c1 w1 b1 l1)
  go_ret
  exact ⟨a1, c1, by simp, by simpa using b1, l0.trans l1⟩
end Go.Proofs.YtljnkicgahepfaaGreatDoor.D0
namespace Go.Proofs.YtljnkicgahepfaaGreatDoor.D1
open Go.ChangeShapes Go.WideShapes Go.ChangeAt Go.RowKit
variable {w W W' : World} {B : Nat} {a : Option Addr}
theorem cells6 {x0 x1 x2 x3 x4 x5 : Value} (h : K0.Blk B [x0, x1, x2, x3, x4, x5] W) : W.cell? ⟨B, 0, none⟩ = some x0 ∧ W.cell? ⟨B, 1, none⟩ = some x1 ∧ W.cell? ⟨B, 2, none⟩ = some x2 ∧ W.cell? ⟨B, 3, none⟩ = some x3 ∧ W.cell? ⟨B, 4, none⟩ = some x4 ∧ W.cell? ⟨B, 5, none⟩ = some x5 := ⟨h.cell 0 (by simp), h.cell 1 (by simp), h.cell 2 (by simp), h.cell 3 (by simp), h.cell 4 (by simp), h.cell 5 (by simp)⟩
theorem free6 {x0 x1 x2 x3 x4 x5 : Value} (h : K0.Blk B [x0, x1, x2, x3, x4, x5] W) : W.frozen? ⟨B, 0, none⟩ = false ∧ W.frozen? ⟨B, 1, none⟩ = false ∧ W.frozen? ⟨B, 2, none⟩ = false ∧ W.frozen? ⟨B, 3, none⟩ = false ∧ W.frozen? ⟨B, 4, none⟩ = false ∧ W.frozen? ⟨B, 5, none⟩ = false := ⟨h.free 0 (by simp), h.free 1 (by simp), h.free 2 (by simp), h.free 3 (by simp), h.free 4 (by simp), h.free 5 (by simp)⟩
abbrev W6 (W : World) (B : Nat) (y0 y1 y2 y3 y4 y5 : Value) : World := ((((((W.setCell ⟨B, 0, none⟩ y0).setCell ⟨B, 1, none⟩ y1).setCell ⟨B, 2, none⟩ y2).setCell ⟨B, 3, none⟩ y3).setCell ⟨B, 4, none⟩ y4).setCell ⟨B, 5, none⟩ y5)
theorem put6 {x0 x1 x2 x3 x4 x5 : Value} (h : K0.Blk B [x0, x1, x2, x3, x4, x5] W) (y0 y1 y2 y3 y4 y5 : Value) : K0.Blk B [y0, y1, y2, y3, y4, y5] (W6 W B y0 y1 y2 y3 y4 y5) := ((((((h.set 0 y0).set 1 y1).set 2 y2).set 3 y3).set 4 y4).set 5 y5)
theorem bel6 {b : Nat} (h : Below b w W) (hb : b ≤ B) (y0 y1 y2 y3 y4 y5 : Value) : Below b w (W6 W B y0 y1 y2 y3 y4 y5) := ((((((h.setCell (p := ⟨B, 0, none⟩) hb y0).setCell (p := ⟨B, 1, none⟩) hb y1).setCell (p := ⟨B, 2, none⟩) hb y2).setCell (p := ⟨B, 3, none⟩) hb y3).setCell (p := ⟨B, 4, none⟩) hb y4).setCell (p := ⟨B, 5, none⟩) hb y5)
theorem own6 {base : Nat} {zs : List Int} (h : J0.Own base W a zs) (hB : B < base) (y0 y1 y2 y3 y4 y5 : Value) : J0.Own base (W6 W B y0 y1 y2 y3 y4 y5) a zs := ((((((h.set hB 0 y0).set hB 1 y1).set hB 2 y2).set hB 3 y3).set hB 4 y4).set hB 5 y5)
theorem ownE6 {base : Nat} {es : List T0.Ent} (h : V1.OwnE base W a es) (hB : B < base) (y0 y1 y2 y3 y4 y5 : Value) : V1.OwnE base (W6 W B y0 y1 y2 y3 y4 y5) a es := (N5.ownE_set (N5.ownE_set (N5.ownE_set (N5.ownE_set (N5.ownE_set (N5.ownE_set h hB 0 y0) hB 1 y1) hB 2 y2) hB 3 y3) hB 4 y4) hB 5 y5)
abbrev nv (k o t : Int) (a : Option Addr) (n c : Nat) (x : ByteArray) (ae : Option Addr) (ne ce : Nat) : Value := .agg #[.int .i64 k, .int .i64 o, .int .i64 t, .slice a n c, .string x, .slice ae ne ce]
abbrev nvs (k o t : Int) (a : Option Addr) (n c : Nat) (x : ByteArray) (ae : Option Addr) (ne ce : Nat) : List Value := [.int .i64 k, .int .i64 o, .int .i64 t, .slice a n c, .string x, .slice ae ne ce]
def data (mem : ByteArray) (i : Int) : ByteArray := (O0.joined mem (G0.gZ (O0.recd mem i)) (G0.gZ (O0.recd mem i)).length).extract 0 (G0.gS (O0.recd mem i)).toNat
def nodeOk (mem : ByteArray) (i : Int) : Bool := G0.isI (O0.recd mem i) && (!decide (G0.gK (O0.recd mem i) = 2) || V0.isD (data mem i))
def nodeE (mem : ByteArray) (i : Int) : List T0.Ent := if G0.gK (O0.recd mem i) = 2 then V0.dE (data mem i) else []
structure ND (w : World) (k o t : Int) (a : Option Addr) (n c B : Nat) (W : World) : Prop where
 res : K0.Blk w.heap.size (nvs 0 0 0 none 0 0 ⟨#[]⟩ none 0 0) W
 nb : K0.Blk B (I0.vals k o t a n c) W
 bel : Below w.heap.size w W
theorem ND.below {k o t : Int} {n c : Nat} (h : ND w k o t a n c B W) (hb : Below W.heap.size W W') : ND w k o t a n c B W' := ⟨h.res.below hb, h.nb.below hb, h.bel.trans (hb.mono h.bel.size)⟩
abbrev w00 (w : World) : World := w.alloc (.cells #[.int .i64 0, .int .i64 0, .int .i64 0, .slice none 0 0, .string ⟨#[]⟩, .slice none 0 0] 155)
theorem nd_new {k o t : Int} {n c : Nat} (hb : Below (w00 w).heap.size (w00 w) W) : ND w k o t a n c W.heap.size (W.alloc (.cells #[.int .i64 k, .int .i64 o, .int .i64 t, .slice a n c] 143)) :=
 ⟨((K0.blk_new (nvs 0 0 0 none 0 0 ⟨#[]⟩ none 0 0) w 155).below hb).alloc _, K0.blk_new (I0.vals k o t a n c) W 143, ((K0.below_new w _).trans (hb.mono (K0.below_new w _).size)).alloc (Nat.le_trans (K0.below_new w _).size hb.size) _⟩
theorem node_cases (mem : ByteArray) (i : Int) :
  (G0.isI (O0.recd mem i) = false ∧ nodeOk mem i = false) ∨ (G0.isI (O0.recd mem i) = true ∧ (G0.gK (O0.recd mem i) != 2) = true ∧ nodeOk mem i = true ∧ nodeE mem i = []) ∨
  (G0.isI (O0.recd mem i) = true ∧ (G0.gK (O0.recd mem i) != 2) = false ∧ nodeOk mem i = V0.isD (data mem i) ∧ nodeE mem i = V0.dE (data mem i)) := by
 unfold nodeOk nodeE
 cases hI : G0.isI (O0.recd mem i) with
 | false => exact Or.inl ⟨rfl, Bool.false_and _⟩
 | true =>
  right
  by_cases h2 : G0.gK (O0.recd mem i) = 2
  ·right
   exact ⟨rfl, by simpa using h2, by rw [decide_eq_true h2, Bool.true_and, Bool.not_true, Bool.false_or], by rw [if_pos h2]⟩
  ·left
   exact ⟨rfl, by simpa using h2, by rw [decide_eq_false h2, Bool.not_false, Bool.true_or, Bool.true_and], by rw [if_neg h2]⟩
theorem data_le (mem : ByteArray) (i : Int) (hm : mem.size = 768) : (data mem i).size ≤ 281474976710656 := by
 unfold data
 rw [ByteArray.size_extract]
 cases hI : G0.isI (O0.recd mem i) with
 | true =>
  have hg := O0.got hI
  rw [O0.joined_size hm hg.2.2.2.1 _ (Nat.le_refl _)]
  have := hg.2.1
  omega
 | false =>
  rw [(G0.g_no hI).2.2.2]
  have : (O0.joined mem [] ([] : List Int).length).size = 0 := rfl
  omega
end Go.Proofs.YtljnkicgahepfaaGreatDoor.D1
namespace Go.Proofs.YtljnkicgahepfaaGreatDoor.D2
open Go.ChangeShapes Go.WideShapes Go.ChangeAt Go.RowKit
open N0 (Ln)
open N1 (Sl)
structure NW (w : World) (ts : List Value) (k o t : Int) (a : Option Addr) (n c B : Nat) (W : World) : Prop where
 box : K0.Blk w.heap.size ts W
 res : K0.Blk (w.heap.size + 1) (I0.vals 0 0 0 none 0 0) W
 nb : K0.Blk B (I0.vals k o t a n c) W
 bel : Below w.heap.size w W
variable {w W W' : World}
theorem NW.below {ts : List Value} {k o t : Int} {a : Option Addr} {n c B : Nat} (h : NW w ts k o t a n c B W) (hb : Below W.heap.size W W') : NW w ts k o t a n c B W' := ⟨h.box.below hb, h.res.below hb, h.nb.below hb, h.bel.trans (hb.mono h.bel.size)⟩
end Go.Proofs.YtljnkicgahepfaaGreatDoor.D2
namespace Go.Proofs.YtljnkicgahepfaaGreatDoor.D3
open Go.ChangeShapes Go.WideShapes Go.ChangeAt Go.RowKit
open N0 (Ln)
open N1 (Sl)
open P1 (ret_bool)
open J0 (IBuf Own)
structure En (w : World) (ts ns : List Value) (W : World) : Prop where
 box : K0.Blk w.heap.size ts W
 nb : K0.Blk (w.heap.size + 1) ns W
 bel : Below w.heap.size w W
 lt : w.heap.size + 2 ≤ W.heap.size
variable {w W W' : World} {ts ns : List Value}
theorem En.below (h : En w ts ns W) (hb : Below W.heap.size W W') : En w ts ns W' := ⟨h.box.below hb, h.nb.below hb, h.bel.trans (hb.mono h.bel.size), Nat.le_trans h.lt hb.size⟩
theorem En.keep (h : En w ts ns W) (hb : Below (w.heap.size + 2) W W') : En w ts ns W' := ⟨J0.blk_keep h.box hb (by omega), J0.blk_keep h.nb hb (by omega), h.bel.trans (hb.mono (by omega)), Nat.le_trans h.lt hb.size⟩
end Go.Proofs.YtljnkicgahepfaaGreatDoor.D3
namespace Go.Proofs.YtljnkicgahepfaaGreatDoor.D6
open Go.ChangeShapes Go.WideShapes Go.ChangeAt Go.RowKit
open N0 (Ln)
open N1 (Sl Lists Fit LB)
open N5 (oldE)
open N7 (tv tvs tObj)
open N9 (RL rl_new ln0 sl0 cells13 free13 W13 put13 other13 bel13)
open D1 (nv nvs nodeOk nodeE cells6)
structure LK (w : World) (d : Ln) (s : Sl) (ts ns : List Value) (Bt Bn : Nat) (W : World) : Prop where
 r : RL w d s W
 tb : K0.Blk Bt ts W
 nb : K0.Blk Bn ns W
 lt : w.heap.size + 2 ≤ Bt ∧ w.heap.size + 2 ≤ Bn
theorem LK.below {w W W' : World} {d : Ln} {s : Sl} {ts ns : List Value} {Bt Bn : Nat} (h : LK w d s ts ns Bt Bn W) (hb : Below W.heap.size W W') : LK w d s ts ns Bt Bn W' := ⟨h.r.below hb, h.tb.below hb, h.nb.below hb, h.lt⟩
end Go.Proofs.YtljnkicgahepfaaGreatDoor.D6
