/- The walk of laws.FnLost: it answers true, and writes new memory alone. -/
import Derived.Test.YtkpcpffpiilcpaaLst0
import Derived.Deep.DeepCutAuto
namespace Go.Proofs.Ytkpcpffpiilcpaa.U1
open Go.ChangeShapes Go.WideShapes Go.ChangeAt Go.RowKit C0 U0
open W0 (has pick pw pMem pDur)
set_option linter.unusedVariables false
set_option linter.unusedSimpArgs false

set_option maxHeartbeats 0 in
set_option maxRecDepth 100000 in
theorem walk_small (a : Option Addr) (len cap : Nat) (w : World) (hc : Given w a len) (hl : len ≤ 1048576) :
    Calls Try.prog 4 #[.slice a len cap] w fun e w' => e = .returned (.bool true) ∧ Below w.heap.size w w' := by
  have hbig : ¬ 1048576 < (len : Int) := by omega
  go_enter Try.func4, Try.ntmps4
  go_wp2_with (first
    | (go_at_call 7; refine (Q0.big_no a len cap w hbig).mono ?_; rintro e wb ⟨rfl, rfl⟩)
    | (go_at_call 23; refine (C1.draw_Power hc hl).mono ?_; rintro e w1 ⟨x, y, p, cp, zs, hx, hy, hz, hcp, rfl, hR, b1⟩; have c0 := (K0.blk_new [.string x, .string y] w1 25).c0; have c1 := (K0.blk_new [.string x, .string y] w1 25).c1)
    | (go_at_call 24; refine (W2.impl_Power x y p cp zs _ (by omega) (by omega) (by omega) (hR.alloc _)).mono ?_; rintro e w2 ⟨rfl, b2⟩; have lo := lo_new (m := pMem x y zs) (d := pDur x y zs) b1 hR b2))
  obtain ⟨m, hm⟩ : ∃ m, pMem x y zs = m := ⟨_, rfl⟩
  obtain ⟨d, hd⟩ : ∃ d, pDur x y zs = d := ⟨_, rfl⟩
  obtain ⟨Bd, hBd⟩ : ∃ B, w1.heap.size = B := ⟨_, rfl⟩
  obtain ⟨Bp, hBp⟩ : ∃ B, w2.heap.size = B := ⟨_, rfl⟩
  simp only [hm, hd, hBd, hBp] at lo ⊢
  obtain ⟨W3, hW3⟩ : ∃ W3, w2.alloc (.cells #[.string m, .string d] 25) = W3 := ⟨_, rfl⟩
  rw [hW3] at lo ⊢
  have sP : Hid (∀ W, P0.Row W p zs → Calls Try.prog 25 #[.agg #[.string x, .string y], .slice p zs.length cp] W fun e w' => e = .returned (.agg #[.string m, .string d]) ∧ Below W.heap.size W w') := fun W hW => by rw [← hm, ← hd]; exact W1.spec_Power x y p cp zs W (by omega) (by omega) (by omega) hW
  clear hW3 hBd hBp c0 c1 b1 b2 hR
  have lod := lo.drew
  have s0 := lod.four
  go_region_held3 (fun W => W.cell? ⟨Bd, 0, none⟩ = some (.string x) ∧ W.cell? ⟨Bd, 1, none⟩ = some (.string y) ∧ W.cell? ⟨Bp, 0, none⟩ = some (.string m) ∧ W.cell? ⟨Bp, 1, none⟩ = some (.string d)) (assumption) ((go_at_call 25; refine (sP.out _ lod.row).mono ?_; rintro e w4 ⟨rfl, b4⟩; have l4 := lod.below b4; have s4 := l4.four))
  obtain ⟨c0, c1, c2, c3⟩ := s4
  by_cases hok : D1.ok x y = true
  · obtain ⟨hx7, hy7⟩ := D1.ok_true hok
    have em : m = pw x y zs := by rw [← hm]; exact if_pos hok
    have ed : d = m := by rw [em, ← hd]; exact if_pos hok
    subst ed
    have hd7 : d.size = 768 := by rw [em]; exact pw_size x y zs
    have HW : Hid (∀ k : Nat, k < 96 → has zs (k : Int) = true → (B2.part d ((k : Int) * 8) 8).toList = (B2.part x ((k : Int) * 8) 8).toList) := fun k hk hh => by rw [em]; exact now_was hx7 hy7 hk hh
    have HL : Hid (∀ k : Nat, k < 96 → (has (Y0.dirty x y) (k : Int) && has zs (k : Int)) = false → (B2.part d ((k : Int) * 8) 8).toList = (B2.part y ((k : Int) * 8) 8).toList) := fun k hk hh => by rw [em]; exact now_lasts hx7 hy7 hk hh
    have iP : Hid (∀ W, P0.Row W p zs → Calls Try.prog 24 #[.agg #[.string d, .string d], .slice p zs.length cp] W fun e w' => e = .returned (.agg #[.string d, .string d]) ∧ Below W.heap.size W w') := fun W hW => (W2.impl_Power d d p cp zs W (by omega) (by omega) (by omega) hW).mono fun _ _ ⟨he, hb⟩ => ⟨by
      have hdd : D1.ok d d = true := D1.ok_mk hd7 hd7
      rw [he, show pMem d d zs = d from (if_pos hdd).trans (pw_self zs hd7), show pDur d d zs = d from (if_pos hdd).trans (pw_self zs hd7)], hb⟩
    have hzl := Y0.dirty_len x y
    have iD : Hid (∀ W, Calls Try.prog 12 #[.agg #[.string x, .string y]] W fun e w' => ∃ q c, e = .returned (.slice q (Y0.dirty x y).length c) ∧ J0.Own W.heap.size w' q (Y0.dirty x y) ∧ Below W.heap.size W w') := fun W => (Y2.impl_Dirty x y W (by omega) (by omega)).mono fun e w' ⟨q, c, he, ho, hc, hb⟩ => ⟨q, c, he, ho, hb⟩
    have sO : Hid (∀ W, Calls Try.prog 21 #[.agg #[.string x, .string y]] W fun e w' => e = .returned (.bool true) ∧ w' = W.alloc (.cells #[.string x, .string y] 25)) := fun W => (D1.spec_DevOk x y W (by unfold maxLen; omega) (by unfold maxLen; omega)).mono fun _ _ ⟨he, hb⟩ => ⟨by rw [he, hok], hb⟩
    obtain ⟨Z, hZ⟩ : ∃ Z, Y0.dirty x y = Z := ⟨_, rfl⟩
    rw [hZ] at HL hzl iD
    clear em hm hd hZ hok sP lo lod s0 b4
    go_wp2_with (first
      | (go_at_call 21; refine (sO.out _).mono ?_; rintro e w5 ⟨rfl, rfl⟩; have l5 := l4.below (K0.below_new w4 (.cells #[.string x, .string y] 25)); have c4 := l5.dev.c0; have c5 := l5.dev.c1)
      | (go_at_call 12; refine (iD.out _).mono ?_; rintro e w6 ⟨q, cq, rfl, o6, b6⟩; have l6 := l5.dirty (w3 := w4) b6 o6.row))
    clear c0 c1 c2 c3 c4 c5 l4 l5 o6 b6 iD sO
    go_loopw [7] (fun t W => ∃ k : Nat, k ≤ 96 ∧ t = .int .i64 k ∧ Lo wb Bd Bp x y d d p zs q Z W) (fun t _ => 96 - (intOf t).toNat)
    case atStart => exact ⟨0, Nat.zero_le _, rfl, l6⟩
    case round =>
      obtain ⟨k, hk, rfl, hlo⟩ := hrel
      clear l6
      by_cases hlt : k < 96
      · have e1 : (k : Int) < 96 := by omega
        have hwr : IntKind.i64.wrap ((k : Int) * 8) = (k : Int) * 8 := by rw [IntKind.wrap_i64]; omega
        have hdd : d.size ≤ 1000 := by omega
        have hZs : Z.length ≤ 1048576 := by omega
        have hzs : zs.length ≤ 1048576 := by omega
        have hod := hlo.drew
        have t0 := hod.four
        go_upto_region 13 with fail
        go_region_held3 (fun W => W.cell? ⟨Bd, 0, none⟩ = some (.string x) ∧ W.cell? ⟨Bd, 1, none⟩ = some (.string y) ∧ W.cell? ⟨Bp, 0, none⟩ = some (.string d) ∧ W.cell? ⟨Bp, 1, none⟩ = some (.string d)) (assumption) ((go_at_call 26; refine (iPart _ k (by assumption) (by assumption)).mono ?_; rintro e w7 ⟨rfl, l7⟩; have s7 := l7.four))
        have r1 := l7.row
        have r2 := l7.drt
        by_cases hA : has Z (k : Int) = true
        · by_cases hB : has zs (k : Int) = true
          · have h1 : ((B2.part d ((k : Int) * 8) 8).toList == (B2.part x ((k : Int) * 8) 8).toList) = true := by rw [HW.out k hlt hB]; simp
            go_wp2_with (go_at_call 22; refine (among _ _ _ _ _ (by assumption) (by assumption)).mono ?_; rintro e w8 ⟨rfl, rfl⟩; first | rw [hA] | rw [hB])
            go_roundw
            case rel => exact ⟨k + 1, by omega, by go_num, l7⟩
            case measure => simp [intOf]; omega
          · have hB' : has zs (k : Int) = false := by simpa using hB
            have h1 : ((B2.part d ((k : Int) * 8) 8).toList == (B2.part y ((k : Int) * 8) 8).toList) = true := by rw [HL.out k hlt (by rw [hB', Bool.and_false])]; simp
            go_wp2_with (go_at_call 22; refine (among _ _ _ _ _ (by assumption) (by assumption)).mono ?_; rintro e w8 ⟨rfl, rfl⟩; first | rw [hA] | rw [hB'])
            go_roundw
            case rel => exact ⟨k + 1, by omega, by go_num, l7⟩
            case measure => simp [intOf]; omega
        · have hA' : has Z (k : Int) = false := by simpa using hA
          have h1 : ((B2.part d ((k : Int) * 8) 8).toList == (B2.part y ((k : Int) * 8) 8).toList) = true := by rw [HL.out k hlt (by rw [hA', Bool.false_and])]; simp
          go_wp2_with (go_at_call 22; refine (among _ _ _ _ _ (by assumption) (by assumption)).mono ?_; rintro e w8 ⟨rfl, rfl⟩; rw [hA'])
          go_roundw
          case rel => exact ⟨k + 1, by omega, by go_num, l7⟩
          case measure => simp [intOf]; omega
      · obtain rfl : k = 96 := by omega
        have hod := hlo.drew
        have t0 := hod.four
        go_upto_region 16 with fail
        go_region_held3 (fun W => W.cell? ⟨Bd, 0, none⟩ = some (.string x) ∧ W.cell? ⟨Bd, 1, none⟩ = some (.string y) ∧ W.cell? ⟨Bp, 0, none⟩ = some (.string d) ∧ W.cell? ⟨Bp, 1, none⟩ = some (.string d)) (assumption) ((go_at_call 24; refine (iP.out _ hod.row).mono ?_; rintro e w7 ⟨rfl, b7⟩; have l7 := hod.below b7; have s7 := l7.four))
        go_wp2
        go_ret
        exact ⟨rfl, l7.bel⟩
  · have hok' : D1.ok x y = false := by simpa using hok
    have em : m = x := by rw [← hm]; exact if_neg hok
    have ed : d = y := by rw [← hd]; exact if_neg hok
    subst em ed
    have sO : Hid (∀ W, Calls Try.prog 21 #[.agg #[.string m, .string d]] W fun e w' => e = .returned (.bool false) ∧ w' = W.alloc (.cells #[.string m, .string d] 25)) := fun W => (D1.spec_DevOk m d W (by unfold maxLen; omega) (by unfold maxLen; omega)).mono fun _ _ ⟨he, hb⟩ => ⟨by rw [he, hok'], hb⟩
    clear hm hd hok hok' sP lo lod s0 b4
    go_wp2_with (go_at_call 21; refine (sO.out _).mono ?_; rintro e w5 ⟨rfl, rfl⟩; have l5 := l4.below (K0.below_new w4 (.cells #[.string m, .string d] 25)); have c4 := l5.dev.c0; have c5 := l5.dev.c1; have c6 := l5.cut.c0; have c7 := l5.cut.c1)
    go_ret
    exact ⟨rfl, l5.bel⟩

theorem walk (a : Option Addr) (len cap : Nat) (w : World) (hc : Given w a len) : Calls Try.prog 4 #[.slice a len cap] w fun e w' => e = .returned (.bool true) ∧ Below w.heap.size w w' := by
  by_cases hl : 1048576 < (len : Int)
  · go_enter Try.func4, Try.ntmps4
    go_wp2_with (go_at_call 7; refine (Q0.big_yes a len cap w hl).mono ?_; rintro e w1 ⟨rfl, rfl⟩)
    go_ret
    exact ⟨rfl, Below.refl _ _⟩
  · exact walk_small a len cap w hc (by omega)
end Go.Proofs.Ytkpcpffpiilcpaa.U1
