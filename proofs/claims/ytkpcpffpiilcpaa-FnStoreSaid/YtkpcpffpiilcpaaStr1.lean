/- The walk of laws.FnStore: it answers true, and writes new memory alone. -/
import Derived.Test.YtkpcpffpiilcpaaStr0
import Derived.Test.YtkpcpffpiilcpaaDrt3
import Derived.Deep.DeepCutAuto
namespace Go.Proofs.Ytkpcpffpiilcpaa.S1
open Go.ChangeShapes Go.WideShapes Go.ChangeAt Go.RowKit C0 S0
open W0 (has)
set_option linter.unusedVariables false
set_option linter.unusedSimpArgs false

theorem tr {w wk w' : World} (f : Below w.heap.size w wk) (b : Below wk.heap.size wk w') : Below w.heap.size w w' := f.trans (b.mono f.size)

set_option maxHeartbeats 0 in
set_option maxRecDepth 100000 in
theorem walk_small (a : Option Addr) (len cap : Nat) (w : World) (hc : Given w a len) (hl : len ≤ 1048576) :
    Calls Try.prog 3 #[.slice a len cap] w fun e w' => e = .returned (.bool true) ∧ Below w.heap.size w w' := by
  have hbig : ¬ 1048576 < (len : Int) := by omega
  go_enter Try.func3, Try.ntmps3
  go_wp2_with (first
    | (go_at_call 7; refine (Q0.big_no a len cap w hbig).mono ?_; rintro e wb ⟨rfl, rfl⟩)
    | (go_at_call 8; refine (C1.draw_Store hc hl).mono ?_; rintro e w1 ⟨x, y, i, t, hx, hy, wi, ht, rfl, b1⟩; have k1 := K0.blk_new [.string x, .string y] w1 25; have c0 := k1.c0; have c1 := k1.c1; have f1 := tr b1 (K0.below_new w1 (.cells #[.string x, .string y] 25)))
    | (go_at_call 9; refine (D2.impl_Store x y i t _ (by omega) (by omega) (by omega)).mono ?_; rintro e w2 ⟨rfl, b2⟩; have k1b := (k1.below b2).alloc (.cells #[.string (D2.stored x y i t), .string y] 25); have k2 := K0.blk_new [.string (D2.stored x y i t), .string y] w2 25; have f2 := tr (tr f1 b2) (K0.below_new w2 (.cells #[.string (D2.stored x y i t), .string y] 25)))
    | (go_at_call 10; refine (C1.draw_Flush (hc.below f2) hl).mono ?_; rintro e w3 ⟨u, v, fa, fn, hu, hv, wa, wn, rfl, b3⟩; have k1c := (k1b.below b3).alloc (.cells #[.string u, .string v] 25); have k2c := (k2.below b3).alloc (.cells #[.string u, .string v] 25); have k3 := K0.blk_new [.string u, .string v] w3 25; have d0 := k3.c0; have d1 := k3.c1; have f3 := tr (tr f2 b3) (K0.below_new w3 (.cells #[.string u, .string v] 25)))
    | (go_at_call 11; refine (F4.impl_Flush u v fa fn _ (by omega) (by omega)).mono ?_; rintro e w4 ⟨rfl, b4⟩; have k1d := (k1c.below b4).alloc (.cells #[.string u, .string (F3.flushed u v fa fn)] 25); have k2d := (k2c.below b4).alloc (.cells #[.string u, .string (F3.flushed u v fa fn)] 25); have k3d := (k3.below b4).alloc (.cells #[.string u, .string (F3.flushed u v fa fn)] 25); have k4 := K0.blk_new [.string u, .string (F3.flushed u v fa fn)] w4 25; have e0 := k3d.c0; have e1 := k3d.c1; have f4 := tr (tr f3 b4) (K0.below_new w4 (.cells #[.string u, .string (F3.flushed u v fa fn)] 25)))
    | (go_at_call 12; refine (Y2.impl_Dirty u v _ (by omega) (by omega)).mono ?_; rintro e w5 ⟨q, cq, rfl, o5, lq, b5⟩; have k1e := k1d.below b5; have k2e := k2d.below b5; have k3e := k3d.below b5; have k4e := k4.below b5; have f5 := tr f4 b5; have r5 := o5.row)
    | (go_at_call 13; refine (C1.draw_DevOf (hc.below f5) hl).mono ?_; rintro e w6 ⟨r, hr, rfl, b6⟩; have k1f := k1e.below b6; have k2f := k2e.below b6; have k3f := k3e.below b6; have k4f := k4e.below b6; have f6 := tr f5 b6; have r6 := r5.below b6; obtain ⟨y1, y2, ob, hdo⟩ := devOf_form r)
    | (go_at_call 14; refine (D2.impl_DevOf r _ (by omega)).mono ?_; rintro e w7 ⟨rfl, b7⟩; rw [hdo]; have k1g := (k1f.below b7).alloc (.cells #[.string y1, .string y2] 25); have k2g := (k2f.below b7).alloc (.cells #[.string y1, .string y2] 25); have k3g := (k3f.below b7).alloc (.cells #[.string y1, .string y2] 25); have k4g := (k4f.below b7).alloc (.cells #[.string y1, .string y2] 25); have k5 := K0.blk_new [.string y1, .string y2] w7 25; have f7 := tr (tr f6 b7) (K0.below_new w7 (.cells #[.string y1, .string y2] 25)); have r7 := (r6.below b7).alloc (.cells #[.string y1, .string y2] 25))
    | (go_at_call 15; refine (D2.spec_DevOf r _ (by omega)).mono ?_; rintro e w8 ⟨rfl, b8⟩; rw [hdo]; have fs : Fs wb w1.heap.size w2.heap.size w3.heap.size w4.heap.size w7.heap.size w8.heap.size x y (D2.stored x y i t) u v (F3.flushed u v fa fn) y1 y2 q (Y0.dirty u v) (w8.alloc (.cells #[.string y1, .string y2] 25)) := ⟨(k1g.below b8).alloc _, (k2g.below b8).alloc _, (k3g.below b8).alloc _, (k4g.below b8).alloc _, (k5.below b8).alloc _, K0.blk_new [.string y1, .string y2] w8 25, (r7.below b8).alloc _, tr (tr f7 b8) (K0.below_new w8 _)⟩))
  have wn2 : -9223372036854775808 ≤ fn ∧ fn ≤ 9223372036854775807 := by simpa [Lit.wf, IntKind.min, IntKind.max, IntKind.signed, IntKind.bits] using wn
  have sS : Hid (∀ W, Calls Try.prog 16 #[.agg #[.string x, .string y], .int .i64 i, .string t] W fun e w' => e = .returned (.agg #[.string (D2.stored x y i t), .string y]) ∧ Below W.heap.size W w') := fun W => D2.spec_Store x y i t W (by omega) (by omega) (by omega)
  have sF : Hid (∀ W, Calls Try.prog 17 #[.agg #[.string u, .string v], .int .i64 fa, .int .i64 fn] W fun e w' => e = .returned (.agg #[.string u, .string (F3.flushed u v fa fn)]) ∧ Below W.heap.size W w') := fun W => F3.spec_Flush u v fa fn W (by omega) (by omega) wa wn
  have sD : Hid (∀ W, Calls Try.prog 19 #[.agg #[.string u, .string v]] W fun e w' => ∃ p c, e = .returned (.slice p (Y0.dirty u v).length c) ∧ J0.Own W.heap.size w' p (Y0.dirty u v) ∧ Below W.heap.size W w') := fun W => (Y0.spec_Dirty u v W (by omega) (by omega)).mono fun e w' ⟨p, c, he, ho, hc, hb⟩ => ⟨p, c, he, ho, hb⟩
  have sO : Hid (∀ W, Calls Try.prog 21 #[.agg #[.string x, .string y]] W fun e w' => e = .returned (.bool (D1.ok x y)) ∧ Below W.heap.size W w') := fun W => (D1.spec_DevOk x y W (by unfold maxLen; omega) (by unfold maxLen; omega)).mono fun _ _ ⟨he, hb⟩ => ⟨he, by rw [hb]; exact K0.below_new _ _⟩
  have iO : Hid (∀ W, Calls Try.prog 20 #[.agg #[.string x, .string y]] W fun e w' => e = .returned (.bool (D1.ok x y)) ∧ Below W.heap.size W w') := fun W => (D1.impl_DevOk x y W (by unfold maxLen; omega) (by unfold maxLen; omega)).mono fun _ _ ⟨he, hb⟩ => ⟨he, by rw [hb]; exact K0.below_new _ _⟩
  have HF : Hid (D1.ok u v = true → F3.flushed u v 0 768 = u ∧ Y0.dirty u u = []) := fun h => ⟨flush_all h, dirty_self (D1.ok_true h).1⟩
  have HJ : Hid (∀ j, j ∈ Y0.dirty u (F3.flushed u v fa fn) → has (Y0.dirty u v) j = true ∧ ¬ (0 < fn ∧ 0 ≤ fa ∧ fa ≤ 768 - fn ∧ fn ≤ 768 ∧ fa / 8 ≤ j ∧ j ≤ (fa + fn - 1) / 8)) := fun j hj => left_ok hj
  have hzl := Y0.dirty_len u v
  have hfs := F3.flushed u v fa fn |>.size
  have hfl : (F3.flushed u v fa fn).size ≤ 1000 := by
    by_cases hv7 : v.size = 768
    · have := C1.flushed_size (x := u) hv7 fa fn
      omega
    · have : F3.flushed u v fa fn = v := if_neg (fun hg => hv7 (F3.goes_true hg).1.2)
      rw [this]
      exact hv
  obtain ⟨s, hs⟩ : ∃ s, D2.stored x y i t = s := ⟨_, rfl⟩
  obtain ⟨f, hf⟩ : ∃ f, F3.flushed u v fa fn = f := ⟨_, rfl⟩
  obtain ⟨Z, hZ⟩ : ∃ Z, Y0.dirty u v = Z := ⟨_, rfl⟩
  obtain ⟨b1, hb1⟩ : ∃ b, w1.heap.size = b := ⟨_, rfl⟩
  obtain ⟨b2, hb2⟩ : ∃ b, w2.heap.size = b := ⟨_, rfl⟩
  obtain ⟨b3, hb3⟩ : ∃ b, w3.heap.size = b := ⟨_, rfl⟩
  obtain ⟨b4, hb4⟩ : ∃ b, w4.heap.size = b := ⟨_, rfl⟩
  obtain ⟨b5, hb5⟩ : ∃ b, w7.heap.size = b := ⟨_, rfl⟩
  obtain ⟨b6, hb6⟩ : ∃ b, w8.heap.size = b := ⟨_, rfl⟩
  obtain ⟨W9, hW9⟩ : ∃ W9, w8.alloc (.cells #[.string y1, .string y2] 25) = W9 := ⟨_, rfl⟩
  rw [hW9, hs, hf, hZ, hb1, hb2, hb3, hb4, hb5, hb6] at fs
  rw [hs] at sS
  rw [hf] at sF HJ hfl
  rw [hZ] at sD HJ hzl
  simp only [hW9, hs, hf, hZ, hb1, hb2, hb3, hb4, hb5, hb6]
  clear hW9 hs hf hZ hb1 hb2 hb3 hb4 hb5 hb6 c0 c1 d0 d1 e0 e1 k1 k1b k2 k1c k2c k3 k1d k2d k3d k4 k1e k2e k3e k4e k1f k2f k3f k4f k1g k2g k3g k4g k5 f1 f2 f3 f4 f5 f6 f7 r5 r6 r7 o5 hdo hfs
  have fd := fs.drew
  have s0 := fd.cells
  have hZs : Z.length ≤ 281474976710656 := by omega
  go_region_held3 (fun W => W.cell? ⟨b1, 0, none⟩ = some (.string x) ∧ W.cell? ⟨b1, 1, none⟩ = some (.string y) ∧ W.cell? ⟨b2, 0, none⟩ = some (.string s) ∧ W.cell? ⟨b2, 1, none⟩ = some (.string y) ∧ W.cell? ⟨b3, 0, none⟩ = some (.string u) ∧ W.cell? ⟨b3, 1, none⟩ = some (.string v) ∧ W.cell? ⟨b4, 0, none⟩ = some (.string u) ∧ W.cell? ⟨b4, 1, none⟩ = some (.string f) ∧ W.cell? ⟨b5, 0, none⟩ = some (.string y1) ∧ W.cell? ⟨b5, 1, none⟩ = some (.string y2) ∧ W.cell? ⟨b6, 0, none⟩ = some (.string y1) ∧ W.cell? ⟨b6, 1, none⟩ = some (.string y2)) (assumption) ((first
    | (go_at_call 16; refine (sS.out _).mono ?_; rintro e v1 ⟨rfl, hb1⟩; have g1 := fd.below hb1; have s1 := g1.cells)
    | (go_at_call 17; refine (sF.out _).mono ?_; rintro e v2 ⟨rfl, hb2⟩; have g2 := g1.below hb2; have s2 := g2.cells)
    | (go_at_call 19; refine (sD.out _).mono ?_; rintro e v3 ⟨p3, c3, rfl, o3, hb3⟩; have g3 := g2.below hb3; have s3 := g3.cells; have r3 := o3.row)
    | (go_at_call 18; refine (sameInts _ _ _ _ Z _ hZs g3.row r3).mono ?_; rintro e v4 ⟨rfl, n4, rfl⟩; have g4 := g3.below (Y3.below_drewN _ n4); have s4 := g4.cells)
    | (go_at_call 20; refine (iO.out _).mono ?_; rintro e v5 ⟨rfl, hb5⟩; have g5 := g4.below hb5; have s5 := g5.cells)
    | (go_at_call 21; refine (sO.out _).mono ?_; rintro e v6 ⟨rfl, hb6⟩; have g6 := g5.below hb6; have s6 := g6.cells)))
  obtain ⟨Z2, hZ2⟩ : ∃ Z2, Y0.dirty u f = Z2 := ⟨_, rfl⟩
  have iD : Hid (∀ W, Calls Try.prog 12 #[.agg #[.string u, .string f]] W fun e w' => ∃ p c, e = .returned (.slice p Z2.length c) ∧ J0.Own W.heap.size w' p Z2 ∧ Below W.heap.size W w') := fun W => (Y2.impl_Dirty u f W (by omega) (by omega)).mono fun e w' ⟨p, c, he, ho, hc, hb⟩ => by rw [hZ2] at he ho; exact ⟨p, c, he, ho, hb⟩
  have hz2 := Y0.dirty_len u f
  rw [hZ2] at HJ hz2
  have m0 := g6.k4.c0
  have m1 := g6.k4.c1
  clear hZ2 s0 s1 s2 s3 s4 s5 s6 g1 g2 g3 g4 g5 fd fs sS sF sD sO iO o3 r3 hb1 hb2 hb3 hb5 hb6
  go_wp2_with (go_at_call 12; refine (iD.out _).mono ?_; rintro e w10 ⟨ql, cl, rfl, o10, b10⟩; have g10 := g6.below b10; have r10 := o10.row)
  clear m0 m1 g6 o10 b10 iD
  go_loopw [18] (fun tk W => ∃ k : Nat, k ≤ Z2.length ∧ tk = .int .i64 k ∧ Fs wb b1 b2 b3 b4 b5 b6 x y s u v f y1 y2 q Z W ∧ P0.Row W ql Z2) (fun tk _ => Z2.length - (intOf tk).toNat)
  case atStart => exact ⟨0, Nat.zero_le _, rfl, g10, r10⟩
  case round =>
    obtain ⟨k, hk, rfl, hfs, hrow⟩ := hrel
    clear g10 r10
    have hrz := hfs.row
    have hZt : Z.length ≤ 1048576 := by omega
    by_cases hlt : k < Z2.length
    · obtain ⟨g, off, hp, hgl, hcl⟩ := hrow.get hlt
      have x1 := hcl k hlt
      have hmem : Z2.getD k 0 ∈ Z2 := by rw [W0.getD_get _ _ hlt]; exact List.getElem_mem _
      obtain ⟨hin, hno⟩ := HJ.out _ hmem
      have e1 : (0 : Int) ≤ (k : Int) := by omega
      have e2 : (k : Int) < (Z2.length : Int) := by omega
      obtain ⟨j, hj⟩ : ∃ j, Z2.getD k 0 = j := ⟨_, rfl⟩
      rw [hj] at x1 hin hno
      obtain ⟨X, hX⟩ : ∃ X, fa / 8 = X := ⟨_, rfl⟩
      obtain ⟨Y, hY⟩ : ∃ Y, (fa + fn - 1) / 8 = Y := ⟨_, rfl⟩
      rw [hX, hY] at hno
      subst hp
      have HN : Hid (¬ (0 < fn ∧ 0 ≤ fa ∧ fa ≤ 768 - fn ∧ fn ≤ 768 ∧ X ≤ j ∧ j ≤ Y)) := hno
      clear hcl hmem hj hno HJ HF
      by_cases c1 : 0 < fn
      · by_cases c2 : 0 ≤ fa
        · have w1 : IntKind.i64.wrap (768 - fn) = 768 - fn := C1.wrap_of _ (by omega) (by omega)
          have q3 : Int.tdiv fa 8 = X := by rw [Int.tdiv_eq_ediv_of_nonneg (by omega)]; exact hX
          by_cases c3 : fa ≤ 768 - fn
          · by_cases c4 : fn ≤ 768
            · have w2 : IntKind.i64.wrap (fa + fn) = fa + fn := C1.wrap_of _ (by omega) (by omega)
              have w3 : IntKind.i64.wrap (fa + fn - 1) = fa + fn - 1 := C1.wrap_of _ (by omega) (by omega)
              have q4 : Int.tdiv (fa + fn - 1) 8 = Y := by rw [Int.tdiv_eq_ediv_of_nonneg (by omega)]; exact hY
              by_cases c5 : X ≤ j
              · have c6 : ¬ j ≤ Y := fun h => HN.out ⟨c1, c2, c3, c4, c5, h⟩
                clear HN
                go_wp2_with (go_at_call 22; refine (U0.among _ _ _ _ _ (by assumption) (by assumption)).mono ?_; rintro e w12 ⟨rfl, rfl⟩; rw [hin])
                go_roundw
                case rel => exact ⟨k + 1, by omega, by go_num, hfs, hrow⟩
                case measure => simp [intOf]; omega
              · clear HN
                go_wp2_with (go_at_call 22; refine (U0.among _ _ _ _ _ (by assumption) (by assumption)).mono ?_; rintro e w12 ⟨rfl, rfl⟩; rw [hin])
                go_roundw
                case rel => exact ⟨k + 1, by omega, by go_num, hfs, hrow⟩
                case measure => simp [intOf]; omega
            · exfalso
              omega
          · clear HN
            go_wp2_with (go_at_call 22; refine (U0.among _ _ _ _ _ (by assumption) (by assumption)).mono ?_; rintro e w12 ⟨rfl, rfl⟩; rw [hin])
            go_roundw
            case rel => exact ⟨k + 1, by omega, by go_num, hfs, hrow⟩
            case measure => simp [intOf]; omega
        · clear HN
          go_wp2_with (go_at_call 22; refine (U0.among _ _ _ _ _ (by assumption) (by assumption)).mono ?_; rintro e w12 ⟨rfl, rfl⟩; rw [hin])
          go_roundw
          case rel => exact ⟨k + 1, by omega, by go_num, hfs, hrow⟩
          case measure => simp [intOf]; omega
      · clear HN
        go_wp2_with (go_at_call 22; refine (U0.among _ _ _ _ _ (by assumption) (by assumption)).mono ?_; rintro e w12 ⟨rfl, rfl⟩; rw [hin])
        go_roundw
        case rel => exact ⟨k + 1, by omega, by go_num, hfs, hrow⟩
        case measure => simp [intOf]; omega
    · obtain rfl : k = Z2.length := by omega
      have m0 := hfs.k3.c0
      have m1 := hfs.k3.c1
      clear HJ
      by_cases hok : D1.ok u v = true
      · obtain ⟨hfa, hdd⟩ := HF.out hok
        have iF : Hid (∀ W, Calls Try.prog 11 #[.agg #[.string u, .string v], .int .i64 0, .int .i64 768] W fun e w' => e = .returned (.agg #[.string u, .string u]) ∧ Below W.heap.size W w') := fun W => (F4.impl_Flush u v 0 768 W (by omega) (by omega)).mono fun _ _ ⟨he, hb⟩ => ⟨by rw [he, hfa], hb⟩
        have iD : Hid (∀ W, Calls Try.prog 12 #[.agg #[.string u, .string u]] W fun e w' => ∃ p c, e = .returned (.slice p 0 c) ∧ Below W.heap.size W w') := fun W => (Y2.impl_Dirty u u W (by omega) (by omega)).mono fun e w' ⟨p, c, he, ho, hc, hb⟩ => by rw [hdd] at he; exact ⟨p, c, he, hb⟩
        have sK : Hid (∀ W, Calls Try.prog 21 #[.agg #[.string u, .string v]] W fun e w' => e = .returned (.bool true) ∧ Below W.heap.size W w') := fun W => (D1.spec_DevOk u v W (by unfold maxLen; omega) (by unfold maxLen; omega)).mono fun _ _ ⟨he, hb⟩ => ⟨by rw [he, hok], by rw [hb]; exact K0.below_new _ _⟩
        clear hfa hdd hok HF
        go_wp2_with (first
          | (go_at_call 11; refine (iF.out _).mono ?_; rintro e w13 ⟨rfl, b13⟩; have g13 := (hfs.below b13).below (K0.below_new w13 (.cells #[.string u, .string u] 25)); have n13 := K0.blk_new [.string u, .string u] w13 25; have m2 := g13.k3.c0; have m3 := g13.k3.c1)
          | (go_at_call 21; refine (sK.out _).mono ?_; rintro e w14 ⟨rfl, b14⟩; have g14 := g13.below b14; have n14 := n13.below b14; have m4 := n14.c0; have m5 := n14.c1)
          | (go_at_call 12; refine (iD.out _).mono ?_; rintro e w15 ⟨p15, c15, rfl, b15⟩; have g15 := g14.below b15))
        go_ret
        exact ⟨rfl, g15.bel⟩
      · have hok' : D1.ok u v = false := by simpa using hok
        have iF : Hid (∀ W, Calls Try.prog 11 #[.agg #[.string u, .string v], .int .i64 0, .int .i64 768] W fun e w' => ∃ f2, e = .returned (.agg #[.string u, .string f2]) ∧ Below W.heap.size W w') := fun W => (F4.impl_Flush u v 0 768 W (by omega) (by omega)).mono fun _ _ ⟨he, hb⟩ => ⟨_, he, hb⟩
        have sK : Hid (∀ W, Calls Try.prog 21 #[.agg #[.string u, .string v]] W fun e w' => e = .returned (.bool false) ∧ Below W.heap.size W w') := fun W => (D1.spec_DevOk u v W (by unfold maxLen; omega) (by unfold maxLen; omega)).mono fun _ _ ⟨he, hb⟩ => ⟨by rw [he, hok'], by rw [hb]; exact K0.below_new _ _⟩
        clear hok hok' HF
        go_wp2_with (first
          | (go_at_call 11; refine (iF.out _).mono ?_; rintro e w13 ⟨f2, rfl, b13⟩; have g13 := (hfs.below b13).below (K0.below_new w13 (.cells #[.string u, .string f2] 25)); have m2 := g13.k3.c0; have m3 := g13.k3.c1)
          | (go_at_call 21; refine (sK.out _).mono ?_; rintro e w14 ⟨rfl, b14⟩; have g14 := g13.below b14))
        go_ret
        exact ⟨rfl, g14.bel⟩

set_option maxRecDepth 100000 in
theorem walk (a : Option Addr) (len cap : Nat) (w : World) (hc : Given w a len) : Calls Try.prog 3 #[.slice a len cap] w fun e w' => e = .returned (.bool true) ∧ Below w.heap.size w w' := by
  by_cases hl : 1048576 < (len : Int)
  · go_enter Try.func3, Try.ntmps3
    go_wp2_with (go_at_call 7; refine (Q0.big_yes a len cap w hl).mono ?_; rintro e w1 ⟨rfl, rfl⟩)
    go_ret
    exact ⟨rfl, Below.refl _ _⟩
  · exact walk_small a len cap w hc (by omega)
end Go.Proofs.Ytkpcpffpiilcpaa.S1
