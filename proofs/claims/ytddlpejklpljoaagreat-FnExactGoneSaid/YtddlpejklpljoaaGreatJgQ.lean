/- Joined texts: plain facts and contracts, as each part says. -/
import Derived.Test.YtddlpejklpljoaaGreatJgP
import Derived.Test.YtddlpejklpljoaaGreatJgM

/- What Ranges answers; contracts of spec.Ranges and impl.Ranges, as the given laws call them. -/
namespace Go.Proofs.YtddlpejklpljoaaGreat.R6
open Go.ChangeShapes Go.WideShapes Go.ChangeAt Go.RowKit
set_option linter.unusedVariables false
set_option linter.unusedSimpArgs false
set_option maxRecDepth 10000

open N0 (Ln)
open N1 (Sl Lists Fit LB lb_new)
open N13 (Bx bx_new)
open R5 (RBuf)

/-- The ranges of the first pages, and of the first records. -/
def rP (zs : List Int) (k : Nat) : List Int := (zs.take k).flatMap fun p => [p * 32, 32]
def rF (zs : List Int) (k : Nat) : List Int := (zs.take k).flatMap fun f => [L1.recAt f, 16]

/-- What Ranges answers, and how many. -/
def rg (d : Ln) : List Int := if N0.loanOk d then [L1.recAt d.ino, 16] ++ rP d.pg d.pg.length ++ rP d.po d.po.length ++ rF d.fr d.fr.length else []
def nR (d : Ln) : Nat := if N0.loanOk d then 1 + d.pg.length + d.po.length + d.fr.length else 0

theorem rP_succ (zs : List Int) (k : Nat) (h : k < zs.length) : rP zs (k + 1) = rP zs k ++ [zs.getD k 0 * 32, 32] := by
  unfold rP
  rw [List.take_succ_eq_append_getElem h, List.flatMap_append, P0.getD_get _ _ h]
  simp
theorem rF_succ (zs : List Int) (k : Nat) (h : k < zs.length) : rF zs (k + 1) = rF zs k ++ [L1.recAt (zs.getD k 0), 16] := by
  unfold rF
  rw [List.take_succ_eq_append_getElem h, List.flatMap_append, P0.getD_get _ _ h]
  simp

/-- What both answer. -/
def Ans (d : Ln) (w : World) (e : Ending) (w' : World) : Prop := ∃ a c, e = .returned (.slice a (nR d) c) ∧ (rg d).length = nR d * 2 ∧ nR d ≤ c ∧ J0.Own w.heap.size w' a (rg d) ∧ Below w.heap.size w w'

theorem ans_no {d : Ln} {w w' : World} {a : Option Addr} {c : Nat} (h : N0.loanOk d = false) (hb : Below w.heap.size w w') : Ans d w (.returned (.slice a 0 c)) w' := by
  have e1 : rg d = [] := by rw [rg, h]; rfl
  have e2 : nR d = 0 := by rw [nR, h]; rfl
  exact ⟨a, c, by rw [e2], by rw [e1, e2]; rfl, by rw [e2]; exact Nat.zero_le _, by rw [e1]; exact Or.inl rfl, hb⟩

theorem ans_yes {d : Ln} {w w' : World} {a : Option Addr} {n c : Nat} {zs : List Int} (h : N0.loanOk d = true) (hn : n = 1 + d.pg.length + d.po.length + d.fr.length) (hz : zs = [L1.recAt d.ino, 16] ++ rP d.pg d.pg.length ++ rP d.po d.po.length ++ rF d.fr d.fr.length) (hbuf : RBuf (w.heap.size + 1) w' a n c zs) (hb : Below w.heap.size w w') : Ans d w (.returned (.slice a n c)) w' := by
  have e1 : rg d = zs := by rw [rg, h, hz]; rfl
  have e2 : nR d = n := by rw [nR, h, hn]; rfl
  exact ⟨a, c, by rw [e2], by rw [e1, e2]; exact hbuf.1, by rw [e2]; exact hbuf.fits, by rw [e1]; exact hbuf.own.mono (by omega), hb⟩

theorem bx_keep {w W W' : World} {d : Ln} {s : Sl} (h : Bx w d s W) (hb : Below (w.heap.size + 1) W W') : Bx w d s W' :=
  ⟨⟨J0.blk_keep h.arg.b hb (by omega)⟩, h.bel.trans (hb.mono (by omega))⟩

theorem bx_size {w W : World} {d : Ln} {s : Sl} (h : Bx w d s W) : w.heap.size + 1 ≤ W.heap.size := h.arg.b.lt

set_option maxHeartbeats 4000000 in
theorem impl_Ranges (d : Ln) (s : Sl) (w : World) (hF : Fit d s) (hpo : d.po.length ≤ 1048576) (hfr : d.fr.length ≤ 1048576) (hR : Lists w d s) : Calls Tryz.prog 9 #[N1.val d s] w (Ans d w) := by
  have x0 := bx_new w d s
  have HL : Hid (∀ W, Below w.heap.size w W → Lists W d s) := fun W hb => hR.below hb
  have HO : Hid (∀ W, Below w.heap.size w W → Calls Tryz.prog 16 #[N1.val d s] W fun e w' => e = .returned (.bool (N0.loanOk d)) ∧ Below W.heap.size W w') := fun W hb => N10.impl_LoanOk d s W hF hpo hfr (hR.below hb)
  have HN : Hid (∀ a c w', N0.loanOk d = false → Below w.heap.size w w' → Ans d w (.returned (.slice a 0 c)) w') := fun a c w' h hb => ans_no h hb
  have HY : Hid (∀ a n c zs w', N0.loanOk d = true → n = 1 + d.pg.length + d.po.length + d.fr.length → zs = [L1.recAt d.ino, 16] ++ rP d.pg d.pg.length ++ rP d.po d.po.length ++ rF d.fr d.fr.length → RBuf (w.heap.size + 1) w' a n c zs → Below w.heap.size w w' → Ans d w (.returned (.slice a n c)) w') := fun a n c zs w' h hn hz hbuf hb => ans_yes h hn hz hbuf hb
  obtain ⟨R, hR'⟩ : ∃ R, Ans d w = R := ⟨_, rfl⟩
  rw [hR'] at HN HY ⊢
  clear hR hR' hF
  cases hok : N0.loanOk d with
  | false =>
    rw [hok] at HO
    have hok' := hok
    clear hok
    go_enter Tryz.func9, Tryz.ntmps9
    go_wp2_with (go_at_call 16; refine (HO.out _ x0.bel).mono ?_; rintro e w1 ⟨rfl, b1⟩; have x1 := x0.below b1)
    exact HN.out _ _ _ hok' (x1.bel.alloc x1.bel.size _)
  | true =>
    rw [hok] at HO
    obtain ⟨-, -, -, -, -, -, hp6, hp4, hf2, hpp, -, -, -⟩ := N0.loanOk_is hok
    have hpg : ∀ j, j < d.pg.length → 5 ≤ d.pg.getD j 0 ∧ d.pg.getD j 0 ≤ 23 := fun j hj => (N0.pagesOk_iff.1 hpp).1 _ (List.mem_append.2 (Or.inl (N0.getD_mem hj)))
    have hpq : ∀ j, j < d.po.length → 5 ≤ d.po.getD j 0 ∧ d.po.getD j 0 ≤ 23 := fun j hj => (N0.pagesOk_iff.1 hpp).1 _ (List.mem_append.2 (Or.inr (N0.getD_mem hj)))
    have HOK : Hid (N0.loanOk d = true) := hok
    clear hok hpp
    go_enter Tryz.func9, Tryz.ntmps9
    go_wp2_with (first
      | (go_at_call 16; refine (HO.out _ x0.bel).mono ?_; rintro e w1 ⟨rfl, b1⟩; have x1 := x0.below b1; have c0 := x1.arg.c0; have x2 := x1.below (K0.below_new w1 (.cells #[.int .i64 (L1.recAt d.ino), .int .i64 16] 38)); have c4 := x2.arg.c4; have bf2 : RBuf (w.heap.size + 1) (w1.alloc (.cells #[.int .i64 (L1.recAt d.ino), .int .i64 16] 38)) (some ⟨w1.heap.size, 0, none⟩) 1 1 [L1.recAt d.ino, 16] := R5.rbuf_one w1 _ _ (bx_size x1))
      | (go_at_call 19; refine (L1.impl_RecAt _ _).mono ?_; rintro e wq ⟨rfl, rfl⟩))
    obtain ⟨p0, hp0⟩ : ∃ p0, [L1.recAt d.ino, 16] = p0 := ⟨_, rfl⟩
    have HP0 : Hid ([L1.recAt d.ino, 16] = p0) := hp0
    rw [hp0] at bf2
    clear hp0 c0 c4 x0 x1 b1
    go_loopw [3, 22] (fun v i w' => ∃ (k0 c : Nat) (a : Option Addr), k0 ≤ d.pg.length ∧ i = .int .i64 k0 ∧ v = .slice a (1 + k0) c ∧ RBuf (w.heap.size + 1) w' a (1 + k0) c (p0 ++ rP d.pg k0) ∧ Bx w d s w') (fun _ i _ => d.pg.length - (intOf i).toNat)
    case atStart => exact ⟨0, _, _, Nat.zero_le _, rfl, rfl, by rw [show p0 ++ rP d.pg 0 = p0 by simp [rP]]; exact bf2, x2⟩
    case round =>
      obtain ⟨k0, cq0, aq0, hk0, rfl, rfl, bf0, xr0⟩ := hrel
      clear bf2 x2
      have cc0 := xr0.arg.c4
      by_cases hlt : k0 < d.pg.length
      · obtain ⟨b, off, hab, _, hcell⟩ := (HL.out _ xr0.bel).r1.get hlt
        have y1 := hcell k0 hlt
        have hz := hpg k0 hlt
        have HS : Hid (p0 ++ rP d.pg k0 ++ [d.pg.getD k0 0 * 32, 32] = p0 ++ rP d.pg (k0 + 1)) := by show _ = _; rw [List.append_assoc, ← rP_succ _ _ hlt]
        obtain ⟨z, ez⟩ : ∃ z, d.pg.getD k0 0 = z := ⟨_, rfl⟩
        rw [ez] at y1 HS hz
        rw [hab]
        have e1 : (0 : Int) ≤ (k0 : Int) := by omega
        have e2 : (k0 : Int) < (d.pg.length : Int) := by omega
        have hsz := bx_size xr0
        clear ez hcell
        go_wp2_with (at_builtin; refine R5.append_rng rfl (.tmp 26) (.tmp 30) rfl bf0 _ _ (by rfl) (by rfl) (by omega) hsz ?_; intro g5 cap5 w5 bf5 bel5)
        go_roundw
        case rel => exact ⟨k0 + 1, cap5, _, by omega, by go_num, by rw [Nat.add_assoc], by rw [← HS.out, ← Nat.add_assoc]; exact bf5, bx_keep xr0 bel5⟩
        case measure => simp [intOf]; omega
      · obtain rfl : k0 = d.pg.length := by omega
        have d0 := xr0.arg.c6
        go_wp2
        go_loopw [3, 36] (fun v i w' => ∃ (k1 c : Nat) (a : Option Addr), k1 ≤ d.po.length ∧ i = .int .i64 k1 ∧ v = .slice a ((1 + d.pg.length) + k1) c ∧ RBuf (w.heap.size + 1) w' a ((1 + d.pg.length) + k1) c ((p0 ++ rP d.pg d.pg.length) ++ rP d.po k1) ∧ Bx w d s w') (fun _ i _ => d.po.length - (intOf i).toNat)
        case atStart => exact ⟨0, _, _, Nat.zero_le _, rfl, rfl, by rw [show (p0 ++ rP d.pg d.pg.length) ++ rP d.po 0 = (p0 ++ rP d.pg d.pg.length) by simp [rP]]; exact bf0, xr0⟩
        case round =>
          rename_i wr2
          obtain ⟨k1, cq1, aq1, hk1, rfl, rfl, bf1, xr1⟩ := hrel
          skip
          have cc1 := xr1.arg.c6
          by_cases hlt : k1 < d.po.length
          · obtain ⟨b, off, hab, _, hcell⟩ := (HL.out _ xr1.bel).r2.get hlt
            have y1 := hcell k1 hlt
            have hz := hpq k1 hlt
            have HS : Hid ((p0 ++ rP d.pg d.pg.length) ++ rP d.po k1 ++ [d.po.getD k1 0 * 32, 32] = (p0 ++ rP d.pg d.pg.length) ++ rP d.po (k1 + 1)) := by show _ = _; rw [List.append_assoc, ← rP_succ _ _ hlt]
            obtain ⟨z, ez⟩ : ∃ z, d.po.getD k1 0 = z := ⟨_, rfl⟩
            rw [ez] at y1 HS hz
            rw [hab]
            have e1 : (0 : Int) ≤ (k1 : Int) := by omega
            have e2 : (k1 : Int) < (d.po.length : Int) := by omega
            have hsz := bx_size xr1
            clear ez hcell
            go_wp2_with (at_builtin; refine R5.append_rng rfl (.tmp 40) (.tmp 44) rfl bf1 _ _ (by rfl) (by rfl) (by omega) hsz ?_; intro g5 cap5 w5 bf5 bel5)
            go_roundw
            case rel => exact ⟨k1 + 1, cap5, _, by omega, by go_num, by rw [Nat.add_assoc], by rw [← HS.out, ← Nat.add_assoc]; exact bf5, bx_keep xr1 bel5⟩
            case measure => simp [intOf]; omega
          · obtain rfl : k1 = d.po.length := by omega
            have d1 := xr1.arg.c7
            go_wp2
            go_loopw [3, 50] (fun v i w' => ∃ (k2 c : Nat) (a : Option Addr), k2 ≤ d.fr.length ∧ i = .int .i64 k2 ∧ v = .slice a (((1 + d.pg.length) + d.po.length) + k2) c ∧ RBuf (w.heap.size + 1) w' a (((1 + d.pg.length) + d.po.length) + k2) c (((p0 ++ rP d.pg d.pg.length) ++ rP d.po d.po.length) ++ rF d.fr k2) ∧ Bx w d s w') (fun _ i _ => d.fr.length - (intOf i).toNat)
            case atStart => exact ⟨0, _, _, Nat.zero_le _, rfl, rfl, by rw [show ((p0 ++ rP d.pg d.pg.length) ++ rP d.po d.po.length) ++ rF d.fr 0 = ((p0 ++ rP d.pg d.pg.length) ++ rP d.po d.po.length) by simp [rF]]; exact bf1, xr1⟩
            case round =>
              rename_i wr3
              obtain ⟨k2, cq2, aq2, hk2, rfl, rfl, bf2, xr2⟩ := hrel
              skip
              have cc2 := xr2.arg.c7
              by_cases hlt : k2 < d.fr.length
              · obtain ⟨b, off, hab, _, hcell⟩ := (HL.out _ xr2.bel).r3.get hlt
                have y1 := hcell k2 hlt
                have HS : Hid (((p0 ++ rP d.pg d.pg.length) ++ rP d.po d.po.length) ++ rF d.fr k2 ++ [L1.recAt (d.fr.getD k2 0), 16] = ((p0 ++ rP d.pg d.pg.length) ++ rP d.po d.po.length) ++ rF d.fr (k2 + 1)) := by show _ = _; rw [List.append_assoc, ← rF_succ _ _ hlt]
                obtain ⟨z, ez⟩ : ∃ z, d.fr.getD k2 0 = z := ⟨_, rfl⟩
                rw [ez] at y1 HS
                rw [hab]
                have e1 : (0 : Int) ≤ (k2 : Int) := by omega
                have e2 : (k2 : Int) < (d.fr.length : Int) := by omega
                have hsz := bx_size xr2
                clear ez hcell
                go_wp2_with (first
                  | (go_at_call 19; refine (L1.impl_RecAt _ _).mono ?_; rintro e wq ⟨rfl, rfl⟩)
                  | (at_builtin; refine R5.append_rng rfl (.tmp 54) (.tmp 58) rfl bf2 _ _ (by rfl) (by rfl) (by omega) hsz ?_; intro g5 cap5 w5 bf5 bel5))
                go_roundw
                case rel => exact ⟨k2 + 1, cap5, _, by omega, by go_num, by rw [Nat.add_assoc], by rw [← HS.out, ← Nat.add_assoc]; exact bf5, bx_keep xr2 bel5⟩
                case measure => simp [intOf]; omega
              · obtain rfl : k2 = d.fr.length := by omega
                go_wp2
                refine HY.out _ _ _ _ _ HOK.out rfl ?_ bf2 xr2.bel
                rw [HP0.out]

set_option maxHeartbeats 4000000 in
theorem spec_Ranges (d : Ln) (s : Sl) (w : World) (hF : Fit d s) (hpo : d.po.length ≤ 1048576) (hfr : d.fr.length ≤ 1048576) (hR : Lists w d s) : Calls Tryz.prog 13 #[N1.val d s] w (Ans d w) := by
  have x0 := bx_new w d s
  have HL : Hid (∀ W, Below w.heap.size w W → Lists W d s) := fun W hb => hR.below hb
  have HO : Hid (∀ W, Below w.heap.size w W → Calls Tryz.prog 17 #[N1.val d s] W fun e w' => e = .returned (.bool (N0.loanOk d)) ∧ Below W.heap.size W w') := fun W hb => N11.spec_LoanOk d s W hF hpo hfr (hR.below hb)
  have HN : Hid (∀ a c w', N0.loanOk d = false → Below w.heap.size w w' → Ans d w (.returned (.slice a 0 c)) w') := fun a c w' h hb => ans_no h hb
  have HY : Hid (∀ a n c zs w', N0.loanOk d = true → n = 1 + d.pg.length + d.po.length + d.fr.length → zs = [L1.recAt d.ino, 16] ++ rP d.pg d.pg.length ++ rP d.po d.po.length ++ rF d.fr d.fr.length → RBuf (w.heap.size + 1) w' a n c zs → Below w.heap.size w w' → Ans d w (.returned (.slice a n c)) w') := fun a n c zs w' h hn hz hbuf hb => ans_yes h hn hz hbuf hb
  obtain ⟨R, hR'⟩ : ∃ R, Ans d w = R := ⟨_, rfl⟩
  rw [hR'] at HN HY ⊢
  clear hR hR' hF
  cases hok : N0.loanOk d with
  | false =>
    rw [hok] at HO
    have hok' := hok
    clear hok
    go_enter Tryz.func13, Tryz.ntmps13
    go_wp2_with (go_at_call 17; refine (HO.out _ x0.bel).mono ?_; rintro e w1 ⟨rfl, b1⟩; have x1 := x0.below b1)
    exact HN.out _ _ _ hok' (x1.bel.alloc x1.bel.size _)
  | true =>
    rw [hok] at HO
    obtain ⟨-, -, -, -, -, -, hp6, hp4, hf2, hpp, -, -, -⟩ := N0.loanOk_is hok
    have hpg : ∀ j, j < d.pg.length → 5 ≤ d.pg.getD j 0 ∧ d.pg.getD j 0 ≤ 23 := fun j hj => (N0.pagesOk_iff.1 hpp).1 _ (List.mem_append.2 (Or.inl (N0.getD_mem hj)))
    have hpq : ∀ j, j < d.po.length → 5 ≤ d.po.getD j 0 ∧ d.po.getD j 0 ≤ 23 := fun j hj => (N0.pagesOk_iff.1 hpp).1 _ (List.mem_append.2 (Or.inr (N0.getD_mem hj)))
    have HOK : Hid (N0.loanOk d = true) := hok
    clear hok hpp
    go_enter Tryz.func13, Tryz.ntmps13
    go_wp2_with (first
      | (go_at_call 17; refine (HO.out _ x0.bel).mono ?_; rintro e w1 ⟨rfl, b1⟩; have x1 := x0.below b1; have c0 := x1.arg.c0; have x2 := x1.below (K0.below_new w1 (.cells #[.int .i64 (L1.recAt d.ino), .int .i64 16] 38)); have c4 := x2.arg.c4; have bf2 : RBuf (w.heap.size + 1) (w1.alloc (.cells #[.int .i64 (L1.recAt d.ino), .int .i64 16] 38)) (some ⟨w1.heap.size, 0, none⟩) 1 1 [L1.recAt d.ino, 16] := R5.rbuf_one w1 _ _ (bx_size x1))
      | (go_at_call 45; refine (L1.spec_RecAt _ _).mono ?_; rintro e wq ⟨rfl, rfl⟩))
    obtain ⟨p0, hp0⟩ : ∃ p0, [L1.recAt d.ino, 16] = p0 := ⟨_, rfl⟩
    have HP0 : Hid ([L1.recAt d.ino, 16] = p0) := hp0
    rw [hp0] at bf2
    clear hp0 c0 c4 x0 x1 b1
    go_loopw [3, 4] (fun v i w' => ∃ (k0 c : Nat) (a : Option Addr), k0 ≤ d.pg.length ∧ i = .int .i64 k0 ∧ v = .slice a (1 + k0) c ∧ RBuf (w.heap.size + 1) w' a (1 + k0) c (p0 ++ rP d.pg k0) ∧ Bx w d s w') (fun _ i _ => d.pg.length - (intOf i).toNat)
    case atStart => exact ⟨0, _, _, Nat.zero_le _, rfl, rfl, by rw [show p0 ++ rP d.pg 0 = p0 by simp [rP]]; exact bf2, x2⟩
    case round =>
      obtain ⟨k0, cq0, aq0, hk0, rfl, rfl, bf0, xr0⟩ := hrel
      clear bf2 x2
      have cc0 := xr0.arg.c4
      by_cases hlt : k0 < d.pg.length
      · obtain ⟨b, off, hab, _, hcell⟩ := (HL.out _ xr0.bel).r1.get hlt
        have y1 := hcell k0 hlt
        have hz := hpg k0 hlt
        have HS : Hid (p0 ++ rP d.pg k0 ++ [d.pg.getD k0 0 * 32, 32] = p0 ++ rP d.pg (k0 + 1)) := by show _ = _; rw [List.append_assoc, ← rP_succ _ _ hlt]
        obtain ⟨z, ez⟩ : ∃ z, d.pg.getD k0 0 = z := ⟨_, rfl⟩
        rw [ez] at y1 HS hz
        rw [hab] at cc0
        clear hab
        have e1 : (0 : Int) ≤ (k0 : Int) := by omega
        have e2 : (k0 : Int) < (d.pg.length : Int) := by omega
        have hsz := bx_size xr0
        clear ez hcell
        go_wp2_with (at_builtin; refine R5.append_rng rfl (.tmp 23) (.tmp 31) rfl bf0 _ _ (by rfl) (by rfl) (by omega) hsz ?_; intro g5 cap5 w5 bf5 bel5)
        go_roundw
        case rel => exact ⟨k0 + 1, cap5, _, by omega, by go_num, by rw [Nat.add_assoc], by rw [← HS.out, ← Nat.add_assoc]; exact bf5, bx_keep xr0 bel5⟩
        case measure => simp [intOf]; omega
      · obtain rfl : k0 = d.pg.length := by omega
        have e9 : decide ((d.pg.length : Int) < (d.pg.length : Int)) = false := by simp
        have d0 := xr0.arg.c6
        go_wp2
        go_loopw [3, 5] (fun v i w' => ∃ (k1 c : Nat) (a : Option Addr), k1 ≤ d.po.length ∧ i = .int .i64 k1 ∧ v = .slice a ((1 + d.pg.length) + k1) c ∧ RBuf (w.heap.size + 1) w' a ((1 + d.pg.length) + k1) c ((p0 ++ rP d.pg d.pg.length) ++ rP d.po k1) ∧ Bx w d s w') (fun _ i _ => d.po.length - (intOf i).toNat)
        case atStart => exact ⟨0, _, _, Nat.zero_le _, rfl, rfl, by rw [show (p0 ++ rP d.pg d.pg.length) ++ rP d.po 0 = (p0 ++ rP d.pg d.pg.length) by simp [rP]]; exact bf0, xr0⟩
        case round =>
          rename_i wr2
          obtain ⟨k1, cq1, aq1, hk1, rfl, rfl, bf1, xr1⟩ := hrel
          skip
          have cc1 := xr1.arg.c6
          by_cases hlt : k1 < d.po.length
          · obtain ⟨b, off, hab, _, hcell⟩ := (HL.out _ xr1.bel).r2.get hlt
            have y1 := hcell k1 hlt
            have hz := hpq k1 hlt
            have HS : Hid ((p0 ++ rP d.pg d.pg.length) ++ rP d.po k1 ++ [d.po.getD k1 0 * 32, 32] = (p0 ++ rP d.pg d.pg.length) ++ rP d.po (k1 + 1)) := by show _ = _; rw [List.append_assoc, ← rP_succ _ _ hlt]
            obtain ⟨z, ez⟩ : ∃ z, d.po.getD k1 0 = z := ⟨_, rfl⟩
            rw [ez] at y1 HS hz
            rw [hab] at cc1
            clear hab
            have e1 : (0 : Int) ≤ (k1 : Int) := by omega
            have e2 : (k1 : Int) < (d.po.length : Int) := by omega
            have hsz := bx_size xr1
            clear ez hcell
            go_wp2_with (at_builtin; refine R5.append_rng rfl (.tmp 40) (.tmp 48) rfl bf1 _ _ (by rfl) (by rfl) (by omega) hsz ?_; intro g5 cap5 w5 bf5 bel5)
            go_roundw
            case rel => exact ⟨k1 + 1, cap5, _, by omega, by go_num, by rw [Nat.add_assoc], by rw [← HS.out, ← Nat.add_assoc]; exact bf5, bx_keep xr1 bel5⟩
            case measure => simp [intOf]; omega
          · obtain rfl : k1 = d.po.length := by omega
            have e9 : decide ((d.po.length : Int) < (d.po.length : Int)) = false := by simp
            have d1 := xr1.arg.c7
            go_wp2
            go_loopw [3, 6] (fun v i w' => ∃ (k2 c : Nat) (a : Option Addr), k2 ≤ d.fr.length ∧ i = .int .i64 k2 ∧ v = .slice a (((1 + d.pg.length) + d.po.length) + k2) c ∧ RBuf (w.heap.size + 1) w' a (((1 + d.pg.length) + d.po.length) + k2) c (((p0 ++ rP d.pg d.pg.length) ++ rP d.po d.po.length) ++ rF d.fr k2) ∧ Bx w d s w') (fun _ i _ => d.fr.length - (intOf i).toNat)
            case atStart => exact ⟨0, _, _, Nat.zero_le _, rfl, rfl, by rw [show ((p0 ++ rP d.pg d.pg.length) ++ rP d.po d.po.length) ++ rF d.fr 0 = ((p0 ++ rP d.pg d.pg.length) ++ rP d.po d.po.length) by simp [rF]]; exact bf1, xr1⟩
            case round =>
              rename_i wr3
              obtain ⟨k2, cq2, aq2, hk2, rfl, rfl, bf2, xr2⟩ := hrel
              skip
              have cc2 := xr2.arg.c7
              by_cases hlt : k2 < d.fr.length
              · obtain ⟨b, off, hab, _, hcell⟩ := (HL.out _ xr2.bel).r3.get hlt
                have y1 := hcell k2 hlt
                have HS : Hid (((p0 ++ rP d.pg d.pg.length) ++ rP d.po d.po.length) ++ rF d.fr k2 ++ [L1.recAt (d.fr.getD k2 0), 16] = ((p0 ++ rP d.pg d.pg.length) ++ rP d.po d.po.length) ++ rF d.fr (k2 + 1)) := by show _ = _; rw [List.append_assoc, ← rF_succ _ _ hlt]
                obtain ⟨z, ez⟩ : ∃ z, d.fr.getD k2 0 = z := ⟨_, rfl⟩
                rw [ez] at y1 HS
                rw [hab] at cc2
                clear hab
                have e1 : (0 : Int) ≤ (k2 : Int) := by omega
                have e2 : (k2 : Int) < (d.fr.length : Int) := by omega
                have hsz := bx_size xr2
                clear ez hcell
                go_wp2_with (first
                  | (go_at_call 45; refine (L1.spec_RecAt _ _).mono ?_; rintro e wq ⟨rfl, rfl⟩)
                  | (at_builtin; refine R5.append_rng rfl (.tmp 57) (.tmp 65) rfl bf2 _ _ (by rfl) (by rfl) (by omega) hsz ?_; intro g5 cap5 w5 bf5 bel5))
                go_roundw
                case rel => exact ⟨k2 + 1, cap5, _, by omega, by go_num, by rw [Nat.add_assoc], by rw [← HS.out, ← Nat.add_assoc]; exact bf5, bx_keep xr2 bel5⟩
                case measure => simp [intOf]; omega
              · obtain rfl : k2 = d.fr.length := by omega
                have e9 : decide ((d.fr.length : Int) < (d.fr.length : Int)) = false := by simp
                go_wp2
                refine HY.out _ _ _ _ _ HOK.out rfl ?_ bf2 xr2.bel
                rw [HP0.out]
end Go.Proofs.YtddlpejklpljoaaGreat.R6

/- What the exact laws over loans that hand out rows keep; contracts of laws.toLoan, its lists apart, and of laws.markLoan. -/
namespace Go.Proofs.YtddlpejklpljoaaGreat.N15
open Go.ChangeShapes Go.WideShapes Go.ChangeAt Go.RowKit
set_option linter.unusedVariables false
set_option linter.unusedSimpArgs false
set_option maxRecDepth 10000

open N0 (Ln)
open N1 (Sl val vals Lists FitM LB lb_new)
open N4 (T t_new at3 Cp put8 other8 bel8)
open N12 (A)
open I2 (ints)

set_option maxHeartbeats 4000000 in
theorem toLoan (d : Ln) (s : Sl) (w : World) (hp : d.pg.length ≤ 1048576) (ho : d.po.length ≤ 1048576) (hf : d.fr.length ≤ 1048576) (hR : Lists w d s) :
    Calls Tryz.prog 32 #[val d s] w fun e w' => ∃ g1 g2 g3, e = .returned (val d (at3 d g1 g2 g3)) ∧ Cp w.heap.size d g1 g2 g3 w' ∧ g1 < g2 ∧ g2 < g3 ∧ Below w.heap.size w w' := by
  have t0 := t_new w d s
  have HL : Hid (∀ W, Below w.heap.size w W → Lists W d s) := fun W hb => hR.below hb
  have r0 := (HL.out _ t0.bel).r1
  clear hR
  go_enter Tryz.func32, Tryz.ntmps32
  go_wp2_with (first
    | (go_at_call 74; have q2' := q2; refine (I2.toIntS s.a3 s.c3 d.fr _ hf q2).mono ?_; rintro e w3 ⟨g3, rfl, hg3, k3, b3⟩; have n23 : g2 < g3 := (by have hq := (k2.setOther (B' := w.heap.size + 2) (by omega) 6 (.slice (some ⟨g2, 0, none⟩) d.po.length d.po.length)).lt; omega); have t3 := u2.below b3; have m1 := l2.below b3; have m2 := (k2.setOther (B' := w.heap.size + 2) (by omega) 6 (.slice (some ⟨g2, 0, none⟩) d.po.length d.po.length)).below b3; have z7 := t3.tmp.cell 7 (by simp); have y7 := t3.tmp.free 7 (by simp); have z0 := t3.tmp.cell 0 (by simp); have z1 := t3.tmp.cell 1 (by simp); have z2 := t3.tmp.cell 2 (by simp); have z3 := t3.tmp.cell 3 (by simp); have z4 := t3.tmp.cell 4 (by simp); have z5 := t3.tmp.cell 5 (by simp); have z6 := t3.tmp.cell 6 (by simp); simp only [List.set_cons_zero, List.set_cons_succ, List.getElem_cons_zero, List.getElem_cons_succ] at z0 z1 z2 z3 z4 z5 z6 z7; have i0 := t3.res.cell 0 (by simp); have i1 := t3.res.cell 1 (by simp); have i2 := t3.res.cell 2 (by simp); have i3 := t3.res.cell 3 (by simp); have i4 := t3.res.cell 4 (by simp); have i5 := t3.res.cell 5 (by simp); have i6 := t3.res.cell 6 (by simp); have i7 := t3.res.cell 7 (by simp); simp only [List.getElem_cons_zero, List.getElem_cons_succ] at i0 i1 i2 i3 i4 i5 i6 i7; have j0 := t3.res.free 0 (by simp); have j1 := t3.res.free 1 (by simp); have j2 := t3.res.free 2 (by simp); have j3 := t3.res.free 3 (by simp); have j4 := t3.res.free 4 (by simp); have j5 := t3.res.free 5 (by simp); have j6 := t3.res.free 6 (by simp); have j7 := t3.res.free 7 (by simp))
    | (go_at_call 74; have q1' := q1; refine (I2.toIntS s.a2 s.c2 d.po _ ho q1).mono ?_; rintro e w2 ⟨g2, rfl, hg2, k2, b2⟩; have t2 := u1.below b2; have l2 := ((k1.setOther (B' := w.heap.size + 2) (by omega) 4 (.slice (some ⟨g1, 0, none⟩) d.pg.length d.pg.length)).setOther (B' := w.heap.size + 2) (by omega) 5 (.string d.sav)).below b2; have n12 : g1 < g2 := (by have hq := ((k1.setOther (B' := w.heap.size + 2) (by omega) 4 (.slice (some ⟨g1, 0, none⟩) d.pg.length d.pg.length)).setOther (B' := w.heap.size + 2) (by omega) 5 (.string d.sav)).lt; omega); have hg2' : w.heap.size + 3 ≤ g2 := (by have hq := u1.tmp.lt; omega); have l2 := l2.setOther (B' := w.heap.size + 2) (by omega) 6 (.slice (some ⟨g2, 0, none⟩) d.po.length d.po.length); have c7 := t2.arg.c7; have x6 := t2.tmp.cell 6 (by simp); have y6 := t2.tmp.free 6 (by simp); simp only [List.set_cons_zero, List.set_cons_succ, List.getElem_cons_zero, List.getElem_cons_succ] at x6; have u2 := t2.set 6 (.slice (some ⟨g2, 0, none⟩) d.po.length d.po.length); have q2 := (HL.out _ u2.bel).r3)
    | (go_at_call 74; refine (I2.toIntS s.a1 s.c1 d.pg _ hp r0).mono ?_; rintro e w1 ⟨g1, rfl, hg1, k1, b1⟩; have t1 := t0.below b1; have hg1' : w.heap.size + 3 ≤ g1 := (by have hq := t0.tmp.lt; omega); have c5 := t1.arg.c5; have c6 := t1.arg.c6; have x4 := t1.tmp.cell 4 (by simp); have y4 := t1.tmp.free 4 (by simp); have x5 := t1.tmp.cell 5 (by simp); have y5 := t1.tmp.free 5 (by simp); simp only [List.getElem_cons_zero, List.getElem_cons_succ] at x4 x5; have u1 := (t1.set 4 (.slice (some ⟨g1, 0, none⟩) d.pg.length d.pg.length)).set 5 (.string d.sav); have q1 := (HL.out _ u1.bel).r2))
  have hg3' : w.heap.size + 3 ≤ g3 := by
    have := u2.tmp.lt
    simp at hg3 this
    omega
  have u3 := t3.set 7 (.slice (some ⟨g3, 0, none⟩) d.fr.length d.fr.length)
  have q := put8 (y0 := .int .i64 d.ino) (y1 := .int .i64 d.cl) (y2 := .int .i64 d.un) (y3 := .string d.rc) (y4 := .slice (some ⟨g1, 0, none⟩) d.pg.length d.pg.length) (y5 := .string d.sav) (y6 := .slice (some ⟨g2, 0, none⟩) d.po.length d.po.length) (y7 := .slice (some ⟨g3, 0, none⟩) d.fr.length d.fr.length) u3.res
  have v0 := q.cell 0 (by simp)
  have v1 := q.cell 1 (by simp)
  have v2 := q.cell 2 (by simp)
  have v3 := q.cell 3 (by simp)
  have v4 := q.cell 4 (by simp)
  have v5 := q.cell 5 (by simp)
  have v6 := q.cell 6 (by simp)
  have v7 := q.cell 7 (by simp)
  simp only [List.getElem_cons_zero, List.getElem_cons_succ] at v0 v1 v2 v3 v4 v5 v6 v7
  refine bodyPost_ret (v := val d (at3 d g1 g2 g3)) (by simp [results, Tryz.results32, go_sem, v0, v1, v2, v3, v4, v5, v6, v7, at3]) rfl ⟨g1, g2, g3, rfl, ⟨by omega, by omega, by omega, ?_, ?_, ?_⟩, n12, n23, ?_⟩
  · exact other8 (m1.setOther (B' := w.heap.size + 2) (by omega) 7 _) (by omega) _ _ _ _ _ _ _ _
  · exact other8 (m2.setOther (B' := w.heap.size + 2) (by omega) 7 _) (by omega) _ _ _ _ _ _ _ _
  · exact other8 (k3.setOther (B' := w.heap.size + 2) (by omega) 7 _) (by omega) _ _ _ _ _ _ _ _
  · exact bel8 u3.bel (by omega) _ _ _ _ _ _ _ _

theorem mark_at {g c k : Nat} {vs : List Value} {L : Nat} {W : World} (h : vs.length = L ∧ K0.Blk g vs W) (hn : L ≤ 1048576) (h0 : k ≤ 1099511627776) :
    Calls Tryz.prog 36 #[.slice (some ⟨g, 0, none⟩) L c, .int .i64 (k : Int)] W fun e w' => e = .returned (.int .i64 ((k + L : Nat) : Int)) ∧ W.grownBy w' (some g) := by
  obtain ⟨rfl, hb⟩ := h
  exact R5.markAny g c vs k W hn h0 hb

/-- The law's loan, boxed; a copy of it, boxed; two rows that were handed out, the first ahead of the copy, the second behind it; what the second holds now. -/
structure K (w : World) (d : Ln) (s : Sl) (f1 f2 f3 B : Nat) (v1 v2 v3 : List Value) (aw ag : Option Addr) (Z M : List Int) (W : World) : Prop where
  a : A w d s W
  n : LB B d (at3 d f1 f2 f3) W
  lo : w.heap.size < f1 ∧ f1 < f2 ∧ f2 < f3 ∧ f3 < B
  k1 : v1.length = d.pg.length ∧ K0.Blk f1 v1 W
  k2 : v2.length = d.po.length ∧ K0.Blk f2 v2 W
  k3 : v3.length = d.fr.length ∧ K0.Blk f3 v3 W
  rows : Z = [] ∨ ∃ g1 g2, aw = some ⟨g1, 0, none⟩ ∧ ag = some ⟨g2, 0, none⟩ ∧ w.heap.size < g1 ∧ g1 < f1 ∧ B < g2 ∧ K0.Blk g1 (ints Z) W ∧ K0.Blk g2 (ints M) W

variable {w W W' : World} {d : Ln} {s : Sl} {f1 f2 f3 B : Nat} {v1 v2 v3 : List Value} {aw ag : Option Addr} {Z M : List Int}

theorem K.below (h : K w d s f1 f2 f3 B v1 v2 v3 aw ag Z M W) (hb : Below W.heap.size W W') : K w d s f1 f2 f3 B v1 v2 v3 aw ag Z M W' :=
  ⟨h.a.below hb, h.n.below hb, h.lo, ⟨h.k1.1, h.k1.2.below hb⟩, ⟨h.k2.1, h.k2.2.below hb⟩, ⟨h.k3.1, h.k3.2.below hb⟩, h.rows.imp id fun ⟨g1, g2, e1, e2, l1, l2, l3, b1, b2⟩ => ⟨g1, g2, e1, e2, l1, l2, l3, b1.below hb, b2.below hb⟩⟩
theorem K.drew (h : K w d s f1 f2 f3 B v1 v2 v3 aw ag Z M W) : K w d s f1 f2 f3 B v1 v2 v3 aw ag Z M W.drew := h.below ((Below.refl _ _).drew)

theorem K.roww (h : K w d s f1 f2 f3 B v1 v2 v3 aw ag Z M W) : P0.Row W aw Z := by
  rcases h.rows with h0 | ⟨g1, g2, e1, e2, _, _, _, b1, b2⟩
  · exact Or.inl h0
  · exact e1 ▸ I2.row_of_blk b1
theorem K.rowg (h : K w d s f1 f2 f3 B v1 v2 v3 aw ag Z Z W) : P0.Row W ag Z := by
  rcases h.rows with h0 | ⟨g1, g2, e1, e2, _, _, _, b1, b2⟩
  · exact Or.inl h0
  · exact e2 ▸ I2.row_of_blk b2
theorem K.lists (h : K w d s f1 f2 f3 B (ints d.pg) (ints d.po) (ints d.fr) aw ag Z M W) : Lists W d (at3 d f1 f2 f3) := ⟨I2.row_of_blk h.k1.2, I2.row_of_blk h.k2.2, I2.row_of_blk h.k3.2⟩

/-- The first row, then the copy, boxed, then the second row. -/
theorem k_new {w3 w4 w5 : World} (h3 : A w d s w3) (o3 : J0.Own (w.heap.size + 1) w3 aw Z) (h4 : Below w3.heap.size w3 w4) (cp : Cp w3.heap.size d f1 f2 f3 w4) (n12 : f1 < f2) (n23 : f2 < f3)
    (h5' : Below (w4.alloc (.cells #[.int .i64 d.ino, .int .i64 d.cl, .int .i64 d.un, .string d.rc, .slice (at3 d f1 f2 f3).a1 d.pg.length (at3 d f1 f2 f3).c1, .string d.sav, .slice (at3 d f1 f2 f3).a2 d.po.length (at3 d f1 f2 f3).c2, .slice (at3 d f1 f2 f3).a3 d.fr.length (at3 d f1 f2 f3).c3] 26)).heap.size (w4.alloc (.cells #[.int .i64 d.ino, .int .i64 d.cl, .int .i64 d.un, .string d.rc, .slice (at3 d f1 f2 f3).a1 d.pg.length (at3 d f1 f2 f3).c1, .string d.sav, .slice (at3 d f1 f2 f3).a2 d.po.length (at3 d f1 f2 f3).c2, .slice (at3 d f1 f2 f3).a3 d.fr.length (at3 d f1 f2 f3).c3] 26)) w5)
    (o5 : J0.Own (w4.alloc (.cells #[.int .i64 d.ino, .int .i64 d.cl, .int .i64 d.un, .string d.rc, .slice (at3 d f1 f2 f3).a1 d.pg.length (at3 d f1 f2 f3).c1, .string d.sav, .slice (at3 d f1 f2 f3).a2 d.po.length (at3 d f1 f2 f3).c2, .slice (at3 d f1 f2 f3).a3 d.fr.length (at3 d f1 f2 f3).c3] 26)).heap.size w5 ag Z) : K w d s f1 f2 f3 w4.heap.size (ints d.pg) (ints d.po) (ints d.fr) aw ag Z Z w5 := by
  have hs3 := h3.b.b.lt
  have q1 := cp.h1
  have q3 := cp.k3.lt
  refine ⟨((h3.below h4).below (K0.below_new _ _)).below h5', (lb_new d (at3 d f1 f2 f3) w4 26).below h5', ⟨by omega, n12, n23, q3⟩, ⟨by simp, (cp.k1.alloc _).below h5'⟩, ⟨by simp, (cp.k2.alloc _).below h5'⟩, ⟨by simp, (cp.k3.alloc _).below h5'⟩, ?_⟩
  rcases o3 with h0 | ⟨g1, e1, l1, b1⟩
  · exact Or.inl h0
  · rcases o5 with h0 | ⟨g2, e2, l2, b2⟩
    · exact Or.inl h0
    · have := b1.lt
      simp at l2
      exact Or.inr ⟨g1, g2, e1, e2, by omega, by omega, by omega, ((b1.below h4).alloc _).below h5', b2⟩

theorem lists_grown {g : Nat} (h : Lists W d s) (hb : Below w.heap.size w W) (hR : Lists w d s) (hg : W.grownBy W' (some g)) (hlt : w.heap.size ≤ g) : Lists W' d s :=
  hR.below (F0.below_grown hb hg (fun g' e => by obtain rfl := Option.some.inj e; exact hlt) hb.size)

theorem a_grown {g : Nat} (h : A w d s W) (hR : Lists w d s) (hg : W.grownBy W' (some g)) (hlt : w.heap.size < g) : A w d s W' :=
  ⟨⟨M0.blk_grown h.b.b hg (by omega)⟩, lists_grown h.l h.bel hR hg (by omega), F0.below_grown h.bel hg (fun g' e => by obtain rfl := Option.some.inj e; omega) h.bel.size⟩

/-- What is kept when a row of the copy is marked. -/
structure K' (w : World) (d : Ln) (s : Sl) (f1 f2 f3 B : Nat) (aw ag : Option Addr) (Z M : List Int) (W : World) : Prop where
  a : A w d s W
  rows : Z = [] ∨ ∃ g1 g2, aw = some ⟨g1, 0, none⟩ ∧ ag = some ⟨g2, 0, none⟩ ∧ w.heap.size < g1 ∧ g1 < f1 ∧ B < g2 ∧ K0.Blk g1 (ints Z) W ∧ K0.Blk g2 (ints M) W
  lo : w.heap.size < f1 ∧ f1 < f2 ∧ f2 < f3 ∧ f3 < B

theorem K'.below (h : K' w d s f1 f2 f3 B aw ag Z M W) (hb : Below W.heap.size W W') : K' w d s f1 f2 f3 B aw ag Z M W' :=
  ⟨h.a.below hb, h.rows.imp id fun ⟨g1, g2, e1, e2, l1, l2, l3, b1, b2⟩ => ⟨g1, g2, e1, e2, l1, l2, l3, b1.below hb, b2.below hb⟩, h.lo⟩
theorem K'.grown {g : Nat} (h : K' w d s f1 f2 f3 B aw ag Z M W) (hR : Lists w d s) (hg : W.grownBy W' (some g)) (h1 : f1 ≤ g) (h2 : g < B) : K' w d s f1 f2 f3 B aw ag Z M W' :=
  ⟨a_grown h.a hR hg (by have := h.lo; omega), h.rows.imp id fun ⟨g1, g2, e1, e2, l1, l2, l3, b1, b2⟩ => ⟨g1, g2, e1, e2, l1, l2, l3, M0.blk_grown b1 hg (by omega), M0.blk_grown b2 hg (by omega)⟩, h.lo⟩
theorem K'.roww (h : K' w d s f1 f2 f3 B aw ag Z M W) : P0.Row W aw Z := by
  rcases h.rows with h0 | ⟨g1, g2, e1, e2, _, _, _, b1, b2⟩
  · exact Or.inl h0
  · exact e1 ▸ I2.row_of_blk b1
theorem K'.rowg (h : K' w d s f1 f2 f3 B aw ag Z Z W) : P0.Row W ag Z := by
  rcases h.rows with h0 | ⟨g1, g2, e1, e2, _, _, _, b1, b2⟩
  · exact Or.inl h0
  · exact e2 ▸ I2.row_of_blk b2

set_option maxHeartbeats 2000000 in
theorem markLoan (hR : Lists w d s) (hp : d.pg.length ≤ 1048576) (ho : d.po.length ≤ 1048576) (hf : d.fr.length ≤ 1048576) (h : K w d s f1 f2 f3 B v1 v2 v3 aw ag Z M W) :
    Calls Tryz.prog 35 #[val d (at3 d f1 f2 f3), .int .i64 1] W fun e w' => (∃ q : Nat, e = .returned (.int .i64 (q : Int))) ∧ K' w d s f1 f2 f3 B aw ag Z M w' := by
  have h0 := h.below (K0.below_new W (.cells #[.int .i64 d.ino, .int .i64 d.cl, .int .i64 d.un, .string d.rc, .slice (at3 d f1 f2 f3).a1 d.pg.length (at3 d f1 f2 f3).c1, .string d.sav, .slice (at3 d f1 f2 f3).a2 d.po.length (at3 d f1 f2 f3).c2, .slice (at3 d f1 f2 f3).a3 d.fr.length (at3 d f1 f2 f3).c3] 26))
  have bx := lb_new d (at3 d f1 f2 f3) W 26
  have hlo := h.lo
  have hBlt := h.n.b.lt
  have k0 : K' w d s f1 f2 f3 B aw ag Z M _ := ⟨h0.a, h0.rows, h0.lo⟩
  have m1 := R5.markAny f1 d.pg.length v1 1 _ (by rw [h0.k1.1]; exact hp) (by omega) h0.k1.2
  rw [h0.k1.1] at m1
  have K2 := h0.k2
  have K3 := h0.k3
  clear h h0
  go_enter Tryz.func35, Tryz.ntmps35
  go_wp2_with (first
    | (go_at_call 36; have hg2' := hg2; refine (mark_at (k := 1 + d.pg.length + d.po.length) (c := d.fr.length) k32 hf (by omega)).mono ?_; rintro e w3 ⟨rfl, hg3⟩; have k3 := k2.grown hR hg3 (by omega) (by omega))
    | (go_at_call 36; have hg1' := hg1; refine (mark_at (k := 1 + d.pg.length) (c := d.po.length) k21 ho (by omega)).mono ?_; rintro e w2 ⟨rfl, hg2⟩; have k2 := k1.grown hR hg2 (by omega) (by omega); have k32 : v3.length = d.fr.length ∧ K0.Blk f3 v3 w2 := ⟨k31.1, M0.blk_grown k31.2 hg2 (by omega)⟩; have b2 : LB W.heap.size d (at3 d f1 f2 f3) w2 := ⟨M0.blk_grown b1.b hg2 (by omega)⟩; have c7 := b2.c7)
    | (go_at_call 36; refine m1.mono ?_; rintro e w1 ⟨rfl, hg1⟩; have k1 := k0.grown hR hg1 (by omega) (by omega); have k21 : v2.length = d.po.length ∧ K0.Blk f2 v2 w1 := ⟨K2.1, M0.blk_grown K2.2 hg1 (by omega)⟩; have k31 : v3.length = d.fr.length ∧ K0.Blk f3 v3 w1 := ⟨K3.1, M0.blk_grown K3.2 hg1 (by omega)⟩; have b1 : LB W.heap.size d (at3 d f1 f2 f3) w1 := ⟨M0.blk_grown bx.b hg1 (by omega)⟩; have c6 := b1.c6))
  go_ret
  exact ⟨⟨_, rfl⟩, k3⟩

theorem nR_le (d : Ln) : R6.nR d ≤ 1048576 := by
  unfold R6.nR
  cases h : N0.loanOk d with
  | false => exact Nat.zero_le _
  | true =>
    obtain ⟨-, -, -, -, -, -, hp6, hp4, hf2, -, -, -, -⟩ := N0.loanOk_is h
    show 1 + d.pg.length + d.po.length + d.fr.length ≤ _
    omega
end Go.Proofs.YtddlpejklpljoaaGreat.N15

/- What a law over a loan that hands out a row of numbers keeps. -/
namespace Go.Proofs.YtddlpejklpljoaaGreat.Y4
open Go.ChangeShapes Go.WideShapes Go.ChangeAt Go.RowKit
set_option linter.unusedVariables false
set_option linter.unusedSimpArgs false
set_option maxRecDepth 10000

open N0 (Ln)
open N1 (Sl Lists)
open I2 (ints)
open N15 (K' a_grown)

variable {w W W' : World} {d : Ln} {s : Sl} {f1 f2 f3 B : Nat} {aw ag : Option Addr} {Z M : List Int}

theorem eq_i (a1 a2 : Option Addr) (c1 c2 : Nat) (zs : List Int) (w : World) (hn : zs.length ≤ 1048576) (h1 : P0.Row w a1 zs) (h2 : P0.Row w a2 zs) :
    Calls Tryz.prog 33 #[.slice a1 zs.length c1, .slice a2 zs.length c2] w fun e w' => e = .returned (.bool true) ∧ Below w.heap.size w w' :=
  (I2.eqIntS a1 a2 c1 c2 zs w (by omega) h1 h2).mono fun _ _ ⟨he, n, hw⟩ => ⟨he, by rw [hw]; exact ⟨rfl, rfl, rfl, Nat.le_refl _, fun _ _ => rfl⟩⟩

theorem mark_i {cg : Nat} (hR : Lists w d s) (hN : Z.length ≤ 1048576) (h : K' w d s f1 f2 f3 B aw ag Z Z W) :
    Calls Tryz.prog 36 #[.slice ag Z.length cg, .int .i64 1] W fun e w' => e = .returned (.int .i64 ((1 + Z.length : Nat) : Int)) ∧ K' w d s f1 f2 f3 B aw ag Z (M0.marks Z.length) w' := by
  rcases h.rows with h0 | ⟨g1, g2, e1, e2, l1, l2, l3, b1, b2⟩
  · subst h0
    exact (M0.markNone ag cg W).mono fun _ _ ⟨he, hw⟩ => ⟨he, by rw [hw]; exact ⟨h.a, Or.inl rfl, h.lo⟩⟩
  · subst e2
    have := M0.markIntS g2 cg (ints Z) W (by simpa using hN) b2
    rw [show (ints Z).length = Z.length by simp] at this
    exact this.mono fun _ w' ⟨he, hk, hg⟩ => ⟨he, a_grown h.a hR hg (by have := h.lo; omega), Or.inr ⟨g1, g2, e1, rfl, l1, l2, l3, M0.blk_grown b1 hg (by have := h.lo; omega), hk⟩, h.lo⟩

theorem held_i {cg : Nat} (hN : Z.length ≤ 1048576) (h : K' w d s f1 f2 f3 B aw ag Z (M0.marks Z.length) W) :
    Calls Tryz.prog 37 #[.slice ag Z.length cg, .int .i64 1] W fun e w' => e = .returned (.int .i64 ((1 + Z.length : Nat) : Int)) ∧ w' = W := by
  rcases h.rows with h0 | ⟨g1, g2, e1, e2, l1, l2, l3, b1, b2⟩
  · subst h0
    exact M0.heldNone ag cg W
  · subst e2
    exact M0.heldIntS g2 cg Z.length W hN b2

theorem come_le (mem : ByteArray) (d : Ln) (h : d.fr.length ≤ 1048576) : (Y1.come mem d).length ≤ 1048576 := by
  unfold Y1.come
  split
  · exact Nat.le_trans (List.length_filter_le _ _) h
  · exact Nat.zero_le _
end Go.Proofs.YtddlpejklpljoaaGreat.Y4
