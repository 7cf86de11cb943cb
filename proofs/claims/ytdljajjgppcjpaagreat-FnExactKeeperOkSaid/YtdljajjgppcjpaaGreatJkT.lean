/- Joined texts: plain facts and contracts, as each part says. -/
import Derived.Test.YtdljajjgppcjpaaGreatJkS
import Derived.Test.YtdljajjgppcjpaaGreatJkJ
import Derived.RangeFuncNested
import Derived.RangeFuncLeaves
import Derived.WalkKit
import Derived.Deep.Quiet
import Derived.Test.YtdljajjgppcjpaaGreatJkA
import Derived.Test.YtdljajjgppcjpaaGreatRows
import Derived.Deep.MidRow
import Derived.Deep.WholeRow
import Derived.ProofKit
import Derived.Test.YtdljajjgppcjpaaGreatJkD
import Derived.Test.YtdljajjgppcjpaaGreatJkB
import Derived.Deep.RegionWith
import Derived.Lib.SmallJoins
import Derived.OpenShut
import Derived.ShutString

/- What Ranges answers; contracts of spec.Ranges and impl.Ranges, as the given laws call them. -/
namespace Go.Proofs.YtdljajjgppcjpaaGreat.R6
open Go.ChangeShapes Go.WideShapes Go.ChangeAt Go.RowKit
set_option linter.unusedVariables false
set_option linter.unusedSimpArgs false
set_option maxRecDepth 10000

open N0 (Ln)
open N1 (Sl Lists Fit LB lb_new)
open N13 (Bx bx_new)
open R5 (RBuf)

/-- The ranges of the first pages, and of the first records. -/
def rP (zs : List Int) (k : Nat) : List Int := (zs.take k).flatMap fun p => [p * 32, 32]
def rF (zs : List Int) (k : Nat) : List Int := (zs.take k).flatMap fun f => [L1.recAt f, 16]

/-- What Ranges answers, and how many. -/
def rg (d : Ln) : List Int := if N0.loanOk d then [L1.recAt d.ino, 16] ++ rP d.pg d.pg.length ++ rP d.po d.po.length ++ rF d.fr d.fr.length else []
def nR (d : Ln) : Nat := if N0.loanOk d then 1 + d.pg.length + d.po.length + d.fr.length else 0

theorem rP_succ (zs : List Int) (k : Nat) (h : k < zs.length) : rP zs (k + 1) = rP zs k ++ [zs.getD k 0 * 32, 32] := by
  unfold rP
  rw [List.take_succ_eq_append_getElem h, List.flatMap_append, P0.getD_get _ _ h]
  simp
theorem rF_succ (zs : List Int) (k : Nat) (h : k < zs.length) : rF zs (k + 1) = rF zs k ++ [L1.recAt (zs.getD k 0), 16] := by
  unfold rF
  rw [List.take_succ_eq_append_getElem h, List.flatMap_append, P0.getD_get _ _ h]
  simp

/-- What both answer. -/
def Ans (d : Ln) (w : World) (e : Ending) (w' : World) : Prop := ∃ a c, e = .returned (.slice a (nR d) c) ∧ (rg d).length = nR d * 2 ∧ nR d ≤ c ∧ J0.Own w.heap.size w' a (rg d) ∧ Below w.heap.size w w'

theorem ans_no {d : Ln} {w w' : World} {a : Option Addr} {c : Nat} (h : N0.loanOk d = false) (hb : Below w.heap.size w w') : Ans d w (.returned (.slice a 0 c)) w' := by
  have e1 : rg d = [] := by rw [rg, h]; rfl
  have e2 : nR d = 0 := by rw [nR, h]; rfl
  exact ⟨a, c, by rw [e2], by rw [e1, e2]; rfl, by rw [e2]; exact Nat.zero_le _, by rw [e1]; exact Or.inl rfl, hb⟩

theorem ans_yes {d : Ln} {w w' : World} {a : Option Addr} {n c : Nat} {zs : List Int} (h : N0.loanOk d = true) (hn : n = 1 + d.pg.length + d.po.length + d.fr.length) (hz : zs = [L1.recAt d.ino, 16] ++ rP d.pg d.pg.length ++ rP d.po d.po.length ++ rF d.fr d.fr.length) (hbuf : RBuf (w.heap.size + 1) w' a n c zs) (hb : Below w.heap.size w w') : Ans d w (.returned (.slice a n c)) w' := by
  have e1 : rg d = zs := by rw [rg, h, hz]; rfl
  have e2 : nR d = n := by rw [nR, h, hn]; rfl
  exact ⟨a, c, by rw [e2], by rw [e1, e2]; exact hbuf.1, by rw [e2]; exact hbuf.fits, by rw [e1]; exact hbuf.own.mono (by omega), hb⟩

theorem bx_keep {w W W' : World} {d : Ln} {s : Sl} (h : Bx w d s W) (hb : Below (w.heap.size + 1) W W') : Bx w d s W' :=
  ⟨⟨J0.blk_keep h.arg.b hb (by omega)⟩, h.bel.trans (hb.mono (by omega))⟩

theorem bx_size {w W : World} {d : Ln} {s : Sl} (h : Bx w d s W) : w.heap.size + 1 ≤ W.heap.size := h.arg.b.lt

set_option maxHeartbeats 4000000 in
theorem impl_Ranges (d : Ln) (s : Sl) (w : World) (hF : Fit d s) (hpo : d.po.length ≤ 1048576) (hfr : d.fr.length ≤ 1048576) (hR : Lists w d s) : Calls Tryz.prog 8 #[N1.val d s] w (Ans d w) := by
  have x0 := bx_new w d s
  have HL : Hid (∀ W, Below w.heap.size w W → Lists W d s) := fun W hb => hR.below hb
  have HO : Hid (∀ W, Below w.heap.size w W → Calls Tryz.prog 15 #[N1.val d s] W fun e w' => e = .returned (.bool (N0.loanOk d)) ∧ Below W.heap.size W w') := fun W hb => N10.impl_LoanOk d s W hF hpo hfr (hR.below hb)
  have HN : Hid (∀ a c w', N0.loanOk d = false → Below w.heap.size w w' → Ans d w (.returned (.slice a 0 c)) w') := fun a c w' h hb => ans_no h hb
  have HY : Hid (∀ a n c zs w', N0.loanOk d = true → n = 1 + d.pg.length + d.po.length + d.fr.length → zs = [L1.recAt d.ino, 16] ++ rP d.pg d.pg.length ++ rP d.po d.po.length ++ rF d.fr d.fr.length → RBuf (w.heap.size + 1) w' a n c zs → Below w.heap.size w w' → Ans d w (.returned (.slice a n c)) w') := fun a n c zs w' h hn hz hbuf hb => ans_yes h hn hz hbuf hb
  obtain ⟨R, hR'⟩ : ∃ R, Ans d w = R := ⟨_, rfl⟩
  rw [hR'] at HN HY ⊢
  clear hR hR' hF
  cases hok : N0.loanOk d with
  | false =>
    rw [hok] at HO
    have hok' := hok
    clear hok
    go_enter Tryz.func8, Tryz.ntmps8
    go_wp2_with (go_at_call 15; refine (HO.out _ x0.bel).mono ?_; rintro e w1 ⟨rfl, b1⟩; have x1 := x0.below b1)
    exact HN.out _ _ _ hok' (x1.bel.alloc x1.bel.size _)
  | true =>
    rw [hok] at HO
    obtain ⟨-, -, -, -, -, -, hp6, hp4, hf2, hpp, -, -, -⟩ := N0.loanOk_is hok
    have hpg : ∀ j, j < d.pg.length → 5 ≤ d.pg.getD j 0 ∧ d.pg.getD j 0 ≤ 23 := fun j hj => (N0.pagesOk_iff.1 hpp).1 _ (List.mem_append.2 (Or.inl (N0.getD_mem hj)))
    have hpq : ∀ j, j < d.po.length → 5 ≤ d.po.getD j 0 ∧ d.po.getD j 0 ≤ 23 := fun j hj => (N0.pagesOk_iff.1 hpp).1 _ (List.mem_append.2 (Or.inr (N0.getD_mem hj)))
    have HOK : Hid (N0.loanOk d = true) := hok
    clear hok hpp
    go_enter Tryz.func8, Tryz.ntmps8
    go_wp2_with (first
      | (go_at_call 15; refine (HO.out _ x0.bel).mono ?_; rintro e w1 ⟨rfl, b1⟩; have x1 := x0.below b1; have c0 := x1.arg.c0; have x2 := x1.below (K0.below_new w1 (.cells #[.int .i64 (L1.recAt d.ino), .int .i64 16] 38)); have c4 := x2.arg.c4; have bf2 : RBuf (w.heap.size + 1) (w1.alloc (.cells #[.int .i64 (L1.recAt d.ino), .int .i64 16] 38)) (some ⟨w1.heap.size, 0, none⟩) 1 1 [L1.recAt d.ino, 16] := R5.rbuf_one w1 _ _ (bx_size x1))
      | (go_at_call 18; refine (L1.impl_RecAt _ _).mono ?_; rintro e wq ⟨rfl, rfl⟩))
    obtain ⟨p0, hp0⟩ : ∃ p0, [L1.recAt d.ino, 16] = p0 := ⟨_, rfl⟩
    have HP0 : Hid ([L1.recAt d.ino, 16] = p0) := hp0
    rw [hp0] at bf2
    clear hp0 c0 c4 x0 x1 b1
    go_loopw [3, 22] (fun v i w' => ∃ (k0 c : Nat) (a : Option Addr), k0 ≤ d.pg.length ∧ i = .int .i64 k0 ∧ v = .slice a (1 + k0) c ∧ RBuf (w.heap.size + 1) w' a (1 + k0) c (p0 ++ rP d.pg k0) ∧ Bx w d s w') (fun _ i _ => d.pg.length - (intOf i).toNat)
    case atStart => exact ⟨0, _, _, Nat.zero_le _, rfl, rfl, by rw [show p0 ++ rP d.pg 0 = p0 by simp [rP]]; exact bf2, x2⟩
    case round =>
      obtain ⟨k0, cq0, aq0, hk0, rfl, rfl, bf0, xr0⟩ := hrel
      clear bf2 x2
      have cc0 := xr0.arg.c4
      by_cases hlt : k0 < d.pg.length
      · obtain ⟨b, off, hab, _, hcell⟩ := (HL.out _ xr0.bel).r1.get hlt
        have y1 := hcell k0 hlt
        have hz := hpg k0 hlt
        have HS : Hid (p0 ++ rP d.pg k0 ++ [d.pg.getD k0 0 * 32, 32] = p0 ++ rP d.pg (k0 + 1)) := by show _ = _; rw [List.append_assoc, ← rP_succ _ _ hlt]
        obtain ⟨z, ez⟩ : ∃ z, d.pg.getD k0 0 = z := ⟨_, rfl⟩
        rw [ez] at y1 HS hz
        rw [hab]
        have e1 : (0 : Int) ≤ (k0 : Int) := by omega
        have e2 : (k0 : Int) < (d.pg.length : Int) := by omega
        have hsz := bx_size xr0
        clear ez hcell
        go_wp2_with (at_builtin; refine R5.append_rng rfl (.tmp 26) (.tmp 30) rfl bf0 _ _ (by rfl) (by rfl) (by omega) hsz ?_; intro g5 cap5 w5 bf5 bel5)
        go_roundw
        case rel => exact ⟨k0 + 1, cap5, _, by omega, by go_num, by rw [Nat.add_assoc], by rw [← HS.out, ← Nat.add_assoc]; exact bf5, bx_keep xr0 bel5⟩
        case measure => simp [intOf]; omega
      · obtain rfl : k0 = d.pg.length := by omega
        have d0 := xr0.arg.c6
        go_wp2
        go_loopw [3, 36] (fun v i w' => ∃ (k1 c : Nat) (a : Option Addr), k1 ≤ d.po.length ∧ i = .int .i64 k1 ∧ v = .slice a ((1 + d.pg.length) + k1) c ∧ RBuf (w.heap.size + 1) w' a ((1 + d.pg.length) + k1) c ((p0 ++ rP d.pg d.pg.length) ++ rP d.po k1) ∧ Bx w d s w') (fun _ i _ => d.po.length - (intOf i).toNat)
        case atStart => exact ⟨0, _, _, Nat.zero_le _, rfl, rfl, by rw [show (p0 ++ rP d.pg d.pg.length) ++ rP d.po 0 = (p0 ++ rP d.pg d.pg.length) by simp [rP]]; exact bf0, xr0⟩
        case round =>
          rename_i wr2
          obtain ⟨k1, cq1, aq1, hk1, rfl, rfl, bf1, xr1⟩ := hrel
          skip
          have cc1 := xr1.arg.c6
          by_cases hlt : k1 < d.po.length
          · obtain ⟨b, off, hab, _, hcell⟩ := (HL.out _ xr1.bel).r2.get hlt
            have y1 := hcell k1 hlt
            have hz := hpq k1 hlt
            have HS : Hid ((p0 ++ rP d.pg d.pg.length) ++ rP d.po k1 ++ [d.po.getD k1 0 * 32, 32] = (p0 ++ rP d.pg d.pg.length) ++ rP d.po (k1 + 1)) := by show _ = _; rw [List.append_assoc, ← rP_succ _ _ hlt]
            obtain ⟨z, ez⟩ : ∃ z, d.po.getD k1 0 = z := ⟨_, rfl⟩
            rw [ez] at y1 HS hz
            rw [hab]
            have e1 : (0 : Int) ≤ (k1 : Int) := by omega
            have e2 : (k1 : Int) < (d.po.length : Int) := by omega
            have hsz := bx_size xr1
            clear ez hcell
            go_wp2_with (at_builtin; refine R5.append_rng rfl (.tmp 40) (.tmp 44) rfl bf1 _ _ (by rfl) (by rfl) (by omega) hsz ?_; intro g5 cap5 w5 bf5 bel5)
            go_roundw
            case rel => exact ⟨k1 + 1, cap5, _, by omega, by go_num, by rw [Nat.add_assoc], by rw [← HS.out, ← Nat.add_assoc]; exact bf5, bx_keep xr1 bel5⟩
            case measure => simp [intOf]; omega
          · obtain rfl : k1 = d.po.length := by omega
            have d1 := xr1.arg.c7
            go_wp2
            go_loopw [3, 50] (fun v i w' => ∃ (k2 c : Nat) (a : Option Addr), k2 ≤ d.fr.length ∧ i = .int .i64 k2 ∧ v = .slice a (((1 + d.pg.length) + d.po.length) + k2) c ∧ RBuf (w.heap.size + 1) w' a (((1 + d.pg.length) + d.po.length) + k2) c (((p0 ++ rP d.pg d.pg.length) ++ rP d.po d.po.length) ++ rF d.fr k2) ∧ Bx w d s w') (fun _ i _ => d.fr.length - (intOf i).toNat)
            case atStart => exact ⟨0, _, _, Nat.zero_le _, rfl, rfl, by rw [show ((p0 ++ rP d.pg d.pg.length) ++ rP d.po d.po.length) ++ rF d.fr 0 = ((p0 ++ rP d.pg d.pg.length) ++ rP d.po d.po.length) by simp [rF]]; exact bf1, xr1⟩
            case round =>
              rename_i wr3
              obtain ⟨k2, cq2, aq2, hk2, rfl, rfl, bf2, xr2⟩ := hrel
              skip
              have cc2 := xr2.arg.c7
              by_cases hlt : k2 < d.fr.length
              · obtain ⟨b, off, hab, _, hcell⟩ := (HL.out _ xr2.bel).r3.get hlt
                have y1 := hcell k2 hlt
                have HS : Hid (((p0 ++ rP d.pg d.pg.length) ++ rP d.po d.po.length) ++ rF d.fr k2 ++ [L1.recAt (d.fr.getD k2 0), 16] = ((p0 ++ rP d.pg d.pg.length) ++ rP d.po d.po.length) ++ rF d.fr (k2 + 1)) := by show _ = _; rw [List.append_assoc, ← rF_succ _ _ hlt]
                obtain ⟨z, ez⟩ : ∃ z, d.fr.getD k2 0 = z := ⟨_, rfl⟩
                rw [ez] at y1 HS
                rw [hab]
                have e1 : (0 : Int) ≤ (k2 : Int) := by omega
                have e2 : (k2 : Int) < (d.fr.length : Int) := by omega
                have hsz := bx_size xr2
                clear ez hcell
                go_wp2_with (first
                  | (go_at_call 18; refine (L1.impl_RecAt _ _).mono ?_; rintro e wq ⟨rfl, rfl⟩)
                  | (at_builtin; refine R5.append_rng rfl (.tmp 54) (.tmp 58) rfl bf2 _ _ (by rfl) (by rfl) (by omega) hsz ?_; intro g5 cap5 w5 bf5 bel5))
                go_roundw
                case rel => exact ⟨k2 + 1, cap5, _, by omega, by go_num, by rw [Nat.add_assoc], by rw [← HS.out, ← Nat.add_assoc]; exact bf5, bx_keep xr2 bel5⟩
                case measure => simp [intOf]; omega
              · obtain rfl : k2 = d.fr.length := by omega
                go_wp2
                refine HY.out _ _ _ _ _ HOK.out rfl ?_ bf2 xr2.bel
                rw [HP0.out]

set_option maxHeartbeats 4000000 in
theorem spec_Ranges (d : Ln) (s : Sl) (w : World) (hF : Fit d s) (hpo : d.po.length ≤ 1048576) (hfr : d.fr.length ≤ 1048576) (hR : Lists w d s) : Calls Tryz.prog 12 #[N1.val d s] w (Ans d w) := by
  have x0 := bx_new w d s
  have HL : Hid (∀ W, Below w.heap.size w W → Lists W d s) := fun W hb => hR.below hb
  have HO : Hid (∀ W, Below w.heap.size w W → Calls Tryz.prog 16 #[N1.val d s] W fun e w' => e = .returned (.bool (N0.loanOk d)) ∧ Below W.heap.size W w') := fun W hb => N11.spec_LoanOk d s W hF hpo hfr (hR.below hb)
  have HN : Hid (∀ a c w', N0.loanOk d = false → Below w.heap.size w w' → Ans d w (.returned (.slice a 0 c)) w') := fun a c w' h hb => ans_no h hb
  have HY : Hid (∀ a n c zs w', N0.loanOk d = true → n = 1 + d.pg.length + d.po.length + d.fr.length → zs = [L1.recAt d.ino, 16] ++ rP d.pg d.pg.length ++ rP d.po d.po.length ++ rF d.fr d.fr.length → RBuf (w.heap.size + 1) w' a n c zs → Below w.heap.size w w' → Ans d w (.returned (.slice a n c)) w') := fun a n c zs w' h hn hz hbuf hb => ans_yes h hn hz hbuf hb
  obtain ⟨R, hR'⟩ : ∃ R, Ans d w = R := ⟨_, rfl⟩
  rw [hR'] at HN HY ⊢
  clear hR hR' hF
  cases hok : N0.loanOk d with
  | false =>
    rw [hok] at HO
    have hok' := hok
    clear hok
    go_enter Tryz.func12, Tryz.ntmps12
    go_wp2_with (go_at_call 16; refine (HO.out _ x0.bel).mono ?_; rintro e w1 ⟨rfl, b1⟩; have x1 := x0.below b1)
    exact HN.out _ _ _ hok' (x1.bel.alloc x1.bel.size _)
  | true =>
    rw [hok] at HO
    obtain ⟨-, -, -, -, -, -, hp6, hp4, hf2, hpp, -, -, -⟩ := N0.loanOk_is hok
    have hpg : ∀ j, j < d.pg.length → 5 ≤ d.pg.getD j 0 ∧ d.pg.getD j 0 ≤ 23 := fun j hj => (N0.pagesOk_iff.1 hpp).1 _ (List.mem_append.2 (Or.inl (N0.getD_mem hj)))
    have hpq : ∀ j, j < d.po.length → 5 ≤ d.po.getD j 0 ∧ d.po.getD j 0 ≤ 23 := fun j hj => (N0.pagesOk_iff.1 hpp).1 _ (List.mem_append.2 (Or.inr (N0.getD_mem hj)))
    have HOK : Hid (N0.loanOk d = true) := hok
    clear hok hpp
    go_enter Tryz.func12, Tryz.ntmps12
    go_wp2_with (first
      | (go_at_call 16; refine (HO.out _ x0.bel).mono ?_; rintro e w1 ⟨rfl, b1⟩; have x1 := x0.below b1; have c0 := x1.arg.c0; have x2 := x1.below (K0.below_new w1 (.cells #[.int .i64 (L1.recAt d.ino), .int .i64 16] 38)); have c4 := x2.arg.c4; have bf2 : RBuf (w.heap.size + 1) (w1.alloc (.cells #[.int .i64 (L1.recAt d.ino), .int .i64 16] 38)) (some ⟨w1.heap.size, 0, none⟩) 1 1 [L1.recAt d.ino, 16] := R5.rbuf_one w1 _ _ (bx_size x1))
      | (go_at_call 31; refine (L1.spec_RecAt _ _).mono ?_; rintro e wq ⟨rfl, rfl⟩))
    obtain ⟨p0, hp0⟩ : ∃ p0, [L1.recAt d.ino, 16] = p0 := ⟨_, rfl⟩
    have HP0 : Hid ([L1.recAt d.ino, 16] = p0) := hp0
    rw [hp0] at bf2
    clear hp0 c0 c4 x0 x1 b1
    go_loopw [3, 4] (fun v i w' => ∃ (k0 c : Nat) (a : Option Addr), k0 ≤ d.pg.length ∧ i = .int .i64 k0 ∧ v = .slice a (1 + k0) c ∧ RBuf (w.heap.size + 1) w' a (1 + k0) c (p0 ++ rP d.pg k0) ∧ Bx w d s w') (fun _ i _ => d.pg.length - (intOf i).toNat)
    case atStart => exact ⟨0, _, _, Nat.zero_le _, rfl, rfl, by rw [show p0 ++ rP d.pg 0 = p0 by simp [rP]]; exact bf2, x2⟩
    case round =>
      obtain ⟨k0, cq0, aq0, hk0, rfl, rfl, bf0, xr0⟩ := hrel
      clear bf2 x2
      have cc0 := xr0.arg.c4
      by_cases hlt : k0 < d.pg.length
      · obtain ⟨b, off, hab, _, hcell⟩ := (HL.out _ xr0.bel).r1.get hlt
        have y1 := hcell k0 hlt
        have hz := hpg k0 hlt
        have HS : Hid (p0 ++ rP d.pg k0 ++ [d.pg.getD k0 0 * 32, 32] = p0 ++ rP d.pg (k0 + 1)) := by show _ = _; rw [List.append_assoc, ← rP_succ _ _ hlt]
        obtain ⟨z, ez⟩ : ∃ z, d.pg.getD k0 0 = z := ⟨_, rfl⟩
        rw [ez] at y1 HS hz
        rw [hab] at cc0
        clear hab
        have e1 : (0 : Int) ≤ (k0 : Int) := by omega
        have e2 : (k0 : Int) < (d.pg.length : Int) := by omega
        have hsz := bx_size xr0
        clear ez hcell
        go_wp2_with (at_builtin; refine R5.append_rng rfl (.tmp 23) (.tmp 31) rfl bf0 _ _ (by rfl) (by rfl) (by omega) hsz ?_; intro g5 cap5 w5 bf5 bel5)
        go_roundw
        case rel => exact ⟨k0 + 1, cap5, _, by omega, by go_num, by rw [Nat.add_assoc], by rw [← HS.out, ← Nat.add_assoc]; exact bf5, bx_keep xr0 bel5⟩
        case measure => simp [intOf]; omega
      · obtain rfl : k0 = d.pg.length := by omega
        have e9 : decide ((d.pg.length : Int) < (d.pg.length : Int)) = false := by simp
        have d0 := xr0.arg.c6
        go_wp2
        go_loopw [3, 5] (fun v i w' => ∃ (k1 c : Nat) (a : Option Addr), k1 ≤ d.po.length ∧ i = .int .i64 k1 ∧ v = .slice a ((1 + d.pg.length) + k1) c ∧ RBuf (w.heap.size + 1) w' a ((1 + d.pg.length) + k1) c ((p0 ++ rP d.pg d.pg.length) ++ rP d.po k1) ∧ Bx w d s w') (fun _ i _ => d.po.length - (intOf i).toNat)
        case atStart => exact ⟨0, _, _, Nat.zero_le _, rfl, rfl, by rw [show (p0 ++ rP d.pg d.pg.length) ++ rP d.po 0 = (p0 ++ rP d.pg d.pg.length) by simp [rP]]; exact bf0, xr0⟩
        case round =>
          rename_i wr2
          obtain ⟨k1, cq1, aq1, hk1, rfl, rfl, bf1, xr1⟩ := hrel
          skip
          have cc1 := xr1.arg.c6
          by_cases hlt : k1 < d.po.length
          · obtain ⟨b, off, hab, _, hcell⟩ := (HL.out _ xr1.bel).r2.get hlt
            have y1 := hcell k1 hlt
            have hz := hpq k1 hlt
            have HS : Hid ((p0 ++ rP d.pg d.pg.length) ++ rP d.po k1 ++ [d.po.getD k1 0 * 32, 32] = (p0 ++ rP d.pg d.pg.length) ++ rP d.po (k1 + 1)) := by show _ = _; rw [List.append_assoc, ← rP_succ _ _ hlt]
            obtain ⟨z, ez⟩ : ∃ z, d.po.getD k1 0 = z := ⟨_, rfl⟩
            rw [ez] at y1 HS hz
            rw [hab] at cc1
            clear hab
            have e1 : (0 : Int) ≤ (k1 : Int) := by omega
            have e2 : (k1 : Int) < (d.po.length : Int) := by omega
            have hsz := bx_size xr1
            clear ez hcell
            go_wp2_with (at_builtin; refine R5.append_rng rfl (.tmp 40) (.tmp 48) rfl bf1 _ _ (by rfl) (by rfl) (by omega) hsz ?_; intro g5 cap5 w5 bf5 bel5)
            go_roundw
            case rel => exact ⟨k1 + 1, cap5, _, by omega, by go_num, by rw [Nat.add_assoc], by rw [← HS.out, ← Nat.add_assoc]; exact bf5, bx_keep xr1 bel5⟩
            case measure => simp [intOf]; omega
          · obtain rfl : k1 = d.po.length := by omega
            have e9 : decide ((d.po.length : Int) < (d.po.length : Int)) = false := by simp
            have d1 := xr1.arg.c7
            go_wp2
            go_loopw [3, 6] (fun v i w' => ∃ (k2 c : Nat) (a : Option Addr), k2 ≤ d.fr.length ∧ i = .int .i64 k2 ∧ v = .slice a (((1 + d.pg.length) + d.po.length) + k2) c ∧ RBuf (w.heap.size + 1) w' a (((1 + d.pg.length) + d.po.length) + k2) c (((p0 ++ rP d.pg d.pg.length) ++ rP d.po d.po.length) ++ rF d.fr k2) ∧ Bx w d s w') (fun _ i _ => d.fr.length - (intOf i).toNat)
            case atStart => exact ⟨0, _, _, Nat.zero_le _, rfl, rfl, by rw [show ((p0 ++ rP d.pg d.pg.length) ++ rP d.po d.po.length) ++ rF d.fr 0 = ((p0 ++ rP d.pg d.pg.length) ++ rP d.po d.po.length) by simp [rF]]; exact bf1, xr1⟩
            case round =>
              rename_i wr3
              obtain ⟨k2, cq2, aq2, hk2, rfl, rfl, bf2, xr2⟩ := hrel
              skip
              have cc2 := xr2.arg.c7
              by_cases hlt : k2 < d.fr.length
              · obtain ⟨b, off, hab, _, hcell⟩ := (HL.out _ xr2.bel).r3.get hlt
                have y1 := hcell k2 hlt
                have HS : Hid (((p0 ++ rP d.pg d.pg.length) ++ rP d.po d.po.length) ++ rF d.fr k2 ++ [L1.recAt (d.fr.getD k2 0), 16] = ((p0 ++ rP d.pg d.pg.length) ++ rP d.po d.po.length) ++ rF d.fr (k2 + 1)) := by show _ = _; rw [List.append_assoc, ← rF_succ _ _ hlt]
                obtain ⟨z, ez⟩ : ∃ z, d.fr.getD k2 0 = z := ⟨_, rfl⟩
                rw [ez] at y1 HS
                rw [hab] at cc2
                clear hab
                have e1 : (0 : Int) ≤ (k2 : Int) := by omega
                have e2 : (k2 : Int) < (d.fr.length : Int) := by omega
                have hsz := bx_size xr2
                clear ez hcell
                go_wp2_with (first
                  | (go_at_call 31; refine (L1.spec_RecAt _ _).mono ?_; rintro e wq ⟨rfl, rfl⟩)
                  | (at_builtin; refine R5.append_rng rfl (.tmp 57) (.tmp 65) rfl bf2 _ _ (by rfl) (by rfl) (by omega) hsz ?_; intro g5 cap5 w5 bf5 bel5))
                go_roundw
                case rel => exact ⟨k2 + 1, cap5, _, by omega, by go_num, by rw [Nat.add_assoc], by rw [← HS.out, ← Nat.add_assoc]; exact bf5, bx_keep xr2 bel5⟩
                case measure => simp [intOf]; omega
              · obtain rfl : k2 = d.fr.length := by omega
                have e9 : decide ((d.fr.length : Int) < (d.fr.length : Int)) = false := by simp
                go_wp2
                refine HY.out _ _ _ _ _ HOK.out rfl ?_ bf2 xr2.bel
                rw [HP0.out]
end Go.Proofs.YtdljajjgppcjpaaGreat.R6

/- The ranges of a loan as pairs; whether a stretch lies within them. -/
namespace Go.Proofs.YtdljajjgppcjpaaGreat.WI
open Go.ChangeShapes Go.WideShapes Go.ChangeAt Go.RowKit
set_option linter.unusedVariables false
set_option linter.unusedSimpArgs false
set_option maxRecDepth 10000
open N0 (Ln)
open HP (Rg at_ cov covAll cov_iff covAll_iff)
open I2 (ints)

def fl : List Rg → List Int
  | [] => []
  | r :: t => r.1 :: r.2 :: fl t
theorem fl_append : ∀ l m : List Rg, fl (l ++ m) = fl l ++ fl m
  | [], m => rfl
  | r :: t, m => by simp [fl, fl_append t m]
theorem fl_map (f : Int → Rg) : ∀ zs : List Int, fl (zs.map f) = zs.flatMap fun z => [(f z).1, (f z).2]
  | [] => rfl
  | z :: t => by simp [fl, fl_map f t]
theorem fl_get : ∀ (l : List Rg) (i : Nat), i < l.length → (fl l)[i * 2]? = some (at_ l i).1 ∧ (fl l)[i * 2 + 1]? = some (at_ l i).2
  | [], i, h => by simp at h
  | r :: t, 0, _ => by simp [fl, at_]
  | r :: t, i + 1, h => by
    have := fl_get t i (by simpa using h)
    have e : at_ (r :: t) (i + 1) = at_ t i := by simp [at_]
    rw [e, show (i + 1) * 2 = i * 2 + 1 + 1 by omega, show i * 2 + 1 + 1 + 1 = (i * 2 + 1) + 1 + 1 by omega]
    simpa [fl] using this
theorem fl_length : ∀ l : List Rg, (fl l).length = l.length * 2
  | [] => rfl
  | r :: t => by simp [fl, fl_length t]; omega

def rl (d : Ln) : List Rg := if N0.loanOk d then [(L1.recAt d.ino, 16)] ++ d.pg.map (fun p => (p * 32, 32)) ++ d.po.map (fun p => (p * 32, 32)) ++ d.fr.map (fun f => (L1.recAt f, 16)) else []
theorem rl_fl (d : Ln) : fl (rl d) = R6.rg d := by
  unfold rl R6.rg
  split
  · rw [fl_append, fl_append, fl_append, fl_map, fl_map, fl_map]
    unfold R6.rP R6.rF
    rw [List.take_length, List.take_length, List.take_length]
    rfl
  · rfl
theorem rl_len (d : Ln) : (rl d).length = R6.nR d := by
  unfold rl R6.nR
  split
  · simp
    omega
  · rfl
theorem rl_small (d : Ln) : (rl d).length ≤ 13 := by
  unfold rl
  cases h : N0.loanOk d with
  | false => simp
  | true =>
    obtain ⟨-, -, -, -, -, -, hp6, hp4, hf2, -, -, -, -⟩ := N0.loanOk_is h
    simp
    omega
theorem rl_in (d : Ln) : ∀ r ∈ rl d, 0 ≤ r.1 ∧ 16 ≤ r.2 ∧ r.1 + r.2 ≤ 768 := by
  unfold rl
  cases h : N0.loanOk d with
  | false => simp
  | true =>
    obtain ⟨-, -, -, -, hi, -, -, -, -, hpp, hfr, -, -⟩ := N0.loanOk_is h
    have hpg := (N0.pagesOk_iff.1 hpp).1
    have hrec : ∀ z : Int, 0 ≤ z → z ≤ 7 → L1.recAt z = 32 + z * 16 := by
      intro z h0 h7
      unfold L1.recAt
      rw [if_pos (N0.inB_iff.2 ⟨h0, h7⟩)]
    intro r hr
    simp only [if_true, List.mem_append, List.mem_map, List.mem_singleton] at hr
    rcases hr with ((hr | ⟨p, hp, hr⟩) | ⟨p, hp, hr⟩) | ⟨f, hf, hr⟩
    · subst hr
      rw [hrec _ hi.1 hi.2]
      simp
      omega
    · subst hr
      have := hpg p (List.mem_append_left _ hp)
      simp
      omega
    · subst hr
      have := hpg p (List.mem_append_right _ hp)
      simp
      omega
    · subst hr
      have := hfr f hf
      rw [hrec f (by omega) (by omega)]
      simp
      omega
theorem at_in (d : Ln) {i : Nat} (h : i < (rl d).length) : 0 ≤ (at_ (rl d) i).1 ∧ 16 ≤ (at_ (rl d) i).2 ∧ (at_ (rl d) i).1 + (at_ (rl d) i).2 ≤ 768 := by
  rw [HP.at_get _ _ h]
  exact rl_in d _ (List.getElem_mem h)

/-- What Within answers. -/
def within (d : Ln) (i n : Int) : Bool := decide (1 ≤ n ∧ n ≤ 768 ∧ 0 ≤ i ∧ i ≤ 768 - n) && covAll (rl d) i n.toNat
theorem within_impl (d : Ln) (i n : Int) (h : 0 ≤ i ∧ i < 768 ∧ 1 ≤ n ∧ n ≤ 768) : within d i n = covAll (rl d) i n.toNat := by
  unfold within
  by_cases e : i ≤ 768 - n
  · rw [decide_eq_true (by omega), Bool.true_and]
  · rw [decide_eq_false (by omega), Bool.false_and]
    cases hc : covAll (rl d) i n.toNat with
    | false => rfl
    | true =>
      exfalso
      obtain ⟨r, hr, h1, h2⟩ := cov_iff.1 (covAll_iff.1 hc 768 (by omega) (by omega))
      have := rl_in d r hr
      omega
theorem within_no (d : Ln) (i n : Int) (h : ¬ (0 ≤ i ∧ i < 768 ∧ 1 ≤ n ∧ n ≤ 768)) : within d i n = false := by
  unfold within
  rw [decide_eq_false (by omega), Bool.false_and]

/-- The row of ranges in memory. -/
def Row (d : Ln) (a : Option Addr) (lo : Nat) (W : World) : Prop := rl d = [] ∨ ∃ G, a = some ⟨G, 0, none⟩ ∧ lo ≤ G ∧ K0.Blk G (ints (R6.rg d)) W
theorem row_of {d : Ln} {a : Option Addr} {lo : Nat} {W : World} (h : J0.Own lo W a (R6.rg d)) : Row d a lo W := by
  rcases h with h | h
  · left
    have := fl_length (rl d)
    rw [rl_fl, h] at this
    simp at this
    exact List.eq_nil_of_length_eq_zero (by omega)
  · exact Or.inr h
theorem row_get {d : Ln} {G : Nat} {W : World} (h : K0.Blk G (ints (R6.rg d)) W) {i : Nat} (hi : i < (rl d).length) : W.cell? ⟨G, i * 2, none⟩ = some (.int .i64 (at_ (rl d) i).1) ∧ W.cell? ⟨G, i * 2 + 1, none⟩ = some (.int .i64 (at_ (rl d) i).2) := by
  obtain ⟨h1, h2⟩ := fl_get (rl d) i hi
  have hl := fl_length (rl d)
  rw [rl_fl] at h1 h2 hl
  have c1 := h.cell (i * 2) (by simp [ints]; omega)
  have c2 := h.cell (i * 2 + 1) (by simp [ints]; omega)
  rw [c1, c2]
  obtain ⟨q1, e1⟩ := List.getElem?_eq_some_iff.1 h1
  obtain ⟨q2, e2⟩ := List.getElem?_eq_some_iff.1 h2
  constructor
  · simp [ints, e1]
  · simp [ints, e2]
end Go.Proofs.YtdljajjgppcjpaaGreat.WI

/- A range over a method value that takes a yield: one law for a loop whose rounds are numbered. -/
namespace Go.Proofs.YtdljajjgppcjpaaGreat.R0
set_option maxRecDepth 10000
open Go.RowKit
set_option linter.unusedVariables false
set_option linter.unusedSimpArgs false

/-- How a round may be left. -/
def left (B : Nat) (I : Nat → World → Prop) (Ix : Code → World → Prop) (k : Nat) (W : World) : Exit → Act → World → Prop
  | .normal, _, V => KeepsFrom B W V ∧ I (k + 1) V
  | .ret, _, V => KeepsFrom B W V ∧ Ix .ret V
  | .exit id, _, V => KeepsFrom B W V ∧ Ix (.exit id) V
  | .goto t, _, V => KeepsFrom B W V ∧ Ix (.goto t) V
  | _, _, _ => False

theorem grown_drew (W : World) : W.grownBy W.drew none := ⟨rfl, rfl, rfl, Nat.le_refl _, fun _ _ _ => rfl⟩

theorem drew_of {B : Nat} {I : Nat → World → Prop} (hI : OwnFrom B I) {k : Nat} {W : World} (h : I k W) : I k W.drew := hI k W _ none h (grown_drew W) (fun r e => by cases e)

theorem drewN_of {B : Nat} {I : Nat → World → Prop} (hI : OwnFrom B I) {k : Nat} {W : World} (m : Nat) (h : I k W) : I k (W.drewN m) := hI k W _ none h ⟨rfl, rfl, rfl, Nat.le_refl _, fun _ _ _ => rfl⟩ (fun r e => by cases e)

theorem heap_drew (W : World) : W.drew.heap = W.heap := rfl

variable {P : Program} {n : Nat}

theorem range_bound {g : Operand} {ps : Array Tmp} {assign body : Code} {Q : Exit → Act → World → Prop} {a : Act} {w : World} {gf N : Nat} {bd : Array Value}
    (hg : a.eval g = .func (.func gf) bd #[]) (eg : ∀ args w, (callFunc gf args).run P w = .ok (.enter gf args) w) (hps : ps.size = 1)
    (I A : Nat → World → Prop) (Ix : Code → World → Prop) (hI : OwnFrom w.heap.size I) (hA : OwnFrom w.heap.size A) (hIx : OwnFrom w.heap.size Ix) (h0 : I 0 w)
    (hit : ∀ (l : Nat) (J : Nat → World → Prop) (Jx : World → Prop) (W : World), (∀ k W, J k W → I k W) → (∀ k W, J k W → I (k + 1) W → J (k + 1) W) → (∀ k W, J k W → J k W.drew) → (∀ k W m, J k W → J k (W.drewN m)) →
      (∀ k W, k < N → J k W → A k W → YieldAt Fence.wide (n - 1 - 1) P l #[.int .i64 (k : Int)] W fun e V => (e = .returned (.bool true) ∧ J (k + 1) V) ∨ (e = .returned (.bool false) ∧ Jx V)) → J 0 W →
      CallsIn Fence.wide (n - 1) P gf (bd ++ #[.func (.yield l) #[] #[]]) W fun e V => (∃ v, e = .returned v) ∧ (J N V ∨ Jx V))
    (hround : ∀ (l k : Nat) (W V : World), k < N → I k V → A k V →
      assign.wpIn (Fence.wide.inRound l) (n - 1 - 1) P (Exit.then (fun a' w' => w' = W ∧ body.wpIn (Fence.wide.inRound l) (n - 1 - 1) P (left w.heap.size I Ix k V) a' V) (fun _ _ _ => False)) { tmps := (ps.zip #[.int .i64 (k : Int)]).foldl (fun t (p, v) => t.setIfInBounds p v) a.tmps, defers := [] } W)
    (hdone : ∀ (D : Nat) (W : World), w.heap.size ≤ D → I N W → W.heap[D]? = some (.deferred (some [])) → Q .normal { a with defers := { target := .collected D, args := #[] } :: a.defers } W)
    (hstop : ∀ (D : Nat) (c : Code) (W : World), w.heap.size ≤ D → Ix c W → W.heap[D]? = some (.deferred (some [])) → c.wpIn Fence.wide n P Q { a with defers := { target := .collected D, args := #[] } :: a.defers } W) :
    (Code.rangeFunc g ps assign body).wpIn Fence.wide n P Q a w := by
  refine wpIn_rangeFunc fun fn hfn => ?_
  -- the loop's record in a state, with what is still to be jumped to
  let R (st : LoopState) (pe : Option Code) : Loop := { state := st, pending := pe, fn := fn, tmps := a.tmps, params := ps, assign := assign, body := body, defers := w.heap.size }
  let L := w.heap.size + 1
  let M := fun (V : World) (st : LoopState) (pe : Option Code) => V.heap[L]? = some (.loop (R st pe)) ∧ V.heap[w.heap.size]? = some (.deferred (some []))
  obtain ⟨W1, hW1⟩ : ∃ W1, (w.alloc (.deferred (some []))).alloc (.loop (R .ready none)) = W1 := ⟨_, rfl⟩
  have hM1 : M W1 .ready none := by
    rw [← hW1]
    refine ⟨?_, (Below.heap_alloc _ _ _ (by simp)).trans (World.alloc_heap_new w _)⟩
    have := World.alloc_heap_new (w.alloc (.deferred (some []))) (.loop (R .ready none))
    rwa [World.size_alloc] at this
  have hI1 : I 0 W1 := by rw [← hW1]; exact hI.alloc _ (hI.alloc _ h0)
  -- a turn of the record
  have turn : ∀ {V : World} {st : LoopState} {pe : Option Code} (st' : LoopState) (pe' : Option Code), M V st pe → M (V.putObj L (.loop (R st' pe'))) st' pe' := fun st' pe' h =>
    ⟨World.putObj_heap_same (Array.getElem?_eq_some_iff.1 h.1).1, (World.putObj_heap_other (Nat.ne_of_lt (Nat.lt_succ_self _))).trans h.2⟩
  refine ⟨L, [{ target := .collected w.heap.size, args := #[] }], W1, { target := .fn (.func gf) #[], args := bd ++ #[.func (.yield L) #[] #[]] }, W1, gf, bd ++ #[.func (.yield L) #[] #[]], W1, ?_, ?_, ?_, ?_, (fun h => by cases h), ?_⟩
  · rw [← hW1]; exact run_enterLoop_outer _ _ _ _ _
  · simp only [resolve, hg]
    simp [go_sem]
  · intro f' _; trivial
  · simp [invoke, go_sem, eg]
  · refine (hit L (fun k V => I k V ∧ M V .ready none) (fun V => ∃ c, Ix c V ∧ M V .done (some c)) W1 (fun k V h => h.1) (fun k V h hk => ⟨hk, h.2⟩) (fun k V h => ⟨drew_of hI h.1, h.2⟩) (fun k V m h => ⟨drewN_of hI m h.1, h.2⟩) ?_ ⟨hI1, hM1⟩).mono ?_
    · rintro k V hk ⟨hi, hm⟩ ha
      have hy := run_yield (P := P) (args := #[.int .i64 (k : Int)]) hm.1 (by show 1 = ps.size; exact hps.symm)
      have hm2 := turn .busy none hm
      have hi2 := hI.putObj (.loop (R .busy none)) hi (Nat.le_succ _) hm.1 rfl
      have ha2 := hA.putObj (.loop (R .busy none)) ha (Nat.le_succ _) hm.1 rfl
      refine ⟨fn, _, assign, body, hy, roundIn_of_wpIn hfn (wpIn_mono (hround L k V _ hk hi2 ha2) ?_)⟩
      rintro e a' w' he
      cases e with
      | normal => ?_
      | _ => exact he.elim
      obtain ⟨hw', he⟩ := he
      rw [hw']
      refine ⟨_, run_beginRound hm.1 rfl, wpIn_mono he ?_⟩
      -- a round that has been left by a jump, or by none
      have fin : ∀ (j : Option Code) (V3 : World), KeepsFrom w.heap.size (V.putObj L (.loop (R .busy none))) V3 →
          M V3 .busy none ∧ (Instr.endRound L j).run P V3 = .ok (.bool j.isNone) (V3.putObj L (.loop (R (if j.isNone then .ready else .done) j))) := fun j V3 hk3 => by
        have h3 : M V3 .busy none := ⟨hk3.same _ _ (Nat.le_succ _) hm2.1 rfl, hk3.same _ _ (Nat.le_refl _) hm2.2 rfl⟩
        exact ⟨h3, run_endRound (P := P) j h3.1⟩
      rintro e a3 V3 hp
      cases e with
      | normal =>
        obtain ⟨h3, hr⟩ := fin none V3 hp.1
        exact ⟨_, _, hr, .inl ⟨rfl, hI.putObj _ hp.2 (Nat.le_succ _) h3.1 rfl, turn .ready none h3⟩⟩
      | ret =>
        obtain ⟨h3, hr⟩ := fin (some .ret) V3 hp.1
        exact ⟨_, _, hr, .inr ⟨rfl, .ret, hIx.putObj _ hp.2 (Nat.le_succ _) h3.1 rfl, turn .done (some .ret) h3⟩⟩
      | exit id =>
        obtain ⟨h3, hr⟩ := fin (some (.exit id)) V3 hp.1
        exact ⟨_, _, hr, .inr ⟨rfl, .exit id, hIx.putObj _ hp.2 (Nat.le_succ _) h3.1 rfl, turn .done (some (.exit id)) h3⟩⟩
      | goto t =>
        obtain ⟨h3, hr⟩ := fin (some (.goto t)) V3 hp.1
        exact ⟨_, _, hr, .inr ⟨rfl, .goto t, hIx.putObj _ hp.2 (Nat.le_succ _) h3.1 rfl, turn .done (some (.goto t)) h3⟩⟩
      | panic ch => exact hp.elim
      | outgrown => exact hp.elim
    · rintro e V ⟨⟨v, rfl⟩, (⟨hi, hm⟩ | ⟨c, hi, hm⟩)⟩
      · exact ⟨none, _, run_endLoop (P := P) hm.1 (by simp [R]), hdone _ _ (Nat.le_refl _) (hI.putObj _ hi (Nat.le_succ _) hm.1 rfl) ((World.putObj_heap_other (Nat.ne_of_lt (Nat.lt_succ_self _))).trans hm.2)⟩
      · exact ⟨some c, _, run_endLoop (P := P) hm.1 (by simp [R]), hstop _ c _ (Nat.le_refl _) (hIx.putObj _ hi (Nat.le_succ _) hm.1 rfl) ((World.putObj_heap_other (Nat.ne_of_lt (Nat.lt_succ_self _))).trans hm.2)⟩
end Go.Proofs.YtdljajjgppcjpaaGreat.R0

/- Small facts on rows of bytes within a block, over any program; the zero value of the lines of a device. -/
namespace Go.Proofs.YtdljajjgppcjpaaGreat.A0
set_option maxRecDepth 10000
open Go.RowKit
set_option linter.unusedVariables false

theorem zeroLines : (Tryz.prog.info? 207).map (fun i => (i.zero, i.size)) = some (some (.agg (Array.replicate 768 (.int .u8 0))), 768) := by kernel_rfl
theorem infoByte : (Tryz.prog.info? 5).map (·.size) = some 1 := by kernel_rfl
theorem infoLine : (Tryz.prog.info? 205).map (·.size) = some 8 := by kernel_rfl

variable {P : Program}

/-- 'copy(b, t)', t a string that has at least as many bytes as b. -/
theorem copy_head (w : World) (dT sT ty elem : TypeId) (b o n cap : Nat) (t : ByteArray) (hu : P.underlying dT = some (.slice elem)) (hs : (P.info? elem).map (·.size) = some 1) (hle : n ≤ t.size) (ht : w.there b o n) :
    (Builtin.copy_ #[dT, sT] ty #[.slice (some ⟨b, o, none⟩) n cap, .string t]).run P w = .ok (goInt n) (w.setCells b o (Lib.byteCells (t.data.toList.take n))) := by
  have hlen : (Lib.byteCells (t.data.toList.take n)).length = n := by rw [Lib.byteCells_length, List.length_take, ← Lib.size_eq]; omega
  have hst := run_storeCells_cells (P := P) b o (Lib.byteCells (t.data.toList.take n)) 0 w (by rw [hlen]; intro j hj; simpa using (ht j hj).1) (by rw [hlen]; intro j hj; simpa using (ht j hj).2) (Lib.byteCells_one _)
  have hmin : Nat.min t.size n = n := Nat.min_eq_right hle
  have htk : List.take n (List.map (fun b : UInt8 => Value.int IntKind.u8 (b.toNat : Int)) t.data.toList) = Lib.byteCells (t.data.toList.take n) := by simp [Lib.byteCells, List.map_take]
  cases hq : P.info? elem with
  | none => simp [hq] at hs
  | some i =>
    simp only [Nat.add_zero] at hst
    simp [Builtin.copy_, run_underlying hu, Builtin.lenOf, Builtin.firstCells, sizeOf, typeInfo, hq, hmin, htk, hst]

/-- One result in a cell. -/
theorem results_cell {fn : Func} {p : Tmp} {ty : TypeId} (h : fn.results = #[.cell p ty]) (tmps : Array Value) (P : Program) (w : World) :
    (results fn tmps).run P w = ((asAddr (tmps.getD p undef)).run P w).andThen fun a w₁ => (loadVar ty a).run P w₁ := by
  simp only [results, h]
  simp [Sem.run_bind, Result.andThen]

theorem holds_of_range {w : World} {b o : Nat} {l : List UInt8} (h : w.rangeAt b o (Lib.byteCells l)) : B0.Holds w b o l := fun j hj => h j _ (by simp [Lib.byteCells, hj])

/-- A part of a row. -/
theorem rangeAt_part {w : World} {b o : Nat} {x : List Value} (h : w.rangeAt b o x) (k n : Nat) : w.rangeAt b (o + k) ((x.drop k).take n) := fun j v hj => by
  rw [List.getElem?_take] at hj
  split at hj
  · rw [List.getElem?_drop] at hj
    have := h _ v hj
    rwa [← Nat.add_assoc] at this
  · cases hj

theorem bytes_part (l : List UInt8) (k n : Nat) : ((Lib.byteCells l).drop k).take n = Lib.byteCells ((l.drop k).take n) := by simp [Lib.byteCells, List.map_drop, List.map_take]

theorem there_new (w : World) (C : Array Value) (T : TypeId) : (w.alloc (.cells C T)).there w.heap.size 0 C.size := fun j hj => by
  rw [Nat.zero_add]
  refine ⟨?_, ?_⟩
  · rw [World.cell?_alloc_mark]; simp [hj]
  · simp [World.frozen?_alloc_mark]

theorem rangeAt_nil (w : World) (b o : Nat) : w.rangeAt b o [] := fun j v h => by simp at h

/-- A row that lies behind another makes one with it. -/
theorem rangeAt_snoc {w : World} {b o : Nat} {x y : List Value} (h : w.rangeAt b o x) (k : w.rangeAt b (o + x.length) y) : w.rangeAt b o (x ++ y) := fun j v hj => by
  by_cases hl : j < x.length
  · rw [List.getElem?_append_left hl] at hj; exact h j v hj
  · rw [List.getElem?_append_right (by omega)] at hj
    have := k _ v hj
    rwa [show o + x.length + (j - x.length) = o + j by omega] at this

theorem rangeAt_below {w w' : World} {B b o : Nat} {x : List Value} (h : w.rangeAt b o x) (hb : Below B w w') (hB : b < B) : w'.rangeAt b o x := fun j v hj => (hb.cell (p := ⟨b, o + j, none⟩) hB).trans (h j v hj)
theorem there_below {w w' : World} {B b o n : Nat} (h : w.there b o n) (hb : Below B w w') (hB : b < B) : w'.there b o n := fun j hj => by
  rw [hb.cell (p := ⟨b, o + j, none⟩) hB, hb.frozen (p := ⟨b, o + j, none⟩) hB]; exact h j hj
theorem there_sub {w : World} {b o n o' n' : Nat} (h : w.there b o n) (h1 : o ≤ o') (h2 : o' + n' ≤ o + n) : w.there b o' n' := fun j hj => by
  have := h (o' - o + j) (by omega)
  rwa [show o + (o' - o + j) = o' + j by omega] at this

/-- An append whose run is known, at the list of a plain region's operations. -/
theorem wpList_append_run {w w' : World} {v' sv xv : Value} {ops : Array Oper} {rest : List Oper} {o : Oper} {a : Act} {Q : Exit → Act → World → Prop} (hgd : o.guard = none) (s x : Operand) (t : TypeId)
    (ho : o.op = .call { callee := .builtin .append, args := #[s, x], argTypes := #[t, t] }) (hs : a.eval s = sv) (hx : a.eval x = xv)
    (hr : (Builtin.append_ #[t, t] o.type #[sv, xv]).run P w = .ok v' w') (h : wpList P ops Q rest (a.put o.dst v') w') : wpList P ops Q (o :: rest) a w := by
  refine wpList_plain hgd fun K hK => ?_
  unfold Oper.wp execOp
  simp only [ho, resolve, invoke, builtin, Sem.run_bind, Sem.run_pure, Result.andThen_ok, List.map_toArray, List.map_cons, List.map_nil, hs, hx, hr]
  exact hK _ _ h

/-- A part of a new value is laid into its cells. -/
theorem fill_part (off : Nat) : ∀ (l : List Value) (n : Nat) (Z : Array Value), off + n + l.length ≤ Z.size →
    ((l.zipIdx n).foldl (fun (cs : Array Value) (p : Value × Nat) => cs.setIfInBounds (off + p.2) p.1) Z).toList = Z.toList.take (off + n) ++ l ++ Z.toList.drop (off + n + l.length)
  | [], n, Z, h => by simp
  | v :: r, n, Z, h => by
    simp only [List.length_cons] at h
    rw [List.zipIdx_cons, List.foldl_cons, fill_part off r (n + 1) _ (by simp; omega)]
    have hlt : off + n < Z.toList.length := by simp; omega
    rw [show off + (n + 1) = off + n + 1 by omega]
    simp only [Array.toList_setIfInBounds, List.length_cons]
    have hm : min (off + n) Z.toList.length = off + n := by omega
    have e1 : (Z.toList.set (off + n) v).take (off + n + 1) = Z.toList.take (off + n) ++ [v] := by
      rw [List.set_eq_take_append_cons_drop, if_pos hlt, List.take_append, List.length_take, hm, List.take_take]
      rw [show min (off + n + 1) (off + n) = off + n by omega, show off + n + 1 - (off + n) = 1 by omega]
      rfl
    have e2 : (Z.toList.set (off + n) v).drop (off + n + 1 + r.length) = Z.toList.drop (off + n + (r.length + 1)) := by
      rw [List.drop_set_of_lt (by omega)]
      congr 1
      omega
    rw [e1, e2]
    simp

theorem fill_two (A B Z : Array Value) (h : Z.size = A.size + B.size) :
    (Array.foldl (fun (cs : Array Value) (x : Value × Nat) => cs.setIfInBounds (0 + x.snd) x.fst) Z A.zipIdx).size = Z.size ∧
    Array.foldl (fun (cs : Array Value) (x : Value × Nat) => cs.setIfInBounds (A.size + x.snd) x.fst) (Array.foldl (fun (cs : Array Value) (x : Value × Nat) => cs.setIfInBounds (0 + x.snd) x.fst) Z A.zipIdx) B.zipIdx = A ++ B := by
  have hAl : A.toList.length = A.size := by simp
  have hBl : B.toList.length = B.size := by simp
  have hZl : Z.toList.length = Z.size := by simp
  have hf1 := fill_part 0 A.toList 0 Z (by rw [hAl]; omega)
  have e1 : (Array.foldl (fun (cs : Array Value) (x : Value × Nat) => cs.setIfInBounds (0 + x.snd) x.fst) Z A.zipIdx).toList = A.toList ++ Z.toList.drop A.size := by
    rw [← Array.foldl_toList, Array.toList_zipIdx, hf1, hAl, Nat.zero_add, Nat.zero_add]
    rfl
  generalize Array.foldl (fun (cs : Array Value) (x : Value × Nat) => cs.setIfInBounds (0 + x.snd) x.fst) Z A.zipIdx = G at e1
  have hGl : G.toList.length = G.size := by simp
  have hG : G.size = Z.size := by rw [← hGl, e1, List.length_append, List.length_drop, hAl, hZl]; omega
  refine ⟨hG, ?_⟩
  have hf2 := fill_part A.size B.toList 0 G (by rw [hBl]; omega)
  apply Array.toList_inj.1
  rw [← Array.foldl_toList, Array.toList_zipIdx, hf2, Nat.add_zero, hBl, e1, List.take_append_of_le_length (by omega), List.take_of_length_le (by omega), List.drop_of_length_le (by rw [List.length_append, List.length_drop, hAl, hZl]; omega), List.append_nil, Array.toList_append]
end Go.Proofs.YtdljajjgppcjpaaGreat.A0

/- The contract of the program's cutLines. -/
namespace Go.Proofs.YtdljajjgppcjpaaGreat.A1
set_option maxRecDepth 10000
open Go.ChangeShapes Go.WideShapes Go.ChangeAt Go.RowKit
set_option linter.unusedVariables false
set_option linter.unusedSimpArgs false

/-- Two blocks of 768 cells from B on; the second holds the first bytes of a text. -/
structure Cut (B : Nat) (w : World) (l : List UInt8) (k : Nat) (W : World) : Prop where
  t0 : W.there B 0 768
  t1 : W.there (B + 1) 0 768
  row : W.rangeAt (B + 1) 0 (Lib.byteCells (l.take (k * 8)))
  bel : Below B w W
  lt : B + 1 < W.heap.size

theorem cut_new (w : World) (Z : Array Value) (hZ : Z.size = 768) (l : List UInt8) : Cut w.heap.size w l 0 ((w.alloc (.cells Z 207)).alloc (.cells Z 207)) := by
  have h0 := A0.there_new w Z 207
  have h1 := A0.there_new (w.alloc (.cells Z 207)) Z 207
  rw [World.size_alloc] at h1
  rw [hZ] at h0 h1
  exact ⟨World.there_alloc h0 _, h1, by simpa [Lib.byteCells] using A0.rangeAt_nil _ _ _, ((Below.refl _ _).alloc (Nat.le_refl _) _).alloc (by simp) _, by simp⟩

theorem Cut.drew {B : Nat} {w W : World} {l : List UInt8} {k : Nat} (h : Cut B w l k W) : Cut B w l k W.drew :=
  ⟨by simpa using h.t0, by simpa using h.t1, by simpa using h.row, h.bel.drew, h.lt⟩

theorem Cut.step {B : Nat} {w W : World} {l : List UInt8} {k : Nat} (h : Cut B w l k W) (hl : l.length = 768) (hk : k < 96) : Cut B w l (k + 1) (W.setCells (B + 1) (k * 8) (Lib.byteCells ((l.drop (k * 8)).take 8))) := by
  have hlen : (Lib.byteCells ((l.drop (k * 8)).take 8)).length = 8 := by rw [Lib.byteCells_length, List.length_take, List.length_drop]; omega
  have hpl : (Lib.byteCells (l.take (k * 8))).length = k * 8 := by rw [Lib.byteCells_length, List.length_take]; omega
  refine ⟨World.there_setCells h.t0 _ _ _, World.there_setCells h.t1 _ _ _, ?_, B0.below_setCells (by omega) _ _ _ h.bel, by rw [B0.size_setCells]; exact h.lt⟩
  rw [show (k + 1) * 8 = k * 8 + 8 by omega, List.take_add, Lib.byteCells_append]
  refine A0.rangeAt_snoc (World.rangeAt_setCells_apart h.row _ _ _ (by rw [hpl]; omega)) ?_
  rw [hpl, Nat.zero_add]
  exact World.rangeAt_setCells_same _ _ _ _ (by rw [hlen]; exact A0.there_sub h.t1 (by omega) (by omega))

theorem extract_take (s : ByteArray) (k : Nat) (h : k + 8 ≤ 768) : (s.extract k 768).data.toList.take 8 = (s.data.toList.drop k).take 8 := by
  rw [Lib.extract_data, List.take_take]
  congr 1
  omega

set_option maxHeartbeats 4000000 in
theorem cutLines (s : ByteArray) (w : World) (hs : s.size = 768) :
    Calls Tryz.prog 175 #[.string s] w fun e w' => e = .returned (.agg (Lib.byteCells s.data.toList).toArray) ∧ Below w.heap.size w w' := by
  have hl : s.data.toList.length = 768 := by rw [← Lib.size_eq]; exact hs
  obtain ⟨hz0, hsz⟩ := zero_of_info A0.zeroLines
  obtain ⟨Z, hZ0, hZ⟩ : ∃ Z : Array Value, Z = Array.replicate 768 (.int .u8 0) ∧ Z.size = 768 := ⟨_, rfl, by simp⟩
  rw [← hZ0] at hz0
  clear hZ0
  have h0 := cut_new w Z hZ s.data.toList
  obtain ⟨C, hC⟩ : ∃ C, (Lib.byteCells s.data.toList).toArray = C := ⟨_, rfl⟩
  rw [hC]
  go_enter Tryz.func175, Tryz.ntmps175
  go_wp2
  go_loopw [5] (fun i w' => ∃ k : Nat, k ≤ 96 ∧ i = .int .i64 k ∧ Cut w.heap.size w s.data.toList k w') (fun i _ => 96 - (intOf i).toNat)
  case atStart => exact ⟨0, Nat.zero_le _, rfl, h0⟩
  case round =>
    obtain ⟨k, hk, rfl, hc⟩ := hrel
    by_cases hlt : k < 96
    · have e1 : (0 : Int) ≤ (k : Int) := by omega
      have e2 : (k : Int) < 96 := by omega
      have e3 : (0 : Int) ≤ (k : Int) * 8 := by omega
      have e4 : (k : Int) * 8 ≤ (s.size : Int) := by omega
      have hd := hc.drew
      have hcp := A0.copy_head (P := Tryz.prog) wr.drew 22 9 3 5 (w.heap.size + 1) (k * 8) 8 8 (s.extract (k * 8) 768) Tryz.underlying22 A0.infoByte (by rw [ByteArray.size_extract]; omega) (A0.there_sub hd.t1 (by omega) (by omega))
      rw [extract_take s (k * 8) (by omega)] at hcp
      have h1 := hd.step hl hlt
      obtain ⟨W1, hW1⟩ : ∃ W1, wr.drew.setCells (w.heap.size + 1) (k * 8) (Lib.byteCells ((s.data.toList.drop (k * 8)).take 8)) = W1 := ⟨_, rfl⟩
      rw [hW1] at hcp h1
      clear hW1
      go_wp2
      go_region
      all_goals
        go_wp2
        go_roundw
        case rel => exact ⟨k + 1, by omega, by go_num, h1⟩
        case measure => simp [intOf]; omega
    · obtain rfl : k = 96 := by omega
      have hr := hc.row
      rw [List.take_of_length_le (by omega)] at hr
      have hn : (Lib.byteCells s.data.toList).length = 768 := by rw [Lib.byteCells_length, hl]
      have hrr : (wr.setCells w.heap.size 0 (Lib.byteCells s.data.toList)).rangeAt w.heap.size 0 (Lib.byteCells s.data.toList) := World.rangeAt_setCells_same _ _ _ _ (by rw [hn]; exact hc.t0)
      have hlr := run_loadVar_mid (P := Tryz.prog) _ w.heap.size 0 207 _ _ hrr Tryz.underlying207 rfl (by rw [hsz, hn])
      have hb : Below w.heap.size w (wr.setCells w.heap.size 0 (Lib.byteCells s.data.toList)) := B0.below_setCells (Nat.le_refl _) _ _ _ hc.bel
      have hCl : C.toList = Lib.byteCells s.data.toList := by rw [← hC]
      have hCs : C.size = 768 := by rw [← hC]; simpa using hn
      have h1 : C.all (·.oneCell') = true := by rw [← hC]; exact all_oneCell_toArray (Lib.byteCells_one _)
      obtain ⟨W1, hW1⟩ : ∃ W1, wr.setCells w.heap.size 0 (Lib.byteCells s.data.toList) = W1 := ⟨_, rfl⟩
      rw [hW1] at hlr hb
      rw [hC] at hlr
      go_wp2_with (first
        | (refine wpList_load_mid rfl 207 (.tmp 3) rfl (w.heap.size + 1) 0 rfl _ _ hr Tryz.underlying207 rfl (by rw [hsz, hn]) ?_; rw [hC])
        | (refine wpList_store_mid rfl 207 (.tmp 2) (.tmp 17) rfl w.heap.size 0 C rfl rfl (by rw [hCs]; exact hc.t0) (by rw [hsz, hCs]) h1 ?_; rw [hCl, hW1]))
      refine bodyPost_ret (v := .agg C) ?_ rfl ⟨rfl, hb⟩
      rw [A0.results_cell rfl]
      show ((asAddr (.pointer (some ⟨w.heap.size, 0, none⟩))).run Tryz.prog W1).andThen _ = _
      simp only [asAddr, Sem.run_pure, Result.andThen_ok, hlr]
end Go.Proofs.YtdljajjgppcjpaaGreat.A1

/- Contracts of chapter 2's DevOf and Store, and of the program's copy of a device. -/
namespace Go.Proofs.YtdljajjgppcjpaaGreat.D2
set_option maxRecDepth 10000
open Go.ChangeShapes Go.WideShapes Go.ChangeAt Go.RowKit
set_option linter.unusedVariables false

/-- A device in a block, a place for the answer in the next. -/
structure Fr (B : Nat) (w : World) (a b : ByteArray) (W : World) : Prop where
  c0 : W.cell? ⟨B, 0, none⟩ = some (.string a)
  c1 : W.cell? ⟨B, 1, none⟩ = some (.string b)
  r0 : W.cell? ⟨B + 1, 0, none⟩ = some (.string ⟨#[]⟩)
  r1 : W.cell? ⟨B + 1, 1, none⟩ = some (.string ⟨#[]⟩)
  f0 : W.frozen? ⟨B + 1, 0, none⟩ = false
  f1 : W.frozen? ⟨B + 1, 1, none⟩ = false
  g0 : W.frozen? ⟨B, 0, none⟩ = false
  g1 : W.frozen? ⟨B, 1, none⟩ = false
  lt : B + 1 < W.heap.size
  bel : Below B w W

theorem Fr.below {B : Nat} {w W W' : World} {a b : ByteArray} (h : Fr B w a b W) (hb : Below W.heap.size W W') : Fr B w a b W' :=
  ⟨(hb.cell (p := ⟨B, 0, none⟩) (by have := h.lt; show B < _; omega)).trans h.c0, (hb.cell (p := ⟨B, 1, none⟩) (by have := h.lt; show B < _; omega)).trans h.c1,
   (hb.cell (p := ⟨B + 1, 0, none⟩) h.lt).trans h.r0, (hb.cell (p := ⟨B + 1, 1, none⟩) h.lt).trans h.r1,
   (hb.frozen (p := ⟨B + 1, 0, none⟩) h.lt).trans h.f0, (hb.frozen (p := ⟨B + 1, 1, none⟩) h.lt).trans h.f1,
   (hb.frozen (p := ⟨B, 0, none⟩) (by have := h.lt; show B < _; omega)).trans h.g0, (hb.frozen (p := ⟨B, 1, none⟩) (by have := h.lt; show B < _; omega)).trans h.g1,
   Nat.lt_of_lt_of_le h.lt hb.size, h.bel.trans (hb.mono (by have := h.lt; omega))⟩

theorem Fr.drew {B : Nat} {w W : World} {a b : ByteArray} (h : Fr B w a b W) : Fr B w a b W.drew := ⟨h.c0, h.c1, h.r0, h.r1, h.f0, h.f1, h.g0, h.g1, h.lt, h.bel.drew⟩

theorem fr_new (a b : ByteArray) (w : World) : Fr w.heap.size w a b ((w.alloc (.cells #[.string a, .string b] 48)).alloc (.cells #[.string ⟨#[]⟩, .string ⟨#[]⟩] 48)) := by
  refine ⟨?_, ?_, ?_, ?_, ?_, ?_, ?_, ?_, ?_, ?_⟩
  all_goals first | exact ((Below.refl _ _).alloc (Nat.le_refl _) _).alloc (by simp) _ | (simp [go_sem]; done) | (simp; done) | (simp [go_sem]; omega)

theorem ret2 {W : World} {B : Nat} {a b : ByteArray} {c d : Value} (h0 : W.cell? ⟨B, 0, none⟩ = some c) (h1 : W.cell? ⟨B, 1, none⟩ = some d) :
    ((W.setCell ⟨B, 0, none⟩ (.string a)).setCell ⟨B, 1, none⟩ (.string b)).cell? ⟨B, 0, none⟩ = some (.string a) ∧ ((W.setCell ⟨B, 0, none⟩ (.string a)).setCell ⟨B, 1, none⟩ (.string b)).cell? ⟨B, 1, none⟩ = some (.string b) := by
  have e : (⟨B, 1, none⟩ : Addr) ≠ ⟨B, 0, none⟩ := by simp
  refine ⟨?_, ?_⟩
  · rw [World.cell?_setCell_other _ _ _ _ e, World.cell?_setCell_same _ _ _ h0]
  · rw [World.cell?_setCell_same _ _ _ ((World.cell?_setCell_other _ _ _ _ e.symm).trans h1)]

theorem clone_fr {B : Nat} {w W : World} {a b : ByteArray} (s : ByteArray) (hs : s.size ≤ 281474976710656) (h : Fr B w a b W) :
    Calls Tryz.prog 25 #[.string s] W fun e w' => e = .returned (.string s) ∧ Fr B w a b w' :=
  (B2.clone_any s W hs).mono fun _ _ ⟨he, hb⟩ => ⟨he, h.below hb⟩

set_option maxHeartbeats 4000000 in
theorem devCopy (a b : ByteArray) (w : World) (ha : a.size ≤ 281474976710656) (hb : b.size ≤ 281474976710656) :
    Calls Tryz.prog 155 #[.agg #[.string a, .string b]] w fun e w' => e = .returned (.agg #[.string a, .string b]) ∧ Below w.heap.size w w' := by
  have hF := fr_new a b w
  go_enter Tryz.func155, Tryz.ntmps155
  go_wp2
  obtain ⟨W, hW⟩ : ∃ W, (w.alloc (.cells #[.string a, .string b] 48)).alloc (.cells #[.string ⟨#[]⟩, .string ⟨#[]⟩] 48) = W := ⟨_, rfl⟩
  rw [hW] at hF ⊢
  have c0 := hF.c0
  have c1 := hF.c1
  have hFd := hF.drew
  go_region_with (go_at_call 25; refine (clone_fr (B := w.heap.size) (w := w) (a := a) (b := b) _ (by omega) (by assumption)).mono ?_; rintro e w4 ⟨rfl, h4⟩; have d0 := h4.c0; have d1 := h4.c1; have d2 := h4.r0; have d3 := h4.r1; have d4 := h4.f0; have d5 := h4.f1)
  all_goals
    go_wp2
    have q := ret2 (a := a) (b := b) d2 d3
    exact bodyPost_ret (v := .agg #[.string a, .string b]) (by simp [results, Tryz.results155, go_sem, q.1, q.2]) rfl
      ⟨rfl, (h4.bel.setCell (p := ⟨w.heap.size + 1, 0, none⟩) (Nat.le_succ _) _).setCell (p := ⟨w.heap.size + 1, 1, none⟩) (Nat.le_succ _) _⟩

/-- What DevOf answers. -/
def devOf (s : ByteArray) : Value := if s.size = 768 then .tuple #[.agg #[.string s, .string s], .bool true] else .tuple #[.agg #[.string ⟨#[]⟩, .string ⟨#[]⟩], .bool false]

theorem impl_DevOk_fr {B : Nat} {w W : World} {a b : ByteArray} (s t : ByteArray) (hs : s.size ≤ 281474976710656) (ht : t.size ≤ 281474976710656) (h : Fr B w a b W) :
    Calls Tryz.prog 60 #[.agg #[.string s, .string t]] W fun e w' => e = .returned (.bool (D1.ok s t)) ∧ Fr B w a b w' :=
  (D1.impl_DevOk s t W (by unfold maxLen; omega) (by unfold maxLen; omega)).mono fun _ _ ⟨he, hb⟩ => ⟨he, hb ▸ h.below ((Below.refl _ _).alloc (Nat.le_refl _) _)⟩

theorem spec_DevOk_fr {B : Nat} {w W : World} {a b : ByteArray} (s t : ByteArray) (hs : s.size ≤ 281474976710656) (ht : t.size ≤ 281474976710656) (h : Fr B w a b W) :
    Calls Tryz.prog 49 #[.agg #[.string s, .string t]] W fun e w' => e = .returned (.bool (D1.ok s t)) ∧ Fr B w a b w' :=
  (D1.spec_DevOk s t W (by unfold maxLen; omega) (by unfold maxLen; omega)).mono fun _ _ ⟨he, hb⟩ => ⟨he, hb ▸ h.below ((Below.refl _ _).alloc (Nat.le_refl _) _)⟩

theorem devCopy_fr {B : Nat} {w W : World} {a b : ByteArray} (s t : ByteArray) (hs : s.size ≤ 281474976710656) (ht : t.size ≤ 281474976710656) (h : Fr B w a b W) :
    Calls Tryz.prog 155 #[.agg #[.string s, .string t]] W fun e w' => e = .returned (.agg #[.string s, .string t]) ∧ Fr B w a b w' :=
  (devCopy s t W hs ht).mono fun _ _ ⟨he, hb⟩ => ⟨he, h.below hb⟩

theorem with_fr {B : Nat} {w W : World} {a b : ByteArray} (s : ByteArray) (i : Int) (t : ByteArray) (hs : s.size ≤ 281474976710656) (ht : t.size ≤ 281474976710656) (h : Fr B w a b W) :
    Calls Tryz.prog 26 #[.string s, .int .i64 i, .string t] W fun e w' => e = .returned (.string (B5.laid s i t)) ∧ Fr B w a b w' :=
  (B5.impl_With s i t W hs ht).mono fun _ _ ⟨he, hb⟩ => ⟨he, h.below hb⟩

theorem below_drewN {B : Nat} {a w : World} (h : Below B a w) (n : Nat) : Below B a (w.drewN n) := ⟨h.os, h.tape, h.output, h.size, h.block⟩

theorem spec_with_fr {B : Nat} {w W : World} {a b : ByteArray} (s : ByteArray) (i : Int) (t : ByteArray) (hs : s.size ≤ 281474976710656) (ht : t.size ≤ 281474976710656) (h : Fr B w a b W) :
    Calls Tryz.prog 30 #[.string s, .int .i64 i, .string t] W fun e w' => e = .returned (.string (B5.laid s i t)) ∧ Fr B w a b w' :=
  (B5.spec_With s i t W hs ht).mono fun _ _ ⟨he, n, hb⟩ => ⟨he, hb ▸ h.below (below_drewN (Below.refl _ _) n)⟩

theorem Fr.set0 {B : Nat} {w W : World} {a b : ByteArray} (h : Fr B w a b W) (x : ByteArray) : Fr B w x b (W.setCell ⟨B, 0, none⟩ (.string x)) :=
  ⟨World.cell?_setCell_same _ _ _ h.c0, (World.cell?_setCell_other _ _ _ _ (by simp)).trans h.c1, (World.cell?_setCell_other _ _ _ _ (by simp)).trans h.r0, (World.cell?_setCell_other _ _ _ _ (by simp)).trans h.r1,
   by rw [World.frozen?_setCell]; exact h.f0, by rw [World.frozen?_setCell]; exact h.f1, by rw [World.frozen?_setCell]; exact h.g0, by rw [World.frozen?_setCell]; exact h.g1,
   by have := h.lt; simpa [World.setCell] using this, h.bel.setCell (p := ⟨B, 0, none⟩) (Nat.le_refl _) _⟩

theorem Fr.done {B : Nat} {w W : World} {a b : ByteArray} (h : Fr B w a b W) (x y : Value) : Below B w ((W.setCell ⟨B + 1, 0, none⟩ x).setCell ⟨B + 1, 1, none⟩ y) :=
  (h.bel.setCell (p := ⟨B + 1, 0, none⟩) (Nat.le_succ _) _).setCell (p := ⟨B + 1, 1, none⟩) (Nat.le_succ _) _

/-- What Store leaves in Mem. -/
def stored (a b : ByteArray) (i : Int) (t : ByteArray) : ByteArray := if D1.ok a b then B5.laid a i t else a

end Go.Proofs.YtdljajjgppcjpaaGreat.D2

/- The contract of the program's DevOf; a device among a law's arguments, opened and shut. -/
namespace Go.Proofs.YtdljajjgppcjpaaGreat.D2
set_option maxRecDepth 10000
open Go.ChangeShapes Go.WideShapes Go.ChangeAt Go.RowKit Go.Joins
set_option linter.unusedVariables false

end Go.Proofs.YtdljajjgppcjpaaGreat.D2

/- A device among a law's arguments, opened and shut. -/
namespace Go.Proofs.YtdljajjgppcjpaaGreat.D4
open Go.ChangeShapes Go.WideShapes Go.ChangeAt Go.RowKit Go.Joins
set_option linter.unusedVariables false
set_option maxRecDepth 10000
variable {H : Type} {enc : TypeId × Value → H} {w : World} {base : Nat} {sp : Nat → Bool} {held : Bool}

theorem cells : Tryz.prog.cellsOf 42 = 2 := by kernel_rfl

theorem open_dev {r : Reach} {b0 : Nat} {v : Value} {d : DataW H} {p : List MemPlace} (hv : Value.okWide Tryz.prog w r b0 42 v) (h : DataW.Trod enc Tryz.prog w base sp held 42 v d p) :
    ∃ a b : ByteArray, v = .agg #[.string a, .string b] ∧ d = .agg [.lit (.string a.data.toList), .lit (.string b.data.toList)] ∧ p = [] ∧ a.size ≤ maxLen ∧ b.size ≤ maxLen := by
  obtain ⟨c0, c1, y0, y1, m, rfl, rfl, rfl, hy0, hy1⟩ := open_agg2 Tryz.underlying42 (by kernel_rfl) cells hv h
  obtain ⟨a, e0, rfl, wa⟩ := DataW.trod_string Tryz.underlying9 hy0
  obtain ⟨b, e1, rfl, wb⟩ := DataW.trod_string Tryz.underlying9 hy1
  simp at e0 e1
  subst e0 e1
  exact ⟨a, b, rfl, rfl, rfl, wa, wb⟩

theorem shut_dev {a b : ByteArray} (wa : a.size ≤ maxLen) (wb : b.size ≤ maxLen) :
    DataW.Trod enc Tryz.prog w base sp held 42 (.agg #[.string a, .string b]) (.agg [.lit (.string a.data.toList), .lit (.string b.data.toList)]) [] :=
  shut_agg2 (y0 := (.lit (.string a.data.toList), [])) (y1 := (.lit (.string b.data.toList), [])) Tryz.underlying42 (by kernel_rfl) cells ⟨1, by simp [DataW.trod, Tryz.underlying9, wa]⟩ ⟨1, by simp [DataW.trod, Tryz.underlying9, wb]⟩
end Go.Proofs.YtdljajjgppcjpaaGreat.D4

/- Contracts as the exact laws of chapter 2 use them: the law's own device, boxed, is kept. -/
namespace Go.Proofs.YtdljajjgppcjpaaGreat.D5
open Go.ChangeShapes Go.WideShapes Go.ChangeAt Go.RowKit
set_option linter.unusedVariables false
set_option maxRecDepth 10000

/-- A device in a block, nothing below it turned. -/
structure Bx (B : Nat) (w : World) (a b : ByteArray) (W : World) : Prop where
  c0 : W.cell? ⟨B, 0, none⟩ = some (.string a)
  c1 : W.cell? ⟨B, 1, none⟩ = some (.string b)
  lt : B < W.heap.size
  bel : Below B w W

variable {B : Nat} {w W W' : World} {a b : ByteArray}

theorem Bx.below (h : Bx B w a b W) (hb : Below W.heap.size W W') : Bx B w a b W' :=
  ⟨(hb.cell (p := ⟨B, 0, none⟩) h.lt).trans h.c0, (hb.cell (p := ⟨B, 1, none⟩) h.lt).trans h.c1, Nat.lt_of_lt_of_le h.lt hb.size, h.bel.trans (hb.mono (Nat.le_of_lt h.lt))⟩

theorem bx_new (a b : ByteArray) (w : World) : Bx w.heap.size w a b (w.alloc (.cells #[.string a, .string b] 42)) := by
  refine ⟨?_, ?_, ?_, ?_⟩
  all_goals first | exact (Below.refl _ _).alloc (Nat.le_refl _) _ | (simp [go_sem]; done) | (simp; done)

theorem szFit (hz : (a.size : Int) + b.size ≤ 1048576) (h : Bx B w a b W) :
    Calls Tryz.prog 46 #[.agg #[.string a, .string b], .int .i64 1048576] W fun e w' => e = .returned (.int .i64 (1048576 - a.size - b.size)) ∧ Bx B w a b w' :=
  (D1.szDev a b W (by unfold maxLen; omega) (by unfold maxLen; omega)).mono fun _ _ ⟨he, hb⟩ => ⟨by rw [he]; simp [D1.sz, hz], h.below hb⟩

theorem szBig (ha : a.size ≤ maxLen) (hb : b.size ≤ maxLen) (hz : ¬ (a.size : Int) + b.size ≤ 1048576) (h : Bx B w a b W) :
    Calls Tryz.prog 46 #[.agg #[.string a, .string b], .int .i64 1048576] W fun e w' => e = .returned (.int .i64 (-1)) ∧ Bx B w a b w' :=
  (D1.szDev a b W ha hb).mono fun _ _ ⟨he, hb⟩ => ⟨by rw [he]; simp [D1.sz, hz], h.below hb⟩

theorem toDev (h : Bx B w a b W) :
    Calls Tryz.prog 57 #[.agg #[.string a, .string b]] W fun e w' => e = .returned (.agg #[.string a, .string b]) ∧ Bx B w a b w' :=
  (D1.toDev a b W).mono fun _ _ ⟨he, hb⟩ => ⟨he, h.below hb⟩

theorem spec_DevOk (ha : a.size ≤ maxLen) (hb : b.size ≤ maxLen) (h : Bx B w a b W) :
    Calls Tryz.prog 49 #[.agg #[.string a, .string b]] W fun e w' => e = .returned (.bool (D1.ok a b)) ∧ Bx B w a b w' :=
  (D1.spec_DevOk a b W ha hb).mono fun _ _ ⟨he, hw⟩ => ⟨he, hw ▸ h.below ((Below.refl _ _).alloc (Nat.le_refl _) _)⟩

theorem impl_DevOk (ha : a.size ≤ maxLen) (hb : b.size ≤ maxLen) (h : Bx B w a b W) :
    Calls Tryz.prog 60 #[.agg #[.string a, .string b]] W fun e w' => e = .returned (.bool (D1.ok a b)) ∧ Bx B w a b w' :=
  (D1.impl_DevOk a b W ha hb).mono fun _ _ ⟨he, hw⟩ => ⟨he, hw ▸ h.below ((Below.refl _ _).alloc (Nat.le_refl _) _)⟩

/-- A device in a new block. -/
theorem dev_new (a b : ByteArray) (w : World) : Bx w.heap.size w a b (w.alloc (.cells #[.string a, .string b] 48)) := by
  refine ⟨?_, ?_, ?_, ?_⟩
  all_goals first | exact (Below.refl _ _).alloc (Nat.le_refl _) _ | (simp [go_sem]; done) | (simp; done)

theorem Bx.alloc (h : Bx B w a b W) (o : Obj) : Bx B w a b (W.alloc o) := h.below ((Below.refl _ _).alloc (Nat.le_refl _) o)
theorem below_new (h : Below B w W) (hB : B ≤ W.heap.size) (o : Obj) : Below B w (W.alloc o) := h.alloc hB o
end Go.Proofs.YtdljajjgppcjpaaGreat.D5
