/- Joined texts: plain facts and contracts, as each part says. -/
import Derived.Test.YtddlpejklpljoaaJfJ
import Derived.Lib.SliceRun
import Derived.Test.YtddlpejklpljoaaJfF
import Derived.Test.YtddlpejklpljoaaJfH
import Derived.Test.YtddlpejklpljoaaJfB
import Derived.Laws.MakeOwn
import Derived.Deep.RegionHeld3

/- The contract of spec.LoanOk, as the given laws call it: the walk. -/
namespace Go.Proofs.Ytddlpejklpljoaa.N11
open Go.ChangeShapes Go.WideShapes Go.ChangeAt Go.RowKit
set_option linter.unusedVariables false
set_option linter.unusedSimpArgs false
set_option maxRecDepth 10000

open N0 (Ln)
open N1 (Sl Lists Fit LB lb_new)
open N10 (SP sp_new first_cases last_cases)
open P1 (ret_bool quiet_bool)

theorem wf_of (n : Int) (h0 : -9223372036854775808 ≤ n) (h1 : n ≤ 9223372036854775807) : (Lit.int .i64 n).wf = true := by
  simp [Lit.wf, IntKind.min, IntKind.max, IntKind.signed, IntKind.bits]
  omega

set_option maxHeartbeats 4000000 in
theorem spec_LoanOk (d : Ln) (s : Sl) (w : World) (hF : Fit d s) (hpo : d.po.length ≤ 1048576) (hfr : d.fr.length ≤ 1048576) (hR : Lists w d s) :
    Calls Try.prog 62 #[N1.val d s] w fun e w' => e = .returned (.bool (N0.loanOk d)) ∧ Below w.heap.size w w' := by
  have hG : Hid (∀ W, Calls Try.prog 50 #[.string d.rc] W (G3.Ans d.rc W)) := fun W => G4.spec_GetInode d.rc W hF.m4
  have HL : Hid (∀ W, Below w.heap.size w W → Lists W d s) := fun W hb => hR.below hb
  have hpl : d.pg.length ≤ 281474976710656 := Nat.le_trans hF.l1 hF.m1
  have hsl := hF.m5
  have hsm : d.sav.size ≤ maxLen := by unfold maxLen; omega
  have hA : Hid (∀ W e w', G3.Ans d.rc W e w' → ∃ a c, e = .returned (.tuple #[I0.val (G0.gK d.rc) (G0.gO d.rc) (G0.gS d.rc) a (G0.gZ d.rc).length c, .bool (G0.isI d.rc)]) ∧ J0.Own W.heap.size w' a (G0.gZ d.rc) ∧ (G0.gZ d.rc).length ≤ c ∧ Below W.heap.size W w') := fun W e w' h => h
  have hzl : (G0.gZ d.rc).length ≤ 281474976710656 := by
    unfold G0.gZ
    split
    · rw [G0.pgs_length]; have := G0.cnt_le d.rc; omega
    · exact Nat.zero_le _
  have hsb : G0.isI d.rc = true → -9223372036854775808 ≤ G0.gS d.rc ∧ G0.gS d.rc ≤ 9223372036854775807 := fun h => by have := O0.got h; omega
  have hcase := first_cases d
  have hD0 : N0.sDir d = (!decide (G0.gK d.rc = 2) || V0.isD (B2.part d.sav 0 (G0.gS d.rc))) := rfl
  have hlast := last_cases d (G0.gK d.rc) rfl
  have hgd : Hid (∀ W, Calls Try.prog 53 #[.string (B2.part d.sav 0 (G0.gS d.rc))] W (V1.Ans (B2.part d.sav 0 (G0.gS d.rc)) W)) := fun W => V3.spec_GetDir _ _ (Nat.le_trans (B2.part_size _ _ _) hF.m5)
  obtain ⟨K, hK⟩ : ∃ K, G0.gK d.rc = K := ⟨_, rfl⟩
  obtain ⟨O, hO⟩ : ∃ O, G0.gO d.rc = O := ⟨_, rfl⟩
  obtain ⟨S, hS⟩ : ∃ S, G0.gS d.rc = S := ⟨_, rfl⟩
  obtain ⟨Z, hZ⟩ : ∃ Z, G0.gZ d.rc = Z := ⟨_, rfl⟩
  rw [hK, hZ] at hcase
  rw [hK] at hlast
  rw [hK, hO, hS, hZ] at hA
  rw [hZ] at hzl
  rw [hS] at hsb hgd
  rw [hS, hK] at hD0
  have hpt : Hid (G0.isI d.rc = true → ∀ W, Calls Try.prog 27 #[.string d.sav, .int .i64 0, .int .i64 S] W fun e w' => e = .returned (.string (B2.part d.sav 0 S)) ∧ w' = W) := fun h W => B2.spec_Part _ _ _ _ hsm (by decide) (wf_of _ (hsb h).1 (hsb h).2)
  obtain ⟨P, hP⟩ : ∃ P, B2.part d.sav 0 S = P := ⟨_, rfl⟩
  rw [hP] at hgd hD0 hpt
  have HD : Hid (∀ W e w', V1.Ans P W e w' → ∃ a c, e = .returned (.tuple #[.slice a (V0.dE P).length c, .bool (V0.isD P)]) ∧ Below W.heap.size W w') := fun W e w' ⟨a, c, he, _, _, hb⟩ => ⟨a, c, he, hb⟩
  clear hK hO hS hZ hP hR hF hsb hsm
  rcases hcase with ⟨gI, hp⟩ | ⟨gI, g0, hp⟩ | ⟨gI, g0, g1, hp⟩ | ⟨gI, g0, g1, g2, hp⟩ | ⟨gI, g0, g1, g2, g3, hp⟩ | ⟨gI, g0, g1, g2, g3, gz, hp⟩ | ⟨gI, g0, g1, g2, g3, gz, gs, hp⟩ | ⟨gI, g0, g1, g2, g3, gz, gs, hp⟩
  · rw [gI] at hA
    rw [N10.sOk_first hp]
    clear gI hlast hD0 hp hpt hgd HD
    go_enter Try.func62, Try.ntmps62
    go_wp2_with (first
      | (go_at_call 50; refine (hG.out _).mono ?_; intro e w1 hans; obtain ⟨a, c, rfl, ho, hc, b1⟩ := hA.out _ _ _ hans; clear hans; have p1 := sp_new (k := K) (o := O) (t := S) (a := a) (n := Z.length) (c := c) b1; have x0 := p1.nb.c0; have x3 := p1.nb.c3; have c0 := p1.arg.c0; have c1 := p1.arg.c1; have c2 := p1.arg.c2; have c4 := p1.arg.c4; have c5 := p1.arg.c5; have r1 := ho.row.alloc (.cells #[.int .i64 K, .int .i64 O, .int .i64 S, .slice a Z.length c] 45); have r2 := (HL.out _ p1.bel).r1)
      | (go_at_call 43; refine (B1.l01In_any _ _ _ _).mono ?_; rintro e w' ⟨rfl, rfl⟩))
    go_ret
    exact ⟨rfl, p1.bel⟩
  · rw [gI] at hA
    rw [N10.sOk_first hp]
    clear gI hlast hD0 hp hpt hgd HD
    go_enter Try.func62, Try.ntmps62
    go_wp2_with (first
      | (go_at_call 50; refine (hG.out _).mono ?_; intro e w1 hans; obtain ⟨a, c, rfl, ho, hc, b1⟩ := hA.out _ _ _ hans; clear hans; have p1 := sp_new (k := K) (o := O) (t := S) (a := a) (n := Z.length) (c := c) b1; have x0 := p1.nb.c0; have x3 := p1.nb.c3; have c0 := p1.arg.c0; have c1 := p1.arg.c1; have c2 := p1.arg.c2; have c4 := p1.arg.c4; have c5 := p1.arg.c5; have r1 := ho.row.alloc (.cells #[.int .i64 K, .int .i64 O, .int .i64 S, .slice a Z.length c] 45); have r2 := (HL.out _ p1.bel).r1)
      | (go_at_call 43; refine (B1.l01In_any _ _ _ _).mono ?_; rintro e w' ⟨rfl, rfl⟩))
    go_ret
    exact ⟨rfl, p1.bel⟩
  · rw [gI] at hA
    rw [N10.sOk_first hp]
    clear gI hlast hD0 hp hpt hgd HD
    go_enter Try.func62, Try.ntmps62
    go_wp2_with (first
      | (go_at_call 50; refine (hG.out _).mono ?_; intro e w1 hans; obtain ⟨a, c, rfl, ho, hc, b1⟩ := hA.out _ _ _ hans; clear hans; have p1 := sp_new (k := K) (o := O) (t := S) (a := a) (n := Z.length) (c := c) b1; have x0 := p1.nb.c0; have x3 := p1.nb.c3; have c0 := p1.arg.c0; have c1 := p1.arg.c1; have c2 := p1.arg.c2; have c4 := p1.arg.c4; have c5 := p1.arg.c5; have r1 := ho.row.alloc (.cells #[.int .i64 K, .int .i64 O, .int .i64 S, .slice a Z.length c] 45); have r2 := (HL.out _ p1.bel).r1)
      | (go_at_call 43; refine (B1.l01In_any _ _ _ _).mono ?_; rintro e w' ⟨rfl, rfl⟩))
    go_ret
    exact ⟨rfl, p1.bel⟩
  · rw [gI] at hA
    rw [N10.sOk_first hp]
    clear gI hlast hD0 hp hpt hgd HD
    go_enter Try.func62, Try.ntmps62
    go_wp2_with (first
      | (go_at_call 50; refine (hG.out _).mono ?_; intro e w1 hans; obtain ⟨a, c, rfl, ho, hc, b1⟩ := hA.out _ _ _ hans; clear hans; have p1 := sp_new (k := K) (o := O) (t := S) (a := a) (n := Z.length) (c := c) b1; have x0 := p1.nb.c0; have x3 := p1.nb.c3; have c0 := p1.arg.c0; have c1 := p1.arg.c1; have c2 := p1.arg.c2; have c4 := p1.arg.c4; have c5 := p1.arg.c5; have r1 := ho.row.alloc (.cells #[.int .i64 K, .int .i64 O, .int .i64 S, .slice a Z.length c] 45); have r2 := (HL.out _ p1.bel).r1)
      | (go_at_call 43; refine (B1.l01In_any _ _ _ _).mono ?_; rintro e w' ⟨rfl, rfl⟩))
    go_ret
    exact ⟨rfl, p1.bel⟩
  · rw [gI] at hA
    rw [N10.sOk_first hp]
    clear gI hlast hD0 hp hpt hgd HD
    go_enter Try.func62, Try.ntmps62
    go_wp2_with (first
      | (go_at_call 50; refine (hG.out _).mono ?_; intro e w1 hans; obtain ⟨a, c, rfl, ho, hc, b1⟩ := hA.out _ _ _ hans; clear hans; have p1 := sp_new (k := K) (o := O) (t := S) (a := a) (n := Z.length) (c := c) b1; have x0 := p1.nb.c0; have x3 := p1.nb.c3; have c0 := p1.arg.c0; have c1 := p1.arg.c1; have c2 := p1.arg.c2; have c4 := p1.arg.c4; have c5 := p1.arg.c5; have r1 := ho.row.alloc (.cells #[.int .i64 K, .int .i64 O, .int .i64 S, .slice a Z.length c] 45); have r2 := (HL.out _ p1.bel).r1)
      | (go_at_call 43; refine (B1.l01In_any _ _ _ _).mono ?_; rintro e w' ⟨rfl, rfl⟩))
    go_ret
    exact ⟨rfl, p1.bel⟩
  · rw [gI] at hA
    rw [N10.sOk_first hp]
    clear gI hlast hD0 hp hpt hgd HD
    go_enter Try.func62, Try.ntmps62
    go_wp2_with (first
      | (go_at_call 50; refine (hG.out _).mono ?_; intro e w1 hans; obtain ⟨a, c, rfl, ho, hc, b1⟩ := hA.out _ _ _ hans; clear hans; have p1 := sp_new (k := K) (o := O) (t := S) (a := a) (n := Z.length) (c := c) b1; have x0 := p1.nb.c0; have x3 := p1.nb.c3; have c0 := p1.arg.c0; have c1 := p1.arg.c1; have c2 := p1.arg.c2; have c4 := p1.arg.c4; have c5 := p1.arg.c5; have r1 := ho.row.alloc (.cells #[.int .i64 K, .int .i64 O, .int .i64 S, .slice a Z.length c] 45); have r2 := (HL.out _ p1.bel).r1)
      | (go_at_call 43; refine (B1.l01In_any _ _ _ _).mono ?_; rintro e w' ⟨rfl, rfl⟩)
      | (go_at_call 84; refine (N2.same _ _ _ _ _ _ _ hzl hpl r1 r2).mono ?_; rintro e w2 ⟨rfl, m, rfl⟩))
    go_ret
    exact ⟨rfl, (p1.drewN m).bel⟩
  · rw [gI] at hA
    rw [N10.sOk_first hp]
    clear gI hlast hD0 hp hpt hgd HD
    go_enter Try.func62, Try.ntmps62
    go_wp2_with (first
      | (go_at_call 50; refine (hG.out _).mono ?_; intro e w1 hans; obtain ⟨a, c, rfl, ho, hc, b1⟩ := hA.out _ _ _ hans; clear hans; have p1 := sp_new (k := K) (o := O) (t := S) (a := a) (n := Z.length) (c := c) b1; have x0 := p1.nb.c0; have x3 := p1.nb.c3; have c0 := p1.arg.c0; have c1 := p1.arg.c1; have c2 := p1.arg.c2; have c4 := p1.arg.c4; have c5 := p1.arg.c5; have r1 := ho.row.alloc (.cells #[.int .i64 K, .int .i64 O, .int .i64 S, .slice a Z.length c] 45); have r2 := (HL.out _ p1.bel).r1)
      | (go_at_call 43; refine (B1.l01In_any _ _ _ _).mono ?_; rintro e w' ⟨rfl, rfl⟩)
      | (go_at_call 84; refine (N2.same _ _ _ _ _ _ _ hzl hpl r1 r2).mono ?_; rintro e w2 ⟨rfl, m, rfl⟩))
    go_ret
    exact ⟨rfl, (p1.drewN m).bel⟩
  · rw [gI] at hA
    replace hpt : Hid (∀ W, Calls Try.prog 27 #[.string d.sav, .int .i64 0, .int .i64 S] W fun e w' => e = .returned (.string P) ∧ w' = W) := hpt.out gI
    clear gI
    have HF1 : Hid (N0.sFirst d = true) := hp
    have HD0 : Hid (N0.sDir d = (!decide (K = 2) || V0.isD P)) := hD0
    have HLast := hlast
    have hpo' : d.po.length ≤ 281474976710656 := by omega
    have hfr' : d.fr.length ≤ 281474976710656 := by omega
    obtain ⟨RV, hRV⟩ : ∃ RV, N0.loanOk d = RV := ⟨_, rfl⟩
    have HNo1 : Hid (N0.apart d.pg d.po = false → false = RV) := fun h => by rw [← hRV, N10.sOk_ap h]
    have HNo2 : Hid (N0.sDir d = false → false = RV) := fun h => by rw [← hRV, N10.sOk_dir h]
    have HYes : Hid (N0.apart d.pg d.po = true → N0.sDir d = true → N0.sLast d = RV) := fun h1 h2 => by rw [← hRV, N10.sOk_last HF1.out h1 h2]
    rw [hRV]
    clear hp hD0 hlast hRV
    go_enter Try.func62, Try.ntmps62
    go_wp2_with (first
      | (go_at_call 50; refine (hG.out _).mono ?_; intro e w1 hans; obtain ⟨a, c, rfl, ho, hc, b1⟩ := hA.out _ _ _ hans; clear hans; have p1 := sp_new (k := K) (o := O) (t := S) (a := a) (n := Z.length) (c := c) b1; have x0 := p1.nb.c0; have x3 := p1.nb.c3; have c0 := p1.arg.c0; have c1 := p1.arg.c1; have c2 := p1.arg.c2; have c4 := p1.arg.c4; have c5 := p1.arg.c5; have r1 := ho.row.alloc (.cells #[.int .i64 K, .int .i64 O, .int .i64 S, .slice a Z.length c] 45); have r2 := (HL.out _ p1.bel).r1)
      | (go_at_call 43; refine (B1.l01In_any _ _ _ _).mono ?_; rintro e w' ⟨rfl, rfl⟩)
      | (go_at_call 84; refine (N2.same _ _ _ _ _ _ _ hzl hpl r1 r2).mono ?_; rintro e w2 ⟨rfl, m, rfl⟩))
    have p2 := p1.drewN m
    obtain ⟨V, hV⟩ : ∃ V, (w1.alloc (.cells #[.int .i64 K, .int .i64 O, .int .i64 S, .slice a Z.length c] 45)).drewN m = V := ⟨_, rfl⟩
    rw [hV] at p2 ⊢
    clear hV p1 x0 x3 c0 c1 c2 c4 c5 r1 r2 ho b1 g0 g1 g2 g3 gz gs
    go_loopw [5] (fun i w' => ∃ j n : Nat, j ≤ d.po.length ∧ N0.to (N0.apAt d.pg d.po) j = true ∧ i = .int .i64 j ∧ w' = V.drewN n) (fun i _ => d.po.length - (intOf i).toNat)
    case atStart => exact ⟨0, 0, Nat.zero_le _, rfl, rfl, rfl⟩
    case round =>
      obtain ⟨j, n, hj, hok, rfl, hW⟩ := hrel
      have HW : Hid (∀ m, ∃ m', wr.drewN m = V.drewN m') := fun m => ⟨n + m, by rw [hW, World.drewN_drewN]⟩
      have pw : SP w d s K O S a Z.length c w1.heap.size wr := by rw [hW]; exact p2.drewN n
      have c4 := pw.arg.c4
      have c6 := pw.arg.c6
      have HWB : Hid (∀ m, Below w.heap.size w (wr.drewN m)) := fun m => K0.below_drewN pw.bel m
      by_cases hlt : j < d.po.length
      · obtain ⟨b, off, hab, hb, hcell⟩ := (HL.out _ pw.bel).r2.get hlt
        have hH : Hid (∀ m x, Calls Try.prog 49 #[.slice s.a1 d.pg.length s.c1, .int .i64 x] (wr.drewN m) fun e w' => e = .returned (.bool (P0.has d.pg x)) ∧ w' = wr.drewN m) := fun m x => N2.hasRow s.a1 s.c1 d.pg x _ hpl ((HL.out _ pw.bel).r1.drewN m)
        have x1 := hcell j hlt
        have hat : N0.apAt d.pg d.po j = !(P0.has d.pg (d.po.getD j 0)) := rfl
        obtain ⟨z, ez⟩ : ∃ z, d.po.getD j 0 = z := ⟨_, rfl⟩
        rw [ez] at x1 hat
        rw [hab] at c6
        have e1 : (0 : Int) ≤ (j : Int) := by omega
        have e2 : (j : Int) < (d.po.length : Int) := by omega
        cases h2 : P0.has d.pg z with
        | true =>
          have HR : Hid (false = RV) := HNo1.out (N0.to_bad hlt (by rw [hat, h2]; rfl))
          clear hat hok ez hcell hW pw p2
          go_wp2
          go_quiet ((go_at_call 49; exact quiet_bool (hH.out _ _) h2))
          go_wp2
          go_ret
          exact ⟨ret_bool HR.out, HWB.out _⟩
        | false =>
          have HO : Hid (N0.to (N0.apAt d.pg d.po) (j + 1) = true) := N0.to_step hok (by rw [hat, h2]; rfl)
          clear hat hok ez hcell hW pw p2
          go_wp2
          go_quiet ((go_at_call 49; exact quiet_bool (hH.out _ _) h2))
          go_wp2
          obtain ⟨m', hm'⟩ := HW.out nq
          go_roundw
          case rel => exact ⟨j + 1, m', by omega, HO.out, by go_num, hm'⟩
          case measure => simp [intOf]; omega
      · obtain rfl : j = d.po.length := by omega
        have hap : N0.apart d.pg d.po = true := hok
        have c5 := pw.arg.c5
        have n2 := pw.nb.c2
        have e9 : decide ((d.po.length : Int) < (d.po.length : Int)) = false := by simp
        have hdc : (K == 2) = true ∧ V0.isD P = false ∧ false = RV ∨ (((K == 2) = true ∧ V0.isD P = true) ∨ (K == 2) = false) ∧ N0.sLast d = RV := by
          by_cases h2 : K = 2
          · cases hI : V0.isD P with
            | false => exact Or.inl ⟨by simpa using h2, rfl, HNo2.out (by rw [HD0.out, decide_eq_true h2, hI]; rfl)⟩
            | true => exact Or.inr ⟨Or.inl ⟨by simpa using h2, rfl⟩, HYes.out hap (by rw [HD0.out, hI, Bool.or_true])⟩
          · exact Or.inr ⟨Or.inr (by simpa using h2), HYes.out hap (by rw [HD0.out, decide_eq_false h2]; rfl)⟩
        clear hok hW p2 HW HWB hap HNo1 HNo2 HYes HD0 c4
        rcases hdc with ⟨hk2, hDf, HR0⟩ | ⟨hk2, HR0⟩
        · have HR : Hid (false = RV) := HR0
          clear HR0
          go_wp2_with (first
            | (go_at_call 27; refine (hpt.out _).mono ?_; rintro e w4 ⟨rfl, rfl⟩)
            | (go_at_call 53; refine (hgd.out _).mono ?_; intro e w5 hans; obtain ⟨ae, ce, rfl, b5⟩ := HD.out _ _ _ hans; clear hans; have p5 := pw.below b5; have k0 := p5.nb.c0; have y0 := p5.arg.c0; have y6 := p5.arg.c6; have y7 := p5.arg.c7))
          go_ret
          exact ⟨ret_bool HR.out, p5.bel⟩
        · have HR : Hid (N0.sLast d = RV) := HR0
          clear HR0
          rcases HLast with ⟨u1, hl⟩ | ⟨u1, u2, hl⟩ | ⟨u1, u2, u3, hl⟩ | ⟨u1, u2, u3, u4, hl⟩ | ⟨u1, u2, u3, u4, u5, hl⟩ | ⟨u1, u2, u3, u4, u5, u6, hl⟩ | ⟨u1, u2, u3, u4, u5, u6, hl⟩
          all_goals
            have HQ : Hid (_ = RV) := hl.symm.trans HR.out
            clear hl HR
            rcases hk2 with ⟨v1, v2⟩ | v1
          all_goals first
            | (exact absurd (v1.symm.trans u6) (by decide))
            | (go_wp2_with (first
                | (go_at_call 27; refine (hpt.out _).mono ?_; rintro e w4 ⟨rfl, rfl⟩)
                | (go_at_call 53; refine (hgd.out _).mono ?_; intro e w5 hans; obtain ⟨ae, ce, rfl, b5⟩ := HD.out _ _ _ hans; clear hans; have p5 := pw.below b5; have k0 := p5.nb.c0; have y0 := p5.arg.c0; have y6 := p5.arg.c6; have y7 := p5.arg.c7)
                | (go_at_call 85; have m6' := m6; refine (N2.l05Up s.a3 s.c3 d.fr 1 7 _ hfr' ((HL.out _ p5.bel).r3.drewN m6)).mono ?_; rintro e w7 ⟨rfl, m7, rfl⟩)
                | (go_at_call 85; refine (N2.l05Up s.a2 s.c2 d.po 5 23 _ hpo' (HL.out _ p5.bel).r2).mono ?_; rintro e w6 ⟨rfl, m6, rfl⟩)
                | (go_at_call 49; refine (N2.hasRow s.a3 s.c3 d.fr _ _ hfr' (by simpa only [World.drewN_drewN] using (HL.out _ p5.bel).r3.drewN (m6 + m7))).mono ?_; rintro e w8 ⟨rfl, rfl⟩))
               go_ret
               exact ⟨ret_bool HQ.out, by first | exact p5.bel | exact K0.below_drewN p5.bel _⟩)
end Go.Proofs.Ytddlpejklpljoaa.N11

/- Contracts of impl.allAmong, spec.l05Among, impl.hasIno, impl.past's had and isLike, spec.l05Inos and slices.Clone, as the given laws call them. -/
namespace Go.Proofs.Ytddlpejklpljoaa.D0
open Go.ChangeShapes Go.WideShapes Go.ChangeAt Go.RowKit
set_option linter.unusedVariables false
set_option linter.unusedSimpArgs false
set_option maxRecDepth 10000

open N0 (Ln)
open N5 (pv)
open P1 (ret_bool)
open J0 (IBuf Own)

/-- The inodes of entries. -/
def inos (es : List T0.Ent) : List Int := es.map (·.1)

theorem inos_length (es : List T0.Ent) : (inos es).length = es.length := by simp [inos]
theorem inos_take (es : List T0.Ent) (k : Nat) (h : k < es.length) : inos (es.take (k + 1)) = inos (es.take k) ++ [(T0.ent es k).1] := by
  unfold inos
  rw [List.take_succ_eq_append_getElem h, List.map_append, T0.ent_get _ _ h]
  rfl
theorem inos_get (es : List T0.Ent) (k : Nat) (h : k < es.length) : (inos es).getD k 0 = (T0.ent es k).1 := by
  rw [P0.getD_get _ _ (by rw [inos_length]; exact h), T0.ent_get _ _ h]
  simp [inos]

def noAt (es : List T0.Ent) (x : Int) (i : Nat) : Bool := !decide ((T0.ent es i).1 = x)

theorem has_inos_no {es : List T0.Ent} {x : Int} (h : N0.to (noAt es x) es.length = true) : P0.has (inos es) x = false := by
  refine N0.has_not.2 fun hm => ?_
  obtain ⟨i, hi, e⟩ := N0.mem_getD hm
  rw [inos_length] at hi
  have := N0.to_iff.1 h i hi
  rw [inos_get _ _ hi] at e
  simp only [noAt, Bool.not_eq_true', decide_eq_false_iff_not] at this
  exact this e
theorem has_inos_yes {es : List T0.Ent} {x : Int} {k : Nat} (hk : k < es.length) (h : (T0.ent es k).1 = x) : P0.has (inos es) x = true := by
  refine N0.has_iff.2 ?_
  rw [← h, ← inos_get es k hk]
  exact N0.getD_mem (by rw [inos_length]; exact hk)

theorem clone (a : Option Addr) (c : Nat) (zs : List Int) (w : World) (hn : zs.length ≤ 1000) (hR : P0.Row w a zs) :
    Calls Try.prog 80 #[.slice a zs.length c] w fun e w' => ∃ a' c', e = .returned (.slice a' zs.length c') ∧ IBuf w.heap.size w' a' zs.length c' zs ∧ Below w.heap.size w w' := by
  have qn : ∀ (w : World) (a : Option Addr) (n c n' c' : Nat), (binOp .eql 29 (.slice a n c) (.slice none n' c')).run Try.prog w = .ok (.bool a.isNone) w := fun w a n c n' c' => Lib.run_eql_slice_nil w _ _ a n c n' c' Try.underlying29
  cases a with
  | none =>
    have h0 : zs = [] := by
      rcases hR with h | ⟨b, off, h, _⟩
      · exact h
      · cases h
    subst h0
    go_enter Try.func80, Try.ntmps80
    go_wp2
    go_ret
    exact ⟨none, 0, rfl, J0.ibuf_nil _, Below.refl _ _⟩
  | some p =>
    have b0 := J0.ibuf_made w (Nat.le_refl _)
    have l0 := K0.below_new w (.cells #[] 3)
    have r0 := hR.below l0
    clear hR
    go_enter Try.func80, Try.ntmps80
    go_wp2_with (at_builtin; refine Q1.append_rows rfl (.tmp 5) (.tmp 6) rfl b0 _ _ zs (by rfl) (by rfl) r0 (by omega) l0.size ?_; intro a1 c1 w1 b1 l1)
    go_ret
    exact ⟨a1, c1, by simp, by simpa using b1, l0.trans l1⟩
end Go.Proofs.Ytddlpejklpljoaa.D0

/- Contracts of impl.dataOf, spec.l03Rec and spec.l03Page, as the given laws call them. -/
namespace Go.Proofs.Ytddlpejklpljoaa.O1
open Go.ChangeShapes Go.WideShapes Go.ChangeAt Go.RowKit
set_option linter.unusedVariables false
set_option linter.unusedSimpArgs false
set_option maxRecDepth 10000

open I0 (val vals)

theorem wf_recAt (i : Int) : (Lit.int .i64 (L1.recAt i)).wf = true := by
  refine E4.wf_of _ ?_ ?_
  all_goals
    unfold L1.recAt
    split
    · rename_i h
      have := B1.inB_true h
      omega
    · omega

theorem l03Rec (mem : ByteArray) (i : Int) (w : World) (hs : mem.size ≤ 281474976710656) :
    Calls Try.prog 51 #[.string mem, .int .i64 i] w fun e w' => e = .returned (.string (O0.recd mem i)) ∧ w' = w := by
  have hm : mem.size ≤ maxLen := by unfold maxLen; omega
  have e : O0.recd mem i = B2.part mem (L1.recAt i) 16 := rfl
  rw [e]
  go_enter Try.func51, Try.ntmps51
  go_wp2_with (first
    | (go_at_call 63; refine (L1.spec_RecAt _ _).mono ?_; rintro e w' ⟨rfl, rfl⟩)
    | (go_at_call 27; refine (B2.spec_Part _ _ _ _ hm (wf_recAt i) (by decide)).mono ?_; rintro e w' ⟨rfl, rfl⟩))
  go_ret
  exact ⟨rfl, rfl⟩

theorem l03Page (mem : ByteArray) (z : Int) (w : World) (hs : mem.size ≤ 281474976710656) (h0 : 5 ≤ z) (h1 : z ≤ 23) :
    Calls Try.prog 52 #[.string mem, .int .i64 z] w fun e w' => e = .returned (.string (B2.part mem (z * 32) 32)) ∧ w' = w := by
  have hm : mem.size ≤ maxLen := by unfold maxLen; omega
  have hw := E4.wf_of (z * 32) (by omega) (by omega)
  go_enter Try.func52, Try.ntmps52
  go_wp2_with (go_at_call 27; refine (B2.spec_Part _ _ _ _ hm hw (by decide)).mono ?_; rintro e w' ⟨rfl, rfl⟩)
  go_ret
  exact ⟨rfl, rfl⟩

theorem make192 : ∃ C : Array Value, C.size = 192 ∧ ∀ W : World, (Instr.makeSlice 92 (.int .i64 0) (.int .i64 192)).run Try.prog W = .ok (.slice (some ⟨W.heap.size, 0, none⟩) 0 192) (W.alloc (.cells C 5)) := by
  obtain ⟨i0, hi, hz0, hz1, hz2⟩ := info_parts F0.info5
  refine ⟨madeCells (Value.int .u8 0).cells (192 * i0.size), ?_, fun W => ?_⟩
  · have : (madeCells (Value.int .u8 0).cells (192 * i0.size)).toList.length = 192 := by
      rw [show (Value.int .u8 0).cells = #[Value.int .u8 0] from rfl, toList_madeCells_one, hz1]
      simp
    simpa using this
  · exact run_make (P := Try.prog) W 92 5 i0 (.int .u8 0) Try.underlying92 hi hz0 .i64 .i64 0 192 (by omega) (by omega) (by rw [hz2]; omega) (by omega)

set_option maxHeartbeats 2000000 in
theorem pagesText (mem : ByteArray) (a : Option Addr) (c : Nat) (zs : List Int) (w : World) (hm : mem.size = 768) (hp : P0.pagesOk zs = true) (hl : zs.length ≤ 6) (hR1 : P0.Row w a zs) :
    Calls Try.prog 94 #[.string mem, .slice a zs.length c] w fun e w' => e = .returned (.string (O0.joined mem zs zs.length)) ∧ Below w.heap.size w w' := by
  obtain ⟨C, hC, hmk⟩ := make192
  have hbuf0 := F0.buf_none (base := w.heap.size) w C 192 hC (by unfold maxLen; omega) (Nat.le_refl _)
  have bel0 := K0.below_new w (.cells C 5)
  have hms : mem.size ≤ 281474976710656 := by omega
  go_enter Try.func94, Try.ntmps94
  go_wp2
  go_loopw [5, 11] (fun r i w' => ∃ (j g cap : Nat), j ≤ zs.length ∧ i = .int .i64 j ∧ r = .slice (some ⟨g, 0, none⟩) (32 * j) cap ∧ F0.Buf w.heap.size w' g (32 * j) cap (O0.joined mem zs j) ∧ Below w.heap.size w w') (fun _ i _ => zs.length - (intOf i).toNat)
  case atStart => exact ⟨0, w.heap.size, 192, Nat.zero_le _, rfl, rfl, hbuf0, bel0⟩
  case round =>
    obtain ⟨j, g, cap, hj, rfl, rfl, hbuf, hbel⟩ := hrel
    clear hbuf0 bel0 hmk
    by_cases hlt : j < zs.length
    · obtain ⟨b, off, rfl, hb, hc⟩ := (hR1.below hbel).get hlt
      have x1 := hc j hlt
      have hz := R0.pages_bounds hp hlt
      have hu : O0.joined mem zs (j + 1) = O0.joined mem zs j ++ B2.part mem (zs.getD j 0 * 32) 32 := rfl
      obtain ⟨z, ez⟩ : ∃ z, zs.getD j 0 = z := ⟨_, rfl⟩
      rw [ez] at x1 hz hu
      have hps := O0.page_size hm hz.1 hz.2
      have z0 : 0 ≤ z := by omega
      have z1 : z ≤ 23 := hz.2
      have e1 : (0 : Int) ≤ (j : Int) := by omega
      have e2 : (j : Int) < (zs.length : Int) := by omega
      have HU : Hid (O0.joined mem zs (j + 1) = O0.joined mem zs j ++ B2.part mem (z * 32) 32) := hu
      clear hu ez hc hz
      go_wp2_with (first
        | (go_at_call 54; refine (B2.impl_Part _ _ _ _ hms).mono ?_; rintro e w2 ⟨rfl, b2⟩; have hbuf2 := hbuf.below b2; have bel2 := hbel.trans (b2.mono hbel.size))
        | (at_builtin; refine F0.append_text rfl (.tmp 15) (.tmp 19) rfl hbuf2 (B2.part mem (z * 32) 32) (by rfl) (by rfl) (by omega) bel2.size ?_; intro g1 cap1 w3 hbuf3 bel3))
      go_roundw
      case rel =>
        rw [hps] at hbuf3
        exact ⟨j + 1, g1, cap1, by omega, by go_num, rfl, by rw [HU.out]; exact hbuf3, bel2.trans bel3⟩
      case measure => simp [intOf]; omega
    · obtain rfl : j = zs.length := by omega
      have hcv := hbuf.conv
      clear hbuf hR1
      go_wp2
      go_ret
      exact ⟨rfl, hbel⟩

theorem part_front (u : ByteArray) (n : Int) (h0 : 0 ≤ n) (h1 : n ≤ (u.size : Int)) : B2.part u 0 n = u.extract 0 n.toNat := by
  rw [B2.part, if_pos]
  · simp
  · unfold B2.lies
    simp
    omega

set_option maxHeartbeats 2000000 in
theorem dataOf (mem : ByteArray) (k o s : Int) (a : Option Addr) (c : Nat) (zs : List Int) (w : World) (hm : mem.size = 768) (hp : P0.pagesOk zs = true) (hl : zs.length ≤ 6) (hs0 : 0 ≤ s) (hs1 : s ≤ 32 * (zs.length : Int)) (hR : P0.Row w a zs) :
    Calls Try.prog 77 #[.string mem, val k o s a zs.length c] w fun e w' => e = .returned (.string ((O0.joined mem zs zs.length).extract 0 s.toNat)) ∧ Below w.heap.size w w' := by
  have hbox := K0.blk_new (vals k o s a zs.length c) w 45
  have hl0 := K0.below_new w (.cells #[.int .i64 k, .int .i64 o, .int .i64 s, .slice a zs.length c] 45)
  have HT : Hid (∀ W, Below w.heap.size w W → Calls Try.prog 94 #[.string mem, .slice a zs.length c] W fun e w' => e = .returned (.string (O0.joined mem zs zs.length)) ∧ Below W.heap.size W w') := fun W hb => pagesText mem a c zs W hm hp hl (hR.below hb)
  have hsz := O0.joined_size hm hp zs.length (Nat.le_refl _)
  rw [← part_front _ _ hs0 (by omega)]
  obtain ⟨u, hu⟩ : ∃ u, O0.joined mem zs zs.length = u := ⟨_, rfl⟩
  rw [hu] at HT hsz ⊢
  have hus : u.size ≤ 281474976710656 := by omega
  have s1 : (w.alloc (.cells #[.int .i64 k, .int .i64 o, .int .i64 s, .slice a zs.length c] 45)).drew.cell? ⟨w.heap.size, 2, none⟩ = some (.int .i64 s) ∧ (w.alloc (.cells #[.int .i64 k, .int .i64 o, .int .i64 s, .slice a zs.length c] 45)).drew.cell? ⟨w.heap.size, 3, none⟩ = some (.slice a zs.length c) := ⟨hbox.drew.c2, hbox.drew.c3⟩
  clear hR hu hsz
  go_enter Try.func77, Try.ntmps77
  go_wp2
  go_region_held3 (fun W => W.cell? ⟨w.heap.size, 2, none⟩ = some (.int .i64 s) ∧ W.cell? ⟨w.heap.size, 3, none⟩ = some (.slice a zs.length c)) (assumption) ((first
    | (go_at_call 94; refine (HT.out _ hl0.drew).mono ?_; rintro e w2 ⟨rfl, b2⟩; have hb2 := hbox.drew.below b2; have l2 := hl0.drew.trans (b2.mono hl0.drew.size); have s2 : w2.cell? ⟨w.heap.size, 2, none⟩ = some (.int .i64 s) ∧ w2.cell? ⟨w.heap.size, 3, none⟩ = some (.slice a zs.length c) := ⟨hb2.c2, hb2.c3⟩)
    | (go_at_call 54; refine (B2.impl_Part _ _ _ _ hus).mono ?_; rintro e w3 ⟨rfl, b3⟩; have hb3 := hb2.below b3; have l3 := l2.trans (b3.mono l2.size); have s3 : w3.cell? ⟨w.heap.size, 2, none⟩ = some (.int .i64 s) ∧ w3.cell? ⟨w.heap.size, 3, none⟩ = some (.slice a zs.length c) := ⟨hb3.c2, hb3.c3⟩)))
  all_goals
    go_wp2
    go_ret
    exact ⟨rfl, l3⟩
end Go.Proofs.Ytddlpejklpljoaa.O1

/- The contract of impl.readNode, as the given laws call it. -/
namespace Go.Proofs.Ytddlpejklpljoaa.D1
open Go.ChangeShapes Go.WideShapes Go.ChangeAt Go.RowKit
set_option linter.unusedVariables false
set_option linter.unusedSimpArgs false
set_option maxRecDepth 10000

variable {w W W' : World} {B : Nat} {a : Option Addr}
theorem cells6 {x0 x1 x2 x3 x4 x5 : Value} (h : K0.Blk B [x0, x1, x2, x3, x4, x5] W) : W.cell? ⟨B, 0, none⟩ = some x0 ∧ W.cell? ⟨B, 1, none⟩ = some x1 ∧ W.cell? ⟨B, 2, none⟩ = some x2 ∧ W.cell? ⟨B, 3, none⟩ = some x3 ∧ W.cell? ⟨B, 4, none⟩ = some x4 ∧ W.cell? ⟨B, 5, none⟩ = some x5 := ⟨h.cell 0 (by simp), h.cell 1 (by simp), h.cell 2 (by simp), h.cell 3 (by simp), h.cell 4 (by simp), h.cell 5 (by simp)⟩
theorem free6 {x0 x1 x2 x3 x4 x5 : Value} (h : K0.Blk B [x0, x1, x2, x3, x4, x5] W) : W.frozen? ⟨B, 0, none⟩ = false ∧ W.frozen? ⟨B, 1, none⟩ = false ∧ W.frozen? ⟨B, 2, none⟩ = false ∧ W.frozen? ⟨B, 3, none⟩ = false ∧ W.frozen? ⟨B, 4, none⟩ = false ∧ W.frozen? ⟨B, 5, none⟩ = false := ⟨h.free 0 (by simp), h.free 1 (by simp), h.free 2 (by simp), h.free 3 (by simp), h.free 4 (by simp), h.free 5 (by simp)⟩
abbrev W6 (W : World) (B : Nat) (y0 y1 y2 y3 y4 y5 : Value) : World := ((((((W.setCell ⟨B, 0, none⟩ y0).setCell ⟨B, 1, none⟩ y1).setCell ⟨B, 2, none⟩ y2).setCell ⟨B, 3, none⟩ y3).setCell ⟨B, 4, none⟩ y4).setCell ⟨B, 5, none⟩ y5)
theorem put6 {x0 x1 x2 x3 x4 x5 : Value} (h : K0.Blk B [x0, x1, x2, x3, x4, x5] W) (y0 y1 y2 y3 y4 y5 : Value) : K0.Blk B [y0, y1, y2, y3, y4, y5] (W6 W B y0 y1 y2 y3 y4 y5) := ((((((h.set 0 y0).set 1 y1).set 2 y2).set 3 y3).set 4 y4).set 5 y5)
theorem bel6 {b : Nat} (h : Below b w W) (hb : b ≤ B) (y0 y1 y2 y3 y4 y5 : Value) : Below b w (W6 W B y0 y1 y2 y3 y4 y5) := ((((((h.setCell (p := ⟨B, 0, none⟩) hb y0).setCell (p := ⟨B, 1, none⟩) hb y1).setCell (p := ⟨B, 2, none⟩) hb y2).setCell (p := ⟨B, 3, none⟩) hb y3).setCell (p := ⟨B, 4, none⟩) hb y4).setCell (p := ⟨B, 5, none⟩) hb y5)
theorem own6 {base : Nat} {zs : List Int} (h : J0.Own base W a zs) (hB : B < base) (y0 y1 y2 y3 y4 y5 : Value) : J0.Own base (W6 W B y0 y1 y2 y3 y4 y5) a zs := ((((((h.set hB 0 y0).set hB 1 y1).set hB 2 y2).set hB 3 y3).set hB 4 y4).set hB 5 y5)
theorem ownE6 {base : Nat} {es : List T0.Ent} (h : V1.OwnE base W a es) (hB : B < base) (y0 y1 y2 y3 y4 y5 : Value) : V1.OwnE base (W6 W B y0 y1 y2 y3 y4 y5) a es := (N5.ownE_set (N5.ownE_set (N5.ownE_set (N5.ownE_set (N5.ownE_set (N5.ownE_set h hB 0 y0) hB 1 y1) hB 2 y2) hB 3 y3) hB 4 y4) hB 5 y5)

abbrev nv (k o t : Int) (a : Option Addr) (n c : Nat) (x : ByteArray) (ae : Option Addr) (ne ce : Nat) : Value := .agg #[.int .i64 k, .int .i64 o, .int .i64 t, .slice a n c, .string x, .slice ae ne ce]
abbrev nvs (k o t : Int) (a : Option Addr) (n c : Nat) (x : ByteArray) (ae : Option Addr) (ne ce : Nat) : List Value := [.int .i64 k, .int .i64 o, .int .i64 t, .slice a n c, .string x, .slice ae ne ce]

/-- The bytes that an inode's record tells of, whether it is one of a right node, and its entries. -/
def data (mem : ByteArray) (i : Int) : ByteArray := (O0.joined mem (G0.gZ (O0.recd mem i)) (G0.gZ (O0.recd mem i)).length).extract 0 (G0.gS (O0.recd mem i)).toNat
def nodeOk (mem : ByteArray) (i : Int) : Bool := G0.isI (O0.recd mem i) && (!decide (G0.gK (O0.recd mem i) = 2) || V0.isD (data mem i))
def nodeE (mem : ByteArray) (i : Int) : List T0.Ent := if G0.gK (O0.recd mem i) = 2 then V0.dE (data mem i) else []

/-- What readNode answers. -/
def Ans (mem : ByteArray) (i : Int) (w : World) (e : Ending) (w' : World) : Prop :=
  ∃ (k o t : Int) (a : Option Addr) (n c : Nat) (x : ByteArray) (ae : Option Addr) (ne ce : Nat), e = .returned (.tuple #[nv k o t a n c x ae ne ce, .bool (nodeOk mem i)]) ∧ Below w.heap.size w w' ∧
    (nodeOk mem i = true → k = G0.gK (O0.recd mem i) ∧ o = G0.gO (O0.recd mem i) ∧ n = (G0.gZ (O0.recd mem i)).length ∧ n ≤ c ∧ J0.Own w.heap.size w' a (G0.gZ (O0.recd mem i)) ∧ ne = (nodeE mem i).length ∧ ne ≤ ce ∧ V1.OwnE w.heap.size w' ae (nodeE mem i))

theorem ans_no {mem : ByteArray} {i : Int} {w w' : World} {k o t : Int} {a : Option Addr} {n c : Nat} {x : ByteArray} {ae : Option Addr} {ne ce : Nat} (h : nodeOk mem i = false) (hb : Below w.heap.size w w') : Ans mem i w (.returned (.tuple #[nv k o t a n c x ae ne ce, .bool false])) w' :=
  ⟨k, o, t, a, n, c, x, ae, ne, ce, by rw [h], hb, fun h' => by rw [h] at h'; cases h'⟩
theorem ans_yes {mem : ByteArray} {i : Int} {w w' : World} {t : Int} {a : Option Addr} {c : Nat} {x : ByteArray} {ae : Option Addr} {ce : Nat} (h : nodeOk mem i = true) (hb : Below w.heap.size w w') (hc : (G0.gZ (O0.recd mem i)).length ≤ c) (ho : J0.Own w.heap.size w' a (G0.gZ (O0.recd mem i))) (hce : (nodeE mem i).length ≤ ce) (hoe : V1.OwnE w.heap.size w' ae (nodeE mem i)) :
    Ans mem i w (.returned (.tuple #[nv (G0.gK (O0.recd mem i)) (G0.gO (O0.recd mem i)) t a (G0.gZ (O0.recd mem i)).length c x ae (nodeE mem i).length ce, .bool true])) w' :=
  ⟨_, _, t, a, _, c, x, ae, _, ce, by rw [h], hb, fun _ => ⟨rfl, rfl, rfl, hc, ho, rfl, hce, hoe⟩⟩

/-- The blocks of readNode. -/
structure ND (w : World) (k o t : Int) (a : Option Addr) (n c B : Nat) (W : World) : Prop where
  res : K0.Blk w.heap.size (nvs 0 0 0 none 0 0 ⟨#[]⟩ none 0 0) W
  nb : K0.Blk B (I0.vals k o t a n c) W
  bel : Below w.heap.size w W
theorem ND.below {k o t : Int} {n c : Nat} (h : ND w k o t a n c B W) (hb : Below W.heap.size W W') : ND w k o t a n c B W' := ⟨h.res.below hb, h.nb.below hb, h.bel.trans (hb.mono h.bel.size)⟩
abbrev w00 (w : World) : World := w.alloc (.cells #[.int .i64 0, .int .i64 0, .int .i64 0, .slice none 0 0, .string ⟨#[]⟩, .slice none 0 0] 83)
theorem nd_new {k o t : Int} {n c : Nat} (hb : Below (w00 w).heap.size (w00 w) W) : ND w k o t a n c W.heap.size (W.alloc (.cells #[.int .i64 k, .int .i64 o, .int .i64 t, .slice a n c] 45)) :=
  ⟨((K0.blk_new (nvs 0 0 0 none 0 0 ⟨#[]⟩ none 0 0) w 83).below hb).alloc _, K0.blk_new (I0.vals k o t a n c) W 45, ((K0.below_new w _).trans (hb.mono (K0.below_new w _).size)).alloc (Nat.le_trans (K0.below_new w _).size hb.size) _⟩

theorem node_cases (mem : ByteArray) (i : Int) :
    (G0.isI (O0.recd mem i) = false ∧ nodeOk mem i = false) ∨ (G0.isI (O0.recd mem i) = true ∧ (G0.gK (O0.recd mem i) != 2) = true ∧ nodeOk mem i = true ∧ nodeE mem i = []) ∨
    (G0.isI (O0.recd mem i) = true ∧ (G0.gK (O0.recd mem i) != 2) = false ∧ nodeOk mem i = V0.isD (data mem i) ∧ nodeE mem i = V0.dE (data mem i)) := by
  unfold nodeOk nodeE
  cases hI : G0.isI (O0.recd mem i) with
  | false => exact Or.inl ⟨rfl, Bool.false_and _⟩
  | true =>
    right
    by_cases h2 : G0.gK (O0.recd mem i) = 2
    · right
      exact ⟨rfl, by simpa using h2, by rw [decide_eq_true h2, Bool.true_and, Bool.not_true, Bool.false_or], by rw [if_pos h2]⟩
    · left
      exact ⟨rfl, by simpa using h2, by rw [decide_eq_false h2, Bool.not_false, Bool.true_or, Bool.true_and], by rw [if_neg h2]⟩

theorem data_le (mem : ByteArray) (i : Int) (hm : mem.size = 768) : (data mem i).size ≤ 281474976710656 := by
  unfold data
  rw [ByteArray.size_extract]
  cases hI : G0.isI (O0.recd mem i) with
  | true =>
    have hg := O0.got hI
    rw [O0.joined_size hm hg.2.2.2.1 _ (Nat.le_refl _)]
    have := hg.2.1
    omega
  | false =>
    rw [(G0.g_no hI).2.2.2]
    have : (O0.joined mem [] ([] : List Int).length).size = 0 := rfl
    omega

set_option maxHeartbeats 4000000 in
theorem readNode (mem : ByteArray) (i : Int) (w : World) (hm : mem.size = 768) : Calls Try.prog 57 #[.string mem, .int .i64 i] w (Ans mem i w) := by
  have hms : mem.size ≤ 281474976710656 := by omega
  have hrs := O0.recd_size mem i hms
  have hpt : Hid (∀ W, Calls Try.prog 54 #[.string mem, .int .i64 (L1.recAt i), .int .i64 16] W fun e w' => e = .returned (.string (O0.recd mem i)) ∧ Below W.heap.size W w') := fun W => B2.impl_Part _ _ _ _ hms
  have hG : Hid (∀ W, Calls Try.prog 76 #[.string (O0.recd mem i)] W (G3.Ans (O0.recd mem i) W)) := fun W => G3.impl_GetInode _ W hrs
  have hA : Hid (∀ W e w', G3.Ans (O0.recd mem i) W e w' → ∃ a c, e = .returned (.tuple #[I0.val (G0.gK (O0.recd mem i)) (G0.gO (O0.recd mem i)) (G0.gS (O0.recd mem i)) a (G0.gZ (O0.recd mem i)).length c, .bool (G0.isI (O0.recd mem i))]) ∧ J0.Own W.heap.size w' a (G0.gZ (O0.recd mem i)) ∧ (G0.gZ (O0.recd mem i)).length ≤ c ∧ Below W.heap.size W w') := fun W e w' h => h
  have hgot := fun h => O0.got (s := O0.recd mem i) h
  have HN : Hid (∀ k o t a n c x ae ne ce w', nodeOk mem i = false → Below w.heap.size w w' → Ans mem i w (.returned (.tuple #[nv k o t a n c x ae ne ce, .bool false])) w') := fun k o t a n c x ae ne ce w' h hb => ans_no h hb
  have HY : Hid (∀ t a c x ae ce w', nodeOk mem i = true → Below w.heap.size w w' → (G0.gZ (O0.recd mem i)).length ≤ c → J0.Own w.heap.size w' a (G0.gZ (O0.recd mem i)) → (nodeE mem i).length ≤ ce → V1.OwnE w.heap.size w' ae (nodeE mem i) → Ans mem i w (.returned (.tuple #[nv (G0.gK (O0.recd mem i)) (G0.gO (O0.recd mem i)) t a (G0.gZ (O0.recd mem i)).length c x ae (nodeE mem i).length ce, .bool true])) w') := fun t a c x ae ce w' h hb hc ho hce hoe => ans_yes h hb hc ho hce hoe
  have hcase := node_cases mem i
  have hdat : data mem i = (O0.joined mem (G0.gZ (O0.recd mem i)) (G0.gZ (O0.recd mem i)).length).extract 0 (G0.gS (O0.recd mem i)).toNat := rfl
  obtain ⟨R, hR⟩ : ∃ R, Ans mem i w = R := ⟨_, rfl⟩
  rw [hR] at HN HY ⊢
  obtain ⟨Q, hQ⟩ : ∃ Q, O0.recd mem i = Q := ⟨_, rfl⟩
  rw [hQ] at hpt hG hA hgot HY hcase hdat
  obtain ⟨D, hD⟩ : ∃ D, data mem i = D := ⟨_, rfl⟩
  rw [hD] at hcase hdat
  obtain ⟨K, hK⟩ : ∃ K, G0.gK Q = K := ⟨_, rfl⟩
  obtain ⟨O, hO⟩ : ∃ O, G0.gO Q = O := ⟨_, rfl⟩
  obtain ⟨S, hS⟩ : ∃ S, G0.gS Q = S := ⟨_, rfl⟩
  obtain ⟨Z, hZ⟩ : ∃ Z, G0.gZ Q = Z := ⟨_, rfl⟩
  rw [hK] at hcase
  rw [hK, hO, hZ] at HY
  rw [hK, hO, hS, hZ] at hA
  rw [hS, hZ] at hdat
  rw [hK, hS, hZ] at hgot
  have hgd : Hid (∀ W, Calls Try.prog 78 #[.string D] W (V1.Ans D W)) := fun W => V2.impl_GetDir _ _ (by rw [← hD]; exact data_le mem i hm)
  have HD : Hid (∀ W e w', V1.Ans D W e w' → ∃ a c, e = .returned (.tuple #[.slice a (V0.dE D).length c, .bool (V0.isD D)]) ∧ V1.OwnE W.heap.size w' a (V0.dE D) ∧ (V0.dE D).length ≤ c ∧ Below W.heap.size W w') := fun W e w' h => h
  clear hR hQ hK hO hS hZ hrs hD
  rcases hcase with ⟨gI, hp⟩ | ⟨gI, g2, hp, hE⟩ | ⟨gI, g2, hp, hE⟩
  · rw [gI] at hA
    clear gI hgot hgd
    go_enter Try.func57, Try.ntmps57
    go_wp2_with (first
      | (go_at_call 65; refine (L1.impl_RecAt _ _).mono ?_; rintro e wq ⟨rfl, rfl⟩)
      | (go_at_call 54; refine (hpt.out _).mono ?_; rintro e w1 ⟨rfl, b1⟩)
      | (go_at_call 76; refine (hG.out _).mono ?_; intro e w2 hans; obtain ⟨a, c, rfl, ho, hc, b2⟩ := hA.out _ _ _ hans; clear hans; have p2 := nd_new (k := K) (o := O) (t := S) (a := a) (n := Z.length) (c := c) (b1.trans (b2.mono b1.size)); have y0 := p2.nb.c0; have y1 := p2.nb.c1; have y2 := p2.nb.c2; have y3 := p2.nb.c3; obtain ⟨i0, i1, i2, i3, i4, i5⟩ := cells6 p2.res; obtain ⟨j0, j1, j2, j3, j4, j5⟩ := free6 p2.res))
    have q := put6 p2.res (.int .i64 0) (.int .i64 0) (.int .i64 0) (.slice none 0 0) (.string ⟨#[]⟩) (.slice none 0 0)
    obtain ⟨u0, u1, u2, u3, u4, u5⟩ := cells6 q
    exact bodyPost_ret (v := .tuple #[nv 0 0 0 none 0 0 ⟨#[]⟩ none 0 0, .bool false]) (by simp [results, Try.results57, go_sem, u0, u1, u2, u3, u4, u5]) rfl (HN.out _ _ _ _ _ _ _ _ _ _ _ hp (bel6 p2.bel (Nat.le_refl _) (.int .i64 0) (.int .i64 0) (.int .i64 0) (.slice none 0 0) (.string ⟨#[]⟩) (.slice none 0 0)))
  · obtain ⟨⟨s0, s1⟩, zl, s2, hpk, -⟩ := hgot gI
    rw [gI] at hA
    rw [hE] at HY
    clear gI hgot hgd hE
    have hds : Hid (∀ W c a, P0.Row W a Z → Calls Try.prog 77 #[.string mem, I0.val K O S a Z.length c] W fun e w' => e = .returned (.string D) ∧ Below W.heap.size W w') := fun W c a h => by rw [hdat]; exact O1.dataOf mem K O S a c Z W hm hpk zl s0 s2 h
    clear hdat
    go_enter Try.func57, Try.ntmps57
    go_wp2_with (first
      | (go_at_call 65; refine (L1.impl_RecAt _ _).mono ?_; rintro e wq ⟨rfl, rfl⟩)
      | (go_at_call 54; refine (hpt.out _).mono ?_; rintro e w1 ⟨rfl, b1⟩)
      | (go_at_call 76; refine (hG.out _).mono ?_; intro e w2 hans; obtain ⟨a, c, rfl, ho, hc, b2⟩ := hA.out _ _ _ hans; clear hans; have p2 := nd_new (k := K) (o := O) (t := S) (a := a) (n := Z.length) (c := c) (b1.trans (b2.mono b1.size)); have y0 := p2.nb.c0; have y1 := p2.nb.c1; have y2 := p2.nb.c2; have y3 := p2.nb.c3; have r2 := ho.row.alloc (.cells #[.int .i64 K, .int .i64 O, .int .i64 S, .slice a Z.length c] 45)))
    have bd : Below (w2.alloc (.cells #[.int .i64 K, .int .i64 O, .int .i64 S, .slice a Z.length c] 45)).heap.size (w2.alloc (.cells #[.int .i64 K, .int .i64 O, .int .i64 S, .slice a Z.length c] 45)) (w2.alloc (.cells #[.int .i64 K, .int .i64 O, .int .i64 S, .slice a Z.length c] 45)).drew := (Below.refl _ _).drew
    have p3 := p2.below bd
    have r3 := r2.below bd
    have o3 := (ho.alloc (.cells #[.int .i64 K, .int .i64 O, .int .i64 S, .slice a Z.length c] 45)).below bd
    have hbz := b1.size
    clear bd
    go_region_with ((go_at_call 77; refine (hds.out _ _ _ r3).mono ?_; rintro e w4 ⟨rfl, b4⟩; have p4 := p3.below b4; have o4 := o3.below b4; have z0 := p4.nb.c0; have z1 := p4.nb.c1; have z2 := p4.nb.c2; have z3 := p4.nb.c3; obtain ⟨i0, i1, i2, i3, i4, i5⟩ := cells6 p4.res; obtain ⟨j0, j1, j2, j3, j4, j5⟩ := free6 p4.res))
    all_goals
      have q := put6 p4.res (.int .i64 K) (.int .i64 O) (.int .i64 S) (.slice a Z.length c) (.string D) (.slice none 0 0)
      obtain ⟨u0, u1, u2, u3, u4, u5⟩ := cells6 q
      go_wp2
      refine bodyPost_ret (v := .tuple #[nv K O S a Z.length c D none 0 0, .bool true]) (by simp [results, Try.results57, go_sem, u0, u1, u2, u3, u4, u5]) rfl (HY.out _ _ _ _ _ _ _ hp (bel6 p4.bel (Nat.le_refl _) _ _ _ _ _ _) hc ?_ (Nat.le_refl _) (Or.inl rfl))
      exact (own6 o4 (by simp at hbz; omega) _ _ _ _ _ _).mono (by simp at hbz; omega)
  · obtain ⟨⟨s0, s1⟩, zl, s2, hpk, -⟩ := hgot gI
    rw [gI] at hA
    rw [hE] at HY
    have HP : Hid (nodeOk mem i = V0.isD D) := hp
    clear gI hgot hE hp
    have hds : Hid (∀ W c a, P0.Row W a Z → Calls Try.prog 77 #[.string mem, I0.val K O S a Z.length c] W fun e w' => e = .returned (.string D) ∧ Below W.heap.size W w') := fun W c a h => by rw [hdat]; exact O1.dataOf mem K O S a c Z W hm hpk zl s0 s2 h
    clear hdat
    go_enter Try.func57, Try.ntmps57
    go_wp2_with (first
      | (go_at_call 65; refine (L1.impl_RecAt _ _).mono ?_; rintro e wq ⟨rfl, rfl⟩)
      | (go_at_call 54; refine (hpt.out _).mono ?_; rintro e w1 ⟨rfl, b1⟩)
      | (go_at_call 76; refine (hG.out _).mono ?_; intro e w2 hans; obtain ⟨a, c, rfl, ho, hc, b2⟩ := hA.out _ _ _ hans; clear hans; have p2 := nd_new (k := K) (o := O) (t := S) (a := a) (n := Z.length) (c := c) (b1.trans (b2.mono b1.size)); have y0 := p2.nb.c0; have y1 := p2.nb.c1; have y2 := p2.nb.c2; have y3 := p2.nb.c3; have r2 := ho.row.alloc (.cells #[.int .i64 K, .int .i64 O, .int .i64 S, .slice a Z.length c] 45); have o2 := ho.alloc (.cells #[.int .i64 K, .int .i64 O, .int .i64 S, .slice a Z.length c] 45))
      | (go_at_call 77; refine (hds.out _ _ _ r2).mono ?_; rintro e w3 ⟨rfl, b3⟩; have p3 := p2.below b3; have o3 := o2.below b3)
      | (go_at_call 78; refine (hgd.out _).mono ?_; intro e w4 hans; obtain ⟨ae, ce, rfl, hoe, hce, b4⟩ := HD.out _ _ _ hans; clear hans; have p4 := p3.below b4; have o4 := o3.below b4; have z0 := p4.nb.c0; have z1 := p4.nb.c1; have z2 := p4.nb.c2; have z3 := p4.nb.c3; obtain ⟨i0, i1, i2, i3, i4, i5⟩ := cells6 p4.res; obtain ⟨j0, j1, j2, j3, j4, j5⟩ := free6 p4.res))
    have q := put6 p4.res (.int .i64 K) (.int .i64 O) (.int .i64 S) (.slice a Z.length c) (.string ⟨#[]⟩) (.slice ae (V0.dE D).length ce)
    obtain ⟨u0, u1, u2, u3, u4, u5⟩ := cells6 q
    have hbl := bel6 p4.bel (Nat.le_refl _) (.int .i64 K) (.int .i64 O) (.int .i64 S) (.slice a Z.length c) (.string ⟨#[]⟩) (.slice ae (V0.dE D).length ce)
    have hbz := b1.size
    have hp3 := p3.res.lt
    refine bodyPost_ret (v := .tuple #[nv K O S a Z.length c ⟨#[]⟩ ae (V0.dE D).length ce, .bool (V0.isD D)]) (by simp [results, Try.results57, go_sem, u0, u1, u2, u3, u4, u5]) rfl ?_
    cases hI : V0.isD D with
    | false => exact HN.out _ _ _ _ _ _ _ _ _ _ _ (HP.out.trans hI) hbl
    | true =>
      refine HY.out _ _ _ _ _ _ _ (HP.out.trans hI) hbl hc ?_ hce ?_
      · exact (own6 o4 (by simp at hbz; omega) _ _ _ _ _ _).mono (by simp at hbz; omega)
      · exact (ownE6 hoe hp3 _ _ _ _ _ _).mono (Nat.le_of_lt hp3)
end Go.Proofs.Ytddlpejklpljoaa.D1

/- The contract of impl.readNode once more, with the bytes that a file holds. -/
namespace Go.Proofs.Ytddlpejklpljoaa.D1
open Go.ChangeShapes Go.WideShapes Go.ChangeAt Go.RowKit
set_option linter.unusedVariables false
set_option linter.unusedSimpArgs false
set_option maxRecDepth 10000

variable {w W W' : World} {B : Nat} {a : Option Addr}
/-- The bytes that a node holds: a file's. -/
def nodeD (mem : ByteArray) (i : Int) : ByteArray := if G0.gK (O0.recd mem i) = 2 then ⟨#[]⟩ else data mem i

/-- What readNode answers. -/
def Ans2 (mem : ByteArray) (i : Int) (w : World) (e : Ending) (w' : World) : Prop :=
  ∃ (k o t : Int) (a : Option Addr) (n c : Nat) (x : ByteArray) (ae : Option Addr) (ne ce : Nat), e = .returned (.tuple #[nv k o t a n c x ae ne ce, .bool (nodeOk mem i)]) ∧ Below w.heap.size w w' ∧
    (nodeOk mem i = true → k = G0.gK (O0.recd mem i) ∧ o = G0.gO (O0.recd mem i) ∧ n = (G0.gZ (O0.recd mem i)).length ∧ n ≤ c ∧ J0.Own w.heap.size w' a (G0.gZ (O0.recd mem i)) ∧ ne = (nodeE mem i).length ∧ ne ≤ ce ∧ V1.OwnE w.heap.size w' ae (nodeE mem i) ∧ x = nodeD mem i)

theorem ans2_no {mem : ByteArray} {i : Int} {w w' : World} {k o t : Int} {a : Option Addr} {n c : Nat} {x : ByteArray} {ae : Option Addr} {ne ce : Nat} (h : nodeOk mem i = false) (hb : Below w.heap.size w w') : Ans2 mem i w (.returned (.tuple #[nv k o t a n c x ae ne ce, .bool false])) w' :=
  ⟨k, o, t, a, n, c, x, ae, ne, ce, by rw [h], hb, fun h' => by rw [h] at h'; cases h'⟩
theorem ans2_yes {mem : ByteArray} {i : Int} {w w' : World} {t : Int} {a : Option Addr} {c : Nat} {x : ByteArray} {ae : Option Addr} {ce : Nat} (h : nodeOk mem i = true) (hb : Below w.heap.size w w') (hc : (G0.gZ (O0.recd mem i)).length ≤ c) (ho : J0.Own w.heap.size w' a (G0.gZ (O0.recd mem i))) (hce : (nodeE mem i).length ≤ ce) (hoe : V1.OwnE w.heap.size w' ae (nodeE mem i)) (hx : x = nodeD mem i) :
    Ans2 mem i w (.returned (.tuple #[nv (G0.gK (O0.recd mem i)) (G0.gO (O0.recd mem i)) t a (G0.gZ (O0.recd mem i)).length c x ae (nodeE mem i).length ce, .bool true])) w' :=
  ⟨_, _, t, a, _, c, x, ae, _, ce, by rw [h], hb, fun _ => ⟨rfl, rfl, rfl, hc, ho, rfl, hce, hoe, hx⟩⟩

theorem node_data (mem : ByteArray) (i : Int) : ((G0.gK (O0.recd mem i) != 2) = true → nodeD mem i = data mem i) ∧ ((G0.gK (O0.recd mem i) != 2) = false → nodeD mem i = ⟨#[]⟩) := by
  unfold nodeD
  refine ⟨fun h => if_neg (by simpa using h), fun h => if_pos (by simpa using h)⟩

set_option maxHeartbeats 4000000 in
theorem readNode2 (mem : ByteArray) (i : Int) (w : World) (hm : mem.size = 768) : Calls Try.prog 57 #[.string mem, .int .i64 i] w (Ans2 mem i w) := by
  have hms : mem.size ≤ 281474976710656 := by omega
  have hrs := O0.recd_size mem i hms
  have hpt : Hid (∀ W, Calls Try.prog 54 #[.string mem, .int .i64 (L1.recAt i), .int .i64 16] W fun e w' => e = .returned (.string (O0.recd mem i)) ∧ Below W.heap.size W w') := fun W => B2.impl_Part _ _ _ _ hms
  have hG : Hid (∀ W, Calls Try.prog 76 #[.string (O0.recd mem i)] W (G3.Ans (O0.recd mem i) W)) := fun W => G3.impl_GetInode _ W hrs
  have hA : Hid (∀ W e w', G3.Ans (O0.recd mem i) W e w' → ∃ a c, e = .returned (.tuple #[I0.val (G0.gK (O0.recd mem i)) (G0.gO (O0.recd mem i)) (G0.gS (O0.recd mem i)) a (G0.gZ (O0.recd mem i)).length c, .bool (G0.isI (O0.recd mem i))]) ∧ J0.Own W.heap.size w' a (G0.gZ (O0.recd mem i)) ∧ (G0.gZ (O0.recd mem i)).length ≤ c ∧ Below W.heap.size W w') := fun W e w' h => h
  have hgot := fun h => O0.got (s := O0.recd mem i) h
  have HN : Hid (∀ k o t a n c x ae ne ce w', nodeOk mem i = false → Below w.heap.size w w' → Ans2 mem i w (.returned (.tuple #[nv k o t a n c x ae ne ce, .bool false])) w') := fun k o t a n c x ae ne ce w' h hb => ans2_no h hb
  have HY : Hid (∀ t a c x ae ce w', nodeOk mem i = true → Below w.heap.size w w' → (G0.gZ (O0.recd mem i)).length ≤ c → J0.Own w.heap.size w' a (G0.gZ (O0.recd mem i)) → (nodeE mem i).length ≤ ce → V1.OwnE w.heap.size w' ae (nodeE mem i) → x = nodeD mem i → Ans2 mem i w (.returned (.tuple #[nv (G0.gK (O0.recd mem i)) (G0.gO (O0.recd mem i)) t a (G0.gZ (O0.recd mem i)).length c x ae (nodeE mem i).length ce, .bool true])) w') := fun t a c x ae ce w' h hb hc ho hce hoe hx => ans2_yes h hb hc ho hce hoe hx
  have hcase := node_cases mem i
  obtain ⟨hdA, hdB⟩ := node_data mem i
  have hdat : data mem i = (O0.joined mem (G0.gZ (O0.recd mem i)) (G0.gZ (O0.recd mem i)).length).extract 0 (G0.gS (O0.recd mem i)).toNat := rfl
  obtain ⟨R, hR⟩ : ∃ R, Ans2 mem i w = R := ⟨_, rfl⟩
  rw [hR] at HN HY ⊢
  obtain ⟨Q, hQ⟩ : ∃ Q, O0.recd mem i = Q := ⟨_, rfl⟩
  rw [hQ] at hpt hG hA hgot HY hcase hdat hdA hdB
  obtain ⟨D, hD⟩ : ∃ D, data mem i = D := ⟨_, rfl⟩
  rw [hD] at hcase hdat hdA
  obtain ⟨K, hK⟩ : ∃ K, G0.gK Q = K := ⟨_, rfl⟩
  obtain ⟨O, hO⟩ : ∃ O, G0.gO Q = O := ⟨_, rfl⟩
  obtain ⟨S, hS⟩ : ∃ S, G0.gS Q = S := ⟨_, rfl⟩
  obtain ⟨Z, hZ⟩ : ∃ Z, G0.gZ Q = Z := ⟨_, rfl⟩
  rw [hK] at hcase hdA hdB
  rw [hK, hO, hZ] at HY
  rw [hK, hO, hS, hZ] at hA
  rw [hS, hZ] at hdat
  rw [hK, hS, hZ] at hgot
  have hgd : Hid (∀ W, Calls Try.prog 78 #[.string D] W (V1.Ans D W)) := fun W => V2.impl_GetDir _ _ (by rw [← hD]; exact data_le mem i hm)
  have HD : Hid (∀ W e w', V1.Ans D W e w' → ∃ a c, e = .returned (.tuple #[.slice a (V0.dE D).length c, .bool (V0.isD D)]) ∧ V1.OwnE W.heap.size w' a (V0.dE D) ∧ (V0.dE D).length ≤ c ∧ Below W.heap.size W w') := fun W e w' h => h
  clear hR hQ hK hO hS hZ hrs hD
  have HA : Hid ((K != 2) = true → nodeD mem i = D) := hdA
  have HBB : Hid ((K != 2) = false → nodeD mem i = ⟨#[]⟩) := hdB
  clear hdA hdB
  rcases hcase with ⟨gI, hp⟩ | ⟨gI, g2, hp, hE⟩ | ⟨gI, g2, hp, hE⟩
  · rw [gI] at hA
    clear gI hgot hgd
    go_enter Try.func57, Try.ntmps57
    go_wp2_with (first
      | (go_at_call 65; refine (L1.impl_RecAt _ _).mono ?_; rintro e wq ⟨rfl, rfl⟩)
      | (go_at_call 54; refine (hpt.out _).mono ?_; rintro e w1 ⟨rfl, b1⟩)
      | (go_at_call 76; refine (hG.out _).mono ?_; intro e w2 hans; obtain ⟨a, c, rfl, ho, hc, b2⟩ := hA.out _ _ _ hans; clear hans; have p2 := nd_new (k := K) (o := O) (t := S) (a := a) (n := Z.length) (c := c) (b1.trans (b2.mono b1.size)); have y0 := p2.nb.c0; have y1 := p2.nb.c1; have y2 := p2.nb.c2; have y3 := p2.nb.c3; obtain ⟨i0, i1, i2, i3, i4, i5⟩ := cells6 p2.res; obtain ⟨j0, j1, j2, j3, j4, j5⟩ := free6 p2.res))
    have q := put6 p2.res (.int .i64 0) (.int .i64 0) (.int .i64 0) (.slice none 0 0) (.string ⟨#[]⟩) (.slice none 0 0)
    obtain ⟨u0, u1, u2, u3, u4, u5⟩ := cells6 q
    exact bodyPost_ret (v := .tuple #[nv 0 0 0 none 0 0 ⟨#[]⟩ none 0 0, .bool false]) (by simp [results, Try.results57, go_sem, u0, u1, u2, u3, u4, u5]) rfl (HN.out _ _ _ _ _ _ _ _ _ _ _ hp (bel6 p2.bel (Nat.le_refl _) (.int .i64 0) (.int .i64 0) (.int .i64 0) (.slice none 0 0) (.string ⟨#[]⟩) (.slice none 0 0)))
  · obtain ⟨⟨s0, s1⟩, zl, s2, hpk, -⟩ := hgot gI
    rw [gI] at hA
    rw [hE] at HY
    clear gI hgot hgd hE
    have hds : Hid (∀ W c a, P0.Row W a Z → Calls Try.prog 77 #[.string mem, I0.val K O S a Z.length c] W fun e w' => e = .returned (.string D) ∧ Below W.heap.size W w') := fun W c a h => by rw [hdat]; exact O1.dataOf mem K O S a c Z W hm hpk zl s0 s2 h
    clear hdat
    go_enter Try.func57, Try.ntmps57
    go_wp2_with (first
      | (go_at_call 65; refine (L1.impl_RecAt _ _).mono ?_; rintro e wq ⟨rfl, rfl⟩)
      | (go_at_call 54; refine (hpt.out _).mono ?_; rintro e w1 ⟨rfl, b1⟩)
      | (go_at_call 76; refine (hG.out _).mono ?_; intro e w2 hans; obtain ⟨a, c, rfl, ho, hc, b2⟩ := hA.out _ _ _ hans; clear hans; have p2 := nd_new (k := K) (o := O) (t := S) (a := a) (n := Z.length) (c := c) (b1.trans (b2.mono b1.size)); have y0 := p2.nb.c0; have y1 := p2.nb.c1; have y2 := p2.nb.c2; have y3 := p2.nb.c3; have r2 := ho.row.alloc (.cells #[.int .i64 K, .int .i64 O, .int .i64 S, .slice a Z.length c] 45)))
    have bd : Below (w2.alloc (.cells #[.int .i64 K, .int .i64 O, .int .i64 S, .slice a Z.length c] 45)).heap.size (w2.alloc (.cells #[.int .i64 K, .int .i64 O, .int .i64 S, .slice a Z.length c] 45)) (w2.alloc (.cells #[.int .i64 K, .int .i64 O, .int .i64 S, .slice a Z.length c] 45)).drew := (Below.refl _ _).drew
    have p3 := p2.below bd
    have r3 := r2.below bd
    have o3 := (ho.alloc (.cells #[.int .i64 K, .int .i64 O, .int .i64 S, .slice a Z.length c] 45)).below bd
    have hbz := b1.size
    clear bd
    go_region_with ((go_at_call 77; refine (hds.out _ _ _ r3).mono ?_; rintro e w4 ⟨rfl, b4⟩; have p4 := p3.below b4; have o4 := o3.below b4; have z0 := p4.nb.c0; have z1 := p4.nb.c1; have z2 := p4.nb.c2; have z3 := p4.nb.c3; obtain ⟨i0, i1, i2, i3, i4, i5⟩ := cells6 p4.res; obtain ⟨j0, j1, j2, j3, j4, j5⟩ := free6 p4.res))
    all_goals
      have q := put6 p4.res (.int .i64 K) (.int .i64 O) (.int .i64 S) (.slice a Z.length c) (.string D) (.slice none 0 0)
      obtain ⟨u0, u1, u2, u3, u4, u5⟩ := cells6 q
      go_wp2
      refine bodyPost_ret (v := .tuple #[nv K O S a Z.length c D none 0 0, .bool true]) (by simp [results, Try.results57, go_sem, u0, u1, u2, u3, u4, u5]) rfl (HY.out _ _ _ _ _ _ _ hp (bel6 p4.bel (Nat.le_refl _) _ _ _ _ _ _) hc ?_ (Nat.le_refl _) (Or.inl rfl) (HA.out g2).symm)
      exact (own6 o4 (by simp at hbz; omega) _ _ _ _ _ _).mono (by simp at hbz; omega)
  · obtain ⟨⟨s0, s1⟩, zl, s2, hpk, -⟩ := hgot gI
    rw [gI] at hA
    rw [hE] at HY
    have HP : Hid (nodeOk mem i = V0.isD D) := hp
    clear gI hgot hE hp
    have hds : Hid (∀ W c a, P0.Row W a Z → Calls Try.prog 77 #[.string mem, I0.val K O S a Z.length c] W fun e w' => e = .returned (.string D) ∧ Below W.heap.size W w') := fun W c a h => by rw [hdat]; exact O1.dataOf mem K O S a c Z W hm hpk zl s0 s2 h
    clear hdat
    go_enter Try.func57, Try.ntmps57
    go_wp2_with (first
      | (go_at_call 65; refine (L1.impl_RecAt _ _).mono ?_; rintro e wq ⟨rfl, rfl⟩)
      | (go_at_call 54; refine (hpt.out _).mono ?_; rintro e w1 ⟨rfl, b1⟩)
      | (go_at_call 76; refine (hG.out _).mono ?_; intro e w2 hans; obtain ⟨a, c, rfl, ho, hc, b2⟩ := hA.out _ _ _ hans; clear hans; have p2 := nd_new (k := K) (o := O) (t := S) (a := a) (n := Z.length) (c := c) (b1.trans (b2.mono b1.size)); have y0 := p2.nb.c0; have y1 := p2.nb.c1; have y2 := p2.nb.c2; have y3 := p2.nb.c3; have r2 := ho.row.alloc (.cells #[.int .i64 K, .int .i64 O, .int .i64 S, .slice a Z.length c] 45); have o2 := ho.alloc (.cells #[.int .i64 K, .int .i64 O, .int .i64 S, .slice a Z.length c] 45))
      | (go_at_call 77; refine (hds.out _ _ _ r2).mono ?_; rintro e w3 ⟨rfl, b3⟩; have p3 := p2.below b3; have o3 := o2.below b3)
      | (go_at_call 78; refine (hgd.out _).mono ?_; intro e w4 hans; obtain ⟨ae, ce, rfl, hoe, hce, b4⟩ := HD.out _ _ _ hans; clear hans; have p4 := p3.below b4; have o4 := o3.below b4; have z0 := p4.nb.c0; have z1 := p4.nb.c1; have z2 := p4.nb.c2; have z3 := p4.nb.c3; obtain ⟨i0, i1, i2, i3, i4, i5⟩ := cells6 p4.res; obtain ⟨j0, j1, j2, j3, j4, j5⟩ := free6 p4.res))
    have q := put6 p4.res (.int .i64 K) (.int .i64 O) (.int .i64 S) (.slice a Z.length c) (.string ⟨#[]⟩) (.slice ae (V0.dE D).length ce)
    obtain ⟨u0, u1, u2, u3, u4, u5⟩ := cells6 q
    have hbl := bel6 p4.bel (Nat.le_refl _) (.int .i64 K) (.int .i64 O) (.int .i64 S) (.slice a Z.length c) (.string ⟨#[]⟩) (.slice ae (V0.dE D).length ce)
    have hbz := b1.size
    have hp3 := p3.res.lt
    refine bodyPost_ret (v := .tuple #[nv K O S a Z.length c ⟨#[]⟩ ae (V0.dE D).length ce, .bool (V0.isD D)]) (by simp [results, Try.results57, go_sem, u0, u1, u2, u3, u4, u5]) rfl ?_
    cases hI : V0.isD D with
    | false => exact HN.out _ _ _ _ _ _ _ _ _ _ _ (HP.out.trans hI) hbl
    | true =>
      refine HY.out _ _ _ _ _ _ _ (HP.out.trans hI) hbl hc ?_ hce ?_ (HBB.out g2).symm
      · exact (own6 o4 (by simp at hbz; omega) _ _ _ _ _ _).mono (by simp at hbz; omega)
      · exact (ownE6 hoe hp3 _ _ _ _ _ _).mono (Nat.le_of_lt hp3)
end Go.Proofs.Ytddlpejklpljoaa.D1

/- A fresh memory; contracts of spec.Format and impl.Format, as the given laws call them. -/
namespace Go.Proofs.Ytddlpejklpljoaa.F4
open Go.ChangeShapes Go.WideShapes Go.ChangeAt Go.RowKit
set_option linter.unusedVariables false
set_option linter.unusedSimpArgs false
set_option maxRecDepth 10000
open I0 (val vals)

theorem laid_size (s : ByteArray) (i : Int) (t : ByteArray) : (B5.laid s i t).size = s.size := by
  unfold B5.laid
  split
  · rename_i h
    obtain ⟨h0, h1, h2⟩ := B2.lies_true h
    rw [ByteArray.size_append, ByteArray.size_append, ByteArray.size_extract, ByteArray.size_extract]
    omega
  · rfl

def head : ByteArray := ⟨#[84, 78, 82, 49]⟩
def page0 : ByteArray := B5.laid (B4.zeros 768) 0 head
def img (o : Int) : ByteArray := B5.laid page0 (L1.recAt 0) (R0.putI 2 o 0 [])
/-- A memory with a directory without entries for inode 0, of that owner. -/
def fmt (o : Int) : ByteArray := if I0.ok 2 o 0 [] then img o else ⟨#[]⟩

theorem zeros_le : (B4.zeros 768).size ≤ 281474976710656 := by
  rw [B4.zeros, if_pos (by decide), B4.nulls_size]
  decide
theorem head_le : head.size ≤ 281474976710656 := show 4 ≤ 281474976710656 by omega

/-- The text that the program has is the head. -/
theorem is_head {t : ByteArray} (ht : t.data.toList.map UInt8.toNat = [84, 78, 82, 49]) : t = head := by
  apply ByteArray.ext
  apply Array.toList_inj.1
  exact (List.map_inj_right (fun _ _ h => UInt8.toNat.inj h)).1 (ht.trans rfl)

theorem page0_le : page0.size ≤ 281474976710656 := by rw [page0, laid_size]; exact zeros_le
theorem putI_le (o : Int) : (R0.putI 2 o 0 []).size ≤ 281474976710656 := Nat.le_trans (R0.putI_size _ _ _ _) (by decide)

structure Fm (w : World) (o : Int) (W : World) : Prop where
  blk : K0.Blk w.heap.size (vals 2 o 0 none 0 0) W
  bel : Below w.heap.size w W

theorem Fm.below {w W W' : World} {o : Int} (h : Fm w o W) (hb : Below W.heap.size W W') : Fm w o W' := ⟨h.blk.below hb, h.bel.trans (hb.mono h.bel.size)⟩
theorem Fm.drewN {w W : World} {o : Int} (h : Fm w o W) (n : Nat) : Fm w o (W.drewN n) := ⟨h.blk.drewN n, K0.below_drewN h.bel n⟩

theorem Fm.four {w W : World} {o : Int} (h : Fm w o W) : W.cell? ⟨w.heap.size, 0, none⟩ = some (.int .i64 2) ∧ W.cell? ⟨w.heap.size, 1, none⟩ = some (.int .i64 o) ∧ W.cell? ⟨w.heap.size, 2, none⟩ = some (.int .i64 0) ∧ W.cell? ⟨w.heap.size, 3, none⟩ = some (.slice none 0 0) := ⟨h.blk.c0, h.blk.c1, h.blk.c2, h.blk.c3⟩

end Go.Proofs.Ytddlpejklpljoaa.F4
