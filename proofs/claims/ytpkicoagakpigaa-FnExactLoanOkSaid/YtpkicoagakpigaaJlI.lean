/- Joined texts: plain facts and contracts, as each part says. -/
import Derived.Test.YtpkicoagakpigaaJlH
import Derived.Test.YtpkicoagakpigaaJlD

/- The contract of spec.LoanOk, as the given laws call it: the walk. -/
namespace Go.Proofs.Ytpkicoagakpigaa.N11
open Go.ChangeShapes Go.WideShapes Go.ChangeAt Go.RowKit
set_option linter.unusedVariables false
set_option linter.unusedSimpArgs false
set_option maxRecDepth 10000

open N0 (Ln)
open N1 (Sl Lists Fit LB lb_new)
open N10 (SP sp_new first_cases last_cases)
open P1 (ret_bool quiet_bool)

theorem wf_of (n : Int) (h0 : -9223372036854775808 ≤ n) (h1 : n ≤ 9223372036854775807) : (Lit.int .i64 n).wf = true := by
  simp [Lit.wf, IntKind.min, IntKind.max, IntKind.signed, IntKind.bits]
  omega

set_option maxHeartbeats 4000000 in
theorem spec_LoanOk (d : Ln) (s : Sl) (w : World) (hF : Fit d s) (hpo : d.po.length ≤ 1048576) (hfr : d.fr.length ≤ 1048576) (hR : Lists w d s) :
    Calls Try.prog 33 #[N1.val d s] w fun e w' => e = .returned (.bool (N0.loanOk d)) ∧ Below w.heap.size w w' := by
  have hG : Hid (∀ W, Calls Try.prog 16 #[.string d.rc] W (G3.Ans d.rc W)) := fun W => G4.spec_GetInode d.rc W hF.m4
  have HL : Hid (∀ W, Below w.heap.size w W → Lists W d s) := fun W hb => hR.below hb
  have hpl : d.pg.length ≤ 281474976710656 := Nat.le_trans hF.l1 hF.m1
  have hsl := hF.m5
  have hsm : d.sav.size ≤ maxLen := by unfold maxLen; omega
  have hA : Hid (∀ W e w', G3.Ans d.rc W e w' → ∃ a c, e = .returned (.tuple #[I0.val (G0.gK d.rc) (G0.gO d.rc) (G0.gS d.rc) a (G0.gZ d.rc).length c, .bool (G0.isI d.rc)]) ∧ J0.Own W.heap.size w' a (G0.gZ d.rc) ∧ (G0.gZ d.rc).length ≤ c ∧ Below W.heap.size W w') := fun W e w' h => h
  have hzl : (G0.gZ d.rc).length ≤ 281474976710656 := by
    unfold G0.gZ
    split
    · rw [G0.pgs_length]; have := G0.cnt_le d.rc; omega
    · exact Nat.zero_le _
  have hsb : G0.isI d.rc = true → -9223372036854775808 ≤ G0.gS d.rc ∧ G0.gS d.rc ≤ 9223372036854775807 := fun h => by have := O0.got h; omega
  have hcase := first_cases d
  have hD0 : N0.sDir d = (!decide (G0.gK d.rc = 2) || V0.isD (B2.part d.sav 0 (G0.gS d.rc))) := rfl
  have hlast := last_cases d (G0.gK d.rc) rfl
  have hgd : Hid (∀ W, Calls Try.prog 82 #[.string (B2.part d.sav 0 (G0.gS d.rc))] W (V1.Ans (B2.part d.sav 0 (G0.gS d.rc)) W)) := fun W => V3.spec_GetDir _ _ (Nat.le_trans (B2.part_size _ _ _) hF.m5)
  obtain ⟨K, hK⟩ : ∃ K, G0.gK d.rc = K := ⟨_, rfl⟩
  obtain ⟨O, hO⟩ : ∃ O, G0.gO d.rc = O := ⟨_, rfl⟩
  obtain ⟨S, hS⟩ : ∃ S, G0.gS d.rc = S := ⟨_, rfl⟩
  obtain ⟨Z, hZ⟩ : ∃ Z, G0.gZ d.rc = Z := ⟨_, rfl⟩
  rw [hK, hZ] at hcase
  rw [hK] at hlast
  rw [hK, hO, hS, hZ] at hA
  rw [hZ] at hzl
  rw [hS] at hsb hgd
  rw [hS, hK] at hD0
  have hpt : Hid (G0.isI d.rc = true → ∀ W, Calls Try.prog 70 #[.string d.sav, .int .i64 0, .int .i64 S] W fun e w' => e = .returned (.string (B2.part d.sav 0 S)) ∧ w' = W) := fun h W => B2.spec_Part _ _ _ _ hsm (by decide) (wf_of _ (hsb h).1 (hsb h).2)
  obtain ⟨P, hP⟩ : ∃ P, B2.part d.sav 0 S = P := ⟨_, rfl⟩
  rw [hP] at hgd hD0 hpt
  have HD : Hid (∀ W e w', V1.Ans P W e w' → ∃ a c, e = .returned (.tuple #[.slice a (V0.dE P).length c, .bool (V0.isD P)]) ∧ Below W.heap.size W w') := fun W e w' ⟨a, c, he, _, _, hb⟩ => ⟨a, c, he, hb⟩
  clear hK hO hS hZ hP hR hF hsb hsm
  rcases hcase with ⟨gI, hp⟩ | ⟨gI, g0, hp⟩ | ⟨gI, g0, g1, hp⟩ | ⟨gI, g0, g1, g2, hp⟩ | ⟨gI, g0, g1, g2, g3, hp⟩ | ⟨gI, g0, g1, g2, g3, gz, hp⟩ | ⟨gI, g0, g1, g2, g3, gz, gs, hp⟩ | ⟨gI, g0, g1, g2, g3, gz, gs, hp⟩
  · rw [gI] at hA
    rw [N10.sOk_first hp]
    clear gI hlast hD0 hp hpt hgd HD
    go_enter Try.func33, Try.ntmps33
    go_wp2_with (first
      | (go_at_call 16; refine (hG.out _).mono ?_; intro e w1 hans; obtain ⟨a, c, rfl, ho, hc, b1⟩ := hA.out _ _ _ hans; clear hans; have p1 := sp_new (k := K) (o := O) (t := S) (a := a) (n := Z.length) (c := c) b1; have x0 := p1.nb.c0; have x3 := p1.nb.c3; have c0 := p1.arg.c0; have c1 := p1.arg.c1; have c2 := p1.arg.c2; have c4 := p1.arg.c4; have c5 := p1.arg.c5; have r1 := ho.row.alloc (.cells #[.int .i64 K, .int .i64 O, .int .i64 S, .slice a Z.length c] 26); have r2 := (HL.out _ p1.bel).r1)
      | (go_at_call 76; refine (B1.l01In_any _ _ _ _).mono ?_; rintro e w' ⟨rfl, rfl⟩))
    go_ret
    exact ⟨rfl, p1.bel⟩
  · rw [gI] at hA
    rw [N10.sOk_first hp]
    clear gI hlast hD0 hp hpt hgd HD
    go_enter Try.func33, Try.ntmps33
    go_wp2_with (first
      | (go_at_call 16; refine (hG.out _).mono ?_; intro e w1 hans; obtain ⟨a, c, rfl, ho, hc, b1⟩ := hA.out _ _ _ hans; clear hans; have p1 := sp_new (k := K) (o := O) (t := S) (a := a) (n := Z.length) (c := c) b1; have x0 := p1.nb.c0; have x3 := p1.nb.c3; have c0 := p1.arg.c0; have c1 := p1.arg.c1; have c2 := p1.arg.c2; have c4 := p1.arg.c4; have c5 := p1.arg.c5; have r1 := ho.row.alloc (.cells #[.int .i64 K, .int .i64 O, .int .i64 S, .slice a Z.length c] 26); have r2 := (HL.out _ p1.bel).r1)
      | (go_at_call 76; refine (B1.l01In_any _ _ _ _).mono ?_; rintro e w' ⟨rfl, rfl⟩))
    go_ret
    exact ⟨rfl, p1.bel⟩
  · rw [gI] at hA
    rw [N10.sOk_first hp]
    clear gI hlast hD0 hp hpt hgd HD
    go_enter Try.func33, Try.ntmps33
    go_wp2_with (first
      | (go_at_call 16; refine (hG.out _).mono ?_; intro e w1 hans; obtain ⟨a, c, rfl, ho, hc, b1⟩ := hA.out _ _ _ hans; clear hans; have p1 := sp_new (k := K) (o := O) (t := S) (a := a) (n := Z.length) (c := c) b1; have x0 := p1.nb.c0; have x3 := p1.nb.c3; have c0 := p1.arg.c0; have c1 := p1.arg.c1; have c2 := p1.arg.c2; have c4 := p1.arg.c4; have c5 := p1.arg.c5; have r1 := ho.row.alloc (.cells #[.int .i64 K, .int .i64 O, .int .i64 S, .slice a Z.length c] 26); have r2 := (HL.out _ p1.bel).r1)
      | (go_at_call 76; refine (B1.l01In_any _ _ _ _).mono ?_; rintro e w' ⟨rfl, rfl⟩))
    go_ret
    exact ⟨rfl, p1.bel⟩
  · rw [gI] at hA
    rw [N10.sOk_first hp]
    clear gI hlast hD0 hp hpt hgd HD
    go_enter Try.func33, Try.ntmps33
    go_wp2_with (first
      | (go_at_call 16; refine (hG.out _).mono ?_; intro e w1 hans; obtain ⟨a, c, rfl, ho, hc, b1⟩ := hA.out _ _ _ hans; clear hans; have p1 := sp_new (k := K) (o := O) (t := S) (a := a) (n := Z.length) (c := c) b1; have x0 := p1.nb.c0; have x3 := p1.nb.c3; have c0 := p1.arg.c0; have c1 := p1.arg.c1; have c2 := p1.arg.c2; have c4 := p1.arg.c4; have c5 := p1.arg.c5; have r1 := ho.row.alloc (.cells #[.int .i64 K, .int .i64 O, .int .i64 S, .slice a Z.length c] 26); have r2 := (HL.out _ p1.bel).r1)
      | (go_at_call 76; refine (B1.l01In_any _ _ _ _).mono ?_; rintro e w' ⟨rfl, rfl⟩))
    go_ret
    exact ⟨rfl, p1.bel⟩
  · rw [gI] at hA
    rw [N10.sOk_first hp]
    clear gI hlast hD0 hp hpt hgd HD
    go_enter Try.func33, Try.ntmps33
    go_wp2_with (first
      | (go_at_call 16; refine (hG.out _).mono ?_; intro e w1 hans; obtain ⟨a, c, rfl, ho, hc, b1⟩ := hA.out _ _ _ hans; clear hans; have p1 := sp_new (k := K) (o := O) (t := S) (a := a) (n := Z.length) (c := c) b1; have x0 := p1.nb.c0; have x3 := p1.nb.c3; have c0 := p1.arg.c0; have c1 := p1.arg.c1; have c2 := p1.arg.c2; have c4 := p1.arg.c4; have c5 := p1.arg.c5; have r1 := ho.row.alloc (.cells #[.int .i64 K, .int .i64 O, .int .i64 S, .slice a Z.length c] 26); have r2 := (HL.out _ p1.bel).r1)
      | (go_at_call 76; refine (B1.l01In_any _ _ _ _).mono ?_; rintro e w' ⟨rfl, rfl⟩))
    go_ret
    exact ⟨rfl, p1.bel⟩
  · rw [gI] at hA
    rw [N10.sOk_first hp]
    clear gI hlast hD0 hp hpt hgd HD
    go_enter Try.func33, Try.ntmps33
    go_wp2_with (first
      | (go_at_call 16; refine (hG.out _).mono ?_; intro e w1 hans; obtain ⟨a, c, rfl, ho, hc, b1⟩ := hA.out _ _ _ hans; clear hans; have p1 := sp_new (k := K) (o := O) (t := S) (a := a) (n := Z.length) (c := c) b1; have x0 := p1.nb.c0; have x3 := p1.nb.c3; have c0 := p1.arg.c0; have c1 := p1.arg.c1; have c2 := p1.arg.c2; have c4 := p1.arg.c4; have c5 := p1.arg.c5; have r1 := ho.row.alloc (.cells #[.int .i64 K, .int .i64 O, .int .i64 S, .slice a Z.length c] 26); have r2 := (HL.out _ p1.bel).r1)
      | (go_at_call 76; refine (B1.l01In_any _ _ _ _).mono ?_; rintro e w' ⟨rfl, rfl⟩)
      | (go_at_call 80; refine (N2.same _ _ _ _ _ _ _ hzl hpl r1 r2).mono ?_; rintro e w2 ⟨rfl, m, rfl⟩))
    go_ret
    exact ⟨rfl, (p1.drewN m).bel⟩
  · rw [gI] at hA
    rw [N10.sOk_first hp]
    clear gI hlast hD0 hp hpt hgd HD
    go_enter Try.func33, Try.ntmps33
    go_wp2_with (first
      | (go_at_call 16; refine (hG.out _).mono ?_; intro e w1 hans; obtain ⟨a, c, rfl, ho, hc, b1⟩ := hA.out _ _ _ hans; clear hans; have p1 := sp_new (k := K) (o := O) (t := S) (a := a) (n := Z.length) (c := c) b1; have x0 := p1.nb.c0; have x3 := p1.nb.c3; have c0 := p1.arg.c0; have c1 := p1.arg.c1; have c2 := p1.arg.c2; have c4 := p1.arg.c4; have c5 := p1.arg.c5; have r1 := ho.row.alloc (.cells #[.int .i64 K, .int .i64 O, .int .i64 S, .slice a Z.length c] 26); have r2 := (HL.out _ p1.bel).r1)
      | (go_at_call 76; refine (B1.l01In_any _ _ _ _).mono ?_; rintro e w' ⟨rfl, rfl⟩)
      | (go_at_call 80; refine (N2.same _ _ _ _ _ _ _ hzl hpl r1 r2).mono ?_; rintro e w2 ⟨rfl, m, rfl⟩))
    go_ret
    exact ⟨rfl, (p1.drewN m).bel⟩
  · rw [gI] at hA
    replace hpt : Hid (∀ W, Calls Try.prog 70 #[.string d.sav, .int .i64 0, .int .i64 S] W fun e w' => e = .returned (.string P) ∧ w' = W) := hpt.out gI
    clear gI
    have HF1 : Hid (N0.sFirst d = true) := hp
    have HD0 : Hid (N0.sDir d = (!decide (K = 2) || V0.isD P)) := hD0
    have HLast := hlast
    have hpo' : d.po.length ≤ 281474976710656 := by omega
    have hfr' : d.fr.length ≤ 281474976710656 := by omega
    obtain ⟨RV, hRV⟩ : ∃ RV, N0.loanOk d = RV := ⟨_, rfl⟩
    have HNo1 : Hid (N0.apart d.pg d.po = false → false = RV) := fun h => by rw [← hRV, N10.sOk_ap h]
    have HNo2 : Hid (N0.sDir d = false → false = RV) := fun h => by rw [← hRV, N10.sOk_dir h]
    have HYes : Hid (N0.apart d.pg d.po = true → N0.sDir d = true → N0.sLast d = RV) := fun h1 h2 => by rw [← hRV, N10.sOk_last HF1.out h1 h2]
    rw [hRV]
    clear hp hD0 hlast hRV
    go_enter Try.func33, Try.ntmps33
    go_wp2_with (first
      | (go_at_call 16; refine (hG.out _).mono ?_; intro e w1 hans; obtain ⟨a, c, rfl, ho, hc, b1⟩ := hA.out _ _ _ hans; clear hans; have p1 := sp_new (k := K) (o := O) (t := S) (a := a) (n := Z.length) (c := c) b1; have x0 := p1.nb.c0; have x3 := p1.nb.c3; have c0 := p1.arg.c0; have c1 := p1.arg.c1; have c2 := p1.arg.c2; have c4 := p1.arg.c4; have c5 := p1.arg.c5; have r1 := ho.row.alloc (.cells #[.int .i64 K, .int .i64 O, .int .i64 S, .slice a Z.length c] 26); have r2 := (HL.out _ p1.bel).r1)
      | (go_at_call 76; refine (B1.l01In_any _ _ _ _).mono ?_; rintro e w' ⟨rfl, rfl⟩)
      | (go_at_call 80; refine (N2.same _ _ _ _ _ _ _ hzl hpl r1 r2).mono ?_; rintro e w2 ⟨rfl, m, rfl⟩))
    have p2 := p1.drewN m
    obtain ⟨V, hV⟩ : ∃ V, (w1.alloc (.cells #[.int .i64 K, .int .i64 O, .int .i64 S, .slice a Z.length c] 26)).drewN m = V := ⟨_, rfl⟩
    rw [hV] at p2 ⊢
    clear hV p1 x0 x3 c0 c1 c2 c4 c5 r1 r2 ho b1 g0 g1 g2 g3 gz gs
    go_loopw [5] (fun i w' => ∃ j n : Nat, j ≤ d.po.length ∧ N0.to (N0.apAt d.pg d.po) j = true ∧ i = .int .i64 j ∧ w' = V.drewN n) (fun i _ => d.po.length - (intOf i).toNat)
    case atStart => exact ⟨0, 0, Nat.zero_le _, rfl, rfl, rfl⟩
    case round =>
      obtain ⟨j, n, hj, hok, rfl, hW⟩ := hrel
      have HW : Hid (∀ m, ∃ m', wr.drewN m = V.drewN m') := fun m => ⟨n + m, by rw [hW, World.drewN_drewN]⟩
      have pw : SP w d s K O S a Z.length c w1.heap.size wr := by rw [hW]; exact p2.drewN n
      have c4 := pw.arg.c4
      have c6 := pw.arg.c6
      have HWB : Hid (∀ m, Below w.heap.size w (wr.drewN m)) := fun m => K0.below_drewN pw.bel m
      by_cases hlt : j < d.po.length
      · obtain ⟨b, off, hab, hb, hcell⟩ := (HL.out _ pw.bel).r2.get hlt
        have hH : Hid (∀ m x, Calls Try.prog 81 #[.slice s.a1 d.pg.length s.c1, .int .i64 x] (wr.drewN m) fun e w' => e = .returned (.bool (P0.has d.pg x)) ∧ w' = wr.drewN m) := fun m x => N2.hasRow s.a1 s.c1 d.pg x _ hpl ((HL.out _ pw.bel).r1.drewN m)
        have x1 := hcell j hlt
        have hat : N0.apAt d.pg d.po j = !(P0.has d.pg (d.po.getD j 0)) := rfl
        obtain ⟨z, ez⟩ : ∃ z, d.po.getD j 0 = z := ⟨_, rfl⟩
        rw [ez] at x1 hat
        rw [hab] at c6
        have e1 : (0 : Int) ≤ (j : Int) := by omega
        have e2 : (j : Int) < (d.po.length : Int) := by omega
        cases h2 : P0.has d.pg z with
        | true =>
          have HR : Hid (false = RV) := HNo1.out (N0.to_bad hlt (by rw [hat, h2]; rfl))
          clear hat hok ez hcell hW pw p2
          go_wp2
          go_quiet ((go_at_call 81; exact quiet_bool (hH.out _ _) h2))
          go_wp2
          go_ret
          exact ⟨ret_bool HR.out, HWB.out _⟩
        | false =>
          have HO : Hid (N0.to (N0.apAt d.pg d.po) (j + 1) = true) := N0.to_step hok (by rw [hat, h2]; rfl)
          clear hat hok ez hcell hW pw p2
          go_wp2
          go_quiet ((go_at_call 81; exact quiet_bool (hH.out _ _) h2))
          go_wp2
          obtain ⟨m', hm'⟩ := HW.out nq
          go_roundw
          case rel => exact ⟨j + 1, m', by omega, HO.out, by go_num, hm'⟩
          case measure => simp [intOf]; omega
      · obtain rfl : j = d.po.length := by omega
        have hap : N0.apart d.pg d.po = true := hok
        have c5 := pw.arg.c5
        have n2 := pw.nb.c2
        have e9 : decide ((d.po.length : Int) < (d.po.length : Int)) = false := by simp
        have hdc : (K == 2) = true ∧ V0.isD P = false ∧ false = RV ∨ (((K == 2) = true ∧ V0.isD P = true) ∨ (K == 2) = false) ∧ N0.sLast d = RV := by
          by_cases h2 : K = 2
          · cases hI : V0.isD P with
            | false => exact Or.inl ⟨by simpa using h2, rfl, HNo2.out (by rw [HD0.out, decide_eq_true h2, hI]; rfl)⟩
            | true => exact Or.inr ⟨Or.inl ⟨by simpa using h2, rfl⟩, HYes.out hap (by rw [HD0.out, hI, Bool.or_true])⟩
          · exact Or.inr ⟨Or.inr (by simpa using h2), HYes.out hap (by rw [HD0.out, decide_eq_false h2]; rfl)⟩
        clear hok hW p2 HW HWB hap HNo1 HNo2 HYes HD0 c4
        rcases hdc with ⟨hk2, hDf, HR0⟩ | ⟨hk2, HR0⟩
        · have HR : Hid (false = RV) := HR0
          clear HR0
          go_wp2_with (first
            | (go_at_call 70; refine (hpt.out _).mono ?_; rintro e w4 ⟨rfl, rfl⟩)
            | (go_at_call 82; refine (hgd.out _).mono ?_; intro e w5 hans; obtain ⟨ae, ce, rfl, b5⟩ := HD.out _ _ _ hans; clear hans; have p5 := pw.below b5; have k0 := p5.nb.c0; have y0 := p5.arg.c0; have y6 := p5.arg.c6; have y7 := p5.arg.c7))
          go_ret
          exact ⟨ret_bool HR.out, p5.bel⟩
        · have HR : Hid (N0.sLast d = RV) := HR0
          clear HR0
          rcases HLast with ⟨u1, hl⟩ | ⟨u1, u2, hl⟩ | ⟨u1, u2, u3, hl⟩ | ⟨u1, u2, u3, u4, hl⟩ | ⟨u1, u2, u3, u4, u5, hl⟩ | ⟨u1, u2, u3, u4, u5, u6, hl⟩ | ⟨u1, u2, u3, u4, u5, u6, hl⟩
          all_goals
            have HQ : Hid (_ = RV) := hl.symm.trans HR.out
            clear hl HR
            rcases hk2 with ⟨v1, v2⟩ | v1
          all_goals first
            | (exact absurd (v1.symm.trans u6) (by decide))
            | (go_wp2_with (first
                | (go_at_call 70; refine (hpt.out _).mono ?_; rintro e w4 ⟨rfl, rfl⟩)
                | (go_at_call 82; refine (hgd.out _).mono ?_; intro e w5 hans; obtain ⟨ae, ce, rfl, b5⟩ := HD.out _ _ _ hans; clear hans; have p5 := pw.below b5; have k0 := p5.nb.c0; have y0 := p5.arg.c0; have y6 := p5.arg.c6; have y7 := p5.arg.c7)
                | (go_at_call 83; have m6' := m6; refine (N2.l05Up s.a3 s.c3 d.fr 1 7 _ hfr' ((HL.out _ p5.bel).r3.drewN m6)).mono ?_; rintro e w7 ⟨rfl, m7, rfl⟩)
                | (go_at_call 83; refine (N2.l05Up s.a2 s.c2 d.po 5 23 _ hpo' (HL.out _ p5.bel).r2).mono ?_; rintro e w6 ⟨rfl, m6, rfl⟩)
                | (go_at_call 81; refine (N2.hasRow s.a3 s.c3 d.fr _ _ hfr' (by simpa only [World.drewN_drewN] using (HL.out _ p5.bel).r3.drewN (m6 + m7))).mono ?_; rintro e w8 ⟨rfl, rfl⟩))
               go_ret
               exact ⟨ret_bool HQ.out, by first | exact p5.bel | exact K0.below_drewN p5.bel _⟩)
end Go.Proofs.Ytpkicoagakpigaa.N11

/- What the exact laws over loans keep: the law's own loan, boxed, and a copy of it. -/
namespace Go.Proofs.Ytpkicoagakpigaa.N12
open Go.ChangeShapes Go.WideShapes Go.ChangeAt Go.RowKit
set_option linter.unusedVariables false
set_option linter.unusedSimpArgs false
set_option maxRecDepth 10000

open N0 (Ln)
open N1 (Sl Lists Fit FitM LB lb_new)
open N4 (at3 Cp)

/-- The law's loan in its box. -/
structure A (w : World) (d : Ln) (s : Sl) (W : World) : Prop where
  b : LB w.heap.size d s W
  l : Lists W d s
  bel : Below w.heap.size w W

variable {w W W' : World} {d : Ln} {s : Sl} {g1 g2 g3 B : Nat}

theorem A.below (h : A w d s W) (hb : Below W.heap.size W W') : A w d s W' := ⟨h.b.below hb, h.l.below hb, h.bel.trans (hb.mono h.bel.size)⟩
theorem A.drew (h : A w d s W) : A w d s W.drew := h.below ((Below.refl _ _).drew)

theorem a_new (w : World) (d : Ln) (s : Sl) (h : Lists w d s) : A w d s (w.alloc (.cells #[.int .i64 d.ino, .int .i64 d.cl, .int .i64 d.un, .string d.rc, .slice s.a1 d.pg.length s.c1, .string d.sav, .slice s.a2 d.po.length s.c2, .slice s.a3 d.fr.length s.c3] 44)) :=
  ⟨lb_new d s w 44, h.alloc _, K0.below_new _ _⟩

/-- Beside it a copy of it, boxed. -/
structure U (w : World) (d : Ln) (s : Sl) (g1 g2 g3 B : Nat) (W : World) : Prop where
  t : A w d s W
  n : LB B d (at3 d g1 g2 g3) W
  cp : Cp w.heap.size d g1 g2 g3 W

theorem U.below (h : U w d s g1 g2 g3 B W) (hb : Below W.heap.size W W') : U w d s g1 g2 g3 B W' := ⟨h.t.below hb, h.n.below hb, h.cp.below hb⟩
theorem U.drew (h : U w d s g1 g2 g3 B W) : U w d s g1 g2 g3 B W.drew := h.below ((Below.refl _ _).drew)

theorem cp_mono {b b' : Nat} (h : Cp b d g1 g2 g3 W) (hb : b' ≤ b) : Cp b' d g1 g2 g3 W := ⟨Nat.le_trans hb h.h1, Nat.le_trans hb h.h2, Nat.le_trans hb h.h3, h.k1, h.k2, h.k3⟩

theorem u_new {b : Nat} (h : A w d s W) (hc : Cp b d g1 g2 g3 W) (hb : w.heap.size ≤ b) :
    U w d s g1 g2 g3 W.heap.size (W.alloc (.cells #[.int .i64 d.ino, .int .i64 d.cl, .int .i64 d.un, .string d.rc, .slice (at3 d g1 g2 g3).a1 d.pg.length (at3 d g1 g2 g3).c1, .string d.sav, .slice (at3 d g1 g2 g3).a2 d.po.length (at3 d g1 g2 g3).c2, .slice (at3 d g1 g2 g3).a3 d.fr.length (at3 d g1 g2 g3).c3] 47)) :=
  ⟨h.below (K0.below_new _ _), lb_new d (at3 d g1 g2 g3) W 47, (cp_mono hc hb).below (K0.below_new _ _)⟩

theorem sizes (h : N3.total d ≤ 1048576) : d.pg.length ≤ 1048576 ∧ d.po.length ≤ 1048576 ∧ d.fr.length ≤ 1048576 ∧ d.rc.size ≤ 1048576 ∧ d.sav.size ≤ 1048576 := by
  unfold N3.total at h
  omega

theorem fitc (h : N3.total d ≤ 1048576) : Fit d (at3 d g1 g2 g3) := by
  have := sizes h
  exact ⟨Nat.le_refl _, by show d.pg.length ≤ _; omega, Nat.le_refl _, by show d.po.length ≤ _; omega, Nat.le_refl _, by show d.fr.length ≤ _; omega, by omega, by omega⟩
end Go.Proofs.Ytpkicoagakpigaa.N12
