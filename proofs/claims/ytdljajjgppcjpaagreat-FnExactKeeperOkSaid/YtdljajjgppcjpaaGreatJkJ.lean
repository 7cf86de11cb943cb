/- Joined texts: plain facts and contracts, as each part says. -/
import Derived.Test.YtdljajjgppcjpaaGreatJkI
import Derived.Test.YtdljajjgppcjpaaGreatJkC
import Derived.Test.YtdljajjgppcjpaaGreatJkG
import Derived.Test.YtdljajjgppcjpaaGreatJkB
import Derived.Laws.MakeOwn
import Derived.Deep.RegionHeld3
import Derived.Test.YtdljajjgppcjpaaGreatJkD
import Derived.Test.YtdljajjgppcjpaaGreatJkA
import Derived.Test.YtdljajjgppcjpaaGreatJkF
import Derived.Lib.SliceRun

/- The contract of spec.LoanOk, as the given laws call it: the walk. -/
namespace Go.Proofs.YtdljajjgppcjpaaGreat.N11
open Go.ChangeShapes Go.WideShapes Go.ChangeAt Go.RowKit
set_option linter.unusedVariables false
set_option linter.unusedSimpArgs false
set_option maxRecDepth 10000

open N0 (Ln)
open N1 (Sl Lists Fit LB lb_new)
open N10 (SP sp_new first_cases last_cases)
open P1 (ret_bool quiet_bool)

theorem wf_of (n : Int) (h0 : -9223372036854775808 ≤ n) (h1 : n ≤ 9223372036854775807) : (Lit.int .i64 n).wf = true := by
  simp [Lit.wf, IntKind.min, IntKind.max, IntKind.signed, IntKind.bits]
  omega

set_option maxHeartbeats 4000000 in
theorem spec_LoanOk (d : Ln) (s : Sl) (w : World) (hF : Fit d s) (hpo : d.po.length ≤ 1048576) (hfr : d.fr.length ≤ 1048576) (hR : Lists w d s) :
    Calls Tryz.prog 16 #[N1.val d s] w fun e w' => e = .returned (.bool (N0.loanOk d)) ∧ Below w.heap.size w w' := by
  have hG : Hid (∀ W, Calls Tryz.prog 39 #[.string d.rc] W (G3.Ans d.rc W)) := fun W => G4.spec_GetInode d.rc W hF.m4
  have HL : Hid (∀ W, Below w.heap.size w W → Lists W d s) := fun W hb => hR.below hb
  have hpl : d.pg.length ≤ 281474976710656 := hF.p1
  have hsl := hF.m5
  have hsm : d.sav.size ≤ maxLen := by unfold maxLen; omega
  have hA : Hid (∀ W e w', G3.Ans d.rc W e w' → ∃ a c, e = .returned (.tuple #[I0.val (G0.gK d.rc) (G0.gO d.rc) (G0.gS d.rc) a (G0.gZ d.rc).length c, .bool (G0.isI d.rc)]) ∧ J0.Own W.heap.size w' a (G0.gZ d.rc) ∧ (G0.gZ d.rc).length ≤ c ∧ Below W.heap.size W w') := fun W e w' h => h
  have hzl : (G0.gZ d.rc).length ≤ 281474976710656 := by
    unfold G0.gZ
    split
    · rw [G0.pgs_length]; have := G0.cnt_le d.rc; omega
    · exact Nat.zero_le _
  have hsb : G0.isI d.rc = true → -9223372036854775808 ≤ G0.gS d.rc ∧ G0.gS d.rc ≤ 9223372036854775807 := fun h => by have := O0.got h; omega
  have hcase := first_cases d
  have hD0 : N0.sDir d = (!decide (G0.gK d.rc = 2) || V0.isD (B2.part d.sav 0 (G0.gS d.rc))) := rfl
  have hlast := last_cases d (G0.gK d.rc) rfl
  have hgd : Hid (∀ W, Calls Tryz.prog 42 #[.string (B2.part d.sav 0 (G0.gS d.rc))] W (V1.Ans (B2.part d.sav 0 (G0.gS d.rc)) W)) := fun W => V3.spec_GetDir _ _ (Nat.le_trans (B2.part_size _ _ _) hF.m5)
  obtain ⟨K, hK⟩ : ∃ K, G0.gK d.rc = K := ⟨_, rfl⟩
  obtain ⟨O, hO⟩ : ∃ O, G0.gO d.rc = O := ⟨_, rfl⟩
  obtain ⟨S, hS⟩ : ∃ S, G0.gS d.rc = S := ⟨_, rfl⟩
  obtain ⟨Z, hZ⟩ : ∃ Z, G0.gZ d.rc = Z := ⟨_, rfl⟩
  rw [hK, hZ] at hcase
  rw [hK] at hlast
  rw [hK, hO, hS, hZ] at hA
  rw [hZ] at hzl
  rw [hS] at hsb hgd
  rw [hS, hK] at hD0
  have hpt : Hid (G0.isI d.rc = true → ∀ W, Calls Tryz.prog 43 #[.string d.sav, .int .i64 0, .int .i64 S] W fun e w' => e = .returned (.string (B2.part d.sav 0 S)) ∧ w' = W) := fun h W => B2.spec_Part _ _ _ _ hsm (by decide) (wf_of _ (hsb h).1 (hsb h).2)
  obtain ⟨P, hP⟩ : ∃ P, B2.part d.sav 0 S = P := ⟨_, rfl⟩
  rw [hP] at hgd hD0 hpt
  have HD : Hid (∀ W e w', V1.Ans P W e w' → ∃ a c, e = .returned (.tuple #[.slice a (V0.dE P).length c, .bool (V0.isD P)]) ∧ Below W.heap.size W w') := fun W e w' ⟨a, c, he, _, _, hb⟩ => ⟨a, c, he, hb⟩
  clear hK hO hS hZ hP hR hF hsb hsm
  rcases hcase with ⟨gI, hp⟩ | ⟨gI, g0, hp⟩ | ⟨gI, g0, g1, hp⟩ | ⟨gI, g0, g1, g2, hp⟩ | ⟨gI, g0, g1, g2, g3, hp⟩ | ⟨gI, g0, g1, g2, g3, gz, hp⟩ | ⟨gI, g0, g1, g2, g3, gz, gs, hp⟩ | ⟨gI, g0, g1, g2, g3, gz, gs, hp⟩
  · rw [gI] at hA
    rw [N10.sOk_first hp]
    clear gI hlast hD0 hp hpt hgd HD
    go_enter Tryz.func16, Tryz.ntmps16
    go_wp2_with (first
      | (go_at_call 39; refine (hG.out _).mono ?_; intro e w1 hans; obtain ⟨a, c, rfl, ho, hc, b1⟩ := hA.out _ _ _ hans; clear hans; have p1 := sp_new (k := K) (o := O) (t := S) (a := a) (n := Z.length) (c := c) b1; have x0 := p1.nb.c0; have x3 := p1.nb.c3; have c0 := p1.arg.c0; have c1 := p1.arg.c1; have c2 := p1.arg.c2; have c4 := p1.arg.c4; have c5 := p1.arg.c5; have r1 := ho.row.alloc (.cells #[.int .i64 K, .int .i64 O, .int .i64 S, .slice a Z.length c] 69); have r2 := (HL.out _ p1.bel).r1)
      | (go_at_call 37; refine (B1.l01In_any _ _ _ _).mono ?_; rintro e w' ⟨rfl, rfl⟩))
    go_ret
    exact ⟨rfl, p1.bel⟩
  · rw [gI] at hA
    rw [N10.sOk_first hp]
    clear gI hlast hD0 hp hpt hgd HD
    go_enter Tryz.func16, Tryz.ntmps16
    go_wp2_with (first
      | (go_at_call 39; refine (hG.out _).mono ?_; intro e w1 hans; obtain ⟨a, c, rfl, ho, hc, b1⟩ := hA.out _ _ _ hans; clear hans; have p1 := sp_new (k := K) (o := O) (t := S) (a := a) (n := Z.length) (c := c) b1; have x0 := p1.nb.c0; have x3 := p1.nb.c3; have c0 := p1.arg.c0; have c1 := p1.arg.c1; have c2 := p1.arg.c2; have c4 := p1.arg.c4; have c5 := p1.arg.c5; have r1 := ho.row.alloc (.cells #[.int .i64 K, .int .i64 O, .int .i64 S, .slice a Z.length c] 69); have r2 := (HL.out _ p1.bel).r1)
      | (go_at_call 37; refine (B1.l01In_any _ _ _ _).mono ?_; rintro e w' ⟨rfl, rfl⟩))
    go_ret
    exact ⟨rfl, p1.bel⟩
  · rw [gI] at hA
    rw [N10.sOk_first hp]
    clear gI hlast hD0 hp hpt hgd HD
    go_enter Tryz.func16, Tryz.ntmps16
    go_wp2_with (first
      | (go_at_call 39; refine (hG.out _).mono ?_; intro e w1 hans; obtain ⟨a, c, rfl, ho, hc, b1⟩ := hA.out _ _ _ hans; clear hans; have p1 := sp_new (k := K) (o := O) (t := S) (a := a) (n := Z.length) (c := c) b1; have x0 := p1.nb.c0; have x3 := p1.nb.c3; have c0 := p1.arg.c0; have c1 := p1.arg.c1; have c2 := p1.arg.c2; have c4 := p1.arg.c4; have c5 := p1.arg.c5; have r1 := ho.row.alloc (.cells #[.int .i64 K, .int .i64 O, .int .i64 S, .slice a Z.length c] 69); have r2 := (HL.out _ p1.bel).r1)
      | (go_at_call 37; refine (B1.l01In_any _ _ _ _).mono ?_; rintro e w' ⟨rfl, rfl⟩))
    go_ret
    exact ⟨rfl, p1.bel⟩
  · rw [gI] at hA
    rw [N10.sOk_first hp]
    clear gI hlast hD0 hp hpt hgd HD
    go_enter Tryz.func16, Tryz.ntmps16
    go_wp2_with (first
      | (go_at_call 39; refine (hG.out _).mono ?_; intro e w1 hans; obtain ⟨a, c, rfl, ho, hc, b1⟩ := hA.out _ _ _ hans; clear hans; have p1 := sp_new (k := K) (o := O) (t := S) (a := a) (n := Z.length) (c := c) b1; have x0 := p1.nb.c0; have x3 := p1.nb.c3; have c0 := p1.arg.c0; have c1 := p1.arg.c1; have c2 := p1.arg.c2; have c4 := p1.arg.c4; have c5 := p1.arg.c5; have r1 := ho.row.alloc (.cells #[.int .i64 K, .int .i64 O, .int .i64 S, .slice a Z.length c] 69); have r2 := (HL.out _ p1.bel).r1)
      | (go_at_call 37; refine (B1.l01In_any _ _ _ _).mono ?_; rintro e w' ⟨rfl, rfl⟩))
    go_ret
    exact ⟨rfl, p1.bel⟩
  · rw [gI] at hA
    rw [N10.sOk_first hp]
    clear gI hlast hD0 hp hpt hgd HD
    go_enter Tryz.func16, Tryz.ntmps16
    go_wp2_with (first
      | (go_at_call 39; refine (hG.out _).mono ?_; intro e w1 hans; obtain ⟨a, c, rfl, ho, hc, b1⟩ := hA.out _ _ _ hans; clear hans; have p1 := sp_new (k := K) (o := O) (t := S) (a := a) (n := Z.length) (c := c) b1; have x0 := p1.nb.c0; have x3 := p1.nb.c3; have c0 := p1.arg.c0; have c1 := p1.arg.c1; have c2 := p1.arg.c2; have c4 := p1.arg.c4; have c5 := p1.arg.c5; have r1 := ho.row.alloc (.cells #[.int .i64 K, .int .i64 O, .int .i64 S, .slice a Z.length c] 69); have r2 := (HL.out _ p1.bel).r1)
      | (go_at_call 37; refine (B1.l01In_any _ _ _ _).mono ?_; rintro e w' ⟨rfl, rfl⟩))
    go_ret
    exact ⟨rfl, p1.bel⟩
  · rw [gI] at hA
    rw [N10.sOk_first hp]
    clear gI hlast hD0 hp hpt hgd HD
    go_enter Tryz.func16, Tryz.ntmps16
    go_wp2_with (first
      | (go_at_call 39; refine (hG.out _).mono ?_; intro e w1 hans; obtain ⟨a, c, rfl, ho, hc, b1⟩ := hA.out _ _ _ hans; clear hans; have p1 := sp_new (k := K) (o := O) (t := S) (a := a) (n := Z.length) (c := c) b1; have x0 := p1.nb.c0; have x3 := p1.nb.c3; have c0 := p1.arg.c0; have c1 := p1.arg.c1; have c2 := p1.arg.c2; have c4 := p1.arg.c4; have c5 := p1.arg.c5; have r1 := ho.row.alloc (.cells #[.int .i64 K, .int .i64 O, .int .i64 S, .slice a Z.length c] 69); have r2 := (HL.out _ p1.bel).r1)
      | (go_at_call 37; refine (B1.l01In_any _ _ _ _).mono ?_; rintro e w' ⟨rfl, rfl⟩)
      | (go_at_call 40; refine (N2.same _ _ _ _ _ _ _ hzl hpl r1 r2).mono ?_; rintro e w2 ⟨rfl, m, rfl⟩))
    go_ret
    exact ⟨rfl, (p1.drewN m).bel⟩
  · rw [gI] at hA
    rw [N10.sOk_first hp]
    clear gI hlast hD0 hp hpt hgd HD
    go_enter Tryz.func16, Tryz.ntmps16
    go_wp2_with (first
      | (go_at_call 39; refine (hG.out _).mono ?_; intro e w1 hans; obtain ⟨a, c, rfl, ho, hc, b1⟩ := hA.out _ _ _ hans; clear hans; have p1 := sp_new (k := K) (o := O) (t := S) (a := a) (n := Z.length) (c := c) b1; have x0 := p1.nb.c0; have x3 := p1.nb.c3; have c0 := p1.arg.c0; have c1 := p1.arg.c1; have c2 := p1.arg.c2; have c4 := p1.arg.c4; have c5 := p1.arg.c5; have r1 := ho.row.alloc (.cells #[.int .i64 K, .int .i64 O, .int .i64 S, .slice a Z.length c] 69); have r2 := (HL.out _ p1.bel).r1)
      | (go_at_call 37; refine (B1.l01In_any _ _ _ _).mono ?_; rintro e w' ⟨rfl, rfl⟩)
      | (go_at_call 40; refine (N2.same _ _ _ _ _ _ _ hzl hpl r1 r2).mono ?_; rintro e w2 ⟨rfl, m, rfl⟩))
    go_ret
    exact ⟨rfl, (p1.drewN m).bel⟩
  · rw [gI] at hA
    replace hpt : Hid (∀ W, Calls Tryz.prog 43 #[.string d.sav, .int .i64 0, .int .i64 S] W fun e w' => e = .returned (.string P) ∧ w' = W) := hpt.out gI
    clear gI
    have HF1 : Hid (N0.sFirst d = true) := hp
    have HD0 : Hid (N0.sDir d = (!decide (K = 2) || V0.isD P)) := hD0
    have HLast := hlast
    have hpo' : d.po.length ≤ 281474976710656 := by omega
    have hfr' : d.fr.length ≤ 281474976710656 := by omega
    obtain ⟨RV, hRV⟩ : ∃ RV, N0.loanOk d = RV := ⟨_, rfl⟩
    have HNo1 : Hid (N0.apart d.pg d.po = false → false = RV) := fun h => by rw [← hRV, N10.sOk_ap h]
    have HNo2 : Hid (N0.sDir d = false → false = RV) := fun h => by rw [← hRV, N10.sOk_dir h]
    have HYes : Hid (N0.apart d.pg d.po = true → N0.sDir d = true → N0.sLast d = RV) := fun h1 h2 => by rw [← hRV, N10.sOk_last HF1.out h1 h2]
    rw [hRV]
    clear hp hD0 hlast hRV
    go_enter Tryz.func16, Tryz.ntmps16
    go_wp2_with (first
      | (go_at_call 39; refine (hG.out _).mono ?_; intro e w1 hans; obtain ⟨a, c, rfl, ho, hc, b1⟩ := hA.out _ _ _ hans; clear hans; have p1 := sp_new (k := K) (o := O) (t := S) (a := a) (n := Z.length) (c := c) b1; have x0 := p1.nb.c0; have x3 := p1.nb.c3; have c0 := p1.arg.c0; have c1 := p1.arg.c1; have c2 := p1.arg.c2; have c4 := p1.arg.c4; have c5 := p1.arg.c5; have r1 := ho.row.alloc (.cells #[.int .i64 K, .int .i64 O, .int .i64 S, .slice a Z.length c] 69); have r2 := (HL.out _ p1.bel).r1)
      | (go_at_call 37; refine (B1.l01In_any _ _ _ _).mono ?_; rintro e w' ⟨rfl, rfl⟩)
      | (go_at_call 40; refine (N2.same _ _ _ _ _ _ _ hzl hpl r1 r2).mono ?_; rintro e w2 ⟨rfl, m, rfl⟩))
    have p2 := p1.drewN m
    obtain ⟨V, hV⟩ : ∃ V, (w1.alloc (.cells #[.int .i64 K, .int .i64 O, .int .i64 S, .slice a Z.length c] 69)).drewN m = V := ⟨_, rfl⟩
    rw [hV] at p2 ⊢
    clear hV p1 x0 x3 c0 c1 c2 c4 c5 r1 r2 ho b1 g0 g1 g2 g3 gz gs
    go_loopw [5] (fun i w' => ∃ j n : Nat, j ≤ d.po.length ∧ N0.to (N0.apAt d.pg d.po) j = true ∧ i = .int .i64 j ∧ w' = V.drewN n) (fun i _ => d.po.length - (intOf i).toNat)
    case atStart => exact ⟨0, 0, Nat.zero_le _, rfl, rfl, rfl⟩
    case round =>
      obtain ⟨j, n, hj, hok, rfl, hW⟩ := hrel
      have HW : Hid (∀ m, ∃ m', wr.drewN m = V.drewN m') := fun m => ⟨n + m, by rw [hW, World.drewN_drewN]⟩
      have pw : SP w d s K O S a Z.length c w1.heap.size wr := by rw [hW]; exact p2.drewN n
      have c4 := pw.arg.c4
      have c6 := pw.arg.c6
      have HWB : Hid (∀ m, Below w.heap.size w (wr.drewN m)) := fun m => K0.below_drewN pw.bel m
      by_cases hlt : j < d.po.length
      · obtain ⟨b, off, hab, hb, hcell⟩ := (HL.out _ pw.bel).r2.get hlt
        have hH : Hid (∀ m x, Calls Tryz.prog 41 #[.slice s.a1 d.pg.length s.c1, .int .i64 x] (wr.drewN m) fun e w' => e = .returned (.bool (P0.has d.pg x)) ∧ w' = wr.drewN m) := fun m x => N2.hasRow s.a1 s.c1 d.pg x _ hpl ((HL.out _ pw.bel).r1.drewN m)
        have x1 := hcell j hlt
        have hat : N0.apAt d.pg d.po j = !(P0.has d.pg (d.po.getD j 0)) := rfl
        obtain ⟨z, ez⟩ : ∃ z, d.po.getD j 0 = z := ⟨_, rfl⟩
        rw [ez] at x1 hat
        rw [hab] at c6
        have e1 : (0 : Int) ≤ (j : Int) := by omega
        have e2 : (j : Int) < (d.po.length : Int) := by omega
        cases h2 : P0.has d.pg z with
        | true =>
          have HR : Hid (false = RV) := HNo1.out (N0.to_bad hlt (by rw [hat, h2]; rfl))
          clear hat hok ez hcell hW pw p2
          go_wp2
          go_quiet ((go_at_call 41; exact quiet_bool (hH.out _ _) h2))
          go_wp2
          go_ret
          exact ⟨ret_bool HR.out, HWB.out _⟩
        | false =>
          have HO : Hid (N0.to (N0.apAt d.pg d.po) (j + 1) = true) := N0.to_step hok (by rw [hat, h2]; rfl)
          clear hat hok ez hcell hW pw p2
          go_wp2
          go_quiet ((go_at_call 41; exact quiet_bool (hH.out _ _) h2))
          go_wp2
          obtain ⟨m', hm'⟩ := HW.out nq
          go_roundw
          case rel => exact ⟨j + 1, m', by omega, HO.out, by go_num, hm'⟩
          case measure => simp [intOf]; omega
      · obtain rfl : j = d.po.length := by omega
        have hap : N0.apart d.pg d.po = true := hok
        have c5 := pw.arg.c5
        have n2 := pw.nb.c2
        have e9 : decide ((d.po.length : Int) < (d.po.length : Int)) = false := by simp
        have hdc : (K == 2) = true ∧ V0.isD P = false ∧ false = RV ∨ (((K == 2) = true ∧ V0.isD P = true) ∨ (K == 2) = false) ∧ N0.sLast d = RV := by
          by_cases h2 : K = 2
          · cases hI : V0.isD P with
            | false => exact Or.inl ⟨by simpa using h2, rfl, HNo2.out (by rw [HD0.out, decide_eq_true h2, hI]; rfl)⟩
            | true => exact Or.inr ⟨Or.inl ⟨by simpa using h2, rfl⟩, HYes.out hap (by rw [HD0.out, hI, Bool.or_true])⟩
          · exact Or.inr ⟨Or.inr (by simpa using h2), HYes.out hap (by rw [HD0.out, decide_eq_false h2]; rfl)⟩
        clear hok hW p2 HW HWB hap HNo1 HNo2 HYes HD0 c4
        rcases hdc with ⟨hk2, hDf, HR0⟩ | ⟨hk2, HR0⟩
        · have HR : Hid (false = RV) := HR0
          clear HR0
          go_wp2_with (first
            | (go_at_call 43; refine (hpt.out _).mono ?_; rintro e w4 ⟨rfl, rfl⟩)
            | (go_at_call 42; refine (hgd.out _).mono ?_; intro e w5 hans; obtain ⟨ae, ce, rfl, b5⟩ := HD.out _ _ _ hans; clear hans; have p5 := pw.below b5; have k0 := p5.nb.c0; have y0 := p5.arg.c0; have y6 := p5.arg.c6; have y7 := p5.arg.c7))
          go_ret
          exact ⟨ret_bool HR.out, p5.bel⟩
        · have HR : Hid (N0.sLast d = RV) := HR0
          clear HR0
          rcases HLast with ⟨u1, hl⟩ | ⟨u1, u2, hl⟩ | ⟨u1, u2, u3, hl⟩ | ⟨u1, u2, u3, u4, hl⟩ | ⟨u1, u2, u3, u4, u5, hl⟩ | ⟨u1, u2, u3, u4, u5, u6, hl⟩ | ⟨u1, u2, u3, u4, u5, u6, hl⟩
          all_goals
            have HQ : Hid (_ = RV) := hl.symm.trans HR.out
            clear hl HR
            rcases hk2 with ⟨v1, v2⟩ | v1
          all_goals first
            | (exact absurd (v1.symm.trans u6) (by decide))
            | (go_wp2_with (first
                | (go_at_call 43; refine (hpt.out _).mono ?_; rintro e w4 ⟨rfl, rfl⟩)
                | (go_at_call 42; refine (hgd.out _).mono ?_; intro e w5 hans; obtain ⟨ae, ce, rfl, b5⟩ := HD.out _ _ _ hans; clear hans; have p5 := pw.below b5; have k0 := p5.nb.c0; have y0 := p5.arg.c0; have y6 := p5.arg.c6; have y7 := p5.arg.c7)
                | (go_at_call 44; have m6' := m6; refine (N2.l05Up s.a3 s.c3 d.fr 1 7 _ hfr' ((HL.out _ p5.bel).r3.drewN m6)).mono ?_; rintro e w7 ⟨rfl, m7, rfl⟩)
                | (go_at_call 44; refine (N2.l05Up s.a2 s.c2 d.po 5 23 _ hpo' (HL.out _ p5.bel).r2).mono ?_; rintro e w6 ⟨rfl, m6, rfl⟩)
                | (go_at_call 41; refine (N2.hasRow s.a3 s.c3 d.fr _ _ hfr' (by simpa only [World.drewN_drewN] using (HL.out _ p5.bel).r3.drewN (m6 + m7))).mono ?_; rintro e w8 ⟨rfl, rfl⟩))
               go_ret
               exact ⟨ret_bool HQ.out, by first | exact p5.bel | exact K0.below_drewN p5.bel _⟩)
end Go.Proofs.YtdljajjgppcjpaaGreat.N11

/- Contracts of impl.dataOf, spec.l03Rec and spec.l03Page, as the given laws call them. -/
namespace Go.Proofs.YtdljajjgppcjpaaGreat.O1
open Go.ChangeShapes Go.WideShapes Go.ChangeAt Go.RowKit
set_option linter.unusedVariables false
set_option linter.unusedSimpArgs false
set_option maxRecDepth 10000

open I0 (val vals)

theorem wf_recAt (i : Int) : (Lit.int .i64 (L1.recAt i)).wf = true := by
  refine E4.wf_of _ ?_ ?_
  all_goals
    unfold L1.recAt
    split
    · rename_i h
      have := B1.inB_true h
      omega
    · omega

theorem l03Rec (mem : ByteArray) (i : Int) (w : World) (hs : mem.size ≤ 281474976710656) :
    Calls Tryz.prog 95 #[.string mem, .int .i64 i] w fun e w' => e = .returned (.string (O0.recd mem i)) ∧ w' = w := by
  have hm : mem.size ≤ maxLen := by unfold maxLen; omega
  have e : O0.recd mem i = B2.part mem (L1.recAt i) 16 := rfl
  rw [e]
  go_enter Tryz.func95, Tryz.ntmps95
  go_wp2_with (first
    | (go_at_call 31; refine (L1.spec_RecAt _ _).mono ?_; rintro e w' ⟨rfl, rfl⟩)
    | (go_at_call 43; refine (B2.spec_Part _ _ _ _ hm (wf_recAt i) (by decide)).mono ?_; rintro e w' ⟨rfl, rfl⟩))
  go_ret
  exact ⟨rfl, rfl⟩

theorem l03Page (mem : ByteArray) (z : Int) (w : World) (hs : mem.size ≤ 281474976710656) (h0 : 5 ≤ z) (h1 : z ≤ 23) :
    Calls Tryz.prog 32 #[.string mem, .int .i64 z] w fun e w' => e = .returned (.string (B2.part mem (z * 32) 32)) ∧ w' = w := by
  have hm : mem.size ≤ maxLen := by unfold maxLen; omega
  have hw := E4.wf_of (z * 32) (by omega) (by omega)
  go_enter Tryz.func32, Tryz.ntmps32
  go_wp2_with (go_at_call 43; refine (B2.spec_Part _ _ _ _ hm hw (by decide)).mono ?_; rintro e w' ⟨rfl, rfl⟩)
  go_ret
  exact ⟨rfl, rfl⟩

theorem make192 : ∃ C : Array Value, C.size = 192 ∧ ∀ W : World, (Instr.makeSlice 22 (.int .i64 0) (.int .i64 192)).run Tryz.prog W = .ok (.slice (some ⟨W.heap.size, 0, none⟩) 0 192) (W.alloc (.cells C 5)) := by
  obtain ⟨i0, hi, hz0, hz1, hz2⟩ := info_parts F0.info5
  refine ⟨madeCells (Value.int .u8 0).cells (192 * i0.size), ?_, fun W => ?_⟩
  · have : (madeCells (Value.int .u8 0).cells (192 * i0.size)).toList.length = 192 := by
      rw [show (Value.int .u8 0).cells = #[Value.int .u8 0] from rfl, toList_madeCells_one, hz1]
      simp
    simpa using this
  · exact run_make (P := Tryz.prog) W 22 5 i0 (.int .u8 0) Tryz.underlying22 hi hz0 .i64 .i64 0 192 (by omega) (by omega) (by rw [hz2]; omega) (by omega)

set_option maxHeartbeats 2000000 in
theorem pagesText (mem : ByteArray) (a : Option Addr) (c : Nat) (zs : List Int) (w : World) (hm : mem.size = 768) (hp : P0.pagesOk zs = true) (hl : zs.length ≤ 6) (hR1 : P0.Row w a zs) :
    Calls Tryz.prog 102 #[.string mem, .slice a zs.length c] w fun e w' => e = .returned (.string (O0.joined mem zs zs.length)) ∧ Below w.heap.size w w' := by
  obtain ⟨C, hC, hmk⟩ := make192
  have hbuf0 := F0.buf_none (base := w.heap.size) w C 192 hC (by unfold maxLen; omega) (Nat.le_refl _)
  have bel0 := K0.below_new w (.cells C 5)
  have hms : mem.size ≤ 281474976710656 := by omega
  go_enter Tryz.func102, Tryz.ntmps102
  go_wp2
  go_loopw [5, 11] (fun r i w' => ∃ (j g cap : Nat), j ≤ zs.length ∧ i = .int .i64 j ∧ r = .slice (some ⟨g, 0, none⟩) (32 * j) cap ∧ F0.Buf w.heap.size w' g (32 * j) cap (O0.joined mem zs j) ∧ Below w.heap.size w w') (fun _ i _ => zs.length - (intOf i).toNat)
  case atStart => exact ⟨0, w.heap.size, 192, Nat.zero_le _, rfl, rfl, hbuf0, bel0⟩
  case round =>
    obtain ⟨j, g, cap, hj, rfl, rfl, hbuf, hbel⟩ := hrel
    clear hbuf0 bel0 hmk
    by_cases hlt : j < zs.length
    · obtain ⟨b, off, rfl, hb, hc⟩ := (hR1.below hbel).get hlt
      have x1 := hc j hlt
      have hz := R0.pages_bounds hp hlt
      have hu : O0.joined mem zs (j + 1) = O0.joined mem zs j ++ B2.part mem (zs.getD j 0 * 32) 32 := rfl
      obtain ⟨z, ez⟩ : ∃ z, zs.getD j 0 = z := ⟨_, rfl⟩
      rw [ez] at x1 hz hu
      have hps := O0.page_size hm hz.1 hz.2
      have z0 : 0 ≤ z := by omega
      have z1 : z ≤ 23 := hz.2
      have e1 : (0 : Int) ≤ (j : Int) := by omega
      have e2 : (j : Int) < (zs.length : Int) := by omega
      have HU : Hid (O0.joined mem zs (j + 1) = O0.joined mem zs j ++ B2.part mem (z * 32) 32) := hu
      clear hu ez hc hz
      go_wp2_with (first
        | (go_at_call 17; refine (B2.impl_Part _ _ _ _ hms).mono ?_; rintro e w2 ⟨rfl, b2⟩; have hbuf2 := hbuf.below b2; have bel2 := hbel.trans (b2.mono hbel.size))
        | (at_builtin; refine F0.append_text rfl (.tmp 15) (.tmp 19) rfl hbuf2 (B2.part mem (z * 32) 32) (by rfl) (by rfl) (by omega) bel2.size ?_; intro g1 cap1 w3 hbuf3 bel3))
      go_roundw
      case rel =>
        rw [hps] at hbuf3
        exact ⟨j + 1, g1, cap1, by omega, by go_num, rfl, by rw [HU.out]; exact hbuf3, bel2.trans bel3⟩
      case measure => simp [intOf]; omega
    · obtain rfl : j = zs.length := by omega
      have hcv := hbuf.conv
      clear hbuf hR1
      go_wp2
      go_ret
      exact ⟨rfl, hbel⟩

theorem part_front (u : ByteArray) (n : Int) (h0 : 0 ≤ n) (h1 : n ≤ (u.size : Int)) : B2.part u 0 n = u.extract 0 n.toNat := by
  rw [B2.part, if_pos]
  · simp
  · unfold B2.lies
    simp
    omega

set_option maxHeartbeats 2000000 in
theorem dataOf (mem : ByteArray) (k o s : Int) (a : Option Addr) (c : Nat) (zs : List Int) (w : World) (hm : mem.size = 768) (hp : P0.pagesOk zs = true) (hl : zs.length ≤ 6) (hs0 : 0 ≤ s) (hs1 : s ≤ 32 * (zs.length : Int)) (hR : P0.Row w a zs) :
    Calls Tryz.prog 140 #[.string mem, val k o s a zs.length c] w fun e w' => e = .returned (.string ((O0.joined mem zs zs.length).extract 0 s.toNat)) ∧ Below w.heap.size w w' := by
  have hbox := K0.blk_new (vals k o s a zs.length c) w 69
  have hl0 := K0.below_new w (.cells #[.int .i64 k, .int .i64 o, .int .i64 s, .slice a zs.length c] 69)
  have HT : Hid (∀ W, Below w.heap.size w W → Calls Tryz.prog 102 #[.string mem, .slice a zs.length c] W fun e w' => e = .returned (.string (O0.joined mem zs zs.length)) ∧ Below W.heap.size W w') := fun W hb => pagesText mem a c zs W hm hp hl (hR.below hb)
  have hsz := O0.joined_size hm hp zs.length (Nat.le_refl _)
  rw [← part_front _ _ hs0 (by omega)]
  obtain ⟨u, hu⟩ : ∃ u, O0.joined mem zs zs.length = u := ⟨_, rfl⟩
  rw [hu] at HT hsz ⊢
  have hus : u.size ≤ 281474976710656 := by omega
  have s1 : (w.alloc (.cells #[.int .i64 k, .int .i64 o, .int .i64 s, .slice a zs.length c] 69)).drew.cell? ⟨w.heap.size, 2, none⟩ = some (.int .i64 s) ∧ (w.alloc (.cells #[.int .i64 k, .int .i64 o, .int .i64 s, .slice a zs.length c] 69)).drew.cell? ⟨w.heap.size, 3, none⟩ = some (.slice a zs.length c) := ⟨hbox.drew.c2, hbox.drew.c3⟩
  clear hR hu hsz
  go_enter Tryz.func140, Tryz.ntmps140
  go_wp2
  go_region_held3 (fun W => W.cell? ⟨w.heap.size, 2, none⟩ = some (.int .i64 s) ∧ W.cell? ⟨w.heap.size, 3, none⟩ = some (.slice a zs.length c)) (assumption) ((first
    | (go_at_call 102; refine (HT.out _ hl0.drew).mono ?_; rintro e w2 ⟨rfl, b2⟩; have hb2 := hbox.drew.below b2; have l2 := hl0.drew.trans (b2.mono hl0.drew.size); have s2 : w2.cell? ⟨w.heap.size, 2, none⟩ = some (.int .i64 s) ∧ w2.cell? ⟨w.heap.size, 3, none⟩ = some (.slice a zs.length c) := ⟨hb2.c2, hb2.c3⟩)
    | (go_at_call 17; refine (B2.impl_Part _ _ _ _ hus).mono ?_; rintro e w3 ⟨rfl, b3⟩; have hb3 := hb2.below b3; have l3 := l2.trans (b3.mono l2.size); have s3 : w3.cell? ⟨w.heap.size, 2, none⟩ = some (.int .i64 s) ∧ w3.cell? ⟨w.heap.size, 3, none⟩ = some (.slice a zs.length c) := ⟨hb3.c2, hb3.c3⟩)))
  all_goals
    go_wp2
    go_ret
    exact ⟨rfl, l3⟩
end Go.Proofs.YtdljajjgppcjpaaGreat.O1

/- What Undo makes of a memory; contracts of spec.Undo and impl.Undo, as the given laws call them. -/
namespace Go.Proofs.YtdljajjgppcjpaaGreat.N13
open Go.ChangeShapes Go.WideShapes Go.ChangeAt Go.RowKit
set_option linter.unusedVariables false
set_option linter.unusedSimpArgs false
set_option maxRecDepth 10000

open N0 (Ln)
open N1 (Sl Lists Fit LB lb_new)

/-- The lent pages as they were, one behind the other. -/
def uPg (d : Ln) (m : ByteArray) : Nat → ByteArray
  | 0 => m
  | k + 1 => B5.laid (uPg d m k) (d.pg.getD k 0 * 32) (B2.part d.sav ((k : Int) * 32) 32)

/-- The fresh records as zeros. -/
def uFr (d : Ln) (m : ByteArray) : Nat → ByteArray
  | 0 => m
  | k + 1 => B5.laid (uFr d m k) (L1.recAt (d.fr.getD k 0)) (B4.zeros 16)

def undone (mem : ByteArray) (d : Ln) : ByteArray := uFr d (uPg d (B5.laid mem (L1.recAt d.ino) d.rc) d.pg.length) d.fr.length

/-- What Undo answers. -/
def undo (mem : ByteArray) (d : Ln) : ByteArray := if N0.loanOk d = true ∧ mem.size = 768 then undone mem d else mem

theorem laid_size (s : ByteArray) (i : Int) (t : ByteArray) : (B5.laid s i t).size = s.size := by
  unfold B5.laid
  split
  · rename_i h
    obtain ⟨h1, h2, h3⟩ := B2.lies_true h
    simp only [ByteArray.size_append, ByteArray.size_extract]
    omega
  · rfl

theorem uPg_size (d : Ln) (m : ByteArray) : ∀ k, (uPg d m k).size = m.size
  | 0 => rfl
  | k + 1 => by rw [uPg, laid_size, uPg_size d m k]
theorem uFr_size (d : Ln) (m : ByteArray) : ∀ k, (uFr d m k).size = m.size
  | 0 => rfl
  | k + 1 => by rw [uFr, laid_size, uFr_size d m k]

theorem zeros_le : (B4.zeros 16).size ≤ 281474976710656 := by
  unfold B4.zeros
  split
  · rw [B4.nulls_size]; decide
  · exact Nat.zero_le _

/-- The boxed loan. -/
structure Bx (w : World) (d : Ln) (s : Sl) (W : World) : Prop where
  arg : LB w.heap.size d s W
  bel : Below w.heap.size w W

variable {w W W' : World} {d : Ln} {s : Sl}
theorem Bx.below (h : Bx w d s W) (hb : Below W.heap.size W W') : Bx w d s W' := ⟨h.arg.below hb, h.bel.trans (hb.mono h.bel.size)⟩
theorem Bx.drewN (h : Bx w d s W) (m : Nat) : Bx w d s (W.drewN m) := ⟨⟨h.arg.b.drewN m⟩, K0.below_drewN h.bel m⟩
theorem bx_new (w : World) (d : Ln) (s : Sl) : Bx w d s (N10.w0 w d s) := ⟨lb_new d s w 26, K0.below_new _ _⟩

theorem l03Page0 (mem : ByteArray) (k : Nat) (w : World) (hs : mem.size ≤ 281474976710656) (hk : k ≤ 100) :
    Calls Tryz.prog 32 #[.string mem, .int .i64 (k : Int)] w fun e w' => e = .returned (.string (B2.part mem ((k : Int) * 32) 32)) ∧ w' = w := by
  have hm : mem.size ≤ maxLen := by unfold maxLen; omega
  have hw : IntKind.i64.wrap ((k : Int) * 32) = (k : Int) * 32 := by rw [IntKind.wrap_i64]; omega
  have hpt := B2.spec_Part mem ((k : Int) * 32) 32 w hm (N11.wf_of _ (by omega) (by omega)) (by decide)
  go_enter Tryz.func32, Tryz.ntmps32
  go_wp2_with (go_at_call 43; refine hpt.mono ?_; rintro e w' ⟨rfl, rfl⟩)
  go_ret
  exact ⟨rfl, rfl⟩

set_option maxHeartbeats 4000000 in
theorem impl_Undo (mem : ByteArray) (d : Ln) (s : Sl) (w : World) (hms : mem.size ≤ 281474976710656) (hF : Fit d s) (hpo : d.po.length ≤ 1048576) (hfr : d.fr.length ≤ 1048576) (hR : Lists w d s) :
    Calls Tryz.prog 7 #[.string mem, N1.val d s] w fun e w' => e = .returned (.string (undo mem d)) ∧ Below w.heap.size w w' := by
  have x0 := bx_new w d s
  have HL : Hid (∀ W, Below w.heap.size w W → Lists W d s) := fun W hb => hR.below hb
  have HO : Hid (∀ W, Below w.heap.size w W → Calls Tryz.prog 15 #[N1.val d s] W fun e w' => e = .returned (.bool (N0.loanOk d)) ∧ Below W.heap.size W w') := fun W hb => N10.impl_LoanOk d s W hF hpo hfr (hR.below hb)
  have hrs := hF.m4
  have hss := hF.m5
  clear hR hF
  cases hok : N0.loanOk d with
  | false =>
    rw [hok] at HO
    have HU : Hid (undo mem d = mem) := by
      show undo mem d = mem
      rw [undo, if_neg]
      rintro ⟨h, _⟩
      rw [hok] at h
      cases h
    rw [HU.out]
    clear HU hok
    go_enter Tryz.func7, Tryz.ntmps7
    go_wp2_with (first
      | (go_at_call 15; refine (HO.out _ x0.bel).mono ?_; rintro e w1 ⟨rfl, b1⟩; have x1 := x0.below b1)
      | (go_at_call 25; refine (B2.clone_any _ _ hms).mono ?_; rintro e w2 ⟨rfl, b2⟩; have x2 := x1.below b2))
    go_ret
    exact ⟨rfl, x2.bel⟩
  | true =>
    rw [hok] at HO
    by_cases hm : mem.size = 768
    · have g8 : ((mem.size : Int) != 768) = false := by simp; omega
      have HU : Hid (undo mem d = undone mem d) := by
        show undo mem d = _
        rw [undo, if_pos ⟨hok, hm⟩]
      obtain ⟨-, -, -, -, -, -, hp6, -, hf2, hpp, -, -, -⟩ := N0.loanOk_is hok
      have hpg : ∀ j, j < d.pg.length → 5 ≤ d.pg.getD j 0 ∧ d.pg.getD j 0 ≤ 23 := fun j hj => (N0.pagesOk_iff.1 hpp).1 _ (List.mem_append.2 (Or.inl (N0.getD_mem hj)))
      rw [HU.out]
      have h1s : (B5.laid mem (L1.recAt d.ino) d.rc).size = 768 := by rw [laid_size]; exact hm
      have HE : Hid (undone mem d = uFr d (uPg d (B5.laid mem (L1.recAt d.ino) d.rc) d.pg.length) d.fr.length) := rfl
      have hW : Hid (∀ W, Calls Tryz.prog 26 #[.string mem, .int .i64 (L1.recAt d.ino), .string d.rc] W fun e w' => e = .returned (.string (B5.laid mem (L1.recAt d.ino) d.rc)) ∧ Below W.heap.size W w') := fun W => B5.impl_With _ _ _ _ hms hrs
      obtain ⟨m1, hm1⟩ : ∃ m1, B5.laid mem (L1.recAt d.ino) d.rc = m1 := ⟨_, rfl⟩
      rw [hm1] at h1s HE hW
      rw [HE.out]
      clear HU HE hok hm1 hpp
      go_enter Tryz.func7, Tryz.ntmps7
      go_wp2_with (go_at_call 15; refine (HO.out _ x0.bel).mono ?_; rintro e w1 ⟨rfl, b1⟩; have x1 := x0.below b1)
      have x2 := x1.below (W' := w1.drew) ((Below.refl _ _).drew)
      have c0 := x2.arg.c0
      have c3 := x2.arg.c3
      have s2 : w1.drew.cell? ⟨w.heap.size, 0, none⟩ = some (.int .i64 d.ino) ∧ w1.drew.cell? ⟨w.heap.size, 3, none⟩ = some (.string d.rc) := ⟨c0, c3⟩
      go_region_held3 (fun W => W.cell? ⟨w.heap.size, 0, none⟩ = some (.int .i64 d.ino) ∧ W.cell? ⟨w.heap.size, 3, none⟩ = some (.string d.rc)) (assumption) ((first
        | (go_at_call 18; refine (L1.impl_RecAt _ _).mono ?_; rintro e w' ⟨rfl, rfl⟩)
        | (go_at_call 26; refine (hW.out _).mono ?_; rintro e w3 ⟨rfl, b3⟩; have x3 := x2.below b3; have s3 : w3.cell? ⟨w.heap.size, 0, none⟩ = some (.int .i64 d.ino) ∧ w3.cell? ⟨w.heap.size, 3, none⟩ = some (.string d.rc) := ⟨x3.arg.c0, x3.arg.c3⟩)))
      have c4 := x3.arg.c4
      clear s3 s2 c0 c3 x2 x1 b1 b3 x0
      go_wp2
      go_loopw [0, 29] (fun v i w' => ∃ k : Nat, k ≤ d.pg.length ∧ i = .int .i64 k ∧ v = .string (uPg d m1 k) ∧ Bx w d s w') (fun _ i _ => d.pg.length - (intOf i).toNat)
      case atStart => exact ⟨0, Nat.zero_le _, rfl, rfl, x3⟩
      case round =>
        obtain ⟨k, hk, rfl, rfl, xr⟩ := hrel
        have hus := uPg_size d m1 k
        by_cases hlt : k < d.pg.length
        · obtain ⟨b, off, hab, _, hcell⟩ := (HL.out _ xr.bel).r1.get hlt
          have y1 := hcell k hlt
          have hz := hpg k hlt
          have HS : Hid (B5.laid (uPg d m1 k) (d.pg.getD k 0 * 32) (B2.part d.sav ((k : Int) * 32) 32) = uPg d m1 (k + 1)) := rfl
          obtain ⟨z, ez⟩ : ∃ z, d.pg.getD k 0 = z := ⟨_, rfl⟩
          rw [ez] at y1 hz HS
          rw [hab]
          have c5 := xr.arg.c5
          have e1 : (0 : Int) ≤ (k : Int) := by omega
          have e2 : (k : Int) < (d.pg.length : Int) := by omega
          have hpt : Hid (∀ W, Calls Tryz.prog 17 #[.string d.sav, .int .i64 ((k : Int) * 32), .int .i64 32] W fun e w' => e = .returned (.string (B2.part d.sav ((k : Int) * 32) 32)) ∧ Below W.heap.size W w') := fun W => B2.impl_Part _ _ _ _ hss
          have hwt : Hid (∀ W, Calls Tryz.prog 26 #[.string (uPg d m1 k), .int .i64 (z * 32), .string (B2.part d.sav ((k : Int) * 32) 32)] W fun e w' => e = .returned (.string (B5.laid (uPg d m1 k) (z * 32) (B2.part d.sav ((k : Int) * 32) 32))) ∧ Below W.heap.size W w') := fun W => B5.impl_With _ _ _ _ (by rw [hus]; omega) (Nat.le_trans (B2.part_size _ _ _) hss)
          clear ez hcell hus
          go_wp2_with (first
            | (go_at_call 17; refine (hpt.out _).mono ?_; rintro e w4 ⟨rfl, b4⟩; have x4 := xr.below b4)
            | (go_at_call 26; refine (hwt.out _).mono ?_; rintro e w5 ⟨rfl, b5⟩; have x5 := x4.below b5))
          go_roundw
          case rel => exact ⟨k + 1, by omega, by go_num, by rw [HS.out], x5⟩
          case measure => simp [intOf]; omega
        · obtain rfl : k = d.pg.length := by omega
          have c7 := xr.arg.c7
          obtain ⟨m2, hm2⟩ : ∃ m2, uPg d m1 d.pg.length = m2 := ⟨_, rfl⟩
          have HM2 : Hid (uPg d m1 d.pg.length = m2) := hm2
          rw [hm2] at hus ⊢
          clear hm2 x3
          go_wp2
          go_loopw [0, 47] (fun v i w' => ∃ k : Nat, k ≤ d.fr.length ∧ i = .int .i64 k ∧ v = .string (uFr d m2 k) ∧ Bx w d s w') (fun _ i _ => d.fr.length - (intOf i).toNat)
          case atStart => exact ⟨0, Nat.zero_le _, rfl, rfl, xr⟩
          case round =>
            rename_i wr2
            obtain ⟨j, hj, rfl, rfl, xq⟩ := hrel
            have hvs := uFr_size d m2 j
            by_cases hlt2 : j < d.fr.length
            · obtain ⟨b, off, hab, _, hcell⟩ := (HL.out _ xq.bel).r3.get hlt2
              have y1 := hcell j hlt2
              have HS : Hid (B5.laid (uFr d m2 j) (L1.recAt (d.fr.getD j 0)) (B4.zeros 16) = uFr d m2 (j + 1)) := rfl
              obtain ⟨z, ez⟩ : ∃ z, d.fr.getD j 0 = z := ⟨_, rfl⟩
              rw [ez] at y1 HS
              rw [hab]
              have e1 : (0 : Int) ≤ (j : Int) := by omega
              have e2 : (j : Int) < (d.fr.length : Int) := by omega
              have hwt : Hid (∀ W, Calls Tryz.prog 26 #[.string (uFr d m2 j), .int .i64 (L1.recAt z), .string (B4.zeros 16)] W fun e w' => e = .returned (.string (B5.laid (uFr d m2 j) (L1.recAt z) (B4.zeros 16))) ∧ Below W.heap.size W w') := fun W => B5.impl_With _ _ _ _ (by rw [hvs]; omega) zeros_le
              clear ez hcell hvs
              go_wp2_with (first
                | (go_at_call 18; refine (L1.impl_RecAt _ _).mono ?_; rintro e w' ⟨rfl, rfl⟩)
                | (go_at_call 27; refine (B4.impl_Zeros _ _).mono ?_; rintro e w6 ⟨rfl, b6⟩; have x6 := xq.below b6)
                | (go_at_call 26; refine (hwt.out _).mono ?_; rintro e w7 ⟨rfl, b7⟩; have x7 := x6.below b7))
              go_roundw
              case rel => exact ⟨j + 1, by omega, by go_num, by rw [HS.out], x7⟩
              case measure => simp [intOf]; omega
            · obtain rfl : j = d.fr.length := by omega
              go_wp2
              go_ret
              exact ⟨by rw [HM2.out]; rfl, xq.bel⟩
    · have g8 : ((mem.size : Int) != 768) = true := by simp; omega
      have HU : Hid (undo mem d = mem) := by
        show undo mem d = mem
        rw [undo, if_neg]
        rintro ⟨_, h⟩
        exact hm h
      rw [HU.out]
      clear HU hok hm
      go_enter Tryz.func7, Tryz.ntmps7
      go_wp2_with (first
        | (go_at_call 15; refine (HO.out _ x0.bel).mono ?_; rintro e w1 ⟨rfl, b1⟩; have x1 := x0.below b1)
        | (go_at_call 25; refine (B2.clone_any _ _ hms).mono ?_; rintro e w2 ⟨rfl, b2⟩; have x2 := x1.below b2))
      go_ret
      exact ⟨rfl, x2.bel⟩
end Go.Proofs.YtdljajjgppcjpaaGreat.N13

/- The contract of spec.Undo, as the given laws call it. -/
namespace Go.Proofs.YtdljajjgppcjpaaGreat.N14
open Go.ChangeShapes Go.WideShapes Go.ChangeAt Go.RowKit
set_option linter.unusedVariables false
set_option linter.unusedSimpArgs false
set_option maxRecDepth 10000

open N0 (Ln)
open N1 (Sl Lists Fit LB lb_new)
open N13 (uPg uFr undone undo uPg_size uFr_size laid_size zeros_le Bx bx_new)

set_option maxHeartbeats 4000000 in
theorem spec_Undo (mem : ByteArray) (d : Ln) (s : Sl) (w : World) (hms : mem.size ≤ 281474976710656) (hF : Fit d s) (hpo : d.po.length ≤ 1048576) (hfr : d.fr.length ≤ 1048576) (hR : Lists w d s) :
    Calls Tryz.prog 10 #[.string mem, N1.val d s] w fun e w' => e = .returned (.string (undo mem d)) ∧ Below w.heap.size w w' := by
  have x0 := bx_new w d s
  have HL : Hid (∀ W, Below w.heap.size w W → Lists W d s) := fun W hb => hR.below hb
  have HO : Hid (∀ W, Below w.heap.size w W → Calls Tryz.prog 16 #[N1.val d s] W fun e w' => e = .returned (.bool (N0.loanOk d)) ∧ Below W.heap.size W w') := fun W hb => N11.spec_LoanOk d s W hF hpo hfr (hR.below hb)
  have hrs := hF.m4
  have hss := hF.m5
  clear hR hF
  cases hok : N0.loanOk d with
  | false =>
    rw [hok] at HO
    have HU : Hid (undo mem d = mem) := by
      show undo mem d = mem
      rw [undo, if_neg]
      rintro ⟨h, _⟩
      rw [hok] at h
      cases h
    rw [HU.out]
    clear HU hok
    go_enter Tryz.func10, Tryz.ntmps10
    go_wp2_with (go_at_call 16; refine (HO.out _ x0.bel).mono ?_; rintro e w1 ⟨rfl, b1⟩; have x1 := x0.below b1)
    go_ret
    exact ⟨rfl, x1.bel⟩
  | true =>
    rw [hok] at HO
    by_cases hm : mem.size = 768
    · have g8 : ((mem.size : Int) != 768) = false := by simp; omega
      have HU : Hid (undo mem d = undone mem d) := by
        show undo mem d = _
        rw [undo, if_pos ⟨hok, hm⟩]
      obtain ⟨-, -, -, -, -, -, hp6, -, hf2, hpp, -, -, -⟩ := N0.loanOk_is hok
      have hpg : ∀ j, j < d.pg.length → 5 ≤ d.pg.getD j 0 ∧ d.pg.getD j 0 ≤ 23 := fun j hj => (N0.pagesOk_iff.1 hpp).1 _ (List.mem_append.2 (Or.inl (N0.getD_mem hj)))
      rw [HU.out]
      have h1s : (B5.laid mem (L1.recAt d.ino) d.rc).size = 768 := by rw [laid_size]; exact hm
      have HE : Hid (undone mem d = uFr d (uPg d (B5.laid mem (L1.recAt d.ino) d.rc) d.pg.length) d.fr.length) := rfl
      have hW : Hid (∀ W, Calls Tryz.prog 30 #[.string mem, .int .i64 (L1.recAt d.ino), .string d.rc] W fun e w' => e = .returned (.string (B5.laid mem (L1.recAt d.ino) d.rc)) ∧ ∃ n, w' = W.drewN n) := fun W => B5.spec_With _ _ _ _ hms hrs
      obtain ⟨m1, hm1⟩ : ∃ m1, B5.laid mem (L1.recAt d.ino) d.rc = m1 := ⟨_, rfl⟩
      rw [hm1] at h1s HE hW
      rw [HE.out]
      clear HU HE hok hm1 hpp
      go_enter Tryz.func10, Tryz.ntmps10
      go_wp2_with (go_at_call 16; refine (HO.out _ x0.bel).mono ?_; rintro e w1 ⟨rfl, b1⟩; have x1 := x0.below b1; have c0 := x1.arg.c0; have c3 := x1.arg.c3)
      go_quiet ((first
        | (go_at_call 31; exact Calls.quiet_of_same (L1.spec_RecAt _ _))
        | (go_at_call 30; exact Calls.quiet_of (hW.out _))))
      have x3 := x1.drewN nq
      obtain ⟨w3, hw3⟩ : ∃ w3, w1.drewN nq = w3 := ⟨_, rfl⟩
      rw [hw3] at x3 ⊢
      clear c0 c3 x1 b1 x0 hw3
      go_wp2
      go_loopw [0, 5] (fun v i w' => ∃ k : Nat, k ≤ d.pg.length ∧ i = .int .i64 k ∧ v = .string (uPg d m1 k) ∧ Bx w d s w') (fun _ i _ => d.pg.length - (intOf i).toNat)
      case atStart => exact ⟨0, Nat.zero_le _, rfl, rfl, x3⟩
      case round =>
        obtain ⟨k, hk, rfl, rfl, xr⟩ := hrel
        have hus := uPg_size d m1 k
        have c4 := xr.arg.c4
        have c5 := xr.arg.c5
        by_cases hlt : k < d.pg.length
        · obtain ⟨b, off, hab, _, hcell⟩ := (HL.out _ xr.bel).r1.get hlt
          have y1 := hcell k hlt
          have hz := hpg k hlt
          have HS : Hid (B5.laid (uPg d m1 k) (d.pg.getD k 0 * 32) (B2.part d.sav ((k : Int) * 32) 32) = uPg d m1 (k + 1)) := rfl
          obtain ⟨z, ez⟩ : ∃ z, d.pg.getD k 0 = z := ⟨_, rfl⟩
          rw [ez] at y1 hz HS
          rw [hab] at c4
          clear hab
          have e1 : (0 : Int) ≤ (k : Int) := by omega
          have e2 : (k : Int) < (d.pg.length : Int) := by omega
          have hpt : Hid (∀ W, Calls Tryz.prog 32 #[.string d.sav, .int .i64 (k : Int)] W fun e w' => e = .returned (.string (B2.part d.sav ((k : Int) * 32) 32)) ∧ w' = W) := fun W => N13.l03Page0 _ _ _ hss (by omega)
          have hwt : Hid (∀ W, Calls Tryz.prog 30 #[.string (uPg d m1 k), .int .i64 (z * 32), .string (B2.part d.sav ((k : Int) * 32) 32)] W fun e w' => e = .returned (.string (B5.laid (uPg d m1 k) (z * 32) (B2.part d.sav ((k : Int) * 32) 32))) ∧ ∃ n, w' = W.drewN n) := fun W => B5.spec_With _ _ _ _ (by rw [hus]; omega) (Nat.le_trans (B2.part_size _ _ _) hss)
          clear ez hcell hus
          go_wp2
          go_quiet ((first
            | (go_at_call 32; exact Calls.quiet_of_same (hpt.out _))
            | (go_at_call 30; exact Calls.quiet_of (hwt.out _))))
          have x5 := xr.drewN nq
          go_wp2
          go_roundw
          case rel => exact ⟨k + 1, by omega, by go_num, by rw [HS.out], x5⟩
          case measure => simp [intOf]; omega
        · obtain rfl : k = d.pg.length := by omega
          have e9 : decide ((d.pg.length : Int) < (d.pg.length : Int)) = false := by simp
          obtain ⟨m2, hm2⟩ : ∃ m2, uPg d m1 d.pg.length = m2 := ⟨_, rfl⟩
          have HM2 : Hid (uPg d m1 d.pg.length = m2) := hm2
          rw [hm2] at hus ⊢
          clear hm2 x3 c5
          go_wp2
          go_loopw [0, 6] (fun v i w' => ∃ k : Nat, k ≤ d.fr.length ∧ i = .int .i64 k ∧ v = .string (uFr d m2 k) ∧ Bx w d s w') (fun _ i _ => d.fr.length - (intOf i).toNat)
          case atStart => exact ⟨0, Nat.zero_le _, rfl, rfl, xr⟩
          case round =>
            rename_i wr2
            obtain ⟨j, hj, rfl, rfl, xq⟩ := hrel
            have hvs := uFr_size d m2 j
            have c7 := xq.arg.c7
            by_cases hlt2 : j < d.fr.length
            · obtain ⟨b, off, hab, _, hcell⟩ := (HL.out _ xq.bel).r3.get hlt2
              have y1 := hcell j hlt2
              have HS : Hid (B5.laid (uFr d m2 j) (L1.recAt (d.fr.getD j 0)) (B4.zeros 16) = uFr d m2 (j + 1)) := rfl
              obtain ⟨z, ez⟩ : ∃ z, d.fr.getD j 0 = z := ⟨_, rfl⟩
              rw [ez] at y1 HS
              rw [hab] at c7
              clear hab
              have e1 : (0 : Int) ≤ (j : Int) := by omega
              have e2 : (j : Int) < (d.fr.length : Int) := by omega
              have hwt : Hid (∀ W, Calls Tryz.prog 30 #[.string (uFr d m2 j), .int .i64 (L1.recAt z), .string (B4.zeros 16)] W fun e w' => e = .returned (.string (B5.laid (uFr d m2 j) (L1.recAt z) (B4.zeros 16))) ∧ ∃ n, w' = W.drewN n) := fun W => B5.spec_With _ _ _ _ (by rw [hvs]; omega) zeros_le
              clear ez hcell hvs
              go_wp2_with (first
                | (go_at_call 31; refine (L1.spec_RecAt _ _).mono ?_; rintro e w' ⟨rfl, rfl⟩)
                | (go_at_call 33; refine (B4.spec_Zeros _ _).mono ?_; rintro e w' ⟨rfl, rfl⟩)
                | (go_at_call 30; refine (hwt.out _).mono ?_; rintro e w7 ⟨rfl, m7, rfl⟩; have x7 := xq.drewN m7))
              go_roundw
              case rel => exact ⟨j + 1, by omega, by go_num, by rw [HS.out], x7⟩
              case measure => simp [intOf]; omega
            · obtain rfl : j = d.fr.length := by omega
              have e8 : decide ((d.fr.length : Int) < (d.fr.length : Int)) = false := by simp
              go_wp2
              go_ret
              exact ⟨by rw [HM2.out]; rfl, xq.bel⟩
    · have g8 : ((mem.size : Int) != 768) = true := by simp; omega
      have HU : Hid (undo mem d = mem) := by
        show undo mem d = mem
        rw [undo, if_neg]
        rintro ⟨_, h⟩
        exact hm h
      rw [HU.out]
      clear HU hok hm
      go_enter Tryz.func10, Tryz.ntmps10
      go_wp2_with (go_at_call 16; refine (HO.out _ x0.bel).mono ?_; rintro e w1 ⟨rfl, b1⟩; have x1 := x0.below b1)
      go_ret
      exact ⟨rfl, x1.bel⟩
end Go.Proofs.YtdljajjgppcjpaaGreat.N14

/- What Truth tells; contracts of spec.Truth and impl.Truth, as the given laws call them. -/
namespace Go.Proofs.YtdljajjgppcjpaaGreat.Z4
open Go.ChangeShapes Go.WideShapes Go.ChangeAt Go.RowKit
set_option linter.unusedVariables false
set_option linter.unusedSimpArgs false
set_option maxRecDepth 10000

open N0 (Ln)
open N1 (Sl Fit Lists val)
open N13 (undo uPg_size uFr_size laid_size)
open Z0 (dat Row Lns Kp kval kvals)

theorem undo_size (m : ByteArray) (d : Ln) : (undo m d).size = m.size := by
  unfold undo
  split
  · rw [N13.undone, uFr_size, uPg_size, laid_size]
  · rfl

/-- A memory with the first loans undone. -/
def unAll (ds : List Ln) (m : ByteArray) : Nat → ByteArray
  | 0 => m
  | k + 1 => undo (unAll ds m k) (dat ds k)

theorem unAll_size (ds : List Ln) (m : ByteArray) : ∀ k, (unAll ds m k).size = m.size
  | 0 => rfl
  | k + 1 => by rw [unAll, undo_size, unAll_size ds m k]

/-- What is there without what is lent. -/
def truth (k : Kp) : ByteArray := unAll k.ds k.mem k.ds.length

/-- A keeper in its box. -/
structure Bk (w : World) (k : Kp) (a : Option Addr) (c : Nat) (W : World) : Prop where
  arg : K0.Blk w.heap.size (kvals k a c) W
  bel : Below w.heap.size w W
variable {w W W' : World} {k : Kp} {a : Option Addr} {c : Nat}
theorem Bk.below (h : Bk w k a c W) (hb : Below W.heap.size W W') : Bk w k a c W' := ⟨h.arg.below hb, h.bel.trans (hb.mono h.bel.size)⟩
theorem bk_new (w : World) (k : Kp) (a : Option Addr) (c : Nat) : Bk w k a c (w.alloc (.cells #[.string k.mem, .string k.dur, .slice a k.ds.length c, .int .i64 k.ck] 51)) := ⟨K0.blk_new (kvals k a c) w 51, K0.below_new _ _⟩

/-- What a list of loans must keep to, to be walked. -/
def Fits (ds : List Ln) (ss : Nat → Sl) : Prop := ∀ j, j < ds.length → Fit (dat ds j) (ss j) ∧ (dat ds j).po.length ≤ 1048576 ∧ (dat ds j).fr.length ≤ 1048576

set_option maxHeartbeats 4000000 in
theorem spec_Truth (k : Kp) (a : Option Addr) (c : Nat) (ss : Nat → Sl) (w : World) (hms : k.mem.size ≤ 281474976710656) (hn : k.ds.length ≤ 1048576) (hF : Fits k.ds ss) (hR : Lns w a k.ds ss) :
    Calls Tryz.prog 48 #[kval k a c] w fun e w' => e = .returned (.string (truth k)) ∧ Below w.heap.size w w' := by
  have x0 := bk_new w k a c
  have HL : Hid (∀ W, Below w.heap.size w W → Lns W a k.ds ss) := fun W hb => hR.below hb
  have HT : Hid (truth k = unAll k.ds k.mem k.ds.length) := rfl
  have HF : Hid (Fits k.ds ss) := hF
  clear hR hF
  go_enter Tryz.func48, Tryz.ntmps48
  go_wp2
  go_loopw [3, 4] (fun v i w' => ∃ j : Nat, j ≤ k.ds.length ∧ i = .int .i64 j ∧ v = .string (unAll k.ds k.mem j) ∧ Bk w k a c w') (fun _ i _ => k.ds.length - (intOf i).toNat)
  case atStart => exact ⟨0, Nat.zero_le _, rfl, rfl, x0⟩
  case round =>
    obtain ⟨j, hj, rfl, rfl, xr⟩ := hrel
    clear x0
    have hus := unAll_size k.ds k.mem j
    have c2 := xr.arg.c2
    by_cases hlt : j < k.ds.length
    · have ls := (HL.out _ xr.bel).sub j hlt
      obtain ⟨hf, hpo, hfr⟩ := HF.out j hlt
      obtain ⟨b, off, hab, hlt0, hc⟩ := (HL.out _ xr.bel).row.get hlt
      obtain ⟨y0, y1, y2, y3, y4, y5, y6, y7⟩ := hc j hlt
      have HS : Hid (undo (unAll k.ds k.mem j) (dat k.ds j) = unAll k.ds k.mem (j + 1)) := rfl
      obtain ⟨d, ed⟩ : ∃ d, dat k.ds j = d := ⟨_, rfl⟩
      obtain ⟨s, es⟩ : ∃ s, ss j = s := ⟨_, rfl⟩
      rw [ed, es] at ls hf
      rw [ed] at y0 y1 y2 y3 y4 y5 y6 y7 HS hpo hfr
      rw [es] at y4 y6 y7
      rw [hab] at c2
      clear hab
      have e1 : (0 : Int) ≤ (j : Int) := by omega
      have e2 : (j : Int) < (k.ds.length : Int) := by omega
      have HU : Hid (Calls Tryz.prog 10 #[.string (unAll k.ds k.mem j), val d s] wr fun e w' => e = .returned (.string (undo (unAll k.ds k.mem j) d)) ∧ Below wr.heap.size wr w') := N14.spec_Undo _ d s wr (by omega) hf hpo hfr ls
      clear ed es hc ls hf
      go_wp2_with (go_at_call 10; refine HU.out.mono ?_; rintro e w1 ⟨rfl, b1⟩; have x1 := xr.below b1)
      go_roundw
      case rel => exact ⟨j + 1, by omega, by go_num, by rw [HS.out], x1⟩
      case measure => simp [intOf]; omega
    · obtain rfl : j = k.ds.length := by omega
      have e9 : decide ((k.ds.length : Int) < (k.ds.length : Int)) = false := by simp
      go_wp2
      go_ret
      exact ⟨by rw [HT.out]; rfl, xr.bel⟩

set_option maxHeartbeats 4000000 in
theorem impl_Truth (k : Kp) (a : Option Addr) (c : Nat) (ss : Nat → Sl) (w : World) (hms : k.mem.size ≤ 281474976710656) (hn : k.ds.length ≤ 1048576) (hF : Fits k.ds ss) (hR : Lns w a k.ds ss) :
    Calls Tryz.prog 98 #[kval k a c] w fun e w' => e = .returned (.string (truth k)) ∧ Below w.heap.size w w' := by
  have x0 := bk_new w k a c
  have HL : Hid (∀ W, Below w.heap.size w W → Lns W a k.ds ss) := fun W hb => hR.below hb
  have HT : Hid (truth k = unAll k.ds k.mem k.ds.length) := rfl
  have HF : Hid (Fits k.ds ss) := hF
  clear hR hF
  go_enter Tryz.func98, Tryz.ntmps98
  go_wp2_with (go_at_call 25; refine (B2.clone_any _ _ hms).mono ?_; rintro e w2 ⟨rfl, b2⟩; have x2 := x0.below b2; have c2 := x2.arg.c2)
  go_loopw [3, 13] (fun v i w' => ∃ j : Nat, j ≤ k.ds.length ∧ i = .int .i64 j ∧ v = .string (unAll k.ds k.mem j) ∧ Bk w k a c w') (fun _ i _ => k.ds.length - (intOf i).toNat)
  case atStart => exact ⟨0, Nat.zero_le _, rfl, rfl, x2⟩
  case round =>
    obtain ⟨j, hj, rfl, rfl, xr⟩ := hrel
    clear x0 x2 c2 b2
    have hus := unAll_size k.ds k.mem j
    by_cases hlt : j < k.ds.length
    · have ls := (HL.out _ xr.bel).sub j hlt
      obtain ⟨hf, hpo, hfr⟩ := HF.out j hlt
      obtain ⟨b, off, hab, hlt0, hc⟩ := (HL.out _ xr.bel).row.get hlt
      obtain ⟨y0, y1, y2, y3, y4, y5, y6, y7⟩ := hc j hlt
      have HS : Hid (undo (unAll k.ds k.mem j) (dat k.ds j) = unAll k.ds k.mem (j + 1)) := rfl
      obtain ⟨d, ed⟩ : ∃ d, dat k.ds j = d := ⟨_, rfl⟩
      obtain ⟨s, es⟩ : ∃ s, ss j = s := ⟨_, rfl⟩
      rw [ed, es] at ls hf
      rw [ed] at y0 y1 y2 y3 y4 y5 y6 y7 HS hpo hfr
      rw [es] at y4 y6 y7
      rw [hab]
      have e1 : (0 : Int) ≤ (j : Int) := by omega
      have e2 : (j : Int) < (k.ds.length : Int) := by omega
      have HU : Hid (∀ W, Below wr.heap.size wr W → Calls Tryz.prog 7 #[.string (unAll k.ds k.mem j), val d s] W fun e w' => e = .returned (.string (undo (unAll k.ds k.mem j) d)) ∧ Below W.heap.size W w') := fun W hb => N13.impl_Undo _ d s W (by omega) hf hpo hfr (ls.below hb)
      clear ed es hc ls hf
      have hal := K0.below_new wr (.cells #[.int .i64 d.ino, .int .i64 d.cl, .int .i64 d.un, .string d.rc, .slice s.a1 d.pg.length s.c1, .string d.sav, .slice s.a2 d.po.length s.c2, .slice s.a3 d.fr.length s.c3] 26)
      have x5 := xr.below hal
      go_wp2_with (go_at_call 7; refine (HU.out _ hal).mono ?_; rintro e w1 ⟨rfl, b1⟩; have x6 := x5.below b1)
      go_roundw
      case rel => exact ⟨j + 1, by omega, by go_num, by rw [HS.out], hab ▸ x6⟩
      case measure => simp [intOf]; omega
    · obtain rfl : j = k.ds.length := by omega
      go_wp2
      go_ret
      exact ⟨by rw [HT.out]; rfl, xr.bel⟩
end Go.Proofs.YtdljajjgppcjpaaGreat.Z4

/- Contracts of impl.allAmong, spec.l05Among, impl.hasIno, impl.past's had and isLike, spec.l05Inos and slices.Clone, as the given laws call them. -/
namespace Go.Proofs.YtdljajjgppcjpaaGreat.D0
open Go.ChangeShapes Go.WideShapes Go.ChangeAt Go.RowKit
set_option linter.unusedVariables false
set_option linter.unusedSimpArgs false
set_option maxRecDepth 10000

open N0 (Ln)
open N5 (pv)
open P1 (ret_bool)
open J0 (IBuf Own)

/-- The inodes of entries. -/
def inos (es : List T0.Ent) : List Int := es.map (·.1)

theorem inos_length (es : List T0.Ent) : (inos es).length = es.length := by simp [inos]
theorem inos_take (es : List T0.Ent) (k : Nat) (h : k < es.length) : inos (es.take (k + 1)) = inos (es.take k) ++ [(T0.ent es k).1] := by
  unfold inos
  rw [List.take_succ_eq_append_getElem h, List.map_append, T0.ent_get _ _ h]
  rfl
theorem inos_get (es : List T0.Ent) (k : Nat) (h : k < es.length) : (inos es).getD k 0 = (T0.ent es k).1 := by
  rw [P0.getD_get _ _ (by rw [inos_length]; exact h), T0.ent_get _ _ h]
  simp [inos]

def noAt (es : List T0.Ent) (x : Int) (i : Nat) : Bool := !decide ((T0.ent es i).1 = x)

theorem has_inos_no {es : List T0.Ent} {x : Int} (h : N0.to (noAt es x) es.length = true) : P0.has (inos es) x = false := by
  refine N0.has_not.2 fun hm => ?_
  obtain ⟨i, hi, e⟩ := N0.mem_getD hm
  rw [inos_length] at hi
  have := N0.to_iff.1 h i hi
  rw [inos_get _ _ hi] at e
  simp only [noAt, Bool.not_eq_true', decide_eq_false_iff_not] at this
  exact this e
theorem has_inos_yes {es : List T0.Ent} {x : Int} {k : Nat} (hk : k < es.length) (h : (T0.ent es k).1 = x) : P0.has (inos es) x = true := by
  refine N0.has_iff.2 ?_
  rw [← h, ← inos_get es k hk]
  exact N0.getD_mem (by rw [inos_length]; exact hk)

theorem clone (a : Option Addr) (c : Nat) (zs : List Int) (w : World) (hn : zs.length ≤ 1000) (hR : P0.Row w a zs) :
    Calls Tryz.prog 104 #[.slice a zs.length c] w fun e w' => ∃ a' c', e = .returned (.slice a' zs.length c') ∧ IBuf w.heap.size w' a' zs.length c' zs ∧ Below w.heap.size w w' := by
  have qn : ∀ (w : World) (a : Option Addr) (n c n' c' : Nat), (binOp .eql 24 (.slice a n c) (.slice none n' c')).run Tryz.prog w = .ok (.bool a.isNone) w := fun w a n c n' c' => Lib.run_eql_slice_nil w _ _ a n c n' c' Tryz.underlying24
  cases a with
  | none =>
    have h0 : zs = [] := by
      rcases hR with h | ⟨b, off, h, _⟩
      · exact h
      · cases h
    subst h0
    go_enter Tryz.func104, Tryz.ntmps104
    go_wp2
    go_ret
    exact ⟨none, 0, rfl, J0.ibuf_nil _, Below.refl _ _⟩
  | some p =>
    have b0 := J0.ibuf_made w (Nat.le_refl _)
    have l0 := K0.below_new w (.cells #[] 3)
    have r0 := hR.below l0
    clear hR
    go_enter Tryz.func104, Tryz.ntmps104
    go_wp2_with (at_builtin; refine Q1.append_rows rfl (.tmp 5) (.tmp 6) rfl b0 _ _ zs (by rfl) (by rfl) r0 (by omega) l0.size ?_; intro a1 c1 w1 b1 l1)
    go_ret
    exact ⟨a1, c1, by simp, by simpa using b1, l0.trans l1⟩
end Go.Proofs.YtdljajjgppcjpaaGreat.D0
