/- Joined texts: plain facts and contracts. -/
import Derived.Test.YthbcefopbmkppaaGreatJlL
import Derived.Test.YthbcefopbmkppaaGreatJlH
import Derived.Test.YthbcefopbmkppaaGreatJlB
import Derived.Test.YthbcefopbmkppaaGreatJlG
set_option linter.unusedVariables false
set_option linter.unusedSimpArgs false
set_option maxRecDepth 10000
namespace Go.Proofs.YthbcefopbmkppaaGreat.N10
open Go.ChangeShapes Go.WideShapes Go.ChangeAt Go.RowKit
open N0 (Ln)
open N1 (Sl Lists Fit LB lb_new)
open P1 (ret_bool quiet_bool)
theorem impl_LoanOk (d : Ln) (s : Sl) (w : World) (hF : Fit d s) (hpo : d.po.length ≤ 1048576) (hfr : d.fr.length ≤ 1048576) (hR : Lists w d s) :
  Calls Tryz.prog 14 #[N1.val d s] w fun e w' => e = .returned (.bool (N0.loanOk d)) ∧ Below w.heap.size w w' := by
 have hB := K0.below_new w (.cells #[.int .i64 d.ino, .int .i64 d.cl, .int .i64 d.un, .string d.rc, .slice s.a1 d.pg.length s.c1, .string d.sav, .slice s.a2 d.po.length s.c2, .slice s.a3 d.fr.length s.c3] 26)
 have HC : Hid (Calls Tryz.prog 32 #[N1.val d s] (w.alloc (.cells #[.int .i64 d.ino, .int .i64 d.cl, .int .i64 d.un, .string d.rc, .slice s.a1 d.pg.length s.c1, .string d.sav, .slice s.a2 d.po.length s.c2, .slice s.a3 d.fr.length s.c3] 26)) fun e w' => ∃ (k o t : Int) (a : Option Addr) (n c : Nat) (ae : Option Addr) (ne ce : Nat) (d' : Ln) (s' : Sl), e = .returned (.tuple #[N7.tv k o t a n c ae ne ce d' s', .bool (N0.loanOk d)]) ∧ Below (w.alloc (.cells #[.int .i64 d.ino, .int .i64 d.cl, .int .i64 d.un, .string d.rc, .slice s.a1 d.pg.length s.c1, .string d.sav, .slice s.a2 d.po.length s.c2, .slice s.a3 d.fr.length s.c3] 26)).heap.size (w.alloc (.cells #[.int .i64 d.ino, .int .i64 d.cl, .int .i64 d.un, .string d.rc, .slice s.a1 d.pg.length s.c1, .string d.sav, .slice s.a2 d.po.length s.c2, .slice s.a3 d.fr.length s.c3] 26)) w') := (N9.readLoan d s _ hF hpo hfr (hR.alloc _)).mono fun e w' ⟨k, o, t, a, n, c, ae, ne, ce, d', s', he, hb, _⟩ => ⟨k, o, t, a, n, c, ae, ne, ce, d', s', he, hb⟩
 clear hR hF
 go_enter Tryz.func14, Tryz.ntmps14
 go_wp2_with (go_at_call 32; refine HC.out.mono ?_; rintro e w1 ⟨k, o, t, a, n, c, ae, ne, ce, d', s', rfl, b1⟩)
 go_ret
 exact ⟨rfl, (hB.trans (b1.mono hB.size)).alloc (Nat.le_trans hB.size b1.size) _⟩
theorem first_cases (d : Ln) :
  (G0.isI d.rc = false ∧ N0.sFirst d = false) ∨ (G0.isI d.rc = true ∧ (G0.gK d.rc == 0) = true ∧ N0.sFirst d = false) ∨
  (G0.isI d.rc = true ∧ (G0.gK d.rc == 0) = false ∧ B1.inB d.ino 0 7 = false ∧ N0.sFirst d = false) ∨
  (G0.isI d.rc = true ∧ (G0.gK d.rc == 0) = false ∧ B1.inB d.ino 0 7 = true ∧ B1.inB d.cl 0 8 = false ∧ N0.sFirst d = false) ∨
  (G0.isI d.rc = true ∧ (G0.gK d.rc == 0) = false ∧ B1.inB d.ino 0 7 = true ∧ B1.inB d.cl 0 8 = true ∧ d.un < 0 ∧ N0.sFirst d = false) ∨
  (G0.isI d.rc = true ∧ (G0.gK d.rc == 0) = false ∧ B1.inB d.ino 0 7 = true ∧ B1.inB d.cl 0 8 = true ∧ decide (d.un < 0) = false ∧ decide (G0.gZ d.rc = d.pg) = false ∧ N0.sFirst d = false) ∨
  (G0.isI d.rc = true ∧ (G0.gK d.rc == 0) = false ∧ B1.inB d.ino 0 7 = true ∧ B1.inB d.cl 0 8 = true ∧ decide (d.un < 0) = false ∧ decide (G0.gZ d.rc = d.pg) = true ∧ ((d.sav.size : Int) != (d.pg.length : Int) * 32) = true ∧ N0.sFirst d = false) ∨
  (G0.isI d.rc = true ∧ (G0.gK d.rc == 0) = false ∧ B1.inB d.ino 0 7 = true ∧ B1.inB d.cl 0 8 = true ∧ decide (d.un < 0) = false ∧ decide (G0.gZ d.rc = d.pg) = true ∧ ((d.sav.size : Int) != (d.pg.length : Int) * 32) = false ∧ N0.sFirst d = true) := by
 unfold N0.sFirst
 cases hI : G0.isI d.rc with
 | false => exact Or.inl ⟨rfl, rfl⟩
 | true =>
  right
  by_cases h0 : G0.gK d.rc = 0
  ·left
   exact ⟨rfl, by simpa using h0, by rw [decide_eq_true h0]; rfl⟩
  ·right
   have h0' : (G0.gK d.rc == 0) = false := by simpa using h0
   rw [decide_eq_false h0, h0']
   cases h1 : B1.inB d.ino 0 7 with
   | false => exact Or.inl ⟨rfl, rfl, rfl, rfl⟩
   | true =>
    right
    cases h2 : B1.inB d.cl 0 8 with
    | false => exact Or.inl ⟨rfl, rfl, rfl, rfl, rfl⟩
    | true =>
     right
     by_cases h3 : d.un < 0
     ·exact Or.inl ⟨rfl, rfl, rfl, rfl, h3, by rw [decide_eq_true h3]; rfl⟩
     ·right
      rw [decide_eq_false h3]
      by_cases hz : G0.gZ d.rc = d.pg
      ·right
       rw [decide_eq_true hz]
       by_cases hs : d.sav.size = d.pg.length * 32
       ·right
        exact ⟨rfl, rfl, rfl, rfl, rfl, rfl, by simp; omega, by rw [decide_eq_true hs]; rfl⟩
       ·left
        exact ⟨rfl, rfl, rfl, rfl, rfl, rfl, by simp; omega, by rw [decide_eq_false hs]; rfl⟩
      ·left
       rw [decide_eq_false hz]
       exact ⟨rfl, rfl, rfl, rfl, rfl, rfl, rfl⟩
theorem last_cases (d : Ln) (K : Int) (hK : G0.gK d.rc = K) :
  (N0.up d.po 5 23 = false ∧ N0.sLast d = false) ∨ (N0.up d.po 5 23 = true ∧ decide ((d.po.length : Int) ≤ 4) = false ∧ N0.sLast d = false) ∨
  (N0.up d.po 5 23 = true ∧ (d.po.length : Int) ≤ 4 ∧ N0.up d.fr 1 7 = false ∧ N0.sLast d = false) ∨
  (N0.up d.po 5 23 = true ∧ (d.po.length : Int) ≤ 4 ∧ N0.up d.fr 1 7 = true ∧ decide ((d.fr.length : Int) ≤ 2) = false ∧ N0.sLast d = false) ∨
  (N0.up d.po 5 23 = true ∧ (d.po.length : Int) ≤ 4 ∧ N0.up d.fr 1 7 = true ∧ (d.fr.length : Int) ≤ 2 ∧ P0.has d.fr d.ino = true ∧ N0.sLast d = false) ∨
  (N0.up d.po 5 23 = true ∧ (d.po.length : Int) ≤ 4 ∧ N0.up d.fr 1 7 = true ∧ (d.fr.length : Int) ≤ 2 ∧ P0.has d.fr d.ino = false ∧ (K == 2) = true ∧ N0.sLast d = true) ∨
  (N0.up d.po 5 23 = true ∧ (d.po.length : Int) ≤ 4 ∧ N0.up d.fr 1 7 = true ∧ (d.fr.length : Int) ≤ 2 ∧ P0.has d.fr d.ino = false ∧ (K == 2) = false ∧ N0.sLast d = ((d.fr.length : Int) == 0)) := by
 unfold N0.sLast
 rw [hK]
 cases h1 : N0.up d.po 5 23 with
 | false => exact Or.inl ⟨rfl, rfl⟩
 | true =>
  right
  by_cases h2 : d.po.length ≤ 4
  ·right
   rw [decide_eq_true h2]
   cases h3 : N0.up d.fr 1 7 with
   | false => exact Or.inl ⟨rfl, by omega, rfl, rfl⟩
   | true =>
    right
    by_cases h4 : d.fr.length ≤ 2
    ·right
     rw [decide_eq_true h4]
     cases h5 : P0.has d.fr d.ino with
     | true => exact Or.inl ⟨rfl, by omega, rfl, by omega, rfl, rfl⟩
     | false =>
      right
      by_cases h6 : K = 2
      ·exact Or.inl ⟨rfl, by omega, rfl, by omega, rfl, by simpa using h6, by rw [decide_eq_true h6]; rfl⟩
      ·refine Or.inr ⟨rfl, by omega, rfl, by omega, rfl, by simpa using h6, ?_⟩
       rw [decide_eq_false h6]
       by_cases h7 : d.fr.length = 0
       ·simp [h7]
       ·rw [decide_eq_false h7]
        have : ((d.fr.length : Int) == 0) = false := by simp; intro e; exact h7 (by rw [e]; rfl)
        rw [this]
        rfl
    ·left
     rw [decide_eq_false h4]
     exact ⟨rfl, by omega, rfl, by simp; omega, rfl⟩
  ·left
   rw [decide_eq_false h2]
   exact ⟨rfl, by simp; omega, rfl⟩
structure SP (w : World) (d : Ln) (s : Sl) (k o t : Int) (a : Option Addr) (n c B : Nat) (W : World) : Prop where
 arg : LB w.heap.size d s W
 nb : K0.Blk B (I0.vals k o t a n c) W
 bel : Below w.heap.size w W
variable {w W W' : World} {d : Ln} {s : Sl} {k o t : Int} {a : Option Addr} {n c B : Nat}
theorem SP.below (h : SP w d s k o t a n c B W) (hb : Below W.heap.size W W') : SP w d s k o t a n c B W' := ⟨h.arg.below hb, h.nb.below hb, h.bel.trans (hb.mono h.bel.size)⟩
theorem SP.drewN (h : SP w d s k o t a n c B W) (m : Nat) : SP w d s k o t a n c B (W.drewN m) := ⟨⟨h.arg.b.drewN m⟩, h.nb.drewN m, K0.below_drewN h.bel m⟩
abbrev w0 (w : World) (d : Ln) (s : Sl) : World := w.alloc (.cells #[.int .i64 d.ino, .int .i64 d.cl, .int .i64 d.un, .string d.rc, .slice s.a1 d.pg.length s.c1, .string d.sav, .slice s.a2 d.po.length s.c2, .slice s.a3 d.fr.length s.c3] 26)
theorem sp_new (hb : Below (w0 w d s).heap.size (w0 w d s) W) :
    SP w d s k o t a n c W.heap.size (W.alloc (.cells #[.int .i64 k, .int .i64 o, .int .i64 t, .slice a n c] 55)) :=
  ⟨⟨((K0.blk_new (N1.vals d s) w 26).below hb).alloc _⟩, K0.blk_new (I0.vals k o t a n c) W 55,
   ((K0.below_new w _).trans (hb.mono (K0.below_new w _).size)).alloc (Nat.le_trans (K0.below_new w _).size hb.size) _⟩
theorem sOk_first {d : Ln} (h : N0.sFirst d = false) : N0.loanOk d = false := by rw [← N0.sOk_eq, N0.sOk, h]; rfl
theorem sOk_ap {d : Ln} (h : N0.apart d.pg d.po = false) : N0.loanOk d = false := by rw [← N0.sOk_eq, N0.sOk, h, Bool.false_and, Bool.and_false]
theorem sOk_dir {d : Ln} (h : N0.sDir d = false) : N0.loanOk d = false := by rw [← N0.sOk_eq, N0.sOk, h, Bool.false_and, Bool.and_false, Bool.and_false]
theorem sOk_last {d : Ln} (h1 : N0.sFirst d = true) (h2 : N0.apart d.pg d.po = true) (h3 : N0.sDir d = true) : N0.loanOk d = N0.sLast d := by rw [← N0.sOk_eq, N0.sOk, h1, h2, h3]; rfl
end Go.Proofs.YthbcefopbmkppaaGreat.N10
namespace Go.Proofs.YthbcefopbmkppaaGreat.N11
open Go.ChangeShapes Go.WideShapes Go.ChangeAt Go.RowKit
open N0 (Ln)
open N1 (Sl Lists Fit LB lb_new)
open N10 (SP sp_new first_cases last_cases)
open P1 (ret_bool quiet_bool)
theorem wf_of (n : Int) (h0 : -9223372036854775808 ≤ n) (h1 : n ≤ 9223372036854775807) : (Lit.int .i64 n).wf = true := by
 simp [Lit.wf, IntKind.min, IntKind.max, IntKind.signed, IntKind.bits]
 omega
set_option maxHeartbeats 4000000 in
theorem spec_LoanOk (d : Ln) (s : Sl) (w : World) (hF : Fit d s) (hpo : d.po.length ≤ 1048576) (hfr : d.fr.length ≤ 1048576) (hR : Lists w d s) :
    Calls Tryz.prog 15 #[N1.val d s] w fun e w' => e = .returned (.bool (N0.loanOk d)) ∧ Below w.heap.size w w' := by
  have hG : Hid (∀ W, Calls Tryz.prog 33 #[.string d.rc] W (G3.Ans d.rc W)) := fun W => G4.spec_GetInode d.rc W hF.m4
  have HL : Hid (∀ W, Below w.heap.size w W → Lists W d s) := fun W hb => hR.below hb
  have hpl : d.pg.length ≤ 281474976710656 := hF.p1
  have hsl := hF.m5
  have hsm : d.sav.size ≤ maxLen := by unfold maxLen; omega
  have hA : Hid (∀ W e w', G3.Ans d.rc W e w' → ∃ a c, e = .returned (.tuple #[I0.val (G0.gK d.rc) (G0.gO d.rc) (G0.gS d.rc) a (G0.gZ d.rc).length c, .bool (G0.isI d.rc)]) ∧ J0.Own W.heap.size w' a (G0.gZ d.rc) ∧ (G0.gZ d.rc).length ≤ c ∧ Below W.heap.size W w') := fun W e w' h => h
  have hzl : (G0.gZ d.rc).length ≤ 281474976710656 := by
    unfold G0.gZ
    split
    · rw [G0.pgs_length]; have := G0.cnt_le d.rc; omega
    · exact Nat.zero_le _
  have hsb : G0.isI d.rc = true → -9223372036854775808 ≤ G0.gS d.rc ∧ G0.gS d.rc ≤ 9223372036854775807 := fun h => by have := O0.got h; omega
  have hcase := first_cases d
  have hD0 : N0.sDir d = (!decide (G0.gK d.rc = 2) || V0.isD (B2.part d.sav 0 (G0.gS d.rc))) := rfl
  have hlast := last_cases d (G0.gK d.rc) rfl
  have hgd : Hid (∀ W, Calls Tryz.prog 36 #[.string (B2.part d.sav 0 (G0.gS d.rc))] W (V1.Ans (B2.part d.sav 0 (G0.gS d.rc)) W)) := fun W => V3.spec_GetDir _ _ (Nat.le_trans (B2.part_size _ _ _) hF.m5)
  obtain ⟨K, hK⟩ : ∃ K, G0.gK d.rc = K := ⟨_, rfl⟩
  obtain ⟨O, hO⟩ : ∃ O, G0.gO d.rc = O := ⟨_, rfl⟩
  obtain ⟨S, hS⟩ : ∃ S, G0.gS d.rc = S := ⟨_, rfl⟩
  obtain ⟨Z, hZ⟩ : ∃ Z, G0.gZ d.rc = Z := ⟨_, rfl⟩
  rw [hK, hZ] at hcase
  rw [hK] at hlast
  rw [hK, hO, hS, hZ] at hA
  rw [hZ] at hzl
  rw [hS] at hsb hgd
  rw [hS, hK] at hD0
  have hpt : Hid (G0.isI d.rc = true → ∀ W, Calls Tryz.prog 37 #[.string d.sav, .int .i64 0, .int .i64 S] W fun e w' => e = .returned (.string (B2.part d.sav 0 S)) ∧ w' = W) := fun h W => B2.spec_Part _ _ _ _ hsm (by decide) (wf_of _ (hsb h).1 (hsb h).2)
  obtain ⟨P, hP⟩ : ∃ P, B2.part d.sav 0 S = P := ⟨_, rfl⟩
  rw [hP] at hgd hD0 hpt
  have HD : Hid (∀ W e w', V1.Ans P W e w' → ∃ a c, e = .returned (.tuple #[.slice a (V0.dE P).length c, .bool (V0.isD P)]) ∧ Below W.heap.size W w') := fun W e w' ⟨a, c, he, _, _, hb⟩ => ⟨a, c, he, hb⟩
  clear hK hO hS hZ hP hR hF hsb hsm
  rcases hcase with ⟨gI, hp⟩ | ⟨gI, g0, hp⟩ | ⟨gI, g0, g1, hp⟩ | ⟨gI, g0, g1, g2, hp⟩ | ⟨gI, g0, g1, g2, g3, hp⟩ | ⟨gI, g0, g1, g2, g3, gz, hp⟩ | ⟨gI, g0, g1, g2, g3, gz, gs, hp⟩ | ⟨gI, g0, g1, g2, g3, gz, gs, hp⟩
  · rw [gI] at hA
    rw [N10.sOk_first hp]
    clear gI hlast hD0 hp hpt hgd HD
    go_enter Tryz.func15, Tryz.ntmps15
    go_wp2_with (first
      | (go_at_call 33; refine (hG.out _).mono ?_; intro e w1 hans; obtain ⟨a, c, rfl, ho, hc, b1⟩ := hA.out _ _ _ hans; clear hans; have p1 := sp_new (k := K) (o := O) (t := S) (a := a) (n := Z.length) (c := c) b1; have x0 := p1.nb.c0; have x3 := p1.nb.c3; have c0 := p1.arg.c0; have c1 := p1.arg.c1; have c2 := p1.arg.c2; have c4 := p1.arg.c4; have c5 := p1.arg.c5; have r1 := ho.row.alloc (.cells #[.int .i64 K, .int .i64 O, .int .i64 S, .slice a Z.length c] 55); have r2 := (HL.out _ p1.bel).r1)
      | (go_at_call 31; refine (B1.l01In_any _ _ _ _).mono ?_; rintro e w' ⟨rfl, rfl⟩))
    go_ret
    exact ⟨rfl, p1.bel⟩
  · rw [gI] at hA
    rw [N10.sOk_first hp]
    clear gI hlast hD0 hp hpt hgd HD
    go_enter Tryz.func15, Tryz.ntmps15
    go_wp2_with (first
      | (go_at_call 33; refine (hG.out _).mono ?_; intro e w1 hans; obtain ⟨a, c, rfl, ho, hc, b1⟩ := hA.out _ _ _ hans; clear hans; have p1 := sp_new (k := K) (o := O) (t := S) (a := a) (n := Z.length) (c := c) b1; have x0 := p1.nb.c0; have x3 := p1.nb.c3; have c0 := p1.arg.c0; have c1 := p1.arg.c1; have c2 := p1.arg.c2; have c4 := p1.arg.c4; have c5 := p1.arg.c5; have r1 := ho.row.alloc (.cells #[.int .i64 K, .int .i64 O, .int .i64 S, .slice a Z.length c] 55); have r2 := (HL.out _ p1.bel).r1)
      | (go_at_call 31; refine (B1.l01In_any _ _ _ _).mono ?_; rintro e w' ⟨rfl, rfl⟩))
    go_ret
    exact ⟨rfl, p1.bel⟩
  · rw [gI] at hA
    rw [N10.sOk_first hp]
    clear gI hlast hD0 hp hpt hgd HD
    go_enter Tryz.func15, Tryz.ntmps15
    go_wp2_with (first
      | (go_at_call 33; refine (hG.out _).mono ?_; intro e w1 hans; obtain ⟨a, c, rfl, ho, hc, b1⟩ := hA.out _ _ _ hans; clear hans; have p1 := sp_new (k := K) (o := O) (t := S) (a := a) (n := Z.length) (c := c) b1; have x0 := p1.nb.c0; have x3 := p1.nb.c3; have c0 := p1.arg.c0; have c1 := p1.arg.c1; have c2 := p1.arg.c2; have c4 := p1.arg.c4; have c5 := p1.arg.c5; have r1 := ho.row.alloc (.cells #[.int .i64 K, .int .i64 O, .int .i64 S, .slice a Z.length c] 55); have r2 := (HL.out _ p1.bel).r1)
      | (go_at_call 31; refine (B1.l01In_any _ _ _ _).mono ?_; rintro e w' ⟨rfl, rfl⟩))
    go_ret
    exact ⟨rfl, p1.bel⟩
  · rw [gI] at hA
    rw [N10.sOk_first hp]
    clear gI hlast hD0 hp hpt hgd HD
    go_enter Tryz.func15, Tryz.ntmps15
    go_wp2_with (first
      | (go_at_call 33; refine (hG.out _).mono ?_; intro e w1 hans; obtain ⟨a, c, rfl, ho, hc, b1⟩ := hA.out _ _ _ hans; clear hans; have p1 := sp_new (k := K) (o := O) (t := S) (a := a) (n := Z.length) (c := c) b1; have x0 := p1.nb.c0; have x3 := p1.nb.c3; have c0 := p1.arg.c0; have c1 := p1.arg.c1; have c2 := p1.arg.c2; have c4 := p1.arg.c4; have c5 := p1.arg.c5; have r1 := ho.row.alloc (.cells #[.int .i64 K, .int .i64 O, .int .i64 S, .slice a Z.length c] 55); have r2 := (HL.out _ p1.bel).r1)
      | (go_at_call 31; refine (B1.l01In_any _ _ _ _).mono ?_; rintro e w' ⟨rfl, rfl⟩))
    go_ret
    exact ⟨rfl, p1.bel⟩
  · rw [gI] at hA
    rw [N10.sOk_first hp]
    clear gI hlast hD0 hp hpt hgd HD
    go_enter Tryz.func15, Tryz.ntmps15
    go_wp2_with (first
      | (go_at_call 33; refine (hG.out _).mono ?_; intro e w1 hans; obtain ⟨a, c, rfl, ho, hc, b1⟩ := hA.out _ _ _ hans; clear hans; have p1 := sp_new (k := K) (o := O) (t := S) (a := a) (n := Z.length) (c := c) b1; have x0 := p1.nb.c0; have x3 := p1.nb.c3; have c0 := p1.arg.c0; have c1 := p1.arg.c1; have c2 := p1.arg.c2; have c4 := p1.arg.c4; have c5 := p1.arg.c5; have r1 := ho.row.alloc (.cells #[.int .i64 K, .int .i64 O, .int .i64 S, .slice a Z.length c] 55); have r2 := (HL.out _ p1.bel).r1)
      | (go_at_call 31; refine (B1.l01In_any _ _ _ _).mono ?_; rintro e w' ⟨rfl, rfl⟩))
    go_ret
    exact ⟨rfl, p1.bel⟩
  · rw [gI] at hA
    rw [N10.sOk_first hp]
    clear gI hlast hD0 hp hpt hgd HD
    go_enter Tryz.func15, Tryz.ntmps15
    go_wp2_with (first
      | (go_at_call 33; refine (hG.out _).mono ?_; intro e w1 hans; obtain ⟨a, c, rfl, ho, hc, b1⟩ := hA.out _ _ _ hans; clear hans; have p1 := sp_new (k := K) (o := O) (t := S) (a := a) (n := Z.length) (c := c) b1; have x0 := p1.nb.c0; have x3 := p1.nb.c3; have c0 := p1.arg.c0; have c1 := p1.arg.c1; have c2 := p1.arg.c2; have c4 := p1.arg.c4; have c5 := p1.arg.c5; have r1 := ho.row.alloc (.cells #[.int .i64 K, .int .i64 O, .int .i64 S, .slice a Z.length c] 55); have r2 := (HL.out _ p1.bel).r1)
      | (go_at_call 31; refine (B1.l01In_any _ _ _ _).mono ?_; rintro e w' ⟨rfl, rfl⟩)
      | (go_at_call 34; refine (N2.same _ _ _ _ _ _ _ hzl hpl r1 r2).mono ?_; rintro e w2 ⟨rfl, m, rfl⟩))
    go_ret
    exact ⟨rfl, (p1.drewN m).bel⟩
  · rw [gI] at hA
    rw [N10.sOk_first hp]
    clear gI hlast hD0 hp hpt hgd HD
    go_enter Tryz.func15, Tryz.ntmps15
    go_wp2_with (first
      | (go_at_call 33; refine (hG.out _).mono ?_; intro e w1 hans; obtain ⟨a, c, rfl, ho, hc, b1⟩ := hA.out _ _ _ hans; clear hans; have p1 := sp_new (k := K) (o := O) (t := S) (a := a) (n := Z.length) (c := c) b1; have x0 := p1.nb.c0; have x3 := p1.nb.c3; have c0 := p1.arg.c0; have c1 := p1.arg.c1; have c2 := p1.arg.c2; have c4 := p1.arg.c4; have c5 := p1.arg.c5; have r1 := ho.row.alloc (.cells #[.int .i64 K, .int .i64 O, .int .i64 S, .slice a Z.length c] 55); have r2 := (HL.out _ p1.bel).r1)
      | (go_at_call 31; refine (B1.l01In_any _ _ _ _).mono ?_; rintro e w' ⟨rfl, rfl⟩)
      | (go_at_call 34; refine (N2.same _ _ _ _ _ _ _ hzl hpl r1 r2).mono ?_; rintro e w2 ⟨rfl, m, rfl⟩))
    go_ret
    exact ⟨rfl, (p1.drewN m).bel⟩
  · rw [gI] at hA
    replace hpt : Hid (∀ W, Calls Tryz.prog 37 #[.string d.sav, .int .i64 0, .int .i64 S] W fun e w' => e = .returned (.string P) ∧ w' = W) := hpt.out gI
    clear gI
    have HF1 : Hid (N0.sFirst d = true) := hp
    have HD0 : Hid (N0.sDir d = (!decide (K = 2) || V0.isD P)) := hD0
    have HLast := hlast
    have hpo' : d.po.length ≤ 281474976710656 := by omega
    have hfr' : d.fr.length ≤ 281474976710656 := by omega
    obtain ⟨RV, hRV⟩ : ∃ RV, N0.loanOk d = RV := ⟨_, rfl⟩
    have HNo1 : Hid (N0.apart d.pg d.po = false → false = RV) := fun h => by rw [← hRV, N10.sOk_ap h]
    have HNo2 : Hid (N0.sDir d = false → false = RV) := fun h => by rw [← hRV, N10.sOk_dir h]
    have HYes : Hid (N0.apart d.pg d.po = true → N0.sDir d = true → N0.sLast d = RV) := fun h1 h2 => by rw [← hRV, N10.sOk_last HF1.out h1 h2]
    rw [hRV]
    clear hp hD0 hlast hRV
    go_enter Tryz.func15, Tryz.ntmps15
    go_wp2_with (first
      | (go_at_call 33; refine (hG.out _).mono ?_; intro e w1 hans; obtain ⟨a, c, rfl, ho, hc, b1⟩ := hA.out _ _ _ hans; clear hans; have p1 := sp_new (k := K) (o := O) (t := S) (a := a) (n := Z.length) (c := c) b1; have x0 := p1.nb.c0; have x3 := p1.nb.c3; have c0 := p1.arg.c0; have c1 := p1.arg.c1; have c2 := p1.arg.c2; have c4 := p1.arg.c4; have c5 := p1.arg.c5; have r1 := ho.row.alloc (.cells #[.int .i64 K, .int .i64 O, .int .i64 S, .slice a Z.length c] 55); have r2 := (HL.out _ p1.bel).r1)
      | (go_at_call 31; refine (B1.l01In_any _ _ _ _).mono ?_; rintro e w' ⟨rfl, rfl⟩)
      | (go_at_call 34; refine (N2.same _ _ _ _ _ _ _ hzl hpl r1 r2).mono ?_; rintro e w2 ⟨rfl, m, rfl⟩))
    have p2 := p1.drewN m
    obtain ⟨V, hV⟩ : ∃ V, (w1.alloc (.cells #[.int .i64 K, .int .i64 O, .int .i64 S, .slice a Z.length c] 55)).drewN m = V := ⟨_, rfl⟩
    rw [hV] at p2 ⊢
    clear hV p1 x0 x3 c0 c1 c2 c4 c5 r1 r2 ho b1 g0 g1 g2 g3 gz gs
    go_loopw [5] (fun i w' => ∃ j n : Nat, j ≤ d.po.length ∧ N0.to (N0.apAt d.pg d.po) j = true ∧ i = .int .i64 j ∧ w' = V.drewN n) (fun i _ => d.po.length - (intOf i).toNat)
    case atStart => exact ⟨0, 0, Nat.zero_le _, rfl, rfl, rfl⟩
    case round =>
      obtain ⟨j, n, hj, hok, rfl, hW⟩ := hrel
      have HW : Hid (∀ m, ∃ m', wr.drewN m = V.drewN m') := fun m => ⟨n + m, by rw [hW, World.drewN_drewN]⟩
      have pw : SP w d s K O S a Z.length c w1.heap.size wr := by rw [hW]; exact p2.drewN n
      have c4 := pw.arg.c4
      have c6 := pw.arg.c6
      have HWB : Hid (∀ m, Below w.heap.size w (wr.drewN m)) := fun m => K0.below_drewN pw.bel m
      by_cases hlt : j < d.po.length
      · obtain ⟨b, off, hab, hb, hcell⟩ := (HL.out _ pw.bel).r2.get hlt
        have hH : Hid (∀ m x, Calls Tryz.prog 35 #[.slice s.a1 d.pg.length s.c1, .int .i64 x] (wr.drewN m) fun e w' => e = .returned (.bool (P0.has d.pg x)) ∧ w' = wr.drewN m) := fun m x => N2.hasRow s.a1 s.c1 d.pg x _ hpl ((HL.out _ pw.bel).r1.drewN m)
        have x1 := hcell j hlt
        have hat : N0.apAt d.pg d.po j = !(P0.has d.pg (d.po.getD j 0)) := rfl
        obtain ⟨z, ez⟩ : ∃ z, d.po.getD j 0 = z := ⟨_, rfl⟩
        rw [ez] at x1 hat
        rw [hab] at c6
        have e1 : (0 : Int) ≤ (j : Int) := by omega
        have e2 : (j : Int) < (d.po.length : Int) := by omega
        cases h2 : P0.has d.pg z with
        | true =>
          have HR : Hid (false = RV) := HNo1.out (N0.to_bad hlt (by rw [hat, h2]; rfl))
          clear hat hok ez hcell hW pw p2
          go_wp2
          go_quiet ((go_at_call 35; exact quiet_bool (hH.out _ _) h2))
          go_wp2
          go_ret
          exact ⟨ret_bool HR.out, HWB.out _⟩
        | false =>
          have HO : Hid (N0.to (N0.apAt d.pg d.po) (j + 1) = true) := N0.to_step hok (by rw [hat, h2]; rfl)
          clear hat hok ez hcell hW pw p2
          go_wp2
          go_quiet ((go_at_call 35; exact quiet_bool (hH.out _ _) h2))
          go_wp2
          obtain ⟨m', hm'⟩ := HW.out nq
          go_roundw
          case rel => exact ⟨j + 1, m', by omega, HO.out, by go_num, hm'⟩
          case measure => simp [intOf]; omega
      · obtain rfl : j = d.po.length := by omega
        have hap : N0.apart d.pg d.po = true := hok
        have c5 := pw.arg.c5
        have n2 := pw.nb.c2
        have e9 : decide ((d.po.length : Int) < (d.po.length : Int)) = false := by simp
        have hdc : (K == 2) = true ∧ V0.isD P = false ∧ false = RV ∨ (((K == 2) = true ∧ V0.isD P = true) ∨ (K == 2) = false) ∧ N0.sLast d = RV := by
          by_cases h2 : K = 2
          · cases hI : V0.isD P with
            | false => exact Or.inl ⟨by simpa using h2, rfl, HNo2.out (by rw [HD0.out, decide_eq_true h2, hI]; rfl)⟩
            | true => exact Or.inr ⟨Or.inl ⟨by simpa using h2, rfl⟩, HYes.out hap (by rw [HD0.out, hI, Bool.or_true])⟩
          · exact Or.inr ⟨Or.inr (by simpa using h2), HYes.out hap (by rw [HD0.out, decide_eq_false h2]; rfl)⟩
        clear hok hW p2 HW HWB hap HNo1 HNo2 HYes HD0 c4
        rcases hdc with ⟨hk2, hDf, HR0⟩ | ⟨hk2, HR0⟩
        · have HR : Hid (false = RV) := HR0
          clear HR0
          go_wp2_with (first
            | (go_at_call 37; refine (hpt.out _).mono ?_; rintro e w4 ⟨rfl, rfl⟩)
            | (go_at_call 36; refine (hgd.out _).mono ?_; intro e w5 hans; obtain ⟨ae, ce, rfl, b5⟩ := HD.out _ _ _ hans; clear hans; have p5 := pw.below b5; have k0 := p5.nb.c0; have y0 := p5.arg.c0; have y6 := p5.arg.c6; have y7 := p5.arg.c7))
          go_ret
          exact ⟨ret_bool HR.out, p5.bel⟩
        · have HR : Hid (N0.sLast d = RV) := HR0
          clear HR0
          rcases HLast with ⟨u1, hl⟩ | ⟨u1, u2, hl⟩ | ⟨u1, u2, u3, hl⟩ | ⟨u1, u2, u3, u4, hl⟩ | ⟨u1, u2, u3, u4, u5, hl⟩ | ⟨u1, u2, u3, u4, u5, u6, hl⟩ | ⟨u1, u2, u3, u4, u5, u6, hl⟩
          all_goals
            have HQ : Hid (_ = RV) := hl.symm.trans HR.out
            clear hl HR
            rcases hk2 with ⟨v1, v2⟩ | v1
          all_goals first
            | (exact absurd (v1.symm.trans u6) (by decide))
            | (go_wp2_with (first
                | (go_at_call 37; refine (hpt.out _).mono ?_; rintro e w4 ⟨rfl, rfl⟩)
                | (go_at_call 36; refine (hgd.out _).mono ?_; intro e w5 hans; obtain ⟨ae, ce, rfl, b5⟩ := HD.out _ _ _ hans; clear hans; have p5 := pw.below b5; have k0 := p5.nb.c0; have y0 := p5.arg.c0; have y6 := p5.arg.c6; have y7 := p5.arg.c7)
                | (go_at_call 38; have m6' := m6; refine (N2.l05Up s.a3 s.c3 d.fr 1 7 _ hfr' ((HL.out _ p5.bel).r3.drewN m6)).mono ?_; rintro e w7 ⟨rfl, m7, rfl⟩)
                | (go_at_call 38; refine (N2.l05Up s.a2 s.c2 d.po 5 23 _ hpo' (HL.out _ p5.bel).r2).mono ?_; rintro e w6 ⟨rfl, m6, rfl⟩)
                | (go_at_call 35; refine (N2.hasRow s.a3 s.c3 d.fr _ _ hfr' (by simpa only [World.drewN_drewN] using (HL.out _ p5.bel).r3.drewN (m6 + m7))).mono ?_; rintro e w8 ⟨rfl, rfl⟩))
               go_ret
               exact ⟨ret_bool HQ.out, by first | exact p5.bel | exact K0.below_drewN p5.bel _⟩)
end Go.Proofs.YthbcefopbmkppaaGreat.N11
namespace Go.Proofs.YthbcefopbmkppaaGreat.N12
open Go.ChangeShapes Go.WideShapes Go.ChangeAt Go.RowKit
open N0 (Ln)
open N1 (Sl Lists Fit LB lb_new)
open N4 (at3 Cp)
structure A (w : World) (d : Ln) (s : Sl) (W : World) : Prop where
 b : LB w.heap.size d s W
 l : Lists W d s
 bel : Below w.heap.size w W
variable {w W W' : World} {d : Ln} {s : Sl} {g1 g2 g3 B : Nat}
theorem A.below (h : A w d s W) (hb : Below W.heap.size W W') : A w d s W' := ⟨h.b.below hb, h.l.below hb, h.bel.trans (hb.mono h.bel.size)⟩
theorem A.drew (h : A w d s W) : A w d s W.drew := h.below ((Below.refl _ _).drew)
structure U (w : World) (d : Ln) (s : Sl) (g1 g2 g3 B : Nat) (W : World) : Prop where
 t : A w d s W
 n : LB B d (at3 d g1 g2 g3) W
 cp : Cp w.heap.size d g1 g2 g3 W
theorem U.below (h : U w d s g1 g2 g3 B W) (hb : Below W.heap.size W W') : U w d s g1 g2 g3 B W' := ⟨h.t.below hb, h.n.below hb, h.cp.below hb⟩
theorem U.drew (h : U w d s g1 g2 g3 B W) : U w d s g1 g2 g3 B W.drew := h.below ((Below.refl _ _).drew)
end Go.Proofs.YthbcefopbmkppaaGreat.N12
namespace Go.Proofs.YthbcefopbmkppaaGreat.N13
open Go.ChangeShapes Go.WideShapes Go.ChangeAt Go.RowKit
open N0 (Ln)
open N1 (Sl Lists Fit LB lb_new)
def uPg (d : Ln) (m : ByteArray) : Nat → ByteArray
 | 0 => m
 | k + 1 => B5.laid (uPg d m k) (d.pg.getD k 0 * 32) (B2.part d.sav ((k : Int) * 32) 32)
def uFr (d : Ln) (m : ByteArray) : Nat → ByteArray
 | 0 => m
 | k + 1 => B5.laid (uFr d m k) (L1.recAt (d.fr.getD k 0)) (B4.zeros 16)
def undone (mem : ByteArray) (d : Ln) : ByteArray := uFr d (uPg d (B5.laid mem (L1.recAt d.ino) d.rc) d.pg.length) d.fr.length
def undo (mem : ByteArray) (d : Ln) : ByteArray := if N0.loanOk d = true ∧ mem.size = 768 then undone mem d else mem
theorem laid_size (s : ByteArray) (i : Int) (t : ByteArray) : (B5.laid s i t).size = s.size := by
 unfold B5.laid
 split
 ·rename_i h
  obtain ⟨h1, h2, h3⟩ := B2.lies_true h
  simp only [ByteArray.size_append, ByteArray.size_extract]
  omega
 ·rfl
theorem uPg_size (d : Ln) (m : ByteArray) : ∀ k, (uPg d m k).size = m.size
 | 0 => rfl
 | k + 1 => by rw [uPg, laid_size, uPg_size d m k]
theorem uFr_size (d : Ln) (m : ByteArray) : ∀ k, (uFr d m k).size = m.size
 | 0 => rfl
 | k + 1 => by rw [uFr, laid_size, uFr_size d m k]
theorem zeros_le : (B4.zeros 16).size ≤ 281474976710656 := by
 unfold B4.zeros
 split
 ·rw [B4.nulls_size]; decide
 ·exact Nat.zero_le _
structure Bx (w : World) (d : Ln) (s : Sl) (W : World) : Prop where
 arg : LB w.heap.size d s W
 bel : Below w.heap.size w W
variable {w W W' : World} {d : Ln} {s : Sl}
theorem Bx.below (h : Bx w d s W) (hb : Below W.heap.size W W') : Bx w d s W' := ⟨h.arg.below hb, h.bel.trans (hb.mono h.bel.size)⟩
theorem Bx.drewN (h : Bx w d s W) (m : Nat) : Bx w d s (W.drewN m) := ⟨⟨h.arg.b.drewN m⟩, K0.below_drewN h.bel m⟩
theorem bx_new (w : World) (d : Ln) (s : Sl) : Bx w d s (N10.w0 w d s) := ⟨lb_new d s w 26, K0.below_new _ _⟩
theorem l03Page0 (mem : ByteArray) (k : Nat) (w : World) (hs : mem.size ≤ 281474976710656) (hk : k ≤ 100) :
  Calls Tryz.prog 26 #[.string mem, .int .i64 (k : Int)] w fun e w' => e = .returned (.string (B2.part mem ((k : Int) * 32) 32)) ∧ w' = w := by
 have hm : mem.size ≤ maxLen := by unfold maxLen; omega
 have hw : IntKind.i64.wrap ((k : Int) * 32) = (k : Int) * 32 := by rw [IntKind.wrap_i64]; omega
 have hpt := B2.spec_Part mem ((k : Int) * 32) 32 w hm (N11.wf_of _ (by omega) (by omega)) (by decide)
 go_enter Tryz.func26, Tryz.ntmps26
 go_wp2_with (go_at_call 37; refine hpt.mono ?_; rintro e w' ⟨rfl, rfl⟩)
 go_ret
 exact ⟨rfl, rfl⟩
set_option maxHeartbeats 4000000 in
theorem impl_Undo (mem : ByteArray) (d : Ln) (s : Sl) (w : World) (hms : mem.size ≤ 281474976710656) (hF : Fit d s) (hpo : d.po.length ≤ 1048576) (hfr : d.fr.length ≤ 1048576) (hR : Lists w d s) :
  Calls Tryz.prog 6 #[.string mem, N1.val d s] w fun e w' => e = .returned (.string (undo mem d)) ∧ Below w.heap.size w w' := by
 have x0 := bx_new w d s
 have HL : Hid (∀ W, Below w.heap.size w W → Lists W d s) := fun W hb => hR.below hb
 have HO : Hid (∀ W, Below w.heap.size w W → Calls Tryz.prog 14 #[N1.val d s] W fun e w' => e = .returned (.bool (N0.loanOk d)) ∧ Below W.heap.size W w') := fun W hb => N10.impl_LoanOk d s W hF hpo hfr (hR.below hb)
 have hrs := hF.m4
 have hss := hF.m5
 clear hR hF
 cases hok : N0.loanOk d with
 | false =>
  rw [hok] at HO
  have HU : Hid (undo mem d = mem) := by
   show undo mem d = mem
   rw [undo, if_neg]
   rintro ⟨h, _⟩
   rw [hok] at h
   cases h
  rw [HU.out]
  clear HU hok
  go_enter Tryz.func6, Tryz.ntmps6
  go_wp2_with (first
   | (go_at_call 14; refine (HO.out _ x0.bel).mono ?_; rintro e w1 ⟨rfl, b1⟩; have x1 := x0.below b1)
   | (go_at_call 19; refine (B2.clone_any _ _ hms).mono ?_; rintro e w2 ⟨rfl, b2⟩; have x2 := x1.below b2))
  go_ret
  exact ⟨rfl, x2.bel⟩
 | true =>
  rw [hok] at HO
  by_cases hm : mem.size = 768
  ·have g8 : ((mem.size : Int) != 768) = false := by simp; omega
   have HU : Hid (undo mem d = undone mem d) := by
    show undo mem d = _
    rw [undo, if_pos ⟨hok, hm⟩]
   obtain ⟨-, -, -, -, -, -, hp6, -, hf2, hpp, -, -, -⟩ := N0.loanOk_is hok
   have hpg : ∀ j, j < d.pg.length → 5 ≤ d.pg.getD j 0 ∧ d.pg.getD j 0 ≤ 23 := fun j hj => (N0.pagesOk_iff.1 hpp).1 _ (List.mem_append.2 (Or.inl (N0.getD_mem hj)))
   rw [HU.out]
   have h1s : (B5.laid mem (L1.recAt d.ino) d.rc).size = 768 := by rw [laid_size]; exact hm
   have HE : Hid (undone mem d = uFr d (uPg d (B5.laid mem (L1.recAt d.ino) d.rc) d.pg.length) d.fr.length) := rfl
   have hW : Hid (∀ W, Calls Tryz.prog 20 #[.string mem, .int .i64 (L1.recAt d.ino), .string d.rc] W fun e w' => e = .returned (.string (B5.laid mem (L1.recAt d.ino) d.rc)) ∧ Below W.heap.size W w') := fun W => B5.impl_With _ _ _ _ hms hrs
   obtain ⟨m1, hm1⟩ : ∃ m1, B5.laid mem (L1.recAt d.ino) d.rc = m1 := ⟨_, rfl⟩
   rw [hm1] at h1s HE hW
   rw [HE.out]
   clear HU HE hok hm1 hpp
   go_enter Tryz.func6, Tryz.ntmps6
   go_wp2_with (go_at_call 14; refine (HO.out _ x0.bel).mono ?_; rintro e w1 ⟨rfl, b1⟩; have x1 := x0.below b1)
   have x2 := x1.below (W' := w1.drew) ((Below.refl _ _).drew)
   have c0 := x2.arg.c0
   have c3 := x2.arg.c3
   have s2 : w1.drew.cell? ⟨w.heap.size, 0, none⟩ = some (.int .i64 d.ino) ∧ w1.drew.cell? ⟨w.heap.size, 3, none⟩ = some (.string d.rc) := ⟨c0, c3⟩
   go_region_held3 (fun W => W.cell? ⟨w.heap.size, 0, none⟩ = some (.int .i64 d.ino) ∧ W.cell? ⟨w.heap.size, 3, none⟩ = some (.string d.rc)) (assumption) ((first
    | (go_at_call 17; refine (L1.impl_RecAt _ _).mono ?_; rintro e w' ⟨rfl, rfl⟩)
    | (go_at_call 20; refine (hW.out _).mono ?_; rintro e w3 ⟨rfl, b3⟩; have x3 := x2.below b3; have s3 : w3.cell? ⟨w.heap.size, 0, none⟩ = some (.int .i64 d.ino) ∧ w3.cell? ⟨w.heap.size, 3, none⟩ = some (.string d.rc) := ⟨x3.arg.c0, x3.arg.c3⟩)))
   have c4 := x3.arg.c4
   clear s3 s2 c0 c3 x2 x1 b1 b3 x0
   go_wp2
   go_loopw [0, 29] (fun v i w' => ∃ k : Nat, k ≤ d.pg.length ∧ i = .int .i64 k ∧ v = .string (uPg d m1 k) ∧ Bx w d s w') (fun _ i _ => d.pg.length - (intOf i).toNat)
   case atStart => exact ⟨0, Nat.zero_le _, rfl, rfl, x3⟩
   case round =>
    obtain ⟨k, hk, rfl, rfl, xr⟩ := hrel
    have hus := uPg_size d m1 k
    by_cases hlt : k < d.pg.length
    ·obtain ⟨b, off, hab, _, hcell⟩ := (HL.out _ xr.bel).r1.get hlt
     have y1 := hcell k hlt
     have hz := hpg k hlt
     have HS : Hid (B5.laid (uPg d m1 k) (d.pg.getD k 0 * 32) (B2.part d.sav ((k : Int) * 32) 32) = uPg d m1 (k + 1)) := rfl
     obtain ⟨z, ez⟩ : ∃ z, d.pg.getD k 0 = z := ⟨_, rfl⟩
     rw [ez] at y1 hz HS
     rw [hab]
     have c5 := xr.arg.c5
     have e1 : (0 : Int) ≤ (k : Int) := by omega
     have e2 : (k : Int) < (d.pg.length : Int) := by omega
     have hpt : Hid (∀ W, Calls Tryz.prog 16 #[.string d.sav, .int .i64 ((k : Int) * 32), .int .i64 32] W fun e w' => e = .returned (.string (B2.part d.sav ((k : Int) * 32) 32)) ∧ Below W.heap.size W w') := fun W => B2.impl_Part _ _ _ _ hss
     have hwt : Hid (∀ W, Calls Tryz.prog 20 #[.string (uPg d m1 k), .int .i64 (z * 32), .string (B2.part d.sav ((k : Int) * 32) 32)] W fun e w' => e = .returned (.string (B5.laid (uPg d m1 k) (z * 32) (B2.part d.sav ((k : Int) * 32) 32))) ∧ Below W.heap.size W w') := fun W => B5.impl_With _ _ _ _ (by rw [hus]; omega) (Nat.le_trans (B2.part_size _ _ _) hss)
     clear ez hcell hus
     go_wp2_with (first
      | (go_at_call 16; refine (hpt.out _).mono ?_; rintro e w4 ⟨rfl, b4⟩; have x4 := xr.below b4)
      | (go_at_call 20; refine (hwt.out _).mono ?_; rintro e w5 ⟨rfl, b5⟩; have x5 := x4.below b5))
     go_roundw
     case rel => exact ⟨k + 1, by omega, by go_num, by rw [HS.out], x5⟩
     case measure => simp [intOf]; omega
    ·obtain rfl : k = d.pg.length := by omega
     have c7 := xr.arg.c7
     obtain ⟨m2, hm2⟩ : ∃ m2, uPg d m1 d.pg.length = m2 := ⟨_, rfl⟩
     have HM2 : Hid (uPg d m1 d.pg.length = m2) := hm2
     rw [hm2] at hus ⊢
     clear hm2 x3
     go_wp2
     go_loopw [0, 47] (fun v i w' => ∃ k : Nat, k ≤ d.fr.length ∧ i = .int .i64 k ∧ v = .string (uFr d m2 k) ∧ Bx w d s w') (fun _ i _ => d.fr.length - (intOf i).toNat)
     case atStart => exact ⟨0, Nat.zero_le _, rfl, rfl, xr⟩
     case round =>
      rename_i wr2
      obtain ⟨j, hj, rfl, rfl, xq⟩ := hrel
      have hvs := uFr_size d m2 j
      by_cases hlt2 : j < d.fr.length
      ·obtain ⟨b, off, hab, _, hcell⟩ := (HL.out _ xq.bel).r3.get hlt2
       have y1 := hcell j hlt2
       have HS : Hid (B5.laid (uFr d m2 j) (L1.recAt (d.fr.getD j 0)) (B4.zeros 16) = uFr d m2 (j + 1)) := rfl
       obtain ⟨z, ez⟩ : ∃ z, d.fr.getD j 0 = z := ⟨_, rfl⟩
       rw [ez] at y1 HS
       rw [hab]
       have e1 : (0 : Int) ≤ (j : Int) := by omega
       have e2 : (j : Int) < (d.fr.length : Int) := by omega
       have hwt : Hid (∀ W, Calls Tryz.prog 20 #[.string (uFr d m2 j), .int .i64 (L1.recAt z), .string (B4.zeros 16)] W fun e w' => e = .returned (.string (B5.laid (uFr d m2 j) (L1.recAt z) (B4.zeros 16))) ∧ Below W.heap.size W w') := fun W => B5.impl_With _ _ _ _ (by rw [hvs]; omega) zeros_le
       clear ez hcell hvs
       go_wp2_with (first
        | (go_at_call 17; refine (L1.impl_RecAt _ _).mono ?_; rintro e w' ⟨rfl, rfl⟩)
        | (go_at_call 21; refine (B4.impl_Zeros _ _).mono ?_; rintro e w6 ⟨rfl, b6⟩; have x6 := xq.below b6)
        | (go_at_call 20; refine (hwt.out _).mono ?_; rintro e w7 ⟨rfl, b7⟩; have x7 := x6.below b7))
       go_roundw
       case rel => exact ⟨j + 1, by omega, by go_num, by rw [HS.out], x7⟩
       case measure => simp [intOf]; omega
      ·obtain rfl : j = d.fr.length := by omega
       go_wp2
       go_ret
       exact ⟨by rw [HM2.out]; rfl, xq.bel⟩
  ·have g8 : ((mem.size : Int) != 768) = true := by simp; omega
   have HU : Hid (undo mem d = mem) := by
    show undo mem d = mem
    rw [undo, if_neg]
    rintro ⟨_, h⟩
    exact hm h
   rw [HU.out]
   clear HU hok hm
   go_enter Tryz.func6, Tryz.ntmps6
   go_wp2_with (first
    | (go_at_call 14; refine (HO.out _ x0.bel).mono ?_; rintro e w1 ⟨rfl, b1⟩; have x1 := x0.below b1)
    | (go_at_call 19; refine (B2.clone_any _ _ hms).mono ?_; rintro e w2 ⟨rfl, b2⟩; have x2 := x1.below b2))
   go_ret
   exact ⟨rfl, x2.bel⟩
end Go.Proofs.YthbcefopbmkppaaGreat.N13
