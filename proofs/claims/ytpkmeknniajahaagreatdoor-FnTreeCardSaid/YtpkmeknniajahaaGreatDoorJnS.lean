/- Joined texts: plain facts and contracts. -/
import Derived.Test.YtpkmeknniajahaaGreatDoorJnR
import Derived.Test.YtpkmeknniajahaaGreatDoorJnP
import Derived.BigQuiet
set_option linter.unusedVariables false
set_option linter.unusedSimpArgs false
set_option maxRecDepth 10000
namespace Go.Proofs.YtpkmeknniajahaaGreatDoor.TS
open Go.ChangeShapes Go.WideShapes Go.ChangeAt Go.RowKit
variable {w W W' : World} {mem : ByteArray}
open J0 (IBuf Own)
open TW (tK tZ tE cat nodesOk sound headOk hd)
theorem cat_mem {Z : Nat → List Int} {z : Int} : ∀ {n : Nat}, z ∈ cat Z n → ∃ i, i < n ∧ z ∈ Z i
 | 0, h => by simp [cat] at h
 | n + 1, h => by
  rw [cat, List.mem_append] at h
  rcases h with h | h
  ·obtain ⟨i, hi, hz⟩ := cat_mem h
   exact ⟨i, by omega, hz⟩
  ·exact ⟨n, by omega, h⟩
theorem pages_eq (mem : ByteArray) : P0.pagesOk (cat (tZ mem) 8) = decide (cat (tZ mem) 8).Nodup := by
 have hr : ∀ z ∈ cat (tZ mem) 8, 5 ≤ z ∧ z ≤ 23 := by
  intro z hz
  obtain ⟨i, _, hi⟩ := cat_mem hz
  unfold tZ at hi
  cases hI : G0.isI (O0.recd mem (i : Int)) with
  | false =>
   rw [(G0.g_no hI).2.2.2] at hi
   simp at hi
  | true => exact (N0.pagesOk_iff.1 (O0.got hI).2.2.2.1).1 z hi
 apply Bool.eq_iff_iff.2
 rw [N0.pagesOk_iff, decide_eq_true_eq]
 exact ⟨fun h => h.2, fun h => ⟨hr, h⟩⟩
theorem par_zero (mem : ByteArray) : TR.par (TR.flat (tE mem) 8) 0 = -1 := by
 rw [TR.par_nil]
 unfold TR.own
 rw [List.filter_eq_nil_iff]
 intro p hp
 obtain ⟨i, e⟩ := p
 have := (TW.sane_ok mem).ino i e (TR.flat_mem.1 hp).2
 simp
 omega
theorem par_lt (mem : ByteArray) (x : Int) : TR.par (TR.flat (tE mem) 8) x < 8 := by
 rcases TR.par_ge (TR.flat (tE mem) 8) x with h | h | ⟨p, hp, h⟩
 ·omega
 ·omega
 ·have hm : p ∈ TR.own (TR.flat (tE mem) 8) x := by rw [hp]; simp
  obtain ⟨i, e⟩ := p
  have := (TR.flat_mem.1 (List.mem_filter.1 hm).1).1
  rw [h]
  simp only
  omega
theorem impl_Sound (mem : ByteArray) (w : World) (hms : mem.size ≤ 281474976710656) : Calls Tryz.prog 20 #[.string mem] w fun e w' => e = .returned (.bool (sound mem)) ∧ Below w.heap.size w w' := by
 have hr := TW.readTree mem w hms
 have hA : Hid (∀ e w', TW.Ans mem w e w' → ∃ p, e = .returned (.tuple #[.pointer p, .bool (sound mem)]) ∧ Below w.heap.size w w') := fun e w' ⟨p, he, hb, _⟩ => ⟨p, he, hb⟩
 go_enter Tryz.func20, Tryz.ntmps20
 go_wp2_with (go_at_call 25; refine hr.mono ?_; intro e w1 hans; obtain ⟨p, rfl, b1⟩ := hA.out _ _ hans; clear hans)
 go_ret
 exact ⟨rfl, b1⟩
theorem treeOk_bad {E : Nat → List T0.Ent} {K : Nat → Int} {i : Nat} (h0 : 0 < i) (h8 : i < 8) (h : TR.oneOk E K i = false) : TR.treeOk E K = false := by
 cases h' : TR.treeOk E K with
 | false => rfl
 | true => rw [TR.treeOk_iff.1 h' i h0 h8] at h; cases h
set_option maxHeartbeats 4000000 in
theorem spec_Sound (mem : ByteArray) (w : World) (hms : mem.size ≤ 281474976710656) : Calls Tryz.prog 21 #[.string mem] w fun e w' => e = .returned (.bool (sound mem)) ∧ Below w.heap.size w w' := by
 by_cases hm : mem.size = 768
 ·have hz : sound mem = (headOk mem && (nodesOk mem && ((tK mem 0 == 2) && (decide (cat (tZ mem) 8).Nodup && TR.treeOk (tE mem) (tK mem))))) := by
   unfold sound
   rw [decide_eq_true hm, Bool.true_and]
  have hpt : Hid (∀ W, Calls Tryz.prog 49 #[.string mem, .int .i64 0, .int .i64 32] W fun e w' => e = .returned (.string (B2.part mem 0 32)) ∧ w' = W) := fun W => B2.spec_Part _ _ _ _ (by unfold maxLen; omega) (by decide) (by decide)
  have hzr : Hid (∀ W, Calls Tryz.prog 40 #[.int .i64 28] W fun e w' => e = .returned (.string (B4.zeros 28)) ∧ w' = W) := fun W => B4.spec_Zeros 28 W
  have hzs : (B4.zeros 28).size = 28 := by decide +kernel
  have hadd : (⟨#[84, 78, 82, 49]⟩ : ByteArray) ++ B4.zeros 28 = hd := rfl
  have hho : headOk mem = ((B2.part mem 0 32).toList == hd.toList) := rfl
  obtain ⟨Q, hQ⟩ : ∃ Q, B2.part mem 0 32 = Q := ⟨_, rfl⟩
  obtain ⟨zz, hzz⟩ : ∃ zz, B4.zeros 28 = zz := ⟨_, rfl⟩
  obtain ⟨hh, hhh⟩ : ∃ hh, hd = hh := ⟨_, rfl⟩
  rw [hQ] at hpt hho
  rw [hhh] at hadd hho
  rw [hzz] at hzr hadd hzs
  have e768 : ((mem.size : Int) != 768) = false := by simp; omega
  have hsz1 : ¬ (9223372036854775807 < 4 + zz.size) := by omega
  clear hQ hzz hhh
  cases hH : headOk mem with
  | false =>
   rw [hH] at hho
   rw [hH, Bool.false_and] at hz
   have hne : (Q.toList == hh.toList) = false := hho.symm
   rw [hz]
   clear hho hH hz
   go_enter Tryz.func21, Tryz.ntmps21
   go_wp2_with (first
    | (go_at_call 49; refine (hpt.out _).mono ?_; rintro e w1 ⟨rfl, rfl⟩)
    | (go_at_call 40; refine (hzr.out _).mono ?_; rintro e w2 ⟨rfl, rfl⟩))
   go_ret
   exact ⟨rfl, Below.refl _ _⟩
  | true =>
   rw [hH] at hho
   rw [hH, Bool.true_and] at hz
   have hne : (Q.toList == hh.toList) = true := hho.symm
   have how : Hid (∀ W, Calls Tryz.prog 36 #[.string mem] W fun e w' => ∃ a c, e = .returned (.slice a (cat (tZ mem) 8).length c) ∧ (cat (tZ mem) 8).length ≤ c ∧ J0.Own W.heap.size w' a (cat (tZ mem) 8) ∧ Below W.heap.size W w') := fun W => l04Owned mem W hms
   have hlen := TW.cat_len (TW.pg_few mem) 8
   have hpg : Hid (∀ W a c, (cat (tZ mem) 8).length ≤ c → P0.Row W a (cat (tZ mem) 8) → Calls Tryz.prog 50 #[.slice a (cat (tZ mem) 8).length c] W fun e w' => e = .returned (.bool (decide (cat (tZ mem) 8).Nodup)) ∧ ∃ n, w' = W.drewN n) := fun W a c hc hR => by
    rw [← pages_eq]
    exact P1.l03Pages a c _ W (by omega) hc hR
   obtain ⟨zs, hzs'⟩ : ∃ zs, cat (tZ mem) 8 = zs := ⟨_, rfl⟩
   rw [hzs'] at how hpg hz
   clear hho hH hlen hzs'
   cases hnd : decide zs.Nodup with
   | false =>
    rw [hnd] at hpg
    rw [hnd, Bool.false_and, Bool.and_false, Bool.and_false] at hz
    rw [hz]
    clear hnd hz
    go_enter Tryz.func21, Tryz.ntmps21
    go_wp2_with (first
     | (go_at_call 49; refine (hpt.out _).mono ?_; rintro e w1 ⟨rfl, rfl⟩)
     | (go_at_call 40; refine (hzr.out _).mono ?_; rintro e w2 ⟨rfl, rfl⟩)
     | (go_at_call 36; refine (how.out _).mono ?_; rintro e w3 ⟨a3, c3, rfl, hc3, o3, b3⟩)
     | (go_at_call 50; refine (hpg.out _ _ _ hc3 o3.row).mono ?_; rintro e w4 ⟨rfl, n4, rfl⟩))
    go_ret
    exact ⟨rfl, K0.below_drewN b3 n4⟩
   | true =>
    rw [hnd] at hpg
    rw [hnd, Bool.true_and] at hz
    have hpa : Hid (∀ W, Calls Tryz.prog 33 #[.string mem] W (Par mem W)) := fun W => l04Parents mem W hm
    have hPA : Hid (∀ W e w', Par mem W e w' → ∃ a1 c1 a2 c2, e = .returned (.tuple #[.slice a1 8 c1, .slice a2 8 c2, .bool (nodesOk mem)]) ∧ Below W.heap.size W w' ∧ (nodesOk mem = true → ∃ g1 g2, a1 = some ⟨g1, 0, none⟩ ∧ a2 = some ⟨g2, 0, none⟩ ∧ Pr W g1 g2 (TR.flat (tE mem) 8) w')) := fun W e w' h => h
    have hLo : Hid (∀ (k : Nat) W, Calls Tryz.prog 34 #[.string mem, .int .i64 (k : Int)] W fun e w' => ∃ (o s : Int) (a : Option Addr) (n c : Nat) (x : ByteArray) (bb : Bool), e = .returned (.tuple #[.agg #[.int .i64 (tK mem k), .int .i64 o, .int .i64 s, .slice a n c], .string x, .bool bb]) ∧ Below W.heap.size W w') := fun k W => (O3.spec_Load mem (k : Int) W hms).mono fun e w' ⟨a, c, he, ho, hc, hb⟩ => ⟨_, _, a, _, c, _, _, by rw [tK, ← lK_eq hm]; exact he, hb⟩
    have hL0 : Hid (∀ W, Calls Tryz.prog 34 #[.string mem, .int .i64 0] W fun e w' => ∃ (o s : Int) (a : Option Addr) (n c : Nat) (x : ByteArray) (bb : Bool), e = .returned (.tuple #[.agg #[.int .i64 (tK mem 0), .int .i64 o, .int .i64 s, .slice a n c], .string x, .bool bb]) ∧ Below W.heap.size W w') := fun W => hLo.out 0 W
    clear hnd
    cases hno : nodesOk mem with
    | false =>
     rw [hno] at hPA
     rw [hno, Bool.false_and] at hz
     rw [hz]
     clear hno hz hLo
     go_enter Tryz.func21, Tryz.ntmps21
     go_wp2_with (first
      | (go_at_call 49; refine (hpt.out _).mono ?_; rintro e w1 ⟨rfl, rfl⟩)
      | (go_at_call 40; refine (hzr.out _).mono ?_; rintro e w2 ⟨rfl, rfl⟩)
      | (go_at_call 36; refine (how.out _).mono ?_; rintro e w3 ⟨a3, c3, rfl, hc3, o3, b3⟩)
      | (go_at_call 50; refine (hpg.out _ _ _ hc3 o3.row).mono ?_; rintro e w4 ⟨rfl, n4, rfl⟩; have l4 := K0.below_drewN b3 n4)
      | (go_at_call 34; refine (hL0.out _).mono ?_; rintro e w5 ⟨o5, s5, a5, n5, c5, x5, bb5, rfl, b5⟩; have l5 := ((l4.trans (b5.mono l4.size)).alloc (Nat.le_trans l4.size b5.size) (.cells #[.int .i64 (tK mem 0), .int .i64 o5, .int .i64 s5, .slice a5 n5 c5] 50)))
      | (go_at_call 33; refine (hpa.out _).mono ?_; intro e w6 hans; obtain ⟨a6, c6, a7, c7, rfl, b6, -⟩ := hPA.out _ _ _ hans; clear hans))
     go_ret
     exact ⟨rfl, l5.trans (b6.mono l5.size)⟩
    | true =>
     rw [hno] at hPA
     rw [hno, Bool.true_and] at hz
     by_cases hk2 : tK mem 0 = 2
     ·rw [hk2, show ((2 : Int) == 2) = true from rfl, Bool.true_and] at hz
      rw [hk2] at hL0
      have HZ : Hid (sound mem = TR.treeOk (tE mem) (tK mem)) := hz
      clear hno hz hk2
      go_enter Tryz.func21, Tryz.ntmps21
      go_wp2_with (first
       | (go_at_call 49; refine (hpt.out _).mono ?_; rintro e w1 ⟨rfl, rfl⟩)
       | (go_at_call 40; refine (hzr.out _).mono ?_; rintro e w2 ⟨rfl, rfl⟩)
       | (go_at_call 36; refine (how.out _).mono ?_; rintro e w3 ⟨a3, c3, rfl, hc3, o3, b3⟩)
       | (go_at_call 50; refine (hpg.out _ _ _ hc3 o3.row).mono ?_; rintro e w4 ⟨rfl, n4, rfl⟩; have l4 := K0.below_drewN b3 n4)
       | (go_at_call 34; refine (hL0.out _).mono ?_; rintro e w5 ⟨o5, s5, a5, n5, c5, x5, bb5, rfl, b5⟩; have l5 := ((l4.trans (b5.mono l4.size)).alloc (Nat.le_trans l4.size b5.size) (.cells #[.int .i64 2, .int .i64 o5, .int .i64 s5, .slice a5 n5 c5] 50)); have y5 := (K0.blk_new [.int .i64 2, .int .i64 o5, .int .i64 s5, .slice a5 n5 c5] w5 50))
       | (go_at_call 33; refine (hpa.out _).mono ?_; intro e w6 hans; obtain ⟨a6, c6, a7, c7, rfl, b6, hy6⟩ := hPA.out _ _ _ hans; clear hans; obtain ⟨g1, g2, rfl, rfl, pr6⟩ := hy6 (by trivial); clear hy6; have y6 := (y5.below b6).c0))
      obtain ⟨wa, hwa⟩ : ∃ wa, w5.alloc (.cells #[.int .i64 2, .int .i64 o5, .int .i64 s5, .slice a5 n5 c5] 50) = wa := ⟨_, rfl⟩
      rw [hwa] at pr6 l5
      clear y6 y5 b6 hwa b5 l4 hpg how hpt hzr hL0 hpa hPA o3 b3
      go_loopg [9] 7 (fun gk v W => ∃ k : Nat, 0 < k ∧ k + gk = 8 ∧ v = .int .i64 k ∧ (∀ i, 0 < i → i < k → TR.oneOk (tE mem) (tK mem) i = true) ∧ Pr wa g1 g2 (TR.flat (tE mem) 8) W)
      case atStart => exact ⟨1, by decide, rfl, rfl, fun i h0 h1 => by omega, pr6⟩
      case round =>
       obtain ⟨k, hk0, hkg, rfl, hall, pr⟩ := hrel
       clear pr6
       by_cases hlt : k < 8
       ·have hLk : Hid (∀ W, Calls Tryz.prog 34 #[.string mem, .int .i64 (k : Int)] W fun e w' => ∃ (o s : Int) (a : Option Addr) (n c : Nat) (x : ByteArray) (bb : Bool), e = .returned (.tuple #[.agg #[.int .i64 (tK mem k), .int .i64 o, .int .i64 s, .slice a n c], .string x, .bool bb]) ∧ Below W.heap.size W w') := fun W => hLo.out k W
        have hone : TR.oneOk (tE mem) (tK mem) k = (((tK mem k == 0) == (TR.par (TR.flat (tE mem) 8) (k : Int) == -1)) && (tK mem k == 0 || TR.root (TR.par (TR.flat (tE mem) 8)) 8 (k : Int))) := rfl
        have HBAD : Hid (TR.oneOk (tE mem) (tK mem) k = false → sound mem = false) := fun h => by rw [HZ.out]; exact treeOk_bad hk0 hlt h
        have HGOOD : Hid (TR.oneOk (tE mem) (tK mem) k = true → ∀ i, 0 < i → i < k + 1 → TR.oneOk (tE mem) (tK mem) i = true) := fun h i h0 h1 => by
         by_cases e : i = k
         ·rw [e]
          exact h
         ·exact hall i h0 (by omega)
        have hRt : Hid (∀ W, Pr wa g1 g2 (TR.flat (tE mem) 8) W → Calls Tryz.prog 51 #[.slice (some ⟨g1, 0, none⟩) 8 c6, .int .i64 (k : Int)] W fun e w' => e = .returned (.bool (TR.root (TR.par (TR.flat (tE mem) 8)) 8 (k : Int))) ∧ w' = W) := fun W h => l04Root _ g1 c6 k W (par_lt mem) (fun x hx => h.par hx) (by omega)
        have e1 : (0 : Int) ≤ (k : Int) := by omega
        have e2 : (k : Int) < 8 := by omega
        obtain ⟨K, hK⟩ : ∃ K, tK mem k = K := ⟨_, rfl⟩
        obtain ⟨p, hp⟩ : ∃ p, TR.par (TR.flat (tE mem) 8) (k : Int) = p := ⟨_, rfl⟩
        obtain ⟨r, hr⟩ : ∃ r, TR.root (TR.par (TR.flat (tE mem) 8)) 8 (k : Int) = r := ⟨_, rfl⟩
        rw [hK] at hLk hone
        rw [hp] at hone
        rw [hr] at hone hRt
        have HP : Hid (TR.par (TR.flat (tE mem) 8) (k : Int) = p) := hp
        clear hK hp hr hall hLo
        go_wp2_with (go_at_call 34; refine (hLk.out _).mono ?_; rintro e w7 ⟨o7, s7, a7, n7, c7', x7, bb7, rfl, b7⟩; have p7 := (pr.below b7).below (K0.below_new w7 (.cells #[.int .i64 K, .int .i64 o7, .int .i64 s7, .slice a7 n7 c7'] 50)); have y7 := (K0.blk_new [.int .i64 K, .int .i64 o7, .int .i64 s7, .slice a7 n7 c7'] w7 50).c0)
        have u7 := p7.par hlt
        rw [HP.out] at u7
        clear hLk pr b7
        by_cases hKz : K = 0 <;> by_cases hpn : p = -1
        ·subst hKz hpn
         have HA := HGOOD.out (by rw [hone]; rfl)
         have HA' : Hid (∀ i, 0 < i → i < k + 1 → TR.oneOk (tE mem) (tK mem) i = true) := HA
         clear HA hone HBAD HGOOD
         go_quiet (fail)
         go_wp2
         go_roundg (gk - 1)
         case measure => omega
         case rel => exact ⟨k + 1, by omega, by omega, by go_num, HA'.out, p7.drewN _⟩
        ·subst hKz
         have hpn' : (p == -1) = false := by simpa using hpn
         have HB2 : Hid (sound mem = false) := HBAD.out (by rw [hone, hpn']; rfl)
         clear hone HBAD HGOOD
         go_quiet (fail)
         go_wp2
         go_ret
         exact ⟨ret_bool HB2.out.symm, l5.trans ((K0.below_drewN p7.bel _).mono l5.size)⟩
        ·subst hpn
         have hKz' : (K == 0) = false := by simpa using hKz
         have HB2 : Hid (sound mem = false) := HBAD.out (by rw [hone, hKz']; rfl)
         clear hone HBAD HGOOD
         go_quiet (fail)
         go_wp2
         go_ret
         exact ⟨ret_bool HB2.out.symm, l5.trans ((K0.below_drewN p7.bel _).mono l5.size)⟩
        ·have hpn' : (p == -1) = false := by simpa using hpn
         have hKz' : (K == 0) = false := by simpa using hKz
         have hKn : (K != 0) = true := by simpa using hKz
         have hone' : TR.oneOk (tE mem) (tK mem) k = r := by rw [hone, hpn', hKz']; simp
         clear hone
         cases r with
         | true =>
          have HA' : Hid (∀ i, 0 < i → i < k + 1 → TR.oneOk (tE mem) (tK mem) i = true) := HGOOD.out hone'
          clear hone' HBAD HGOOD
          go_quiet ((go_at_call 51; exact Calls.quiet_of_same (hRt.out _ (p7.drewN _))))
          go_wp2
          go_roundg (gk - 1)
          case measure => omega
          case rel => exact ⟨k + 1, by omega, by omega, by go_num, HA'.out, p7.drewN _⟩
         | false =>
          have HB2 : Hid (sound mem = false) := HBAD.out hone'
          clear hone' HBAD HGOOD
          go_quiet ((go_at_call 51; exact Calls.quiet_of_same (hRt.out _ (p7.drewN _))))
          go_wp2
          go_ret
          exact ⟨ret_bool HB2.out.symm, l5.trans ((K0.below_drewN p7.bel _).mono l5.size)⟩
       ·obtain rfl : k = 8 := by omega
        have HS : Hid (sound mem = true) := by
         show sound mem = true
         rw [HZ.out]
         exact TR.treeOk_iff.2 fun i h0 h8 => hall i h0 h8
        have u0 := pr.par (x := 0) (by decide)
        rw [show ((0 : Nat) : Int) = 0 from rfl, par_zero] at u0
        clear hall hLo
        go_wp2
        go_ret
        exact ⟨ret_bool HS.out.symm, l5.trans (pr.bel.mono l5.size)⟩
     ·have hk2' : (tK mem 0 != 2) = true := by simpa using hk2
      rw [show (tK mem 0 == 2) = false by simpa using hk2, Bool.false_and] at hz
      rw [hz]
      clear hno hz hLo
      go_enter Tryz.func21, Tryz.ntmps21
      go_wp2_with (first
       | (go_at_call 49; refine (hpt.out _).mono ?_; rintro e w1 ⟨rfl, rfl⟩)
       | (go_at_call 40; refine (hzr.out _).mono ?_; rintro e w2 ⟨rfl, rfl⟩)
       | (go_at_call 36; refine (how.out _).mono ?_; rintro e w3 ⟨a3, c3, rfl, hc3, o3, b3⟩)
       | (go_at_call 50; refine (hpg.out _ _ _ hc3 o3.row).mono ?_; rintro e w4 ⟨rfl, n4, rfl⟩; have l4 := K0.below_drewN b3 n4)
       | (go_at_call 34; refine (hL0.out _).mono ?_; rintro e w5 ⟨o5, s5, a5, n5, c5, x5, bb5, rfl, b5⟩; have l5 := ((l4.trans (b5.mono l4.size)).alloc (Nat.le_trans l4.size b5.size) (.cells #[.int .i64 (tK mem 0), .int .i64 o5, .int .i64 s5, .slice a5 n5 c5] 50)); have y5 := (K0.blk_new [.int .i64 (tK mem 0), .int .i64 o5, .int .i64 s5, .slice a5 n5 c5] w5 50))
       | (go_at_call 33; refine (hpa.out _).mono ?_; intro e w6 hans; obtain ⟨a6, c6, a7, c7, rfl, b6, -⟩ := hPA.out _ _ _ hans; clear hans; have y6 := (y5.below b6).c0))
      go_ret
      exact ⟨rfl, l5.trans (b6.mono l5.size)⟩
 ·have hz : sound mem = false := by
   unfold sound
   rw [decide_eq_false hm, Bool.false_and]
  have e768 : ((mem.size : Int) != 768) = true := by simp; omega
  rw [hz]
  clear hm hz
  go_enter Tryz.func21, Tryz.ntmps21
  go_wp2
  go_ret
  exact ⟨rfl, Below.refl _ _⟩
end Go.Proofs.YtpkmeknniajahaaGreatDoor.TS
