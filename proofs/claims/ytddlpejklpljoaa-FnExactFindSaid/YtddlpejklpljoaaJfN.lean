/- Joined texts: plain facts and contracts, as each part says. -/
import Derived.Test.YtddlpejklpljoaaJfM
import Derived.Test.YtddlpejklpljoaaJfL
import Derived.BigQuiet
import Derived.Deep.LoopGhost
import Derived.Deep.RegionHeld3

/- The contracts of spec.Sound and impl.Sound. -/
namespace Go.Proofs.Ytddlpejklpljoaa.TS
open Go.ChangeShapes Go.WideShapes Go.ChangeAt Go.RowKit
set_option linter.unusedVariables false
set_option linter.unusedSimpArgs false
set_option maxRecDepth 10000
variable {w W W' : World} {mem : ByteArray}
open J0 (IBuf Own)
open TW (tK tZ tE cat nodesOk sound headOk hd)

theorem cat_mem {Z : Nat → List Int} {z : Int} : ∀ {n : Nat}, z ∈ cat Z n → ∃ i, i < n ∧ z ∈ Z i
  | 0, h => by simp [cat] at h
  | n + 1, h => by
    rw [cat, List.mem_append] at h
    rcases h with h | h
    · obtain ⟨i, hi, hz⟩ := cat_mem h
      exact ⟨i, by omega, hz⟩
    · exact ⟨n, by omega, h⟩
theorem pages_eq (mem : ByteArray) : P0.pagesOk (cat (tZ mem) 8) = decide (cat (tZ mem) 8).Nodup := by
  have hr : ∀ z ∈ cat (tZ mem) 8, 5 ≤ z ∧ z ≤ 23 := by
    intro z hz
    obtain ⟨i, _, hi⟩ := cat_mem hz
    unfold tZ at hi
    cases hI : G0.isI (O0.recd mem (i : Int)) with
    | false =>
      rw [(G0.g_no hI).2.2.2] at hi
      simp at hi
    | true => exact (N0.pagesOk_iff.1 (O0.got hI).2.2.2.1).1 z hi
  apply Bool.eq_iff_iff.2
  rw [N0.pagesOk_iff, decide_eq_true_eq]
  exact ⟨fun h => h.2, fun h => ⟨hr, h⟩⟩
theorem par_zero (mem : ByteArray) : TR.par (TR.flat (tE mem) 8) 0 = -1 := by
  rw [TR.par_nil]
  unfold TR.own
  rw [List.filter_eq_nil_iff]
  intro p hp
  obtain ⟨i, e⟩ := p
  have := (TW.sane_ok mem).ino i e (TR.flat_mem.1 hp).2
  simp
  omega
theorem par_lt (mem : ByteArray) (x : Int) : TR.par (TR.flat (tE mem) 8) x < 8 := by
  rcases TR.par_ge (TR.flat (tE mem) 8) x with h | h | ⟨p, hp, h⟩
  · omega
  · omega
  · have hm : p ∈ TR.own (TR.flat (tE mem) 8) x := by rw [hp]; simp
    obtain ⟨i, e⟩ := p
    have := (TR.flat_mem.1 (List.mem_filter.1 hm).1).1
    rw [h]
    simp only
    omega

theorem impl_Sound (mem : ByteArray) (w : World) (hms : mem.size ≤ 281474976710656) : Calls Try.prog 9 #[.string mem] w fun e w' => e = .returned (.bool (sound mem)) ∧ Below w.heap.size w w' := by
  have hr := TW.readTree mem w hms
  have hA : Hid (∀ e w', TW.Ans mem w e w' → ∃ p, e = .returned (.tuple #[.pointer p, .bool (sound mem)]) ∧ Below w.heap.size w w') := fun e w' ⟨p, he, hb, _⟩ => ⟨p, he, hb⟩
  go_enter Try.func9, Try.ntmps9
  go_wp2_with (go_at_call 34; refine hr.mono ?_; intro e w1 hans; obtain ⟨p, rfl, b1⟩ := hA.out _ _ hans; clear hans)
  go_ret
  exact ⟨rfl, b1⟩

theorem treeOk_bad {E : Nat → List T0.Ent} {K : Nat → Int} {i : Nat} (h0 : 0 < i) (h8 : i < 8) (h : TR.oneOk E K i = false) : TR.treeOk E K = false := by
  cases h' : TR.treeOk E K with
  | false => rfl
  | true => rw [TR.treeOk_iff.1 h' i h0 h8] at h; cases h

set_option maxHeartbeats 4000000 in
theorem spec_Sound (mem : ByteArray) (w : World) (hms : mem.size ≤ 281474976710656) : Calls Try.prog 8 #[.string mem] w fun e w' => e = .returned (.bool (sound mem)) ∧ Below w.heap.size w w' := by
  by_cases hm : mem.size = 768
  · have hz : sound mem = (headOk mem && (nodesOk mem && ((tK mem 0 == 2) && (decide (cat (tZ mem) 8).Nodup && TR.treeOk (tE mem) (tK mem))))) := by
      unfold sound
      rw [decide_eq_true hm, Bool.true_and]
    have hpt : Hid (∀ W, Calls Try.prog 27 #[.string mem, .int .i64 0, .int .i64 32] W fun e w' => e = .returned (.string (B2.part mem 0 32)) ∧ w' = W) := fun W => B2.spec_Part _ _ _ _ (by unfold maxLen; omega) (by decide) (by decide)
    have hzr : Hid (∀ W, Calls Try.prog 28 #[.int .i64 28] W fun e w' => e = .returned (.string (B4.zeros 28)) ∧ w' = W) := fun W => B4.spec_Zeros 28 W
    have hzs : (B4.zeros 28).size = 28 := by decide +kernel
    have hadd : (⟨#[84, 78, 82, 49]⟩ : ByteArray) ++ B4.zeros 28 = hd := rfl
    have hho : headOk mem = ((B2.part mem 0 32).toList == hd.toList) := rfl
    obtain ⟨Q, hQ⟩ : ∃ Q, B2.part mem 0 32 = Q := ⟨_, rfl⟩
    obtain ⟨zz, hzz⟩ : ∃ zz, B4.zeros 28 = zz := ⟨_, rfl⟩
    obtain ⟨hh, hhh⟩ : ∃ hh, hd = hh := ⟨_, rfl⟩
    rw [hQ] at hpt hho
    rw [hhh] at hadd hho
    rw [hzz] at hzr hadd hzs
    have e768 : ((mem.size : Int) != 768) = false := by simp; omega
    have hsz1 : ¬ (9223372036854775807 < 4 + zz.size) := by omega
    clear hQ hzz hhh
    cases hH : headOk mem with
    | false =>
      rw [hH] at hho
      rw [hH, Bool.false_and] at hz
      have hne : (Q.toList == hh.toList) = false := hho.symm
      rw [hz]
      clear hho hH hz
      go_enter Try.func8, Try.ntmps8
      go_wp2_with (first
        | (go_at_call 27; refine (hpt.out _).mono ?_; rintro e w1 ⟨rfl, rfl⟩)
        | (go_at_call 28; refine (hzr.out _).mono ?_; rintro e w2 ⟨rfl, rfl⟩))
      go_ret
      exact ⟨rfl, Below.refl _ _⟩
    | true =>
      rw [hH] at hho
      rw [hH, Bool.true_and] at hz
      have hne : (Q.toList == hh.toList) = true := hho.symm
      have how : Hid (∀ W, Calls Try.prog 30 #[.string mem] W fun e w' => ∃ a c, e = .returned (.slice a (cat (tZ mem) 8).length c) ∧ (cat (tZ mem) 8).length ≤ c ∧ Own W.heap.size w' a (cat (tZ mem) 8) ∧ Below W.heap.size W w') := fun W => l04Owned mem W hms
      have hlen := TW.cat_len (TW.pg_few mem) 8
      have hpg : Hid (∀ W a c, (cat (tZ mem) 8).length ≤ c → P0.Row W a (cat (tZ mem) 8) → Calls Try.prog 29 #[.slice a (cat (tZ mem) 8).length c] W fun e w' => e = .returned (.bool (decide (cat (tZ mem) 8).Nodup)) ∧ ∃ n, w' = W.drewN n) := fun W a c hc hR => by
        rw [← pages_eq]
        exact P1.l03Pages a c _ W (by omega) hc hR
      obtain ⟨zs, hzs'⟩ : ∃ zs, cat (tZ mem) 8 = zs := ⟨_, rfl⟩
      rw [hzs'] at how hpg hz
      clear hho hH hlen hzs'
      cases hnd : decide zs.Nodup with
      | false =>
        rw [hnd] at hpg
        rw [hnd, Bool.false_and, Bool.and_false, Bool.and_false] at hz
        rw [hz]
        clear hnd hz
        go_enter Try.func8, Try.ntmps8
        go_wp2_with (first
          | (go_at_call 27; refine (hpt.out _).mono ?_; rintro e w1 ⟨rfl, rfl⟩)
          | (go_at_call 28; refine (hzr.out _).mono ?_; rintro e w2 ⟨rfl, rfl⟩)
          | (go_at_call 30; refine (how.out _).mono ?_; rintro e w3 ⟨a3, c3, rfl, hc3, o3, b3⟩)
          | (go_at_call 29; refine (hpg.out _ _ _ hc3 o3.row).mono ?_; rintro e w4 ⟨rfl, n4, rfl⟩))
        go_ret
        exact ⟨rfl, K0.below_drewN b3 n4⟩
      | true =>
        rw [hnd] at hpg
        rw [hnd, Bool.true_and] at hz
        have hpa : Hid (∀ W, Calls Try.prog 32 #[.string mem] W (Par mem W)) := fun W => l04Parents mem W hm
        have hPA : Hid (∀ W e w', Par mem W e w' → ∃ a1 c1 a2 c2, e = .returned (.tuple #[.slice a1 8 c1, .slice a2 8 c2, .bool (nodesOk mem)]) ∧ Below W.heap.size W w' ∧ (nodesOk mem = true → ∃ g1 g2, a1 = some ⟨g1, 0, none⟩ ∧ a2 = some ⟨g2, 0, none⟩ ∧ Pr W g1 g2 (TR.flat (tE mem) 8) w')) := fun W e w' h => h
        have hLo : Hid (∀ (k : Nat) W, Calls Try.prog 31 #[.string mem, .int .i64 (k : Int)] W fun e w' => ∃ (o s : Int) (a : Option Addr) (n c : Nat) (x : ByteArray) (bb : Bool), e = .returned (.tuple #[.agg #[.int .i64 (tK mem k), .int .i64 o, .int .i64 s, .slice a n c], .string x, .bool bb]) ∧ Below W.heap.size W w') := fun k W => (O3.spec_Load mem (k : Int) W hms).mono fun e w' ⟨a, c, he, ho, hc, hb⟩ => ⟨_, _, a, _, c, _, _, by rw [tK, ← lK_eq hm]; exact he, hb⟩
        have hL0 : Hid (∀ W, Calls Try.prog 31 #[.string mem, .int .i64 0] W fun e w' => ∃ (o s : Int) (a : Option Addr) (n c : Nat) (x : ByteArray) (bb : Bool), e = .returned (.tuple #[.agg #[.int .i64 (tK mem 0), .int .i64 o, .int .i64 s, .slice a n c], .string x, .bool bb]) ∧ Below W.heap.size W w') := fun W => hLo.out 0 W
        clear hnd
        cases hno : nodesOk mem with
        | false =>
          rw [hno] at hPA
          rw [hno, Bool.false_and] at hz
          rw [hz]
          clear hno hz hLo
          go_enter Try.func8, Try.ntmps8
          go_wp2_with (first
            | (go_at_call 27; refine (hpt.out _).mono ?_; rintro e w1 ⟨rfl, rfl⟩)
            | (go_at_call 28; refine (hzr.out _).mono ?_; rintro e w2 ⟨rfl, rfl⟩)
            | (go_at_call 30; refine (how.out _).mono ?_; rintro e w3 ⟨a3, c3, rfl, hc3, o3, b3⟩)
            | (go_at_call 29; refine (hpg.out _ _ _ hc3 o3.row).mono ?_; rintro e w4 ⟨rfl, n4, rfl⟩; have l4 := K0.below_drewN b3 n4)
            | (go_at_call 31; refine (hL0.out _).mono ?_; rintro e w5 ⟨o5, s5, a5, n5, c5, x5, bb5, rfl, b5⟩; have l5 := ((l4.trans (b5.mono l4.size)).alloc (Nat.le_trans l4.size b5.size) (.cells #[.int .i64 (tK mem 0), .int .i64 o5, .int .i64 s5, .slice a5 n5 c5] 45)))
            | (go_at_call 32; refine (hpa.out _).mono ?_; intro e w6 hans; obtain ⟨a6, c6, a7, c7, rfl, b6, -⟩ := hPA.out _ _ _ hans; clear hans))
          go_ret
          exact ⟨rfl, l5.trans (b6.mono l5.size)⟩
        | true =>
          rw [hno] at hPA
          rw [hno, Bool.true_and] at hz
          by_cases hk2 : tK mem 0 = 2
          · rw [hk2, show ((2 : Int) == 2) = true from rfl, Bool.true_and] at hz
            rw [hk2] at hL0
            have HZ : Hid (sound mem = TR.treeOk (tE mem) (tK mem)) := hz
            clear hno hz hk2
            go_enter Try.func8, Try.ntmps8
            go_wp2_with (first
              | (go_at_call 27; refine (hpt.out _).mono ?_; rintro e w1 ⟨rfl, rfl⟩)
              | (go_at_call 28; refine (hzr.out _).mono ?_; rintro e w2 ⟨rfl, rfl⟩)
              | (go_at_call 30; refine (how.out _).mono ?_; rintro e w3 ⟨a3, c3, rfl, hc3, o3, b3⟩)
              | (go_at_call 29; refine (hpg.out _ _ _ hc3 o3.row).mono ?_; rintro e w4 ⟨rfl, n4, rfl⟩; have l4 := K0.below_drewN b3 n4)
              | (go_at_call 31; refine (hL0.out _).mono ?_; rintro e w5 ⟨o5, s5, a5, n5, c5, x5, bb5, rfl, b5⟩; have l5 := ((l4.trans (b5.mono l4.size)).alloc (Nat.le_trans l4.size b5.size) (.cells #[.int .i64 2, .int .i64 o5, .int .i64 s5, .slice a5 n5 c5] 45)); have y5 := (K0.blk_new [.int .i64 2, .int .i64 o5, .int .i64 s5, .slice a5 n5 c5] w5 45))
              | (go_at_call 32; refine (hpa.out _).mono ?_; intro e w6 hans; obtain ⟨a6, c6, a7, c7, rfl, b6, hy6⟩ := hPA.out _ _ _ hans; clear hans; obtain ⟨g1, g2, rfl, rfl, pr6⟩ := hy6 (by trivial); clear hy6; have y6 := (y5.below b6).c0))
            obtain ⟨wa, hwa⟩ : ∃ wa, w5.alloc (.cells #[.int .i64 2, .int .i64 o5, .int .i64 s5, .slice a5 n5 c5] 45) = wa := ⟨_, rfl⟩
            rw [hwa] at pr6 l5
            clear y6 y5 b6 hwa b5 l4 hpg how hpt hzr hL0 hpa hPA o3 b3
            go_loopg [9] 7 (fun gk v W => ∃ k : Nat, 0 < k ∧ k + gk = 8 ∧ v = .int .i64 k ∧ (∀ i, 0 < i → i < k → TR.oneOk (tE mem) (tK mem) i = true) ∧ Pr wa g1 g2 (TR.flat (tE mem) 8) W)
            case atStart => exact ⟨1, by decide, rfl, rfl, fun i h0 h1 => by omega, pr6⟩
            case round =>
              obtain ⟨k, hk0, hkg, rfl, hall, pr⟩ := hrel
              clear pr6
              by_cases hlt : k < 8
              · have hLk : Hid (∀ W, Calls Try.prog 31 #[.string mem, .int .i64 (k : Int)] W fun e w' => ∃ (o s : Int) (a : Option Addr) (n c : Nat) (x : ByteArray) (bb : Bool), e = .returned (.tuple #[.agg #[.int .i64 (tK mem k), .int .i64 o, .int .i64 s, .slice a n c], .string x, .bool bb]) ∧ Below W.heap.size W w') := fun W => hLo.out k W
                have hone : TR.oneOk (tE mem) (tK mem) k = (((tK mem k == 0) == (TR.par (TR.flat (tE mem) 8) (k : Int) == -1)) && (tK mem k == 0 || TR.root (TR.par (TR.flat (tE mem) 8)) 8 (k : Int))) := rfl
                have HBAD : Hid (TR.oneOk (tE mem) (tK mem) k = false → sound mem = false) := fun h => by rw [HZ.out]; exact treeOk_bad hk0 hlt h
                have HGOOD : Hid (TR.oneOk (tE mem) (tK mem) k = true → ∀ i, 0 < i → i < k + 1 → TR.oneOk (tE mem) (tK mem) i = true) := fun h i h0 h1 => by
                  by_cases e : i = k
                  · rw [e]
                    exact h
                  · exact hall i h0 (by omega)
                have hRt : Hid (∀ W, Pr wa g1 g2 (TR.flat (tE mem) 8) W → Calls Try.prog 33 #[.slice (some ⟨g1, 0, none⟩) 8 c6, .int .i64 (k : Int)] W fun e w' => e = .returned (.bool (TR.root (TR.par (TR.flat (tE mem) 8)) 8 (k : Int))) ∧ w' = W) := fun W h => l04Root _ g1 c6 k W (par_lt mem) (fun x hx => h.par hx) (by omega)
                have e1 : (0 : Int) ≤ (k : Int) := by omega
                have e2 : (k : Int) < 8 := by omega
                obtain ⟨K, hK⟩ : ∃ K, tK mem k = K := ⟨_, rfl⟩
                obtain ⟨p, hp⟩ : ∃ p, TR.par (TR.flat (tE mem) 8) (k : Int) = p := ⟨_, rfl⟩
                obtain ⟨r, hr⟩ : ∃ r, TR.root (TR.par (TR.flat (tE mem) 8)) 8 (k : Int) = r := ⟨_, rfl⟩
                rw [hK] at hLk hone
                rw [hp] at hone
                rw [hr] at hone hRt
                have HP : Hid (TR.par (TR.flat (tE mem) 8) (k : Int) = p) := hp
                clear hK hp hr hall hLo
                go_wp2_with (go_at_call 31; refine (hLk.out _).mono ?_; rintro e w7 ⟨o7, s7, a7, n7, c7', x7, bb7, rfl, b7⟩; have p7 := (pr.below b7).below (K0.below_new w7 (.cells #[.int .i64 K, .int .i64 o7, .int .i64 s7, .slice a7 n7 c7'] 45)); have y7 := (K0.blk_new [.int .i64 K, .int .i64 o7, .int .i64 s7, .slice a7 n7 c7'] w7 45).c0)
                have u7 := p7.par hlt
                rw [HP.out] at u7
                clear hLk pr b7
                by_cases hKz : K = 0 <;> by_cases hpn : p = -1
                · subst hKz hpn
                  have HA := HGOOD.out (by rw [hone]; rfl)
                  have HA' : Hid (∀ i, 0 < i → i < k + 1 → TR.oneOk (tE mem) (tK mem) i = true) := HA
                  clear HA hone HBAD HGOOD
                  go_quiet (fail)
                  go_wp2
                  go_roundg (gk - 1)
                  case measure => omega
                  case rel => exact ⟨k + 1, by omega, by omega, by go_num, HA'.out, p7.drewN _⟩
                · subst hKz
                  have hpn' : (p == -1) = false := by simpa using hpn
                  have HB2 : Hid (sound mem = false) := HBAD.out (by rw [hone, hpn']; rfl)
                  clear hone HBAD HGOOD
                  go_quiet (fail)
                  go_wp2
                  go_ret
                  exact ⟨ret_bool HB2.out.symm, l5.trans ((K0.below_drewN p7.bel _).mono l5.size)⟩
                · subst hpn
                  have hKz' : (K == 0) = false := by simpa using hKz
                  have HB2 : Hid (sound mem = false) := HBAD.out (by rw [hone, hKz']; rfl)
                  clear hone HBAD HGOOD
                  go_quiet (fail)
                  go_wp2
                  go_ret
                  exact ⟨ret_bool HB2.out.symm, l5.trans ((K0.below_drewN p7.bel _).mono l5.size)⟩
                · have hpn' : (p == -1) = false := by simpa using hpn
                  have hKz' : (K == 0) = false := by simpa using hKz
                  have hKn : (K != 0) = true := by simpa using hKz
                  have hone' : TR.oneOk (tE mem) (tK mem) k = r := by rw [hone, hpn', hKz']; simp
                  clear hone
                  cases r with
                  | true =>
                    have HA' : Hid (∀ i, 0 < i → i < k + 1 → TR.oneOk (tE mem) (tK mem) i = true) := HGOOD.out hone'
                    clear hone' HBAD HGOOD
                    go_quiet ((go_at_call 33; exact Calls.quiet_of_same (hRt.out _ (p7.drewN _))))
                    go_wp2
                    go_roundg (gk - 1)
                    case measure => omega
                    case rel => exact ⟨k + 1, by omega, by omega, by go_num, HA'.out, p7.drewN _⟩
                  | false =>
                    have HB2 : Hid (sound mem = false) := HBAD.out hone'
                    clear hone' HBAD HGOOD
                    go_quiet ((go_at_call 33; exact Calls.quiet_of_same (hRt.out _ (p7.drewN _))))
                    go_wp2
                    go_ret
                    exact ⟨ret_bool HB2.out.symm, l5.trans ((K0.below_drewN p7.bel _).mono l5.size)⟩
              · obtain rfl : k = 8 := by omega
                have HS : Hid (sound mem = true) := by
                  show sound mem = true
                  rw [HZ.out]
                  exact TR.treeOk_iff.2 fun i h0 h8 => hall i h0 h8
                have u0 := pr.par (x := 0) (by decide)
                rw [show ((0 : Nat) : Int) = 0 from rfl, par_zero] at u0
                clear hall hLo
                go_wp2
                go_ret
                exact ⟨ret_bool HS.out.symm, l5.trans (pr.bel.mono l5.size)⟩
          · have hk2' : (tK mem 0 != 2) = true := by simpa using hk2
            rw [show (tK mem 0 == 2) = false by simpa using hk2, Bool.false_and] at hz
            rw [hz]
            clear hno hz hLo
            go_enter Try.func8, Try.ntmps8
            go_wp2_with (first
              | (go_at_call 27; refine (hpt.out _).mono ?_; rintro e w1 ⟨rfl, rfl⟩)
              | (go_at_call 28; refine (hzr.out _).mono ?_; rintro e w2 ⟨rfl, rfl⟩)
              | (go_at_call 30; refine (how.out _).mono ?_; rintro e w3 ⟨a3, c3, rfl, hc3, o3, b3⟩)
              | (go_at_call 29; refine (hpg.out _ _ _ hc3 o3.row).mono ?_; rintro e w4 ⟨rfl, n4, rfl⟩; have l4 := K0.below_drewN b3 n4)
              | (go_at_call 31; refine (hL0.out _).mono ?_; rintro e w5 ⟨o5, s5, a5, n5, c5, x5, bb5, rfl, b5⟩; have l5 := ((l4.trans (b5.mono l4.size)).alloc (Nat.le_trans l4.size b5.size) (.cells #[.int .i64 (tK mem 0), .int .i64 o5, .int .i64 s5, .slice a5 n5 c5] 45)); have y5 := (K0.blk_new [.int .i64 (tK mem 0), .int .i64 o5, .int .i64 s5, .slice a5 n5 c5] w5 45))
              | (go_at_call 32; refine (hpa.out _).mono ?_; intro e w6 hans; obtain ⟨a6, c6, a7, c7, rfl, b6, -⟩ := hPA.out _ _ _ hans; clear hans; have y6 := (y5.below b6).c0))
            go_ret
            exact ⟨rfl, l5.trans (b6.mono l5.size)⟩
  · have hz : sound mem = false := by
      unfold sound
      rw [decide_eq_false hm, Bool.false_and]
    have e768 : ((mem.size : Int) != 768) = true := by simp; omega
    rw [hz]
    clear hm hz
    go_enter Try.func8, Try.ntmps8
    go_wp2
    go_ret
    exact ⟨rfl, Below.refl _ _⟩
end Go.Proofs.Ytddlpejklpljoaa.TS

/- The contracts of spec.l04Path and spec.Files. -/
namespace Go.Proofs.Ytddlpejklpljoaa.FI
open Go.ChangeShapes Go.WideShapes Go.ChangeAt Go.RowKit
set_option linter.unusedVariables false
set_option linter.unusedSimpArgs false
set_option maxRecDepth 10000
variable {w W W' : World} {mem : ByteArray}
open TW (tK tZ tE cat nodesOk sound)
open TS (Pr)

theorem ret_str {a b : ByteArray} (h : a = b) : Ending.returned (.string a) = .returned (.string b) := by rw [h]
theorem empty_of {q : ByteArray} (h : q.size = 0) : q = ⟨#[]⟩ := by
  apply ByteArray.ext
  apply Array.eq_empty_of_size_eq_zero
  exact h

theorem par_cell {g1 : Nat} {l : List (Nat × T0.Ent)} (h : K0.Blk g1 (TS.pv l) W) {x : Nat} (hx : x < 8) : W.cell? ⟨g1, x, none⟩ = some (.int .i64 (TR.par l (x : Int))) := by
  rw [h.cell x (by rw [TS.pv_length]; exact hx)]
  simp [TS.pv]
theorem nam_cell {g2 : Nat} {l : List (Nat × T0.Ent)} (h : K0.Blk g2 (TS.nv l) W) {x : Nat} (hx : x < 8) : W.cell? ⟨g2, x, none⟩ = some (.string (TR.nam l (x : Int))) := by
  rw [h.cell x (by rw [TS.nv_length]; exact hx)]
  simp [TS.nv]

set_option maxHeartbeats 2000000 in
theorem l04Path {g1 g2 : Nat} (c1 c2 : Nat) (w : World) (hp1 : K0.Blk g1 (TS.pv (TR.flat (tE mem) 8)) w) (hp2 : K0.Blk g2 (TS.nv (TR.flat (tE mem) 8)) w) (ht : TR.treeOk (tE mem) (tK mem) = true) {x k : Nat} {q : ByteArray} (hk : k ≤ 8) (hq : TR.At2 (tE mem) x k q) :
    Calls Try.prog 35 #[.slice (some ⟨g1, 0, none⟩) 8 c1, .slice (some ⟨g2, 0, none⟩) 8 c2, .int .i64 (x : Int)] w fun e w' => e = .returned (.string (TR.full q)) ∧ w' = w := by
  have hsz : q.size ≤ 120 := Nat.le_trans (hq.size fun i e he => (TW.ent_ok mem i e he).2) (by omega)
  have HQ : Hid (TR.At2 (tE mem) x k q) := hq
  have HT : Hid (TR.treeOk (tE mem) (tK mem) = true) := ht
  clear hq ht
  go_enter Try.func35, Try.ntmps35
  go_wp2
  go_loopg [2, 7] k (fun gj v u W => ∃ (y : Nat) (o q' : ByteArray), v = .int .i64 (y : Int) ∧ u = .string o ∧ Hid (TR.At2 (tE mem) y gj q') ∧ Hid (q' ++ o = q) ∧ W = w)
  case atStart => exact ⟨x, ⟨#[]⟩, q, rfl, rfl, HQ.out, TR.app_nil q, rfl⟩
  case round =>
    obtain ⟨y, o, q', rfl, rfl, H1, H2, rfl⟩ := hrel
    have hos : o.size ≤ 120 := by
      have := congrArg ByteArray.size H2.out
      rw [ByteArray.size_append] at this
      omega
    by_cases hy : y = 0
    · subst hy
      have hqo : o = q := by
        have h2 := H2.out
        have h1 := H1.out
        rcases h1.or with ⟨_, _, e⟩ | ⟨_, _, _, _, _, _, hm, _⟩
        · rw [← h2, e, TR.nil_app]
        · have := ((TW.sane_ok mem).ino _ _ hm).1
          simp at this
      subst hqo
      clear H2 H1
      by_cases hz : o.size = 0
      · obtain rfl := empty_of hz
        go_wp2
        go_ret
        exact ⟨rfl, rfl⟩
      · have HF : Hid (TR.full o = o) := if_neg hz
        have he : (o.toList == []) = false := by
          cases h : o.toList with
          | nil =>
            exfalso
            apply hz
            rw [Lib.size_eq, ← Lib.toList_data, h]
            rfl
          | cons _ _ => rfl
        have he2 : o.toList.isEmpty = false := by
          cases h : o.toList with
          | nil => rw [h] at he; simp at he
          | cons _ _ => rfl
        clear hz
        go_wp2
        go_ret
        exact ⟨ret_str HF.out.symm, rfl⟩
    · obtain ⟨gj', d, q2, nm, hgk, hd, hm, hq'⟩ : ∃ gj' d q2 nm, gk = gj' + 1 ∧ TR.At2 (tE mem) d gj' q2 ∧ ((y : Int), nm) ∈ tE mem d ∧ q' = q2 ++ (⟨#[47]⟩ ++ nm) := by
        have h1 := H1.out
        rcases h1.or with ⟨e, _, _⟩ | ⟨d, k', q2, nm, e, hd, hm, e2⟩
        · exact absurd e hy
        · exact ⟨k', d, q2, nm, e, hd, hm, e2⟩
      have hin := (TW.sane_ok mem).ino _ _ hm
      have hd8 := (up_of HT.out (TW.sane_ok mem) hd).1
      obtain ⟨h1, h2⟩ := TR.par_of HT.out (TW.sane_ok mem) hd8 hm
      simp only at h1 h2 hin
      have hy8 : y < 8 := by omega
      have u1 := par_cell hp1 hy8
      have u2 := nam_cell hp2 hy8
      rw [h1] at u1
      rw [h2] at u2
      have hnm := (TW.ent_ok mem d _ hm).2
      simp only at hnm
      have a1 : (0 : Int) < (y : Int) := by omega
      have a2 : (0 : Int) ≤ (y : Int) := by omega
      have a3 : (y : Int) < 8 := by omega
      have s1 : ¬ (9223372036854775807 < 1 + nm.size) := by omega
      have s2 : ¬ (9223372036854775807 < 1 + nm.size + o.size) := by omega
      have H3 : Hid (q2 ++ ((⟨#[47]⟩ ++ nm) ++ o) = q) := by
        show _ = _
        rw [← H2.out, hq', TR.app_assoc, TR.app_assoc, TR.app_assoc]
      have H4 : Hid (TR.At2 (tE mem) d gj' q2) := hd
      clear h1 h2 hm hq' hd H1 H2
      go_wp2
      go_roundg gj'
      case measure => omega
      case rel => exact ⟨d, _, q2, rfl, rfl, H4.out, H3.out, rfl⟩

theorem root_at2 {E : Nat → List T0.Ent} : ∀ n (x : Nat), x < 8 → TR.root (TR.par (TR.flat E 8)) n (x : Int) = true → ∃ k q, k ≤ n ∧ TR.At2 E x k q
  | 0, x, _, h => by
    simp only [TR.root, beq_iff_eq] at h
    have : x = 0 := by omega
    subst this
    exact ⟨0, _, Nat.le_refl _, TR.At2.zero⟩
  | n + 1, x, hx, h => by
    by_cases h0 : x = 0
    · subst h0
      exact ⟨0, _, Nat.zero_le _, TR.At2.zero⟩
    · rw [TR.root_pos _ _ _ (by omega)] at h
      rcases TR.par_ge (TR.flat E 8) x with hp | hp | ⟨p, hp, hq⟩
      · rw [hp, TR.root_neg _ _ _ (by decide)] at h
        cases h
      · rw [hp, TR.root_neg _ _ _ (by decide)] at h
        cases h
      · rw [hq] at h
        have hm : p ∈ TR.own (TR.flat E 8) x := by rw [hp]; simp
        obtain ⟨i, e⟩ := p
        obtain ⟨m1, m2⟩ := List.mem_filter.1 hm
        obtain ⟨i8, he⟩ := TR.flat_mem.1 m1
        have hex : e.1 = (x : Int) := by simpa using m2
        obtain ⟨k, q, hk, ha⟩ := root_at2 n i i8 h
        refine ⟨k + 1, _, by omega, TR.At2.down (nm := e.2) ha ?_⟩
        rw [← hex]
        exact he

theorem lO_eq (i : Int) (h : O0.isL mem i = true) : O0.lO mem i = G0.gO (O0.recd mem i) := (O0.l_yes h).2.1
theorem isL_iff (hm : mem.size = 768) (i : Nat) : O0.isL mem (i : Int) = !(decide (tK mem i = 0)) := by
  have hk := TS.lK_eq hm (i : Int)
  cases h : O0.isL mem (i : Int) with
  | false =>
    rw [(O0.l_no h).1] at hk
    have : tK mem i = 0 := hk.symm
    simp [this]
  | true =>
    have h1 : tK mem i ≠ 0 := by
      intro e
      unfold O0.isL at h
      simp only [Bool.and_eq_true, Bool.not_eq_true', decide_eq_false_iff_not] at h
      have hI := h.2.1
      unfold tK at e
      rw [(G0.g_yes hI).1] at e
      exact h.2.2 e
    simp [h1]
theorem lD_file (i : Int) (h : O0.isL mem i = true) : O0.lD mem i = D1.data mem i := (O0.l_yes h).2.2.2.2

set_option maxHeartbeats 4000000 in
theorem spec_Files (mem : ByteArray) (w : World) (hms : mem.size ≤ 281474976710656) : Calls Try.prog 10 #[.string mem] w fun e w' => ∃ g c, e = .returned (.slice (some ⟨g, 0, none⟩) (files mem).length c) ∧ w.heap.size ≤ g ∧ K0.Blk g (ffl (files mem)) w' ∧ Below w.heap.size w w' := by
  have hS : Hid (∀ W, Calls Try.prog 8 #[.string mem] W fun e w' => e = .returned (.bool (sound mem)) ∧ Below W.heap.size W w') := fun W => TS.spec_Sound mem W hms
  have l0 := K0.below_new w (.cells #[] 57)
  have b0 := fbuf_new (base := w.heap.size) w (Nat.le_refl _)
  cases hs : sound mem with
  | false =>
    rw [hs] at hS
    have hu : files mem = [] := by unfold files; rw [hs]; rfl
    rw [hu]
    clear hs hu
    go_enter Try.func10, Try.ntmps10
    go_wp2_with (go_at_call 8; refine (hS.out _).mono ?_; rintro e w1 ⟨rfl, b1⟩)
    go_ret
    exact ⟨_, _, rfl, Nat.le_refl _, (K0.blk_new [] w _).below b1, l0.trans (b1.mono l0.size)⟩
  | true =>
    rw [hs] at hS
    obtain ⟨hm, hno, hK0, ht⟩ := sound_parts hs
    have hu : files mem = filesTo mem (fpath mem) 8 := by unfold files; rw [if_pos hs]
    rw [hu]
    have hpa : Hid (∀ W, Calls Try.prog 32 #[.string mem] W fun e w' => ∃ g1 c1 g2 c2, e = .returned (.tuple #[.slice (some ⟨g1, 0, none⟩) 8 c1, .slice (some ⟨g2, 0, none⟩) 8 c2, .bool true]) ∧ Pr W g1 g2 (TR.flat (tE mem) 8) w') := fun W => (TS.l04Parents mem W hm).mono fun e w' ⟨a1, c1, a2, c2, he, hb, hy⟩ => by
      obtain ⟨g1, g2, rfl, rfl, hp⟩ := hy hno
      rw [hno] at he
      exact ⟨g1, c1, g2, c2, he, hp⟩
    have HP : Hid (∀ x, x < 8 → tK mem x ≠ 0 → ∃ k q, k ≤ 8 ∧ TR.At2 (tE mem) x k q ∧ fpath mem x = TR.full q) := by
      intro x hx hk
      obtain ⟨k, q, hk8, hq⟩ : ∃ k q, k ≤ 8 ∧ TR.At2 (tE mem) x k q := by
        by_cases h0 : x = 0
        · subst h0
          exact ⟨0, _, by decide, TR.At2.zero⟩
        · have hone := TR.treeOk_iff.1 ht x (by omega) hx
          unfold TR.oneOk at hone
          simp only [Bool.and_eq_true, beq_iff_eq, Bool.or_eq_true] at hone
          exact root_at2 8 x hx (hone.2.resolve_left hk)
      exact ⟨k, q, hk8, hq, by rw [fpath, (up_of ht (TW.sane_ok mem) hq).2 8 hk8, TR.app_nil]⟩
    have hlen := filesTo_len mem (fpath mem)
    clear hs hu hno
    go_enter Try.func10, Try.ntmps10
    go_wp2_with (first
      | (go_at_call 8; refine (hS.out _).mono ?_; rintro e w1 ⟨rfl, b1⟩; have l1 := l0.trans (b1.mono l0.size))
      | (go_at_call 32; refine (hpa.out _).mono ?_; rintro e w2 ⟨g1, c1, g2, c2, rfl, p2⟩))
    have bf : FBuf w.heap.size w2 w.heap.size 0 0 [] := (b0.below b1).below p2.bel
    have l2 := l1.trans (p2.bel.mono l1.size)
    have hne1 : w.heap.size ≠ g1 := by
      have h1 : (w.alloc (.cells #[] 57)).heap.size = w.heap.size + 1 := by simp
      have h2 := b1.size
      have h3 := p2.lo.1
      omega
    have hne2 : w.heap.size ≠ g2 := by
      have h1 : (w.alloc (.cells #[] 57)).heap.size = w.heap.size + 1 := by simp
      have h2 := b1.size
      have h3 := p2.lo.2
      omega
    have k1 := p2.b1
    have k2 := p2.b2
    clear b0 l0 b1 hS hpa p2 l1
    go_loopg [3, 7] 8 (fun gk v i W => ∃ (k n c g : Nat), k + gk = 8 ∧ i = .int .i64 k ∧ v = .slice (some ⟨g, 0, none⟩) n c ∧ FBuf w.heap.size W g n c (filesTo mem (fpath mem) k) ∧ K0.Blk g1 (TS.pv (TR.flat (tE mem) 8)) W ∧ K0.Blk g2 (TS.nv (TR.flat (tE mem) 8)) W ∧ g ≠ g1 ∧ g ≠ g2 ∧ Below w.heap.size w W)
    case atStart => exact ⟨0, 0, 0, _, rfl, rfl, rfl, bf, k1, k2, hne1, hne2, l2⟩
    case round =>
      obtain ⟨k, n, c, g, hkg, rfl, rfl, hbuf, kb1, kb2, n1, n2, hbel⟩ := hrel
      clear bf k1 k2 hne1 hne2 l2
      by_cases hlt : k < 8
      · have e1 : (k : Int) < 8 := by omega
        have hLo : Hid (∀ W, Calls Try.prog 31 #[.string mem, .int .i64 (k : Int)] W fun e w' => ∃ (o s : Int) (a : Option Addr) (n c : Nat) (x : ByteArray), e = .returned (.tuple #[.agg #[.int .i64 (tK mem k), .int .i64 o, .int .i64 s, .slice a n c], .string x, .bool (!(decide (tK mem k = 0)))]) ∧ (tK mem k ≠ 0 → o = G0.gO (O0.recd mem (k : Int)) ∧ x = D1.data mem (k : Int)) ∧ Below W.heap.size W w') := fun W => (O3.spec_Load mem (k : Int) W hms).mono fun e w' ⟨a, c, he, ho, hc, hb⟩ => ⟨_, _, a, _, c, _, by rw [tK, ← TS.lK_eq hm, ← show O0.isL mem (k : Int) = !(decide (O0.lK mem (k : Int) = 0)) by rw [TS.lK_eq hm]; exact isL_iff hm k]; exact he, fun hk => by
            have hL : O0.isL mem (k : Int) = true := by rw [isL_iff hm k]; simp [hk]
            exact ⟨lO_eq _ hL, lD_file _ hL⟩, hb⟩
        have hst : filesTo mem (fpath mem) (k + 1) = filesTo mem (fpath mem) k ++ if tK mem k = 0 then [] else [flOf mem (fpath mem) k] := rfl
        have hnl : n ≤ 8 := by
          have := hlen k
          rw [hbuf.1]
          omega
        by_cases hz : tK mem k = 0
        · have HS : Hid (filesTo mem (fpath mem) (k + 1) = filesTo mem (fpath mem) k) := by
            show _ = _
            rw [hst, if_pos hz, List.append_nil]
          rw [hz] at hLo
          have hd0 : (!(decide ((0 : Int) = 0))) = false := by decide
          rw [hd0] at hLo
          clear hst hz HP hd0
          go_wp2_with (go_at_call 31; refine (hLo.out _).mono ?_; rintro e w3 ⟨o3, s3, a3, n3, c3, x3, rfl, -, b3⟩; have nl3 := K0.below_new w3 (.cells #[.int .i64 0, .int .i64 o3, .int .i64 s3, .slice a3 n3 c3] 45))
          go_roundg (gk - 1)
          case measure => omega
          case rel => exact ⟨k + 1, n, c, g, by omega, by go_num, rfl, by rw [HS.out]; exact (hbuf.below b3).below nl3, (kb1.below b3).below nl3, (kb2.below b3).below nl3, n1, n2, (hbel.trans (b3.mono hbel.size)).trans (nl3.mono (Nat.le_trans hbel.size b3.size))⟩
        · obtain ⟨kq, q, hkq, hAq, hfp⟩ := HP.out k hlt hz
          have hPt : Hid (∀ W, K0.Blk g1 (TS.pv (TR.flat (tE mem) 8)) W → K0.Blk g2 (TS.nv (TR.flat (tE mem) 8)) W → Calls Try.prog 35 #[.slice (some ⟨g1, 0, none⟩) 8 c1, .slice (some ⟨g2, 0, none⟩) 8 c2, .int .i64 (k : Int)] W fun e w' => e = .returned (.string (TR.full q)) ∧ w' = W) := fun W h1 h2 => l04Path c1 c2 W h1 h2 ht hkq hAq
          have hdec : (!(decide (tK mem k = 0))) = true := by simp [hz]
          rw [hdec] at hLo
          have hnd : D1.nodeD mem (k : Int) = if tK mem k = 2 then ⟨#[]⟩ else D1.data mem (k : Int) := rfl
          by_cases h2 : tK mem k = 2
          · rw [if_pos h2] at hnd
            have HS : Hid (∀ o, o = G0.gO (O0.recd mem (k : Int)) → filesTo mem (fpath mem) (k + 1) = filesTo mem (fpath mem) k ++ [⟨(k : Int), TR.full q, 2, o, ⟨#[]⟩⟩]) := fun o ho => by
              rw [hst, if_neg hz, flOf, hfp, h2, ho, hnd]
            rw [h2] at hLo
            clear hst hz HP hdec hnd h2 hfp hAq
            go_wp2_with (go_at_call 31; refine (hLo.out _).mono ?_; rintro e w3 ⟨o3, s3, a3, n3, c3, x3, rfl, hy3, b3⟩; have HY3 : Hid ((2 : Int) ≠ 0 → o3 = G0.gO (O0.recd mem (k : Int)) ∧ x3 = D1.data mem (k : Int)) := hy3; clear hy3; have nl3 := K0.below_new w3 (.cells #[.int .i64 2, .int .i64 o3, .int .i64 s3, .slice a3 n3 c3] 45); have nb3 := K0.blk_new [.int .i64 2, .int .i64 o3, .int .i64 s3, .slice a3 n3 c3] w3 45; have y0 := nb3.c0; have y1 := nb3.c1)
            have ho3 := (HY3.out (by decide)).1
            have bf := (hbuf.below b3).below nl3
            have bl := (hbel.trans (b3.mono hbel.size)).trans (nl3.mono (Nat.le_trans hbel.size b3.size))
            have kd1 := (kb1.below b3).below nl3
            have kd2 := (kb2.below b3).below nl3
            have HO3 : Hid (o3 = G0.gO (O0.recd mem (k : Int))) := ho3
            clear HY3 ho3 nl3 nb3 hLo
            obtain ⟨W0, hW0⟩ : ∃ W0, w3.alloc (.cells #[.int .i64 2, .int .i64 o3, .int .i64 s3, .slice a3 n3 c3] 45) = W0 := ⟨_, rfl⟩
            rw [hW0] at bf bl kd1 kd2 y0 y1 ⊢
            have HGL : Hid (g < w3.heap.size ∧ W0.heap.size = w3.heap.size + 1) := ⟨Nat.lt_of_lt_of_le (hbuf.2.lt g rfl).2 b3.size, by rw [← hW0]; simp⟩
            have hS0 : W0.drew.cell? ⟨w3.heap.size, 0, none⟩ = some (.int .i64 2) ∧ W0.drew.cell? ⟨w3.heap.size, 1, none⟩ = some (.int .i64 o3) := ⟨y0, y1⟩
            have hS1 : (W0.drew.alloc (.cells #[.int .i64 (k : Int), .string (TR.full q), .int .i64 2, .int .i64 o3, .string ⟨#[]⟩] 57)).cell? ⟨w3.heap.size, 0, none⟩ = some (.int .i64 2) ∧ (W0.drew.alloc (.cells #[.int .i64 (k : Int), .string (TR.full q), .int .i64 2, .int .i64 o3, .string ⟨#[]⟩] 57)).cell? ⟨w3.heap.size, 1, none⟩ = some (.int .i64 o3) := by
              have h2 : w3.heap.size < W0.drew.heap.size := by have := HGL.out.2; show w3.heap.size < W0.heap.size; omega
              have hnew := K0.below_new W0.drew (.cells #[.int .i64 (k : Int), .string (TR.full q), .int .i64 2, .int .i64 o3, .string ⟨#[]⟩] 57)
              exact ⟨(hnew.cell (p := ⟨w3.heap.size, 0, none⟩) h2).trans hS0.1, (hnew.cell (p := ⟨w3.heap.size, 1, none⟩) h2).trans hS0.2⟩
            have hs0 : W0.drew.heap.size = w3.heap.size + 1 := HGL.out.2
            have bf0 := bf.drew
            have bl0 := bl.drew
            have kc1 := kd1.drew
            have kc2 := kd2.drew
            clear hW0 y0 y1 bf bl kd1 kd2 hbuf hbel kb1 kb2 b3
            go_region_held3 (fun W => W.cell? ⟨w3.heap.size, 0, none⟩ = some (.int .i64 2) ∧ W.cell? ⟨w3.heap.size, 1, none⟩ = some (.int .i64 o3)) (assumption) ((first
              | (go_at_call 35; refine (hPt.out _ kc1 kc2).mono ?_; rintro e w4 ⟨rfl, rfl⟩)
              | (refine step_file rfl (.tmp 38) (.tmp 50) rfl bf0 ⟨(k : Int), TR.full q, 2, o3, ⟨#[]⟩⟩ (by rfl) (H := w3.heap.size + 1) hs0 (by rfl) (by omega) bl0.size ?_; intro g5 c5 w5 bf5 b5 gr5 q5; have hS5 : w5.cell? ⟨w3.heap.size, 0, none⟩ = some (.int .i64 2) ∧ w5.cell? ⟨w3.heap.size, 1, none⟩ = some (.int .i64 o3) := ⟨gr5.cell hS0.1 (by have := HGL.out.1; simp; omega), gr5.cell hS0.2 (by have := HGL.out.1; simp; omega)⟩)))
            have HG5 : Hid (g5 ≠ g1 ∧ g5 ≠ g2) := by
              have h1 := kc1.lt
              have h2 := kc2.lt
              rcases q5 with e | e
              · rw [e]
                exact ⟨n1, n2⟩
              · exact ⟨by omega, by omega⟩
            go_wp2
            go_roundg (gk - 1)
            case measure => omega
            case rel => exact ⟨k + 1, n + 1, c5, g5, by omega, by go_num, rfl, by rw [HS.out o3 HO3.out]; exact bf5, TW.blk_gr kc1 gr5 n1.symm, TW.blk_gr kc2 gr5 n2.symm, HG5.out.1, HG5.out.2, bl0.trans b5⟩
          · rw [if_neg h2] at hnd
            have HS0 : Hid (∀ o x, o = G0.gO (O0.recd mem (k : Int)) → x = D1.data mem (k : Int) → filesTo mem (fpath mem) (k + 1) = filesTo mem (fpath mem) k ++ [⟨(k : Int), TR.full q, tK mem k, o, x⟩]) := fun o x ho hx => by
              rw [hst, if_neg hz, flOf, hfp, ho, hx, hnd]
            have h2' : (tK mem k == 2) = false := by simpa using h2
            have HZ : Hid (tK mem k ≠ 0) := hz
            obtain ⟨K, hK⟩ : ∃ K, tK mem k = K := ⟨_, rfl⟩
            rw [hK] at hLo HS0 h2' HZ
            clear hst hz HP hdec hnd h2 hfp hAq hK
            go_wp2_with (go_at_call 31; refine (hLo.out _).mono ?_; rintro e w3 ⟨o3, s3, a3, n3, c3, x3, rfl, hy3, b3⟩; have HY3 : Hid (K ≠ 0 → o3 = G0.gO (O0.recd mem (k : Int)) ∧ x3 = D1.data mem (k : Int)) := hy3; clear hy3; have nl3 := K0.below_new w3 (.cells #[.int .i64 K, .int .i64 o3, .int .i64 s3, .slice a3 n3 c3] 45); have nb3 := K0.blk_new [.int .i64 K, .int .i64 o3, .int .i64 s3, .slice a3 n3 c3] w3 45; have y0 := nb3.c0; have y1 := nb3.c1)
            have HS : Hid (∀ o, o = G0.gO (O0.recd mem (k : Int)) → filesTo mem (fpath mem) (k + 1) = filesTo mem (fpath mem) k ++ [⟨(k : Int), TR.full q, K, o, x3⟩]) := fun o ho => HS0.out o x3 ho (HY3.out HZ.out).2
            have HO3 : Hid (o3 = G0.gO (O0.recd mem (k : Int))) := (HY3.out HZ.out).1
            have bf := (hbuf.below b3).below nl3
            have bl := (hbel.trans (b3.mono hbel.size)).trans (nl3.mono (Nat.le_trans hbel.size b3.size))
            have kd1 := (kb1.below b3).below nl3
            have kd2 := (kb2.below b3).below nl3
            clear HY3 nl3 nb3 hLo HS0
            obtain ⟨W0, hW0⟩ : ∃ W0, w3.alloc (.cells #[.int .i64 K, .int .i64 o3, .int .i64 s3, .slice a3 n3 c3] 45) = W0 := ⟨_, rfl⟩
            rw [hW0] at bf bl kd1 kd2 y0 y1 ⊢
            have HGL : Hid (g < w3.heap.size ∧ W0.heap.size = w3.heap.size + 1) := ⟨Nat.lt_of_lt_of_le (hbuf.2.lt g rfl).2 b3.size, by rw [← hW0]; simp⟩
            have hS0 : W0.drew.cell? ⟨w3.heap.size, 0, none⟩ = some (.int .i64 K) ∧ W0.drew.cell? ⟨w3.heap.size, 1, none⟩ = some (.int .i64 o3) := ⟨y0, y1⟩
            have hS1 : (W0.drew.alloc (.cells #[.int .i64 (k : Int), .string (TR.full q), .int .i64 K, .int .i64 o3, .string x3] 57)).cell? ⟨w3.heap.size, 0, none⟩ = some (.int .i64 K) ∧ (W0.drew.alloc (.cells #[.int .i64 (k : Int), .string (TR.full q), .int .i64 K, .int .i64 o3, .string x3] 57)).cell? ⟨w3.heap.size, 1, none⟩ = some (.int .i64 o3) := by
              have h2 : w3.heap.size < W0.drew.heap.size := by have := HGL.out.2; show w3.heap.size < W0.heap.size; omega
              have hnew := K0.below_new W0.drew (.cells #[.int .i64 (k : Int), .string (TR.full q), .int .i64 K, .int .i64 o3, .string x3] 57)
              exact ⟨(hnew.cell (p := ⟨w3.heap.size, 0, none⟩) h2).trans hS0.1, (hnew.cell (p := ⟨w3.heap.size, 1, none⟩) h2).trans hS0.2⟩
            have hs0 : W0.drew.heap.size = w3.heap.size + 1 := HGL.out.2
            have bf0 := bf.drew
            have bl0 := bl.drew
            have kc1 := kd1.drew
            have kc2 := kd2.drew
            clear hW0 y0 y1 bf bl kd1 kd2 hbuf hbel kb1 kb2 b3
            go_region_held3 (fun W => W.cell? ⟨w3.heap.size, 0, none⟩ = some (.int .i64 K) ∧ W.cell? ⟨w3.heap.size, 1, none⟩ = some (.int .i64 o3)) (assumption) ((first
              | (go_at_call 35; refine (hPt.out _ kc1 kc2).mono ?_; rintro e w4 ⟨rfl, rfl⟩)
              | (refine step_file rfl (.tmp 38) (.tmp 50) rfl bf0 ⟨(k : Int), TR.full q, K, o3, x3⟩ (by rfl) (H := w3.heap.size + 1) hs0 (by rfl) (by omega) bl0.size ?_; intro g5 c5 w5 bf5 b5 gr5 q5; have hS5 : w5.cell? ⟨w3.heap.size, 0, none⟩ = some (.int .i64 K) ∧ w5.cell? ⟨w3.heap.size, 1, none⟩ = some (.int .i64 o3) := ⟨gr5.cell hS0.1 (by have := HGL.out.1; simp; omega), gr5.cell hS0.2 (by have := HGL.out.1; simp; omega)⟩)))
            have HG5 : Hid (g5 ≠ g1 ∧ g5 ≠ g2) := by
              have h1 := kc1.lt
              have h2 := kc2.lt
              rcases q5 with e | e
              · rw [e]
                exact ⟨n1, n2⟩
              · exact ⟨by omega, by omega⟩
            go_wp2
            go_roundg (gk - 1)
            case measure => omega
            case rel => exact ⟨k + 1, n + 1, c5, g5, by omega, by go_num, rfl, by rw [HS.out o3 HO3.out]; exact bf5, TW.blk_gr kc1 gr5 n1.symm, TW.blk_gr kc2 gr5 n2.symm, HG5.out.1, HG5.out.2, bl0.trans b5⟩
      · obtain rfl : k = 8 := by omega
        have hn : n = (filesTo mem (fpath mem) 8).length := hbuf.1
        subst hn
        have HB : Hid (FBuf w.heap.size wr g (filesTo mem (fpath mem) 8).length c (filesTo mem (fpath mem) 8)) := hbuf
        clear hbuf kb1 kb2 HP
        go_wp2
        go_ret
        exact ⟨g, c, rfl, (HB.out.2.lt g rfl).1, HB.out.blk, hbel⟩
end Go.Proofs.Ytddlpejklpljoaa.FI

/- The contracts of impl.Find and spec.Find. -/
namespace Go.Proofs.Ytddlpejklpljoaa.FI
open Go.ChangeShapes Go.WideShapes Go.ChangeAt Go.RowKit
set_option linter.unusedVariables false
set_option linter.unusedSimpArgs false
set_option maxRecDepth 10000
variable {w W W' : World} {mem : ByteArray}
open TW (tK tZ tE cat nodesOk sound)

/-- The inode of the first file with a path. -/
def findI (p : ByteArray) : List Fl → Int
  | [] => -1
  | f :: r => if (f.path.toList == p.toList) = true then f.ino else findI p r
theorem findI_step {p : ByteArray} {l : List Fl} {k : Nat} (h : k < l.length) : findI p (l.drop k) = if ((l.getD k zf).path.toList == p.toList) = true then (l.getD k zf).ino else findI p (l.drop (k + 1)) := by
  rw [List.drop_eq_getElem_cons h, findI]
  simp [List.getD, h]
theorem files_len (mem : ByteArray) : (files mem).length ≤ 8 := by
  unfold files
  split
  · exact filesTo_len mem _ 8
  · exact Nat.zero_le _
theorem ret_int {a b : Int} (h : a = b) : Ending.returned (.int .i64 a) = .returned (.int .i64 b) := by rw [h]

set_option maxHeartbeats 2000000 in
theorem impl_Find (mem p : ByteArray) (w : World) (hms : mem.size ≤ 281474976710656) : Calls Try.prog 16 #[.string mem, .string p] w fun e w' => e = .returned (.int .i64 (findI p (files mem))) ∧ Below w.heap.size w w' := by
  have hF := impl_Files mem w hms
  have hlen := files_len mem
  obtain ⟨l, hl⟩ : ∃ l, files mem = l := ⟨_, rfl⟩
  rw [hl] at hF hlen ⊢
  have HR : Hid (findI p l = findI p (l.drop 0)) := by rw [List.drop_zero]; rfl
  obtain ⟨R, hR⟩ : ∃ R, findI p l = R := ⟨_, rfl⟩
  rw [hR] at HR ⊢
  clear hl hR
  go_enter Try.func16, Try.ntmps16
  go_wp2_with (go_at_call 11; refine hF.mono ?_; rintro e w1 ⟨g, c, rfl, hg, k1, b1⟩)
  go_loopg [10] l.length (fun gk i W => ∃ k : Nat, k + gk = l.length ∧ i = .int .i64 k ∧ Hid (R = findI p (l.drop k)) ∧ K0.Blk g (ffl l) W ∧ Below w.heap.size w W)
  case atStart => exact ⟨0, by omega, rfl, HR, k1, b1⟩
  case round =>
    obtain ⟨k, hk, rfl, H, kb, hbel⟩ := hrel
    clear k1 b1 HR
    by_cases hlt : k < l.length
    · obtain ⟨x0, x1, x2, x3, x4⟩ := file_cells kb hlt
      have hst := findI_step (p := p) hlt
      obtain ⟨f, hf⟩ : ∃ f, l.getD k zf = f := ⟨_, rfl⟩
      rw [hf] at x0 x1 x2 x3 x4 hst
      have e1 : (0 : Int) ≤ (k : Int) := by omega
      have e2 : (k : Int) < (l.length : Int) := by omega
      have nl := K0.below_new wr (.cells #[.int .i64 f.ino, .string f.path, .int .i64 f.kind, .int .i64 f.owner, .string f.data] 57)
      have nb := K0.blk_new f.vals wr 57
      have y0 : (wr.alloc (.cells #[.int .i64 f.ino, .string f.path, .int .i64 f.kind, .int .i64 f.owner, .string f.data] 57)).cell? ⟨wr.heap.size, 0, none⟩ = some (.int .i64 f.ino) := nb.cell 0 (by simp [Fl.vals])
      have y1 : (wr.alloc (.cells #[.int .i64 f.ino, .string f.path, .int .i64 f.kind, .int .i64 f.owner, .string f.data] 57)).cell? ⟨wr.heap.size, 1, none⟩ = some (.string f.path) := nb.cell 1 (by simp [Fl.vals])
      have l2 := hbel.trans (nl.mono hbel.size)
      cases hp : (f.path.toList == p.toList) with
      | true =>
        have HV : Hid (f.ino = R) := by
          show f.ino = R
          rw [H.out, hst, if_pos hp]
        clear hst hf
        go_wp2
        go_ret
        exact ⟨ret_int HV.out, l2⟩
      | false =>
        have HV : Hid (R = findI p (l.drop (k + 1))) := by
          show R = _
          rw [H.out, hst, hp]
          rfl
        clear hst hf
        go_wp2
        go_roundg (gk - 1)
        case measure => omega
        case rel => exact ⟨k + 1, by omega, by go_num, HV, kb.below nl, l2⟩
    · have HV : Hid (-1 = R) := by
        show -1 = R
        rw [H.out, List.drop_eq_nil_of_le (by omega)]
        rfl
      have e2 : ¬ ((k : Int) < (l.length : Int)) := by omega
      go_wp2
      go_ret
      exact ⟨ret_int HV.out, hbel⟩

set_option maxHeartbeats 2000000 in
theorem spec_Find (mem p : ByteArray) (w : World) (hms : mem.size ≤ 281474976710656) : Calls Try.prog 15 #[.string mem, .string p] w fun e w' => e = .returned (.int .i64 (findI p (files mem))) ∧ Below w.heap.size w w' := by
  have hF := spec_Files mem w hms
  have hlen := files_len mem
  obtain ⟨l, hl⟩ : ∃ l, files mem = l := ⟨_, rfl⟩
  rw [hl] at hF hlen ⊢
  have HR : Hid (findI p l = findI p (l.drop 0)) := by rw [List.drop_zero]; rfl
  obtain ⟨R, hR⟩ : ∃ R, findI p l = R := ⟨_, rfl⟩
  rw [hR] at HR ⊢
  clear hl hR
  go_enter Try.func15, Try.ntmps15
  go_wp2_with (go_at_call 10; refine hF.mono ?_; rintro e w1 ⟨g, c, rfl, hg, k1, b1⟩)
  go_loopg [6] l.length (fun gk i W => ∃ k : Nat, k + gk = l.length ∧ i = .int .i64 k ∧ Hid (R = findI p (l.drop k)) ∧ K0.Blk g (ffl l) W ∧ Below w.heap.size w W)
  case atStart => exact ⟨0, by omega, rfl, HR, k1, b1⟩
  case round =>
    obtain ⟨k, hk, rfl, H, kb, hbel⟩ := hrel
    clear k1 b1 HR
    by_cases hlt : k < l.length
    · obtain ⟨x0, x1, x2, x3, x4⟩ := file_cells kb hlt
      have hst := findI_step (p := p) hlt
      obtain ⟨f, hf⟩ : ∃ f, l.getD k zf = f := ⟨_, rfl⟩
      rw [hf] at x0 x1 x2 x3 x4 hst
      have e1 : (0 : Int) ≤ (k : Int) := by omega
      have e2 : (k : Int) < (l.length : Int) := by omega
      cases hp : (f.path.toList == p.toList) with
      | true =>
        have HV : Hid (f.ino = R) := by
          show f.ino = R
          rw [H.out, hst, if_pos hp]
        clear hst hf
        go_wp2
        go_ret
        exact ⟨ret_int HV.out, hbel⟩
      | false =>
        have HV : Hid (R = findI p (l.drop (k + 1))) := by
          show R = _
          rw [H.out, hst, hp]
          rfl
        clear hst hf
        go_wp2
        go_roundg (gk - 1)
        case measure => omega
        case rel => exact ⟨k + 1, by omega, by go_num, HV, kb, hbel⟩
    · have HV : Hid (-1 = R) := by
        show -1 = R
        rw [H.out, List.drop_eq_nil_of_le (by omega)]
        rfl
      have e2 : ¬ ((k : Int) < (l.length : Int)) := by omega
      go_wp2
      go_ret
      exact ⟨ret_int HV.out, hbel⟩
end Go.Proofs.Ytddlpejklpljoaa.FI
