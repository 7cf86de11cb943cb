/- Joined texts: plain facts and contracts, as each part says. -/
import Derived.Test.YtddlpejklpljoaaJwB

/- The contract of spec.Within. -/
namespace Go.Proofs.Ytddlpejklpljoaa.WI
open Go.ChangeShapes Go.WideShapes Go.ChangeAt Go.RowKit
set_option linter.unusedVariables false
set_option linter.unusedSimpArgs false
set_option maxRecDepth 10000
open N0 (Ln)
open N1 (Sl Lists Fit LB lb_new)
open N13 (Bx bx_new)
open HP (Rg at_ cov covAll cov_iff covAll_iff)
open I2 (ints)

theorem cov_succ (l : List Rg) (j : Nat) (K : Int) (h : j < l.length) : cov (l.take (j + 1)) K = (cov (l.take j) K || B1.inB K (at_ l j).1 ((at_ l j).1 + (at_ l j).2 - 1)) := by
  rw [List.take_succ_eq_append_getElem h, ← HP.at_get l j h]
  unfold cov B1.inB
  rw [List.any_append]
  congr 1
  simp only [List.any_cons, List.any_nil, Bool.or_false]
  exact decide_eq_decide.2 (by omega)

set_option maxHeartbeats 4000000 in
theorem spec_Within (d : Ln) (s : Sl) (i n : Int) (w : World) (hF : Fit d s) (hpo : d.po.length ≤ 1048576) (hfr : d.fr.length ≤ 1048576) (hR : Lists w d s) :
    Calls Try.prog 23 #[N1.val d s, .int .i64 i, .int .i64 n] w fun e w' => e = .returned (.bool (within d i n)) ∧ Below w.heap.size w w' := by
  have x0 := bx_new w d s
  have hRa := R6.spec_Ranges d s _ hF hpo hfr (hR.below x0.bel)
  have c0 := x0.arg.c0
  have c1 := x0.arg.c1
  have c2 := x0.arg.c2
  have c3 := x0.arg.c3
  have c4 := x0.arg.c4
  have c5 := x0.arg.c5
  have c6 := x0.arg.c6
  have c7 := x0.arg.c7
  clear hR hF
  have hlen := rl_len d
  have hsm := rl_small d
  by_cases hin : 1 ≤ n ∧ n ≤ 768 ∧ 0 ≤ i ∧ i ≤ 768 - n
  · have hw : within d i n = covAll (rl d) i n.toNat := by
      unfold within
      rw [decide_eq_true hin, Bool.true_and]
    rw [hw]
    have q1 : B1.inB n 1 768 = true := N0.inB_iff.2 ⟨hin.1, hin.2.1⟩
    have q2 : B1.inB i 0 (768 - n) = true := N0.inB_iff.2 ⟨hin.2.2.1, hin.2.2.2⟩
    obtain ⟨h1, h2, h3, h4⟩ := hin
    clear hw
    go_enter Try.func23, Try.ntmps23
    go_wp2_with (first
      | (go_at_call 42; refine hRa.mono ?_; rintro e w1 ⟨a, c, rfl, hl1, hc1, o1, b1⟩)
      | (go_at_call 43; refine (B1.l01In_any _ _ _ _).mono ?_; rintro e w' ⟨rfl, hw⟩; subst w'; rw [q1])
      | (go_at_call 43; refine (B1.l01In_any _ _ _ _).mono ?_; rintro e w' ⟨rfl, hw⟩; subst w'; rw [q2]))
    have bel1 := x0.bel.trans (b1.mono x0.bel.size)
    have rw1 : rl d = [] ∨ ∃ G, a = some ⟨G, 0, none⟩ ∧ K0.Blk G (ints (R6.rg d)) w1 := by
      rcases row_of o1 with q | ⟨G, q1, q2, q3⟩
      · exact Or.inl q
      · exact Or.inr ⟨G, q1, q3⟩
    rw [← hlen] at hc1 ⊢
    clear hlen b1 o1 hl1 hRa c0 c1 c2 c3 c4 c5 c6 c7 x0
    go_loopg [8] n.toNat (fun gk v W => ∃ (k : Nat), k + gk = n.toNat ∧ v = .int .i64 (i + (k : Int)) ∧ Hid (∀ j : Nat, j < k → cov (rl d) (i + (j : Int)) = true) ∧ (rl d = [] ∨ ∃ G, a = some ⟨G, 0, none⟩ ∧ K0.Blk G (ints (R6.rg d)) W) ∧ Below w.heap.size w W)
    case atStart => exact ⟨0, by omega, by simp, fun j h => absurd h (by omega), rw1, bel1⟩
    case round =>
      obtain ⟨go, rfl⟩ : ∃ go, go = gk := ⟨_, rfl⟩
      obtain ⟨k, hk, rfl, hcv, hrow, hbel⟩ := hrel
      clear rw1 bel1
      by_cases hlt : k < n.toNat
      · have e1 : i + (k : Int) < i + n := by omega
        obtain ⟨K, hK⟩ : ∃ K, i + (k : Int) = K := ⟨_, rfl⟩
        have HK : Hid (i + (k : Int) = K ∧ k < n.toNat ∧ k + go = n.toNat) := ⟨hK, hlt, hk⟩
        have hK1 : 0 ≤ K := by omega
        have hK2 : K ≤ 768 := by omega
        rw [hK] at e1 ⊢
        clear hK hlt hk
        have HB0 : Hid (Below w.heap.size w wr) := hbel
        clear hbel
        go_wp2
        go_loopg [9, 10] (rl d).length (fun gj b v W => ∃ (j : Nat), j + gj = (rl d).length ∧ v = .int .i64 (j : Int) ∧ b = .bool (cov ((rl d).take j) K) ∧ (rl d = [] ∨ ∃ G, a = some ⟨G, 0, none⟩ ∧ K0.Blk G (ints (R6.rg d)) W) ∧ Below w.heap.size w W)
        case atStart => exact ⟨0, by omega, rfl, rfl, hrow, HB0.out⟩
        case round =>
          obtain ⟨j, hj, rfl, rfl, hrow2, hbel⟩ := hrel
          clear hrow HB0
          by_cases hjl : j < (rl d).length
          · rcases hrow2 with hrow2 | ⟨G, rfl, hblk⟩
            · rw [hrow2] at hjl
              simp at hjl
            · obtain ⟨y1, y2⟩ := row_get hblk hjl
              have hcs := cov_succ (rl d) j K hjl
              obtain ⟨u1, u2, u3⟩ := at_in d hjl
              obtain ⟨r, hr⟩ : ∃ r, at_ (rl d) j = r := ⟨_, rfl⟩
              rw [hr] at y1 y2 hcs u1 u2 u3
              have e2 : (0 : Int) ≤ (j : Int) := by omega
              have e3 : (j : Int) < ((rl d).length : Int) := by omega
              obtain ⟨P, hP⟩ : ∃ P, cov ((rl d).take j) K = P := ⟨_, rfl⟩
              obtain ⟨P2, hP2⟩ : ∃ P2, cov ((rl d).take (j + 1)) K = P2 := ⟨_, rfl⟩
              rw [hP, hP2] at hcs
              have HC : Hid (cov ((rl d).take (j + 1)) K = P2 ∧ K0.Blk G (ints (R6.rg d)) wr ∧ Below w.heap.size w wr ∧ j + gk = (rl d).length) := ⟨hP2, hblk, hbel, hj⟩
              rw [hP]
              clear hr hP hP2 hblk hbel hj
              cases P with
              | true =>
                have hq : P2 = true := by simpa using hcs
                clear hcs
                go_wp2
                go_quiet (fail)
                go_wp2
                obtain ⟨hP2, hblk, hbel, hj⟩ := HC.out
                go_roundg (gk - 1)
                case measure => omega
                case rel => exact ⟨j + 1, by omega, by go_num, by first | rw [hP2, hq] | rw [hP2], Or.inr ⟨G, rfl, hblk.drewN _⟩, K0.below_drewN hbel _⟩
              | false =>
                have hq : B1.inB K r.1 (r.1 + r.2 - 1) = P2 := by simpa using hcs.symm
                clear hcs
                go_wp2
                go_quiet (first | (go_at_call 43; refine Calls.quiet_of_same (B1.l01In_any _ _ _ _)))
                go_wp2
                obtain ⟨hP2, hblk, hbel, hj⟩ := HC.out
                go_roundg (gk - 1)
                case measure => omega
                case rel => exact ⟨j + 1, by omega, by go_num, by first | rw [hP2, hq] | rw [hP2], Or.inr ⟨G, rfl, hblk.drewN _⟩, K0.below_drewN hbel _⟩
          · have hjj : j = (rl d).length := by omega
            subst hjj
            rw [List.take_length]
            have e2 : ¬ (((rl d).length : Int) < ((rl d).length : Int)) := by omega
            cases hc : cov (rl d) K with
            | true =>
              have HC : Hid (cov (rl d) K = true) := hc
              clear hjl hj hc
              go_wp2
              obtain ⟨hK, hlt, hk⟩ := HK.out
              go_roundg (go - 1)
              case measure => omega
              case rel => exact ⟨k + 1, by omega, by rw [← hK]; go_num, fun j hj => (by
                by_cases e : j = k
                · rw [e, hK]; exact HC.out
                · exact hcv.out j (by omega)), hrow2, hbel⟩
            | false =>
              have HV : Hid (covAll (rl d) i n.toNat = false) := by
                obtain ⟨hK, hlt, hk⟩ := HK.out
                show covAll _ _ _ = false
                cases hx : covAll (rl d) i n.toNat with
                | false => rfl
                | true =>
                  have := covAll_iff.1 hx K (by omega) (by omega)
                  rw [hc] at this
                  cases this
              have HB : Hid (Below w.heap.size w wr) := hbel
              clear hjl hj hc hbel
              go_wp2
              go_ret
              refine ⟨?_, HB.out⟩
              rw [HV.out]
              rfl
      · have hkk : (k : Int) = n := by omega
        have e1 : ¬ (i + n < i + n) := by omega
        have HV : Hid (covAll (rl d) i n.toNat = true) := by
          refine covAll_iff.2 fun q h1 h2 => ?_
          have := hcv.out (q - i).toNat (by omega)
          rwa [show i + ((q - i).toNat : Int) = q by omega] at this
        rw [hkk]
        have HB : Hid (Below w.heap.size w wr) := hbel
        clear hrow hcv hlt hk hkk hbel
        go_wp2
        go_ret
        refine ⟨?_, HB.out⟩
        rw [HV.out]
        rfl
  · have hw : within d i n = false := by
      unfold within
      rw [decide_eq_false hin, Bool.false_and]
    rw [hw]
    clear hw hlen
    cases q1 : B1.inB n 1 768 with
    | false =>
      go_enter Try.func23, Try.ntmps23
      go_wp2_with (first
        | (go_at_call 42; refine hRa.mono ?_; rintro e w1 ⟨a, c, rfl, hl1, hc1, o1, b1⟩)
        | (go_at_call 43; refine (B1.l01In_any _ _ _ _).mono ?_; rintro e w' ⟨rfl, hw⟩; subst w'; rw [q1]))
      go_ret
      exact ⟨rfl, x0.bel.trans (b1.mono x0.bel.size)⟩
    | true =>
      have q3 := N0.inB_iff.1 q1
      have q2 : B1.inB i 0 (768 - n) = false := by
        cases hq : B1.inB i 0 (768 - n) with
        | false => rfl
        | true =>
          have := N0.inB_iff.1 hq
          exact absurd ⟨q3.1, q3.2, this.1, this.2⟩ hin
      obtain ⟨h1, h2⟩ := q3
      clear hin
      go_enter Try.func23, Try.ntmps23
      go_wp2_with (first
        | (go_at_call 42; refine hRa.mono ?_; rintro e w1 ⟨a, c, rfl, hl1, hc1, o1, b1⟩)
        | (go_at_call 43; refine (B1.l01In_any _ _ _ _).mono ?_; rintro e w' ⟨rfl, hw⟩; subst w'; rw [q1])
        | (go_at_call 43; refine (B1.l01In_any _ _ _ _).mono ?_; rintro e w' ⟨rfl, hw⟩; subst w'; rw [q2]))
      go_ret
      exact ⟨rfl, x0.bel.trans (b1.mono x0.bel.size)⟩
end Go.Proofs.Ytddlpejklpljoaa.WI
