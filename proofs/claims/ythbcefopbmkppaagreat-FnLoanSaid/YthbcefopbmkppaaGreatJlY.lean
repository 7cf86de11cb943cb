/- Joined texts: plain facts and contracts. -/
import Derived.Test.YthbcefopbmkppaaGreatJlW
import Derived.Test.YthbcefopbmkppaaGreatJlP
import Derived.OpenShut
import Derived.ShutString
import Derived.ChangeSlices
set_option linter.unusedVariables false
set_option linter.unusedSimpArgs false
set_option maxRecDepth 10000
namespace Go.Proofs.YthbcefopbmkppaaGreat.WI
open Go.ChangeShapes Go.WideShapes Go.ChangeAt Go.RowKit
open N0 (Ln)
open N1 (Sl Lists Fit LB lb_new)
open N13 (Bx bx_new)
open HP (Rg at_ cov covAll cov_iff covAll_iff HS HeapN Chg)
open I2 (ints)
theorem hs_new (v : World) (W : World) {lo A1 A2 : Nat} (hlo : lo ≤ W.heap.size) (h1 : A1 = W.heap.size) (h2 : A2 = W.heap.size + 1) :
  HS lo A2 A1 0 [] ((W.alloc (.cells #[] 38)).alloc (.cells #[.slice (some ⟨A1, 0, none⟩) 0 0] 49)) := by
 subst h1
 have nb := K0.blk_new [.slice (some ⟨W.heap.size, 0, none⟩) 0 0] (W.alloc (.cells #[] 38)) 49
 have hz : (W.alloc (.cells #[] 38)).heap.size = W.heap.size + 1 := by simp
 rw [hz] at nb
 subst h2
 refine ⟨nb.cell 0 (by simp), nb.free 0 (by simp), ?_, by omega, by omega, nb.lt⟩
 exact (World.ownsRow_made W #[] 0 hlo (Nat.zero_le _) rfl).alloc _
set_option maxHeartbeats 4000000 in
theorem impl_Within (d : Ln) (s : Sl) (i n : Int) (w : World) (hF : Fit d s) (hpo : d.po.length ≤ 1048576) (hfr : d.fr.length ≤ 1048576) (hR : Lists w d s) :
  Calls Tryz.prog 12 #[N1.val d s, .int .i64 i, .int .i64 n] w fun e w' => e = .returned (.bool (within d i n)) ∧ Below w.heap.size w w' := by
 have x0 := bx_new w d s
 have HO : Hid (∀ W, Below w.heap.size w W → Calls Tryz.prog 7 #[N1.val d s] W (R6.Ans d W)) := fun W hb => R6.impl_Ranges d s W hF hpo hfr (hR.below hb)
 by_cases hin : 0 ≤ i ∧ i < 768 ∧ 1 ≤ n ∧ n ≤ 768
 ·have hw := within_impl d i n hin
  rw [hw]
  obtain ⟨h1, h2, h3, h4⟩ := hin
  have c0 := x0.arg.c0
  have c1 := x0.arg.c1
  have c2 := x0.arg.c2
  have c3 := x0.arg.c3
  have c4 := x0.arg.c4
  have c5 := x0.arg.c5
  have c6 := x0.arg.c6
  have c7 := x0.arg.c7
  have nl2 : Below w.heap.size w (((N10.w0 w d s).alloc (.cells #[] 38)).alloc (.cells #[.slice (some ⟨w.heap.size + 1, 0, none⟩) 0 0] 49)) := (x0.bel.alloc x0.bel.size _).alloc (by have := x0.bel.size; simp [N10.w0]; omega) _
  have hs0 : HS w.heap.size (w.heap.size + 1 + 1) (w.heap.size + 1) 0 [] (((N10.w0 w d s).alloc (.cells #[] 38)).alloc (.cells #[.slice (some ⟨w.heap.size + 1, 0, none⟩) 0 0] 49)) := hs_new w _ x0.bel.size (by simp [N10.w0]) (by simp [N10.w0])
  have hRa := HO.out _ nl2
  clear hw hR hF
  go_enter Tryz.func12, Tryz.ntmps12
  go_wp2_with (go_at_call 7; refine hRa.mono ?_; rintro e w1 ⟨a, c, rfl, hl1, hc1, o1, b1⟩)
  have hs1 := hs0.below b1
  have bel1 := nl2.trans (b1.mono nl2.size)
  have hlen := rl_len d
  have hsm := rl_small d
  have rw1 : rl d = [] ∨ ∃ G, a = some ⟨G, 0, none⟩ ∧ G ≠ w.heap.size + 1 ∧ G ≠ w.heap.size + 1 + 1 ∧ K0.Blk G (ints (R6.rg d)) w1 := by
   rcases row_of o1 with q | ⟨G, q1, q2, q3⟩
   ·exact Or.inl q
   ·have := hs0.lt
    exact Or.inr ⟨G, q1, by omega, by omega, q3⟩
  rw [← hlen] at hc1 ⊢
  clear hlen hs0 nl2 b1 o1 hl1 hRa HO c0 c1 c2 c3 c4 c5 c6 c7 x0
  have HIN : Hid (0 ≤ i ∧ i < 768 ∧ 1 ≤ n ∧ n ≤ 768) := ⟨h1, h2, h3, h4⟩
  go_loopg [34] (rl d).length (fun gk v W => ∃ (k g c' : Nat) (l : List Rg), k + gk = (rl d).length ∧ v = .int .i64 (k : Int) ∧ HS w.heap.size (w.heap.size + 1 + 1) g c' l W ∧ l.Perm ((rl d).take k) ∧ HeapN l l.length ∧ (rl d = [] ∨ ∃ G, a = some ⟨G, 0, none⟩ ∧ G ≠ g ∧ G ≠ w.heap.size + 1 + 1 ∧ K0.Blk G (ints (R6.rg d)) W) ∧ Below w.heap.size w W)
  case atStart => exact ⟨0, _, _, [], by omega, rfl, hs1, by simp, fun i _ h => absurd h (by simp), rw1, bel1⟩
  case round =>
   obtain ⟨k, g, c', l, hk, rfl, hs, hp, hh, hrow, hbel⟩ := hrel
   clear hs1 rw1 bel1
   have hll : l.length = k := by rw [hp.length_eq, List.length_take]; omega
   by_cases hlt : k < (rl d).length
   ·rcases hrow with hrow | ⟨G, rfl, hG1, hG2, hblk⟩
    ·rw [hrow] at hlt
     simp at hlt
    ·obtain ⟨y1, y2⟩ := row_get hblk hlt
     have hpk : ((rl d).take k ++ [at_ (rl d) k]) = (rl d).take (k + 1) := by rw [List.take_succ_eq_append_getElem hlt, HP.at_get _ _ hlt]
     obtain ⟨r, hr⟩ : ∃ r, at_ (rl d) k = r := ⟨_, rfl⟩
     rw [hr] at y1 y2 hpk
     have e1 : (0 : Int) ≤ (k : Int) := by omega
     have e2 : (k : Int) < ((rl d).length : Int) := by omega
     have nl := K0.below_new wr (.cells #[.int .i64 r.1, .int .i64 r.2] 38)
     have nb := K0.blk_new [.int .i64 r.1, .int .i64 r.2] wr 38
     have z1 : (wr.alloc (.cells #[.int .i64 r.1, .int .i64 r.2] 38)).cell? ⟨wr.heap.size, 0, none⟩ = some (.int .i64 r.1) := nb.cell 0 (by simp)
     have z2 : (wr.alloc (.cells #[.int .i64 r.1, .int .i64 r.2] 38)).cell? ⟨wr.heap.size, 1, none⟩ = some (.int .i64 r.2) := nb.cell 1 (by simp)
     have hpu := HP.heapPush r _ (hs.below nl) hh (by omega)
     have HA : Hid (HS w.heap.size (w.heap.size + 1 + 1) g c' l wr ∧ l.Perm ((rl d).take k) ∧ Below w.heap.size w wr ∧ K0.Blk G (ints (R6.rg d)) wr ∧ ((rl d).take k ++ [r]) = (rl d).take (k + 1) ∧ G ≠ g ∧ G ≠ w.heap.size + 1 + 1) := ⟨hs, hp, hbel, hblk, hpk, hG1, hG2⟩
     clear hs hp hbel hblk hpk hG1 hG2 hr hh nb
     have HNL : Hid (Below wr.heap.size wr (wr.alloc (.cells #[.int .i64 r.1, .int .i64 r.2] 38))) := nl
     clear nl
     go_wp2_with (go_at_call 28; refine hpu.mono ?_; rintro e w2 ⟨rfl, g2, c2, l2, hs2, hp2, hh2, ch2⟩)
     obtain ⟨hs, hp, hbel, hblk, hpk, hG1, hG2⟩ := HA.out
     have nl := HNL.out
     have hgl := hs.glt
     go_roundg (gk - 1)
     case measure => omega
     case rel =>
      refine ⟨k + 1, g2, c2, l2, by omega, by go_num, hs2, ?_, hh2, Or.inr ⟨G, rfl, ?_, hG2, ?_⟩, ?_⟩
      ·rw [← hpk]
       exact hp2.trans (hp.append_right [r])
      ·rcases ch2.loc with q | q
       ·rw [q]; exact hG1
       ·have := hblk.lt
        have := nl.size
        omega
      ·exact HP.blk_block (hblk.below nl) (ch2.block G (Nat.lt_of_lt_of_le hblk.lt nl.size) hG2 hG1) ch2.size
      ·exact (hbel.trans (nl.mono hbel.size)).trans (ch2.below hs.lo hgl.1 (Nat.le_trans hbel.size nl.size))
   ·have hkk : k = (rl d).length := by omega
    subst hkk
    rw [List.take_length] at hp
    have e2 : ¬ ((rl d).length : Int) < ((rl d).length : Int) := by omega
    have HG0 : Hid (HP.Go (rl d) [] l i i) := ⟨by simpa using hp, hh, fun d h => absurd h (by simp), fun d h => absurd h (by simp), fun k h1 h2 => by omega, Int.le_refl _⟩
    have HS0 : Hid (HS w.heap.size (w.heap.size + 1 + 1) g c' l wr ∧ Below w.heap.size w wr) := ⟨hs, hbel⟩
    clear hs hp hbel hh hrow hlt
    have hlz : l.length ≤ 13 := by omega
    go_wp2
    go_loopg [1] (l.length + 1) (fun gk v W => ∃ (j : Int) (dn rest : List Rg), v = .int .i64 j ∧ rest.length + 1 = gk ∧ gk ≤ 14 ∧ 0 ≤ j ∧ j ≤ 768 ∧ HP.Go (rl d) dn rest i j ∧ HS w.heap.size (w.heap.size + 1 + 1) g c' rest W ∧ Below w.heap.size w W)
    case atStart => exact ⟨i, [], l, rfl, rfl, by omega, by omega, by omega, HG0.out, HS0.out.1, HS0.out.2⟩
    case round =>
     obtain ⟨j, dn, rest, rfl, hgk, hg14, hj0, hj7, hgo, hs, hbel⟩ := hrel
     clear HG0 HS0
     have x0 := hs.cell
     have HA : Hid (HP.Go (rl d) dn rest i j ∧ HS w.heap.size (w.heap.size + 1 + 1) g c' rest wr ∧ Below w.heap.size w wr ∧ rest.length + 1 = gk ∧ gk ≤ 14) := ⟨hgo, hs, hbel, hgk, hg14⟩
     by_cases hje : j < i + n
     ·have hje' : ¬ (i + n ≤ j) := by omega
      cases hrest : rest with
      | nil =>
       rw [hrest] at HA x0
       have e0 : (([] : List Rg).length : Int) = 0 := rfl
       have HV : Hid (covAll (rl d) i n.toNat = false) := HA.out.1.done_no (by omega)
       clear hgo hs hbel hgk hrest
       go_wp2_with (go_at_call 29; refine (HP.len _ _ _ _).mono ?_; rintro e w2 ⟨rfl, hw⟩; subst w2)
       go_ret
       exact ⟨congrArg Ending.returned (congrArg Value.bool (show decide (i + n ≤ j) = _ from by rw [HV.out]; exact decide_eq_false (by omega))), HA.out.2.2.1⟩
      | cons r0 rt =>
       have hrl : rest.length = rt.length + 1 := by rw [hrest]; rfl
       have hl := HP.least rt.length wr hs hgo.heap hrl (by omega)
       have hin : ∀ r ∈ rest, 0 ≤ r.1 ∧ 16 ≤ r.2 ∧ r.1 + r.2 ≤ 768 := fun r hr => rl_in d r (hgo.perm.mem_iff.1 (List.mem_append_right _ hr))
       have HIM : Hid (∀ r ∈ rest, 0 ≤ r.1 ∧ 16 ≤ r.2 ∧ r.1 + r.2 ≤ 768) := hin
       have e0 : (0 : Int) < (rest.length : Int) := by omega
       have hgl := hs.glt
       have HGL : Hid (w.heap.size ≤ g ∧ g < wr.heap.size) := hgl
       clear hgo hs hbel hgk hrest hin hgl hrl
       have hD : ∀ (r : Rg) (l3 : List Rg) (w3 : World), r = at_ rest 0 → (r :: l3).Perm rest → HS w.heap.size (w.heap.size + 1 + 1) g c' l3 w3 → HeapN l3 l3.length → Chg (w.heap.size + 1 + 1) g g wr w3 → Hid ((0 ≤ r.1 ∧ 16 ≤ r.2 ∧ r.1 + r.2 ≤ 768) ∧ l3.length + 1 = rest.length ∧ (r.1 ≤ j ∧ j < r.1 + r.2 → HP.Go (rl d) (r :: dn) l3 i (r.1 + r.2)) ∧ (¬ (r.1 ≤ j ∧ j < r.1 + r.2) → HP.Go (rl d) (r :: dn) l3 i j) ∧ HS w.heap.size (w.heap.size + 1 + 1) g c' l3 w3 ∧ Below w.heap.size w w3) := by
        intro r l3 w3 q1 q2 q3 q4 q5
        have P := HA.out.1.pop (by omega) q1 q2 q4
        have A := HA.out
        exact ⟨HIM.out r (q2.mem_iff.1 (by simp)), by have := q2.length_eq; simpa using this, P.1, P.2, q3, A.2.2.1.trans (q5.below A.2.1.lo HGL.out.1 A.2.2.1.size)⟩
       have HD : Hid (∀ (r : Rg) (l3 : List Rg) (w3 : World), r = at_ rest 0 → (r :: l3).Perm rest → HS w.heap.size (w.heap.size + 1 + 1) g c' l3 w3 → HeapN l3 l3.length → Chg (w.heap.size + 1 + 1) g g wr w3 → Hid ((0 ≤ r.1 ∧ 16 ≤ r.2 ∧ r.1 + r.2 ≤ 768) ∧ l3.length + 1 = rest.length ∧ (r.1 ≤ j ∧ j < r.1 + r.2 → HP.Go (rl d) (r :: dn) l3 i (r.1 + r.2)) ∧ (¬ (r.1 ≤ j ∧ j < r.1 + r.2) → HP.Go (rl d) (r :: dn) l3 i j) ∧ HS w.heap.size (w.heap.size + 1 + 1) g c' l3 w3 ∧ Below w.heap.size w w3)) := hD
       clear hD
       go_wp2_with (first
        | (go_at_call 29; refine (HP.len _ _ _ _).mono ?_; rintro e w2 ⟨rfl, hw⟩; subst w2)
        | (go_at_call 30; refine hl.mono ?_; rintro e w3 ⟨r, l3, rfl, hr3, hp3, hs3, hh3, ch3⟩; have F3 := HD.out r l3 w3 hr3 hp3 hs3 hh3 ch3; clear hr3 hp3 hs3 hh3 ch3; have nb := K0.blk_new [.int .i64 r.1, .int .i64 r.2] w3 38; have z1 : (w3.alloc (.cells #[.int .i64 r.1, .int .i64 r.2] 38)).cell? ⟨w3.heap.size, 0, none⟩ = some (.int .i64 r.1) := nb.cell 0 (by simp); have z2 : (w3.alloc (.cells #[.int .i64 r.1, .int .i64 r.2] 38)).cell? ⟨w3.heap.size, 1, none⟩ = some (.int .i64 r.2) := nb.cell 1 (by simp); clear nb; obtain ⟨u1, u2, u3⟩ := F3.out.1))
       all_goals (
        obtain ⟨_, hl3, P1, P2, hs3, b3⟩ := F3.out
        have A := HA.out
        have nl3 := K0.below_new w3 (.cells #[.int .i64 r.1, .int .i64 r.2] 38)
        go_roundg (gk - 1)
        case measure => omega
        case rel => first
         | exact ⟨j, r :: dn, l3, rfl, by omega, by omega, by omega, by omega, P2 (by omega), hs3.below nl3, b3.trans (nl3.mono b3.size)⟩
         | exact ⟨r.1 + r.2, r :: dn, l3, rfl, by omega, by omega, by omega, by omega, P1 (by omega), hs3.below nl3, b3.trans (nl3.mono b3.size)⟩)
     ·have hje' : i + n ≤ j := by omega
      have HV : Hid (covAll (rl d) i n.toNat = true) := HA.out.1.done_yes (by omega)
      clear hgo hs hbel hgk
      go_wp2
      go_ret
      refine ⟨?_, HA.out.2.2.1⟩
      have hdd : decide (i + n ≤ j) = true := decide_eq_true (by omega)
      rw [HV.out]
      first
       | rfl
       | exact congrArg Ending.returned (congrArg Value.bool hdd)
 ·have hw := within_no d i n hin
  rw [hw]
  have hc : (decide (i < 0) || decide (768 ≤ i) || decide (n < 1) || decide (768 < n)) = true := by
   simp
   omega
  have HB : Hid (Below w.heap.size w (N10.w0 w d s)) := x0.bel
  clear hw hR hF HO x0
  by_cases q1 : i < 0
  ·go_enter Tryz.func12, Tryz.ntmps12
   go_wp2
   go_ret
   exact ⟨rfl, HB.out⟩
  ·by_cases q2 : 768 ≤ i
   ·go_enter Tryz.func12, Tryz.ntmps12
    go_wp2
    go_ret
    exact ⟨rfl, HB.out⟩
   ·by_cases q3 : n < 1
    ·go_enter Tryz.func12, Tryz.ntmps12
     go_wp2
     go_ret
     exact ⟨rfl, HB.out⟩
    ·have q4 : 768 < n := by omega
     go_enter Tryz.func12, Tryz.ntmps12
     go_wp2
     go_ret
     exact ⟨rfl, HB.out⟩
end Go.Proofs.YthbcefopbmkppaaGreat.WI
namespace Go.Proofs.YthbcefopbmkppaaGreat.WI
open Go.ChangeShapes Go.WideShapes Go.ChangeAt Go.RowKit
open N0 (Ln)
open N1 (Sl Lists Fit LB lb_new)
open N13 (Bx bx_new)
open HP (Rg at_ cov covAll cov_iff covAll_iff)
open I2 (ints)
theorem cov_succ (l : List Rg) (j : Nat) (K : Int) (h : j < l.length) : cov (l.take (j + 1)) K = (cov (l.take j) K || B1.inB K (at_ l j).1 ((at_ l j).1 + (at_ l j).2 - 1)) := by
 rw [List.take_succ_eq_append_getElem h, ← HP.at_get l j h]
 unfold cov B1.inB
 rw [List.any_append]
 congr 1
 simp only [List.any_cons, List.any_nil, Bool.or_false]
 exact decide_eq_decide.2 (by omega)
set_option maxHeartbeats 4000000 in
theorem spec_Within (d : Ln) (s : Sl) (i n : Int) (w : World) (hF : Fit d s) (hpo : d.po.length ≤ 1048576) (hfr : d.fr.length ≤ 1048576) (hR : Lists w d s) :
  Calls Tryz.prog 13 #[N1.val d s, .int .i64 i, .int .i64 n] w fun e w' => e = .returned (.bool (within d i n)) ∧ Below w.heap.size w w' := by
 have x0 := bx_new w d s
 have hRa := R6.spec_Ranges d s _ hF hpo hfr (hR.below x0.bel)
 have c0 := x0.arg.c0
 have c1 := x0.arg.c1
 have c2 := x0.arg.c2
 have c3 := x0.arg.c3
 have c4 := x0.arg.c4
 have c5 := x0.arg.c5
 have c6 := x0.arg.c6
 have c7 := x0.arg.c7
 clear hR hF
 have hlen := rl_len d
 have hsm := rl_small d
 by_cases hin : 1 ≤ n ∧ n ≤ 768 ∧ 0 ≤ i ∧ i ≤ 768 - n
 ·have hw : within d i n = covAll (rl d) i n.toNat := by
   unfold within
   rw [decide_eq_true hin, Bool.true_and]
  rw [hw]
  have q1 : B1.inB n 1 768 = true := N0.inB_iff.2 ⟨hin.1, hin.2.1⟩
  have q2 : B1.inB i 0 (768 - n) = true := N0.inB_iff.2 ⟨hin.2.2.1, hin.2.2.2⟩
  obtain ⟨h1, h2, h3, h4⟩ := hin
  clear hw
  go_enter Tryz.func13, Tryz.ntmps13
  go_wp2_with (first
   | (go_at_call 11; refine hRa.mono ?_; rintro e w1 ⟨a, c, rfl, hl1, hc1, o1, b1⟩)
   | (go_at_call 31; refine (B1.l01In_any _ _ _ _).mono ?_; rintro e w' ⟨rfl, hw⟩; subst w'; rw [q1])
   | (go_at_call 31; refine (B1.l01In_any _ _ _ _).mono ?_; rintro e w' ⟨rfl, hw⟩; subst w'; rw [q2]))
  have bel1 := x0.bel.trans (b1.mono x0.bel.size)
  have rw1 : rl d = [] ∨ ∃ G, a = some ⟨G, 0, none⟩ ∧ K0.Blk G (ints (R6.rg d)) w1 := by
   rcases row_of o1 with q | ⟨G, q1, q2, q3⟩
   ·exact Or.inl q
   ·exact Or.inr ⟨G, q1, q3⟩
  rw [← hlen] at hc1 ⊢
  clear hlen b1 o1 hl1 hRa c0 c1 c2 c3 c4 c5 c6 c7 x0
  go_loopg [8] n.toNat (fun gk v W => ∃ (k : Nat), k + gk = n.toNat ∧ v = .int .i64 (i + (k : Int)) ∧ Hid (∀ j : Nat, j < k → cov (rl d) (i + (j : Int)) = true) ∧ (rl d = [] ∨ ∃ G, a = some ⟨G, 0, none⟩ ∧ K0.Blk G (ints (R6.rg d)) W) ∧ Below w.heap.size w W)
  case atStart => exact ⟨0, by omega, by simp, fun j h => absurd h (by omega), rw1, bel1⟩
  case round =>
   obtain ⟨go, rfl⟩ : ∃ go, go = gk := ⟨_, rfl⟩
   obtain ⟨k, hk, rfl, hcv, hrow, hbel⟩ := hrel
   clear rw1 bel1
   by_cases hlt : k < n.toNat
   ·have e1 : i + (k : Int) < i + n := by omega
    obtain ⟨K, hK⟩ : ∃ K, i + (k : Int) = K := ⟨_, rfl⟩
    have HK : Hid (i + (k : Int) = K ∧ k < n.toNat ∧ k + go = n.toNat) := ⟨hK, hlt, hk⟩
    have hK1 : 0 ≤ K := by omega
    have hK2 : K ≤ 768 := by omega
    rw [hK] at e1 ⊢
    clear hK hlt hk
    have HB0 : Hid (Below w.heap.size w wr) := hbel
    clear hbel
    go_wp2
    go_loopg [9, 10] (rl d).length (fun gj b v W => ∃ (j : Nat), j + gj = (rl d).length ∧ v = .int .i64 (j : Int) ∧ b = .bool (cov ((rl d).take j) K) ∧ (rl d = [] ∨ ∃ G, a = some ⟨G, 0, none⟩ ∧ K0.Blk G (ints (R6.rg d)) W) ∧ Below w.heap.size w W)
    case atStart => exact ⟨0, by omega, rfl, rfl, hrow, HB0.out⟩
    case round =>
     obtain ⟨j, hj, rfl, rfl, hrow2, hbel⟩ := hrel
     clear hrow HB0
     by_cases hjl : j < (rl d).length
     ·rcases hrow2 with hrow2 | ⟨G, rfl, hblk⟩
      ·rw [hrow2] at hjl
       simp at hjl
      ·obtain ⟨y1, y2⟩ := row_get hblk hjl
       have hcs := cov_succ (rl d) j K hjl
       obtain ⟨u1, u2, u3⟩ := at_in d hjl
       obtain ⟨r, hr⟩ : ∃ r, at_ (rl d) j = r := ⟨_, rfl⟩
       rw [hr] at y1 y2 hcs u1 u2 u3
       have e2 : (0 : Int) ≤ (j : Int) := by omega
       have e3 : (j : Int) < ((rl d).length : Int) := by omega
       obtain ⟨P, hP⟩ : ∃ P, cov ((rl d).take j) K = P := ⟨_, rfl⟩
       obtain ⟨P2, hP2⟩ : ∃ P2, cov ((rl d).take (j + 1)) K = P2 := ⟨_, rfl⟩
       rw [hP, hP2] at hcs
       have HC : Hid (cov ((rl d).take (j + 1)) K = P2 ∧ K0.Blk G (ints (R6.rg d)) wr ∧ Below w.heap.size w wr ∧ j + gk = (rl d).length) := ⟨hP2, hblk, hbel, hj⟩
       rw [hP]
       clear hr hP hP2 hblk hbel hj
       cases P with
       | true =>
        have hq : P2 = true := by simpa using hcs
        clear hcs
        go_wp2
        go_quiet (fail)
        go_wp2
        obtain ⟨hP2, hblk, hbel, hj⟩ := HC.out
        go_roundg (gk - 1)
        case measure => omega
        case rel => exact ⟨j + 1, by omega, by go_num, by first | rw [hP2, hq] | rw [hP2], Or.inr ⟨G, rfl, hblk.drewN _⟩, K0.below_drewN hbel _⟩
       | false =>
        have hq : B1.inB K r.1 (r.1 + r.2 - 1) = P2 := by simpa using hcs.symm
        clear hcs
        go_wp2
        go_quiet (first | (go_at_call 31; refine Calls.quiet_of_same (B1.l01In_any _ _ _ _)))
        go_wp2
        obtain ⟨hP2, hblk, hbel, hj⟩ := HC.out
        go_roundg (gk - 1)
        case measure => omega
        case rel => exact ⟨j + 1, by omega, by go_num, by first | rw [hP2, hq] | rw [hP2], Or.inr ⟨G, rfl, hblk.drewN _⟩, K0.below_drewN hbel _⟩
     ·have hjj : j = (rl d).length := by omega
      subst hjj
      rw [List.take_length]
      have e2 : ¬ (((rl d).length : Int) < ((rl d).length : Int)) := by omega
      cases hc : cov (rl d) K with
      | true =>
       have HC : Hid (cov (rl d) K = true) := hc
       clear hjl hj hc
       go_wp2
       obtain ⟨hK, hlt, hk⟩ := HK.out
       go_roundg (go - 1)
       case measure => omega
       case rel => exact ⟨k + 1, by omega, by rw [← hK]; go_num, fun j hj => (by
        by_cases e : j = k
        ·rw [e, hK]; exact HC.out
        ·exact hcv.out j (by omega)), hrow2, hbel⟩
      | false =>
       have HV : Hid (covAll (rl d) i n.toNat = false) := by
        obtain ⟨hK, hlt, hk⟩ := HK.out
        show covAll _ _ _ = false
        cases hx : covAll (rl d) i n.toNat with
        | false => rfl
        | true =>
         have := covAll_iff.1 hx K (by omega) (by omega)
         rw [hc] at this
         cases this
       have HB : Hid (Below w.heap.size w wr) := hbel
       clear hjl hj hc hbel
       go_wp2
       go_ret
       refine ⟨?_, HB.out⟩
       rw [HV.out]
       rfl
   ·have hkk : (k : Int) = n := by omega
    have e1 : ¬ (i + n < i + n) := by omega
    have HV : Hid (covAll (rl d) i n.toNat = true) := by
     refine covAll_iff.2 fun q h1 h2 => ?_
     have := hcv.out (q - i).toNat (by omega)
     rwa [show i + ((q - i).toNat : Int) = q by omega] at this
    rw [hkk]
    have HB : Hid (Below w.heap.size w wr) := hbel
    clear hrow hcv hlt hk hkk hbel
    go_wp2
    go_ret
    refine ⟨?_, HB.out⟩
    rw [HV.out]
    rfl
 ·have hw : within d i n = false := by
   unfold within
   rw [decide_eq_false hin, Bool.false_and]
  rw [hw]
  clear hw hlen
  cases q1 : B1.inB n 1 768 with
  | false =>
   go_enter Tryz.func13, Tryz.ntmps13
   go_wp2_with (first
    | (go_at_call 11; refine hRa.mono ?_; rintro e w1 ⟨a, c, rfl, hl1, hc1, o1, b1⟩)
    | (go_at_call 31; refine (B1.l01In_any _ _ _ _).mono ?_; rintro e w' ⟨rfl, hw⟩; subst w'; rw [q1]))
   go_ret
   exact ⟨rfl, x0.bel.trans (b1.mono x0.bel.size)⟩
  | true =>
   have q3 := N0.inB_iff.1 q1
   have q2 : B1.inB i 0 (768 - n) = false := by
    cases hq : B1.inB i 0 (768 - n) with
    | false => rfl
    | true =>
     have := N0.inB_iff.1 hq
     exact absurd ⟨q3.1, q3.2, this.1, this.2⟩ hin
   obtain ⟨h1, h2⟩ := q3
   clear hin
   go_enter Tryz.func13, Tryz.ntmps13
   go_wp2_with (first
    | (go_at_call 11; refine hRa.mono ?_; rintro e w1 ⟨a, c, rfl, hl1, hc1, o1, b1⟩)
    | (go_at_call 31; refine (B1.l01In_any _ _ _ _).mono ?_; rintro e w' ⟨rfl, hw⟩; subst w'; rw [q1])
    | (go_at_call 31; refine (B1.l01In_any _ _ _ _).mono ?_; rintro e w' ⟨rfl, hw⟩; subst w'; rw [q2]))
   go_ret
   exact ⟨rfl, x0.bel.trans (b1.mono x0.bel.size)⟩
end Go.Proofs.YthbcefopbmkppaaGreat.WI
namespace Go.Proofs.YthbcefopbmkppaaGreat.Q0
open Go.ChangeShapes Go.WideShapes Go.ChangeAt Go.RowKit
theorem lt_of_cell {w : World} {b o : Nat} {v : Value} (h : w.cell? ⟨b, o, none⟩ = some v) : b < w.heap.size := by
 rcases Nat.lt_or_ge b w.heap.size with hlt | hge
 ·exact hlt
 ·unfold World.cell? at h
  rw [Array.getElem?_eq_none hge] at h
  simp at h
theorem open_code {H : Type} {enc : TypeId × Value → H} {w : World} {fuel : Nat} {v : Value} {x : DataW H × List MemPlace} (h : DataW.trod enc Tryz.prog w 0 (fun _ => true) true fuel 22 [v] = some x) :
  ∃ (a : Option Addr) (len cap : Nat), v = .slice a len cap ∧ C0.Given w a len := by
 rcases open_ints Tryz.underlying22 Tryz.underlying5 (by kernel_rfl) h with ⟨hcs, _⟩ | ⟨a, len, cap, zs, hcs, _, hl, hm, hz, _, hcell, hwz⟩
 ·simp at hcs
  exact ⟨none, 0, 0, hcs, fun k hk => absurd hk (Nat.not_lt_zero _)⟩
 ·simp at hcs hz
  refine ⟨some a, len, cap, hcs, fun k hk => ?_⟩
  obtain ⟨b, off, rfl, hc⟩ := ints_at hcell (by omega)
  have hck := hc k (by omega)
  have hmem : zs.getD k 0 ∈ zs := by
   rw [List.getD_eq_getElem?_getD, List.getElem?_eq_getElem (by omega : k < zs.length)]
   exact List.getElem_mem _
  have hwf := hwz _ hmem
  have hb : 0 ≤ zs.getD k 0 ∧ zs.getD k 0 ≤ 255 := by simpa [Lit.wf, IntKind.min, IntKind.max, IntKind.signed, IntKind.bits] using hwf
  exact ⟨b, off, zs.getD k 0, rfl, lt_of_cell hck, hb.1, by omega, hck⟩
theorem big_no (a : Option Addr) (len cap : Nat) (w : World) (hl : ¬ 1048576 < (len : Int)) : Calls Tryz.prog 4 #[.slice a len cap] w fun e w' => e = .returned (.bool false) ∧ w' = w := by
 have hl' : decide (1048576 < (len : Int)) = false := by simpa using hl
 go_enter Tryz.func4, Tryz.ntmps4
 go_wp2
 go_ret
 exact ⟨rfl, rfl⟩
theorem big_yes (a : Option Addr) (len cap : Nat) (w : World) (hl : 1048576 < (len : Int)) : Calls Tryz.prog 4 #[.slice a len cap] w fun e w' => e = .returned (.bool true) ∧ w' = w := by
 go_enter Tryz.func4, Tryz.ntmps4
 go_wp2
 go_ret
 exact ⟨rfl, rfl⟩
end Go.Proofs.YthbcefopbmkppaaGreat.Q0
