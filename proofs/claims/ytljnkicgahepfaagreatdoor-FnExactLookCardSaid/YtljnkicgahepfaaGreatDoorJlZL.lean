/- Joined texts: plain facts and contracts. -/
import Derived.Test.YtljnkicgahepfaaGreatDoorJlZD
import Derived.Test.YtljnkicgahepfaaGreatDoorJlZK
import Derived.Test.YtljnkicgahepfaaGreatDoorRows
import Derived.Conc.MuLone
import Derived.KernelRfl
import Derived.Lib.ItoaNum
import Derived.Lib.ItoaLen
import Derived.Lib.ItoaMem
import Derived.Lib.Strings
import Derived.WalkKit
import Derived.Test.YtljnkicgahepfaaGreatDoorJlA
import Derived.ProofKit
import Derived.Handy
import Derived.Test.YtljnkicgahepfaaGreatDoorJlF
import Derived.Test.YtljnkicgahepfaaGreatDoorJlI
import Derived.Test.YtljnkicgahepfaaGreatDoorJlC
import Derived.Deep.RegionHeld3
set_option linter.unusedVariables false
set_option linter.unusedSimpArgs false
set_option maxRecDepth 10000
namespace Go.Proofs.YtljnkicgahepfaaGreatDoor.WI
open Go.ChangeShapes Go.WideShapes Go.ChangeAt Go.RowKit
open N0 (Ln)
open N1 (Sl Lists Fit LB lb_new)
open N13 (Bx bx_new)
open HP (Rg at_ cov covAll cov_iff covAll_iff HS HeapN Chg)
open I2 (ints)
theorem hs_new (v : World) (W : World) {lo A1 A2 : Nat} (hlo : lo ≤ W.heap.size) (h1 : A1 = W.heap.size) (h2 : A2 = W.heap.size + 1) :
  HS lo A2 A1 0 [] ((W.alloc (.cells #[] 141)).alloc (.cells #[.slice (some ⟨A1, 0, none⟩) 0 0] 246)) := by
 subst h1
 have nb := K0.blk_new [.slice (some ⟨W.heap.size, 0, none⟩) 0 0] (W.alloc (.cells #[] 141)) 246
 have hz : (W.alloc (.cells #[] 141)).heap.size = W.heap.size + 1 := by simp
 rw [hz] at nb
 subst h2
 refine ⟨nb.cell 0 (by simp), nb.free 0 (by simp), ?_, by omega, by omega, nb.lt⟩
 exact (World.ownsRow_made W #[] 0 hlo (Nat.zero_le _) rfl).alloc _
set_option maxHeartbeats 4000000 in
theorem impl_Within (d : Ln) (s : Sl) (i n : Int) (w : World) (hF : Fit d s) (hpo : d.po.length ≤ 1048576) (hfr : d.fr.length ≤ 1048576) (hR : Lists w d s) :
  Calls Tryz.prog 155 #[N1.val d s, .int .i64 i, .int .i64 n] w fun e w' => e = .returned (.bool (within d i n)) ∧ Below w.heap.size w w' := by
 have x0 := bx_new w d s
 have HO : Hid (∀ W, Below w.heap.size w W → Calls Tryz.prog 180 #[N1.val d s] W (R6.Ans d W)) := fun W hb => R6.impl_Ranges d s W hF hpo hfr (hR.below hb)
 by_cases hin : 0 ≤ i ∧ i < 768 ∧ 1 ≤ n ∧ n ≤ 768
 ·have hw := within_impl d i n hin
  rw [hw]
  obtain ⟨h1, h2, h3, h4⟩ := hin
  have c0 := x0.arg.c0
  have c1 := x0.arg.c1
  have c2 := x0.arg.c2
  have c3 := x0.arg.c3
  have c4 := x0.arg.c4
  have c5 := x0.arg.c5
  have c6 := x0.arg.c6
  have c7 := x0.arg.c7
  have nl2 : Below w.heap.size w (((N10.w0 w d s).alloc (.cells #[] 141)).alloc (.cells #[.slice (some ⟨w.heap.size + 1, 0, none⟩) 0 0] 246)) := (x0.bel.alloc x0.bel.size _).alloc (by have := x0.bel.size; simp [N10.w0]; omega) _
  have hs0 : HS w.heap.size (w.heap.size + 1 + 1) (w.heap.size + 1) 0 [] (((N10.w0 w d s).alloc (.cells #[] 141)).alloc (.cells #[.slice (some ⟨w.heap.size + 1, 0, none⟩) 0 0] 246)) := hs_new w _ x0.bel.size (by simp [N10.w0]) (by simp [N10.w0])
  have hRa := HO.out _ nl2
  clear hw hR hF
  go_enter Tryz.func155, Tryz.ntmps155
  go_wp2_with (go_at_call 180; refine hRa.mono ?_; rintro e w1 ⟨a, c, rfl, hl1, hc1, o1, b1⟩)
  have hs1 := hs0.below b1
  have bel1 := nl2.trans (b1.mono nl2.size)
  have hlen := rl_len d
  have hsm := rl_small d
  have rw1 : rl d = [] ∨ ∃ G, a = some ⟨G, 0, none⟩ ∧ G ≠ w.heap.size + 1 ∧ G ≠ w.heap.size + 1 + 1 ∧ K0.Blk G (ints (R6.rg d)) w1 := by
   rcases row_of o1 with q | ⟨G, q1, q2, q3⟩
   ·exact Or.inl q
   ·have := hs0.lt
    exact Or.inr ⟨G, q1, by omega, by omega, q3⟩
  rw [← hlen] at hc1 ⊢
  clear hlen hs0 nl2 b1 o1 hl1 hRa HO c0 c1 c2 c3 c4 c5 c6 c7 x0
  have HIN : Hid (0 ≤ i ∧ i < 768 ∧ 1 ≤ n ∧ n ≤ 768) := ⟨h1, h2, h3, h4⟩
  go_loopg [34] (rl d).length (fun gk v W => ∃ (k g c' : Nat) (l : List Rg), k + gk = (rl d).length ∧ v = .int .i64 (k : Int) ∧ HS w.heap.size (w.heap.size + 1 + 1) g c' l W ∧ l.Perm ((rl d).take k) ∧ HeapN l l.length ∧ (rl d = [] ∨ ∃ G, a = some ⟨G, 0, none⟩ ∧ G ≠ g ∧ G ≠ w.heap.size + 1 + 1 ∧ K0.Blk G (ints (R6.rg d)) W) ∧ Below w.heap.size w W)
  case atStart => exact ⟨0, _, _, [], by omega, rfl, hs1, by simp, fun i _ h => absurd h (by simp), rw1, bel1⟩
  case round =>
   obtain ⟨k, g, c', l, hk, rfl, hs, hp, hh, hrow, hbel⟩ := hrel
   clear hs1 rw1 bel1
   have hll : l.length = k := by rw [hp.length_eq, List.length_take]; omega
   by_cases hlt : k < (rl d).length
   ·rcases hrow with hrow | ⟨G, rfl, hG1, hG2, hblk⟩
    ·rw [hrow] at hlt
     simp at hlt
    ·obtain ⟨y1, y2⟩ := row_get hblk hlt
     have hpk : ((rl d).take k ++ [at_ (rl d) k]) = (rl d).take (k + 1) := by rw [List.take_succ_eq_append_getElem hlt, HP.at_get _ _ hlt]
     obtain ⟨r, hr⟩ : ∃ r, at_ (rl d) k = r := ⟨_, rfl⟩
     rw [hr] at y1 y2 hpk
     have e1 : (0 : Int) ≤ (k : Int) := by omega
     have e2 : (k : Int) < ((rl d).length : Int) := by omega
     have nl := K0.below_new wr (.cells #[.int .i64 r.1, .int .i64 r.2] 141)
     have nb := K0.blk_new [.int .i64 r.1, .int .i64 r.2] wr 141
     have z1 : (wr.alloc (.cells #[.int .i64 r.1, .int .i64 r.2] 141)).cell? ⟨wr.heap.size, 0, none⟩ = some (.int .i64 r.1) := nb.cell 0 (by simp)
     have z2 : (wr.alloc (.cells #[.int .i64 r.1, .int .i64 r.2] 141)).cell? ⟨wr.heap.size, 1, none⟩ = some (.int .i64 r.2) := nb.cell 1 (by simp)
     have hpu := HP.heapPush r _ (hs.below nl) hh (by omega)
     have HA : Hid (HS w.heap.size (w.heap.size + 1 + 1) g c' l wr ∧ l.Perm ((rl d).take k) ∧ Below w.heap.size w wr ∧ K0.Blk G (ints (R6.rg d)) wr ∧ ((rl d).take k ++ [r]) = (rl d).take (k + 1) ∧ G ≠ g ∧ G ≠ w.heap.size + 1 + 1) := ⟨hs, hp, hbel, hblk, hpk, hG1, hG2⟩
     clear hs hp hbel hblk hpk hG1 hG2 hr hh nb
     have HNL : Hid (Below wr.heap.size wr (wr.alloc (.cells #[.int .i64 r.1, .int .i64 r.2] 141))) := nl
     clear nl
     go_wp2_with (go_at_call 213; refine hpu.mono ?_; rintro e w2 ⟨rfl, g2, c2, l2, hs2, hp2, hh2, ch2⟩)
     obtain ⟨hs, hp, hbel, hblk, hpk, hG1, hG2⟩ := HA.out
     have nl := HNL.out
     have hgl := hs.glt
     go_roundg (gk - 1)
     case measure => omega
     case rel =>
      refine ⟨k + 1, g2, c2, l2, by omega, by go_num, hs2, ?_, hh2, Or.inr ⟨G, rfl, ?_, hG2, ?_⟩, ?_⟩
      ·rw [← hpk]
       exact hp2.trans (hp.append_right [r])
      ·rcases ch2.loc with q | q
       ·rw [q]; exact hG1
       ·have := hblk.lt
        have := nl.size
        omega
      ·exact HP.blk_block (hblk.below nl) (ch2.block G (Nat.lt_of_lt_of_le hblk.lt nl.size) hG2 hG1) ch2.size
      ·exact (hbel.trans (nl.mono hbel.size)).trans (ch2.below hs.lo hgl.1 (Nat.le_trans hbel.size nl.size))
   ·have hkk : k = (rl d).length := by omega
    subst hkk
    rw [List.take_length] at hp
    have e2 : ¬ ((rl d).length : Int) < ((rl d).length : Int) := by omega
    have HG0 : Hid (HP.Go (rl d) [] l i i) := ⟨by simpa using hp, hh, fun d h => absurd h (by simp), fun d h => absurd h (by simp), fun k h1 h2 => by omega, Int.le_refl _⟩
    have HS0 : Hid (HS w.heap.size (w.heap.size + 1 + 1) g c' l wr ∧ Below w.heap.size w wr) := ⟨hs, hbel⟩
    clear hs hp hbel hh hrow hlt
    have hlz : l.length ≤ 13 := by omega
    go_wp2
    go_loopg [1] (l.length + 1) (fun gk v W => ∃ (j : Int) (dn rest : List Rg), v = .int .i64 j ∧ rest.length + 1 = gk ∧ gk ≤ 14 ∧ 0 ≤ j ∧ j ≤ 768 ∧ HP.Go (rl d) dn rest i j ∧ HS w.heap.size (w.heap.size + 1 + 1) g c' rest W ∧ Below w.heap.size w W)
    case atStart => exact ⟨i, [], l, rfl, rfl, by omega, by omega, by omega, HG0.out, HS0.out.1, HS0.out.2⟩
    case round =>
     obtain ⟨j, dn, rest, rfl, hgk, hg14, hj0, hj7, hgo, hs, hbel⟩ := hrel
     clear HG0 HS0
     have x0 := hs.cell
     have HA : Hid (HP.Go (rl d) dn rest i j ∧ HS w.heap.size (w.heap.size + 1 + 1) g c' rest wr ∧ Below w.heap.size w wr ∧ rest.length + 1 = gk ∧ gk ≤ 14) := ⟨hgo, hs, hbel, hgk, hg14⟩
     by_cases hje : j < i + n
     ·have hje' : ¬ (i + n ≤ j) := by omega
      cases hrest : rest with
      | nil =>
       rw [hrest] at HA x0
       have e0 : (([] : List Rg).length : Int) = 0 := rfl
       have HV : Hid (covAll (rl d) i n.toNat = false) := HA.out.1.done_no (by omega)
       clear hgo hs hbel hgk hrest
       go_wp2_with (go_at_call 214; refine (HP.len _ _ _ _).mono ?_; rintro e w2 ⟨rfl, hw⟩; subst w2)
       go_ret
       exact ⟨congrArg Ending.returned (congrArg Value.bool (show decide (i + n ≤ j) = _ from by rw [HV.out]; exact decide_eq_false (by omega))), HA.out.2.2.1⟩
      | cons r0 rt =>
       have hrl : rest.length = rt.length + 1 := by rw [hrest]; rfl
       have hl := HP.least rt.length wr hs hgo.heap hrl (by omega)
       have hin : ∀ r ∈ rest, 0 ≤ r.1 ∧ 16 ≤ r.2 ∧ r.1 + r.2 ≤ 768 := fun r hr => rl_in d r (hgo.perm.mem_iff.1 (List.mem_append_right _ hr))
       have HIM : Hid (∀ r ∈ rest, 0 ≤ r.1 ∧ 16 ≤ r.2 ∧ r.1 + r.2 ≤ 768) := hin
       have e0 : (0 : Int) < (rest.length : Int) := by omega
       have hgl := hs.glt
       have HGL : Hid (w.heap.size ≤ g ∧ g < wr.heap.size) := hgl
       clear hgo hs hbel hgk hrest hin hgl hrl
       have hD : ∀ (r : Rg) (l3 : List Rg) (w3 : World), r = at_ rest 0 → (r :: l3).Perm rest → HS w.heap.size (w.heap.size + 1 + 1) g c' l3 w3 → HeapN l3 l3.length → Chg (w.heap.size + 1 + 1) g g wr w3 → Hid ((0 ≤ r.1 ∧ 16 ≤ r.2 ∧ r.1 + r.2 ≤ 768) ∧ l3.length + 1 = rest.length ∧ (r.1 ≤ j ∧ j < r.1 + r.2 → HP.Go (rl d) (r :: dn) l3 i (r.1 + r.2)) ∧ (¬ (r.1 ≤ j ∧ j < r.1 + r.2) → HP.Go (rl d) (r :: dn) l3 i j) ∧ HS w.heap.size (w.heap.size + 1 + 1) g c' l3 w3 ∧ Below w.heap.size w w3) := by
        intro r l3 w3 q1 q2 q3 q4 q5
        have P := HA.out.1.pop (by omega) q1 q2 q4
        have A := HA.out
        exact ⟨HIM.out r (q2.mem_iff.1 (by simp)), by have := q2.length_eq; simpa using this, P.1, P.2, q3, A.2.2.1.trans (q5.below A.2.1.lo HGL.out.1 A.2.2.1.size)⟩
       have HD : Hid (∀ (r : Rg) (l3 : List Rg) (w3 : World), r = at_ rest 0 → (r :: l3).Perm rest → HS w.heap.size (w.heap.size + 1 + 1) g c' l3 w3 → HeapN l3 l3.length → Chg (w.heap.size + 1 + 1) g g wr w3 → Hid ((0 ≤ r.1 ∧ 16 ≤ r.2 ∧ r.1 + r.2 ≤ 768) ∧ l3.length + 1 = rest.length ∧ (r.1 ≤ j ∧ j < r.1 + r.2 → HP.Go (rl d) (r :: dn) l3 i (r.1 + r.2)) ∧ (¬ (r.1 ≤ j ∧ j < r.1 + r.2) → HP.Go (rl d) (r :: dn) l3 i j) ∧ HS w.heap.size (w.heap.size + 1 + 1) g c' l3 w3 ∧ Below w.heap.size w w3)) := hD
       clear hD
       go_wp2_with (first
        | (go_at_call 214; refine (HP.len _ _ _ _).mono ?_; rintro e w2 ⟨rfl, hw⟩; subst w2)
        | (go_at_call 215; refine hl.mono ?_; rintro e w3 ⟨r, l3, rfl, hr3, hp3, hs3, hh3, ch3⟩; have F3 := HD.out r l3 w3 hr3 hp3 hs3 hh3 ch3; clear hr3 hp3 hs3 hh3 ch3; have nb := K0.blk_new [.int .i64 r.1, .int .i64 r.2] w3 141; have z1 : (w3.alloc (.cells #[.int .i64 r.1, .int .i64 r.2] 141)).cell? ⟨w3.heap.size, 0, none⟩ = some (.int .i64 r.1) := nb.cell 0 (by simp); have z2 : (w3.alloc (.cells #[.int .i64 r.1, .int .i64 r.2] 141)).cell? ⟨w3.heap.size, 1, none⟩ = some (.int .i64 r.2) := nb.cell 1 (by simp); clear nb; obtain ⟨u1, u2, u3⟩ := F3.out.1))
       all_goals (
        obtain ⟨_, hl3, P1, P2, hs3, b3⟩ := F3.out
        have A := HA.out
        have nl3 := K0.below_new w3 (.cells #[.int .i64 r.1, .int .i64 r.2] 141)
        go_roundg (gk - 1)
        case measure => omega
        case rel => first
         | exact ⟨j, r :: dn, l3, rfl, by omega, by omega, by omega, by omega, P2 (by omega), hs3.below nl3, b3.trans (nl3.mono b3.size)⟩
         | exact ⟨r.1 + r.2, r :: dn, l3, rfl, by omega, by omega, by omega, by omega, P1 (by omega), hs3.below nl3, b3.trans (nl3.mono b3.size)⟩)
     ·have hje' : i + n ≤ j := by omega
      have HV : Hid (covAll (rl d) i n.toNat = true) := HA.out.1.done_yes (by omega)
      clear hgo hs hbel hgk
      go_wp2
      go_ret
      refine ⟨?_, HA.out.2.2.1⟩
      have hdd : decide (i + n ≤ j) = true := decide_eq_true (by omega)
      rw [HV.out]
      first
       | rfl
       | exact congrArg Ending.returned (congrArg Value.bool hdd)
 ·have hw := within_no d i n hin
  rw [hw]
  have hc : (decide (i < 0) || decide (768 ≤ i) || decide (n < 1) || decide (768 < n)) = true := by
   simp
   omega
  have HB : Hid (Below w.heap.size w (N10.w0 w d s)) := x0.bel
  clear hw hR hF HO x0
  by_cases q1 : i < 0
  ·go_enter Tryz.func155, Tryz.ntmps155
   go_wp2
   go_ret
   exact ⟨rfl, HB.out⟩
  ·by_cases q2 : 768 ≤ i
   ·go_enter Tryz.func155, Tryz.ntmps155
    go_wp2
    go_ret
    exact ⟨rfl, HB.out⟩
   ·by_cases q3 : n < 1
    ·go_enter Tryz.func155, Tryz.ntmps155
     go_wp2
     go_ret
     exact ⟨rfl, HB.out⟩
    ·have q4 : 768 < n := by omega
     go_enter Tryz.func155, Tryz.ntmps155
     go_wp2
     go_ret
     exact ⟨rfl, HB.out⟩
end Go.Proofs.YtljnkicgahepfaaGreatDoor.WI
namespace Go.Proofs.YtljnkicgahepfaaGreatDoor.WM
open Go.ChangeShapes Go.WideShapes Go.ChangeAt Go.RowKit
open N0 (Ln)
open N1 (Sl val vals Lists LB lb_new)
open Z0 (dat Row Lns Kp kval kvals)
open Z4 (Fits)
open WL (lt1 lets lets_yes lets_no)
abbrev lob (d : Ln) (s : Sl) : Obj := .cells #[.int .i64 d.ino, .int .i64 d.cl, .int .i64 d.un, .string d.rc, .slice s.a1 d.pg.length s.c1, .string d.sav, .slice s.a2 d.po.length s.c2, .slice s.a3 d.fr.length s.c3] 66
structure Cap (bc bi bn : Nat) (cl i n : Int) (W : World) : Prop where
 c : W.cell? ⟨bc, 0, none⟩ = some (.int .i64 cl)
 i : W.cell? ⟨bi, 0, none⟩ = some (.int .i64 i)
 n : W.cell? ⟨bn, 0, none⟩ = some (.int .i64 n)
 lc : bc < W.heap.size
 li : bi < W.heap.size
 ln : bn < W.heap.size
theorem Cap.below {bc bi bn : Nat} {cl i n : Int} {W W' : World} (h : Cap bc bi bn cl i n W) (hb : Below W.heap.size W W') : Cap bc bi bn cl i n W' :=
 ⟨(hb.cell (p := ⟨bc, 0, none⟩) h.lc).trans h.c, (hb.cell (p := ⟨bi, 0, none⟩) h.li).trans h.i, (hb.cell (p := ⟨bn, 0, none⟩) h.ln).trans h.n, Nat.lt_of_lt_of_le h.lc hb.size, Nat.lt_of_lt_of_le h.li hb.size, Nat.lt_of_lt_of_le h.ln hb.size⟩
set_option maxHeartbeats 2000000 in
theorem one (d : Ln) (s : Sl) (cl i n : Int) (bc bi bn : Nat) (w : World) (hc : Cap bc bi bn cl i n w) (hF : N1.Fit d s) (hpo : d.po.length ≤ 1048576) (hfr : d.fr.length ≤ 1048576) (hR : Lists w d s) :
  Calls Tryz.prog 154 #[val d s, .pointer (some ⟨bc, 0, none⟩), .pointer (some ⟨bi, 0, none⟩), .pointer (some ⟨bn, 0, none⟩)] w fun e w' => e = .returned (.bool (lt1 cl i n d)) ∧ Below w.heap.size w w' := by
 have bx := lb_new d s w 66
 have n0 := K0.below_new w (lob d s)
 have y0 := bx.c0
 have y1 := bx.c1
 have y2 := bx.c2
 have y3 := bx.c3
 have y4 := bx.c4
 have y5 := bx.c5
 have y6 := bx.c6
 have y7 := bx.c7
 have k0 := hc.below n0
 have i0 := k0.c
 have i1 := k0.i
 have i2 := k0.n
 have hw := WI.impl_Within d s i n (w.alloc (lob d s)) hF hpo hfr (hR.below n0)
 clear k0 hc bx hF hR hpo hfr
 by_cases h1 : d.cl = cl
 ·have e : lt1 cl i n d = WI.within d i n := by simp [lt1, h1]
  rw [e]
  clear e
  have h1' : (d.cl == cl) = true := by simpa using h1
  clear h1
  generalize WI.within d i n = o at hw ⊢
  go_enter Tryz.func154, Tryz.ntmps154
  go_wp2_with (go_at_call 155; refine hw.mono ?_; rintro e w1 ⟨rfl, b1⟩)
  go_ret
  exact ⟨rfl, n0.trans (b1.mono n0.size)⟩
 ·have e : lt1 cl i n d = false := by simp [lt1, h1]
  rw [e]
  have h1' : (d.cl == cl) = false := by simpa using h1
  clear e hw h1
  go_enter Tryz.func154, Tryz.ntmps154
  go_wp2
  go_ret
  exact ⟨rfl, n0⟩
def At (cl i n : Int) (ds : List Ln) (x : Int) : Prop := (x = -1 ∧ lets cl i n ds = false) ∨ (0 ≤ x ∧ lets cl i n ds = true)
set_option maxHeartbeats 2000000 in
theorem indexFunc (a : Option Addr) (c : Nat) (ds : List Ln) (ss : Nat → Sl) (cl i n : Int) (bc bi bn : Nat) (w : World) (hn : ds.length ≤ 1048576) (hF : Fits ds ss) (hR : Lns w a ds ss) (hC : Cap bc bi bn cl i n w) :
  Calls Tryz.prog 212 #[.slice a ds.length c, .func (.func 154) #[] #[.pointer (some ⟨bc, 0, none⟩), .pointer (some ⟨bi, 0, none⟩), .pointer (some ⟨bn, 0, none⟩)]] w fun e w' => (∃ x, e = .returned (.int .i64 x) ∧ At cl i n ds x) ∧ Below w.heap.size w w' := by
 have HC : Hid (∀ W d s, Below w.heap.size w W → N1.Fit d s → d.po.length ≤ 1048576 → d.fr.length ≤ 1048576 → Lists W d s → Calls Tryz.prog 154 #[val d s, .pointer (some ⟨bc, 0, none⟩), .pointer (some ⟨bi, 0, none⟩), .pointer (some ⟨bn, 0, none⟩)] W fun e w' => e = .returned (.bool (lt1 cl i n d)) ∧ Below W.heap.size W w') := fun W d s hb f1 f2 f3 hl => one d s cl i n bc bi bn W (hC.below hb) f1 f2 f3 hl
 have HR : Hid (∀ W, Below w.heap.size w W → Lns W a ds ss) := fun W hb => hR.below hb
 clear hC hR
 go_enter Tryz.func212, Tryz.ntmps212
 go_wp2
 go_loopw [8] (fun x w' => ∃ j : Nat, j ≤ ds.length ∧ x = .int .i64 j ∧ Hid (∀ y, y < j → lt1 cl i n (dat ds y) = false) ∧ Below w.heap.size w w') (fun x _ => ds.length - (intOf x).toNat)
 case atStart => exact ⟨0, Nat.zero_le _, rfl, fun x hx => absurd hx (Nat.not_lt_zero _), Below.refl _ _⟩
 case round =>
  obtain ⟨j, hj, rfl, HN, hbel⟩ := hrel
  by_cases hlt : j < ds.length
  ·have hl := HR.out _ hbel
   obtain ⟨b, off, rfl, hlt0, hc⟩ := hl.row.get hlt
   obtain ⟨y0, y1, y2, y3, y4, y5, y6, y7⟩ := hc j hlt
   have ls := hl.sub j hlt
   obtain ⟨f1, f2, f3⟩ := hF j hlt
   have e1 : (0 : Int) ≤ (j : Int) := by omega
   have e2 : (j : Int) < (ds.length : Int) := by omega
   have hB := hbel.size
   have HY : Hid (lt1 cl i n (dat ds j) = true → At cl i n ds (j : Int)) := fun h => Or.inr ⟨e1, lets_yes hlt h⟩
   have HM : Hid (lt1 cl i n (dat ds j) = false → ∀ y, y < j + 1 → lt1 cl i n (dat ds y) = false) := fun h y hy => by
    rcases Nat.lt_or_eq_of_le (Nat.le_of_lt_succ hy) with h1 | h1
    ·exact HN.out y h1
    ·rw [h1]; exact h
   obtain ⟨d, ed⟩ : ∃ d, dat ds j = d := ⟨_, rfl⟩
   obtain ⟨s, es⟩ : ∃ s, ss j = s := ⟨_, rfl⟩
   rw [ed, es] at ls f1
   rw [ed] at y0 y1 y2 y3 y4 y5 y6 y7 HY HM f2 f3
   rw [es] at y4 y6 y7
   have hcl := HC.out wr d s hbel f1 f2 f3 ls
   clear ed es hc HR HN HC hl ls f1 f2 f3
   cases hq : lt1 cl i n d with
   | true =>
    rw [hq] at hcl HY HM
    have HY' : Hid (At cl i n ds (j : Int)) := HY.out rfl
    clear HY HM hq
    go_wp2_with (go_at_call 154; refine hcl.mono ?_; rintro e w1 ⟨rfl, b1⟩)
    go_ret
    exact ⟨⟨_, rfl, HY'.out⟩, hbel.trans (b1.mono hB)⟩
   | false =>
    rw [hq] at hcl HY HM
    have HM' : Hid (∀ y, y < j + 1 → lt1 cl i n (dat ds y) = false) := HM.out rfl
    clear HY HM hq
    go_wp2_with (go_at_call 154; refine hcl.mono ?_; rintro e w1 ⟨rfl, b1⟩)
    go_roundw
    case rel => exact ⟨j + 1, by omega, by go_num, HM', hbel.trans (b1.mono hB)⟩
    case measure => simp [intOf]; omega
  ·obtain rfl : j = ds.length := by omega
   have HY : Hid (At cl i n ds (-1)) := Or.inl ⟨rfl, lets_no HN.out⟩
   clear HC HR HN
   go_wp2
   go_ret
   exact ⟨⟨_, rfl, HY.out⟩, hbel⟩
theorem containsFunc (a : Option Addr) (c : Nat) (ds : List Ln) (ss : Nat → Sl) (cl i n : Int) (bc bi bn : Nat) (w : World) (hn : ds.length ≤ 1048576) (hF : Fits ds ss) (hR : Lns w a ds ss) (hC : Cap bc bi bn cl i n w) :
  Calls Tryz.prog 153 #[.slice a ds.length c, .func (.func 154) #[] #[.pointer (some ⟨bc, 0, none⟩), .pointer (some ⟨bi, 0, none⟩), .pointer (some ⟨bn, 0, none⟩)]] w fun e w' => e = .returned (.bool (lets cl i n ds)) ∧ Below w.heap.size w w' := by
 have hx := indexFunc a c ds ss cl i n bc bi bn w hn hF hR hC
 cases hq : lets cl i n ds with
 | true =>
  have hx' := hx.mono (R' := fun e w' => (∃ x : Int, 0 ≤ x ∧ e = .returned (.int .i64 x)) ∧ Below w.heap.size w w') (by
   rintro e w' ⟨⟨x, he, hA⟩, hb⟩
   rcases hA with ⟨_, h⟩ | ⟨h, _⟩
   ·rw [hq] at h; cases h
   ·exact ⟨⟨x, h, he⟩, hb⟩)
  clear hx hq hR hC hF
  go_enter Tryz.func153, Tryz.ntmps153
  go_wp2_with (go_at_call 212; refine hx'.mono ?_; rintro e w1 ⟨⟨x, h0, rfl⟩, b1⟩)
  go_ret
  refine ⟨?_, b1⟩
  simp [h0]
 | false =>
  have hx' := hx.mono (R' := fun e w' => e = .returned (.int .i64 (-1)) ∧ Below w.heap.size w w') (by
   rintro e w' ⟨⟨x, he, hA⟩, hb⟩
   rcases hA with ⟨rfl, h⟩ | ⟨_, h⟩
   ·exact ⟨he, hb⟩
   ·rw [hq] at h; cases h)
  clear hx hq hR hC hF
  go_enter Tryz.func153, Tryz.ntmps153
  go_wp2_with (go_at_call 212; refine hx'.mono ?_; rintro e w1 ⟨rfl, b1⟩)
  go_ret
  exact ⟨rfl, b1⟩
end Go.Proofs.YtljnkicgahepfaaGreatDoor.WM
namespace Go.Proofs.YtljnkicgahepfaaGreatDoor.LM
open Go.Conc.Locks
abbrev link : MuLink := { lock := 148, unlock := 149, ilock := 209, iunlock := 210, lockSlow := 262, unlockSlow := 265, disable := 258, enable := 260, acquire := 261, relMerge := 263, cas32 := 259, add32 := 264, tMutex := 112, tIMutex := 110, tPMutex := 242, tPIMutex := 285, tPI32 := 287, tUP := 289, tNoCopy := 107, tU32 := 108 }
theorem lib : MuLib Tryz.prog link := by
 constructor
 all_goals first
  | exact Tryz.func148.trans (congrArg some (by kernel_rfl))
  | exact Tryz.func149.trans (congrArg some (by kernel_rfl))
  | exact Tryz.func209.trans (congrArg some (by kernel_rfl))
  | exact Tryz.func210.trans (congrArg some (by kernel_rfl))
  | exact Tryz.func258.trans (congrArg some (by kernel_rfl))
  | exact Tryz.func260.trans (congrArg some (by kernel_rfl))
  | exact Tryz.func261.trans (congrArg some (by kernel_rfl))
  | exact Tryz.func263.trans (congrArg some (by kernel_rfl))
  | exact Tryz.func259.trans (congrArg some (by kernel_rfl))
  | exact Tryz.func264.trans (congrArg some (by kernel_rfl))
  | kernel_rfl
  | (intro w; kernel_rfl)
end Go.Proofs.YtljnkicgahepfaaGreatDoor.LM
namespace Go.Proofs.YtljnkicgahepfaaGreatDoor.LF
open Go.ChangeShapes Go.WideShapes Go.ChangeAt Go.RowKit
open I2 (ints)
open J0 (IBuf Own)
open M0 (grown_refl grown_set)
variable {lo hi lo' hi' g : Nat} {w W W' w' : World}
def Wr (b m : Nat) (W : World) : Prop := ∀ j, j < m → (∃ v, W.cell? ⟨b, j, none⟩ = some v) ∧ W.frozen? ⟨b, j, none⟩ = false
theorem wr_set {b m : Nat} (h : Wr b m W) (p : Addr) (v : Value) : Wr b m (W.setCell p v) := by
 intro j hj
 obtain ⟨⟨u, hu⟩, hf⟩ := h j hj
 refine ⟨?_, by rw [World.frozen?_setCell]; exact hf⟩
 by_cases e : p = ⟨b, j, none⟩
 ·subst e
  exact ⟨v, World.cell?_setCell_same _ _ _ hu⟩
 ·exact ⟨u, by rw [World.cell?_setCell_other _ _ _ _ e]; exact hu⟩
theorem lt_of_cell {b j : Nat} {v : Value} (h : W.cell? ⟨b, j, none⟩ = some v) : b < W.heap.size := by
 rcases Nat.lt_or_ge b W.heap.size with h1 | h1
 ·exact h1
 ·unfold World.cell? at h
  rw [Array.getElem?_eq_none h1] at h
  simp at h
structure Btw (lo hi : Nat) (w w' : World) : Prop where
 os : w'.os = w.os
 tape : w'.tape = w.tape
 output : w'.output = w.output
 size : w.heap.size ≤ w'.heap.size
 block : ∀ k, k < w.heap.size → k < lo ∨ hi ≤ k → w'.heap[k]? = w.heap[k]?
 wr : ∀ b m, Wr b m w → Wr b m w'
theorem Btw.refl (lo hi : Nat) (w : World) : Btw lo hi w w := ⟨rfl, rfl, rfl, Nat.le_refl _, fun _ _ _ => rfl, fun _ _ h => h⟩
theorem Btw.trans (h : Btw lo hi w W) (k : Btw lo hi W W') : Btw lo hi w W' :=
 ⟨k.os.trans h.os, k.tape.trans h.tape, k.output.trans h.output, Nat.le_trans h.size k.size, fun i hi hx => (k.block i (Nat.lt_of_lt_of_le hi h.size) hx).trans (h.block i hi hx), fun b m hw => k.wr b m (h.wr b m hw)⟩
theorem Btw.mono (h : Btw lo hi w W) (h1 : lo' ≤ lo) (h2 : hi ≤ hi') : Btw lo' hi' w W :=
 ⟨h.os, h.tape, h.output, h.size, fun k hk hx => h.block k hk (by omega), h.wr⟩
theorem wr_below {b m : Nat} (h : Wr b m w) (hb : Below w.heap.size w W) : Wr b m W := by
 intro j hj
 obtain ⟨⟨v, hv⟩, hf⟩ := h j hj
 have hlt := lt_of_cell hv
 exact ⟨⟨v, (hb.cell (p := ⟨b, j, none⟩) hlt).trans hv⟩, (hb.frozen (p := ⟨b, j, none⟩) hlt).trans hf⟩
theorem Btw.ofBelow (h : Below w.heap.size w W) : Btw lo hi w W := ⟨h.os, h.tape, h.output, h.size, fun k hk _ => h.block k hk, fun _ _ hw => wr_below hw h⟩
theorem Btw.then (h : Btw lo hi w W) (hb : Below W.heap.size W W') : Btw lo hi w W' := h.trans (Btw.ofBelow hb)
theorem Btw.set (h : Btw lo hi w W) {p : Addr} (h1 : lo ≤ p.block) (h2 : p.block < hi) (v : Value) : Btw lo hi w (W.setCell p v) :=
 h.trans ⟨rfl, rfl, rfl, by simp [World.setCell], fun k hk hx => Below.heap_setCell _ _ _ _ (by omega), fun b m hw => wr_set hw p v⟩
theorem Btw.below {b : Nat} (h : Btw lo hi w W) (hb : b ≤ lo) (hs : b ≤ w.heap.size) : Below b w W := ⟨h.os, h.tape, h.output, h.size, fun k hk => h.block k (by omega) (by omega)⟩
theorem blk_btw {B : Nat} {vs : List Value} (h : K0.Blk B vs w) (hb : Btw lo hi w W) (hx : B < lo ∨ hi ≤ B) : K0.Blk B vs W := by
 have e := hb.block B h.lt hx
 refine ⟨fun j hj => ?_, fun j hj => ?_, Nat.lt_of_lt_of_le h.lt hb.size⟩
 ·rw [World.cell?_of_block (a := ⟨B, j, none⟩) e]
  exact h.cell j hj
 ·rw [World.frozen?_of_block (a := ⟨B, j, none⟩) e]
  exact h.free j hj
def OwnIn (lo hi : Nat) (W : World) (a : Option Addr) (zs : List Int) : Prop := zs = [] ∨ ∃ g, a = some ⟨g, 0, none⟩ ∧ lo ≤ g ∧ g < hi ∧ K0.Blk g (ints zs) W
variable {a : Option Addr} {zs : List Int}
theorem OwnIn.row (h : OwnIn lo hi W a zs) : P0.Row W a zs := by
 rcases h with h | ⟨g, rfl, _, _, hb⟩
 ·exact Or.inl h
 ·exact I2.row_of_blk hb
theorem OwnIn.below (h : OwnIn lo hi W a zs) (hb : Below W.heap.size W W') : OwnIn lo hi W' a zs := h.imp id fun ⟨g, e, h1, h2, hk⟩ => ⟨g, e, h1, h2, hk.below hb⟩
theorem OwnIn.btw (h : OwnIn lo hi W a zs) (hb : Btw lo' hi' W W') (hx : hi ≤ lo' ∨ hi' ≤ lo) : OwnIn lo hi W' a zs := h.imp id fun ⟨g, e, h1, h2, hk⟩ => ⟨g, e, h1, h2, blk_btw hk hb (by omega)⟩
theorem OwnIn.set (h : OwnIn lo hi W a zs) {B : Nat} (hB : B < lo) (j : Nat) (v : Value) : OwnIn lo hi (W.setCell ⟨B, j, none⟩ v) a zs := h.imp id fun ⟨g, e, h1, h2, hk⟩ => ⟨g, e, h1, h2, hk.setOther (by omega) j v⟩
theorem own_in (h : J0.Own lo W a zs) : OwnIn lo W.heap.size W a zs := h.imp id fun ⟨g, e, h1, hk⟩ => ⟨g, e, h1, hk.lt, hk⟩
theorem OwnIn.mono (h : OwnIn lo hi W a zs) (h1 : lo' ≤ lo) (h2 : hi ≤ hi') : OwnIn lo' hi' W a zs := h.imp id fun ⟨g, e, l1, l2, hk⟩ => ⟨g, e, by omega, by omega, hk⟩
theorem clone (a : Option Addr) (c : Nat) (zs : List Int) (w : World) (hn : zs.length ≤ 1048576) (hR : P0.Row w a zs) :
  Calls Tryz.prog 128 #[.slice a zs.length c] w fun e w' => ∃ a' c', e = .returned (.slice a' zs.length c') ∧ J0.Own w.heap.size w' a' zs ∧ Below w.heap.size w w' := by
 have qn : ∀ (w : World) (a : Option Addr) (n c n' c' : Nat), (binOp .eql 29 (.slice a n c) (.slice none n' c')).run Tryz.prog w = .ok (.bool a.isNone) w := fun w a n c n' c' => Lib.run_eql_slice_nil w _ _ a n c n' c' Tryz.underlying29
 cases a with
 | none =>
  have h0 : zs = [] := by
   rcases hR with h | ⟨b, off, h, _⟩
   ·exact h
   ·cases h
  subst h0
  go_enter Tryz.func128, Tryz.ntmps128
  go_wp2
  go_ret
  exact ⟨none, 0, rfl, Or.inl rfl, Below.refl _ _⟩
 | some p =>
  have b0 := J0.ibuf_made w (Nat.le_refl _)
  have l0 := K0.below_new w (.cells #[] 3)
  have r0 := hR.below l0
  clear hR
  go_enter Tryz.func128, Tryz.ntmps128
  go_wp2_with (at_builtin; refine Q1.append_rows rfl (.tmp 5) (.tmp 6) rfl b0 _ _ zs (by rfl) (by rfl) r0 (by omega) l0.size ?_; intro a1 c1 w1 b1 l1)
  go_ret
  exact ⟨a1, c1, by simp, by simpa using b1.own, l0.trans l1⟩
end Go.Proofs.YtljnkicgahepfaaGreatDoor.LF
namespace Go.Proofs.YtljnkicgahepfaaGreatDoor.LG
open Go.ChangeShapes Go.WideShapes Go.ChangeAt Go.RowKit
open N0 (Ln)
open N1 (Sl val vals Lists LB lb_new)
open N4 (at3 Cp)
open Z0 (dat Kp kval kvals)
open Z1 (tot tot_one)
open Z2 (Pl pls Cps Mk)
open LF (Wr Btw OwnIn)
variable {g hi : Nat} {ds : List Ln} {P : Nat → Pl} {L : List Value} {w W W' : World}
structure Sh (g hi : Nat) (ds : List Ln) (P : Nat → Pl) (L : List Value) (W : World) : Prop where
 len : L.length = ds.length * 8
 blk : K0.Blk g L W
 lt : g < hi
 s4 : ∀ j, j < ds.length → L[j * 8 + 4]? = some (.slice (some ⟨(P j).g1, 0, none⟩) (dat ds j).pg.length (dat ds j).pg.length)
 s6 : ∀ j, j < ds.length → L[j * 8 + 6]? = some (.slice (some ⟨(P j).g2, 0, none⟩) (dat ds j).po.length (dat ds j).po.length)
 s7 : ∀ j, j < ds.length → L[j * 8 + 7]? = some (.slice (some ⟨(P j).g3, 0, none⟩) (dat ds j).fr.length (dat ds j).fr.length)
 w1 : ∀ j, j < ds.length → g < (P j).g1 ∧ (P j).g1 < hi ∧ Wr (P j).g1 (dat ds j).pg.length W
 w2 : ∀ j, j < ds.length → g < (P j).g2 ∧ (P j).g2 < hi ∧ Wr (P j).g2 (dat ds j).po.length W
 w3 : ∀ j, j < ds.length → g < (P j).g3 ∧ (P j).g3 < hi ∧ Wr (P j).g3 (dat ds j).fr.length W
theorem Sh.btw {lo hi' : Nat} (h : Sh g hi ds P L W) (hb : Btw lo hi' W W') (hx : g < lo) : Sh g hi ds P L W' :=
 ⟨h.len, LF.blk_btw h.blk hb (Or.inl hx), h.lt, h.s4, h.s6, h.s7, fun j hj => ⟨(h.w1 j hj).1, (h.w1 j hj).2.1, hb.wr _ _ (h.w1 j hj).2.2⟩, fun j hj => ⟨(h.w2 j hj).1, (h.w2 j hj).2.1, hb.wr _ _ (h.w2 j hj).2.2⟩, fun j hj => ⟨(h.w3 j hj).1, (h.w3 j hj).2.1, hb.wr _ _ (h.w3 j hj).2.2⟩⟩
theorem Sh.below (h : Sh g hi ds P L W) (hb : Below W.heap.size W W') : Sh g hi ds P L W' := h.btw (lo := g + 1) (hi' := hi) (Btw.ofBelow hb) (Nat.lt_succ_self _)
theorem Sh.set (h : Sh g hi ds P L W) {o k r : Nat} (ho : o = k * 8 + r) (hr : r < 4 ∨ r = 5) (v : Value) : Sh g hi ds P (L.set o v) (W.setCell ⟨g, o, none⟩ v) := by
 subst ho
 refine ⟨by rw [List.length_set]; exact h.len, h.blk.set _ v, h.lt, fun j hj => ?_, fun j hj => ?_, fun j hj => ?_, fun j hj => ⟨(h.w1 j hj).1, (h.w1 j hj).2.1, LF.wr_set (h.w1 j hj).2.2 _ _⟩, fun j hj => ⟨(h.w2 j hj).1, (h.w2 j hj).2.1, LF.wr_set (h.w2 j hj).2.2 _ _⟩, fun j hj => ⟨(h.w3 j hj).1, (h.w3 j hj).2.1, LF.wr_set (h.w3 j hj).2.2 _ _⟩⟩
 ·rw [List.getElem?_set_ne (by omega)]
  exact h.s4 j hj
 ·rw [List.getElem?_set_ne (by omega)]
  exact h.s6 j hj
 ·rw [List.getElem?_set_ne (by omega)]
  exact h.s7 j hj
theorem Sh.old (h : Sh g hi ds P L W) {o : Nat} (ho : o < ds.length * 8) : (∃ v, W.cell? ⟨g, o, none⟩ = some v) ∧ W.frozen? ⟨g, o, none⟩ = false :=
 ⟨⟨_, h.blk.cell o (by rw [h.len]; exact ho)⟩, h.blk.free o (by rw [h.len]; exact ho)⟩
theorem Sh.c4 (h : Sh g hi ds P L W) {j : Nat} (hj : j < ds.length) : W.cell? ⟨g, j * 8 + 4, none⟩ = some (.slice (some ⟨(P j).g1, 0, none⟩) (dat ds j).pg.length (dat ds j).pg.length) := Z2.blk_get h.blk (h.s4 j hj)
theorem Sh.c6 (h : Sh g hi ds P L W) {j : Nat} (hj : j < ds.length) : W.cell? ⟨g, j * 8 + 6, none⟩ = some (.slice (some ⟨(P j).g2, 0, none⟩) (dat ds j).po.length (dat ds j).po.length) := Z2.blk_get h.blk (h.s6 j hj)
theorem Sh.c7 (h : Sh g hi ds P L W) {j : Nat} (hj : j < ds.length) : W.cell? ⟨g, j * 8 + 7, none⟩ = some (.slice (some ⟨(P j).g3, 0, none⟩) (dat ds j).fr.length (dat ds j).fr.length) := Z2.blk_get h.blk (h.s7 j hj)
end Go.Proofs.YtljnkicgahepfaaGreatDoor.LG
namespace Go.Proofs.YtljnkicgahepfaaGreatDoor.LH
open Go.ChangeShapes Go.WideShapes Go.ChangeAt Go.RowKit
open N0 (Ln)
open N1 (Sl val vals Lists LB lb_new)
open N4 (at3 Cp)
open Z0 (dat Kp kval kvals)
open Z2 (Pl pls Cps Mk)
open LF (Wr Btw OwnIn)
open LG (Sh)
open J0 (IBuf Own)
variable {g hi : Nat} {ds : List Ln} {P : Nat → Pl} {L : List Value} {w W W' : World} {d : Ln} {s : Sl}
structure HL (lo m1 m2 hi : Nat) (s : Sl) (z1 z2 z3 : List Int) (W : World) : Prop where
 p1 : OwnIn lo m1 W s.a1 z1
 p2 : OwnIn m1 m2 W s.a2 z2
 p3 : OwnIn m2 hi W s.a3 z3
 le : lo ≤ m1 ∧ m1 ≤ m2 ∧ m2 ≤ hi
variable {lo m1 m2 lo' hi' : Nat} {z1 z2 z3 : List Int}
theorem HL.below (h : HL lo m1 m2 hi s z1 z2 z3 W) (hb : Below W.heap.size W W') : HL lo m1 m2 hi s z1 z2 z3 W' := ⟨h.p1.below hb, h.p2.below hb, h.p3.below hb, h.le⟩
theorem HL.btw (h : HL lo m1 m2 hi s z1 z2 z3 W) (hb : Btw lo' hi' W W') (hx : hi ≤ lo' ∨ hi' ≤ lo) : HL lo m1 m2 hi s z1 z2 z3 W' :=
 ⟨h.p1.btw hb (by have := h.le; omega), h.p2.btw hb (by have := h.le; omega), h.p3.btw hb (by have := h.le; omega), h.le⟩
theorem HL.lists (h : HL lo m1 m2 hi s d.pg d.po d.fr W) : Lists W d s := ⟨h.p1.row, h.p2.row, h.p3.row⟩
abbrev lob (d : Ln) (s : Sl) : Obj := .cells #[.int .i64 d.ino, .int .i64 d.cl, .int .i64 d.un, .string d.rc, .slice s.a1 d.pg.length s.c1, .string d.sav, .slice s.a2 d.po.length s.c2, .slice s.a3 d.fr.length s.c3] 66
end Go.Proofs.YtljnkicgahepfaaGreatDoor.LH
