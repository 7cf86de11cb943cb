/- Joined texts: plain facts and contracts. -/
import Derived.Test.YtljnkicgahepfaaGreatDoorJlZH
import Derived.Test.YtljnkicgahepfaaGreatDoorJlY
import Derived.Test.YtljnkicgahepfaaGreatDoorJlZ
import Derived.Test.YtljnkicgahepfaaGreatDoorJlG
import Derived.Test.YtljnkicgahepfaaGreatDoorJlA
set_option linter.unusedVariables false
set_option linter.unusedSimpArgs false
set_option maxRecDepth 10000
namespace Go.Proofs.YtljnkicgahepfaaGreatDoor.KI
open Go.ChangeShapes Go.WideShapes Go.ChangeAt Go.RowKit
open N0 (Ln)
open N1 (Sl Lists Fit LB)
open Z0 (dat Kp Lns kval)
open Z4 (Bk bk_new truth)
open KO (gath Out)
open KP (once)
open KQ (layS)
open US (used)
open TW (sound)
open KV (fin)
def hAt (k : Kp) (j : Nat) : Bool := KH.has (truth k) (used (truth k)) (fin (truth k)) (dat k.ds j)
abbrev ginos (ds : List Ln) : List Int := gath (fun d : Ln => [d.ino]) ds ds.length
abbrev gfr (ds : List Ln) : List Int := gath (fun d : Ln => d.fr) ds ds.length
abbrev gpo (ds : List Ln) : List Int := gath (fun d : Ln => d.po) ds ds.length
def lasts (k : Kp) : Bool := k.mem.toList == (layS k.mem k.dur k.ds k.ds.length).toList
def iK (k : Kp) : Bool := D1.ok k.mem k.dur && (!decide (k.ck < 0) && (!decide (999999 < k.ck) && (N0.asc (ginos k.ds) && (sound (truth k) && (N0.to (hAt k) k.ds.length && (once (ginos k.ds ++ gfr k.ds) && (once (gpo k.ds) && lasts k)))))))
theorem gath_le (f : Ln → List Int) (ds : List Ln) (b n : Nat) (h : ∀ j, j < n → (f (dat ds j)).length ≤ b) : ∀ k, k ≤ n → (gath f ds k).length ≤ k * b
 | 0, _ => by simp [gath]
 | k + 1, hk => by
  have h1 := gath_le f ds b n h k (by omega)
  have h2 := h k (by omega)
  rw [gath, List.length_append, Nat.succ_mul]
  omega
theorem gi_len (ds : List Ln) : ∀ k, (gath (fun d : Ln => [d.ino]) ds k).length = k
 | 0 => rfl
 | k + 1 => by rw [gath, List.length_append, gi_len ds k]; rfl
theorem gi_get (ds : List Ln) : ∀ k i, i < k → (gath (fun d : Ln => [d.ino]) ds k).getD i 0 = (dat ds i).ino
 | 0, i, h => by omega
 | k + 1, i, h => by
  rw [gath]
  have hl := gi_len ds k
  by_cases hi : i < k
  ·have h1 := gi_get ds k i hi
   rw [List.getD_eq_getElem?_getD] at h1 ⊢
   rw [List.getElem?_append_left (by omega)]
   exact h1
  ·obtain rfl : i = k := by omega
   rw [List.getD_eq_getElem?_getD, List.getElem?_append_right (by omega), hl]
   simp
theorem asc_up {zs : List Int} (h : N0.asc zs = true) (h0 : ∀ i, i < zs.length → 0 ≤ zs.getD i 0) : ∀ i, i < zs.length → (i : Int) ≤ zs.getD i 0
 | 0, hi => h0 0 hi
 | i + 1, hi => by
  have h1 := asc_up h h0 i (by omega)
  have h2 := N0.to_iff.1 h (i + 1) hi
  simp only [N0.ascAt, Bool.or_eq_true, decide_eq_true_eq, Nat.add_sub_cancel] at h2
  omega
theorem few {k : Kp} (h1 : N0.asc (ginos k.ds) = true) (h2 : N0.to (hAt k) k.ds.length = true) : k.ds.length ≤ 8 ∧ ∀ j, j < k.ds.length → N0.loanOk (dat k.ds j) = true := by
 have hok : ∀ j, j < k.ds.length → N0.loanOk (dat k.ds j) = true := fun j hj => by
  have h := N0.to_iff.1 h2 j hj
  simp only [hAt, KH.has, Bool.and_eq_true] at h
  exact h.1
 refine ⟨?_, hok⟩
 have hl := gi_len k.ds k.ds.length
 have hio : ∀ i, i < k.ds.length → 0 ≤ (dat k.ds i).ino ∧ (dat k.ds i).ino ≤ 7 := fun i hi => (N0.loanOk_is (hok i hi)).2.2.2.2.1
 by_cases h : k.ds.length ≤ 8
 ·exact h
 ·have h3 := asc_up h1 (fun i hi => by
   have hi' : i < k.ds.length := by rw [← hl]; exact hi
   show 0 ≤ (gath (fun d : Ln => [d.ino]) k.ds k.ds.length).getD i 0
   rw [gi_get k.ds k.ds.length i hi']
   exact (hio i hi').1) 8 (by show 8 < (gath (fun d : Ln => [d.ino]) k.ds k.ds.length).length; omega)
  have h4 := (hio 8 (by omega)).2
  have h5 : (ginos k.ds).getD 8 0 = (dat k.ds 8).ino := gi_get k.ds k.ds.length 8 (by omega)
  omega
theorem few_len {k : Kp} (h1 : N0.asc (ginos k.ds) = true) (h2 : N0.to (hAt k) k.ds.length = true) : (ginos k.ds ++ gfr k.ds).length ≤ 1000 ∧ (gpo k.ds).length ≤ 1000 := by
 obtain ⟨h8, hok⟩ := few h1 h2
 have a1 := gi_len k.ds k.ds.length
 have a2 := gath_le (fun d : Ln => d.fr) k.ds 2 k.ds.length (fun j hj => (N0.loanOk_is (hok j hj)).2.2.2.2.2.2.2.2.1) k.ds.length (Nat.le_refl _)
 have a3 := gath_le (fun d : Ln => d.po) k.ds 4 k.ds.length (fun j hj => (N0.loanOk_is (hok j hj)).2.2.2.2.2.2.2.1) k.ds.length (Nat.le_refl _)
 refine ⟨?_, by show (gath (fun d : Ln => d.po) k.ds k.ds.length).length ≤ 1000; omega⟩
 rw [List.length_append]
 show (gath (fun d : Ln => [d.ino]) k.ds k.ds.length).length + (gath (fun d : Ln => d.fr) k.ds k.ds.length).length ≤ 1000
 omega
set_option maxHeartbeats 8000000 in
theorem impl_KeeperOk (k : Kp) (a : Option Addr) (c : Nat) (ss : Nat → Sl) (w : World) (hm1 : k.mem.size ≤ 1048576) (hm2 : k.dur.size ≤ 1048576) (ht : k.ds.length + Z1.tot k.ds k.ds.length ≤ 1048576) (hF : Z4.Fits k.ds ss) (hR : Lns w a k.ds ss) :
  Calls Tryz.prog 14 #[kval k a c] w fun e w' => e = .returned (.bool (iK k)) ∧ Below w.heap.size w w' := by
 have xc := bk_new w k a c
 have hn : k.ds.length ≤ 1048576 := by omega
 have hgi : (ginos k.ds).length ≤ 1048576 := by
  have h1 := gi_len k.ds k.ds.length
  show (gath (fun d : Ln => [d.ino]) k.ds k.ds.length).length ≤ 1048576
  omega
 have hgf : (gfr k.ds).length ≤ 1048576 := by
  have h1 := KO.gath_len (fun d : Ln => d.fr) k.ds 0 (fun d => by unfold N3.total; omega) k.ds.length
  show (gath (fun d : Ln => d.fr) k.ds k.ds.length).length ≤ 1048576
  omega
 have HL : Hid (∀ W, Below w.heap.size w W → Lns W a k.ds ss) := fun W hb => hR.below hb
 have HIn : Hid (∀ W, Below w.heap.size w W → Calls Tryz.prog 52 #[.slice a k.ds.length c] W fun e w' => ∃ a c, e = .returned (.slice a (ginos k.ds).length c) ∧ P0.Row w' a (ginos k.ds) ∧ Below W.heap.size W w') := fun W hb => (KO.lentInos a c k.ds ss W hn ht (hR.below hb)).mono fun e w' ⟨a, c, he, ho, _, hb⟩ => ⟨a, c, he, ho.row, hb⟩
 have HFr : Hid (∀ W, Below w.heap.size w W → Calls Tryz.prog 59 #[.slice a k.ds.length c] W fun e w' => ∃ a c, e = .returned (.slice a (gfr k.ds).length c) ∧ P0.Row w' a (gfr k.ds) ∧ Below W.heap.size W w') := fun W hb => (KO.lentFresh a c k.ds ss W hn ht (hR.below hb)).mono fun e w' ⟨a, c, he, ho, _, hb⟩ => ⟨a, c, he, ho.row, hb⟩
 have HPo : Hid (∀ W, Below w.heap.size w W → Calls Tryz.prog 60 #[.slice a k.ds.length c] W fun e w' => ∃ a c, e = .returned (.slice a (gpo k.ds).length c) ∧ P0.Row w' a (gpo k.ds) ∧ Below W.heap.size W w') := fun W hb => (KO.lentPool a c k.ds ss W hn ht (hR.below hb)).mono fun e w' ⟨a, c, he, ho, _, hb⟩ => ⟨a, c, he, ho.row, hb⟩
 have HDv : Hid (∀ W, Calls Tryz.prog 53 #[.agg #[.string k.mem, .string k.dur]] W fun e w' => e = .returned (.bool (D1.ok k.mem k.dur)) ∧ Below W.heap.size W w') := fun W => (D1.impl_DevOk k.mem k.dur W (by unfold maxLen; omega) (by unfold maxLen; omega)).mono fun e w' ⟨he, hw⟩ => ⟨he, by rw [hw]; exact K0.below_new _ _⟩
 have HAs : Hid (∀ a c W, P0.Row W a (ginos k.ds) → Calls Tryz.prog 54 #[.slice a (ginos k.ds).length c] W fun e w' => e = .returned (.bool (N0.asc (ginos k.ds))) ∧ ∃ n, w' = W.drewN n) := fun a c W h => N2.ascends a c _ W (by omega) h
 have HVi : Hid (∀ W, Below w.heap.size w W → Calls Tryz.prog 55 #[kval k a c] W (KV.Ans k W)) := fun W hb => KV.viewOf k a c ss W (by omega) hn hF (hR.below hb)
 have HAn : Hid (∀ W e w', KV.Ans k W e w' → ∃ x a1 n1 c1 a2 n2 c2, e = .returned (.tuple #[.agg #[.string x, .slice a1 n1 c1, .slice a2 n2 c2], .bool (sound (truth k))]) ∧ Below W.heap.size W w' ∧ (sound (truth k) = true → x = truth k ∧ n1 = (used (truth k)).length ∧ n2 = (fin (truth k)).length ∧ P0.Row w' a1 (used (truth k)) ∧ P0.Row w' a2 (fin (truth k)))) := fun W e w' h => h
 have HHa : Hid (∀ (j : Nat) (a1 a2 : Option Addr) (c1 c2 : Nat) W, (truth k).size = 768 → Below w.heap.size w W → P0.Row W a1 (used (truth k)) → P0.Row W a2 (fin (truth k)) → j < k.ds.length → Calls Tryz.prog 56 #[.agg #[.string (truth k), .slice a1 (used (truth k)).length c1, .slice a2 (fin (truth k)).length c2], N1.val (dat k.ds j) (ss j)] W fun e w' => e = .returned (.bool (hAt k j)) ∧ Below W.heap.size W w') := fun j a1 a2 c1 c2 W h1 hb r1 r2 hj => by
  obtain ⟨f1, f2, f3⟩ := hF j hj
  have hfl := KV.files_len (truth k)
  exact KH.view_has (truth k) a1 a2 c1 c2 (used (truth k)) (fin (truth k)) (dat k.ds j) (ss j) W h1 f1 f2 f3 (US.used_len _) (by rw [KV.fin_len]; omega) ((hR.below hb).sub j hj) r1 r2
 have HCo : Hid (∀ (ia fa : Option Addr) (ic fc : Nat) W, P0.Row W ia (ginos k.ds) → P0.Row W fa (gfr k.ds) → Calls Tryz.prog 58 #[.slice (some ⟨W.heap.size, 0, none⟩) 2 2] (W.alloc (.cells #[.slice ia (ginos k.ds).length ic, .slice fa (gfr k.ds).length fc] 29)) fun e w' => ∃ a c, e = .returned (.slice a (ginos k.ds ++ gfr k.ds).length c) ∧ P0.Row w' a (ginos k.ds ++ gfr k.ds) ∧ Below W.heap.size W w') := fun ia fa ic fc W r1 r2 => by
  have nb := K0.below_new W (.cells #[.slice ia (ginos k.ds).length ic, .slice fa (gfr k.ds).length fc] 29)
  have bk := K0.blk_new [.slice ia (ginos k.ds).length ic, .slice fa (gfr k.ds).length fc] W 29
  exact (Q1.concat W.heap.size ia fa ic fc (ginos k.ds) (gfr k.ds) _ bk.c0 bk.c1 bk.lt (r1.below nb) (r2.below nb) hgi hgf).mono fun e w' ⟨a, c, he, ho, _, hb⟩ => ⟨a, c, he, ho.row, nb.trans (hb.mono nb.size)⟩
 have HA1 : Hid (N0.asc (ginos k.ds) = true → N0.to (hAt k) k.ds.length = true → ∀ a c W, P0.Row W a (ginos k.ds ++ gfr k.ds) → Calls Tryz.prog 57 #[.slice a (ginos k.ds ++ gfr k.ds).length c] W fun e w' => e = .returned (.bool (once (ginos k.ds ++ gfr k.ds))) ∧ Below W.heap.size W w') := fun h1 h2 a c W h => KP.allApart a c _ W (few_len h1 h2).1 h
 have HA2 : Hid (N0.asc (ginos k.ds) = true → N0.to (hAt k) k.ds.length = true → ∀ a c W, P0.Row W a (gpo k.ds) → Calls Tryz.prog 57 #[.slice a (gpo k.ds).length c] W fun e w' => e = .returned (.bool (once (gpo k.ds))) ∧ Below W.heap.size W w') := fun h1 h2 a c W h => KP.allApart a c _ W (few_len h1 h2).2 h
 have HRe : Hid (D1.ok k.mem k.dur = true → ∀ W, Below w.heap.size w W → Calls Tryz.prog 61 #[kval k a c] W fun e w' => e = .returned (.bool (lasts k)) ∧ Below W.heap.size W w') := fun h W hb => KQ.restLasts k a c ss W (D1.ok_true h).1 (D1.ok_true h).2 hn hF (hR.below hb)
 have HD : Hid (D1.ok k.mem k.dur = true → (truth k).size = 768) := fun h => by rw [show (truth k).size = k.mem.size from Z4.unAll_size _ _ _]; exact (D1.ok_true h).1
 have c0 := xc.arg.c0
 have c1 := xc.arg.c1
 have c2 := xc.arg.c2
 have c3 := xc.arg.c3
 clear hR hF
 unfold iK
 obtain ⟨m, em⟩ : ∃ m, truth k = m := ⟨_, rfl⟩
 obtain ⟨us, eu⟩ : ∃ us, used m = us := ⟨_, rfl⟩
 obtain ⟨fs, ef⟩ : ∃ fs, fin m = fs := ⟨_, rfl⟩
 rw [em, eu, ef] at HHa HAn
 rw [em] at HD ⊢
 obtain ⟨gi, egi⟩ : ∃ g, ginos k.ds = g := ⟨_, rfl⟩
 obtain ⟨gf, egf⟩ : ∃ g, gfr k.ds = g := ⟨_, rfl⟩
 obtain ⟨gp, egp⟩ : ∃ g, gpo k.ds = g := ⟨_, rfl⟩
 rw [egi] at HIn HAs HCo HA1 HA2 ⊢
 rw [egf] at HFr HCo HA1 ⊢
 rw [egp] at HPo HA2 ⊢
 obtain ⟨gq, egq⟩ : ∃ g, gi ++ gf = g := ⟨_, rfl⟩
 rw [egq] at HCo HA1 ⊢
 clear em eu ef egi egf egp egq hgi hgf
 cases hc0 : D1.ok k.mem k.dur with
 | false =>
  rw [hc0] at HDv
  go_enter Tryz.func14, Tryz.ntmps14
  go_wp2_with (first
   | (go_at_call 52; refine (HIn.out _ xc.bel).mono ?_; rintro e w1 ⟨ia, ic, rfl, ir, b1⟩; replace xc := xc.below b1; replace c0 := xc.arg.c0; replace c1 := xc.arg.c1; replace c2 := xc.arg.c2; replace c3 := xc.arg.c3)
   | (go_at_call 53; refine (HDv.out _).mono ?_; rintro e w1 ⟨rfl, b1⟩; replace xc := xc.below b1; replace c0 := xc.arg.c0; replace c1 := xc.arg.c1; replace c2 := xc.arg.c2; replace c3 := xc.arg.c3; replace ir := ir.below b1)
   | (go_at_call 54; refine (HAs.out _ _ _ ir).mono ?_; rintro e w1 ⟨rfl, n1, rfl⟩; replace xc := xc.below (K0.below_drewN (Below.refl _ _) n1); replace c0 := xc.arg.c0; replace c1 := xc.arg.c1; replace c2 := xc.arg.c2; replace c3 := xc.arg.c3; replace ir := ir.below (K0.below_drewN (Below.refl _ _) n1))
   | (go_at_call 55; refine (HVi.out _ xc.bel).mono ?_; intro e w1 hans; obtain ⟨vx, va1, vn1, vc1, va2, vn2, vc2, rfl, b1, hy⟩ := HAn.out _ _ _ hans; clear hans; have HY : Hid _ := hy; clear hy; replace xc := xc.below b1; replace c0 := xc.arg.c0; replace c1 := xc.arg.c1; replace c2 := xc.arg.c2; replace c3 := xc.arg.c3; replace ir := ir.below b1))
  go_ret
  exact ⟨rfl, xc.bel⟩
 | true =>
  have hm : m.size = 768 := HD.out hc0
  replace HRe : Hid (∀ W, Below w.heap.size w W → Calls Tryz.prog 61 #[kval k a c] W fun e w' => e = .returned (.bool (lasts k)) ∧ Below W.heap.size W w') := HRe.out hc0
  rw [hc0] at HDv
  by_cases hq4 : k.ck < 0
  ·rw [decide_eq_true hq4]
   go_enter Tryz.func14, Tryz.ntmps14
   go_wp2_with (first
    | (go_at_call 52; refine (HIn.out _ xc.bel).mono ?_; rintro e w1 ⟨ia, ic, rfl, ir, b1⟩; replace xc := xc.below b1; replace c0 := xc.arg.c0; replace c1 := xc.arg.c1; replace c2 := xc.arg.c2; replace c3 := xc.arg.c3)
    | (go_at_call 53; refine (HDv.out _).mono ?_; rintro e w1 ⟨rfl, b1⟩; replace xc := xc.below b1; replace c0 := xc.arg.c0; replace c1 := xc.arg.c1; replace c2 := xc.arg.c2; replace c3 := xc.arg.c3; replace ir := ir.below b1)
    | (go_at_call 54; refine (HAs.out _ _ _ ir).mono ?_; rintro e w1 ⟨rfl, n1, rfl⟩; replace xc := xc.below (K0.below_drewN (Below.refl _ _) n1); replace c0 := xc.arg.c0; replace c1 := xc.arg.c1; replace c2 := xc.arg.c2; replace c3 := xc.arg.c3; replace ir := ir.below (K0.below_drewN (Below.refl _ _) n1))
    | (go_at_call 55; refine (HVi.out _ xc.bel).mono ?_; intro e w1 hans; obtain ⟨vx, va1, vn1, vc1, va2, vn2, vc2, rfl, b1, hy⟩ := HAn.out _ _ _ hans; clear hans; have HY : Hid _ := hy; clear hy; replace xc := xc.below b1; replace c0 := xc.arg.c0; replace c1 := xc.arg.c1; replace c2 := xc.arg.c2; replace c3 := xc.arg.c3; replace ir := ir.below b1))
   go_ret
   exact ⟨rfl, xc.bel⟩
  ·rw [decide_eq_false hq4]
   have hr4 : decide (k.ck < 0) = false := decide_eq_false hq4
   by_cases hq6 : 999999 < k.ck
   ·rw [decide_eq_true hq6]
    go_enter Tryz.func14, Tryz.ntmps14
    go_wp2_with (first
     | (go_at_call 52; refine (HIn.out _ xc.bel).mono ?_; rintro e w1 ⟨ia, ic, rfl, ir, b1⟩; replace xc := xc.below b1; replace c0 := xc.arg.c0; replace c1 := xc.arg.c1; replace c2 := xc.arg.c2; replace c3 := xc.arg.c3)
     | (go_at_call 53; refine (HDv.out _).mono ?_; rintro e w1 ⟨rfl, b1⟩; replace xc := xc.below b1; replace c0 := xc.arg.c0; replace c1 := xc.arg.c1; replace c2 := xc.arg.c2; replace c3 := xc.arg.c3; replace ir := ir.below b1)
     | (go_at_call 54; refine (HAs.out _ _ _ ir).mono ?_; rintro e w1 ⟨rfl, n1, rfl⟩; replace xc := xc.below (K0.below_drewN (Below.refl _ _) n1); replace c0 := xc.arg.c0; replace c1 := xc.arg.c1; replace c2 := xc.arg.c2; replace c3 := xc.arg.c3; replace ir := ir.below (K0.below_drewN (Below.refl _ _) n1))
     | (go_at_call 55; refine (HVi.out _ xc.bel).mono ?_; intro e w1 hans; obtain ⟨vx, va1, vn1, vc1, va2, vn2, vc2, rfl, b1, hy⟩ := HAn.out _ _ _ hans; clear hans; have HY : Hid _ := hy; clear hy; replace xc := xc.below b1; replace c0 := xc.arg.c0; replace c1 := xc.arg.c1; replace c2 := xc.arg.c2; replace c3 := xc.arg.c3; replace ir := ir.below b1))
    go_ret
    exact ⟨rfl, xc.bel⟩
   ·rw [decide_eq_false hq6]
    have hr6 : decide (999999 < k.ck) = false := decide_eq_false hq6
    cases hc3 : N0.asc gi with
    | false =>
     rw [hc3] at HAs
     go_enter Tryz.func14, Tryz.ntmps14
     go_wp2_with (first
      | (go_at_call 52; refine (HIn.out _ xc.bel).mono ?_; rintro e w1 ⟨ia, ic, rfl, ir, b1⟩; replace xc := xc.below b1; replace c0 := xc.arg.c0; replace c1 := xc.arg.c1; replace c2 := xc.arg.c2; replace c3 := xc.arg.c3)
      | (go_at_call 53; refine (HDv.out _).mono ?_; rintro e w1 ⟨rfl, b1⟩; replace xc := xc.below b1; replace c0 := xc.arg.c0; replace c1 := xc.arg.c1; replace c2 := xc.arg.c2; replace c3 := xc.arg.c3; replace ir := ir.below b1)
      | (go_at_call 54; refine (HAs.out _ _ _ ir).mono ?_; rintro e w1 ⟨rfl, n1, rfl⟩; replace xc := xc.below (K0.below_drewN (Below.refl _ _) n1); replace c0 := xc.arg.c0; replace c1 := xc.arg.c1; replace c2 := xc.arg.c2; replace c3 := xc.arg.c3; replace ir := ir.below (K0.below_drewN (Below.refl _ _) n1))
      | (go_at_call 55; refine (HVi.out _ xc.bel).mono ?_; intro e w1 hans; obtain ⟨vx, va1, vn1, vc1, va2, vn2, vc2, rfl, b1, hy⟩ := HAn.out _ _ _ hans; clear hans; have HY : Hid _ := hy; clear hy; replace xc := xc.below b1; replace c0 := xc.arg.c0; replace c1 := xc.arg.c1; replace c2 := xc.arg.c2; replace c3 := xc.arg.c3; replace ir := ir.below b1))
     go_ret
     exact ⟨rfl, xc.bel⟩
    | true =>
     replace HA1 := HA1.out hc3
     replace HA2 := HA2.out hc3
     have HA1 : Hid _ := HA1
     have HA2 : Hid _ := HA2
     rw [hc3] at HAs
     cases hc4 : sound m with
     | false =>
      rw [hc4] at HAn
      go_enter Tryz.func14, Tryz.ntmps14
      go_wp2_with (first
       | (go_at_call 52; refine (HIn.out _ xc.bel).mono ?_; rintro e w1 ⟨ia, ic, rfl, ir, b1⟩; replace xc := xc.below b1; replace c0 := xc.arg.c0; replace c1 := xc.arg.c1; replace c2 := xc.arg.c2; replace c3 := xc.arg.c3)
       | (go_at_call 53; refine (HDv.out _).mono ?_; rintro e w1 ⟨rfl, b1⟩; replace xc := xc.below b1; replace c0 := xc.arg.c0; replace c1 := xc.arg.c1; replace c2 := xc.arg.c2; replace c3 := xc.arg.c3; replace ir := ir.below b1)
       | (go_at_call 54; refine (HAs.out _ _ _ ir).mono ?_; rintro e w1 ⟨rfl, n1, rfl⟩; replace xc := xc.below (K0.below_drewN (Below.refl _ _) n1); replace c0 := xc.arg.c0; replace c1 := xc.arg.c1; replace c2 := xc.arg.c2; replace c3 := xc.arg.c3; replace ir := ir.below (K0.below_drewN (Below.refl _ _) n1))
       | (go_at_call 55; refine (HVi.out _ xc.bel).mono ?_; intro e w1 hans; obtain ⟨vx, va1, vn1, vc1, va2, vn2, vc2, rfl, b1, hy⟩ := HAn.out _ _ _ hans; clear hans; have HY : Hid _ := hy; clear hy; replace xc := xc.below b1; replace c0 := xc.arg.c0; replace c1 := xc.arg.c1; replace c2 := xc.arg.c2; replace c3 := xc.arg.c3; replace ir := ir.below b1))
      go_ret
      exact ⟨rfl, xc.bel.alloc xc.bel.size _⟩
     | true =>
      rw [hc4] at HAn
      go_enter Tryz.func14, Tryz.ntmps14
      go_wp2_with (first
       | (go_at_call 52; refine (HIn.out _ xc.bel).mono ?_; rintro e w1 ⟨ia, ic, rfl, ir, b1⟩; replace xc := xc.below b1; replace c0 := xc.arg.c0; replace c1 := xc.arg.c1; replace c2 := xc.arg.c2; replace c3 := xc.arg.c3)
       | (go_at_call 53; refine (HDv.out _).mono ?_; rintro e w1 ⟨rfl, b1⟩; replace xc := xc.below b1; replace c0 := xc.arg.c0; replace c1 := xc.arg.c1; replace c2 := xc.arg.c2; replace c3 := xc.arg.c3; replace ir := ir.below b1)
       | (go_at_call 54; refine (HAs.out _ _ _ ir).mono ?_; rintro e w1 ⟨rfl, n1, rfl⟩; replace xc := xc.below (K0.below_drewN (Below.refl _ _) n1); replace c0 := xc.arg.c0; replace c1 := xc.arg.c1; replace c2 := xc.arg.c2; replace c3 := xc.arg.c3; replace ir := ir.below (K0.below_drewN (Below.refl _ _) n1))
       | (go_at_call 55; refine (HVi.out _ xc.bel).mono ?_; intro e w1 hans; obtain ⟨vx, va1, vn1, vc1, va2, vn2, vc2, rfl, b1, hy⟩ := HAn.out _ _ _ hans; clear hans; obtain ⟨vq1, vq2, vq3, vr1, vr2⟩ := hy (by trivial); clear hy; subst vq1; subst vq2; subst vq3; replace xc := xc.below b1; replace c0 := xc.arg.c0; replace c1 := xc.arg.c1; replace c2 := xc.arg.c2; replace c3 := xc.arg.c3; replace ir := ir.below b1; have nb := K0.below_new w1 (.cells #[.string vx, .slice va1 us.length vc1, .slice va2 fs.length vc2] 79); have vb := K0.blk_new [.string vx, .slice va1 us.length vc1, .slice va2 fs.length vc2] w1 79; have xd := xc.below nb; have cd2 := xd.arg.c2))
      have rd1 := vr1.below nb
      have rd2 := vr2.below nb
      have ird := ir.below nb
      obtain ⟨VB, hVB⟩ : ∃ VB, w1.heap.size = VB := ⟨_, rfl⟩
      rw [hVB] at vb
      try simp only [hVB]
      clear c0 c1 c2 c3 cd2 xc vr1 vr2 ir nb HIn HDv HAs HVi HAn HD hVB
      go_loopw [40] (fun i w' => ∃ j : Nat, j ≤ k.ds.length ∧ N0.to (hAt k) j = true ∧ i = .int .i64 j ∧ Bk w k a c w' ∧ K0.Blk VB [.string vx, .slice va1 us.length vc1, .slice va2 fs.length vc2] w' ∧ P0.Row w' va1 us ∧ P0.Row w' va2 fs ∧ P0.Row w' ia gi) (fun i _ => k.ds.length - (intOf i).toNat)
      case atStart => exact ⟨0, Nat.zero_le _, rfl, rfl, xd, vb, rd1, rd2, ird⟩
      case round =>
       obtain ⟨j, hj, hto, rfl, xr, vbr, rr1, rr2, irr⟩ := hrel
       clear xd vb rd1 rd2 ird
       by_cases hlt : j < k.ds.length
       ·obtain ⟨b, off, hab, hlt0, hc⟩ := (HL.out _ xr.bel).row.get hlt
        obtain ⟨y0, y1, y2, y3, y4, y5, y6, y7⟩ := hc j hlt
        have HC : Hid (∀ W, Below w.heap.size w W → P0.Row W va1 us → P0.Row W va2 fs → Calls Tryz.prog 56 #[.agg #[.string vx, .slice va1 us.length vc1, .slice va2 fs.length vc2], N1.val (dat k.ds j) (ss j)] W fun e w' => e = .returned (.bool (hAt k j)) ∧ Below W.heap.size W w') := fun W h1 h2 h3 => HHa.out j va1 va2 vc1 vc2 W hm h1 h2 h3 hlt
        obtain ⟨d, ed⟩ : ∃ d, dat k.ds j = d := ⟨_, rfl⟩
        obtain ⟨s, es⟩ : ∃ s, ss j = s := ⟨_, rfl⟩
        rw [ed, es] at HC
        rw [ed] at y0 y1 y2 y3 y4 y5 y6 y7
        rw [es] at y4 y6 y7
        have e1 : (0 : Int) ≤ (j : Int) := by omega
        have e2 : (j : Int) < (k.ds.length : Int) := by omega
        have nb := K0.below_new wr (.cells #[.int .i64 d.ino, .int .i64 d.cl, .int .i64 d.un, .string d.rc, .slice s.a1 d.pg.length s.c1, .string d.sav, .slice s.a2 d.po.length s.c2, .slice s.a3 d.fr.length s.c3] 66)
        have bx := N1.lb_new d s wr 66
        have z0 := bx.c0
        have z1 := bx.c1
        have z2 := bx.c2
        have z3 := bx.c3
        have z4 := bx.c4
        have z5 := bx.c5
        have z6 := bx.c6
        have z7 := bx.c7
        have x2 := xr.below nb
        have vb2 := vbr.below nb
        have p1 := rr1.below nb
        have p2 := rr2.below nb
        have p3 := irr.below nb
        have v0 := vb2.c0
        have v1 := vb2.c1
        have v2 := vb2.c2
        subst hab
        clear ed es hc HL HHa
        cases hat : hAt k j with
        | false =>
         rw [hat] at HC
         have HT : Hid (N0.to (hAt k) k.ds.length = false) := N0.to_bad hlt hat
         clear hat
         go_wp2_with (go_at_call 56; refine (HC.out _ x2.bel p1 p2).mono ?_; rintro e w3 ⟨rfl, b3⟩; have x3 := x2.below b3)
         go_ret
         exact ⟨by rw [HT.out]; rfl, x3.bel⟩
        | true =>
         rw [hat] at HC
         have HT : Hid (N0.to (hAt k) (j + 1) = true) := N0.to_step hto hat
         clear hat
         go_wp2_with (go_at_call 56; refine (HC.out _ x2.bel p1 p2).mono ?_; rintro e w3 ⟨rfl, b3⟩; have x3 := x2.below b3; have vb3 := vb2.below b3; have t1 := p1.below b3; have t2 := p2.below b3; have t3 := p3.below b3)
         go_roundw
         case rel => exact ⟨j + 1, by omega, HT.out, by go_num, x3, vb3, t1, t2, t3⟩
         case measure => simp [intOf]; omega
       ·obtain rfl : j = k.ds.length := by omega
        have HT : Hid (N0.to (hAt k) k.ds.length = true) := hto
        replace HA1 : Hid (∀ a c W, P0.Row W a gq → Calls Tryz.prog 57 #[.slice a gq.length c] W fun e w' => e = .returned (.bool (once gq)) ∧ Below W.heap.size W w') := HA1.out hto
        replace HA2 : Hid (∀ a c W, P0.Row W a gp → Calls Tryz.prog 57 #[.slice a gp.length c] W fun e w' => e = .returned (.bool (once gp)) ∧ Below W.heap.size W w') := HA2.out hto
        have xc := xr
        have ir := irr
        have c0 := xc.arg.c0
        have c1 := xc.arg.c1
        have c2 := xc.arg.c2
        have c3 := xc.arg.c3
        clear HL HHa hto rr1 rr2 vbr irr xr
        cases ho1 : once gq
        ·rw [ho1] at HA1
         have HO : Hid (once gq = false) := ho1
         clear ho1
         go_wp2_with (first
          | (go_at_call 59; refine (HFr.out _ xc.bel).mono ?_; rintro e w1 ⟨fa, fc, rfl, fr, b1⟩; replace xc := xc.below b1; replace c0 := xc.arg.c0; replace c1 := xc.arg.c1; replace c2 := xc.arg.c2; replace c3 := xc.arg.c3; replace ir := ir.below b1)
          | (go_at_call 58; refine (HCo.out _ _ _ _ _ ir fr).mono ?_; rintro e w2 ⟨qa, qc, rfl, qr, b2⟩; replace xc := xc.below b2; replace c0 := xc.arg.c0; replace c1 := xc.arg.c1; replace c2 := xc.arg.c2; replace c3 := xc.arg.c3)
          | (go_at_call 57; refine (HA1.out _ _ _ qr).mono ?_; rintro e w3 ⟨rfl, b3⟩; replace xc := xc.below b3; replace c0 := xc.arg.c0; replace c1 := xc.arg.c1; replace c2 := xc.arg.c2; replace c3 := xc.arg.c3; clear HA1)
          | (go_at_call 60; refine (HPo.out _ xc.bel).mono ?_; rintro e w4 ⟨pa, pc, rfl, pr, b4⟩; replace xc := xc.below b4; replace c0 := xc.arg.c0; replace c1 := xc.arg.c1; replace c2 := xc.arg.c2; replace c3 := xc.arg.c3)
          | (go_at_call 57; refine (HA2.out _ _ _ pr).mono ?_; rintro e w5 ⟨rfl, b5⟩; replace xc := xc.below b5; replace c0 := xc.arg.c0; replace c1 := xc.arg.c1; replace c2 := xc.arg.c2; replace c3 := xc.arg.c3)
          | (go_at_call 61; refine (HRe.out _ xc.bel).mono ?_; rintro e w6 ⟨rfl, b6⟩; replace xc := xc.below b6; replace c0 := xc.arg.c0; replace c1 := xc.arg.c1; replace c2 := xc.arg.c2; replace c3 := xc.arg.c3))
         go_ret
         exact ⟨by rw [HT.out, HO.out]; rfl, xc.bel⟩
        ·rw [ho1] at HA1
         cases ho2 : once gp
         ·rw [ho2] at HA2
          have HO : Hid (once gq = true ∧ once gp = false) := ⟨ho1, ho2⟩
          clear ho1 ho2
          go_wp2_with (first
           | (go_at_call 59; refine (HFr.out _ xc.bel).mono ?_; rintro e w1 ⟨fa, fc, rfl, fr, b1⟩; replace xc := xc.below b1; replace c0 := xc.arg.c0; replace c1 := xc.arg.c1; replace c2 := xc.arg.c2; replace c3 := xc.arg.c3; replace ir := ir.below b1)
           | (go_at_call 58; refine (HCo.out _ _ _ _ _ ir fr).mono ?_; rintro e w2 ⟨qa, qc, rfl, qr, b2⟩; replace xc := xc.below b2; replace c0 := xc.arg.c0; replace c1 := xc.arg.c1; replace c2 := xc.arg.c2; replace c3 := xc.arg.c3)
           | (go_at_call 57; refine (HA1.out _ _ _ qr).mono ?_; rintro e w3 ⟨rfl, b3⟩; replace xc := xc.below b3; replace c0 := xc.arg.c0; replace c1 := xc.arg.c1; replace c2 := xc.arg.c2; replace c3 := xc.arg.c3; clear HA1)
           | (go_at_call 60; refine (HPo.out _ xc.bel).mono ?_; rintro e w4 ⟨pa, pc, rfl, pr, b4⟩; replace xc := xc.below b4; replace c0 := xc.arg.c0; replace c1 := xc.arg.c1; replace c2 := xc.arg.c2; replace c3 := xc.arg.c3)
           | (go_at_call 57; refine (HA2.out _ _ _ pr).mono ?_; rintro e w5 ⟨rfl, b5⟩; replace xc := xc.below b5; replace c0 := xc.arg.c0; replace c1 := xc.arg.c1; replace c2 := xc.arg.c2; replace c3 := xc.arg.c3)
           | (go_at_call 61; refine (HRe.out _ xc.bel).mono ?_; rintro e w6 ⟨rfl, b6⟩; replace xc := xc.below b6; replace c0 := xc.arg.c0; replace c1 := xc.arg.c1; replace c2 := xc.arg.c2; replace c3 := xc.arg.c3))
          go_ret
          exact ⟨by rw [HT.out, HO.out.1, HO.out.2]; rfl, xc.bel⟩
         ·rw [ho2] at HA2
          have HO : Hid (once gq = true ∧ once gp = true) := ⟨ho1, ho2⟩
          clear ho1 ho2
          go_wp2_with (first
           | (go_at_call 59; refine (HFr.out _ xc.bel).mono ?_; rintro e w1 ⟨fa, fc, rfl, fr, b1⟩; replace xc := xc.below b1; replace c0 := xc.arg.c0; replace c1 := xc.arg.c1; replace c2 := xc.arg.c2; replace c3 := xc.arg.c3; replace ir := ir.below b1)
           | (go_at_call 58; refine (HCo.out _ _ _ _ _ ir fr).mono ?_; rintro e w2 ⟨qa, qc, rfl, qr, b2⟩; replace xc := xc.below b2; replace c0 := xc.arg.c0; replace c1 := xc.arg.c1; replace c2 := xc.arg.c2; replace c3 := xc.arg.c3)
           | (go_at_call 57; refine (HA1.out _ _ _ qr).mono ?_; rintro e w3 ⟨rfl, b3⟩; replace xc := xc.below b3; replace c0 := xc.arg.c0; replace c1 := xc.arg.c1; replace c2 := xc.arg.c2; replace c3 := xc.arg.c3; clear HA1)
           | (go_at_call 60; refine (HPo.out _ xc.bel).mono ?_; rintro e w4 ⟨pa, pc, rfl, pr, b4⟩; replace xc := xc.below b4; replace c0 := xc.arg.c0; replace c1 := xc.arg.c1; replace c2 := xc.arg.c2; replace c3 := xc.arg.c3)
           | (go_at_call 57; refine (HA2.out _ _ _ pr).mono ?_; rintro e w5 ⟨rfl, b5⟩; replace xc := xc.below b5; replace c0 := xc.arg.c0; replace c1 := xc.arg.c1; replace c2 := xc.arg.c2; replace c3 := xc.arg.c3)
           | (go_at_call 61; refine (HRe.out _ xc.bel).mono ?_; rintro e w6 ⟨rfl, b6⟩; replace xc := xc.below b6; replace c0 := xc.arg.c0; replace c1 := xc.arg.c1; replace c2 := xc.arg.c2; replace c3 := xc.arg.c3))
          go_ret
          exact ⟨by rw [HT.out, HO.out.1, HO.out.2]; rfl, xc.bel⟩
end Go.Proofs.YtljnkicgahepfaaGreatDoor.KI
namespace Go.Proofs.YtljnkicgahepfaaGreatDoor.KX
open Go
open N0 (Ln)
open HP (Rg at_)
open WI (rl)
open Z0 (dat Kp)
open X0 (mix mix_len mix_get)
open F1 (span)
open KQ (lay layN layS layN_size)
open KT (outN outS outN_size outS_size)
def g (x : ByteArray) (j : Nat) : UInt8 := x.data.toList.getD j 0
def cov (r : Rg) (j : Nat) : Bool := decide (r.1 ≤ (j : Int) ∧ (j : Int) < r.1 + r.2)
theorem rl_eight (d : Ln) : ∀ r ∈ rl d, r.1 % 8 = 0 ∧ r.2 % 8 = 0 := by
 unfold rl
 cases h : N0.loanOk d with
 | false => simp
 | true =>
  obtain ⟨-, -, -, -, hi, -, -, -, -, hpp, hfr, -, -⟩ := N0.loanOk_is h
  have hrec : ∀ z : Int, 0 ≤ z → z ≤ 7 → L1.recAt z = 32 + z * 16 := by
   intro z h0 h7
   unfold L1.recAt
   rw [if_pos (N0.inB_iff.2 ⟨h0, h7⟩)]
  intro r hr
  simp only [if_true, List.mem_append, List.mem_map, List.mem_singleton] at hr
  rcases hr with ((hr | ⟨p, hp, hr⟩) | ⟨p, hp, hr⟩) | ⟨f, hf, hr⟩
  ·subst hr
   rw [hrec _ hi.1 hi.2]
   simp
   omega
  ·subst hr
   simp
   omega
  ·subst hr
   simp
   omega
  ·subst hr
   have := hfr f hf
   rw [hrec f (by omega) (by omega)]
   simp
   omega
theorem lay_get (a b : ByteArray) (r : Rg) (j : Nat) (hj : j < 768) (h0 : 0 ≤ r.1) (h1 : 16 ≤ r.2) (h2 : r.1 % 8 = 0) (h3 : r.2 % 8 = 0) : g (lay a b r) j = if cov r j then g a j else g b j := by
 have hsp : span (r.1.toNat / 8) ((r.1.toNat + r.2.toNat - 1) / 8) (j / 8) = cov r j := by
  unfold span cov
  congr 1
  apply propext
  omega
 have h := mix_get a.data.toList b.data.toList (span (r.1.toNat / 8) ((r.1.toNat + r.2.toNat - 1) / 8)) j hj
 rw [hsp] at h
 unfold g lay
 rw [List.getD_eq_getElem?_getD, h]
 rfl
theorem nulls_get (n j : Nat) : (B4.nulls n).data.toList[j]? = if j < n then some 0 else none := by
 unfold B4.nulls
 rw [Array.toList_replicate, List.getElem?_replicate]
theorem laid_get (s : ByteArray) (hs : s.size = 768) (r : Rg) (j : Nat) (hj : j < 768) (h0 : 0 ≤ r.1) (h1 : 16 ≤ r.2) (h2 : r.1 + r.2 ≤ 768) : g (B5.laid s r.1 (B4.zeros r.2)) j = if cov r j then 0 else g s j := by
 obtain ⟨u, hu⟩ : ∃ u : Nat, r.1 = u := ⟨r.1.toNat, by omega⟩
 obtain ⟨v, hv⟩ : ∃ v : Nat, r.2 = v := ⟨r.2.toNat, by omega⟩
 have hz : B4.zeros r.2 = B4.nulls v := by rw [B4.zeros, if_pos (by omega), hv]; rfl
 have hl : B2.lies s.size r.1 (B4.nulls v).size = true := decide_eq_true (by rw [B4.nulls_size, hs]; omega)
 have hsl : s.data.toList.length = 768 := by rw [← hs]; exact (Lib.size_eq s).symm
 rw [hz, B5.laid, hl, if_pos rfl, B4.nulls_size, hu, hs]
 unfold g cov
 rw [hu, hv]
 simp only [List.getD_eq_getElem?_getD, ByteArray.data_append, Array.toList_append, Lib.extract_data, List.getElem?_append, nulls_get, List.getElem?_take, List.getElem?_drop, List.length_take, List.length_drop, hsl, List.length_append]
 rw [show (B4.nulls v).data.toList.length = v by simp [B4.nulls], show ((u : Int)).toNat = u by omega, show ((u : Int) + (v : Int)).toNat = u + v by omega]
 by_cases hc : (u : Int) ≤ (j : Int) ∧ (j : Int) < (u : Int) + (v : Int)
 ·rw [decide_eq_true hc]
  grind
 ·rw [decide_eq_false hc]
  grind
theorem or_if {α : Type} (p q : Bool) (x y : α) : (if p then x else if q then x else y) = if (p || q) then x else y := by cases p <;> cases q <;> rfl
theorem one_cov (a : ByteArray) (rs : List Rg) (hin : ∀ r ∈ rs, 0 ≤ r.1 ∧ 16 ≤ r.2 ∧ r.1 + r.2 ≤ 768) (h8 : ∀ r ∈ rs, r.1 % 8 = 0 ∧ r.2 % 8 = 0) : ∀ k, k ≤ rs.length → ∃ c : Nat → Bool, ∀ j, j < 768 → (∀ b, b.size = 768 → g (layN a b rs k) j = if c j then g a j else g b j) ∧ ∀ x, x.size = 768 → g (outN x rs k) j = if c j then 0 else g x j
 | 0, _ => ⟨fun _ => false, fun j hj => ⟨fun b hb => rfl, fun x hx => rfl⟩⟩
 | k + 1, hk => by
  obtain ⟨c, hc⟩ := one_cov a rs hin h8 k (by omega)
  have hm : at_ rs k ∈ rs := by rw [HP.at_get _ _ (by omega)]; exact List.getElem_mem _
  obtain ⟨i1, i2, i3⟩ := hin _ hm
  obtain ⟨e1, e2⟩ := h8 _ hm
  refine ⟨fun j => cov (at_ rs k) j || c j, fun j hj => ⟨fun b hb => ?_, fun x hx => ?_⟩⟩
  ·rw [layN, lay_get _ _ _ _ hj i1 i2 e1 e2, (hc j hj).1 b hb]
   exact or_if _ _ _ _
  ·rw [outN, laid_get _ (by rw [outN_size]; exact hx) _ _ hj i1 i2 i3, (hc j hj).2 x hx]
   exact or_if _ _ _ _
theorem all_cov (a b : ByteArray) (hb : b.size = 768) (ds : List Ln) : ∀ k, ∃ c : Nat → Bool, ∀ j, j < 768 → g (layS a b ds k) j = (if c j then g a j else g b j) ∧ ∀ x, x.size = 768 → g (outS x ds k) j = if c j then 0 else g x j
 | 0 => ⟨fun _ => false, fun j hj => ⟨rfl, fun x hx => rfl⟩⟩
 | k + 1 => by
  obtain ⟨c, hc⟩ := all_cov a b hb ds k
  obtain ⟨c', hc'⟩ := one_cov a (rl (dat ds k)) (WI.rl_in _) (rl_eight _) (rl (dat ds k)).length (Nat.le_refl _)
  refine ⟨fun j => c' j || c j, fun j hj => ⟨?_, fun x hx => ?_⟩⟩
  ·rw [layS, (hc' j hj).1 _ (KQ.layS_size a b ds hb k), (hc j hj).1]
   exact or_if _ _ _ _
  ·rw [outS, (hc' j hj).2 _ (by rw [outS_size]; exact hx), (hc j hj).2 x hx]
   exact or_if _ _ _ _
theorem same_iff {x y : ByteArray} (hx : x.size = 768) (hy : y.size = 768) : (x.toList == y.toList) = true ↔ ∀ j, j < 768 → g x j = g y j := by
 rw [beq_iff_eq, ByteArray.toList_eq, ByteArray.toList_eq]
 have lx : x.data.toList.length = 768 := by rw [← hx]; exact (Lib.size_eq x).symm
 have ly : y.data.toList.length = 768 := by rw [← hy]; exact (Lib.size_eq y).symm
 constructor
 ·intro h j hj
  unfold g
  rw [h]
 ·intro h
  apply List.ext_getElem?
  intro j
  by_cases hj : j < 768
  ·have := h j hj
   unfold g at this
   rw [X0.get_of lx hj, X0.get_of ly hj, this]
  ·rw [List.getElem?_eq_none (by omega), List.getElem?_eq_none (by omega)]
theorem rest_eq (a b : ByteArray) (ha : a.size = 768) (hb : b.size = 768) (ds : List Ln) (n : Nat) : (a.toList == (layS a b ds n).toList) = ((outS a ds n).toList == (outS b ds n).toList) := by
 obtain ⟨c, hc⟩ := all_cov a b hb ds n
 rw [Bool.eq_iff_iff, same_iff ha (KQ.layS_size a b ds hb n), same_iff (by rw [outS_size]; exact ha) (by rw [outS_size]; exact hb)]
 constructor
 ·intro h j hj
  have h1 := h j hj
  rw [(hc j hj).1] at h1
  rw [(hc j hj).2 a ha, (hc j hj).2 b hb]
  cases hcj : c j with
  | true => rfl
  | false =>
   rw [hcj] at h1
   exact h1
 ·intro h j hj
  have h1 := h j hj
  rw [(hc j hj).2 a ha, (hc j hj).2 b hb] at h1
  rw [(hc j hj).1]
  cases hcj : c j with
  | true => rfl
  | false =>
   rw [hcj] at h1
   exact h1
end Go.Proofs.YtljnkicgahepfaaGreatDoor.KX
