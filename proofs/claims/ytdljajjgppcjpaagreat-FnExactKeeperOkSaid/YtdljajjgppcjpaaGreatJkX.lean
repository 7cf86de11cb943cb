/- Joined texts: plain facts and contracts, as each part says. -/
import Derived.Test.YtdljajjgppcjpaaGreatJkV
import Derived.Test.YtdljajjgppcjpaaGreatJkP
import Derived.Test.YtdljajjgppcjpaaGreatJkQ
import Derived.Test.YtdljajjgppcjpaaGreatJkD
import Derived.Test.YtdljajjgppcjpaaGreatJkA
import Derived.Test.YtdljajjgppcjpaaGreatJkW

/- The contract of impl.KeeperOk, as the given laws call it. -/
namespace Go.Proofs.YtdljajjgppcjpaaGreat.KI
open Go.ChangeShapes Go.WideShapes Go.ChangeAt Go.RowKit
set_option linter.unusedVariables false
set_option linter.unusedSimpArgs false
set_option maxRecDepth 10000

open N0 (Ln)
open N1 (Sl Lists Fit LB)
open Z0 (dat Kp Lns kval)
open Z4 (Bk bk_new truth)
open KO (gath Out)
open KP (once)
open KQ (layS)
open US (used)
open TW (sound)
open KV (fin)

/-- What is asked of the loan at a place. -/
def hAt (k : Kp) (j : Nat) : Bool := KH.has (truth k) (used (truth k)) (fin (truth k)) (dat k.ds j)
abbrev ginos (ds : List Ln) : List Int := gath (fun d : Ln => [d.ino]) ds ds.length
abbrev gfr (ds : List Ln) : List Int := gath (fun d : Ln => d.fr) ds ds.length
abbrev gpo (ds : List Ln) : List Int := gath (fun d : Ln => d.po) ds ds.length
/-- What lasts beside the loans. -/
def lasts (k : Kp) : Bool := k.mem.toList == (layS k.mem k.dur k.ds k.ds.length).toList
/-- A keeper that is right, as the program asks. -/
def iK (k : Kp) : Bool := D1.ok k.mem k.dur && (!decide (k.ck < 0) && (!decide (999999 < k.ck) && (N0.asc (ginos k.ds) && (sound (truth k) && (N0.to (hAt k) k.ds.length && (once (ginos k.ds ++ gfr k.ds) && (once (gpo k.ds) && lasts k)))))))

theorem gath_le (f : Ln → List Int) (ds : List Ln) (b n : Nat) (h : ∀ j, j < n → (f (dat ds j)).length ≤ b) : ∀ k, k ≤ n → (gath f ds k).length ≤ k * b
  | 0, _ => by simp [gath]
  | k + 1, hk => by
    have h1 := gath_le f ds b n h k (by omega)
    have h2 := h k (by omega)
    rw [gath, List.length_append, Nat.succ_mul]
    omega
theorem gi_len (ds : List Ln) : ∀ k, (gath (fun d : Ln => [d.ino]) ds k).length = k
  | 0 => rfl
  | k + 1 => by rw [gath, List.length_append, gi_len ds k]; rfl
theorem gi_get (ds : List Ln) : ∀ k i, i < k → (gath (fun d : Ln => [d.ino]) ds k).getD i 0 = (dat ds i).ino
  | 0, i, h => by omega
  | k + 1, i, h => by
    rw [gath]
    have hl := gi_len ds k
    by_cases hi : i < k
    · have h1 := gi_get ds k i hi
      rw [List.getD_eq_getElem?_getD] at h1 ⊢
      rw [List.getElem?_append_left (by omega)]
      exact h1
    · obtain rfl : i = k := by omega
      rw [List.getD_eq_getElem?_getD, List.getElem?_append_right (by omega), hl]
      simp
theorem asc_up {zs : List Int} (h : N0.asc zs = true) (h0 : ∀ i, i < zs.length → 0 ≤ zs.getD i 0) : ∀ i, i < zs.length → (i : Int) ≤ zs.getD i 0
  | 0, hi => h0 0 hi
  | i + 1, hi => by
    have h1 := asc_up h h0 i (by omega)
    have h2 := N0.to_iff.1 h (i + 1) hi
    simp only [N0.ascAt, Bool.or_eq_true, decide_eq_true_eq, Nat.add_sub_cancel] at h2
    omega
/-- There are few of them. -/
theorem few {k : Kp} (h1 : N0.asc (ginos k.ds) = true) (h2 : N0.to (hAt k) k.ds.length = true) : k.ds.length ≤ 8 ∧ ∀ j, j < k.ds.length → N0.loanOk (dat k.ds j) = true := by
  have hok : ∀ j, j < k.ds.length → N0.loanOk (dat k.ds j) = true := fun j hj => by
    have h := N0.to_iff.1 h2 j hj
    simp only [hAt, KH.has, Bool.and_eq_true] at h
    exact h.1
  refine ⟨?_, hok⟩
  have hl := gi_len k.ds k.ds.length
  have hio : ∀ i, i < k.ds.length → 0 ≤ (dat k.ds i).ino ∧ (dat k.ds i).ino ≤ 7 := fun i hi => (N0.loanOk_is (hok i hi)).2.2.2.2.1
  by_cases h : k.ds.length ≤ 8
  · exact h
  · have h3 := asc_up h1 (fun i hi => by
      have hi' : i < k.ds.length := by rw [← hl]; exact hi
      show 0 ≤ (gath (fun d : Ln => [d.ino]) k.ds k.ds.length).getD i 0
      rw [gi_get k.ds k.ds.length i hi']
      exact (hio i hi').1) 8 (by show 8 < (gath (fun d : Ln => [d.ino]) k.ds k.ds.length).length; omega)
    have h4 := (hio 8 (by omega)).2
    have h5 : (ginos k.ds).getD 8 0 = (dat k.ds 8).ino := gi_get k.ds k.ds.length 8 (by omega)
    omega
theorem few_len {k : Kp} (h1 : N0.asc (ginos k.ds) = true) (h2 : N0.to (hAt k) k.ds.length = true) : (ginos k.ds ++ gfr k.ds).length ≤ 1000 ∧ (gpo k.ds).length ≤ 1000 := by
  obtain ⟨h8, hok⟩ := few h1 h2
  have a1 := gi_len k.ds k.ds.length
  have a2 := gath_le (fun d : Ln => d.fr) k.ds 2 k.ds.length (fun j hj => (N0.loanOk_is (hok j hj)).2.2.2.2.2.2.2.2.1) k.ds.length (Nat.le_refl _)
  have a3 := gath_le (fun d : Ln => d.po) k.ds 4 k.ds.length (fun j hj => (N0.loanOk_is (hok j hj)).2.2.2.2.2.2.2.1) k.ds.length (Nat.le_refl _)
  refine ⟨?_, by show (gath (fun d : Ln => d.po) k.ds k.ds.length).length ≤ 1000; omega⟩
  rw [List.length_append]
  show (gath (fun d : Ln => [d.ino]) k.ds k.ds.length).length + (gath (fun d : Ln => d.fr) k.ds k.ds.length).length ≤ 1000
  omega

set_option maxHeartbeats 8000000 in
theorem impl_KeeperOk (k : Kp) (a : Option Addr) (c : Nat) (ss : Nat → Sl) (w : World) (hm1 : k.mem.size ≤ 1048576) (hm2 : k.dur.size ≤ 1048576) (ht : k.ds.length + Z1.tot k.ds k.ds.length ≤ 1048576) (hF : Z4.Fits k.ds ss) (hR : Lns w a k.ds ss) :
    Calls Tryz.prog 22 #[kval k a c] w fun e w' => e = .returned (.bool (iK k)) ∧ Below w.heap.size w w' := by
  have xc := bk_new w k a c
  have hn : k.ds.length ≤ 1048576 := by omega
  have hgi : (ginos k.ds).length ≤ 1048576 := by
    have h1 := gi_len k.ds k.ds.length
    show (gath (fun d : Ln => [d.ino]) k.ds k.ds.length).length ≤ 1048576
    omega
  have hgf : (gfr k.ds).length ≤ 1048576 := by
    have h1 := KO.gath_len (fun d : Ln => d.fr) k.ds 0 (fun d => by unfold N3.total; omega) k.ds.length
    show (gath (fun d : Ln => d.fr) k.ds k.ds.length).length ≤ 1048576
    omega
  have HL : Hid (∀ W, Below w.heap.size w W → Lns W a k.ds ss) := fun W hb => hR.below hb
  have HIn : Hid (∀ W, Below w.heap.size w W → Calls Tryz.prog 59 #[.slice a k.ds.length c] W fun e w' => ∃ a c, e = .returned (.slice a (ginos k.ds).length c) ∧ P0.Row w' a (ginos k.ds) ∧ Below W.heap.size W w') := fun W hb => (KO.lentInos a c k.ds ss W hn ht (hR.below hb)).mono fun e w' ⟨a, c, he, ho, _, hb⟩ => ⟨a, c, he, ho.row, hb⟩
  have HFr : Hid (∀ W, Below w.heap.size w W → Calls Tryz.prog 66 #[.slice a k.ds.length c] W fun e w' => ∃ a c, e = .returned (.slice a (gfr k.ds).length c) ∧ P0.Row w' a (gfr k.ds) ∧ Below W.heap.size W w') := fun W hb => (KO.lentFresh a c k.ds ss W hn ht (hR.below hb)).mono fun e w' ⟨a, c, he, ho, _, hb⟩ => ⟨a, c, he, ho.row, hb⟩
  have HPo : Hid (∀ W, Below w.heap.size w W → Calls Tryz.prog 67 #[.slice a k.ds.length c] W fun e w' => ∃ a c, e = .returned (.slice a (gpo k.ds).length c) ∧ P0.Row w' a (gpo k.ds) ∧ Below W.heap.size W w') := fun W hb => (KO.lentPool a c k.ds ss W hn ht (hR.below hb)).mono fun e w' ⟨a, c, he, ho, _, hb⟩ => ⟨a, c, he, ho.row, hb⟩
  have HDv : Hid (∀ W, Calls Tryz.prog 60 #[.agg #[.string k.mem, .string k.dur]] W fun e w' => e = .returned (.bool (D1.ok k.mem k.dur)) ∧ Below W.heap.size W w') := fun W => (D1.impl_DevOk k.mem k.dur W (by unfold maxLen; omega) (by unfold maxLen; omega)).mono fun e w' ⟨he, hw⟩ => ⟨he, by rw [hw]; exact K0.below_new _ _⟩
  have HAs : Hid (∀ a c W, P0.Row W a (ginos k.ds) → Calls Tryz.prog 61 #[.slice a (ginos k.ds).length c] W fun e w' => e = .returned (.bool (N0.asc (ginos k.ds))) ∧ ∃ n, w' = W.drewN n) := fun a c W h => N2.ascends a c _ W (by omega) h
  have HVi : Hid (∀ W, Below w.heap.size w W → Calls Tryz.prog 62 #[kval k a c] W (KV.Ans k W)) := fun W hb => KV.viewOf k a c ss W (by omega) hn hF (hR.below hb)
  have HAn : Hid (∀ W e w', KV.Ans k W e w' → ∃ x a1 n1 c1 a2 n2 c2, e = .returned (.tuple #[.agg #[.string x, .slice a1 n1 c1, .slice a2 n2 c2], .bool (sound (truth k))]) ∧ Below W.heap.size W w' ∧ (sound (truth k) = true → x = truth k ∧ n1 = (used (truth k)).length ∧ n2 = (fin (truth k)).length ∧ P0.Row w' a1 (used (truth k)) ∧ P0.Row w' a2 (fin (truth k)))) := fun W e w' h => h
  have HHa : Hid (∀ (j : Nat) (a1 a2 : Option Addr) (c1 c2 : Nat) W, (truth k).size = 768 → Below w.heap.size w W → P0.Row W a1 (used (truth k)) → P0.Row W a2 (fin (truth k)) → j < k.ds.length → Calls Tryz.prog 63 #[.agg #[.string (truth k), .slice a1 (used (truth k)).length c1, .slice a2 (fin (truth k)).length c2], N1.val (dat k.ds j) (ss j)] W fun e w' => e = .returned (.bool (hAt k j)) ∧ Below W.heap.size W w') := fun j a1 a2 c1 c2 W h1 hb r1 r2 hj => by
    obtain ⟨f1, f2, f3⟩ := hF j hj
    have hfl := KV.files_len (truth k)
    exact KH.view_has (truth k) a1 a2 c1 c2 (used (truth k)) (fin (truth k)) (dat k.ds j) (ss j) W h1 f1 f2 f3 (US.used_len _) (by rw [KV.fin_len]; omega) ((hR.below hb).sub j hj) r1 r2
  have HCo : Hid (∀ (ia fa : Option Addr) (ic fc : Nat) W, P0.Row W ia (ginos k.ds) → P0.Row W fa (gfr k.ds) → Calls Tryz.prog 65 #[.slice (some ⟨W.heap.size, 0, none⟩) 2 2] (W.alloc (.cells #[.slice ia (ginos k.ds).length ic, .slice fa (gfr k.ds).length fc] 24)) fun e w' => ∃ a c, e = .returned (.slice a (ginos k.ds ++ gfr k.ds).length c) ∧ P0.Row w' a (ginos k.ds ++ gfr k.ds) ∧ Below W.heap.size W w') := fun ia fa ic fc W r1 r2 => by
    have nb := K0.below_new W (.cells #[.slice ia (ginos k.ds).length ic, .slice fa (gfr k.ds).length fc] 24)
    have bk := K0.blk_new [.slice ia (ginos k.ds).length ic, .slice fa (gfr k.ds).length fc] W 24
    exact (Q1.concat W.heap.size ia fa ic fc (ginos k.ds) (gfr k.ds) _ bk.c0 bk.c1 bk.lt (r1.below nb) (r2.below nb) hgi hgf).mono fun e w' ⟨a, c, he, ho, _, hb⟩ => ⟨a, c, he, ho.row, nb.trans (hb.mono nb.size)⟩
  have HA1 : Hid (N0.asc (ginos k.ds) = true → N0.to (hAt k) k.ds.length = true → ∀ a c W, P0.Row W a (ginos k.ds ++ gfr k.ds) → Calls Tryz.prog 64 #[.slice a (ginos k.ds ++ gfr k.ds).length c] W fun e w' => e = .returned (.bool (once (ginos k.ds ++ gfr k.ds))) ∧ Below W.heap.size W w') := fun h1 h2 a c W h => KP.allApart a c _ W (few_len h1 h2).1 h
  have HA2 : Hid (N0.asc (ginos k.ds) = true → N0.to (hAt k) k.ds.length = true → ∀ a c W, P0.Row W a (gpo k.ds) → Calls Tryz.prog 64 #[.slice a (gpo k.ds).length c] W fun e w' => e = .returned (.bool (once (gpo k.ds))) ∧ Below W.heap.size W w') := fun h1 h2 a c W h => KP.allApart a c _ W (few_len h1 h2).2 h
  have HRe : Hid (D1.ok k.mem k.dur = true → ∀ W, Below w.heap.size w W → Calls Tryz.prog 68 #[kval k a c] W fun e w' => e = .returned (.bool (lasts k)) ∧ Below W.heap.size W w') := fun h W hb => KQ.restLasts k a c ss W (D1.ok_true h).1 (D1.ok_true h).2 hn hF (hR.below hb)
  have HD : Hid (D1.ok k.mem k.dur = true → (truth k).size = 768) := fun h => by rw [show (truth k).size = k.mem.size from Z4.unAll_size _ _ _]; exact (D1.ok_true h).1
  have c0 := xc.arg.c0
  have c1 := xc.arg.c1
  have c2 := xc.arg.c2
  have c3 := xc.arg.c3
  clear hR hF
  unfold iK
  obtain ⟨m, em⟩ : ∃ m, truth k = m := ⟨_, rfl⟩
  obtain ⟨us, eu⟩ : ∃ us, used m = us := ⟨_, rfl⟩
  obtain ⟨fs, ef⟩ : ∃ fs, fin m = fs := ⟨_, rfl⟩
  rw [em, eu, ef] at HHa HAn
  rw [em] at HD ⊢
  obtain ⟨gi, egi⟩ : ∃ g, ginos k.ds = g := ⟨_, rfl⟩
  obtain ⟨gf, egf⟩ : ∃ g, gfr k.ds = g := ⟨_, rfl⟩
  obtain ⟨gp, egp⟩ : ∃ g, gpo k.ds = g := ⟨_, rfl⟩
  rw [egi] at HIn HAs HCo HA1 HA2 ⊢
  rw [egf] at HFr HCo HA1 ⊢
  rw [egp] at HPo HA2 ⊢
  obtain ⟨gq, egq⟩ : ∃ g, gi ++ gf = g := ⟨_, rfl⟩
  rw [egq] at HCo HA1 ⊢
  clear em eu ef egi egf egp egq hgi hgf
  cases hc0 : D1.ok k.mem k.dur with
  | false =>
    rw [hc0] at HDv
    go_enter Tryz.func22, Tryz.ntmps22
    go_wp2_with (first
      | (go_at_call 59; refine (HIn.out _ xc.bel).mono ?_; rintro e w1 ⟨ia, ic, rfl, ir, b1⟩; replace xc := xc.below b1; replace c0 := xc.arg.c0; replace c1 := xc.arg.c1; replace c2 := xc.arg.c2; replace c3 := xc.arg.c3)
      | (go_at_call 60; refine (HDv.out _).mono ?_; rintro e w1 ⟨rfl, b1⟩; replace xc := xc.below b1; replace c0 := xc.arg.c0; replace c1 := xc.arg.c1; replace c2 := xc.arg.c2; replace c3 := xc.arg.c3; replace ir := ir.below b1)
      | (go_at_call 61; refine (HAs.out _ _ _ ir).mono ?_; rintro e w1 ⟨rfl, n1, rfl⟩; replace xc := xc.below (K0.below_drewN (Below.refl _ _) n1); replace c0 := xc.arg.c0; replace c1 := xc.arg.c1; replace c2 := xc.arg.c2; replace c3 := xc.arg.c3; replace ir := ir.below (K0.below_drewN (Below.refl _ _) n1))
      | (go_at_call 62; refine (HVi.out _ xc.bel).mono ?_; intro e w1 hans; obtain ⟨vx, va1, vn1, vc1, va2, vn2, vc2, rfl, b1, hy⟩ := HAn.out _ _ _ hans; clear hans; have HY : Hid _ := hy; clear hy; replace xc := xc.below b1; replace c0 := xc.arg.c0; replace c1 := xc.arg.c1; replace c2 := xc.arg.c2; replace c3 := xc.arg.c3; replace ir := ir.below b1))
    go_ret
    exact ⟨rfl, xc.bel⟩
  | true =>
    have hm : m.size = 768 := HD.out hc0
    replace HRe : Hid (∀ W, Below w.heap.size w W → Calls Tryz.prog 68 #[kval k a c] W fun e w' => e = .returned (.bool (lasts k)) ∧ Below W.heap.size W w') := HRe.out hc0
    rw [hc0] at HDv
    by_cases hq4 : k.ck < 0
    · rw [decide_eq_true hq4]
      go_enter Tryz.func22, Tryz.ntmps22
      go_wp2_with (first
        | (go_at_call 59; refine (HIn.out _ xc.bel).mono ?_; rintro e w1 ⟨ia, ic, rfl, ir, b1⟩; replace xc := xc.below b1; replace c0 := xc.arg.c0; replace c1 := xc.arg.c1; replace c2 := xc.arg.c2; replace c3 := xc.arg.c3)
        | (go_at_call 60; refine (HDv.out _).mono ?_; rintro e w1 ⟨rfl, b1⟩; replace xc := xc.below b1; replace c0 := xc.arg.c0; replace c1 := xc.arg.c1; replace c2 := xc.arg.c2; replace c3 := xc.arg.c3; replace ir := ir.below b1)
        | (go_at_call 61; refine (HAs.out _ _ _ ir).mono ?_; rintro e w1 ⟨rfl, n1, rfl⟩; replace xc := xc.below (K0.below_drewN (Below.refl _ _) n1); replace c0 := xc.arg.c0; replace c1 := xc.arg.c1; replace c2 := xc.arg.c2; replace c3 := xc.arg.c3; replace ir := ir.below (K0.below_drewN (Below.refl _ _) n1))
        | (go_at_call 62; refine (HVi.out _ xc.bel).mono ?_; intro e w1 hans; obtain ⟨vx, va1, vn1, vc1, va2, vn2, vc2, rfl, b1, hy⟩ := HAn.out _ _ _ hans; clear hans; have HY : Hid _ := hy; clear hy; replace xc := xc.below b1; replace c0 := xc.arg.c0; replace c1 := xc.arg.c1; replace c2 := xc.arg.c2; replace c3 := xc.arg.c3; replace ir := ir.below b1))
      go_ret
      exact ⟨rfl, xc.bel⟩
    · rw [decide_eq_false hq4]
      have hr4 : decide (k.ck < 0) = false := decide_eq_false hq4
      by_cases hq6 : 999999 < k.ck
      · rw [decide_eq_true hq6]
        go_enter Tryz.func22, Tryz.ntmps22
        go_wp2_with (first
          | (go_at_call 59; refine (HIn.out _ xc.bel).mono ?_; rintro e w1 ⟨ia, ic, rfl, ir, b1⟩; replace xc := xc.below b1; replace c0 := xc.arg.c0; replace c1 := xc.arg.c1; replace c2 := xc.arg.c2; replace c3 := xc.arg.c3)
          | (go_at_call 60; refine (HDv.out _).mono ?_; rintro e w1 ⟨rfl, b1⟩; replace xc := xc.below b1; replace c0 := xc.arg.c0; replace c1 := xc.arg.c1; replace c2 := xc.arg.c2; replace c3 := xc.arg.c3; replace ir := ir.below b1)
          | (go_at_call 61; refine (HAs.out _ _ _ ir).mono ?_; rintro e w1 ⟨rfl, n1, rfl⟩; replace xc := xc.below (K0.below_drewN (Below.refl _ _) n1); replace c0 := xc.arg.c0; replace c1 := xc.arg.c1; replace c2 := xc.arg.c2; replace c3 := xc.arg.c3; replace ir := ir.below (K0.below_drewN (Below.refl _ _) n1))
          | (go_at_call 62; refine (HVi.out _ xc.bel).mono ?_; intro e w1 hans; obtain ⟨vx, va1, vn1, vc1, va2, vn2, vc2, rfl, b1, hy⟩ := HAn.out _ _ _ hans; clear hans; have HY : Hid _ := hy; clear hy; replace xc := xc.below b1; replace c0 := xc.arg.c0; replace c1 := xc.arg.c1; replace c2 := xc.arg.c2; replace c3 := xc.arg.c3; replace ir := ir.below b1))
        go_ret
        exact ⟨rfl, xc.bel⟩
      · rw [decide_eq_false hq6]
        have hr6 : decide (999999 < k.ck) = false := decide_eq_false hq6
        cases hc3 : N0.asc gi with
        | false =>
          rw [hc3] at HAs
          go_enter Tryz.func22, Tryz.ntmps22
          go_wp2_with (first
            | (go_at_call 59; refine (HIn.out _ xc.bel).mono ?_; rintro e w1 ⟨ia, ic, rfl, ir, b1⟩; replace xc := xc.below b1; replace c0 := xc.arg.c0; replace c1 := xc.arg.c1; replace c2 := xc.arg.c2; replace c3 := xc.arg.c3)
            | (go_at_call 60; refine (HDv.out _).mono ?_; rintro e w1 ⟨rfl, b1⟩; replace xc := xc.below b1; replace c0 := xc.arg.c0; replace c1 := xc.arg.c1; replace c2 := xc.arg.c2; replace c3 := xc.arg.c3; replace ir := ir.below b1)
            | (go_at_call 61; refine (HAs.out _ _ _ ir).mono ?_; rintro e w1 ⟨rfl, n1, rfl⟩; replace xc := xc.below (K0.below_drewN (Below.refl _ _) n1); replace c0 := xc.arg.c0; replace c1 := xc.arg.c1; replace c2 := xc.arg.c2; replace c3 := xc.arg.c3; replace ir := ir.below (K0.below_drewN (Below.refl _ _) n1))
            | (go_at_call 62; refine (HVi.out _ xc.bel).mono ?_; intro e w1 hans; obtain ⟨vx, va1, vn1, vc1, va2, vn2, vc2, rfl, b1, hy⟩ := HAn.out _ _ _ hans; clear hans; have HY : Hid _ := hy; clear hy; replace xc := xc.below b1; replace c0 := xc.arg.c0; replace c1 := xc.arg.c1; replace c2 := xc.arg.c2; replace c3 := xc.arg.c3; replace ir := ir.below b1))
          go_ret
          exact ⟨rfl, xc.bel⟩
        | true =>
          replace HA1 := HA1.out hc3
          replace HA2 := HA2.out hc3
          have HA1 : Hid _ := HA1
          have HA2 : Hid _ := HA2
          rw [hc3] at HAs
          cases hc4 : sound m with
          | false =>
            rw [hc4] at HAn
            go_enter Tryz.func22, Tryz.ntmps22
            go_wp2_with (first
              | (go_at_call 59; refine (HIn.out _ xc.bel).mono ?_; rintro e w1 ⟨ia, ic, rfl, ir, b1⟩; replace xc := xc.below b1; replace c0 := xc.arg.c0; replace c1 := xc.arg.c1; replace c2 := xc.arg.c2; replace c3 := xc.arg.c3)
              | (go_at_call 60; refine (HDv.out _).mono ?_; rintro e w1 ⟨rfl, b1⟩; replace xc := xc.below b1; replace c0 := xc.arg.c0; replace c1 := xc.arg.c1; replace c2 := xc.arg.c2; replace c3 := xc.arg.c3; replace ir := ir.below b1)
              | (go_at_call 61; refine (HAs.out _ _ _ ir).mono ?_; rintro e w1 ⟨rfl, n1, rfl⟩; replace xc := xc.below (K0.below_drewN (Below.refl _ _) n1); replace c0 := xc.arg.c0; replace c1 := xc.arg.c1; replace c2 := xc.arg.c2; replace c3 := xc.arg.c3; replace ir := ir.below (K0.below_drewN (Below.refl _ _) n1))
              | (go_at_call 62; refine (HVi.out _ xc.bel).mono ?_; intro e w1 hans; obtain ⟨vx, va1, vn1, vc1, va2, vn2, vc2, rfl, b1, hy⟩ := HAn.out _ _ _ hans; clear hans; have HY : Hid _ := hy; clear hy; replace xc := xc.below b1; replace c0 := xc.arg.c0; replace c1 := xc.arg.c1; replace c2 := xc.arg.c2; replace c3 := xc.arg.c3; replace ir := ir.below b1))
            go_ret
            exact ⟨rfl, xc.bel.alloc xc.bel.size _⟩
          | true =>
            rw [hc4] at HAn
            go_enter Tryz.func22, Tryz.ntmps22
            go_wp2_with (first
              | (go_at_call 59; refine (HIn.out _ xc.bel).mono ?_; rintro e w1 ⟨ia, ic, rfl, ir, b1⟩; replace xc := xc.below b1; replace c0 := xc.arg.c0; replace c1 := xc.arg.c1; replace c2 := xc.arg.c2; replace c3 := xc.arg.c3)
              | (go_at_call 60; refine (HDv.out _).mono ?_; rintro e w1 ⟨rfl, b1⟩; replace xc := xc.below b1; replace c0 := xc.arg.c0; replace c1 := xc.arg.c1; replace c2 := xc.arg.c2; replace c3 := xc.arg.c3; replace ir := ir.below b1)
              | (go_at_call 61; refine (HAs.out _ _ _ ir).mono ?_; rintro e w1 ⟨rfl, n1, rfl⟩; replace xc := xc.below (K0.below_drewN (Below.refl _ _) n1); replace c0 := xc.arg.c0; replace c1 := xc.arg.c1; replace c2 := xc.arg.c2; replace c3 := xc.arg.c3; replace ir := ir.below (K0.below_drewN (Below.refl _ _) n1))
              | (go_at_call 62; refine (HVi.out _ xc.bel).mono ?_; intro e w1 hans; obtain ⟨vx, va1, vn1, vc1, va2, vn2, vc2, rfl, b1, hy⟩ := HAn.out _ _ _ hans; clear hans; obtain ⟨vq1, vq2, vq3, vr1, vr2⟩ := hy (by trivial); clear hy; subst vq1; subst vq2; subst vq3; replace xc := xc.below b1; replace c0 := xc.arg.c0; replace c1 := xc.arg.c1; replace c2 := xc.arg.c2; replace c3 := xc.arg.c3; replace ir := ir.below b1; have nb := K0.below_new w1 (.cells #[.string vx, .slice va1 us.length vc1, .slice va2 fs.length vc2] 98); have vb := K0.blk_new [.string vx, .slice va1 us.length vc1, .slice va2 fs.length vc2] w1 98; have xd := xc.below nb; have cd2 := xd.arg.c2))
            have rd1 := vr1.below nb
            have rd2 := vr2.below nb
            have ird := ir.below nb
            obtain ⟨VB, hVB⟩ : ∃ VB, w1.heap.size = VB := ⟨_, rfl⟩
            rw [hVB] at vb
            try simp only [hVB]
            clear c0 c1 c2 c3 cd2 xc vr1 vr2 ir nb HIn HDv HAs HVi HAn HD hVB
            go_loopw [40] (fun i w' => ∃ j : Nat, j ≤ k.ds.length ∧ N0.to (hAt k) j = true ∧ i = .int .i64 j ∧ Bk w k a c w' ∧ K0.Blk VB [.string vx, .slice va1 us.length vc1, .slice va2 fs.length vc2] w' ∧ P0.Row w' va1 us ∧ P0.Row w' va2 fs ∧ P0.Row w' ia gi) (fun i _ => k.ds.length - (intOf i).toNat)
            case atStart => exact ⟨0, Nat.zero_le _, rfl, rfl, xd, vb, rd1, rd2, ird⟩
            case round =>
              obtain ⟨j, hj, hto, rfl, xr, vbr, rr1, rr2, irr⟩ := hrel
              clear xd vb rd1 rd2 ird
              by_cases hlt : j < k.ds.length
              · obtain ⟨b, off, hab, hlt0, hc⟩ := (HL.out _ xr.bel).row.get hlt
                obtain ⟨y0, y1, y2, y3, y4, y5, y6, y7⟩ := hc j hlt
                have HC : Hid (∀ W, Below w.heap.size w W → P0.Row W va1 us → P0.Row W va2 fs → Calls Tryz.prog 63 #[.agg #[.string vx, .slice va1 us.length vc1, .slice va2 fs.length vc2], N1.val (dat k.ds j) (ss j)] W fun e w' => e = .returned (.bool (hAt k j)) ∧ Below W.heap.size W w') := fun W h1 h2 h3 => HHa.out j va1 va2 vc1 vc2 W hm h1 h2 h3 hlt
                obtain ⟨d, ed⟩ : ∃ d, dat k.ds j = d := ⟨_, rfl⟩
                obtain ⟨s, es⟩ : ∃ s, ss j = s := ⟨_, rfl⟩
                rw [ed, es] at HC
                rw [ed] at y0 y1 y2 y3 y4 y5 y6 y7
                rw [es] at y4 y6 y7
                have e1 : (0 : Int) ≤ (j : Int) := by omega
                have e2 : (j : Int) < (k.ds.length : Int) := by omega
                have nb := K0.below_new wr (.cells #[.int .i64 d.ino, .int .i64 d.cl, .int .i64 d.un, .string d.rc, .slice s.a1 d.pg.length s.c1, .string d.sav, .slice s.a2 d.po.length s.c2, .slice s.a3 d.fr.length s.c3] 26)
                have bx := N1.lb_new d s wr 26
                have z0 := bx.c0
                have z1 := bx.c1
                have z2 := bx.c2
                have z3 := bx.c3
                have z4 := bx.c4
                have z5 := bx.c5
                have z6 := bx.c6
                have z7 := bx.c7
                have x2 := xr.below nb
                have vb2 := vbr.below nb
                have p1 := rr1.below nb
                have p2 := rr2.below nb
                have p3 := irr.below nb
                have v0 := vb2.c0
                have v1 := vb2.c1
                have v2 := vb2.c2
                subst hab
                clear ed es hc HL HHa
                cases hat : hAt k j with
                | false =>
                  rw [hat] at HC
                  have HT : Hid (N0.to (hAt k) k.ds.length = false) := N0.to_bad hlt hat
                  clear hat
                  go_wp2_with (go_at_call 63; refine (HC.out _ x2.bel p1 p2).mono ?_; rintro e w3 ⟨rfl, b3⟩; have x3 := x2.below b3)
                  go_ret
                  exact ⟨by rw [HT.out]; rfl, x3.bel⟩
                | true =>
                  rw [hat] at HC
                  have HT : Hid (N0.to (hAt k) (j + 1) = true) := N0.to_step hto hat
                  clear hat
                  go_wp2_with (go_at_call 63; refine (HC.out _ x2.bel p1 p2).mono ?_; rintro e w3 ⟨rfl, b3⟩; have x3 := x2.below b3; have vb3 := vb2.below b3; have t1 := p1.below b3; have t2 := p2.below b3; have t3 := p3.below b3)
                  go_roundw
                  case rel => exact ⟨j + 1, by omega, HT.out, by go_num, x3, vb3, t1, t2, t3⟩
                  case measure => simp [intOf]; omega
              · obtain rfl : j = k.ds.length := by omega
                have HT : Hid (N0.to (hAt k) k.ds.length = true) := hto
                replace HA1 : Hid (∀ a c W, P0.Row W a gq → Calls Tryz.prog 64 #[.slice a gq.length c] W fun e w' => e = .returned (.bool (once gq)) ∧ Below W.heap.size W w') := HA1.out hto
                replace HA2 : Hid (∀ a c W, P0.Row W a gp → Calls Tryz.prog 64 #[.slice a gp.length c] W fun e w' => e = .returned (.bool (once gp)) ∧ Below W.heap.size W w') := HA2.out hto
                have xc := xr
                have ir := irr
                have c0 := xc.arg.c0
                have c1 := xc.arg.c1
                have c2 := xc.arg.c2
                have c3 := xc.arg.c3
                clear HL HHa hto rr1 rr2 vbr irr xr
                cases ho1 : once gq
                · rw [ho1] at HA1
                  have HO : Hid (once gq = false) := ho1
                  clear ho1
                  go_wp2_with (first
                    | (go_at_call 66; refine (HFr.out _ xc.bel).mono ?_; rintro e w1 ⟨fa, fc, rfl, fr, b1⟩; replace xc := xc.below b1; replace c0 := xc.arg.c0; replace c1 := xc.arg.c1; replace c2 := xc.arg.c2; replace c3 := xc.arg.c3; replace ir := ir.below b1)
                    | (go_at_call 65; refine (HCo.out _ _ _ _ _ ir fr).mono ?_; rintro e w2 ⟨qa, qc, rfl, qr, b2⟩; replace xc := xc.below b2; replace c0 := xc.arg.c0; replace c1 := xc.arg.c1; replace c2 := xc.arg.c2; replace c3 := xc.arg.c3)
                    | (go_at_call 64; refine (HA1.out _ _ _ qr).mono ?_; rintro e w3 ⟨rfl, b3⟩; replace xc := xc.below b3; replace c0 := xc.arg.c0; replace c1 := xc.arg.c1; replace c2 := xc.arg.c2; replace c3 := xc.arg.c3; clear HA1)
                    | (go_at_call 67; refine (HPo.out _ xc.bel).mono ?_; rintro e w4 ⟨pa, pc, rfl, pr, b4⟩; replace xc := xc.below b4; replace c0 := xc.arg.c0; replace c1 := xc.arg.c1; replace c2 := xc.arg.c2; replace c3 := xc.arg.c3)
                    | (go_at_call 64; refine (HA2.out _ _ _ pr).mono ?_; rintro e w5 ⟨rfl, b5⟩; replace xc := xc.below b5; replace c0 := xc.arg.c0; replace c1 := xc.arg.c1; replace c2 := xc.arg.c2; replace c3 := xc.arg.c3)
                    | (go_at_call 68; refine (HRe.out _ xc.bel).mono ?_; rintro e w6 ⟨rfl, b6⟩; replace xc := xc.below b6; replace c0 := xc.arg.c0; replace c1 := xc.arg.c1; replace c2 := xc.arg.c2; replace c3 := xc.arg.c3))
                  go_ret
                  exact ⟨by rw [HT.out, HO.out]; rfl, xc.bel⟩
                · rw [ho1] at HA1
                  cases ho2 : once gp
                  · rw [ho2] at HA2
                    have HO : Hid (once gq = true ∧ once gp = false) := ⟨ho1, ho2⟩
                    clear ho1 ho2
                    go_wp2_with (first
                      | (go_at_call 66; refine (HFr.out _ xc.bel).mono ?_; rintro e w1 ⟨fa, fc, rfl, fr, b1⟩; replace xc := xc.below b1; replace c0 := xc.arg.c0; replace c1 := xc.arg.c1; replace c2 := xc.arg.c2; replace c3 := xc.arg.c3; replace ir := ir.below b1)
                      | (go_at_call 65; refine (HCo.out _ _ _ _ _ ir fr).mono ?_; rintro e w2 ⟨qa, qc, rfl, qr, b2⟩; replace xc := xc.below b2; replace c0 := xc.arg.c0; replace c1 := xc.arg.c1; replace c2 := xc.arg.c2; replace c3 := xc.arg.c3)
                      | (go_at_call 64; refine (HA1.out _ _ _ qr).mono ?_; rintro e w3 ⟨rfl, b3⟩; replace xc := xc.below b3; replace c0 := xc.arg.c0; replace c1 := xc.arg.c1; replace c2 := xc.arg.c2; replace c3 := xc.arg.c3; clear HA1)
                      | (go_at_call 67; refine (HPo.out _ xc.bel).mono ?_; rintro e w4 ⟨pa, pc, rfl, pr, b4⟩; replace xc := xc.below b4; replace c0 := xc.arg.c0; replace c1 := xc.arg.c1; replace c2 := xc.arg.c2; replace c3 := xc.arg.c3)
                      | (go_at_call 64; refine (HA2.out _ _ _ pr).mono ?_; rintro e w5 ⟨rfl, b5⟩; replace xc := xc.below b5; replace c0 := xc.arg.c0; replace c1 := xc.arg.c1; replace c2 := xc.arg.c2; replace c3 := xc.arg.c3)
                      | (go_at_call 68; refine (HRe.out _ xc.bel).mono ?_; rintro e w6 ⟨rfl, b6⟩; replace xc := xc.below b6; replace c0 := xc.arg.c0; replace c1 := xc.arg.c1; replace c2 := xc.arg.c2; replace c3 := xc.arg.c3))
                    go_ret
                    exact ⟨by rw [HT.out, HO.out.1, HO.out.2]; rfl, xc.bel⟩
                  · rw [ho2] at HA2
                    have HO : Hid (once gq = true ∧ once gp = true) := ⟨ho1, ho2⟩
                    clear ho1 ho2
                    go_wp2_with (first
                      | (go_at_call 66; refine (HFr.out _ xc.bel).mono ?_; rintro e w1 ⟨fa, fc, rfl, fr, b1⟩; replace xc := xc.below b1; replace c0 := xc.arg.c0; replace c1 := xc.arg.c1; replace c2 := xc.arg.c2; replace c3 := xc.arg.c3; replace ir := ir.below b1)
                      | (go_at_call 65; refine (HCo.out _ _ _ _ _ ir fr).mono ?_; rintro e w2 ⟨qa, qc, rfl, qr, b2⟩; replace xc := xc.below b2; replace c0 := xc.arg.c0; replace c1 := xc.arg.c1; replace c2 := xc.arg.c2; replace c3 := xc.arg.c3)
                      | (go_at_call 64; refine (HA1.out _ _ _ qr).mono ?_; rintro e w3 ⟨rfl, b3⟩; replace xc := xc.below b3; replace c0 := xc.arg.c0; replace c1 := xc.arg.c1; replace c2 := xc.arg.c2; replace c3 := xc.arg.c3; clear HA1)
                      | (go_at_call 67; refine (HPo.out _ xc.bel).mono ?_; rintro e w4 ⟨pa, pc, rfl, pr, b4⟩; replace xc := xc.below b4; replace c0 := xc.arg.c0; replace c1 := xc.arg.c1; replace c2 := xc.arg.c2; replace c3 := xc.arg.c3)
                      | (go_at_call 64; refine (HA2.out _ _ _ pr).mono ?_; rintro e w5 ⟨rfl, b5⟩; replace xc := xc.below b5; replace c0 := xc.arg.c0; replace c1 := xc.arg.c1; replace c2 := xc.arg.c2; replace c3 := xc.arg.c3)
                      | (go_at_call 68; refine (HRe.out _ xc.bel).mono ?_; rintro e w6 ⟨rfl, b6⟩; replace xc := xc.below b6; replace c0 := xc.arg.c0; replace c1 := xc.arg.c1; replace c2 := xc.arg.c2; replace c3 := xc.arg.c3))
                    go_ret
                    exact ⟨by rw [HT.out, HO.out.1, HO.out.2]; rfl, xc.bel⟩
end Go.Proofs.YtdljajjgppcjpaaGreat.KI

/- What lasts beside the loans, as the program asks it and as its specification does. -/
namespace Go.Proofs.YtdljajjgppcjpaaGreat.KX
open Go
set_option linter.unusedVariables false
set_option linter.unusedSimpArgs false
set_option maxRecDepth 10000

open N0 (Ln)
open HP (Rg at_)
open WI (rl)
open Z0 (dat Kp)
open X0 (mix mix_len mix_get)
open F1 (span)
open KQ (lay layN layS layN_size)
open KT (outN outS outN_size outS_size)

/-- A byte. -/
def g (x : ByteArray) (j : Nat) : UInt8 := x.data.toList.getD j 0
/-- Whether a byte lies in a range. -/
def cov (r : Rg) (j : Nat) : Bool := decide (r.1 ≤ (j : Int) ∧ (j : Int) < r.1 + r.2)

theorem rl_eight (d : Ln) : ∀ r ∈ rl d, r.1 % 8 = 0 ∧ r.2 % 8 = 0 := by
  unfold rl
  cases h : N0.loanOk d with
  | false => simp
  | true =>
    obtain ⟨-, -, -, -, hi, -, -, -, -, hpp, hfr, -, -⟩ := N0.loanOk_is h
    have hrec : ∀ z : Int, 0 ≤ z → z ≤ 7 → L1.recAt z = 32 + z * 16 := by
      intro z h0 h7
      unfold L1.recAt
      rw [if_pos (N0.inB_iff.2 ⟨h0, h7⟩)]
    intro r hr
    simp only [if_true, List.mem_append, List.mem_map, List.mem_singleton] at hr
    rcases hr with ((hr | ⟨p, hp, hr⟩) | ⟨p, hp, hr⟩) | ⟨f, hf, hr⟩
    · subst hr
      rw [hrec _ hi.1 hi.2]
      simp
      omega
    · subst hr
      simp
      omega
    · subst hr
      simp
      omega
    · subst hr
      have := hfr f hf
      rw [hrec f (by omega) (by omega)]
      simp
      omega

theorem lay_get (a b : ByteArray) (r : Rg) (j : Nat) (hj : j < 768) (h0 : 0 ≤ r.1) (h1 : 16 ≤ r.2) (h2 : r.1 % 8 = 0) (h3 : r.2 % 8 = 0) : g (lay a b r) j = if cov r j then g a j else g b j := by
  have hsp : span (r.1.toNat / 8) ((r.1.toNat + r.2.toNat - 1) / 8) (j / 8) = cov r j := by
    unfold span cov
    congr 1
    apply propext
    omega
  have h := mix_get a.data.toList b.data.toList (span (r.1.toNat / 8) ((r.1.toNat + r.2.toNat - 1) / 8)) j hj
  rw [hsp] at h
  unfold g lay
  rw [List.getD_eq_getElem?_getD, h]
  rfl

theorem nulls_get (n j : Nat) : (B4.nulls n).data.toList[j]? = if j < n then some 0 else none := by
  unfold B4.nulls
  rw [Array.toList_replicate, List.getElem?_replicate]

theorem laid_get (s : ByteArray) (hs : s.size = 768) (r : Rg) (j : Nat) (hj : j < 768) (h0 : 0 ≤ r.1) (h1 : 16 ≤ r.2) (h2 : r.1 + r.2 ≤ 768) : g (B5.laid s r.1 (B4.zeros r.2)) j = if cov r j then 0 else g s j := by
  obtain ⟨u, hu⟩ : ∃ u : Nat, r.1 = u := ⟨r.1.toNat, by omega⟩
  obtain ⟨v, hv⟩ : ∃ v : Nat, r.2 = v := ⟨r.2.toNat, by omega⟩
  have hz : B4.zeros r.2 = B4.nulls v := by rw [B4.zeros, if_pos (by omega), hv]; rfl
  have hl : B2.lies s.size r.1 (B4.nulls v).size = true := decide_eq_true (by rw [B4.nulls_size, hs]; omega)
  have hsl : s.data.toList.length = 768 := by rw [← hs]; exact (Lib.size_eq s).symm
  rw [hz, B5.laid, hl, if_pos rfl, B4.nulls_size, hu, hs]
  unfold g cov
  rw [hu, hv]
  simp only [List.getD_eq_getElem?_getD, ByteArray.data_append, Array.toList_append, Lib.extract_data, List.getElem?_append, nulls_get, List.getElem?_take, List.getElem?_drop, List.length_take, List.length_drop, hsl, List.length_append]
  rw [show (B4.nulls v).data.toList.length = v by simp [B4.nulls], show ((u : Int)).toNat = u by omega, show ((u : Int) + (v : Int)).toNat = u + v by omega]
  by_cases hc : (u : Int) ≤ (j : Int) ∧ (j : Int) < (u : Int) + (v : Int)
  · rw [decide_eq_true hc]
    grind
  · rw [decide_eq_false hc]
    grind

theorem or_if {α : Type} (p q : Bool) (x y : α) : (if p then x else if q then x else y) = if (p || q) then x else y := by cases p <;> cases q <;> rfl

/-- What one loan covers, of both. -/
theorem one_cov (a : ByteArray) (rs : List Rg) (hin : ∀ r ∈ rs, 0 ≤ r.1 ∧ 16 ≤ r.2 ∧ r.1 + r.2 ≤ 768) (h8 : ∀ r ∈ rs, r.1 % 8 = 0 ∧ r.2 % 8 = 0) : ∀ k, k ≤ rs.length → ∃ c : Nat → Bool, ∀ j, j < 768 → (∀ b, b.size = 768 → g (layN a b rs k) j = if c j then g a j else g b j) ∧ ∀ x, x.size = 768 → g (outN x rs k) j = if c j then 0 else g x j
  | 0, _ => ⟨fun _ => false, fun j hj => ⟨fun b hb => rfl, fun x hx => rfl⟩⟩
  | k + 1, hk => by
    obtain ⟨c, hc⟩ := one_cov a rs hin h8 k (by omega)
    have hm : at_ rs k ∈ rs := by rw [HP.at_get _ _ (by omega)]; exact List.getElem_mem _
    obtain ⟨i1, i2, i3⟩ := hin _ hm
    obtain ⟨e1, e2⟩ := h8 _ hm
    refine ⟨fun j => cov (at_ rs k) j || c j, fun j hj => ⟨fun b hb => ?_, fun x hx => ?_⟩⟩
    · rw [layN, lay_get _ _ _ _ hj i1 i2 e1 e2, (hc j hj).1 b hb]
      exact or_if _ _ _ _
    · rw [outN, laid_get _ (by rw [outN_size]; exact hx) _ _ hj i1 i2 i3, (hc j hj).2 x hx]
      exact or_if _ _ _ _

/-- .. all of them. -/
theorem all_cov (a b : ByteArray) (hb : b.size = 768) (ds : List Ln) : ∀ k, ∃ c : Nat → Bool, ∀ j, j < 768 → g (layS a b ds k) j = (if c j then g a j else g b j) ∧ ∀ x, x.size = 768 → g (outS x ds k) j = if c j then 0 else g x j
  | 0 => ⟨fun _ => false, fun j hj => ⟨rfl, fun x hx => rfl⟩⟩
  | k + 1 => by
    obtain ⟨c, hc⟩ := all_cov a b hb ds k
    obtain ⟨c', hc'⟩ := one_cov a (rl (dat ds k)) (WI.rl_in _) (rl_eight _) (rl (dat ds k)).length (Nat.le_refl _)
    refine ⟨fun j => c' j || c j, fun j hj => ⟨?_, fun x hx => ?_⟩⟩
    · rw [layS, (hc' j hj).1 _ (KQ.layS_size a b ds hb k), (hc j hj).1]
      exact or_if _ _ _ _
    · rw [outS, (hc' j hj).2 _ (by rw [outS_size]; exact hx), (hc j hj).2 x hx]
      exact or_if _ _ _ _

theorem same_iff {x y : ByteArray} (hx : x.size = 768) (hy : y.size = 768) : (x.toList == y.toList) = true ↔ ∀ j, j < 768 → g x j = g y j := by
  rw [beq_iff_eq, ByteArray.toList_eq, ByteArray.toList_eq]
  have lx : x.data.toList.length = 768 := by rw [← hx]; exact (Lib.size_eq x).symm
  have ly : y.data.toList.length = 768 := by rw [← hy]; exact (Lib.size_eq y).symm
  constructor
  · intro h j hj
    unfold g
    rw [h]
  · intro h
    apply List.ext_getElem?
    intro j
    by_cases hj : j < 768
    · have := h j hj
      unfold g at this
      rw [X0.get_of lx hj, X0.get_of ly hj, this]
    · rw [List.getElem?_eq_none (by omega), List.getElem?_eq_none (by omega)]

/-- The two say the same. -/
theorem rest_eq (a b : ByteArray) (ha : a.size = 768) (hb : b.size = 768) (ds : List Ln) (n : Nat) : (a.toList == (layS a b ds n).toList) = ((outS a ds n).toList == (outS b ds n).toList) := by
  obtain ⟨c, hc⟩ := all_cov a b hb ds n
  rw [Bool.eq_iff_iff, same_iff ha (KQ.layS_size a b ds hb n), same_iff (by rw [outS_size]; exact ha) (by rw [outS_size]; exact hb)]
  constructor
  · intro h j hj
    have h1 := h j hj
    rw [(hc j hj).1] at h1
    rw [(hc j hj).2 a ha, (hc j hj).2 b hb]
    cases hcj : c j with
    | true => rfl
    | false =>
      rw [hcj] at h1
      exact h1
  · intro h j hj
    have h1 := h j hj
    rw [(hc j hj).2 a ha, (hc j hj).2 b hb] at h1
    rw [(hc j hj).1]
    cases hcj : c j with
    | true => rfl
    | false =>
      rw [hcj] at h1
      exact h1
end Go.Proofs.YtdljajjgppcjpaaGreat.KX

/- A keeper is right for the program where it is for its specification. -/
namespace Go.Proofs.YtdljajjgppcjpaaGreat.KY
open Go
set_option linter.unusedVariables false
set_option linter.unusedSimpArgs false
set_option maxRecDepth 10000

open N0 (Ln)
open Z0 (dat Kp)
open Z4 (truth)
open KO (gath)
open KP (once once_iff)
open US (used)
open TW (sound tK)
open KV (fin)

theorem app_inj {a b c d : ByteArray} (h : a ++ b = c ++ d) (hs : a.size = c.size) : a = c ∧ b = d := by
  have h1 := congrArg (fun x => x.data.toList) h
  simp only [ByteArray.data_append, Array.toList_append] at h1
  have ha : a.data.toList.length = c.data.toList.length := by rw [← Lib.size_eq, ← Lib.size_eq]; exact hs
  obtain ⟨h2, h3⟩ := List.append_inj h1 ha
  exact ⟨ByteArray.ext (Array.toList_inj.1 h2), ByteArray.ext (Array.toList_inj.1 h3)⟩
theorem ext_cut (s : ByteArray) (i n : Nat) : s.extract 0 (i + n) = s.extract 0 i ++ s.extract i (i + n) := by
  apply ByteArray.ext
  apply Array.toList_inj.1
  rw [ByteArray.data_append, Array.toList_append, Lib.extract_data, Lib.extract_data, Lib.extract_data, List.drop_zero, Nat.sub_zero, Nat.sub_zero, Nat.add_sub_cancel_left, List.take_add]

/-- The pages' bytes are those that are saved, page by page. -/
theorem pages_eq {m : ByteArray} (hm : m.size = 768) (d : Ln) (hp : P0.pagesOk d.pg = true) (hsv : d.sav.size = d.pg.length * 32) : ∀ k, k ≤ d.pg.length → (N0.to (KL.pgAt m d) k = true ↔ O0.joined m d.pg k = d.sav.extract 0 (k * 32))
  | 0, _ => by
    constructor
    · intro _
      apply ByteArray.ext
      apply Array.toList_inj.1
      rw [Lib.extract_data]
      simp [O0.joined]
    · intro _
      rfl
  | k + 1, hk => by
    have ih := pages_eq hm d hp hsv k (by omega)
    have hjs := O0.joined_size hm hp k (by omega)
    have hxs : (d.sav.extract 0 (k * 32)).size = k * 32 := by rw [ByteArray.size_extract]; omega
    have hpt : B2.part d.sav ((k : Int) * 32) 32 = d.sav.extract (k * 32) (k * 32 + 32) := by
      rw [B2.part, show B2.lies d.sav.size ((k : Int) * 32) 32 = true from decide_eq_true (by omega), if_pos rfl, show ((k : Int) * 32).toNat = k * 32 by omega, show ((k : Int) * 32 + 32).toNat = k * 32 + 32 by omega]
    rw [N0.to_succ, Bool.and_eq_true, ih, O0.joined, show (k + 1) * 32 = k * 32 + 32 by omega, ext_cut]
    unfold KL.pgAt
    rw [decide_eq_true_eq, hpt]
    constructor
    · rintro ⟨h1, h2⟩
      rw [h1, h2]
    · intro h
      obtain ⟨h1, h2⟩ := app_inj h (by omega)
      exact ⟨h1, h2.symm⟩

theorem nulls16 : R0.putI 0 0 0 [] = B4.zeros 16 := by decide +kernel

/-- A record that tells of no file is empty. -/
theorem free_rec {s : ByteArray} (h : G0.isI s = true) : G0.gK s = 0 ↔ s = B4.zeros 16 := by
  have h' := h
  simp only [G0.isI, Bool.and_eq_true, decide_eq_true_eq, beq_iff_eq] at h'
  obtain ⟨hs, ht⟩ := h'
  rw [ByteArray.toList_eq, ByteArray.toList_eq] at ht
  have ht' : G0.txt s = s := ByteArray.ext (Array.toList_inj.1 ht)
  rw [G0.gK, if_pos h]
  constructor
  · intro h0
    have hok : I0.ok (B1.byteAt s 0) (B1.byteAt s 1) (B6.pairAt s 2) (G0.pgs s (G0.cnt s)) = true := by
      cases hk : I0.ok (B1.byteAt s 0) (B1.byteAt s 1) (B6.pairAt s 2) (G0.pgs s (G0.cnt s)) with
      | true => rfl
      | false =>
        have : (G0.txt s).size = 0 := by
          rw [G0.txt, R0.putI, hk]
          rfl
        rw [ht', hs] at this
        omega
    have h1 := hok
    rw [h0, I0.ok, if_pos rfl, I0.free] at h1
    simp only [Bool.and_eq_true, decide_eq_true_eq] at h1
    obtain ⟨a1, a2, a3⟩ := h1
    have a4 : G0.pgs s (G0.cnt s) = [] := List.eq_nil_of_length_eq_zero a3
    rw [← ht', G0.txt, h0, a1, a2, a4]
    exact nulls16
  · intro hz
    rw [hz]
    decide +kernel

/-- The inodes of the files are those that are not free. -/
theorem mem_to (m : ByteArray) (P : Nat → ByteArray) : ∀ n (z : Int), z ∈ (FI.filesTo m P n).map (fun f => f.ino) ↔ ∃ i, i < n ∧ z = (i : Int) ∧ tK m i ≠ 0
  | 0, z => by simp [FI.filesTo]
  | n + 1, z => by
    rw [FI.filesTo, List.map_append, List.mem_append, mem_to m P n z]
    by_cases hk : tK m n = 0
    · rw [if_pos hk]
      constructor
      · rintro (⟨i, h1, h2, h3⟩ | h)
        · exact ⟨i, by omega, h2, h3⟩
        · cases h
      · rintro ⟨i, h1, h2, h3⟩
        by_cases hi : i = n
        · rw [hi] at h3
          exact absurd hk h3
        · exact Or.inl ⟨i, by omega, h2, h3⟩
    · rw [if_neg hk]
      constructor
      · rintro (⟨i, h1, h2, h3⟩ | h)
        · exact ⟨i, by omega, h2, h3⟩
        · simp only [List.map_cons, List.map_nil, List.mem_singleton] at h
          exact ⟨n, by omega, by rw [h]; rfl, hk⟩
      · rintro ⟨i, h1, h2, h3⟩
        by_cases hi : i = n
        · right
          subst hi
          simp only [List.map_cons, List.map_nil, List.mem_singleton]
          rw [h2]
          rfl
        · exact Or.inl ⟨i, by omega, h2, h3⟩

theorem fresh_eq {m : ByteArray} (hs : sound m = true) {z : Int} (h1 : 1 ≤ z) (h7 : z ≤ 7) : O0.recd m z = B4.zeros 16 ↔ ¬ z ∈ fin m := by
  obtain ⟨hm, hn, _, _⟩ := FI.sound_parts hs
  obtain ⟨i, rfl⟩ : ∃ i : Nat, z = (i : Int) := ⟨z.toNat, by omega⟩
  have hno := N0.to_iff.1 hn i (by omega)
  have hI : G0.isI (O0.recd m (i : Int)) = true := by
    simp only [D1.nodeOk, Bool.and_eq_true] at hno
    exact hno.1
  rw [← free_rec hI]
  unfold fin FI.files
  rw [if_pos hs, mem_to]
  constructor
  · rintro h ⟨j, hj, he, hk⟩
    have : j = i := by omega
    subst this
    exact hk h
  · intro h
    by_cases hk : tK m i = 0
    · exact hk
    · exact absurd ⟨i, by omega, rfl, hk⟩ h

theorem apart_iff (pg po : List Int) : N0.apart pg po = true ↔ ∀ z ∈ po, ¬ z ∈ pg := by
  unfold N0.apart
  rw [N0.to_iff]
  constructor
  · intro h z hz
    obtain ⟨i, hi, rfl⟩ := N0.mem_getD hz
    have := h i hi
    simp only [N0.apAt, Bool.not_eq_true'] at this
    intro hc
    rw [N0.has_iff.2 hc] at this
    cases this
  · intro h i hi
    have := h _ (N0.getD_mem hi)
    simp only [N0.apAt, Bool.not_eq_true']
    cases hh : P0.has pg (po.getD i 0) with
    | false => rfl
    | true => exact absurd (N0.has_iff.1 hh) this

theorem kept_iff (po us : List Int) : (Y6.srt (Y6.kept true po us)).length = 0 ↔ N0.apart us po = true := by
  rw [Y6.srt_length, apart_iff]
  unfold Y6.kept
  rw [List.length_eq_zero_iff, List.filter_eq_nil_iff]
  constructor
  · intro h z hz hc
    exact h z hz (by rw [N0.has_iff.2 hc]; rfl)
  · intro h z hz hc
    have h1 : P0.has us z = true := by simpa using hc
    exact h z hz (N0.has_iff.1 h1)

/-- What is asked of one loan. -/
theorem lOk_has {m : ByteArray} (hs : sound m = true) (d : Ln) : KL.lOk m (used m) d = KH.has m (used m) (fin m) d := by
  obtain ⟨hm, _, _, _⟩ := FI.sound_parts hs
  unfold KL.lOk KH.has
  cases hok : N0.loanOk d with
  | false => rfl
  | true =>
    obtain ⟨hI, hK, hgz, hsv, hio, -, hp6, hp4, hp2, hpp, hfi, -, -⟩ := N0.loanOk_is hok
    rw [Bool.true_and, Bool.true_and]
    by_cases hrc : O0.recd m d.ino = d.rc
    · rw [decide_eq_true hrc, decide_eq_true hrc.symm]
      have hl : O0.isL m d.ino = true := O0.isL_of hm (by rw [hrc]; exact hI) (by
        rw [hrc]
        rw [G0.gK, if_pos hI] at hK
        exact hK)
      rw [hl, Bool.true_and, Bool.true_and, Bool.true_and]
      have e1 : N0.to (KL.pgAt m d) d.pg.length = decide (O0.joined m d.pg d.pg.length = d.sav) := by
        rw [Bool.eq_iff_iff, pages_eq hm d (KH.pagesOk_left hpp) hsv d.pg.length (Nat.le_refl _), decide_eq_true_eq]
        have hx : d.sav.extract 0 (d.pg.length * 32) = d.sav := by
          apply ByteArray.ext
          apply Array.toList_inj.1
          rw [Lib.extract_data, List.drop_zero, Nat.sub_zero, ← hsv, Lib.size_eq, List.take_length]
        rw [hx]
      have e2 : N0.to (KL.frAt m d) d.fr.length = N0.apart (fin m) d.fr := by
        rw [Bool.eq_iff_iff, apart_iff, N0.to_iff]
        constructor
        · intro h z hz
          obtain ⟨i, hi, rfl⟩ := N0.mem_getD hz
          have h1 := h i hi
          unfold KL.frAt at h1
          have h2 := hfi _ hz
          exact (fresh_eq hs h2.1 h2.2).1 (of_decide_eq_true h1)
        · intro h i hi
          have hz := N0.getD_mem hi
          have h2 := hfi _ hz
          unfold KL.frAt
          exact decide_eq_true ((fresh_eq hs h2.1 h2.2).2 (h _ hz))
      have e3 : decide ((Y6.srt (Y6.kept true d.po (used m))).length = 0) = N0.apart (used m) d.po := by
        rw [Bool.eq_iff_iff, decide_eq_true_eq]
        exact kept_iff _ _
      rw [e1, e2, e3]
    · rw [decide_eq_false hrc, decide_eq_false (fun h => hrc h.symm), Bool.false_and, Bool.false_and, Bool.and_false]

theorem gath_perm (f h : Ln → List Int) (ds : List Ln) : ∀ k, (gath f ds k ++ gath h ds k).Perm (gath (fun d => f d ++ h d) ds k)
  | 0 => List.Perm.refl _
  | k + 1 => by
    rw [gath, gath, gath]
    refine List.Perm.trans ?_ ((gath_perm f h ds k).append_right _)
    rw [List.append_assoc, List.append_assoc]
    exact (List.perm_append_comm_assoc _ _ _).append_left _
theorem once_perm {xs ys : List Int} (h : xs.Perm ys) : once xs = once ys := by
  rw [Bool.eq_iff_iff, once_iff, once_iff]
  exact h.nodup_iff

theorem asc_iff (k : Kp) : N0.asc (KI.ginos k.ds) = true ↔ ∀ j, j < k.ds.length → (j = 0 ∨ (dat k.ds (j - 1)).ino < (dat k.ds j).ino) := by
  have hl := KI.gi_len k.ds k.ds.length
  unfold N0.asc KI.ginos
  rw [N0.to_iff, hl]
  constructor
  · intro h j hj
    have h1 := h j hj
    simp only [N0.ascAt, Bool.or_eq_true, decide_eq_true_eq] at h1
    rcases h1 with h1 | h1
    · exact Or.inl h1
    · right
      rwa [KI.gi_get _ _ _ (by omega), KI.gi_get _ _ _ hj] at h1
  · intro h j hj
    simp only [N0.ascAt, Bool.or_eq_true, decide_eq_true_eq]
    rcases h j hj with h1 | h1
    · exact Or.inl h1
    · right
      rwa [KI.gi_get _ _ _ (by omega), KI.gi_get _ _ _ hj]

/-- The two ask the same. -/
theorem sK_eq (k : Kp) : KS.sK k = KI.iK k := by
  unfold KS.sK KI.iK
  cases hd : D1.ok k.mem k.dur with
  | false => rfl
  | true =>
    obtain ⟨h1, h2⟩ := D1.ok_true hd
    have hck : B1.inB k.ck 0 999999 = (!decide (k.ck < 0) && !decide (999999 < k.ck)) := by
      rw [Bool.eq_iff_iff, N0.inB_iff, Bool.and_eq_true, Bool.not_eq_true', Bool.not_eq_true', decide_eq_false_iff_not, decide_eq_false_iff_not]
      omega
    rw [hck]
    cases hs : sound (truth k) with
    | false => simp
    | true =>
      have e1 : once (gath (fun d : Ln => d.ino :: d.fr) k.ds k.ds.length) = once (KI.ginos k.ds ++ KI.gfr k.ds) := (once_perm (gath_perm (fun d : Ln => [d.ino]) (fun d : Ln => d.fr) k.ds k.ds.length)).symm
      have e2 : KS.outs k = KI.lasts k := (KX.rest_eq k.mem k.dur h1 h2 k.ds k.ds.length).symm
      have e3 : N0.to (KS.lAt k) k.ds.length = (N0.asc (KI.ginos k.ds) && N0.to (KI.hAt k) k.ds.length) := by
        rw [Bool.eq_iff_iff, Bool.and_eq_true, asc_iff, N0.to_iff, N0.to_iff]
        have hh : ∀ j, KS.lAt k j = (KI.hAt k j && (decide (j = 0) || decide ((dat k.ds (j - 1)).ino < (dat k.ds j).ino))) := fun j => by
          unfold KS.lAt KI.hAt
          rw [lOk_has hs]
        constructor
        · intro h
          refine ⟨fun j hj => ?_, fun j hj => ?_⟩
          · have h3 := h j hj
            rw [hh] at h3
            simp only [Bool.and_eq_true, Bool.or_eq_true, decide_eq_true_eq] at h3
            exact h3.2
          · have h3 := h j hj
            rw [hh] at h3
            simp only [Bool.and_eq_true] at h3
            exact h3.1
        · rintro ⟨h3, h4⟩ j hj
          rw [hh, h4 j hj]
          simp only [Bool.true_and, Bool.or_eq_true, decide_eq_true_eq]
          exact h3 j hj
      rw [e1, e2, e3]
      show _ = _
      generalize once (KI.ginos k.ds ++ KI.gfr k.ds) = b1
      generalize KI.lasts k = b2
      generalize N0.asc (KI.ginos k.ds) = b3
      generalize N0.to (KI.hAt k) k.ds.length = b4
      generalize once (KI.gpo k.ds) = b5
      generalize decide (k.ck < 0) = b6
      generalize decide (999999 < k.ck) = b7
      cases b1 <;> cases b2 <;> cases b3 <;> cases b4 <;> cases b5 <;> cases b6 <;> cases b7 <;> rfl
end Go.Proofs.YtdljajjgppcjpaaGreat.KY
