/- Joined texts: plain facts and contracts. -/
import Derived.Test.YtljnkicgahepfaaGreatDoorJlA
import Derived.Test.YtljnkicgahepfaaGreatDoorJlY
import Derived.Test.YtljnkicgahepfaaGreatDoorJlZA
import Derived.Test.YtljnkicgahepfaaGreatDoorJlZH
import Derived.Test.YtljnkicgahepfaaGreatDoorJlG
import Derived.Test.YtljnkicgahepfaaGreatDoorJlW
set_option linter.unusedVariables false
set_option linter.unusedSimpArgs false
set_option maxRecDepth 10000
namespace Go.Proofs.YtljnkicgahepfaaGreatDoor.KS
open Go.ChangeShapes Go.WideShapes Go.ChangeAt Go.RowKit
open N0 (Ln)
open N1 (Sl Lists Fit LB)
open Z0 (dat Kp Lns kval)
open Z4 (Bk bk_new truth)
open KO (gath Out)
open KP (once)
open KT (outS)
open US (used)
open TW (sound)
def lAt (k : Kp) (j : Nat) : Bool := KL.lOk (truth k) (used (truth k)) (dat k.ds j) && (decide (j = 0) || decide ((dat k.ds (j - 1)).ino < (dat k.ds j).ino))
def outs (k : Kp) : Bool := (outS k.mem k.ds k.ds.length).toList == (outS k.dur k.ds k.ds.length).toList
def sK (k : Kp) : Bool := D1.ok k.mem k.dur && (B1.inB k.ck 0 999999 && (sound (truth k) && (once (gath (fun d : Ln => d.po) k.ds k.ds.length) && (once (gath (fun d : Ln => d.ino :: d.fr) k.ds k.ds.length) && (outs k && N0.to (lAt k) k.ds.length)))))
theorem truth_size (k : Kp) : (truth k).size = k.mem.size := Z4.unAll_size _ _ _
set_option maxHeartbeats 8000000 in
theorem spec_KeeperOk (k : Kp) (a : Option Addr) (c : Nat) (ss : Nat → Sl) (w : World) (hm1 : k.mem.size ≤ 1048576) (hm2 : k.dur.size ≤ 1048576) (ht : k.ds.length + Z1.tot k.ds k.ds.length ≤ 1048576) (hF : Z4.Fits k.ds ss) (hR : Lns w a k.ds ss) :
  Calls Tryz.prog 13 #[kval k a c] w fun e w' => e = .returned (.bool (sK k)) ∧ Below w.heap.size w w' := by
 have xc := bk_new w k a c
 have hn : k.ds.length ≤ 1048576 := by omega
 have hg1 : (gath (fun d : Ln => d.po) k.ds k.ds.length).length ≤ 1048576 := by
  have h1 := KO.gath_len (fun d : Ln => d.po) k.ds 0 (fun d => by unfold N3.total; omega) k.ds.length
  omega
 have hg2 : (gath (fun d : Ln => d.ino :: d.fr) k.ds k.ds.length).length ≤ 1048576 := by
  have h1 := KO.gath_len (fun d : Ln => d.ino :: d.fr) k.ds 0 (fun d => by unfold N3.total; simp only [List.length_cons]; omega) k.ds.length
  omega
 have htsz := truth_size k
 have HL : Hid (∀ W, Below w.heap.size w W → Lns W a k.ds ss) := fun W hb => hR.below hb
 have HF : Hid (Z4.Fits k.ds ss) := hF
 have HTr : Hid (∀ W, Below w.heap.size w W → Calls Tryz.prog 42 #[kval k a c] W fun e w' => e = .returned (.string (truth k)) ∧ Below W.heap.size W w') := fun W hb => Z4.spec_Truth k a c ss W (by omega) hn hF (hR.below hb)
 have HDv : Hid (∀ W, Calls Tryz.prog 43 #[.agg #[.string k.mem, .string k.dur]] W fun e w' => e = .returned (.bool (D1.ok k.mem k.dur)) ∧ Below W.heap.size W w') := fun W => (D1.spec_DevOk k.mem k.dur W (by unfold maxLen; omega) (by unfold maxLen; omega)).mono fun e w' ⟨he, hw⟩ => ⟨he, by rw [hw]; exact K0.below_new _ _⟩
 have HSo : Hid (∀ W, Calls Tryz.prog 45 #[.string (truth k)] W fun e w' => e = .returned (.bool (sound (truth k))) ∧ Below W.heap.size W w') := fun W => TS.spec_Sound (truth k) W (by omega)
 have HUs : Hid (∀ W, Calls Tryz.prog 50 #[.string (truth k)] W fun e w' => ∃ a c, e = .returned (.slice a (used (truth k)).length c) ∧ P0.Row w' a (used (truth k)) ∧ Below W.heap.size W w') := fun W => (US.spec_Used (truth k) W (by omega)).mono fun e w' ⟨a, c, he, ho, hb⟩ => ⟨a, c, he, ho.row, hb⟩
 have HPo : Hid (∀ W, Below w.heap.size w W → Calls Tryz.prog 47 #[kval k a c] W (Out (gath (fun d : Ln => d.po) k.ds k.ds.length) W)) := fun W hb => KO.l06Pools k a c ss W hn ht (hR.below hb)
 have HLe : Hid (∀ W, Below w.heap.size w W → Calls Tryz.prog 48 #[kval k a c] W (Out (gath (fun d : Ln => d.ino :: d.fr) k.ds k.ds.length) W)) := fun W hb => KP.l06Lent k a c ss W hn ht (hR.below hb)
 have HOu : Hid (∀ W, Below w.heap.size w W → Calls Tryz.prog 49 #[kval k a c] W fun e w' => e = .returned (.bool (outs k)) ∧ Below W.heap.size W w') := fun W hb => KT.l06Outside k a c ss W (by omega) (by omega) hn hF (hR.below hb)
 have HT1 : Hid (∀ a c W, (gath (fun d : Ln => d.po) k.ds k.ds.length).length ≤ c → P0.Row W a (gath (fun d : Ln => d.po) k.ds k.ds.length) → Calls Tryz.prog 46 #[.slice a (gath (fun d : Ln => d.po) k.ds k.ds.length).length c] W fun e w' => e = .returned (.bool (!(once (gath (fun d : Ln => d.po) k.ds k.ds.length)))) ∧ ∃ n, w' = W.drewN n) := fun a c W hc h => KP.l06Twice a c _ W (by omega) hc h
 have HT2 : Hid (∀ a c W, (gath (fun d : Ln => d.ino :: d.fr) k.ds k.ds.length).length ≤ c → P0.Row W a (gath (fun d : Ln => d.ino :: d.fr) k.ds k.ds.length) → Calls Tryz.prog 46 #[.slice a (gath (fun d : Ln => d.ino :: d.fr) k.ds k.ds.length).length c] W fun e w' => e = .returned (.bool (!(once (gath (fun d : Ln => d.ino :: d.fr) k.ds k.ds.length)))) ∧ ∃ n, w' = W.drewN n) := fun a c W hc h => KP.l06Twice a c _ W (by omega) hc h
 have HLk : Hid (∀ (j : Nat) (ua : Option Addr) (uc : Nat) W, (truth k).size = 768 → Below w.heap.size w W → P0.Row W ua (used (truth k)) → j < k.ds.length → Calls Tryz.prog 51 #[.string (truth k), .slice ua (used (truth k)).length uc, N1.val (dat k.ds j) (ss j)] W fun e w' => e = .returned (.bool (KL.lOk (truth k) (used (truth k)) (dat k.ds j))) ∧ Below W.heap.size W w') := fun j ua uc W h1 hb hu hj => by
  obtain ⟨f1, f2, f3⟩ := hF j hj
  exact KL.l06LoanOk (truth k) ua uc (used (truth k)) (dat k.ds j) (ss j) W h1 f1 f2 f3 (US.used_len _) ((hR.below hb).sub j hj) hu
 have HD : Hid (D1.ok k.mem k.dur = true → (truth k).size = 768) := fun h => by rw [truth_size]; exact (D1.ok_true h).1
 have c0 := xc.arg.c0
 have c1 := xc.arg.c1
 have c2 := xc.arg.c2
 have c3 := xc.arg.c3
 clear hR hF
 unfold sK
 obtain ⟨m, em⟩ : ∃ m, truth k = m := ⟨_, rfl⟩
 obtain ⟨us, eu⟩ : ∃ us, used m = us := ⟨_, rfl⟩
 rw [em, eu] at HUs HLk
 rw [em] at HTr HSo HD ⊢
 obtain ⟨g1, eg1⟩ : ∃ g, gath (fun d : Ln => d.po) k.ds k.ds.length = g := ⟨_, rfl⟩
 obtain ⟨g2, eg2⟩ : ∃ g, gath (fun d : Ln => d.ino :: d.fr) k.ds k.ds.length = g := ⟨_, rfl⟩
 rw [eg1] at HPo HT1 ⊢
 rw [eg2] at HLe HT2 ⊢
 have HLA : Hid (∀ j, lAt k j = (KL.lOk m us (dat k.ds j) && (decide (j = 0) || decide ((dat k.ds (j - 1)).ino < (dat k.ds j).ino)))) := fun j => by
  show lAt k j = _
  unfold lAt
  rw [em, eu]
 clear em eu eg1 eg2 htsz hg1 hg2
 cases hc0 : D1.ok k.mem k.dur with
 | false =>
  rw [hc0] at HDv
  go_enter Tryz.func13, Tryz.ntmps13
  go_wp2_with (first
   | (go_at_call 42; refine (HTr.out _ xc.bel).mono ?_; rintro e w1 ⟨rfl, b1⟩; replace xc := xc.below b1; replace c0 := xc.arg.c0; replace c1 := xc.arg.c1; replace c2 := xc.arg.c2; replace c3 := xc.arg.c3)
   | (go_at_call 43; refine (HDv.out _).mono ?_; rintro e w1 ⟨rfl, b1⟩; replace xc := xc.below b1; replace c0 := xc.arg.c0; replace c1 := xc.arg.c1; replace c2 := xc.arg.c2; replace c3 := xc.arg.c3)
   | (go_at_call 44; refine (B1.l01In_any _ _ _ _).mono ?_; rintro e w' ⟨rfl, rfl⟩)
   | (go_at_call 45; refine (HSo.out _).mono ?_; rintro e w1 ⟨rfl, b1⟩; replace xc := xc.below b1; replace c0 := xc.arg.c0; replace c1 := xc.arg.c1; replace c2 := xc.arg.c2; replace c3 := xc.arg.c3)
   | (go_at_call 47; refine (HPo.out _ xc.bel).mono ?_; rintro e w1 ⟨ga, gc, rfl, go1, gc1, b1⟩; replace xc := xc.below b1; replace c0 := xc.arg.c0; replace c1 := xc.arg.c1; replace c2 := xc.arg.c2; replace c3 := xc.arg.c3; have gr := go1.row)
   | (go_at_call 48; refine (HLe.out _ xc.bel).mono ?_; rintro e w1 ⟨ha, hc, rfl, ho1, hc1, b1⟩; replace xc := xc.below b1; replace c0 := xc.arg.c0; replace c1 := xc.arg.c1; replace c2 := xc.arg.c2; replace c3 := xc.arg.c3; have hr := ho1.row)
   | (go_at_call 46; refine (HT1.out _ _ _ gc1 gr).mono ?_; rintro e w1 ⟨rfl, n1, rfl⟩; replace xc := xc.below (K0.below_drewN (Below.refl _ _) n1); replace c0 := xc.arg.c0; replace c1 := xc.arg.c1; replace c2 := xc.arg.c2; replace c3 := xc.arg.c3; clear HT1 gr gc1)
   | (go_at_call 46; refine (HT2.out _ _ _ hc1 hr).mono ?_; rintro e w1 ⟨rfl, n1, rfl⟩; replace xc := xc.below (K0.below_drewN (Below.refl _ _) n1); replace c0 := xc.arg.c0; replace c1 := xc.arg.c1; replace c2 := xc.arg.c2; replace c3 := xc.arg.c3)
   | (go_at_call 49; refine (HOu.out _ xc.bel).mono ?_; rintro e w1 ⟨rfl, b1⟩; replace xc := xc.below b1; replace c0 := xc.arg.c0; replace c1 := xc.arg.c1; replace c2 := xc.arg.c2; replace c3 := xc.arg.c3)
   | (go_at_call 50; refine (HUs.out _).mono ?_; rintro e w1 ⟨ua, uc, rfl, ur, b1⟩; replace xc := xc.below b1; replace c0 := xc.arg.c0; replace c1 := xc.arg.c1; replace c2 := xc.arg.c2; replace c3 := xc.arg.c3))
  go_ret
  exact ⟨rfl, xc.bel⟩
 | true =>
  rw [hc0] at HDv
  have hm : m.size = 768 := HD.out hc0
  cases hc1 : B1.inB k.ck 0 999999 with
  | false =>
   go_enter Tryz.func13, Tryz.ntmps13
   go_wp2_with (first
    | (go_at_call 42; refine (HTr.out _ xc.bel).mono ?_; rintro e w1 ⟨rfl, b1⟩; replace xc := xc.below b1; replace c0 := xc.arg.c0; replace c1 := xc.arg.c1; replace c2 := xc.arg.c2; replace c3 := xc.arg.c3)
    | (go_at_call 43; refine (HDv.out _).mono ?_; rintro e w1 ⟨rfl, b1⟩; replace xc := xc.below b1; replace c0 := xc.arg.c0; replace c1 := xc.arg.c1; replace c2 := xc.arg.c2; replace c3 := xc.arg.c3)
    | (go_at_call 44; refine (B1.l01In_any _ _ _ _).mono ?_; rintro e w' ⟨rfl, rfl⟩)
    | (go_at_call 45; refine (HSo.out _).mono ?_; rintro e w1 ⟨rfl, b1⟩; replace xc := xc.below b1; replace c0 := xc.arg.c0; replace c1 := xc.arg.c1; replace c2 := xc.arg.c2; replace c3 := xc.arg.c3)
    | (go_at_call 47; refine (HPo.out _ xc.bel).mono ?_; rintro e w1 ⟨ga, gc, rfl, go1, gc1, b1⟩; replace xc := xc.below b1; replace c0 := xc.arg.c0; replace c1 := xc.arg.c1; replace c2 := xc.arg.c2; replace c3 := xc.arg.c3; have gr := go1.row)
    | (go_at_call 48; refine (HLe.out _ xc.bel).mono ?_; rintro e w1 ⟨ha, hc, rfl, ho1, hc1, b1⟩; replace xc := xc.below b1; replace c0 := xc.arg.c0; replace c1 := xc.arg.c1; replace c2 := xc.arg.c2; replace c3 := xc.arg.c3; have hr := ho1.row)
    | (go_at_call 46; refine (HT1.out _ _ _ gc1 gr).mono ?_; rintro e w1 ⟨rfl, n1, rfl⟩; replace xc := xc.below (K0.below_drewN (Below.refl _ _) n1); replace c0 := xc.arg.c0; replace c1 := xc.arg.c1; replace c2 := xc.arg.c2; replace c3 := xc.arg.c3; clear HT1 gr gc1)
    | (go_at_call 46; refine (HT2.out _ _ _ hc1 hr).mono ?_; rintro e w1 ⟨rfl, n1, rfl⟩; replace xc := xc.below (K0.below_drewN (Below.refl _ _) n1); replace c0 := xc.arg.c0; replace c1 := xc.arg.c1; replace c2 := xc.arg.c2; replace c3 := xc.arg.c3)
    | (go_at_call 49; refine (HOu.out _ xc.bel).mono ?_; rintro e w1 ⟨rfl, b1⟩; replace xc := xc.below b1; replace c0 := xc.arg.c0; replace c1 := xc.arg.c1; replace c2 := xc.arg.c2; replace c3 := xc.arg.c3)
    | (go_at_call 50; refine (HUs.out _).mono ?_; rintro e w1 ⟨ua, uc, rfl, ur, b1⟩; replace xc := xc.below b1; replace c0 := xc.arg.c0; replace c1 := xc.arg.c1; replace c2 := xc.arg.c2; replace c3 := xc.arg.c3))
   go_ret
   exact ⟨rfl, xc.bel⟩
  | true =>
   cases hc2 : sound m with
   | false =>
    rw [hc2] at HSo
    go_enter Tryz.func13, Tryz.ntmps13
    go_wp2_with (first
     | (go_at_call 42; refine (HTr.out _ xc.bel).mono ?_; rintro e w1 ⟨rfl, b1⟩; replace xc := xc.below b1; replace c0 := xc.arg.c0; replace c1 := xc.arg.c1; replace c2 := xc.arg.c2; replace c3 := xc.arg.c3)
     | (go_at_call 43; refine (HDv.out _).mono ?_; rintro e w1 ⟨rfl, b1⟩; replace xc := xc.below b1; replace c0 := xc.arg.c0; replace c1 := xc.arg.c1; replace c2 := xc.arg.c2; replace c3 := xc.arg.c3)
     | (go_at_call 44; refine (B1.l01In_any _ _ _ _).mono ?_; rintro e w' ⟨rfl, rfl⟩)
     | (go_at_call 45; refine (HSo.out _).mono ?_; rintro e w1 ⟨rfl, b1⟩; replace xc := xc.below b1; replace c0 := xc.arg.c0; replace c1 := xc.arg.c1; replace c2 := xc.arg.c2; replace c3 := xc.arg.c3)
     | (go_at_call 47; refine (HPo.out _ xc.bel).mono ?_; rintro e w1 ⟨ga, gc, rfl, go1, gc1, b1⟩; replace xc := xc.below b1; replace c0 := xc.arg.c0; replace c1 := xc.arg.c1; replace c2 := xc.arg.c2; replace c3 := xc.arg.c3; have gr := go1.row)
     | (go_at_call 48; refine (HLe.out _ xc.bel).mono ?_; rintro e w1 ⟨ha, hc, rfl, ho1, hc1, b1⟩; replace xc := xc.below b1; replace c0 := xc.arg.c0; replace c1 := xc.arg.c1; replace c2 := xc.arg.c2; replace c3 := xc.arg.c3; have hr := ho1.row)
     | (go_at_call 46; refine (HT1.out _ _ _ gc1 gr).mono ?_; rintro e w1 ⟨rfl, n1, rfl⟩; replace xc := xc.below (K0.below_drewN (Below.refl _ _) n1); replace c0 := xc.arg.c0; replace c1 := xc.arg.c1; replace c2 := xc.arg.c2; replace c3 := xc.arg.c3; clear HT1 gr gc1)
     | (go_at_call 46; refine (HT2.out _ _ _ hc1 hr).mono ?_; rintro e w1 ⟨rfl, n1, rfl⟩; replace xc := xc.below (K0.below_drewN (Below.refl _ _) n1); replace c0 := xc.arg.c0; replace c1 := xc.arg.c1; replace c2 := xc.arg.c2; replace c3 := xc.arg.c3)
     | (go_at_call 49; refine (HOu.out _ xc.bel).mono ?_; rintro e w1 ⟨rfl, b1⟩; replace xc := xc.below b1; replace c0 := xc.arg.c0; replace c1 := xc.arg.c1; replace c2 := xc.arg.c2; replace c3 := xc.arg.c3)
     | (go_at_call 50; refine (HUs.out _).mono ?_; rintro e w1 ⟨ua, uc, rfl, ur, b1⟩; replace xc := xc.below b1; replace c0 := xc.arg.c0; replace c1 := xc.arg.c1; replace c2 := xc.arg.c2; replace c3 := xc.arg.c3))
    go_ret
    exact ⟨rfl, xc.bel⟩
   | true =>
    rw [hc2] at HSo
    cases hc3 : once g1 with
    | false =>
     rw [hc3] at HT1
     go_enter Tryz.func13, Tryz.ntmps13
     go_wp2_with (first
      | (go_at_call 42; refine (HTr.out _ xc.bel).mono ?_; rintro e w1 ⟨rfl, b1⟩; replace xc := xc.below b1; replace c0 := xc.arg.c0; replace c1 := xc.arg.c1; replace c2 := xc.arg.c2; replace c3 := xc.arg.c3)
      | (go_at_call 43; refine (HDv.out _).mono ?_; rintro e w1 ⟨rfl, b1⟩; replace xc := xc.below b1; replace c0 := xc.arg.c0; replace c1 := xc.arg.c1; replace c2 := xc.arg.c2; replace c3 := xc.arg.c3)
      | (go_at_call 44; refine (B1.l01In_any _ _ _ _).mono ?_; rintro e w' ⟨rfl, rfl⟩)
      | (go_at_call 45; refine (HSo.out _).mono ?_; rintro e w1 ⟨rfl, b1⟩; replace xc := xc.below b1; replace c0 := xc.arg.c0; replace c1 := xc.arg.c1; replace c2 := xc.arg.c2; replace c3 := xc.arg.c3)
      | (go_at_call 47; refine (HPo.out _ xc.bel).mono ?_; rintro e w1 ⟨ga, gc, rfl, go1, gc1, b1⟩; replace xc := xc.below b1; replace c0 := xc.arg.c0; replace c1 := xc.arg.c1; replace c2 := xc.arg.c2; replace c3 := xc.arg.c3; have gr := go1.row)
      | (go_at_call 48; refine (HLe.out _ xc.bel).mono ?_; rintro e w1 ⟨ha, hc, rfl, ho1, hc1, b1⟩; replace xc := xc.below b1; replace c0 := xc.arg.c0; replace c1 := xc.arg.c1; replace c2 := xc.arg.c2; replace c3 := xc.arg.c3; have hr := ho1.row)
      | (go_at_call 46; refine (HT1.out _ _ _ gc1 gr).mono ?_; rintro e w1 ⟨rfl, n1, rfl⟩; replace xc := xc.below (K0.below_drewN (Below.refl _ _) n1); replace c0 := xc.arg.c0; replace c1 := xc.arg.c1; replace c2 := xc.arg.c2; replace c3 := xc.arg.c3; clear HT1 gr gc1)
      | (go_at_call 46; refine (HT2.out _ _ _ hc1 hr).mono ?_; rintro e w1 ⟨rfl, n1, rfl⟩; replace xc := xc.below (K0.below_drewN (Below.refl _ _) n1); replace c0 := xc.arg.c0; replace c1 := xc.arg.c1; replace c2 := xc.arg.c2; replace c3 := xc.arg.c3)
      | (go_at_call 49; refine (HOu.out _ xc.bel).mono ?_; rintro e w1 ⟨rfl, b1⟩; replace xc := xc.below b1; replace c0 := xc.arg.c0; replace c1 := xc.arg.c1; replace c2 := xc.arg.c2; replace c3 := xc.arg.c3)
      | (go_at_call 50; refine (HUs.out _).mono ?_; rintro e w1 ⟨ua, uc, rfl, ur, b1⟩; replace xc := xc.below b1; replace c0 := xc.arg.c0; replace c1 := xc.arg.c1; replace c2 := xc.arg.c2; replace c3 := xc.arg.c3))
     go_ret
     exact ⟨rfl, xc.bel⟩
    | true =>
     rw [hc3] at HT1
     cases hc4 : once g2 with
     | false =>
      rw [hc4] at HT2
      go_enter Tryz.func13, Tryz.ntmps13
      go_wp2_with (first
       | (go_at_call 42; refine (HTr.out _ xc.bel).mono ?_; rintro e w1 ⟨rfl, b1⟩; replace xc := xc.below b1; replace c0 := xc.arg.c0; replace c1 := xc.arg.c1; replace c2 := xc.arg.c2; replace c3 := xc.arg.c3)
       | (go_at_call 43; refine (HDv.out _).mono ?_; rintro e w1 ⟨rfl, b1⟩; replace xc := xc.below b1; replace c0 := xc.arg.c0; replace c1 := xc.arg.c1; replace c2 := xc.arg.c2; replace c3 := xc.arg.c3)
       | (go_at_call 44; refine (B1.l01In_any _ _ _ _).mono ?_; rintro e w' ⟨rfl, rfl⟩)
       | (go_at_call 45; refine (HSo.out _).mono ?_; rintro e w1 ⟨rfl, b1⟩; replace xc := xc.below b1; replace c0 := xc.arg.c0; replace c1 := xc.arg.c1; replace c2 := xc.arg.c2; replace c3 := xc.arg.c3)
       | (go_at_call 47; refine (HPo.out _ xc.bel).mono ?_; rintro e w1 ⟨ga, gc, rfl, go1, gc1, b1⟩; replace xc := xc.below b1; replace c0 := xc.arg.c0; replace c1 := xc.arg.c1; replace c2 := xc.arg.c2; replace c3 := xc.arg.c3; have gr := go1.row)
       | (go_at_call 48; refine (HLe.out _ xc.bel).mono ?_; rintro e w1 ⟨ha, hc, rfl, ho1, hc1, b1⟩; replace xc := xc.below b1; replace c0 := xc.arg.c0; replace c1 := xc.arg.c1; replace c2 := xc.arg.c2; replace c3 := xc.arg.c3; have hr := ho1.row)
       | (go_at_call 46; refine (HT1.out _ _ _ gc1 gr).mono ?_; rintro e w1 ⟨rfl, n1, rfl⟩; replace xc := xc.below (K0.below_drewN (Below.refl _ _) n1); replace c0 := xc.arg.c0; replace c1 := xc.arg.c1; replace c2 := xc.arg.c2; replace c3 := xc.arg.c3; clear HT1 gr gc1)
       | (go_at_call 46; refine (HT2.out _ _ _ hc1 hr).mono ?_; rintro e w1 ⟨rfl, n1, rfl⟩; replace xc := xc.below (K0.below_drewN (Below.refl _ _) n1); replace c0 := xc.arg.c0; replace c1 := xc.arg.c1; replace c2 := xc.arg.c2; replace c3 := xc.arg.c3)
       | (go_at_call 49; refine (HOu.out _ xc.bel).mono ?_; rintro e w1 ⟨rfl, b1⟩; replace xc := xc.below b1; replace c0 := xc.arg.c0; replace c1 := xc.arg.c1; replace c2 := xc.arg.c2; replace c3 := xc.arg.c3)
       | (go_at_call 50; refine (HUs.out _).mono ?_; rintro e w1 ⟨ua, uc, rfl, ur, b1⟩; replace xc := xc.below b1; replace c0 := xc.arg.c0; replace c1 := xc.arg.c1; replace c2 := xc.arg.c2; replace c3 := xc.arg.c3))
      go_ret
      exact ⟨rfl, xc.bel⟩
     | true =>
      rw [hc4] at HT2
      cases hc5 : outs k with
      | false =>
       rw [hc5] at HOu
       go_enter Tryz.func13, Tryz.ntmps13
       go_wp2_with (first
        | (go_at_call 42; refine (HTr.out _ xc.bel).mono ?_; rintro e w1 ⟨rfl, b1⟩; replace xc := xc.below b1; replace c0 := xc.arg.c0; replace c1 := xc.arg.c1; replace c2 := xc.arg.c2; replace c3 := xc.arg.c3)
        | (go_at_call 43; refine (HDv.out _).mono ?_; rintro e w1 ⟨rfl, b1⟩; replace xc := xc.below b1; replace c0 := xc.arg.c0; replace c1 := xc.arg.c1; replace c2 := xc.arg.c2; replace c3 := xc.arg.c3)
        | (go_at_call 44; refine (B1.l01In_any _ _ _ _).mono ?_; rintro e w' ⟨rfl, rfl⟩)
        | (go_at_call 45; refine (HSo.out _).mono ?_; rintro e w1 ⟨rfl, b1⟩; replace xc := xc.below b1; replace c0 := xc.arg.c0; replace c1 := xc.arg.c1; replace c2 := xc.arg.c2; replace c3 := xc.arg.c3)
        | (go_at_call 47; refine (HPo.out _ xc.bel).mono ?_; rintro e w1 ⟨ga, gc, rfl, go1, gc1, b1⟩; replace xc := xc.below b1; replace c0 := xc.arg.c0; replace c1 := xc.arg.c1; replace c2 := xc.arg.c2; replace c3 := xc.arg.c3; have gr := go1.row)
        | (go_at_call 48; refine (HLe.out _ xc.bel).mono ?_; rintro e w1 ⟨ha, hc, rfl, ho1, hc1, b1⟩; replace xc := xc.below b1; replace c0 := xc.arg.c0; replace c1 := xc.arg.c1; replace c2 := xc.arg.c2; replace c3 := xc.arg.c3; have hr := ho1.row)
        | (go_at_call 46; refine (HT1.out _ _ _ gc1 gr).mono ?_; rintro e w1 ⟨rfl, n1, rfl⟩; replace xc := xc.below (K0.below_drewN (Below.refl _ _) n1); replace c0 := xc.arg.c0; replace c1 := xc.arg.c1; replace c2 := xc.arg.c2; replace c3 := xc.arg.c3; clear HT1 gr gc1)
        | (go_at_call 46; refine (HT2.out _ _ _ hc1 hr).mono ?_; rintro e w1 ⟨rfl, n1, rfl⟩; replace xc := xc.below (K0.below_drewN (Below.refl _ _) n1); replace c0 := xc.arg.c0; replace c1 := xc.arg.c1; replace c2 := xc.arg.c2; replace c3 := xc.arg.c3)
        | (go_at_call 49; refine (HOu.out _ xc.bel).mono ?_; rintro e w1 ⟨rfl, b1⟩; replace xc := xc.below b1; replace c0 := xc.arg.c0; replace c1 := xc.arg.c1; replace c2 := xc.arg.c2; replace c3 := xc.arg.c3)
        | (go_at_call 50; refine (HUs.out _).mono ?_; rintro e w1 ⟨ua, uc, rfl, ur, b1⟩; replace xc := xc.below b1; replace c0 := xc.arg.c0; replace c1 := xc.arg.c1; replace c2 := xc.arg.c2; replace c3 := xc.arg.c3))
       go_ret
       exact ⟨rfl, xc.bel⟩
      | true =>
       rw [hc5] at HOu
       go_enter Tryz.func13, Tryz.ntmps13
       go_wp2_with (first
        | (go_at_call 42; refine (HTr.out _ xc.bel).mono ?_; rintro e w1 ⟨rfl, b1⟩; replace xc := xc.below b1; replace c0 := xc.arg.c0; replace c1 := xc.arg.c1; replace c2 := xc.arg.c2; replace c3 := xc.arg.c3)
        | (go_at_call 43; refine (HDv.out _).mono ?_; rintro e w1 ⟨rfl, b1⟩; replace xc := xc.below b1; replace c0 := xc.arg.c0; replace c1 := xc.arg.c1; replace c2 := xc.arg.c2; replace c3 := xc.arg.c3)
        | (go_at_call 44; refine (B1.l01In_any _ _ _ _).mono ?_; rintro e w' ⟨rfl, rfl⟩)
        | (go_at_call 45; refine (HSo.out _).mono ?_; rintro e w1 ⟨rfl, b1⟩; replace xc := xc.below b1; replace c0 := xc.arg.c0; replace c1 := xc.arg.c1; replace c2 := xc.arg.c2; replace c3 := xc.arg.c3)
        | (go_at_call 47; refine (HPo.out _ xc.bel).mono ?_; rintro e w1 ⟨ga, gc, rfl, go1, gc1, b1⟩; replace xc := xc.below b1; replace c0 := xc.arg.c0; replace c1 := xc.arg.c1; replace c2 := xc.arg.c2; replace c3 := xc.arg.c3; have gr := go1.row)
        | (go_at_call 48; refine (HLe.out _ xc.bel).mono ?_; rintro e w1 ⟨ha, hc, rfl, ho1, hc1, b1⟩; replace xc := xc.below b1; replace c0 := xc.arg.c0; replace c1 := xc.arg.c1; replace c2 := xc.arg.c2; replace c3 := xc.arg.c3; have hr := ho1.row)
        | (go_at_call 46; refine (HT1.out _ _ _ gc1 gr).mono ?_; rintro e w1 ⟨rfl, n1, rfl⟩; replace xc := xc.below (K0.below_drewN (Below.refl _ _) n1); replace c0 := xc.arg.c0; replace c1 := xc.arg.c1; replace c2 := xc.arg.c2; replace c3 := xc.arg.c3; clear HT1 gr gc1)
        | (go_at_call 46; refine (HT2.out _ _ _ hc1 hr).mono ?_; rintro e w1 ⟨rfl, n1, rfl⟩; replace xc := xc.below (K0.below_drewN (Below.refl _ _) n1); replace c0 := xc.arg.c0; replace c1 := xc.arg.c1; replace c2 := xc.arg.c2; replace c3 := xc.arg.c3)
        | (go_at_call 49; refine (HOu.out _ xc.bel).mono ?_; rintro e w1 ⟨rfl, b1⟩; replace xc := xc.below b1; replace c0 := xc.arg.c0; replace c1 := xc.arg.c1; replace c2 := xc.arg.c2; replace c3 := xc.arg.c3)
        | (go_at_call 50; refine (HUs.out _).mono ?_; rintro e w1 ⟨ua, uc, rfl, ur, b1⟩; replace xc := xc.below b1; replace c0 := xc.arg.c0; replace c1 := xc.arg.c1; replace c2 := xc.arg.c2; replace c3 := xc.arg.c3))
       have ru := ur
       clear c0 c1 c2 c3 HTr HDv HSo HUs HPo HLe HOu HT2 HD
       go_loopw [5] (fun i w' => ∃ j : Nat, j ≤ k.ds.length ∧ N0.to (lAt k) j = true ∧ i = .int .i64 j ∧ Bk w k a c w' ∧ P0.Row w' ua us) (fun i _ => k.ds.length - (intOf i).toNat)
       case atStart => exact ⟨0, Nat.zero_le _, rfl, rfl, xc, ru⟩
       case round =>
        obtain ⟨j, hj, hto, rfl, xr, rr⟩ := hrel
        clear xc ru ur
        have c2 := xr.arg.c2
        by_cases hlt : j < k.ds.length
        ·obtain ⟨b, off, hab, hlt0, hc⟩ := (HL.out _ xr.bel).row.get hlt
         have hat := HLA.out j
         have HC : Hid (∀ W, Below w.heap.size w W → P0.Row W ua us → Calls Tryz.prog 51 #[.string m, .slice ua us.length uc, N1.val (dat k.ds j) (ss j)] W fun e w' => e = .returned (.bool (KL.lOk m us (dat k.ds j))) ∧ Below W.heap.size W w') := fun W h1 h2 => HLk.out j ua uc W hm h1 h2 hlt
         have HAt : Hid (∀ i, i < k.ds.length → ∀ W, Below w.heap.size w W → Z0.At W b (off + i * 8) (dat k.ds i) (ss i)) := fun i hi W hW => by
          obtain ⟨b', off', hab', _, hc'⟩ := (HL.out W hW).row.get hlt
          rw [hab] at hab'
          cases hab'
          exact hc' i hi
         have HC2 : Hid (∀ W, K0.Blk w.heap.size (Z0.kvals k a c) W → W.cell? ⟨w.heap.size, 2, none⟩ = some (.slice (some ⟨b, off, none⟩) k.ds.length c)) := fun W h => by
          have := h.c2
          rwa [hab] at this
         have HA1 : Hid (∀ W, Below w.heap.size w W → Z0.At W b (off + j * 8) (dat k.ds j) (ss j)) := fun W hW => HAt.out j hlt W hW
         have hprev : ∀ p, p < j → Hid (∀ W, Below w.heap.size w W → W.cell? ⟨b, off + p * 8, none⟩ = some (.int .i64 (dat k.ds p).ino)) := fun p hp W hW => (HAt.out p (by omega) W hW).1
         obtain ⟨d, ed⟩ : ∃ d, dat k.ds j = d := ⟨_, rfl⟩
         obtain ⟨s, es⟩ : ∃ s, ss j = s := ⟨_, rfl⟩
         rw [ed, es] at HC HA1
         rw [ed] at hat
         rw [hab] at c2
         have e1 : (0 : Int) ≤ (j : Int) := by omega
         have e2 : (j : Int) < (k.ds.length : Int) := by omega
         have x0 : Bk w k a c wr.drew := xr.below ((Below.refl _ _).drew)
         have r0u : P0.Row wr.drew ua us := rr.below ((Below.refl _ _).drew)
         clear hab ed es hc HAt HLk HLA HL HF
         cases hok : KL.lOk m us d with
         | false =>
          rw [hok] at HC hat
          have HT : Hid (N0.to (lAt k) k.ds.length = false) := N0.to_bad hlt hat
          have HS : Hid (∀ W, Below w.heap.size w W → K0.Blk w.heap.size (Z0.kvals k a c) W → W.cell? ⟨w.heap.size, 2, none⟩ = some (.slice (some ⟨b, off, none⟩) k.ds.length c) ∧ W.cell? ⟨b, off + j * 8, none⟩ = some (.int .i64 d.ino) ∧ W.cell? ⟨b, off + j * 8 + 1, none⟩ = some (.int .i64 d.cl) ∧ W.cell? ⟨b, off + j * 8 + 2, none⟩ = some (.int .i64 d.un) ∧ W.cell? ⟨b, off + j * 8 + 3, none⟩ = some (.string d.rc) ∧ W.cell? ⟨b, off + j * 8 + 4, none⟩ = some (.slice s.a1 d.pg.length s.c1) ∧ W.cell? ⟨b, off + j * 8 + 5, none⟩ = some (.string d.sav) ∧ W.cell? ⟨b, off + j * 8 + 6, none⟩ = some (.slice s.a2 d.po.length s.c2) ∧ W.cell? ⟨b, off + j * 8 + 7, none⟩ = some (.slice s.a3 d.fr.length s.c3)) := fun W h1 h2 => ⟨HC2.out W h2, HA1.out W h1⟩
          have s0 := HS.out _ x0.bel x0.arg
          clear hat hok hprev
          go_wp2
          refine wp_region_held (S := fun W => W.cell? ⟨w.heap.size, 2, none⟩ = some (.slice (some ⟨b, off, none⟩) k.ds.length c) ∧ W.cell? ⟨b, off + j * 8, none⟩ = some (.int .i64 d.ino) ∧ W.cell? ⟨b, off + j * 8 + 1, none⟩ = some (.int .i64 d.cl) ∧ W.cell? ⟨b, off + j * 8 + 2, none⟩ = some (.int .i64 d.un) ∧ W.cell? ⟨b, off + j * 8 + 3, none⟩ = some (.string d.rc) ∧ W.cell? ⟨b, off + j * 8 + 4, none⟩ = some (.slice s.a1 d.pg.length s.c1) ∧ W.cell? ⟨b, off + j * 8 + 5, none⟩ = some (.string d.sav) ∧ W.cell? ⟨b, off + j * 8 + 6, none⟩ = some (.slice s.a2 d.po.length s.c2) ∧ W.cell? ⟨b, off + j * 8 + 7, none⟩ = some (.slice s.a3 d.fr.length s.c3)) (by kernel_rfl) ?_
          refine wpAnyH_take (i := 0) (v := .string m) rfl (by kernel_rfl) (by kernel_rfl) (by kernel_rfl) (fun _ _ _ h => h) (Or.inl ⟨by rfl, fun w' hS' => by rfl⟩) s0 ?_
          simp only [BZ.z, Act.put, Nat.reduceAdd]
          refine wpAnyH_take (i := 1) (v := (.slice ua us.length uc)) rfl (by kernel_rfl) (by kernel_rfl) (by kernel_rfl) (fun _ _ _ h => h) (Or.inl ⟨by rfl, fun w' hS' => by rfl⟩) s0 ?_
          simp only [BZ.z, Act.put, Nat.reduceAdd]
          refine wpAnyH_take (i := 2) (v := .pointer (some ⟨w.heap.size, 2, none⟩)) rfl (by kernel_rfl) (by kernel_rfl) (by kernel_rfl) (fun _ _ _ h => h) (Or.inl ⟨by rfl, fun w' hS' => ?_⟩) s0 ?_
          ·obtain ⟨m2, q0, q1, q2, q3, q4, q5, q6, q7⟩ := hS'
           go_simp
          simp only [BZ.z, Act.put, Nat.reduceAdd]
          refine wpAnyH_take (i := 3) (v := (.slice (some ⟨b, off, none⟩) k.ds.length c)) rfl (by kernel_rfl) (by kernel_rfl) (by kernel_rfl) (fun _ _ _ h => h) (Or.inl ⟨by rfl, fun w' hS' => ?_⟩) s0 ?_
          ·obtain ⟨m2, q0, q1, q2, q3, q4, q5, q6, q7⟩ := hS'
           go_simp
          simp only [BZ.z, Act.put, Nat.reduceAdd]
          refine wpAnyH_take (i := 4) (v := .int .i64 (j : Int)) rfl (by kernel_rfl) (by kernel_rfl) (by kernel_rfl) (fun _ _ _ h => h) (Or.inl ⟨by rfl, fun w' hS' => by rfl⟩) s0 ?_
          simp only [BZ.z, Act.put, Nat.reduceAdd]
          refine wpAnyH_take (i := 5) (v := .pointer (some ⟨b, off + j * 8, none⟩)) rfl (by kernel_rfl) (by kernel_rfl) (by kernel_rfl) (fun _ _ _ h => h) (Or.inl ⟨by rfl, fun w' hS' => ?_⟩) s0 ?_
          ·obtain ⟨m2, q0, q1, q2, q3, q4, q5, q6, q7⟩ := hS'
           go_simp
          simp only [BZ.z, Act.put, Nat.reduceAdd]
          refine wpAnyH_take (i := 6) (v := N1.val d s) rfl (by kernel_rfl) (by kernel_rfl) (by kernel_rfl) (fun _ _ _ h => h) (Or.inl ⟨by rfl, fun w' hS' => ?_⟩) s0 ?_
          ·obtain ⟨m2, q0, q1, q2, q3, q4, q5, q6, q7⟩ := hS'
           go_simp
          simp only [BZ.z, Act.put, Nat.reduceAdd]
          refine Y0.one_call3w (i := 7) (by kernel_rfl) rfl (by rfl) (.tmp 47) (.tmp 48) (.tmp 53) _ rfl (.string m) (.slice ua us.length uc) (N1.val d s) (by rfl) (by rfl) (by rfl) (enters_of Tryz.func51 (by kernel_rfl) rfl) ((HC.out _ x0.bel r0u).mono ?_)
          rintro e w3 ⟨rfl, b3⟩
          have x3 := x0.below b3
          have s3 := HS.out _ x3.bel x3.arg
          refine ⟨_, rfl, s3, ?_⟩
          simp only [BZ.z, Act.put, Nat.reduceAdd]
          refine wpAnyH_take (i := 8) (v := .bool true) rfl (by kernel_rfl) (by kernel_rfl) (by kernel_rfl) (fun _ _ _ h => h) (Or.inl ⟨by rfl, fun w' hS' => by rfl⟩) s3 ?_
          simp only [BZ.z, Act.put, Nat.reduceAdd]
          refine wpAnyH_take (i := 9) (v := .bool true) rfl (by kernel_rfl) (by kernel_rfl) (by kernel_rfl) (fun _ _ _ h => h) (Or.inl ⟨by rfl, fun w' hS' => by rfl⟩) s3 ?_
          simp only [BZ.z, Act.put, Nat.reduceAdd]
          refine wpAnyH_take (i := 10) (v := undef) rfl (by kernel_rfl) (by kernel_rfl) (by kernel_rfl) (fun _ _ _ h => h) (Or.inr ⟨by rfl, rfl⟩) s3 ?_
          simp only [BZ.z, Act.put, Nat.reduceAdd]
          refine wpAnyH_take (i := 11) (v := undef) rfl (by kernel_rfl) (by kernel_rfl) (by kernel_rfl) (fun _ _ _ h => h) (Or.inr ⟨by rfl, rfl⟩) s3 ?_
          simp only [BZ.z, Act.put, Nat.reduceAdd]
          refine wpAnyH_take (i := 12) (v := undef) rfl (by kernel_rfl) (by kernel_rfl) (by kernel_rfl) (fun _ _ _ h => h) (Or.inr ⟨by rfl, rfl⟩) s3 ?_
          simp only [BZ.z, Act.put, Nat.reduceAdd]
          refine wpAnyH_take (i := 13) (v := undef) rfl (by kernel_rfl) (by kernel_rfl) (by kernel_rfl) (fun _ _ _ h => h) (Or.inr ⟨by rfl, rfl⟩) s3 ?_
          simp only [BZ.z, Act.put, Nat.reduceAdd]
          refine wpAnyH_take (i := 14) (v := undef) rfl (by kernel_rfl) (by kernel_rfl) (by kernel_rfl) (fun _ _ _ h => h) (Or.inr ⟨by rfl, rfl⟩) s3 ?_
          simp only [BZ.z, Act.put, Nat.reduceAdd]
          refine wpAnyH_take (i := 15) (v := undef) rfl (by kernel_rfl) (by kernel_rfl) (by kernel_rfl) (fun _ _ _ h => h) (Or.inr ⟨by rfl, rfl⟩) s3 ?_
          simp only [BZ.z, Act.put, Nat.reduceAdd]
          refine wpAnyH_take (i := 16) (v := undef) rfl (by kernel_rfl) (by kernel_rfl) (by kernel_rfl) (fun _ _ _ h => h) (Or.inr ⟨by rfl, rfl⟩) s3 ?_
          simp only [BZ.z, Act.put, Nat.reduceAdd]
          refine wpAnyH_take (i := 17) (v := undef) rfl (by kernel_rfl) (by kernel_rfl) (by kernel_rfl) (fun _ _ _ h => h) (Or.inr ⟨by rfl, rfl⟩) s3 ?_
          simp only [BZ.z, Act.put, Nat.reduceAdd]
          refine wpAnyH_take (i := 18) (v := undef) rfl (by kernel_rfl) (by kernel_rfl) (by kernel_rfl) (fun _ _ _ h => h) (Or.inr ⟨by rfl, rfl⟩) s3 ?_
          simp only [BZ.z, Act.put, Nat.reduceAdd]
          refine wpAnyH_take (i := 19) (v := undef) rfl (by kernel_rfl) (by kernel_rfl) (by kernel_rfl) (fun _ _ _ h => h) (Or.inr ⟨by rfl, rfl⟩) s3 ?_
          simp only [BZ.z, Act.put, Nat.reduceAdd]
          refine wpAnyH_take (i := 20) (v := undef) rfl (by kernel_rfl) (by kernel_rfl) (by kernel_rfl) (fun _ _ _ h => h) (Or.inr ⟨by rfl, rfl⟩) s3 ?_
          simp only [BZ.z, Act.put, Nat.reduceAdd]
          refine wpAnyH_take (i := 21) (v := undef) rfl (by kernel_rfl) (by kernel_rfl) (by kernel_rfl) (fun _ _ _ h => h) (Or.inr ⟨by rfl, rfl⟩) s3 ?_
          simp only [BZ.z, Act.put, Nat.reduceAdd]
          refine wpAnyH_take (i := 22) (v := undef) rfl (by kernel_rfl) (by kernel_rfl) (by kernel_rfl) (fun _ _ _ h => h) (Or.inr ⟨by rfl, rfl⟩) s3 ?_
          simp only [BZ.z, Act.put, Nat.reduceAdd]
          refine wpAnyH_take (i := 23) (v := undef) rfl (by kernel_rfl) (by kernel_rfl) (by kernel_rfl) (fun _ _ _ h => h) (Or.inr ⟨by rfl, rfl⟩) s3 ?_
          simp only [BZ.z, Act.put, Nat.reduceAdd]
          refine wpAnyH_take (i := 24) (v := undef) rfl (by kernel_rfl) (by kernel_rfl) (by kernel_rfl) (fun _ _ _ h => h) (Or.inr ⟨by rfl, rfl⟩) s3 ?_
          simp only [BZ.z, Act.put, Nat.reduceAdd]
          refine wpAnyH_take (i := 25) (v := undef) rfl (by kernel_rfl) (by kernel_rfl) (by kernel_rfl) (fun _ _ _ h => h) (Or.inr ⟨by rfl, rfl⟩) s3 ?_
          simp only [BZ.z, Act.put, Nat.reduceAdd]
          refine wpAnyH_take (i := 26) (v := undef) rfl (by kernel_rfl) (by kernel_rfl) (by kernel_rfl) (fun _ _ _ h => h) (Or.inr ⟨by rfl, rfl⟩) s3 ?_
          simp only [BZ.z, Act.put, Nat.reduceAdd]
          refine wpAnyH_take (i := 27) (v := undef) rfl (by kernel_rfl) (by kernel_rfl) (by kernel_rfl) (fun _ _ _ h => h) (Or.inr ⟨by rfl, rfl⟩) s3 ?_
          simp only [BZ.z, Act.put, Nat.reduceAdd]
          refine wpAnyH_take (i := 28) (v := .bool true) rfl (by kernel_rfl) (by kernel_rfl) (by kernel_rfl) (fun _ _ _ h => h) (Or.inl ⟨by rfl, fun w' hS' => by rfl⟩) s3 ?_
          simp only [BZ.z, Act.put, Nat.reduceAdd]
          refine wpAnyH_done (by kernel_rfl) ?_ _
          go_wp2
          go_ret
          exact ⟨by rw [HT.out]; rfl, x3.bel⟩
         | true =>
          rw [hok] at HC hat
          clear hok
          by_cases hj0 : j = 0
          ·have HT : Hid (N0.to (lAt k) (j + 1) = true) := N0.to_step hto (by rw [hat, decide_eq_true hj0]; rfl)
           have HS : Hid (∀ W, Below w.heap.size w W → K0.Blk w.heap.size (Z0.kvals k a c) W → W.cell? ⟨w.heap.size, 2, none⟩ = some (.slice (some ⟨b, off, none⟩) k.ds.length c) ∧ W.cell? ⟨b, off + j * 8, none⟩ = some (.int .i64 d.ino) ∧ W.cell? ⟨b, off + j * 8 + 1, none⟩ = some (.int .i64 d.cl) ∧ W.cell? ⟨b, off + j * 8 + 2, none⟩ = some (.int .i64 d.un) ∧ W.cell? ⟨b, off + j * 8 + 3, none⟩ = some (.string d.rc) ∧ W.cell? ⟨b, off + j * 8 + 4, none⟩ = some (.slice s.a1 d.pg.length s.c1) ∧ W.cell? ⟨b, off + j * 8 + 5, none⟩ = some (.string d.sav) ∧ W.cell? ⟨b, off + j * 8 + 6, none⟩ = some (.slice s.a2 d.po.length s.c2) ∧ W.cell? ⟨b, off + j * 8 + 7, none⟩ = some (.slice s.a3 d.fr.length s.c3)) := fun W h1 h2 => ⟨HC2.out W h2, HA1.out W h1⟩
           have s0 := HS.out _ x0.bel x0.arg
           have e3 : ¬ (0 : Int) < (j : Int) := by omega
           clear hat hprev hj0
           go_wp2
           refine wp_region_held (S := fun W => W.cell? ⟨w.heap.size, 2, none⟩ = some (.slice (some ⟨b, off, none⟩) k.ds.length c) ∧ W.cell? ⟨b, off + j * 8, none⟩ = some (.int .i64 d.ino) ∧ W.cell? ⟨b, off + j * 8 + 1, none⟩ = some (.int .i64 d.cl) ∧ W.cell? ⟨b, off + j * 8 + 2, none⟩ = some (.int .i64 d.un) ∧ W.cell? ⟨b, off + j * 8 + 3, none⟩ = some (.string d.rc) ∧ W.cell? ⟨b, off + j * 8 + 4, none⟩ = some (.slice s.a1 d.pg.length s.c1) ∧ W.cell? ⟨b, off + j * 8 + 5, none⟩ = some (.string d.sav) ∧ W.cell? ⟨b, off + j * 8 + 6, none⟩ = some (.slice s.a2 d.po.length s.c2) ∧ W.cell? ⟨b, off + j * 8 + 7, none⟩ = some (.slice s.a3 d.fr.length s.c3)) (by kernel_rfl) ?_
           refine wpAnyH_take (i := 0) (v := .string m) rfl (by kernel_rfl) (by kernel_rfl) (by kernel_rfl) (fun _ _ _ h => h) (Or.inl ⟨by rfl, fun w' hS' => by rfl⟩) s0 ?_
           simp only [BZ.z, Act.put, Nat.reduceAdd]
           refine wpAnyH_take (i := 1) (v := (.slice ua us.length uc)) rfl (by kernel_rfl) (by kernel_rfl) (by kernel_rfl) (fun _ _ _ h => h) (Or.inl ⟨by rfl, fun w' hS' => by rfl⟩) s0 ?_
           simp only [BZ.z, Act.put, Nat.reduceAdd]
           refine wpAnyH_take (i := 2) (v := .pointer (some ⟨w.heap.size, 2, none⟩)) rfl (by kernel_rfl) (by kernel_rfl) (by kernel_rfl) (fun _ _ _ h => h) (Or.inl ⟨by rfl, fun w' hS' => ?_⟩) s0 ?_
           ·obtain ⟨m2, q0, q1, q2, q3, q4, q5, q6, q7⟩ := hS'
            go_simp
           simp only [BZ.z, Act.put, Nat.reduceAdd]
           refine wpAnyH_take (i := 3) (v := (.slice (some ⟨b, off, none⟩) k.ds.length c)) rfl (by kernel_rfl) (by kernel_rfl) (by kernel_rfl) (fun _ _ _ h => h) (Or.inl ⟨by rfl, fun w' hS' => ?_⟩) s0 ?_
           ·obtain ⟨m2, q0, q1, q2, q3, q4, q5, q6, q7⟩ := hS'
            go_simp
           simp only [BZ.z, Act.put, Nat.reduceAdd]
           refine wpAnyH_take (i := 4) (v := .int .i64 (j : Int)) rfl (by kernel_rfl) (by kernel_rfl) (by kernel_rfl) (fun _ _ _ h => h) (Or.inl ⟨by rfl, fun w' hS' => by rfl⟩) s0 ?_
           simp only [BZ.z, Act.put, Nat.reduceAdd]
           refine wpAnyH_take (i := 5) (v := .pointer (some ⟨b, off + j * 8, none⟩)) rfl (by kernel_rfl) (by kernel_rfl) (by kernel_rfl) (fun _ _ _ h => h) (Or.inl ⟨by rfl, fun w' hS' => ?_⟩) s0 ?_
           ·obtain ⟨m2, q0, q1, q2, q3, q4, q5, q6, q7⟩ := hS'
            go_simp
           simp only [BZ.z, Act.put, Nat.reduceAdd]
           refine wpAnyH_take (i := 6) (v := N1.val d s) rfl (by kernel_rfl) (by kernel_rfl) (by kernel_rfl) (fun _ _ _ h => h) (Or.inl ⟨by rfl, fun w' hS' => ?_⟩) s0 ?_
           ·obtain ⟨m2, q0, q1, q2, q3, q4, q5, q6, q7⟩ := hS'
            go_simp
           simp only [BZ.z, Act.put, Nat.reduceAdd]
           refine Y0.one_call3w (i := 7) (by kernel_rfl) rfl (by rfl) (.tmp 47) (.tmp 48) (.tmp 53) _ rfl (.string m) (.slice ua us.length uc) (N1.val d s) (by rfl) (by rfl) (by rfl) (enters_of Tryz.func51 (by kernel_rfl) rfl) ((HC.out _ x0.bel r0u).mono ?_)
           rintro e w3 ⟨rfl, b3⟩
           have x3 := x0.below b3
           have s3 := HS.out _ x3.bel x3.arg
           refine ⟨_, rfl, s3, ?_⟩
           simp only [BZ.z, Act.put, Nat.reduceAdd]
           refine wpAnyH_take (i := 8) (v := .bool false) rfl (by kernel_rfl) (by kernel_rfl) (by kernel_rfl) (fun _ _ _ h => h) (Or.inl ⟨by rfl, fun w' hS' => by rfl⟩) s3 ?_
           simp only [BZ.z, Act.put, Nat.reduceAdd]
           refine wpAnyH_take (i := 9) (v := .bool false) rfl (by kernel_rfl) (by kernel_rfl) (by kernel_rfl) (fun _ _ _ h => h) (Or.inl ⟨by rfl, fun w' hS' => by rfl⟩) s3 ?_
           simp only [BZ.z, Act.put, Nat.reduceAdd]
           refine wpAnyH_take (i := 10) (v := .int .i64 (j : Int)) rfl (by kernel_rfl) (by kernel_rfl) (by kernel_rfl) (fun _ _ _ h => h) (Or.inl ⟨by rfl, fun w' hS' => by rfl⟩) s3 ?_
           simp only [BZ.z, Act.put, Nat.reduceAdd]
           refine wpAnyH_take (i := 11) (v := .bool false) rfl (by kernel_rfl) (by kernel_rfl) (by kernel_rfl) (fun _ _ _ h => h) (Or.inl ⟨by rfl, fun w' hS' => ?_⟩) s3 ?_
           ·obtain ⟨m2, q0, q1, q2, q3, q4, q5, q6, q7⟩ := hS'
            (go_simp; omega)
           simp only [BZ.z, Act.put, Nat.reduceAdd]
           refine wpAnyH_take (i := 12) (v := .bool false) rfl (by kernel_rfl) (by kernel_rfl) (by kernel_rfl) (fun _ _ _ h => h) (Or.inl ⟨by rfl, fun w' hS' => by rfl⟩) s3 ?_
           simp only [BZ.z, Act.put, Nat.reduceAdd]
           refine wpAnyH_take (i := 13) (v := undef) rfl (by kernel_rfl) (by kernel_rfl) (by kernel_rfl) (fun _ _ _ h => h) (Or.inr ⟨by rfl, rfl⟩) s3 ?_
           simp only [BZ.z, Act.put, Nat.reduceAdd]
           refine wpAnyH_take (i := 14) (v := undef) rfl (by kernel_rfl) (by kernel_rfl) (by kernel_rfl) (fun _ _ _ h => h) (Or.inr ⟨by rfl, rfl⟩) s3 ?_
           simp only [BZ.z, Act.put, Nat.reduceAdd]
           refine wpAnyH_take (i := 15) (v := undef) rfl (by kernel_rfl) (by kernel_rfl) (by kernel_rfl) (fun _ _ _ h => h) (Or.inr ⟨by rfl, rfl⟩) s3 ?_
           simp only [BZ.z, Act.put, Nat.reduceAdd]
           refine wpAnyH_take (i := 16) (v := undef) rfl (by kernel_rfl) (by kernel_rfl) (by kernel_rfl) (fun _ _ _ h => h) (Or.inr ⟨by rfl, rfl⟩) s3 ?_
           simp only [BZ.z, Act.put, Nat.reduceAdd]
           refine wpAnyH_take (i := 17) (v := undef) rfl (by kernel_rfl) (by kernel_rfl) (by kernel_rfl) (fun _ _ _ h => h) (Or.inr ⟨by rfl, rfl⟩) s3 ?_
           simp only [BZ.z, Act.put, Nat.reduceAdd]
           refine wpAnyH_take (i := 18) (v := undef) rfl (by kernel_rfl) (by kernel_rfl) (by kernel_rfl) (fun _ _ _ h => h) (Or.inr ⟨by rfl, rfl⟩) s3 ?_
           simp only [BZ.z, Act.put, Nat.reduceAdd]
           refine wpAnyH_take (i := 19) (v := undef) rfl (by kernel_rfl) (by kernel_rfl) (by kernel_rfl) (fun _ _ _ h => h) (Or.inr ⟨by rfl, rfl⟩) s3 ?_
           simp only [BZ.z, Act.put, Nat.reduceAdd]
           refine wpAnyH_take (i := 20) (v := undef) rfl (by kernel_rfl) (by kernel_rfl) (by kernel_rfl) (fun _ _ _ h => h) (Or.inr ⟨by rfl, rfl⟩) s3 ?_
           simp only [BZ.z, Act.put, Nat.reduceAdd]
           refine wpAnyH_take (i := 21) (v := undef) rfl (by kernel_rfl) (by kernel_rfl) (by kernel_rfl) (fun _ _ _ h => h) (Or.inr ⟨by rfl, rfl⟩) s3 ?_
           simp only [BZ.z, Act.put, Nat.reduceAdd]
           refine wpAnyH_take (i := 22) (v := undef) rfl (by kernel_rfl) (by kernel_rfl) (by kernel_rfl) (fun _ _ _ h => h) (Or.inr ⟨by rfl, rfl⟩) s3 ?_
           simp only [BZ.z, Act.put, Nat.reduceAdd]
           refine wpAnyH_take (i := 23) (v := undef) rfl (by kernel_rfl) (by kernel_rfl) (by kernel_rfl) (fun _ _ _ h => h) (Or.inr ⟨by rfl, rfl⟩) s3 ?_
           simp only [BZ.z, Act.put, Nat.reduceAdd]
           refine wpAnyH_take (i := 24) (v := undef) rfl (by kernel_rfl) (by kernel_rfl) (by kernel_rfl) (fun _ _ _ h => h) (Or.inr ⟨by rfl, rfl⟩) s3 ?_
           simp only [BZ.z, Act.put, Nat.reduceAdd]
           refine wpAnyH_take (i := 25) (v := undef) rfl (by kernel_rfl) (by kernel_rfl) (by kernel_rfl) (fun _ _ _ h => h) (Or.inr ⟨by rfl, rfl⟩) s3 ?_
           simp only [BZ.z, Act.put, Nat.reduceAdd]
           refine wpAnyH_take (i := 26) (v := undef) rfl (by kernel_rfl) (by kernel_rfl) (by kernel_rfl) (fun _ _ _ h => h) (Or.inr ⟨by rfl, rfl⟩) s3 ?_
           simp only [BZ.z, Act.put, Nat.reduceAdd]
           refine wpAnyH_take (i := 27) (v := .bool false) rfl (by kernel_rfl) (by kernel_rfl) (by kernel_rfl) (fun _ _ _ h => h) (Or.inl ⟨by rfl, fun w' hS' => by rfl⟩) s3 ?_
           simp only [BZ.z, Act.put, Nat.reduceAdd]
           refine wpAnyH_take (i := 28) (v := .bool false) rfl (by kernel_rfl) (by kernel_rfl) (by kernel_rfl) (fun _ _ _ h => h) (Or.inl ⟨by rfl, fun w' hS' => by rfl⟩) s3 ?_
           simp only [BZ.z, Act.put, Nat.reduceAdd]
           refine wpAnyH_done (by kernel_rfl) ?_ _
           have r3 := r0u.below b3
           go_wp2
           refine ⟨⟨j + 1, by omega, HT.out, by go_num, x3, r3⟩, ?_⟩
           simp [intOf]
           omega
          ·obtain ⟨p, hp⟩ : ∃ p, j = p + 1 := ⟨j - 1, by omega⟩
           have hpp := hprev p (by omega)
           have hjp : j - 1 = p := by omega
           rw [hjp, decide_eq_false hj0, Bool.false_or, Bool.true_and] at hat
           obtain ⟨io, eio⟩ : ∃ io, (dat k.ds p).ino = io := ⟨_, rfl⟩
           rw [eio] at hat hpp
           have HS : Hid (∀ W, Below w.heap.size w W → K0.Blk w.heap.size (Z0.kvals k a c) W → W.cell? ⟨w.heap.size, 2, none⟩ = some (.slice (some ⟨b, off, none⟩) k.ds.length c) ∧ W.cell? ⟨b, off + j * 8, none⟩ = some (.int .i64 d.ino) ∧ W.cell? ⟨b, off + j * 8 + 1, none⟩ = some (.int .i64 d.cl) ∧ W.cell? ⟨b, off + j * 8 + 2, none⟩ = some (.int .i64 d.un) ∧ W.cell? ⟨b, off + j * 8 + 3, none⟩ = some (.string d.rc) ∧ W.cell? ⟨b, off + j * 8 + 4, none⟩ = some (.slice s.a1 d.pg.length s.c1) ∧ W.cell? ⟨b, off + j * 8 + 5, none⟩ = some (.string d.sav) ∧ W.cell? ⟨b, off + j * 8 + 6, none⟩ = some (.slice s.a2 d.po.length s.c2) ∧ W.cell? ⟨b, off + j * 8 + 7, none⟩ = some (.slice s.a3 d.fr.length s.c3) ∧ W.cell? ⟨b, off + p * 8, none⟩ = some (.int .i64 io)) := fun W h1 h2 => ⟨HC2.out W h2, (HA1.out W h1).1, (HA1.out W h1).2.1, (HA1.out W h1).2.2.1, (HA1.out W h1).2.2.2.1, (HA1.out W h1).2.2.2.2.1, (HA1.out W h1).2.2.2.2.2.1, (HA1.out W h1).2.2.2.2.2.2.1, (HA1.out W h1).2.2.2.2.2.2.2, hpp.out W h1⟩
           have s0 := HS.out _ x0.bel x0.arg
           have e3' : (0 : Int) < (j : Int) := by omega
           have e4 : IntKind.i64.wrap ((j : Int) - 1) = (p : Int) := by rw [IntKind.wrap_i64]; omega
           have e5 : (0 : Int) ≤ (p : Int) := by omega
           have e6 : (p : Int) < (k.ds.length : Int) := by omega
           clear hprev hjp eio hj0
           by_cases hlo : io < d.ino
           ·have e7 : ¬ d.ino ≤ io := by omega
            have HT : Hid (N0.to (lAt k) (j + 1) = true) := N0.to_step hto (by rw [hat, decide_eq_true hlo])
            clear hat hp
            go_wp2
            refine wp_region_held (S := fun W => W.cell? ⟨w.heap.size, 2, none⟩ = some (.slice (some ⟨b, off, none⟩) k.ds.length c) ∧ W.cell? ⟨b, off + j * 8, none⟩ = some (.int .i64 d.ino) ∧ W.cell? ⟨b, off + j * 8 + 1, none⟩ = some (.int .i64 d.cl) ∧ W.cell? ⟨b, off + j * 8 + 2, none⟩ = some (.int .i64 d.un) ∧ W.cell? ⟨b, off + j * 8 + 3, none⟩ = some (.string d.rc) ∧ W.cell? ⟨b, off + j * 8 + 4, none⟩ = some (.slice s.a1 d.pg.length s.c1) ∧ W.cell? ⟨b, off + j * 8 + 5, none⟩ = some (.string d.sav) ∧ W.cell? ⟨b, off + j * 8 + 6, none⟩ = some (.slice s.a2 d.po.length s.c2) ∧ W.cell? ⟨b, off + j * 8 + 7, none⟩ = some (.slice s.a3 d.fr.length s.c3) ∧ W.cell? ⟨b, off + p * 8, none⟩ = some (.int .i64 io)) (by kernel_rfl) ?_
            refine wpAnyH_take (i := 0) (v := .string m) rfl (by kernel_rfl) (by kernel_rfl) (by kernel_rfl) (fun _ _ _ h => h) (Or.inl ⟨by rfl, fun w' hS' => by rfl⟩) s0 ?_
            simp only [BZ.z, Act.put, Nat.reduceAdd]
            refine wpAnyH_take (i := 1) (v := (.slice ua us.length uc)) rfl (by kernel_rfl) (by kernel_rfl) (by kernel_rfl) (fun _ _ _ h => h) (Or.inl ⟨by rfl, fun w' hS' => by rfl⟩) s0 ?_
            simp only [BZ.z, Act.put, Nat.reduceAdd]
            refine wpAnyH_take (i := 2) (v := .pointer (some ⟨w.heap.size, 2, none⟩)) rfl (by kernel_rfl) (by kernel_rfl) (by kernel_rfl) (fun _ _ _ h => h) (Or.inl ⟨by rfl, fun w' hS' => ?_⟩) s0 ?_
            ·obtain ⟨m2, q0, q1, q2, q3, q4, q5, q6, q7, r0⟩ := hS'
             go_simp
            simp only [BZ.z, Act.put, Nat.reduceAdd]
            refine wpAnyH_take (i := 3) (v := (.slice (some ⟨b, off, none⟩) k.ds.length c)) rfl (by kernel_rfl) (by kernel_rfl) (by kernel_rfl) (fun _ _ _ h => h) (Or.inl ⟨by rfl, fun w' hS' => ?_⟩) s0 ?_
            ·obtain ⟨m2, q0, q1, q2, q3, q4, q5, q6, q7, r0⟩ := hS'
             go_simp
            simp only [BZ.z, Act.put, Nat.reduceAdd]
            refine wpAnyH_take (i := 4) (v := .int .i64 (j : Int)) rfl (by kernel_rfl) (by kernel_rfl) (by kernel_rfl) (fun _ _ _ h => h) (Or.inl ⟨by rfl, fun w' hS' => by rfl⟩) s0 ?_
            simp only [BZ.z, Act.put, Nat.reduceAdd]
            refine wpAnyH_take (i := 5) (v := .pointer (some ⟨b, off + j * 8, none⟩)) rfl (by kernel_rfl) (by kernel_rfl) (by kernel_rfl) (fun _ _ _ h => h) (Or.inl ⟨by rfl, fun w' hS' => ?_⟩) s0 ?_
            ·obtain ⟨m2, q0, q1, q2, q3, q4, q5, q6, q7, r0⟩ := hS'
             go_simp
            simp only [BZ.z, Act.put, Nat.reduceAdd]
            refine wpAnyH_take (i := 6) (v := N1.val d s) rfl (by kernel_rfl) (by kernel_rfl) (by kernel_rfl) (fun _ _ _ h => h) (Or.inl ⟨by rfl, fun w' hS' => ?_⟩) s0 ?_
            ·obtain ⟨m2, q0, q1, q2, q3, q4, q5, q6, q7, r0⟩ := hS'
             go_simp
            simp only [BZ.z, Act.put, Nat.reduceAdd]
            refine Y0.one_call3w (i := 7) (by kernel_rfl) rfl (by rfl) (.tmp 47) (.tmp 48) (.tmp 53) _ rfl (.string m) (.slice ua us.length uc) (N1.val d s) (by rfl) (by rfl) (by rfl) (enters_of Tryz.func51 (by kernel_rfl) rfl) ((HC.out _ x0.bel r0u).mono ?_)
            rintro e w3 ⟨rfl, b3⟩
            have x3 := x0.below b3
            have s3 := HS.out _ x3.bel x3.arg
            refine ⟨_, rfl, s3, ?_⟩
            simp only [BZ.z, Act.put, Nat.reduceAdd]
            refine wpAnyH_take (i := 8) (v := .bool false) rfl (by kernel_rfl) (by kernel_rfl) (by kernel_rfl) (fun _ _ _ h => h) (Or.inl ⟨by rfl, fun w' hS' => by rfl⟩) s3 ?_
            simp only [BZ.z, Act.put, Nat.reduceAdd]
            refine wpAnyH_take (i := 9) (v := .bool false) rfl (by kernel_rfl) (by kernel_rfl) (by kernel_rfl) (fun _ _ _ h => h) (Or.inl ⟨by rfl, fun w' hS' => by rfl⟩) s3 ?_
            simp only [BZ.z, Act.put, Nat.reduceAdd]
            refine wpAnyH_take (i := 10) (v := .int .i64 (j : Int)) rfl (by kernel_rfl) (by kernel_rfl) (by kernel_rfl) (fun _ _ _ h => h) (Or.inl ⟨by rfl, fun w' hS' => by rfl⟩) s3 ?_
            simp only [BZ.z, Act.put, Nat.reduceAdd]
            refine wpAnyH_take (i := 11) (v := .bool true) rfl (by kernel_rfl) (by kernel_rfl) (by kernel_rfl) (fun _ _ _ h => h) (Or.inl ⟨by rfl, fun w' hS' => ?_⟩) s3 ?_
            ·obtain ⟨m2, q0, q1, q2, q3, q4, q5, q6, q7, r0⟩ := hS'
             (go_simp; omega)
            simp only [BZ.z, Act.put, Nat.reduceAdd]
            refine wpAnyH_take (i := 12) (v := .bool true) rfl (by kernel_rfl) (by kernel_rfl) (by kernel_rfl) (fun _ _ _ h => h) (Or.inl ⟨by rfl, fun w' hS' => by rfl⟩) s3 ?_
            simp only [BZ.z, Act.put, Nat.reduceAdd]
            refine wpAnyH_take (i := 13) (v := .pointer (some ⟨w.heap.size, 2, none⟩)) rfl (by kernel_rfl) (by kernel_rfl) (by kernel_rfl) (fun _ _ _ h => h) (Or.inl ⟨by rfl, fun w' hS' => ?_⟩) s3 ?_
            ·obtain ⟨m2, q0, q1, q2, q3, q4, q5, q6, q7, r0⟩ := hS'
             go_simp
            simp only [BZ.z, Act.put, Nat.reduceAdd]
            refine wpAnyH_take (i := 14) (v := (.slice (some ⟨b, off, none⟩) k.ds.length c)) rfl (by kernel_rfl) (by kernel_rfl) (by kernel_rfl) (fun _ _ _ h => h) (Or.inl ⟨by rfl, fun w' hS' => ?_⟩) s3 ?_
            ·obtain ⟨m2, q0, q1, q2, q3, q4, q5, q6, q7, r0⟩ := hS'
             go_simp
            simp only [BZ.z, Act.put, Nat.reduceAdd]
            refine wpAnyH_take (i := 15) (v := .int .i64 (j : Int)) rfl (by kernel_rfl) (by kernel_rfl) (by kernel_rfl) (fun _ _ _ h => h) (Or.inl ⟨by rfl, fun w' hS' => by rfl⟩) s3 ?_
            simp only [BZ.z, Act.put, Nat.reduceAdd]
            refine wpAnyH_take (i := 16) (v := .pointer (some ⟨b, off + j * 8, none⟩)) rfl (by kernel_rfl) (by kernel_rfl) (by kernel_rfl) (fun _ _ _ h => h) (Or.inl ⟨by rfl, fun w' hS' => ?_⟩) s3 ?_
            ·obtain ⟨m2, q0, q1, q2, q3, q4, q5, q6, q7, r0⟩ := hS'
             go_simp
            simp only [BZ.z, Act.put, Nat.reduceAdd]
            refine wpAnyH_take (i := 17) (v := .pointer (some ⟨b, off + j * 8, none⟩)) rfl (by kernel_rfl) (by kernel_rfl) (by kernel_rfl) (fun _ _ _ h => h) (Or.inl ⟨by rfl, fun w' hS' => ?_⟩) s3 ?_
            ·obtain ⟨m2, q0, q1, q2, q3, q4, q5, q6, q7, r0⟩ := hS'
             go_simp
            simp only [BZ.z, Act.put, Nat.reduceAdd]
            refine wpAnyH_take (i := 18) (v := .int .i64 d.ino) rfl (by kernel_rfl) (by kernel_rfl) (by kernel_rfl) (fun _ _ _ h => h) (Or.inl ⟨by rfl, fun w' hS' => ?_⟩) s3 ?_
            ·obtain ⟨m2, q0, q1, q2, q3, q4, q5, q6, q7, r0⟩ := hS'
             go_simp
            simp only [BZ.z, Act.put, Nat.reduceAdd]
            refine wpAnyH_take (i := 19) (v := .pointer (some ⟨w.heap.size, 2, none⟩)) rfl (by kernel_rfl) (by kernel_rfl) (by kernel_rfl) (fun _ _ _ h => h) (Or.inl ⟨by rfl, fun w' hS' => ?_⟩) s3 ?_
            ·obtain ⟨m2, q0, q1, q2, q3, q4, q5, q6, q7, r0⟩ := hS'
             go_simp
            simp only [BZ.z, Act.put, Nat.reduceAdd]
            refine wpAnyH_take (i := 20) (v := (.slice (some ⟨b, off, none⟩) k.ds.length c)) rfl (by kernel_rfl) (by kernel_rfl) (by kernel_rfl) (fun _ _ _ h => h) (Or.inl ⟨by rfl, fun w' hS' => ?_⟩) s3 ?_
            ·obtain ⟨m2, q0, q1, q2, q3, q4, q5, q6, q7, r0⟩ := hS'
             go_simp
            simp only [BZ.z, Act.put, Nat.reduceAdd]
            refine wpAnyH_take (i := 21) (v := .int .i64 (j : Int)) rfl (by kernel_rfl) (by kernel_rfl) (by kernel_rfl) (fun _ _ _ h => h) (Or.inl ⟨by rfl, fun w' hS' => by rfl⟩) s3 ?_
            simp only [BZ.z, Act.put, Nat.reduceAdd]
            refine wpAnyH_take (i := 22) (v := .int .i64 (p : Int)) rfl (by kernel_rfl) (by kernel_rfl) (by kernel_rfl) (fun _ _ _ h => h) (Or.inl ⟨by rfl, fun w' hS' => ?_⟩) s3 ?_
            ·obtain ⟨m2, q0, q1, q2, q3, q4, q5, q6, q7, r0⟩ := hS'
             go_simp
            simp only [BZ.z, Act.put, Nat.reduceAdd]
            refine wpAnyH_take (i := 23) (v := .pointer (some ⟨b, off + p * 8, none⟩)) rfl (by kernel_rfl) (by kernel_rfl) (by kernel_rfl) (fun _ _ _ h => h) (Or.inl ⟨by rfl, fun w' hS' => ?_⟩) s3 ?_
            ·obtain ⟨m2, q0, q1, q2, q3, q4, q5, q6, q7, r0⟩ := hS'
             go_simp
            simp only [BZ.z, Act.put, Nat.reduceAdd]
            refine wpAnyH_take (i := 24) (v := .pointer (some ⟨b, off + p * 8, none⟩)) rfl (by kernel_rfl) (by kernel_rfl) (by kernel_rfl) (fun _ _ _ h => h) (Or.inl ⟨by rfl, fun w' hS' => ?_⟩) s3 ?_
            ·obtain ⟨m2, q0, q1, q2, q3, q4, q5, q6, q7, r0⟩ := hS'
             go_simp
            simp only [BZ.z, Act.put, Nat.reduceAdd]
            refine wpAnyH_take (i := 25) (v := .int .i64 io) rfl (by kernel_rfl) (by kernel_rfl) (by kernel_rfl) (fun _ _ _ h => h) (Or.inl ⟨by rfl, fun w' hS' => ?_⟩) s3 ?_
            ·obtain ⟨m2, q0, q1, q2, q3, q4, q5, q6, q7, r0⟩ := hS'
             go_simp
            simp only [BZ.z, Act.put, Nat.reduceAdd]
            refine wpAnyH_take (i := 26) (v := .bool false) rfl (by kernel_rfl) (by kernel_rfl) (by kernel_rfl) (fun _ _ _ h => h) (Or.inl ⟨by rfl, fun w' hS' => ?_⟩) s3 ?_
            ·obtain ⟨m2, q0, q1, q2, q3, q4, q5, q6, q7, r0⟩ := hS'
             go_simp
            simp only [BZ.z, Act.put, Nat.reduceAdd]
            refine wpAnyH_take (i := 27) (v := .bool false) rfl (by kernel_rfl) (by kernel_rfl) (by kernel_rfl) (fun _ _ _ h => h) (Or.inl ⟨by rfl, fun w' hS' => by rfl⟩) s3 ?_
            simp only [BZ.z, Act.put, Nat.reduceAdd]
            refine wpAnyH_take (i := 28) (v := .bool false) rfl (by kernel_rfl) (by kernel_rfl) (by kernel_rfl) (fun _ _ _ h => h) (Or.inl ⟨by rfl, fun w' hS' => by rfl⟩) s3 ?_
            simp only [BZ.z, Act.put, Nat.reduceAdd]
            refine wpAnyH_done (by kernel_rfl) ?_ _
            have r3 := r0u.below b3
            go_wp2
            refine ⟨⟨j + 1, by omega, HT.out, by go_num, x3, r3⟩, ?_⟩
            simp [intOf]
            omega
           ·have e7 : d.ino ≤ io := by omega
            have HT : Hid (N0.to (lAt k) k.ds.length = false) := N0.to_bad hlt (by rw [hat, decide_eq_false hlo])
            clear hat hp
            go_wp2
            refine wp_region_held (S := fun W => W.cell? ⟨w.heap.size, 2, none⟩ = some (.slice (some ⟨b, off, none⟩) k.ds.length c) ∧ W.cell? ⟨b, off + j * 8, none⟩ = some (.int .i64 d.ino) ∧ W.cell? ⟨b, off + j * 8 + 1, none⟩ = some (.int .i64 d.cl) ∧ W.cell? ⟨b, off + j * 8 + 2, none⟩ = some (.int .i64 d.un) ∧ W.cell? ⟨b, off + j * 8 + 3, none⟩ = some (.string d.rc) ∧ W.cell? ⟨b, off + j * 8 + 4, none⟩ = some (.slice s.a1 d.pg.length s.c1) ∧ W.cell? ⟨b, off + j * 8 + 5, none⟩ = some (.string d.sav) ∧ W.cell? ⟨b, off + j * 8 + 6, none⟩ = some (.slice s.a2 d.po.length s.c2) ∧ W.cell? ⟨b, off + j * 8 + 7, none⟩ = some (.slice s.a3 d.fr.length s.c3) ∧ W.cell? ⟨b, off + p * 8, none⟩ = some (.int .i64 io)) (by kernel_rfl) ?_
            refine wpAnyH_take (i := 0) (v := .string m) rfl (by kernel_rfl) (by kernel_rfl) (by kernel_rfl) (fun _ _ _ h => h) (Or.inl ⟨by rfl, fun w' hS' => by rfl⟩) s0 ?_
            simp only [BZ.z, Act.put, Nat.reduceAdd]
            refine wpAnyH_take (i := 1) (v := (.slice ua us.length uc)) rfl (by kernel_rfl) (by kernel_rfl) (by kernel_rfl) (fun _ _ _ h => h) (Or.inl ⟨by rfl, fun w' hS' => by rfl⟩) s0 ?_
            simp only [BZ.z, Act.put, Nat.reduceAdd]
            refine wpAnyH_take (i := 2) (v := .pointer (some ⟨w.heap.size, 2, none⟩)) rfl (by kernel_rfl) (by kernel_rfl) (by kernel_rfl) (fun _ _ _ h => h) (Or.inl ⟨by rfl, fun w' hS' => ?_⟩) s0 ?_
            ·obtain ⟨m2, q0, q1, q2, q3, q4, q5, q6, q7, r0⟩ := hS'
             go_simp
            simp only [BZ.z, Act.put, Nat.reduceAdd]
            refine wpAnyH_take (i := 3) (v := (.slice (some ⟨b, off, none⟩) k.ds.length c)) rfl (by kernel_rfl) (by kernel_rfl) (by kernel_rfl) (fun _ _ _ h => h) (Or.inl ⟨by rfl, fun w' hS' => ?_⟩) s0 ?_
            ·obtain ⟨m2, q0, q1, q2, q3, q4, q5, q6, q7, r0⟩ := hS'
             go_simp
            simp only [BZ.z, Act.put, Nat.reduceAdd]
            refine wpAnyH_take (i := 4) (v := .int .i64 (j : Int)) rfl (by kernel_rfl) (by kernel_rfl) (by kernel_rfl) (fun _ _ _ h => h) (Or.inl ⟨by rfl, fun w' hS' => by rfl⟩) s0 ?_
            simp only [BZ.z, Act.put, Nat.reduceAdd]
            refine wpAnyH_take (i := 5) (v := .pointer (some ⟨b, off + j * 8, none⟩)) rfl (by kernel_rfl) (by kernel_rfl) (by kernel_rfl) (fun _ _ _ h => h) (Or.inl ⟨by rfl, fun w' hS' => ?_⟩) s0 ?_
            ·obtain ⟨m2, q0, q1, q2, q3, q4, q5, q6, q7, r0⟩ := hS'
             go_simp
            simp only [BZ.z, Act.put, Nat.reduceAdd]
            refine wpAnyH_take (i := 6) (v := N1.val d s) rfl (by kernel_rfl) (by kernel_rfl) (by kernel_rfl) (fun _ _ _ h => h) (Or.inl ⟨by rfl, fun w' hS' => ?_⟩) s0 ?_
            ·obtain ⟨m2, q0, q1, q2, q3, q4, q5, q6, q7, r0⟩ := hS'
             go_simp
            simp only [BZ.z, Act.put, Nat.reduceAdd]
            refine Y0.one_call3w (i := 7) (by kernel_rfl) rfl (by rfl) (.tmp 47) (.tmp 48) (.tmp 53) _ rfl (.string m) (.slice ua us.length uc) (N1.val d s) (by rfl) (by rfl) (by rfl) (enters_of Tryz.func51 (by kernel_rfl) rfl) ((HC.out _ x0.bel r0u).mono ?_)
            rintro e w3 ⟨rfl, b3⟩
            have x3 := x0.below b3
            have s3 := HS.out _ x3.bel x3.arg
            refine ⟨_, rfl, s3, ?_⟩
            simp only [BZ.z, Act.put, Nat.reduceAdd]
            refine wpAnyH_take (i := 8) (v := .bool false) rfl (by kernel_rfl) (by kernel_rfl) (by kernel_rfl) (fun _ _ _ h => h) (Or.inl ⟨by rfl, fun w' hS' => by rfl⟩) s3 ?_
            simp only [BZ.z, Act.put, Nat.reduceAdd]
            refine wpAnyH_take (i := 9) (v := .bool false) rfl (by kernel_rfl) (by kernel_rfl) (by kernel_rfl) (fun _ _ _ h => h) (Or.inl ⟨by rfl, fun w' hS' => by rfl⟩) s3 ?_
            simp only [BZ.z, Act.put, Nat.reduceAdd]
            refine wpAnyH_take (i := 10) (v := .int .i64 (j : Int)) rfl (by kernel_rfl) (by kernel_rfl) (by kernel_rfl) (fun _ _ _ h => h) (Or.inl ⟨by rfl, fun w' hS' => by rfl⟩) s3 ?_
            simp only [BZ.z, Act.put, Nat.reduceAdd]
            refine wpAnyH_take (i := 11) (v := .bool true) rfl (by kernel_rfl) (by kernel_rfl) (by kernel_rfl) (fun _ _ _ h => h) (Or.inl ⟨by rfl, fun w' hS' => ?_⟩) s3 ?_
            ·obtain ⟨m2, q0, q1, q2, q3, q4, q5, q6, q7, r0⟩ := hS'
             (go_simp; omega)
            simp only [BZ.z, Act.put, Nat.reduceAdd]
            refine wpAnyH_take (i := 12) (v := .bool true) rfl (by kernel_rfl) (by kernel_rfl) (by kernel_rfl) (fun _ _ _ h => h) (Or.inl ⟨by rfl, fun w' hS' => by rfl⟩) s3 ?_
            simp only [BZ.z, Act.put, Nat.reduceAdd]
            refine wpAnyH_take (i := 13) (v := .pointer (some ⟨w.heap.size, 2, none⟩)) rfl (by kernel_rfl) (by kernel_rfl) (by kernel_rfl) (fun _ _ _ h => h) (Or.inl ⟨by rfl, fun w' hS' => ?_⟩) s3 ?_
            ·obtain ⟨m2, q0, q1, q2, q3, q4, q5, q6, q7, r0⟩ := hS'
             go_simp
            simp only [BZ.z, Act.put, Nat.reduceAdd]
            refine wpAnyH_take (i := 14) (v := (.slice (some ⟨b, off, none⟩) k.ds.length c)) rfl (by kernel_rfl) (by kernel_rfl) (by kernel_rfl) (fun _ _ _ h => h) (Or.inl ⟨by rfl, fun w' hS' => ?_⟩) s3 ?_
            ·obtain ⟨m2, q0, q1, q2, q3, q4, q5, q6, q7, r0⟩ := hS'
             go_simp
            simp only [BZ.z, Act.put, Nat.reduceAdd]
            refine wpAnyH_take (i := 15) (v := .int .i64 (j : Int)) rfl (by kernel_rfl) (by kernel_rfl) (by kernel_rfl) (fun _ _ _ h => h) (Or.inl ⟨by rfl, fun w' hS' => by rfl⟩) s3 ?_
            simp only [BZ.z, Act.put, Nat.reduceAdd]
            refine wpAnyH_take (i := 16) (v := .pointer (some ⟨b, off + j * 8, none⟩)) rfl (by kernel_rfl) (by kernel_rfl) (by kernel_rfl) (fun _ _ _ h => h) (Or.inl ⟨by rfl, fun w' hS' => ?_⟩) s3 ?_
            ·obtain ⟨m2, q0, q1, q2, q3, q4, q5, q6, q7, r0⟩ := hS'
             go_simp
            simp only [BZ.z, Act.put, Nat.reduceAdd]
            refine wpAnyH_take (i := 17) (v := .pointer (some ⟨b, off + j * 8, none⟩)) rfl (by kernel_rfl) (by kernel_rfl) (by kernel_rfl) (fun _ _ _ h => h) (Or.inl ⟨by rfl, fun w' hS' => ?_⟩) s3 ?_
            ·obtain ⟨m2, q0, q1, q2, q3, q4, q5, q6, q7, r0⟩ := hS'
             go_simp
            simp only [BZ.z, Act.put, Nat.reduceAdd]
            refine wpAnyH_take (i := 18) (v := .int .i64 d.ino) rfl (by kernel_rfl) (by kernel_rfl) (by kernel_rfl) (fun _ _ _ h => h) (Or.inl ⟨by rfl, fun w' hS' => ?_⟩) s3 ?_
            ·obtain ⟨m2, q0, q1, q2, q3, q4, q5, q6, q7, r0⟩ := hS'
             go_simp
            simp only [BZ.z, Act.put, Nat.reduceAdd]
            refine wpAnyH_take (i := 19) (v := .pointer (some ⟨w.heap.size, 2, none⟩)) rfl (by kernel_rfl) (by kernel_rfl) (by kernel_rfl) (fun _ _ _ h => h) (Or.inl ⟨by rfl, fun w' hS' => ?_⟩) s3 ?_
            ·obtain ⟨m2, q0, q1, q2, q3, q4, q5, q6, q7, r0⟩ := hS'
             go_simp
            simp only [BZ.z, Act.put, Nat.reduceAdd]
            refine wpAnyH_take (i := 20) (v := (.slice (some ⟨b, off, none⟩) k.ds.length c)) rfl (by kernel_rfl) (by kernel_rfl) (by kernel_rfl) (fun _ _ _ h => h) (Or.inl ⟨by rfl, fun w' hS' => ?_⟩) s3 ?_
            ·obtain ⟨m2, q0, q1, q2, q3, q4, q5, q6, q7, r0⟩ := hS'
             go_simp
            simp only [BZ.z, Act.put, Nat.reduceAdd]
            refine wpAnyH_take (i := 21) (v := .int .i64 (j : Int)) rfl (by kernel_rfl) (by kernel_rfl) (by kernel_rfl) (fun _ _ _ h => h) (Or.inl ⟨by rfl, fun w' hS' => by rfl⟩) s3 ?_
            simp only [BZ.z, Act.put, Nat.reduceAdd]
            refine wpAnyH_take (i := 22) (v := .int .i64 (p : Int)) rfl (by kernel_rfl) (by kernel_rfl) (by kernel_rfl) (fun _ _ _ h => h) (Or.inl ⟨by rfl, fun w' hS' => ?_⟩) s3 ?_
            ·obtain ⟨m2, q0, q1, q2, q3, q4, q5, q6, q7, r0⟩ := hS'
             go_simp
            simp only [BZ.z, Act.put, Nat.reduceAdd]
            refine wpAnyH_take (i := 23) (v := .pointer (some ⟨b, off + p * 8, none⟩)) rfl (by kernel_rfl) (by kernel_rfl) (by kernel_rfl) (fun _ _ _ h => h) (Or.inl ⟨by rfl, fun w' hS' => ?_⟩) s3 ?_
            ·obtain ⟨m2, q0, q1, q2, q3, q4, q5, q6, q7, r0⟩ := hS'
             go_simp
            simp only [BZ.z, Act.put, Nat.reduceAdd]
            refine wpAnyH_take (i := 24) (v := .pointer (some ⟨b, off + p * 8, none⟩)) rfl (by kernel_rfl) (by kernel_rfl) (by kernel_rfl) (fun _ _ _ h => h) (Or.inl ⟨by rfl, fun w' hS' => ?_⟩) s3 ?_
            ·obtain ⟨m2, q0, q1, q2, q3, q4, q5, q6, q7, r0⟩ := hS'
             go_simp
            simp only [BZ.z, Act.put, Nat.reduceAdd]
            refine wpAnyH_take (i := 25) (v := .int .i64 io) rfl (by kernel_rfl) (by kernel_rfl) (by kernel_rfl) (fun _ _ _ h => h) (Or.inl ⟨by rfl, fun w' hS' => ?_⟩) s3 ?_
            ·obtain ⟨m2, q0, q1, q2, q3, q4, q5, q6, q7, r0⟩ := hS'
             go_simp
            simp only [BZ.z, Act.put, Nat.reduceAdd]
            refine wpAnyH_take (i := 26) (v := .bool true) rfl (by kernel_rfl) (by kernel_rfl) (by kernel_rfl) (fun _ _ _ h => h) (Or.inl ⟨by rfl, fun w' hS' => ?_⟩) s3 ?_
            ·obtain ⟨m2, q0, q1, q2, q3, q4, q5, q6, q7, r0⟩ := hS'
             go_simp
            simp only [BZ.z, Act.put, Nat.reduceAdd]
            refine wpAnyH_take (i := 27) (v := .bool true) rfl (by kernel_rfl) (by kernel_rfl) (by kernel_rfl) (fun _ _ _ h => h) (Or.inl ⟨by rfl, fun w' hS' => by rfl⟩) s3 ?_
            simp only [BZ.z, Act.put, Nat.reduceAdd]
            refine wpAnyH_take (i := 28) (v := .bool true) rfl (by kernel_rfl) (by kernel_rfl) (by kernel_rfl) (fun _ _ _ h => h) (Or.inl ⟨by rfl, fun w' hS' => by rfl⟩) s3 ?_
            simp only [BZ.z, Act.put, Nat.reduceAdd]
            refine wpAnyH_done (by kernel_rfl) ?_ _
            go_wp2
            go_ret
            exact ⟨by rw [HT.out]; rfl, x3.bel⟩
        ·obtain rfl : j = k.ds.length := by omega
         have e9 : decide ((k.ds.length : Int) < (k.ds.length : Int)) = false := by simp
         have HT : Hid (N0.to (lAt k) k.ds.length = true) := hto
         clear HL HF HLk HLA hto
         go_wp2
         go_ret
         exact ⟨by rw [HT.out]; rfl, xr.bel⟩
end Go.Proofs.YtljnkicgahepfaaGreatDoor.KS
