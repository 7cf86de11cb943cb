/- The contract of spec.Power, as the given laws call it. -/
import Derived.Test.YtkpcpffpiilcpaaPw0
import Derived.Test.YtkpcpffpiilcpaaFls3
import Derived.Test.YtkpcpffpiilcpaaDrt3
namespace Go.Proofs.Ytkpcpffpiilcpaa.W1
open Go.ChangeShapes Go.WideShapes Go.ChangeAt Go.RowKit
open X0 (row mix)
open W0 (has sel pick pw pMem pDur)
set_option linter.unusedVariables false
set_option linter.unusedSimpArgs false
set_option maxRecDepth 10000

theorem fr_drewN {B : Nat} {w W : World} {a b : ByteArray} (h : D2.Fr B w a b W) (n : Nat) : D2.Fr B w a b (W.drewN n) := h.below (Y3.below_drewN _ _)

set_option maxHeartbeats 4000000 in
theorem spec_Power (a b : ByteArray) (ka : Option Addr) (kc : Nat) (kept : List Int) (w : World) (ha : a.size ≤ 281474976710656) (hb : b.size ≤ 281474976710656) (hn : kept.length ≤ 1048576) (hR : P0.Row w ka kept) :
    Calls Try.prog 25 #[.agg #[.string a, .string b], .slice ka kept.length kc] w fun e w' => e = .returned (.agg #[.string (pMem a b kept), .string (pDur a b kept)]) ∧ Below w.heap.size w w' := by
  have hF := D2.fr_new a b w
  by_cases hok : D1.ok a b = true
  · obtain ⟨ha7, hb7⟩ := D1.ok_true hok
    have eM : pMem a b kept = pw a b kept := if_pos hok
    have eD : pDur a b kept = pw a b kept := if_pos hok
    rw [eM, eD]
    have hlb : b.data.toList.length = 768 := by rw [← Lib.size_eq]; exact hb7
    have hd : Y0.dirty a b = Y0.drt a b 96 := if_pos hok
    have HG : Hid (∀ i, i < (Y0.drt a b 96).length → ∃ q : Nat, q < 96 ∧ (Y0.drt a b 96).getD i 0 = (q : Int)) := fun i hi => W0.drt_get hi
    have HA : Hid (mix a.data.toList b.data.toList (sel (Y0.drt a b 96) kept (Y0.drt a b 96).length) = mix a.data.toList b.data.toList (pick kept)) := W0.sel_all ha7 hb7
    have hzl := Y0.drt_len a b 96
    have sD : Hid (∀ W, Calls Try.prog 19 #[.agg #[.string a, .string b]] W fun e w' => ∃ p c, e = .returned (.slice p (Y0.drt a b 96).length c) ∧ J0.Own W.heap.size w' p (Y0.drt a b 96) ∧ Below W.heap.size W w') := fun W => (Y0.spec_Dirty a b W ha hb).mono fun e w' ⟨p, c, he, ho, hc, hb⟩ => by rw [hd] at he ho; exact ⟨p, c, he, ho, hb⟩
    obtain ⟨Z, hZ⟩ : ∃ Z, Y0.drt a b 96 = Z := ⟨_, rfl⟩
    rw [hZ] at HG HA hzl sD
    clear hZ hd
    have HH : Hid (∀ (q : Int) W, Below w.heap.size w W → Calls Try.prog 52 #[.slice ka kept.length kc, .int .i64 q] W fun e w' => e = .returned (.bool (has kept q)) ∧ W = w') := fun q W hW => (W0.spec_has ka kc kept q W hn (hR.below hW)).mono fun _ _ h => ⟨h.1, h.2.symm⟩
    go_enter Try.func25, Try.ntmps25
    go_wp2_with (go_at_call 19; refine (sD.out _).mono ?_; rintro e w1 ⟨p, c, rfl, o1, b1⟩; have h1 := hF.below b1)
    have o2 : J0.Own (w.heap.size + 2) w1 p Z := by simpa using o1
    go_loopw [6] (fun t w' => ∃ k : Nat, k ≤ Z.length ∧ t = .int .i64 k ∧ D2.Fr w.heap.size w a ⟨(mix a.data.toList b.data.toList (sel Z kept k)).toArray⟩ w' ∧ J0.Own (w.heap.size + 2) w' p Z) (fun t _ => Z.length - (intOf t).toNat)
    case atStart =>
      refine ⟨0, Nat.zero_le _, rfl, ?_, o2⟩
      rw [X0.mix_none _ _ hlb (sel Z kept 0) (fun k _ => rfl), show (⟨b.data.toList.toArray⟩ : ByteArray) = b from Lib.mk_data b]
      exact h1
    case round =>
      obtain ⟨k, hk, rfl, hFr, ho⟩ := hrel
      clear h1 o1 o2 b1 hF sD
      have z0 := hFr.c0
      have z1 := hFr.c1
      by_cases hlt : k < Z.length
      · obtain ⟨q, hq96, hq⟩ := HG.out k hlt
        obtain ⟨g, off, hp, hgl, hc⟩ := ho.row.get hlt
        have x1 := hc k hlt
        rw [hq] at x1
        have e1 : (0 : Int) ≤ (k : Int) := by omega
        have e2 : (k : Int) < (Z.length : Int) := by omega
        have hbel := hFr.bel
        have hbs := F3.fd_size a.data.toList b.data.toList (sel Z kept k)
        clear hc HG HA
        by_cases hh : has kept (q : Int) = true
        · have HM : Hid (B5.laid ⟨(mix a.data.toList b.data.toList (sel Z kept k)).toArray⟩ ((q : Int) * 8) (B2.part a ((q : Int) * 8) 8) = ⟨(mix a.data.toList b.data.toList (sel Z kept (k + 1))).toArray⟩) := X0.laid_row a b.data.toList (sel Z kept k) (sel Z kept (k + 1)) q ha7 hq96 (W0.sel_other hlt hq) (W0.sel_yes hlt hq hh)
          have hHq := HH.out (q : Int)
          rw [hh] at hHq
          have HQ : Hid (∀ W, Below w.heap.size w W → Calls Try.prog 52 #[.slice ka kept.length kc, .int .i64 (q : Int)] W fun e w' => e = .returned (.bool true) ∧ W = w') := hHq
          obtain ⟨bk, hbk⟩ : ∃ bk : ByteArray, (⟨(mix a.data.toList b.data.toList (sel Z kept k)).toArray⟩ : ByteArray) = bk := ⟨_, rfl⟩
          rw [hbk] at hFr z1 HM hbs
          clear hbk hHq HH hq hh
          subst hp
          have hFd := hFr.drew
          have hod := ho.drew
          go_wp2_with (go_at_call 52; refine (HQ.out _ hbel).mono ?_; rintro e w2 ⟨rfl, rfl⟩)
          go_region_with (go_at_call 49; refine (F2.l02Line a bk q _ ha7 hbs hq96).mono ?_; rintro e w3 ⟨rfl, b3⟩; have h4 := hFd.below b3; have o4 := hod.below b3; have v0 := h4.c0; have v1 := h4.c1; have v2 := h4.g0; have v3 := h4.g1)
          all_goals
            have h5 := F2.set1 (h4.set0 a) (B5.laid bk ((q : Int) * 8) (B2.part a ((q : Int) * 8) 8))
            have o5 := (o4.set (B := w.heap.size) (by omega) 0 (.string a)).set (B := w.heap.size) (by omega) 1 (.string (B5.laid bk ((q : Int) * 8) (B2.part a ((q : Int) * 8) 8)))
            go_wp2
            go_roundw
            case rel => exact ⟨k + 1, by omega, by go_num, by rw [← HM.out]; exact h5, o5⟩
            case measure => simp [intOf]; omega
        · have hh' : has kept (q : Int) = false := by simpa using hh
          have HM : Hid (mix a.data.toList b.data.toList (sel Z kept k) = mix a.data.toList b.data.toList (sel Z kept (k + 1))) := X0.mix_congr _ _ _ _ (W0.sel_no hlt hq hh')
          have hHq := HH.out (q : Int)
          rw [hh'] at hHq
          have HQ : Hid (∀ W, Below w.heap.size w W → Calls Try.prog 52 #[.slice ka kept.length kc, .int .i64 (q : Int)] W fun e w' => e = .returned (.bool false) ∧ W = w') := hHq
          clear hHq HH hq hh hh'
          subst hp
          go_wp2_with (go_at_call 52; refine (HQ.out _ hbel).mono ?_; rintro e w2 ⟨rfl, rfl⟩)
          go_roundw
          case rel => exact ⟨k + 1, by omega, by go_num, by rw [← HM.out]; exact hFr, ho⟩
          case measure => simp [intOf]; omega
      · obtain rfl : k = Z.length := by omega
        rw [HA.out] at hFr z1
        have hbs := F3.fd_size a.data.toList b.data.toList (pick kept)
        obtain ⟨bk, hbk⟩ : ∃ bk : ByteArray, (⟨(mix a.data.toList b.data.toList (pick kept)).toArray⟩ : ByteArray) = bk := ⟨_, rfl⟩
        rw [hbk] at hFr z1 hbs
        have HB : Hid (pw a b kept = bk) := hbk
        have hok2 : D1.ok a bk = true := D1.ok_mk ha7 hbs
        clear hbk HG HA HH hok eM eD
        go_wp2_with (go_at_call 21; refine (D2.spec_DevOk_fr _ _ ha (by omega) hFr).mono ?_; rintro e w2 ⟨rfl, h2⟩; rw [hok2]; have y0 := h2.c0; have y1 := h2.c1; have y2 := h2.g0; have y3 := h2.g1; have h3 := h2.set0 bk; have u0 := h3.c0; have u1 := h3.c1; have d2 := h3.r0; have d3 := h3.r1; have d4 := h3.f0; have d5 := h3.f1)
        have q := D2.ret2 (a := bk) (b := bk) d2 d3
        exact bodyPost_ret (v := .agg #[.string bk, .string bk]) (by simp [results, Try.results25, go_sem, q.1, q.2]) rfl ⟨by rw [HB.out], h3.done _ _⟩
  · have hok' : D1.ok a b = false := by simpa using hok
    have eM : pMem a b kept = a := if_neg hok
    have eD : pDur a b kept = b := if_neg hok
    rw [eM, eD]
    have hd : Y0.dirty a b = [] := if_neg hok
    have sD : Hid (∀ W, Calls Try.prog 19 #[.agg #[.string a, .string b]] W fun e w' => ∃ p c, e = .returned (.slice p 0 c) ∧ Below W.heap.size W w') := fun W => (Y0.spec_Dirty a b W ha hb).mono fun e w' ⟨p, c, he, ho, hc, hb⟩ => by rw [hd] at he; exact ⟨p, c, he, hb⟩
    clear hd eM eD hok
    go_enter Try.func25, Try.ntmps25
    go_wp2_with (go_at_call 19; refine (sD.out _).mono ?_; rintro e w1 ⟨p, c, rfl, b1⟩; have h1 := hF.below b1)
    go_loopw [6] (fun t w' => t = .int .i64 0 ∧ w' = w1) (fun t _ => 0)
    case atStart => exact ⟨rfl, rfl⟩
    case round =>
      obtain ⟨rfl, rfl⟩ := hrel
      have z0 := h1.c0
      have z1 := h1.c1
      clear hF sD
      go_wp2_with (go_at_call 21; refine (D2.spec_DevOk_fr _ _ ha hb h1).mono ?_; rintro e w2 ⟨rfl, h2⟩; rw [hok']; have y0 := h2.c0; have y1 := h2.c1; have d2 := h2.r0; have d3 := h2.r1; have d4 := h2.f0; have d5 := h2.f1)
      have q := D2.ret2 (a := a) (b := b) d2 d3
      exact bodyPost_ret (v := .agg #[.string a, .string b]) (by simp [results, Try.results25, go_sem, q.1, q.2]) rfl ⟨rfl, h2.done _ _⟩
end Go.Proofs.Ytkpcpffpiilcpaa.W1
