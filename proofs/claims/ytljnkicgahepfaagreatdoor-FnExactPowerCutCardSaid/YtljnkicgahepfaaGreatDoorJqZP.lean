/- Joined texts: plain facts and contracts. -/
import Derived.Test.YtljnkicgahepfaaGreatDoorJqZA
import Derived.Test.YtljnkicgahepfaaGreatDoorJqS
set_option linter.unusedVariables false
set_option linter.unusedSimpArgs false
set_option maxRecDepth 10000
namespace Go.Proofs.YtljnkicgahepfaaGreatDoor.KT
open Go.ChangeShapes Go.WideShapes Go.ChangeAt Go.RowKit
open N0 (Ln)
open N1 (Sl Lists Fit)
open HP (Rg at_)
open WI (rl)
open Z0 (dat Kp Lns kval)
open Z4 (Bk bk_new)
open I2 (ints)
open N13 (laid_size)
def outN (a : ByteArray) (rs : List Rg) : Nat → ByteArray
 | 0 => a
 | k + 1 => B5.laid (outN a rs k) (at_ rs k).1 (B4.zeros (at_ rs k).2)
def outS (a : ByteArray) (ds : List Ln) : Nat → ByteArray
 | 0 => a
 | k + 1 => outN (outS a ds k) (rl (dat ds k)) (rl (dat ds k)).length
theorem outN_size (a : ByteArray) (rs : List Rg) : ∀ k, (outN a rs k).size = a.size
 | 0 => rfl
 | k + 1 => by rw [outN, laid_size, outN_size a rs k]
theorem outS_size (a : ByteArray) (ds : List Ln) : ∀ k, (outS a ds k).size = a.size
 | 0 => rfl
 | k + 1 => by rw [outS, outN_size, outS_size a ds k]
theorem zeros_small (v : Int) : (B4.zeros v).size ≤ 281474976710656 := by
 unfold B4.zeros
 split
 ·rename_i h
  rw [B4.nulls_size]
  omega
 ·exact Nat.zero_le _
set_option maxHeartbeats 4000000 in
theorem l06Outside (k : Kp) (a : Option Addr) (c : Nat) (ss : Nat → Sl) (w : World) (hm1 : k.mem.size ≤ 281474976710656) (hm2 : k.dur.size ≤ 281474976710656) (hn : k.ds.length ≤ 1048576) (hF : Z4.Fits k.ds ss) (hR : Lns w a k.ds ss) :
  Calls Tryz.prog 49 #[kval k a c] w fun e w' => e = .returned (.bool ((outS k.mem k.ds k.ds.length).toList == (outS k.dur k.ds k.ds.length).toList)) ∧ Below w.heap.size w w' := by
 have x0 := bk_new w k a c
 have HL : Hid (∀ W, Below w.heap.size w W → Lns W a k.ds ss) := fun W hb => hR.below hb
 have HF : Hid (Z4.Fits k.ds ss) := hF
 have x1 : Bk w k a c (w.alloc (.cells #[.string k.mem, .string k.dur, .slice a k.ds.length c, .int .i64 k.ck] 28)).drew := x0.below ((Below.refl _ _).drew)
 have c0 := x0.arg.c0
 have c1 := x0.arg.c1
 clear hR hF
 go_enter Tryz.func49, Tryz.ntmps49
 go_wp2
 go_quiet (fail)
 have x2 := x0.below (K0.below_drewN (Below.refl _ _) nq)
 clear c0 c1 x1 x0
 go_wp2
 go_loopw [3, 4, 5] (fun p q i w' => ∃ j : Nat, j ≤ k.ds.length ∧ i = .int .i64 j ∧ p = .string (outS k.mem k.ds j) ∧ q = .string (outS k.dur k.ds j) ∧ Bk w k a c w') (fun _ _ i _ => k.ds.length - (intOf i).toNat)
 case atStart => exact ⟨0, Nat.zero_le _, rfl, rfl, rfl, x2⟩
 case round =>
  obtain ⟨j, hj, rfl, rfl, rfl, xr⟩ := hrel
  clear x2
  have c2 := xr.arg.c2
  by_cases hlt : j < k.ds.length
  ·have ls := (HL.out _ xr.bel).sub j hlt
   obtain ⟨hf, hpo, hfr⟩ := HF.out j hlt
   obtain ⟨b, off, hab, hlt0, hc⟩ := (HL.out _ xr.bel).row.get hlt
   obtain ⟨y0, y1, y2, y3, y4, y5, y6, y7⟩ := hc j hlt
   have s1 := outS_size k.mem k.ds j
   have s2 := outS_size k.dur k.ds j
   have hs1 : outS k.mem k.ds (j + 1) = outN (outS k.mem k.ds j) (rl (dat k.ds j)) (rl (dat k.ds j)).length := rfl
   have hs2 : outS k.dur k.ds (j + 1) = outN (outS k.dur k.ds j) (rl (dat k.ds j)) (rl (dat k.ds j)).length := rfl
   obtain ⟨d, ed⟩ : ∃ d, dat k.ds j = d := ⟨_, rfl⟩
   obtain ⟨s, es⟩ : ∃ s, ss j = s := ⟨_, rfl⟩
   rw [ed, es] at ls hf
   rw [ed] at y0 y1 y2 y3 y4 y5 y6 y7 hs1 hs2 hpo hfr
   rw [es] at y4 y6 y7
   rw [hab] at c2
   obtain ⟨A, eA⟩ : ∃ A, outS k.mem k.ds j = A := ⟨_, rfl⟩
   obtain ⟨B, eB⟩ : ∃ B, outS k.dur k.ds j = B := ⟨_, rfl⟩
   rw [eA] at hs1 s1
   rw [eB] at hs2 s2
   rw [eA, eB]
   have HS1 : Hid (outS k.mem k.ds (j + 1) = outN A (rl d) (rl d).length) := hs1
   have HS2 : Hid (outS k.dur k.ds (j + 1) = outN B (rl d) (rl d).length) := hs2
   have e1 : (0 : Int) ≤ (j : Int) := by omega
   have e2 : (j : Int) < (k.ds.length : Int) := by omega
   have HRg : Hid (Calls Tryz.prog 112 #[N1.val d s] wr (R6.Ans d wr)) := R6.spec_Ranges d s wr hf hpo hfr ls
   have hnr : (rl d).length = R6.nR d := WI.rl_len d
   obtain ⟨n, hnn⟩ : ∃ n, (rl d).length = n := ⟨_, rfl⟩
   rw [hnn] at hnr
   have hn13 : n ≤ 13 := by rw [← hnn]; exact WI.rl_small d
   have HN : Hid ((rl d).length = n) := hnn
   clear hab ed es hc ls hf eA eB hs1 hs2 hnn
   go_wp2_with (go_at_call 112; refine HRg.out.mono ?_; rintro e w4 ⟨a4, c4', rfl, hq4, hc4, o4, b4⟩; have x4 := xr.below b4; have r4 := WI.row_of o4)
   rw [← hnr] at *
   have r4' : rl d = [] ∨ ∃ G, a4 = some ⟨G, 0, none⟩ ∧ K0.Blk G (ints (R6.rg d)) w4 := r4.imp id fun ⟨G, h1, h2, h3⟩ => ⟨G, h1, h3⟩
   clear r4 hq4 hc4 o4 b4 HRg y0 y1 y2 y3 y4 y5 y6 y7 c2 xr
   go_loopw [3, 4, 7] (fun p q i w' => ∃ t : Nat, t ≤ n ∧ i = .int .i64 t ∧ p = .string (outN A (rl d) t) ∧ q = .string (outN B (rl d) t) ∧ Bk w k a c w' ∧ (rl d = [] ∨ ∃ G, a4 = some ⟨G, 0, none⟩ ∧ K0.Blk G (ints (R6.rg d)) w')) (fun _ _ i _ => n - (intOf i).toNat)
   case atStart => exact ⟨0, Nat.zero_le _, rfl, rfl, rfl, x4, r4'⟩
   case round =>
    obtain ⟨t, ht, rfl, rfl, rfl, xq, rk⟩ := hrel
    clear x4 r4'
    by_cases hlt2 : t < n
    ·obtain ⟨G, rfl, kG⟩ : ∃ G, a4 = some ⟨G, 0, none⟩ ∧ K0.Blk G (ints (R6.rg d)) wr := by
      rcases rk with h0 | h0
      ·rw [h0] at HN
       have := HN.out
       simp at this
       omega
      ·exact h0
     have hkl : t < (rl d).length := by have := HN.out; omega
     obtain ⟨y1, y2⟩ := WI.row_get kG hkl
     have z1 := outN_size A (rl d) t
     have z2 := outN_size B (rl d) t
     have h1 : outN A (rl d) (t + 1) = B5.laid (outN A (rl d) t) (at_ (rl d) t).1 (B4.zeros (at_ (rl d) t).2) := rfl
     have h2 : outN B (rl d) (t + 1) = B5.laid (outN B (rl d) t) (at_ (rl d) t).1 (B4.zeros (at_ (rl d) t).2) := rfl
     obtain ⟨r, er⟩ : ∃ r, at_ (rl d) t = r := ⟨_, rfl⟩
     rw [er] at y1 y2 h1 h2
     obtain ⟨u, v⟩ := r
     simp only at y1 y2 h1 h2
     obtain ⟨A', eA⟩ : ∃ A', outN A (rl d) t = A' := ⟨_, rfl⟩
     obtain ⟨B', eB⟩ : ∃ B', outN B (rl d) t = B' := ⟨_, rfl⟩
     rw [eA] at h1 z1
     rw [eB] at h2 z2
     rw [eA, eB]
     have H1 : Hid (outN A (rl d) (t + 1) = B5.laid A' u (B4.zeros v)) := h1
     have H2 : Hid (outN B (rl d) (t + 1) = B5.laid B' u (B4.zeros v)) := h2
     have hwa : Hid (∀ W, Calls Tryz.prog 97 #[.string A', .int .i64 u, .string (B4.zeros v)] W fun e w' => e = .returned (.string (B5.laid A' u (B4.zeros v))) ∧ ∃ n, w' = W.drewN n) := fun W => B5.spec_With _ _ _ _ (by omega) (zeros_small v)
     have hwb : Hid (∀ W, Calls Tryz.prog 97 #[.string B', .int .i64 u, .string (B4.zeros v)] W fun e w' => e = .returned (.string (B5.laid B' u (B4.zeros v))) ∧ ∃ n, w' = W.drewN n) := fun W => B5.spec_With _ _ _ _ (by omega) (zeros_small v)
     have q1 : (0 : Int) ≤ (t : Int) := by omega
     have q2 : (t : Int) < (n : Int) := by omega
     clear eA eB h1 h2 rk
     go_wp2
     go_quiet ((first
      | (go_at_call 111; exact Calls.quiet_of_same (B4.spec_Zeros _ _))
      | (go_at_call 97; exact Calls.quiet_of (hwa.out _))))
     have xs := xq.below (K0.below_drewN (Below.refl _ _) nq)
     have kH := kG.drewN nq
     obtain ⟨w5, hw5⟩ : ∃ w5, wr.drewN nq = w5 := ⟨_, rfl⟩
     rw [hw5] at xs kH ⊢
     obtain ⟨y1', y2'⟩ := WI.row_get kH hkl
     rw [er] at y1' y2'
     simp only at y1' y2'
     clear hw5 er
     go_wp2
     go_quiet ((first
      | (go_at_call 111; exact Calls.quiet_of_same (B4.spec_Zeros _ _))
      | (go_at_call 97; exact Calls.quiet_of (hwb.out _))))
     have xs2 := xs.below (K0.below_drewN (Below.refl _ _) nq)
     have kH2 := kH.drewN nq
     go_wp2
     go_roundw
     case rel => exact ⟨t + 1, by omega, by go_num, by rw [H1.out], by rw [H2.out], xs2, Or.inr ⟨G, rfl, kH2⟩⟩
     case measure => simp [intOf]; omega
    ·obtain rfl : t = n := by omega
     have e9 : decide ((t : Int) < (t : Int)) = false := by simp
     have HN2 := HN.out
     go_wp2
     go_roundw
     case rel => exact ⟨j + 1, by omega, by go_num, by rw [HS1.out, HN2], by rw [HS2.out, HN2], xq⟩
     case measure => simp [intOf]; omega
  ·obtain rfl : j = k.ds.length := by omega
   have e9 : decide ((k.ds.length : Int) < (k.ds.length : Int)) = false := by simp
   clear HL HF
   go_wp2
   go_ret
   exact ⟨rfl, xr.bel⟩
end Go.Proofs.YtljnkicgahepfaaGreatDoor.KT
