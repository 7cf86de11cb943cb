/- The contract of impl.GetDir, as the given laws call it. -/
import Derived.Test.YtifddipnboifnaaGdr1
namespace Go.Proofs.Ytifddipnboifnaa.V2
open Go.ChangeShapes Go.WideShapes Go.ChangeAt Go.RowKit
set_option linter.unusedVariables false
set_option linter.unusedSimpArgs false
set_option maxRecDepth 10000

open V1 (Ans ans_no ans_yes EBuf OwnE)

theorem get_lit {s : ByteArray} {W : World} {r : Bool} (hs : s.size ≤ 281474976710656) (hr : E4.isE s = r) :
    Calls Try.prog 19 #[.string s] W fun e w' => e = .returned (.tuple #[.agg #[.int .i64 (E4.eIno s), .string (E4.eName s)], .bool r]) ∧ Below W.heap.size W w' :=
  (E4.impl_GetEntry s W hs).mono fun _ _ ⟨he, hb⟩ => ⟨by rw [he, E4.getE, hr], hb⟩

set_option maxHeartbeats 2000000 in
theorem impl_GetDir (s : ByteArray) (w : World) (hs : s.size ≤ 281474976710656) : Calls Try.prog 34 #[.string s] w (Ans s w) := by
  have HN : Hid (∀ a c w', V0.isD s = false → Below w.heap.size w w' → Ans s w (.returned (.tuple #[.slice a 0 c, .bool false])) w') := fun a c w' h hb => ans_no h hb
  have HF : Hid (∀ k, V0.isD s = true → k < s.size / 16 → E4.isE (V0.chunk s k) = true) := fun k h hk => (V0.of_isD h).2.2.2.1 k hk
  have HD : Hid (V0.isD s = true → T0.dirOk (V0.ents s (s.size / 16)) = true) := fun h => (V0.of_isD h).2.2.2.2
  have HY : Hid (∀ a c w', s.size ≤ 192 → s.size % 16 = 0 → (∀ j, j < s.size / 16 → E4.isE (V0.chunk s j) = true) → T0.dirOk (V0.ents s (s.size / 16)) = true → OwnE w.heap.size w' a (V0.ents s (s.size / 16)) → s.size / 16 ≤ c → Below w.heap.size w w' → Ans s w (.returned (.tuple #[.slice a (s.size / 16) c, .bool true])) w') := fun a c w' h1 h2 h3 h4 ho hc hb => by
    obtain ⟨hi, hk⟩ := V0.isD_of h1 h2 h3 h4
    rw [← hk] at ho hc ⊢
    exact ans_yes hi ho hc hb
  obtain ⟨R, hR⟩ : ∃ R, Ans s w = R := ⟨_, rfl⟩
  by_cases h1 : 192 < (s.size : Int)
  · have hi : V0.isD s = false := by
      cases h : V0.isD s with
      | false => rfl
      | true => have := (V0.of_isD h).1; omega
    rw [hR] at HN ⊢
    go_enter Try.func34, Try.ntmps34
    go_wp2
    exact HN.out _ _ _ hi (K0.below_new _ _)
  · by_cases h2 : s.size % 16 = 0
    · have h2' : ((s.size : Int) % 16 != 0) = false := by simp; omega
      have b0 := V1.ebuf_made w (Nat.le_refl _)
      have l0 := K0.below_new w (.cells #[] 33)
      rw [hR] at HN HY ⊢
      clear hR
      go_enter Try.func34, Try.ntmps34
      go_wp2
      go_loopw [4, 5] (fun v i w' => ∃ (k c : Nat) (a : Option Addr), k ≤ s.size / 16 ∧ (∀ j, j < k → E4.isE (V0.chunk s j) = true) ∧ i = .int .i64 ((k : Int) * 16) ∧ v = .slice a k c ∧ EBuf w.heap.size w' a k c (V0.ents s k) ∧ Below w.heap.size w w') (fun _ i _ => s.size - (intOf i).toNat)
      case atStart => exact ⟨0, 0, _, Nat.zero_le _, fun j hj => absurd hj (Nat.not_lt_zero _), rfl, rfl, b0, l0⟩
      case round =>
        obtain ⟨k, c, a, hk, hE, rfl, rfl, hbuf, hbel⟩ := hrel
        clear b0 l0
        by_cases hlt : k < s.size / 16
        · have e1 : (k : Int) * 16 < (s.size : Int) := by omega
          have hcs : (V0.chunk s k).size ≤ 281474976710656 := by have := B2.part_size s ((k : Int) * 16) 16; unfold V0.chunk; omega
          have hpt : Hid (∀ W, Calls Try.prog 70 #[.string s, .int .i64 ((k : Int) * 16), .int .i64 16] W fun e w' => e = .returned (.string (V0.chunk s k)) ∧ Below W.heap.size W w') := fun W => B2.impl_Part _ _ _ _ hs
          have HS : Hid (V0.ents s k ++ [(E4.eIno (V0.chunk s k), E4.eName (V0.chunk s k))] = V0.ents s (k + 1)) := V0.ents_succ s k
          by_cases hi : E4.isE (V0.chunk s k) = true
          · have HE : Hid (∀ j, j < k + 1 → E4.isE (V0.chunk s j) = true) := fun j hj => by
              by_cases e : j = k
              · rw [e]; exact hi
              · exact hE j (by omega)
            clear hE
            go_wp2_with (first
              | (go_at_call 70; refine (hpt.out _).mono ?_; rintro e w1 ⟨rfl, b1⟩; have f1 := hbel.trans (b1.mono hbel.size))
              | (go_at_call 19; refine (get_lit hcs hi).mono ?_; rintro e w2 ⟨rfl, b2⟩; have f2 := f1.trans (b2.mono f1.size); have u2 := ((hbuf.below b1).below b2).alloc (.cells #[.int .i64 (E4.eIno (V0.chunk s k)), .string (E4.eName (V0.chunk s k))] 33); have f3 := f2.alloc f2.size (.cells #[.int .i64 (E4.eIno (V0.chunk s k)), .string (E4.eName (V0.chunk s k))] 33))
              | (at_builtin; refine V1.append_ent rfl (.tmp 35) (.tmp 37) rfl u2 _ _ (by rfl) (H := w2.heap.size + 1) (by simp) (by rfl) (by omega) f3.size ?_; intro g1 cap1 w4 hbuf4 bel4))
            go_roundw
            case rel => exact ⟨k + 1, cap1, _, by omega, HE.out, by go_num, rfl, by rw [← HS.out]; exact hbuf4, f3.trans bel4⟩
            case measure => simp [intOf]; omega
          · have hi' : E4.isE (V0.chunk s k) = false := by simpa using hi
            have hn : V0.isD s = false := by
              cases h : V0.isD s with
              | false => rfl
              | true => exact absurd (HF.out k h hlt) hi
            clear hE
            go_wp2_with (first
              | (go_at_call 70; refine (hpt.out _).mono ?_; rintro e w1 ⟨rfl, b1⟩; have f1 := hbel.trans (b1.mono hbel.size))
              | (go_at_call 19; refine (get_lit hcs hi').mono ?_; rintro e w2 ⟨rfl, b2⟩; have f2 := f1.trans (b2.mono f1.size); have f3 := f2.alloc f2.size (.cells #[.int .i64 (E4.eIno (V0.chunk s k)), .string (E4.eName (V0.chunk s k))] 33); have f4 := f3.alloc f3.size (.cells #[] 33)))
            exact HN.out _ _ _ hn f4
        · obtain rfl : k = s.size / 16 := by omega
          have e1 : ¬ ((s.size / 16 : Nat) : Int) * 16 < (s.size : Int) := by omega
          have hfit := hbuf.fits
          have hdl : Hid (∀ r, T0.dirOk (V0.ents s (s.size / 16)) = r → Calls Try.prog 81 #[.slice a (s.size / 16) c] wr fun e w' => e = .returned (.bool r) ∧ Below wr.heap.size wr w') := fun r hr => by
            have := T2.dir_lit (a := a) (c := c) (W := wr) (es := V0.ents s (s.size / 16)) (by rw [V0.ents_length]; omega) (by rw [V0.ents_length]; exact hfit) (V1.fits_ents s _ hs) hbuf.own.row hr
            rw [V0.ents_length] at this
            exact this
          by_cases hd : T0.dirOk (V0.ents s (s.size / 16)) = true
          · go_wp2_with (go_at_call 81; refine (hdl.out true hd).mono ?_; rintro e w1 ⟨rfl, b1⟩)
            exact HY.out _ _ _ (by omega) h2 hE hd (hbuf.own.below b1) hfit (hbel.trans (b1.mono hbel.size))
          · have hd' : T0.dirOk (V0.ents s (s.size / 16)) = false := by simpa using hd
            have hn : V0.isD s = false := by
              cases h : V0.isD s with
              | false => rfl
              | true => exact absurd (HD.out h) hd
            go_wp2_with (go_at_call 81; refine (hdl.out false hd').mono ?_; rintro e w1 ⟨rfl, b1⟩; have f1 := hbel.trans (b1.mono hbel.size); have f2 := f1.alloc f1.size (.cells #[] 33))
            exact HN.out _ _ _ hn f2
    · have h2' : ((s.size : Int) % 16 != 0) = true := by simp; omega
      have hi : V0.isD s = false := by
        cases h : V0.isD s with
        | false => rfl
        | true => exact absurd (V0.of_isD h).2.1 h2
      rw [hR] at HN ⊢
      go_enter Try.func34, Try.ntmps34
      go_wp2
      exact HN.out _ _ _ hi (K0.below_new _ _)
end Go.Proofs.Ytifddipnboifnaa.V2
