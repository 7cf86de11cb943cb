/- The contract of spec.GetDir, as the given laws call it. -/
import Derived.Test.YtifddipnboifnaaGdr1
namespace Go.Proofs.Ytifddipnboifnaa.V3
open Go.ChangeShapes Go.WideShapes Go.ChangeAt Go.RowKit
set_option linter.unusedVariables false
set_option linter.unusedSimpArgs false
set_option maxRecDepth 10000

open V1 (Ans ans_no ans_yes EBuf OwnE)

theorem wf_of (n : Int) (h0 : -9223372036854775808 ≤ n) (h1 : n ≤ 9223372036854775807) : (Lit.int .i64 n).wf = true := by
  simp [Lit.wf, IntKind.min, IntKind.max, IntKind.signed, IntKind.bits]
  omega

theorem get_any {s : ByteArray} {W : World} (hs : s.size ≤ 281474976710656) :
    Calls Try.prog 20 #[.string s] W fun e w' => e = .returned (.tuple #[.agg #[.int .i64 (E4.eIno s), .string (E4.eName s)], .bool (E4.isE s)]) ∧ Below W.heap.size W w' := E4.spec_GetEntry s W hs

theorem cnt_lt (s : ByteArray) (k : Nat) : k < V0.cnt s ↔ k * 16 < s.size ∧ k < 13 := by
  unfold V0.cnt
  omega

set_option maxHeartbeats 2000000 in
theorem spec_GetDir (s : ByteArray) (w : World) (hs : s.size ≤ 281474976710656) : Calls Try.prog 35 #[.string s] w (Ans s w) := by
  have hm : s.size ≤ maxLen := by unfold maxLen; omega
  have HN : Hid (∀ a c w', V0.isD s = false → Below w.heap.size w w' → Ans s w (.returned (.tuple #[.slice a 0 c, .bool false])) w') := fun a c w' h hb => ans_no h hb
  have HY : Hid (∀ a c w', V0.isD s = true → OwnE w.heap.size w' a (V0.ents s (V0.cnt s)) → V0.cnt s ≤ c → Below w.heap.size w w' → Ans s w (.returned (.tuple #[.slice a (V0.cnt s) c, .bool true])) w') := fun a c w' h1 ho hc hb => ans_yes h1 ho hc hb
  obtain ⟨R, hR⟩ : ∃ R, Ans s w = R := ⟨_, rfl⟩
  rw [hR] at HN HY ⊢
  clear hR
  have hct := cnt_lt s
  have b0 := V1.ebuf_made w (Nat.le_refl _)
  have l0 := K0.below_new w (.cells #[] 33)
  go_enter Try.func35, Try.ntmps35
  go_wp2
  go_loopw [4, 5] (fun v i w' => ∃ (k c : Nat) (a : Option Addr), k ≤ V0.cnt s ∧ i = .int .i64 ((k : Int) * 16) ∧ v = .slice a k c ∧ EBuf w.heap.size w' a k c (V0.ents s k) ∧ Below w.heap.size w w') (fun _ i _ => 208 - (intOf i).toNat)
  case atStart => exact ⟨0, 0, _, Nat.zero_le _, rfl, rfl, b0, l0⟩
  case round =>
    obtain ⟨k, c, a, hk, rfl, rfl, hbuf, hbel⟩ := hrel
    clear b0 l0
    by_cases hlt : k < V0.cnt s
    · obtain ⟨h1, h2⟩ := (hct k).1 hlt
      have e1 : (k : Int) * 16 < (s.size : Int) := by omega
      have e2 : (k : Int) * 16 < 208 := by omega
      have hcs : (V0.chunk s k).size ≤ 281474976710656 := by have := B2.part_size s ((k : Int) * 16) 16; unfold V0.chunk; omega
      have hpt : Hid (∀ W, Calls Try.prog 71 #[.string s, .int .i64 ((k : Int) * 16), .int .i64 16] W fun e w' => e = .returned (.string (V0.chunk s k)) ∧ W = w') := fun W => (B2.spec_Part _ _ _ _ hm (wf_of _ (by omega) (by omega)) (by decide)).mono fun _ _ h => ⟨h.1, h.2.symm⟩
      have HS : Hid (V0.ents s k ++ [(E4.eIno (V0.chunk s k), E4.eName (V0.chunk s k))] = V0.ents s (k + 1)) := V0.ents_succ s k
      clear hct
      go_wp2_with (first
        | (go_at_call 71; refine (hpt.out _).mono ?_; rintro e w1 ⟨rfl, rfl⟩)
        | (go_at_call 20; refine (get_any hcs).mono ?_; rintro e w2 ⟨rfl, b2⟩; have f2 := hbel.trans (b2.mono hbel.size); have u2 := (hbuf.below b2).alloc (.cells #[.int .i64 (E4.eIno (V0.chunk s k)), .string (E4.eName (V0.chunk s k))] 33); have f3 := f2.alloc f2.size (.cells #[.int .i64 (E4.eIno (V0.chunk s k)), .string (E4.eName (V0.chunk s k))] 33))
        | (at_builtin; refine V1.append_ent rfl (.tmp 26) (.tmp 28) rfl u2 _ _ (by rfl) (H := w2.heap.size + 1) (by simp) (by rfl) (by omega) f3.size ?_; intro g1 cap1 w4 hbuf4 bel4))
      go_roundw
      case rel => exact ⟨k + 1, cap1, _, by omega, by go_num, rfl, by rw [← HS.out]; exact hbuf4, f3.trans bel4⟩
      case measure => simp [intOf]; omega
    · obtain rfl : k = V0.cnt s := by omega
      have hfit := hbuf.fits
      have hpd : Hid (Calls Try.prog 39 #[.slice a (V0.cnt s) c] wr fun e w' => e = .returned (.string (T0.putD (V0.ents s (V0.cnt s)))) ∧ Below wr.heap.size wr w') := by
        have hc13 : V0.cnt s ≤ 13 := Nat.min_le_right _ _
        have := T3.spec_PutDir a c (V0.ents s (V0.cnt s)) wr (by rw [V0.ents_length]; omega) (by rw [V0.ents_length]; exact hfit) (V1.fits_ents s _ hs) hbuf.own.row
        rw [V0.ents_length] at this
        exact this
      have hex : decide ((V0.cnt s : Int) * 16 < (s.size : Int)) = false ∨ ((V0.cnt s : Int) * 16 < (s.size : Int) ∧ decide ((V0.cnt s : Int) * 16 < 208) = false) := by
        by_cases h : (V0.cnt s : Int) * 16 < (s.size : Int)
        · right
          refine ⟨h, ?_⟩
          simp
          by_cases h13 : V0.cnt s < 13
          · exact absurd ((hct _).2 ⟨by omega, h13⟩) hlt
          · omega
        · left
          simpa using h
      clear hct hlt hk
      by_cases h0 : s.size = 0
      · have hI : V0.isD s = true := by rw [V0.isD, decide_eq_true h0]; rfl
        have hemp : s.toList.isEmpty = true := by
          rw [Lib.toList_data]
          have : s.data.toList = [] := List.eq_nil_of_length_eq_zero (by rw [← Lib.size_eq]; exact h0)
          rw [this]
          rfl
        rcases hex with e3 | ⟨e4, e3⟩
        · go_wp2
          exact HY.out _ _ _ hI hbuf.own hfit hbel
        · exfalso
          omega
      · have hemp : s.toList.isEmpty = false := by
          rw [Lib.toList_data]
          cases hl : s.data.toList with
          | nil => rw [Lib.size_eq, hl] at h0; exact absurd rfl h0
          | cons x r => rfl
        by_cases hP : ((T0.putD (V0.ents s (V0.cnt s))).toList == s.toList) = true
        · have hI : V0.isD s = true := by rw [V0.isD, hP, Bool.or_true]
          rcases hex with e3 | ⟨e4, e3⟩
          all_goals
            go_wp2_with (go_at_call 39; refine hpd.out.mono ?_; rintro e w2 ⟨rfl, b2⟩)
            exact HY.out _ _ _ hI (hbuf.own.below b2) hfit (hbel.trans (b2.mono hbel.size))
        · have hP' : ((T0.putD (V0.ents s (V0.cnt s))).toList == s.toList) = false := by simpa using hP
          have hI : V0.isD s = false := by rw [V0.isD, hP', decide_eq_false h0]; rfl
          rcases hex with e3 | ⟨e4, e3⟩
          all_goals
            go_wp2_with (go_at_call 39; refine hpd.out.mono ?_; rintro e w2 ⟨rfl, b2⟩; have f2 := hbel.trans (b2.mono hbel.size); have f3 := f2.alloc f2.size (.cells #[] 33))
            exact HN.out _ _ _ hI f3
end Go.Proofs.Ytifddipnboifnaa.V3
