/- The specification's words of an event: its kind, a number, the rest behind blanks, bytes of digits. -/
import Derived.Test.YtjajclifjojblaaDoorRv5
import Derived.Test.YtjajclifjojblaaDoorWords1
import Derived.Test.YtjajclifjojblaaDoorRead1
import Derived.Test.YtjajclifjojblaaDoorIn1
namespace Go.Proofs.YtjajclifjojblaaDoor.RS
open Go.ChangeShapes Go.WideShapes Go.ChangeAt Go.RowKit
set_option linter.unusedVariables false
set_option linter.unusedSimpArgs false
set_option maxRecDepth 10000
open RV (mk sp jn nib un hexOk okH txt)
open RU (told two two_not okH_dash okH_of okH_none cat_un nib_le hexOk_even)

theorem nibble (c : UInt8) (w : World) :
    Calls Tryd.prog 26 #[.int .u8 (c.toNat : Int)] w fun e w' => e = .returned (.int .i64 (nib c)) ∧ w' = w := by
  have hc := c.toNat_lt
  have h1 : ∀ W, Calls Tryd.prog 14 #[.int .i64 (c.toNat : Int), .int .i64 48, .int .i64 57] W fun e w' => e = .returned (.bool (decide (48 ≤ c.toNat ∧ c.toNat ≤ 57))) ∧ w' = W := fun W => (B1.l01In_any _ _ _ _).mono fun e w' ⟨he, hw⟩ => ⟨by rw [he]; unfold B1.inB; congr 3; exact propext ⟨fun h => by omega, fun h => by omega⟩, hw⟩
  have h2 : ∀ W, Calls Tryd.prog 14 #[.int .i64 (c.toNat : Int), .int .i64 97, .int .i64 102] W fun e w' => e = .returned (.bool (decide (97 ≤ c.toNat ∧ c.toNat ≤ 102))) ∧ w' = W := fun W => (B1.l01In_any _ _ _ _).mono fun e w' ⟨he, hw⟩ => ⟨by rw [he]; unfold B1.inB; congr 3; exact propext ⟨fun h => by omega, fun h => by omega⟩, hw⟩
  by_cases ha : 48 ≤ c.toNat ∧ c.toNat ≤ 57
  · have e : nib c = (c.toNat : Int) - 48 := if_pos ha
    rw [decide_eq_true ha] at h1
    have H1 : Hid (∀ W, Calls Tryd.prog 14 #[.int .i64 (c.toNat : Int), .int .i64 48, .int .i64 57] W fun e w' => e = .returned (.bool true) ∧ w' = W) := h1
    rw [e]
    clear h1 h2 e
    generalize c.toNat = m at *
    go_enter Tryd.func26, Tryd.ntmps26
    go_wp2_with (go_at_call 14; refine (H1.out _).mono ?_; rintro e w' ⟨rfl, rfl⟩)
    go_ret
    exact ⟨rfl, rfl⟩
  · rw [decide_eq_false ha] at h1
    have H1 : Hid (∀ W, Calls Tryd.prog 14 #[.int .i64 (c.toNat : Int), .int .i64 48, .int .i64 57] W fun e w' => e = .returned (.bool false) ∧ w' = W) := h1
    by_cases hb : 97 ≤ c.toNat ∧ c.toNat ≤ 102
    · have e : nib c = (c.toNat : Int) - 87 := by rw [nib, if_neg ha, if_pos hb]
      rw [decide_eq_true hb] at h2
      have H2 : Hid (∀ W, Calls Tryd.prog 14 #[.int .i64 (c.toNat : Int), .int .i64 97, .int .i64 102] W fun e w' => e = .returned (.bool true) ∧ w' = W) := h2
      rw [e]
      clear h1 h2 e
      generalize c.toNat = m at *
      go_enter Tryd.func26, Tryd.ntmps26
      go_wp2_with (first
        | (go_at_call 14; have H1' := H1; refine (H1.out _).mono ?_; rintro e w' ⟨rfl, rfl⟩; clear H1 H1')
        | (go_at_call 14; refine (H2.out _).mono ?_; rintro e w' ⟨rfl, rfl⟩))
      go_ret
      exact ⟨rfl, rfl⟩
    · have e : nib c = -1 := by rw [nib, if_neg ha, if_neg hb]
      rw [decide_eq_false hb] at h2
      have H2 : Hid (∀ W, Calls Tryd.prog 14 #[.int .i64 (c.toNat : Int), .int .i64 97, .int .i64 102] W fun e w' => e = .returned (.bool false) ∧ w' = W) := h2
      rw [e]
      clear h1 h2 e
      generalize c.toNat = m at *
      go_enter Tryd.func26, Tryd.ntmps26
      go_wp2_with (first
        | (go_at_call 14; have H1' := H1; refine (H1.out _).mono ?_; rintro e w' ⟨rfl, rfl⟩; clear H1 H1')
        | (go_at_call 14; refine (H2.out _).mono ?_; rintro e w' ⟨rfl, rfl⟩))
      go_ret
      exact ⟨rfl, rfl⟩

set_option maxHeartbeats 4000000 in
theorem bytesOf (s : ByteArray) (w : World) (hs : s.size ≤ 1048576) :
    Calls Tryd.prog 12 #[.string s] w fun e w' => told s e ∧ Below w.heap.size w w' := by
  by_cases hd : s.toList = [45]
  · have hd' : (s.toList == [45]) = true := by simpa using hd
    have HD : Hid (okH s.data.toList = true ∧ mk (txt s.data.toList) = ⟨#[]⟩) := okH_dash hd
    clear hd
    go_enter Tryd.func12, Tryd.ntmps12
    go_wp2
    go_ret2
    exact ⟨⟨⟨#[]⟩, by rw [HD.out.1]; rfl, fun _ => HD.out.2.symm⟩, Below.refl _ _⟩
  · have hd' : (s.toList == [45]) = false := by simpa using hd
    have HO : Hid (0 < s.size → okH s.data.toList = hexOk s.data.toList ∧ txt s.data.toList = un s.data.toList) := okH_of hd
    have HZ : Hid (s.size = 0 → okH s.data.toList = false) := okH_none
    have hb0 : F0.Buf w.heap.size (w.alloc (.cells #[] 5)) w.heap.size 0 0 ⟨#[]⟩ := F0.buf_none w #[] 0 rfl (Nat.zero_le _) (Nat.le_refl _)
    have hl0 := K0.below_new w (.cells #[] 5)
    clear hd
    go_enter Tryd.func12, Tryd.ntmps12
    go_wp2
    go_loopw [4, 5] (fun v i w' => ∃ (j g n c : Nat) (t : ByteArray), j ≤ s.size ∧ Hid (j % 2 = 0) ∧ i = .int .i64 (j : Int) ∧ v = .slice (some ⟨g, 0, none⟩) n c ∧ n ≤ j ∧ F0.Buf w.heap.size w' g n c t ∧ Below w.heap.size w w' ∧ Hid (hexOk s.data.toList = hexOk (s.data.toList.drop j) ∧ t.data.toList ++ un (s.data.toList.drop j) = un s.data.toList)) (fun _ i _ => s.size - (intOf i).toNat)
    case atStart => exact ⟨0, _, 0, _, _, Nat.zero_le _, rfl, rfl, rfl, Nat.le_refl _, hb0, hl0, ⟨by simp, by simp⟩⟩
    case round =>
      obtain ⟨j, g, n, c, t, hk, HJ, rfl, rfl, hnk, hbuf, hbel, HE⟩ := hrel
      clear hb0 hl0
      by_cases ln : j + 1 < s.size
      · have HO' := HO.out (by omega)
        have e1 : (0 : Int) ≤ (j : Int) := by omega
        have e2 : (j : Int) < (s.size : Int) := by omega
        have e3 : (0 : Int) ≤ (j : Int) + 1 := by omega
        have e4 : (j : Int) + 1 < (s.size : Int) := by omega
        have e5 : ((j : Int) + 1).toNat = j + 1 := by omega
        have ew : IntKind.i64.wrap ((j : Int) + 1) = (j : Int) + 1 := by rw [IntKind.wrap_i64]; omega
        have na := nib_le s[j]
        have nb := nib_le s[j + 1]
        have HT := two s j ln
        have HF := two_not s j ln
        have HD : Hid (∀ (c : UInt8) (W : World), Calls Tryd.prog 26 #[.int .u8 (c.toNat : Int)] W fun e w' => e = .returned (.int .i64 (nib c)) ∧ w' = W) := nibble
        have HT' : Hid (0 ≤ nib s[j] → 0 ≤ nib s[j + 1] → hexOk (s.data.toList.drop j) = hexOk (s.data.toList.drop (j + 2)) ∧ un (s.data.toList.drop j) = UInt8.ofNat (16 * nib s[j] + nib s[j + 1]).toNat :: un (s.data.toList.drop (j + 2))) := HT
        have HFn : Hid (¬ (0 ≤ nib s[j] ∧ 0 ≤ nib s[j + 1]) → okH s.data.toList = false) := fun h => HO'.1.trans (HE.out.1.trans (HF h))
        clear HT HF HO'
        obtain ⟨na1, na2⟩ := na
        obtain ⟨nb1, nb2⟩ := nb
        go_wp2
        go_region_held3 (fun _ => True) (trivial) ((go_at_call 26; refine (HD.out _ _).mono ?_; rintro e w3 ⟨rfl, rfl⟩))
        all_goals
          have hbuf1 := hbuf.drew
          generalize nib s[j] = za at *
          generalize nib s[j + 1] = zb at *
          by_cases ha : za < 0
          · have HN : Hid (okH s.data.toList = false) := HFn.out (by omega)
            go_wp2
            go_ret2
            exact ⟨⟨⟨#[]⟩, by rw [HN.out]; rfl, fun h => by rw [HN.out] at h; cases h⟩, hbel.drew⟩
          · by_cases hb : zb < 0
            · have HN : Hid (okH s.data.toList = false) := HFn.out (by omega)
              go_wp2
              go_ret2
              exact ⟨⟨⟨#[]⟩, by rw [HN.out]; rfl, fun h => by rw [HN.out] at h; cases h⟩, hbel.drew⟩
            · have ha0 : 0 ≤ za := by omega
              have hb0 : 0 ≤ zb := by omega
              have HQ : Hid (hexOk s.data.toList = hexOk (s.data.toList.drop (j + 2)) ∧ (t ++ ⟨#[UInt8.ofNat (16 * za + zb).toNat]⟩).data.toList ++ un (s.data.toList.drop (j + 2)) = un s.data.toList) := by
                obtain ⟨q1, q2⟩ := HT'.out ha0 hb0
                refine ⟨HE.out.1.trans q1, cat_un _ _ _ _ ?_⟩
                rw [← q2]
                exact HE.out.2
              clear HT' HFn HE HD
              have hsz : w.heap.size ≤ (wr.drew).heap.size := hbel.size
              go_wp2_with (at_builtin; refine F0.append_byte (w := wr.drew) rfl (.tmp 33) (.tmp 39) rfl hbuf1 (16 * za + zb) (by omega) (by rfl) (by rfl) (by omega) hsz ?_; intro g2 cap2 w2 hbuf2 b2)
              go_roundw
              case rel => exact ⟨j + 2, g2, n + 1, cap2, _, by omega, (show Hid ((j + 2) % 2 = 0) from (by have := HJ.out; show _ = _; omega)), by go_num, rfl, by omega, hbuf2, hbel.drew.trans b2, HQ⟩
              case measure => simp [intOf]; omega
      · have HR : Hid (∃ o, okH s.data.toList = o ∧ (decide (0 < s.size) && decide (s.size % 2 = 0)) = o ∧ (o = true → t = mk (txt s.data.toList))) := by
          by_cases h0 : s.size = 0
          · exact ⟨false, HZ.out h0, by rw [h0]; rfl, fun h => by cases h⟩
          · obtain ⟨q1, q2⟩ := HO.out (by omega)
            by_cases hev : s.size % 2 = 0
            · have hj : j = s.size := by have := HJ.out; omega
              have h1 := HE.out.1
              have h2 := HE.out.2
              have hdr : s.data.toList.drop s.size = [] := List.drop_eq_nil_of_le (by rw [← Lib.size_eq]; omega)
              rw [hj, hdr] at h1 h2
              refine ⟨true, q1.trans h1, ?_, fun _ => ?_⟩
              · rw [decide_eq_true (show 0 < s.size by omega), decide_eq_true hev]
                rfl
              · rw [q2, ← h2]
                simp [un]
            · refine ⟨false, ?_, ?_, fun h => by cases h⟩
              · rw [q1]
                cases h : hexOk s.data.toList
                · rfl
                · have := hexOk_even _ h
                  rw [← Lib.size_eq] at this
                  exact absurd this hev
              · rw [decide_eq_false hev, Bool.and_false]
        have hcv := hbuf.conv
        obtain ⟨o, ho1, ho2, ho3⟩ := HR.out
        have HQ : Hid (okH s.data.toList = o ∧ (o = true → t = mk (txt s.data.toList))) := ⟨ho1, ho3⟩
        have e1 : ¬ (j : Int) + 1 < (s.size : Int) := by omega
        clear HE HR HO HZ ho1 ho3
        by_cases h0 : 0 < s.size
        · have h0' : (0 : Int) < (s.size : Int) := by omega
          by_cases hev : s.size % 2 = 0
          · have hev' : (s.size : Int) % 2 = 0 := by omega
            rw [decide_eq_true h0, decide_eq_true hev] at ho2
            subst ho2
            clear ln
            go_wp2
            go_ret2
            exact ⟨⟨t, by rw [HQ.out.1]; rfl, fun h => HQ.out.2 rfl⟩, hbel⟩
          · have hev' : (s.size : Int) % 2 = 1 := by omega
            rw [decide_eq_false hev, Bool.and_false] at ho2
            subst ho2
            clear ln
            go_wp2
            go_ret2
            exact ⟨⟨t, by rw [HQ.out.1]; rfl, fun h => by rw [HQ.out.1] at h; cases h⟩, hbel⟩
        · have h0' : ¬ (0 : Int) < (s.size : Int) := by omega
          rw [decide_eq_false h0, Bool.false_and] at ho2
          subst ho2
          clear ln
          go_wp2
          go_ret2
          exact ⟨⟨t, by rw [HQ.out.1]; rfl, fun h => by rw [HQ.out.1] at h; cases h⟩, hbel⟩
end Go.Proofs.YtjajclifjojblaaDoor.RS
