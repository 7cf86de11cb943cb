/- Bytes of digits of sixteen: impl.readHex and spec.l09Bytes; a word that tells bytes. -/
import Derived.Test.YtjajclifjojblaaDoorRv4
import Derived.Test.YtjajclifjojblaaDoorBuf0
namespace Go.Proofs.YtjajclifjojblaaDoor.RU
open Go.ChangeShapes Go.WideShapes Go.ChangeAt Go.RowKit
set_option linter.unusedVariables false
set_option linter.unusedSimpArgs false
set_option maxRecDepth 10000
open RV (mk sp jn nib un hexOk okH txt)
open LF (Btw)
open RX (RB rv Ok)
open EX (Tabs)
open RY (TB)

theorem at_pair (s : ByteArray) (k : Nat) (h : k + 1 < s.size) : s.data.toList.drop k = s[k] :: s[k + 1] :: s.data.toList.drop (k + 2) := by
  have h1 : k < s.data.toList.length := by rw [← Lib.size_eq]; omega
  have h2 : k + 1 < s.data.toList.length := by rw [← Lib.size_eq]; omega
  rw [List.drop_eq_getElem_cons h1, List.drop_eq_getElem_cons h2]
  rfl

theorem two (s : ByteArray) (k : Nat) (h : k + 1 < s.size) (ha : 0 ≤ nib s[k]) (hb : 0 ≤ nib s[k + 1]) :
    hexOk (s.data.toList.drop k) = hexOk (s.data.toList.drop (k + 2)) ∧ un (s.data.toList.drop k) = UInt8.ofNat (16 * nib s[k] + nib s[k + 1]).toNat :: un (s.data.toList.drop (k + 2)) := by
  rw [at_pair s k h]
  refine ⟨?_, rfl⟩
  simp [hexOk, ha, hb]

theorem two_not (s : ByteArray) (k : Nat) (h : k + 1 < s.size) (hn : ¬ (0 ≤ nib s[k] ∧ 0 ≤ nib s[k + 1])) : hexOk (s.data.toList.drop k) = false := by
  rw [at_pair s k h]
  simp only [hexOk, Bool.and_eq_false_iff, decide_eq_false_iff_not]
  by_cases ha : 0 ≤ nib s[k]
  · exact Or.inl (Or.inr fun hb => hn ⟨ha, hb⟩)
  · exact Or.inl (Or.inl ha)

theorem hexOk_even : ∀ l : List UInt8, hexOk l = true → l.length % 2 = 0
  | [], _ => rfl
  | [c], h => by simp [hexOk] at h
  | a :: b :: r, h => by
    simp only [hexOk, Bool.and_eq_true] at h
    have := hexOk_even r h.2
    simp
    omega

theorem okH_dash {s : ByteArray} (h : s.toList = [45]) : okH s.data.toList = true ∧ mk (txt s.data.toList) = ⟨#[]⟩ := by
  rw [Lib.toList_data] at h
  rw [h]
  exact ⟨rfl, rfl⟩
theorem okH_of {s : ByteArray} (h : ¬ s.toList = [45]) (h0 : 0 < s.size) : okH s.data.toList = hexOk s.data.toList ∧ txt s.data.toList = un s.data.toList := by
  rw [Lib.toList_data] at h
  have hne : s.data.toList ≠ [] := by
    intro e
    have := congrArg List.length e
    rw [← Lib.size_eq, List.length_nil] at this
    omega
  have hne2 : s.data.toList.isEmpty = false := by
    cases hq : s.data.toList with
    | nil => exact absurd hq hne
    | cons a l => rfl
  refine ⟨?_, if_neg h⟩
  unfold okH
  rw [hne2, decide_eq_false h]
  rfl
theorem okH_none {s : ByteArray} (h0 : s.size = 0) : okH s.data.toList = false := by
  have : s.data.toList = [] := List.eq_nil_of_length_eq_zero (by rw [← Lib.size_eq]; exact h0)
  rw [this]
  rfl

/-- What a word tells of bytes, as a call answers it. -/
def told (s : ByteArray) (e : Ending) : Prop := ∃ t, e = .returned (.tuple #[.string t, .bool (okH s.data.toList)]) ∧ (okH s.data.toList = true → t = mk (txt s.data.toList))

theorem cat_un (t : ByteArray) (c : UInt8) (l m : List UInt8) (h : t.data.toList ++ c :: l = m) : (t ++ ⟨#[c]⟩).data.toList ++ l = m := by
  rw [← h]
  simp [ByteArray.data_append]

theorem nib_le (c : UInt8) : nib c < 16 ∧ -1 ≤ nib c := by unfold nib; split <;> (try split) <;> omega

set_option maxHeartbeats 4000000 in
theorem readHex (s : ByteArray) (w : World) (hs : s.size ≤ 1048576) (hT : Tabs w) :
    Calls Tryd.prog 39 #[.string s] w fun e w' => told s e ∧ Below w.heap.size w w' := by
  by_cases hd : s.toList = [45]
  · have hd' : (s.toList == [45]) = true := by simpa using hd
    have HD : Hid (okH s.data.toList = true ∧ mk (txt s.data.toList) = ⟨#[]⟩) := okH_dash hd
    clear hd
    go_enter Tryd.func39, Tryd.ntmps39
    go_wp2
    go_ret2
    exact ⟨⟨⟨#[]⟩, by rw [HD.out.1]; rfl, fun _ => HD.out.2.symm⟩, Below.refl _ _⟩
  · have hd' : (s.toList == [45]) = false := by simpa using hd
    by_cases h0 : s.size = 0
    · have HN : Hid (okH s.data.toList = false) := okH_none h0
      have hz : (s.toList == []) = true := by
        rw [Lib.toList_data]
        have : s.data.toList = [] := List.eq_nil_of_length_eq_zero (by rw [← Lib.size_eq]; exact h0)
        rw [this]
        rfl
      clear hd
      go_enter Tryd.func39, Tryd.ntmps39
      go_wp2
      go_ret2
      exact ⟨⟨⟨#[]⟩, by rw [HN.out]; rfl, fun h => by rw [HN.out] at h; cases h⟩, Below.refl _ _⟩
    · have hne : s.toList.isEmpty = false := by
        rw [Lib.toList_data]
        have : s.data.toList ≠ [] := by
          intro e
          have := congrArg List.length e
          rw [← Lib.size_eq] at this
          exact h0 this
        simpa using this
      have hne2 : (s.toList == []) = false := by
        cases h : s.toList with
        | nil => rw [h] at hne; cases hne
        | cons a l => rfl
      obtain ⟨q1, q2⟩ := okH_of hd (by omega)
      have HO : Hid (okH s.data.toList = hexOk s.data.toList ∧ txt s.data.toList = un s.data.toList) := ⟨q1, q2⟩
      clear hd q1 q2
      by_cases hev : s.size % 2 = 0
      · obtain ⟨m, hm⟩ : ∃ m : Nat, s.size = 2 * m := ⟨s.size / 2, by omega⟩
        have hm2 : (s.size : Int) % 2 = 0 := by omega
        have hq : (s.size : Int) / 2 = (m : Int) := by omega
        obtain ⟨i0, hi, hz0, hz1, hz2⟩ := info_parts H1.info8
        obtain ⟨M, hM⟩ : ∃ M, M = madeCells (Value.int .u8 0).cells (((m : Nat) : Int).toNat * i0.size) := ⟨_, rfl⟩
        have hMs : M.size = m := by rw [hM, size_madeCells, hz1]; omega
        have hmk : (Instr.makeSlice 49 (.int .i64 0) (.int .i64 (m : Int))).run Tryd.prog w = .ok (.slice (some ⟨w.heap.size, 0, none⟩) 0 m) (w.alloc (.cells M 5)) := by
          have h := run_make (P := Tryd.prog) w 49 5 i0 (.int .u8 0) Tryd.underlying49 hi hz0 .i64 .i64 0 (m : Int) (by omega) (by omega) (by rw [hz2]; omega) (by omega)
          rw [← hM] at h
          rw [h]
          congr 2
        have hb0 : F0.Buf w.heap.size (w.alloc (.cells M 5)) w.heap.size 0 m ⟨#[]⟩ := F0.buf_none w M m hMs (by unfold maxLen; omega) (Nat.le_refl _)
        have hl0 := K0.below_new w (.cells M 5)
        have HM : Hid (s.size = 2 * m) := hm
        clear hM hev hm hz0 hz1 hz2 hi hMs
        go_enter Tryd.func39, Tryd.ntmps39
        go_wp2
        clear hmk
        go_loopw [4, 5] (fun v i w' => ∃ (j g n c : Nat) (t : ByteArray), j ≤ s.size ∧ Hid (j % 2 = 0) ∧ i = .int .i64 (j : Int) ∧ v = .slice (some ⟨g, 0, none⟩) n c ∧ n ≤ j ∧ F0.Buf w.heap.size w' g n c t ∧ Below w.heap.size w w' ∧ Hid (hexOk s.data.toList = hexOk (s.data.toList.drop j) ∧ t.data.toList ++ un (s.data.toList.drop j) = un s.data.toList)) (fun _ i _ => s.size - (intOf i).toNat)
        case atStart => exact ⟨0, _, 0, _, _, Nat.zero_le _, rfl, rfl, rfl, Nat.le_refl _, hb0, hl0, ⟨by simp, by simp⟩⟩
        case round =>
          obtain ⟨j, g, n, c, t, hk, HJ, rfl, rfl, hnk, hbuf, hbel, HE⟩ := hrel
          clear hb0 hl0
          by_cases hlt : j < s.size
          · have hT1 : Tabs wr := hT.below hbel
            have ln : j + 1 < s.size := by have := HM.out; have := HJ.out; omega
            have e1 : (0 : Int) ≤ (j : Int) := by omega
            have e2 : (j : Int) < (s.size : Int) := by omega
            have e3 : (0 : Int) ≤ (j : Int) + 1 := by omega
            have e4 : (j : Int) + 1 < (s.size : Int) := by omega
            have e5 : ((j : Int) + 1).toNat = j + 1 := by omega
            have na := nib_le s[j]
            have nb := nib_le s[j + 1]
            have HT := two s j ln
            have HF := two_not s j ln
            have HD : Hid (∀ (c : UInt8) (W : World), Tabs W → Calls Tryd.prog 44 #[.int .u8 (c.toNat : Int)] W fun e w' => e = .returned (.int .i64 (nib c)) ∧ w' = W) := fun c W h => RZ.digitValue c W h
            have hT2 : Tabs wr.drew := hT1.below ((Below.refl _ _).drew)
            have ew : IntKind.i64.wrap ((j : Int) + 1) = (j : Int) + 1 := by rw [IntKind.wrap_i64]; omega
            have HT' : Hid (0 ≤ nib s[j] → 0 ≤ nib s[j + 1] → hexOk (s.data.toList.drop j) = hexOk (s.data.toList.drop (j + 2)) ∧ un (s.data.toList.drop j) = UInt8.ofNat (16 * nib s[j] + nib s[j + 1]).toNat :: un (s.data.toList.drop (j + 2))) := HT
            have HF' : Hid (¬ (0 ≤ nib s[j] ∧ 0 ≤ nib s[j + 1]) → hexOk (s.data.toList.drop j) = false) := HF
            clear HT HF
            obtain ⟨na1, na2⟩ := na
            obtain ⟨nb1, nb2⟩ := nb
            go_wp2
            go_region_held3 (fun _ => True) (trivial) ((go_at_call 44; refine (HD.out _ _ (by assumption)).mono ?_; rintro e w3 ⟨rfl, rfl⟩))
            all_goals
              have hbuf1 := hbuf.drew
              have HFn : Hid (¬ (0 ≤ nib s[j] ∧ 0 ≤ nib s[j + 1]) → okH s.data.toList = false) := fun h => HO.out.1.trans (HE.out.1.trans (HF'.out h))
              generalize nib s[j] = za at *
              generalize nib s[j + 1] = zb at *
              by_cases ha : za < 0
              · have HN : Hid (okH s.data.toList = false) := HFn.out (by omega)
                go_wp2
                go_ret2
                exact ⟨⟨⟨#[]⟩, by rw [HN.out]; rfl, fun h => by rw [HN.out] at h; cases h⟩, hbel.drew⟩
              · by_cases hb : zb < 0
                · have HN : Hid (okH s.data.toList = false) := HFn.out (by omega)
                  go_wp2
                  go_ret2
                  exact ⟨⟨⟨#[]⟩, by rw [HN.out]; rfl, fun h => by rw [HN.out] at h; cases h⟩, hbel.drew⟩
                · have ha0 : 0 ≤ za := by omega
                  have hb0 : 0 ≤ zb := by omega
                  have HQ : Hid (hexOk s.data.toList = hexOk (s.data.toList.drop (j + 2)) ∧ (t ++ ⟨#[UInt8.ofNat (za * 16 + zb).toNat]⟩).data.toList ++ un (s.data.toList.drop (j + 2)) = un s.data.toList) := by
                    obtain ⟨q1, q2⟩ := HT'.out ha0 hb0
                    refine ⟨HE.out.1.trans q1, cat_un _ _ _ _ ?_⟩
                    rw [Int.mul_comm, ← q2]
                    exact HE.out.2
                  clear HT' HF' HFn HE HD
                  have hsz : w.heap.size ≤ wr.drew.heap.size := hbel.size
                  go_wp2_with (at_builtin; refine F0.append_byte (w := wr.drew) rfl (.tmp 43) (.tmp 49) rfl hbuf1 (za * 16 + zb) (by omega) (by rfl) (by rfl) (by omega) hsz ?_; intro g2 cap2 w2 hbuf2 b2)
                  go_roundw
                  case rel => exact ⟨_, _, _, _, ⟨j + 2, by omega, (show Hid ((j + 2) % 2 = 0) from (by have := HJ.out; show _ = _; omega)), rfl, g2, n + 1, cap2, rfl, by omega, _, hbuf2, hbel.drew.trans b2, HQ⟩, rfl, rfl, rfl, by go_num⟩
                  case measure => simp [intOf]; omega
          · obtain rfl : j = s.size := by omega
            have hdr : s.data.toList.drop s.size = [] := List.drop_eq_nil_of_le (by rw [← Lib.size_eq]; omega)
            have HR : Hid (okH s.data.toList = true ∧ t = mk (txt s.data.toList)) := by
              have h1 := HE.out.1
              have h2 := HE.out.2
              rw [hdr] at h1 h2
              refine ⟨HO.out.1.trans h1, ?_⟩
              rw [HO.out.2, ← h2]
              simp [un]
            have hcv := hbuf.conv
            clear HE
            go_wp2
            go_ret2
            exact ⟨⟨t, by rw [HR.out.1]; rfl, fun _ => HR.out.2⟩, hbel⟩
      · have HN : Hid (okH s.data.toList = false) := by
          rw [HO.out.1]
          cases h : hexOk s.data.toList
          · rfl
          · have := hexOk_even _ h
            rw [← Lib.size_eq] at this
            exact absurd this hev
        have hm : (s.size : Int) % 2 = 1 := by omega
        go_enter Tryd.func39, Tryd.ntmps39
        go_wp2
        go_ret2
        exact ⟨⟨⟨#[]⟩, by rw [HN.out]; rfl, fun h => by rw [HN.out] at h; cases h⟩, Below.refl _ _⟩

theorem bytes {B : Nat} {s : ByteArray} {R : List (List UInt8)} {x : Bool} {w : World} (hR : Ok R) (hT : TB B w) (hb : RB B s R x w) :
    Calls Tryd.prog 31 #[.pointer (some ⟨B, 0, none⟩)] w fun e w' => (∃ t, e = .returned (.string t) ∧ (okH (R.headD []) = true → t = mk (txt (R.headD [])))) ∧ RB B s R.tail (x || !okH (R.headD [])) w' ∧ Btw B (B + 1) w w' := by
  have hsz : (mk (R.headD [])).size ≤ 1048576 := by
    have h1 := hR.size
    cases R with
    | nil => simp [ByteArray.size]
    | cons p R =>
      have := RV.mem_le (p :: R) p (by simp)
      simp [ByteArray.size]
      omega
  have HW : Hid (Calls Tryd.prog 20 #[.pointer (some ⟨B, 0, none⟩)] w fun e w' => e = .returned (.string (mk (R.headD []))) ∧ RB B s R.tail x w' ∧ Btw B (B + 1) w w') := RX.word B s R x w hR hb
  have HH : Hid (∀ W, Tabs W → Calls Tryd.prog 39 #[.string (mk (R.headD []))] W fun e w' => (∃ t, e = .returned (.tuple #[.string t, .bool (okH (R.headD []))]) ∧ (okH (R.headD []) = true → t = mk (txt (R.headD [])))) ∧ Below W.heap.size W w') := fun W h => readHex _ W hsz h
  generalize okH (R.headD []) = o at HH ⊢
  generalize mk (txt (R.headD [])) = y at HH ⊢
  generalize mk (R.headD []) = p at HH HW
  clear hsz
  go_enter Tryd.func31, Tryd.ntmps31
  go_wp2_with (first
    | (go_at_call 20; refine HW.out.mono ?_; rintro e w1 ⟨rfl, hb1, g1⟩)
    | (go_at_call 39; refine (HH.out _ (hT.btw g1).tabs).mono ?_; rintro e w2 ⟨⟨t, rfl, ht⟩, b2⟩; have hb2 := hb1.below b2; have HT2 : Hid (o = true → t = y) := ht; clear ht; have g2 := g1.then b2)
    | (go_at_call 38; refine (RY.want _ hb2).mono ?_; rintro e w3 ⟨rfl, hb3, g3⟩))
  go_ret
  exact ⟨⟨t, rfl, HT2.out⟩, hb3, g2.trans g3⟩
end Go.Proofs.YtjajclifjojblaaDoor.RU
