/- The specification's words of an event, on: what stands behind blanks, the kind of a word, a number. -/
import Derived.Test.YtjajclifjojblaaDoorRv8
import Derived.Test.YtjajclifjojblaaDoorEv7s
import Derived.Test.YtjajclifjojblaaDoorRv7
namespace Go.Proofs.YtjajclifjojblaaDoor.RT
open Go.ChangeShapes Go.WideShapes Go.ChangeAt Go.RowKit
set_option linter.unusedVariables false
set_option linter.unusedSimpArgs false
set_option maxRecDepth 10000
open RV (mk sp jn)

theorem drop_hd (s : ByteArray) (i : Nat) (h : i < s.size) : s.data.toList.drop i = s[i] :: s.data.toList.drop (i + 1) := by
  have h1 : i < s.data.toList.length := by rw [← Lib.size_eq]; omega
  rw [List.drop_eq_getElem_cons h1]
  rfl

theorem sp_blank (r : List UInt8) (n : Nat) (hn : 1 ≤ n) : (sp (32 :: r)).drop n = (sp r).drop (n - 1) := by
  obtain ⟨k, rfl⟩ : ∃ k, n = k + 1 := ⟨n - 1, by omega⟩
  rw [sp, if_pos rfl]
  rfl
theorem sp_other (c : UInt8) (r : List UInt8) (hc : c ≠ 32) (n : Nat) (hn : 1 ≤ n) : (sp (c :: r)).drop n = (sp r).drop n := by
  obtain ⟨k, rfl⟩ : ∃ k, n = k + 1 := ⟨n - 1, by omega⟩
  rw [sp, if_neg hc]
  conv => rhs; rw [RV.sp_cons r]
  rfl

set_option maxHeartbeats 1000000 in
theorem restOf (s : ByteArray) (m : Nat) (hm : 1 ≤ m) (hm2 : m ≤ 10) (w : World) (hs : s.size ≤ 1048576) :
    Calls Tryd.prog 13 #[.string s, .int .i64 (m : Int)] w fun e w' => e = .returned (.string (mk (jn ((sp s.data.toList).drop m)))) ∧ w' = w := by
  have HM : Hid (∀ (i n : Nat), i < s.size → 1 ≤ n → s[i]?.getD 0 = 32 → (sp (s.data.toList.drop i)).drop n = (sp (s.data.toList.drop (i + 1))).drop (n - 1)) := by
    intro i n hi hn hc
    have e : s[i]?.getD 0 = s[i] := by rw [getElem?_pos s i hi]; rfl
    rw [e] at hc
    rw [drop_hd s i hi, hc, sp_blank _ n hn]
  have HO : Hid (∀ (i n : Nat) (hi : i < s.size), 1 ≤ n → s[i] ≠ 32 → (sp (s.data.toList.drop i)).drop n = (sp (s.data.toList.drop (i + 1))).drop n) := by
    intro i n hi hn hc
    rw [drop_hd s i hi, sp_other _ _ hc n hn]
  obtain ⟨X, hX⟩ : ∃ X, jn ((sp s.data.toList).drop m) = X := ⟨_, rfl⟩
  rw [hX]
  have HX : Hid (jn ((sp (s.data.toList.drop 0)).drop m) = X) := by rw [List.drop_zero]; exact hX
  clear hX
  go_enter Tryd.func13, Tryd.ntmps13
  go_wp2
  go_loopw [1, 5] (fun v i w' => ∃ (k n : Nat), k ≤ s.size ∧ 1 ≤ n ∧ n ≤ 10 ∧ i = .int .i64 (k : Int) ∧ v = .int .i64 (n : Int) ∧ w' = w ∧ Hid (jn ((sp (s.data.toList.drop k)).drop n) = X)) (fun _ i _ => s.size - (intOf i).toNat)
  case atStart => exact ⟨0, m, Nat.zero_le _, hm, hm2, rfl, rfl, rfl, HX⟩
  case round =>
    obtain ⟨k, n, hk, hn, hn2, rfl, rfl, rfl, HQ⟩ := hrel
    clear HX
    by_cases hlt : k < s.size
    · have hc := s[k].toNat_lt
      have e1 : (0 : Int) ≤ (k : Int) := by omega
      have e2 : (k : Int) < (s.size : Int) := by omega
      by_cases hb : s[k].toNat = 32
      · have hb' : ((s[k].toNat : Int) == 32) = true := by simp; omega
        have hq := HM.out k n hlt hn (by rw [getElem?_pos s k hlt]; exact UInt8.toNat_inj.1 hb)
        have HQ2 : Hid (jn ((sp (s.data.toList.drop (k + 1))).drop (n - 1)) = X) := by
          have := HQ.out
          rw [hq] at this
          exact this
        clear hb hq HQ
        by_cases h1 : n = 1
        · subst h1
          have HS : Hid (s.extract (k + 1) s.size = mk X) := by
            have := HQ2.out
            rw [show 1 - 1 = 0 from rfl, List.drop_zero, RV.jn_sp] at this
            show s.extract (k + 1) s.size = mk X
            rw [← this, Lib.extract_eq]
            congr 2
            apply List.take_of_length_le
            rw [List.length_drop, ← Lib.size_eq]
            exact Nat.le_refl _
          have e3 : (0 : Int) ≤ (k : Int) + 1 := by omega
          have e4 : (k : Int) + 1 ≤ (s.size : Int) := by omega
          have e5 : ((k : Int) + 1).toNat = k + 1 := by omega
          go_wp2
          go_ret
          exact ⟨by first | (rw [← HS.out]; rfl) | (rw [← HS.out]; simp), rfl⟩
        · obtain ⟨n', rfl⟩ : ∃ n', n = n' + 1 := ⟨n - 1, by omega⟩
          have e6 : ((n' + 1 : Nat) : Int) - 1 = (n' : Int) := by omega
          have e7 : ¬ (n' : Int) = 0 := by omega
          go_wp2
          go_roundw
          case rel => exact ⟨k + 1, n', by omega, by omega, by omega, by go_num, by go_num, by first | rfl | trivial, HQ2⟩
          case measure => simp [intOf]; omega
      · have hb' : ((s[k].toNat : Int) == 32) = false := by simp; omega
        have hq := HO.out k n hlt hn (fun h => hb (by rw [h]; rfl))
        have HQ2 : Hid (jn ((sp (s.data.toList.drop (k + 1))).drop n) = X) := by
          have := HQ.out
          rw [hq] at this
          exact this
        clear hb hq HQ
        go_wp2
        go_roundw
        case rel => exact ⟨k + 1, n, by omega, hn, hn2, by go_num, rfl, by first | rfl | trivial, HQ2⟩
        case measure => simp [intOf]; omega
    · obtain rfl : k = s.size := by omega
      have HZ : Hid (mk X = ⟨#[]⟩) := by
        have hq := HQ.out
        have hz : s.data.toList.drop s.size = [] := List.drop_eq_nil_of_le (by rw [Lib.size_eq]; exact Nat.le_refl _)
        have hz2 : (sp []).drop n = [] := List.drop_eq_nil_of_le (by simp [sp]; omega)
        rw [hz, hz2] at hq
        show mk X = _
        rw [← hq]
        rfl
      clear HQ
      go_wp2
      go_ret
      exact ⟨by rw [HZ.out]; rfl, rfl⟩

/-- A kind, as the specification tells it. -/
def ki (z : Nat) : Int := if z < 10 then (z : Int) else -1

set_option maxHeartbeats 1000000 in
theorem kindOf (p : List UInt8) (w : World) :
    Calls Tryd.prog 10 #[.string (mk p)] w fun e w' => e = .returned (.int .i64 (ki (RW.kind p))) ∧ Below w.heap.size w w' := by
  have hp : (mk p).toList = p := by rw [Lib.toList_data]
  have H1' : Hid (∀ (k : Nat) (hk : k < 10) (h : (EV.words.getD k ⟨#[]⟩).toList = (mk p).toList), RW.kind p = k) := by rw [hp]; exact RZ.words_hit p
  have H2' : Hid ((∀ k : Nat, k < 10 → (EV.words.getD k ⟨#[]⟩).toList ≠ (mk p).toList) → RW.kind p = 10) := by rw [hp]; exact RZ.words_miss p
  generalize RW.kind p = z at H1' H2' ⊢
  generalize mk p = cv at H1' H2' ⊢
  have row0 : K0.Blk w.heap.size (W0.strs EV.words) (w.alloc (.cells (W0.strs EV.words).toArray 9)) := K0.blk_new _ w 9
  have bel0 := K0.below_new w (.cells (W0.strs EV.words).toArray 9)
  have HX : Hid (∀ (i : Nat) (hi : i < 10), (w.alloc (.cells (W0.strs EV.words).toArray 9)).cell? ⟨w.heap.size, i, none⟩ = some (.string (EV.words.getD i ⟨#[]⟩))) := by
    intro i hi
    have hl : i < EV.words.length := by simpa [EV.words] using hi
    rw [row0.cell i (by simpa using hl)]
    simp [W0.strs, List.getD, hl]
  generalize hW : w.alloc (.cells (W0.strs EV.words).toArray 9) = W at row0 bel0 HX
  have HW : Hid (w.alloc (.cells #[.string ⟨#[108, 101, 110, 100]⟩, .string ⟨#[116, 111, 117, 99, 104]⟩, .string ⟨#[108, 97, 115, 116]⟩, .string ⟨#[98, 97, 99, 107]⟩, .string ⟨#[116, 105, 99, 107]⟩, .string ⟨#[112, 111, 119, 101, 114]⟩, .string ⟨#[102, 105, 108, 101]⟩, .string ⟨#[109, 97, 107, 101]⟩, .string ⟨#[114, 101, 109, 111, 118, 101]⟩, .string ⟨#[102, 105, 108, 108]⟩] 9) = W) := hW
  clear hW hp row0
  go_enter Tryd.func10, Tryd.ntmps10
  go_wp2
  rw [HW.out]
  go_loopw [4] (fun i w' => ∃ k : Nat, k ≤ 10 ∧ i = .int .i64 k ∧ w' = W ∧ ∀ j, j < k → (EV.words.getD j ⟨#[]⟩).toList ≠ cv.toList) (fun i _ => 10 - (intOf i).toNat)
  case atStart => exact ⟨0, Nat.zero_le _, rfl, rfl, fun j hj => absurd hj (Nat.not_lt_zero _)⟩
  case round =>
    obtain ⟨k, hk, rfl, hw, hno⟩ := hrel
    subst wr
    by_cases hlt : k < 10
    · have hx := HX.out k hlt
      have e1 : (0 : Int) ≤ (k : Int) := by omega
      have e2 : (k : Int) < 10 := by omega
      have HA := H1'.out k hlt
      have HN : Hid (∀ j, j < k → (EV.words.getD j ⟨#[]⟩).toList ≠ cv.toList) := hno
      clear hno
      obtain ⟨u, hu⟩ : ∃ u, EV.words.getD k ⟨#[]⟩ = u := ⟨_, rfl⟩
      rw [hu] at hx HA
      by_cases hc : u.toList = cv.toList
      · have HZ : Hid (z = k) := HA hc
        have hc' : (u.toList == cv.toList) = true := by simpa using hc
        clear HA hc
        go_wp2
        go_ret
        refine ⟨?_, bel0⟩
        rw [HZ.out, show ki k = (k : Int) from if_pos hlt]
        rfl
      · have hc' : (u.toList == cv.toList) = false := by simpa using hc
        clear HA hc
        go_wp2
        go_roundw
        case rel => exact ⟨k + 1, by omega, by go_num, by first | rfl | trivial, fun j hj => by
          rcases Nat.lt_or_ge j k with h | h
          · exact HN.out j h
          · obtain rfl : j = k := by omega
            rw [hu]
            simpa using hc'⟩
        case measure => simp [intOf]; omega
    · obtain rfl : k = 10 := by omega
      have HZ : Hid (z = 10) := H2'.out hno
      clear hno
      go_wp2
      go_ret
      refine ⟨?_, bel0⟩
      rw [HZ.out]
      rfl

theorem num (ws : List ByteArray) (g cap i : Nat) (w : World) (hw : W0.Row w g ws) (hl : ws.length ≤ 1048577) (hi : i ≤ 10) (hsz : ∀ p ∈ ws, p.size ≤ 1048576) :
    Calls Tryd.prog 11 #[.slice (some ⟨g, 0, none⟩) ws.length cap, .int .i64 (i : Int)] w fun e w' => e = .returned (.int .i64 (if i < ws.length then R0.rd (ws.getD i ⟨#[]⟩) else -1)) ∧ w' = w := by
  by_cases h : i < ws.length
  · have c1 := hw.cell i h
    have e0 : ws.getD i ⟨#[]⟩ = ws[i] := by simp [List.getD, h]
    rw [if_pos h, e0]
    have hz := hsz ws[i] (List.getElem_mem h)
    generalize ws[i] = p at c1 hz ⊢
    have e1 : (0 : Int) ≤ (i : Int) := by omega
    have e2 : (i : Int) < (ws.length : Int) := by omega
    go_enter Tryd.func11, Tryd.ntmps11
    go_wp2_with (go_at_call 16; refine (R1.spec_ReadDec _ _ (by omega)).mono ?_; rintro e w' ⟨rfl, rfl⟩)
    go_ret
    exact ⟨rfl, rfl⟩
  · rw [if_neg h]
    have e2 : ¬ (i : Int) < (ws.length : Int) := by omega
    go_enter Tryd.func11, Tryd.ntmps11
    go_wp2
    go_ret
    exact ⟨rfl, rfl⟩
end Go.Proofs.YtjajclifjojblaaDoor.RT
