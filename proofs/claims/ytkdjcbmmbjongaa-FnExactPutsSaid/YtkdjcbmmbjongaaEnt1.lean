/- Contracts of spec.EntryOk, impl.nameOk and impl.EntryOk, as the given laws call them. -/
import Derived.Test.YtkdjcbmmbjongaaEnt0
import Derived.Laws.RangeString
import Derived.Laws.RangeAny
import Derived.Handy
namespace Go.Proofs.Ytkdjcbmmbjongaa.E1
open Go.ChangeShapes Go.WideShapes Go.ChangeAt Go.RowKit
set_option linter.unusedVariables false
set_option linter.unusedSimpArgs false

theorem ret_bool {a b : Bool} (h : a = b) : Ending.returned (.bool a) = .returned (.bool b) := by rw [h]

theorem in_a (c : UInt8) : B1.inB (c.toNat : Int) 97 122 = decide (97 ≤ c.toNat ∧ c.toNat ≤ 122) := by
  unfold B1.inB
  rw [decide_eq_decide]
  omega

theorem in_0 (c : UInt8) : B1.inB (c.toNat : Int) 48 57 = decide (48 ≤ c.toNat ∧ c.toNat ≤ 57) := by
  unfold B1.inB
  rw [decide_eq_decide]
  omega

set_option maxHeartbeats 1000000 in
set_option maxRecDepth 4000 in
theorem spec_EntryOk (i : Int) (s : ByteArray) (w : World) (hs : s.size ≤ 281474976710656) :
    Calls Try.prog 96 #[.agg #[.int .i64 i, .string s]] w fun e w' => e = .returned (.bool (E0.entryOk i s)) ∧ w' = w.alloc (.cells #[.int .i64 i, .string s] 98) := by
  go_enter Try.func96, Try.ntmps96
  go_wp2
  go_loop [3] (fun t => ∃ k : Nat, k ≤ s.size ∧ (s.data.toList.take k).all E0.chr = true ∧ t = .int .i64 k) (fun t => s.size - (intOf t).toNat)
  case atStart => exact ⟨0, Nat.zero_le _, rfl, rfl⟩
  case round =>
    obtain ⟨k, hk, hall, rfl⟩ := hrel
    by_cases hlt : k < s.size
    · have hc := s[k].toNat_lt
      have hi1 := in_a s[k]
      have hi2 := in_0 s[k]
      by_cases hd : E0.chr s[k] = true
      · have HA : Hid ((s.data.toList.take (k + 1)).all E0.chr = true) := E0.all_snoc hlt hall hd
        have hcase := E0.chr_true hd
        clear hall hd
        by_cases h1 : 97 ≤ s[k].toNat ∧ s[k].toNat ≤ 122
        · rw [decide_eq_true h1] at hi1
          clear hcase hi2
          go_wp2_with (go_at_call 60; refine (B1.l01In_any _ _ _ _).mono ?_; rintro e w' ⟨rfl, rfl⟩)
          go_round
          case rel => exact ⟨k + 1, by omega, HA.out, by go_num⟩
          case measure => simp [intOf]; omega
        · rw [decide_eq_false h1] at hi1
          by_cases h2 : 48 ≤ s[k].toNat ∧ s[k].toNat ≤ 57
          · rw [decide_eq_true h2] at hi2
            clear hcase
            go_wp2_with (go_at_call 60; refine (B1.l01In_any _ _ _ _).mono ?_; rintro e w' ⟨rfl, rfl⟩)
            go_round
            case rel => exact ⟨k + 1, by omega, HA.out, by go_num⟩
            case measure => simp [intOf]; omega
          · rw [decide_eq_false h2] at hi2
            have h3 : ((s[k].toNat : Int) != 46) = false := by simp; omega
            clear hcase
            go_wp2_with (go_at_call 60; refine (B1.l01In_any _ _ _ _).mono ?_; rintro e w' ⟨rfl, rfl⟩)
            go_round
            case rel => exact ⟨k + 1, by omega, HA.out, by go_num⟩
            case measure => simp [intOf]; omega
      · have hd' : E0.chr s[k] = false := by simpa using hd
        obtain ⟨n1, n2, n3⟩ := E0.chr_false hd'
        rw [decide_eq_false n1] at hi1
        rw [decide_eq_false n2] at hi2
        have h3 : ((s[k].toNat : Int) != 46) = true := by simp; omega
        have HR : Hid (E0.entryOk i s = false) := by rw [E0.entryOk, E0.nameOk_bad hlt hd']; rfl
        clear hall hd hd'
        go_wp2_with (go_at_call 60; refine (B1.l01In_any _ _ _ _).mono ?_; rintro e w' ⟨rfl, rfl⟩)
        go_ret
        exact ⟨ret_bool HR.out.symm, rfl⟩
    · obtain rfl : k = s.size := by omega
      rw [E0.take_all] at hall
      have HR : Hid (E0.entryOk i s = ((B1.inB s.size 1 14 && (!(s.toList == [46]) && !(s.toList == [46, 46]))) && B1.inB i 1 7)) := by rw [E0.entryOk, E0.nameOk_all hall]; rfl
      clear hall
      by_cases h1 : B1.inB i 1 7 = true
      · by_cases h2 : B1.inB s.size 1 14 = true
        · by_cases h3 : (s.toList == [46]) = true
          · go_wp2_with (go_at_call 60; refine (B1.l01In_any _ _ _ _).mono ?_; rintro e w' ⟨rfl, rfl⟩)
            go_ret
            exact ⟨ret_bool (by rw [HR.out, h1, h2, h3]; rfl), rfl⟩
          · have h3' : (s.toList == [46]) = false := by simpa using h3
            by_cases h4 : (s.toList == [46, 46]) = true
            · go_wp2_with (go_at_call 60; refine (B1.l01In_any _ _ _ _).mono ?_; rintro e w' ⟨rfl, rfl⟩)
              go_ret
              exact ⟨ret_bool (by rw [HR.out, h1, h2, h3', h4]; rfl), rfl⟩
            · have h4' : (s.toList == [46, 46]) = false := by simpa using h4
              go_wp2_with (go_at_call 60; refine (B1.l01In_any _ _ _ _).mono ?_; rintro e w' ⟨rfl, rfl⟩)
              go_ret
              exact ⟨ret_bool (by rw [HR.out, h1, h2, h3', h4']; rfl), rfl⟩
        · have h2' : B1.inB s.size 1 14 = false := by simpa using h2
          go_wp2_with (go_at_call 60; refine (B1.l01In_any _ _ _ _).mono ?_; rintro e w' ⟨rfl, rfl⟩)
          go_ret
          exact ⟨ret_bool (by rw [HR.out, h1, h2']; rfl), rfl⟩
      · have h1' : B1.inB i 1 7 = false := by simpa using h1
        go_wp2_with (go_at_call 60; refine (B1.l01In_any _ _ _ _).mono ?_; rintro e w' ⟨rfl, rfl⟩)
        go_ret
        exact ⟨ret_bool (by rw [HR.out, h1', Bool.and_false]), rfl⟩

theorem below_iter (w : World) (s : ByteArray) (k : Nat) : Below w.heap.size w (w.iter s k) := (Below.refl _ w).alloc (Nat.le_refl _) _

set_option maxHeartbeats 1000000 in
set_option maxRecDepth 4000 in
theorem impl_nameOk (s : ByteArray) (w : World) (hs : s.size ≤ 281474976710656) :
    Calls Try.prog 102 #[.string s] w fun e w' => e = .returned (.bool (E0.nameOk s)) ∧ Below w.heap.size w w' := by
  by_cases z1 : (s.size : Int) < 1
  · have HR : Hid (E0.nameOk s = false) := by rw [E0.nameOk, show B1.inB s.size 1 14 = false from decide_eq_false (by omega), Bool.false_and, Bool.and_false]; rfl
    go_enter Try.func102, Try.ntmps102
    go_wp2
    go_ret
    exact ⟨ret_bool HR.out.symm, Below.refl _ _⟩
  · by_cases z2 : 14 < (s.size : Int)
    · have HR : Hid (E0.nameOk s = false) := by rw [E0.nameOk, show B1.inB s.size 1 14 = false from decide_eq_false (by omega), Bool.false_and, Bool.and_false]; rfl
      go_enter Try.func102, Try.ntmps102
      go_wp2
      go_ret
      exact ⟨ret_bool HR.out.symm, Below.refl _ _⟩
    · by_cases h3 : (s.toList == [46]) = true
      · have HR : Hid (E0.nameOk s = false) := by rw [E0.nameOk, E0.dot1, h3, Bool.not_true, Bool.false_and, Bool.and_false, Bool.and_false]; rfl
        go_enter Try.func102, Try.ntmps102
        go_wp2
        go_ret
        exact ⟨ret_bool HR.out.symm, Below.refl _ _⟩
      · have h3' : (s.toList == [46]) = false := by simpa using h3
        clear h3
        by_cases h4 : (s.toList == [46, 46]) = true
        · have HR : Hid (E0.nameOk s = false) := by rw [E0.nameOk, E0.dot2, h4, Bool.not_true, Bool.and_false, Bool.and_false, Bool.and_false]; rfl
          go_enter Try.func102, Try.ntmps102
          go_wp2
          go_ret
          exact ⟨ret_bool HR.out.symm, Below.refl _ _⟩
        · have h4' : (s.toList == [46, 46]) = false := by simpa using h4
          clear h4
          have HY : Hid (s.data.toList.all E0.chr = true → E0.nameOk s = true) := fun h => by
            rw [E0.nameOk_all h, E0.dot1, E0.dot2, h3', h4', show B1.inB s.size 1 14 = true from decide_eq_true (by omega)]
            rfl
          go_enter Try.func102, Try.ntmps102
          go_wp2
          go_loopw [] (fun w' => ∃ k : Nat, w' = w.iter s k ∧ k ≤ s.size ∧ (s.data.toList.take k).all E0.chr = true) (fun w' => s.size - w'.iterPos w.heap.size)
          case atStart => exact ⟨0, rfl, Nat.zero_le _, rfl⟩
          case round =>
            obtain ⟨k, rfl, hk, hall⟩ := hrel
            by_cases hlt : k < s.size
            · have hc := s[k].toNat_lt
              by_cases ha : s[k].toNat < 128
              · have hnx : ∀ ty, (Instr.next (.pointer (some ⟨w.heap.size, 0, none⟩)) true ty).run Try.prog (w.iter s k) = _ := fun ty => run_next_ascii w s k ty hlt ha
                by_cases hd : E0.chr s[k] = true
                · have HA : Hid ((s.data.toList.take (k + 1)).all E0.chr = true) := E0.all_snoc hlt hall hd
                  have hcase := E0.chr_true hd
                  clear hall hd
                  rcases hcase with ⟨c1, c2⟩ | ⟨c1, c2⟩ | c1
                  · have g1 : ((s[k].toNat : Int) != 46) = true := by simp; omega
                    have g2 : ¬ (s[k].toNat : Int) < 48 := by omega
                    have g3 : 57 < (s[k].toNat : Int) := by omega
                    have g4 : ¬ (s[k].toNat : Int) < 97 := by omega
                    have g5 : ¬ 122 < (s[k].toNat : Int) := by omega
                    go_wp2
                    go_roundw
                    case rel => exact ⟨k + 1, rfl, by omega, HA.out⟩
                    case measure => simp; omega
                  · have g1 : ((s[k].toNat : Int) != 46) = true := by simp; omega
                    have g2 : ¬ (s[k].toNat : Int) < 48 := by omega
                    have g3 : ¬ 57 < (s[k].toNat : Int) := by omega
                    go_wp2
                    go_roundw
                    case rel => exact ⟨k + 1, rfl, by omega, HA.out⟩
                    case measure => simp; omega
                  · have g1 : ((s[k].toNat : Int) != 46) = false := by simp; omega
                    clear c1
                    go_wp2
                    go_roundw
                    case rel => exact ⟨k + 1, rfl, by omega, HA.out⟩
                    case measure => simp; omega
                · have hd' : E0.chr s[k] = false := by simpa using hd
                  obtain ⟨n1, n2, n3⟩ := E0.chr_false hd'
                  have HR : Hid (E0.nameOk s = false) := E0.nameOk_bad hlt hd'
                  have g1 : ((s[k].toNat : Int) != 46) = true := by simp; omega
                  clear hall hd hd' n3
                  by_cases g2 : (s[k].toNat : Int) < 48
                  · have g3 : (s[k].toNat : Int) < 97 := by omega
                    go_wp2
                    go_ret
                    exact ⟨ret_bool HR.out.symm, below_iter _ _ _⟩
                  · have g3 : 57 < (s[k].toNat : Int) := by omega
                    by_cases g4 : (s[k].toNat : Int) < 97
                    · go_wp2
                      go_ret
                      exact ⟨ret_bool HR.out.symm, below_iter _ _ _⟩
                    · have g5 : 122 < (s[k].toNat : Int) := by omega
                      go_wp2
                      go_ret
                      exact ⟨ret_bool HR.out.symm, below_iter _ _ _⟩
              · have hnx : ∀ ty, (Instr.next (.pointer (some ⟨w.heap.size, 0, none⟩)) true ty).run Try.prog (w.iter s k) = _ := fun ty => run_next_any w s k ty hlt
                have hh := (decode_high s k hlt (by omega)).1
                have g1 : (((Utf8.decode s k).1 : Int) != 46) = true := by simp; omega
                have g2 : ¬ ((Utf8.decode s k).1 : Int) < 48 := by omega
                have g3 : 57 < ((Utf8.decode s k).1 : Int) := by omega
                have g4 : ¬ ((Utf8.decode s k).1 : Int) < 97 := by omega
                have g5 : 122 < ((Utf8.decode s k).1 : Int) := by omega
                have HR : Hid (E0.nameOk s = false) := E0.nameOk_bad hlt (by
                  have : ∀ c : UInt8, ¬ c.toNat < 128 → E0.chr c = false := fun c h => by
                    simp only [E0.chr, Bool.or_eq_false_iff, decide_eq_false_iff_not]
                    omega
                  exact this _ ha)
                clear hall
                go_wp2
                go_ret
                exact ⟨ret_bool HR.out.symm, below_iter _ _ _⟩
            · obtain rfl : k = s.size := by omega
              have hnx : ∀ ty, (Instr.next (.pointer (some ⟨w.heap.size, 0, none⟩)) true ty).run Try.prog (w.iter s s.size) = _ := fun ty => run_next_end w s s.size ty hlt
              rw [E0.take_all] at hall
              have HR : Hid (E0.nameOk s = true) := HY.out hall
              clear hall
              go_wp2
              go_ret
              exact ⟨ret_bool HR.out.symm, below_iter _ _ _⟩

theorem impl_EntryOk (i : Int) (s : ByteArray) (w : World) (hs : s.size ≤ 281474976710656) :
    Calls Try.prog 100 #[.agg #[.int .i64 i, .string s]] w fun e w' => e = .returned (.bool (E0.entryOk i s)) ∧ Below w.heap.size w w' := by
  have hb0 : Below w.heap.size w (w.alloc (.cells #[.int .i64 i, .string s] 98)) := (Below.refl _ _).alloc (Nat.le_refl _) _
  by_cases h1 : 1 ≤ i
  · by_cases h2 : i < 8
    · have HR : Hid (E0.entryOk i s = E0.nameOk s) := by rw [E0.entryOk, show B1.inB i 1 7 = true from decide_eq_true (by omega), Bool.and_true]; rfl
      go_enter Try.func100, Try.ntmps100
      go_wp2_with (go_at_call 102; refine (impl_nameOk _ _ hs).mono ?_; rintro e w' ⟨rfl, hb⟩)
      go_ret
      exact ⟨ret_bool HR.out.symm, hb0.trans (hb.mono hb0.size)⟩
    · have HR : Hid (E0.entryOk i s = false) := by rw [E0.entryOk, show B1.inB i 1 7 = false from decide_eq_false (by omega), Bool.and_false]; rfl
      have h2' : decide (i < 8) = false := by simpa using h2
      go_enter Try.func100, Try.ntmps100
      go_wp2
      go_ret
      exact ⟨ret_bool HR.out.symm, hb0⟩
  · have HR : Hid (E0.entryOk i s = false) := by rw [E0.entryOk, show B1.inB i 1 7 = false from decide_eq_false (by omega), Bool.and_false]; rfl
    have h1' : decide (1 ≤ i) = false := by simpa using h1
    go_enter Try.func100, Try.ntmps100
    go_wp2
    go_ret
    exact ⟨ret_bool HR.out.symm, hb0⟩
end Go.Proofs.Ytkdjcbmmbjongaa.E1
