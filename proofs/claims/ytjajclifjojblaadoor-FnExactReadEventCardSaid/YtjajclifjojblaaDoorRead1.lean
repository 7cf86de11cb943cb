/- The contract of spec.ReadDec, as the given laws call it. -/
import Derived.Test.YtjajclifjojblaaDoorDec1
import Derived.Test.YtjajclifjojblaaDoorRead0
import Derived.Test.YtjajclifjojblaaDoorIn1
namespace Go.Proofs.YtjajclifjojblaaDoor.R1
open Go.ChangeShapes Go.WideShapes Go.ChangeAt Go.RowKit
set_option linter.unusedVariables false

theorem wf_of (n : Int) (h0 : -9223372036854775808 ≤ n) (h1 : n ≤ 9223372036854775807) : (Lit.int .i64 n).wf = true := by
  simp [Lit.wf, IntKind.min, IntKind.max, IntKind.signed, IntKind.bits]
  omega

theorem ret_int {k : IntKind} {a b : Int} (h : a = b) : Ending.returned (.int k a) = .returned (.int k b) := by rw [h]

theorem inB_of (c : UInt8) : B1.inB (c.toNat : Int) 48 57 = R0.isD c := by
  unfold B1.inB R0.isD
  rw [decide_eq_decide]
  omega

set_option maxHeartbeats 1000000 in
theorem spec_ReadDec (s : ByteArray) (w : World) (hs : s.size ≤ 281474976710656) :
    Calls Tryd.prog 16 #[.string s] w fun e w' => e = .returned (.int .i64 (R0.rd s)) ∧ w' = w := by
  go_enter Tryd.func16, Tryd.ntmps16
  go_wp2
  go_loop [3, 4] (fun n i => ∃ k : Nat, k ≤ s.size ∧ (k = 0 ∨ s.size ≤ 6) ∧ (s.data.toList.take k).all R0.isD = true ∧ i = .int .i64 k ∧ n = .int .i64 (R0.val (s.data.toList.take k) : Int)) (fun _ i => s.size - (intOf i).toNat)
  case atStart => exact ⟨0, Nat.zero_le _, Or.inl rfl, rfl, rfl, rfl⟩
  case round =>
    obtain ⟨k, hk, h6, hall, rfl, rfl⟩ := hrel
    by_cases hlt : k < s.size
    · have hin := inB_of s[k]
      have hc := s[k].toNat_lt
      by_cases hd : R0.isD s[k] = true
      · rw [hd] at hin
        obtain ⟨hd1, hd2⟩ := R0.isD_true hd
        by_cases hl : s.size ≤ 6
        · have hl' : ¬ 6 < (s.size : Int) := by omega
          have hv := R0.val_take_le s k hall hl
          have hsn := R0.val_snoc (s.data.toList.take k) s[k]
          have hal : (s.data.toList.take (k + 1)).all R0.isD = true := by rw [R0.take_snoc s k hlt]; simp only [List.all_append, List.all_cons, List.all_nil, Bool.and_true, Bool.and_eq_true]; exact ⟨hall, hd⟩
          have HS : Hid ((R0.val (s.data.toList.take (k + 1)) : Int) = 10 * (R0.val (s.data.toList.take k) : Int) + (s[k].toNat : Int) - 48) := by rw [R0.take_snoc s k hlt, hsn]; show _ = _; omega
          have HA : Hid ((s.data.toList.take (k + 1)).all R0.isD = true) := hal
          clear hsn hal hall hd
          go_wp2_with (go_at_call 14; refine (B1.l01In_any _ _ _ _).mono ?_; rintro e w' ⟨rfl, rfl⟩)
          go_round
          case rel => exact ⟨k + 1, by omega, Or.inr hl, HA.out, by go_num, by rw [HS.out]⟩
          case measure => simp [intOf]; omega
        · have hl' : 6 < (s.size : Int) := by omega
          have HR : Hid (R0.rd s = -1) := R0.rd_long (by omega)
          clear hall hd
          go_wp2_with (go_at_call 14; refine (B1.l01In_any _ _ _ _).mono ?_; rintro e w' ⟨rfl, rfl⟩)
          go_ret
          exact ⟨ret_int HR.out.symm, rfl⟩
      · have hd' : R0.isD s[k] = false := by simpa using hd
        rw [hd'] at hin
        have HR : Hid (R0.rd s = -1) := R0.rd_bad hlt hd'
        clear hall hd hd'
        go_wp2_with (go_at_call 14; refine (B1.l01In_any _ _ _ _).mono ?_; rintro e w' ⟨rfl, rfl⟩)
        go_ret
        exact ⟨ret_int HR.out.symm, rfl⟩
    · obtain rfl : k = s.size := by omega
      have hv : R0.val (s.data.toList.take s.size) ≤ 999999 := by
        rcases h6 with h6 | h6
        · have : s.data.toList.take s.size = [] := by rw [h6]; rfl
          rw [this]
          decide
        · exact R0.val_take_le s _ hall h6
      rw [R0.take_all] at hall hv ⊢
      have hR1 : Hid (Lib.itoa (R0.val s.data.toList : Int) ≠ s.data.toList → R0.rd s = -1) := R0.rd_other
      have hR2 : Hid (Lib.itoa (R0.val s.data.toList : Int) = s.data.toList → s.size ≤ 6 → R0.rd s = R0.val s.data.toList) := fun h3 h2 => R0.rd_yes hall h2 h3
      generalize R0.val s.data.toList = v at hv hR1 hR2 ⊢
      clear hall
      by_cases h0 : s.size = 0
      · obtain rfl : s = ⟨#[]⟩ := ByteArray.ext (Array.eq_empty_of_size_eq_zero h0)
        have HR : Hid (R0.rd ⟨#[]⟩ = -1) := hR1.out (R0.itoa_ne v)
        go_wp2_with (go_at_call 27; refine (D1.spec_DecText _ (wf_of _ (by omega) (by omega)) _).mono ?_; rintro e w' ⟨rfl, rfl⟩)
        go_ret
        exact ⟨ret_int HR.out.symm, rfl⟩
      · have hl : s.size ≤ 6 := h6.resolve_left h0
        have hne : ¬ s.toList = [] := by
          rw [Lib.toList_data]
          intro h
          have := congrArg List.length h
          rw [← Lib.size_eq] at this
          exact h0 this
        have hne' : s.toList.isEmpty = false := by simpa using hne
        by_cases hD : Lib.itoa (v : Int) = s.data.toList
        · have hD' : (Lib.itoa (v : Int) == s.toList) = true := by rw [Lib.toList_data, hD]; exact beq_self_eq_true _
          have HR : Hid (R0.rd s = v) := hR2.out hD hl
          clear hD
          go_wp2_with (go_at_call 27; refine (D1.spec_DecText _ (wf_of _ (by omega) (by omega)) _).mono ?_; rintro e w' ⟨rfl, rfl⟩)
          go_ret
          exact ⟨ret_int HR.out.symm, rfl⟩
        · have hD' : (Lib.itoa (v : Int) == s.toList) = false := by rw [Lib.toList_data]; simpa using hD
          have HR : Hid (R0.rd s = -1) := hR1.out hD
          clear hD
          go_wp2_with (go_at_call 27; refine (D1.spec_DecText _ (wf_of _ (by omega) (by omega)) _).mono ?_; rintro e w' ⟨rfl, rfl⟩)
          go_ret
          exact ⟨ret_int HR.out.symm, rfl⟩
end Go.Proofs.YtjajclifjojblaaDoor.R1
