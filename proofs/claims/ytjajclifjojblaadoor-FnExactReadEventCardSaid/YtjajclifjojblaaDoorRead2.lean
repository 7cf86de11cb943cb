/- The contract of impl.ReadDec, as the given laws call it. -/
import Derived.Test.YtjajclifjojblaaDoorDec2
import Derived.Test.YtjajclifjojblaaDoorRead1
import Derived.Laws.RangeString
import Derived.Laws.RangeAny
import Derived.Handy
namespace Go.Proofs.YtjajclifjojblaaDoor.R1
open Go.ChangeShapes Go.WideShapes Go.ChangeAt Go.RowKit
set_option linter.unusedVariables false

theorem below_iter (w : World) (s : ByteArray) (k : Nat) : Below w.heap.size w (w.iter s k) := (Below.refl _ w).alloc (Nat.le_refl _) _

set_option maxHeartbeats 1000000 in
theorem impl_ReadDec (s : ByteArray) (w : World) (hs : s.size ≤ 281474976710656) (htab : Lib.TabIs Tryd.prog w "internal/strconv.uint64pow10" .u64 Lib.pow10Tab) :
    Calls Tryd.prog 37 #[.string s] w fun e w' => e = .returned (.int .i64 (R0.rd s)) ∧ Below w.heap.size w w' := by
  go_enter Tryd.func37, Tryd.ntmps37
  go_wp2
  go_loopw [3] (fun n w' => ∃ k : Nat, w' = w.iter s k ∧ k ≤ s.size ∧ (s.data.toList.take k).all R0.isD = true ∧ R0.val (s.data.toList.take k) ≤ 999999 ∧ n = .int .i64 (R0.val (s.data.toList.take k) : Int)) (fun _ w' => s.size - w'.iterPos w.heap.size)
  case atStart => exact ⟨0, rfl, Nat.zero_le _, rfl, Nat.zero_le _, rfl⟩
  case round =>
    obtain ⟨k, rfl, hk, hall, hv, rfl⟩ := hrel
    by_cases hlt : k < s.size
    · have hc := s[k].toNat_lt
      by_cases ha : s[k].toNat < 128
      · have hnx : ∀ ty, (Instr.next (.pointer (some ⟨w.heap.size, 0, none⟩)) true ty).run Tryd.prog (w.iter s k) = _ := fun ty => run_next_ascii w s k ty hlt ha
        by_cases hd : R0.isD s[k] = true
        · obtain ⟨hd1, hd2⟩ := R0.isD_true hd
          have h1 : ¬ (s[k].toNat : Int) < 48 := by omega
          have h2 : ¬ 57 < (s[k].toNat : Int) := by omega
          have hsn := R0.val_snoc (s.data.toList.take k) s[k]
          have hal : (s.data.toList.take (k + 1)).all R0.isD = true := by rw [R0.take_snoc s k hlt]; simp only [List.all_append, List.all_cons, List.all_nil, Bool.and_true, Bool.and_eq_true]; exact ⟨hall, hd⟩
          have HS : Hid ((R0.val (s.data.toList.take (k + 1)) : Int) = (R0.val (s.data.toList.take k) : Int) * 10 + ((s[k].toNat : Int) - 48)) := by rw [R0.take_snoc s k hlt, hsn]; show _ = _; omega
          have HA : Hid ((s.data.toList.take (k + 1)).all R0.isD = true) := hal
          clear hsn hal hall hd
          by_cases hm : 999999 < (R0.val (s.data.toList.take k) : Int) * 10 + ((s[k].toNat : Int) - 48)
          · have HR : Hid (R0.rd s = -1) := R0.rd_long (by
              have h9 := HS.out
              by_cases h6 : s.size ≤ 6
              · have := R0.val_take_le s (k + 1) HA.out h6
                omega
              · omega)
            go_wp2
            go_ret
            exact ⟨ret_int HR.out.symm, below_iter _ _ _⟩
          · go_wp2
            go_roundw
            case rel => exact ⟨k + 1, rfl, by omega, HA.out, by have := HS.out; omega, by rw [HS.out]⟩
            case measure => simp; omega
        · have hd' : R0.isD s[k] = false := by simpa using hd
          have HR : Hid (R0.rd s = -1) := R0.rd_bad hlt hd'
          have hn := R0.isD_false hd'
          clear hall hd hd'
          by_cases h1 : (s[k].toNat : Int) < 48
          · go_wp2
            go_ret
            exact ⟨ret_int HR.out.symm, below_iter _ _ _⟩
          · have h2 : 57 < (s[k].toNat : Int) := by omega
            go_wp2
            go_ret
            exact ⟨ret_int HR.out.symm, below_iter _ _ _⟩
      · have hnx : ∀ ty, (Instr.next (.pointer (some ⟨w.heap.size, 0, none⟩)) true ty).run Tryd.prog (w.iter s k) = _ := fun ty => run_next_any w s k ty hlt
        have hh := (decode_high s k hlt (by omega)).1
        have h1 : ¬ ((Utf8.decode s k).1 : Int) < 48 := by omega
        have h2 : 57 < ((Utf8.decode s k).1 : Int) := by omega
        have HR : Hid (R0.rd s = -1) := R0.rd_bad hlt (decide_eq_false (by omega))
        clear hall
        go_wp2
        go_ret
        exact ⟨ret_int HR.out.symm, below_iter _ _ _⟩
    · obtain rfl : k = s.size := by omega
      have hnx : ∀ ty, (Instr.next (.pointer (some ⟨w.heap.size, 0, none⟩)) true ty).run Tryd.prog (w.iter s s.size) = _ := fun ty => run_next_end w s s.size ty hlt
      rw [R0.take_all] at hall hv ⊢
      have hR1 : Hid (Lib.itoa (R0.val s.data.toList : Int) ≠ s.data.toList → R0.rd s = -1) := R0.rd_other
      have hR2 : Hid (Lib.itoa (R0.val s.data.toList : Int) = s.data.toList → s.size ≤ 6 → R0.rd s = R0.val s.data.toList) := fun h3 h2 => R0.rd_yes hall h2 h3
      generalize R0.val s.data.toList = v at hv hR1 hR2 ⊢
      clear hall
      have ht2 := L0.tab_below htab (below_iter w s s.size)
      by_cases hD : Lib.itoa (v : Int) = s.data.toList
      · have hD' : (Lib.itoa (v : Int) == s.toList) = true := by rw [Lib.toList_data, hD]; exact beq_self_eq_true _
        have HR : Hid (R0.rd s = v) := hR2.out hD (by rw [Lib.size_eq, ← hD]; exact R0.itoa_len v hv)
        clear hD
        go_wp2_with (go_at_call 43; refine (D1.impl_DecText _ (wf_of _ (by omega) (by omega)) _ ht2).mono ?_; rintro e w' ⟨rfl, hb⟩)
        go_ret
        exact ⟨ret_int HR.out.symm, (below_iter _ _ _).trans (hb.mono (below_iter _ _ _).size)⟩
      · have hD' : (Lib.itoa (v : Int) == s.toList) = false := by rw [Lib.toList_data]; simpa using hD
        have HR : Hid (R0.rd s = -1) := hR1.out hD
        clear hD
        go_wp2_with (go_at_call 43; refine (D1.impl_DecText _ (wf_of _ (by omega) (by omega)) _ ht2).mono ?_; rintro e w' ⟨rfl, hb⟩)
        go_ret
        exact ⟨ret_int HR.out.symm, (below_iter _ _ _).trans (hb.mono (below_iter _ _ _).size)⟩
end Go.Proofs.YtjajclifjojblaaDoor.R1
