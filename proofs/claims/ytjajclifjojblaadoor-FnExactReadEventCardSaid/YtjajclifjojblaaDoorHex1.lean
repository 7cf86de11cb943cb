/- The contract of spec.Hex, as the given laws call it. -/
import Derived.Test.YtjajclifjojblaaDoorRows
import Derived.Test.YtjajclifjojblaaDoorHex0
import Derived.ProofKit
import Derived.Deep.QuietTactic
import Derived.BigQuiet
namespace Go.Proofs.YtjajclifjojblaaDoor.H1
open Go.ChangeShapes Go.WideShapes Go.ChangeAt Go.RowKit
set_option linter.unusedVariables false

/-- A text's bytes as digits. -/
def hex (s : ByteArray) : ByteArray := ⟨(H0.hexL s.data.toList).toArray⟩

set_option maxHeartbeats 1000000 in
theorem spec_Hex (s : ByteArray) (w : World) (hs : s.size ≤ 281474976710656) :
    Calls Tryd.prog 35 #[.string s] w fun e w' => e = .returned (.string (hex s)) ∧ ∃ n, w' = w.drewN n := by
  go_enter Tryd.func35, Tryd.ntmps35
  go_wp2
  go_loopw [3, 4] (fun t i w' => ∃ k n : Nat, k ≤ s.size ∧ w' = w.drewN n ∧ i = .int .i64 k ∧ t = .string ⟨(H0.hexL (s.data.toList.take k)).toArray⟩) (fun _ i _ => s.size - (intOf i).toNat)
  case atStart => exact ⟨0, 0, Nat.zero_le _, rfl, rfl, rfl⟩
  case round =>
    obtain ⟨k, n, hk, rfl, rfl, rfl⟩ := hrel
    by_cases hlt : k < s.size
    · have hc := s[k].toNat_lt
      have e1 : (0 : Int) ≤ (k : Int) := by omega
      have e2 : (k : Int) < (s.size : Int) := by omega
      have hL := H0.take_len s k hk
      have hz1 : (⟨(H0.hexL (s.data.toList.take k)).toArray⟩ : ByteArray).size + (H0.hx ((s[k].toNat : Int) / 16)).size ≤ 9223372036854775807 := by
        rw [H0.hx_size]
        show (H0.hexL (s.data.toList.take k)).toArray.size + 1 ≤ _
        simp only [List.size_toArray]
        omega
      have hz2 : (⟨(H0.hexL (s.data.toList.take k)).toArray⟩ ++ H0.hx ((s[k].toNat : Int) / 16) : ByteArray).size + (H0.hx ((s[k].toNat : Int) % 16)).size ≤ 9223372036854775807 := by
        rw [H0.hx_size, ByteArray.size_append, H0.hx_size]
        show (H0.hexL (s.data.toList.take k)).toArray.size + 1 + 1 ≤ _
        simp only [List.size_toArray]
        omega
      have hg := H0.grow_eq s k hlt ((s[k].toNat : Int) / 16) ((s[k].toNat : Int) % 16) (by omega) (by omega)
      have HG : Hid ((⟨(H0.hexL (s.data.toList.take k)).toArray⟩ : ByteArray) ++ H0.hx ((s[k].toNat : Int) / 16) ++ H0.hx ((s[k].toNat : Int) % 16) = ⟨(H0.hexL (s.data.toList.take (k + 1))).toArray⟩) := hg
      have hs1 := H0.hx_slice (P := Tryd.prog) 9 Tryd.underlying9 ((s[k].toNat : Int) / 16) (by omega) (by omega)
      have hs2 := H0.hx_slice (P := Tryd.prog) 9 Tryd.underlying9 ((s[k].toNat : Int) % 16) (by omega) (by omega)
      clear hg hL
      go_wp2
      go_quiet (fail)
      go_wp2
      go_quiet (fail)
      go_wp2
      go_roundw
      case rel => exact ⟨k + 1, _, by omega, rfl, by go_num, by rw [← HG.out]⟩
      case measure => simp [intOf]; omega
    · obtain rfl : k = s.size := by omega
      rw [H0.take_all]
      go_wp2
      go_ret
      exact ⟨rfl, _, rfl⟩
end Go.Proofs.YtjajclifjojblaaDoor.H1
