/- Contracts of spec.Zeros and impl.Zeros, as the given laws call them. -/
import Derived.Test.YtkpcpffpiilcpaaRows
import Derived.Test.YtkpcpffpiilcpaaLib0
import Derived.ProofKit
import Derived.Handy
namespace Go.Proofs.Ytkpcpffpiilcpaa.B4
open Go.ChangeShapes Go.WideShapes Go.ChangeAt Go.RowKit
set_option linter.unusedVariables false

/-- So many bytes 0. -/
def nulls (k : Nat) : ByteArray := ⟨Array.replicate k 0⟩

/-- So many bytes 0 for 0 to 5000; none for another number. -/
def zeros (n : Int) : ByteArray := if n ≤ 5000 then nulls n.toNat else ⟨#[]⟩

theorem nulls_succ (k : Nat) : nulls k ++ ⟨#[0]⟩ = nulls (k + 1) := by
  apply ByteArray.ext
  simp [nulls, Array.replicate_succ]

theorem nulls_size (k : Nat) : (nulls k).size = k := by simp [nulls, ByteArray.size]

theorem info8 : (Try.prog.info? 5).map (fun i => (i.zero, i.size, i.bytes)) = some (some (.int .u8 0), 1, 1) := by kernel_rfl

theorem spec_Zeros (n : Int) (w : World) :
    Calls Try.prog 46 #[.int .i64 n] w fun e w' => e = .returned (.string (zeros n)) ∧ w' = w := by
  by_cases h : n ≤ 5000
  · have e : zeros n = nulls n.toNat := by rw [zeros, if_pos h]
    rw [e]
    go_enter Try.func46, Try.ntmps46
    go_wp2
    go_loop [3, 4] (fun t i => ∃ k : Nat, k ≤ n.toNat ∧ i = .int .i64 k ∧ t = .string (nulls k)) (fun _ i => n.toNat - (intOf i).toNat)
    case atStart => exact ⟨0, Nat.zero_le _, rfl, rfl⟩
    case round =>
      obtain ⟨k, hk, rfl, rfl⟩ := hrel
      by_cases hlt : (k : Int) < n
      · have hz : (nulls k).size + 1 ≤ 9223372036854775807 := by rw [nulls_size]; omega
        go_wp2
        go_round
        case rel => exact ⟨k + 1, by omega, by go_num, by first | rfl | rw [← nulls_succ]⟩
        case measure => simp [intOf]; omega
      · have hf : decide ((k : Int) < n) = false := by simpa using hlt
        go_wp2
        go_ret
        have hk' : k = n.toNat := by omega
        exact ⟨by rw [← hk']; rfl, rfl⟩
  · have e : zeros n = ⟨#[]⟩ := by rw [zeros, if_neg h]
    have hf : decide (n ≤ 5000) = false := by simpa using h
    rw [e]
    go_enter Try.func46, Try.ntmps46
    go_wp2
    go_loop [3, 4] (fun t i => i = .int .i64 0 ∧ t = .string ⟨#[]⟩) (fun _ _ => 0)
    case atStart => exact ⟨rfl, rfl⟩
    case round =>
      obtain ⟨rfl, rfl⟩ := hrel
      go_wp2
      go_ret
      exact ⟨rfl, rfl⟩

end Go.Proofs.Ytkpcpffpiilcpaa.B4
