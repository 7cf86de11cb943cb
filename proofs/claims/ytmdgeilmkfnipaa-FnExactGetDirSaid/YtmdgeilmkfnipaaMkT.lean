/- The contract of laws.markText, as the given laws call it. -/
import Derived.Test.YtmdgeilmkfnipaaRows
import Derived.Test.YtmdgeilmkfnipaaLib0
import Derived.Test.YtmdgeilmkfnipaaDec0
import Derived.ProofKit
import Derived.Handy
namespace Go.Proofs.Ytmdgeilmkfnipaa.M1
open Go.ChangeShapes Go.WideShapes Go.ChangeAt Go.RowKit
set_option linter.unusedVariables false
set_option linter.unusedSimpArgs false

/-- The text of a mark. -/
def mt (k : Nat) : ByteArray := ⟨(109 :: D0.dd k).toArray⟩

theorem conv1 (x : Int) (hx : 0 ≤ x ∧ x < 256) (w : World) :
    (convert 22 9 (.slice (some ⟨w.heap.size, 0, none⟩) 1 1)).run Try.prog (w.alloc (.cells #[.int .u8 x] 5)) = .ok (.string ⟨#[UInt8.ofNat x.toNat]⟩) (w.alloc (.cells #[.int .u8 x] 5)) :=
  B0.conv_back _ 22 9 5 _ 0 1 [UInt8.ofNat x.toNat] Try.underlying22 Try.underlying5 Try.underlying9
    (B0.holds_new _ _ _ _ _ fun j hj => by
      obtain rfl : j = 0 := by simpa using hj
      have : x.toNat < 256 := by omega
      simp [Nat.mod_eq_of_lt this]
      omega) 1 rfl

theorem dig_of (u : Nat) : (⟨#[UInt8.ofNat (48 + (u : Int) % 10).toNat]⟩ : ByteArray) = D0.dig ((u : Int) % 10) := by
  rw [D0.dig, show (48 + (u : Int) % 10).toNat = 48 + ((u : Int) % 10).toNat by omega]

theorem ret_m (v : Nat) : Ending.returned (.string (⟨#[109]⟩ ++ ⟨(D0.dd v).toArray⟩)) = Ending.returned (.string (mt v)) := by
  congr 2

theorem markText_any (v : Nat) (hv : v ≠ 0) (hm : v ≤ 9223372036854775807) (w : World) :
    Calls Try.prog 94 #[.int .i64 (v : Int)] w fun e w' => e = .returned (.string (mt v)) ∧ Below w.heap.size w w' := by
  have hv2 : ¬ (v : Int) ≤ 0 := by omega
  have hlen := D0.dd_length v (by omega)
  go_enter Try.func94, Try.ntmps94
  go_wp2
  go_loopw [0, 3] (fun i t w' => ∃ (u : Nat) (out : List UInt8), u ≤ v ∧ D0.dd u ++ out = D0.dd v ∧ i = .int .i64 (u : Int) ∧ t = .string ⟨out.toArray⟩ ∧ Below w.heap.size w w') (fun i _ _ => (intOf i).toNat)
  case atStart => exact ⟨v, [], Nat.le_refl _, by simp, rfl, rfl, Below.refl _ _⟩
  case round =>
    obtain ⟨u, out, hu, he, rfl, rfl, hbel⟩ := hrel
    have hB := hbel.size
    by_cases h0 : u = 0
    · subst h0
      have he' : out = D0.dd v := by simpa [D0.dd] using he
      clear he
      subst he'
      have hs : (⟨#[109]⟩ : ByteArray).size + (⟨(D0.dd v).toArray⟩ : ByteArray).size ≤ 9223372036854775807 := by
        show 1 + (D0.dd v).toArray.size ≤ _
        simp
        omega
      go_wp2
      go_ret
      exact ⟨ret_m _, hbel⟩
    · have hs : (D0.dig ((u : Int) % 10)).size + (⟨out.toArray⟩ : ByteArray).size ≤ 9223372036854775807 := by
        have := congrArg List.length he
        simp at this
        rw [D0.dig_size]
        show 1 + out.toArray.size ≤ _
        simp
        omega
      have hu1 : 0 < (u : Int) := by omega
      have hcv := conv1 (48 + (u : Int) % 10) (by omega)
      rw [dig_of] at hcv
      have hHe : Hid (D0.dd u ++ out = D0.dd v) := he
      clear he
      go_wp2
      go_roundw
      case rel => exact ⟨u / 10, UInt8.ofNat (48 + u % 10) :: out, by omega, D0.round_eq u v out h0 hHe.out, by go_num, by rw [D0.dig_cons]; rfl, hbel.alloc hB _⟩
      case measure => simp [intOf]; omega
end Go.Proofs.Ytmdgeilmkfnipaa.M1
