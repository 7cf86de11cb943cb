/- Contracts of spec.Zeros and impl.Zeros, as the given laws call them. -/
import Derived.Test.YtjajclifjojblaaDoorRows
import Derived.Test.YtjajclifjojblaaDoorLib0
import Derived.ProofKit
import Derived.Handy
namespace Go.Proofs.YtjajclifjojblaaDoor.B4
open Go.ChangeShapes Go.WideShapes Go.ChangeAt Go.RowKit
set_option linter.unusedVariables false

/-- So many bytes 0. -/
def nulls (k : Nat) : ByteArray := ⟨Array.replicate k 0⟩

/-- So many bytes 0 for 0 to 5000; none for another number. -/
def zeros (n : Int) : ByteArray := if n ≤ 5000 then nulls n.toNat else ⟨#[]⟩

theorem nulls_succ (k : Nat) : nulls k ++ ⟨#[0]⟩ = nulls (k + 1) := by
  apply ByteArray.ext
  simp [nulls, Array.replicate_succ]

theorem nulls_size (k : Nat) : (nulls k).size = k := by simp [nulls, ByteArray.size]

theorem info8 : (Tryd.prog.info? 5).map (fun i => (i.zero, i.size, i.bytes)) = some (some (.int .u8 0), 1, 1) := by kernel_rfl

theorem spec_Zeros (n : Int) (w : World) :
    Calls Tryd.prog 15 #[.int .i64 n] w fun e w' => e = .returned (.string (zeros n)) ∧ w' = w := by
  by_cases h : n ≤ 5000
  · have e : zeros n = nulls n.toNat := by rw [zeros, if_pos h]
    rw [e]
    go_enter Tryd.func15, Tryd.ntmps15
    go_wp2
    go_loop [3, 4] (fun t i => ∃ k : Nat, k ≤ n.toNat ∧ i = .int .i64 k ∧ t = .string (nulls k)) (fun _ i => n.toNat - (intOf i).toNat)
    case atStart => exact ⟨0, Nat.zero_le _, rfl, rfl⟩
    case round =>
      obtain ⟨k, hk, rfl, rfl⟩ := hrel
      by_cases hlt : (k : Int) < n
      · have hz : (nulls k).size + 1 ≤ 9223372036854775807 := by rw [nulls_size]; omega
        go_wp2
        go_round
        case rel => exact ⟨k + 1, by omega, by go_num, by first | rfl | rw [← nulls_succ]⟩
        case measure => simp [intOf]; omega
      · have hf : decide ((k : Int) < n) = false := by simpa using hlt
        go_wp2
        go_ret
        have hk' : k = n.toNat := by omega
        exact ⟨by rw [← hk']; rfl, rfl⟩
  · have e : zeros n = ⟨#[]⟩ := by rw [zeros, if_neg h]
    have hf : decide (n ≤ 5000) = false := by simpa using h
    rw [e]
    go_enter Tryd.func15, Tryd.ntmps15
    go_wp2
    go_loop [3, 4] (fun t i => i = .int .i64 0 ∧ t = .string ⟨#[]⟩) (fun _ _ => 0)
    case atStart => exact ⟨rfl, rfl⟩
    case round =>
      obtain ⟨rfl, rfl⟩ := hrel
      go_wp2
      go_ret
      exact ⟨rfl, rfl⟩

set_option maxRecDepth 4000 in
theorem impl_Zeros (n : Int) (w : World) :
    Calls Tryd.prog 40 #[.int .i64 n] w fun e w' => e = .returned (.string (zeros n)) ∧ Below w.heap.size w w' := by
  by_cases h1 : n < 0
  · have e : zeros n = ⟨#[]⟩ := by rw [zeros, if_pos (by omega), show n.toNat = 0 by omega]; rfl
    rw [e]
    go_enter Tryd.func40, Tryd.ntmps40
    go_wp2
    go_ret
    exact ⟨rfl, Below.refl _ _⟩
  · by_cases h2 : 5000 < n
    · have e : zeros n = ⟨#[]⟩ := by rw [zeros, if_neg (by omega)]
      rw [e]
      go_enter Tryd.func40, Tryd.ntmps40
      go_wp2
      go_ret
      exact ⟨rfl, Below.refl _ _⟩
    · have e : zeros n = nulls n.toNat := by rw [zeros, if_pos (by omega)]
      rw [e]
      obtain ⟨i0, hi, hz0, hz1, hz2⟩ := info_parts info8
      obtain ⟨M, hM⟩ : ∃ M, M = madeCells (Value.int .u8 0).cells (n.toNat * i0.size) := ⟨_, rfl⟩
      have hmk : ∀ W : World, (Instr.makeSlice 49 (.int .i64 n) (.int .i64 n)).run Tryd.prog W = .ok (.slice (some ⟨W.heap.size, 0, none⟩) n.toNat n.toNat) (W.alloc (.cells M 5)) := fun W => by
        have h := run_make (P := Tryd.prog) W 49 5 i0 (.int .u8 0) Tryd.underlying49 hi hz0 .i64 .i64 n n (by omega) (by omega) (by rw [hz2]; omega) (by omega)
        rwa [← hM] at h
      have hcv : ∀ W : World, (convert 49 9 (.slice (some ⟨W.heap.size, 0, none⟩) n.toNat n.toNat)).run Tryd.prog (W.alloc (.cells M 5)) = .ok (.string (nulls n.toNat)) (W.alloc (.cells M 5)) := fun W => by
        have h := B0.conv_back (P := Tryd.prog) (W.alloc (.cells M 5)) 49 9 5 W.heap.size 0 n.toNat (List.replicate n.toNat 0) Tryd.underlying49 Tryd.underlying5 Tryd.underlying9
          (B0.holds_new _ _ _ _ _ fun j hj => by
            have hj' : j < n.toNat := by simpa using hj
            rw [hM, ← Array.getElem?_toList, show (Value.int .u8 0).cells = #[Value.int .u8 0] from rfl, toList_madeCells_one, hz1]
            simp [hj']) n.toNat (by simp)
        have e2 : (⟨(List.replicate n.toNat (0 : UInt8)).toArray⟩ : ByteArray) = nulls n.toNat := by simp [nulls]
        rwa [e2] at h
      clear hM
      clear hi hz0 hz1 hz2
      go_enter Tryd.func40, Tryd.ntmps40
      go_wp2
      go_ret
      exact ⟨rfl, by go_grown⟩
end Go.Proofs.YtjajclifjojblaaDoor.B4
