/- Contracts of spec.l01New and of the draws of chapter 1: what is drawn lies in its bounds, and only new memory is written. -/
import Derived.Test.YtifddipnboifnaaCur3
import Derived.Test.YtifddipnboifnaaDec1
import Derived.OwnWalk
namespace Go.Proofs.Ytifddipnboifnaa.C1
open Go.ChangeShapes Go.WideShapes Go.ChangeAt Go.RowKit C0
set_option linter.unusedVariables false

theorem st_new {w : World} {a : Option Addr} {len cap : Nat} (x : Int) (T : TypeId) : St w (w.alloc (.cells #[.slice a len cap, .int .i64 0, .int .i64 x] T)) w.heap.size a len cap := by
  refine ⟨(Below.refl _ _).alloc (Nat.le_refl _) _, Nat.le_refl _, ⟨by show _ < (w.heap.push _).size; simp, ⟨0, x, Nat.zero_le _, ?_, ?_, ?_⟩, ?_, ?_⟩⟩
  · rw [World.cell?_alloc_mark]; rfl
  · rw [World.cell?_alloc_mark]; rfl
  · rw [World.cell?_alloc_mark]; rfl
  · have := World.frozen?_alloc_mark w #[.slice a len cap, .int .i64 0, .int .i64 x] T 0 0 1
    rw [this]; simp
  · have := World.frozen?_alloc_mark w #[.slice a len cap, .int .i64 0, .int .i64 x] T 0 0 2
    rw [this]; simp

set_option maxHeartbeats 2000000 in
theorem new_any {w : World} {a : Option Addr} {len cap : Nat} (hcode : Given w a len) (hlen : len ≤ 1048576) :
    Calls Try.prog 58 #[.slice a len cap] w fun e w' => ∃ c, e = .returned (.pointer (some ⟨c, 0, none⟩)) ∧ St w w' c a len cap := by
  go_enter Try.func58, Try.ntmps58
  go_wp2
  go_loop [3, 4] (fun t i => ∃ (k : Nat) (x : Int), k ≤ len ∧ i = .int .i64 k ∧ t = .int .i64 x) (fun _ i => len - (intOf i).toNat)
  case atStart => exact ⟨0, _, Nat.zero_le _, rfl, rfl⟩
  case round =>
    obtain ⟨k, x, hk, rfl, rfl⟩ := hrel
    by_cases hlt : k < len
    · have e1 : (0 : Int) ≤ (k : Int) := by omega
      have e2 : (k : Int) < (len : Int) := by omega
      obtain ⟨b, off, z, rfl, hb, z0, z1, hz⟩ := hcode k hlt
      by_cases h4 : (k : Int) < 4000
      · go_wp2
        go_round
        case rel => exact ⟨k + 1, _, by omega, by go_num, rfl⟩
        case measure => simp [intOf]; omega
      · have h4' : decide ((k : Int) < 4000) = false := by simpa using h4
        go_wp2
        go_ret
        exact ⟨_, rfl, st_new _ _⟩
    · have hf : decide ((k : Int) < (len : Int)) = false := by simp; omega
      go_wp2
      go_ret
      exact ⟨_, rfl, st_new _ _⟩
end Go.Proofs.Ytifddipnboifnaa.C1
