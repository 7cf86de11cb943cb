/- The contract of spec.DecText, as the given laws call it. -/
import Derived.Test.YtjajclifjojblaaDoorRows
import Derived.Test.YtjajclifjojblaaDoorDec0
import Derived.WalkKit
import Derived.ProofKit
namespace Go.Proofs.YtjajclifjojblaaDoor.D1
open Go.ChangeShapes Go.WideShapes Go.ChangeAt Go.RowKit
set_option linter.unusedVariables false

theorem spec_pos (v : Nat) (hv : v ≠ 0) (hm : v ≤ 9223372036854775807) (w : World) :
    Calls Tryd.prog 27 #[.int .i64 (v : Int)] w fun e w' => e = .returned (.string ⟨(D0.dd v).toArray⟩) ∧ w' = w := by
  have hv1 : ¬ (v : Int) = 0 := by omega
  have hv2 : ¬ (v : Int) < 0 := by omega
  have hlen := D0.dd_length v (by omega)
  go_enter Tryd.func27, Tryd.ntmps27
  go_wp2
  go_loop [3, 4] (fun t i => ∃ (u : Nat) (out : List UInt8), u ≤ v ∧ D0.dd u ++ out = D0.dd v ∧ i = .int .i64 (u : Int) ∧ t = .string ⟨out.toArray⟩) (fun _ i => (intOf i).toNat)
  case atStart => exact ⟨v, [], Nat.le_refl _, by simp, rfl, rfl⟩
  case round =>
    obtain ⟨u, out, hu, he, rfl, rfl⟩ := hrel
    by_cases h0 : u = 0
    · subst h0
      have he' : out = D0.dd v := by simpa [D0.dd] using he
      clear he
      subst he'
      go_wp2
      go_ret
      exact ⟨rfl, rfl⟩
    · have hs : (D0.dig ((u : Int) % 10)).size + (⟨out.toArray⟩ : ByteArray).size ≤ 9223372036854775807 := by
        have := congrArg List.length he
        simp at this
        rw [D0.dig_size]
        show 1 + out.toArray.size ≤ _
        simp
        omega
      have hu1 : ¬ (u : Int) = 0 := by omega
      have hu2 : ¬ (u : Int) % 10 < 0 := by omega
      have hdg := D0.dig_slice (P := Tryd.prog) 9 Tryd.underlying9 ((u : Int) % 10) (by omega) (by omega)
      have hHe : Hid (D0.dd u ++ out = D0.dd v) := he
      clear he
      go_wp2
      go_round
      case rel => exact ⟨u / 10, UInt8.ofNat (48 + u % 10) :: out, by omega, D0.round_eq u v out h0 hHe.out, by go_num, by rw [D0.dig_cons]; rfl⟩
      case measure => simp [intOf]; omega

theorem spec_neg (v : Nat) (hv : v ≠ 0) (hm : v ≤ 9223372036854775808) (w : World) :
    Calls Tryd.prog 27 #[.int .i64 (-(v : Int))] w fun e w' => e = .returned (.string ⟨(45 :: D0.dd v).toArray⟩) ∧ w' = w := by
  have hv1 : ¬ (-(v : Int)) = 0 := by omega
  have hv2 : (-(v : Int)) < 0 := by omega
  have hlen := D0.dd_length v (by omega)
  go_enter Tryd.func27, Tryd.ntmps27
  go_wp2
  go_loop [3, 4] (fun t i => ∃ (u : Nat) (out : List UInt8), u ≤ v ∧ D0.dd u ++ out = D0.dd v ∧ i = .int .i64 (-(u : Int)) ∧ t = .string ⟨out.toArray⟩) (fun _ i => (-(intOf i)).toNat)
  case atStart => exact ⟨v, [], Nat.le_refl _, by simp, rfl, rfl⟩
  case round =>
    obtain ⟨u, out, hu, he, rfl, rfl⟩ := hrel
    by_cases h0 : u = 0
    · subst h0
      have he' : out = D0.dd v := by simpa [D0.dd] using he
      clear he
      subst he'
      have hs : (⟨#[45]⟩ : ByteArray).size + (⟨(D0.dd v).toArray⟩ : ByteArray).size ≤ 9223372036854775807 := by
        show 1 + (D0.dd v).toArray.size ≤ _
        simp
        omega
      go_wp2
      go_ret
      exact ⟨D0.ret_minus _, rfl⟩
    · have hu1 : ¬ (-(u : Int)) = 0 := by omega
      have hsz : out.length ≤ 21 := by
        have := congrArg List.length he
        simp at this
        omega
      have hHe : Hid (D0.dd u ++ out = D0.dd v) := he
      clear he
      by_cases hz : 0 < (u : Int) % 10
      · have hs : (D0.dig ((u : Int) % 10)).size + (⟨out.toArray⟩ : ByteArray).size ≤ 9223372036854775807 := by
          rw [D0.dig_size]
          show 1 + out.toArray.size ≤ _
          simp
          omega
        have hdg := D0.dig_slice (P := Tryd.prog) 9 Tryd.underlying9 ((u : Int) % 10) (by omega) (by omega)
        go_wp2
        go_round
        case rel => exact ⟨u / 10, UInt8.ofNat (48 + u % 10) :: out, by omega, D0.round_eq u v out h0 hHe.out, by go_num, by rw [D0.dig_cons]; rfl⟩
        case measure => simp [intOf]; omega
      · have hz' : (u : Int) % 10 ≤ 0 := by omega
        have hs : (D0.dig (-((u : Int) % 10))).size + (⟨out.toArray⟩ : ByteArray).size ≤ 9223372036854775807 := by
          rw [D0.dig_size]
          show 1 + out.toArray.size ≤ _
          simp
          omega
        have hdg := D0.dig_slice (P := Tryd.prog) 9 Tryd.underlying9 (-((u : Int) % 10)) (by omega) (by omega)
        go_wp2
        go_round
        case rel => exact ⟨u / 10, UInt8.ofNat (48 + u % 10) :: out, by omega, D0.round_eq u v out h0 hHe.out, by go_num, by rw [D0.dig_cons, show (-((u : Int) % 10)).toNat = u % 10 by omega]⟩
        case measure => simp [intOf]; omega

theorem spec_DecText (n : Int) (hn : (Lit.int .i64 n).wf = true) (w : World) :
    Calls Tryd.prog 27 #[.int .i64 n] w fun e w' => e = .returned (.string ⟨(Lib.itoa n).toArray⟩) ∧ w' = w := by
  have hb : -9223372036854775808 ≤ n ∧ n ≤ 9223372036854775807 := by simpa [Lit.wf, IntKind.min, IntKind.max, IntKind.signed, IntKind.bits] using hn
  by_cases h0 : n = 0
  · subst h0
    have e : Lib.itoa 0 = [48] := by unfold Lib.itoa; rw [if_neg (by omega)]; exact Lib.decDigits_one (by omega)
    rw [e]
    go_enter Tryd.func27, Tryd.ntmps27
    go_wp2
    go_ret
    exact ⟨rfl, rfl⟩
  · by_cases h1 : 0 < n
    · obtain ⟨v, rfl⟩ : ∃ v : Nat, n = (v : Int) := ⟨n.toNat, by omega⟩
      rw [D0.itoa_pos v (by omega)]
      exact spec_pos v (by omega) (by omega) w
    · obtain ⟨v, rfl⟩ : ∃ v : Nat, n = -(v : Int) := ⟨n.natAbs, by omega⟩
      rw [D0.itoa_neg v (by omega)]
      exact spec_neg v (by omega) (by omega) w
end Go.Proofs.YtjajclifjojblaaDoor.D1
