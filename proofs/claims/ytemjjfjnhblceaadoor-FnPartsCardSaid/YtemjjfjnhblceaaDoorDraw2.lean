/- Contracts of the draws of chapter 1: what is drawn lies in its bounds, and only new memory is written. -/
import Derived.Test.YtemjjfjnhblceaaDoorDraw1
namespace Go.Proofs.YtemjjfjnhblceaaDoor.C1
open Go.ChangeShapes Go.WideShapes Go.ChangeAt Go.RowKit C0
set_option linter.unusedVariables false

theorem wf64 {z : Int} (h0 : -9223372036854775808 ≤ z) (h1 : z ≤ 9223372036854775807) : (Lit.int .i64 z).wf = true := by
  simp [Lit.wf, IntKind.min, IntKind.max, IntKind.signed, IntKind.bits]
  omega

theorem isInt {z : Int} (h0 : -9223372036854775808 ≤ z) (h1 : z ≤ 9223372036854775807) : IsInt (.int .i64 z) := ⟨z, wf64 h0 h1, rfl⟩

theorem of_all {C : Array Value} {Q : Value → Prop} (h : ∀ v ∈ C.toList, Q v) : ∀ j (hj : j < C.size), Q C[j] := fun j hj => h _ (by simp)

variable {w : World} {a : Option Addr} {len cap : Nat}

theorem draw_two (hcode : Given w a len) (hlen : len ≤ 1048576) (F : Nat) (hF : F = 15 ∨ F = 9) :
    Calls Tryd.prog F #[.slice a len cap] w fun e w' => ∃ (s : ByteArray) (i : Int), s.size ≤ 8 ∧ (Lit.int .i64 i).wf = true ∧ e = .returned (.tuple #[.string s, .int .i64 i]) ∧ Below w.heap.size w w' := by
  rcases hF with rfl | rfl
  · go_enter Tryd.func15, Tryd.ntmps15
    go_wp2_with (first
      | (go_at_call 36; refine (new_any hcode hlen).mono ?_; rintro e w1 ⟨c, rfl, s1⟩)
      | (go_at_call 38; refine (below_any hcode s1 hlen 9 (by omega) (by omega)).mono ?_; rintro e w2 ⟨⟨x, x0, x1, rfl⟩, s2, g2⟩; obtain ⟨n, rfl⟩ : ∃ n : Nat, x = (n : Int) := ⟨x.toNat, by omega⟩)
      | (go_at_call 37; refine (bytes_any hcode s2 hlen n (by omega)).mono ?_; rintro e w3 ⟨⟨s, hs, rfl⟩, s3⟩)
      | (go_at_call 39; refine (at_any hcode s3 hlen).mono ?_; rintro e w4 ⟨⟨z, wz, rfl⟩, s4⟩))
    go_ret2
    exact ⟨s, z, by omega, wz, rfl, s4.bel⟩
  · go_enter Tryd.func9, Tryd.ntmps9
    go_wp2_with (first
      | (go_at_call 36; refine (new_any hcode hlen).mono ?_; rintro e w1 ⟨c, rfl, s1⟩)
      | (go_at_call 38; refine (below_any hcode s1 hlen 9 (by omega) (by omega)).mono ?_; rintro e w2 ⟨⟨x, x0, x1, rfl⟩, s2, g2⟩; obtain ⟨n, rfl⟩ : ∃ n : Nat, x = (n : Int) := ⟨x.toNat, by omega⟩)
      | (go_at_call 37; refine (bytes_any hcode s2 hlen n (by omega)).mono ?_; rintro e w3 ⟨⟨s, hs, rfl⟩, s3⟩)
      | (go_at_call 39; refine (at_any hcode s3 hlen).mono ?_; rintro e w4 ⟨⟨z, wz, rfl⟩, s4⟩))
    go_ret2
    exact ⟨s, z, by omega, wz, rfl, s4.bel⟩

theorem draw_Part (hcode : Given w a len) (hlen : len ≤ 1048576) :
    Calls Tryd.prog 7 #[.slice a len cap] w fun e w' => ∃ (s : ByteArray) (i n : Int), s.size ≤ 8 ∧ (Lit.int .i64 i).wf = true ∧ (Lit.int .i64 n).wf = true ∧ e = .returned (.tuple #[.string s, .int .i64 i, .int .i64 n]) ∧ Below w.heap.size w w' := by
  go_enter Tryd.func7, Tryd.ntmps7
  go_wp2_with (first
    | (go_at_call 36; refine (new_any hcode hlen).mono ?_; rintro e w1 ⟨c, rfl, s1⟩)
    | (go_at_call 38; refine (below_any hcode s1 hlen 9 (by omega) (by omega)).mono ?_; rintro e w2 ⟨⟨x, x0, x1, rfl⟩, s2, g2⟩; obtain ⟨n, rfl⟩ : ∃ n : Nat, x = (n : Int) := ⟨x.toNat, by omega⟩)
    | (go_at_call 37; refine (bytes_any hcode s2 hlen n (by omega)).mono ?_; rintro e w3 ⟨⟨s, hs, rfl⟩, s3⟩)
    | (go_at_call 39; refine (at_any hcode s4 hlen).mono ?_; rintro e w5 ⟨⟨z5, wz5, rfl⟩, s5⟩)
    | (go_at_call 39; refine (at_any hcode s3 hlen).mono ?_; rintro e w4 ⟨⟨z, wz, rfl⟩, s4⟩))
  go_ret3
  exact ⟨s, z, z5, by omega, wz, wz5, rfl, s5.bel⟩

theorem draw_With (hcode : Given w a len) (hlen : len ≤ 1048576) :
    Calls Tryd.prog 5 #[.slice a len cap] w fun e w' => ∃ (s : ByteArray) (i : Int) (t : ByteArray), s.size ≤ 8 ∧ (Lit.int .i64 i).wf = true ∧ t.size ≤ 4 ∧ e = .returned (.tuple #[.string s, .int .i64 i, .string t]) ∧ Below w.heap.size w w' := by
  go_enter Tryd.func5, Tryd.ntmps5
  go_wp2_with (first
    | (go_at_call 36; refine (new_any hcode hlen).mono ?_; rintro e w1 ⟨c, rfl, s1⟩)
    | (go_at_call 38; refine (below_any hcode s4 hlen 5 (by omega) (by omega)).mono ?_; rintro e w5 ⟨⟨x5, x50, x51, rfl⟩, s5, g5⟩; obtain ⟨n5, rfl⟩ : ∃ n5 : Nat, x5 = (n5 : Int) := ⟨x5.toNat, by omega⟩)
    | (go_at_call 38; refine (below_any hcode s1 hlen 9 (by omega) (by omega)).mono ?_; rintro e w2 ⟨⟨x, x0, x1, rfl⟩, s2, g2⟩; obtain ⟨n, rfl⟩ : ∃ n : Nat, x = (n : Int) := ⟨x.toNat, by omega⟩)
    | (go_at_call 37; refine (bytes_any hcode s5 hlen n5 (by omega)).mono ?_; rintro e w6 ⟨⟨t, ht, rfl⟩, s6⟩)
    | (go_at_call 37; refine (bytes_any hcode s2 hlen n (by omega)).mono ?_; rintro e w3 ⟨⟨s, hs, rfl⟩, s3⟩)
    | (go_at_call 39; refine (at_any hcode s3 hlen).mono ?_; rintro e w4 ⟨⟨z, wz, rfl⟩, s4⟩))
  go_ret3
  exact ⟨s, z, t, by omega, wz, by omega, rfl, s6.bel⟩

theorem draw_Hex (hcode : Given w a len) (hlen : len ≤ 1048576) :
    Calls Tryd.prog 13 #[.slice a len cap] w fun e w' => ∃ (s : ByteArray), s.size ≤ 48 ∧ e = .returned (.string s) ∧ Below w.heap.size w w' := by
  go_enter Tryd.func13, Tryd.ntmps13
  go_wp2_with (first
    | (go_at_call 36; refine (new_any hcode hlen).mono ?_; rintro e w1 ⟨c, rfl, s1⟩)
    | (go_at_call 38; refine (below_any hcode s1 hlen 12 (by omega) (by omega)).mono ?_; rintro e w2 ⟨⟨x, x0, x1, rfl⟩, s2, g2⟩; obtain ⟨n, rfl⟩ : ∃ n : Nat, x = (n : Int) := ⟨x.toNat, by omega⟩)
    | (go_at_call 37; refine (bytes_any hcode s2 hlen n (by omega)).mono ?_; rintro e w3 ⟨⟨s, hs, rfl⟩, s3⟩))
  go_ret
  exact ⟨s, by omega, rfl, s3.bel⟩

theorem zints : ∀ v ∈ (#[Value.int .i64 0, Value.int .i64 1, Value.int .i64 16, Value.int .i64 5000, Value.int .i64 5001, Value.int .i64 (-1)] : Array Value).toList, IsInt v := by
  intro v hv
  simp at hv
  rcases hv with rfl | rfl | rfl | rfl | rfl | rfl <;> exact isInt (by omega) (by omega)

theorem draw_Zeros (hcode : Given w a len) (hlen : len ≤ 1048576) :
    Calls Tryd.prog 10 #[.slice a len cap] w fun e w' => ∃ (n : Int), (Lit.int .i64 n).wf = true ∧ e = .returned (.int .i64 n) ∧ Below w.heap.size w w' := by
  go_enter Tryd.func10, Tryd.ntmps10
  go_wp2_with (first
    | (go_at_call 36; refine (new_any hcode hlen).mono ?_; rintro e w1 ⟨c, rfl, s1⟩; have hc1 := s1.cur.lt)
    | (go_at_call 41; refine (pickInt_any hcode (s1.below ((Below.refl _ _).alloc (Nat.le_refl _) _)) hlen (Of.new w1 _ 3 IsInt (of_all zints)) (by omega) (by decide) (by decide)).mono ?_; rintro e w2 ⟨⟨z, wz, rfl⟩, s2, g2⟩))
  go_ret
  exact ⟨z, wz, rfl, s2.bel⟩

theorem pints (x : Int) (h0 : 0 ≤ x) (h1 : x < 65536) : ∀ v ∈ (#[Value.int .i64 0, Value.int .i64 255, Value.int .i64 256, Value.int .i64 65535, Value.int .i64 65536, Value.int .i64 (-1), Value.int .i64 x] : Array Value).toList, IsInt v := by
  intro v hv
  simp at hv
  rcases hv with rfl | rfl | rfl | rfl | rfl | rfl | rfl <;> exact isInt (by omega) (by omega)

theorem draw_Pair (hcode : Given w a len) (hlen : len ≤ 1048576) :
    Calls Tryd.prog 8 #[.slice a len cap] w fun e w' => ∃ (n : Int), (Lit.int .i64 n).wf = true ∧ e = .returned (.int .i64 n) ∧ Below w.heap.size w w' := by
  go_enter Tryd.func8, Tryd.ntmps8
  go_wp2_with (first
    | (go_at_call 36; refine (new_any hcode hlen).mono ?_; rintro e w1 ⟨c, rfl, s1⟩)
    | (go_at_call 38; refine (below_any hcode s1 hlen 65536 (by omega) (by omega)).mono ?_; rintro e w2 ⟨⟨x, x0, x1, rfl⟩, s2, g2⟩; have hc2 := s2.cur.lt)
    | (go_at_call 41; refine (pickInt_any hcode (s2.below ((Below.refl _ _).alloc (Nat.le_refl _) _)) hlen (Of.new w2 _ 3 IsInt (of_all (pints x x0 x1))) (by omega) (show 0 < 7 by decide) (show 7 ≤ 100 by decide)).mono ?_; rintro e w3 ⟨⟨z, wz, rfl⟩, s3, g3⟩))
  go_ret
  exact ⟨z, wz, rfl, s3.bel⟩

theorem dints (x : Int) (h0 : 0 ≤ x) (h1 : x < 100000) : ∀ v ∈ (#[Value.int .i64 0, Value.int .i64 (-1), Value.int .i64 10, Value.int .i64 9223372036854775807, Value.int .i64 (-9223372036854775808), Value.int .i64 x] : Array Value).toList, IsInt v := by
  intro v hv
  simp at hv
  rcases hv with rfl | rfl | rfl | rfl | rfl | rfl <;> exact isInt (by omega) (by omega)

theorem draw_DecText (hcode : Given w a len) (hlen : len ≤ 1048576) :
    Calls Tryd.prog 12 #[.slice a len cap] w fun e w' => ∃ (n : Int), (Lit.int .i64 n).wf = true ∧ e = .returned (.int .i64 n) ∧ Below w.heap.size w w' := by
  go_enter Tryd.func12, Tryd.ntmps12
  go_wp2_with (first
    | (go_at_call 36; refine (new_any hcode hlen).mono ?_; rintro e w1 ⟨c, rfl, s1⟩)
    | (go_at_call 38; refine (below_any hcode s1 hlen 100000 (by omega) (by omega)).mono ?_; rintro e w2 ⟨⟨x, x0, x1, rfl⟩, s2, g2⟩; have hc2 := s2.cur.lt)
    | (go_at_call 41; refine (pickInt_any hcode (s2.below ((Below.refl _ _).alloc (Nat.le_refl _) _)) hlen (Of.new w2 _ 3 IsInt (of_all (dints x x0 x1))) (by omega) (show 0 < 6 by decide) (show 6 ≤ 100 by decide)).mono ?_; rintro e w3 ⟨⟨z, wz, rfl⟩, s3, g3⟩))
  go_ret
  exact ⟨z, wz, rfl, s3.bel⟩

theorem rstrs : ∀ v ∈ (#[Value.string ⟨#[]⟩, Value.string ⟨#[45, 49]⟩, Value.string ⟨#[48, 48]⟩, Value.string ⟨#[48, 49]⟩, Value.string ⟨#[49, 120]⟩, Value.string ⟨#[57, 57, 57, 57, 57, 57]⟩, Value.string ⟨#[49, 48, 48, 48, 48, 48, 48]⟩] : Array Value).toList, IsStr v := by
  intro v hv
  simp at hv
  rcases hv with rfl | rfl | rfl | rfl | rfl | rfl | rfl <;> exact ⟨_, by decide, rfl⟩

theorem draw_ReadDec (hcode : Given w a len) (hlen : len ≤ 1048576) :
    Calls Tryd.prog 11 #[.slice a len cap] w fun e w' => ∃ (s : ByteArray), s.size ≤ 48 ∧ e = .returned (.string s) ∧ Below w.heap.size w w' := by
  go_enter Tryd.func11, Tryd.ntmps11
  go_wp2_with (first
    | (go_at_call 36; refine (new_any hcode hlen).mono ?_; rintro e w1 ⟨c, rfl, s1⟩)
    | (go_at_call 42; refine (once_any hcode s1 hlen 3 (by omega) (by omega)).mono ?_; rintro e w2 ⟨⟨x, rfl⟩, s2, g2⟩; have hc2 := s2.cur.lt)
    | (go_at_call 43; refine (pick_any hcode (s2.below ((Below.refl _ _).alloc (Nat.le_refl _) _)) hlen (Of.new w2 _ 9 IsStr (of_all rstrs)) (by omega) (by decide) (by decide)).mono ?_; rintro e w3 ⟨⟨s, hs, rfl⟩, s3, g3⟩)
    | (go_at_call 38; refine (below_any hcode s2 hlen 100000 (by omega) (by omega)).mono ?_; rintro e w3 ⟨⟨x3, x30, x31, rfl⟩, s3, g3⟩)
    | (go_at_call 28; refine (D1.spec_DecText _ (wf64 (by omega) (by omega)) _).mono ?_; rintro e w4 ⟨rfl, rfl⟩))
  · go_ret
    exact ⟨s, by omega, rfl, s3.bel⟩
  · go_ret
    refine ⟨⟨(Lib.itoa x3).toArray⟩, ?_, rfl, s3.bel⟩
    have := Lib.itoa_length_le x3 (by omega) (by omega)
    show (Lib.itoa x3).toArray.size ≤ _
    simp
    omega

theorem wstrs : ∀ v ∈ (#[Value.string ⟨#[97]⟩, Value.string ⟨#[32]⟩, Value.string ⟨#[98, 99]⟩, Value.string ⟨#[32]⟩, Value.string ⟨#[]⟩] : Array Value).toList, IsStr v := by
  intro v hv
  simp at hv
  rcases hv with rfl | rfl | rfl | rfl | rfl <;> exact ⟨_, by decide, rfl⟩

set_option maxHeartbeats 1000000 in
theorem draw_Words (hcode : Given w a len) (hlen : len ≤ 1048576) :
    Calls Tryd.prog 14 #[.slice a len cap] w fun e w' => ∃ (s : ByteArray), s.size ≤ 48 ∧ e = .returned (.string s) ∧ Below w.heap.size w w' := by
  go_enter Tryd.func14, Tryd.ntmps14
  go_wp2_with (first
    | (go_at_call 36; refine (new_any hcode hlen).mono ?_; rintro e w1 ⟨c, rfl, s1⟩)
    | (go_at_call 38; refine (below_any hcode s1 hlen 6 (by omega) (by omega)).mono ?_; rintro e w2 ⟨⟨x, x0, x1, rfl⟩, s2, g2⟩; obtain ⟨n, rfl⟩ : ∃ n : Nat, x = (n : Int) := ⟨x.toNat, by omega⟩))
  go_loopw [4, 6] (fun t i w' => ∃ (k : Nat) (s : ByteArray), k ≤ n ∧ s.size ≤ 8 * k ∧ i = .int .i64 k ∧ t = .string s ∧ St w w' c a len cap) (fun _ i _ => n - (intOf i).toNat)
  case atStart => exact ⟨0, _, Nat.zero_le _, Nat.le_refl _, rfl, rfl, s2⟩
  case round =>
    obtain ⟨k, s, hk, hs, rfl, rfl, s3⟩ := hrel
    have hc3 := s3.cur.lt
    by_cases hlt : k < n
    · have hlt' : (k : Int) < (n : Int) := by omega
      go_wp2_with (go_at_call 43; refine (pick_any hcode (s3.below ((Below.refl _ _).alloc (Nat.le_refl _) _)) hlen (Of.new wr _ 9 IsStr (of_all wstrs)) (by omega) (by decide) (by decide)).mono ?_; rintro e w4 ⟨⟨t, ht, rfl⟩, s4, g4⟩; have hsz : s.size + t.size ≤ 9223372036854775807 := (by omega))
      go_roundw
      case rel => exact ⟨k + 1, s ++ t, by omega, by rw [ByteArray.size_append]; omega, by go_num, rfl, s4⟩
      case measure => simp [intOf]; omega
    · go_wp2
      go_ret
      exact ⟨s, by omega, rfl, s3.bel⟩
end Go.Proofs.YtemjjfjnhblceaaDoor.C1
