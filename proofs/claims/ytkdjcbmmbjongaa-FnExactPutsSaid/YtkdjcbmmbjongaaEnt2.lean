/- Contracts of spec.PutEntry and impl.PutEntry, as the given laws call them. -/
import Derived.Test.YtkdjcbmmbjongaaEnt1
import Derived.Test.YtkdjcbmmbjongaaPair1
import Derived.Deep.RegionWith
namespace Go.Proofs.Ytkdjcbmmbjongaa.E2
open Go.ChangeShapes Go.WideShapes Go.ChangeAt Go.RowKit
set_option linter.unusedVariables false
set_option linter.unusedSimpArgs false

theorem ret_str {a b : ByteArray} (h : a = b) : Ending.returned (.string a) = .returned (.string b) := by rw [h]

/-- An entry in a block. -/
structure Bx (B : Nat) (w : World) (i : Int) (s : ByteArray) (W : World) : Prop where
  c0 : W.cell? ⟨B, 0, none⟩ = some (.int .i64 i)
  c1 : W.cell? ⟨B, 1, none⟩ = some (.string s)
  lt : B < W.heap.size
  bel : Below B w W

variable {B : Nat} {w W W' : World} {i : Int} {s : ByteArray}

theorem Bx.below (h : Bx B w i s W) (hb : Below W.heap.size W W') : Bx B w i s W' :=
  ⟨(hb.cell (p := ⟨B, 0, none⟩) h.lt).trans h.c0, (hb.cell (p := ⟨B, 1, none⟩) h.lt).trans h.c1, Nat.lt_of_lt_of_le h.lt hb.size, h.bel.trans (hb.mono (Nat.le_of_lt h.lt))⟩

theorem Bx.alloc (h : Bx B w i s W) (o : Obj) : Bx B w i s (W.alloc o) := h.below ((Below.refl _ _).alloc (Nat.le_refl _) o)
theorem Bx.drew (h : Bx B w i s W) : Bx B w i s W.drew := ⟨h.c0, h.c1, h.lt, h.bel.drew⟩

theorem bx_new (i : Int) (s : ByteArray) (w : World) (T : TypeId) : Bx w.heap.size w i s (w.alloc (.cells #[.int .i64 i, .string s] T)) := by
  refine ⟨?_, ?_, ?_, ?_⟩
  all_goals first | exact (Below.refl _ _).alloc (Nat.le_refl _) _ | (simp [go_sem]; done) | (simp; done)

theorem spec_EntryOk_bx (hs : s.size ≤ 281474976710656) (h : Bx B w i s W) :
    Calls Try.prog 96 #[.agg #[.int .i64 i, .string s]] W fun e w' => e = .returned (.bool (E0.entryOk i s)) ∧ Bx B w i s w' :=
  (E1.spec_EntryOk i s W hs).mono fun _ _ ⟨he, hb⟩ => ⟨he, hb ▸ h.alloc _⟩

theorem impl_EntryOk_bx (hs : s.size ≤ 281474976710656) (h : Bx B w i s W) :
    Calls Try.prog 100 #[.agg #[.int .i64 i, .string s]] W fun e w' => e = .returned (.bool (E0.entryOk i s)) ∧ Bx B w i s w' :=
  (E1.impl_EntryOk i s W hs).mono fun _ _ ⟨he, hb⟩ => ⟨he, h.below hb⟩

theorem zeros_bx (n : Int) (h : Bx B w i s W) :
    Calls Try.prog 69 #[.int .i64 n] W fun e w' => e = .returned (.string (B4.zeros n)) ∧ Bx B w i s w' :=
  (B4.impl_Zeros n W).mono fun _ _ ⟨he, hb⟩ => ⟨he, h.below hb⟩

theorem with_bx (a : ByteArray) (k : Int) (t : ByteArray) (hs : a.size ≤ 281474976710656) (ht : t.size ≤ 281474976710656) (h : Bx B w i s W) :
    Calls Try.prog 22 #[.string a, .int .i64 k, .string t] W fun e w' => e = .returned (.string (B5.laid a k t)) ∧ Bx B w i s w' :=
  (B5.impl_With a k t W hs ht).mono fun _ _ ⟨he, hb⟩ => ⟨he, h.below hb⟩

theorem head_eq (hi : 1 ≤ i ∧ i ≤ 7) (hs : s.size ≤ 14) : (⟨#[UInt8.ofNat i.toNat, UInt8.ofNat ((s.size : Int)).toNat]⟩ : ByteArray) ++ s = E0.headOf i s := by
  rw [E0.headOf, Int.toNat_natCast]

set_option maxHeartbeats 1000000 in
set_option maxRecDepth 4000 in
theorem spec_PutEntry (i : Int) (s : ByteArray) (w : World) (hs : s.size ≤ 281474976710656) :
    Calls Try.prog 85 #[.agg #[.int .i64 i, .string s]] w fun e w' => e = .returned (.string (E0.putE i s)) ∧ Below w.heap.size w w' := by
  have h0 := bx_new i s w 98
  by_cases hok : E0.entryOk i s = true
  · obtain ⟨hn, hi⟩ := E0.entryOk_true hok
    have hz := E0.nameOk_size hn
    have hc := B3.conv2 i (s.size : Int) (by omega) (by omega)
    obtain ⟨X, hX⟩ : ∃ X : ByteArray, X = ⟨#[UInt8.ofNat i.toNat, UInt8.ofNat ((s.size : Int)).toNat]⟩ := ⟨_, rfl⟩
    have hXs : X.size = 2 := by rw [hX]; rfl
    have HP : Hid (E0.putE i s = (X ++ s) ++ B4.zeros (16 - ((X.size : Int) + (s.size : Int)))) := by
      rw [E0.putE, if_pos hok, hXs, hX, head_eq hi hz.2, B4.zeros, if_pos (by omega), show (16 - (((2 : Nat) : Int) + (s.size : Int))).toNat = 14 - s.size by omega]
      rfl
    have z1 : X.size + s.size ≤ 9223372036854775807 := by omega
    have z2 : (X.size : Int) + (s.size : Int) ≤ 16 := by omega
    have z3 : X.size + s.size + (B4.zeros (16 - ((X.size : Int) + (s.size : Int)))).size ≤ 9223372036854775807 := by
      rw [B4.zeros, if_pos (by omega), B4.nulls_size]
      omega
    rw [← hX] at hc
    clear hX hXs
    go_enter Try.func85, Try.ntmps85
    go_wp2_with (first
      | (go_at_call 96; refine (spec_EntryOk_bx hs h0).mono ?_; rintro e w1 ⟨rfl, h1⟩; have c0 := h1.c0; have c1 := h1.c1; have h1a := h1.alloc (.cells #[.int .u8 i, .int .u8 (s.size : Int)] 5); have d0 := h1a.c0; have d1 := h1a.c1)
      | (go_at_call 42; refine (B4.spec_Zeros _ _).mono ?_; rintro e w2 ⟨rfl, rfl⟩))
    go_ret
    exact ⟨ret_str HP.out.symm, h1a.bel⟩
  · have hok' : E0.entryOk i s = false := by simpa using hok
    have HP : Hid (E0.putE i s = ⟨#[]⟩) := by rw [E0.putE, if_neg hok]; rfl
    go_enter Try.func85, Try.ntmps85
    go_wp2_with (go_at_call 96; refine (spec_EntryOk_bx hs h0).mono ?_; rintro e w1 ⟨rfl, h1⟩)
    go_ret
    exact ⟨ret_str HP.out.symm, h1.bel⟩

set_option maxHeartbeats 1000000 in
set_option maxRecDepth 4000 in
theorem impl_PutEntry (i : Int) (s : ByteArray) (w : World) (hs : s.size ≤ 281474976710656) :
    Calls Try.prog 99 #[.agg #[.int .i64 i, .string s]] w fun e w' => e = .returned (.string (E0.putE i s)) ∧ Below w.heap.size w w' := by
  have h0 := bx_new i s w 98
  by_cases hok : E0.entryOk i s = true
  · obtain ⟨hn, hi⟩ := E0.entryOk_true hok
    have hz := E0.nameOk_size hn
    have hc := B3.conv2 i (s.size : Int) (by omega) (by omega)
    obtain ⟨X, hX⟩ : ∃ X : ByteArray, X = ⟨#[UInt8.ofNat i.toNat, UInt8.ofNat ((s.size : Int)).toNat]⟩ := ⟨_, rfl⟩
    have hXs : X.size = 2 := by rw [hX]; rfl
    have z2 : (X ++ s).size = 2 + s.size := by rw [ByteArray.size_append, hXs]
    have HP : Hid (E0.putE i s = B5.laid (B4.zeros 16) 0 (X ++ s)) := by
      rw [E0.putE, if_pos hok, B4.zeros, if_pos (by decide), show ((16 : Int)).toNat = 16 from rfl, E0.laid_front _ 16 (by omega), z2, hX, head_eq hi hz.2, show 16 - (2 + s.size) = 14 - s.size by omega]
      rfl
    have z1 : X.size + s.size ≤ 9223372036854775807 := by omega
    have z4 : (X ++ s).size ≤ 281474976710656 := by omega
    have z5 : (B4.zeros 16).size ≤ 281474976710656 := by decide
    rw [← hX] at hc
    clear hX hXs z2
    go_enter Try.func99, Try.ntmps99
    go_wp2_with (go_at_call 100; refine (impl_EntryOk_bx hs h0).mono ?_; rintro e w1 ⟨rfl, h1⟩; have c0 := h1.c0; have c1 := h1.c1; have h1a := h1.alloc (.cells #[.int .u8 i, .int .u8 (s.size : Int)] 5); have d0 := h1a.c0; have d1 := h1a.c1; have h1d := h1a.drew)
    go_region_with (first
      | (go_at_call 69; refine (zeros_bx _ (by assumption)).mono ?_; rintro e w4 ⟨rfl, h4⟩; have x0 := h4.c0; have x1 := h4.c1)
      | (go_at_call 22; refine (with_bx _ _ _ z5 z4 (by assumption)).mono ?_; rintro e w5 ⟨rfl, h5⟩))
    all_goals
      go_wp2
      go_ret
      exact ⟨ret_str HP.out.symm, h5.bel⟩
  · have hok' : E0.entryOk i s = false := by simpa using hok
    have HP : Hid (E0.putE i s = ⟨#[]⟩) := by rw [E0.putE, if_neg hok]; rfl
    go_enter Try.func99, Try.ntmps99
    go_wp2_with (go_at_call 100; refine (impl_EntryOk_bx hs h0).mono ?_; rintro e w1 ⟨rfl, h1⟩)
    go_ret
    exact ⟨ret_str HP.out.symm, h1.bel⟩
end Go.Proofs.Ytkdjcbmmbjongaa.E2
