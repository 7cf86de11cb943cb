/- Contracts of chapter 2's DevOf and Store, and of the program's copy of a device. -/
import Derived.Test.YtkpcpffpiilcpaaDev1
import Derived.Test.YtkpcpffpiilcpaaImplPart1
import Derived.Test.YtkpcpffpiilcpaaWith1
import Derived.Deep.RegionWith
namespace Go.Proofs.Ytkpcpffpiilcpaa.D2
open Go.ChangeShapes Go.WideShapes Go.ChangeAt Go.RowKit
set_option linter.unusedVariables false

/-- A device in a block, a place for the answer in the next. -/
structure Fr (B : Nat) (w : World) (a b : ByteArray) (W : World) : Prop where
  c0 : W.cell? ⟨B, 0, none⟩ = some (.string a)
  c1 : W.cell? ⟨B, 1, none⟩ = some (.string b)
  r0 : W.cell? ⟨B + 1, 0, none⟩ = some (.string ⟨#[]⟩)
  r1 : W.cell? ⟨B + 1, 1, none⟩ = some (.string ⟨#[]⟩)
  f0 : W.frozen? ⟨B + 1, 0, none⟩ = false
  f1 : W.frozen? ⟨B + 1, 1, none⟩ = false
  g0 : W.frozen? ⟨B, 0, none⟩ = false
  g1 : W.frozen? ⟨B, 1, none⟩ = false
  lt : B + 1 < W.heap.size
  bel : Below B w W

theorem Fr.below {B : Nat} {w W W' : World} {a b : ByteArray} (h : Fr B w a b W) (hb : Below W.heap.size W W') : Fr B w a b W' :=
  ⟨(hb.cell (p := ⟨B, 0, none⟩) (by have := h.lt; show B < _; omega)).trans h.c0, (hb.cell (p := ⟨B, 1, none⟩) (by have := h.lt; show B < _; omega)).trans h.c1,
   (hb.cell (p := ⟨B + 1, 0, none⟩) h.lt).trans h.r0, (hb.cell (p := ⟨B + 1, 1, none⟩) h.lt).trans h.r1,
   (hb.frozen (p := ⟨B + 1, 0, none⟩) h.lt).trans h.f0, (hb.frozen (p := ⟨B + 1, 1, none⟩) h.lt).trans h.f1,
   (hb.frozen (p := ⟨B, 0, none⟩) (by have := h.lt; show B < _; omega)).trans h.g0, (hb.frozen (p := ⟨B, 1, none⟩) (by have := h.lt; show B < _; omega)).trans h.g1,
   Nat.lt_of_lt_of_le h.lt hb.size, h.bel.trans (hb.mono (by have := h.lt; omega))⟩

theorem Fr.drew {B : Nat} {w W : World} {a b : ByteArray} (h : Fr B w a b W) : Fr B w a b W.drew := ⟨h.c0, h.c1, h.r0, h.r1, h.f0, h.f1, h.g0, h.g1, h.lt, h.bel.drew⟩

theorem fr_new (a b : ByteArray) (w : World) : Fr w.heap.size w a b ((w.alloc (.cells #[.string a, .string b] 25)).alloc (.cells #[.string ⟨#[]⟩, .string ⟨#[]⟩] 25)) := by
  refine ⟨?_, ?_, ?_, ?_, ?_, ?_, ?_, ?_, ?_, ?_⟩
  all_goals first | exact ((Below.refl _ _).alloc (Nat.le_refl _) _).alloc (by simp) _ | (simp [go_sem]; done) | (simp; done) | (simp [go_sem]; omega)

theorem ret2 {W : World} {B : Nat} {a b : ByteArray} {c d : Value} (h0 : W.cell? ⟨B, 0, none⟩ = some c) (h1 : W.cell? ⟨B, 1, none⟩ = some d) :
    ((W.setCell ⟨B, 0, none⟩ (.string a)).setCell ⟨B, 1, none⟩ (.string b)).cell? ⟨B, 0, none⟩ = some (.string a) ∧ ((W.setCell ⟨B, 0, none⟩ (.string a)).setCell ⟨B, 1, none⟩ (.string b)).cell? ⟨B, 1, none⟩ = some (.string b) := by
  have e : (⟨B, 1, none⟩ : Addr) ≠ ⟨B, 0, none⟩ := by simp
  refine ⟨?_, ?_⟩
  · rw [World.cell?_setCell_other _ _ _ _ e, World.cell?_setCell_same _ _ _ h0]
  · rw [World.cell?_setCell_same _ _ _ ((World.cell?_setCell_other _ _ _ _ e.symm).trans h1)]

theorem clone_fr {B : Nat} {w W : World} {a b : ByteArray} (s : ByteArray) (hs : s.size ≤ 281474976710656) (h : Fr B w a b W) :
    Calls Try.prog 41 #[.string s] W fun e w' => e = .returned (.string s) ∧ Fr B w a b w' :=
  (B2.clone_any s W hs).mono fun _ _ ⟨he, hb⟩ => ⟨he, h.below hb⟩

set_option maxHeartbeats 4000000 in
theorem devCopy (a b : ByteArray) (w : World) (ha : a.size ≤ 281474976710656) (hb : b.size ≤ 281474976710656) :
    Calls Try.prog 39 #[.agg #[.string a, .string b]] w fun e w' => e = .returned (.agg #[.string a, .string b]) ∧ Below w.heap.size w w' := by
  have hF := fr_new a b w
  go_enter Try.func39, Try.ntmps39
  go_wp2
  obtain ⟨W, hW⟩ : ∃ W, (w.alloc (.cells #[.string a, .string b] 25)).alloc (.cells #[.string ⟨#[]⟩, .string ⟨#[]⟩] 25) = W := ⟨_, rfl⟩
  rw [hW] at hF ⊢
  have c0 := hF.c0
  have c1 := hF.c1
  have hFd := hF.drew
  go_region_with (go_at_call 41; refine (clone_fr (B := w.heap.size) (w := w) (a := a) (b := b) _ (by omega) (by assumption)).mono ?_; rintro e w4 ⟨rfl, h4⟩; have d0 := h4.c0; have d1 := h4.c1; have d2 := h4.r0; have d3 := h4.r1; have d4 := h4.f0; have d5 := h4.f1)
  all_goals
    go_wp2
    have q := ret2 (a := a) (b := b) d2 d3
    exact bodyPost_ret (v := .agg #[.string a, .string b]) (by simp [results, Try.results39, go_sem, q.1, q.2]) rfl
      ⟨rfl, (h4.bel.setCell (p := ⟨w.heap.size + 1, 0, none⟩) (Nat.le_succ _) _).setCell (p := ⟨w.heap.size + 1, 1, none⟩) (Nat.le_succ _) _⟩

/-- What DevOf answers. -/
def devOf (s : ByteArray) : Value := if s.size = 768 then .tuple #[.agg #[.string s, .string s], .bool true] else .tuple #[.agg #[.string ⟨#[]⟩, .string ⟨#[]⟩], .bool false]

theorem spec_DevOf (s : ByteArray) (w : World) (hs : s.size ≤ 281474976710656) :
    Calls Try.prog 15 #[.string s] w fun e w' => e = .returned (devOf s) ∧ Below w.heap.size w w' := by
  by_cases h : s.size = 768
  · have e : devOf s = .tuple #[.agg #[.string s, .string s], .bool true] := if_pos h
    have h' : (s.size : Int) = 768 := by omega
    rw [e]
    go_enter Try.func15, Try.ntmps15
    go_wp2
    exact bodyPost_ret (v := .tuple #[.agg #[.string s, .string s], .bool true]) (by simp [results, Try.results15, go_sem]) rfl ⟨rfl, (Below.refl _ _).alloc (Nat.le_refl _) _⟩
  · have e : devOf s = .tuple #[.agg #[.string ⟨#[]⟩, .string ⟨#[]⟩], .bool false] := if_neg h
    have h' : ((s.size : Int) != 768) = true := by simp; omega
    rw [e]
    go_enter Try.func15, Try.ntmps15
    go_wp2
    exact bodyPost_ret (v := .tuple #[.agg #[.string ⟨#[]⟩, .string ⟨#[]⟩], .bool false]) (by simp [results, Try.results15, go_sem]) rfl ⟨rfl, (Below.refl _ _).alloc (Nat.le_refl _) _⟩

theorem impl_DevOk_fr {B : Nat} {w W : World} {a b : ByteArray} (s t : ByteArray) (hs : s.size ≤ 281474976710656) (ht : t.size ≤ 281474976710656) (h : Fr B w a b W) :
    Calls Try.prog 20 #[.agg #[.string s, .string t]] W fun e w' => e = .returned (.bool (D1.ok s t)) ∧ Fr B w a b w' :=
  (D1.impl_DevOk s t W (by unfold maxLen; omega) (by unfold maxLen; omega)).mono fun _ _ ⟨he, hb⟩ => ⟨he, hb ▸ h.below ((Below.refl _ _).alloc (Nat.le_refl _) _)⟩

theorem spec_DevOk_fr {B : Nat} {w W : World} {a b : ByteArray} (s t : ByteArray) (hs : s.size ≤ 281474976710656) (ht : t.size ≤ 281474976710656) (h : Fr B w a b W) :
    Calls Try.prog 21 #[.agg #[.string s, .string t]] W fun e w' => e = .returned (.bool (D1.ok s t)) ∧ Fr B w a b w' :=
  (D1.spec_DevOk s t W (by unfold maxLen; omega) (by unfold maxLen; omega)).mono fun _ _ ⟨he, hb⟩ => ⟨he, hb ▸ h.below ((Below.refl _ _).alloc (Nat.le_refl _) _)⟩

theorem devCopy_fr {B : Nat} {w W : World} {a b : ByteArray} (s t : ByteArray) (hs : s.size ≤ 281474976710656) (ht : t.size ≤ 281474976710656) (h : Fr B w a b W) :
    Calls Try.prog 39 #[.agg #[.string s, .string t]] W fun e w' => e = .returned (.agg #[.string s, .string t]) ∧ Fr B w a b w' :=
  (devCopy s t W hs ht).mono fun _ _ ⟨he, hb⟩ => ⟨he, h.below hb⟩

theorem with_fr {B : Nat} {w W : World} {a b : ByteArray} (s : ByteArray) (i : Int) (t : ByteArray) (hs : s.size ≤ 281474976710656) (ht : t.size ≤ 281474976710656) (h : Fr B w a b W) :
    Calls Try.prog 40 #[.string s, .int .i64 i, .string t] W fun e w' => e = .returned (.string (B5.laid s i t)) ∧ Fr B w a b w' :=
  (B5.impl_With s i t W hs ht).mono fun _ _ ⟨he, hb⟩ => ⟨he, h.below hb⟩

theorem below_drewN {B : Nat} {a w : World} (h : Below B a w) (n : Nat) : Below B a (w.drewN n) := ⟨h.os, h.tape, h.output, h.size, h.block⟩

theorem spec_with_fr {B : Nat} {w W : World} {a b : ByteArray} (s : ByteArray) (i : Int) (t : ByteArray) (hs : s.size ≤ 281474976710656) (ht : t.size ≤ 281474976710656) (h : Fr B w a b W) :
    Calls Try.prog 47 #[.string s, .int .i64 i, .string t] W fun e w' => e = .returned (.string (B5.laid s i t)) ∧ Fr B w a b w' :=
  (B5.spec_With s i t W hs ht).mono fun _ _ ⟨he, n, hb⟩ => ⟨he, hb ▸ h.below (below_drewN (Below.refl _ _) n)⟩

theorem Fr.set0 {B : Nat} {w W : World} {a b : ByteArray} (h : Fr B w a b W) (x : ByteArray) : Fr B w x b (W.setCell ⟨B, 0, none⟩ (.string x)) :=
  ⟨World.cell?_setCell_same _ _ _ h.c0, (World.cell?_setCell_other _ _ _ _ (by simp)).trans h.c1, (World.cell?_setCell_other _ _ _ _ (by simp)).trans h.r0, (World.cell?_setCell_other _ _ _ _ (by simp)).trans h.r1,
   by rw [World.frozen?_setCell]; exact h.f0, by rw [World.frozen?_setCell]; exact h.f1, by rw [World.frozen?_setCell]; exact h.g0, by rw [World.frozen?_setCell]; exact h.g1,
   by have := h.lt; simpa [World.setCell] using this, h.bel.setCell (p := ⟨B, 0, none⟩) (Nat.le_refl _) _⟩

theorem Fr.done {B : Nat} {w W : World} {a b : ByteArray} (h : Fr B w a b W) (x y : Value) : Below B w ((W.setCell ⟨B + 1, 0, none⟩ x).setCell ⟨B + 1, 1, none⟩ y) :=
  (h.bel.setCell (p := ⟨B + 1, 0, none⟩) (Nat.le_succ _) _).setCell (p := ⟨B + 1, 1, none⟩) (Nat.le_succ _) _

/-- What Store leaves in Mem. -/
def stored (a b : ByteArray) (i : Int) (t : ByteArray) : ByteArray := if D1.ok a b then B5.laid a i t else a

set_option maxHeartbeats 4000000 in
theorem spec_Store (a b : ByteArray) (i : Int) (t : ByteArray) (w : World) (ha : a.size ≤ 281474976710656) (hb : b.size ≤ 281474976710656) (ht : t.size ≤ 281474976710656) :
    Calls Try.prog 16 #[.agg #[.string a, .string b], .int .i64 i, .string t] w fun e w' => e = .returned (.agg #[.string (stored a b i t), .string b]) ∧ Below w.heap.size w w' := by
  have hF := fr_new a b w
  by_cases h : D1.ok a b = true
  · have e : stored a b i t = B5.laid a i t := if_pos h
    rw [e]
    go_enter Try.func16, Try.ntmps16
    go_wp2_with (first
      | (go_at_call 21; refine (spec_DevOk_fr _ _ ha hb hF).mono ?_; rintro e w1 ⟨rfl, h1⟩; have c0 := h1.c0)
      | (go_at_call 47; refine (spec_with_fr _ _ _ ha ht h1).mono ?_; rintro e w2 ⟨rfl, h2⟩; have h3 := h2.set0 (B5.laid a i t); have z0 := h2.c0; have z1 := h2.g0; obtain ⟨d0, d1, d2, d3, d4, d5, d6, d7, d8, d9⟩ := id h3))
    have q := ret2 (a := B5.laid a i t) (b := b) d2 d3
    exact bodyPost_ret (v := .agg #[.string (B5.laid a i t), .string b]) (by simp [results, Try.results16, go_sem, q.1, q.2]) rfl ⟨rfl, h3.done _ _⟩
  · have h' : D1.ok a b = false := by simpa using h
    have e : stored a b i t = a := if_neg h
    rw [e]
    go_enter Try.func16, Try.ntmps16
    go_wp2_with (go_at_call 21; refine (spec_DevOk_fr _ _ ha hb hF).mono ?_; rintro e w1 ⟨rfl, h1⟩; obtain ⟨d0, d1, d2, d3, d4, d5, d6, d7, d8, d9⟩ := id h1)
    have q := ret2 (a := a) (b := b) d2 d3
    exact bodyPost_ret (v := .agg #[.string a, .string b]) (by simp [results, Try.results16, go_sem, q.1, q.2]) rfl ⟨rfl, h1.done _ _⟩

set_option maxHeartbeats 4000000 in
theorem impl_Store (a b : ByteArray) (i : Int) (t : ByteArray) (w : World) (ha : a.size ≤ 281474976710656) (hb : b.size ≤ 281474976710656) (ht : t.size ≤ 281474976710656) :
    Calls Try.prog 9 #[.agg #[.string a, .string b], .int .i64 i, .string t] w fun e w' => e = .returned (.agg #[.string (stored a b i t), .string b]) ∧ Below w.heap.size w w' := by
  have hF := fr_new a b w
  by_cases h : D1.ok a b = true
  · have e : stored a b i t = B5.laid a i t := if_pos h
    rw [e]
    go_enter Try.func9, Try.ntmps9
    go_wp2_with (go_at_call 20; refine (impl_DevOk_fr _ _ ha hb hF).mono ?_; rintro e w1 ⟨rfl, h1⟩; have c0 := h1.c0; have c1 := h1.c1)
    have h1d := h1.drew
    go_region_with (first
      | (go_at_call 41; refine (clone_fr (B := w.heap.size) (w := w) (a := a) (b := b) _ hb (by assumption)).mono ?_; rintro e w4 ⟨rfl, h4⟩; have d0 := h4.c0; have d1 := h4.c1; have d2 := h4.r0; have d3 := h4.r1; have d4 := h4.f0; have d5 := h4.f1)
      | (go_at_call 40; refine (with_fr (B := w.heap.size) (w := w) (a := a) (b := b) _ _ _ ha ht (by assumption)).mono ?_; rintro e w4 ⟨rfl, h4⟩; have d0 := h4.c0; have d1 := h4.c1; have d2 := h4.r0; have d3 := h4.r1; have d4 := h4.f0; have d5 := h4.f1))
    all_goals
      go_wp2
      have q := ret2 (a := B5.laid a i t) (b := b) d2 d3
      exact bodyPost_ret (v := .agg #[.string (B5.laid a i t), .string b]) (by simp [results, Try.results9, go_sem, q.1, q.2]) rfl ⟨rfl, h4.done _ _⟩
  · have h' : D1.ok a b = false := by simpa using h
    have e : stored a b i t = a := if_neg h
    rw [e]
    go_enter Try.func9, Try.ntmps9
    go_wp2_with (first
      | (go_at_call 20; refine (impl_DevOk_fr _ _ ha hb hF).mono ?_; rintro e w1 ⟨rfl, h1⟩; have c0 := h1.c0; have c1 := h1.c1)
      | (go_at_call 39; refine (devCopy_fr _ _ ha hb h1).mono ?_; rintro e w2 ⟨rfl, h2⟩; obtain ⟨d0, d1, d2, d3, d4, d5, d6, d7, d8, d9⟩ := id h2))
    have q := ret2 (a := a) (b := b) d2 d3
    exact bodyPost_ret (v := .agg #[.string a, .string b]) (by simp [results, Try.results9, go_sem, q.1, q.2]) rfl ⟨rfl, h2.done _ _⟩
end Go.Proofs.Ytkpcpffpiilcpaa.D2
