/- Contracts as the exact laws of chapter 2 use them: the law's own device, boxed, is kept. -/
import Derived.Test.YtkpcpffpiilcpaaDev3
import Derived.Test.YtkpcpffpiilcpaaDev4
namespace Go.Proofs.Ytkpcpffpiilcpaa.D5
open Go.ChangeShapes Go.WideShapes Go.ChangeAt Go.RowKit
set_option linter.unusedVariables false

/-- A device in a block, nothing below it turned. -/
structure Bx (B : Nat) (w : World) (a b : ByteArray) (W : World) : Prop where
  c0 : W.cell? ⟨B, 0, none⟩ = some (.string a)
  c1 : W.cell? ⟨B, 1, none⟩ = some (.string b)
  lt : B < W.heap.size
  bel : Below B w W

variable {B : Nat} {w W W' : World} {a b : ByteArray}

theorem Bx.below (h : Bx B w a b W) (hb : Below W.heap.size W W') : Bx B w a b W' :=
  ⟨(hb.cell (p := ⟨B, 0, none⟩) h.lt).trans h.c0, (hb.cell (p := ⟨B, 1, none⟩) h.lt).trans h.c1, Nat.lt_of_lt_of_le h.lt hb.size, h.bel.trans (hb.mono (Nat.le_of_lt h.lt))⟩

theorem bx_new (a b : ByteArray) (w : World) : Bx w.heap.size w a b (w.alloc (.cells #[.string a, .string b] 44)) := by
  refine ⟨?_, ?_, ?_, ?_⟩
  all_goals first | exact (Below.refl _ _).alloc (Nat.le_refl _) _ | (simp [go_sem]; done) | (simp; done)

theorem szFit (hz : (a.size : Int) + b.size ≤ 1048576) (h : Bx B w a b W) :
    Calls Try.prog 27 #[.agg #[.string a, .string b], .int .i64 1048576] W fun e w' => e = .returned (.int .i64 (1048576 - a.size - b.size)) ∧ Bx B w a b w' :=
  (D1.szDev a b W (by unfold maxLen; omega) (by unfold maxLen; omega)).mono fun _ _ ⟨he, hb⟩ => ⟨by rw [he]; simp [D1.sz, hz], h.below hb⟩

theorem szBig (ha : a.size ≤ maxLen) (hb : b.size ≤ maxLen) (hz : ¬ (a.size : Int) + b.size ≤ 1048576) (h : Bx B w a b W) :
    Calls Try.prog 27 #[.agg #[.string a, .string b], .int .i64 1048576] W fun e w' => e = .returned (.int .i64 (-1)) ∧ Bx B w a b w' :=
  (D1.szDev a b W ha hb).mono fun _ _ ⟨he, hb⟩ => ⟨by rw [he]; simp [D1.sz, hz], h.below hb⟩

theorem toDev (h : Bx B w a b W) :
    Calls Try.prog 28 #[.agg #[.string a, .string b]] W fun e w' => e = .returned (.agg #[.string a, .string b]) ∧ Bx B w a b w' :=
  (D1.toDev a b W).mono fun _ _ ⟨he, hb⟩ => ⟨he, h.below hb⟩

theorem spec_DevOk (ha : a.size ≤ maxLen) (hb : b.size ≤ maxLen) (h : Bx B w a b W) :
    Calls Try.prog 21 #[.agg #[.string a, .string b]] W fun e w' => e = .returned (.bool (D1.ok a b)) ∧ Bx B w a b w' :=
  (D1.spec_DevOk a b W ha hb).mono fun _ _ ⟨he, hw⟩ => ⟨he, hw ▸ h.below ((Below.refl _ _).alloc (Nat.le_refl _) _)⟩

theorem impl_DevOk (ha : a.size ≤ maxLen) (hb : b.size ≤ maxLen) (h : Bx B w a b W) :
    Calls Try.prog 20 #[.agg #[.string a, .string b]] W fun e w' => e = .returned (.bool (D1.ok a b)) ∧ Bx B w a b w' :=
  (D1.impl_DevOk a b W ha hb).mono fun _ _ ⟨he, hw⟩ => ⟨he, hw ▸ h.below ((Below.refl _ _).alloc (Nat.le_refl _) _)⟩

/-- A device in a new block. -/
theorem dev_new (a b : ByteArray) (w : World) : Bx w.heap.size w a b (w.alloc (.cells #[.string a, .string b] 25)) := by
  refine ⟨?_, ?_, ?_, ?_⟩
  all_goals first | exact (Below.refl _ _).alloc (Nat.le_refl _) _ | (simp [go_sem]; done) | (simp; done)

theorem Bx.alloc (h : Bx B w a b W) (o : Obj) : Bx B w a b (W.alloc o) := h.below ((Below.refl _ _).alloc (Nat.le_refl _) o)
theorem below_new (h : Below B w W) (hB : B ≤ W.heap.size) (o : Obj) : Below B w (W.alloc o) := h.alloc hB o
end Go.Proofs.Ytkpcpffpiilcpaa.D5
