/- Two lines held against each other. -/
import Derived.Test.YtkpcpffpiilcpaaArr0
import Derived.WalkKit
import Derived.ProofKit
namespace Go.Proofs.Ytkpcpffpiilcpaa.A4
open Go.ChangeShapes Go.WideShapes Go.ChangeAt Go.RowKit
set_option linter.unusedVariables false
set_option linter.unusedSimpArgs false

theorem sz8 (w : World) : (sizeOf 5).run Try.prog w = .ok 1 w := Try.sizeOf5 w

theorem list8 {α : Type} (x : List α) (h : x.length = 8) : ∃ a b c d e f g i, x = [a, b, c, d, e, f, g, i] := by
  match x, h with
  | [a, b, c, d, e, f, g, i], _ => exact ⟨a, b, c, d, e, f, g, i, rfl⟩

theorem part8 (C : Array Value) (o : Nat) (v : Value) (w : World) (h : C[o]? = some v) : (part 5 C o).run Try.prog w = .ok v w := by
  have ha := Try.isAgg5 w
  simp [part, Sem.run_bind, ha, sz8, h]

theorem eqb (x y : UInt8) (w : World) : (Op.equalIn 9999 5 (.int .u8 (x.toNat : Int)) (.int .u8 (y.toNat : Int))).run Try.prog w = .ok (decide (x = y)) w := by
  rw [show (9999 : Nat) = 9998 + 1 from rfl, run_equalIn_int w 9998 5 .u8 .u8 _ _ Try.underlying5]
  congr 1
  by_cases h : x = y
  · subst h; simp
  · have : ¬ x.toNat = y.toNat := fun e => h (UInt8.toNat_inj.1 e)
    simp [h]
    omega

set_option maxHeartbeats 2000000 in
theorem eq8 (x y : List UInt8) (hx : x.length = 8) (hy : y.length = 8) (w : World) :
    (Op.equalIn 10000 65 (.agg (Lib.byteCells x).toArray) (.agg (Lib.byteCells y).toArray)).run Try.prog w = .ok (decide (x = y)) w := by
  obtain ⟨a, b, c, d, e, f, g, i, rfl⟩ := list8 x hx
  obtain ⟨a', b', c', d', e', f', g', i', rfl⟩ := list8 y hy
  rw [show (10000 : Nat) = 9998 + 1 + 1 from rfl]
  unfold Op.equalIn
  simp [run_underlying Try.underlying65, Sem.run_bind, sz8, Lib.byteCells, Std.Legacy.Range.forIn_eq_forIn_range', List.range', part8, eqb]
  by_cases h1 : a = a' <;> by_cases h2 : b = b' <;> by_cases h3 : c = c' <;> by_cases h4 : d = d' <;> by_cases h5 : e = e' <;> by_cases h6 : f = f' <;> by_cases h7 : g = g' <;> by_cases h8 : i = i' <;> simp [h1, h2, h3, h4, h5, h6, h7, h8]
end Go.Proofs.Ytkpcpffpiilcpaa.A4
