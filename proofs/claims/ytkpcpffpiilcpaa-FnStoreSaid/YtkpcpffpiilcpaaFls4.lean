/- The contract of the program's Flush on every road, as the given laws call it. -/
import Derived.Test.YtkpcpffpiilcpaaFls1
import Derived.Test.YtkpcpffpiilcpaaFls3
namespace Go.Proofs.Ytkpcpffpiilcpaa.F4
open Go.ChangeShapes Go.WideShapes Go.ChangeAt Go.RowKit
set_option linter.unusedVariables false
set_option linter.unusedSimpArgs false
set_option maxRecDepth 10000

open F3 (goes flushed goes_true)

set_option maxHeartbeats 4000000 in
theorem impl_Flush (a b : ByteArray) (i n : Int) (w : World) (ha : a.size ≤ 281474976710656) (hb : b.size ≤ 281474976710656) :
    Calls Try.prog 11 #[.agg #[.string a, .string b], .int .i64 i, .int .i64 n] w fun e w' => e = .returned (.agg #[.string a, .string (flushed a b i n)]) ∧ Below w.heap.size w w' := by
  have hm : a.size ≤ maxLen := by unfold maxLen; omega
  by_cases hgo : goes a b i n = true
  · obtain ⟨⟨ha7, hb7⟩, hi, hn, hin⟩ := goes_true hgo
    have e : flushed a b i n = ⟨(X0.mix a.data.toList b.data.toList (F1.span (i.toNat / 8) ((i.toNat + n.toNat - 1) / 8))).toArray⟩ := if_pos hgo
    rw [e]
    exact F1.impl_Flush_main a b i n w ha7 hb7 hi hn hin
  · have e : flushed a b i n = b := if_neg hgo
    rw [e]
    have hF := D2.fr_new a b w
    by_cases hok : D1.ok a b = true
    · by_cases hlie : B2.lies a.size i n = true
      · have hn0 : n = 0 := by
          by_cases h : n = 0
          · exact h
          · exact absurd (by rw [goes, hok, hlie, decide_eq_false h]; rfl) hgo
        subst hn0
        clear hgo e
        go_enter Try.func11, Try.ntmps11
        go_wp2_with (first
          | (go_at_call 20; refine (D2.impl_DevOk_fr _ _ ha hb hF).mono ?_; rintro e w1 ⟨rfl, h1⟩; have c0 := h1.c0; have c1 := h1.c1)
          | (go_at_call 42; refine ((B2.liesIn_any _ _ _ _ hm).mono fun _ _ h => (⟨h.1, h.2.symm⟩ : _ ∧ _ = _)).mono ?_; rintro e w' ⟨rfl, rfl⟩)
          | (go_at_call 39; refine (D2.devCopy_fr _ _ ha hb h1).mono ?_; rintro e w2 ⟨rfl, h2⟩; obtain ⟨d0, d1, d2, d3, d4, d5, d6, d7, d8, d9⟩ := id h2))
        have q := D2.ret2 (a := a) (b := b) d2 d3
        exact bodyPost_ret (v := .agg #[.string a, .string b]) (by simp [results, Try.results11, go_sem, q.1, q.2]) rfl ⟨rfl, h2.done _ _⟩
      · have hlie' : B2.lies a.size i n = false := by simpa using hlie
        clear hgo e hlie
        go_enter Try.func11, Try.ntmps11
        go_wp2_with (first
          | (go_at_call 20; refine (D2.impl_DevOk_fr _ _ ha hb hF).mono ?_; rintro e w1 ⟨rfl, h1⟩; have c0 := h1.c0; have c1 := h1.c1)
          | (go_at_call 42; refine ((B2.liesIn_any _ _ _ _ hm).mono fun _ _ h => (⟨h.1, h.2.symm⟩ : _ ∧ _ = _)).mono ?_; rintro e w' ⟨rfl, rfl⟩)
          | (go_at_call 39; refine (D2.devCopy_fr _ _ ha hb h1).mono ?_; rintro e w2 ⟨rfl, h2⟩; obtain ⟨d0, d1, d2, d3, d4, d5, d6, d7, d8, d9⟩ := id h2))
        have q := D2.ret2 (a := a) (b := b) d2 d3
        exact bodyPost_ret (v := .agg #[.string a, .string b]) (by simp [results, Try.results11, go_sem, q.1, q.2]) rfl ⟨rfl, h2.done _ _⟩
    · have hok' : D1.ok a b = false := by simpa using hok
      clear hgo e hok
      go_enter Try.func11, Try.ntmps11
      go_wp2_with (first
        | (go_at_call 20; refine (D2.impl_DevOk_fr _ _ ha hb hF).mono ?_; rintro e w1 ⟨rfl, h1⟩; have c0 := h1.c0; have c1 := h1.c1)
        | (go_at_call 42; refine ((B2.liesIn_any _ _ _ _ hm).mono fun _ _ h => (⟨h.1, h.2.symm⟩ : _ ∧ _ = _)).mono ?_; rintro e w' ⟨rfl, rfl⟩)
        | (go_at_call 39; refine (D2.devCopy_fr _ _ ha hb h1).mono ?_; rintro e w2 ⟨rfl, h2⟩; obtain ⟨d0, d1, d2, d3, d4, d5, d6, d7, d8, d9⟩ := id h2))
      have q := D2.ret2 (a := a) (b := b) d2 d3
      exact bodyPost_ret (v := .agg #[.string a, .string b]) (by simp [results, Try.results11, go_sem, q.1, q.2]) rfl ⟨rfl, h2.done _ _⟩
end Go.Proofs.Ytkpcpffpiilcpaa.F4
