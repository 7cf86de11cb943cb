/- The contract of spec.DrawStore. -/
import Derived.Test.YtkpcpffpiilcpaaDw2
namespace Go.Proofs.Ytkpcpffpiilcpaa.C1
open Go.ChangeShapes Go.WideShapes Go.ChangeAt Go.RowKit C0
set_option linter.unusedVariables false
set_option linter.unusedSimpArgs false
set_option maxRecDepth 10000
variable {w : World} {a : Option Addr} {len cap : Nat}

set_option maxHeartbeats 4000000 in
theorem draw_Store (hcode : Given w a len) (hlen : len ≤ 1048576) :
    Calls Try.prog 8 #[.slice a len cap] w fun e w' => ∃ (x y : ByteArray) (i : Int) (t : ByteArray), x.size ≤ 1000 ∧ y.size ≤ 1000 ∧ (Lit.int .i64 i).wf = true ∧ t.size ≤ 1000 ∧ e = .returned (.tuple #[.agg #[.string x, .string y], .int .i64 i, .string t]) ∧ Below w.heap.size w w' := by
  have hc0 := hcode.below (K0.below_new w (.cells #[.string ⟨#[]⟩, .string ⟨#[]⟩] 25))
  go_enter Try.func8, Try.ntmps8
  go_wp2_with (first
    | (go_at_call 34; refine (new_any hc0 hlen).mono ?_; rintro e w1 ⟨c, rfl, s1⟩)
    | (go_at_call 35; refine (l02Dev hc0 s1 hlen).mono ?_; rintro e w2 ⟨⟨x, y, hx, hy, rfl⟩, s2, g2⟩; have d2 := de_new (x := x) (y := y) s1 s2))
  obtain ⟨B, hB⟩ : ∃ B, w2.heap.size = B := ⟨_, rfl⟩
  rw [hB] at d2
  simp only [hB]
  obtain ⟨W3, hW3⟩ : ∃ W3, w2.alloc (.cells #[.string x, .string y] 25) = W3 := ⟨_, rfl⟩
  rw [hW3] at d2 ⊢
  clear hW3 hB s1 s2 g2
  have qd := d2.drew
  have z0 := qd.dev.c0
  have z1 := qd.dev.c1
  go_region_with (first
    | (go_at_call 38; refine (bytes_int hc0 q6.st hlen m (by omega) (by omega)).mono ?_; rintro e w7 ⟨⟨t, ht, rfl⟩, s7, g7⟩; have q7 := q6.grown s7 g7; have z8 := q7.dev.c0; have z9 := q7.dev.c1; have y0 := q7.res.c0; have y1 := q7.res.c1; have y2 := q7.res.f0; have y3 := q7.res.f1)
    | (go_at_call 37; have q5' := q5; refine (below_any hc0 q5.st hlen 12 (by omega) (by omega)).mono ?_; rintro e w6 ⟨⟨m, m0, m1, rfl⟩, s6, g6⟩; have q6 := q5.grown s6 g6; have z6 := q6.dev.c0; have z7 := q6.dev.c1)
    | (go_at_call 36; refine (pickNew hc0 q4.st hlen (sints p p0 p1) (show 0 < 8 by decide) (show 8 ≤ 100 by decide)).mono ?_; rintro e w5 ⟨⟨i, wi, rfl⟩, s5, g5⟩; have q5 := (q4.alloc (.cells #[.int .i64 0, .int .i64 7, .int .i64 8, .int .i64 760, .int .i64 767, .int .i64 768, .int .i64 (-1), .int .i64 p] 3)).grown s5 g5; have z4 := q5.dev.c0; have z5 := q5.dev.c1)
    | (go_at_call 37; refine (below_any hc0 qd.st hlen 768 (by omega) (by omega)).mono ?_; rintro e w4 ⟨⟨p, p0, p1, rfl⟩, s4, g4⟩; have q4 := qd.grown s4 g4; have z2 := q4.dev.c0; have z3 := q4.dev.c1; have qa := q4.alloc (.cells #[.int .i64 0, .int .i64 7, .int .i64 8, .int .i64 760, .int .i64 767, .int .i64 768, .int .i64 (-1), .int .i64 p] 3); have za := qa.dev.c0; have zb := qa.dev.c1))
  all_goals
    go_wp2
    have q := D2.ret2 (a := x) (b := y) y0 y1
    exact bodyPost_ret (v := .tuple #[.agg #[.string x, .string y], .int .i64 i, .string t]) (by simp [results, Try.results8, go_sem, q.1, q.2]) rfl ⟨x, y, i, t, hx, hy, wi, by omega, rfl, q7.fin _ _⟩
end Go.Proofs.Ytkpcpffpiilcpaa.C1
