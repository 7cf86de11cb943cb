/- The contract of spec.DrawFlush. -/
import Derived.Test.YtkpcpffpiilcpaaDw2
namespace Go.Proofs.Ytkpcpffpiilcpaa.C1
open Go.ChangeShapes Go.WideShapes Go.ChangeAt Go.RowKit C0
set_option linter.unusedVariables false
set_option linter.unusedSimpArgs false
set_option maxRecDepth 10000
variable {w : World} {a : Option Addr} {len cap : Nat}

abbrev O1 (p : Int) : Obj := .cells #[.int .i64 0, .int .i64 7, .int .i64 8, .int .i64 760, .int .i64 767, .int .i64 768, .int .i64 (-1), .int .i64 p] 3
abbrev O2 : Obj := .cells #[.int .i64 1, .int .i64 2, .int .i64 8, .int .i64 9, .int .i64 60, .int .i64 0, .int .i64 (-1), .int .i64 9223372036854775807] 3

theorem De.two {w0 w W : World} {c : Nat} {a : Option Addr} {len cap R B : Nat} {x y : ByteArray} (h : De w0 w c a len cap R B x y W) : W.cell? ⟨B, 0, none⟩ = some (.string x) ∧ W.cell? ⟨B, 1, none⟩ = some (.string y) := ⟨h.dev.c0, h.dev.c1⟩

theorem De.end2 {w0 w W : World} {c : Nat} {a : Option Addr} {len cap R B : Nat} {x y : ByteArray} (h : De w0 w c a len cap R B x y W) (u v : Value) : ((W.setCell ⟨R, 0, none⟩ u).setCell ⟨R, 1, none⟩ v).cell? ⟨B, 0, none⟩ = some (.string x) ∧ ((W.setCell ⟨R, 0, none⟩ u).setCell ⟨R, 1, none⟩ v).cell? ⟨B, 1, none⟩ = some (.string y) :=
  ⟨((h.dev.setOther h.ne.2.2 _ _).setOther h.ne.2.2 _ _).c0, ((h.dev.setOther h.ne.2.2 _ _).setOther h.ne.2.2 _ _).c1⟩

theorem Of.below {w W : World} {l n : Nat} {Q : Value → Prop} (h : Of w l n Q) (hb : Below w.heap.size w W) : Of W l n Q :=
  ⟨Nat.lt_of_lt_of_le h.lt hb.size, fun j hj => by
    obtain ⟨v, hv, hc⟩ := h.cell j hj
    exact ⟨v, hv, (hb.cell (p := ⟨l, j, none⟩) h.lt).trans hc⟩⟩
theorem Of.alloc {w : World} {l n : Nat} {Q : Value → Prop} (h : Of w l n Q) (o : Obj) : Of (w.alloc o) l n Q := h.below (K0.below_new _ _)

theorem of_1 (p : Int) (p0 : 0 ≤ p) (p1 : p < 768) (W : World) : Of (W.alloc (O1 p)) W.heap.size 8 IsInt := Of.new W _ 3 IsInt (of_all (sints p p0 p1))
theorem of_2 (W : World) : Of (W.alloc O2) W.heap.size 8 IsInt := Of.new W _ 3 IsInt (of_all nints)

theorem of_3 {W V : World} {c : Nat} {o : Obj} (g : ((W.alloc o).alloc O2).grownBy V (some c)) (hc : c < W.heap.size) : Of V (W.heap.size + 1) 8 IsInt := by
  have h := of_2 (W.alloc o)
  rw [World.size_alloc] at h
  exact h.grown g (by omega)

theorem of_4 {W V : World} {c : Nat} {o : Obj} (g : ((W.alloc O2).alloc o).grownBy V (some c)) (hc : c < W.heap.size) : Of V W.heap.size 8 IsInt := ((of_2 W).alloc o).grown g (by omega)

set_option maxHeartbeats 4000000 in
theorem draw_Flush (hcode : Given w a len) (hlen : len ≤ 1048576) :
    Calls Try.prog 10 #[.slice a len cap] w fun e w' => ∃ (x y : ByteArray) (i n : Int), x.size ≤ 1000 ∧ y.size ≤ 1000 ∧ (Lit.int .i64 i).wf = true ∧ (Lit.int .i64 n).wf = true ∧ e = .returned (.tuple #[.agg #[.string x, .string y], .int .i64 i, .int .i64 n]) ∧ Below w.heap.size w w' := by
  have hc0 := hcode.below (K0.below_new w (.cells #[.string ⟨#[]⟩, .string ⟨#[]⟩] 25))
  go_enter Try.func10, Try.ntmps10
  go_wp2_with (first
    | (go_at_call 34; refine (new_any hc0 hlen).mono ?_; rintro e w1 ⟨c, rfl, s1⟩)
    | (go_at_call 35; refine (l02Dev hc0 s1 hlen).mono ?_; rintro e w2 ⟨⟨x, y, hx, hy, rfl⟩, s2, g2⟩; have d2 := de_new (x := x) (y := y) s1 s2))
  obtain ⟨B, hB⟩ : ∃ B, w2.heap.size = B := ⟨_, rfl⟩
  rw [hB] at d2
  simp only [hB]
  obtain ⟨W3, hW3⟩ : ∃ W3, w2.alloc (.cells #[.string x, .string y] 25) = W3 := ⟨_, rfl⟩
  rw [hW3] at d2 ⊢
  clear hW3 hB s1 s2 g2
  obtain ⟨w0, hw0⟩ : ∃ w0, w.alloc (.cells #[.string ⟨#[]⟩, .string ⟨#[]⟩] 25) = w0 := ⟨_, rfl⟩
  rw [hw0] at d2 hc0
  clear hw0
  have qd := d2.drew
  have ta := qd.two
  have qb := qd.alloc O2
  have tb := qb.two
  have sta := qd.st
  have stb := qb.st
  have ob : Of (W3.drew.alloc O2) W3.heap.size 8 IsInt := of_2 W3.drew
  have lc : c < W3.heap.size := qd.st.cur.lt
  have lc2 : c < W3.drew.heap.size := qd.st.cur.lt
  go_region_held3 (fun W => W.cell? ⟨B, 0, none⟩ = some (.string x) ∧ W.cell? ⟨B, 1, none⟩ = some (.string y)) (assumption) ((first
    | (go_at_call 36; have q5' := q5; refine (pickInt_any hc0 (by assumption) hlen (by assumption) (by omega) (by decide) (by decide)).mono ?_; rintro e w6 ⟨⟨n, wn, rfl⟩, s6, g6⟩; have q6 : De w0 w c a len cap w.heap.size B x y w6 := (by first | exact q5.grown s6 g6 | exact (q5.alloc O2).grown s6 g6); have t6 := q6.two; have y0 := q6.res.c0; have y1 := q6.res.c1; have y2 := q6.res.f0; have y3 := q6.res.f1; have tf := q6.end2 (.string x) (.string y))
    | (go_at_call 36; refine (pickInt_any hc0 (by assumption) hlen (by assumption) (by omega) (by decide) (by decide)).mono ?_; rintro e w5 ⟨⟨i, wi, rfl⟩, s5, g5⟩; have q5 : De w0 w c a len cap w.heap.size B x y w5 := (by first | exact (q4.alloc (O1 p)).grown s5 g5 | exact ((q4.alloc O2).alloc (O1 p)).grown s5 g5 | exact ((q4.alloc (O1 p)).alloc O2).grown s5 g5); have t5 := q5.two; have u5 := (q5.alloc O2).two; have st5 := q5.st; have st6 := (q5.alloc O2).st; have l5 := s5.cur.lt; have of5 := of_2 w5; first | (have of8 := of_3 g5 l4) | (have of7 := of_4 g5 l4) | (have of6 := ob4.grown g5 (by omega)) | skip)
    | (go_at_call 37; refine (below_any hc0 (by assumption) hlen 60 (by omega) (by omega)).mono ?_; rintro e w4 ⟨⟨p, p0, p1, rfl⟩, s4, g4⟩; have q4 : De w0 w c a len cap w.heap.size B x y w4 := (by first | exact qd.grown s4 g4 | exact qb.grown s4 g4); have t4 := q4.two; have t41 := (q4.alloc (O1 p)).two; have t42 := (q4.alloc O2).two; have t43 := ((q4.alloc (O1 p)).alloc O2).two; have t44 := ((q4.alloc O2).alloc (O1 p)).two; have st41 := (q4.alloc (O1 p)).st; have st43 := ((q4.alloc (O1 p)).alloc O2).st; have st44 := ((q4.alloc O2).alloc (O1 p)).st; have l4 := s4.cur.lt; have o41 := of_1 p p0 (by omega) w4; have o43 := (of_1 p p0 (by omega) w4).alloc O2; have o44 : Of ((w4.alloc O2).alloc (O1 p)) (w4.heap.size + 1) 8 IsInt := (by have := of_1 p p0 (by omega) (w4.alloc O2); simpa using this); first | (have ob4 := (ob.grown g4 (by omega)).alloc (O1 p)) | skip)))
  all_goals
    go_wp2
    have q := D2.ret2 (a := x) (b := y) y0 y1
    exact bodyPost_ret (v := .tuple #[.agg #[.string x, .string y], .int .i64 i, .int .i64 n]) (by simp [results, Try.results10, go_sem, q.1, q.2]) rfl ⟨x, y, i, n, hx, hy, wi, wn, rfl, q6.fin _ _⟩
end Go.Proofs.Ytkpcpffpiilcpaa.C1
