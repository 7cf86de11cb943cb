/- Contracts of spec.l02Kept and spec.DrawPower. -/
import Derived.Test.YtkpcpffpiilcpaaDrt1
import Derived.Test.YtkpcpffpiilcpaaDw2
namespace Go.Proofs.Ytkpcpffpiilcpaa.C1
open Go.ChangeShapes Go.WideShapes Go.ChangeAt Go.RowKit C0
set_option linter.unusedVariables false
set_option linter.unusedSimpArgs false
set_option maxRecDepth 10000
variable {w : World} {a : Option Addr} {len cap : Nat}

theorem kints (x : Int) (h0 : 0 ≤ x) (h1 : x < 96) : ∀ v ∈ (#[Value.int .i64 0, Value.int .i64 1, Value.int .i64 2, Value.int .i64 3, Value.int .i64 4, Value.int .i64 5, Value.int .i64 6, Value.int .i64 7, Value.int .i64 20, Value.int .i64 95, Value.int .i64 96, Value.int .i64 (-1), Value.int .i64 x] : Array Value).toList, IsInt v := by
  intro v hv
  simp at hv
  rcases hv with rfl | rfl | rfl | rfl | rfl | rfl | rfl | rfl | rfl | rfl | rfl | rfl | rfl <;> exact isInt (by omega) (by omega)

/-- 'list = append(list, z)', the cursor beside it. -/
theorem append_int2 {base n cp : Nat} {p : Option Addr} {W : World} {zs : List Int} {ops : Array Oper} {rest : List Oper} {o : Oper} {A : Act} {Q : Exit → Act → World → Prop} (hgd : o.guard = none) (sl x : Operand)
    (ho : o.op = .call { callee := .builtin .append, args := #[sl, x], argTypes := #[32, 32] })
    (hbuf : J0.IBuf base W p n cp zs) (z : Int) (hs : A.eval sl = .slice p n cp) (hx : A.eval x = .slice (some ⟨W.heap.size, 0, none⟩) 1 1) (hlen : n + 1 ≤ 1048576) (hb : base ≤ W.heap.size)
    (h : ∀ g' cap' w', J0.IBuf base w' (some ⟨g', 0, none⟩) (n + 1) cap' (zs ++ [z]) → (W.alloc (.cells #[.int .i64 z] 3)).grownBy w' (Value.slice p n cp).ownBlock → wpList Try.prog ops Q rest (A.put o.dst (.slice (some ⟨g', 0, none⟩) (n + 1) cap')) w') : wpList Try.prog ops Q (o :: rest) A (W.alloc (.cells #[.int .i64 z] 3)) := by
  obtain ⟨i0, hi, hz0, hz1, hz2⟩ := info_parts I2.info3
  have hb2 := hbuf.alloc (.cells #[.int .i64 z] 3)
  refine wpList_append_lies _ hgd sl x 32 ho base 3 i0 (.int .i64 0) 1 8 Try.underlying32 hi hz0 hz1 hz2 rfl (by omega) _ n _ hs hb2.2 ⟨W.heap.size, 0, none⟩ 1 1 [.int .i64 z] hx rfl (World.news_of_block (heap_alloc_new W _)) (J0.one_int z) (by omega) (by unfold maxLen; omega) (by omega) (by simp; omega) _ rfl ?_
  intro g' cap' w' ho' hg' _ _
  refine h g' cap' w' ⟨by rw [hbuf.1]; simp, ?_⟩ hg'
  rw [← J0.ints_snoc]
  exact ho'

theorem ibuf_grown {base n cp c : Nat} {p : Option Addr} {W V : World} {zs : List Int} (h : J0.IBuf base W p n cp zs) (hg : W.grownBy V (some c)) (hc : c < base) : J0.IBuf base V p n cp zs := by
  refine ⟨h.1, h.2.1, ?_⟩
  rcases h.2.2 with h0 | ⟨g, cc, cur, hv, hbase, hcur, hrest⟩
  · exact Or.inl h0
  · refine Or.inr ⟨g, cc, cur, hv, hbase, ?_, hrest⟩
    rw [hg.block g (Array.getElem?_eq_some_iff.1 hcur).1 (fun e => by have := Option.some.inj e; omega)]
    exact hcur

set_option maxHeartbeats 4000000 in
theorem l02Kept {w0 : World} {c : Nat} (hcode : Given w0 a len) (h : St w0 w c a len cap) (hlen : len ≤ 1048576) :
    Calls Try.prog 50 #[.pointer (some ⟨c, 0, none⟩)] w fun e w' => ∃ (p : Option Addr) (cp : Nat) (zs : List Int), zs.length ≤ 5 ∧ e = .returned (.slice p zs.length cp) ∧ J0.Own w.heap.size w' p zs ∧ zs.length ≤ cp ∧ St w0 w' c a len cap ∧ w.grownBy w' (some c) := by
  have hcl := h.cur.lt
  have hn0 := h.new
  have b0 := J0.ibuf_made (base := w.heap.size) w (Nat.le_refl _)
  have s0 := h.below (K0.below_new w (.cells #[] 3))
  have g0 : w.grownBy (w.alloc (.cells #[] 3)) (some c) := grown_of_below (K0.below_new w _)
  go_enter Try.func50, Try.ntmps50
  go_wp2_with (go_at_call 37; refine (below_any hcode s0 hlen 5 (by omega) (by omega)).mono ?_; rintro e w1 ⟨⟨m, m0, m1, rfl⟩, s1, g1⟩; have b1 := ibuf_grown b0 g1 hcl; have g2 := grown_trans g0 g1)
  go_loopw [3, 5] (fun v i W => ∃ (k g cp : Nat) (zs : List Int), (k : Int) ≤ m ∧ zs.length = k ∧ i = .int .i64 k ∧ v = .slice (some ⟨g, 0, none⟩) k cp ∧ J0.IBuf w.heap.size W (some ⟨g, 0, none⟩) k cp zs ∧ St w0 W c a len cap ∧ w.grownBy W (some c)) (fun _ i _ => m.toNat - (intOf i).toNat)
  case atStart => exact ⟨0, _, _, [], m0, rfl, rfl, rfl, b1, s1, g2⟩
  case round =>
    obtain ⟨k, g, cp, zs, hk, hz, rfl, rfl, hib, hst, hgr⟩ := hrel
    clear b0 s0 g0 s1 g1 b1 g2
    have hg : w.heap.size ≤ g := J0.own_block hib g rfl
    have hsz := hgr.size
    by_cases hlt : (k : Int) < m
    · go_wp2_with (first
        | (go_at_call 37; refine (below_any hcode hst hlen 96 (by omega) (by omega)).mono ?_; rintro e w3 ⟨⟨q, q0, q1, rfl⟩, s3, g3⟩; have i3 := (ibuf_grown hib g3 hcl).alloc (.cells #[.int .i64 0, .int .i64 1, .int .i64 2, .int .i64 3, .int .i64 4, .int .i64 5, .int .i64 6, .int .i64 7, .int .i64 20, .int .i64 95, .int .i64 96, .int .i64 (-1), .int .i64 q] 3); have gr3 := grown_below (grown_trans hgr g3) (K0.below_new w3 (.cells #[.int .i64 0, .int .i64 1, .int .i64 2, .int .i64 3, .int .i64 4, .int .i64 5, .int .i64 6, .int .i64 7, .int .i64 20, .int .i64 95, .int .i64 96, .int .i64 (-1), .int .i64 q] 3)))
        | (go_at_call 36; refine (pickNew hcode s3 hlen (kints q q0 q1) (show 0 < 13 by decide) (show 13 ≤ 100 by decide)).mono ?_; rintro e w4 ⟨⟨z, wz, rfl⟩, s4, g4⟩; have i4 := ibuf_grown i3 g4 hcl; have gr4 := grown_trans gr3 g4)
        | (at_builtin; refine append_int2 rfl (.tmp 14) (.tmp 20) rfl i4 z rfl rfl (by omega) gr4.size ?_; intro g5 cap5 w5 i5 hg5))
      go_roundw
      case rel => exact ⟨k + 1, g5, cap5, zs ++ [z], by omega, by simp [hz], by go_num, rfl, i5, (s4.below (K0.below_new _ _)).grown (g := g) hg5 (by omega) (by omega), grown_new (grown_below gr4 (K0.below_new _ _)) hg5 hg⟩
      case measure => simp [intOf]; omega
    · go_wp2
      go_ret
      refine ⟨some ⟨g, 0, none⟩, cp, zs, by omega, by rw [hz]; rfl, hib.own, ?_, hst, hgr⟩
      have := hib.fits
      omega

set_option maxHeartbeats 4000000 in
theorem draw_Power (hcode : Given w a len) (hlen : len ≤ 1048576) :
    Calls Try.prog 23 #[.slice a len cap] w fun e w' => ∃ (x y : ByteArray) (p : Option Addr) (cp : Nat) (zs : List Int), x.size ≤ 1000 ∧ y.size ≤ 1000 ∧ zs.length ≤ 5 ∧ zs.length ≤ cp ∧ e = .returned (.tuple #[.agg #[.string x, .string y], .slice p zs.length cp]) ∧ P0.Row w' p zs ∧ Below w.heap.size w w' := by
  have hc0 := hcode.below (K0.below_new w (.cells #[.string ⟨#[]⟩, .string ⟨#[]⟩] 25))
  go_enter Try.func23, Try.ntmps23
  go_wp2_with (first
    | (go_at_call 34; refine (new_any hc0 hlen).mono ?_; rintro e w1 ⟨c, rfl, s1⟩)
    | (go_at_call 35; refine (l02Dev hc0 s1 hlen).mono ?_; rintro e w2 ⟨⟨x, y, hx, hy, rfl⟩, s2, g2⟩; have d2 := de_new (x := x) (y := y) s1 s2))
  obtain ⟨B, hB⟩ : ∃ B, w2.heap.size = B := ⟨_, rfl⟩
  rw [hB] at d2
  simp only [hB]
  obtain ⟨W3, hW3⟩ : ∃ W3, w2.alloc (.cells #[.string x, .string y] 25) = W3 := ⟨_, rfl⟩
  rw [hW3] at d2 ⊢
  clear hW3 hB s1 s2 g2
  have qd := d2.drew
  have z0 := qd.dev.c0
  have z1 := qd.dev.c1
  have lR := qd.res.lt
  go_region_with (go_at_call 50; refine (l02Kept hc0 qd.st hlen).mono ?_; rintro e w4 ⟨p, cp, zs, hzl, rfl, ho, hcp, s4, g4⟩; have q4 := qd.grown s4 g4; have z2 := q4.dev.c0; have z3 := q4.dev.c1; have y0 := q4.res.c0; have y1 := q4.res.c1; have y2 := q4.res.f0; have y3 := q4.res.f1)
  all_goals
    have ho2 := (ho.set (B := w.heap.size) (by exact lR) 0 (.string x)).set (B := w.heap.size) (by exact lR) 1 (.string y)
    go_wp2
    have q := D2.ret2 (a := x) (b := y) y0 y1
    exact bodyPost_ret (v := .tuple #[.agg #[.string x, .string y], .slice p zs.length cp]) (by simp [results, Try.results23, go_sem, q.1, q.2]) rfl ⟨x, y, p, cp, zs, hx, hy, hzl, hcp, rfl, ho2.row, q4.fin _ _⟩
end Go.Proofs.Ytkpcpffpiilcpaa.C1
