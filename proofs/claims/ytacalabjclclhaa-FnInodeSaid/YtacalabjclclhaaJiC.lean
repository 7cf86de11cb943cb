/- Joined texts: plain facts and contracts, as each part says. -/
import Derived.Test.YtacalabjclclhaaJiA
import Derived.Test.YtacalabjclclhaaJiB
import Derived.Deep.RegionLaw
import Derived.Laws.OwnMore
import Derived.Test.YtacalabjclclhaaJtG
import Derived.Test.YtacalabjclclhaaJtA
import Derived.OpenShut
import Derived.ShutString
import Derived.ChangeSlices

/- The contract of spec.l03Inode: what is drawn lies in its bounds; the cursor stays one. -/
namespace Go.Proofs.Ytacalabjclclhaa.C1
open Go.ChangeShapes Go.WideShapes Go.ChangeAt Go.RowKit C0
set_option linter.unusedVariables false
set_option linter.unusedSimpArgs false
set_option maxRecDepth 10000
open I0 (val vals)

section
variable {w0 w W W' : World} {c : Nat} {a : Option Addr} {len cap R B : Nat} {k o s : Int} {p : Option Addr} {n cp : Nat} {zs : List Int}

abbrev sets4 (W : World) (R : Nat) (x y z u : Value) : World := (((W.setCell ⟨R, 0, none⟩ x).setCell ⟨R, 1, none⟩ y).setCell ⟨R, 2, none⟩ z).setCell ⟨R, 3, none⟩ u

/-- What l03Inode answers. -/
def Inr (w0 w : World) (c : Nat) (a : Option Addr) (len cap : Nat) (e : Ending) (w' : World) : Prop :=
  ∃ (k o s : Int) (p : Option Addr) (cp : Nat) (zs : List Int), zs.length ≤ 7 ∧ e = .returned (val k o s p zs.length cp) ∧ J0.Own w.heap.size w' p zs ∧ zs.length ≤ cp ∧ St w0 w' c a len cap ∧ w.grownBy w' (some c)

theorem In.out (h : In w0 w c a len cap R B k o s p n cp zs W) (hn : n ≤ 7) :
    K0.Blk R (vals k o s p n cp) (sets4 W R (.int .i64 k) (.int .i64 o) (.int .i64 s) (.slice p n cp)) ∧ Inr w0 w c a len cap (.returned (val k o s p n cp)) (sets4 W R (.int .i64 k) (.int .i64 o) (.int .i64 s) (.slice p n cp)) := by
  have f := (((h.dv.fin 0 (.int .i64 k)).fin 1 (.int .i64 o)).fin 2 (.int .i64 s)).fin 3 (.slice p n cp)
  have buf : J0.IBuf w.heap.size (sets4 W R (.int .i64 k) (.int .i64 o) (.int .i64 s) (.slice p n cp)) p n cp zs := ibuf_block h.buf (fun g e => (Below.heap_setCell _ _ _ _ (h.ap g e).2).trans ((Below.heap_setCell _ _ _ _ (h.ap g e).2).trans ((Below.heap_setCell _ _ _ _ (h.ap g e).2).trans (Below.heap_setCell _ _ _ _ (h.ap g e).2))))
  have hz := buf.1
  refine ⟨f.res, k, o, s, p, cp, zs, by omega, by rw [hz], buf.own, by have := buf.fits; omega, f.st, f.gr⟩

theorem In.page (h : In w0 w c a len cap R B k o s p n cp zs W) {g : Nat} (hp : p = some ⟨g, 0, none⟩) (x : Int) :
    In w0 w c a len cap R B k o s p n cp (zs.set 1 x) (W.setCell ⟨g, 1, none⟩ (.int .i64 x)) := by
  subst hp
  obtain ⟨hg1, hg2⟩ := h.ap g rfl
  obtain ⟨hb, hl⟩ := ibuf_lt h.buf (g := g) rfl
  have hc := h.cl
  have hw : w0.heap.size ≤ w.heap.size := Nat.le_trans h.dv.st.new (Nat.le_of_lt hc)
  refine ⟨⟨st_other h.dv.st (by omega) (by omega) _, h.dv.res.setOther hg2 _ _, h.dv.dev.setOther hg1 _ _, h.dv.ne, h.dv.old, grown_setNew h.dv.gr hb⟩, ⟨by rw [h.buf.1]; simp, ?_⟩, h.ap, hc⟩
  have := (h.buf.2.stored 1 (.int .i64 x)).1
  rw [show I2.ints (zs.set 1 x) = (I2.ints zs).set 1 (.int .i64 x) by simp [List.map_set]]
  exact this
end

variable {w0 w : World} {c : Nat} {a : Option Addr} {len cap : Nat}

theorem ints_at (zs : List Int) (n : Nat) (h : n < zs.length) : (I2.ints zs)[n]? = some (.int .i64 (zs.getD n 0)) := by simp [List.getD, h]

theorem own4 : ∀ v ∈ (#[Value.int .i64 1, Value.int .i64 2, Value.int .i64 9, Value.int .i64 0] : Array Value).toList, IsRng (-1000) 1000 v := all_rng (by rfl)
theorem siz7 : ∀ v ∈ (#[Value.int .i64 0, Value.int .i64 16, Value.int .i64 32, Value.int .i64 48, Value.int .i64 192, Value.int .i64 5, Value.int .i64 33] : Array Value).toList, IsRng 0 192 v := all_rng (by rfl)
theorem lst1 : ∀ v ∈ (#[Value.int .i64 0, Value.int .i64 3, Value.int .i64 (-1)] : Array Value).toList, IsRng (-1000) 1000 v := all_rng (by rfl)
theorem lst2 : ∀ v ∈ (#[Value.int .i64 8, Value.int .i64 10, Value.int .i64 (-1)] : Array Value).toList, IsRng (-1000) 1000 v := all_rng (by rfl)
theorem lst3 : ∀ v ∈ (#[Value.int .i64 193, Value.int .i64 (-1), Value.int .i64 208] : Array Value).toList, IsRng (-1000) 1000 v := all_rng (by rfl)
theorem lst4 : ∀ v ∈ (#[Value.int .i64 5, Value.int .i64 23, Value.int .i64 24, Value.int .i64 4] : Array Value).toList, IsRng (-1000) 1000 v := all_rng (by rfl)

set_option maxHeartbeats 8000000 in
theorem l03Inode (hcode : Given w0 a len) (h : St w0 w c a len cap) (hlen : len ≤ 1048576) :
    Calls Try.prog 84 #[.pointer (some ⟨c, 0, none⟩)] w (Inr w0 w c a len cap) := by
  have hcl := h.cur.lt
  have hn0 := h.new
  have k0 := K0.blk_new (vals 0 0 0 none 0 0) w 26
  have hs0 := h.below (K0.below_new w (.cells #[.int .i64 0, .int .i64 0, .int .i64 0, .slice none 0 0] 26))
  have g0 : w.grownBy (w.alloc (.cells #[.int .i64 0, .int .i64 0, .int .i64 0, .slice none 0 0] 26)) (some c) := grown_of_below (K0.below_new w _)
  have heg : ∀ args w, (callFunc 99 args).run Try.prog w = .ok (.enter 99 args) w := enters_of Try.func99 (by kernel_rfl) rfl
  have hpg : ∀ args w, (callFunc 139 args).run Try.prog w = .ok (.enter 139 args) w := enters_of Try.func139 (by kernel_rfl) rfl
  have HO : Hid (∀ (k o s : Int) (p : Option Addr) (n cp : Nat) (zs : List Int) (R B : Nat) (W : World), In w0 w c a len cap R B k o s p n cp zs W → n ≤ 7 → K0.Blk R (vals k o s p n cp) (sets4 W R (.int .i64 k) (.int .i64 o) (.int .i64 s) (.slice p n cp)) ∧ Inr w0 w c a len cap (.returned (val k o s p n cp)) (sets4 W R (.int .i64 k) (.int .i64 o) (.int .i64 s) (.slice p n cp))) := fun k o s p n cp zs R B W h hn => h.out hn
  obtain ⟨Q, hQ⟩ : ∃ Q, Inr w0 w c a len cap = Q := ⟨_, rfl⟩
  rw [hQ] at HO ⊢
  clear hQ
  go_enter Try.func84, Try.ntmps84
  go_wp2_with (first
    | (go_at_call 99; refine (below_any hcode hs0 hlen 2 (by omega) (by omega)).mono ?_; rintro e w1 ⟨⟨i, i0, i1, rfl⟩, s1, g1⟩; have k1 := blk_grown k0 g1 (by omega); have g1' := grown_trans g0 g1)
    | (go_at_call 139; have s2' := s2; refine (pickRng hcode s2 hlen siz7 (show 0 < 7 by decide) (show 7 ≤ 100 by decide)).mono ?_; rintro e w3 ⟨⟨sz, sz0, sz1, rfl⟩, s3, g3⟩; have q3 := dv_new (vs := vals (1 + i) ow sz none 0 0) (T := 26) s3 hcl (Nat.le_trans hn0 (Nat.le_of_lt hcl)) (blk_grown (k2.below (K0.below_new _ _)) g3 (by omega)) (grown_trans (grown_below g2' (K0.below_new _ _)) g3))
    | (go_at_call 139; refine (pickRng hcode s1 hlen own4 (show 0 < 4 by decide) (show 4 ≤ 100 by decide)).mono ?_; rintro e w2 ⟨⟨ow, ow0, ow1, rfl⟩, s2, g2⟩; have k2 := blk_grown (k1.below (K0.below_new _ _)) g2 (by omega); have g2' := grown_trans (grown_below g1' (K0.below_new _ _)) g2))
  have in0 : In w0 w c a len cap w.heap.size w3.heap.size (1 + i) ow sz none 0 0 [] (w3.alloc (.cells #[.int .i64 (1 + i), .int .i64 ow, .int .i64 sz, .slice none 0 0] 26)) := ⟨q3, J0.ibuf_nil _, (fun g e => by cases e), hcl⟩
  have hnd0 : 0 ≤ P0.need sz ∧ P0.need sz ≤ 6 := by unfold P0.need; omega
  have HN : Hid (∀ W, Calls Try.prog 92 #[.int .i64 sz] W fun e w' => e = .returned (.int .i64 (P0.need sz)) ∧ w' = W) := fun W => P1.l03Need sz W sz0 (by omega)
  obtain ⟨nd, hnd⟩ : ∃ nd, P0.need sz = nd := ⟨_, rfl⟩
  rw [hnd] at hnd0 HN
  obtain ⟨R, hR⟩ : ∃ R, w.heap.size = R := ⟨_, rfl⟩
  obtain ⟨B, hB⟩ : ∃ B, w3.heap.size = B := ⟨_, rfl⟩
  rw [hR, hB] at in0 ⊢
  clear hnd q3 s3 g3 k2 k1 k0 s2 g2 g2' s1 g1 g1' hs0 g0
  go_loopw [4] (fun i' w' => ∃ (j cp : Nat) (p : Option Addr) (zs : List Int), (j : Int) ≤ nd ∧ i' = .int .i64 j ∧ In w0 w c a len cap R B (1 + i) ow sz p j cp zs w') (fun i' _ => nd.toNat - (intOf i').toNat)
  case atStart => exact ⟨0, 0, none, [], by omega, rfl, in0⟩
  case round =>
    obtain ⟨j, cp, p, zs, hj, rfl, hin⟩ := hrel
    clear in0
    have x2 := hin.dv.dev.c2
    by_cases hlt : (j : Int) < nd
    · go_wp2_with (go_at_call 92; refine (HN.out _).mono ?_; rintro e w' ⟨rfl, rfl⟩)
      have hin := hin.drew
      have x3 := hin.dv.dev.c3
      have m1 : IntKind.i64.wrap ((j : Int) * 2) = (j : Int) * 2 := by rw [IntKind.wrap_i64]; omega
      have m2 : IntKind.i64.wrap (5 + (j : Int) * 2) = 5 + (j : Int) * 2 := by rw [IntKind.wrap_i64]; omega
      have hwl : w.heap.size ≤ w'.drew.heap.size := hin.dv.gr.size
      go_region_law (first
        | (refine G4.step_call2 rfl (.tmp 27) (.const (.int .i64 2)) _ rfl heg (.pointer (some ⟨c, 0, none⟩)) (.int .i64 2) (by simp [Act.eval, Act.put]) (by simp [Act.eval, Act.put]) ((below_any hcode hin.dv.st hlen 2 (by omega) (by omega)).mono ?_); rintro e w5 ⟨⟨x, y0, y1, rfl⟩, s5, g5⟩; refine ⟨_, rfl, ?_⟩; have h5 := hin.grown s5 g5; have y3 := h5.dv.dev.c3; have ya := (h5.dv.dev.alloc (.cells #[.int .i64 (5 + (j : Int) * 2 + x)] 3)).c3; have m3 : IntKind.i64.wrap (5 + (j : Int) * 2 + x) = 5 + (j : Int) * 2 + x := (by rw [IntKind.wrap_i64]; omega))
        | (refine step_int2 (W := w5) rfl (.tmp 23) (.tmp 30) rfl h5.buf _ (by simp [Act.eval, Act.put]) (by simp [Act.eval, Act.put]) (by omega) h5.dv.gr.size ?_; intro g6 cap6 w6 hb6 hg6 hat6; obtain ⟨z3, z4⟩ := h5.mid hg6))
      all_goals
        go_wp2
        go_roundw
        case rel => exact ⟨j + 1, cap6, some ⟨g6, 0, none⟩, _, by omega, by go_num, h5.step hb6 hg6 hat6⟩
        case measure => simp [intOf]; omega
    · have hj6 : j ≤ 6 := by omega
      go_wp2_with (go_at_call 92; refine (HN.out _).mono ?_; rintro e w' ⟨rfl, rfl⟩)
      go_at_call 99
      refine (below_any hcode hin.dv.st hlen 10 (by omega) (by omega)).mono ?_
      rintro e w4 ⟨⟨m, m0, m1, rfl⟩, s4, g4⟩
      have q4 := hin.grown s4 g4
      clear s4 g4 x2 hin
      have d0 := q4.dv.dev.c0
      have d1 := q4.dv.dev.c1
      have d2 := q4.dv.dev.c2
      have d3 := q4.dv.dev.c3
      have e0 := q4.dv.dev.f0
      have e1 := q4.dv.dev.f1
      have e2 := q4.dv.dev.f2
      have e3 := q4.dv.dev.f3
      have r0 := q4.dv.res.c0
      have r1 := q4.dv.res.c1
      have r2 := q4.dv.res.c2
      have r3 := q4.dv.res.c3
      have t0 := q4.dv.res.f0
      have t1 := q4.dv.res.f1
      have t2 := q4.dv.res.f2
      have t3 := q4.dv.res.f3
      rcases (show m = 0 ∨ m = 1 ∨ m = 2 ∨ m = 3 ∨ m = 4 ∨ m = 5 ∨ 6 ≤ m by omega) with rfl | rfl | rfl | rfl | rfl | rfl | hm
      · have q5 := q4.zero
        have D0 := q5.dv.dev.c0
        have D1 := q5.dv.dev.c1
        have D2 := q5.dv.dev.c2
        have D3 := q5.dv.dev.c3
        have R0 := q5.dv.res.c0
        have R1 := q5.dv.res.c1
        have R2 := q5.dv.res.c2
        have R3 := q5.dv.res.c3
        have T0 := q5.dv.res.f0
        have T1 := q5.dv.res.f1
        have T2 := q5.dv.res.f2
        have T3 := q5.dv.res.f3
        go_wp2
        obtain ⟨kb, ans⟩ := HO.out _ _ _ _ _ _ _ _ _ _ q5 (by omega)
        exact bodyPost_ret (v := val 0 0 0 none 0 0) (by simp [results, Try.results84, go_sem, kb.c0, kb.c1, kb.c2, kb.c3]) rfl ans
      · go_wp2_with (go_at_call 139; refine (pickRng hcode q4.dv.st hlen lst1 (show 0 < 3 by decide) (show 3 ≤ 100 by decide)).mono ?_; rintro e w5 ⟨⟨z, z0, z1, rfl⟩, s5, g5⟩; have q5 := (q4.alloc (.cells #[.int .i64 0, .int .i64 3, .int .i64 (-1)] 3)).grown s5 g5; have D0 := q5.dv.dev.c0; have D1 := q5.dv.dev.c1; have D2 := q5.dv.dev.c2; have D3 := q5.dv.dev.c3; have E0 := q5.dv.dev.f0; have E1 := q5.dv.dev.f1; have E2 := q5.dv.dev.f2; have E3 := q5.dv.dev.f3; have R0 := q5.dv.res.c0; have R1 := q5.dv.res.c1; have R2 := q5.dv.res.c2; have R3 := q5.dv.res.c3; have T0 := q5.dv.res.f0; have T1 := q5.dv.res.f1; have T2 := q5.dv.res.f2; have T3 := q5.dv.res.f3; have q6 := q5.set0 z; have X0 := q6.dv.dev.c0; have X1 := q6.dv.dev.c1; have X2 := q6.dv.dev.c2; have X3 := q6.dv.dev.c3; have Y0 := q6.dv.res.c0; have Y1 := q6.dv.res.c1; have Y2 := q6.dv.res.c2; have Y3 := q6.dv.res.c3; have Z0 := q6.dv.res.f0; have Z1 := q6.dv.res.f1; have Z2 := q6.dv.res.f2; have Z3 := q6.dv.res.f3)
        obtain ⟨kb, ans⟩ := HO.out _ _ _ _ _ _ _ _ _ _ q6 (by omega)
        exact bodyPost_ret (v := val z ow sz p j cp) (by simp [results, Try.results84, go_sem, kb.c0, kb.c1, kb.c2, kb.c3]) rfl ans
      · go_wp2_with (go_at_call 139; refine (pickRng hcode q4.dv.st hlen lst2 (show 0 < 3 by decide) (show 3 ≤ 100 by decide)).mono ?_; rintro e w5 ⟨⟨z, z0, z1, rfl⟩, s5, g5⟩; have q5 := (q4.alloc (.cells #[.int .i64 8, .int .i64 10, .int .i64 (-1)] 3)).grown s5 g5; have D0 := q5.dv.dev.c0; have D1 := q5.dv.dev.c1; have D2 := q5.dv.dev.c2; have D3 := q5.dv.dev.c3; have E0 := q5.dv.dev.f0; have E1 := q5.dv.dev.f1; have E2 := q5.dv.dev.f2; have E3 := q5.dv.dev.f3; have R0 := q5.dv.res.c0; have R1 := q5.dv.res.c1; have R2 := q5.dv.res.c2; have R3 := q5.dv.res.c3; have T0 := q5.dv.res.f0; have T1 := q5.dv.res.f1; have T2 := q5.dv.res.f2; have T3 := q5.dv.res.f3; have q6 := q5.set1 z; have X0 := q6.dv.dev.c0; have X1 := q6.dv.dev.c1; have X2 := q6.dv.dev.c2; have X3 := q6.dv.dev.c3; have Y0 := q6.dv.res.c0; have Y1 := q6.dv.res.c1; have Y2 := q6.dv.res.c2; have Y3 := q6.dv.res.c3; have Z0 := q6.dv.res.f0; have Z1 := q6.dv.res.f1; have Z2 := q6.dv.res.f2; have Z3 := q6.dv.res.f3)
        obtain ⟨kb, ans⟩ := HO.out _ _ _ _ _ _ _ _ _ _ q6 (by omega)
        exact bodyPost_ret (v := val (1 + i) z sz p j cp) (by simp [results, Try.results84, go_sem, kb.c0, kb.c1, kb.c2, kb.c3]) rfl ans
      · go_wp2_with (go_at_call 139; refine (pickRng hcode q4.dv.st hlen lst3 (show 0 < 3 by decide) (show 3 ≤ 100 by decide)).mono ?_; rintro e w5 ⟨⟨z, z0, z1, rfl⟩, s5, g5⟩; have q5 := (q4.alloc (.cells #[.int .i64 193, .int .i64 (-1), .int .i64 208] 3)).grown s5 g5; have D0 := q5.dv.dev.c0; have D1 := q5.dv.dev.c1; have D2 := q5.dv.dev.c2; have D3 := q5.dv.dev.c3; have E0 := q5.dv.dev.f0; have E1 := q5.dv.dev.f1; have E2 := q5.dv.dev.f2; have E3 := q5.dv.dev.f3; have R0 := q5.dv.res.c0; have R1 := q5.dv.res.c1; have R2 := q5.dv.res.c2; have R3 := q5.dv.res.c3; have T0 := q5.dv.res.f0; have T1 := q5.dv.res.f1; have T2 := q5.dv.res.f2; have T3 := q5.dv.res.f3; have q6 := q5.set2 z; have X0 := q6.dv.dev.c0; have X1 := q6.dv.dev.c1; have X2 := q6.dv.dev.c2; have X3 := q6.dv.dev.c3; have Y0 := q6.dv.res.c0; have Y1 := q6.dv.res.c1; have Y2 := q6.dv.res.c2; have Y3 := q6.dv.res.c3; have Z0 := q6.dv.res.f0; have Z1 := q6.dv.res.f1; have Z2 := q6.dv.res.f2; have Z3 := q6.dv.res.f3)
        obtain ⟨kb, ans⟩ := HO.out _ _ _ _ _ _ _ _ _ _ q6 (by omega)
        exact bodyPost_ret (v := val (1 + i) ow z p j cp) (by simp [results, Try.results84, go_sem, kb.c0, kb.c1, kb.c2, kb.c3]) rfl ans
      · go_wp2
        have b3 := q4.dv.dev.drew.c3
        have ba := (q4.dv.dev.alloc (.cells #[.int .i64 5, .int .i64 23, .int .i64 24, .int .i64 4] 3)).drew.c3
        have HP : Calls Try.prog 139 #[.pointer (some ⟨c, 0, none⟩), .slice (some ⟨w4.heap.size, 0, none⟩) 4 4] (w4.alloc (.cells #[.int .i64 5, .int .i64 23, .int .i64 24, .int .i64 4] 3)).drew fun e w' => (∃ z : Int, -1000 ≤ z ∧ z ≤ 1000 ∧ e = .returned (.int .i64 z)) ∧ St w0 w' c a len cap ∧ (w4.drew.alloc (.cells #[.int .i64 5, .int .i64 23, .int .i64 24, .int .i64 4] 3)).grownBy w' (some c) := pickRng hcode q4.drew.dv.st hlen lst4 (show 0 < 4 by decide) (show 4 ≤ 100 by decide)
        go_region_law (first
          | (refine G4.step_call2 rfl (.tmp 60) (.tmp 61) _ rfl hpg (.pointer (some ⟨c, 0, none⟩)) (.slice (some ⟨w4.heap.size, 0, none⟩) 4 4) (by simp [Act.eval, Act.put]) (by simp [Act.eval, Act.put]) (HP.mono ?_); rintro e w5 ⟨⟨x, y0, y1, rfl⟩, s5, g5⟩; refine ⟨_, rfl, ?_⟩; have h5 := (q4.drew.alloc (.cells #[.int .i64 5, .int .i64 23, .int .i64 24, .int .i64 4] 3)).grown s5 g5; have y3 := h5.dv.dev.c3; have ya := (h5.dv.dev.alloc (.cells #[.int .i64 x] 3)).c3)
          | (refine step_int2 (W := w5) rfl (.tmp 59) (.tmp 63) rfl h5.buf _ (by simp [Act.eval, Act.put]) (by simp [Act.eval, Act.put]) (by omega) h5.dv.gr.size ?_; intro g6 cap6 w6 hb6 hg6 hat6; obtain ⟨z3, z4⟩ := h5.mid hg6))
        all_goals
          have q6 := h5.step hb6 hg6 hat6
          have D0 := q6.dv.dev.c0
          have D1 := q6.dv.dev.c1
          have D2 := q6.dv.dev.c2
          have D3 := q6.dv.dev.c3
          have R0 := q6.dv.res.c0
          have R1 := q6.dv.res.c1
          have R2 := q6.dv.res.c2
          have R3 := q6.dv.res.c3
          have T0 := q6.dv.res.f0
          have T1 := q6.dv.res.f1
          have T2 := q6.dv.res.f2
          have T3 := q6.dv.res.f3
          go_wp2
          obtain ⟨kb, ans⟩ := HO.out _ _ _ _ _ _ _ _ _ _ (q6) (by omega)
          exact bodyPost_ret (v := val (1 + i) ow sz (some ⟨g6, 0, none⟩) (j + 1) cap6) (by simp [results, Try.results84, go_sem, kb.c0, kb.c1, kb.c2, kb.c3]) rfl ans
      · by_cases h1 : 1 < (j : Int)
        · obtain ⟨g, hg⟩ : ∃ g, p = some ⟨g, 0, none⟩ := by
            rcases q4.buf.2.2 with ⟨h0, h0'⟩ | ⟨g, c', cur, hv, _⟩
            · omega
            · simp at hv
              exact ⟨g, hv.1⟩
          subst hg
          have hz := q4.buf.1
          have y0 : w4.drew.cell? ⟨g, 0, none⟩ = some (.int .i64 (zs.getD 0 0)) := (q4.buf.2.cellAt 0 (by omega)).trans (ints_at zs 0 (by omega))
          have y1 : w4.drew.cell? ⟨g, 1, none⟩ = some (.int .i64 (zs.getD 1 0)) := (q4.buf.2.cellAt 1 (by omega)).trans (ints_at zs 1 (by omega))
          have y2 : w4.drew.frozen? ⟨g, 1, none⟩ = false := q4.buf.2.frozenAt 1
          have b3 := q4.dv.dev.drew.c3
          obtain ⟨z, ez⟩ : ∃ z, zs.getD 0 0 = z := ⟨_, rfl⟩
          obtain ⟨z', ez'⟩ : ∃ z, zs.getD 1 0 = z := ⟨_, rfl⟩
          rw [ez] at y0
          rw [ez'] at y1
          have q5 := q4.page rfl z
          clear ez ez' hz
          have D0 := q5.dv.dev.c0
          have D1 := q5.dv.dev.c1
          have D2 := q5.dv.dev.c2
          have D3 := q5.dv.dev.c3
          have R0 := q5.dv.res.c0
          have R1 := q5.dv.res.c1
          have R2 := q5.dv.res.c2
          have R3 := q5.dv.res.c3
          have T0 := q5.dv.res.f0
          have T1 := q5.dv.res.f1
          have T2 := q5.dv.res.f2
          have T3 := q5.dv.res.f3
          have e4 : (0 : Int) < (j : Int) := by omega
          go_wp2
          go_region
          all_goals
            go_wp2
            obtain ⟨kb, -⟩ := HO.out _ _ _ _ _ _ _ _ _ _ q5 (by omega)
            obtain ⟨-, ans⟩ := HO.out _ _ _ _ _ _ _ _ _ _ q5.drew (by omega)
            exact bodyPost_ret (v := val (1 + i) ow sz (some ⟨g, 0, none⟩) j cp) (by simp [results, Try.results84, go_sem, kb.c0, kb.c1, kb.c2, kb.c3]) rfl ans
        · go_wp2
          obtain ⟨kb, ans⟩ := HO.out _ _ _ _ _ _ _ _ _ _ (q4) (by omega)
          exact bodyPost_ret (v := val (1 + i) ow sz p j cp) (by simp [results, Try.results84, go_sem, kb.c0, kb.c1, kb.c2, kb.c3]) rfl ans
      · have n0 : (m == 0) = false := by simp; omega
        have n1 : (m == 1) = false := by simp; omega
        have n2 : (m == 2) = false := by simp; omega
        have n3 : (m == 3) = false := by simp; omega
        have n4 : (m == 4) = false := by simp; omega
        have n5 : (m == 5) = false := by simp; omega
        go_wp2
        obtain ⟨kb, ans⟩ := HO.out _ _ _ _ _ _ _ _ _ _ (q4) (by omega)
        exact bodyPost_ret (v := val (1 + i) ow sz p j cp) (by simp [results, Try.results84, go_sem, kb.c0, kb.c1, kb.c2, kb.c3]) rfl ans
end Go.Proofs.Ytacalabjclclhaa.C1

/- The draws of laws.FnInode. -/
namespace Go.Proofs.Ytacalabjclclhaa.C1
open Go.ChangeShapes Go.WideShapes Go.ChangeAt Go.RowKit C0
set_option linter.unusedVariables false
set_option linter.unusedSimpArgs false
set_option maxRecDepth 10000
open I0 (val vals)
variable {w : World} {a : Option Addr} {len cap : Nat}

theorem putI_small (k o s : Int) (zs : List Int) : (R0.putI k o s zs).size ≤ 100000 := Nat.le_trans (R0.putI_size _ _ _ _) (by decide)

theorem putE_small (i : Int) (s : ByteArray) : (E0.putE i s).size ≤ 100000 := by
  cases h : E0.entryOk i s with
  | true => rw [T0.putE_size16 h]; omega
  | false => rw [E0.putE, h, if_neg (by decide)]; exact Nat.zero_le _

set_option maxHeartbeats 2000000 in
theorem draw_PutInode (hcode : Given w a len) (hlen : len ≤ 1048576) :
    Calls Try.prog 18 #[.slice a len cap] w fun e w' => ∃ (k o s : Int) (p : Option Addr) (cp : Nat) (zs : List Int), zs.length ≤ 7 ∧ e = .returned (val k o s p zs.length cp) ∧ P0.Row w' p zs ∧ zs.length ≤ cp ∧ Below w.heap.size w w' := by
  have k0 := K0.blk_new (vals 0 0 0 none 0 0) w 26
  have l0 := K0.below_new w (.cells #[.int .i64 0, .int .i64 0, .int .i64 0, .slice none 0 0] 26)
  have hc0 := hcode.below l0
  go_enter Try.func18, Try.ntmps18
  go_wp2_with (first
    | (go_at_call 85; refine (new_any hc0 hlen).mono ?_; rintro e w1 ⟨c, rfl, s1⟩; have k1 := k0.below s1.bel)
    | (go_at_call 84; refine (l03Inode hc0 s1 hlen).mono ?_; rintro e w2 ⟨k, o, s, p, cp, zs, hz, rfl, ho, hcp, s2, g2⟩; have k2 := k0.below s2.bel; have c0 := k2.c0; have c1 := k2.c1; have c2 := k2.c2; have c3 := k2.c3; have f0 := k2.f0; have f1 := k2.f1; have f2 := k2.f2; have f3 := k2.f3))
  have q := k2.put4 (.int .i64 k) (.int .i64 o) (.int .i64 s) (.slice p zs.length cp)
  have l2 := l0.trans (s2.bel.mono l0.size)
  have hlt := k1.lt
  have ho' := (((ho.set hlt 0 (.int .i64 k)).set hlt 1 (.int .i64 o)).set hlt 2 (.int .i64 s)).set hlt 3 (.slice p zs.length cp)
  refine bodyPost_ret (v := val k o s p zs.length cp) (by simp [results, Try.results18, go_sem, q.c0, q.c1, q.c2, q.c3]) rfl ⟨k, o, s, p, cp, zs, hz, rfl, ho'.row, hcp, ?_⟩
  exact (((l2.setCell (p := ⟨w.heap.size, 0, none⟩) (Nat.le_refl _) _).setCell (p := ⟨w.heap.size, 1, none⟩) (Nat.le_refl _) _).setCell (p := ⟨w.heap.size, 2, none⟩) (Nat.le_refl _) _).setCell (p := ⟨w.heap.size, 3, none⟩) (Nat.le_refl _) _

theorem draw_GetInode (hcode : Given w a len) (hlen : len ≤ 1048576) :
    Calls Try.prog 20 #[.slice a len cap] w fun e w' => ∃ s : ByteArray, s.size ≤ 100100 ∧ e = .returned (.string s) ∧ Below w.heap.size w w' := by
  go_enter Try.func20, Try.ntmps20
  go_wp2_with (first
    | (go_at_call 85; refine (new_any hcode hlen).mono ?_; rintro e w1 ⟨c, rfl, s1⟩)
    | (go_at_call 84; refine (l03Inode hcode s1 hlen).mono ?_; rintro e w2 ⟨k, o, s, p, cp, zs, hz, rfl, ho, hcp, s2, g2⟩)
    | (go_at_call 29; refine (R2.spec_PutInode k o s p cp zs _ (by omega) hcp ho.row).mono ?_; rintro e w3 ⟨rfl, b3⟩; have s3 := s2.below b3)
    | (go_at_call 87; refine (l03Spoil hcode s3 hlen _ (putI_small _ _ _ _)).mono ?_; rintro e w4 ⟨⟨t, ht, rfl⟩, s4, g4⟩))
  go_ret
  exact ⟨t, ht, rfl, s4.bel⟩

set_option maxHeartbeats 2000000 in
theorem draw_PutEntry (hcode : Given w a len) (hlen : len ≤ 1048576) :
    Calls Try.prog 23 #[.slice a len cap] w fun e w' => ∃ (i : Int) (s : ByteArray), s.size ≤ 100 ∧ e = .returned (.agg #[.int .i64 i, .string s]) ∧ Below w.heap.size w w' := by
  have k0 := K0.blk_new [.int .i64 0, .string ⟨#[]⟩] w 33
  have l0 := K0.below_new w (.cells #[.int .i64 0, .string ⟨#[]⟩] 33)
  have hc0 := hcode.below l0
  go_enter Try.func23, Try.ntmps23
  go_wp2_with (first
    | (go_at_call 85; refine (new_any hc0 hlen).mono ?_; rintro e w1 ⟨c, rfl, s1⟩)
    | (go_at_call 93; refine (l03Entry hc0 s1 hlen).mono ?_; rintro e w2 ⟨⟨i, s, wi, hs, rfl⟩, s2, g2⟩; have k2 := k0.below s2.bel; have c0 := k2.c0; have c1 := k2.c1; have f0 := k2.f0; have f1 := k2.f1))
  have q := k2.put2 (.int .i64 i) (.string s)
  have l2 := l0.trans (s2.bel.mono l0.size)
  refine bodyPost_ret (v := .agg #[.int .i64 i, .string s]) (by simp [results, Try.results23, go_sem, q.c0, q.c1]) rfl ⟨i, s, hs, rfl, ?_⟩
  exact (l2.setCell (p := ⟨w.heap.size, 0, none⟩) (Nat.le_refl _) _).setCell (p := ⟨w.heap.size, 1, none⟩) (Nat.le_refl _) _

theorem draw_GetEntry (hcode : Given w a len) (hlen : len ≤ 1048576) :
    Calls Try.prog 25 #[.slice a len cap] w fun e w' => ∃ s : ByteArray, s.size ≤ 100100 ∧ e = .returned (.string s) ∧ Below w.heap.size w w' := by
  go_enter Try.func25, Try.ntmps25
  go_wp2_with (first
    | (go_at_call 85; refine (new_any hcode hlen).mono ?_; rintro e w1 ⟨c, rfl, s1⟩)
    | (go_at_call 93; refine (l03Entry hcode s1 hlen).mono ?_; rintro e w2 ⟨⟨i, s, wi, hs, rfl⟩, s2, g2⟩)
    | (go_at_call 31; refine (E2.spec_PutEntry i s _ (by omega)).mono ?_; rintro e w3 ⟨rfl, b3⟩; have s3 := s2.below b3)
    | (go_at_call 87; refine (l03Spoil hcode s3 hlen _ (putE_small _ _)).mono ?_; rintro e w4 ⟨⟨t, ht, rfl⟩, s4, g4⟩))
  go_ret
  exact ⟨t, ht, rfl, s4.bel⟩

theorem draw_RecAt (hcode : Given w a len) (hlen : len ≤ 1048576) :
    Calls Try.prog 28 #[.slice a len cap] w fun e w' => ∃ i : Int, e = .returned (.int .i64 i) ∧ Below w.heap.size w w' := by
  go_enter Try.func28, Try.ntmps28
  go_wp2_with (first
    | (go_at_call 85; refine (new_any hcode hlen).mono ?_; rintro e w1 ⟨c, rfl, s1⟩)
    | (go_at_call 99; refine (below_any hcode s1 hlen 11 (by omega) (by omega)).mono ?_; rintro e w2 ⟨⟨x, x0, x1, rfl⟩, s2, g2⟩))
  go_ret
  exact ⟨_, rfl, s2.bel⟩
end Go.Proofs.Ytacalabjclclhaa.C1

/- A slice of bytes among a law's arguments; laws.big. -/
namespace Go.Proofs.Ytacalabjclclhaa.Q0
open Go.ChangeShapes Go.WideShapes Go.ChangeAt Go.RowKit
set_option linter.unusedVariables false
set_option linter.unusedSimpArgs false
set_option maxRecDepth 10000

theorem lt_of_cell {w : World} {b o : Nat} {v : Value} (h : w.cell? ⟨b, o, none⟩ = some v) : b < w.heap.size := by
  rcases Nat.lt_or_ge b w.heap.size with hlt | hge
  · exact hlt
  · unfold World.cell? at h
    rw [Array.getElem?_eq_none hge] at h
    simp at h

theorem open_code {H : Type} {enc : TypeId × Value → H} {w : World} {fuel : Nat} {v : Value} {x : DataW H × List MemPlace} (h : DataW.trod enc Try.prog w 0 (fun _ => true) true fuel 22 [v] = some x) :
    ∃ (a : Option Addr) (len cap : Nat), v = .slice a len cap ∧ C0.Given w a len := by
  rcases open_ints Try.underlying22 Try.underlying5 (by kernel_rfl) h with ⟨hcs, _⟩ | ⟨a, len, cap, zs, hcs, _, hl, hm, hz, _, hcell, hwz⟩
  · simp at hcs
    exact ⟨none, 0, 0, hcs, fun k hk => absurd hk (Nat.not_lt_zero _)⟩
  · simp at hcs hz
    refine ⟨some a, len, cap, hcs, fun k hk => ?_⟩
    obtain ⟨b, off, rfl, hc⟩ := ints_at hcell (by omega)
    have hck := hc k (by omega)
    have hmem : zs.getD k 0 ∈ zs := by
      rw [List.getD_eq_getElem?_getD, List.getElem?_eq_getElem (by omega : k < zs.length)]
      exact List.getElem_mem _
    have hwf := hwz _ hmem
    have hb : 0 ≤ zs.getD k 0 ∧ zs.getD k 0 ≤ 255 := by simpa [Lit.wf, IntKind.min, IntKind.max, IntKind.signed, IntKind.bits] using hwf
    exact ⟨b, off, zs.getD k 0, rfl, lt_of_cell hck, hb.1, by omega, hck⟩

theorem big_no (a : Option Addr) (len cap : Nat) (w : World) (hl : ¬ 1048576 < (len : Int)) : Calls Try.prog 17 #[.slice a len cap] w fun e w' => e = .returned (.bool false) ∧ w' = w := by
  have hl' : decide (1048576 < (len : Int)) = false := by simpa using hl
  go_enter Try.func17, Try.ntmps17
  go_wp2
  go_ret
  exact ⟨rfl, rfl⟩

theorem big_yes (a : Option Addr) (len cap : Nat) (w : World) (hl : 1048576 < (len : Int)) : Calls Try.prog 17 #[.slice a len cap] w fun e w' => e = .returned (.bool true) ∧ w' = w := by
  go_enter Try.func17, Try.ntmps17
  go_wp2
  go_ret
  exact ⟨rfl, rfl⟩
end Go.Proofs.Ytacalabjclclhaa.Q0
