/- Contracts of spec.l03Spoil and spec.l03Entry: what is drawn lies in its bounds; the cursor stays one. -/
import Derived.Test.YtifddipnboifnaaDz0
import Derived.Test.YtifddipnboifnaaWith1
import Derived.Test.YtifddipnboifnaaEnt2
import Derived.Deep.DeepCutAuto
namespace Go.Proofs.Ytifddipnboifnaa.C1
open Go.ChangeShapes Go.WideShapes Go.ChangeAt Go.RowKit C0
set_option linter.unusedVariables false
set_option linter.unusedSimpArgs false
set_option maxRecDepth 10000

/-- A cursor, and a struct beside it that is drawn, with the place of the answer. -/
structure Dv (w0 w : World) (c : Nat) (a : Option Addr) (len cap R B : Nat) (rs vs : List Value) (W : World) : Prop where
  st : St w0 W c a len cap
  res : K0.Blk R rs W
  dev : K0.Blk B vs W
  ne : R ≠ c ∧ B ≠ c ∧ R ≠ B
  old : w.heap.size ≤ R ∧ w.heap.size ≤ B ∧ w0.heap.size ≤ R ∧ w0.heap.size ≤ B
  gr : w.grownBy W (some c)

section
variable {w0 w W W' : World} {c : Nat} {a : Option Addr} {len cap R B : Nat} {rs vs : List Value}

theorem Dv.grown (h : Dv w0 w c a len cap R B rs vs W) (s : St w0 W' c a len cap) (g : W.grownBy W' (some c)) : Dv w0 w c a len cap R B rs vs W' :=
  ⟨s, blk_grown h.res g h.ne.1, blk_grown h.dev g h.ne.2.1, h.ne, h.old, grown_trans h.gr g⟩
theorem Dv.below (h : Dv w0 w c a len cap R B rs vs W) (hb : Below W.heap.size W W') : Dv w0 w c a len cap R B rs vs W' :=
  ⟨h.st.below hb, h.res.below hb, h.dev.below hb, h.ne, h.old, grown_below h.gr hb⟩
theorem Dv.drew (h : Dv w0 w c a len cap R B rs vs W) : Dv w0 w c a len cap R B rs vs W.drew := h.below (K0.below_drewN (Below.refl _ _) 1)
theorem Dv.alloc (h : Dv w0 w c a len cap R B rs vs W) (o : Obj) : Dv w0 w c a len cap R B rs vs (W.alloc o) := h.below (K0.below_new _ _)
theorem Dv.put (h : Dv w0 w c a len cap R B rs vs W) (j : Nat) (v : Value) : Dv w0 w c a len cap R B rs (vs.set j v) (W.setCell ⟨B, j, none⟩ v) :=
  ⟨st_other h.st h.ne.2.1 h.old.2.2.2 _, h.res.setOther (Ne.symm h.ne.2.2) _ _, h.dev.set j v, h.ne, h.old, grown_setNew h.gr h.old.2.1⟩
theorem Dv.fin (h : Dv w0 w c a len cap R B rs vs W) (j : Nat) (v : Value) : Dv w0 w c a len cap R B (rs.set j v) vs (W.setCell ⟨R, j, none⟩ v) :=
  ⟨st_other h.st h.ne.1 h.old.2.2.1 _, h.res.set j v, h.dev.setOther h.ne.2.2 _ _, h.ne, h.old, grown_setNew h.gr h.old.1⟩

theorem dv_new {w4 : World} {T : TypeId} (h1 : St w0 w4 c a len cap) (hc : c < w.heap.size) (hw : w0.heap.size ≤ w.heap.size) (k4 : K0.Blk w.heap.size rs w4) (g4 : w.grownBy w4 (some c)) :
    Dv w0 w c a len cap w.heap.size w4.heap.size rs vs (w4.alloc (.cells vs.toArray T)) := by
  have l4 := k4.lt
  have hb := K0.below_new w4 (.cells vs.toArray T)
  exact ⟨h1.below hb, k4.below hb, K0.blk_new vs w4 T, ⟨by omega, by omega, by omega⟩, ⟨by omega, by omega, by omega, by omega⟩, grown_below g4 hb⟩
end

variable {w0 w : World} {c : Nat} {a : Option Addr} {len cap : Nat}

theorem laid_size (s : ByteArray) (i : Int) (t : ByteArray) : (B5.laid s i t).size = s.size := by
  unfold B5.laid
  split
  · rename_i h
    obtain ⟨h0, h1, h2⟩ := B2.lies_true h
    rw [ByteArray.size_append, ByteArray.size_append, ByteArray.size_extract, ByteArray.size_extract]
    omega
  · rfl

theorem eints : ∀ v ∈ (#[Value.int .i64 0, Value.int .i64 8, Value.int .i64 (-1)] : Array Value).toList, IsInt v := by
  intro v hv
  simp at hv
  rcases hv with rfl | rfl | rfl <;> exact isInt (by omega) (by omega)

set_option maxHeartbeats 4000000 in
theorem l03Spoil (hcode : Given w0 a len) (h : St w0 w c a len cap) (hlen : len ≤ 1048576) (s : ByteArray) (hs : s.size ≤ 100000) :
    Calls Try.prog 60 #[.pointer (some ⟨c, 0, none⟩), .string s] w fun e w' => (∃ t : ByteArray, t.size ≤ 100100 ∧ e = .returned (.string t)) ∧ St w0 w' c a len cap ∧ w.grownBy w' (some c) := by
  have hsb : ∀ v ∈ (#[Value.string ⟨#[0]⟩, Value.string ⟨#[97]⟩] : Array Value).toList, IsTxt v := all_short (by rfl)
  go_enter Try.func60, Try.ntmps60
  go_wp2_with (first
    | (go_at_call 72; have s1' := s1; refine (below_any hcode s1 hlen 6 (by omega) (by omega)).mono ?_; rintro e w2 ⟨⟨m, m0, m1, rfl⟩, s2, g2⟩; have gr2 := grown_trans g1 g2)
    | (go_at_call 72; refine (below_any hcode h hlen ((s.size : Int) + 1) (by omega) (by omega)).mono ?_; rintro e w1 ⟨⟨i, i0, i1, rfl⟩, s1, g1⟩; have i2 : i ≤ (s.size : Int) := (by omega))
    | (go_at_call 100; refine (bytes_int hcode s2 hlen 1 (by omega) (by omega)).mono ?_; rintro e w3 ⟨⟨u, hu, rfl⟩, s3, g3⟩; have gr3 := grown_trans gr2 g3)
    | (go_at_call 87; refine (B5.spec_With s i u _ (by omega) (by omega)).mono ?_; rintro e w4 ⟨rfl, n4, rfl⟩)
    | (go_at_call 101; refine (pickTxtNew hcode s2 hlen hsb (show 0 < 2 by decide) (show 2 ≤ 100 by decide)).mono ?_; rintro e w3 ⟨⟨u, hu, rfl⟩, s3, g3⟩; have gr3 := grown_trans (grown_below gr2 (K0.below_new w2 _)) g3; have hcat : s.size + u.size ≤ 9223372036854775807 := (by omega)))
  all_goals go_ret
  · exact ⟨⟨_, by rw [ByteArray.size_extract]; omega, rfl⟩, s2, gr2⟩
  · exact ⟨⟨_, by rw [laid_size]; omega, rfl⟩, s3.drewN n4, grown_drewN gr3 n4⟩
  · exact ⟨⟨_, by rw [ByteArray.size_append]; omega, rfl⟩, s3, gr3⟩
  · exact ⟨⟨_, by omega, rfl⟩, s2, gr2⟩

theorem ret2v {W : World} {B : Nat} {u v c d : Value} (h0 : W.cell? ⟨B, 0, none⟩ = some c) (h1 : W.cell? ⟨B, 1, none⟩ = some d) :
    ((W.setCell ⟨B, 0, none⟩ u).setCell ⟨B, 1, none⟩ v).cell? ⟨B, 0, none⟩ = some u ∧ ((W.setCell ⟨B, 0, none⟩ u).setCell ⟨B, 1, none⟩ v).cell? ⟨B, 1, none⟩ = some v := by
  have e : (⟨B, 1, none⟩ : Addr) ≠ ⟨B, 0, none⟩ := by simp
  refine ⟨?_, ?_⟩
  · rw [World.cell?_setCell_other _ _ _ _ e, World.cell?_setCell_same _ _ _ h0]
  · rw [World.cell?_setCell_same _ _ _ ((World.cell?_setCell_other _ _ _ _ e.symm).trans h1)]

theorem names5 : ∀ v ∈ (#[Value.string ⟨#[97]⟩, Value.string ⟨#[98]⟩, Value.string ⟨#[102, 105, 108, 101, 46, 116, 120, 116]⟩, Value.string ⟨#[97, 98, 99, 100, 101, 102, 103, 104, 105, 106, 107, 108, 109, 110]⟩, Value.string ⟨#[120, 49]⟩] : Array Value).toList, IsTxt v := all_short (by rfl)
theorem names7 : ∀ v ∈ (#[Value.string ⟨#[]⟩, Value.string ⟨#[46]⟩, Value.string ⟨#[46, 46]⟩, Value.string ⟨#[65]⟩, Value.string ⟨#[97, 98, 99, 100, 101, 102, 103, 104, 105, 106, 107, 108, 109, 110, 111]⟩, Value.string ⟨#[97, 47, 98]⟩, Value.string ⟨#[46, 46, 46]⟩] : Array Value).toList, IsTxt v := all_short (by rfl)

set_option maxHeartbeats 4000000 in
theorem l03Entry (hcode : Given w0 a len) (h : St w0 w c a len cap) (hlen : len ≤ 1048576) :
    Calls Try.prog 66 #[.pointer (some ⟨c, 0, none⟩)] w fun e w' => (∃ (i : Int) (s : ByteArray), (Lit.int .i64 i).wf = true ∧ s.size ≤ 100 ∧ e = .returned (.agg #[.int .i64 i, .string s])) ∧ St w0 w' c a len cap ∧ w.grownBy w' (some c) := by
  have hcl := h.cur.lt
  have hn0 := h.new
  have k0 := K0.blk_new [.int .i64 0, .string ⟨#[]⟩] w 33
  have hs0 := h.below (K0.below_new w (.cells #[.int .i64 0, .string ⟨#[]⟩] 33))
  have g0 : w.grownBy (w.alloc (.cells #[.int .i64 0, .string ⟨#[]⟩] 33)) (some c) := grown_of_below (K0.below_new w _)
  go_enter Try.func66, Try.ntmps66
  go_wp2_with (first
    | (go_at_call 72; have q2' := q2; refine (below_any hcode q2.st hlen 10 (by omega) (by omega)).mono ?_; rintro e w3 ⟨⟨m, m0, m1, rfl⟩, s3, g3⟩; have q3 := q2.grown s3 g3; have c0 := q3.dev.c0; have c1 := q3.dev.c1; have f0 := q3.dev.f0; have f1 := q3.dev.f1; have r0 := q3.res.c0; have r1 := q3.res.c1; have r2 := q3.res.f0; have r3 := q3.res.f1)
    | (go_at_call 72; refine (below_any hcode hs0 hlen 7 (by omega) (by omega)).mono ?_; rintro e w1 ⟨⟨i, i0, i1, rfl⟩, s1, g1⟩; have k1 := blk_grown k0 g1 (by omega); have g1' := grown_trans g0 g1)
    | (go_at_call 101; have q3' := q3; refine (pickTxtNew hcode q3.st hlen names7 (show 0 < 7 by decide) (show 7 ≤ 100 by decide)).mono ?_; rintro e w4 ⟨⟨t, ht, rfl⟩, s4, g4⟩; have q4 := (q3.alloc _).grown s4 g4; have d0 := q4.dev.c0; have d1 := q4.dev.c1; have d2 := q4.dev.f1; have q5 := q4.put 1 (.string t); have d3 := q5.dev.c0; have d4 := q5.dev.c1; have d5 := q5.res.c0; have d6 := q5.res.c1; have d7 := q5.res.f0; have d8 := q5.res.f1)
    | (go_at_call 101; refine (pickTxtNew hcode s1 hlen names5 (show 0 < 5 by decide) (show 5 ≤ 100 by decide)).mono ?_; rintro e w2 ⟨⟨n, hn, rfl⟩, s2, g2⟩; have q2 := dv_new (vs := [.int .i64 (1 + i), .string n]) (T := 33) s2 hcl (Nat.le_trans hn0 (Nat.le_of_lt hcl)) (blk_grown (k1.below (K0.below_new _ _)) g2 (by omega)) (grown_trans (grown_below g1' (K0.below_new _ _)) g2))
    | (go_at_call 98; refine (pickNew hcode q3.st hlen eints (show 0 < 3 by decide) (show 3 ≤ 100 by decide)).mono ?_; rintro e w4 ⟨⟨z, wz, rfl⟩, s4, g4⟩; have q4 := (q3.alloc (.cells #[.int .i64 0, .int .i64 8, .int .i64 (-1)] 3)).grown s4 g4; have d0 := q4.dev.c0; have d1 := q4.dev.c1; have d2 := q4.dev.f0; have q5 := q4.put 0 (.int .i64 z); have d3 := q5.dev.c0; have d4 := q5.dev.c1; have d5 := q5.res.c0; have d6 := q5.res.c1; have d7 := q5.res.f0; have d8 := q5.res.f1))
  · have q := ret2v (u := .int .i64 (1 + i)) (v := .string t) q5.res.c0 q5.res.c1
    have qf := (q5.fin 0 (.int .i64 (1 + i))).fin 1 (.string t)
    exact bodyPost_ret (v := .agg #[.int .i64 (1 + i), .string t]) (by simp [results, Try.results66, go_sem, q.1, q.2]) rfl ⟨⟨1 + i, t, wf_of _ (by omega) (by omega), ht, rfl⟩, qf.st, qf.gr⟩
  · have q := ret2v (u := .int .i64 (z)) (v := .string n) q5.res.c0 q5.res.c1
    have qf := (q5.fin 0 (.int .i64 (z))).fin 1 (.string n)
    exact bodyPost_ret (v := .agg #[.int .i64 (z), .string n]) (by simp [results, Try.results66, go_sem, q.1, q.2]) rfl ⟨⟨z, n, wz, hn, rfl⟩, qf.st, qf.gr⟩
  · have q := ret2v (u := .int .i64 (1 + i)) (v := .string n) q3.res.c0 q3.res.c1
    have qf := (q3.fin 0 (.int .i64 (1 + i))).fin 1 (.string n)
    exact bodyPost_ret (v := .agg #[.int .i64 (1 + i), .string n]) (by simp [results, Try.results66, go_sem, q.1, q.2]) rfl ⟨⟨1 + i, n, wf_of _ (by omega) (by omega), hn, rfl⟩, qf.st, qf.gr⟩
end Go.Proofs.Ytifddipnboifnaa.C1
