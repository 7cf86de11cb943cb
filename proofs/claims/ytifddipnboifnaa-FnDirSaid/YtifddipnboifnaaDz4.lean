/- The draws of laws.FnDir, and the laws' own comparisons over entries, numbers and inodes. -/
import Derived.Test.YtifddipnboifnaaDz3
import Derived.Test.YtifddipnboifnaaGdr2
import Derived.Test.YtifddipnboifnaaGdr3
import Derived.Test.YtifddipnboifnaaLoad3
import Derived.Test.YtifddipnboifnaaRt0
import Derived.Deep.QuietTactic
import Derived.BigQuiet
namespace Go.Proofs.Ytifddipnboifnaa.C1
open Go.ChangeShapes Go.WideShapes Go.ChangeAt Go.RowKit C0
set_option linter.unusedVariables false
set_option linter.unusedSimpArgs false
set_option maxRecDepth 10000
variable {w : World} {a : Option Addr} {len cap : Nat}

theorem draw_PutDir (hcode : Given w a len) (hlen : len ≤ 1048576) :
    Calls Try.prog 31 #[.slice a len cap] w fun e w' => ∃ (p : Option Addr) (cp : Nat) (es : List T0.Ent), es.length ≤ 13 ∧ e = .returned (.slice p es.length cp) ∧ T0.Row w' p es ∧ es.length ≤ cp ∧ Short es ∧ Below w.heap.size w w' := by
  go_enter Try.func31, Try.ntmps31
  go_wp2_with (first
    | (go_at_call 58; refine (new_any hcode hlen).mono ?_; rintro e w1 ⟨c, rfl, s1⟩)
    | (go_at_call 80; refine (l03Dir hcode s1 hlen).mono ?_; rintro e w2 ⟨p, cp, es, hel, rfl, ho, hcp, hsh, s2, g2⟩))
  go_ret
  exact ⟨p, cp, es, hel, rfl, ho.row, hcp, hsh, s2.bel⟩

theorem draw_GetDir (hcode : Given w a len) (hlen : len ≤ 1048576) :
    Calls Try.prog 33 #[.slice a len cap] w fun e w' => ∃ s : ByteArray, s.size ≤ 100100 ∧ e = .returned (.string s) ∧ Below w.heap.size w w' := by
  go_enter Try.func33, Try.ntmps33
  go_wp2_with (first
    | (go_at_call 58; refine (new_any hcode hlen).mono ?_; rintro e w1 ⟨c, rfl, s1⟩)
    | (go_at_call 80; refine (l03Dir hcode s1 hlen).mono ?_; rintro e w2 ⟨p, cp, es, hel, rfl, ho, hcp, hsh, s2, g2⟩)
    | (go_at_call 39; refine (T3.spec_PutDir p cp es _ (by omega) hcp (short_fits hsh) ho.row).mono ?_; rintro e w3 ⟨rfl, b3⟩; have s3 := s2.below b3; have hd := putD_size es)
    | (go_at_call 60; refine (l03Spoil hcode s3 hlen _ (by omega)).mono ?_; rintro e w4 ⟨⟨t, ht, rfl⟩, s4, g4⟩))
  go_ret
  exact ⟨t, ht, rfl, s4.bel⟩

theorem draw_Load (hcode : Given w a len) (hlen : len ≤ 1048576) :
    Calls Try.prog 36 #[.slice a len cap] w fun e w' => ∃ (s : ByteArray) (i : Int), s.size ≤ 768 ∧ e = .returned (.tuple #[.string s, .int .i64 i]) ∧ Below w.heap.size w w' := by
  go_enter Try.func36, Try.ntmps36
  go_wp2_with (first
    | (go_at_call 58; refine (new_any hcode hlen).mono ?_; rintro e w1 ⟨c, rfl, s1⟩)
    | (go_at_call 82; refine (l03Mem hcode s1 hlen).mono ?_; rintro e w2 ⟨⟨u, hu, rfl⟩, s2, g2⟩)
    | (go_at_call 72; refine (below_any hcode s2 hlen 5 (by omega) (by omega)).mono ?_; rintro e w3 ⟨⟨x, x0, x1, rfl⟩, s3, g3⟩))
  go_ret2
  exact ⟨u, _, hu, rfl, s3.bel⟩
end Go.Proofs.Ytifddipnboifnaa.C1

namespace Go.Proofs.Ytifddipnboifnaa.S0
open Go.ChangeShapes Go.WideShapes Go.ChangeAt Go.RowKit
set_option linter.unusedVariables false
set_option linter.unusedSimpArgs false
set_option maxRecDepth 10000

theorem sameInts (a1 a2 : Option Addr) (c1 c2 : Nat) (zs : List Int) (w : World) (hn : zs.length ≤ 281474976710656) (h1 : P0.Row w a1 zs) (h2 : P0.Row w a2 zs) :
    Calls Try.prog 75 #[.slice a1 zs.length c1, .slice a2 zs.length c2] w fun e w' => e = .returned (.bool true) ∧ ∃ n, w' = w.drewN n := by
  go_enter Try.func75, Try.ntmps75
  go_wp2
  go_loopw [5] (fun i w' => ∃ k n : Nat, k ≤ zs.length ∧ w' = w.drewN n ∧ i = .int .i64 k) (fun i _ => zs.length - (intOf i).toNat)
  case atStart => exact ⟨0, 0, Nat.zero_le _, rfl, rfl⟩
  case round =>
    obtain ⟨k, n, hk, rfl, rfl⟩ := hrel
    by_cases hlt : k < zs.length
    · have e1 : (0 : Int) ≤ (k : Int) := by omega
      have e2 : (k : Int) < (zs.length : Int) := by omega
      obtain ⟨b1, off1, rfl, hb1, hc1⟩ := h1.get hlt
      obtain ⟨b2, off2, rfl, hb2, hc2⟩ := h2.get hlt
      have x1 := hc1 k hlt
      have x2 := hc2 k hlt
      obtain ⟨z, ez⟩ : ∃ z, zs.getD k 0 = z := ⟨_, rfl⟩
      rw [ez] at x1 x2
      clear ez hc1 hc2 h1 h2
      go_wp2
      go_quiet (fail)
      go_wp2
      go_roundw
      case rel => exact ⟨k + 1, _, by omega, rfl, by go_num⟩
      case measure => simp [intOf]; omega
    · clear h1 h2
      go_wp2
      go_ret
      exact ⟨rfl, _, rfl⟩

set_option maxHeartbeats 2000000 in
theorem sameEntries (a1 a2 : Option Addr) (c1 c2 : Nat) (es : List T0.Ent) (w : World) (hn : es.length ≤ 1048576) (h1 : T0.Row w a1 es) (h2 : T0.Row w a2 es) :
    Calls Try.prog 40 #[.slice a1 es.length c1, .slice a2 es.length c2] w fun e w' => e = .returned (.bool true) ∧ ∃ n, w' = w.drewN n := by
  go_enter Try.func40, Try.ntmps40
  go_wp2
  go_loopw [5] (fun i w' => ∃ k n : Nat, k ≤ es.length ∧ w' = w.drewN n ∧ i = .int .i64 k) (fun i _ => es.length - (intOf i).toNat)
  case atStart => exact ⟨0, 0, Nat.zero_le _, rfl, rfl⟩
  case round =>
    obtain ⟨k, n, hk, rfl, rfl⟩ := hrel
    by_cases hlt : k < es.length
    · have e1 : (0 : Int) ≤ (k : Int) := by omega
      have e2 : (k : Int) < (es.length : Int) := by omega
      obtain ⟨b1, off1, rfl, hb1, hc1⟩ := h1.get hlt
      obtain ⟨b2, off2, rfl, hb2, hc2⟩ := h2.get hlt
      have x1 := (hc1 k hlt).1
      have x2 := (hc1 k hlt).2
      have x3 := (hc2 k hlt).1
      have x4 := (hc2 k hlt).2
      obtain ⟨z, ez⟩ : ∃ z, T0.ent es k = z := ⟨_, rfl⟩
      rw [ez] at x1 x2 x3 x4
      obtain ⟨u, v⟩ := z
      simp only at x1 x2 x3 x4
      clear ez hc1 hc2 h1 h2
      go_wp2
      go_quiet (fail)
      go_wp2
      go_roundw
      case rel => exact ⟨k + 1, _, by omega, rfl, by go_num⟩
      case measure => simp [intOf]; omega
    · clear h1 h2
      go_wp2
      go_ret
      exact ⟨rfl, _, rfl⟩

set_option maxHeartbeats 2000000 in
theorem sameInode (k o s : Int) (a1 a2 : Option Addr) (c1 c2 : Nat) (zs : List Int) (w : World) (hn : zs.length ≤ 1048576) (h1 : P0.Row w a1 zs) (h2 : P0.Row w a2 zs) :
    Calls Try.prog 23 #[I0.val k o s a1 zs.length c1, I0.val k o s a2 zs.length c2] w fun e w' => e = .returned (.bool true) ∧ Below w.heap.size w w' := by
  have k1 := (K0.blk_new (I0.vals k o s a1 zs.length c1) w 26).alloc (.cells #[.int .i64 k, .int .i64 o, .int .i64 s, .slice a2 zs.length c2] 26)
  have k2 := K0.blk_at (I0.vals k o s a2 zs.length c2) (w.alloc (.cells #[.int .i64 k, .int .i64 o, .int .i64 s, .slice a1 zs.length c1] 26)) 26 (World.size_alloc _ _)
  have l0 := (K0.below_new w (.cells #[.int .i64 k, .int .i64 o, .int .i64 s, .slice a1 zs.length c1] 26)).alloc (by simp) (.cells #[.int .i64 k, .int .i64 o, .int .i64 s, .slice a2 zs.length c2] 26)
  have r1 := h1.below l0
  have r2 := h2.below l0
  have x0 := k1.c0
  have x1 := k1.c1
  have x2 := k1.c2
  have x3 := k1.c3
  have y0 := k2.c0
  have y1 := k2.c1
  have y2 := k2.c2
  have y3 := k2.c3
  go_enter Try.func23, Try.ntmps23
  go_wp2_with (go_at_call 75; refine (sameInts a1 a2 c1 c2 zs _ (by omega) r1 r2).mono ?_; rintro e w3 ⟨rfl, n, rfl⟩)
  go_ret
  exact ⟨rfl, K0.below_drewN l0 n⟩

theorem load_size {mem : ByteArray} {i : Int} (h : O0.isL mem i = true) : ((O0.lD mem i).size : Int) = O0.lS mem i := by
  have hl := h
  simp only [O0.isL, Bool.and_eq_true, decide_eq_true_eq] at hl
  obtain ⟨_, _, h3, _, h5⟩ := O0.l_yes h
  obtain ⟨⟨g0, g1⟩, g2, g3, g4, _⟩ := O0.got hl.2.1
  have hj := O0.joined_size hl.1 g4 _ (Nat.le_refl _)
  rw [h3, h5, ByteArray.size_extract, hj]
  omega
end Go.Proofs.Ytifddipnboifnaa.S0
