/- The contract of spec.l02Dev: a device of about so many bytes; the cursor stays one. -/
import Derived.Test.YtkpcpffpiilcpaaDw0
import Derived.Test.YtkpcpffpiilcpaaZeros1
import Derived.Test.YtkpcpffpiilcpaaFls3
import Derived.Deep.DeepCutAuto
namespace Go.Proofs.Ytkpcpffpiilcpaa.C1
open Go.ChangeShapes Go.WideShapes Go.ChangeAt Go.RowKit C0
set_option linter.unusedVariables false
set_option linter.unusedSimpArgs false
set_option maxRecDepth 10000

theorem bytes_int {w0 w : World} {c : Nat} {a : Option Addr} {len cap : Nat} (hcode : Given w0 a len) (h : St w0 w c a len cap) (hlen : len ≤ 1048576) (n : Int) (h0 : 0 ≤ n) (h1 : n ≤ 1048576) :
    Calls Try.prog 38 #[.pointer (some ⟨c, 0, none⟩), .int .i64 n] w fun e w' => (∃ s : ByteArray, (s.size : Int) = n ∧ e = .returned (.string s)) ∧ St w0 w' c a len cap ∧ w.grownBy w' (some c) := by
  obtain ⟨m, rfl⟩ : ∃ m : Nat, n = (m : Int) := ⟨n.toNat, by omega⟩
  exact (bytes_grown hcode h hlen m (by omega)).mono fun e w' ⟨⟨s, hs, he⟩, h2⟩ => ⟨⟨s, by omega, he⟩, h2⟩

theorem laid_size (s : ByteArray) (i : Int) (t : ByteArray) : (B5.laid s i t).size = s.size := by
  unfold B5.laid
  split
  · rename_i h
    obtain ⟨h0, h1, h2⟩ := B2.lies_true h
    rw [ByteArray.size_append, ByteArray.size_append, ByteArray.size_extract, ByteArray.size_extract]
    omega
  · rfl

theorem stored_size (x y : ByteArray) (i : Int) (t : ByteArray) : (D2.stored x y i t).size = x.size := by
  unfold D2.stored
  split
  · exact laid_size _ _ _
  · rfl

theorem flushed_size {x y : ByteArray} (hy : y.size = 768) (i n : Int) : (F3.flushed x y i n).size = 768 := by
  unfold F3.flushed
  split
  · exact F3.fd_size _ _ _
  · exact hy

theorem wf_of (n : Int) (h0 : -9223372036854775808 ≤ n) (h1 : n ≤ 9223372036854775807) : (Lit.int .i64 n).wf = true := by
  simp [Lit.wf, IntKind.min, IntKind.max, IntKind.signed, IntKind.bits]
  omega

theorem wrap_of (n : Int) (h0 : -9223372036854775808 ≤ n) (h1 : n ≤ 9223372036854775807) : IntKind.i64.wrap n = n := by rw [IntKind.wrap_i64]; omega

variable {w0 w : World} {c : Nat} {a : Option Addr} {len cap : Nat}

theorem dStore {W : World} {R B : Nat} {x y : ByteArray} (hx : x.size = 768) (hy : y.size = 768) (i : Int) (t : ByteArray) (ht : t.size ≤ 1048576) (h : Dc w0 w c a len cap R B x y W) :
    Calls Try.prog 16 #[.agg #[.string x, .string y], .int .i64 i, .string t] W fun e w' => (∃ x' : ByteArray, x'.size = 768 ∧ e = .returned (.agg #[.string x', .string y])) ∧ Dc w0 w c a len cap R B x y w' :=
  (D2.spec_Store x y i t W (by omega) (by omega) (by omega)).mono fun e w' ⟨he, hb⟩ => ⟨⟨_, (stored_size x y i t).trans hx, he⟩, h.below hb⟩

theorem dFlush {W : World} {R B : Nat} {x y : ByteArray} (hx : x.size = 768) (hy : y.size = 768) (i n : Int) (wi : (Lit.int .i64 i).wf = true) (wn : (Lit.int .i64 n).wf = true) (h : Dc w0 w c a len cap R B x y W) :
    Calls Try.prog 17 #[.agg #[.string x, .string y], .int .i64 i, .int .i64 n] W fun e w' => (∃ y' : ByteArray, y'.size = 768 ∧ e = .returned (.agg #[.string x, .string y'])) ∧ Dc w0 w c a len cap R B x y w' :=
  (F3.spec_Flush x y i n W (by omega) (by omega) wi wn).mono fun e w' ⟨he, hb⟩ => ⟨⟨_, flushed_size hy i n, he⟩, h.below hb⟩

theorem dc_new {t : ByteArray} {w1 w4 : World} (h1 : St w0 w4 c a len cap) (hc : c < w.heap.size) (hw : w0.heap.size ≤ w.heap.size) (k4 : K0.Blk w.heap.size [.string ⟨#[]⟩, .string ⟨#[]⟩] w4) (g4 : w.grownBy w4 (some c)) :
    Dc w0 w c a len cap w.heap.size w4.heap.size t t (w4.alloc (.cells #[.string t, .string t] 25)) := by
  have l4 := k4.lt
  have hb := K0.below_new w4 (.cells #[.string t, .string t] 25)
  exact ⟨h1.below hb, k4.below hb, K0.blk_new [.string t, .string t] w4 25, ⟨by omega, by omega, by omega⟩, ⟨by omega, by omega, by omega, by omega⟩, grown_below g4 hb⟩

set_option maxHeartbeats 4000000 in
theorem l02Dev (hcode : Given w0 a len) (h : St w0 w c a len cap) (hlen : len ≤ 1048576) :
    Calls Try.prog 35 #[.pointer (some ⟨c, 0, none⟩)] w fun e w' => (∃ x y : ByteArray, x.size ≤ 1000 ∧ y.size ≤ 1000 ∧ e = .returned (.agg #[.string x, .string y])) ∧ St w0 w' c a len cap ∧ w.grownBy w' (some c) := by
  have hcl := h.cur.lt
  have hn0 := h.new
  have k0 := K0.blk_new [.string ⟨#[]⟩, .string ⟨#[]⟩] w 25
  have hs0 := h.below (K0.below_new w (.cells #[.string ⟨#[]⟩, .string ⟨#[]⟩] 25))
  have g0 : w.grownBy (w.alloc (.cells #[.string ⟨#[]⟩, .string ⟨#[]⟩] 25)) (some c) := grown_of_below (K0.below_new w _)
  obtain ⟨z, hz⟩ : ∃ z, B4.zeros 767 = z := ⟨_, rfl⟩
  have hzs : z.size = 767 := by rw [← hz, B4.zeros, if_pos (by omega), B4.nulls_size]; rfl
  have HZ : Hid (∀ W, Calls Try.prog 46 #[.int .i64 767] W fun e w' => e = .returned (.string z) ∧ W = w') := fun W => (B4.spec_Zeros 767 W).mono fun _ _ ⟨he, hb⟩ => ⟨by rw [he, hz], hb.symm⟩
  have HD : Hid (∀ (t : ByteArray) W, t.size = 768 → Calls Try.prog 15 #[.string t] W fun e w' => e = .returned (.tuple #[.agg #[.string t, .string t], .bool true]) ∧ Below W.heap.size W w') := fun t W ht => (D2.spec_DevOf t W (by omega)).mono fun _ _ ⟨he, hb⟩ => ⟨by rw [he]; exact congrArg _ (if_pos ht), hb⟩
  clear hz
  go_enter Try.func35, Try.ntmps35
  go_wp2_with (first
    | (go_at_call 38; refine (bytes_int hcode hs0 hlen 1 (by omega) (by omega)).mono ?_; rintro e w1 ⟨⟨s, hs, rfl⟩, s1, g1⟩; have k1 := M0.blk_grown k0 g1 (by omega); have g2 := grown_trans g0 g1; have hcat : s.size + z.size ≤ 9223372036854775807 := (by omega); have hcs : (s ++ z).size = 768 := (by rw [ByteArray.size_append]; omega))
    | (go_at_call 46; refine (HZ.out _).mono ?_; rintro e w2 ⟨rfl, rfl⟩)
    | (go_at_call 15; refine (HD.out _ _ hcs).mono ?_; rintro e w4 ⟨rfl, b4⟩; have d5 := dc_new (t := s ++ z) (w1 := w) (s1.below b4) hcl (Nat.le_trans (by omega) (Nat.le_of_lt hcl)) (k1.below b4) (grown_below g2 b4))
    | (go_at_call 37; refine (below_any hcode d5.st hlen 6 (by omega) (by omega)).mono ?_; rintro e w6 ⟨⟨m, m0, m1, rfl⟩, s6, g6⟩; have d6 := d5.grown s6 g6))
  obtain ⟨B, hB⟩ : ∃ B, w4.heap.size = B := ⟨_, rfl⟩
  rw [hB] at d6
  simp only [hB]
  clear hB d5 k0 hs0 g0 HZ HD s1 g1 k1 g2 b4 s6 g6
  go_loopw [6] (fun t w' => ∃ (k : Nat) (x y : ByteArray), (k : Int) ≤ m ∧ t = .int .i64 k ∧ x.size = 768 ∧ y.size = 768 ∧ Dc w0 w c a len cap w.heap.size B x y w') (fun t _ => m.toNat - (intOf t).toNat)
  case atStart => exact ⟨0, s ++ z, s ++ z, by omega, rfl, hcs, hcs, d6⟩
  case round =>
    obtain ⟨k, x, y, hk, rfl, hx, hy, hd⟩ := hrel
    clear d6
    by_cases hlt : (k : Int) < m
    · go_upto_if 26 with (first
        | (go_at_call 53; have q1' := q1; refine (once_any hcode q1.st hlen 4 (by omega) (by omega)).mono ?_; rintro e w2 ⟨⟨b2, rfl⟩, s2, g2⟩; have q2 := q1.grown s2 g2)
        | (go_at_call 37; refine (below_any hcode hd.st hlen 60 (by omega) (by omega)).mono ?_; rintro e w1 ⟨⟨at1, a10, a11, rfl⟩, s1, g1⟩; have q1 := hd.grown s1 g1))
      go_cut [7] (fun v wx => ∃ at2 : Int, 0 ≤ at2 ∧ at2 < 768 ∧ v = .int .i64 at2 ∧ Dc w0 w c a len cap w.heap.size B x y wx)
      case first =>
        go_wp2_with (go_at_call 37; refine (below_any hcode q2.st hlen 768 (by omega) (by omega)).mono ?_; rintro e w3 ⟨⟨at3, a30, a31, rfl⟩, s3, g3⟩; have q3 := q2.grown s3 g3)
        · go_meet
          exact ⟨at3, a30, a31, rfl, q3⟩
        · go_meet
          exact ⟨at1, a10, by omega, rfl, q2⟩
      case rest =>
        obtain ⟨at2, a20, a21, rfl, q2⟩ := hcut
        have wat : (Lit.int .i64 at2).wf = true := wf_of _ (by omega) (by omega)
        clear hd
        go_upto_region 9 with fail
        go_cut [] (fun wx => ∃ x' : ByteArray, x'.size = 768 ∧ Dc w0 w c a len cap w.heap.size B x' y wx)
        case first =>
          have qd := q2.drew
          have z0 := qd.dev.c0
          have z1 := qd.dev.c1
          go_region_with (first
            | (go_at_call 37; refine (below_any hcode qd.st hlen 9 (by omega) (by omega)).mono ?_; rintro e w5 ⟨⟨t5, t50, t51, rfl⟩, s5, g5⟩; have q5 := qd.grown s5 g5; have z2 := q5.dev.c0; have z3 := q5.dev.c1; have hw5 : IntKind.i64.wrap (1 + t5) = 1 + t5 := wrap_of _ (by omega) (by omega))
            | (go_at_call 38; refine (bytes_int hcode q5.st hlen (1 + t5) (by omega) (by omega)).mono ?_; rintro e w6 ⟨⟨u, hu, rfl⟩, s6, g6⟩; have q6 := q5.grown s6 g6; have z4 := q6.dev.c0; have z5 := q6.dev.c1)
            | (go_at_call 16; refine (dStore hx hy _ u (by omega) q6).mono ?_; rintro e w7 ⟨⟨x', hx', rfl⟩, q7⟩; have v0 := q7.dev.c0; have v1 := q7.dev.c1; have v2 := q7.dev.f0; have v3 := q7.dev.f1))
          all_goals (try go_wp2_with fail)
          all_goals go_meet
          all_goals exact ⟨x', hx', q7.put x' y⟩
        case rest =>
          obtain ⟨x', hx', q8⟩ := hcut
          clear q2
          go_wp2_with (go_at_call 53; refine (once_any hcode q8.st hlen 3 (by omega) (by omega)).mono ?_; rintro e w9 ⟨⟨b9, rfl⟩, s9, g9⟩; have q9 := q8.grown s9 g9)
          · have r0 := q9.drew
            have z0 := r0.dev.c0
            have z1 := r0.dev.c1
            go_region_with (first
              | (go_at_call 37; refine (below_any hcode r0.st hlen 9 (by omega) (by omega)).mono ?_; rintro e w10 ⟨⟨t6, t60, t61, rfl⟩, s10, g10⟩; have r1 := r0.grown s10 g10; have z2 := r1.dev.c0; have z3 := r1.dev.c1; have hw6 : IntKind.i64.wrap (1 + t6) = 1 + t6 := wrap_of _ (by omega) (by omega))
              | (go_at_call 17; refine (dFlush hx' hy _ (1 + t6) wat (wf_of _ (by omega) (by omega)) r1).mono ?_; rintro e w11 ⟨⟨y', hy', rfl⟩, r2⟩; have v0 := r2.dev.c0; have v1 := r2.dev.c1; have v2 := r2.dev.f0; have v3 := r2.dev.f1))
            all_goals
              have r3 := r2.put x' y'
              go_wp2
              go_roundw
              case rel => exact ⟨k + 1, x', y', by omega, by go_num, hx', hy', r3⟩
              case measure => simp [intOf]; omega
          · go_roundw
            case rel => exact ⟨k + 1, x', y, by omega, by go_num, hx', hy, q9⟩
            case measure => simp [intOf]; omega
    · have hkm : (k : Int) = m := by omega
      have c0 := hd.dev.c0
      have c1 := hd.dev.c1
      have hx1 : (1 : Int) ≤ (x.size : Int) := by omega
      go_wp2_with (go_at_call 37; refine (below_any hcode hd.st hlen 20 (by omega) (by omega)).mono ?_; rintro e w1 ⟨⟨sw, sw0, sw1, rfl⟩, s1, g1⟩; have q1 := hd.grown s1 g1; have z0 := q1.dev.c0; have z1 := q1.dev.c1; have z2 := q1.dev.f0; have z3 := q1.dev.f1; have r0 := q1.res.c0; have r1 := q1.res.c1; have r2 := q1.res.f0; have r3 := q1.res.f1; have p0 : ∀ v, (w1.setCell ⟨B, 0, none⟩ (.string v)).cell? ⟨w.heap.size, 0, none⟩ = some (.string ⟨#[]⟩) := (fun v => (q1.put0 v).res.c0); have p1 : ∀ v, (w1.setCell ⟨B, 0, none⟩ (.string v)).cell? ⟨w.heap.size, 1, none⟩ = some (.string ⟨#[]⟩) := (fun v => (q1.put0 v).res.c1); have p2 : ∀ v, (w1.setCell ⟨B, 1, none⟩ (.string v)).cell? ⟨w.heap.size, 0, none⟩ = some (.string ⟨#[]⟩) := (fun v => (q1.put1 v).res.c0); have p3 : ∀ v, (w1.setCell ⟨B, 1, none⟩ (.string v)).cell? ⟨w.heap.size, 1, none⟩ = some (.string ⟨#[]⟩) := (fun v => (q1.put1 v).res.c1); have hy2 : y.size + 1 ≤ 9223372036854775807 := (by omega))
      · have hp := q1.put0 (x.extract 1 768)
        have q := D2.ret2 (a := x.extract 1 768) (b := y) hp.res.c0 hp.res.c1
        exact bodyPost_ret (v := .agg #[.string (x.extract 1 768), .string y]) (by simp [results, Try.results35, go_sem, q.1, q.2]) rfl ⟨⟨_, _, by rw [ByteArray.size_extract]; omega, by omega, rfl⟩, hp.fin _ _⟩
      · have hp := q1.put1 (y ++ ⟨#[120]⟩)
        have q := D2.ret2 (a := x) (b := y ++ ⟨#[120]⟩) hp.res.c0 hp.res.c1
        exact bodyPost_ret (v := .agg #[.string x, .string (y ++ ⟨#[120]⟩)]) (by simp [results, Try.results35, go_sem, q.1, q.2]) rfl ⟨⟨_, _, by omega, by rw [ByteArray.size_append, hy]; decide, rfl⟩, hp.fin _ _⟩
      · have q := D2.ret2 (a := x) (b := y) r0 r1
        exact bodyPost_ret (v := .agg #[.string x, .string y]) (by simp [results, Try.results35, go_sem, q.1, q.2]) rfl ⟨⟨_, _, by omega, by omega, rfl⟩, q1.fin _ _⟩
end Go.Proofs.Ytkpcpffpiilcpaa.C1
