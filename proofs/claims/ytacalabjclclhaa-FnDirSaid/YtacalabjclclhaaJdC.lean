/- Joined texts: plain facts and contracts, as each part says. -/
import Derived.Test.YtacalabjclclhaaJdA
import Derived.OpenShut
import Derived.ShutString
import Derived.ChangeSlices
import Derived.Test.YtacalabjclclhaaJdB
import Derived.Test.YtacalabjclclhaaJtE
import Derived.Deep.DeepCutAuto

/- A slice of bytes among a law's arguments; laws.big. -/
namespace Go.Proofs.Ytacalabjclclhaa.Q0
open Go.ChangeShapes Go.WideShapes Go.ChangeAt Go.RowKit
set_option linter.unusedVariables false
set_option linter.unusedSimpArgs false
set_option maxRecDepth 10000

theorem lt_of_cell {w : World} {b o : Nat} {v : Value} (h : w.cell? ⟨b, o, none⟩ = some v) : b < w.heap.size := by
  rcases Nat.lt_or_ge b w.heap.size with hlt | hge
  · exact hlt
  · unfold World.cell? at h
    rw [Array.getElem?_eq_none hge] at h
    simp at h

theorem open_code {H : Type} {enc : TypeId × Value → H} {w : World} {fuel : Nat} {v : Value} {x : DataW H × List MemPlace} (h : DataW.trod enc Try.prog w 0 (fun _ => true) true fuel 22 [v] = some x) :
    ∃ (a : Option Addr) (len cap : Nat), v = .slice a len cap ∧ C0.Given w a len := by
  rcases open_ints Try.underlying22 Try.underlying5 (by kernel_rfl) h with ⟨hcs, _⟩ | ⟨a, len, cap, zs, hcs, _, hl, hm, hz, _, hcell, hwz⟩
  · simp at hcs
    exact ⟨none, 0, 0, hcs, fun k hk => absurd hk (Nat.not_lt_zero _)⟩
  · simp at hcs hz
    refine ⟨some a, len, cap, hcs, fun k hk => ?_⟩
    obtain ⟨b, off, rfl, hc⟩ := ints_at hcell (by omega)
    have hck := hc k (by omega)
    have hmem : zs.getD k 0 ∈ zs := by
      rw [List.getD_eq_getElem?_getD, List.getElem?_eq_getElem (by omega : k < zs.length)]
      exact List.getElem_mem _
    have hwf := hwz _ hmem
    have hb : 0 ≤ zs.getD k 0 ∧ zs.getD k 0 ≤ 255 := by simpa [Lit.wf, IntKind.min, IntKind.max, IntKind.signed, IntKind.bits] using hwf
    exact ⟨b, off, zs.getD k 0, rfl, lt_of_cell hck, hb.1, by omega, hck⟩

theorem big_no (a : Option Addr) (len cap : Nat) (w : World) (hl : ¬ 1048576 < (len : Int)) : Calls Try.prog 17 #[.slice a len cap] w fun e w' => e = .returned (.bool false) ∧ w' = w := by
  have hl' : decide (1048576 < (len : Int)) = false := by simpa using hl
  go_enter Try.func17, Try.ntmps17
  go_wp2
  go_ret
  exact ⟨rfl, rfl⟩

theorem big_yes (a : Option Addr) (len cap : Nat) (w : World) (hl : 1048576 < (len : Int)) : Calls Try.prog 17 #[.slice a len cap] w fun e w' => e = .returned (.bool true) ∧ w' = w := by
  go_enter Try.func17, Try.ntmps17
  go_wp2
  go_ret
  exact ⟨rfl, rfl⟩
end Go.Proofs.Ytacalabjclclhaa.Q0

/- The walk of laws.FnDir: it answers true, and writes new memory alone. -/
namespace Go.Proofs.Ytacalabjclclhaa.D9
open Go.ChangeShapes Go.WideShapes Go.ChangeAt Go.RowKit C0 S0
set_option linter.unusedVariables false
set_option linter.unusedSimpArgs false

theorem tr {w wk w' : World} (f : Below w.heap.size w wk) (b : Below wk.heap.size wk w') : Below w.heap.size w w' := f.trans (b.mono f.size)

/-- What the law keeps: its rows of entries and of numbers, two inodes in their cells. -/
structure Fz (w : World) (p ax ay an am : Option Addr) (es E : List T0.Ent) (Z : List Int) (Bn Bm : Nat) (k o s : Int) (cn cm : Nat) (W : World) : Prop where
  r1 : T0.Row W p es
  r2 : T0.Row W ax E
  r3 : T0.Row W ay E
  r4 : P0.Row W an Z
  r5 : P0.Row W am Z
  k1 : K0.Blk Bn (I0.vals k o s an Z.length cn) W
  k2 : K0.Blk Bm (I0.vals k o s am Z.length cm) W
  bel : Below w.heap.size w W

theorem Fz.below {w W W' : World} {p ax ay an am : Option Addr} {es E : List T0.Ent} {Z : List Int} {Bn Bm : Nat} {k o s : Int} {cn cm : Nat} (h : Fz w p ax ay an am es E Z Bn Bm k o s cn cm W) (hb : Below W.heap.size W W') : Fz w p ax ay an am es E Z Bn Bm k o s cn cm W' :=
  ⟨h.r1.below hb, h.r2.below hb, h.r3.below hb, h.r4.below hb, h.r5.below hb, h.k1.below hb, h.k2.below hb, tr h.bel hb⟩

theorem below_drewN (W : World) (n : Nat) : Below W.heap.size W (W.drewN n) := K0.below_drewN (Below.refl _ _) n

theorem fits_dE {u : ByteArray} (hu : u.size ≤ 281474976710656) : T0.Fits (V0.dE u) := by
  unfold V0.dE
  split
  · exact V1.fits_ents u _ hu
  · exact fun j hj => by simp at hj

theorem dE_len (u : ByteArray) : (V0.dE u).length ≤ 13 := by
  unfold V0.dE
  split
  · rw [V0.ents_length]
    unfold V0.cnt
    omega
  · exact Nat.zero_le _

theorem lZ_len (m : ByteArray) (i : Int) : (O0.lZ m i).length ≤ 100 := by
  unfold O0.lZ
  split
  · unfold G0.gZ
    split
    · rw [G0.pgs_length]
      have := G0.cnt_le (O0.recd m i)
      omega
    · exact Nat.zero_le _
  · exact Nat.zero_le _

theorem not_nil {es : List T0.Ent} (h : ¬ (T0.putD es).toList = []) : (T0.putD es).size = es.length * 16 ∧ V0.isD (T0.putD es) = true ∧ V0.dE (T0.putD es) = es := by
  cases hd : T0.dirOk es with
  | true => exact Z0.dir_back hd
  | false =>
    exfalso
    apply h
    rw [T0.putD, hd, if_neg (by decide), Lib.toList_data]

set_option maxHeartbeats 0 in
set_option maxRecDepth 100000 in
theorem walk_small (a : Option Addr) (len cap : Nat) (w : World) (hc : Given w a len) (hl : len ≤ 1048576) :
    Calls Try.prog 4 #[.slice a len cap] w fun e w' => e = .returned (.bool true) ∧ Below w.heap.size w w' := by
  have hbig : ¬ 1048576 < (len : Int) := by omega
  go_enter Try.func4, Try.ntmps4
  go_upto_region 11 with (first
    | (go_at_call 17; refine (Q0.big_no a len cap w hbig).mono ?_; rintro e wb ⟨rfl, rfl⟩)
    | (go_at_call 38; refine (C1.draw_PutDir hc hl).mono ?_; rintro e w1 ⟨p, cp, es, hel, rfl, R1, hcp, hsh, f1⟩)
    | (go_at_call 39; refine (T2.impl_PutDir p cp es _ (by omega) hcp (C1.short_fits hsh) R1).mono ?_; rintro e w2 ⟨rfl, b2⟩; have R2 := R1.below b2; have f2 := tr f1 b2)
    | (go_at_call 40; refine (C1.draw_GetDir (hc.below f2) hl).mono ?_; rintro e w3 ⟨u, hu, rfl, b3⟩; have R3 := R2.below b3; have f3 := tr f2 b3)
    | (go_at_call 41; refine (V2.impl_GetDir u _ (by omega)).mono ?_; rintro e w4 ⟨ax, cx, rfl, ox, lx, b4⟩; have R4 := R3.below b4; have X4 := ox.row; have f4 := tr f3 b4)
    | (go_at_call 42; refine (V3.spec_GetDir u _ (by omega)).mono ?_; rintro e w5 ⟨ay, cy, rfl, oy, ly, b5⟩; have R5 := R4.below b5; have X5 := X4.below b5; have Y5 := oy.row; have f5 := tr f4 b5)
    | (go_at_call 43; refine (C1.draw_Load (hc.below f5) hl).mono ?_; rintro e w6 ⟨m, ino, hm, rfl, b6⟩; have R6 := R5.below b6; have X6 := X5.below b6; have Y6 := Y5.below b6; have f6 := tr f5 b6)
    | (go_at_call 44; refine (O3.impl_Load m ino _ (by omega)).mono ?_; rintro e w7 ⟨an, cn, rfl, o7, l7, b7⟩; have R7 := R6.below b7; have X7 := X6.below b7; have Y7 := Y6.below b7; have N7 := o7.row; have f7 := tr f6 b7)
    | (go_at_call 45; refine (O3.spec_Load m ino _ (by omega)).mono ?_; rintro e w8 ⟨am, cm, rfl, o8, l8, b8⟩; have hn := K0.below_new w7 (.cells #[.int .i64 (O0.lK m ino), .int .i64 (O0.lO m ino), .int .i64 (O0.lS m ino), .slice an (O0.lZ m ino).length cn] 26); have hm8 := K0.below_new w8 (.cells #[.int .i64 (O0.lK m ino), .int .i64 (O0.lO m ino), .int .i64 (O0.lS m ino), .slice am (O0.lZ m ino).length cm] 26); have fz : Fz wb p ax ay an am es (V0.dE u) (O0.lZ m ino) w7.heap.size w8.heap.size (O0.lK m ino) (O0.lO m ino) (O0.lS m ino) cn cm (w8.alloc (.cells #[.int .i64 (O0.lK m ino), .int .i64 (O0.lO m ino), .int .i64 (O0.lS m ino), .slice am (O0.lZ m ino).length cm] 26)) := ⟨((R7.below hn).below b8).below hm8, ((X7.below hn).below b8).below hm8, ((Y7.below hn).below b8).below hm8, ((N7.below hn).below b8).below hm8, (o8.row).below hm8, ((K0.blk_new (I0.vals (O0.lK m ino) (O0.lO m ino) (O0.lS m ino) an (O0.lZ m ino).length cn) w7 26).below b8).below hm8, K0.blk_new (I0.vals (O0.lK m ino) (O0.lO m ino) (O0.lS m ino) am (O0.lZ m ino).length cm) w8 26, tr (tr (tr f7 hn) b8) hm8⟩))
  have hE := dE_len u
  have hfE := fits_dE (u := u) (by omega)
  have hZl := lZ_len m ino
  have hput : V0.isD u = true → T0.putD (V0.dE u) = u := Z0.putD_get
  have hld : O0.isL m ino = true → ((O0.lD m ino).size : Int) = O0.lS m ino := load_size
  have hback := not_nil (es := es)
  have hfs := C1.short_fits hsh
  have hsz := C1.putD_size es
  have sP : Hid (∀ W, T0.Row W p es → Calls Try.prog 46 #[.slice p es.length cp] W fun e w' => e = .returned (.string (T0.putD es)) ∧ Below W.heap.size W w') := fun W hW => T3.spec_PutDir p cp es W (by omega) hcp hfs hW
  have iP : Hid (V0.isD u = true → ∀ W, T0.Row W ax (V0.dE u) → Calls Try.prog 39 #[.slice ax (V0.dE u).length cx] W fun e w' => e = .returned (.string u) ∧ Below W.heap.size W w') := fun hd W hW => (T2.impl_PutDir ax cx (V0.dE u) W (by omega) lx hfE hW).mono fun _ _ ⟨he, hb⟩ => ⟨by rw [he, hput hd], hb⟩
  obtain ⟨E, hE0⟩ : ∃ E, V0.dE u = E := ⟨_, rfl⟩
  obtain ⟨bd, hbd⟩ : ∃ b, V0.isD u = b := ⟨_, rfl⟩
  obtain ⟨bl, hbl⟩ : ∃ b, O0.isL m ino = b := ⟨_, rfl⟩
  obtain ⟨D, hD⟩ : ∃ D, O0.lD m ino = D := ⟨_, rfl⟩
  obtain ⟨Z, hZ⟩ : ∃ Z, O0.lZ m ino = Z := ⟨_, rfl⟩
  obtain ⟨k, hk⟩ : ∃ k, O0.lK m ino = k := ⟨_, rfl⟩
  obtain ⟨o, ho⟩ : ∃ o, O0.lO m ino = o := ⟨_, rfl⟩
  obtain ⟨s, hs⟩ : ∃ s, O0.lS m ino = s := ⟨_, rfl⟩
  obtain ⟨sv, hsv⟩ : ∃ sv, T0.putD es = sv := ⟨_, rfl⟩
  obtain ⟨Bn, hBn⟩ : ∃ B, w7.heap.size = B := ⟨_, rfl⟩
  obtain ⟨Bm, hBm⟩ : ∃ B, w8.heap.size = B := ⟨_, rfl⟩
  simp only [hE0, hbd, hbl, hD, hZ, hk, ho, hs, hsv, hBn, hBm] at fz hE hZl hld hback hsz sP iP ⊢
  obtain ⟨W9, hW9⟩ : ∃ W9, w8.alloc (.cells #[.int .i64 k, .int .i64 o, .int .i64 s, .slice am Z.length cm] 26) = W9 := ⟨_, rfl⟩
  rw [hW9] at fz ⊢
  have sE : Hid (∀ W, T0.Row W ax E → T0.Row W ay E → Calls Try.prog 47 #[.slice ax E.length cx, .slice ay E.length cy] W fun e w' => e = .returned (.bool true) ∧ ∃ n, w' = W.drewN n) := fun W h1 h2 => sameEntries ax ay cx cy E W (by omega) h1 h2
  have sE2 : Hid (∀ a5 c5 W, T0.Row W a5 es → T0.Row W p es → Calls Try.prog 47 #[.slice a5 es.length c5, .slice p es.length cp] W fun e w' => e = .returned (.bool true) ∧ ∃ n, w' = W.drewN n) := fun a5 c5 W h1 h2 => sameEntries a5 p c5 cp es W (by omega) h1 h2
  have sI : Hid (∀ W, P0.Row W an Z → P0.Row W am Z → Calls Try.prog 30 #[I0.val k o s an Z.length cn, I0.val k o s am Z.length cm] W fun e w' => e = .returned (.bool true) ∧ Below W.heap.size W w') := fun W h1 h2 => sameInode k o s an am cn cm Z W (by omega) h1 h2
  clear hW9 hE0 hbd hbl hD hZ hk ho hs hBn hBm hput hfE hfs hn hm8 R1 R2 R3 R4 R5 R6 R7 X4 X5 X6 X7 Y5 Y6 Y7 N7 f1 f2 f3 f4 f5 f6 f7 ox oy o7 o8 b2 b3 b4 b5 b6 b7 b8 lx ly l7 l8
  by_cases hse : sv.toList = []
  · have hse' : (sv.toList == []) = true := by rw [hse]; rfl
    clear hback
    cases bd <;> cases bl
    all_goals
      first
        | (have hds : ((D.size : Int) != s) = false := by rw [hld rfl]; simp)
        | skip
      clear hld
      go_wp2_with (first
        | (go_at_call 46; refine (sP.out _ fz.r1).mono ?_; rintro e v1 ⟨rfl, hb1⟩; have g1 := fz.below hb1)
        | (go_at_call 47; have g5' := g5; refine (sE2.out _ _ _ x5 g5.r1).mono ?_; rintro e v6 ⟨rfl, n6, rfl⟩; have g6 := g5.below (below_drewN _ n6))
        | (go_at_call 47; refine (sE.out _ g1.r2 g1.r3).mono ?_; rintro e v2 ⟨rfl, n2, rfl⟩; have g2 := g1.below (below_drewN _ n2); have r4 := g2.r4; have r5 := g2.r5; have c0 := g2.k1.c0; have c1 := g2.k1.c1; have c2 := g2.k1.c2; have c3 := g2.k1.c3; have d0 := g2.k2.c0; have d1 := g2.k2.c1; have d2 := g2.k2.c2; have d3 := g2.k2.c3)
        | (go_at_call 39; refine (iP.out (by trivial) _ g2.r2).mono ?_; rintro e v3 ⟨rfl, hb3⟩; have g3 := g2.below hb3; have r4 := g3.r4; have r5 := g3.r5; have c0 := g3.k1.c0; have c1 := g3.k1.c1; have c2 := g3.k1.c2; have c3 := g3.k1.c3; have d0 := g3.k2.c0; have d1 := g3.k2.c1; have d2 := g3.k2.c2; have d3 := g3.k2.c3)
        | (go_at_call 30; refine (sI.out _ (by assumption) (by assumption)).mono ?_; rintro e v4 ⟨rfl, hb4⟩; have g4 : Fz wb p ax ay an am es E Z Bn Bm k o s cn cm v4 := (by first | exact g3.below hb4 | exact g2.below hb4); have c2 := g4.k1.c2)
        | (go_at_call 41; refine (iG.out _).mono ?_; rintro e v5 ⟨a5, c5, rfl, x5, hb5⟩; have g5 := g4.below hb5))
      go_ret
      exact ⟨rfl, g4.bel⟩
  · obtain ⟨hb1, hb2, hb3⟩ := hback hse
    have hse' : (sv.toList == []) = false := by simpa using hse
    have iG : Hid (∀ W, Calls Try.prog 41 #[.string sv] W fun e w' => ∃ a5 c5, e = .returned (.tuple #[.slice a5 es.length c5, .bool true]) ∧ T0.Row w' a5 es ∧ Below W.heap.size W w') := fun W => (V2.impl_GetDir sv W (by omega)).mono fun e w' ⟨a5, c5, he, ho5, _, hb⟩ => ⟨a5, c5, by rw [he, hb2, hb3], by rw [hb3] at ho5; exact ho5.row, hb⟩
    have hw16 : IntKind.i64.wrap ((es.length : Int) * 16) = (es.length : Int) * 16 := C1.wrap_of _ (by omega) (by omega)
    have hlen16 : ((sv.size : Int) == (es.length : Int) * 16) = true := by rw [hb1]; simp
    clear hb2 hb3
    cases bd <;> cases bl
    all_goals
      first
        | (have hds : ((D.size : Int) != s) = false := by rw [hld rfl]; simp)
        | skip
      clear hld
      go_wp2_with (first
        | (go_at_call 46; refine (sP.out _ fz.r1).mono ?_; rintro e v1 ⟨rfl, hb1⟩; have g1 := fz.below hb1)
        | (go_at_call 47; have g5' := g5; refine (sE2.out _ _ _ x5 g5.r1).mono ?_; rintro e v6 ⟨rfl, n6, rfl⟩; have g6 := g5.below (below_drewN _ n6))
        | (go_at_call 47; refine (sE.out _ g1.r2 g1.r3).mono ?_; rintro e v2 ⟨rfl, n2, rfl⟩; have g2 := g1.below (below_drewN _ n2); have r4 := g2.r4; have r5 := g2.r5; have c0 := g2.k1.c0; have c1 := g2.k1.c1; have c2 := g2.k1.c2; have c3 := g2.k1.c3; have d0 := g2.k2.c0; have d1 := g2.k2.c1; have d2 := g2.k2.c2; have d3 := g2.k2.c3)
        | (go_at_call 39; refine (iP.out (by trivial) _ g2.r2).mono ?_; rintro e v3 ⟨rfl, hb3⟩; have g3 := g2.below hb3; have r4 := g3.r4; have r5 := g3.r5; have c0 := g3.k1.c0; have c1 := g3.k1.c1; have c2 := g3.k1.c2; have c3 := g3.k1.c3; have d0 := g3.k2.c0; have d1 := g3.k2.c1; have d2 := g3.k2.c2; have d3 := g3.k2.c3)
        | (go_at_call 30; refine (sI.out _ (by assumption) (by assumption)).mono ?_; rintro e v4 ⟨rfl, hb4⟩; have g4 : Fz wb p ax ay an am es E Z Bn Bm k o s cn cm v4 := (by first | exact g3.below hb4 | exact g2.below hb4); have c2 := g4.k1.c2)
        | (go_at_call 41; refine (iG.out _).mono ?_; rintro e v5 ⟨a5, c5, rfl, x5, hb5⟩; have g5 := g4.below hb5))
      go_ret
      exact ⟨rfl, g6.bel⟩

set_option maxRecDepth 100000 in
theorem walk (a : Option Addr) (len cap : Nat) (w : World) (hc : Given w a len) : Calls Try.prog 4 #[.slice a len cap] w fun e w' => e = .returned (.bool true) ∧ Below w.heap.size w w' := by
  by_cases hl : 1048576 < (len : Int)
  · go_enter Try.func4, Try.ntmps4
    go_wp2_with (go_at_call 17; refine (Q0.big_yes a len cap w hl).mono ?_; rintro e w1 ⟨rfl, rfl⟩)
    go_ret
    exact ⟨rfl, Below.refl _ _⟩
  · exact walk_small a len cap w hc (by omega)
end Go.Proofs.Ytacalabjclclhaa.D9
