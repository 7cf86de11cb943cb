/- Joined texts: plain facts and contracts. -/
import Derived.Test.YtljnkicgahepfaaGreatDoorJlO
import Derived.Deep.RegionHeld3
import Derived.RegionTactic
import Derived.Test.YtljnkicgahepfaaGreatDoorJlP
import Derived.Deep.RegionLaw
import Derived.Test.YtljnkicgahepfaaGreatDoorJlI
set_option linter.unusedVariables false
set_option linter.unusedSimpArgs false
set_option maxRecDepth 10000
namespace Go.Proofs.YtljnkicgahepfaaGreatDoor.O2
open Go.ChangeShapes Go.WideShapes Go.ChangeAt Go.RowKit
open I0 (val vals)
def Ans (mem : ByteArray) (i : Int) (w : World) (e : Ending) (w' : World) : Prop :=
 ∃ a c, e = .returned (.tuple #[val (O0.lK mem i) (O0.lO mem i) (O0.lS mem i) a (O0.lZ mem i).length c, .string (O0.lD mem i), .bool (O0.isL mem i)]) ∧ J0.Own w.heap.size w' a (O0.lZ mem i) ∧ (O0.lZ mem i).length ≤ c ∧ Below w.heap.size w w'
theorem ans_no {mem : ByteArray} {i : Int} {w w' : World} (h : O0.isL mem i = false) (hb : Below w.heap.size w w') : Ans mem i w (.returned (.tuple #[val 0 0 0 none 0 0, .string ⟨#[]⟩, .bool false])) w' := by
 obtain ⟨h1, h2, h3, h4, h5⟩ := O0.l_no h
 exact ⟨none, 0, by rw [h1, h2, h3, h4, h5, h]; rfl, by rw [h4]; exact Or.inl rfl, by rw [h4]; exact Nat.le_refl _, hb⟩
theorem ans_yes {mem : ByteArray} {i : Int} {w w' : World} {a : Option Addr} {c : Nat} (h : O0.isL mem i = true) (ho : J0.Own w.heap.size w' a (G0.gZ (O0.recd mem i))) (hc : (G0.gZ (O0.recd mem i)).length ≤ c) (hb : Below w.heap.size w w') :
  Ans mem i w (.returned (.tuple #[val (G0.gK (O0.recd mem i)) (G0.gO (O0.recd mem i)) (G0.gS (O0.recd mem i)) a (G0.gZ (O0.recd mem i)).length c, .string ((O0.joined mem (G0.gZ (O0.recd mem i)) (G0.gZ (O0.recd mem i)).length).extract 0 (G0.gS (O0.recd mem i)).toNat), .bool true])) w' := by
 obtain ⟨h1, h2, h3, h4, h5⟩ := O0.l_yes h
 exact ⟨a, c, by rw [h1, h2, h3, h4, h5, h], by rw [h4]; exact ho, by rw [h4]; exact hc, hb⟩
structure Ls (w : World) (B : Nat) (k o s : Int) (a : Option Addr) (zs : List Int) (c : Nat) (W : World) : Prop where
 rs : G3.Rs w a zs W
 nb : K0.Blk B (vals k o s a zs.length c) W
 ne : w.heap.size < B
variable {w W W' : World} {B : Nat} {k o s : Int} {a : Option Addr} {zs : List Int} {c : Nat}
theorem Ls.below (h : Ls w B k o s a zs c W) (hb : Below W.heap.size W W') : Ls w B k o s a zs c W' := ⟨h.rs.below hb, h.nb.below hb, h.ne⟩
theorem Ls.drew (h : Ls w B k o s a zs c W) : Ls w B k o s a zs c W.drew := ⟨⟨h.rs.res.drew, h.rs.own.drew, h.rs.bel.drew⟩, h.nb.drew, h.ne⟩
theorem ls_new (h : G3.Rs w a zs W) : Ls w W.heap.size k o s a zs c (W.alloc (.cells #[.int .i64 k, .int .i64 o, .int .i64 s, .slice a zs.length c] 143)) :=
 ⟨h.below (K0.below_new _ _), K0.blk_new (vals k o s a zs.length c) W 143, h.res.lt⟩
end Go.Proofs.YtljnkicgahepfaaGreatDoor.O2
namespace Go.Proofs.YtljnkicgahepfaaGreatDoor.O3
open Go.ChangeShapes Go.WideShapes Go.ChangeAt Go.RowKit
open I0 (val vals)
open O2 (Ans ans_no ans_yes)
open O2 (Ls ls_new)
set_option maxHeartbeats 4000000 in
theorem spec_Load (mem : ByteArray) (i : Int) (w : World) (hms : mem.size ≤ 281474976710656) : Calls Tryz.prog 116 #[.string mem, .int .i64 i] w (Ans mem i w) := by
 have hrs := O0.recd_size mem i hms
 have hG : Hid (∀ W, Calls Tryz.prog 182 #[.string (O0.recd mem i)] W (G3.Ans (O0.recd mem i) W)) := fun W => G4.spec_GetInode _ _ hrs
 have hRc : Hid (∀ W, Calls Tryz.prog 120 #[.string mem, .int .i64 i] W fun e w' => e = .returned (.string (O0.recd mem i)) ∧ w' = W) := fun W => O1.l03Rec mem i W hms
 by_cases hL : O0.isL mem i = true
 ·have hl := hL
  simp only [O0.isL, Bool.and_eq_true, decide_eq_true_eq, Bool.not_eq_true'] at hl
  obtain ⟨hm, hI, hk⟩ := hl
  have hk' : ¬ B1.byteAt (O0.recd mem i) 0 = 0 := of_decide_eq_false hk
  have g8 : ((mem.size : Int) != 768) = false := by simp; omega
  have hg := O0.got hI
  have hK0 : (G0.gK (O0.recd mem i) == 0) = false := by
   rw [(G0.g_yes hI).1]
   simpa using hk'
  have HF : Hid (∀ a c w', J0.Own w.heap.size w' a (G0.gZ (O0.recd mem i)) → (G0.gZ (O0.recd mem i)).length ≤ c → Below w.heap.size w w' → Ans mem i w (.returned (.tuple #[val (G0.gK (O0.recd mem i)) (G0.gO (O0.recd mem i)) (G0.gS (O0.recd mem i)) a (G0.gZ (O0.recd mem i)).length c, .string ((O0.joined mem (G0.gZ (O0.recd mem i)) (G0.gZ (O0.recd mem i)).length).extract 0 (G0.gS (O0.recd mem i)).toNat), .bool true])) w') := fun a c w' => ans_yes hL
  have hA : Hid (∀ W e w', G3.Ans (O0.recd mem i) W e w' → ∃ a c, e = .returned (.tuple #[val (G0.gK (O0.recd mem i)) (G0.gO (O0.recd mem i)) (G0.gS (O0.recd mem i)) a (G0.gZ (O0.recd mem i)).length c, .bool true]) ∧ J0.Own W.heap.size w' a (G0.gZ (O0.recd mem i)) ∧ (G0.gZ (O0.recd mem i)).length ≤ c ∧ Below W.heap.size W w') := fun W e w' ⟨a, c, he, ho, hc, hb⟩ => ⟨a, c, by rw [he, hI], ho, hc, hb⟩
  clear hk hk' hL hI hrs
  obtain ⟨R, hR⟩ : ∃ R, O0.recd mem i = R := ⟨_, rfl⟩
  rw [hR] at hg HF hA hG hRc hK0
  obtain ⟨K, hK⟩ : ∃ K, G0.gK R = K := ⟨_, rfl⟩
  obtain ⟨O, hO⟩ : ∃ O, G0.gO R = O := ⟨_, rfl⟩
  obtain ⟨S, hS⟩ : ∃ S, G0.gS R = S := ⟨_, rfl⟩
  obtain ⟨Z, hZ⟩ : ∃ Z, G0.gZ R = Z := ⟨_, rfl⟩
  rw [hK, hO, hS, hZ] at HF hA
  rw [hK, hS, hZ] at hg
  rw [hK] at hK0
  obtain ⟨⟨s0, s1⟩, zl, s2, hp, -⟩ := hg
  clear hK hO hS hZ hR
  go_enter Tryz.func116, Tryz.ntmps116
  go_wp2_with (first
   | (go_at_call 120; refine (hRc.out _).mono ?_; rintro e w' ⟨rfl, rfl⟩)
   | (go_at_call 182; refine (hG.out _).mono ?_; intro e w1 hans; obtain ⟨a, c, rfl, ho, hc, b1⟩ := hA.out _ _ _ hans; clear hans; have r1 : G3.Rs w a Z w1 := G3.rs_new b1 ho; have l1 := ls_new (k := K) (o := O) (s := S) (c := c) r1))
  obtain ⟨W1, hW1⟩ : ∃ W1, w1.alloc (.cells #[.int .i64 K, .int .i64 O, .int .i64 S, .slice a Z.length c] 143) = W1 := ⟨_, rfl⟩
  rw [hW1] at l1 ⊢
  have x0 := l1.nb.c0
  have x1 := l1.nb.c1
  have x2 := l1.nb.c2
  have x3 := l1.nb.c3
  clear hW1 b1 ho r1
  go_loop [9, 10] (fun t j => ∃ k : Nat, k ≤ Z.length ∧ j = .int .i64 k ∧ t = .string (O0.joined mem Z k)) (fun _ j => Z.length - (intOf j).toNat)
  case atStart => exact ⟨0, Nat.zero_le _, rfl, rfl⟩
  case round =>
   obtain ⟨k, hk, rfl, rfl⟩ := hrel
   have hjs := O0.joined_size hm hp k hk
   by_cases hlt : k < Z.length
   ·obtain ⟨b, off, rfl, hb, hcell⟩ := l1.rs.own.row.get hlt
    have y1 := hcell k hlt
    have hz := R0.pages_bounds hp hlt
    have hu : O0.joined mem Z (k + 1) = O0.joined mem Z k ++ B2.part mem (Z.getD k 0 * 32) 32 := rfl
    obtain ⟨z, ez⟩ : ∃ z, Z.getD k 0 = z := ⟨_, rfl⟩
    rw [ez] at y1 hz hu
    have hps := O0.page_size hm hz.1 hz.2
    have e1 : (0 : Int) ≤ (k : Int) := by omega
    have e2 : (k : Int) < (Z.length : Int) := by omega
    have zz : 32 * k + 32 ≤ 9223372036854775807 := by omega
    have hpg : Hid (∀ W, Calls Tryz.prog 110 #[.string mem, .int .i64 z] W fun e w' => e = .returned (.string (B2.part mem (z * 32) 32)) ∧ W = w') := fun W => (O1.l03Page mem z W hms hz.1 hz.2).mono fun _ _ h => ⟨h.1, h.2.symm⟩
    have HU : Hid (O0.joined mem Z (k + 1) = O0.joined mem Z k ++ B2.part mem (z * 32) 32) := hu
    clear hu ez hcell hz
    go_wp2_with (go_at_call 110; refine (hpg.out _).mono ?_; rintro e w' ⟨rfl, rfl⟩)
    go_round
    case rel => exact ⟨k + 1, by omega, by go_num, by rw [HU.out]⟩
    case measure => simp [intOf]; omega
   ·obtain rfl : k = Z.length := by omega
    have i1 : S ≤ 32 * (Z.length : Int) := s2
    have c0 := l1.rs.res.c0
    have c1 := l1.rs.res.c1
    have c2 := l1.rs.res.c2
    have c3 := l1.rs.res.c3
    have f0 := l1.rs.res.f0
    have f1 := l1.rs.res.f1
    have f2 := l1.rs.res.f2
    have f3 := l1.rs.res.f3
    have i2 : S ≤ ((32 * Z.length : Nat) : Int) := by omega
    have hnb := (((l1.nb.setOther (B' := w.heap.size) (by have := l1.ne; omega) 0 (.int .i64 K)).setOther (B' := w.heap.size) (by have := l1.ne; omega) 1 (.int .i64 O)).setOther (B' := w.heap.size) (by have := l1.ne; omega) 2 (.int .i64 S)).setOther (B' := w.heap.size) (by have := l1.ne; omega) 3 (.slice a Z.length c)
    have y2 := hnb.c2
    clear hnb
    go_wp2
    go_region
    all_goals
     have q := l1.rs.res.put4 (.int .i64 K) (.int .i64 O) (.int .i64 S) (.slice a Z.length c)
     have d := l1.rs.done (.int .i64 K) (.int .i64 O) (.int .i64 S) (.slice a Z.length c)
     go_wp2
     refine bodyPost_ret (v := .tuple #[val K O S a Z.length c, .string ((O0.joined mem Z Z.length).extract 0 S.toNat), .bool true]) (by simp [results, Tryz.results116, go_sem, q.c0, q.c1, q.c2, q.c3]) rfl (HF.out _ _ _ ?_ hc ?_)
     ·exact d.1.drew
     ·exact d.2.drew
 ·have hL' : O0.isL mem i = false := by simpa using hL
  have HF : Hid (∀ w', Below w.heap.size w w' → Ans mem i w (.returned (.tuple #[val 0 0 0 none 0 0, .string ⟨#[]⟩, .bool false])) w') := fun w' => ans_no hL'
  have hA : Hid (∀ W e w', G3.Ans (O0.recd mem i) W e w' → ∃ a c, e = .returned (.tuple #[val (G0.gK (O0.recd mem i)) (G0.gO (O0.recd mem i)) (G0.gS (O0.recd mem i)) a (G0.gZ (O0.recd mem i)).length c, .bool (G0.isI (O0.recd mem i))]) ∧ J0.Own W.heap.size w' a (G0.gZ (O0.recd mem i)) ∧ (G0.gZ (O0.recd mem i)).length ≤ c ∧ Below W.heap.size W w') := fun W e w' h => h
  have hcase : ((mem.size : Int) != 768) = true ∨ (((mem.size : Int) != 768) = false ∧ G0.isI (O0.recd mem i) = false) ∨ (((mem.size : Int) != 768) = false ∧ G0.isI (O0.recd mem i) = true ∧ (G0.gK (O0.recd mem i) == 0) = true) := by
   by_cases hm : mem.size = 768
   ·right
    have g8 : ((mem.size : Int) != 768) = false := by simp; omega
    cases hI : G0.isI (O0.recd mem i) with
    | false => exact Or.inl ⟨g8, rfl⟩
    | true =>
     refine Or.inr ⟨g8, rfl, ?_⟩
     rw [(G0.g_yes hI).1]
     by_cases h0 : B1.byteAt (O0.recd mem i) 0 = 0
     ·simpa using h0
     ·rw [O0.isL_of hm hI h0] at hL'
      cases hL'
   ·left
    simp
    omega
  clear hL hL' hrs
  obtain ⟨R, hR⟩ : ∃ R, O0.recd mem i = R := ⟨_, rfl⟩
  rw [hR] at hA hG hRc hcase
  obtain ⟨K, hK⟩ : ∃ K, G0.gK R = K := ⟨_, rfl⟩
  obtain ⟨O, hO⟩ : ∃ O, G0.gO R = O := ⟨_, rfl⟩
  obtain ⟨S, hS⟩ : ∃ S, G0.gS R = S := ⟨_, rfl⟩
  obtain ⟨Z, hZ⟩ : ∃ Z, G0.gZ R = Z := ⟨_, rfl⟩
  rw [hK, hO, hS, hZ] at hA
  rw [hK] at hcase
  clear hK hO hS hZ hR
  rcases hcase with g8 | ⟨g8, gI⟩ | ⟨g8, gI, gK⟩
  all_goals
   go_enter Tryz.func116, Tryz.ntmps116
   go_wp2_with (first
    | (go_at_call 120; refine (hRc.out _).mono ?_; rintro e w' ⟨rfl, rfl⟩)
    | (go_at_call 182; refine (hG.out _).mono ?_; intro e w1 hans; obtain ⟨a, c, rfl, ho, hc, b1⟩ := hA.out _ _ _ hans; clear hans; have r1 : G3.Rs w a Z w1 := G3.rs_new b1 ho; have l1 := ls_new (k := K) (o := O) (s := S) (c := c) r1; have x0 := l1.nb.c0; have c0 := l1.rs.res.c0; have c1 := l1.rs.res.c1; have c2 := l1.rs.res.c2; have c3 := l1.rs.res.c3; have f0 := l1.rs.res.f0; have f1 := l1.rs.res.f1; have f2 := l1.rs.res.f2; have f3 := l1.rs.res.f3))
   have q := l1.rs.res.put4 (.int .i64 0) (.int .i64 0) (.int .i64 0) (.slice none 0 0)
   have d := l1.rs.done (.int .i64 0) (.int .i64 0) (.int .i64 0) (.slice none 0 0)
   exact bodyPost_ret (v := .tuple #[val 0 0 0 none 0 0, .string ⟨#[]⟩, .bool false]) (by simp [results, Tryz.results116, go_sem, q.c0, q.c1, q.c2, q.c3]) rfl (HF.out _ d.2)
end Go.Proofs.YtljnkicgahepfaaGreatDoor.O3
namespace Go.Proofs.YtljnkicgahepfaaGreatDoor.D7
open Go.ChangeShapes Go.WideShapes Go.ChangeAt Go.RowKit
open N0 (Ln)
open N1 (Sl LB lb_new)
open J0 (IBuf Own)
open I2 (ints)
open D1 (nodeE data)
section
variable {base n cap : Nat} {a : Option Addr} {w W : World} {zs : List Int}
theorem run_rows (ty : TypeId) (hbuf : IBuf base w a n cap zs) (ax : Option Addr) (cx : Nat) (xs : List Int) (hR : P0.Row w ax xs) (hlen : n + xs.length ≤ 4194304) (hb : base ≤ w.heap.size) :
  ∃ a' cap' w', (Builtin.append_ #[29, 29] ty #[.slice a n cap, .slice ax xs.length cx]).run Tryz.prog w = .ok (.slice a' (n + xs.length) cap') w' ∧ IBuf base w' a' (n + xs.length) cap' (zs ++ xs) ∧ w.grownBy w' (Value.slice a n cap).ownBlock ∧ (∀ g, (Value.slice a' (n + xs.length) cap').ownBlock = some g → (Value.slice a n cap).ownBlock = some g ∨ g = w.heap.size) := by
 obtain ⟨i0, hi, hz0, hz1, hz2⟩ := info_parts I2.info3
 by_cases h0 : xs = []
 ·subst h0
  refine ⟨a, cap, w, Q1.run_append_none w 29 _ 3 i0 Tryz.underlying29 hi a n cap hbuf.fits ax cx, by rw [List.append_nil]; exact hbuf, ⟨rfl, rfl, rfl, Nat.le_refl _, fun _ _ _ => rfl⟩, fun g hg => Or.inl ?_⟩
  cases a with
  | none => cases hg
  | some p => exact hg
 ·rcases hR with hR | ⟨b, off, rfl, hb2, hc⟩
  ·exact absurd hR h0
  ·have hm : 0 < xs.length := List.length_pos_iff.2 h0
   obtain ⟨g, cp, w', hrun, r1, r2, r3, r4⟩ := run_append_lies (P := Tryz.prog) w 29 ty base 3 i0 (.int .i64 0) 1 8 Tryz.underlying29 hi hz0 hz1 hz2 rfl (by omega) _ n _ hbuf.2 ⟨b, off, none⟩ xs.length cx (ints xs) (by simp) (by
    intro j u hj
    have hj' : j < xs.length := by
     have := (List.getElem?_eq_some_iff.1 hj).1
     simpa using this
    rw [B0.add_off, hc j hj', P0.getD_get _ _ hj', ← hj]
    simp [hj']) (Q1.ints_one xs) hm (by unfold maxLen; omega) (by omega) hb _ rfl
   refine ⟨some ⟨g, 0, none⟩, cp, w', hrun, ⟨by rw [hbuf.1]; simp, ?_⟩, r2, fun g2 h2 => ?_⟩
   ·rw [show ints (zs ++ xs) = ints zs ++ ints xs by simp]
    exact r1
   ·cases h2
    exact r3
theorem run_below (hbuf : IBuf base w a n cap zs) (hb : base ≤ w.heap.size) (hg : w.grownBy W (Value.slice a n cap).ownBlock) : Below base w W := F0.below_grown (Below.refl _ _) hg (J0.own_block hbuf) hb
end
end Go.Proofs.YtljnkicgahepfaaGreatDoor.D7
namespace Go.Proofs.YtljnkicgahepfaaGreatDoor.Y1
open Go.ChangeShapes Go.WideShapes Go.ChangeAt Go.RowKit
open N0 (Ln)
open N1 (Sl Lists Fit)
open N7 (tv tvs tObj)
open D1 (nodeE)
open J0 (IBuf Own)
open I2 (ints)
def Apart (W : World) (be : Option Addr) (es : List T0.Ent) (a : Option Addr) : Prop := T0.Row W be es ∧ (es = [] ∨ ∀ p q, a = some p → be = some q → p.block ≠ q.block)
variable {w W W' : World} {a a' be : Option Addr} {es : List T0.Ent}
theorem Apart.below (h : Apart W be es a) (hb : Below W.heap.size W W') : Apart W' be es a := ⟨h.1.below hb, h.2⟩
theorem Apart.grown {n c n' c' : Nat} (h : Apart W be es a) (hg : W.grownBy W' (Value.slice a n c).ownBlock) (hn : ∀ g, (Value.slice a' n' c').ownBlock = some g → (Value.slice a n c).ownBlock = some g ∨ g = W.heap.size) : Apart W' be es a' := by
 rcases h.1 with h0 | ⟨b, off, rfl, hlt, hc⟩
 ·exact ⟨Or.inl h0, Or.inl h0⟩
 ·rcases h.2 with h0 | hne
  ·exact ⟨Or.inl h0, Or.inl h0⟩
  ·have hb : W'.heap[b]? = W.heap[b]? := hg.block b hlt (fun q => by
    cases a with
    | none => cases q
    | some p => exact hne p _ rfl rfl (by simpa [Value.ownBlock] using q.symm))
   refine ⟨Or.inr ⟨b, off, rfl, Nat.lt_of_lt_of_le hlt hg.size, fun j hj => ⟨(World.cell?_of_block (a := ⟨b, off + j * 2, none⟩) hb).trans (hc j hj).1, (World.cell?_of_block (a := ⟨b, off + j * 2 + 1, none⟩) hb).trans (hc j hj).2⟩⟩, Or.inr fun p q hp hq => ?_⟩
   cases hq
   subst hp
   rcases hn p.block rfl with h1 | h1
   ·cases a with
    | none => cases h1
    | some p0 =>
     have : p0.block = p.block := by simpa [Value.ownBlock] using h1
     rw [← this]
     exact hne p0 _ rfl rfl
   ·show p.block ≠ b
    omega
theorem row_one (w : World) (z : Int) : P0.Row (w.alloc (.cells #[.int .i64 z] 3)) (some ⟨w.heap.size, 0, none⟩) [z] := I2.row_of_blk (K0.blk_new (ints [z]) w 3)
end Go.Proofs.YtljnkicgahepfaaGreatDoor.Y1
namespace Go.Proofs.YtljnkicgahepfaaGreatDoor.Y2
open Go.ChangeShapes Go.WideShapes Go.ChangeAt Go.RowKit
open J0 (IBuf Own)
open I2 (ints)
theorem step_rows {base n cp : Nat} {p : Option Addr} {W : World} {zs : List Int} {ops : Array Oper} {o : Oper} {A : Act} {K : Act → World → Prop} {Q : Exit → Act → World → Prop} {E : Prop} (hgd : o.guard = none) (sl x : Operand)
  (ho : o.op = .call { callee := .builtin .append, args := #[sl, x], argTypes := #[29, 29] })
  (hbuf : IBuf base W p n cp zs) (ax : Option Addr) (cx : Nat) (xs : List Int) (hs : A.eval sl = .slice p n cp) (hx : A.eval x = .slice ax xs.length cx) (hR : P0.Row W ax xs) (hlen : n + xs.length ≤ 4194304) (hb : base ≤ W.heap.size)
  (h : ∀ a' cap' w', IBuf base w' a' (n + xs.length) cap' (zs ++ xs) → W.grownBy w' (Value.slice p n cp).ownBlock → K (A.put o.dst (.slice a' (n + xs.length) cap')) w') :
  if Region.wanted o (yielded ops A.tmps) = true then Oper.wp Tryz.prog o A W K Q else E := by
 have hw : Region.wanted o (yielded ops A.tmps) = true := by simp [Region.wanted, hgd]
 rw [if_pos hw]
 obtain ⟨a', cap', w', hrun, r1, r2, r3⟩ := D7.run_rows o.type hbuf ax cx xs hR hlen hb
 exact Lib.wp_append_run _ sl x 29 29 ho _ _ hs hx _ _ hrun (h a' cap' w' r1 r2)
theorem row_grown {W W' : World} {ax : Option Addr} {xs : List Int} {r : Option Nat} (h : P0.Row W ax xs) (hg : W.grownBy W' r) (hne : ∀ p, ax = some p → r ≠ some p.block) : P0.Row W' ax xs := by
 rcases h with h | ⟨b, off, rfl, hlt, hc⟩
 ·exact Or.inl h
 ·have hb : W'.heap[b]? = W.heap[b]? := hg.block b hlt (fun q => hne _ rfl q.symm)
  exact Or.inr ⟨b, off, rfl, Nat.lt_of_lt_of_le hlt hg.size, fun j hj => (World.cell?_of_block (a := ⟨b, off + j, none⟩) hb).trans (hc j hj)⟩
theorem ibuf_mono {base base' n c : Nat} {a : Option Addr} {w : World} {zs : List Int} (h : IBuf base w a n c zs) (hb : base' ≤ base) : IBuf base' w a n c zs := by
 refine ⟨h.1, h.2.1, ?_⟩
 rcases h.2.2 with h0 | ⟨g, cap, cur, hv, hg, r⟩
 ·exact Or.inl h0
 ·exact Or.inr ⟨g, cap, cur, hv, Nat.le_trans hb hg, r⟩
end Go.Proofs.YtljnkicgahepfaaGreatDoor.Y2
namespace Go.Proofs.YtljnkicgahepfaaGreatDoor.KO
open Go.ChangeShapes Go.WideShapes Go.ChangeAt Go.RowKit
open N0 (Ln)
open N1 (Sl Lists)
open Z0 (dat Kp Lns kval)
open Z4 (Bk bk_new)
open J0 (IBuf Own)
def gath (f : Ln → List Int) (ds : List Ln) : Nat → List Int
 | 0 => []
 | k + 1 => gath f ds k ++ f (dat ds k)
theorem gath_len (f : Ln → List Int) (ds : List Ln) (m : Nat) (h : ∀ d, (f d).length ≤ 1 + N3.total d) : ∀ k, (gath f ds k).length ≤ k + Z1.tot ds k
 | 0 => Nat.le_refl _
 | k + 1 => by
  have h1 := gath_len f ds m h k
  have h2 := h (dat ds k)
  have h3 : Z1.tot ds (k + 1) = Z1.tot ds k + N3.total (dat ds k) := rfl
  rw [gath, List.length_append]
  omega
theorem append_intH {base n cap : Nat} {a : Option Addr} {w : World} {zs : List Int} {ops : Array Oper} {rest : List Oper} {o : Oper} {A : Act} {Q : Exit → Act → World → Prop} (hgd : o.guard = none) (sl x : Operand)
  (ho : o.op = .call { callee := .builtin .append, args := #[sl, x], argTypes := #[29, 29] })
  (hbuf : IBuf base w a n cap zs) (z : Int) (hs : A.eval sl = .slice a n cap) {H : Nat} (hH : w.heap.size = H) (hx : A.eval x = .slice (some ⟨H, 0, none⟩) 1 1) (hlen : n + 1 ≤ 1048576) (hb : base ≤ w.heap.size)
  (h : ∀ g' cap' w', IBuf base w' (some ⟨g', 0, none⟩) (n + 1) cap' (zs ++ [z]) → Below base w w' → wpList Tryz.prog ops Q rest (A.put o.dst (.slice (some ⟨g', 0, none⟩) (n + 1) cap')) w') : wpList Tryz.prog ops Q (o :: rest) A (w.alloc (.cells #[.int .i64 z] 3)) := by
 subst hH
 exact J0.append_int hgd sl x ho hbuf z hs hx hlen hb h
def Out (Z : List Int) (w : World) (e : Ending) (w' : World) : Prop := ∃ a c, e = .returned (.slice a Z.length c) ∧ J0.Own w.heap.size w' a Z ∧ Z.length ≤ c ∧ Below w.heap.size w w'
set_option maxHeartbeats 2000000 in
theorem lentInos (a : Option Addr) (c : Nat) (ds : List Ln) (ss : Nat → Sl) (w : World) (hn : ds.length ≤ 1048576) (ht : ds.length + Z1.tot ds ds.length ≤ 1048576) (hR : Lns w a ds ss) :
  Calls Tryz.prog 52 #[.slice a ds.length c] w (Out (gath (fun d : Ln => [d.ino]) ds ds.length) w) := by
 have n1 := K0.below_new w (.cells #[] 3)
 have B1 := J0.ibuf_made (base := w.heap.size) w (Nat.le_refl _)
 have HL : Hid (∀ W, Below w.heap.size w W → Lns W a ds ss) := fun W hb => hR.below hb
 clear hR
 go_enter Tryz.func52, Tryz.ntmps52
 go_wp2
 go_loopw [3, 9] (fun p i w' => ∃ (j : Nat) (a' : Option Addr) (cap' : Nat), j ≤ ds.length ∧ i = .int .i64 j ∧ p = .slice a' (gath (fun d : Ln => [d.ino]) ds j).length cap' ∧ IBuf w.heap.size w' a' (gath (fun d : Ln => [d.ino]) ds j).length cap' (gath (fun d : Ln => [d.ino]) ds j) ∧ Below w.heap.size w w') (fun _ i _ => ds.length - (intOf i).toNat)
 case atStart => exact ⟨0, _, _, Nat.zero_le _, rfl, rfl, B1, n1⟩
 case round =>
  obtain ⟨j, a3, c3, hj, rfl, rfl, hbf, hbel⟩ := hrel
  clear B1 n1
  by_cases hlt : j < ds.length
  ·have ls := (HL.out _ hbel).sub j hlt
   obtain ⟨b, off, hab, hlt0, hc⟩ := (HL.out _ hbel).row.get hlt
   subst hab
   obtain ⟨y0, y1, y2, y3, y4, y5, y6, y7⟩ := hc j hlt
   have hgl := gath_len (fun d : Ln => [d.ino]) ds 0 (fun d => by unfold N3.total; first | (simp only [List.length_cons, List.length_nil]; omega) | omega) (j + 1)
   have htl := Z1.tot_le (ds := ds) (k := j + 1) (n := ds.length) (by omega)
   have hgs : gath (fun d : Ln => [d.ino]) ds (j + 1) = gath (fun d : Ln => [d.ino]) ds j ++ (fun d : Ln => [d.ino]) (dat ds j) := rfl
   obtain ⟨d, ed⟩ : ∃ d, dat ds j = d := ⟨_, rfl⟩
   obtain ⟨s, es⟩ : ∃ s, ss j = s := ⟨_, rfl⟩
   rw [ed, es] at ls
   rw [ed] at y0 y1 y2 y3 y4 y5 y6 y7 hgs
   rw [es] at y4 y6 y7
   have hgl2 := congrArg List.length hgs
   rw [List.length_append] at hgl2
   simp only [List.length_cons, List.length_nil] at hgl2
   obtain ⟨acc, ea⟩ : ∃ acc, gath (fun d : Ln => [d.ino]) ds j = acc := ⟨_, rfl⟩
   rw [ea] at hbf hgs hgl2 ⊢
   have HS : Hid (gath (fun d : Ln => [d.ino]) ds (j + 1) = acc ++ [d.ino]) := hgs
   have hle : acc.length + 1 ≤ 1048576 := by omega
   have e1 : (0 : Int) ≤ (j : Int) := by omega
   have e2 : (j : Int) < (ds.length : Int) := by omega
   have hB := hbel.size
   have hal := K0.below_new wr (.cells #[.int .i64 d.ino, .int .i64 d.cl, .int .i64 d.un, .string d.rc, .slice s.a1 d.pg.length s.c1, .string d.sav, .slice s.a2 d.po.length s.c2, .slice s.a3 d.fr.length s.c3] 66)
   have bx := N1.lb_new d s wr 66
   have z0 := bx.c0
   have z6 := bx.c6
   have z7 := bx.c7
   have hb1 := hbf.below hal
   have lsA := ls.below hal
   have M1 := hbel.trans (hal.mono hB)
   have hB1 := Nat.le_trans hB hal.size
   clear ed es hc ls ea hgs hgl hgl2 HL
   go_wp2_with (at_builtin; refine append_intH rfl (.tmp 13) (.tmp 16) rfl hb1 d.ino (by rfl) (H := wr.heap.size + 1) (by simp) (by rfl) (by omega) hB1 ?_; intro g5 c5 w5 f5 l5)
   go_roundw
   case rel => exact ⟨j + 1, some ⟨g5, 0, none⟩, c5, by omega, by go_num, by rw [HS.out, List.length_append]; rfl, by rw [HS.out, List.length_append]; exact f5, M1.trans l5⟩
   case measure => simp [intOf]; omega
  ·obtain rfl : j = ds.length := by omega
   clear HL
   go_wp2
   go_ret
   exact ⟨a3, c3, rfl, hbf.own, hbf.fits, hbel⟩
set_option maxHeartbeats 2000000 in
theorem lentFresh (a : Option Addr) (c : Nat) (ds : List Ln) (ss : Nat → Sl) (w : World) (hn : ds.length ≤ 1048576) (ht : ds.length + Z1.tot ds ds.length ≤ 1048576) (hR : Lns w a ds ss) :
  Calls Tryz.prog 59 #[.slice a ds.length c] w (Out (gath (fun d : Ln => d.fr) ds ds.length) w) := by
 have n1 := K0.below_new w (.cells #[] 3)
 have B1 := J0.ibuf_made (base := w.heap.size) w (Nat.le_refl _)
 have HL : Hid (∀ W, Below w.heap.size w W → Lns W a ds ss) := fun W hb => hR.below hb
 clear hR
 go_enter Tryz.func59, Tryz.ntmps59
 go_wp2
 go_loopw [3, 9] (fun p i w' => ∃ (j : Nat) (a' : Option Addr) (cap' : Nat), j ≤ ds.length ∧ i = .int .i64 j ∧ p = .slice a' (gath (fun d : Ln => d.fr) ds j).length cap' ∧ IBuf w.heap.size w' a' (gath (fun d : Ln => d.fr) ds j).length cap' (gath (fun d : Ln => d.fr) ds j) ∧ Below w.heap.size w w') (fun _ i _ => ds.length - (intOf i).toNat)
 case atStart => exact ⟨0, _, _, Nat.zero_le _, rfl, rfl, B1, n1⟩
 case round =>
  obtain ⟨j, a3, c3, hj, rfl, rfl, hbf, hbel⟩ := hrel
  clear B1 n1
  by_cases hlt : j < ds.length
  ·have ls := (HL.out _ hbel).sub j hlt
   obtain ⟨b, off, hab, hlt0, hc⟩ := (HL.out _ hbel).row.get hlt
   subst hab
   obtain ⟨y0, y1, y2, y3, y4, y5, y6, y7⟩ := hc j hlt
   have hgl := gath_len (fun d : Ln => d.fr) ds 0 (fun d => by unfold N3.total; first | (simp only [List.length_cons, List.length_nil]; omega) | omega) (j + 1)
   have htl := Z1.tot_le (ds := ds) (k := j + 1) (n := ds.length) (by omega)
   have hgs : gath (fun d : Ln => d.fr) ds (j + 1) = gath (fun d : Ln => d.fr) ds j ++ (fun d : Ln => d.fr) (dat ds j) := rfl
   obtain ⟨d, ed⟩ : ∃ d, dat ds j = d := ⟨_, rfl⟩
   obtain ⟨s, es⟩ : ∃ s, ss j = s := ⟨_, rfl⟩
   rw [ed, es] at ls
   rw [ed] at y0 y1 y2 y3 y4 y5 y6 y7 hgs
   rw [es] at y4 y6 y7
   have hgl2 := congrArg List.length hgs
   rw [List.length_append] at hgl2
   simp only [List.length_cons, List.length_nil] at hgl2
   obtain ⟨acc, ea⟩ : ∃ acc, gath (fun d : Ln => d.fr) ds j = acc := ⟨_, rfl⟩
   rw [ea] at hbf hgs hgl2 ⊢
   have HS : Hid (gath (fun d : Ln => d.fr) ds (j + 1) = acc ++ d.fr) := hgs
   have hle : acc.length + (d.fr).length ≤ 1048576 := by omega
   have e1 : (0 : Int) ≤ (j : Int) := by omega
   have e2 : (j : Int) < (ds.length : Int) := by omega
   have hB := hbel.size
   have hal := K0.below_new wr (.cells #[.int .i64 d.ino, .int .i64 d.cl, .int .i64 d.un, .string d.rc, .slice s.a1 d.pg.length s.c1, .string d.sav, .slice s.a2 d.po.length s.c2, .slice s.a3 d.fr.length s.c3] 66)
   have bx := N1.lb_new d s wr 66
   have z0 := bx.c0
   have z6 := bx.c6
   have z7 := bx.c7
   have hb1 := hbf.below hal
   have lsA := ls.below hal
   have M1 := hbel.trans (hal.mono hB)
   have hB1 := Nat.le_trans hB hal.size
   clear ed es hc ls ea hgs hgl hgl2 HL
   go_wp2_with (at_builtin; refine Q1.append_rows rfl (.tmp 13) (.tmp 15) rfl hb1 s.a3 s.c3 d.fr (by rfl) (by rfl) lsA.r3 (by omega) hB1 ?_; intro a5 c5 w5 f5 l5)
   go_roundw
   case rel => exact ⟨j + 1, a5, c5, by omega, by go_num, by rw [HS.out, List.length_append], by rw [HS.out, List.length_append]; exact f5, M1.trans l5⟩
   case measure => simp [intOf]; omega
  ·obtain rfl : j = ds.length := by omega
   clear HL
   go_wp2
   go_ret
   exact ⟨a3, c3, rfl, hbf.own, hbf.fits, hbel⟩
set_option maxHeartbeats 2000000 in
theorem lentPool (a : Option Addr) (c : Nat) (ds : List Ln) (ss : Nat → Sl) (w : World) (hn : ds.length ≤ 1048576) (ht : ds.length + Z1.tot ds ds.length ≤ 1048576) (hR : Lns w a ds ss) :
  Calls Tryz.prog 60 #[.slice a ds.length c] w (Out (gath (fun d : Ln => d.po) ds ds.length) w) := by
 have n1 := K0.below_new w (.cells #[] 3)
 have B1 := J0.ibuf_made (base := w.heap.size) w (Nat.le_refl _)
 have HL : Hid (∀ W, Below w.heap.size w W → Lns W a ds ss) := fun W hb => hR.below hb
 clear hR
 go_enter Tryz.func60, Tryz.ntmps60
 go_wp2
 go_loopw [3, 9] (fun p i w' => ∃ (j : Nat) (a' : Option Addr) (cap' : Nat), j ≤ ds.length ∧ i = .int .i64 j ∧ p = .slice a' (gath (fun d : Ln => d.po) ds j).length cap' ∧ IBuf w.heap.size w' a' (gath (fun d : Ln => d.po) ds j).length cap' (gath (fun d : Ln => d.po) ds j) ∧ Below w.heap.size w w') (fun _ i _ => ds.length - (intOf i).toNat)
 case atStart => exact ⟨0, _, _, Nat.zero_le _, rfl, rfl, B1, n1⟩
 case round =>
  obtain ⟨j, a3, c3, hj, rfl, rfl, hbf, hbel⟩ := hrel
  clear B1 n1
  by_cases hlt : j < ds.length
  ·have ls := (HL.out _ hbel).sub j hlt
   obtain ⟨b, off, hab, hlt0, hc⟩ := (HL.out _ hbel).row.get hlt
   subst hab
   obtain ⟨y0, y1, y2, y3, y4, y5, y6, y7⟩ := hc j hlt
   have hgl := gath_len (fun d : Ln => d.po) ds 0 (fun d => by unfold N3.total; first | (simp only [List.length_cons, List.length_nil]; omega) | omega) (j + 1)
   have htl := Z1.tot_le (ds := ds) (k := j + 1) (n := ds.length) (by omega)
   have hgs : gath (fun d : Ln => d.po) ds (j + 1) = gath (fun d : Ln => d.po) ds j ++ (fun d : Ln => d.po) (dat ds j) := rfl
   obtain ⟨d, ed⟩ : ∃ d, dat ds j = d := ⟨_, rfl⟩
   obtain ⟨s, es⟩ : ∃ s, ss j = s := ⟨_, rfl⟩
   rw [ed, es] at ls
   rw [ed] at y0 y1 y2 y3 y4 y5 y6 y7 hgs
   rw [es] at y4 y6 y7
   have hgl2 := congrArg List.length hgs
   rw [List.length_append] at hgl2
   simp only [List.length_cons, List.length_nil] at hgl2
   obtain ⟨acc, ea⟩ : ∃ acc, gath (fun d : Ln => d.po) ds j = acc := ⟨_, rfl⟩
   rw [ea] at hbf hgs hgl2 ⊢
   have HS : Hid (gath (fun d : Ln => d.po) ds (j + 1) = acc ++ d.po) := hgs
   have hle : acc.length + (d.po).length ≤ 1048576 := by omega
   have e1 : (0 : Int) ≤ (j : Int) := by omega
   have e2 : (j : Int) < (ds.length : Int) := by omega
   have hB := hbel.size
   have hal := K0.below_new wr (.cells #[.int .i64 d.ino, .int .i64 d.cl, .int .i64 d.un, .string d.rc, .slice s.a1 d.pg.length s.c1, .string d.sav, .slice s.a2 d.po.length s.c2, .slice s.a3 d.fr.length s.c3] 66)
   have bx := N1.lb_new d s wr 66
   have z0 := bx.c0
   have z6 := bx.c6
   have z7 := bx.c7
   have hb1 := hbf.below hal
   have lsA := ls.below hal
   have M1 := hbel.trans (hal.mono hB)
   have hB1 := Nat.le_trans hB hal.size
   clear ed es hc ls ea hgs hgl hgl2 HL
   go_wp2_with (at_builtin; refine Q1.append_rows rfl (.tmp 13) (.tmp 15) rfl hb1 s.a2 s.c2 d.po (by rfl) (by rfl) lsA.r2 (by omega) hB1 ?_; intro a5 c5 w5 f5 l5)
   go_roundw
   case rel => exact ⟨j + 1, a5, c5, by omega, by go_num, by rw [HS.out, List.length_append], by rw [HS.out, List.length_append]; exact f5, M1.trans l5⟩
   case measure => simp [intOf]; omega
  ·obtain rfl : j = ds.length := by omega
   clear HL
   go_wp2
   go_ret
   exact ⟨a3, c3, rfl, hbf.own, hbf.fits, hbel⟩
set_option maxHeartbeats 2000000 in
theorem l06Pools (k : Kp) (a : Option Addr) (c : Nat) (ss : Nat → Sl) (w : World) (hn : k.ds.length ≤ 1048576) (ht : k.ds.length + Z1.tot k.ds k.ds.length ≤ 1048576) (hR : Lns w a k.ds ss) :
  Calls Tryz.prog 47 #[kval k a c] w (Out (gath (fun d : Ln => d.po) k.ds k.ds.length) w) := by
 have x0 := bk_new w k a c
 have n1 := K0.below_new (w.alloc (.cells #[.string k.mem, .string k.dur, .slice a k.ds.length c, .int .i64 k.ck] 28)) (.cells #[] 3)
 have e0 : (w.alloc (.cells #[.string k.mem, .string k.dur, .slice a k.ds.length c, .int .i64 k.ck] 28)).heap.size = w.heap.size + 1 := by simp
 have B1 := J0.ibuf_made (base := w.heap.size + 1) (w.alloc (.cells #[.string k.mem, .string k.dur, .slice a k.ds.length c, .int .i64 k.ck] 28)) (by rw [e0]; exact Nat.le_refl _)
 rw [e0] at n1 B1
 have HB : Hid (∀ W, Below (w.heap.size + 1) (w.alloc (.cells #[.string k.mem, .string k.dur, .slice a k.ds.length c, .int .i64 k.ck] 28)) W → Below w.heap.size w W ∧ K0.Blk w.heap.size (Z0.kvals k a c) W) := fun W hW => ⟨x0.bel.trans (hW.mono (Nat.le_succ _)), J0.blk_keep x0.arg hW (Nat.lt_succ_self _)⟩
 have HL : Hid (∀ W, Below w.heap.size w W → Lns W a k.ds ss) := fun W hb => hR.below hb
 clear hR x0 e0
 go_enter Tryz.func47, Tryz.ntmps47
 go_wp2
 go_loopw [3, 4] (fun p i w' => ∃ (j : Nat) (a' : Option Addr) (cap' : Nat), j ≤ k.ds.length ∧ i = .int .i64 j ∧ p = .slice a' (gath (fun d : Ln => d.po) k.ds j).length cap' ∧ IBuf (w.heap.size + 1) w' a' (gath (fun d : Ln => d.po) k.ds j).length cap' (gath (fun d : Ln => d.po) k.ds j) ∧ Below (w.heap.size + 1) (w.alloc (.cells #[.string k.mem, .string k.dur, .slice a k.ds.length c, .int .i64 k.ck] 28)) w') (fun _ i _ => k.ds.length - (intOf i).toNat)
 case atStart => exact ⟨0, _, _, Nat.zero_le _, rfl, rfl, B1, n1⟩
 case round =>
  obtain ⟨j, a3, c3, hj, rfl, rfl, hbf, hbel⟩ := hrel
  clear B1 n1
  obtain ⟨M1, kb⟩ := HB.out _ hbel
  have c2 := kb.c2
  by_cases hlt : j < k.ds.length
  ·have ls := (HL.out _ M1).sub j hlt
   obtain ⟨b, off, hab, hlt0, hc⟩ := (HL.out _ M1).row.get hlt
   obtain ⟨y0, y1, y2, y3, y4, y5, y6, y7⟩ := hc j hlt
   have hgl := gath_len (fun d : Ln => d.po) k.ds 0 (fun d => by unfold N3.total; first | (simp only [List.length_cons, List.length_nil]; omega) | omega) (j + 1)
   have htl := Z1.tot_le (ds := k.ds) (k := j + 1) (n := k.ds.length) (by omega)
   have hgs : gath (fun d : Ln => d.po) k.ds (j + 1) = gath (fun d : Ln => d.po) k.ds j ++ (dat k.ds j).po := rfl
   obtain ⟨d, ed⟩ : ∃ d, dat k.ds j = d := ⟨_, rfl⟩
   obtain ⟨s, es⟩ : ∃ s, ss j = s := ⟨_, rfl⟩
   rw [ed, es] at ls
   rw [ed] at y0 y1 y2 y3 y4 y5 y6 y7 hgs
   rw [es] at y4 y6 y7
   rw [hab] at c2
   have hgl2 := congrArg List.length hgs
   rw [List.length_append] at hgl2
   obtain ⟨acc, ea⟩ : ∃ acc, gath (fun d : Ln => d.po) k.ds j = acc := ⟨_, rfl⟩
   rw [ea] at hbf hgs hgl2 ⊢
   have HS : Hid (gath (fun d : Ln => d.po) k.ds (j + 1) = acc ++ d.po) := hgs
   have hle : acc.length + d.po.length ≤ 1048576 := by omega
   have e1 : (0 : Int) ≤ (j : Int) := by omega
   have e2 : (j : Int) < (k.ds.length : Int) := by omega
   have hB : w.heap.size + 1 ≤ wr.heap.size := kb.lt
   have lr := ls.r2
   clear ed es hc ls ea hgs hgl hgl2 HL hab
   go_wp2_with (at_builtin; refine Q1.append_rows rfl (.tmp 13) (.tmp 19) rfl hbf s.a2 s.c2 d.po (by rfl) (by rfl) lr (by omega) hB ?_; intro a5 c5 w5 f5 l5)
   go_roundw
   case rel => exact ⟨j + 1, a5, c5, by omega, by go_num, by rw [HS.out, List.length_append], by rw [HS.out, List.length_append]; exact f5, hbel.trans l5⟩
   case measure => simp [intOf]; omega
  ·obtain rfl : j = k.ds.length := by omega
   have e9 : decide ((k.ds.length : Int) < (k.ds.length : Int)) = false := by simp
   clear HL HB
   go_wp2
   go_ret
   exact ⟨a3, c3, rfl, hbf.own.mono (Nat.le_succ _), hbf.fits, M1⟩
end Go.Proofs.YtljnkicgahepfaaGreatDoor.KO
