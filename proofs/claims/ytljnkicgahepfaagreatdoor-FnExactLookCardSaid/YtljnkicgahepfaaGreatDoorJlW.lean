/- Joined texts: plain facts and contracts. -/
import Derived.Test.YtljnkicgahepfaaGreatDoorJlU
import Derived.Test.YtljnkicgahepfaaGreatDoorJlV
import Derived.BigQuiet
set_option linter.unusedVariables false
set_option linter.unusedSimpArgs false
set_option maxRecDepth 10000
namespace Go.Proofs.YtljnkicgahepfaaGreatDoor.TW
open Go.ChangeShapes Go.WideShapes Go.ChangeAt Go.RowKit
variable {B : Nat} {N : Nat → Nd} {F : Nat → Nat} {P : Nat → ByteArray} {w W W' : World} {mem : ByteArray}
set_option maxHeartbeats 4000000 in
theorem readTree (mem : ByteArray) (w : World) (hms : mem.size ≤ 281474976710656) : Calls Tryz.prog 62 #[.string mem] w (Ans mem w) := by
 have HN : Hid (∀ w', sound mem = false → Below w.heap.size w w' → Ans mem w (.returned (.tuple #[.pointer none, .bool false])) w') := fun w' h hb => ans_no h hb
 by_cases hm : mem.size = 768
 ·have hz : sound mem = (headOk mem && (nodesOk mem && ((tK mem 0 == 2) && (decide (cat (tZ mem) 8).Nodup && TR.treeOk (tE mem) (tK mem))))) := by
   unfold sound
   rw [decide_eq_true hm, Bool.true_and]
  have hpt : Hid (∀ W, Calls Tryz.prog 82 #[.string mem, .int .i64 0, .int .i64 32] W fun e w' => e = .returned (.string (B2.part mem 0 32)) ∧ Below W.heap.size W w') := fun W => B2.impl_Part _ _ _ _ hms
  have hzr : Hid (∀ W, Calls Tryz.prog 132 #[.int .i64 32] W fun e w' => e = .returned (.string (B4.zeros 32)) ∧ Below W.heap.size W w') := fun W => B4.impl_Zeros 32 W
  have hwt : Hid (∀ W, Calls Tryz.prog 131 #[.string (B4.zeros 32), .int .i64 0, .string ⟨#[84, 78, 82, 49]⟩] W fun e w' => e = .returned (.string hd) ∧ Below W.heap.size W w') := fun W => by
   have := B5.impl_With (B4.zeros 32) 0 ⟨#[84, 78, 82, 49]⟩ W (by decide +kernel) (show 4 ≤ 281474976710656 by omega)
   rw [hd_laid] at this
   exact this
  have hho : headOk mem = ((B2.part mem 0 32).toList == hd.toList) := rfl
  obtain ⟨Q, hQ⟩ : ∃ Q, B2.part mem 0 32 = Q := ⟨_, rfl⟩
  obtain ⟨zz, hzz⟩ : ∃ zz, B4.zeros 32 = zz := ⟨_, rfl⟩
  obtain ⟨hh, hhh⟩ : ∃ hh, hd = hh := ⟨_, rfl⟩
  rw [hQ] at hpt hho
  rw [hhh] at hwt hho
  rw [hzz] at hzr hwt
  have e768 : ((mem.size : Int) != 768) = false := by simp; omega
  clear hQ hzz hhh
  cases hH : headOk mem with
  | false =>
   rw [hH] at hho
   rw [hH, Bool.false_and] at hz
   have hne : (Q.toList == hh.toList) = false := hho.symm
   clear hho hH
   go_enter Tryz.func62, Tryz.ntmps62
   go_wp2_with (first
    | (go_at_call 82; refine (hpt.out _).mono ?_; rintro e w1 ⟨rfl, b1⟩)
    | (go_at_call 132; refine (hzr.out _).mono ?_; rintro e w2 ⟨rfl, b2⟩)
    | (go_at_call 131; refine (hwt.out _).mono ?_; rintro e w3 ⟨rfl, b3⟩))
   go_ret2
   exact HN.out _ hz ((b1.trans (b2.mono b1.size)).trans (b3.mono (Nat.le_trans b1.size b2.size)))
  | true =>
   rw [hH] at hho
   rw [hH, Bool.true_and] at hz
   have hne : (Q.toList == hh.toList) = true := hho.symm
   have hz0 := (zero_of_info zeroTree).1
   have hrd0 : Hid (∀ W : World, Rd mem W 0 (fun _ => zeroN) (W.alloc (.cells zcells.toArray 160))) := fun W => rd_new mem W
   obtain ⟨ZC, hZC⟩ : ∃ ZC, zcells.toArray = ZC := ⟨_, rfl⟩
   rw [hZC] at hz0 hrd0
   have HZ : Hid (sound mem = (nodesOk mem && ((tK mem 0 == 2) && (decide (cat (tZ mem) 8).Nodup && TR.treeOk (tE mem) (tK mem))))) := hz
   clear hho hH hZC hz
   go_enter Tryz.func62, Tryz.ntmps62
   go_wp2_with (first
    | (go_at_call 82; refine (hpt.out _).mono ?_; rintro e w1 ⟨rfl, b1⟩)
    | (go_at_call 132; refine (hzr.out _).mono ?_; rintro e w2 ⟨rfl, b2⟩)
    | (go_at_call 131; refine (hwt.out _).mono ?_; rintro e w3 ⟨rfl, b3⟩))
   have l3 : Below w.heap.size w w3 := (b1.trans (b2.mono b1.size)).trans (b3.mono (Nat.le_trans b1.size b2.size))
   have r0 := hrd0.out w3
   clear b1 b2 b3 hpt hzr hwt hz0 hrd0 hne
   go_loopw [20] (fun i W => ∃ (k : Nat) (N : Nat → Nd), k ≤ 8 ∧ i = .int .i64 k ∧ N0.to (fun i => D1.nodeOk mem (i : Int)) k = true ∧ Rd mem w3 k N W) (fun i _ => 8 - (intOf i).toNat)
   case atStart => exact ⟨0, _, Nat.zero_le _, rfl, rfl, r0⟩
   case round =>
    obtain ⟨k, N, hk, rfl, hok, rd⟩ := hrel
    clear r0
    by_cases hlt : k < 8
    ·have e1 : (0 : Int) ≤ (k : Int) := by omega
     have e2 : (k : Int) < 8 := by omega
     have hrn : Hid (∀ W, Calls Tryz.prog 133 #[.string mem, .int .i64 (k : Int)] W fun e w' => ∃ (q o t : Int) (a : Option Addr) (n c : Nat) (x : ByteArray) (ae : Option Addr) (ne ce : Nat), e = .returned (.tuple #[.agg #[.int .i64 q, .int .i64 o, .int .i64 t, .slice a n c, .string x, .slice ae ne ce], .bool (D1.nodeOk mem (k : Int))]) ∧ Below W.heap.size W w' ∧ (D1.nodeOk mem (k : Int) = true → ∀ B, B < W.heap.size → NdOk mem B k ⟨q, o, t, a, n, c, x, ae, ne, ce⟩ w')) := fun W =>
      (D1.readNode2 mem (k : Int) W hm).mono fun e w' ⟨q, o, t, a, n, c, x, ae, ne, ce, he, hb, hy⟩ => ⟨q, o, t, a, n, c, x, ae, ne, ce, he, hb, fun h B hB => by
       obtain ⟨h1, h2, h3, h4, h5, h6, h7, h8, h9⟩ := hy h
       exact ⟨h1, h2, h3, h4, h5.mono hB, h6, h7, h8.mono hB, h9⟩⟩
     cases hnk : D1.nodeOk mem (k : Int) with
     | false =>
      rw [hnk] at hrn
      have HR : Hid (sound mem = false) := by
       show sound mem = false
       rw [HZ.out, nodesOk, N0.to_bad hlt hnk, Bool.false_and]
      clear hnk hok hm
      go_wp2_with (go_at_call 133; refine (hrn.out _).mono ?_; rintro e w4 ⟨q, o, t, a, n, c, x, ae, ne, ce, rfl, b4, -⟩)
      go_ret2
      exact HN.out _ HR.out (l3.trans ((((rd.below b4).bel).alloc (Nat.le_trans rd.bel.size b4.size) _).mono l3.size))
     | true =>
      rw [hnk] at hrn
      have HO : Hid (N0.to (fun i => D1.nodeOk mem (i : Int)) (k + 1) = true) := N0.to_step hok hnk
      clear hnk hok hm
      go_wp2_with (go_at_call 133; refine (hrn.out _).mono ?_; rintro e w4 ⟨q, o, t, a, n, c, x, ae, ne, ce, rfl, b4, hy⟩)
      have rd5 := (rd.below b4).below (K0.below_new w4 (.cells #[.int .i64 q, .int .i64 o, .int .i64 t, .slice a n c, .string x, .slice ae ne ce] 155))
      have nd5 : NdOk mem w3.heap.size k ⟨q, o, t, a, n, c, x, ae, ne, ce⟩ (w4.alloc (.cells #[.int .i64 q, .int .i64 o, .int .i64 t, .slice a n c, .string x, .slice ae ne ce] 155)) := (hy (by trivial) w3.heap.size (rd.tb.lt)).below (K0.below_new w4 _)
      have rd6 := rd5.step hlt nd5
      have nb := K0.blk_new [.int .i64 q, .int .i64 o, .int .i64 t, .slice a n c, .string x, .slice ae ne ce] w4 155
      obtain ⟨v0, v1, v2, v3, v4, v5⟩ := D1.cells6 nb
      have hany := fun j hj => rd5.tb.any (k * 6 + j) (by omega : k * 6 + j < 64)
      obtain ⟨y0, u0⟩ := hany 0 (by omega)
      obtain ⟨y1, u1⟩ := hany 1 (by omega)
      obtain ⟨y2, u2⟩ := hany 2 (by omega)
      obtain ⟨y3, u3⟩ := hany 3 (by omega)
      obtain ⟨y4, u4⟩ := hany 4 (by omega)
      obtain ⟨y5, u5⟩ := hany 5 (by omega)
      have f0 := rd5.tb.free (k * 6) (by omega)
      have f1 := rd5.tb.free (k * 6 + 1) (by omega)
      have f2 := rd5.tb.free (k * 6 + 2) (by omega)
      have f3 := rd5.tb.free (k * 6 + 3) (by omega)
      have f4 := rd5.tb.free (k * 6 + 4) (by omega)
      have f5 := rd5.tb.free (k * 6 + 5) (by omega)
      rw [Nat.add_zero] at u0
      have HD : Hid (Rd mem w3 (k + 1) (upN N k ⟨q, o, t, a, n, c, x, ae, ne, ce⟩) (putN (w4.alloc (.cells #[.int .i64 q, .int .i64 o, .int .i64 t, .slice a n c, .string x, .slice ae ne ce] 155)) w3.heap.size k ⟨q, o, t, a, n, c, x, ae, ne, ce⟩)) := rd6
      clear rd5 nd5 rd6 nb hany hy rd b4 hrn
      go_region
      go_wp2
      go_roundw
      case rel => exact ⟨k + 1, _, by omega, by go_num, HO.out, HD.out.drew⟩
      case measure => simp [intOf]; omega
    ·obtain rfl : k = 8 := by omega
     have hz : sound mem = ((tK mem 0 == 2) && (decide (cat (tZ mem) 8).Nodup && TR.treeOk (tE mem) (tK mem))) := by
      rw [HZ.out, nodesOk, hok, Bool.true_and]
     have x0 := rd.tb.kind (i := 0) (by decide)
     rw [(rd.nd 0 (by decide)).k, Nat.zero_mul] at x0
     have hpa := pagesApart wr rd.tb rd.ps
     have HR : Hid (Rd mem w3 8 N wr) := rd
     have e88 : decide ((8 : Int) < 8) = false := by decide
     have hbl := rd.bel
     by_cases hk2 : tK mem 0 = 2
     ·have HW : Hid (∀ W, Below wr.heap.size wr W → Calls Tryz.prog 135 #[.pointer (some ⟨w3.heap.size, 0, none⟩)] W fun e w' => W.grownBy w' (some w3.heap.size) ∧ ((e = .returned (.bool false) ∧ TR.treeOk (tE mem) (tK mem) = false) ∨ (e = .returned (.bool true) ∧ ∃ F P, Tb w3.heap.size N F P w' ∧ TR.Inv (tE mem) (tK mem) [] F P ∧ ∀ x, F x ≤ 281474976710656))) := fun W hb => by
       have rd' := rd.below hb
       have := walk W rd'.tb rd'.ns ((rd.nd 0 (by decide)).k.trans hk2)
       rw [rd.kinds] at this
       exact this
      have HF : Hid (∀ W F P, Tb w3.heap.size N F P W → (∀ x, F x ≤ 281474976710656) → Calls Tryz.prog 136 #[.pointer (some ⟨w3.heap.size, 0, none⟩)] W fun e w' => e = .returned (.bool (TR.onceAll F (tK mem))) ∧ w' = W) := fun W F P h hF => by
       have := foundOnce W h (fun i _ => hF i)
       rw [rd.kinds] at this
       exact this
      rw [hk2] at x0
      rw [hk2, show ((2 : Int) == 2) = true from rfl, Bool.true_and] at hz
      have HK : Hid (tK mem 0 = 2) := hk2
      clear rd hok hk2
      cases hnd : decide (cat (tZ mem) 8).Nodup with
      | false =>
       rw [hnd] at hpa
       rw [hnd, Bool.false_and] at hz
       clear hnd
       go_wp2_with (go_at_call 134; refine hpa.mono ?_; rintro e w5 ⟨rfl, b5⟩)
       go_ret2
       exact HN.out _ hz (l3.trans ((hbl.trans (b5.mono hbl.size)).mono l3.size))
      | true =>
       rw [hnd] at hpa
       rw [hnd, Bool.true_and] at hz
       have HZ2 : Hid (sound mem = TR.treeOk (tE mem) (tK mem)) := hz
       clear hnd hz
       have HB : Hid (∀ w5 w6, Below wr.heap.size wr w5 → w5.grownBy w6 (some w3.heap.size) → Below w.heap.size w w6) := fun w5 w6 b5 g6 => l3.trans (((hbl.trans (b5.mono hbl.size)).trans (below_gr g6 (Nat.le_refl _) (Nat.le_trans hbl.size b5.size))).mono l3.size)
       cases hto : TR.treeOk (tE mem) (tK mem) with
       | true =>
        have HS : Hid (sound mem = true) := HZ2.out.trans hto
        go_wp2_with (first
         | (go_at_call 134; refine hpa.mono ?_; rintro e w5 ⟨rfl, b5⟩)
         | (go_at_call 135; refine (HW.out _ b5).mono ?_; rintro e w6 ⟨g6, h6⟩; have h7 := h6.resolve_left (fun q => by rw [hto] at q; exact absurd q.2 (by simp)); obtain ⟨rfl, F, P, t6, i6, hF6⟩ := h7; have hfo := HF.out w6 F P t6 hF6; rw [i6.done (sane_ok mem) HK.out, hto] at hfo)
         | (go_at_call 136; refine hfo.mono ?_; rintro e w7 ⟨rfl, rfl⟩))
        go_ret2
        refine ans_yes HS.out (HB.out _ _ b5 g6) l3.size ⟨t6, fun i hi => ((HR.out.nd i hi).below b5).gr g6, i6⟩
       | false =>
        have HS : Hid (sound mem = false) := HZ2.out.trans hto
        have HW2 : Hid (∀ W, Below wr.heap.size wr W → Calls Tryz.prog 135 #[.pointer (some ⟨w3.heap.size, 0, none⟩)] W fun e w' => W.grownBy w' (some w3.heap.size) ∧ ((e = .returned (.bool false) ∧ TR.treeOk (tE mem) (tK mem) = false) ∨ (e = .returned (.bool true) ∧ ∃ F P, Tb w3.heap.size N F P w' ∧ TR.Inv (tE mem) (tK mem) [] F P ∧ ∀ x, F x ≤ 281474976710656))) := HW.out
        go_wp2_with (first
         | (go_at_call 134; refine hpa.mono ?_; rintro e w5 ⟨rfl, b5⟩)
         | (go_at_call 135; refine (HW2.out _ b5).mono ?_; rintro e w6 ⟨g6, h6⟩; rcases h6 with ⟨rfl, ht⟩ | ⟨rfl, F, P, t6, i6, hF6⟩))
        ·go_ret2
         exact HN.out _ HS.out (HB.out _ _ b5 g6)
        ·have hfo := HF.out w6 F P t6 hF6
         rw [i6.done (sane_ok mem) HK.out, hto] at hfo
         go_wp2_with (go_at_call 136; refine hfo.mono ?_; rintro e w7 ⟨rfl, rfl⟩)
         go_ret2
         exact HN.out _ HS.out (HB.out _ _ b5 g6)
     ·have hk2' : (tK mem 0 != 2) = true := by simpa using hk2
      rw [show (tK mem 0 == 2) = false by simpa using hk2, Bool.false_and] at hz
      clear rd hpa hok
      go_wp2
      go_ret2
      exact HN.out _ hz (l3.trans (hbl.mono l3.size))
 ·have hz : sound mem = false := by
   unfold sound
   rw [decide_eq_false hm, Bool.false_and]
  have e768 : ((mem.size : Int) != 768) = true := by simp; omega
  clear hm
  go_enter Tryz.func62, Tryz.ntmps62
  go_wp2
  go_ret2
  exact HN.out _ hz (Below.refl _ _)
end Go.Proofs.YtljnkicgahepfaaGreatDoor.TW
namespace Go.Proofs.YtljnkicgahepfaaGreatDoor.TS
open Go.ChangeShapes Go.WideShapes Go.ChangeAt Go.RowKit
variable {w W W' : World} {mem : ByteArray}
open J0 (IBuf Own)
open TW (tK tZ tE cat nodesOk sound headOk hd)
theorem cat_mem {Z : Nat → List Int} {z : Int} : ∀ {n : Nat}, z ∈ cat Z n → ∃ i, i < n ∧ z ∈ Z i
 | 0, h => by simp [cat] at h
 | n + 1, h => by
  rw [cat, List.mem_append] at h
  rcases h with h | h
  ·obtain ⟨i, hi, hz⟩ := cat_mem h
   exact ⟨i, by omega, hz⟩
  ·exact ⟨n, by omega, h⟩
theorem pages_eq (mem : ByteArray) : P0.pagesOk (cat (tZ mem) 8) = decide (cat (tZ mem) 8).Nodup := by
 have hr : ∀ z ∈ cat (tZ mem) 8, 5 ≤ z ∧ z ≤ 23 := by
  intro z hz
  obtain ⟨i, _, hi⟩ := cat_mem hz
  unfold tZ at hi
  cases hI : G0.isI (O0.recd mem (i : Int)) with
  | false =>
   rw [(G0.g_no hI).2.2.2] at hi
   simp at hi
  | true => exact (N0.pagesOk_iff.1 (O0.got hI).2.2.2.1).1 z hi
 apply Bool.eq_iff_iff.2
 rw [N0.pagesOk_iff, decide_eq_true_eq]
 exact ⟨fun h => h.2, fun h => ⟨hr, h⟩⟩
theorem par_zero (mem : ByteArray) : TR.par (TR.flat (tE mem) 8) 0 = -1 := by
 rw [TR.par_nil]
 unfold TR.own
 rw [List.filter_eq_nil_iff]
 intro p hp
 obtain ⟨i, e⟩ := p
 have := (TW.sane_ok mem).ino i e (TR.flat_mem.1 hp).2
 simp
 omega
theorem par_lt (mem : ByteArray) (x : Int) : TR.par (TR.flat (tE mem) 8) x < 8 := by
 rcases TR.par_ge (TR.flat (tE mem) 8) x with h | h | ⟨p, hp, h⟩
 ·omega
 ·omega
 ·have hm : p ∈ TR.own (TR.flat (tE mem) 8) x := by rw [hp]; simp
  obtain ⟨i, e⟩ := p
  have := (TR.flat_mem.1 (List.mem_filter.1 hm).1).1
  rw [h]
  simp only
  omega
theorem treeOk_bad {E : Nat → List T0.Ent} {K : Nat → Int} {i : Nat} (h0 : 0 < i) (h8 : i < 8) (h : TR.oneOk E K i = false) : TR.treeOk E K = false := by
 cases h' : TR.treeOk E K with
 | false => rfl
 | true => rw [TR.treeOk_iff.1 h' i h0 h8] at h; cases h
set_option maxHeartbeats 4000000 in
theorem spec_Sound (mem : ByteArray) (w : World) (hms : mem.size ≤ 281474976710656) : Calls Tryz.prog 45 #[.string mem] w fun e w' => e = .returned (.bool (sound mem)) ∧ Below w.heap.size w w' := by
 by_cases hm : mem.size = 768
 ·have hz : sound mem = (headOk mem && (nodesOk mem && ((tK mem 0 == 2) && (decide (cat (tZ mem) 8).Nodup && TR.treeOk (tE mem) (tK mem))))) := by
   unfold sound
   rw [decide_eq_true hm, Bool.true_and]
  have hpt : Hid (∀ W, Calls Tryz.prog 76 #[.string mem, .int .i64 0, .int .i64 32] W fun e w' => e = .returned (.string (B2.part mem 0 32)) ∧ w' = W) := fun W => B2.spec_Part _ _ _ _ (by unfold maxLen; omega) (by decide) (by decide)
  have hzr : Hid (∀ W, Calls Tryz.prog 111 #[.int .i64 28] W fun e w' => e = .returned (.string (B4.zeros 28)) ∧ w' = W) := fun W => B4.spec_Zeros 28 W
  have hzs : (B4.zeros 28).size = 28 := by decide +kernel
  have hadd : (⟨#[84, 78, 82, 49]⟩ : ByteArray) ++ B4.zeros 28 = hd := rfl
  have hho : headOk mem = ((B2.part mem 0 32).toList == hd.toList) := rfl
  obtain ⟨Q, hQ⟩ : ∃ Q, B2.part mem 0 32 = Q := ⟨_, rfl⟩
  obtain ⟨zz, hzz⟩ : ∃ zz, B4.zeros 28 = zz := ⟨_, rfl⟩
  obtain ⟨hh, hhh⟩ : ∃ hh, hd = hh := ⟨_, rfl⟩
  rw [hQ] at hpt hho
  rw [hhh] at hadd hho
  rw [hzz] at hzr hadd hzs
  have e768 : ((mem.size : Int) != 768) = false := by simp; omega
  have hsz1 : ¬ (9223372036854775807 < 4 + zz.size) := by omega
  clear hQ hzz hhh
  cases hH : headOk mem with
  | false =>
   rw [hH] at hho
   rw [hH, Bool.false_and] at hz
   have hne : (Q.toList == hh.toList) = false := hho.symm
   rw [hz]
   clear hho hH hz
   go_enter Tryz.func45, Tryz.ntmps45
   go_wp2_with (first
    | (go_at_call 76; refine (hpt.out _).mono ?_; rintro e w1 ⟨rfl, rfl⟩)
    | (go_at_call 111; refine (hzr.out _).mono ?_; rintro e w2 ⟨rfl, rfl⟩))
   go_ret
   exact ⟨rfl, Below.refl _ _⟩
  | true =>
   rw [hH] at hho
   rw [hH, Bool.true_and] at hz
   have hne : (Q.toList == hh.toList) = true := hho.symm
   have how : Hid (∀ W, Calls Tryz.prog 115 #[.string mem] W fun e w' => ∃ a c, e = .returned (.slice a (cat (tZ mem) 8).length c) ∧ (cat (tZ mem) 8).length ≤ c ∧ J0.Own W.heap.size w' a (cat (tZ mem) 8) ∧ Below W.heap.size W w') := fun W => l04Owned mem W hms
   have hlen := TW.cat_len (TW.pg_few mem) 8
   have hpg : Hid (∀ W a c, (cat (tZ mem) 8).length ≤ c → P0.Row W a (cat (tZ mem) 8) → Calls Tryz.prog 114 #[.slice a (cat (tZ mem) 8).length c] W fun e w' => e = .returned (.bool (decide (cat (tZ mem) 8).Nodup)) ∧ ∃ n, w' = W.drewN n) := fun W a c hc hR => by
    rw [← pages_eq]
    exact P1.l03Pages a c _ W (by omega) hc hR
   obtain ⟨zs, hzs'⟩ : ∃ zs, cat (tZ mem) 8 = zs := ⟨_, rfl⟩
   rw [hzs'] at how hpg hz
   clear hho hH hlen hzs'
   cases hnd : decide zs.Nodup with
   | false =>
    rw [hnd] at hpg
    rw [hnd, Bool.false_and, Bool.and_false, Bool.and_false] at hz
    rw [hz]
    clear hnd hz
    go_enter Tryz.func45, Tryz.ntmps45
    go_wp2_with (first
     | (go_at_call 76; refine (hpt.out _).mono ?_; rintro e w1 ⟨rfl, rfl⟩)
     | (go_at_call 111; refine (hzr.out _).mono ?_; rintro e w2 ⟨rfl, rfl⟩)
     | (go_at_call 115; refine (how.out _).mono ?_; rintro e w3 ⟨a3, c3, rfl, hc3, o3, b3⟩)
     | (go_at_call 114; refine (hpg.out _ _ _ hc3 o3.row).mono ?_; rintro e w4 ⟨rfl, n4, rfl⟩))
    go_ret
    exact ⟨rfl, K0.below_drewN b3 n4⟩
   | true =>
    rw [hnd] at hpg
    rw [hnd, Bool.true_and] at hz
    have hpa : Hid (∀ W, Calls Tryz.prog 117 #[.string mem] W (Par mem W)) := fun W => l04Parents mem W hm
    have hPA : Hid (∀ W e w', Par mem W e w' → ∃ a1 c1 a2 c2, e = .returned (.tuple #[.slice a1 8 c1, .slice a2 8 c2, .bool (nodesOk mem)]) ∧ Below W.heap.size W w' ∧ (nodesOk mem = true → ∃ g1 g2, a1 = some ⟨g1, 0, none⟩ ∧ a2 = some ⟨g2, 0, none⟩ ∧ Pr W g1 g2 (TR.flat (tE mem) 8) w')) := fun W e w' h => h
    have hLo : Hid (∀ (k : Nat) W, Calls Tryz.prog 116 #[.string mem, .int .i64 (k : Int)] W fun e w' => ∃ (o s : Int) (a : Option Addr) (n c : Nat) (x : ByteArray) (bb : Bool), e = .returned (.tuple #[.agg #[.int .i64 (tK mem k), .int .i64 o, .int .i64 s, .slice a n c], .string x, .bool bb]) ∧ Below W.heap.size W w') := fun k W => (O3.spec_Load mem (k : Int) W hms).mono fun e w' ⟨a, c, he, ho, hc, hb⟩ => ⟨_, _, a, _, c, _, _, by rw [tK, ← lK_eq hm]; exact he, hb⟩
    have hL0 : Hid (∀ W, Calls Tryz.prog 116 #[.string mem, .int .i64 0] W fun e w' => ∃ (o s : Int) (a : Option Addr) (n c : Nat) (x : ByteArray) (bb : Bool), e = .returned (.tuple #[.agg #[.int .i64 (tK mem 0), .int .i64 o, .int .i64 s, .slice a n c], .string x, .bool bb]) ∧ Below W.heap.size W w') := fun W => hLo.out 0 W
    clear hnd
    cases hno : nodesOk mem with
    | false =>
     rw [hno] at hPA
     rw [hno, Bool.false_and] at hz
     rw [hz]
     clear hno hz hLo
     go_enter Tryz.func45, Tryz.ntmps45
     go_wp2_with (first
      | (go_at_call 76; refine (hpt.out _).mono ?_; rintro e w1 ⟨rfl, rfl⟩)
      | (go_at_call 111; refine (hzr.out _).mono ?_; rintro e w2 ⟨rfl, rfl⟩)
      | (go_at_call 115; refine (how.out _).mono ?_; rintro e w3 ⟨a3, c3, rfl, hc3, o3, b3⟩)
      | (go_at_call 114; refine (hpg.out _ _ _ hc3 o3.row).mono ?_; rintro e w4 ⟨rfl, n4, rfl⟩; have l4 := K0.below_drewN b3 n4)
      | (go_at_call 116; refine (hL0.out _).mono ?_; rintro e w5 ⟨o5, s5, a5, n5, c5, x5, bb5, rfl, b5⟩; have l5 := ((l4.trans (b5.mono l4.size)).alloc (Nat.le_trans l4.size b5.size) (.cells #[.int .i64 (tK mem 0), .int .i64 o5, .int .i64 s5, .slice a5 n5 c5] 143)))
      | (go_at_call 117; refine (hpa.out _).mono ?_; intro e w6 hans; obtain ⟨a6, c6, a7, c7, rfl, b6, -⟩ := hPA.out _ _ _ hans; clear hans))
     go_ret
     exact ⟨rfl, l5.trans (b6.mono l5.size)⟩
    | true =>
     rw [hno] at hPA
     rw [hno, Bool.true_and] at hz
     by_cases hk2 : tK mem 0 = 2
     ·rw [hk2, show ((2 : Int) == 2) = true from rfl, Bool.true_and] at hz
      rw [hk2] at hL0
      have HZ : Hid (sound mem = TR.treeOk (tE mem) (tK mem)) := hz
      clear hno hz hk2
      go_enter Tryz.func45, Tryz.ntmps45
      go_wp2_with (first
       | (go_at_call 76; refine (hpt.out _).mono ?_; rintro e w1 ⟨rfl, rfl⟩)
       | (go_at_call 111; refine (hzr.out _).mono ?_; rintro e w2 ⟨rfl, rfl⟩)
       | (go_at_call 115; refine (how.out _).mono ?_; rintro e w3 ⟨a3, c3, rfl, hc3, o3, b3⟩)
       | (go_at_call 114; refine (hpg.out _ _ _ hc3 o3.row).mono ?_; rintro e w4 ⟨rfl, n4, rfl⟩; have l4 := K0.below_drewN b3 n4)
       | (go_at_call 116; refine (hL0.out _).mono ?_; rintro e w5 ⟨o5, s5, a5, n5, c5, x5, bb5, rfl, b5⟩; have l5 := ((l4.trans (b5.mono l4.size)).alloc (Nat.le_trans l4.size b5.size) (.cells #[.int .i64 2, .int .i64 o5, .int .i64 s5, .slice a5 n5 c5] 143)); have y5 := (K0.blk_new [.int .i64 2, .int .i64 o5, .int .i64 s5, .slice a5 n5 c5] w5 143))
       | (go_at_call 117; refine (hpa.out _).mono ?_; intro e w6 hans; obtain ⟨a6, c6, a7, c7, rfl, b6, hy6⟩ := hPA.out _ _ _ hans; clear hans; obtain ⟨g1, g2, rfl, rfl, pr6⟩ := hy6 (by trivial); clear hy6; have y6 := (y5.below b6).c0))
      obtain ⟨wa, hwa⟩ : ∃ wa, w5.alloc (.cells #[.int .i64 2, .int .i64 o5, .int .i64 s5, .slice a5 n5 c5] 143) = wa := ⟨_, rfl⟩
      rw [hwa] at pr6 l5
      clear y6 y5 b6 hwa b5 l4 hpg how hpt hzr hL0 hpa hPA o3 b3
      go_loopg [9] 7 (fun gk v W => ∃ k : Nat, 0 < k ∧ k + gk = 8 ∧ v = .int .i64 k ∧ (∀ i, 0 < i → i < k → TR.oneOk (tE mem) (tK mem) i = true) ∧ Pr wa g1 g2 (TR.flat (tE mem) 8) W)
      case atStart => exact ⟨1, by decide, rfl, rfl, fun i h0 h1 => by omega, pr6⟩
      case round =>
       obtain ⟨k, hk0, hkg, rfl, hall, pr⟩ := hrel
       clear pr6
       by_cases hlt : k < 8
       ·have hLk : Hid (∀ W, Calls Tryz.prog 116 #[.string mem, .int .i64 (k : Int)] W fun e w' => ∃ (o s : Int) (a : Option Addr) (n c : Nat) (x : ByteArray) (bb : Bool), e = .returned (.tuple #[.agg #[.int .i64 (tK mem k), .int .i64 o, .int .i64 s, .slice a n c], .string x, .bool bb]) ∧ Below W.heap.size W w') := fun W => hLo.out k W
        have hone : TR.oneOk (tE mem) (tK mem) k = (((tK mem k == 0) == (TR.par (TR.flat (tE mem) 8) (k : Int) == -1)) && (tK mem k == 0 || TR.root (TR.par (TR.flat (tE mem) 8)) 8 (k : Int))) := rfl
        have HBAD : Hid (TR.oneOk (tE mem) (tK mem) k = false → sound mem = false) := fun h => by rw [HZ.out]; exact treeOk_bad hk0 hlt h
        have HGOOD : Hid (TR.oneOk (tE mem) (tK mem) k = true → ∀ i, 0 < i → i < k + 1 → TR.oneOk (tE mem) (tK mem) i = true) := fun h i h0 h1 => by
         by_cases e : i = k
         ·rw [e]
          exact h
         ·exact hall i h0 (by omega)
        have hRt : Hid (∀ W, Pr wa g1 g2 (TR.flat (tE mem) 8) W → Calls Tryz.prog 118 #[.slice (some ⟨g1, 0, none⟩) 8 c6, .int .i64 (k : Int)] W fun e w' => e = .returned (.bool (TR.root (TR.par (TR.flat (tE mem) 8)) 8 (k : Int))) ∧ w' = W) := fun W h => l04Root _ g1 c6 k W (par_lt mem) (fun x hx => h.par hx) (by omega)
        have e1 : (0 : Int) ≤ (k : Int) := by omega
        have e2 : (k : Int) < 8 := by omega
        obtain ⟨K, hK⟩ : ∃ K, tK mem k = K := ⟨_, rfl⟩
        obtain ⟨p, hp⟩ : ∃ p, TR.par (TR.flat (tE mem) 8) (k : Int) = p := ⟨_, rfl⟩
        obtain ⟨r, hr⟩ : ∃ r, TR.root (TR.par (TR.flat (tE mem) 8)) 8 (k : Int) = r := ⟨_, rfl⟩
        rw [hK] at hLk hone
        rw [hp] at hone
        rw [hr] at hone hRt
        have HP : Hid (TR.par (TR.flat (tE mem) 8) (k : Int) = p) := hp
        clear hK hp hr hall hLo
        go_wp2_with (go_at_call 116; refine (hLk.out _).mono ?_; rintro e w7 ⟨o7, s7, a7, n7, c7', x7, bb7, rfl, b7⟩; have p7 := (pr.below b7).below (K0.below_new w7 (.cells #[.int .i64 K, .int .i64 o7, .int .i64 s7, .slice a7 n7 c7'] 143)); have y7 := (K0.blk_new [.int .i64 K, .int .i64 o7, .int .i64 s7, .slice a7 n7 c7'] w7 143).c0)
        have u7 := p7.par hlt
        rw [HP.out] at u7
        clear hLk pr b7
        by_cases hKz : K = 0 <;> by_cases hpn : p = -1
        ·subst hKz hpn
         have HA := HGOOD.out (by rw [hone]; rfl)
         have HA' : Hid (∀ i, 0 < i → i < k + 1 → TR.oneOk (tE mem) (tK mem) i = true) := HA
         clear HA hone HBAD HGOOD
         go_quiet (fail)
         go_wp2
         go_roundg (gk - 1)
         case measure => omega
         case rel => exact ⟨k + 1, by omega, by omega, by go_num, HA'.out, p7.drewN _⟩
        ·subst hKz
         have hpn' : (p == -1) = false := by simpa using hpn
         have HB2 : Hid (sound mem = false) := HBAD.out (by rw [hone, hpn']; rfl)
         clear hone HBAD HGOOD
         go_quiet (fail)
         go_wp2
         go_ret
         exact ⟨ret_bool HB2.out.symm, l5.trans ((K0.below_drewN p7.bel _).mono l5.size)⟩
        ·subst hpn
         have hKz' : (K == 0) = false := by simpa using hKz
         have HB2 : Hid (sound mem = false) := HBAD.out (by rw [hone, hKz']; rfl)
         clear hone HBAD HGOOD
         go_quiet (fail)
         go_wp2
         go_ret
         exact ⟨ret_bool HB2.out.symm, l5.trans ((K0.below_drewN p7.bel _).mono l5.size)⟩
        ·have hpn' : (p == -1) = false := by simpa using hpn
         have hKz' : (K == 0) = false := by simpa using hKz
         have hKn : (K != 0) = true := by simpa using hKz
         have hone' : TR.oneOk (tE mem) (tK mem) k = r := by rw [hone, hpn', hKz']; simp
         clear hone
         cases r with
         | true =>
          have HA' : Hid (∀ i, 0 < i → i < k + 1 → TR.oneOk (tE mem) (tK mem) i = true) := HGOOD.out hone'
          clear hone' HBAD HGOOD
          go_quiet ((go_at_call 118; exact Calls.quiet_of_same (hRt.out _ (p7.drewN _))))
          go_wp2
          go_roundg (gk - 1)
          case measure => omega
          case rel => exact ⟨k + 1, by omega, by omega, by go_num, HA'.out, p7.drewN _⟩
         | false =>
          have HB2 : Hid (sound mem = false) := HBAD.out hone'
          clear hone' HBAD HGOOD
          go_quiet ((go_at_call 118; exact Calls.quiet_of_same (hRt.out _ (p7.drewN _))))
          go_wp2
          go_ret
          exact ⟨ret_bool HB2.out.symm, l5.trans ((K0.below_drewN p7.bel _).mono l5.size)⟩
       ·obtain rfl : k = 8 := by omega
        have HS : Hid (sound mem = true) := by
         show sound mem = true
         rw [HZ.out]
         exact TR.treeOk_iff.2 fun i h0 h8 => hall i h0 h8
        have u0 := pr.par (x := 0) (by decide)
        rw [show ((0 : Nat) : Int) = 0 from rfl, par_zero] at u0
        clear hall hLo
        go_wp2
        go_ret
        exact ⟨ret_bool HS.out.symm, l5.trans (pr.bel.mono l5.size)⟩
     ·have hk2' : (tK mem 0 != 2) = true := by simpa using hk2
      rw [show (tK mem 0 == 2) = false by simpa using hk2, Bool.false_and] at hz
      rw [hz]
      clear hno hz hLo
      go_enter Tryz.func45, Tryz.ntmps45
      go_wp2_with (first
       | (go_at_call 76; refine (hpt.out _).mono ?_; rintro e w1 ⟨rfl, rfl⟩)
       | (go_at_call 111; refine (hzr.out _).mono ?_; rintro e w2 ⟨rfl, rfl⟩)
       | (go_at_call 115; refine (how.out _).mono ?_; rintro e w3 ⟨a3, c3, rfl, hc3, o3, b3⟩)
       | (go_at_call 114; refine (hpg.out _ _ _ hc3 o3.row).mono ?_; rintro e w4 ⟨rfl, n4, rfl⟩; have l4 := K0.below_drewN b3 n4)
       | (go_at_call 116; refine (hL0.out _).mono ?_; rintro e w5 ⟨o5, s5, a5, n5, c5, x5, bb5, rfl, b5⟩; have l5 := ((l4.trans (b5.mono l4.size)).alloc (Nat.le_trans l4.size b5.size) (.cells #[.int .i64 (tK mem 0), .int .i64 o5, .int .i64 s5, .slice a5 n5 c5] 143)); have y5 := (K0.blk_new [.int .i64 (tK mem 0), .int .i64 o5, .int .i64 s5, .slice a5 n5 c5] w5 143))
       | (go_at_call 117; refine (hpa.out _).mono ?_; intro e w6 hans; obtain ⟨a6, c6, a7, c7, rfl, b6, -⟩ := hPA.out _ _ _ hans; clear hans; have y6 := (y5.below b6).c0))
      go_ret
      exact ⟨rfl, l5.trans (b6.mono l5.size)⟩
 ·have hz : sound mem = false := by
   unfold sound
   rw [decide_eq_false hm, Bool.false_and]
  have e768 : ((mem.size : Int) != 768) = true := by simp; omega
  rw [hz]
  clear hm hz
  go_enter Tryz.func45, Tryz.ntmps45
  go_wp2
  go_ret
  exact ⟨rfl, Below.refl _ _⟩
end Go.Proofs.YtljnkicgahepfaaGreatDoor.TS
