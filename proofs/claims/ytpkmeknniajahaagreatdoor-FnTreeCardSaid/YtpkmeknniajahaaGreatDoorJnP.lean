/- Joined texts: plain facts and contracts. -/
import Derived.Test.YtpkmeknniajahaaGreatDoorJnO
import Derived.Test.YtpkmeknniajahaaGreatDoorJnE
import Derived.Test.YtpkmeknniajahaaGreatDoorJnN
import Derived.Deep.RegionHeld3
import Derived.RegionTactic
set_option linter.unusedVariables false
set_option linter.unusedSimpArgs false
set_option maxRecDepth 10000
namespace Go.Proofs.YtpkmeknniajahaaGreatDoor.TW
open Go.ChangeShapes Go.WideShapes Go.ChangeAt Go.RowKit
variable {B : Nat} {N : Nat → Nd} {F : Nat → Nat} {P : Nat → ByteArray} {w W W' : World} {mem : ByteArray}
set_option maxHeartbeats 4000000 in
theorem readTree (mem : ByteArray) (w : World) (hms : mem.size ≤ 281474976710656) : Calls Tryz.prog 25 #[.string mem] w (Ans mem w) := by
 have HN : Hid (∀ w', sound mem = false → Below w.heap.size w w' → Ans mem w (.returned (.tuple #[.pointer none, .bool false])) w') := fun w' h hb => ans_no h hb
 by_cases hm : mem.size = 768
 ·have hz : sound mem = (headOk mem && (nodesOk mem && ((tK mem 0 == 2) && (decide (cat (tZ mem) 8).Nodup && TR.treeOk (tE mem) (tK mem))))) := by
   unfold sound
   rw [decide_eq_true hm, Bool.true_and]
  have hpt : Hid (∀ W, Calls Tryz.prog 57 #[.string mem, .int .i64 0, .int .i64 32] W fun e w' => e = .returned (.string (B2.part mem 0 32)) ∧ Below W.heap.size W w') := fun W => B2.impl_Part _ _ _ _ hms
  have hzr : Hid (∀ W, Calls Tryz.prog 31 #[.int .i64 32] W fun e w' => e = .returned (.string (B4.zeros 32)) ∧ Below W.heap.size W w') := fun W => B4.impl_Zeros 32 W
  have hwt : Hid (∀ W, Calls Tryz.prog 30 #[.string (B4.zeros 32), .int .i64 0, .string ⟨#[84, 78, 82, 49]⟩] W fun e w' => e = .returned (.string hd) ∧ Below W.heap.size W w') := fun W => by
   have := B5.impl_With (B4.zeros 32) 0 ⟨#[84, 78, 82, 49]⟩ W (by decide +kernel) (show 4 ≤ 281474976710656 by omega)
   rw [hd_laid] at this
   exact this
  have hho : headOk mem = ((B2.part mem 0 32).toList == hd.toList) := rfl
  obtain ⟨Q, hQ⟩ : ∃ Q, B2.part mem 0 32 = Q := ⟨_, rfl⟩
  obtain ⟨zz, hzz⟩ : ∃ zz, B4.zeros 32 = zz := ⟨_, rfl⟩
  obtain ⟨hh, hhh⟩ : ∃ hh, hd = hh := ⟨_, rfl⟩
  rw [hQ] at hpt hho
  rw [hhh] at hwt hho
  rw [hzz] at hzr hwt
  have e768 : ((mem.size : Int) != 768) = false := by simp; omega
  clear hQ hzz hhh
  cases hH : headOk mem with
  | false =>
   rw [hH] at hho
   rw [hH, Bool.false_and] at hz
   have hne : (Q.toList == hh.toList) = false := hho.symm
   clear hho hH
   go_enter Tryz.func25, Tryz.ntmps25
   go_wp2_with (first
    | (go_at_call 57; refine (hpt.out _).mono ?_; rintro e w1 ⟨rfl, b1⟩)
    | (go_at_call 31; refine (hzr.out _).mono ?_; rintro e w2 ⟨rfl, b2⟩)
    | (go_at_call 30; refine (hwt.out _).mono ?_; rintro e w3 ⟨rfl, b3⟩))
   go_ret2
   exact HN.out _ hz ((b1.trans (b2.mono b1.size)).trans (b3.mono (Nat.le_trans b1.size b2.size)))
  | true =>
   rw [hH] at hho
   rw [hH, Bool.true_and] at hz
   have hne : (Q.toList == hh.toList) = true := hho.symm
   have hz0 := (zero_of_info zeroTree).1
   have hrd0 : Hid (∀ W : World, Rd mem W 0 (fun _ => zeroN) (W.alloc (.cells zcells.toArray 83))) := fun W => rd_new mem W
   obtain ⟨ZC, hZC⟩ : ∃ ZC, zcells.toArray = ZC := ⟨_, rfl⟩
   rw [hZC] at hz0 hrd0
   have HZ : Hid (sound mem = (nodesOk mem && ((tK mem 0 == 2) && (decide (cat (tZ mem) 8).Nodup && TR.treeOk (tE mem) (tK mem))))) := hz
   clear hho hH hZC hz
   go_enter Tryz.func25, Tryz.ntmps25
   go_wp2_with (first
    | (go_at_call 57; refine (hpt.out _).mono ?_; rintro e w1 ⟨rfl, b1⟩)
    | (go_at_call 31; refine (hzr.out _).mono ?_; rintro e w2 ⟨rfl, b2⟩)
    | (go_at_call 30; refine (hwt.out _).mono ?_; rintro e w3 ⟨rfl, b3⟩))
   have l3 : Below w.heap.size w w3 := (b1.trans (b2.mono b1.size)).trans (b3.mono (Nat.le_trans b1.size b2.size))
   have r0 := hrd0.out w3
   clear b1 b2 b3 hpt hzr hwt hz0 hrd0 hne
   go_loopw [20] (fun i W => ∃ (k : Nat) (N : Nat → Nd), k ≤ 8 ∧ i = .int .i64 k ∧ N0.to (fun i => D1.nodeOk mem (i : Int)) k = true ∧ Rd mem w3 k N W) (fun i _ => 8 - (intOf i).toNat)
   case atStart => exact ⟨0, _, Nat.zero_le _, rfl, rfl, r0⟩
   case round =>
    obtain ⟨k, N, hk, rfl, hok, rd⟩ := hrel
    clear r0
    by_cases hlt : k < 8
    ·have e1 : (0 : Int) ≤ (k : Int) := by omega
     have e2 : (k : Int) < 8 := by omega
     have hrn : Hid (∀ W, Calls Tryz.prog 58 #[.string mem, .int .i64 (k : Int)] W fun e w' => ∃ (q o t : Int) (a : Option Addr) (n c : Nat) (x : ByteArray) (ae : Option Addr) (ne ce : Nat), e = .returned (.tuple #[.agg #[.int .i64 q, .int .i64 o, .int .i64 t, .slice a n c, .string x, .slice ae ne ce], .bool (D1.nodeOk mem (k : Int))]) ∧ Below W.heap.size W w' ∧ (D1.nodeOk mem (k : Int) = true → ∀ B, B < W.heap.size → NdOk mem B k ⟨q, o, t, a, n, c, x, ae, ne, ce⟩ w')) := fun W =>
      (D1.readNode2 mem (k : Int) W hm).mono fun e w' ⟨q, o, t, a, n, c, x, ae, ne, ce, he, hb, hy⟩ => ⟨q, o, t, a, n, c, x, ae, ne, ce, he, hb, fun h B hB => by
       obtain ⟨h1, h2, h3, h4, h5, h6, h7, h8, h9⟩ := hy h
       exact ⟨h1, h2, h3, h4, h5.mono hB, h6, h7, h8.mono hB, h9⟩⟩
     cases hnk : D1.nodeOk mem (k : Int) with
     | false =>
      rw [hnk] at hrn
      have HR : Hid (sound mem = false) := by
       show sound mem = false
       rw [HZ.out, nodesOk, N0.to_bad hlt hnk, Bool.false_and]
      clear hnk hok hm
      go_wp2_with (go_at_call 58; refine (hrn.out _).mono ?_; rintro e w4 ⟨q, o, t, a, n, c, x, ae, ne, ce, rfl, b4, -⟩)
      go_ret2
      exact HN.out _ HR.out (l3.trans ((((rd.below b4).bel).alloc (Nat.le_trans rd.bel.size b4.size) _).mono l3.size))
     | true =>
      rw [hnk] at hrn
      have HO : Hid (N0.to (fun i => D1.nodeOk mem (i : Int)) (k + 1) = true) := N0.to_step hok hnk
      clear hnk hok hm
      go_wp2_with (go_at_call 58; refine (hrn.out _).mono ?_; rintro e w4 ⟨q, o, t, a, n, c, x, ae, ne, ce, rfl, b4, hy⟩)
      have rd5 := (rd.below b4).below (K0.below_new w4 (.cells #[.int .i64 q, .int .i64 o, .int .i64 t, .slice a n c, .string x, .slice ae ne ce] 78))
      have nd5 : NdOk mem w3.heap.size k ⟨q, o, t, a, n, c, x, ae, ne, ce⟩ (w4.alloc (.cells #[.int .i64 q, .int .i64 o, .int .i64 t, .slice a n c, .string x, .slice ae ne ce] 78)) := (hy (by trivial) w3.heap.size (rd.tb.lt)).below (K0.below_new w4 _)
      have rd6 := rd5.step hlt nd5
      have nb := K0.blk_new [.int .i64 q, .int .i64 o, .int .i64 t, .slice a n c, .string x, .slice ae ne ce] w4 78
      obtain ⟨v0, v1, v2, v3, v4, v5⟩ := D1.cells6 nb
      have hany := fun j hj => rd5.tb.any (k * 6 + j) (by omega : k * 6 + j < 64)
      obtain ⟨y0, u0⟩ := hany 0 (by omega)
      obtain ⟨y1, u1⟩ := hany 1 (by omega)
      obtain ⟨y2, u2⟩ := hany 2 (by omega)
      obtain ⟨y3, u3⟩ := hany 3 (by omega)
      obtain ⟨y4, u4⟩ := hany 4 (by omega)
      obtain ⟨y5, u5⟩ := hany 5 (by omega)
      have f0 := rd5.tb.free (k * 6) (by omega)
      have f1 := rd5.tb.free (k * 6 + 1) (by omega)
      have f2 := rd5.tb.free (k * 6 + 2) (by omega)
      have f3 := rd5.tb.free (k * 6 + 3) (by omega)
      have f4 := rd5.tb.free (k * 6 + 4) (by omega)
      have f5 := rd5.tb.free (k * 6 + 5) (by omega)
      rw [Nat.add_zero] at u0
      have HD : Hid (Rd mem w3 (k + 1) (upN N k ⟨q, o, t, a, n, c, x, ae, ne, ce⟩) (putN (w4.alloc (.cells #[.int .i64 q, .int .i64 o, .int .i64 t, .slice a n c, .string x, .slice ae ne ce] 78)) w3.heap.size k ⟨q, o, t, a, n, c, x, ae, ne, ce⟩)) := rd6
      clear rd5 nd5 rd6 nb hany hy rd b4 hrn
      go_region
      go_wp2
      go_roundw
      case rel => exact ⟨k + 1, _, by omega, by go_num, HO.out, HD.out.drew⟩
      case measure => simp [intOf]; omega
    ·obtain rfl : k = 8 := by omega
     have hz : sound mem = ((tK mem 0 == 2) && (decide (cat (tZ mem) 8).Nodup && TR.treeOk (tE mem) (tK mem))) := by
      rw [HZ.out, nodesOk, hok, Bool.true_and]
     have x0 := rd.tb.kind (i := 0) (by decide)
     rw [(rd.nd 0 (by decide)).k, Nat.zero_mul] at x0
     have hpa := pagesApart wr rd.tb rd.ps
     have HR : Hid (Rd mem w3 8 N wr) := rd
     have e88 : decide ((8 : Int) < 8) = false := by decide
     have hbl := rd.bel
     by_cases hk2 : tK mem 0 = 2
     ·have HW : Hid (∀ W, Below wr.heap.size wr W → Calls Tryz.prog 60 #[.pointer (some ⟨w3.heap.size, 0, none⟩)] W fun e w' => W.grownBy w' (some w3.heap.size) ∧ ((e = .returned (.bool false) ∧ TR.treeOk (tE mem) (tK mem) = false) ∨ (e = .returned (.bool true) ∧ ∃ F P, Tb w3.heap.size N F P w' ∧ TR.Inv (tE mem) (tK mem) [] F P ∧ ∀ x, F x ≤ 281474976710656))) := fun W hb => by
       have rd' := rd.below hb
       have := walk W rd'.tb rd'.ns ((rd.nd 0 (by decide)).k.trans hk2)
       rw [rd.kinds] at this
       exact this
      have HF : Hid (∀ W F P, Tb w3.heap.size N F P W → (∀ x, F x ≤ 281474976710656) → Calls Tryz.prog 61 #[.pointer (some ⟨w3.heap.size, 0, none⟩)] W fun e w' => e = .returned (.bool (TR.onceAll F (tK mem))) ∧ w' = W) := fun W F P h hF => by
       have := foundOnce W h (fun i _ => hF i)
       rw [rd.kinds] at this
       exact this
      rw [hk2] at x0
      rw [hk2, show ((2 : Int) == 2) = true from rfl, Bool.true_and] at hz
      have HK : Hid (tK mem 0 = 2) := hk2
      clear rd hok hk2
      cases hnd : decide (cat (tZ mem) 8).Nodup with
      | false =>
       rw [hnd] at hpa
       rw [hnd, Bool.false_and] at hz
       clear hnd
       go_wp2_with (go_at_call 59; refine hpa.mono ?_; rintro e w5 ⟨rfl, b5⟩)
       go_ret2
       exact HN.out _ hz (l3.trans ((hbl.trans (b5.mono hbl.size)).mono l3.size))
      | true =>
       rw [hnd] at hpa
       rw [hnd, Bool.true_and] at hz
       have HZ2 : Hid (sound mem = TR.treeOk (tE mem) (tK mem)) := hz
       clear hnd hz
       have HB : Hid (∀ w5 w6, Below wr.heap.size wr w5 → w5.grownBy w6 (some w3.heap.size) → Below w.heap.size w w6) := fun w5 w6 b5 g6 => l3.trans (((hbl.trans (b5.mono hbl.size)).trans (below_gr g6 (Nat.le_refl _) (Nat.le_trans hbl.size b5.size))).mono l3.size)
       cases hto : TR.treeOk (tE mem) (tK mem) with
       | true =>
        have HS : Hid (sound mem = true) := HZ2.out.trans hto
        go_wp2_with (first
         | (go_at_call 59; refine hpa.mono ?_; rintro e w5 ⟨rfl, b5⟩)
         | (go_at_call 60; refine (HW.out _ b5).mono ?_; rintro e w6 ⟨g6, h6⟩; have h7 := h6.resolve_left (fun q => by rw [hto] at q; exact absurd q.2 (by simp)); obtain ⟨rfl, F, P, t6, i6, hF6⟩ := h7; have hfo := HF.out w6 F P t6 hF6; rw [i6.done (sane_ok mem) HK.out, hto] at hfo)
         | (go_at_call 61; refine hfo.mono ?_; rintro e w7 ⟨rfl, rfl⟩))
        go_ret2
        refine ans_yes HS.out (HB.out _ _ b5 g6) l3.size ⟨t6, fun i hi => ((HR.out.nd i hi).below b5).gr g6, i6⟩
       | false =>
        have HS : Hid (sound mem = false) := HZ2.out.trans hto
        have HW2 : Hid (∀ W, Below wr.heap.size wr W → Calls Tryz.prog 60 #[.pointer (some ⟨w3.heap.size, 0, none⟩)] W fun e w' => W.grownBy w' (some w3.heap.size) ∧ ((e = .returned (.bool false) ∧ TR.treeOk (tE mem) (tK mem) = false) ∨ (e = .returned (.bool true) ∧ ∃ F P, Tb w3.heap.size N F P w' ∧ TR.Inv (tE mem) (tK mem) [] F P ∧ ∀ x, F x ≤ 281474976710656))) := HW.out
        go_wp2_with (first
         | (go_at_call 59; refine hpa.mono ?_; rintro e w5 ⟨rfl, b5⟩)
         | (go_at_call 60; refine (HW2.out _ b5).mono ?_; rintro e w6 ⟨g6, h6⟩; rcases h6 with ⟨rfl, ht⟩ | ⟨rfl, F, P, t6, i6, hF6⟩))
        ·go_ret2
         exact HN.out _ HS.out (HB.out _ _ b5 g6)
        ·have hfo := HF.out w6 F P t6 hF6
         rw [i6.done (sane_ok mem) HK.out, hto] at hfo
         go_wp2_with (go_at_call 61; refine hfo.mono ?_; rintro e w7 ⟨rfl, rfl⟩)
         go_ret2
         exact HN.out _ HS.out (HB.out _ _ b5 g6)
     ·have hk2' : (tK mem 0 != 2) = true := by simpa using hk2
      rw [show (tK mem 0 == 2) = false by simpa using hk2, Bool.false_and] at hz
      clear rd hpa hok
      go_wp2
      go_ret2
      exact HN.out _ hz (l3.trans (hbl.mono l3.size))
 ·have hz : sound mem = false := by
   unfold sound
   rw [decide_eq_false hm, Bool.false_and]
  have e768 : ((mem.size : Int) != 768) = true := by simp; omega
  clear hm
  go_enter Tryz.func25, Tryz.ntmps25
  go_wp2
  go_ret2
  exact HN.out _ hz (Below.refl _ _)
end Go.Proofs.YtpkmeknniajahaaGreatDoor.TW
namespace Go.Proofs.YtpkmeknniajahaaGreatDoor.TR
open T0 (Ent)
variable {E : Nat → List Ent} {K : Nat → Int} {F : Nat → Nat} {P : Nat → ByteArray} {d k x : Nat}
def At2 (E : Nat → List Ent) : Nat → Nat → ByteArray → Prop
 | x, 0, p => x = 0 ∧ p = ⟨#[]⟩
 | x, k + 1, p => ∃ d q nm, At2 E d k q ∧ ((x : Int), nm) ∈ E d ∧ p = q ++ (⟨#[47]⟩ ++ nm)
theorem At2.zero {E : Nat → List Ent} : At2 E 0 0 ⟨#[]⟩ := ⟨rfl, rfl⟩
theorem At2.down {E : Nat → List Ent} {d k : Nat} {q : ByteArray} {x : Nat} {nm : ByteArray} (h : At2 E d k q) (hm : ((x : Int), nm) ∈ E d) : At2 E x (k + 1) (q ++ (⟨#[47]⟩ ++ nm)) := ⟨d, q, nm, h, hm, rfl⟩
theorem At2.or {E : Nat → List Ent} {x : Nat} {p : ByteArray} : ∀ {k : Nat}, At2 E x k p → (x = 0 ∧ k = 0 ∧ p = ⟨#[]⟩) ∨ ∃ d k' q nm, k = k' + 1 ∧ At2 E d k' q ∧ ((x : Int), nm) ∈ E d ∧ p = q ++ (⟨#[47]⟩ ++ nm)
 | 0, h => Or.inl ⟨h.1, rfl, h.2⟩
 | k + 1, ⟨d, q, nm, h, hm, e⟩ => Or.inr ⟨d, k, q, nm, rfl, h, hm, e⟩
theorem At2.ind {E : Nat → List Ent} {motive : (x k : Nat) → (p : ByteArray) → At2 E x k p → Prop} (zero : motive 0 0 ⟨#[]⟩ At2.zero) (down : ∀ {d k : Nat} {q : ByteArray} {x : Nat} {nm : ByteArray} (hd : At2 E d k q) (hm : ((x : Int), nm) ∈ E d), motive d k q hd → motive x (k + 1) (q ++ (⟨#[47]⟩ ++ nm)) (At2.down hd hm)) : ∀ {x k : Nat} {p : ByteArray} (h : At2 E x k p), motive x k p h
 | x, 0, p, h => by
  obtain ⟨rfl, rfl⟩ := h
  exact zero
 | x, k + 1, p, h => by
  obtain ⟨d, q, nm, hd, hm, rfl⟩ := h
  exact down hd hm (At2.ind zero down hd)
def full (q : ByteArray) : ByteArray := if q.size = 0 then ⟨#[47]⟩ else q
theorem app_nil (a : ByteArray) : a ++ ⟨#[]⟩ = a := by
 apply ByteArray.ext
 simp [ByteArray.data_append]
theorem nil_app (a : ByteArray) : (⟨#[]⟩ : ByteArray) ++ a = a := by
 apply ByteArray.ext
 simp [ByteArray.data_append]
theorem app_assoc (a b c : ByteArray) : (a ++ b) ++ c = a ++ (b ++ c) := by
 apply ByteArray.ext
 simp [ByteArray.data_append]
theorem at_two (hS : Sane E K) {p : ByteArray} (h : At E x k p) : ∃ q, At2 E x k q ∧ p = full q ∧ (0 < x → 0 < q.size) ∧ (x = 0 → q = ⟨#[]⟩) := by
 induction h using At.ind with
 | zero => exact ⟨⟨#[]⟩, At2.zero, rfl, fun h => absurd h (by decide), fun _ => rfl⟩
 | @down d k p x nm hd hm ih =>
  obtain ⟨q, hq, hp, h1, h2⟩ := ih
  have hx := (hS.ino _ _ hm).1
  have hne : 0 < (q ++ ((⟨#[47]⟩ : ByteArray) ++ nm)).size := by
   rw [ByteArray.size_append, ByteArray.size_append]
   have : (⟨#[47]⟩ : ByteArray).size = 1 := rfl
   omega
  refine ⟨_, At2.down hq hm, ?_, fun _ => hne, fun e => ?_⟩
  ·rw [full, if_neg (by omega)]
   by_cases h0 : d = 0
   ·rw [h2 h0] at hp ⊢
    rw [hp, sep, if_pos h0, app_nil, nil_app]
    rfl
   ·have := h1 (by omega)
    rw [full, if_neg (by omega)] at hp
    rw [hp, sep, if_neg h0, app_assoc]
  ·simp only at hx
   omega
theorem At2.size (hs : ∀ i e, e ∈ E i → e.2.size ≤ 14) {q : ByteArray} (h : At2 E x k q) : q.size ≤ 15 * k := by
 induction h using At2.ind with
 | zero => decide
 | @down d k q x nm _ hm ih =>
  have := hs _ _ hm
  rw [ByteArray.size_append, ByteArray.size_append]
  have h1 : (⟨#[47]⟩ : ByteArray).size = 1 := rfl
  simp only at this
  omega
theorem only (ht : treeOk E K = true) (hS : Sane E K) {e : Ent} (hd : d < 8) (he : e ∈ E d) : own (flat E 8) e.1 = [(d, e)] := by
 have hi := hS.ino _ _ he
 obtain ⟨x, hx⟩ : ∃ x : Nat, e.1 = (x : Int) := ⟨e.1.toNat, by omega⟩
 have m1 : (d, e) ∈ own (flat E 8) e.1 := List.mem_filter.2 ⟨mem_flat he hd, by simp⟩
 have hone := treeOk_iff.1 ht x (by omega) (by omega)
 rw [hx] at m1 ⊢
 unfold oneOk at hone
 simp only [Bool.and_eq_true, beq_iff_eq, Bool.or_eq_true] at hone
 rcases par_ge (flat E 8) x with hp | hp | ⟨p, hp, _⟩
 ·rw [(par_nil _ _).1 hp] at m1
  simp at m1
 ·rcases hone.2 with hk | hr
  ·rw [hk, hp] at hone
   simp at hone
  ·rw [root_pos _ _ _ (by omega), hp, root_neg _ _ _ (by decide)] at hr
   cases hr
 ·rw [hp] at m1 ⊢
  simp only [List.mem_singleton] at m1
  rw [m1]
theorem par_of (ht : treeOk E K = true) (hS : Sane E K) {e : Ent} (hd : d < 8) (he : e ∈ E d) : par (flat E 8) e.1 = d ∧ nam (flat E 8) e.1 = e.2 := by
 have h := only ht hS hd he
 unfold par nam
 rw [h]
 exact ⟨rfl, rfl⟩
theorem found_at (h : Inv E K [] F P) (hS : Sane E K) (hK0 : K 0 = 2) (ht : treeOk E K = true) (hx : x < 8) (hk : K x ≠ 0) : ∃ k, k ≤ 8 ∧ At E x k (P x) := by
 by_cases h0 : x = 0
 ·subst h0
  rw [h.zero]
  exact ⟨0, by decide, At.zero⟩
 ·have hd := h.done hS hK0
  rw [ht] at hd
  have := onceAll_iff.1 hd x (by omega) hx
  simp only [once, decide_eq_true_eq] at this
  rw [if_neg hk] at this
  exact h.at_ x (by omega)
end Go.Proofs.YtpkmeknniajahaaGreatDoor.TR
namespace Go.Proofs.YtpkmeknniajahaaGreatDoor.O2
open Go.ChangeShapes Go.WideShapes Go.ChangeAt Go.RowKit
open I0 (val vals)
def Ans (mem : ByteArray) (i : Int) (w : World) (e : Ending) (w' : World) : Prop :=
 ∃ a c, e = .returned (.tuple #[val (O0.lK mem i) (O0.lO mem i) (O0.lS mem i) a (O0.lZ mem i).length c, .string (O0.lD mem i), .bool (O0.isL mem i)]) ∧ J0.Own w.heap.size w' a (O0.lZ mem i) ∧ (O0.lZ mem i).length ≤ c ∧ Below w.heap.size w w'
theorem ans_no {mem : ByteArray} {i : Int} {w w' : World} (h : O0.isL mem i = false) (hb : Below w.heap.size w w') : Ans mem i w (.returned (.tuple #[val 0 0 0 none 0 0, .string ⟨#[]⟩, .bool false])) w' := by
 obtain ⟨h1, h2, h3, h4, h5⟩ := O0.l_no h
 exact ⟨none, 0, by rw [h1, h2, h3, h4, h5, h]; rfl, by rw [h4]; exact Or.inl rfl, by rw [h4]; exact Nat.le_refl _, hb⟩
theorem ans_yes {mem : ByteArray} {i : Int} {w w' : World} {a : Option Addr} {c : Nat} (h : O0.isL mem i = true) (ho : J0.Own w.heap.size w' a (G0.gZ (O0.recd mem i))) (hc : (G0.gZ (O0.recd mem i)).length ≤ c) (hb : Below w.heap.size w w') :
  Ans mem i w (.returned (.tuple #[val (G0.gK (O0.recd mem i)) (G0.gO (O0.recd mem i)) (G0.gS (O0.recd mem i)) a (G0.gZ (O0.recd mem i)).length c, .string ((O0.joined mem (G0.gZ (O0.recd mem i)) (G0.gZ (O0.recd mem i)).length).extract 0 (G0.gS (O0.recd mem i)).toNat), .bool true])) w' := by
 obtain ⟨h1, h2, h3, h4, h5⟩ := O0.l_yes h
 exact ⟨a, c, by rw [h1, h2, h3, h4, h5, h], by rw [h4]; exact ho, by rw [h4]; exact hc, hb⟩
structure Ls (w : World) (B : Nat) (k o s : Int) (a : Option Addr) (zs : List Int) (c : Nat) (W : World) : Prop where
 rs : G3.Rs w a zs W
 nb : K0.Blk B (vals k o s a zs.length c) W
 ne : w.heap.size < B
variable {w W W' : World} {B : Nat} {k o s : Int} {a : Option Addr} {zs : List Int} {c : Nat}
theorem Ls.below (h : Ls w B k o s a zs c W) (hb : Below W.heap.size W W') : Ls w B k o s a zs c W' := ⟨h.rs.below hb, h.nb.below hb, h.ne⟩
theorem Ls.drew (h : Ls w B k o s a zs c W) : Ls w B k o s a zs c W.drew := ⟨⟨h.rs.res.drew, h.rs.own.drew, h.rs.bel.drew⟩, h.nb.drew, h.ne⟩
theorem ls_new (h : G3.Rs w a zs W) : Ls w W.heap.size k o s a zs c (W.alloc (.cells #[.int .i64 k, .int .i64 o, .int .i64 s, .slice a zs.length c] 50)) :=
 ⟨h.below (K0.below_new _ _), K0.blk_new (vals k o s a zs.length c) W 50, h.res.lt⟩
end Go.Proofs.YtpkmeknniajahaaGreatDoor.O2
namespace Go.Proofs.YtpkmeknniajahaaGreatDoor.O3
open Go.ChangeShapes Go.WideShapes Go.ChangeAt Go.RowKit
open I0 (val vals)
open O2 (Ans ans_no ans_yes)
open O2 (Ls ls_new)
set_option maxHeartbeats 4000000 in
theorem spec_Load (mem : ByteArray) (i : Int) (w : World) (hms : mem.size ≤ 281474976710656) : Calls Tryz.prog 34 #[.string mem, .int .i64 i] w (Ans mem i w) := by
 have hrs := O0.recd_size mem i hms
 have hG : Hid (∀ W, Calls Tryz.prog 66 #[.string (O0.recd mem i)] W (G3.Ans (O0.recd mem i) W)) := fun W => G4.spec_GetInode _ _ hrs
 have hRc : Hid (∀ W, Calls Tryz.prog 67 #[.string mem, .int .i64 i] W fun e w' => e = .returned (.string (O0.recd mem i)) ∧ w' = W) := fun W => O1.l03Rec mem i W hms
 by_cases hL : O0.isL mem i = true
 ·have hl := hL
  simp only [O0.isL, Bool.and_eq_true, decide_eq_true_eq, Bool.not_eq_true'] at hl
  obtain ⟨hm, hI, hk⟩ := hl
  have hk' : ¬ B1.byteAt (O0.recd mem i) 0 = 0 := of_decide_eq_false hk
  have g8 : ((mem.size : Int) != 768) = false := by simp; omega
  have hg := O0.got hI
  have hK0 : (G0.gK (O0.recd mem i) == 0) = false := by
   rw [(G0.g_yes hI).1]
   simpa using hk'
  have HF : Hid (∀ a c w', J0.Own w.heap.size w' a (G0.gZ (O0.recd mem i)) → (G0.gZ (O0.recd mem i)).length ≤ c → Below w.heap.size w w' → Ans mem i w (.returned (.tuple #[val (G0.gK (O0.recd mem i)) (G0.gO (O0.recd mem i)) (G0.gS (O0.recd mem i)) a (G0.gZ (O0.recd mem i)).length c, .string ((O0.joined mem (G0.gZ (O0.recd mem i)) (G0.gZ (O0.recd mem i)).length).extract 0 (G0.gS (O0.recd mem i)).toNat), .bool true])) w') := fun a c w' => ans_yes hL
  have hA : Hid (∀ W e w', G3.Ans (O0.recd mem i) W e w' → ∃ a c, e = .returned (.tuple #[val (G0.gK (O0.recd mem i)) (G0.gO (O0.recd mem i)) (G0.gS (O0.recd mem i)) a (G0.gZ (O0.recd mem i)).length c, .bool true]) ∧ J0.Own W.heap.size w' a (G0.gZ (O0.recd mem i)) ∧ (G0.gZ (O0.recd mem i)).length ≤ c ∧ Below W.heap.size W w') := fun W e w' ⟨a, c, he, ho, hc, hb⟩ => ⟨a, c, by rw [he, hI], ho, hc, hb⟩
  clear hk hk' hL hI hrs
  obtain ⟨R, hR⟩ : ∃ R, O0.recd mem i = R := ⟨_, rfl⟩
  rw [hR] at hg HF hA hG hRc hK0
  obtain ⟨K, hK⟩ : ∃ K, G0.gK R = K := ⟨_, rfl⟩
  obtain ⟨O, hO⟩ : ∃ O, G0.gO R = O := ⟨_, rfl⟩
  obtain ⟨S, hS⟩ : ∃ S, G0.gS R = S := ⟨_, rfl⟩
  obtain ⟨Z, hZ⟩ : ∃ Z, G0.gZ R = Z := ⟨_, rfl⟩
  rw [hK, hO, hS, hZ] at HF hA
  rw [hK, hS, hZ] at hg
  rw [hK] at hK0
  obtain ⟨⟨s0, s1⟩, zl, s2, hp, -⟩ := hg
  clear hK hO hS hZ hR
  go_enter Tryz.func34, Tryz.ntmps34
  go_wp2_with (first
   | (go_at_call 67; refine (hRc.out _).mono ?_; rintro e w' ⟨rfl, rfl⟩)
   | (go_at_call 66; refine (hG.out _).mono ?_; intro e w1 hans; obtain ⟨a, c, rfl, ho, hc, b1⟩ := hA.out _ _ _ hans; clear hans; have r1 : G3.Rs w a Z w1 := G3.rs_new b1 ho; have l1 := ls_new (k := K) (o := O) (s := S) (c := c) r1))
  obtain ⟨W1, hW1⟩ : ∃ W1, w1.alloc (.cells #[.int .i64 K, .int .i64 O, .int .i64 S, .slice a Z.length c] 50) = W1 := ⟨_, rfl⟩
  rw [hW1] at l1 ⊢
  have x0 := l1.nb.c0
  have x1 := l1.nb.c1
  have x2 := l1.nb.c2
  have x3 := l1.nb.c3
  clear hW1 b1 ho r1
  go_loop [9, 10] (fun t j => ∃ k : Nat, k ≤ Z.length ∧ j = .int .i64 k ∧ t = .string (O0.joined mem Z k)) (fun _ j => Z.length - (intOf j).toNat)
  case atStart => exact ⟨0, Nat.zero_le _, rfl, rfl⟩
  case round =>
   obtain ⟨k, hk, rfl, rfl⟩ := hrel
   have hjs := O0.joined_size hm hp k hk
   by_cases hlt : k < Z.length
   ·obtain ⟨b, off, rfl, hb, hcell⟩ := l1.rs.own.row.get hlt
    have y1 := hcell k hlt
    have hz := R0.pages_bounds hp hlt
    have hu : O0.joined mem Z (k + 1) = O0.joined mem Z k ++ B2.part mem (Z.getD k 0 * 32) 32 := rfl
    obtain ⟨z, ez⟩ : ∃ z, Z.getD k 0 = z := ⟨_, rfl⟩
    rw [ez] at y1 hz hu
    have hps := O0.page_size hm hz.1 hz.2
    have e1 : (0 : Int) ≤ (k : Int) := by omega
    have e2 : (k : Int) < (Z.length : Int) := by omega
    have zz : 32 * k + 32 ≤ 9223372036854775807 := by omega
    have hpg : Hid (∀ W, Calls Tryz.prog 69 #[.string mem, .int .i64 z] W fun e w' => e = .returned (.string (B2.part mem (z * 32) 32)) ∧ W = w') := fun W => (O1.l03Page mem z W hms hz.1 hz.2).mono fun _ _ h => ⟨h.1, h.2.symm⟩
    have HU : Hid (O0.joined mem Z (k + 1) = O0.joined mem Z k ++ B2.part mem (z * 32) 32) := hu
    clear hu ez hcell hz
    go_wp2_with (go_at_call 69; refine (hpg.out _).mono ?_; rintro e w' ⟨rfl, rfl⟩)
    go_round
    case rel => exact ⟨k + 1, by omega, by go_num, by rw [HU.out]⟩
    case measure => simp [intOf]; omega
   ·obtain rfl : k = Z.length := by omega
    have i1 : S ≤ 32 * (Z.length : Int) := s2
    have c0 := l1.rs.res.c0
    have c1 := l1.rs.res.c1
    have c2 := l1.rs.res.c2
    have c3 := l1.rs.res.c3
    have f0 := l1.rs.res.f0
    have f1 := l1.rs.res.f1
    have f2 := l1.rs.res.f2
    have f3 := l1.rs.res.f3
    have i2 : S ≤ ((32 * Z.length : Nat) : Int) := by omega
    have hnb := (((l1.nb.setOther (B' := w.heap.size) (by have := l1.ne; omega) 0 (.int .i64 K)).setOther (B' := w.heap.size) (by have := l1.ne; omega) 1 (.int .i64 O)).setOther (B' := w.heap.size) (by have := l1.ne; omega) 2 (.int .i64 S)).setOther (B' := w.heap.size) (by have := l1.ne; omega) 3 (.slice a Z.length c)
    have y2 := hnb.c2
    clear hnb
    go_wp2
    go_region
    all_goals
     have q := l1.rs.res.put4 (.int .i64 K) (.int .i64 O) (.int .i64 S) (.slice a Z.length c)
     have d := l1.rs.done (.int .i64 K) (.int .i64 O) (.int .i64 S) (.slice a Z.length c)
     go_wp2
     refine bodyPost_ret (v := .tuple #[val K O S a Z.length c, .string ((O0.joined mem Z Z.length).extract 0 S.toNat), .bool true]) (by simp [results, Tryz.results34, go_sem, q.c0, q.c1, q.c2, q.c3]) rfl (HF.out _ _ _ ?_ hc ?_)
     ·exact d.1.drew
     ·exact d.2.drew
 ·have hL' : O0.isL mem i = false := by simpa using hL
  have HF : Hid (∀ w', Below w.heap.size w w' → Ans mem i w (.returned (.tuple #[val 0 0 0 none 0 0, .string ⟨#[]⟩, .bool false])) w') := fun w' => ans_no hL'
  have hA : Hid (∀ W e w', G3.Ans (O0.recd mem i) W e w' → ∃ a c, e = .returned (.tuple #[val (G0.gK (O0.recd mem i)) (G0.gO (O0.recd mem i)) (G0.gS (O0.recd mem i)) a (G0.gZ (O0.recd mem i)).length c, .bool (G0.isI (O0.recd mem i))]) ∧ J0.Own W.heap.size w' a (G0.gZ (O0.recd mem i)) ∧ (G0.gZ (O0.recd mem i)).length ≤ c ∧ Below W.heap.size W w') := fun W e w' h => h
  have hcase : ((mem.size : Int) != 768) = true ∨ (((mem.size : Int) != 768) = false ∧ G0.isI (O0.recd mem i) = false) ∨ (((mem.size : Int) != 768) = false ∧ G0.isI (O0.recd mem i) = true ∧ (G0.gK (O0.recd mem i) == 0) = true) := by
   by_cases hm : mem.size = 768
   ·right
    have g8 : ((mem.size : Int) != 768) = false := by simp; omega
    cases hI : G0.isI (O0.recd mem i) with
    | false => exact Or.inl ⟨g8, rfl⟩
    | true =>
     refine Or.inr ⟨g8, rfl, ?_⟩
     rw [(G0.g_yes hI).1]
     by_cases h0 : B1.byteAt (O0.recd mem i) 0 = 0
     ·simpa using h0
     ·rw [O0.isL_of hm hI h0] at hL'
      cases hL'
   ·left
    simp
    omega
  clear hL hL' hrs
  obtain ⟨R, hR⟩ : ∃ R, O0.recd mem i = R := ⟨_, rfl⟩
  rw [hR] at hA hG hRc hcase
  obtain ⟨K, hK⟩ : ∃ K, G0.gK R = K := ⟨_, rfl⟩
  obtain ⟨O, hO⟩ : ∃ O, G0.gO R = O := ⟨_, rfl⟩
  obtain ⟨S, hS⟩ : ∃ S, G0.gS R = S := ⟨_, rfl⟩
  obtain ⟨Z, hZ⟩ : ∃ Z, G0.gZ R = Z := ⟨_, rfl⟩
  rw [hK, hO, hS, hZ] at hA
  rw [hK] at hcase
  clear hK hO hS hZ hR
  rcases hcase with g8 | ⟨g8, gI⟩ | ⟨g8, gI, gK⟩
  all_goals
   go_enter Tryz.func34, Tryz.ntmps34
   go_wp2_with (first
    | (go_at_call 67; refine (hRc.out _).mono ?_; rintro e w' ⟨rfl, rfl⟩)
    | (go_at_call 66; refine (hG.out _).mono ?_; intro e w1 hans; obtain ⟨a, c, rfl, ho, hc, b1⟩ := hA.out _ _ _ hans; clear hans; have r1 : G3.Rs w a Z w1 := G3.rs_new b1 ho; have l1 := ls_new (k := K) (o := O) (s := S) (c := c) r1; have x0 := l1.nb.c0; have c0 := l1.rs.res.c0; have c1 := l1.rs.res.c1; have c2 := l1.rs.res.c2; have c3 := l1.rs.res.c3; have f0 := l1.rs.res.f0; have f1 := l1.rs.res.f1; have f2 := l1.rs.res.f2; have f3 := l1.rs.res.f3))
   have q := l1.rs.res.put4 (.int .i64 0) (.int .i64 0) (.int .i64 0) (.slice none 0 0)
   have d := l1.rs.done (.int .i64 0) (.int .i64 0) (.int .i64 0) (.slice none 0 0)
   exact bodyPost_ret (v := .tuple #[val 0 0 0 none 0 0, .string ⟨#[]⟩, .bool false]) (by simp [results, Tryz.results34, go_sem, q.c0, q.c1, q.c2, q.c3]) rfl (HF.out _ d.2)
end Go.Proofs.YtpkmeknniajahaaGreatDoor.O3
