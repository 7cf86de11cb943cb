/- Joined texts: plain facts and contracts. -/
import Derived.Test.YthbcefopbmkppaaGreatJlD
import Derived.Test.YthbcefopbmkppaaGreatJlF
import Derived.Test.YthbcefopbmkppaaGreatJlC
import Derived.Laws.MakeOwn
import Derived.Deep.RegionHeld3
import Derived.RegionTactic
import Derived.Test.YthbcefopbmkppaaGreatJlA
set_option linter.unusedVariables false
set_option linter.unusedSimpArgs false
set_option maxRecDepth 10000
namespace Go.Proofs.YthbcefopbmkppaaGreat.O1
open Go.ChangeShapes Go.WideShapes Go.ChangeAt Go.RowKit
open I0 (val vals)
theorem wf_recAt (i : Int) : (Lit.int .i64 (L1.recAt i)).wf = true := by
 refine E4.wf_of _ ?_ ?_
 all_goals
  unfold L1.recAt
  split
  ·rename_i h
   have := B1.inB_true h
   omega
  ·omega
theorem l03Rec (mem : ByteArray) (i : Int) (w : World) (hs : mem.size ≤ 281474976710656) :
  Calls Tryz.prog 75 #[.string mem, .int .i64 i] w fun e w' => e = .returned (.string (O0.recd mem i)) ∧ w' = w := by
 have hm : mem.size ≤ maxLen := by unfold maxLen; omega
 have e : O0.recd mem i = B2.part mem (L1.recAt i) 16 := rfl
 rw [e]
 go_enter Tryz.func75, Tryz.ntmps75
 go_wp2_with (first
  | (go_at_call 25; refine (L1.spec_RecAt _ _).mono ?_; rintro e w' ⟨rfl, rfl⟩)
  | (go_at_call 37; refine (B2.spec_Part _ _ _ _ hm (wf_recAt i) (by decide)).mono ?_; rintro e w' ⟨rfl, rfl⟩))
 go_ret
 exact ⟨rfl, rfl⟩
theorem l03Page (mem : ByteArray) (z : Int) (w : World) (hs : mem.size ≤ 281474976710656) (h0 : 5 ≤ z) (h1 : z ≤ 23) :
  Calls Tryz.prog 26 #[.string mem, .int .i64 z] w fun e w' => e = .returned (.string (B2.part mem (z * 32) 32)) ∧ w' = w := by
 have hm : mem.size ≤ maxLen := by unfold maxLen; omega
 have hw := E4.wf_of (z * 32) (by omega) (by omega)
 go_enter Tryz.func26, Tryz.ntmps26
 go_wp2_with (go_at_call 37; refine (B2.spec_Part _ _ _ _ hm hw (by decide)).mono ?_; rintro e w' ⟨rfl, rfl⟩)
 go_ret
 exact ⟨rfl, rfl⟩
end Go.Proofs.YthbcefopbmkppaaGreat.O1
namespace Go.Proofs.YthbcefopbmkppaaGreat.O2
open Go.ChangeShapes Go.WideShapes Go.ChangeAt Go.RowKit
open I0 (val vals)
def Ans (mem : ByteArray) (i : Int) (w : World) (e : Ending) (w' : World) : Prop :=
 ∃ a c, e = .returned (.tuple #[val (O0.lK mem i) (O0.lO mem i) (O0.lS mem i) a (O0.lZ mem i).length c, .string (O0.lD mem i), .bool (O0.isL mem i)]) ∧ J0.Own w.heap.size w' a (O0.lZ mem i) ∧ (O0.lZ mem i).length ≤ c ∧ Below w.heap.size w w'
theorem ans_no {mem : ByteArray} {i : Int} {w w' : World} (h : O0.isL mem i = false) (hb : Below w.heap.size w w') : Ans mem i w (.returned (.tuple #[val 0 0 0 none 0 0, .string ⟨#[]⟩, .bool false])) w' := by
 obtain ⟨h1, h2, h3, h4, h5⟩ := O0.l_no h
 exact ⟨none, 0, by rw [h1, h2, h3, h4, h5, h]; rfl, by rw [h4]; exact Or.inl rfl, by rw [h4]; exact Nat.le_refl _, hb⟩
theorem ans_yes {mem : ByteArray} {i : Int} {w w' : World} {a : Option Addr} {c : Nat} (h : O0.isL mem i = true) (ho : J0.Own w.heap.size w' a (G0.gZ (O0.recd mem i))) (hc : (G0.gZ (O0.recd mem i)).length ≤ c) (hb : Below w.heap.size w w') :
  Ans mem i w (.returned (.tuple #[val (G0.gK (O0.recd mem i)) (G0.gO (O0.recd mem i)) (G0.gS (O0.recd mem i)) a (G0.gZ (O0.recd mem i)).length c, .string ((O0.joined mem (G0.gZ (O0.recd mem i)) (G0.gZ (O0.recd mem i)).length).extract 0 (G0.gS (O0.recd mem i)).toNat), .bool true])) w' := by
 obtain ⟨h1, h2, h3, h4, h5⟩ := O0.l_yes h
 exact ⟨a, c, by rw [h1, h2, h3, h4, h5, h], by rw [h4]; exact ho, by rw [h4]; exact hc, hb⟩
structure Ls (w : World) (B : Nat) (k o s : Int) (a : Option Addr) (zs : List Int) (c : Nat) (W : World) : Prop where
 rs : G3.Rs w a zs W
 nb : K0.Blk B (vals k o s a zs.length c) W
 ne : w.heap.size < B
variable {w W W' : World} {B : Nat} {k o s : Int} {a : Option Addr} {zs : List Int} {c : Nat}
theorem Ls.below (h : Ls w B k o s a zs c W) (hb : Below W.heap.size W W') : Ls w B k o s a zs c W' := ⟨h.rs.below hb, h.nb.below hb, h.ne⟩
theorem Ls.drew (h : Ls w B k o s a zs c W) : Ls w B k o s a zs c W.drew := ⟨⟨h.rs.res.drew, h.rs.own.drew, h.rs.bel.drew⟩, h.nb.drew, h.ne⟩
theorem ls_new (h : G3.Rs w a zs W) : Ls w W.heap.size k o s a zs c (W.alloc (.cells #[.int .i64 k, .int .i64 o, .int .i64 s, .slice a zs.length c] 55)) :=
 ⟨h.below (K0.below_new _ _), K0.blk_new (vals k o s a zs.length c) W 55, h.res.lt⟩
end Go.Proofs.YthbcefopbmkppaaGreat.O2
namespace Go.Proofs.YthbcefopbmkppaaGreat.O3
open Go.ChangeShapes Go.WideShapes Go.ChangeAt Go.RowKit
open I0 (val vals)
open O2 (Ans ans_no ans_yes)
open O2 (Ls ls_new)
set_option maxHeartbeats 4000000 in
theorem spec_Load (mem : ByteArray) (i : Int) (w : World) (hms : mem.size ≤ 281474976710656) : Calls Tryz.prog 60 #[.string mem, .int .i64 i] w (Ans mem i w) := by
 have hrs := O0.recd_size mem i hms
 have hG : Hid (∀ W, Calls Tryz.prog 33 #[.string (O0.recd mem i)] W (G3.Ans (O0.recd mem i) W)) := fun W => G4.spec_GetInode _ _ hrs
 have hRc : Hid (∀ W, Calls Tryz.prog 75 #[.string mem, .int .i64 i] W fun e w' => e = .returned (.string (O0.recd mem i)) ∧ w' = W) := fun W => O1.l03Rec mem i W hms
 by_cases hL : O0.isL mem i = true
 ·have hl := hL
  simp only [O0.isL, Bool.and_eq_true, decide_eq_true_eq, Bool.not_eq_true'] at hl
  obtain ⟨hm, hI, hk⟩ := hl
  have hk' : ¬ B1.byteAt (O0.recd mem i) 0 = 0 := of_decide_eq_false hk
  have g8 : ((mem.size : Int) != 768) = false := by simp; omega
  have hg := O0.got hI
  have hK0 : (G0.gK (O0.recd mem i) == 0) = false := by
   rw [(G0.g_yes hI).1]
   simpa using hk'
  have HF : Hid (∀ a c w', J0.Own w.heap.size w' a (G0.gZ (O0.recd mem i)) → (G0.gZ (O0.recd mem i)).length ≤ c → Below w.heap.size w w' → Ans mem i w (.returned (.tuple #[val (G0.gK (O0.recd mem i)) (G0.gO (O0.recd mem i)) (G0.gS (O0.recd mem i)) a (G0.gZ (O0.recd mem i)).length c, .string ((O0.joined mem (G0.gZ (O0.recd mem i)) (G0.gZ (O0.recd mem i)).length).extract 0 (G0.gS (O0.recd mem i)).toNat), .bool true])) w') := fun a c w' => ans_yes hL
  have hA : Hid (∀ W e w', G3.Ans (O0.recd mem i) W e w' → ∃ a c, e = .returned (.tuple #[val (G0.gK (O0.recd mem i)) (G0.gO (O0.recd mem i)) (G0.gS (O0.recd mem i)) a (G0.gZ (O0.recd mem i)).length c, .bool true]) ∧ J0.Own W.heap.size w' a (G0.gZ (O0.recd mem i)) ∧ (G0.gZ (O0.recd mem i)).length ≤ c ∧ Below W.heap.size W w') := fun W e w' ⟨a, c, he, ho, hc, hb⟩ => ⟨a, c, by rw [he, hI], ho, hc, hb⟩
  clear hk hk' hL hI hrs
  obtain ⟨R, hR⟩ : ∃ R, O0.recd mem i = R := ⟨_, rfl⟩
  rw [hR] at hg HF hA hG hRc hK0
  obtain ⟨K, hK⟩ : ∃ K, G0.gK R = K := ⟨_, rfl⟩
  obtain ⟨O, hO⟩ : ∃ O, G0.gO R = O := ⟨_, rfl⟩
  obtain ⟨S, hS⟩ : ∃ S, G0.gS R = S := ⟨_, rfl⟩
  obtain ⟨Z, hZ⟩ : ∃ Z, G0.gZ R = Z := ⟨_, rfl⟩
  rw [hK, hO, hS, hZ] at HF hA
  rw [hK, hS, hZ] at hg
  rw [hK] at hK0
  obtain ⟨⟨s0, s1⟩, zl, s2, hp, -⟩ := hg
  clear hK hO hS hZ hR
  go_enter Tryz.func60, Tryz.ntmps60
  go_wp2_with (first
   | (go_at_call 75; refine (hRc.out _).mono ?_; rintro e w' ⟨rfl, rfl⟩)
   | (go_at_call 33; refine (hG.out _).mono ?_; intro e w1 hans; obtain ⟨a, c, rfl, ho, hc, b1⟩ := hA.out _ _ _ hans; clear hans; have r1 : G3.Rs w a Z w1 := G3.rs_new b1 ho; have l1 := ls_new (k := K) (o := O) (s := S) (c := c) r1))
  obtain ⟨W1, hW1⟩ : ∃ W1, w1.alloc (.cells #[.int .i64 K, .int .i64 O, .int .i64 S, .slice a Z.length c] 55) = W1 := ⟨_, rfl⟩
  rw [hW1] at l1 ⊢
  have x0 := l1.nb.c0
  have x1 := l1.nb.c1
  have x2 := l1.nb.c2
  have x3 := l1.nb.c3
  clear hW1 b1 ho r1
  go_loop [9, 10] (fun t j => ∃ k : Nat, k ≤ Z.length ∧ j = .int .i64 k ∧ t = .string (O0.joined mem Z k)) (fun _ j => Z.length - (intOf j).toNat)
  case atStart => exact ⟨0, Nat.zero_le _, rfl, rfl⟩
  case round =>
   obtain ⟨k, hk, rfl, rfl⟩ := hrel
   have hjs := O0.joined_size hm hp k hk
   by_cases hlt : k < Z.length
   ·obtain ⟨b, off, rfl, hb, hcell⟩ := l1.rs.own.row.get hlt
    have y1 := hcell k hlt
    have hz := R0.pages_bounds hp hlt
    have hu : O0.joined mem Z (k + 1) = O0.joined mem Z k ++ B2.part mem (Z.getD k 0 * 32) 32 := rfl
    obtain ⟨z, ez⟩ : ∃ z, Z.getD k 0 = z := ⟨_, rfl⟩
    rw [ez] at y1 hz hu
    have hps := O0.page_size hm hz.1 hz.2
    have e1 : (0 : Int) ≤ (k : Int) := by omega
    have e2 : (k : Int) < (Z.length : Int) := by omega
    have zz : 32 * k + 32 ≤ 9223372036854775807 := by omega
    have hpg : Hid (∀ W, Calls Tryz.prog 26 #[.string mem, .int .i64 z] W fun e w' => e = .returned (.string (B2.part mem (z * 32) 32)) ∧ W = w') := fun W => (O1.l03Page mem z W hms hz.1 hz.2).mono fun _ _ h => ⟨h.1, h.2.symm⟩
    have HU : Hid (O0.joined mem Z (k + 1) = O0.joined mem Z k ++ B2.part mem (z * 32) 32) := hu
    clear hu ez hcell hz
    go_wp2_with (go_at_call 26; refine (hpg.out _).mono ?_; rintro e w' ⟨rfl, rfl⟩)
    go_round
    case rel => exact ⟨k + 1, by omega, by go_num, by rw [HU.out]⟩
    case measure => simp [intOf]; omega
   ·obtain rfl : k = Z.length := by omega
    have i1 : S ≤ 32 * (Z.length : Int) := s2
    have c0 := l1.rs.res.c0
    have c1 := l1.rs.res.c1
    have c2 := l1.rs.res.c2
    have c3 := l1.rs.res.c3
    have f0 := l1.rs.res.f0
    have f1 := l1.rs.res.f1
    have f2 := l1.rs.res.f2
    have f3 := l1.rs.res.f3
    have i2 : S ≤ ((32 * Z.length : Nat) : Int) := by omega
    have hnb := (((l1.nb.setOther (B' := w.heap.size) (by have := l1.ne; omega) 0 (.int .i64 K)).setOther (B' := w.heap.size) (by have := l1.ne; omega) 1 (.int .i64 O)).setOther (B' := w.heap.size) (by have := l1.ne; omega) 2 (.int .i64 S)).setOther (B' := w.heap.size) (by have := l1.ne; omega) 3 (.slice a Z.length c)
    have y2 := hnb.c2
    clear hnb
    go_wp2
    go_region
    all_goals
     have q := l1.rs.res.put4 (.int .i64 K) (.int .i64 O) (.int .i64 S) (.slice a Z.length c)
     have d := l1.rs.done (.int .i64 K) (.int .i64 O) (.int .i64 S) (.slice a Z.length c)
     go_wp2
     refine bodyPost_ret (v := .tuple #[val K O S a Z.length c, .string ((O0.joined mem Z Z.length).extract 0 S.toNat), .bool true]) (by simp [results, Tryz.results60, go_sem, q.c0, q.c1, q.c2, q.c3]) rfl (HF.out _ _ _ ?_ hc ?_)
     ·exact d.1.drew
     ·exact d.2.drew
 ·have hL' : O0.isL mem i = false := by simpa using hL
  have HF : Hid (∀ w', Below w.heap.size w w' → Ans mem i w (.returned (.tuple #[val 0 0 0 none 0 0, .string ⟨#[]⟩, .bool false])) w') := fun w' => ans_no hL'
  have hA : Hid (∀ W e w', G3.Ans (O0.recd mem i) W e w' → ∃ a c, e = .returned (.tuple #[val (G0.gK (O0.recd mem i)) (G0.gO (O0.recd mem i)) (G0.gS (O0.recd mem i)) a (G0.gZ (O0.recd mem i)).length c, .bool (G0.isI (O0.recd mem i))]) ∧ J0.Own W.heap.size w' a (G0.gZ (O0.recd mem i)) ∧ (G0.gZ (O0.recd mem i)).length ≤ c ∧ Below W.heap.size W w') := fun W e w' h => h
  have hcase : ((mem.size : Int) != 768) = true ∨ (((mem.size : Int) != 768) = false ∧ G0.isI (O0.recd mem i) = false) ∨ (((mem.size : Int) != 768) = false ∧ G0.isI (O0.recd mem i) = true ∧ (G0.gK (O0.recd mem i) == 0) = true) := by
   by_cases hm : mem.size = 768
   ·right
    have g8 : ((mem.size : Int) != 768) = false := by simp; omega
    cases hI : G0.isI (O0.recd mem i) with
    | false => exact Or.inl ⟨g8, rfl⟩
    | true =>
     refine Or.inr ⟨g8, rfl, ?_⟩
     rw [(G0.g_yes hI).1]
     by_cases h0 : B1.byteAt (O0.recd mem i) 0 = 0
     ·simpa using h0
     ·rw [O0.isL_of hm hI h0] at hL'
      cases hL'
   ·left
    simp
    omega
  clear hL hL' hrs
  obtain ⟨R, hR⟩ : ∃ R, O0.recd mem i = R := ⟨_, rfl⟩
  rw [hR] at hA hG hRc hcase
  obtain ⟨K, hK⟩ : ∃ K, G0.gK R = K := ⟨_, rfl⟩
  obtain ⟨O, hO⟩ : ∃ O, G0.gO R = O := ⟨_, rfl⟩
  obtain ⟨S, hS⟩ : ∃ S, G0.gS R = S := ⟨_, rfl⟩
  obtain ⟨Z, hZ⟩ : ∃ Z, G0.gZ R = Z := ⟨_, rfl⟩
  rw [hK, hO, hS, hZ] at hA
  rw [hK] at hcase
  clear hK hO hS hZ hR
  rcases hcase with g8 | ⟨g8, gI⟩ | ⟨g8, gI, gK⟩
  all_goals
   go_enter Tryz.func60, Tryz.ntmps60
   go_wp2_with (first
    | (go_at_call 75; refine (hRc.out _).mono ?_; rintro e w' ⟨rfl, rfl⟩)
    | (go_at_call 33; refine (hG.out _).mono ?_; intro e w1 hans; obtain ⟨a, c, rfl, ho, hc, b1⟩ := hA.out _ _ _ hans; clear hans; have r1 : G3.Rs w a Z w1 := G3.rs_new b1 ho; have l1 := ls_new (k := K) (o := O) (s := S) (c := c) r1; have x0 := l1.nb.c0; have c0 := l1.rs.res.c0; have c1 := l1.rs.res.c1; have c2 := l1.rs.res.c2; have c3 := l1.rs.res.c3; have f0 := l1.rs.res.f0; have f1 := l1.rs.res.f1; have f2 := l1.rs.res.f2; have f3 := l1.rs.res.f3))
   have q := l1.rs.res.put4 (.int .i64 0) (.int .i64 0) (.int .i64 0) (.slice none 0 0)
   have d := l1.rs.done (.int .i64 0) (.int .i64 0) (.int .i64 0) (.slice none 0 0)
   exact bodyPost_ret (v := .tuple #[val 0 0 0 none 0 0, .string ⟨#[]⟩, .bool false]) (by simp [results, Tryz.results60, go_sem, q.c0, q.c1, q.c2, q.c3]) rfl (HF.out _ d.2)
end Go.Proofs.YthbcefopbmkppaaGreat.O3
namespace Go.Proofs.YthbcefopbmkppaaGreat.T0
open Go.RowKit
abbrev Ent := Int × ByteArray
def clash (o e : Ent) : Bool := (o.2.toList == e.2.toList) || (o.1 == e.1)
def taken (es : List Ent) (e : Ent) : Bool := es.any fun o => clash o e
def ent (es : List Ent) (k : Nat) : Ent := es.getD k (0, ⟨#[]⟩)
theorem ent_get (es : List Ent) (k : Nat) (h : k < es.length) : ent es k = es[k] := by simp [ent, List.getD, h]
theorem taken_succ (es : List Ent) (k : Nat) (e : Ent) (h : k < es.length) : taken (es.take (k + 1)) e = (taken (es.take k) e || clash (ent es k) e) := by
 rw [taken, taken, List.take_succ_eq_append_getElem h, List.any_append, ent_get es k h]
 simp
theorem taken_of {es : List Ent} {k n : Nat} {e : Ent} (hk : k < n) (hn : n ≤ es.length) (h : clash (ent es k) e = true) : taken (es.take n) e = true := by
 rw [taken, List.any_eq_true]
 refine ⟨ent es k, ?_, h⟩
 rw [ent_get es k (by omega)]
 exact List.mem_iff_getElem.2 ⟨k, by simp; omega, by simp⟩
def okAt (es : List Ent) (i : Nat) : Bool := E0.entryOk (ent es i).1 (ent es i).2 && !(taken (es.take i) (ent es i))
def okUpto (es : List Ent) (k : Nat) : Bool := (List.range k).all (okAt es)
def dirOk (es : List Ent) : Bool := decide (es.length ≤ 12) && okUpto es es.length
theorem okUpto_succ (es : List Ent) (k : Nat) : okUpto es (k + 1) = (okUpto es k && okAt es k) := by simp [okUpto, List.range_succ]
theorem okUpto_bad {es : List Ent} {k n : Nat} (hk : k < n) (h : okAt es k = false) : okUpto es n = false := by
 rw [okUpto, List.all_eq_false]
 exact ⟨k, List.mem_range.2 hk, by rw [h]; decide⟩
theorem dirOk_bad {es : List Ent} {k : Nat} (hk : k < es.length) (h : okAt es k = false) : dirOk es = false := by rw [dirOk, okUpto_bad hk h, Bool.and_false]
def joined (es : List Ent) : Nat → ByteArray
 | 0 => ⟨#[]⟩
 | k + 1 => joined es k ++ E0.putE (ent es k).1 (ent es k).2
def putD (es : List Ent) : ByteArray := if dirOk es then joined es es.length else ⟨#[]⟩
theorem putE_size16 {i : Int} {s : ByteArray} (h : E0.entryOk i s = true) : (E0.putE i s).size = 16 := by
 have := E0.nameOk_size (E0.entryOk_true h).1
 rw [E0.putE, if_pos h, ByteArray.size_append, E0.headOf_size, B4.nulls_size]
 omega
theorem okAt_entry {es : List Ent} {k : Nat} (h : okAt es k = true) : E0.entryOk (ent es k).1 (ent es k).2 = true ∧ taken (es.take k) (ent es k) = false := by
 simp only [okAt, Bool.and_eq_true, Bool.not_eq_true'] at h
 exact h
theorem okUpto_at {es : List Ent} {n k : Nat} (h : okUpto es n = true) (hk : k < n) : okAt es k = true := by
 cases hb : okAt es k with
 | true => rfl
 | false => rw [okUpto_bad hk hb] at h; cases h
theorem joined_size {es : List Ent} {n : Nat} (h : okUpto es n = true) : ∀ k, k ≤ n → (joined es k).size = 16 * k
 | 0, _ => rfl
 | k + 1, hk => by
  rw [joined, ByteArray.size_append, joined_size h k (by omega), putE_size16 (okAt_entry (okUpto_at h (by omega : k < n))).1]
  omega
def Row (W : World) (a : Option Addr) (es : List Ent) : Prop := es = [] ∨ ∃ b off, a = some ⟨b, off, none⟩ ∧ b < W.heap.size ∧ ∀ j, j < es.length → W.cell? ⟨b, off + j * 2, none⟩ = some (.int .i64 (ent es j).1) ∧ W.cell? ⟨b, off + j * 2 + 1, none⟩ = some (.string (ent es j).2)
theorem Row.below {W W' : World} {a : Option Addr} {es : List Ent} (h : Row W a es) (hb : Below W.heap.size W W') : Row W' a es := by
 rcases h with h | ⟨b, off, ha, hlt, hc⟩
 ·exact Or.inl h
 ·exact Or.inr ⟨b, off, ha, Nat.lt_of_lt_of_le hlt hb.size, fun j hj => ⟨(hb.cell (p := ⟨b, off + j * 2, none⟩) hlt).trans (hc j hj).1, (hb.cell (p := ⟨b, off + j * 2 + 1, none⟩) hlt).trans (hc j hj).2⟩⟩
theorem Row.drewN {W : World} {a : Option Addr} {es : List Ent} (h : Row W a es) (n : Nat) : Row (W.drewN n) a es := h
theorem Row.get {W : World} {a : Option Addr} {es : List Ent} {k : Nat} (h : Row W a es) (hk : k < es.length) : ∃ b off, a = some ⟨b, off, none⟩ ∧ b < W.heap.size ∧ ∀ j, j < es.length → W.cell? ⟨b, off + j * 2, none⟩ = some (.int .i64 (ent es j).1) ∧ W.cell? ⟨b, off + j * 2 + 1, none⟩ = some (.string (ent es j).2) := by
 rcases h with h | h
 ·subst h
  simp at hk
 ·exact h
theorem Row.take {W : World} {b off n : Nat} {es : List Ent} (hlt : b < W.heap.size) (hn : n ≤ es.length) (hc : ∀ j, j < es.length → W.cell? ⟨b, off + j * 2, none⟩ = some (.int .i64 (ent es j).1) ∧ W.cell? ⟨b, off + j * 2 + 1, none⟩ = some (.string (ent es j).2)) : Row W (some ⟨b, off, none⟩) (es.take n) := by
 refine Or.inr ⟨b, off, rfl, hlt, fun j hj => ?_⟩
 have hj' : j < n := by simp at hj; omega
 have e : ent (es.take n) j = ent es j := by simp [ent, List.getD, hj']
 rw [e]
 exact hc j (by omega)
def Fits (es : List Ent) : Prop := ∀ j, j < es.length → (ent es j).2.size ≤ 281474976710656
end Go.Proofs.YthbcefopbmkppaaGreat.T0
namespace Go.Proofs.YthbcefopbmkppaaGreat.V0
open Go
def chunk (s : ByteArray) (j : Nat) : ByteArray := B2.part s ((j : Int) * 16) 16
def ents (s : ByteArray) (k : Nat) : List T0.Ent := (List.range k).map fun (j : Nat) => (E4.eIno (chunk s j), E4.eName (chunk s j))
theorem ents_length (s : ByteArray) (k : Nat) : (ents s k).length = k := by simp [ents]
theorem ents_succ (s : ByteArray) (k : Nat) : ents s k ++ [(E4.eIno (chunk s k), E4.eName (chunk s k))] = ents s (k + 1) := by simp [ents, List.range_succ]
theorem ents_get (s : ByteArray) (k j : Nat) (h : j < k) : T0.ent (ents s k) j = (E4.eIno (chunk s j), E4.eName (chunk s j)) := by
 rw [T0.ent_get _ _ (by rw [ents_length]; exact h)]
 simp [ents]
def cnt (s : ByteArray) : Nat := min ((s.size + 15) / 16) 13
def isD (s : ByteArray) : Bool := decide (s.size = 0) || ((T0.putD (ents s (cnt s))).toList == s.toList)
def dE (s : ByteArray) : List T0.Ent := if isD s then ents s (cnt s) else []
theorem toList_eq {a b : ByteArray} (h : a.toList = b.toList) : a = b := by
 rw [Lib.toList_data, Lib.toList_data] at h
 exact ByteArray.ext (Array.toList_inj.1 h)
theorem chunk_eq (s : ByteArray) (j : Nat) (h : (j + 1) * 16 ≤ s.size) : chunk s j = s.extract (j * 16) (j * 16 + 16) := by
 rw [chunk, B2.part, show B2.lies s.size ((j : Int) * 16) 16 = true from decide_eq_true (by omega), if_pos rfl, show ((j : Int) * 16).toNat = j * 16 by omega, show ((j : Int) * 16 + 16).toNat = j * 16 + 16 by omega]
theorem isE_eq {x : ByteArray} (h : E4.isE x = true) : E0.putE (E4.eIno x) (E4.eName x) = x := by
 have h2 := h
 simp only [E4.isE, Bool.and_eq_true, beq_iff_eq] at h2
 rw [E4.eIno, E4.eName, if_pos h, if_pos h]
 exact toList_eq h2.2
theorem not_isE {x : ByteArray} (h : E4.isE x = false) : E4.eIno x = 0 ∧ E4.eName x = ⟨#[]⟩ := by simp [E4.eIno, E4.eName, h]
theorem entryOk_zero : E0.entryOk 0 ⟨#[]⟩ = false := by
 rw [E0.entryOk, show B1.inB 0 1 7 = false from by decide, Bool.and_false]
theorem ext_join (s : ByteArray) (a b : Nat) (h1 : a ≤ b) (h2 : b ≤ s.size) : s.extract 0 a ++ s.extract a b = s.extract 0 b := by
 apply ByteArray.ext
 apply Array.toList_inj.1
 simp only [ByteArray.data_append, Array.toList_append, Lib.extract_data, List.drop_zero, Nat.sub_zero]
 rw [← List.take_add, show a + (b - a) = b by omega]
theorem joined_ext (s : ByteArray) (n : Nat) (hE : ∀ j, j < n → E4.isE (chunk s j) = true) : ∀ k, k ≤ n → k * 16 ≤ s.size → T0.joined (ents s n) k = s.extract 0 (k * 16)
 | 0, _, _ => by
  apply ByteArray.ext
  simp [T0.joined]
 | k + 1, hk, hs => by
  rw [T0.joined, joined_ext s n hE k (by omega) (by omega), ents_get s n k (by omega), isE_eq (hE k (by omega)), chunk_eq s k (by omega), ext_join s _ _ (by omega) (by omega), show k * 16 + 16 = (k + 1) * 16 by omega]
theorem ext_all (s : ByteArray) : s.extract 0 s.size = s := by
 apply ByteArray.ext
 apply Array.toList_inj.1
 rw [Lib.extract_data]
 simp only [List.drop_zero, Nat.sub_zero]
 exact List.take_of_length_le (by rw [← Lib.size_eq]; exact Nat.le_refl _)
theorem isD_of {s : ByteArray} (h1 : s.size ≤ 192) (h2 : s.size % 16 = 0) (hE : ∀ j, j < s.size / 16 → E4.isE (chunk s j) = true) (hD : T0.dirOk (ents s (s.size / 16)) = true) : isD s = true ∧ cnt s = s.size / 16 := by
 have hc : cnt s = s.size / 16 := by unfold cnt; omega
 refine ⟨?_, hc⟩
 rw [isD, hc]
 have : T0.putD (ents s (s.size / 16)) = s := by
  rw [T0.putD, if_pos hD, ents_length, joined_ext s _ hE _ (Nat.le_refl _) (by omega), show s.size / 16 * 16 = s.size by omega]
  exact ext_all s
 rw [this]
 simp
theorem of_isD {s : ByteArray} (h : isD s = true) : s.size ≤ 192 ∧ s.size % 16 = 0 ∧ cnt s = s.size / 16 ∧ (∀ j, j < s.size / 16 → E4.isE (chunk s j) = true) ∧ T0.dirOk (ents s (s.size / 16)) = true := by
 by_cases h0 : s.size = 0
 ·refine ⟨by omega, by omega, by unfold cnt; omega, fun j hj => by omega, ?_⟩
  rw [h0]
  rfl
 ·rw [isD, decide_eq_false h0, Bool.false_or] at h
  have he : T0.putD (ents s (cnt s)) = s := toList_eq (by simpa using h)
  have hD : T0.dirOk (ents s (cnt s)) = true := by
   cases hb : T0.dirOk (ents s (cnt s)) with
   | true => rfl
   | false =>
    rw [T0.putD, hb] at he
    have := congrArg ByteArray.size he
    exact absurd this.symm h0
  have hd := hD
  simp only [T0.dirOk, Bool.and_eq_true, decide_eq_true_eq] at hd
  rw [ents_length] at hd
  have hsz : s.size = 16 * cnt s := by
   have := T0.joined_size hd.2 (cnt s) (Nat.le_refl _)
   rw [T0.putD, if_pos hD, ents_length] at he
   rw [he] at this
   exact this
  have hc : cnt s = s.size / 16 := by omega
  rw [← hc]
  refine ⟨by omega, by omega, rfl, fun j hj => ?_, hD⟩
  cases hb : E4.isE (chunk s j) with
  | true => rfl
  | false =>
   have h1 := (T0.okAt_entry (T0.okUpto_at hd.2 hj)).1
   rw [ents_get s _ j hj, (not_isE hb).1, (not_isE hb).2, entryOk_zero] at h1
   cases h1
end Go.Proofs.YthbcefopbmkppaaGreat.V0
namespace Go.Proofs.YthbcefopbmkppaaGreat.N0
open Go
structure Ln where
 ino : Int
 cl : Int
 un : Int
 rc : ByteArray
 pg : List Int
 sav : ByteArray
 po : List Int
 fr : List Int
def to (f : Nat → Bool) (k : Nat) : Bool := (List.range k).all f
theorem to_succ (f : Nat → Bool) (k : Nat) : to f (k + 1) = (to f k && f k) := by simp [to, List.range_succ]
theorem to_iff {f : Nat → Bool} {k : Nat} : to f k = true ↔ ∀ i, i < k → f i = true := by simp [to, List.all_eq_true]
theorem to_bad {f : Nat → Bool} {k n : Nat} (hk : k < n) (h : f k = false) : to f n = false := by
 cases e : to f n with
 | false => rfl
 | true => rw [to_iff.1 e k hk] at h; cases h
theorem to_step {f : Nat → Bool} {k : Nat} (h : to f k = true) (hf : f k = true) : to f (k + 1) = true := by rw [to_succ, h, hf]; rfl
def ascAt (zs : List Int) (i : Nat) : Bool := decide (i = 0) || decide (zs.getD (i - 1) 0 < zs.getD i 0)
def asc (zs : List Int) : Bool := to (ascAt zs) zs.length
def upAt (zs : List Int) (a b : Int) (i : Nat) : Bool := B1.inB (zs.getD i 0) a b && ascAt zs i
def up (zs : List Int) (a b : Int) : Bool := to (upAt zs a b) zs.length
def apAt (pg po : List Int) (i : Nat) : Bool := !(P0.has pg (po.getD i 0))
def apart (pg po : List Int) : Bool := to (apAt pg po) po.length
def frAt (fr : List Int) (ino : Int) (i : Nat) : Bool := B1.inB (fr.getD i 0) 1 7 && !decide (fr.getD i 0 = ino)
def past (d : Ln) : Bool := G0.isI d.rc && (!decide (G0.gK d.rc = 0) && (decide (G0.gZ d.rc = d.pg) && (decide (d.sav.size = d.pg.length * 32) && (!decide (G0.gK d.rc = 2) || V0.isD (B2.part d.sav 0 (G0.gS d.rc))))))
def nums (d : Ln) : Bool := decide (0 ≤ d.ino) && (decide (d.ino < 8) && (decide (0 ≤ d.cl) && (decide (d.cl ≤ 8) && decide (0 ≤ d.un))))
def poolOk (d : Ln) : Bool := decide (d.po.length ≤ 4) && (asc d.po && P0.pagesOk (G0.gZ d.rc ++ d.po))
def freshOk (d : Ln) : Bool := if G0.gK d.rc = 2 then decide (d.fr.length ≤ 2) && (asc d.fr && to (frAt d.fr d.ino) d.fr.length) else decide (d.fr.length = 0)
def loanOk (d : Ln) : Bool := past d && (nums d && (poolOk d && freshOk d))
def sFirst (d : Ln) : Bool := G0.isI d.rc && (!decide (G0.gK d.rc = 0) && (B1.inB d.ino 0 7 && (B1.inB d.cl 0 8 && (!decide (d.un < 0) && (decide (G0.gZ d.rc = d.pg) && decide (d.sav.size = d.pg.length * 32))))))
def sDir (d : Ln) : Bool := !decide (G0.gK d.rc = 2) || V0.isD (B2.part d.sav 0 (G0.gS d.rc))
def sLast (d : Ln) : Bool := up d.po 5 23 && (decide (d.po.length ≤ 4) && (up d.fr 1 7 && (decide (d.fr.length ≤ 2) && (!(P0.has d.fr d.ino) && (decide (G0.gK d.rc = 2) || decide (d.fr.length = 0))))))
def sOk (d : Ln) : Bool := sFirst d && (apart d.pg d.po && (sDir d && sLast d))
theorem getD_mem {zs : List Int} {i : Nat} (h : i < zs.length) : zs.getD i 0 ∈ zs := by
 rw [P0.getD_get _ _ h]
 exact List.getElem_mem h
theorem mem_getD {zs : List Int} {z : Int} (h : z ∈ zs) : ∃ i, i < zs.length ∧ zs.getD i 0 = z := by
 obtain ⟨i, hi, e⟩ := List.mem_iff_getElem.1 h
 exact ⟨i, hi, by rw [P0.getD_get _ _ hi]; exact e⟩
theorem has_iff {l : List Int} {x : Int} : P0.has l x = true ↔ x ∈ l := by unfold P0.has; exact List.contains_iff_mem
theorem has_not {l : List Int} {x : Int} : P0.has l x = false ↔ ¬ x ∈ l := by
 rw [← has_iff]
 cases P0.has l x <;> simp
theorem inB_iff {z a b : Int} : B1.inB z a b = true ↔ a ≤ z ∧ z ≤ b := by unfold B1.inB; simp
theorem pagesOk_iff {zs : List Int} : P0.pagesOk zs = true ↔ (∀ z ∈ zs, 5 ≤ z ∧ z ≤ 23) ∧ zs.Nodup := by
 have h0 : P0.pagesOk zs = to (P0.okAt zs) zs.length := rfl
 rw [h0, to_iff]
 constructor
 ·intro h
  refine ⟨fun z hz => ?_, ?_⟩
  ·obtain ⟨i, hi, rfl⟩ := mem_getD hz
   have := h i hi
   simp only [P0.okAt, Bool.and_eq_true] at this
   exact inB_iff.1 this.1
  ·rw [List.Nodup, List.pairwise_iff_getElem]
   intro i j hi hj hij e
   have := h j hj
   simp only [P0.okAt, Bool.and_eq_true, Bool.not_eq_true'] at this
   have h2 := P0.contains_of (zs := zs) hij (Nat.le_of_lt hj)
   rw [P0.getD_get _ _ hi, e, ← P0.getD_get _ _ hj, this.2] at h2
   cases h2
 ·rintro ⟨h1, h2⟩ i hi
  simp only [P0.okAt, Bool.and_eq_true, Bool.not_eq_true']
  refine ⟨inB_iff.2 (h1 _ (getD_mem hi)), has_not.2 fun hm => ?_⟩
  obtain ⟨j, hj, e⟩ := List.mem_iff_getElem.1 hm
  have hj' : j < i := by simp at hj; omega
  rw [List.getElem_take, P0.getD_get _ _ hi] at e
  rw [List.Nodup, List.pairwise_iff_getElem] at h2
  exact h2 j i (by omega) hi hj' e
theorem asc_iff {zs : List Int} : asc zs = true ↔ zs.Pairwise (· < ·) := by
 unfold asc
 rw [to_iff, List.pairwise_iff_getElem]
 constructor
 ·intro h i j hi hj hij
  induction j with
  | zero => omega
  | succ j ih =>
   have hs := h (j + 1) hj
   simp only [ascAt, Bool.or_eq_true, decide_eq_true_eq, Nat.add_sub_cancel] at hs
   have hs' : zs[j] < zs[j + 1] := by
    rcases hs with hs | hs
    ·omega
    ·rw [P0.getD_get _ _ (by omega), P0.getD_get _ _ hj] at hs
     exact hs
   by_cases e : i = j
   ·subst e
    exact hs'
   ·exact Int.lt_trans (ih (by omega) (by omega)) hs'
 ·intro h i hi
  simp only [ascAt, Bool.or_eq_true, decide_eq_true_eq]
  by_cases e : i = 0
  ·exact Or.inl e
  ·right
   rw [P0.getD_get _ _ (by omega), P0.getD_get _ _ hi]
   exact h (i - 1) i (by omega) hi (by omega)
theorem asc_nodup {zs : List Int} (h : asc zs = true) : zs.Nodup := (asc_iff.1 h).imp fun h e => by omega
theorem up_iff {zs : List Int} {a b : Int} : up zs a b = true ↔ (∀ z ∈ zs, a ≤ z ∧ z ≤ b) ∧ asc zs = true := by
 unfold up asc
 rw [to_iff, to_iff]
 constructor
 ·intro h
  refine ⟨fun z hz => ?_, fun i hi => ?_⟩
  ·obtain ⟨i, hi, rfl⟩ := mem_getD hz
   have := h i hi
   simp only [upAt, Bool.and_eq_true] at this
   exact inB_iff.1 this.1
  ·have := h i hi
   simp only [upAt, Bool.and_eq_true] at this
   exact this.2
 ·rintro ⟨h1, h2⟩ i hi
  simp only [upAt, Bool.and_eq_true]
  exact ⟨inB_iff.2 (h1 _ (getD_mem hi)), h2 i hi⟩
theorem apart_iff {pg po : List Int} : apart pg po = true ↔ ∀ z ∈ po, ¬ z ∈ pg := by
 unfold apart
 rw [to_iff]
 constructor
 ·intro h z hz
  obtain ⟨i, hi, rfl⟩ := mem_getD hz
  have := h i hi
  simp only [apAt, Bool.not_eq_true'] at this
  exact has_not.1 this
 ·intro h i hi
  simp only [apAt, Bool.not_eq_true']
  exact has_not.2 (h _ (getD_mem hi))
theorem frTo_iff {fr : List Int} {ino : Int} : to (frAt fr ino) fr.length = true ↔ (∀ z ∈ fr, 1 ≤ z ∧ z ≤ 7) ∧ ¬ ino ∈ fr := by
 rw [to_iff]
 constructor
 ·intro h
  refine ⟨fun z hz => ?_, fun hm => ?_⟩
  ·obtain ⟨i, hi, rfl⟩ := mem_getD hz
   have := h i hi
   simp only [frAt, Bool.and_eq_true] at this
   exact inB_iff.1 this.1
  ·obtain ⟨i, hi, e⟩ := mem_getD hm
   have := h i hi
   simp only [frAt, Bool.and_eq_true, Bool.not_eq_true', decide_eq_false_iff_not] at this
   exact this.2 e
 ·rintro ⟨h1, h2⟩ i hi
  simp only [frAt, Bool.and_eq_true, Bool.not_eq_true', decide_eq_false_iff_not]
  exact ⟨inB_iff.2 (h1 _ (getD_mem hi)), fun e => h2 (e ▸ getD_mem hi)⟩
theorem sOk_eq (d : Ln) : sOk d = loanOk d := by
 rw [Bool.eq_iff_iff]
 by_cases hP : sFirst d = true
 ·have h := hP
  simp only [sFirst, Bool.and_eq_true, Bool.not_eq_true', decide_eq_true_eq, decide_eq_false_iff_not, inB_iff] at h
  obtain ⟨hI, hk, hi, hc, hu, hz, hs⟩ := h
  have hg := O0.got hI
  have hpg := pagesOk_iff.1 hg.2.2.2.1
  rw [hz] at hpg
  simp only [sOk, loanOk, hP, past, nums, poolOk, hI, hk, hz, hs, Bool.and_eq_true, Bool.true_and, decide_true, decide_false, Bool.not_false, decide_eq_true_eq, sDir, sLast]
  rw [apart_iff, up_iff, up_iff, pagesOk_iff]
  constructor
  ·rintro ⟨h1, h2, ⟨h3, h4⟩, h5, ⟨h6, h7⟩, h8, h9, h10⟩
   refine ⟨h2, ⟨by omega, by omega, by omega, by omega, by omega⟩, ⟨h5, h4, ?_, ?_⟩, ?_⟩
   ·intro z hz'
    rcases List.mem_append.1 hz' with h | h
    ·exact hpg.1 z h
    ·exact h3 z h
   ·exact List.nodup_append.2 ⟨hpg.2, asc_nodup h4, fun a ha b hb e => h1 b hb (e ▸ ha)⟩
   ·unfold freshOk
    by_cases k2 : G0.gK d.rc = 2
    ·rw [if_pos k2]
     simp only [Bool.and_eq_true, decide_eq_true_eq]
     exact ⟨h8, h7, frTo_iff.2 ⟨h6, has_not.1 (by simpa using h9)⟩⟩
    ·rw [if_neg k2]
     simp only [k2, decide_false, Bool.false_or, decide_eq_true_eq, Bool.or_eq_true, false_or] at h10
     simpa using h10
  ·rintro ⟨h2, ⟨n1, n2, n3, n4, n5⟩, ⟨h5, h4, h3, hnd⟩, hf⟩
   have hnd' := List.nodup_append.1 hnd
   have hfr : up d.fr 1 7 = true ∧ d.fr.length ≤ 2 ∧ (!P0.has d.fr d.ino) = true ∧ (decide (G0.gK d.rc = 2) || decide (d.fr.length = 0)) = true := by
    unfold freshOk at hf
    by_cases k2 : G0.gK d.rc = 2
    ·rw [if_pos k2] at hf
     simp only [Bool.and_eq_true, decide_eq_true_eq] at hf
     obtain ⟨f1, f2, f3⟩ := hf
     obtain ⟨f4, f5⟩ := frTo_iff.1 f3
     exact ⟨up_iff.2 ⟨f4, f2⟩, f1, by simpa using has_not.2 f5, by simp [k2]⟩
    ·rw [if_neg k2] at hf
     have h0 : d.fr = [] := List.eq_nil_of_length_eq_zero (by simpa using hf)
     rw [h0]
     exact ⟨rfl, by decide, rfl, by simp⟩
   obtain ⟨q1, q2, q3, q4⟩ := hfr
   exact ⟨fun z hz' hz2 => hnd'.2.2 z hz2 z hz' rfl, h2, ⟨fun z hz' => h3 z (List.mem_append.2 (Or.inr hz')), h4⟩, h5, up_iff.1 q1, q2, q3, q4⟩
 ·have h1 : sFirst d = false := by simpa using hP
  simp only [sOk, h1, Bool.false_and, Bool.false_eq_true, false_iff]
  intro hl
  apply hP
  simp only [loanOk, past, nums, Bool.and_eq_true, decide_eq_true_eq] at hl
  obtain ⟨⟨a1, a2, a3, a4, a5⟩, ⟨b1, b2, b3, b4, b5⟩, -⟩ := hl
  simp only [sFirst, Bool.and_eq_true, decide_eq_true_eq, inB_iff]
  exact ⟨a1, a2, ⟨b1, by omega⟩, ⟨b3, b4⟩, by simp; omega, a3, a4⟩
theorem loanOk_is {d : Ln} (h : loanOk d = true) : G0.isI d.rc = true ∧ G0.gK d.rc ≠ 0 ∧ G0.gZ d.rc = d.pg ∧ d.sav.size = d.pg.length * 32 ∧ (0 ≤ d.ino ∧ d.ino ≤ 7) ∧ (0 ≤ d.cl ∧ d.cl ≤ 8) ∧ d.pg.length ≤ 6 ∧ d.po.length ≤ 4 ∧ d.fr.length ≤ 2 ∧ P0.pagesOk (d.pg ++ d.po) = true ∧ (∀ z ∈ d.fr, 1 ≤ z ∧ z ≤ 7) ∧ asc d.po = true ∧ asc d.fr = true := by
 have h' := h
 rw [← sOk_eq] at h'
 simp only [sOk, sFirst, sLast, Bool.and_eq_true, decide_eq_true_eq, inB_iff, Bool.not_eq_true', decide_eq_false_iff_not] at h'
 obtain ⟨⟨a1, a2, a3, a4, a5, a6, a7⟩, -, -, b1, b2, b3, b4, -⟩ := h'
 simp only [loanOk, poolOk, Bool.and_eq_true] at h
 have hp := h.2.2.1.2.2
 rw [a6] at hp
 have := (O0.got a1).2.1
 rw [a6] at this
 exact ⟨a1, a2, a6, a7, a3, a4, this, b2, b4, hp, (up_iff.1 b3).1, (up_iff.1 b1).2, (up_iff.1 b3).2⟩
end Go.Proofs.YthbcefopbmkppaaGreat.N0
