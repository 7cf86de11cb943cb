/- Joined texts: plain facts and contracts. -/
import Derived.Test.YtljnkicgahepfaaGreatDoorJqZJ
import Derived.Test.YtljnkicgahepfaaGreatDoorJqA
import Derived.Test.YtljnkicgahepfaaGreatDoorJqX
set_option linter.unusedVariables false
set_option linter.unusedSimpArgs false
set_option maxRecDepth 10000
namespace Go.Proofs.YtljnkicgahepfaaGreatDoor.W0
open Go.ChangeShapes Go.WideShapes Go.ChangeAt Go.RowKit
open X0 (row mix)
def has (l : List Int) (x : Int) : Bool := l.contains x
theorem getD_get (zs : List Int) (k : Nat) (h : k < zs.length) : zs.getD k 0 = zs[k] := by simp [List.getD, h]
theorem contains_succ (zs : List Int) (k : Nat) (x : Int) (h : k < zs.length) : has (zs.take (k + 1)) x = (has (zs.take k) x || x == zs.getD k 0) := by
 unfold has
 rw [List.take_succ_eq_append_getElem h, List.contains_eq_any_beq, List.contains_eq_any_beq, List.any_append, getD_get _ _ h]
 simp
theorem contains_of {zs : List Int} {k n : Nat} (hk : k < n) (hn : n ≤ zs.length) : has (zs.take n) (zs.getD k 0) = true := by
 unfold has
 rw [List.contains_iff_mem]
 rw [getD_get _ _ (by omega)]
 exact List.mem_iff_getElem.2 ⟨k, by simp; omega, by simp⟩
theorem ret_bool {a b : Bool} (h : a = b) : Ending.returned (.bool a) = .returned (.bool b) := by rw [h]
theorem l02Has (b off n c : Nat) (zs : List Int) (x : Int) (w : World) (hz : n ≤ zs.length) (hbig : n ≤ 281474976710656) (hc : ∀ j, j < zs.length → w.cell? ⟨b, off + j, none⟩ = some (.int .i64 (zs.getD j 0))) :
  Calls Tryz.prog 106 #[.slice (some ⟨b, off, none⟩) n c, .int .i64 x] w fun e w' => e = .returned (.bool (has (zs.take n) x)) ∧ w' = w := by
 go_enter Tryz.func106, Tryz.ntmps106
 go_wp2
 go_loop [5] (fun i => ∃ k : Nat, k ≤ n ∧ has (zs.take k) x = false ∧ i = .int .i64 k) (fun i => n - (intOf i).toNat)
 case atStart => exact ⟨0, Nat.zero_le _, rfl, rfl⟩
 case round =>
  obtain ⟨k, hk, hno, rfl⟩ := hrel
  by_cases hlt : k < n
  ·have x1 := hc k (by omega)
   have hs := contains_succ zs k x (by omega)
   have hin := fun h : x = zs.getD k 0 => h ▸ contains_of (zs := zs) hlt hz
   obtain ⟨z, ez⟩ : ∃ z, zs.getD k 0 = z := ⟨_, rfl⟩
   rw [ez] at x1 hs hin
   have e1 : (0 : Int) ≤ (k : Int) := by omega
   have e2 : (k : Int) < (n : Int) := by omega
   by_cases h : z = x
   ·have h' : (z == x) = true := by simpa using h
    have HR : Hid (has (zs.take n) x = true) := hin h.symm
    clear h hs hin hno ez hc
    go_wp2
    go_ret
    exact ⟨ret_bool HR.out.symm, rfl⟩
   ·have h' : (z == x) = false := by simpa using h
    have HN : Hid (has (zs.take (k + 1)) x = false) := by
     rw [hs, hno, show (x == z) = false by simpa using fun q : x = z => h q.symm]
     rfl
    clear h hs hin hno ez hc
    go_wp2
    go_round
    case rel => exact ⟨k + 1, by omega, HN.out, by go_num⟩
    case measure => simp [intOf]; omega
  ·obtain rfl : k = n := by omega
   have HN : Hid (has (zs.take k) x = false) := hno
   clear hno hc
   go_wp2
   go_ret
   exact ⟨ret_bool HN.out.symm, rfl⟩
theorem l02Has_none (a : Option Addr) (c : Nat) (x : Int) (w : World) : Calls Tryz.prog 106 #[.slice a 0 c, .int .i64 x] w fun e w' => e = .returned (.bool false) ∧ w' = w := by
 go_enter Tryz.func106, Tryz.ntmps106
 go_wp2
 go_loop [5] (fun i => i = .int .i64 0) (fun i => 0)
 case atStart => rfl
 case round =>
  obtain rfl := hrel
  go_wp2
  go_ret
  exact ⟨rfl, rfl⟩
theorem spec_has (a : Option Addr) (c : Nat) (zs : List Int) (x : Int) (w : World) (hbig : zs.length ≤ 1048576) (hR : P0.Row w a zs) :
  Calls Tryz.prog 106 #[.slice a zs.length c, .int .i64 x] w fun e w' => e = .returned (.bool (has zs x)) ∧ w' = w := by
 rcases hR with rfl | ⟨b, off, rfl, hb, hc⟩
 ·exact l02Has_none a c x w
 ·have := l02Has b off zs.length c zs x w (Nat.le_refl _) (by omega) hc
  rwa [List.take_length] at this
theorem impl_has (a : Option Addr) (c : Nat) (zs : List Int) (x : Int) (w : World) (hbig : zs.length ≤ 1048576) (hR : P0.Row w a zs) :
  Calls Tryz.prog 178 #[.slice a zs.length c, .int .i64 x] w fun e w' => e = .returned (.bool (has zs x)) ∧ w' = w := by
 rcases hR with rfl | ⟨b, off, rfl, hb, hc⟩
 ·exact Tryz.slices_Contains_int_empty a c x w
 ·have := Tryz.slices_Contains_int b off zs.length c zs x w (Nat.le_refl _) (by omega) hc
  rwa [List.take_length] at this
def pick (kept : List Int) (k : Nat) : Bool := has kept (k : Int)
def pw (a b : ByteArray) (kept : List Int) : ByteArray := ⟨(mix a.data.toList b.data.toList (pick kept)).toArray⟩
def pMem (a b : ByteArray) (kept : List Int) : ByteArray := if D1.ok a b then pw a b kept else a
def pDur (a b : ByteArray) (kept : List Int) : ByteArray := if D1.ok a b then pw a b kept else b
theorem mix_rows (la lb : List UInt8) (p q : Nat → Bool) (ha : la.length = 768) (hb : lb.length = 768) (h : ∀ k, k < 96 → p k = q k ∨ row la k = row lb k) : mix la lb p = mix la lb q := by
 apply List.map_congr_left
 intro j hj
 have hj' : j < 768 := by simpa using hj
 rcases h (j / 8) (by omega) with e | e
 ·rw [e]
 ·have h1 : (row la (j / 8))[j % 8]? = (row lb (j / 8))[j % 8]? := by rw [e]
  rw [X0.row_get (by omega), X0.row_get (by omega), show j / 8 * 8 + j % 8 = j by omega, X0.get_of ha hj', X0.get_of hb hj'] at h1
  have h2 : la.getD j 0 = lb.getD j 0 := by simpa using h1
  rw [h2]
  split <;> split <;> rfl
def sel (Z kept : List Int) (i : Nat) (k : Nat) : Bool := has (Z.take i) (k : Int) && has kept (k : Int)
theorem sel_other {Z kept : List Int} {i q : Nat} (hi : i < Z.length) (hq : Z.getD i 0 = (q : Int)) : ∀ k, k < 96 → k ≠ q → sel Z kept i k = sel Z kept (i + 1) k := by
 intro k _ hk
 unfold sel
 rw [contains_succ _ _ _ hi, hq, show ((k : Int) == (q : Int)) = false by simp; omega, Bool.or_false]
theorem sel_yes {Z kept : List Int} {i q : Nat} (hi : i < Z.length) (hq : Z.getD i 0 = (q : Int)) (hk : has kept (q : Int) = true) : sel Z kept (i + 1) q = true := by
 unfold sel
 rw [contains_succ _ _ _ hi, hq, hk, show ((q : Int) == (q : Int)) = true by simp, Bool.or_true]
 rfl
theorem sel_no {Z kept : List Int} {i q : Nat} (hi : i < Z.length) (hq : Z.getD i 0 = (q : Int)) (hk : has kept (q : Int) = false) : ∀ k, k < 96 → sel Z kept i k = sel Z kept (i + 1) k := by
 intro k h96
 by_cases e : k = q
 ·subst e
  unfold sel
  rw [hk, Bool.and_false, Bool.and_false]
 ·exact sel_other hi hq k h96 e
theorem drt_mem {a b : ByteArray} {n : Nat} {x : Int} : x ∈ Y0.drt a b n ↔ ∃ k : Nat, k < n ∧ Y0.same a b k = false ∧ x = (k : Int) := by
 simp only [Y0.drt, List.mem_map, List.mem_filter, List.mem_range]
 constructor
 ·rintro ⟨k, ⟨h1, h2⟩, rfl⟩
  exact ⟨k, h1, by simpa using h2, rfl⟩
 ·rintro ⟨k, h1, h2, rfl⟩
  exact ⟨k, ⟨h1, by simpa using h2⟩, rfl⟩
theorem drt_get {a b : ByteArray} {i : Nat} (hi : i < (Y0.drt a b 96).length) : ∃ q : Nat, q < 96 ∧ (Y0.drt a b 96).getD i 0 = (q : Int) := by
 rw [getD_get _ _ hi]
 obtain ⟨k, h1, _, h3⟩ := drt_mem.1 (List.getElem_mem hi)
 exact ⟨k, h1, h3⟩
theorem sel_all {a b : ByteArray} {kept : List Int} (ha : a.size = 768) (hb : b.size = 768) : mix a.data.toList b.data.toList (sel (Y0.drt a b 96) kept (Y0.drt a b 96).length) = mix a.data.toList b.data.toList (pick kept) := by
 refine mix_rows _ _ _ _ (by rw [← Lib.size_eq]; exact ha) (by rw [← Lib.size_eq]; exact hb) ?_
 intro k hk
 by_cases hs : row a.data.toList k = row b.data.toList k
 ·exact Or.inr hs
 ·left
  have h1 : has (Y0.drt a b 96) (k : Int) = true := by
   unfold has
   rw [List.contains_iff_mem]
   exact drt_mem.2 ⟨k, hk, by rw [Y1.same_row ha hb hk]; exact decide_eq_false hs, rfl⟩
  rw [sel, List.take_length, h1, Bool.true_and]
  rfl
end Go.Proofs.YtljnkicgahepfaaGreatDoor.W0
namespace Go.Proofs.YtljnkicgahepfaaGreatDoor.F3
open Go.ChangeShapes Go.WideShapes Go.ChangeAt Go.RowKit
open X0 (row mix)
def goes (a b : ByteArray) (i n : Int) : Bool := D1.ok a b && (B2.lies a.size i n && !decide (n = 0))
def flushed (a b : ByteArray) (i n : Int) : ByteArray := if goes a b i n then ⟨(mix a.data.toList b.data.toList (F2.span (i.toNat / 8) ((i.toNat + n.toNat - 1) / 8))).toArray⟩ else b
theorem goes_true {a b : ByteArray} {i n : Int} (h : goes a b i n = true) : (a.size = 768 ∧ b.size = 768) ∧ 0 ≤ i ∧ 1 ≤ n ∧ i + n ≤ 768 := by
 simp only [goes, Bool.and_eq_true, Bool.not_eq_true', decide_eq_false_iff_not] at h
 have h1 := D1.ok_true h.1
 have h2 := B2.lies_true h.2.1
 have h3 := h.2.2
 refine ⟨h1, ?_⟩
 omega
theorem fd_size (la lb : List UInt8) (p : Nat → Bool) : (⟨(mix la lb p).toArray⟩ : ByteArray).size = 768 := by
 show (mix la lb p).toArray.size = 768
 rw [List.size_toArray, X0.mix_len]
set_option maxHeartbeats 4000000 in
theorem spec_Flush (a b : ByteArray) (i n : Int) (w : World) (ha : a.size ≤ 281474976710656) (hb : b.size ≤ 281474976710656) (wi : (Lit.int .i64 i).wf = true) (wn : (Lit.int .i64 n).wf = true) :
  Calls Tryz.prog 113 #[.agg #[.string a, .string b], .int .i64 i, .int .i64 n] w fun e w' => e = .returned (.agg #[.string a, .string (flushed a b i n)]) ∧ Below w.heap.size w w' := by
 have hF := D2.fr_new a b w
 have hm : a.size ≤ maxLen := by unfold maxLen; omega
 by_cases hok : D1.ok a b = true
 ·by_cases h1n : n < 1
  ·have e : flushed a b i n = b := by
    rw [flushed, if_neg]
    intro h
    have := goes_true h
    omega
   rw [e]
   go_enter Tryz.func113, Tryz.ntmps113
   go_wp2_with (go_at_call 43; refine (D2.spec_DevOk_fr _ _ ha hb hF).mono ?_; rintro e w1 ⟨rfl, h1⟩; obtain ⟨d0, d1, d2, d3, d4, d5, d6, d7, d8, d9⟩ := id h1)
   have q := D2.ret2 (a := a) (b := b) d2 d3
   exact bodyPost_ret (v := .agg #[.string a, .string b]) (by simp [results, Tryz.results113, go_sem, q.1, q.2]) rfl ⟨rfl, h1.done _ _⟩
  ·by_cases hlie : B2.lies a.size i n = true
   ·have hgo : goes a b i n = true := by rw [goes, hok, hlie, decide_eq_false (by omega : ¬ n = 0)]; rfl
    obtain ⟨⟨ha7, hb7⟩, hi, hn, hin⟩ := goes_true hgo
    have e : flushed a b i n = ⟨(mix a.data.toList b.data.toList (F2.span (i.toNat / 8) ((i.toNat + n.toNat - 1) / 8))).toArray⟩ := if_pos hgo
    rw [e]
    clear e hgo
    have hps : ((B2.part a i n).size : Int) = n := by
     rw [B2.part, if_pos hlie, ByteArray.size_extract]
     omega
    obtain ⟨m, rfl⟩ : ∃ m : Nat, i = m := ⟨i.toNat, by omega⟩
    obtain ⟨c, rfl⟩ : ∃ c : Nat, n = c := ⟨n.toNat, by omega⟩
    simp only [Int.toNat_natCast]
    have hpn : (((B2.part a (m : Int) (c : Int)).size : Int) != (c : Int)) = false := by rw [hps]; simp
    have hlb : b.data.toList.length = 768 := by rw [← Lib.size_eq]; exact hb7
    obtain ⟨x, hx⟩ : ∃ x, m / 8 = x := ⟨_, rfl⟩
    obtain ⟨y, hy⟩ : ∃ y, (m + c - 1) / 8 = y := ⟨_, rfl⟩
    rw [hx, hy]
    have hx' : (m : Int) / 8 = (x : Int) := by omega
    have hy' : ((m : Int) + (c : Int) - 1) / 8 = (y : Int) := by omega
    have hxy : x ≤ y := by omega
    have hy95 : y ≤ 95 := by omega
    have hpt : Hid (∀ W, Calls Tryz.prog 76 #[.string a, .int .i64 (m : Int), .int .i64 (c : Int)] W fun e w' => e = .returned (.string (B2.part a (m : Int) (c : Int))) ∧ W = w') := fun W => (B2.spec_Part _ _ _ _ hm wi wn).mono fun _ _ h => ⟨h.1, h.2.symm⟩
    clear hps hlie
    go_enter Tryz.func113, Tryz.ntmps113
    go_wp2_with (first
     | (go_at_call 43; refine (D2.spec_DevOk_fr _ _ ha hb hF).mono ?_; rintro e w1 ⟨rfl, h1⟩; have c0 := h1.c0; have c1 := h1.c1)
     | (go_at_call 76; refine (hpt.out _).mono ?_; rintro e w' ⟨rfl, rfl⟩))
    go_loopw [7] (fun t w' => ∃ k : Nat, x ≤ k ∧ k ≤ y + 1 ∧ t = .int .i64 k ∧ D2.Fr w.heap.size w a ⟨(mix a.data.toList b.data.toList (F2.upto x y k)).toArray⟩ w') (fun t _ => y + 1 - (intOf t).toNat)
    case atStart =>
     refine ⟨x, Nat.le_refl _, by omega, rfl, ?_⟩
     rw [X0.mix_none _ _ hlb (F2.upto x y x) (fun k _ => decide_eq_false (by omega)), show (⟨b.data.toList.toArray⟩ : ByteArray) = b from Lib.mk_data b]
     exact h1
    case round =>
     obtain ⟨k, hxk, hky, rfl, hFr⟩ := hrel
     have z0 := hFr.c0
     have z1 := hFr.c1
     clear h1 c0 c1 hF
     by_cases hlt : k ≤ y
     ·have e1 : (k : Int) ≤ (y : Int) := by omega
      have HM : Hid (B5.laid ⟨(mix a.data.toList b.data.toList (F2.upto x y k)).toArray⟩ ((k : Int) * 8) (B2.part a ((k : Int) * 8) 8) = ⟨(mix a.data.toList b.data.toList (F2.upto x y (k + 1))).toArray⟩) := X0.laid_row a b.data.toList (F2.upto x y k) (F2.upto x y (k + 1)) k ha7 (by omega) (fun i _ hi => F2.upto_step hi) (decide_eq_true (by omega))
      have hbs := fd_size a.data.toList b.data.toList (F2.upto x y k)
      obtain ⟨bk, hbk⟩ : ∃ bk : ByteArray, (⟨(mix a.data.toList b.data.toList (F2.upto x y k)).toArray⟩ : ByteArray) = bk := ⟨_, rfl⟩
      rw [hbk] at hFr z1 HM hbs
      have hk96 : k < 96 := by omega
      clear hbk hpt
      go_wp2_with (go_at_call 107; refine (F2.l02Line a bk k _ ha7 hbs hk96).mono ?_; rintro e w2 ⟨rfl, b2⟩; have h4 := hFr.below b2; have v0 := h4.c0; have v1 := h4.c1; have v2 := h4.g0; have v3 := h4.g1)
      have h5 := F2.set1 (h4.set0 a) (B5.laid bk ((k : Int) * 8) (B2.part a ((k : Int) * 8) 8))
      go_roundw
      case rel => exact ⟨k + 1, by omega, by omega, by go_num, by rw [← HM.out]; exact h5⟩
      case measure => simp [intOf]; omega
     ·obtain rfl : k = y + 1 := by omega
      have hmc := X0.mix_congr a.data.toList b.data.toList (F2.upto x y (y + 1)) (F2.span x y) (fun i _ => by simp only [F2.upto, F2.span]; congr 1; apply propext; omega)
      rw [hmc] at hFr z1
      obtain ⟨bk, hbk⟩ : ∃ bk : ByteArray, (⟨(mix a.data.toList b.data.toList (F2.span x y)).toArray⟩ : ByteArray) = bk := ⟨_, rfl⟩
      rw [hbk] at hFr z1
      have HB : Hid ((⟨(mix a.data.toList b.data.toList (F2.span x y)).toArray⟩ : ByteArray) = bk) := hbk
      have d2 := hFr.r0
      have d3 := hFr.r1
      have d4 := hFr.f0
      have d5 := hFr.f1
      clear hbk hmc hpt
      go_wp2
      have q := D2.ret2 (a := a) (b := bk) d2 d3
      exact bodyPost_ret (v := .agg #[.string a, .string bk]) (by simp [results, Tryz.results113, go_sem, q.1, q.2]) rfl ⟨by rw [HB.out], hFr.done _ _⟩
   ·have hlie' : B2.lies a.size i n = false := by simpa using hlie
    have e : flushed a b i n = b := by rw [flushed, goes, hlie', Bool.false_and, Bool.and_false]; rfl
    rw [e]
    have hps : ((B2.part a i n).size : Int) = 0 := by rw [B2.part, hlie']; rfl
    have hpn : (((B2.part a i n).size : Int) != n) = true := by rw [hps]; simp; omega
    have hpt : Hid (∀ W, Calls Tryz.prog 76 #[.string a, .int .i64 i, .int .i64 n] W fun e w' => e = .returned (.string (B2.part a i n)) ∧ W = w') := fun W => (B2.spec_Part _ _ _ _ hm wi wn).mono fun _ _ h => ⟨h.1, h.2.symm⟩
    clear hps hlie
    go_enter Tryz.func113, Tryz.ntmps113
    go_wp2_with (first
     | (go_at_call 43; refine (D2.spec_DevOk_fr _ _ ha hb hF).mono ?_; rintro e w1 ⟨rfl, h1⟩; obtain ⟨d0, d1, d2, d3, d4, d5, d6, d7, d8, d9⟩ := id h1)
     | (go_at_call 76; refine (hpt.out _).mono ?_; rintro e w' ⟨rfl, rfl⟩))
    have q := D2.ret2 (a := a) (b := b) d2 d3
    exact bodyPost_ret (v := .agg #[.string a, .string b]) (by simp [results, Tryz.results113, go_sem, q.1, q.2]) rfl ⟨rfl, h1.done _ _⟩
 ·have hok' : D1.ok a b = false := by simpa using hok
  have e : flushed a b i n = b := by rw [flushed, goes, hok']; rfl
  rw [e]
  go_enter Tryz.func113, Tryz.ntmps113
  go_wp2_with (go_at_call 43; refine (D2.spec_DevOk_fr _ _ ha hb hF).mono ?_; rintro e w1 ⟨rfl, h1⟩; obtain ⟨d0, d1, d2, d3, d4, d5, d6, d7, d8, d9⟩ := id h1)
  have q := D2.ret2 (a := a) (b := b) d2 d3
  exact bodyPost_ret (v := .agg #[.string a, .string b]) (by simp [results, Tryz.results113, go_sem, q.1, q.2]) rfl ⟨rfl, h1.done _ _⟩
end Go.Proofs.YtljnkicgahepfaaGreatDoor.F3
