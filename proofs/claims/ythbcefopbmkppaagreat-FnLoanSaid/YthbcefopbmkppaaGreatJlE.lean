/- Joined texts: plain facts and contracts. -/
import Derived.Test.YthbcefopbmkppaaGreatJlD
import Derived.Test.YthbcefopbmkppaaGreatJlB
import Derived.Deep.RegionWith
set_option linter.unusedVariables false
set_option linter.unusedSimpArgs false
set_option maxRecDepth 10000
namespace Go.Proofs.YthbcefopbmkppaaGreat.J0
open Go.ChangeShapes Go.WideShapes Go.ChangeAt Go.RowKit
open I2 (ints)
def IBuf (base : Nat) (w : World) (a : Option Addr) (n cap : Nat) (zs : List Int) : Prop := n = zs.length ∧ w.ownsRow base 3 1 (.slice a n cap) n (ints zs)
variable {base n cap : Nat} {a : Option Addr} {w W : World} {zs : List Int}
theorem blk_keep {B B0 : Nat} {vs : List Value} (h : K0.Blk B vs w) (hb : Below B0 w W) (hlt : B < B0) : K0.Blk B vs W :=
 ⟨fun j hj => (hb.cell (p := ⟨B, j, none⟩) hlt).trans (h.cell j hj), fun j hj => (hb.frozen (p := ⟨B, j, none⟩) hlt).trans (h.free j hj), Nat.lt_of_lt_of_le h.lt hb.size⟩
theorem IBuf.below (h : IBuf base w a n cap zs) (hb : Below w.heap.size w W) : IBuf base W a n cap zs := ⟨h.1, F0.owns_below h.2 hb⟩
theorem IBuf.alloc (h : IBuf base w a n cap zs) (o : Obj) : IBuf base (w.alloc o) a n cap zs := h.below ((Below.refl _ _).alloc (Nat.le_refl _) o)
theorem IBuf.drew (h : IBuf base w a n cap zs) : IBuf base w.drew a n cap zs := h
theorem IBuf.drewN (h : IBuf base w a n cap zs) (m : Nat) : IBuf base (w.drewN m) a n cap zs := h
theorem ibuf_nil (w : World) : IBuf base w none 0 0 [] := ⟨rfl, rfl, Or.inl ⟨rfl, rfl⟩⟩
theorem ibuf_made (w : World) (hb : base ≤ w.heap.size) : IBuf base (w.alloc (.cells #[] 3)) (some ⟨w.heap.size, 0, none⟩) 0 0 [] := ⟨rfl, World.ownsRow_made w #[] 0 hb (Nat.zero_le _) rfl⟩
theorem IBuf.fits (h : IBuf base w a n cap zs) : n ≤ cap := by
 rcases h.2.2 with ⟨h0, h1⟩ | ⟨g, c, cur, hv, _, _, hle, _⟩
 ·omega
 ·simp at hv
  omega
def Own (base : Nat) (W : World) (a : Option Addr) (zs : List Int) : Prop := zs = [] ∨ ∃ g, a = some ⟨g, 0, none⟩ ∧ base ≤ g ∧ K0.Blk g (ints zs) W
theorem IBuf.own (h : IBuf base w a n cap zs) : Own base w a zs := by
 rcases h.2.2 with ⟨h0, h1⟩ | ⟨g, c, cur, hv, hg, hc, hle, _, hs, ht⟩
 ·left
  exact List.eq_nil_of_length_eq_zero (by rw [← h.1]; exact h1)
 ·right
  simp at hv
  refine ⟨g, hv.1, hg, ⟨fun j hj => ?_, fun j hj => ?_, (Array.getElem?_eq_some_iff.1 hc).1⟩⟩
  ·have hcell : w.cell? ⟨g, j, none⟩ = cur[j]? := by
    unfold World.cell?
    rw [hc]
    simp
   have hj' : j < zs.length := by simpa using hj
   have e1 : (cur.toList.take (n * 1))[j]? = (ints zs)[j]? := by rw [ht]
   rw [List.getElem?_take_of_lt (by have := h.1; omega)] at e1
   rw [hcell, ← Array.getElem?_toList, e1]
   simp [hj']
  ·unfold World.frozen?
   rw [hc]
   simp
theorem Own.row (h : Own base W a zs) : P0.Row W a zs := by
 rcases h with h | ⟨g, rfl, _, hb⟩
 ·exact Or.inl h
 ·exact I2.row_of_blk hb
theorem Own.below {W' : World} (h : Own base W a zs) (hb : Below W.heap.size W W') : Own base W' a zs := by
 rcases h with h | ⟨g, e, hg, hk⟩
 ·exact Or.inl h
 ·exact Or.inr ⟨g, e, hg, hk.below hb⟩
theorem Own.alloc (h : Own base W a zs) (o : Obj) : Own base (W.alloc o) a zs := h.below ((Below.refl _ _).alloc (Nat.le_refl _) o)
theorem Own.drew (h : Own base W a zs) : Own base W.drew a zs := h.imp id fun ⟨g, e, hg, hk⟩ => ⟨g, e, hg, hk.drew⟩
theorem Own.drewN (h : Own base W a zs) (m : Nat) : Own base (W.drewN m) a zs := h.imp id fun ⟨g, e, hg, hk⟩ => ⟨g, e, hg, hk.drewN m⟩
theorem Own.mono {base' : Nat} (h : Own base W a zs) (hb : base' ≤ base) : Own base' W a zs := by
 rcases h with h | ⟨g, e, hg, hk⟩
 ·exact Or.inl h
 ·exact Or.inr ⟨g, e, Nat.le_trans hb hg, hk⟩
theorem Own.set (h : Own base W a zs) {B : Nat} (hB : B < base) (j : Nat) (v : Value) : Own base (W.setCell ⟨B, j, none⟩ v) a zs := by
 rcases h with h | ⟨g, e, hg, hk⟩
 ·exact Or.inl h
 ·exact Or.inr ⟨g, e, hg, hk.setOther (by omega) j v⟩
theorem one_int (c : Int) : ∀ u ∈ [Value.int .i64 c], u.oneCell' = true := by
 intro u h
 simp at h
 subst h
 rfl
theorem own_block (h : IBuf base w a n cap zs) : ∀ g, (Value.slice a n cap).ownBlock = some g → base ≤ g := fun g hg => (h.2.lt g hg).1
theorem ints_snoc (zs : List Int) (z : Int) : ints zs ++ [.int .i64 z] = ints (zs ++ [z]) := by simp
theorem append_int {ops : Array Oper} {rest : List Oper} {o : Oper} {A : Act} {Q : Exit → Act → World → Prop} (hgd : o.guard = none) (sl x : Operand)
  (ho : o.op = .call { callee := .builtin .append, args := #[sl, x], argTypes := #[24, 24] })
  (hbuf : IBuf base w a n cap zs) (z : Int) (hs : A.eval sl = .slice a n cap) (hx : A.eval x = .slice (some ⟨w.heap.size, 0, none⟩) 1 1) (hlen : n + 1 ≤ 1048576) (hb : base ≤ w.heap.size)
  (h : ∀ g' cap' w', IBuf base w' (some ⟨g', 0, none⟩) (n + 1) cap' (zs ++ [z]) → Below base w w' → wpList Tryz.prog ops Q rest (A.put o.dst (.slice (some ⟨g', 0, none⟩) (n + 1) cap')) w') : wpList Tryz.prog ops Q (o :: rest) A (w.alloc (.cells #[.int .i64 z] 3)) := by
 obtain ⟨i0, hi, hz0, hz1, hz2⟩ := info_parts I2.info3
 have hb2 := hbuf.alloc (.cells #[.int .i64 z] 3)
 refine wpList_append_lies _ hgd sl x 24 ho base 3 i0 (.int .i64 0) 1 8 Tryz.underlying24 hi hz0 hz1 hz2 rfl (by omega) _ n _ hs hb2.2 ⟨w.heap.size, 0, none⟩ 1 1 [.int .i64 z] hx rfl (World.news_of_block (heap_alloc_new w _)) (one_int z) (by omega) (by unfold maxLen; omega) (by omega) (by simp; omega) _ rfl ?_
 intro g' cap' w' ho' hg' _ _
 refine h g' cap' w' ⟨by rw [hbuf.1]; simp, ?_⟩ ?_
 ·rw [← ints_snoc]
  exact ho'
 ·exact F0.below_grown ((Below.refl _ _).alloc hb _) hg' (own_block hbuf) (by simp; omega)
theorem step_int {ops : Array Oper} {o : Oper} {A : Act} {K : Act → World → Prop} {Q : Exit → Act → World → Prop} {E : Prop} (hgd : o.guard = none) (sl x : Operand)
  (ho : o.op = .call { callee := .builtin .append, args := #[sl, x], argTypes := #[24, 24] })
  (hbuf : IBuf base w a n cap zs) (z : Int) (hs : A.eval sl = .slice a n cap) (hx : A.eval x = .slice (some ⟨w.heap.size, 0, none⟩) 1 1) (hlen : n + 1 ≤ 1048576) (hb : base ≤ w.heap.size)
  (h : ∀ g' cap' w', IBuf base w' (some ⟨g', 0, none⟩) (n + 1) cap' (zs ++ [z]) → Below base w w' → K (A.put o.dst (.slice (some ⟨g', 0, none⟩) (n + 1) cap')) w') :
  if Region.wanted o (yielded ops A.tmps) = true then Oper.wp Tryz.prog o A (w.alloc (.cells #[.int .i64 z] 3)) K Q else E := by
 obtain ⟨i0, hi, hz0, hz1, hz2⟩ := info_parts I2.info3
 have hb2 := hbuf.alloc (.cells #[.int .i64 z] 3)
 refine step_append_lies _ hgd sl x 24 ho base 3 i0 (.int .i64 0) 1 8 Tryz.underlying24 hi hz0 hz1 hz2 rfl (by omega) _ n _ hs hb2.2 ⟨w.heap.size, 0, none⟩ 1 1 [.int .i64 z] hx rfl (World.news_of_block (heap_alloc_new w _)) (one_int z) (by omega) (by unfold maxLen; omega) (by omega) (by simp; omega) _ rfl ?_
 intro g' cap' w' ho' hg' _ _
 refine h g' cap' w' ⟨by rw [hbuf.1]; simp, ?_⟩ ?_
 ·rw [← ints_snoc]
  exact ho'
 ·exact F0.below_grown ((Below.refl _ _).alloc hb _) hg' (own_block hbuf) (by simp; omega)
end Go.Proofs.YthbcefopbmkppaaGreat.J0
namespace Go.Proofs.YthbcefopbmkppaaGreat.R1
open Go.ChangeShapes Go.WideShapes Go.ChangeAt Go.RowKit
open I0 (val vals)
theorem ret_str {a b : ByteArray} (h : a = b) : Ending.returned (.string a) = .returned (.string b) := by rw [h]
def upto (k o s : Int) (zs : List Int) (j : Nat) : ByteArray := R0.two k o ++ B3.pair s ++ R0.pg (zs.take j)
theorem upto_zero (k o s : Int) (zs : List Int) : upto k o s zs 0 = R0.two k o ++ B3.pair s := by
 apply ByteArray.ext
 simp [upto, R0.pg]
theorem upto_succ (k o s : Int) (zs : List Int) (j : Nat) (h : j < zs.length) : upto k o s zs j ++ ⟨#[UInt8.ofNat (zs.getD j 0).toNat]⟩ = upto k o s zs (j + 1) := by
 rw [upto, upto, ByteArray.append_assoc, R0.pg_snoc zs j h]
theorem upto_all (k o s : Int) (zs : List Int) : upto k o s zs zs.length = R0.head k o s zs := by rw [upto, List.take_length, R0.head]
structure St (w : World) (W1 : World) (g n cap : Nat) (t : ByteArray) (W : World) : Prop where
 buf : F0.Buf W1.heap.size W g n cap t
 bel : Below W1.heap.size W1 W
variable {w W1 W W' : World} {g n cap : Nat} {t : ByteArray}
theorem St.below (h : St w W1 g n cap t W) (hb : Below W.heap.size W W') : St w W1 g n cap t W' := ⟨h.buf.below hb, h.bel.trans (hb.mono h.bel.size)⟩
theorem St.drew (h : St w W1 g n cap t W) : St w W1 g n cap t W.drew := ⟨h.buf.drew, h.bel.drew⟩
theorem zeros_st (m : Int) (h : St w W1 g n cap t W) :
  Calls Tryz.prog 21 #[.int .i64 m] W fun e w' => e = .returned (.string (B4.zeros m)) ∧ St w W1 g n cap t w' :=
 (B4.impl_Zeros m W).mono fun _ _ ⟨he, hb⟩ => ⟨he, h.below hb⟩
theorem with_st (a : ByteArray) (k : Int) (u : ByteArray) (hs : a.size ≤ 281474976710656) (ht : u.size ≤ 281474976710656) (h : St w W1 g n cap t W) :
  Calls Tryz.prog 20 #[.string a, .int .i64 k, .string u] W fun e w' => e = .returned (.string (B5.laid a k u)) ∧ St w W1 g n cap t w' :=
 (B5.impl_With a k u W hs ht).mono fun _ _ ⟨he, hb⟩ => ⟨he, h.below hb⟩
set_option maxHeartbeats 2000000 in
theorem recordText (k o s : Int) (a : Option Addr) (c : Nat) (zs : List Int) (w : World) (hok : I0.ok k o s zs = true) (hR : P0.Row w a zs) :
  Calls Tryz.prog 89 #[val k o s a zs.length c] w fun e w' => e = .returned (.string (R0.putI k o s zs)) ∧ Below w.heap.size w w' := by
 obtain ⟨hk, ho, hs, hl, -, hp⟩ := R0.ok_bounds hok
 have hP2 := R0.pair_size s (by omega) (by omega)
 have hbox := K0.blk_new (vals k o s a zs.length c) w 55
 have hl0 := K0.below_new w (.cells #[.int .i64 k, .int .i64 o, .int .i64 s, .slice a zs.length c] 55)
 have hR1 := hR.below hl0
 have hbuf0 := F0.buf_two (base := (w.alloc (.cells #[.int .i64 k, .int .i64 o, .int .i64 s, .slice a zs.length c] 55)).heap.size) (w.alloc (.cells #[.int .i64 k, .int .i64 o, .int .i64 s, .slice a zs.length c] 55)) k o (by omega) (by omega) (Nat.le_refl _)
 have hbuf0 := hbuf0.at (g' := w.heap.size + 1) (by simp)
 have hbl0 := K0.below_new (w.alloc (.cells #[.int .i64 k, .int .i64 o, .int .i64 s, .slice a zs.length c] 55)) (.cells #[.int .u8 k, .int .u8 o] 5)
 have hbox0 := hbox.below hbl0
 have HT : Hid (R0.putI k o s zs = B5.laid (B4.zeros 16) 0 (R0.head k o s zs)) := by
  have hz := R0.head_size k o s zs (by omega) (by omega)
  rw [R0.putI, if_pos hok, B4.zeros, if_pos (by decide), show ((16 : Int)).toNat = 16 from rfl, E0.laid_front _ 16 (by omega), hz, show 16 - (4 + zs.length) = 12 - zs.length by omega]
  rfl
 have hz4 : (R0.head k o s zs).size ≤ 281474976710656 := by rw [R0.head_size k o s zs (by omega) (by omega)]; omega
 have hz5 : (B4.zeros 16).size ≤ 281474976710656 := by decide
 clear hR hok
 have hs0 : 0 ≤ s := hs.1
 have hk0 : 0 ≤ k := hk.1
 have hk1 : k ≤ 2 := hk.2
 have ho0 : 0 ≤ o := ho.1
 have ho1 : o ≤ 9 := ho.2
 go_enter Tryz.func89, Tryz.ntmps89
 go_wp2_with (first
  | (go_at_call 95; refine (B3.impl_Pair _ _).mono ?_; rintro e w2 ⟨rfl, b2⟩; have hbuf2 := hbuf0.below b2; have bel2 := hbl0.trans (b2.mono hbl0.size); have hbox2 := hbox.below bel2; have c3 := hbox2.c3)
  | (at_builtin; refine F0.append_text rfl (.tmp 13) (.tmp 16) rfl hbuf2 (B3.pair s) (by rfl) (by rfl) (by omega) bel2.size ?_; intro g3 cap3 w3 hbuf3 bel3'; have bel3 := bel2.trans bel3'; have hbox3 := hbox.below bel3; have d3 := hbox3.c3))
 go_loopw [3, 21] (fun r i w' => ∃ (j g cap : Nat), j ≤ zs.length ∧ i = .int .i64 j ∧ r = .slice (some ⟨g, 0, none⟩) (4 + j) cap ∧ F0.Buf (w.alloc (.cells #[.int .i64 k, .int .i64 o, .int .i64 s, .slice a zs.length c] 55)).heap.size w' g (4 + j) cap (upto k o s zs j) ∧ Below (w.alloc (.cells #[.int .i64 k, .int .i64 o, .int .i64 s, .slice a zs.length c] 55)).heap.size (w.alloc (.cells #[.int .i64 k, .int .i64 o, .int .i64 s, .slice a zs.length c] 55)) w') (fun _ i _ => zs.length - (intOf i).toNat)
 case atStart =>
  rw [hP2] at hbuf3
  exact ⟨0, g3, cap3, Nat.zero_le _, rfl, rfl, by rw [upto_zero]; exact hbuf3, bel3⟩
 case round =>
  obtain ⟨j, g, cap, hj, rfl, rfl, hbuf, hbel⟩ := hrel
  clear hbuf0 hbl0 hbox0 hbuf2 bel2 hbox2 c3 hbuf3 bel3 bel3' hbox3 d3 b2
  by_cases hlt : j < zs.length
  ·obtain ⟨b, off, rfl, hb, hc⟩ := (hR1.below hbel).get hlt
   have x1 := hc j hlt
   have hz := R0.pages_bounds hp hlt
   have hu := upto_succ k o s zs j hlt
   obtain ⟨z, ez⟩ : ∃ z, zs.getD j 0 = z := ⟨_, rfl⟩
   rw [ez] at x1 hz hu
   have z0 : 0 ≤ z := by omega
   have z1 : z ≤ 23 := hz.2
   have e1 : (0 : Int) ≤ (j : Int) := by omega
   have e2 : (j : Int) < (zs.length : Int) := by omega
   have HU : Hid (upto k o s zs j ++ ⟨#[UInt8.ofNat z.toNat]⟩ = upto k o s zs (j + 1)) := hu
   clear hu ez hc hz
   go_wp2_with (at_builtin; refine F0.append_byte rfl (.tmp 25) (.tmp 28) rfl hbuf z (by omega) (by rfl) (by rfl) (by omega) hbel.size ?_; intro g1 cap1 w1 hbuf1 bel1)
   go_roundw
   case rel => exact ⟨j + 1, g1, cap1, by omega, by go_num, rfl, by rw [← HU.out]; exact hbuf1, hbel.trans bel1⟩
   case measure => simp [intOf]; omega
  ·obtain rfl : j = zs.length := by omega
   rw [upto_all] at hbuf
   have st : St w (w.alloc (.cells #[.int .i64 k, .int .i64 o, .int .i64 s, .slice a zs.length c] 55)) g (4 + zs.length) cap (R0.head k o s zs) wr := ⟨hbuf, hbel⟩
   have hfin : Hid (∀ W, St w (w.alloc (.cells #[.int .i64 k, .int .i64 o, .int .i64 s, .slice a zs.length c] 55)) g (4 + zs.length) cap (R0.head k o s zs) W → Below w.heap.size w W) := fun W h => hl0.trans (h.bel.mono hl0.size)
   clear hR1 hbuf hbel hbox hl0
   go_wp2
   have st1 := st.drew
   have cv0 := st.buf.conv
   have cv1 := st1.buf.conv
   go_region_with (first
    | (go_at_call 21; refine (zeros_st _ (by assumption)).mono ?_; rintro e w4 ⟨rfl, h4⟩; have cv4 := h4.buf.conv)
    | (go_at_call 20; refine (with_st _ _ _ hz5 hz4 (by assumption)).mono ?_; rintro e w5 ⟨rfl, h5⟩))
   all_goals
    go_wp2
    go_ret
    exact ⟨ret_str HT.out.symm, hfin.out _ h5⟩
end Go.Proofs.YthbcefopbmkppaaGreat.R1
namespace Go.Proofs.YthbcefopbmkppaaGreat.G1
open Go.ChangeShapes Go.WideShapes Go.ChangeAt Go.RowKit
open I0 (val vals)
set_option maxHeartbeats 1000000 in
theorem readPages (s : ByteArray) (w : World) (h16 : s.size = 16) :
  Calls Tryz.prog 86 #[.string s, .int .i64 (P0.need (B6.pairAt s 2))] w fun e w' => ∃ a c, e = .returned (.slice a (G0.pgs s (G0.cnt s)).length c) ∧ J0.IBuf w.heap.size w' a (G0.pgs s (G0.cnt s)).length c (G0.pgs s (G0.cnt s)) ∧ Below w.heap.size w w' := by
 rw [G0.pgs_length]
 have hm : s.size ≤ maxLen := by unfold maxLen; omega
 have hz : (s.size : Int) = 16 := by omega
 have b0 := J0.ibuf_made w (Nat.le_refl _)
 have l0 := K0.below_new w (.cells #[] 3)
 have hcl := G0.cnt_le s
 have hct := G0.cnt_lt s
 obtain ⟨N, hN⟩ : ∃ N, P0.need (B6.pairAt s 2) = N := ⟨_, rfl⟩
 rw [hN] at hct ⊢
 obtain ⟨C, hC⟩ : ∃ C, G0.cnt s = C := ⟨_, rfl⟩
 rw [hC] at hct hcl ⊢
 clear hN hC
 go_enter Tryz.func86, Tryz.ntmps86
 go_wp2
 go_loopw [5, 6] (fun v i w' => ∃ (k c : Nat) (a : Option Addr), k ≤ C ∧ i = .int .i64 (4 + (k : Int)) ∧ v = .slice a k c ∧ J0.IBuf w.heap.size w' a k c (G0.pgs s k) ∧ Below w.heap.size w w') (fun _ i _ => 16 - (intOf i).toNat)
 case atStart => exact ⟨0, 0, _, Nat.zero_le _, rfl, rfl, b0, l0⟩
 case round =>
  obtain ⟨k, c, a, hk, rfl, rfl, hbuf, hbel⟩ := hrel
  clear b0 l0
  by_cases hlt : k < C
  ·obtain ⟨h1, h2⟩ := (hct k).1 hlt
   have e1 : 4 + (k : Int) < 16 := by omega
   have HS : Hid (G0.pgs s k ++ [B1.byteAt s (4 + (k : Int))] = G0.pgs s (k + 1)) := G0.pgs_succ s k
   go_wp2_with (first
    | (go_at_call 85; refine (B1.impl_ByteAt _ _ _ hm).mono ?_; rintro e w' ⟨rfl, rfl⟩)
    | (at_builtin; refine J0.append_int rfl (.tmp 20) (.tmp 24) rfl hbuf _ (by rfl) (by rfl) (by omega) hbel.size ?_; intro g1 cap1 w1 hbuf1 bel1))
   go_roundw
   case rel => exact ⟨k + 1, cap1, _, by omega, by go_num, rfl, by rw [← HS.out]; exact hbuf1, hbel.trans bel1⟩
   case measure => simp [intOf]; omega
  ·obtain rfl : k = C := by omega
   by_cases h12 : k < 12
   ·have e1 : 4 + (k : Int) < 16 := by omega
    have e2 : ¬ (k : Int) < N := fun h => hlt ((hct k).2 ⟨h, h12⟩)
    have e3 : decide ((k : Int) < N) = false := by simpa using e2
    go_wp2
    go_ret
    exact ⟨a, c, rfl, hbuf, hbel⟩
   ·have e1 : ¬ 4 + (k : Int) < 16 := by omega
    have e3 : decide (4 + (k : Int) < 16) = false := by simpa using e1
    go_wp2
    go_ret
    exact ⟨a, c, rfl, hbuf, hbel⟩
theorem as00 (v : Value) (w : World) : (Instr.typeAssert (.iface 128 v) 112 128 true).run Tryz.prog w = .ok (.tuple #[v, .bool true]) w := by kernel_rfl
theorem as10 (v : Value) (w : World) : (Instr.typeAssert (.iface 123 v) 112 128 true).run Tryz.prog w = .ok (.tuple #[val 0 0 0 none 0 0, .bool false]) w := by kernel_rfl
theorem as20 (v : Value) (w : World) : (Instr.typeAssert (.iface 125 v) 112 128 true).run Tryz.prog w = .ok (.tuple #[val 0 0 0 none 0 0, .bool false]) w := by kernel_rfl
theorem as11 (v : Value) (w : World) : (Instr.typeAssert (.iface 123 v) 112 123 true).run Tryz.prog w = .ok (.tuple #[v, .bool true]) w := by kernel_rfl
theorem as21 (v : Value) (w : World) : (Instr.typeAssert (.iface 125 v) 112 123 true).run Tryz.prog w = .ok (.tuple #[val 0 0 0 none 0 0, .bool false]) w := by kernel_rfl
theorem as22 (v : Value) (w : World) : (Instr.typeAssert (.iface 125 v) 112 125 false).run Tryz.prog w = .ok v w := by kernel_rfl
theorem isFree0 (v : Value) (k o s : Int) (a : Option Addr) (n c : Nat) (hv : v = val k o s a n c) (w : World) :
  Calls Tryz.prog 90 #[.iface 128 v] w fun e w' => e = .returned (.bool true) ∧ Below w.heap.size w w' := by
 have ha := as00
 subst hv
 go_enter Tryz.func90, Tryz.ntmps90
 go_wp2
 go_ret
 exact ⟨rfl, K0.below_new _ _⟩
theorem isFree1 (v : Value) (k o s : Int) (a : Option Addr) (n c : Nat) (hv : v = val k o s a n c) (w : World) :
  Calls Tryz.prog 90 #[.iface 123 v] w fun e w' => e = .returned (.bool false) ∧ Below w.heap.size w w' := by
 have ha := as10
 subst hv
 go_enter Tryz.func90, Tryz.ntmps90
 go_wp2
 go_ret
 exact ⟨rfl, K0.below_new _ _⟩
theorem isFree2 (v : Value) (k o s : Int) (a : Option Addr) (n c : Nat) (hv : v = val k o s a n c) (w : World) :
  Calls Tryz.prog 90 #[.iface 125 v] w fun e w' => e = .returned (.bool false) ∧ Below w.heap.size w w' := by
 have ha := as20
 subst hv
 go_enter Tryz.func90, Tryz.ntmps90
 go_wp2
 go_ret
 exact ⟨rfl, K0.below_new _ _⟩
theorem inodeOf0 (k o s : Int) (a : Option Addr) (n c : Nat) (w : World) :
  Calls Tryz.prog 77 #[.iface 128 (val k o s a n c)] w fun e w' => e = .returned (val 0 0 0 none 0 0) ∧ Below w.heap.size w w' := by
 have n0 := K0.blk_new (vals 0 0 0 none 0 0) w 55
 have l0 := K0.below_new w (.cells #[.int .i64 0, .int .i64 0, .int .i64 0, .slice none 0 0] 55)
 go_enter Tryz.func77, Tryz.ntmps77
 go_wp2_with (go_at_call 90; refine (isFree0 _ k o s a n c rfl _).mono ?_; rintro e w1 ⟨rfl, b1⟩; have n1 := n0.below b1; have l1 := l0.trans (b1.mono l0.size); have c0 := n1.c0; have c1 := n1.c1; have c2 := n1.c2; have c3 := n1.c3; have f0 := n1.f0; have f1 := n1.f1; have f2 := n1.f2; have f3 := n1.f3)
 have q := n1.put4 (.int .i64 0) (.int .i64 0) (.int .i64 0) (.slice none 0 0)
 refine bodyPost_ret (v := val 0 0 0 none 0 0) (by simp [results, Tryz.results77, go_sem, q.c0, q.c1, q.c2, q.c3]) rfl ⟨rfl, ?_⟩
 exact (((l1.setCell (p := ⟨w.heap.size, 0, none⟩) (Nat.le_refl _) _).setCell (p := ⟨w.heap.size, 1, none⟩) (Nat.le_refl _) _).setCell (p := ⟨w.heap.size, 2, none⟩) (Nat.le_refl _) _).setCell (p := ⟨w.heap.size, 3, none⟩) (Nat.le_refl _) _
set_option maxHeartbeats 1000000 in
theorem inodeOf1 (k o s : Int) (a : Option Addr) (n c : Nat) (w : World) :
  Calls Tryz.prog 77 #[.iface 123 (val k o s a n c)] w fun e w' => e = .returned (val k o s a n c) ∧ Below w.heap.size w w' := by
 have ha := as11
 have n0 := K0.blk_new (vals 0 0 0 none 0 0) w 55
 have l0 := K0.below_new w (.cells #[.int .i64 0, .int .i64 0, .int .i64 0, .slice none 0 0] 55)
 go_enter Tryz.func77, Tryz.ntmps77
 go_wp2_with (go_at_call 90; refine (isFree1 _ k o s a n c rfl _).mono ?_; rintro e w1 ⟨rfl, b1⟩; have n1 := (n0.below b1).alloc (.cells #[.int .i64 k, .int .i64 o, .int .i64 s, .slice a n c] 123); have l1 := (l0.trans (b1.mono l0.size)).alloc (Nat.le_trans l0.size b1.size) (.cells #[.int .i64 k, .int .i64 o, .int .i64 s, .slice a n c] 123); have c0 := n1.c0; have c1 := n1.c1; have c2 := n1.c2; have c3 := n1.c3; have f0 := n1.f0; have f1 := n1.f1; have f2 := n1.f2; have f3 := n1.f3)
 have q := n1.put4 (.int .i64 k) (.int .i64 o) (.int .i64 s) (.slice a n c)
 refine bodyPost_ret (v := val k o s a n c) (by simp [results, Tryz.results77, go_sem, q.c0, q.c1, q.c2, q.c3]) rfl ⟨rfl, ?_⟩
 exact (((l1.setCell (p := ⟨w.heap.size, 0, none⟩) (Nat.le_refl _) _).setCell (p := ⟨w.heap.size, 1, none⟩) (Nat.le_refl _) _).setCell (p := ⟨w.heap.size, 2, none⟩) (Nat.le_refl _) _).setCell (p := ⟨w.heap.size, 3, none⟩) (Nat.le_refl _) _
set_option maxHeartbeats 1000000 in
theorem inodeOf2 (k o s : Int) (a : Option Addr) (n c : Nat) (w : World) :
  Calls Tryz.prog 77 #[.iface 125 (val k o s a n c)] w fun e w' => e = .returned (val k o s a n c) ∧ Below w.heap.size w w' := by
 have ha := as21
 have hb := as22
 have n0 := K0.blk_new (vals 0 0 0 none 0 0) w 55
 have l0 := K0.below_new w (.cells #[.int .i64 0, .int .i64 0, .int .i64 0, .slice none 0 0] 55)
 go_enter Tryz.func77, Tryz.ntmps77
 go_wp2_with (go_at_call 90; refine (isFree2 _ k o s a n c rfl _).mono ?_; rintro e w1 ⟨rfl, b1⟩; have n1 := (n0.below b1).alloc (.cells #[.int .i64 0, .int .i64 0, .int .i64 0, .slice none 0 0] 123); have l1 := (l0.trans (b1.mono l0.size)).alloc (Nat.le_trans l0.size b1.size) (.cells #[.int .i64 0, .int .i64 0, .int .i64 0, .slice none 0 0] 123); have c0 := n1.c0; have c1 := n1.c1; have c2 := n1.c2; have c3 := n1.c3; have f0 := n1.f0; have f1 := n1.f1; have f2 := n1.f2; have f3 := n1.f3)
 have q := n1.put4 (.int .i64 k) (.int .i64 o) (.int .i64 s) (.slice a n c)
 refine bodyPost_ret (v := val k o s a n c) (by simp [results, Tryz.results77, go_sem, q.c0, q.c1, q.c2, q.c3]) rfl ⟨rfl, ?_⟩
 exact (((l1.setCell (p := ⟨w.heap.size, 0, none⟩) (Nat.le_refl _) _).setCell (p := ⟨w.heap.size, 1, none⟩) (Nat.le_refl _) _).setCell (p := ⟨w.heap.size, 2, none⟩) (Nat.le_refl _) _).setCell (p := ⟨w.heap.size, 3, none⟩) (Nat.le_refl _) _
end Go.Proofs.YthbcefopbmkppaaGreat.G1
namespace Go.Proofs.YthbcefopbmkppaaGreat.G2
open Go.ChangeShapes Go.WideShapes Go.ChangeAt Go.RowKit
open I0 (val vals)
theorem below_of_drew {w w1 : World} {n : Nat} (h : Below (w.drewN n).heap.size (w.drewN n) w1) : Below w.heap.size w w1 := ⟨h.os, h.tape, h.output, h.size, h.block⟩
structure Nd (w : World) (B : Nat) (k o s : Int) (a : Option Addr) (zs : List Int) (c : Nat) (W : World) : Prop where
 box : K0.Blk B (vals k o s a zs.length c) W
 own : J0.Own w.heap.size W a zs
 fits : zs.length ≤ c
 bel : Below w.heap.size w W
variable {w W W' : World} {B : Nat} {k o s : Int} {a : Option Addr} {zs : List Int} {c : Nat}
theorem Nd.below (h : Nd w B k o s a zs c W) (hb : Below W.heap.size W W') : Nd w B k o s a zs c W' := ⟨h.box.below hb, h.own.below hb, h.fits, h.bel.trans (hb.mono h.bel.size)⟩
theorem nd_new (hb : Below w.heap.size w W) (hi : J0.IBuf w.heap.size W a zs.length c zs) : Nd w W.heap.size k o s a zs c (W.alloc (.cells #[.int .i64 k, .int .i64 o, .int .i64 s, .slice a zs.length c] 55)) :=
 ⟨K0.blk_new (vals k o s a zs.length c) W 55, hi.own.alloc _, hi.fits, hb.alloc hb.size _⟩
def Ans (s : ByteArray) (w : World) (e : Ending) (w' : World) : Prop :=
 Below w.heap.size w w' ∧ ((G0.isI s = false ∧ e = .returned (.tuple #[.nilIface, .bool false])) ∨
  (G0.isI s = true ∧ ∃ a c, e = .returned (.tuple #[I1.rec (B1.byteAt s 0) (val (B1.byteAt s 0) (B1.byteAt s 1) (B6.pairAt s 2) a (G0.pgs s (G0.cnt s)).length c), .bool true]) ∧ J0.Own w.heap.size w' a (G0.pgs s (G0.cnt s)) ∧ (G0.pgs s (G0.cnt s)).length ≤ c))
theorem ans_no {s : ByteArray} {w w' : World} (h : G0.isI s = false) (hb : Below w.heap.size w w') : Ans s w (.returned (.tuple #[.nilIface, .bool false])) w' := ⟨hb, Or.inl ⟨h, rfl⟩⟩
set_option maxHeartbeats 2000000 in
theorem readRecord (s : ByteArray) (w : World) (hs : s.size ≤ 281474976710656) :
  Calls Tryz.prog 76 #[.string s] w (Ans s w) := by
 have hm : s.size ≤ maxLen := by unfold maxLen; omega
 by_cases h16 : s.size = 16
 ·have g16 : ((s.size : Int) != 16) = false := by simp; omega
  have hpa := G0.pairAt_lt s 2
  have hbad := @G0.isI_bad s
  have hof := @G0.isI_of s h16
  have hnot := @G0.isI_not s
  have hans : Ans s w = fun e w' => Below w.heap.size w w' ∧ ((G0.isI s = false ∧ e = .returned (.tuple #[.nilIface, .bool false])) ∨
   (G0.isI s = true ∧ ∃ a c, e = .returned (.tuple #[I1.rec (B1.byteAt s 0) (val (B1.byteAt s 0) (B1.byteAt s 1) (B6.pairAt s 2) a (G0.pgs s (G0.cnt s)).length c), .bool true]) ∧ J0.Own w.heap.size w' a (G0.pgs s (G0.cnt s)) ∧ (G0.pgs s (G0.cnt s)).length ≤ c)) := rfl
  rw [hans]
  clear hans
  have hrp : Hid (∀ W, Calls Tryz.prog 86 #[.string s, .int .i64 (P0.need (B6.pairAt s 2))] W fun e w' => ∃ a c, e = .returned (.slice a (G0.pgs s (G0.cnt s)).length c) ∧ J0.IBuf W.heap.size w' a (G0.pgs s (G0.cnt s)).length c (G0.pgs s (G0.cnt s)) ∧ Below W.heap.size W w') := fun W => G1.readPages s W h16
  have hlen : (G0.pgs s (G0.cnt s)).length ≤ 281474976710656 := by rw [G0.pgs_length]; have := G0.cnt_le s; omega
  unfold G0.txt at hof hnot
  obtain ⟨Z, hZ⟩ : ∃ Z, G0.pgs s (G0.cnt s) = Z := ⟨_, rfl⟩
  rw [hZ] at hbad hof hnot hrp hlen ⊢
  clear hZ
  by_cases hok : I0.ok (B1.byteAt s 0) (B1.byteAt s 1) (B6.pairAt s 2) Z = true
  ·by_cases htx : ((R0.putI (B1.byteAt s 0) (B1.byteAt s 1) (B6.pairAt s 2) Z).toList == s.toList) = true
   ·have HI : Hid (G0.isI s = true) := hof htx
    clear hbad hof hnot
    go_enter Tryz.func76, Tryz.ntmps76
    go_wp2_with (first
     | (go_at_call 84; refine (B6.impl_PairAt _ _ _ hs).mono ?_; rintro e w0 ⟨rfl, m0, rfl⟩)
     | (go_at_call 85; refine (B1.impl_ByteAt _ _ _ hm).mono ?_; rintro e w' ⟨rfl, rfl⟩)
     | (go_at_call 87; refine (P1.pagesFor _ _ hpa.1 hpa.2).mono ?_; rintro e w' ⟨rfl, rfl⟩)
     | (go_at_call 86; refine (hrp.out _).mono ?_; rintro e w1 ⟨a, c, rfl, hib, b1⟩; have n1 := nd_new (w := w) (k := B1.byteAt s 0) (o := B1.byteAt s 1) (s := B6.pairAt s 2) (below_of_drew b1) hib)
     | (go_at_call 88; refine (I1.recordOf _ _ _ _ _ Z _ hlen n1.fits n1.own.row).mono ?_; rintro e w2 ⟨rfl, b2⟩; have n2 := n1.below b2; have c0 := n2.box.c0; have c1 := n2.box.c1; have c2 := n2.box.c2; have c3 := n2.box.c3)
     | (go_at_call 89; refine (R1.recordText _ _ _ _ _ Z _ hok n2.own.row).mono ?_; rintro e w3 ⟨rfl, b3⟩; have n3 := n2.below b3))
    go_ret2
    exact ⟨n3.bel, Or.inr ⟨HI.out, a, c, rfl, n3.own, n3.fits⟩⟩
   ·have htx' : ((R0.putI (B1.byteAt s 0) (B1.byteAt s 1) (B6.pairAt s 2) Z).toList == s.toList) = false := by simpa using htx
    have HI : Hid (G0.isI s = false) := hnot htx'
    clear hbad hof hnot htx
    go_enter Tryz.func76, Tryz.ntmps76
    go_wp2_with (first
     | (go_at_call 84; refine (B6.impl_PairAt _ _ _ hs).mono ?_; rintro e w0 ⟨rfl, m0, rfl⟩)
     | (go_at_call 85; refine (B1.impl_ByteAt _ _ _ hm).mono ?_; rintro e w' ⟨rfl, rfl⟩)
     | (go_at_call 87; refine (P1.pagesFor _ _ hpa.1 hpa.2).mono ?_; rintro e w' ⟨rfl, rfl⟩)
     | (go_at_call 86; refine (hrp.out _).mono ?_; rintro e w1 ⟨a, c, rfl, hib, b1⟩; have n1 := nd_new (w := w) (k := B1.byteAt s 0) (o := B1.byteAt s 1) (s := B6.pairAt s 2) (below_of_drew b1) hib)
     | (go_at_call 88; refine (I1.recordOf _ _ _ _ _ Z _ hlen n1.fits n1.own.row).mono ?_; rintro e w2 ⟨rfl, b2⟩; have n2 := n1.below b2; have c0 := n2.box.c0; have c1 := n2.box.c1; have c2 := n2.box.c2; have c3 := n2.box.c3)
     | (go_at_call 89; refine (R1.recordText _ _ _ _ _ Z _ hok n2.own.row).mono ?_; rintro e w3 ⟨rfl, b3⟩; have n3 := n2.below b3))
    go_ret2
    exact ⟨n3.bel, Or.inl ⟨HI.out, rfl⟩⟩
  ·have hok' : I0.ok (B1.byteAt s 0) (B1.byteAt s 1) (B6.pairAt s 2) Z = false := by simpa using hok
   have HI : Hid (G0.isI s = false) := hbad hok'
   clear hbad hof hnot hok
   go_enter Tryz.func76, Tryz.ntmps76
   go_wp2_with (first
    | (go_at_call 84; refine (B6.impl_PairAt _ _ _ hs).mono ?_; rintro e w0 ⟨rfl, m0, rfl⟩)
    | (go_at_call 85; refine (B1.impl_ByteAt _ _ _ hm).mono ?_; rintro e w' ⟨rfl, rfl⟩)
    | (go_at_call 87; refine (P1.pagesFor _ _ hpa.1 hpa.2).mono ?_; rintro e w' ⟨rfl, rfl⟩)
    | (go_at_call 86; refine (hrp.out _).mono ?_; rintro e w1 ⟨a, c, rfl, hib, b1⟩; have n1 := nd_new (w := w) (k := B1.byteAt s 0) (o := B1.byteAt s 1) (s := B6.pairAt s 2) (below_of_drew b1) hib)
    | (go_at_call 88; refine (I1.recordOf _ _ _ _ _ Z _ hlen n1.fits n1.own.row).mono ?_; rintro e w2 ⟨rfl, b2⟩; have n2 := n1.below b2))
   go_ret2
   exact ⟨n2.bel, Or.inl ⟨HI.out, rfl⟩⟩
 ·have g16 : ((s.size : Int) != 16) = true := by simp; omega
  have HI : Hid (G0.isI s = false) := G0.isI_no h16
  go_enter Tryz.func76, Tryz.ntmps76
  go_wp2
  go_ret2
  exact ans_no HI.out (Below.refl _ _)
end Go.Proofs.YthbcefopbmkppaaGreat.G2
