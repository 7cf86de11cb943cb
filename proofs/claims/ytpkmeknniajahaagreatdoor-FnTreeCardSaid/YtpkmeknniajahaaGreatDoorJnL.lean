/- Joined texts: plain facts and contracts. -/
import Derived.Test.YtpkmeknniajahaaGreatDoorJnK
import Derived.Test.YtpkmeknniajahaaGreatDoorJnG
import Derived.Test.YtpkmeknniajahaaGreatDoorJnJ
import Derived.Deep.RegionWith
set_option linter.unusedVariables false
set_option linter.unusedSimpArgs false
set_option maxRecDepth 10000
namespace Go.Proofs.YtpkmeknniajahaaGreatDoor.N4
open Go.ChangeShapes Go.WideShapes Go.ChangeAt Go.RowKit
open N0 (Ln)
open N1 (Sl vals Lists LB)
open I2 (ints)
abbrev zero8 : List Value := [.int .i64 0, .int .i64 0, .int .i64 0, .string ⟨#[]⟩, .slice none 0 0, .string ⟨#[]⟩, .slice none 0 0, .slice none 0 0]
structure T (w : World) (d : Ln) (s : Sl) (vs : List Value) (W : World) : Prop where
 arg : LB w.heap.size d s W
 res : K0.Blk (w.heap.size + 1) zero8 W
 tmp : K0.Blk (w.heap.size + 2) vs W
 bel : Below w.heap.size w W
variable {w W W' : World} {d : Ln} {s : Sl} {vs : List Value}
theorem T.below (h : T w d s vs W) (hb : Below W.heap.size W W') : T w d s vs W' := ⟨h.arg.below hb, h.res.below hb, h.tmp.below hb, h.bel.trans (hb.mono h.bel.size)⟩
theorem T.set (h : T w d s vs W) (j : Nat) (v : Value) : T w d s (vs.set j v) (W.setCell ⟨w.heap.size + 2, j, none⟩ v) :=
 ⟨⟨h.arg.b.setOther (by omega) j v⟩, h.res.setOther (by omega) j v, h.tmp.set j v, h.bel.setCell (p := ⟨w.heap.size + 2, j, none⟩) (Nat.le_add_right _ _) v⟩
structure Cp (B : Nat) (d : Ln) (g1 g2 g3 : Nat) (W : World) : Prop where
 h1 : B ≤ g1
 h2 : B ≤ g2
 h3 : B ≤ g3
 k1 : K0.Blk g1 (ints d.pg) W
 k2 : K0.Blk g2 (ints d.po) W
 k3 : K0.Blk g3 (ints d.fr) W
variable {B g1 g2 g3 : Nat}
theorem Cp.below (h : Cp B d g1 g2 g3 W) (hb : Below W.heap.size W W') : Cp B d g1 g2 g3 W' := ⟨h.h1, h.h2, h.h3, h.k1.below hb, h.k2.below hb, h.k3.below hb⟩
end Go.Proofs.YtpkmeknniajahaaGreatDoor.N4
namespace Go.Proofs.YtpkmeknniajahaaGreatDoor.R1
open Go.ChangeShapes Go.WideShapes Go.ChangeAt Go.RowKit
open I0 (val vals)
theorem ret_str {a b : ByteArray} (h : a = b) : Ending.returned (.string a) = .returned (.string b) := by rw [h]
def upto (k o s : Int) (zs : List Int) (j : Nat) : ByteArray := R0.two k o ++ B3.pair s ++ R0.pg (zs.take j)
theorem upto_zero (k o s : Int) (zs : List Int) : upto k o s zs 0 = R0.two k o ++ B3.pair s := by
 apply ByteArray.ext
 simp [upto, R0.pg]
theorem upto_succ (k o s : Int) (zs : List Int) (j : Nat) (h : j < zs.length) : upto k o s zs j ++ ⟨#[UInt8.ofNat (zs.getD j 0).toNat]⟩ = upto k o s zs (j + 1) := by
 rw [upto, upto, ByteArray.append_assoc, R0.pg_snoc zs j h]
theorem upto_all (k o s : Int) (zs : List Int) : upto k o s zs zs.length = R0.head k o s zs := by rw [upto, List.take_length, R0.head]
structure St (w : World) (W1 : World) (g n cap : Nat) (t : ByteArray) (W : World) : Prop where
 buf : F0.Buf W1.heap.size W g n cap t
 bel : Below W1.heap.size W1 W
variable {w W1 W W' : World} {g n cap : Nat} {t : ByteArray}
theorem St.below (h : St w W1 g n cap t W) (hb : Below W.heap.size W W') : St w W1 g n cap t W' := ⟨h.buf.below hb, h.bel.trans (hb.mono h.bel.size)⟩
theorem St.drew (h : St w W1 g n cap t W) : St w W1 g n cap t W.drew := ⟨h.buf.drew, h.bel.drew⟩
theorem zeros_st (m : Int) (h : St w W1 g n cap t W) :
  Calls Tryz.prog 31 #[.int .i64 m] W fun e w' => e = .returned (.string (B4.zeros m)) ∧ St w W1 g n cap t w' :=
 (B4.impl_Zeros m W).mono fun _ _ ⟨he, hb⟩ => ⟨he, h.below hb⟩
theorem with_st (a : ByteArray) (k : Int) (u : ByteArray) (hs : a.size ≤ 281474976710656) (ht : u.size ≤ 281474976710656) (h : St w W1 g n cap t W) :
  Calls Tryz.prog 30 #[.string a, .int .i64 k, .string u] W fun e w' => e = .returned (.string (B5.laid a k u)) ∧ St w W1 g n cap t w' :=
 (B5.impl_With a k u W hs ht).mono fun _ _ ⟨he, hb⟩ => ⟨he, h.below hb⟩
set_option maxHeartbeats 2000000 in
theorem recordText (k o s : Int) (a : Option Addr) (c : Nat) (zs : List Int) (w : World) (hok : I0.ok k o s zs = true) (hR : P0.Row w a zs) :
  Calls Tryz.prog 64 #[val k o s a zs.length c] w fun e w' => e = .returned (.string (R0.putI k o s zs)) ∧ Below w.heap.size w w' := by
 obtain ⟨hk, ho, hs, hl, -, hp⟩ := R0.ok_bounds hok
 have hP2 := R0.pair_size s (by omega) (by omega)
 have hbox := K0.blk_new (vals k o s a zs.length c) w 50
 have hl0 := K0.below_new w (.cells #[.int .i64 k, .int .i64 o, .int .i64 s, .slice a zs.length c] 50)
 have hR1 := hR.below hl0
 have hbuf0 := F0.buf_two (base := (w.alloc (.cells #[.int .i64 k, .int .i64 o, .int .i64 s, .slice a zs.length c] 50)).heap.size) (w.alloc (.cells #[.int .i64 k, .int .i64 o, .int .i64 s, .slice a zs.length c] 50)) k o (by omega) (by omega) (Nat.le_refl _)
 have hbuf0 := hbuf0.at (g' := w.heap.size + 1) (by simp)
 have hbl0 := K0.below_new (w.alloc (.cells #[.int .i64 k, .int .i64 o, .int .i64 s, .slice a zs.length c] 50)) (.cells #[.int .u8 k, .int .u8 o] 5)
 have hbox0 := hbox.below hbl0
 have HT : Hid (R0.putI k o s zs = B5.laid (B4.zeros 16) 0 (R0.head k o s zs)) := by
  have hz := R0.head_size k o s zs (by omega) (by omega)
  rw [R0.putI, if_pos hok, B4.zeros, if_pos (by decide), show ((16 : Int)).toNat = 16 from rfl, E0.laid_front _ 16 (by omega), hz, show 16 - (4 + zs.length) = 12 - zs.length by omega]
  rfl
 have hz4 : (R0.head k o s zs).size ≤ 281474976710656 := by rw [R0.head_size k o s zs (by omega) (by omega)]; omega
 have hz5 : (B4.zeros 16).size ≤ 281474976710656 := by decide
 clear hR hok
 have hs0 : 0 ≤ s := hs.1
 have hk0 : 0 ≤ k := hk.1
 have hk1 : k ≤ 2 := hk.2
 have ho0 : 0 ≤ o := ho.1
 have ho1 : o ≤ 9 := ho.2
 go_enter Tryz.func64, Tryz.ntmps64
 go_wp2_with (first
  | (go_at_call 91; refine (B3.impl_Pair _ _).mono ?_; rintro e w2 ⟨rfl, b2⟩; have hbuf2 := hbuf0.below b2; have bel2 := hbl0.trans (b2.mono hbl0.size); have hbox2 := hbox.below bel2; have c3 := hbox2.c3)
  | (at_builtin; refine F0.append_text rfl (.tmp 13) (.tmp 16) rfl hbuf2 (B3.pair s) (by rfl) (by rfl) (by omega) bel2.size ?_; intro g3 cap3 w3 hbuf3 bel3'; have bel3 := bel2.trans bel3'; have hbox3 := hbox.below bel3; have d3 := hbox3.c3))
 go_loopw [3, 21] (fun r i w' => ∃ (j g cap : Nat), j ≤ zs.length ∧ i = .int .i64 j ∧ r = .slice (some ⟨g, 0, none⟩) (4 + j) cap ∧ F0.Buf (w.alloc (.cells #[.int .i64 k, .int .i64 o, .int .i64 s, .slice a zs.length c] 50)).heap.size w' g (4 + j) cap (upto k o s zs j) ∧ Below (w.alloc (.cells #[.int .i64 k, .int .i64 o, .int .i64 s, .slice a zs.length c] 50)).heap.size (w.alloc (.cells #[.int .i64 k, .int .i64 o, .int .i64 s, .slice a zs.length c] 50)) w') (fun _ i _ => zs.length - (intOf i).toNat)
 case atStart =>
  rw [hP2] at hbuf3
  exact ⟨0, g3, cap3, Nat.zero_le _, rfl, rfl, by rw [upto_zero]; exact hbuf3, bel3⟩
 case round =>
  obtain ⟨j, g, cap, hj, rfl, rfl, hbuf, hbel⟩ := hrel
  clear hbuf0 hbl0 hbox0 hbuf2 bel2 hbox2 c3 hbuf3 bel3 bel3' hbox3 d3 b2
  by_cases hlt : j < zs.length
  ·obtain ⟨b, off, rfl, hb, hc⟩ := (hR1.below hbel).get hlt
   have x1 := hc j hlt
   have hz := R0.pages_bounds hp hlt
   have hu := upto_succ k o s zs j hlt
   obtain ⟨z, ez⟩ : ∃ z, zs.getD j 0 = z := ⟨_, rfl⟩
   rw [ez] at x1 hz hu
   have z0 : 0 ≤ z := by omega
   have z1 : z ≤ 23 := hz.2
   have e1 : (0 : Int) ≤ (j : Int) := by omega
   have e2 : (j : Int) < (zs.length : Int) := by omega
   have HU : Hid (upto k o s zs j ++ ⟨#[UInt8.ofNat z.toNat]⟩ = upto k o s zs (j + 1)) := hu
   clear hu ez hc hz
   go_wp2_with (at_builtin; refine F0.append_byte rfl (.tmp 25) (.tmp 28) rfl hbuf z (by omega) (by rfl) (by rfl) (by omega) hbel.size ?_; intro g1 cap1 w1 hbuf1 bel1)
   go_roundw
   case rel => exact ⟨j + 1, g1, cap1, by omega, by go_num, rfl, by rw [← HU.out]; exact hbuf1, hbel.trans bel1⟩
   case measure => simp [intOf]; omega
  ·obtain rfl : j = zs.length := by omega
   rw [upto_all] at hbuf
   have st : St w (w.alloc (.cells #[.int .i64 k, .int .i64 o, .int .i64 s, .slice a zs.length c] 50)) g (4 + zs.length) cap (R0.head k o s zs) wr := ⟨hbuf, hbel⟩
   have hfin : Hid (∀ W, St w (w.alloc (.cells #[.int .i64 k, .int .i64 o, .int .i64 s, .slice a zs.length c] 50)) g (4 + zs.length) cap (R0.head k o s zs) W → Below w.heap.size w W) := fun W h => hl0.trans (h.bel.mono hl0.size)
   clear hR1 hbuf hbel hbox hl0
   go_wp2
   have st1 := st.drew
   have cv0 := st.buf.conv
   have cv1 := st1.buf.conv
   go_region_with (first
    | (go_at_call 31; refine (zeros_st _ (by assumption)).mono ?_; rintro e w4 ⟨rfl, h4⟩; have cv4 := h4.buf.conv)
    | (go_at_call 30; refine (with_st _ _ _ hz5 hz4 (by assumption)).mono ?_; rintro e w5 ⟨rfl, h5⟩))
   all_goals
    go_wp2
    go_ret
    exact ⟨ret_str HT.out.symm, hfin.out _ h5⟩
theorem impl_PutInode (k o s : Int) (a : Option Addr) (c : Nat) (zs : List Int) (w : World) (hbig : zs.length ≤ 281474976710656) (hcap : zs.length ≤ c) (hR : P0.Row w a zs) :
  Calls Tryz.prog 29 #[val k o s a zs.length c] w fun e w' => e = .returned (.string (R0.putI k o s zs)) ∧ Below w.heap.size w w' := by
 have hbox := K0.blk_new (vals k o s a zs.length c) w 50
 have hl0 := K0.below_new w (.cells #[.int .i64 k, .int .i64 o, .int .i64 s, .slice a zs.length c] 50)
 have hR0 := hR.below hl0
 clear hR
 by_cases hok : I0.ok k o s zs = true
 ·go_enter Tryz.func29, Tryz.ntmps29
  go_wp2_with (first
   | (go_at_call 63; refine (I1.impl_InodeOk k o s a c zs _ hbig hcap hR0).mono ?_; rintro e w1 ⟨rfl, b1⟩; have hbox1 := hbox.below b1; have c0 := hbox1.c0; have c1 := hbox1.c1; have c2 := hbox1.c2; have c3 := hbox1.c3; have hR1 := hR0.below b1; have l1 := hl0.trans (b1.mono hl0.size))
   | (go_at_call 64; refine (recordText k o s a c zs _ hok hR1).mono ?_; rintro e w2 ⟨rfl, b2⟩; have l2 := l1.trans (b2.mono l1.size)))
  go_ret
  exact ⟨rfl, l2⟩
 ·have hok' : I0.ok k o s zs = false := by simpa using hok
  have HR : Hid (R0.putI k o s zs = ⟨#[]⟩) := by rw [R0.putI, if_neg hok]; rfl
  go_enter Tryz.func29, Tryz.ntmps29
  go_wp2_with (go_at_call 63; refine (I1.impl_InodeOk k o s a c zs _ hbig hcap hR0).mono ?_; rintro e w1 ⟨rfl, b1⟩; have l1 := hl0.trans (b1.mono hl0.size))
  go_ret
  exact ⟨ret_str HR.out.symm, l1⟩
end Go.Proofs.YtpkmeknniajahaaGreatDoor.R1
namespace Go.Proofs.YtpkmeknniajahaaGreatDoor.G1
open Go.ChangeShapes Go.WideShapes Go.ChangeAt Go.RowKit
open I0 (val vals)
set_option maxHeartbeats 1000000 in
theorem readPages (s : ByteArray) (w : World) (h16 : s.size = 16) :
  Calls Tryz.prog 137 #[.string s, .int .i64 (P0.need (B6.pairAt s 2))] w fun e w' => ∃ a c, e = .returned (.slice a (G0.pgs s (G0.cnt s)).length c) ∧ J0.IBuf w.heap.size w' a (G0.pgs s (G0.cnt s)).length c (G0.pgs s (G0.cnt s)) ∧ Below w.heap.size w w' := by
 rw [G0.pgs_length]
 have hm : s.size ≤ maxLen := by unfold maxLen; omega
 have hz : (s.size : Int) = 16 := by omega
 have b0 := J0.ibuf_made w (Nat.le_refl _)
 have l0 := K0.below_new w (.cells #[] 3)
 have hcl := G0.cnt_le s
 have hct := G0.cnt_lt s
 obtain ⟨N, hN⟩ : ∃ N, P0.need (B6.pairAt s 2) = N := ⟨_, rfl⟩
 rw [hN] at hct ⊢
 obtain ⟨C, hC⟩ : ∃ C, G0.cnt s = C := ⟨_, rfl⟩
 rw [hC] at hct hcl ⊢
 clear hN hC
 go_enter Tryz.func137, Tryz.ntmps137
 go_wp2
 go_loopw [5, 6] (fun v i w' => ∃ (k c : Nat) (a : Option Addr), k ≤ C ∧ i = .int .i64 (4 + (k : Int)) ∧ v = .slice a k c ∧ J0.IBuf w.heap.size w' a k c (G0.pgs s k) ∧ Below w.heap.size w w') (fun _ i _ => 16 - (intOf i).toNat)
 case atStart => exact ⟨0, 0, _, Nat.zero_le _, rfl, rfl, b0, l0⟩
 case round =>
  obtain ⟨k, c, a, hk, rfl, rfl, hbuf, hbel⟩ := hrel
  clear b0 l0
  by_cases hlt : k < C
  ·obtain ⟨h1, h2⟩ := (hct k).1 hlt
   have e1 : 4 + (k : Int) < 16 := by omega
   have HS : Hid (G0.pgs s k ++ [B1.byteAt s (4 + (k : Int))] = G0.pgs s (k + 1)) := G0.pgs_succ s k
   go_wp2_with (first
    | (go_at_call 136; refine (B1.impl_ByteAt _ _ _ hm).mono ?_; rintro e w' ⟨rfl, rfl⟩)
    | (at_builtin; refine J0.append_int rfl (.tmp 20) (.tmp 24) rfl hbuf _ (by rfl) (by rfl) (by omega) hbel.size ?_; intro g1 cap1 w1 hbuf1 bel1))
   go_roundw
   case rel => exact ⟨k + 1, cap1, _, by omega, by go_num, rfl, by rw [← HS.out]; exact hbuf1, hbel.trans bel1⟩
   case measure => simp [intOf]; omega
  ·obtain rfl : k = C := by omega
   by_cases h12 : k < 12
   ·have e1 : 4 + (k : Int) < 16 := by omega
    have e2 : ¬ (k : Int) < N := fun h => hlt ((hct k).2 ⟨h, h12⟩)
    have e3 : decide ((k : Int) < N) = false := by simpa using e2
    go_wp2
    go_ret
    exact ⟨a, c, rfl, hbuf, hbel⟩
   ·have e1 : ¬ 4 + (k : Int) < 16 := by omega
    have e3 : decide (4 + (k : Int) < 16) = false := by simpa using e1
    go_wp2
    go_ret
    exact ⟨a, c, rfl, hbuf, hbel⟩
theorem as00 (v : Value) (w : World) : (Instr.typeAssert (.iface 149 v) 112 149 true).run Tryz.prog w = .ok (.tuple #[v, .bool true]) w := by kernel_rfl
theorem as10 (v : Value) (w : World) : (Instr.typeAssert (.iface 150 v) 112 149 true).run Tryz.prog w = .ok (.tuple #[val 0 0 0 none 0 0, .bool false]) w := by kernel_rfl
theorem as20 (v : Value) (w : World) : (Instr.typeAssert (.iface 151 v) 112 149 true).run Tryz.prog w = .ok (.tuple #[val 0 0 0 none 0 0, .bool false]) w := by kernel_rfl
theorem as11 (v : Value) (w : World) : (Instr.typeAssert (.iface 150 v) 112 150 true).run Tryz.prog w = .ok (.tuple #[v, .bool true]) w := by kernel_rfl
theorem as21 (v : Value) (w : World) : (Instr.typeAssert (.iface 151 v) 112 150 true).run Tryz.prog w = .ok (.tuple #[val 0 0 0 none 0 0, .bool false]) w := by kernel_rfl
theorem as22 (v : Value) (w : World) : (Instr.typeAssert (.iface 151 v) 112 151 false).run Tryz.prog w = .ok v w := by kernel_rfl
theorem isFree0 (v : Value) (k o s : Int) (a : Option Addr) (n c : Nat) (hv : v = val k o s a n c) (w : World) :
  Calls Tryz.prog 139 #[.iface 149 v] w fun e w' => e = .returned (.bool true) ∧ Below w.heap.size w w' := by
 have ha := as00
 subst hv
 go_enter Tryz.func139, Tryz.ntmps139
 go_wp2
 go_ret
 exact ⟨rfl, K0.below_new _ _⟩
theorem isFree1 (v : Value) (k o s : Int) (a : Option Addr) (n c : Nat) (hv : v = val k o s a n c) (w : World) :
  Calls Tryz.prog 139 #[.iface 150 v] w fun e w' => e = .returned (.bool false) ∧ Below w.heap.size w w' := by
 have ha := as10
 subst hv
 go_enter Tryz.func139, Tryz.ntmps139
 go_wp2
 go_ret
 exact ⟨rfl, K0.below_new _ _⟩
theorem isFree2 (v : Value) (k o s : Int) (a : Option Addr) (n c : Nat) (hv : v = val k o s a n c) (w : World) :
  Calls Tryz.prog 139 #[.iface 151 v] w fun e w' => e = .returned (.bool false) ∧ Below w.heap.size w w' := by
 have ha := as20
 subst hv
 go_enter Tryz.func139, Tryz.ntmps139
 go_wp2
 go_ret
 exact ⟨rfl, K0.below_new _ _⟩
theorem inodeOf0 (k o s : Int) (a : Option Addr) (n c : Nat) (w : World) :
  Calls Tryz.prog 114 #[.iface 149 (val k o s a n c)] w fun e w' => e = .returned (val 0 0 0 none 0 0) ∧ Below w.heap.size w w' := by
 have n0 := K0.blk_new (vals 0 0 0 none 0 0) w 50
 have l0 := K0.below_new w (.cells #[.int .i64 0, .int .i64 0, .int .i64 0, .slice none 0 0] 50)
 go_enter Tryz.func114, Tryz.ntmps114
 go_wp2_with (go_at_call 139; refine (isFree0 _ k o s a n c rfl _).mono ?_; rintro e w1 ⟨rfl, b1⟩; have n1 := n0.below b1; have l1 := l0.trans (b1.mono l0.size); have c0 := n1.c0; have c1 := n1.c1; have c2 := n1.c2; have c3 := n1.c3; have f0 := n1.f0; have f1 := n1.f1; have f2 := n1.f2; have f3 := n1.f3)
 have q := n1.put4 (.int .i64 0) (.int .i64 0) (.int .i64 0) (.slice none 0 0)
 refine bodyPost_ret (v := val 0 0 0 none 0 0) (by simp [results, Tryz.results114, go_sem, q.c0, q.c1, q.c2, q.c3]) rfl ⟨rfl, ?_⟩
 exact (((l1.setCell (p := ⟨w.heap.size, 0, none⟩) (Nat.le_refl _) _).setCell (p := ⟨w.heap.size, 1, none⟩) (Nat.le_refl _) _).setCell (p := ⟨w.heap.size, 2, none⟩) (Nat.le_refl _) _).setCell (p := ⟨w.heap.size, 3, none⟩) (Nat.le_refl _) _
set_option maxHeartbeats 1000000 in
theorem inodeOf1 (k o s : Int) (a : Option Addr) (n c : Nat) (w : World) :
  Calls Tryz.prog 114 #[.iface 150 (val k o s a n c)] w fun e w' => e = .returned (val k o s a n c) ∧ Below w.heap.size w w' := by
 have ha := as11
 have n0 := K0.blk_new (vals 0 0 0 none 0 0) w 50
 have l0 := K0.below_new w (.cells #[.int .i64 0, .int .i64 0, .int .i64 0, .slice none 0 0] 50)
 go_enter Tryz.func114, Tryz.ntmps114
 go_wp2_with (go_at_call 139; refine (isFree1 _ k o s a n c rfl _).mono ?_; rintro e w1 ⟨rfl, b1⟩; have n1 := (n0.below b1).alloc (.cells #[.int .i64 k, .int .i64 o, .int .i64 s, .slice a n c] 150); have l1 := (l0.trans (b1.mono l0.size)).alloc (Nat.le_trans l0.size b1.size) (.cells #[.int .i64 k, .int .i64 o, .int .i64 s, .slice a n c] 150); have c0 := n1.c0; have c1 := n1.c1; have c2 := n1.c2; have c3 := n1.c3; have f0 := n1.f0; have f1 := n1.f1; have f2 := n1.f2; have f3 := n1.f3)
 have q := n1.put4 (.int .i64 k) (.int .i64 o) (.int .i64 s) (.slice a n c)
 refine bodyPost_ret (v := val k o s a n c) (by simp [results, Tryz.results114, go_sem, q.c0, q.c1, q.c2, q.c3]) rfl ⟨rfl, ?_⟩
 exact (((l1.setCell (p := ⟨w.heap.size, 0, none⟩) (Nat.le_refl _) _).setCell (p := ⟨w.heap.size, 1, none⟩) (Nat.le_refl _) _).setCell (p := ⟨w.heap.size, 2, none⟩) (Nat.le_refl _) _).setCell (p := ⟨w.heap.size, 3, none⟩) (Nat.le_refl _) _
set_option maxHeartbeats 1000000 in
theorem inodeOf2 (k o s : Int) (a : Option Addr) (n c : Nat) (w : World) :
  Calls Tryz.prog 114 #[.iface 151 (val k o s a n c)] w fun e w' => e = .returned (val k o s a n c) ∧ Below w.heap.size w w' := by
 have ha := as21
 have hb := as22
 have n0 := K0.blk_new (vals 0 0 0 none 0 0) w 50
 have l0 := K0.below_new w (.cells #[.int .i64 0, .int .i64 0, .int .i64 0, .slice none 0 0] 50)
 go_enter Tryz.func114, Tryz.ntmps114
 go_wp2_with (go_at_call 139; refine (isFree2 _ k o s a n c rfl _).mono ?_; rintro e w1 ⟨rfl, b1⟩; have n1 := (n0.below b1).alloc (.cells #[.int .i64 0, .int .i64 0, .int .i64 0, .slice none 0 0] 150); have l1 := (l0.trans (b1.mono l0.size)).alloc (Nat.le_trans l0.size b1.size) (.cells #[.int .i64 0, .int .i64 0, .int .i64 0, .slice none 0 0] 150); have c0 := n1.c0; have c1 := n1.c1; have c2 := n1.c2; have c3 := n1.c3; have f0 := n1.f0; have f1 := n1.f1; have f2 := n1.f2; have f3 := n1.f3)
 have q := n1.put4 (.int .i64 k) (.int .i64 o) (.int .i64 s) (.slice a n c)
 refine bodyPost_ret (v := val k o s a n c) (by simp [results, Tryz.results114, go_sem, q.c0, q.c1, q.c2, q.c3]) rfl ⟨rfl, ?_⟩
 exact (((l1.setCell (p := ⟨w.heap.size, 0, none⟩) (Nat.le_refl _) _).setCell (p := ⟨w.heap.size, 1, none⟩) (Nat.le_refl _) _).setCell (p := ⟨w.heap.size, 2, none⟩) (Nat.le_refl _) _).setCell (p := ⟨w.heap.size, 3, none⟩) (Nat.le_refl _) _
end Go.Proofs.YtpkmeknniajahaaGreatDoor.G1
namespace Go.Proofs.YtpkmeknniajahaaGreatDoor.G2
open Go.ChangeShapes Go.WideShapes Go.ChangeAt Go.RowKit
open I0 (val vals)
theorem below_of_drew {w w1 : World} {n : Nat} (h : Below (w.drewN n).heap.size (w.drewN n) w1) : Below w.heap.size w w1 := ⟨h.os, h.tape, h.output, h.size, h.block⟩
structure Nd (w : World) (B : Nat) (k o s : Int) (a : Option Addr) (zs : List Int) (c : Nat) (W : World) : Prop where
 box : K0.Blk B (vals k o s a zs.length c) W
 own : J0.Own w.heap.size W a zs
 fits : zs.length ≤ c
 bel : Below w.heap.size w W
variable {w W W' : World} {B : Nat} {k o s : Int} {a : Option Addr} {zs : List Int} {c : Nat}
theorem Nd.below (h : Nd w B k o s a zs c W) (hb : Below W.heap.size W W') : Nd w B k o s a zs c W' := ⟨h.box.below hb, h.own.below hb, h.fits, h.bel.trans (hb.mono h.bel.size)⟩
theorem nd_new (hb : Below w.heap.size w W) (hi : J0.IBuf w.heap.size W a zs.length c zs) : Nd w W.heap.size k o s a zs c (W.alloc (.cells #[.int .i64 k, .int .i64 o, .int .i64 s, .slice a zs.length c] 50)) :=
 ⟨K0.blk_new (vals k o s a zs.length c) W 50, hi.own.alloc _, hi.fits, hb.alloc hb.size _⟩
def Ans (s : ByteArray) (w : World) (e : Ending) (w' : World) : Prop :=
 Below w.heap.size w w' ∧ ((G0.isI s = false ∧ e = .returned (.tuple #[.nilIface, .bool false])) ∨
  (G0.isI s = true ∧ ∃ a c, e = .returned (.tuple #[I1.rec (B1.byteAt s 0) (val (B1.byteAt s 0) (B1.byteAt s 1) (B6.pairAt s 2) a (G0.pgs s (G0.cnt s)).length c), .bool true]) ∧ J0.Own w.heap.size w' a (G0.pgs s (G0.cnt s)) ∧ (G0.pgs s (G0.cnt s)).length ≤ c))
theorem ans_no {s : ByteArray} {w w' : World} (h : G0.isI s = false) (hb : Below w.heap.size w w') : Ans s w (.returned (.tuple #[.nilIface, .bool false])) w' := ⟨hb, Or.inl ⟨h, rfl⟩⟩
set_option maxHeartbeats 2000000 in
theorem readRecord (s : ByteArray) (w : World) (hs : s.size ≤ 281474976710656) :
  Calls Tryz.prog 113 #[.string s] w (Ans s w) := by
 have hm : s.size ≤ maxLen := by unfold maxLen; omega
 by_cases h16 : s.size = 16
 ·have g16 : ((s.size : Int) != 16) = false := by simp; omega
  have hpa := G0.pairAt_lt s 2
  have hbad := @G0.isI_bad s
  have hof := @G0.isI_of s h16
  have hnot := @G0.isI_not s
  have hans : Ans s w = fun e w' => Below w.heap.size w w' ∧ ((G0.isI s = false ∧ e = .returned (.tuple #[.nilIface, .bool false])) ∨
   (G0.isI s = true ∧ ∃ a c, e = .returned (.tuple #[I1.rec (B1.byteAt s 0) (val (B1.byteAt s 0) (B1.byteAt s 1) (B6.pairAt s 2) a (G0.pgs s (G0.cnt s)).length c), .bool true]) ∧ J0.Own w.heap.size w' a (G0.pgs s (G0.cnt s)) ∧ (G0.pgs s (G0.cnt s)).length ≤ c)) := rfl
  rw [hans]
  clear hans
  have hrp : Hid (∀ W, Calls Tryz.prog 137 #[.string s, .int .i64 (P0.need (B6.pairAt s 2))] W fun e w' => ∃ a c, e = .returned (.slice a (G0.pgs s (G0.cnt s)).length c) ∧ J0.IBuf W.heap.size w' a (G0.pgs s (G0.cnt s)).length c (G0.pgs s (G0.cnt s)) ∧ Below W.heap.size W w') := fun W => G1.readPages s W h16
  have hlen : (G0.pgs s (G0.cnt s)).length ≤ 281474976710656 := by rw [G0.pgs_length]; have := G0.cnt_le s; omega
  unfold G0.txt at hof hnot
  obtain ⟨Z, hZ⟩ : ∃ Z, G0.pgs s (G0.cnt s) = Z := ⟨_, rfl⟩
  rw [hZ] at hbad hof hnot hrp hlen ⊢
  clear hZ
  by_cases hok : I0.ok (B1.byteAt s 0) (B1.byteAt s 1) (B6.pairAt s 2) Z = true
  ·by_cases htx : ((R0.putI (B1.byteAt s 0) (B1.byteAt s 1) (B6.pairAt s 2) Z).toList == s.toList) = true
   ·have HI : Hid (G0.isI s = true) := hof htx
    clear hbad hof hnot
    go_enter Tryz.func113, Tryz.ntmps113
    go_wp2_with (first
     | (go_at_call 135; refine (B6.impl_PairAt _ _ _ hs).mono ?_; rintro e w0 ⟨rfl, m0, rfl⟩)
     | (go_at_call 136; refine (B1.impl_ByteAt _ _ _ hm).mono ?_; rintro e w' ⟨rfl, rfl⟩)
     | (go_at_call 138; refine (P1.pagesFor _ _ hpa.1 hpa.2).mono ?_; rintro e w' ⟨rfl, rfl⟩)
     | (go_at_call 137; refine (hrp.out _).mono ?_; rintro e w1 ⟨a, c, rfl, hib, b1⟩; have n1 := nd_new (w := w) (k := B1.byteAt s 0) (o := B1.byteAt s 1) (s := B6.pairAt s 2) (below_of_drew b1) hib)
     | (go_at_call 90; refine (I1.recordOf _ _ _ _ _ Z _ hlen n1.fits n1.own.row).mono ?_; rintro e w2 ⟨rfl, b2⟩; have n2 := n1.below b2; have c0 := n2.box.c0; have c1 := n2.box.c1; have c2 := n2.box.c2; have c3 := n2.box.c3)
     | (go_at_call 64; refine (R1.recordText _ _ _ _ _ Z _ hok n2.own.row).mono ?_; rintro e w3 ⟨rfl, b3⟩; have n3 := n2.below b3))
    go_ret2
    exact ⟨n3.bel, Or.inr ⟨HI.out, a, c, rfl, n3.own, n3.fits⟩⟩
   ·have htx' : ((R0.putI (B1.byteAt s 0) (B1.byteAt s 1) (B6.pairAt s 2) Z).toList == s.toList) = false := by simpa using htx
    have HI : Hid (G0.isI s = false) := hnot htx'
    clear hbad hof hnot htx
    go_enter Tryz.func113, Tryz.ntmps113
    go_wp2_with (first
     | (go_at_call 135; refine (B6.impl_PairAt _ _ _ hs).mono ?_; rintro e w0 ⟨rfl, m0, rfl⟩)
     | (go_at_call 136; refine (B1.impl_ByteAt _ _ _ hm).mono ?_; rintro e w' ⟨rfl, rfl⟩)
     | (go_at_call 138; refine (P1.pagesFor _ _ hpa.1 hpa.2).mono ?_; rintro e w' ⟨rfl, rfl⟩)
     | (go_at_call 137; refine (hrp.out _).mono ?_; rintro e w1 ⟨a, c, rfl, hib, b1⟩; have n1 := nd_new (w := w) (k := B1.byteAt s 0) (o := B1.byteAt s 1) (s := B6.pairAt s 2) (below_of_drew b1) hib)
     | (go_at_call 90; refine (I1.recordOf _ _ _ _ _ Z _ hlen n1.fits n1.own.row).mono ?_; rintro e w2 ⟨rfl, b2⟩; have n2 := n1.below b2; have c0 := n2.box.c0; have c1 := n2.box.c1; have c2 := n2.box.c2; have c3 := n2.box.c3)
     | (go_at_call 64; refine (R1.recordText _ _ _ _ _ Z _ hok n2.own.row).mono ?_; rintro e w3 ⟨rfl, b3⟩; have n3 := n2.below b3))
    go_ret2
    exact ⟨n3.bel, Or.inl ⟨HI.out, rfl⟩⟩
  ·have hok' : I0.ok (B1.byteAt s 0) (B1.byteAt s 1) (B6.pairAt s 2) Z = false := by simpa using hok
   have HI : Hid (G0.isI s = false) := hbad hok'
   clear hbad hof hnot hok
   go_enter Tryz.func113, Tryz.ntmps113
   go_wp2_with (first
    | (go_at_call 135; refine (B6.impl_PairAt _ _ _ hs).mono ?_; rintro e w0 ⟨rfl, m0, rfl⟩)
    | (go_at_call 136; refine (B1.impl_ByteAt _ _ _ hm).mono ?_; rintro e w' ⟨rfl, rfl⟩)
    | (go_at_call 138; refine (P1.pagesFor _ _ hpa.1 hpa.2).mono ?_; rintro e w' ⟨rfl, rfl⟩)
    | (go_at_call 137; refine (hrp.out _).mono ?_; rintro e w1 ⟨a, c, rfl, hib, b1⟩; have n1 := nd_new (w := w) (k := B1.byteAt s 0) (o := B1.byteAt s 1) (s := B6.pairAt s 2) (below_of_drew b1) hib)
    | (go_at_call 90; refine (I1.recordOf _ _ _ _ _ Z _ hlen n1.fits n1.own.row).mono ?_; rintro e w2 ⟨rfl, b2⟩; have n2 := n1.below b2))
   go_ret2
   exact ⟨n2.bel, Or.inl ⟨HI.out, rfl⟩⟩
 ·have g16 : ((s.size : Int) != 16) = true := by simp; omega
  have HI : Hid (G0.isI s = false) := G0.isI_no h16
  go_enter Tryz.func113, Tryz.ntmps113
  go_wp2
  go_ret2
  exact ans_no HI.out (Below.refl _ _)
end Go.Proofs.YtpkmeknniajahaaGreatDoor.G2
