/- Joined texts: plain facts and contracts. -/
import Derived.Test.YtpkmeknniajahaaGreatDoorJnN
import Derived.Test.YtpkmeknniajahaaGreatDoorJnM
import Derived.Test.YtpkmeknniajahaaGreatDoorJnK
import Derived.Deep.WholeRow
set_option linter.unusedVariables false
set_option linter.unusedSimpArgs false
set_option maxRecDepth 10000
namespace Go.Proofs.YtpkmeknniajahaaGreatDoor.D1
open Go.ChangeShapes Go.WideShapes Go.ChangeAt Go.RowKit
variable {w W W' : World} {B : Nat} {a : Option Addr}
def nodeD (mem : ByteArray) (i : Int) : ByteArray := if G0.gK (O0.recd mem i) = 2 then ⟨#[]⟩ else data mem i
def Ans2 (mem : ByteArray) (i : Int) (w : World) (e : Ending) (w' : World) : Prop :=
 ∃ (k o t : Int) (a : Option Addr) (n c : Nat) (x : ByteArray) (ae : Option Addr) (ne ce : Nat), e = .returned (.tuple #[nv k o t a n c x ae ne ce, .bool (nodeOk mem i)]) ∧ Below w.heap.size w w' ∧
  (nodeOk mem i = true → k = G0.gK (O0.recd mem i) ∧ o = G0.gO (O0.recd mem i) ∧ n = (G0.gZ (O0.recd mem i)).length ∧ n ≤ c ∧ J0.Own w.heap.size w' a (G0.gZ (O0.recd mem i)) ∧ ne = (nodeE mem i).length ∧ ne ≤ ce ∧ V1.OwnE w.heap.size w' ae (nodeE mem i) ∧ x = nodeD mem i)
theorem ans2_no {mem : ByteArray} {i : Int} {w w' : World} {k o t : Int} {a : Option Addr} {n c : Nat} {x : ByteArray} {ae : Option Addr} {ne ce : Nat} (h : nodeOk mem i = false) (hb : Below w.heap.size w w') : Ans2 mem i w (.returned (.tuple #[nv k o t a n c x ae ne ce, .bool false])) w' :=
 ⟨k, o, t, a, n, c, x, ae, ne, ce, by rw [h], hb, fun h' => by rw [h] at h'; cases h'⟩
theorem ans2_yes {mem : ByteArray} {i : Int} {w w' : World} {t : Int} {a : Option Addr} {c : Nat} {x : ByteArray} {ae : Option Addr} {ce : Nat} (h : nodeOk mem i = true) (hb : Below w.heap.size w w') (hc : (G0.gZ (O0.recd mem i)).length ≤ c) (ho : J0.Own w.heap.size w' a (G0.gZ (O0.recd mem i))) (hce : (nodeE mem i).length ≤ ce) (hoe : V1.OwnE w.heap.size w' ae (nodeE mem i)) (hx : x = nodeD mem i) :
  Ans2 mem i w (.returned (.tuple #[nv (G0.gK (O0.recd mem i)) (G0.gO (O0.recd mem i)) t a (G0.gZ (O0.recd mem i)).length c x ae (nodeE mem i).length ce, .bool true])) w' :=
 ⟨_, _, t, a, _, c, x, ae, _, ce, by rw [h], hb, fun _ => ⟨rfl, rfl, rfl, hc, ho, rfl, hce, hoe, hx⟩⟩
theorem node_data (mem : ByteArray) (i : Int) : ((G0.gK (O0.recd mem i) != 2) = true → nodeD mem i = data mem i) ∧ ((G0.gK (O0.recd mem i) != 2) = false → nodeD mem i = ⟨#[]⟩) := by
 unfold nodeD
 refine ⟨fun h => if_neg (by simpa using h), fun h => if_pos (by simpa using h)⟩
set_option maxHeartbeats 4000000 in
theorem readNode2 (mem : ByteArray) (i : Int) (w : World) (hm : mem.size = 768) : Calls Tryz.prog 58 #[.string mem, .int .i64 i] w (Ans2 mem i w) := by
 have hms : mem.size ≤ 281474976710656 := by omega
 have hrs := O0.recd_size mem i hms
 have hpt : Hid (∀ W, Calls Tryz.prog 57 #[.string mem, .int .i64 (L1.recAt i), .int .i64 16] W fun e w' => e = .returned (.string (O0.recd mem i)) ∧ Below W.heap.size W w') := fun W => B2.impl_Part _ _ _ _ hms
 have hG : Hid (∀ W, Calls Tryz.prog 83 #[.string (O0.recd mem i)] W (G3.Ans (O0.recd mem i) W)) := fun W => G3.impl_GetInode _ W hrs
 have hA : Hid (∀ W e w', G3.Ans (O0.recd mem i) W e w' → ∃ a c, e = .returned (.tuple #[I0.val (G0.gK (O0.recd mem i)) (G0.gO (O0.recd mem i)) (G0.gS (O0.recd mem i)) a (G0.gZ (O0.recd mem i)).length c, .bool (G0.isI (O0.recd mem i))]) ∧ J0.Own W.heap.size w' a (G0.gZ (O0.recd mem i)) ∧ (G0.gZ (O0.recd mem i)).length ≤ c ∧ Below W.heap.size W w') := fun W e w' h => h
 have hgot := fun h => O0.got (s := O0.recd mem i) h
 have HN : Hid (∀ k o t a n c x ae ne ce w', nodeOk mem i = false → Below w.heap.size w w' → Ans2 mem i w (.returned (.tuple #[nv k o t a n c x ae ne ce, .bool false])) w') := fun k o t a n c x ae ne ce w' h hb => ans2_no h hb
 have HY : Hid (∀ t a c x ae ce w', nodeOk mem i = true → Below w.heap.size w w' → (G0.gZ (O0.recd mem i)).length ≤ c → J0.Own w.heap.size w' a (G0.gZ (O0.recd mem i)) → (nodeE mem i).length ≤ ce → V1.OwnE w.heap.size w' ae (nodeE mem i) → x = nodeD mem i → Ans2 mem i w (.returned (.tuple #[nv (G0.gK (O0.recd mem i)) (G0.gO (O0.recd mem i)) t a (G0.gZ (O0.recd mem i)).length c x ae (nodeE mem i).length ce, .bool true])) w') := fun t a c x ae ce w' h hb hc ho hce hoe hx => ans2_yes h hb hc ho hce hoe hx
 have hcase := node_cases mem i
 obtain ⟨hdA, hdB⟩ := node_data mem i
 have hdat : data mem i = (O0.joined mem (G0.gZ (O0.recd mem i)) (G0.gZ (O0.recd mem i)).length).extract 0 (G0.gS (O0.recd mem i)).toNat := rfl
 obtain ⟨R, hR⟩ : ∃ R, Ans2 mem i w = R := ⟨_, rfl⟩
 rw [hR] at HN HY ⊢
 obtain ⟨Q, hQ⟩ : ∃ Q, O0.recd mem i = Q := ⟨_, rfl⟩
 rw [hQ] at hpt hG hA hgot HY hcase hdat hdA hdB
 obtain ⟨D, hD⟩ : ∃ D, data mem i = D := ⟨_, rfl⟩
 rw [hD] at hcase hdat hdA
 obtain ⟨K, hK⟩ : ∃ K, G0.gK Q = K := ⟨_, rfl⟩
 obtain ⟨O, hO⟩ : ∃ O, G0.gO Q = O := ⟨_, rfl⟩
 obtain ⟨S, hS⟩ : ∃ S, G0.gS Q = S := ⟨_, rfl⟩
 obtain ⟨Z, hZ⟩ : ∃ Z, G0.gZ Q = Z := ⟨_, rfl⟩
 rw [hK] at hcase hdA hdB
 rw [hK, hO, hZ] at HY
 rw [hK, hO, hS, hZ] at hA
 rw [hS, hZ] at hdat
 rw [hK, hS, hZ] at hgot
 have hgd : Hid (∀ W, Calls Tryz.prog 85 #[.string D] W (V1.Ans D W)) := fun W => V2.impl_GetDir _ _ (by rw [← hD]; exact data_le mem i hm)
 have HD : Hid (∀ W e w', V1.Ans D W e w' → ∃ a c, e = .returned (.tuple #[.slice a (V0.dE D).length c, .bool (V0.isD D)]) ∧ V1.OwnE W.heap.size w' a (V0.dE D) ∧ (V0.dE D).length ≤ c ∧ Below W.heap.size W w') := fun W e w' h => h
 clear hR hQ hK hO hS hZ hrs hD
 have HA : Hid ((K != 2) = true → nodeD mem i = D) := hdA
 have HBB : Hid ((K != 2) = false → nodeD mem i = ⟨#[]⟩) := hdB
 clear hdA hdB
 rcases hcase with ⟨gI, hp⟩ | ⟨gI, g2, hp, hE⟩ | ⟨gI, g2, hp, hE⟩
 ·rw [gI] at hA
  clear gI hgot hgd
  go_enter Tryz.func58, Tryz.ntmps58
  go_wp2_with (first
   | (go_at_call 32; refine (L1.impl_RecAt _ _).mono ?_; rintro e wq ⟨rfl, rfl⟩)
   | (go_at_call 57; refine (hpt.out _).mono ?_; rintro e w1 ⟨rfl, b1⟩)
   | (go_at_call 83; refine (hG.out _).mono ?_; intro e w2 hans; obtain ⟨a, c, rfl, ho, hc, b2⟩ := hA.out _ _ _ hans; clear hans; have p2 := nd_new (k := K) (o := O) (t := S) (a := a) (n := Z.length) (c := c) (b1.trans (b2.mono b1.size)); have y0 := p2.nb.c0; have y1 := p2.nb.c1; have y2 := p2.nb.c2; have y3 := p2.nb.c3; obtain ⟨i0, i1, i2, i3, i4, i5⟩ := cells6 p2.res; obtain ⟨j0, j1, j2, j3, j4, j5⟩ := free6 p2.res))
  have q := put6 p2.res (.int .i64 0) (.int .i64 0) (.int .i64 0) (.slice none 0 0) (.string ⟨#[]⟩) (.slice none 0 0)
  obtain ⟨u0, u1, u2, u3, u4, u5⟩ := cells6 q
  exact bodyPost_ret (v := .tuple #[nv 0 0 0 none 0 0 ⟨#[]⟩ none 0 0, .bool false]) (by simp [results, Tryz.results58, go_sem, u0, u1, u2, u3, u4, u5]) rfl (HN.out _ _ _ _ _ _ _ _ _ _ _ hp (bel6 p2.bel (Nat.le_refl _) (.int .i64 0) (.int .i64 0) (.int .i64 0) (.slice none 0 0) (.string ⟨#[]⟩) (.slice none 0 0)))
 ·obtain ⟨⟨s0, s1⟩, zl, s2, hpk, -⟩ := hgot gI
  rw [gI] at hA
  rw [hE] at HY
  clear gI hgot hgd hE
  have hds : Hid (∀ W c a, P0.Row W a Z → Calls Tryz.prog 84 #[.string mem, I0.val K O S a Z.length c] W fun e w' => e = .returned (.string D) ∧ Below W.heap.size W w') := fun W c a h => by rw [hdat]; exact O1.dataOf mem K O S a c Z W hm hpk zl s0 s2 h
  clear hdat
  go_enter Tryz.func58, Tryz.ntmps58
  go_wp2_with (first
   | (go_at_call 32; refine (L1.impl_RecAt _ _).mono ?_; rintro e wq ⟨rfl, rfl⟩)
   | (go_at_call 57; refine (hpt.out _).mono ?_; rintro e w1 ⟨rfl, b1⟩)
   | (go_at_call 83; refine (hG.out _).mono ?_; intro e w2 hans; obtain ⟨a, c, rfl, ho, hc, b2⟩ := hA.out _ _ _ hans; clear hans; have p2 := nd_new (k := K) (o := O) (t := S) (a := a) (n := Z.length) (c := c) (b1.trans (b2.mono b1.size)); have y0 := p2.nb.c0; have y1 := p2.nb.c1; have y2 := p2.nb.c2; have y3 := p2.nb.c3; have r2 := ho.row.alloc (.cells #[.int .i64 K, .int .i64 O, .int .i64 S, .slice a Z.length c] 50)))
  have bd : Below (w2.alloc (.cells #[.int .i64 K, .int .i64 O, .int .i64 S, .slice a Z.length c] 50)).heap.size (w2.alloc (.cells #[.int .i64 K, .int .i64 O, .int .i64 S, .slice a Z.length c] 50)) (w2.alloc (.cells #[.int .i64 K, .int .i64 O, .int .i64 S, .slice a Z.length c] 50)).drew := (Below.refl _ _).drew
  have p3 := p2.below bd
  have r3 := r2.below bd
  have o3 := (ho.alloc (.cells #[.int .i64 K, .int .i64 O, .int .i64 S, .slice a Z.length c] 50)).below bd
  have hbz := b1.size
  clear bd
  go_region_with ((go_at_call 84; refine (hds.out _ _ _ r3).mono ?_; rintro e w4 ⟨rfl, b4⟩; have p4 := p3.below b4; have o4 := o3.below b4; have z0 := p4.nb.c0; have z1 := p4.nb.c1; have z2 := p4.nb.c2; have z3 := p4.nb.c3; obtain ⟨i0, i1, i2, i3, i4, i5⟩ := cells6 p4.res; obtain ⟨j0, j1, j2, j3, j4, j5⟩ := free6 p4.res))
  all_goals
   have q := put6 p4.res (.int .i64 K) (.int .i64 O) (.int .i64 S) (.slice a Z.length c) (.string D) (.slice none 0 0)
   obtain ⟨u0, u1, u2, u3, u4, u5⟩ := cells6 q
   go_wp2
   refine bodyPost_ret (v := .tuple #[nv K O S a Z.length c D none 0 0, .bool true]) (by simp [results, Tryz.results58, go_sem, u0, u1, u2, u3, u4, u5]) rfl (HY.out _ _ _ _ _ _ _ hp (bel6 p4.bel (Nat.le_refl _) _ _ _ _ _ _) hc ?_ (Nat.le_refl _) (Or.inl rfl) (HA.out g2).symm)
   exact (own6 o4 (by simp at hbz; omega) _ _ _ _ _ _).mono (by simp at hbz; omega)
 ·obtain ⟨⟨s0, s1⟩, zl, s2, hpk, -⟩ := hgot gI
  rw [gI] at hA
  rw [hE] at HY
  have HP : Hid (nodeOk mem i = V0.isD D) := hp
  clear gI hgot hE hp
  have hds : Hid (∀ W c a, P0.Row W a Z → Calls Tryz.prog 84 #[.string mem, I0.val K O S a Z.length c] W fun e w' => e = .returned (.string D) ∧ Below W.heap.size W w') := fun W c a h => by rw [hdat]; exact O1.dataOf mem K O S a c Z W hm hpk zl s0 s2 h
  clear hdat
  go_enter Tryz.func58, Tryz.ntmps58
  go_wp2_with (first
   | (go_at_call 32; refine (L1.impl_RecAt _ _).mono ?_; rintro e wq ⟨rfl, rfl⟩)
   | (go_at_call 57; refine (hpt.out _).mono ?_; rintro e w1 ⟨rfl, b1⟩)
   | (go_at_call 83; refine (hG.out _).mono ?_; intro e w2 hans; obtain ⟨a, c, rfl, ho, hc, b2⟩ := hA.out _ _ _ hans; clear hans; have p2 := nd_new (k := K) (o := O) (t := S) (a := a) (n := Z.length) (c := c) (b1.trans (b2.mono b1.size)); have y0 := p2.nb.c0; have y1 := p2.nb.c1; have y2 := p2.nb.c2; have y3 := p2.nb.c3; have r2 := ho.row.alloc (.cells #[.int .i64 K, .int .i64 O, .int .i64 S, .slice a Z.length c] 50); have o2 := ho.alloc (.cells #[.int .i64 K, .int .i64 O, .int .i64 S, .slice a Z.length c] 50))
   | (go_at_call 84; refine (hds.out _ _ _ r2).mono ?_; rintro e w3 ⟨rfl, b3⟩; have p3 := p2.below b3; have o3 := o2.below b3)
   | (go_at_call 85; refine (hgd.out _).mono ?_; intro e w4 hans; obtain ⟨ae, ce, rfl, hoe, hce, b4⟩ := HD.out _ _ _ hans; clear hans; have p4 := p3.below b4; have o4 := o3.below b4; have z0 := p4.nb.c0; have z1 := p4.nb.c1; have z2 := p4.nb.c2; have z3 := p4.nb.c3; obtain ⟨i0, i1, i2, i3, i4, i5⟩ := cells6 p4.res; obtain ⟨j0, j1, j2, j3, j4, j5⟩ := free6 p4.res))
  have q := put6 p4.res (.int .i64 K) (.int .i64 O) (.int .i64 S) (.slice a Z.length c) (.string ⟨#[]⟩) (.slice ae (V0.dE D).length ce)
  obtain ⟨u0, u1, u2, u3, u4, u5⟩ := cells6 q
  have hbl := bel6 p4.bel (Nat.le_refl _) (.int .i64 K) (.int .i64 O) (.int .i64 S) (.slice a Z.length c) (.string ⟨#[]⟩) (.slice ae (V0.dE D).length ce)
  have hbz := b1.size
  have hp3 := p3.res.lt
  refine bodyPost_ret (v := .tuple #[nv K O S a Z.length c ⟨#[]⟩ ae (V0.dE D).length ce, .bool (V0.isD D)]) (by simp [results, Tryz.results58, go_sem, u0, u1, u2, u3, u4, u5]) rfl ?_
  cases hI : V0.isD D with
  | false => exact HN.out _ _ _ _ _ _ _ _ _ _ _ (HP.out.trans hI) hbl
  | true =>
   refine HY.out _ _ _ _ _ _ _ (HP.out.trans hI) hbl hc ?_ hce ?_ (HBB.out g2).symm
   ·exact (own6 o4 (by simp at hbz; omega) _ _ _ _ _ _).mono (by simp at hbz; omega)
   ·exact (ownE6 hoe hp3 _ _ _ _ _ _).mono (Nat.le_of_lt hp3)
end Go.Proofs.YtpkmeknniajahaaGreatDoor.D1
namespace Go.Proofs.YtpkmeknniajahaaGreatDoor.F4
open Go.ChangeShapes Go.WideShapes Go.ChangeAt Go.RowKit
open I0 (val vals)
theorem laid_size (s : ByteArray) (i : Int) (t : ByteArray) : (B5.laid s i t).size = s.size := by
 unfold B5.laid
 split
 ·rename_i h
  obtain ⟨h0, h1, h2⟩ := B2.lies_true h
  rw [ByteArray.size_append, ByteArray.size_append, ByteArray.size_extract, ByteArray.size_extract]
  omega
 ·rfl
def head : ByteArray := ⟨#[84, 78, 82, 49]⟩
def page0 : ByteArray := B5.laid (B4.zeros 768) 0 head
def img (o : Int) : ByteArray := B5.laid page0 (L1.recAt 0) (R0.putI 2 o 0 [])
def fmt (o : Int) : ByteArray := if I0.ok 2 o 0 [] then img o else ⟨#[]⟩
theorem zeros_le : (B4.zeros 768).size ≤ 281474976710656 := by
 rw [B4.zeros, if_pos (by decide), B4.nulls_size]
 decide
theorem head_le : head.size ≤ 281474976710656 := show 4 ≤ 281474976710656 by omega
theorem is_head {t : ByteArray} (ht : t.data.toList.map UInt8.toNat = [84, 78, 82, 49]) : t = head := by
 apply ByteArray.ext
 apply Array.toList_inj.1
 exact (List.map_inj_right (fun _ _ h => UInt8.toNat.inj h)).1 (ht.trans rfl)
theorem page0_le : page0.size ≤ 281474976710656 := by rw [page0, laid_size]; exact zeros_le
theorem putI_le (o : Int) : (R0.putI 2 o 0 []).size ≤ 281474976710656 := Nat.le_trans (R0.putI_size _ _ _ _) (by decide)
structure Fm (w : World) (o : Int) (W : World) : Prop where
 blk : K0.Blk w.heap.size (vals 2 o 0 none 0 0) W
 bel : Below w.heap.size w W
theorem Fm.below {w W W' : World} {o : Int} (h : Fm w o W) (hb : Below W.heap.size W W') : Fm w o W' := ⟨h.blk.below hb, h.bel.trans (hb.mono h.bel.size)⟩
theorem Fm.drewN {w W : World} {o : Int} (h : Fm w o W) (n : Nat) : Fm w o (W.drewN n) := ⟨h.blk.drewN n, K0.below_drewN h.bel n⟩
theorem Fm.four {w W : World} {o : Int} (h : Fm w o W) : W.cell? ⟨w.heap.size, 0, none⟩ = some (.int .i64 2) ∧ W.cell? ⟨w.heap.size, 1, none⟩ = some (.int .i64 o) ∧ W.cell? ⟨w.heap.size, 2, none⟩ = some (.int .i64 0) ∧ W.cell? ⟨w.heap.size, 3, none⟩ = some (.slice none 0 0) := ⟨h.blk.c0, h.blk.c1, h.blk.c2, h.blk.c3⟩
section
variable {w W : World} {o : Int}
theorem cOk {r : Bool} (hr : I0.ok 2 o 0 [] = r) (h : Fm w o W) : Calls Tryz.prog 38 #[val 2 o 0 none 0 0] W fun e w' => e = .returned (.bool r) ∧ Fm w o w' :=
 (I1.spec_InodeOk 2 o 0 none 0 [] W (by simp) (by simp) (Or.inl rfl)).mono fun _ _ ⟨he, hb⟩ => ⟨by rw [he, hr], h.below hb⟩
theorem cPut {p : ByteArray} (hp : R0.putI 2 o 0 [] = p) (h : Fm w o W) : Calls Tryz.prog 42 #[val 2 o 0 none 0 0] W fun e w' => e = .returned (.string p) ∧ Fm w o w' :=
 (R2.spec_PutInode 2 o 0 none 0 [] W (by simp) (by simp) (Or.inl rfl)).mono fun _ _ ⟨he, hb⟩ => ⟨by rw [he, hp]; done, h.below hb⟩
theorem cZeros {z : ByteArray} (hz : B4.zeros 768 = z) (h : Fm w o W) : Calls Tryz.prog 40 #[.int .i64 768] W fun e w' => e = .returned (.string z) ∧ Fm w o w' :=
 (B4.spec_Zeros 768 W).mono fun _ _ ⟨he, hb⟩ => ⟨by rw [he, hz], by rw [hb]; exact h⟩
theorem cRec {x : Int} (hx : L1.recAt 0 = x) (h : Fm w o W) : Calls Tryz.prog 41 #[.int .i64 0] W fun e w' => e = .returned (.int .i64 x) ∧ Fm w o w' :=
 (L1.spec_RecAt 0 W).mono fun _ _ ⟨he, hb⟩ => ⟨by rw [he, hx], by rw [hb]; exact h⟩
theorem cHead {z t g : ByteArray} (ht : t.data.toList.map UInt8.toNat = [84, 78, 82, 49]) (hs : z.size ≤ 281474976710656) (hu : B5.laid z 0 head = g) (h : Fm w o W) : Calls Tryz.prog 39 #[.string z, .int .i64 0, .string t] W fun e w' => e = .returned (.string g) ∧ Fm w o w' := by
 obtain rfl := is_head ht
 exact (B5.spec_With z 0 head W hs head_le).mono fun _ _ ⟨he, n, hb⟩ => ⟨by rw [he, hu], by rw [hb]; exact h.drewN n⟩
theorem iHead {z t g : ByteArray} (ht : t.data.toList.map UInt8.toNat = [84, 78, 82, 49]) (hs : z.size ≤ 281474976710656) (hu : B5.laid z 0 head = g) (h : Below w.heap.size w W) : Calls Tryz.prog 30 #[.string z, .int .i64 0, .string t] W fun e w' => e = .returned (.string g) ∧ Below w.heap.size w w' := by
 obtain rfl := is_head ht
 exact (B5.impl_With z 0 head W hs head_le).mono fun _ _ ⟨he, hb⟩ => ⟨by rw [he, hu], h.trans (hb.mono h.size)⟩
theorem cWith {s t u : ByteArray} {i : Int} (hs : s.size ≤ 281474976710656) (ht : t.size ≤ 281474976710656) (hu : B5.laid s i t = u) (h : Fm w o W) : Calls Tryz.prog 39 #[.string s, .int .i64 i, .string t] W fun e w' => e = .returned (.string u) ∧ Fm w o w' :=
 (B5.spec_With s i t W hs ht).mono fun _ _ ⟨he, n, hb⟩ => ⟨by rw [he, hu], by rw [hb]; exact h.drewN n⟩
end
end Go.Proofs.YtpkmeknniajahaaGreatDoor.F4
namespace Go.Proofs.YtpkmeknniajahaaGreatDoor.TW
open Go.ChangeShapes Go.WideShapes Go.ChangeAt Go.RowKit
open Go.Sort (Holds putRow grow)
variable {B : Nat} {N : Nat → Nd} {F : Nat → Nat} {P : Nat → ByteArray} {w W W' : World} {Z : Nat → List Int}
open J0 (IBuf Own)
open I2 (ints)
theorem cloneBlk (g c : Nat) (zs : List Int) (w : World) (hl : zs.length ≤ 1048576) (h : K0.Blk g (ints zs) w) :
  Calls Tryz.prog 87 #[.slice (some ⟨g, 0, none⟩) zs.length c] w fun e w' => ∃ g' c', e = .returned (.slice (some ⟨g', 0, none⟩) zs.length c') ∧ zs.length ≤ c' ∧ w.heap.size ≤ g' ∧ K0.Blk g' (ints zs) w' ∧ Below w.heap.size w w' := by
 have key : ∀ v' w', w'.ownsRow w.heap.size 3 1 v' zs.length (ints zs) → v' ≠ .slice none 0 0 → ∃ g' c', v' = .slice (some ⟨g', 0, none⟩) zs.length c' ∧ zs.length ≤ c' ∧ w.heap.size ≤ g' ∧ K0.Blk g' (ints zs) w' := by
  intro v' w' ho hne
  rcases ho.2 with ⟨h1, _⟩ | ⟨g', cap', cur, rfl, hb, hg, hnc, hcm, hcs, ht⟩
  ·exact absurd h1 hne
  ·refine ⟨g', cap', rfl, hnc, hb, ?_⟩
   have hi : IBuf w.heap.size w' (some ⟨g', 0, none⟩) zs.length cap' zs := ⟨rfl, ho⟩
   rcases hi.own with h0 | ⟨g2, e, _, hk⟩
   ·rw [h0]
    exact ⟨fun j hj => by simp at hj, fun j hj => by simp at hj, (Array.getElem?_eq_some_iff.1 hg).1⟩
   ·cases e
    exact hk
 refine (Tryz.slices_Clone_int g 0 zs.length c zs w (Nat.le_refl _) (by omega) (fun j hj => ?_)).mono fun e w' ⟨v', he, ho, hne, hb⟩ => ?_
 ·have := h.cell j (by simpa using hj)
  rw [Nat.zero_add, this]
  simp [hj]
 ·rw [List.take_length] at ho
  obtain ⟨g', c', rfl, h1, h2, h3⟩ := key v' w' (by simpa using ho) hne
  exact ⟨g', c', he, h1, h2, h3, hb⟩
set_option maxHeartbeats 1000000 in
theorem pagesApart (w : World) (hT : Tb B N F P w) (hZ : Ps N Z w) :
  Calls Tryz.prog 59 #[.pointer (some ⟨B, 0, none⟩)] w fun e w' => e = .returned (.bool (decide (cat Z 8).Nodup)) ∧ Below w.heap.size w w' := by
 have hlen := cat_len hZ.few 8
 have hp := pages w hT hZ
 obtain ⟨zs, hzs⟩ : ∃ zs, cat Z 8 = zs := ⟨_, rfl⟩
 rw [hzs] at hp hlen ⊢
 have hsl := srt_length zs
 have hcl : Hid (∀ g c W, K0.Blk g (ints (srt zs)) W → Calls Tryz.prog 87 #[.slice (some ⟨g, 0, none⟩) zs.length c] W fun e w' => ∃ g' c', e = .returned (.slice (some ⟨g', 0, none⟩) zs.length c') ∧ zs.length ≤ c' ∧ W.heap.size ≤ g' ∧ K0.Blk g' (ints (srt zs)) w' ∧ Below W.heap.size W w') := fun g c W h => by
  have := cloneBlk g c (srt zs) W (by omega) h
  rw [hsl] at this
  exact this
 have hcm : Hid (∀ g c W, zs.length ≤ c → K0.Blk g (ints (srt zs)) W → Calls Tryz.prog 86 #[.slice (some ⟨g, 0, none⟩) zs.length c] W fun e w' => e = .returned (.slice (some ⟨g, 0, none⟩) (Lib.compact (srt zs)).length c) ∧ ∀ b, b ≤ g → b ≤ W.heap.size → Below b W w') := fun g c W hc h => by
  have := Tryz.slices_Compact_int g 0 c (srt zs) W (holds_of h) (by omega) (by omega)
  rw [hsl] at this
  refine this.mono fun e w' ⟨he, q, hw⟩ => ⟨he, fun b hb hs => ?_⟩
  subst hw
  refine ⟨rfl, rfl, rfl, ?_, fun k hk => ?_⟩
  ·rw [Go.Sort.size_putRow]
   exact Nat.le_refl _
  ·show (W.heap.modify g _)[k]? = W.heap[k]?
   rw [Array.getElem?_modify, if_neg (by omega)]
 have hfin : (((Lib.compact (srt zs)).length : Int) == (zs.length : Int)) = decide zs.Nodup := by
  have := apart_iff zs
  by_cases h : zs.Nodup
  ·rw [decide_eq_true h]
   have := this.2 h
   simp
   omega
  ·rw [decide_eq_false h]
   have : ¬ (Lib.compact (srt zs)).length = zs.length := fun e => h (this.1 e)
   simp
   omega
 obtain ⟨L, hL⟩ : ∃ L, (Lib.compact (srt zs)).length = L := ⟨_, rfl⟩
 rw [hL] at hcm hfin
 obtain ⟨r, hr⟩ : ∃ r, decide zs.Nodup = r := ⟨_, rfl⟩
 rw [hr] at hfin ⊢
 clear hT hZ hL hr hzs
 go_enter Tryz.func59, Tryz.ntmps59
 go_wp2_with (first
  | (go_at_call 27; refine hp.mono ?_; rintro e w1 ⟨g1, c1, rfl, hc1, hg1, k1, b1⟩)
  | (go_at_call 87; refine (hcl.out _ _ _ k1).mono ?_; rintro e w2 ⟨g2, c2, rfl, hc2, hg2, k2, b2⟩)
  | (go_at_call 86; refine (hcm.out _ _ _ hc2 k2).mono ?_; rintro e w3 ⟨rfl, b3⟩))
 go_ret
 exact ⟨rfl, (b1.trans (b2.mono b1.size)).trans (b3 _ (Nat.le_trans b1.size hg2) (Nat.le_trans b1.size b2.size))⟩
end Go.Proofs.YtpkmeknniajahaaGreatDoor.TW
namespace Go.Proofs.YtpkmeknniajahaaGreatDoor.TW
open Go.ChangeShapes Go.WideShapes Go.ChangeAt Go.RowKit
variable {B : Nat} {N : Nat → Nd} {F : Nat → Nat} {P : Nat → ByteArray} {w W W' : World} {Z : Nat → List Int} {mem : ByteArray}
def zeroN : Nd := ⟨0, 0, 0, none, 0, 0, ⟨#[]⟩, none, 0, 0⟩
def zcells : List Value := nds (fun _ => zeroN) 8 ++ List.replicate 8 (.int .i64 0) ++ List.replicate 8 (.string ⟨#[]⟩)
theorem rep_get {α : Type} (v : α) (n i : Nat) (h : i < n) : (List.replicate n v)[i]? = some v := by rw [List.getElem?_replicate, if_pos h]
theorem zeroTree : (Tryz.prog.info? 83).map (fun i => (i.zero, i.size)) = some (some (.agg zcells.toArray), 64) := by kernel_rfl
theorem zlen : zcells.length = 64 := by simp [zcells, nds_length]
theorem tb_new (w : World) : Tb w.heap.size (fun _ => zeroN) (fun _ => 0) (fun _ => ⟨#[]⟩) (w.alloc (.cells zcells.toArray 83)) := by
 have hb := K0.blk_new zcells w 83
 have hl := zlen
 refine ⟨fun i hi j hj => ?_, fun i hi => ?_, fun i hi => ?_, fun j hj => hb.free j (by omega), hb.lt⟩
 ·have hj' : j < 6 := hj
  rw [hb.cell (i * 6 + j) (by omega)]
  have h1 : (nds (fun _ => zeroN) 8).length = 48 := nds_length _ 8
  have := nds_at (fun _ => zeroN) i j hi hj'
  have e : zcells[i * 6 + j]? = zeroN.vals[j]? := by
   unfold zcells
   rw [List.append_assoc, List.getElem?_append_left (by omega)]
   exact this
  rw [List.getElem?_eq_getElem (by omega), List.getElem?_eq_getElem hj] at e
  exact e
 ·rw [hb.cell (48 + i) (by omega)]
  have h1 : (nds (fun _ => zeroN) 8).length = 48 := nds_length _ 8
  have e : zcells[48 + i]? = some (.int .i64 0) := by
   unfold zcells
   rw [List.append_assoc, List.getElem?_append_right (by omega), h1, List.getElem?_append_left (by rw [List.length_replicate]; omega), show 48 + i - 48 = i by omega]
   exact rep_get _ 8 i hi
  rw [List.getElem?_eq_getElem (by omega)] at e
  exact e
 ·rw [hb.cell (56 + i) (by omega)]
  have h1 : (nds (fun _ => zeroN) 8).length = 48 := nds_length _ 8
  have e : zcells[56 + i]? = some (.string ⟨#[]⟩) := by
   unfold zcells
   rw [List.getElem?_append_right (by rw [List.length_append, h1, List.length_replicate]; omega), List.length_append, h1, List.length_replicate, show 56 + i - (48 + 8) = i by omega]
   exact rep_get _ 8 i hi
  rw [List.getElem?_eq_getElem (by omega)] at e
  exact e
abbrev putN (W : World) (B i : Nat) (d : Nd) : World := ((((((W.setCell ⟨B, i * 6, none⟩ (.int .i64 d.k)).setCell ⟨B, i * 6 + 1, none⟩ (.int .i64 d.o)).setCell ⟨B, i * 6 + 2, none⟩ (.int .i64 d.s)).setCell ⟨B, i * 6 + 3, none⟩ (.slice d.a d.n d.c)).setCell ⟨B, i * 6 + 4, none⟩ (.string d.x)).setCell ⟨B, i * 6 + 5, none⟩ (.slice d.ae d.ne d.ce))
def upN (N : Nat → Nd) (i : Nat) (d : Nd) : Nat → Nd := fun y => if y = i then d else N y
theorem putN_cell (h : ∀ j, j < 64 → ∃ v, W.cell? ⟨B, j, none⟩ = some v) {i : Nat} (hi : i < 8) (d : Nd) (j : Nat) (hj : j < 64) :
  (putN W B i d).cell? ⟨B, j, none⟩ = if i * 6 ≤ j ∧ j < i * 6 + 6 then d.vals[j - i * 6]? else W.cell? ⟨B, j, none⟩ := by
 have hs : ∀ (W : World) (k : Nat) (v : Value) (m : Nat), (∃ u, W.cell? ⟨B, m, none⟩ = some u) → (W.setCell ⟨B, k, none⟩ v).cell? ⟨B, m, none⟩ = if k = m then some v else W.cell? ⟨B, m, none⟩ := by
  intro W k v m ⟨u, hu⟩
  by_cases e : k = m
  ·subst e
   rw [if_pos rfl, World.cell?_setCell_same _ _ _ hu]
  ·rw [if_neg e, cell_far e]
 have hx : ∀ (W : World) (k : Nat) (v : Value) (m : Nat), (∃ u, W.cell? ⟨B, m, none⟩ = some u) → ∃ u, (W.setCell ⟨B, k, none⟩ v).cell? ⟨B, m, none⟩ = some u := by
  intro W k v m hu
  rw [hs W k v m hu]
  split
  ·exact ⟨_, rfl⟩
  ·exact hu
 have h0 := h j hj
 have h1 := hx W (i * 6) (.int .i64 d.k) j h0
 have h2 := hx _ (i * 6 + 1) (.int .i64 d.o) j h1
 have h3 := hx _ (i * 6 + 2) (.int .i64 d.s) j h2
 have h4 := hx _ (i * 6 + 3) (.slice d.a d.n d.c) j h3
 have h5 := hx _ (i * 6 + 4) (.string d.x) j h4
 unfold putN
 rw [hs _ _ _ _ h5, hs _ _ _ _ h4, hs _ _ _ _ h3, hs _ _ _ _ h2, hs _ _ _ _ h1, hs _ _ _ _ h0]
 by_cases hc : i * 6 ≤ j ∧ j < i * 6 + 6
 ·rw [if_pos hc]
  obtain ⟨m, rfl⟩ : ∃ m, j = i * 6 + m := ⟨j - i * 6, by omega⟩
  have hm : m < 6 := by omega
  rw [show i * 6 + m - i * 6 = m by omega]
  rcases m with _ | _ | _ | _ | _ | _ | m
  ·simp [Nd.vals]
  ·simp [Nd.vals]
  ·simp [Nd.vals]
  ·simp [Nd.vals]
  ·simp [Nd.vals]
  ·simp [Nd.vals]
  ·omega
 ·rw [if_neg hc, if_neg (by omega), if_neg (by omega), if_neg (by omega), if_neg (by omega), if_neg (by omega), if_neg (by omega)]
theorem Tb.any (h : Tb B N F P W) (j : Nat) (hj : j < 64) : ∃ v, W.cell? ⟨B, j, none⟩ = some v := by
 by_cases h1 : j < 48
 ·have e : j = j / 6 * 6 + j % 6 := by omega
  rw [e]
  exact ⟨_, h.node (j / 6) (by omega) (j % 6) (by rw [Nd.vals_length]; omega)⟩
 ·by_cases h2 : j < 56
  ·have := h.fnd (j - 48) (by omega)
   rw [show 48 + (j - 48) = j by omega] at this
   exact ⟨_, this⟩
  ·have := h.pth (j - 56) (by omega)
   rw [show 56 + (j - 56) = j by omega] at this
   exact ⟨_, this⟩
theorem Tb.putN (h : Tb B N F P W) {i : Nat} (hi : i < 8) (d : Nd) : Tb B (upN N i d) F P (TW.putN W B i d) := by
 have hc := putN_cell h.any hi d
 refine ⟨fun k hk j hj => ?_, fun k hk => ?_, fun k hk => ?_, fun j hj => ?_, ?_⟩
 ·have hj' : j < 6 := hj
  rw [hc (k * 6 + j) (by omega)]
  by_cases e : k = i
  ·subst e
   rw [if_pos (by omega), show k * 6 + j - k * 6 = j by omega]
   simp only [upN, if_pos rfl] at hj ⊢
   exact List.getElem?_eq_getElem hj
  ·rw [if_neg (by omega)]
   simp only [upN, if_neg e] at hj ⊢
   exact h.node k hk j hj
 ·rw [hc (48 + k) (by omega), if_neg (by omega)]
  exact h.fnd k hk
 ·rw [hc (56 + k) (by omega), if_neg (by omega)]
  exact h.pth k hk
 ·rw [World.frozen?_setCell, World.frozen?_setCell, World.frozen?_setCell, World.frozen?_setCell, World.frozen?_setCell, World.frozen?_setCell]
  exact h.free j hj
 ·have := h.lt
  simpa [World.setCell] using this
end Go.Proofs.YtpkmeknniajahaaGreatDoor.TW
namespace Go.Proofs.YtpkmeknniajahaaGreatDoor.TW
open Go.ChangeShapes Go.WideShapes Go.ChangeAt Go.RowKit
variable {B : Nat} {N : Nat → Nd} {F : Nat → Nat} {P : Nat → ByteArray} {w W W' : World} {mem : ByteArray}
def tK (mem : ByteArray) (i : Nat) : Int := G0.gK (O0.recd mem (i : Int))
def tZ (mem : ByteArray) (i : Nat) : List Int := G0.gZ (O0.recd mem (i : Int))
def tE (mem : ByteArray) (i : Nat) : List T0.Ent := D1.nodeE mem (i : Int)
def hd : ByteArray := ⟨#[84, 78, 82, 49]⟩ ++ B4.zeros 28
theorem hd_laid : B5.laid (B4.zeros 32) 0 ⟨#[84, 78, 82, 49]⟩ = hd := by decide +kernel
def headOk (mem : ByteArray) : Bool := (B2.part mem 0 32).toList == hd.toList
def nodesOk (mem : ByteArray) : Bool := N0.to (fun i => D1.nodeOk mem (i : Int)) 8
def sound (mem : ByteArray) : Bool := decide (mem.size = 768) && (headOk mem && (nodesOk mem && ((tK mem 0 == 2) && (decide (cat (tZ mem) 8).Nodup && TR.treeOk (tE mem) (tK mem)))))
theorem recd_far (mem : ByteArray) (i : Nat) (h : 8 ≤ i) : O0.recd mem (i : Int) = ⟨#[]⟩ := by
 unfold O0.recd L1.recAt B2.part
 have h1 : B1.inB (i : Int) 0 7 = false := by simp [B1.inB]; omega
 have h2 : B2.lies mem.size (-1) 16 = false := by simp [B2.lies]
 have h3 : (if B1.inB (i : Int) 0 7 = true then 32 + (i : Int) * 16 else -1) = -1 := by rw [h1]; rfl
 rw [h3, h2]
 rfl
theorem isI_empty : G0.isI ⟨#[]⟩ = false := by decide +kernel
theorem tK_far (mem : ByteArray) (i : Nat) (h : 8 ≤ i) : tK mem i = 0 := by
 unfold tK
 rw [recd_far mem i h]
 exact (G0.g_no isI_empty).1
theorem nodeE_dir (mem : ByteArray) (i : Int) (h : D1.nodeE mem i ≠ []) : G0.gK (O0.recd mem i) = 2 ∧ V0.isD (D1.data mem i) = true ∧ D1.nodeE mem i = V0.ents (D1.data mem i) ((D1.data mem i).size / 16) := by
 unfold D1.nodeE at h ⊢
 by_cases h2 : G0.gK (O0.recd mem i) = 2
 ·rw [if_pos h2] at h ⊢
  unfold V0.dE at h ⊢
  cases hD : V0.isD (D1.data mem i) with
  | false => rw [hD] at h; exact absurd rfl h
  | true =>
   refine ⟨h2, rfl, ?_⟩
   rw [if_pos rfl, (V0.of_isD hD).2.2.1]
 ·rw [if_neg h2] at h
  exact absurd rfl h
theorem ent_ok (mem : ByteArray) (i : Int) (e : T0.Ent) (h : e ∈ D1.nodeE mem i) : (0 < e.1 ∧ e.1 < 8) ∧ e.2.size ≤ 14 := by
 obtain ⟨_, hD, hE⟩ := nodeE_dir mem i (List.ne_nil_of_mem h)
 have hd := (V0.of_isD hD).2.2.2.2
 rw [hE] at h
 simp only [T0.dirOk, Bool.and_eq_true, decide_eq_true_eq] at hd
 obtain ⟨k, hk, he⟩ := List.mem_iff_getElem.1 h
 have h1 := (T0.okAt_entry (T0.okUpto_at hd.2 hk)).1
 rw [T0.ent_get _ _ hk, he] at h1
 obtain ⟨h2, h3⟩ := E0.entryOk_true h1
 refine ⟨by omega, ?_⟩
 simp only [E0.nameOk, Bool.and_eq_true] at h2
 have := B1.inB_true h2.2.1
 omega
theorem few_ok (mem : ByteArray) (i : Int) : (D1.nodeE mem i).length ≤ 12 := by
 by_cases h : D1.nodeE mem i = []
 ·rw [h]
  decide
 ·obtain ⟨_, hD, hE⟩ := nodeE_dir mem i h
  have := (V0.of_isD hD).1
  rw [hE, V0.ents_length]
  omega
theorem sane_ok (mem : ByteArray) : TR.Sane (tE mem) (tK mem) := ⟨fun d h => (nodeE_dir mem d h).1, fun d e h => (ent_ok mem d e h).1⟩
theorem pg_few (mem : ByteArray) (i : Nat) : (tZ mem i).length ≤ 12 := by
 unfold tZ
 cases h : G0.isI (O0.recd mem (i : Int)) with
 | true => exact Nat.le_trans (O0.got h).2.1 (by decide)
 | false => rw [(G0.g_no h).2.2.2]; decide
structure NdOk (mem : ByteArray) (B : Nat) (i : Nat) (d : Nd) (W : World) : Prop where
 k : d.k = tK mem i
 o : d.o = G0.gO (O0.recd mem (i : Int))
 n : d.n = (tZ mem i).length
 c : d.n ≤ d.c
 row : J0.Own (B + 1) W d.a (tZ mem i)
 ne : d.ne = (tE mem i).length
 ce : d.ne ≤ d.ce
 ents : V1.OwnE (B + 1) W d.ae (tE mem i)
 x : d.x = D1.nodeD mem (i : Int)
theorem NdOk.below {i : Nat} {d : Nd} (h : NdOk mem B i d W) (hb : Below W.heap.size W W') : NdOk mem B i d W' := ⟨h.k, h.o, h.n, h.c, h.row.below hb, h.ne, h.ce, h.ents.below hb, h.x⟩
theorem NdOk.set {i : Nat} {d : Nd} (h : NdOk mem B i d W) (j : Nat) (v : Value) : NdOk mem B i d (W.setCell ⟨B, j, none⟩ v) := ⟨h.k, h.o, h.n, h.c, h.row.set (Nat.lt_succ_self B) j v, h.ne, h.ce, N5.ownE_set h.ents (Nat.lt_succ_self B) j v, h.x⟩
theorem NdOk.putN {i : Nat} {d : Nd} (h : NdOk mem B i d W) (j : Nat) (u : Nd) : NdOk mem B i d (TW.putN W B j u) := (((((h.set _ _).set _ _).set _ _).set _ _).set _ _).set _ _
theorem own_gr {a : Option Addr} {zs : List Int} (h : J0.Own (B + 1) w a zs) (hg : w.grownBy W (some B)) : J0.Own (B + 1) W a zs :=
 h.imp id fun ⟨g, e, hb, hk⟩ => ⟨g, e, hb, blk_gr hk hg (by omega)⟩
theorem ownE_gr {a : Option Addr} {es : List T0.Ent} (h : V1.OwnE (B + 1) w a es) (hg : w.grownBy W (some B)) : V1.OwnE (B + 1) W a es := by
 refine h.imp id fun ⟨g, e, hb, hk⟩ => ⟨g, e, hb, ?_⟩
 have hc : ∀ x, W.cell? ⟨g, x, none⟩ = w.cell? ⟨g, x, none⟩ := fun x => World.cell?_of_block (a := ⟨g, x, none⟩) (hg.block g hk.lt (by simp; omega))
 have hf : ∀ x, W.frozen? ⟨g, x, none⟩ = w.frozen? ⟨g, x, none⟩ := fun x => World.frozen?_of_block (a := ⟨g, x, none⟩) (hg.block g hk.lt (by simp; omega))
 exact ⟨fun j hj => by rw [hc, hc]; exact hk.done j hj, fun j hj => by rw [hc]; exact hk.there j hj, fun j hj => by rw [hf]; exact hk.free j hj, Nat.lt_of_lt_of_le hk.lt hg.size⟩
theorem NdOk.gr {i : Nat} {d : Nd} (h : NdOk mem B i d w) (hg : w.grownBy W (some B)) : NdOk mem B i d W := ⟨h.k, h.o, h.n, h.c, own_gr h.row hg, h.ne, h.ce, ownE_gr h.ents hg, h.x⟩
structure Rd (mem : ByteArray) (w : World) (k : Nat) (N : Nat → Nd) (W : World) : Prop where
 tb : Tb w.heap.size N (fun _ => 0) (fun _ => ⟨#[]⟩) W
 nd : ∀ i, i < k → NdOk mem w.heap.size i (N i) W
 far : ∀ i, k ≤ i → N i = zeroN
 bel : Below w.heap.size w W
theorem Rd.below {k : Nat} (h : Rd mem w k N W) (hb : Below W.heap.size W W') : Rd mem w k N W' := ⟨h.tb.below hb h.tb.lt, fun i hi => (h.nd i hi).below hb, h.far, h.bel.trans (hb.mono h.bel.size)⟩
theorem Rd.drew {k : Nat} (h : Rd mem w k N W) : Rd mem w k N W.drew := ⟨h.tb.drew, fun i hi => (h.nd i hi).below ((Below.refl _ _).drew), h.far, h.bel.drew⟩
theorem rd_new (mem : ByteArray) (w : World) : Rd mem w 0 (fun _ => zeroN) (w.alloc (.cells zcells.toArray 83)) := ⟨tb_new w, fun i hi => by omega, fun i _ => rfl, K0.below_new w _⟩
theorem Rd.step {k : Nat} {d : Nd} (h : Rd mem w k N W) (hk : k < 8) (hd : NdOk mem w.heap.size k d W) : Rd mem w (k + 1) (upN N k d) (TW.putN W w.heap.size k d) := by
 refine ⟨h.tb.putN hk d, fun i hi => ?_, fun i hi => ?_, ?_⟩
 ·by_cases e : i = k
  ·subst e
   simp only [upN, if_pos rfl]
   exact hd.putN i d
  ·simp only [upN, if_neg e]
   exact (h.nd i (by omega)).putN k d
 ·simp only [upN, if_neg (show ¬ i = k by omega)]
  exact h.far i (by omega)
 ·exact (((((h.bel.setCell (p := ⟨w.heap.size, k * 6, none⟩) (Nat.le_refl _) _).setCell (p := ⟨w.heap.size, k * 6 + 1, none⟩) (Nat.le_refl _) _).setCell (p := ⟨w.heap.size, k * 6 + 2, none⟩) (Nat.le_refl _) _).setCell (p := ⟨w.heap.size, k * 6 + 3, none⟩) (Nat.le_refl _) _).setCell (p := ⟨w.heap.size, k * 6 + 4, none⟩) (Nat.le_refl _) _).setCell (p := ⟨w.heap.size, k * 6 + 5, none⟩) (Nat.le_refl _) _
theorem Rd.kinds (h : Rd mem w 8 N W) : (fun i => (N i).k) = tK mem := by
 funext i
 by_cases hi : i < 8
 ·exact (h.nd i hi).k
 ·rw [h.far i (by omega), tK_far mem i (by omega)]
  rfl
theorem Rd.ns (h : Rd mem w 8 N W) : Ns w.heap.size N (tE mem) W :=
 ⟨fun i hi => (h.nd i hi).ne, fun i hi => (h.nd i hi).ents, by rw [h.kinds]; exact sane_ok mem, fun i => few_ok mem i, fun i e he => (ent_ok mem i e he).2⟩
theorem Rd.ps (h : Rd mem w 8 N W) : Ps N (tZ mem) W := ⟨fun i hi => (h.nd i hi).n, fun i hi => (h.nd i hi).row.row, pg_few mem⟩
structure Good (mem : ByteArray) (B : Nat) (N : Nat → Nd) (F : Nat → Nat) (P : Nat → ByteArray) (W : World) : Prop where
 tb : Tb B N F P W
 nd : ∀ i, i < 8 → NdOk mem B i (N i) W
 inv : TR.Inv (tE mem) (tK mem) [] F P
theorem Good.below (h : Good mem B N F P W) (hb : Below W.heap.size W W') : Good mem B N F P W' := ⟨h.tb.below hb h.tb.lt, fun i hi => (h.nd i hi).below hb, h.inv⟩
theorem Good.ps (h : Good mem B N F P W) : Ps N (tZ mem) W := ⟨fun i hi => (h.nd i hi).n, fun i hi => (h.nd i hi).row.row, pg_few mem⟩
def Ans (mem : ByteArray) (w : World) (e : Ending) (w' : World) : Prop :=
 ∃ p, e = .returned (.tuple #[.pointer p, .bool (sound mem)]) ∧ Below w.heap.size w w' ∧ (sound mem = true → ∃ B N F P, p = some ⟨B, 0, none⟩ ∧ w.heap.size ≤ B ∧ Good mem B N F P w')
theorem ans_no {mem : ByteArray} {w w' : World} {p : Option Addr} (h : sound mem = false) (hb : Below w.heap.size w w') : Ans mem w (.returned (.tuple #[.pointer p, .bool false])) w' :=
 ⟨p, by rw [h], hb, fun h' => by rw [h] at h'; cases h'⟩
theorem ans_yes {mem : ByteArray} {w w' : World} (h : sound mem = true) (hb : Below w.heap.size w w') (hB : w.heap.size ≤ B) (hg : Good mem B N F P w') : Ans mem w (.returned (.tuple #[.pointer (some ⟨B, 0, none⟩), .bool true])) w' :=
 ⟨_, by rw [h], hb, fun _ => ⟨B, N, F, P, rfl, hB, hg⟩⟩
end Go.Proofs.YtpkmeknniajahaaGreatDoor.TW
