/- Joined texts: plain facts and contracts, as each part says. -/
import Derived.Test.YtdljajjgppcjpaaGreatJkJ
import Derived.Test.YtdljajjgppcjpaaGreatJkE
import Derived.Deep.RegionHeld3
import Derived.RegionTactic

/- The contract of impl.readNode, as the given laws call it. -/
namespace Go.Proofs.YtdljajjgppcjpaaGreat.D1
open Go.ChangeShapes Go.WideShapes Go.ChangeAt Go.RowKit
set_option linter.unusedVariables false
set_option linter.unusedSimpArgs false
set_option maxRecDepth 10000

variable {w W W' : World} {B : Nat} {a : Option Addr}
theorem cells6 {x0 x1 x2 x3 x4 x5 : Value} (h : K0.Blk B [x0, x1, x2, x3, x4, x5] W) : W.cell? ⟨B, 0, none⟩ = some x0 ∧ W.cell? ⟨B, 1, none⟩ = some x1 ∧ W.cell? ⟨B, 2, none⟩ = some x2 ∧ W.cell? ⟨B, 3, none⟩ = some x3 ∧ W.cell? ⟨B, 4, none⟩ = some x4 ∧ W.cell? ⟨B, 5, none⟩ = some x5 := ⟨h.cell 0 (by simp), h.cell 1 (by simp), h.cell 2 (by simp), h.cell 3 (by simp), h.cell 4 (by simp), h.cell 5 (by simp)⟩
theorem free6 {x0 x1 x2 x3 x4 x5 : Value} (h : K0.Blk B [x0, x1, x2, x3, x4, x5] W) : W.frozen? ⟨B, 0, none⟩ = false ∧ W.frozen? ⟨B, 1, none⟩ = false ∧ W.frozen? ⟨B, 2, none⟩ = false ∧ W.frozen? ⟨B, 3, none⟩ = false ∧ W.frozen? ⟨B, 4, none⟩ = false ∧ W.frozen? ⟨B, 5, none⟩ = false := ⟨h.free 0 (by simp), h.free 1 (by simp), h.free 2 (by simp), h.free 3 (by simp), h.free 4 (by simp), h.free 5 (by simp)⟩
abbrev W6 (W : World) (B : Nat) (y0 y1 y2 y3 y4 y5 : Value) : World := ((((((W.setCell ⟨B, 0, none⟩ y0).setCell ⟨B, 1, none⟩ y1).setCell ⟨B, 2, none⟩ y2).setCell ⟨B, 3, none⟩ y3).setCell ⟨B, 4, none⟩ y4).setCell ⟨B, 5, none⟩ y5)
theorem put6 {x0 x1 x2 x3 x4 x5 : Value} (h : K0.Blk B [x0, x1, x2, x3, x4, x5] W) (y0 y1 y2 y3 y4 y5 : Value) : K0.Blk B [y0, y1, y2, y3, y4, y5] (W6 W B y0 y1 y2 y3 y4 y5) := ((((((h.set 0 y0).set 1 y1).set 2 y2).set 3 y3).set 4 y4).set 5 y5)
theorem bel6 {b : Nat} (h : Below b w W) (hb : b ≤ B) (y0 y1 y2 y3 y4 y5 : Value) : Below b w (W6 W B y0 y1 y2 y3 y4 y5) := ((((((h.setCell (p := ⟨B, 0, none⟩) hb y0).setCell (p := ⟨B, 1, none⟩) hb y1).setCell (p := ⟨B, 2, none⟩) hb y2).setCell (p := ⟨B, 3, none⟩) hb y3).setCell (p := ⟨B, 4, none⟩) hb y4).setCell (p := ⟨B, 5, none⟩) hb y5)
theorem own6 {base : Nat} {zs : List Int} (h : J0.Own base W a zs) (hB : B < base) (y0 y1 y2 y3 y4 y5 : Value) : J0.Own base (W6 W B y0 y1 y2 y3 y4 y5) a zs := ((((((h.set hB 0 y0).set hB 1 y1).set hB 2 y2).set hB 3 y3).set hB 4 y4).set hB 5 y5)
theorem ownE6 {base : Nat} {es : List T0.Ent} (h : V1.OwnE base W a es) (hB : B < base) (y0 y1 y2 y3 y4 y5 : Value) : V1.OwnE base (W6 W B y0 y1 y2 y3 y4 y5) a es := (N5.ownE_set (N5.ownE_set (N5.ownE_set (N5.ownE_set (N5.ownE_set (N5.ownE_set h hB 0 y0) hB 1 y1) hB 2 y2) hB 3 y3) hB 4 y4) hB 5 y5)

abbrev nv (k o t : Int) (a : Option Addr) (n c : Nat) (x : ByteArray) (ae : Option Addr) (ne ce : Nat) : Value := .agg #[.int .i64 k, .int .i64 o, .int .i64 t, .slice a n c, .string x, .slice ae ne ce]
abbrev nvs (k o t : Int) (a : Option Addr) (n c : Nat) (x : ByteArray) (ae : Option Addr) (ne ce : Nat) : List Value := [.int .i64 k, .int .i64 o, .int .i64 t, .slice a n c, .string x, .slice ae ne ce]

/-- The bytes that an inode's record tells of, whether it is one of a right node, and its entries. -/
def data (mem : ByteArray) (i : Int) : ByteArray := (O0.joined mem (G0.gZ (O0.recd mem i)) (G0.gZ (O0.recd mem i)).length).extract 0 (G0.gS (O0.recd mem i)).toNat
def nodeOk (mem : ByteArray) (i : Int) : Bool := G0.isI (O0.recd mem i) && (!decide (G0.gK (O0.recd mem i) = 2) || V0.isD (data mem i))
def nodeE (mem : ByteArray) (i : Int) : List T0.Ent := if G0.gK (O0.recd mem i) = 2 then V0.dE (data mem i) else []

/-- What readNode answers. -/
def Ans (mem : ByteArray) (i : Int) (w : World) (e : Ending) (w' : World) : Prop :=
  ∃ (k o t : Int) (a : Option Addr) (n c : Nat) (x : ByteArray) (ae : Option Addr) (ne ce : Nat), e = .returned (.tuple #[nv k o t a n c x ae ne ce, .bool (nodeOk mem i)]) ∧ Below w.heap.size w w' ∧
    (nodeOk mem i = true → k = G0.gK (O0.recd mem i) ∧ o = G0.gO (O0.recd mem i) ∧ n = (G0.gZ (O0.recd mem i)).length ∧ n ≤ c ∧ J0.Own w.heap.size w' a (G0.gZ (O0.recd mem i)) ∧ ne = (nodeE mem i).length ∧ ne ≤ ce ∧ V1.OwnE w.heap.size w' ae (nodeE mem i))

theorem ans_no {mem : ByteArray} {i : Int} {w w' : World} {k o t : Int} {a : Option Addr} {n c : Nat} {x : ByteArray} {ae : Option Addr} {ne ce : Nat} (h : nodeOk mem i = false) (hb : Below w.heap.size w w') : Ans mem i w (.returned (.tuple #[nv k o t a n c x ae ne ce, .bool false])) w' :=
  ⟨k, o, t, a, n, c, x, ae, ne, ce, by rw [h], hb, fun h' => by rw [h] at h'; cases h'⟩
theorem ans_yes {mem : ByteArray} {i : Int} {w w' : World} {t : Int} {a : Option Addr} {c : Nat} {x : ByteArray} {ae : Option Addr} {ce : Nat} (h : nodeOk mem i = true) (hb : Below w.heap.size w w') (hc : (G0.gZ (O0.recd mem i)).length ≤ c) (ho : J0.Own w.heap.size w' a (G0.gZ (O0.recd mem i))) (hce : (nodeE mem i).length ≤ ce) (hoe : V1.OwnE w.heap.size w' ae (nodeE mem i)) :
    Ans mem i w (.returned (.tuple #[nv (G0.gK (O0.recd mem i)) (G0.gO (O0.recd mem i)) t a (G0.gZ (O0.recd mem i)).length c x ae (nodeE mem i).length ce, .bool true])) w' :=
  ⟨_, _, t, a, _, c, x, ae, _, ce, by rw [h], hb, fun _ => ⟨rfl, rfl, rfl, hc, ho, rfl, hce, hoe⟩⟩

/-- The blocks of readNode. -/
structure ND (w : World) (k o t : Int) (a : Option Addr) (n c B : Nat) (W : World) : Prop where
  res : K0.Blk w.heap.size (nvs 0 0 0 none 0 0 ⟨#[]⟩ none 0 0) W
  nb : K0.Blk B (I0.vals k o t a n c) W
  bel : Below w.heap.size w W
theorem ND.below {k o t : Int} {n c : Nat} (h : ND w k o t a n c B W) (hb : Below W.heap.size W W') : ND w k o t a n c B W' := ⟨h.res.below hb, h.nb.below hb, h.bel.trans (hb.mono h.bel.size)⟩
abbrev w00 (w : World) : World := w.alloc (.cells #[.int .i64 0, .int .i64 0, .int .i64 0, .slice none 0 0, .string ⟨#[]⟩, .slice none 0 0] 164)
theorem nd_new {k o t : Int} {n c : Nat} (hb : Below (w00 w).heap.size (w00 w) W) : ND w k o t a n c W.heap.size (W.alloc (.cells #[.int .i64 k, .int .i64 o, .int .i64 t, .slice a n c] 69)) :=
  ⟨((K0.blk_new (nvs 0 0 0 none 0 0 ⟨#[]⟩ none 0 0) w 164).below hb).alloc _, K0.blk_new (I0.vals k o t a n c) W 69, ((K0.below_new w _).trans (hb.mono (K0.below_new w _).size)).alloc (Nat.le_trans (K0.below_new w _).size hb.size) _⟩

theorem node_cases (mem : ByteArray) (i : Int) :
    (G0.isI (O0.recd mem i) = false ∧ nodeOk mem i = false) ∨ (G0.isI (O0.recd mem i) = true ∧ (G0.gK (O0.recd mem i) != 2) = true ∧ nodeOk mem i = true ∧ nodeE mem i = []) ∨
    (G0.isI (O0.recd mem i) = true ∧ (G0.gK (O0.recd mem i) != 2) = false ∧ nodeOk mem i = V0.isD (data mem i) ∧ nodeE mem i = V0.dE (data mem i)) := by
  unfold nodeOk nodeE
  cases hI : G0.isI (O0.recd mem i) with
  | false => exact Or.inl ⟨rfl, Bool.false_and _⟩
  | true =>
    right
    by_cases h2 : G0.gK (O0.recd mem i) = 2
    · right
      exact ⟨rfl, by simpa using h2, by rw [decide_eq_true h2, Bool.true_and, Bool.not_true, Bool.false_or], by rw [if_pos h2]⟩
    · left
      exact ⟨rfl, by simpa using h2, by rw [decide_eq_false h2, Bool.not_false, Bool.true_or, Bool.true_and], by rw [if_neg h2]⟩

theorem data_le (mem : ByteArray) (i : Int) (hm : mem.size = 768) : (data mem i).size ≤ 281474976710656 := by
  unfold data
  rw [ByteArray.size_extract]
  cases hI : G0.isI (O0.recd mem i) with
  | true =>
    have hg := O0.got hI
    rw [O0.joined_size hm hg.2.2.2.1 _ (Nat.le_refl _)]
    have := hg.2.1
    omega
  | false =>
    rw [(G0.g_no hI).2.2.2]
    have : (O0.joined mem [] ([] : List Int).length).size = 0 := rfl
    omega

set_option maxHeartbeats 4000000 in
theorem readNode (mem : ByteArray) (i : Int) (w : World) (hm : mem.size = 768) : Calls Tryz.prog 126 #[.string mem, .int .i64 i] w (Ans mem i w) := by
  have hms : mem.size ≤ 281474976710656 := by omega
  have hrs := O0.recd_size mem i hms
  have hpt : Hid (∀ W, Calls Tryz.prog 17 #[.string mem, .int .i64 (L1.recAt i), .int .i64 16] W fun e w' => e = .returned (.string (O0.recd mem i)) ∧ Below W.heap.size W w') := fun W => B2.impl_Part _ _ _ _ hms
  have hG : Hid (∀ W, Calls Tryz.prog 115 #[.string (O0.recd mem i)] W (G3.Ans (O0.recd mem i) W)) := fun W => G3.impl_GetInode _ W hrs
  have hA : Hid (∀ W e w', G3.Ans (O0.recd mem i) W e w' → ∃ a c, e = .returned (.tuple #[I0.val (G0.gK (O0.recd mem i)) (G0.gO (O0.recd mem i)) (G0.gS (O0.recd mem i)) a (G0.gZ (O0.recd mem i)).length c, .bool (G0.isI (O0.recd mem i))]) ∧ J0.Own W.heap.size w' a (G0.gZ (O0.recd mem i)) ∧ (G0.gZ (O0.recd mem i)).length ≤ c ∧ Below W.heap.size W w') := fun W e w' h => h
  have hgot := fun h => O0.got (s := O0.recd mem i) h
  have HN : Hid (∀ k o t a n c x ae ne ce w', nodeOk mem i = false → Below w.heap.size w w' → Ans mem i w (.returned (.tuple #[nv k o t a n c x ae ne ce, .bool false])) w') := fun k o t a n c x ae ne ce w' h hb => ans_no h hb
  have HY : Hid (∀ t a c x ae ce w', nodeOk mem i = true → Below w.heap.size w w' → (G0.gZ (O0.recd mem i)).length ≤ c → J0.Own w.heap.size w' a (G0.gZ (O0.recd mem i)) → (nodeE mem i).length ≤ ce → V1.OwnE w.heap.size w' ae (nodeE mem i) → Ans mem i w (.returned (.tuple #[nv (G0.gK (O0.recd mem i)) (G0.gO (O0.recd mem i)) t a (G0.gZ (O0.recd mem i)).length c x ae (nodeE mem i).length ce, .bool true])) w') := fun t a c x ae ce w' h hb hc ho hce hoe => ans_yes h hb hc ho hce hoe
  have hcase := node_cases mem i
  have hdat : data mem i = (O0.joined mem (G0.gZ (O0.recd mem i)) (G0.gZ (O0.recd mem i)).length).extract 0 (G0.gS (O0.recd mem i)).toNat := rfl
  obtain ⟨R, hR⟩ : ∃ R, Ans mem i w = R := ⟨_, rfl⟩
  rw [hR] at HN HY ⊢
  obtain ⟨Q, hQ⟩ : ∃ Q, O0.recd mem i = Q := ⟨_, rfl⟩
  rw [hQ] at hpt hG hA hgot HY hcase hdat
  obtain ⟨D, hD⟩ : ∃ D, data mem i = D := ⟨_, rfl⟩
  rw [hD] at hcase hdat
  obtain ⟨K, hK⟩ : ∃ K, G0.gK Q = K := ⟨_, rfl⟩
  obtain ⟨O, hO⟩ : ∃ O, G0.gO Q = O := ⟨_, rfl⟩
  obtain ⟨S, hS⟩ : ∃ S, G0.gS Q = S := ⟨_, rfl⟩
  obtain ⟨Z, hZ⟩ : ∃ Z, G0.gZ Q = Z := ⟨_, rfl⟩
  rw [hK] at hcase
  rw [hK, hO, hZ] at HY
  rw [hK, hO, hS, hZ] at hA
  rw [hS, hZ] at hdat
  rw [hK, hS, hZ] at hgot
  have hgd : Hid (∀ W, Calls Tryz.prog 117 #[.string D] W (V1.Ans D W)) := fun W => V2.impl_GetDir _ _ (by rw [← hD]; exact data_le mem i hm)
  have HD : Hid (∀ W e w', V1.Ans D W e w' → ∃ a c, e = .returned (.tuple #[.slice a (V0.dE D).length c, .bool (V0.isD D)]) ∧ V1.OwnE W.heap.size w' a (V0.dE D) ∧ (V0.dE D).length ≤ c ∧ Below W.heap.size W w') := fun W e w' h => h
  clear hR hQ hK hO hS hZ hrs hD
  rcases hcase with ⟨gI, hp⟩ | ⟨gI, g2, hp, hE⟩ | ⟨gI, g2, hp, hE⟩
  · rw [gI] at hA
    clear gI hgot hgd
    go_enter Tryz.func126, Tryz.ntmps126
    go_wp2_with (first
      | (go_at_call 18; refine (L1.impl_RecAt _ _).mono ?_; rintro e wq ⟨rfl, rfl⟩)
      | (go_at_call 17; refine (hpt.out _).mono ?_; rintro e w1 ⟨rfl, b1⟩)
      | (go_at_call 115; refine (hG.out _).mono ?_; intro e w2 hans; obtain ⟨a, c, rfl, ho, hc, b2⟩ := hA.out _ _ _ hans; clear hans; have p2 := nd_new (k := K) (o := O) (t := S) (a := a) (n := Z.length) (c := c) (b1.trans (b2.mono b1.size)); have y0 := p2.nb.c0; have y1 := p2.nb.c1; have y2 := p2.nb.c2; have y3 := p2.nb.c3; obtain ⟨i0, i1, i2, i3, i4, i5⟩ := cells6 p2.res; obtain ⟨j0, j1, j2, j3, j4, j5⟩ := free6 p2.res))
    have q := put6 p2.res (.int .i64 0) (.int .i64 0) (.int .i64 0) (.slice none 0 0) (.string ⟨#[]⟩) (.slice none 0 0)
    obtain ⟨u0, u1, u2, u3, u4, u5⟩ := cells6 q
    exact bodyPost_ret (v := .tuple #[nv 0 0 0 none 0 0 ⟨#[]⟩ none 0 0, .bool false]) (by simp [results, Tryz.results126, go_sem, u0, u1, u2, u3, u4, u5]) rfl (HN.out _ _ _ _ _ _ _ _ _ _ _ hp (bel6 p2.bel (Nat.le_refl _) (.int .i64 0) (.int .i64 0) (.int .i64 0) (.slice none 0 0) (.string ⟨#[]⟩) (.slice none 0 0)))
  · obtain ⟨⟨s0, s1⟩, zl, s2, hpk, -⟩ := hgot gI
    rw [gI] at hA
    rw [hE] at HY
    clear gI hgot hgd hE
    have hds : Hid (∀ W c a, P0.Row W a Z → Calls Tryz.prog 140 #[.string mem, I0.val K O S a Z.length c] W fun e w' => e = .returned (.string D) ∧ Below W.heap.size W w') := fun W c a h => by rw [hdat]; exact O1.dataOf mem K O S a c Z W hm hpk zl s0 s2 h
    clear hdat
    go_enter Tryz.func126, Tryz.ntmps126
    go_wp2_with (first
      | (go_at_call 18; refine (L1.impl_RecAt _ _).mono ?_; rintro e wq ⟨rfl, rfl⟩)
      | (go_at_call 17; refine (hpt.out _).mono ?_; rintro e w1 ⟨rfl, b1⟩)
      | (go_at_call 115; refine (hG.out _).mono ?_; intro e w2 hans; obtain ⟨a, c, rfl, ho, hc, b2⟩ := hA.out _ _ _ hans; clear hans; have p2 := nd_new (k := K) (o := O) (t := S) (a := a) (n := Z.length) (c := c) (b1.trans (b2.mono b1.size)); have y0 := p2.nb.c0; have y1 := p2.nb.c1; have y2 := p2.nb.c2; have y3 := p2.nb.c3; have r2 := ho.row.alloc (.cells #[.int .i64 K, .int .i64 O, .int .i64 S, .slice a Z.length c] 69)))
    have bd : Below (w2.alloc (.cells #[.int .i64 K, .int .i64 O, .int .i64 S, .slice a Z.length c] 69)).heap.size (w2.alloc (.cells #[.int .i64 K, .int .i64 O, .int .i64 S, .slice a Z.length c] 69)) (w2.alloc (.cells #[.int .i64 K, .int .i64 O, .int .i64 S, .slice a Z.length c] 69)).drew := (Below.refl _ _).drew
    have p3 := p2.below bd
    have r3 := r2.below bd
    have o3 := (ho.alloc (.cells #[.int .i64 K, .int .i64 O, .int .i64 S, .slice a Z.length c] 69)).below bd
    have hbz := b1.size
    clear bd
    go_region_with ((go_at_call 140; refine (hds.out _ _ _ r3).mono ?_; rintro e w4 ⟨rfl, b4⟩; have p4 := p3.below b4; have o4 := o3.below b4; have z0 := p4.nb.c0; have z1 := p4.nb.c1; have z2 := p4.nb.c2; have z3 := p4.nb.c3; obtain ⟨i0, i1, i2, i3, i4, i5⟩ := cells6 p4.res; obtain ⟨j0, j1, j2, j3, j4, j5⟩ := free6 p4.res))
    all_goals
      have q := put6 p4.res (.int .i64 K) (.int .i64 O) (.int .i64 S) (.slice a Z.length c) (.string D) (.slice none 0 0)
      obtain ⟨u0, u1, u2, u3, u4, u5⟩ := cells6 q
      go_wp2
      refine bodyPost_ret (v := .tuple #[nv K O S a Z.length c D none 0 0, .bool true]) (by simp [results, Tryz.results126, go_sem, u0, u1, u2, u3, u4, u5]) rfl (HY.out _ _ _ _ _ _ _ hp (bel6 p4.bel (Nat.le_refl _) _ _ _ _ _ _) hc ?_ (Nat.le_refl _) (Or.inl rfl))
      exact (own6 o4 (by simp at hbz; omega) _ _ _ _ _ _).mono (by simp at hbz; omega)
  · obtain ⟨⟨s0, s1⟩, zl, s2, hpk, -⟩ := hgot gI
    rw [gI] at hA
    rw [hE] at HY
    have HP : Hid (nodeOk mem i = V0.isD D) := hp
    clear gI hgot hE hp
    have hds : Hid (∀ W c a, P0.Row W a Z → Calls Tryz.prog 140 #[.string mem, I0.val K O S a Z.length c] W fun e w' => e = .returned (.string D) ∧ Below W.heap.size W w') := fun W c a h => by rw [hdat]; exact O1.dataOf mem K O S a c Z W hm hpk zl s0 s2 h
    clear hdat
    go_enter Tryz.func126, Tryz.ntmps126
    go_wp2_with (first
      | (go_at_call 18; refine (L1.impl_RecAt _ _).mono ?_; rintro e wq ⟨rfl, rfl⟩)
      | (go_at_call 17; refine (hpt.out _).mono ?_; rintro e w1 ⟨rfl, b1⟩)
      | (go_at_call 115; refine (hG.out _).mono ?_; intro e w2 hans; obtain ⟨a, c, rfl, ho, hc, b2⟩ := hA.out _ _ _ hans; clear hans; have p2 := nd_new (k := K) (o := O) (t := S) (a := a) (n := Z.length) (c := c) (b1.trans (b2.mono b1.size)); have y0 := p2.nb.c0; have y1 := p2.nb.c1; have y2 := p2.nb.c2; have y3 := p2.nb.c3; have r2 := ho.row.alloc (.cells #[.int .i64 K, .int .i64 O, .int .i64 S, .slice a Z.length c] 69); have o2 := ho.alloc (.cells #[.int .i64 K, .int .i64 O, .int .i64 S, .slice a Z.length c] 69))
      | (go_at_call 140; refine (hds.out _ _ _ r2).mono ?_; rintro e w3 ⟨rfl, b3⟩; have p3 := p2.below b3; have o3 := o2.below b3)
      | (go_at_call 117; refine (hgd.out _).mono ?_; intro e w4 hans; obtain ⟨ae, ce, rfl, hoe, hce, b4⟩ := HD.out _ _ _ hans; clear hans; have p4 := p3.below b4; have o4 := o3.below b4; have z0 := p4.nb.c0; have z1 := p4.nb.c1; have z2 := p4.nb.c2; have z3 := p4.nb.c3; obtain ⟨i0, i1, i2, i3, i4, i5⟩ := cells6 p4.res; obtain ⟨j0, j1, j2, j3, j4, j5⟩ := free6 p4.res))
    have q := put6 p4.res (.int .i64 K) (.int .i64 O) (.int .i64 S) (.slice a Z.length c) (.string ⟨#[]⟩) (.slice ae (V0.dE D).length ce)
    obtain ⟨u0, u1, u2, u3, u4, u5⟩ := cells6 q
    have hbl := bel6 p4.bel (Nat.le_refl _) (.int .i64 K) (.int .i64 O) (.int .i64 S) (.slice a Z.length c) (.string ⟨#[]⟩) (.slice ae (V0.dE D).length ce)
    have hbz := b1.size
    have hp3 := p3.res.lt
    refine bodyPost_ret (v := .tuple #[nv K O S a Z.length c ⟨#[]⟩ ae (V0.dE D).length ce, .bool (V0.isD D)]) (by simp [results, Tryz.results126, go_sem, u0, u1, u2, u3, u4, u5]) rfl ?_
    cases hI : V0.isD D with
    | false => exact HN.out _ _ _ _ _ _ _ _ _ _ _ (HP.out.trans hI) hbl
    | true =>
      refine HY.out _ _ _ _ _ _ _ (HP.out.trans hI) hbl hc ?_ hce ?_
      · exact (own6 o4 (by simp at hbz; omega) _ _ _ _ _ _).mono (by simp at hbz; omega)
      · exact (ownE6 hoe hp3 _ _ _ _ _ _).mono (Nat.le_of_lt hp3)
end Go.Proofs.YtdljajjgppcjpaaGreat.D1

/- The contract of impl.tenure's newInode, as the given laws call it. -/
namespace Go.Proofs.YtdljajjgppcjpaaGreat.D2
open Go.ChangeShapes Go.WideShapes Go.ChangeAt Go.RowKit
set_option linter.unusedVariables false
set_option linter.unusedSimpArgs false
set_option maxRecDepth 10000

open N0 (Ln)
open N1 (Sl)

/-- What an inode that is new in a directory must be. -/
def newOk (mem : ByteArray) (d : Ln) (x : Int) : Bool := P0.has d.fr x && (G0.isI (O0.recd mem x) && (!decide (G0.gK (O0.recd mem x) = 0) && (!(decide (G0.gK (O0.recd mem x) = 2) && !decide (G0.gS (O0.recd mem x) = 0)) && (decide (G0.gO (O0.recd mem x) = d.cl) && N0.among (G0.gZ (O0.recd mem x)) d.po))))

/-- What newInode answers. -/
def Ans (mem : ByteArray) (d : Ln) (x : Int) (w : World) (e : Ending) (w' : World) : Prop :=
  ∃ (k o t : Int) (a : Option Addr) (n c : Nat), e = .returned (.tuple #[I0.val k o t a n c, .bool (newOk mem d x)]) ∧ Below w.heap.size w w' ∧ (newOk mem d x = true → n = (G0.gZ (O0.recd mem x)).length ∧ n ≤ c ∧ J0.Own w.heap.size w' a (G0.gZ (O0.recd mem x)))

theorem ans_no {mem : ByteArray} {d : Ln} {x : Int} {w w' : World} {k o t : Int} {a : Option Addr} {n c : Nat} (h : newOk mem d x = false) (hb : Below w.heap.size w w') : Ans mem d x w (.returned (.tuple #[I0.val k o t a n c, .bool false])) w' :=
  ⟨k, o, t, a, n, c, by rw [h], hb, fun h' => by rw [h] at h'; cases h'⟩
theorem ans_yes {mem : ByteArray} {d : Ln} {x : Int} {w w' : World} {k o t : Int} {a : Option Addr} {c : Nat} (h : newOk mem d x = true) (hb : Below w.heap.size w w') (hc : (G0.gZ (O0.recd mem x)).length ≤ c) (ho : J0.Own w.heap.size w' a (G0.gZ (O0.recd mem x))) : Ans mem d x w (.returned (.tuple #[I0.val k o t a (G0.gZ (O0.recd mem x)).length c, .bool true])) w' :=
  ⟨k, o, t, a, _, c, by rw [h], hb, fun _ => ⟨rfl, hc, ho⟩⟩

theorem new_cases (mem : ByteArray) (d : Ln) (x : Int) :
    (P0.has d.fr x = false ∧ newOk mem d x = false) ∨ (P0.has d.fr x = true ∧ G0.isI (O0.recd mem x) = false ∧ newOk mem d x = false) ∨
    (P0.has d.fr x = true ∧ G0.isI (O0.recd mem x) = true ∧ (G0.gK (O0.recd mem x) == 0) = true ∧ newOk mem d x = false) ∨
    (P0.has d.fr x = true ∧ G0.isI (O0.recd mem x) = true ∧ (G0.gK (O0.recd mem x) == 0) = false ∧ (G0.gK (O0.recd mem x) == 2) = true ∧ (G0.gS (O0.recd mem x) != 0) = true ∧ newOk mem d x = false) ∨
    (P0.has d.fr x = true ∧ G0.isI (O0.recd mem x) = true ∧ (G0.gK (O0.recd mem x) == 0) = false ∧ ((G0.gK (O0.recd mem x) == 2) = true ∧ (G0.gS (O0.recd mem x) != 0) = false ∨ (G0.gK (O0.recd mem x) == 2) = false) ∧ newOk mem d x = ((G0.gO (O0.recd mem x) == d.cl) && N0.among (G0.gZ (O0.recd mem x)) d.po)) := by
  unfold newOk
  cases h1 : P0.has d.fr x with
  | false => exact Or.inl ⟨rfl, Bool.false_and _⟩
  | true =>
    right
    rw [Bool.true_and]
    cases h2 : G0.isI (O0.recd mem x) with
    | false => exact Or.inl ⟨rfl, rfl, Bool.false_and _⟩
    | true =>
      right
      rw [Bool.true_and]
      by_cases h3 : G0.gK (O0.recd mem x) = 0
      · exact Or.inl ⟨rfl, rfl, by simpa using h3, by rw [decide_eq_true h3, Bool.not_true, Bool.false_and]⟩
      · right
        have h3' : (G0.gK (O0.recd mem x) == 0) = false := by simpa using h3
        have hcl : decide (G0.gO (O0.recd mem x) = d.cl) = (G0.gO (O0.recd mem x) == d.cl) := by
          by_cases h : G0.gO (O0.recd mem x) = d.cl
          · rw [decide_eq_true h]; simp [h]
          · rw [decide_eq_false h]; symm; simpa using h
        rw [decide_eq_false h3, Bool.not_false, Bool.true_and, hcl]
        by_cases h4 : G0.gK (O0.recd mem x) = 2
        · have h4' : (G0.gK (O0.recd mem x) == 2) = true := by simpa using h4
          rw [decide_eq_true h4, Bool.true_and, Bool.not_not]
          by_cases h5 : G0.gS (O0.recd mem x) = 0
          · right
            exact ⟨rfl, rfl, h3', Or.inl ⟨h4', by simpa using h5⟩, by rw [decide_eq_true h5, Bool.true_and]⟩
          · left
            exact ⟨rfl, rfl, h3', h4', by simpa using h5, by rw [decide_eq_false h5, Bool.false_and]⟩
        · right
          exact ⟨rfl, rfl, h3', Or.inr (by simpa using h4), by rw [decide_eq_false h4, Bool.false_and, Bool.not_false, Bool.true_and]⟩

/-- The blocks of newInode. -/
structure NW (w : World) (ts : List Value) (k o t : Int) (a : Option Addr) (n c B : Nat) (W : World) : Prop where
  box : K0.Blk w.heap.size ts W
  res : K0.Blk (w.heap.size + 1) (I0.vals 0 0 0 none 0 0) W
  nb : K0.Blk B (I0.vals k o t a n c) W
  bel : Below w.heap.size w W
variable {w W W' : World}
theorem NW.below {ts : List Value} {k o t : Int} {a : Option Addr} {n c B : Nat} (h : NW w ts k o t a n c B W) (hb : Below W.heap.size W W') : NW w ts k o t a n c B W' := ⟨h.box.below hb, h.res.below hb, h.nb.below hb, h.bel.trans (hb.mono h.bel.size)⟩

abbrev w00 (w : World) (o : Obj) : World := (w.alloc o).alloc (.cells #[.int .i64 0, .int .i64 0, .int .i64 0, .slice none 0 0] 69)
theorem bel00 (w : World) (o : Obj) : Below w.heap.size w (w00 w o) := ((Below.refl _ _).alloc (Nat.le_refl _) _).alloc (by simp) _
theorem nw_new {ts : List Value} {T : TypeId} {k o t : Int} {a : Option Addr} {n c : Nat} (hb : Below (w00 w (.cells ts.toArray T)).heap.size (w00 w (.cells ts.toArray T)) W) : NW w ts k o t a n c W.heap.size (W.alloc (.cells #[.int .i64 k, .int .i64 o, .int .i64 t, .slice a n c] 69)) :=
  ⟨(((K0.blk_new ts w T).alloc _).below hb).alloc _, ((K0.blk_at (I0.vals 0 0 0 none 0 0) _ 69 (by simp)).below hb).alloc _, K0.blk_new (I0.vals k o t a n c) W 69,
   ((bel00 w _).trans (hb.mono (bel00 w _).size)).alloc (Nat.le_trans (bel00 w _).size hb.size) _⟩

end Go.Proofs.YtdljajjgppcjpaaGreat.D2

/- The contract of impl.tenure's entriesOk, as the given laws call it. -/
namespace Go.Proofs.YtdljajjgppcjpaaGreat.D3
open Go.ChangeShapes Go.WideShapes Go.ChangeAt Go.RowKit
set_option linter.unusedVariables false
set_option linter.unusedSimpArgs false
set_option maxRecDepth 10000

open N0 (Ln)
open N1 (Sl)
open P1 (ret_bool)
open J0 (IBuf Own)

/-- An inode that was in the lent directory. -/
def had (d : Ln) (x : Int) : Bool := P0.has (D0.inos (N5.oldE d)) x
def xk (es : List T0.Ent) (k : Nat) : Int := (T0.ent es k).1
def entAt (mem : ByteArray) (d : Ln) (es : List T0.Ent) (i : Nat) : Bool := had d (xk es i) || D2.newOk mem d (xk es i)

/-- The pages of a directory and of all that is new in it. -/
def gath (mem : ByteArray) (d : Ln) (Z : List Int) (es : List T0.Ent) : Nat → List Int
  | 0 => Z
  | k + 1 => if had d (xk es k) then gath mem d Z es k else gath mem d Z es k ++ G0.gZ (O0.recd mem (xk es k))

def entOk (mem : ByteArray) (d : Ln) (Z : List Int) (es : List T0.Ent) : Bool := N0.to (entAt mem d es) es.length && P0.pagesOk (gath mem d Z es es.length)

theorem gZ_len (u : ByteArray) : (G0.gZ u).length ≤ 100 := by
  unfold G0.gZ
  split
  · rw [G0.pgs_length]
    have := G0.cnt_le u
    omega
  · exact Nat.zero_le _

theorem gath_len (mem : ByteArray) (d : Ln) (Z : List Int) (es : List T0.Ent) : ∀ k, (gath mem d Z es k).length ≤ Z.length + 100 * k
  | 0 => by simp [gath]
  | k + 1 => by
    have h := gath_len mem d Z es k
    rw [gath]
    split
    · omega
    · rw [List.length_append]
      have := gZ_len (O0.recd mem (xk es k))
      omega

/-- The boxes of entriesOk. -/
structure En (w : World) (ts ns : List Value) (W : World) : Prop where
  box : K0.Blk w.heap.size ts W
  nb : K0.Blk (w.heap.size + 1) ns W
  bel : Below w.heap.size w W
  lt : w.heap.size + 2 ≤ W.heap.size
variable {w W W' : World} {ts ns : List Value}
theorem En.below (h : En w ts ns W) (hb : Below W.heap.size W W') : En w ts ns W' := ⟨h.box.below hb, h.nb.below hb, h.bel.trans (hb.mono h.bel.size), Nat.le_trans h.lt hb.size⟩
theorem En.keep (h : En w ts ns W) (hb : Below (w.heap.size + 2) W W') : En w ts ns W' := ⟨J0.blk_keep h.box hb (by omega), J0.blk_keep h.nb hb (by omega), h.bel.trans (hb.mono (by omega)), Nat.le_trans h.lt hb.size⟩

theorem en_new (w : World) (ts ns : List Value) (T T' : TypeId) : En w ts ns ((w.alloc (.cells ts.toArray T)).alloc (.cells ns.toArray T')) :=
  ⟨(K0.blk_new ts w T).alloc _, K0.blk_at ns _ T' (by simp), ((Below.refl _ _).alloc (Nat.le_refl _) _).alloc (by simp) _, by simp⟩

theorem cells5 {B : Nat} {x0 x1 x2 x3 x4 : Value} {l : List Value} (h : K0.Blk B (x0 :: x1 :: x2 :: x3 :: x4 :: l) W) : W.cell? ⟨B, 0, none⟩ = some x0 ∧ W.cell? ⟨B, 1, none⟩ = some x1 ∧ W.cell? ⟨B, 2, none⟩ = some x2 ∧ W.cell? ⟨B, 3, none⟩ = some x3 ∧ W.cell? ⟨B, 4, none⟩ = some x4 := ⟨h.cell 0 (by simp), h.cell 1 (by simp), h.cell 2 (by simp), h.cell 3 (by simp), h.cell 4 (by simp)⟩

end Go.Proofs.YtdljajjgppcjpaaGreat.D3

/- The contract of impl.lookBack, as the given laws call it. -/
namespace Go.Proofs.YtdljajjgppcjpaaGreat.D6
open Go.ChangeShapes Go.WideShapes Go.ChangeAt Go.RowKit
set_option linter.unusedVariables false
set_option linter.unusedSimpArgs false
set_option maxRecDepth 10000

open N0 (Ln)
open N1 (Sl Lists Fit LB)
open N5 (oldE)
open N7 (tv tvs tObj)
open N9 (RL rl_new ln0 sl0 cells13 free13 W13 put13 other13 bel13)
open D1 (nv nvs nodeOk nodeE cells6)

/-- The record has the kind and the owner that it had. -/
def like (mem : ByteArray) (d : Ln) : Bool := decide (G0.gK (O0.recd mem d.ino) = G0.gK d.rc) && decide (G0.gO (O0.recd mem d.ino) = G0.gO d.rc)

/-- What Verdict answers. -/
def verdict (mem : ByteArray) (d : Ln) : Bool := N0.loanOk d && (decide (mem.size = 768) && (nodeOk mem d.ino && (like mem d && (N0.among (G0.gZ (O0.recd mem d.ino)) (d.pg ++ d.po) && D3.entOk mem d (G0.gZ (O0.recd mem d.ino)) (nodeE mem d.ino)))))

theorem verdict_cases (mem : ByteArray) (d : Ln) :
    (N0.loanOk d = false ∧ verdict mem d = false) ∨ (N0.loanOk d = true ∧ ((mem.size : Int) != 768) = true ∧ verdict mem d = false) ∨ (N0.loanOk d = true ∧ mem.size = 768 ∧ nodeOk mem d.ino = false ∧ verdict mem d = false) ∨
    (N0.loanOk d = true ∧ mem.size = 768 ∧ nodeOk mem d.ino = true ∧ like mem d = false ∧ verdict mem d = false) ∨ (N0.loanOk d = true ∧ mem.size = 768 ∧ nodeOk mem d.ino = true ∧ like mem d = true ∧ N0.among (G0.gZ (O0.recd mem d.ino)) (d.pg ++ d.po) = false ∧ verdict mem d = false) ∨
    (N0.loanOk d = true ∧ mem.size = 768 ∧ nodeOk mem d.ino = true ∧ like mem d = true ∧ N0.among (G0.gZ (O0.recd mem d.ino)) (d.pg ++ d.po) = true ∧ verdict mem d = D3.entOk mem d (G0.gZ (O0.recd mem d.ino)) (nodeE mem d.ino)) := by
  unfold verdict
  cases h1 : N0.loanOk d with
  | false => exact Or.inl ⟨rfl, rfl⟩
  | true =>
    right
    by_cases h2 : mem.size = 768
    · right
      rw [decide_eq_true h2]
      cases h3 : nodeOk mem d.ino with
      | false => exact Or.inl ⟨rfl, h2, rfl, rfl⟩
      | true =>
        right
        cases h4 : like mem d with
        | false => exact Or.inl ⟨rfl, h2, rfl, rfl, rfl⟩
        | true =>
          right
          cases h5 : N0.among (G0.gZ (O0.recd mem d.ino)) (d.pg ++ d.po) with
          | false => exact Or.inl ⟨rfl, h2, rfl, rfl, rfl, rfl⟩
          | true => exact Or.inr ⟨rfl, h2, rfl, rfl, rfl, rfl⟩
    · left
      exact ⟨rfl, by simp; omega, by rw [decide_eq_false h2]; rfl⟩

/-- What lookBack answers. -/
def Ans (mem : ByteArray) (d : Ln) (s : Sl) (w : World) (e : Ending) (w' : World) : Prop :=
  ∃ (k o t : Int) (a : Option Addr) (n c : Nat) (ae : Option Addr) (ne ce : Nat) (d' : Ln) (s' : Sl) (be : Option Addr) (n2 c2 : Nat), e = .returned (.tuple #[tv k o t a n c ae ne ce d' s', .slice be n2 c2, .bool (verdict mem d)]) ∧ Below w.heap.size w w' ∧
    (verdict mem d = true → d' = d ∧ s' = s ∧ ne = (oldE d).length ∧ T0.Row w' ae (oldE d) ∧ n2 = (nodeE mem d.ino).length ∧ T0.Row w' be (nodeE mem d.ino))

theorem ans_no {mem : ByteArray} {d : Ln} {s : Sl} {w w' : World} {k o t : Int} {a : Option Addr} {n c : Nat} {ae : Option Addr} {ne ce : Nat} {d' : Ln} {s' : Sl} {be : Option Addr} {n2 c2 : Nat} (h : verdict mem d = false) (hb : Below w.heap.size w w') : Ans mem d s w (.returned (.tuple #[tv k o t a n c ae ne ce d' s', .slice be n2 c2, .bool false])) w' :=
  ⟨k, o, t, a, n, c, ae, ne, ce, d', s', be, n2, c2, by rw [h], hb, fun h' => by rw [h] at h'; cases h'⟩
theorem ans_is {mem : ByteArray} {d : Ln} {s : Sl} {w w' : World} {k o t : Int} {a : Option Addr} {n c : Nat} {ae : Option Addr} {ce : Nat} {be : Option Addr} {c2 : Nat} {b : Bool} (h : verdict mem d = b) (hb : Below w.heap.size w w') (h1 : T0.Row w' ae (oldE d)) (h2 : T0.Row w' be (nodeE mem d.ino)) : Ans mem d s w (.returned (.tuple #[tv k o t a n c ae (oldE d).length ce d s, .slice be (nodeE mem d.ino).length c2, .bool b])) w' :=
  ⟨k, o, t, a, n, c, ae, _, ce, d, s, be, _, c2, by rw [h], hb, fun _ => ⟨rfl, rfl, rfl, h1, rfl, h2⟩⟩

/-- The blocks of lookBack. -/
structure LK (w : World) (d : Ln) (s : Sl) (ts ns : List Value) (Bt Bn : Nat) (W : World) : Prop where
  r : RL w d s W
  tb : K0.Blk Bt ts W
  nb : K0.Blk Bn ns W
  lt : w.heap.size + 2 ≤ Bt ∧ w.heap.size + 2 ≤ Bn
theorem LK.below {w W W' : World} {d : Ln} {s : Sl} {ts ns : List Value} {Bt Bn : Nat} (h : LK w d s ts ns Bt Bn W) (hb : Below W.heap.size W W') : LK w d s ts ns Bt Bn W' := ⟨h.r.below hb, h.tb.below hb, h.nb.below hb, h.lt⟩

theorem oldE_len (d : Ln) : (oldE d).length ≤ 13 := by
  unfold oldE
  split
  · unfold V0.dE
    split
    · rw [V0.ents_length]
      unfold V0.cnt
      omega
    · exact Nat.zero_le _
  · exact Nat.zero_le _
theorem nodeE_len (mem : ByteArray) (i : Int) : (nodeE mem i).length ≤ 13 := by
  unfold nodeE
  split
  · unfold V0.dE
    split
    · rw [V0.ents_length]
      unfold V0.cnt
      omega
    · exact Nat.zero_le _
  · exact Nat.zero_le _

end Go.Proofs.YtdljajjgppcjpaaGreat.D6

/- The contract of impl.Load, as the given laws call it. -/
namespace Go.Proofs.YtdljajjgppcjpaaGreat.O2
open Go.ChangeShapes Go.WideShapes Go.ChangeAt Go.RowKit
set_option linter.unusedVariables false
set_option linter.unusedSimpArgs false
set_option maxRecDepth 10000

open I0 (val vals)

/-- What Load answers. -/
def Ans (mem : ByteArray) (i : Int) (w : World) (e : Ending) (w' : World) : Prop :=
  ∃ a c, e = .returned (.tuple #[val (O0.lK mem i) (O0.lO mem i) (O0.lS mem i) a (O0.lZ mem i).length c, .string (O0.lD mem i), .bool (O0.isL mem i)]) ∧ J0.Own w.heap.size w' a (O0.lZ mem i) ∧ (O0.lZ mem i).length ≤ c ∧ Below w.heap.size w w'

theorem ans_no {mem : ByteArray} {i : Int} {w w' : World} (h : O0.isL mem i = false) (hb : Below w.heap.size w w') : Ans mem i w (.returned (.tuple #[val 0 0 0 none 0 0, .string ⟨#[]⟩, .bool false])) w' := by
  obtain ⟨h1, h2, h3, h4, h5⟩ := O0.l_no h
  exact ⟨none, 0, by rw [h1, h2, h3, h4, h5, h]; rfl, by rw [h4]; exact Or.inl rfl, by rw [h4]; exact Nat.le_refl _, hb⟩

theorem ans_yes {mem : ByteArray} {i : Int} {w w' : World} {a : Option Addr} {c : Nat} (h : O0.isL mem i = true) (ho : J0.Own w.heap.size w' a (G0.gZ (O0.recd mem i))) (hc : (G0.gZ (O0.recd mem i)).length ≤ c) (hb : Below w.heap.size w w') :
    Ans mem i w (.returned (.tuple #[val (G0.gK (O0.recd mem i)) (G0.gO (O0.recd mem i)) (G0.gS (O0.recd mem i)) a (G0.gZ (O0.recd mem i)).length c, .string ((O0.joined mem (G0.gZ (O0.recd mem i)) (G0.gZ (O0.recd mem i)).length).extract 0 (G0.gS (O0.recd mem i)).toNat), .bool true])) w' := by
  obtain ⟨h1, h2, h3, h4, h5⟩ := O0.l_yes h
  exact ⟨a, c, by rw [h1, h2, h3, h4, h5, h], by rw [h4]; exact ho, by rw [h4]; exact hc, hb⟩

/-- The record, read, where it is none's. -/
theorem read_yes {s : ByteArray} {W : World} (hs : s.size ≤ 281474976710656) (h : G0.isI s = true) {v : Value → Value} (hv : ∀ x, I1.rec (B1.byteAt s 0) x = v x) :
    Calls Tryz.prog 135 #[.string s] W fun e w' => ∃ a c, e = .returned (.tuple #[v (val (G0.gK s) (G0.gO s) (G0.gS s) a (G0.gZ s).length c), .bool true]) ∧ J0.Own W.heap.size w' a (G0.gZ s) ∧ (G0.gZ s).length ≤ c ∧ Below W.heap.size W w' := by
  obtain ⟨e1, e2, e3, e4⟩ := G0.g_yes h
  rw [e1, e2, e3, e4]
  exact G3.read_yes hs h hv

/-- The answer's block and the inode's own. -/
structure Ls (w : World) (B : Nat) (k o s : Int) (a : Option Addr) (zs : List Int) (c : Nat) (W : World) : Prop where
  rs : G3.Rs w a zs W
  nb : K0.Blk B (vals k o s a zs.length c) W
  ne : w.heap.size < B

variable {w W W' : World} {B : Nat} {k o s : Int} {a : Option Addr} {zs : List Int} {c : Nat}

theorem Ls.below (h : Ls w B k o s a zs c W) (hb : Below W.heap.size W W') : Ls w B k o s a zs c W' := ⟨h.rs.below hb, h.nb.below hb, h.ne⟩
theorem Ls.drew (h : Ls w B k o s a zs c W) : Ls w B k o s a zs c W.drew := ⟨⟨h.rs.res.drew, h.rs.own.drew, h.rs.bel.drew⟩, h.nb.drew, h.ne⟩
theorem ls_new (h : G3.Rs w a zs W) : Ls w W.heap.size k o s a zs c (W.alloc (.cells #[.int .i64 k, .int .i64 o, .int .i64 s, .slice a zs.length c] 69)) :=
  ⟨h.below (K0.below_new _ _), K0.blk_new (vals k o s a zs.length c) W 69, h.res.lt⟩

end Go.Proofs.YtdljajjgppcjpaaGreat.O2

/- The contracts of impl.Load and spec.Load, as the given laws call them. -/
namespace Go.Proofs.YtdljajjgppcjpaaGreat.O3
open Go.ChangeShapes Go.WideShapes Go.ChangeAt Go.RowKit
set_option linter.unusedVariables false
set_option linter.unusedSimpArgs false
set_option maxRecDepth 10000

open I0 (val vals)
open O2 (Ans ans_no ans_yes)

open O2 (Ls ls_new)

set_option maxHeartbeats 4000000 in
theorem spec_Load (mem : ByteArray) (i : Int) (w : World) (hms : mem.size ≤ 281474976710656) : Calls Tryz.prog 91 #[.string mem, .int .i64 i] w (Ans mem i w) := by
  have hrs := O0.recd_size mem i hms
  have hG : Hid (∀ W, Calls Tryz.prog 39 #[.string (O0.recd mem i)] W (G3.Ans (O0.recd mem i) W)) := fun W => G4.spec_GetInode _ _ hrs
  have hRc : Hid (∀ W, Calls Tryz.prog 95 #[.string mem, .int .i64 i] W fun e w' => e = .returned (.string (O0.recd mem i)) ∧ w' = W) := fun W => O1.l03Rec mem i W hms
  by_cases hL : O0.isL mem i = true
  · have hl := hL
    simp only [O0.isL, Bool.and_eq_true, decide_eq_true_eq, Bool.not_eq_true'] at hl
    obtain ⟨hm, hI, hk⟩ := hl
    have hk' : ¬ B1.byteAt (O0.recd mem i) 0 = 0 := of_decide_eq_false hk
    have g8 : ((mem.size : Int) != 768) = false := by simp; omega
    have hg := O0.got hI
    have hK0 : (G0.gK (O0.recd mem i) == 0) = false := by
      rw [(G0.g_yes hI).1]
      simpa using hk'
    have HF : Hid (∀ a c w', J0.Own w.heap.size w' a (G0.gZ (O0.recd mem i)) → (G0.gZ (O0.recd mem i)).length ≤ c → Below w.heap.size w w' → Ans mem i w (.returned (.tuple #[val (G0.gK (O0.recd mem i)) (G0.gO (O0.recd mem i)) (G0.gS (O0.recd mem i)) a (G0.gZ (O0.recd mem i)).length c, .string ((O0.joined mem (G0.gZ (O0.recd mem i)) (G0.gZ (O0.recd mem i)).length).extract 0 (G0.gS (O0.recd mem i)).toNat), .bool true])) w') := fun a c w' => ans_yes hL
    have hA : Hid (∀ W e w', G3.Ans (O0.recd mem i) W e w' → ∃ a c, e = .returned (.tuple #[val (G0.gK (O0.recd mem i)) (G0.gO (O0.recd mem i)) (G0.gS (O0.recd mem i)) a (G0.gZ (O0.recd mem i)).length c, .bool true]) ∧ J0.Own W.heap.size w' a (G0.gZ (O0.recd mem i)) ∧ (G0.gZ (O0.recd mem i)).length ≤ c ∧ Below W.heap.size W w') := fun W e w' ⟨a, c, he, ho, hc, hb⟩ => ⟨a, c, by rw [he, hI], ho, hc, hb⟩
    clear hk hk' hL hI hrs
    obtain ⟨R, hR⟩ : ∃ R, O0.recd mem i = R := ⟨_, rfl⟩
    rw [hR] at hg HF hA hG hRc hK0
    obtain ⟨K, hK⟩ : ∃ K, G0.gK R = K := ⟨_, rfl⟩
    obtain ⟨O, hO⟩ : ∃ O, G0.gO R = O := ⟨_, rfl⟩
    obtain ⟨S, hS⟩ : ∃ S, G0.gS R = S := ⟨_, rfl⟩
    obtain ⟨Z, hZ⟩ : ∃ Z, G0.gZ R = Z := ⟨_, rfl⟩
    rw [hK, hO, hS, hZ] at HF hA
    rw [hK, hS, hZ] at hg
    rw [hK] at hK0
    obtain ⟨⟨s0, s1⟩, zl, s2, hp, -⟩ := hg
    clear hK hO hS hZ hR
    go_enter Tryz.func91, Tryz.ntmps91
    go_wp2_with (first
      | (go_at_call 95; refine (hRc.out _).mono ?_; rintro e w' ⟨rfl, rfl⟩)
      | (go_at_call 39; refine (hG.out _).mono ?_; intro e w1 hans; obtain ⟨a, c, rfl, ho, hc, b1⟩ := hA.out _ _ _ hans; clear hans; have r1 : G3.Rs w a Z w1 := G3.rs_new b1 ho; have l1 := ls_new (k := K) (o := O) (s := S) (c := c) r1))
    obtain ⟨W1, hW1⟩ : ∃ W1, w1.alloc (.cells #[.int .i64 K, .int .i64 O, .int .i64 S, .slice a Z.length c] 69) = W1 := ⟨_, rfl⟩
    rw [hW1] at l1 ⊢
    have x0 := l1.nb.c0
    have x1 := l1.nb.c1
    have x2 := l1.nb.c2
    have x3 := l1.nb.c3
    clear hW1 b1 ho r1
    go_loop [9, 10] (fun t j => ∃ k : Nat, k ≤ Z.length ∧ j = .int .i64 k ∧ t = .string (O0.joined mem Z k)) (fun _ j => Z.length - (intOf j).toNat)
    case atStart => exact ⟨0, Nat.zero_le _, rfl, rfl⟩
    case round =>
      obtain ⟨k, hk, rfl, rfl⟩ := hrel
      have hjs := O0.joined_size hm hp k hk
      by_cases hlt : k < Z.length
      · obtain ⟨b, off, rfl, hb, hcell⟩ := l1.rs.own.row.get hlt
        have y1 := hcell k hlt
        have hz := R0.pages_bounds hp hlt
        have hu : O0.joined mem Z (k + 1) = O0.joined mem Z k ++ B2.part mem (Z.getD k 0 * 32) 32 := rfl
        obtain ⟨z, ez⟩ : ∃ z, Z.getD k 0 = z := ⟨_, rfl⟩
        rw [ez] at y1 hz hu
        have hps := O0.page_size hm hz.1 hz.2
        have e1 : (0 : Int) ≤ (k : Int) := by omega
        have e2 : (k : Int) < (Z.length : Int) := by omega
        have zz : 32 * k + 32 ≤ 9223372036854775807 := by omega
        have hpg : Hid (∀ W, Calls Tryz.prog 32 #[.string mem, .int .i64 z] W fun e w' => e = .returned (.string (B2.part mem (z * 32) 32)) ∧ W = w') := fun W => (O1.l03Page mem z W hms hz.1 hz.2).mono fun _ _ h => ⟨h.1, h.2.symm⟩
        have HU : Hid (O0.joined mem Z (k + 1) = O0.joined mem Z k ++ B2.part mem (z * 32) 32) := hu
        clear hu ez hcell hz
        go_wp2_with (go_at_call 32; refine (hpg.out _).mono ?_; rintro e w' ⟨rfl, rfl⟩)
        go_round
        case rel => exact ⟨k + 1, by omega, by go_num, by rw [HU.out]⟩
        case measure => simp [intOf]; omega
      · obtain rfl : k = Z.length := by omega
        have i1 : S ≤ 32 * (Z.length : Int) := s2
        have c0 := l1.rs.res.c0
        have c1 := l1.rs.res.c1
        have c2 := l1.rs.res.c2
        have c3 := l1.rs.res.c3
        have f0 := l1.rs.res.f0
        have f1 := l1.rs.res.f1
        have f2 := l1.rs.res.f2
        have f3 := l1.rs.res.f3
        have i2 : S ≤ ((32 * Z.length : Nat) : Int) := by omega
        have hnb := (((l1.nb.setOther (B' := w.heap.size) (by have := l1.ne; omega) 0 (.int .i64 K)).setOther (B' := w.heap.size) (by have := l1.ne; omega) 1 (.int .i64 O)).setOther (B' := w.heap.size) (by have := l1.ne; omega) 2 (.int .i64 S)).setOther (B' := w.heap.size) (by have := l1.ne; omega) 3 (.slice a Z.length c)
        have y2 := hnb.c2
        clear hnb
        go_wp2
        go_region
        all_goals
          have q := l1.rs.res.put4 (.int .i64 K) (.int .i64 O) (.int .i64 S) (.slice a Z.length c)
          have d := l1.rs.done (.int .i64 K) (.int .i64 O) (.int .i64 S) (.slice a Z.length c)
          go_wp2
          refine bodyPost_ret (v := .tuple #[val K O S a Z.length c, .string ((O0.joined mem Z Z.length).extract 0 S.toNat), .bool true]) (by simp [results, Tryz.results91, go_sem, q.c0, q.c1, q.c2, q.c3]) rfl (HF.out _ _ _ ?_ hc ?_)
          · exact d.1.drew
          · exact d.2.drew
  · have hL' : O0.isL mem i = false := by simpa using hL
    have HF : Hid (∀ w', Below w.heap.size w w' → Ans mem i w (.returned (.tuple #[val 0 0 0 none 0 0, .string ⟨#[]⟩, .bool false])) w') := fun w' => ans_no hL'
    have hA : Hid (∀ W e w', G3.Ans (O0.recd mem i) W e w' → ∃ a c, e = .returned (.tuple #[val (G0.gK (O0.recd mem i)) (G0.gO (O0.recd mem i)) (G0.gS (O0.recd mem i)) a (G0.gZ (O0.recd mem i)).length c, .bool (G0.isI (O0.recd mem i))]) ∧ J0.Own W.heap.size w' a (G0.gZ (O0.recd mem i)) ∧ (G0.gZ (O0.recd mem i)).length ≤ c ∧ Below W.heap.size W w') := fun W e w' h => h
    have hcase : ((mem.size : Int) != 768) = true ∨ (((mem.size : Int) != 768) = false ∧ G0.isI (O0.recd mem i) = false) ∨ (((mem.size : Int) != 768) = false ∧ G0.isI (O0.recd mem i) = true ∧ (G0.gK (O0.recd mem i) == 0) = true) := by
      by_cases hm : mem.size = 768
      · right
        have g8 : ((mem.size : Int) != 768) = false := by simp; omega
        cases hI : G0.isI (O0.recd mem i) with
        | false => exact Or.inl ⟨g8, rfl⟩
        | true =>
          refine Or.inr ⟨g8, rfl, ?_⟩
          rw [(G0.g_yes hI).1]
          by_cases h0 : B1.byteAt (O0.recd mem i) 0 = 0
          · simpa using h0
          · rw [O0.isL_of hm hI h0] at hL'
            cases hL'
      · left
        simp
        omega
    clear hL hL' hrs
    obtain ⟨R, hR⟩ : ∃ R, O0.recd mem i = R := ⟨_, rfl⟩
    rw [hR] at hA hG hRc hcase
    obtain ⟨K, hK⟩ : ∃ K, G0.gK R = K := ⟨_, rfl⟩
    obtain ⟨O, hO⟩ : ∃ O, G0.gO R = O := ⟨_, rfl⟩
    obtain ⟨S, hS⟩ : ∃ S, G0.gS R = S := ⟨_, rfl⟩
    obtain ⟨Z, hZ⟩ : ∃ Z, G0.gZ R = Z := ⟨_, rfl⟩
    rw [hK, hO, hS, hZ] at hA
    rw [hK] at hcase
    clear hK hO hS hZ hR
    rcases hcase with g8 | ⟨g8, gI⟩ | ⟨g8, gI, gK⟩
    all_goals
      go_enter Tryz.func91, Tryz.ntmps91
      go_wp2_with (first
        | (go_at_call 95; refine (hRc.out _).mono ?_; rintro e w' ⟨rfl, rfl⟩)
        | (go_at_call 39; refine (hG.out _).mono ?_; intro e w1 hans; obtain ⟨a, c, rfl, ho, hc, b1⟩ := hA.out _ _ _ hans; clear hans; have r1 : G3.Rs w a Z w1 := G3.rs_new b1 ho; have l1 := ls_new (k := K) (o := O) (s := S) (c := c) r1; have x0 := l1.nb.c0; have c0 := l1.rs.res.c0; have c1 := l1.rs.res.c1; have c2 := l1.rs.res.c2; have c3 := l1.rs.res.c3; have f0 := l1.rs.res.f0; have f1 := l1.rs.res.f1; have f2 := l1.rs.res.f2; have f3 := l1.rs.res.f3))
      have q := l1.rs.res.put4 (.int .i64 0) (.int .i64 0) (.int .i64 0) (.slice none 0 0)
      have d := l1.rs.done (.int .i64 0) (.int .i64 0) (.int .i64 0) (.slice none 0 0)
      exact bodyPost_ret (v := .tuple #[val 0 0 0 none 0 0, .string ⟨#[]⟩, .bool false]) (by simp [results, Tryz.results91, go_sem, q.c0, q.c1, q.c2, q.c3]) rfl (HF.out _ d.2)
end Go.Proofs.YtdljajjgppcjpaaGreat.O3

/- Contracts of spec.l05Before and spec.l05Now, and what an append of a row keeps. -/
namespace Go.Proofs.YtdljajjgppcjpaaGreat.D7
open Go.ChangeShapes Go.WideShapes Go.ChangeAt Go.RowKit
set_option linter.unusedVariables false
set_option linter.unusedSimpArgs false
set_option maxRecDepth 10000

open N0 (Ln)
open N1 (Sl LB lb_new)
open J0 (IBuf Own)
open I2 (ints)
open D0 (inos)
open D1 (nodeE data)

/-- The bytes of a directory are right. -/
def nowOk (mem : ByteArray) (i : Int) : Bool := !decide (G0.gK (O0.recd mem i) = 2) || V0.isD (data mem i)

theorem isL_of {mem : ByteArray} {i : Int} (hm : mem.size = 768) (hI : G0.isI (O0.recd mem i) = true) (hk : G0.gK (O0.recd mem i) ≠ 0) : O0.isL mem i = true := by
  obtain ⟨e1, -, -, -⟩ := G0.g_yes hI
  rw [O0.isL, decide_eq_true hm, hI, Bool.true_and, Bool.true_and, decide_eq_false (by rw [← e1]; exact hk)]
  rfl

section
variable {base n cap : Nat} {a : Option Addr} {w W : World} {zs : List Int}

/-- What an append of a row makes. -/
theorem run_rows (ty : TypeId) (hbuf : IBuf base w a n cap zs) (ax : Option Addr) (cx : Nat) (xs : List Int) (hR : P0.Row w ax xs) (hlen : n + xs.length ≤ 4194304) (hb : base ≤ w.heap.size) :
    ∃ a' cap' w', (Builtin.append_ #[24, 24] ty #[.slice a n cap, .slice ax xs.length cx]).run Tryz.prog w = .ok (.slice a' (n + xs.length) cap') w' ∧ IBuf base w' a' (n + xs.length) cap' (zs ++ xs) ∧ w.grownBy w' (Value.slice a n cap).ownBlock ∧ (∀ g, (Value.slice a' (n + xs.length) cap').ownBlock = some g → (Value.slice a n cap).ownBlock = some g ∨ g = w.heap.size) := by
  obtain ⟨i0, hi, hz0, hz1, hz2⟩ := info_parts I2.info3
  by_cases h0 : xs = []
  · subst h0
    refine ⟨a, cap, w, Q1.run_append_none w 24 _ 3 i0 Tryz.underlying24 hi a n cap hbuf.fits ax cx, by rw [List.append_nil]; exact hbuf, ⟨rfl, rfl, rfl, Nat.le_refl _, fun _ _ _ => rfl⟩, fun g hg => Or.inl ?_⟩
    cases a with
    | none => cases hg
    | some p => exact hg
  · rcases hR with hR | ⟨b, off, rfl, hb2, hc⟩
    · exact absurd hR h0
    · have hm : 0 < xs.length := List.length_pos_iff.2 h0
      obtain ⟨g, cp, w', hrun, r1, r2, r3, r4⟩ := run_append_lies (P := Tryz.prog) w 24 ty base 3 i0 (.int .i64 0) 1 8 Tryz.underlying24 hi hz0 hz1 hz2 rfl (by omega) _ n _ hbuf.2 ⟨b, off, none⟩ xs.length cx (ints xs) (by simp) (by
        intro j u hj
        have hj' : j < xs.length := by
          have := (List.getElem?_eq_some_iff.1 hj).1
          simpa using this
        rw [B0.add_off, hc j hj', P0.getD_get _ _ hj', ← hj]
        simp [hj']) (Q1.ints_one xs) hm (by unfold maxLen; omega) (by omega) hb _ rfl
      refine ⟨some ⟨g, 0, none⟩, cp, w', hrun, ⟨by rw [hbuf.1]; simp, ?_⟩, r2, fun g2 h2 => ?_⟩
      · rw [show ints (zs ++ xs) = ints zs ++ ints xs by simp]
        exact r1
      · cases h2
        exact r3

theorem run_below (hbuf : IBuf base w a n cap zs) (hb : base ≤ w.heap.size) (hg : w.grownBy W (Value.slice a n cap).ownBlock) : Below base w W := F0.below_grown (Below.refl _ _) hg (J0.own_block hbuf) hb

theorem own_grown {b : Nat} {r : Option Nat} (h : Own b w a zs) (hg : w.grownBy W r) (hne : ∀ g, a = some ⟨g, 0, none⟩ → r ≠ some g) : Own b W a zs := by
  rcases h with h | ⟨g, e, hbg, hk⟩
  · exact Or.inl h
  · refine Or.inr ⟨g, e, hbg, ?_⟩
    have hb : W.heap[g]? = w.heap[g]? := hg.block g hk.lt (fun q => hne g e q.symm)
    exact ⟨fun j hj => (World.cell?_of_block (a := ⟨g, j, none⟩) hb).trans (hk.cell j hj), fun j hj => (World.frozen?_of_block (a := ⟨g, j, none⟩) hb).trans (hk.free j hj), Nat.lt_of_lt_of_le hk.lt hg.size⟩

theorem blk_grown {B : Nat} {vs : List Value} {r : Option Nat} (hk : K0.Blk B vs w) (hg : w.grownBy W r) (hne : r ≠ some B) : K0.Blk B vs W := by
  have hb : W.heap[B]? = w.heap[B]? := hg.block B hk.lt (fun q => hne q.symm)
  exact ⟨fun j hj => (World.cell?_of_block (a := ⟨B, j, none⟩) hb).trans (hk.cell j hj), fun j hj => (World.frozen?_of_block (a := ⟨B, j, none⟩) hb).trans (hk.free j hj), Nat.lt_of_lt_of_le hk.lt hg.size⟩

/-- 'list = append(list, others...)', and what it keeps. -/
theorem append_rows2 {ops : Array Oper} {rest : List Oper} {o : Oper} {A : Act} {Q : Exit → Act → World → Prop} (hgd : o.guard = none) (sl x : Operand)
    (ho : o.op = .call { callee := .builtin .append, args := #[sl, x], argTypes := #[24, 24] })
    (hbuf : IBuf base w a n cap zs) (ax : Option Addr) (cx : Nat) (xs : List Int) (hs : A.eval sl = .slice a n cap) (hx : A.eval x = .slice ax xs.length cx) (hR : P0.Row w ax xs) (hlen : n + xs.length ≤ 4194304) (hb : base ≤ w.heap.size)
    (h : ∀ a' cap' w', IBuf base w' a' (n + xs.length) cap' (zs ++ xs) → w.grownBy w' (Value.slice a n cap).ownBlock → (∀ g, (Value.slice a' (n + xs.length) cap').ownBlock = some g → (Value.slice a n cap).ownBlock = some g ∨ g = w.heap.size) → wpList Tryz.prog ops Q rest (A.put o.dst (.slice a' (n + xs.length) cap')) w') : wpList Tryz.prog ops Q (o :: rest) A w := by
  obtain ⟨a', cap', w', hrun, r1, r2, r3⟩ := run_rows o.type hbuf ax cx xs hR hlen hb
  exact Lib.wpList_append_run _ hgd sl x 24 24 ho _ _ hs hx _ _ hrun (h a' cap' w' r1 r2 r3)

/-- .. in a region that draws its order, where it alone may come up. -/
theorem one_rows {ops : Array Oper} {Q : Exit → Act → World → Prop} {S : World → Prop} {A : Act} {i : Nat} {o : Oper} {listed : Array Bool} {fuel : Nat} {md : Region.Mode} (hr : Region.ready md ops listed = [i]) (hoi : ops[i]? = some o) (hw : Region.wanted o (yielded ops A.tmps) = true) (sl x : Operand)
    (ho : o.op = .call { callee := .builtin .append, args := #[sl, x], argTypes := #[24, 24] })
    (hbuf : IBuf base w a n cap zs) (ax : Option Addr) (cx : Nat) (xs : List Int) (hs : A.eval sl = .slice a n cap) (hx : A.eval x = .slice ax xs.length cx) (hR : P0.Row w ax xs) (hlen : n + xs.length ≤ 4194304) (hb : base ≤ w.heap.size)
    (h : ∀ a' cap' w', IBuf base w' a' (n + xs.length) cap' (zs ++ xs) → Below base w w' → S w' ∧ wpAnyH Tryz.prog md ops Q S fuel (listed.setIfInBounds i true) (A.put o.dst (.slice a' (n + xs.length) cap')) w') : wpAnyH Tryz.prog md ops Q S (fuel + 1) listed A w := by
  obtain ⟨a', cap', w', hrun, r1, r2, r3⟩ := run_rows o.type hbuf ax cx xs hR hlen hb
  obtain ⟨h1, h2⟩ := h a' cap' w' r1 (run_below hbuf hb r2)
  exact Y0.one_plain hr hoi hw (by simp [execOp, ho, resolve, invoke, builtin, hs, hx, hrun, Result.andThen]) h1 h2
end
end Go.Proofs.YtdljajjgppcjpaaGreat.D7

/- The contract of impl.Come, as the given laws call it. -/
namespace Go.Proofs.YtdljajjgppcjpaaGreat.Y1
open Go.ChangeShapes Go.WideShapes Go.ChangeAt Go.RowKit
set_option linter.unusedVariables false
set_option linter.unusedSimpArgs false
set_option maxRecDepth 10000

open N0 (Ln)
open N1 (Sl Lists Fit)
open N7 (tv tvs tObj)
open D1 (nodeE)
open J0 (IBuf Own)
open I2 (ints)

/-- Those of a row that are among others. -/
def only (zs al : List Int) : List Int := zs.filter (P0.has al)
/-- What Come answers. -/
def come (mem : ByteArray) (d : Ln) : List Int := if D6.verdict mem d = true then only d.fr (D0.inos (nodeE mem d.ino)) else []

theorem only_yes {zs al : List Int} {k : Nat} (hk : k < zs.length) (h : P0.has al (zs.getD k 0) = true) : only (zs.take (k + 1)) al = only (zs.take k) al ++ [zs.getD k 0] := by
  unfold only
  rw [List.take_succ_eq_append_getElem hk, List.filter_append, P0.getD_get _ _ hk]
  rw [P0.getD_get _ _ hk] at h
  simp [h]
theorem only_no {zs al : List Int} {k : Nat} (hk : k < zs.length) (h : P0.has al (zs.getD k 0) = false) : only (zs.take (k + 1)) al = only (zs.take k) al := by
  unfold only
  rw [List.take_succ_eq_append_getElem hk, List.filter_append]
  rw [P0.getD_get _ _ hk] at h
  simp [h]
theorem only_len (zs al : List Int) (k : Nat) : (only (zs.take k) al).length ≤ zs.length := Nat.le_trans (List.length_filter_le _ _) (by rw [List.length_take]; omega)

/-- A row of entries that lies apart from a row that grows. -/
def Apart (W : World) (be : Option Addr) (es : List T0.Ent) (a : Option Addr) : Prop := T0.Row W be es ∧ (es = [] ∨ ∀ p q, a = some p → be = some q → p.block ≠ q.block)

variable {w W W' : World} {a a' be : Option Addr} {es : List T0.Ent}
theorem Apart.below (h : Apart W be es a) (hb : Below W.heap.size W W') : Apart W' be es a := ⟨h.1.below hb, h.2⟩
theorem Apart.grown {n c n' c' : Nat} (h : Apart W be es a) (hg : W.grownBy W' (Value.slice a n c).ownBlock) (hn : ∀ g, (Value.slice a' n' c').ownBlock = some g → (Value.slice a n c).ownBlock = some g ∨ g = W.heap.size) : Apart W' be es a' := by
  rcases h.1 with h0 | ⟨b, off, rfl, hlt, hc⟩
  · exact ⟨Or.inl h0, Or.inl h0⟩
  · rcases h.2 with h0 | hne
    · exact ⟨Or.inl h0, Or.inl h0⟩
    · have hb : W'.heap[b]? = W.heap[b]? := hg.block b hlt (fun q => by
        cases a with
        | none => cases q
        | some p => exact hne p _ rfl rfl (by simpa [Value.ownBlock] using q.symm))
      refine ⟨Or.inr ⟨b, off, rfl, Nat.lt_of_lt_of_le hlt hg.size, fun j hj => ⟨(World.cell?_of_block (a := ⟨b, off + j * 2, none⟩) hb).trans (hc j hj).1, (World.cell?_of_block (a := ⟨b, off + j * 2 + 1, none⟩) hb).trans (hc j hj).2⟩⟩, Or.inr fun p q hp hq => ?_⟩
      cases hq
      subst hp
      rcases hn p.block rfl with h1 | h1
      · cases a with
        | none => cases h1
        | some p0 =>
          have : p0.block = p.block := by simpa [Value.ownBlock] using h1
          rw [← this]
          exact hne p0 _ rfl rfl
      · show p.block ≠ b
        omega

/-- A block without cells is none of a row's. -/
theorem apart_new {B : Nat} (hR : T0.Row W be es) (hB : W.heap[B]? = some (.cells #[] 3)) : Apart W be es (some ⟨B, 0, none⟩) := by
  rcases hR with h0 | ⟨b, off, rfl, hlt, hc⟩
  · exact ⟨Or.inl h0, Or.inl h0⟩
  · by_cases h0 : es = []
    · exact ⟨Or.inl h0, Or.inl h0⟩
    · refine ⟨Or.inr ⟨b, off, rfl, hlt, hc⟩, Or.inr fun p q hp hq => ?_⟩
      cases hp
      cases hq
      show B ≠ b
      rintro rfl
      have := (hc 0 (List.length_pos_iff.2 h0)).1
      simp [World.cell?, hB] at this

theorem row_one (w : World) (z : Int) : P0.Row (w.alloc (.cells #[.int .i64 z] 3)) (some ⟨w.heap.size, 0, none⟩) [z] := I2.row_of_blk (K0.blk_new (ints [z]) w 3)

end Go.Proofs.YtdljajjgppcjpaaGreat.Y1
