/- Joined texts: plain facts and contracts. -/
import Derived.Test.YtljnkicgahepfaaGreatDoorJlU
import Derived.Test.YtljnkicgahepfaaGreatDoorJlQ
import Derived.Deep.LoopGhost
set_option linter.unusedVariables false
set_option linter.unusedSimpArgs false
set_option maxRecDepth 10000
namespace Go.Proofs.YtljnkicgahepfaaGreatDoor.TS
open Go.ChangeShapes Go.WideShapes Go.ChangeAt Go.RowKit
variable {w W W' : World} {mem : ByteArray}
open J0 (IBuf Own)
open I2 (ints)
open TW (tK tZ tE cat)
theorem append_one {ops : Array Oper} {rest : List Oper} {o : Oper} {A : Act} {Q : Exit → Act → World → Prop} {base g n cap : Nat} {xs : List Value} (T e : TypeId) (z : Value) (bytes : Nat) (hu : Tryz.prog.underlying T = some (.slice e)) (hinfo : (Tryz.prog.info? e).map (fun i => (i.zero, i.size, i.bytes)) = some (some z, 1, bytes)) (hzc : z.cells.size = 1) (hby : bytes ≤ 16)
  (hgd : o.guard = none) (sl y : Operand) (ho : o.op = .call { callee := .builtin .append, args := #[sl, y], argTypes := #[T, T] })
  (hbuf : w.ownsRow base e 1 (.slice (some ⟨g, 0, none⟩) n cap) n xs) (v : Value) (hv : v.oneCell' = true) (hs : A.eval sl = .slice (some ⟨g, 0, none⟩) n cap) {H : Nat} (hH : w.heap.size = H) (hx : A.eval y = .slice (some ⟨H, 0, none⟩) 1 1) (hlen : n + 1 ≤ 1048576) (hb : base ≤ w.heap.size)
  (h : ∀ g' cap' w', w'.ownsRow base e 1 (.slice (some ⟨g', 0, none⟩) (n + 1) cap') (n + 1) (xs ++ [v]) → w.grownBy w' (some g) → (g' = g ∨ w.heap.size ≤ g') → wpList Tryz.prog ops Q rest (A.put o.dst (.slice (some ⟨g', 0, none⟩) (n + 1) cap')) w') : wpList Tryz.prog ops Q (o :: rest) A (w.alloc (.cells #[v] e)) := by
 subst hH
 obtain ⟨i0, hi, hz0, hz1, hz2⟩ := info_parts hinfo
 have hb2 := hbuf.alloc (.cells #[v] e)
 have hone : ∀ u ∈ [v], u.oneCell' = true := by
  intro u hu
  simp at hu
  subst hu
  exact hv
 have hbb : (n + 1) * bytes ≤ 140737488355328 := Nat.le_trans (Nat.mul_le_mul hlen hby) (by decide)
 refine wpList_append_lies _ hgd sl y T ho base e i0 z 1 bytes hu hi hz0 hz1 hz2 hzc (by omega) _ n _ hs hb2 ⟨w.heap.size, 0, none⟩ 1 1 [v] hx rfl (World.news_of_block (heap_alloc_new w _)) hone (by omega) (by unfold maxLen; omega) hbb (by simp; omega) _ rfl ?_
 intro g' cap' w' ho' hg' hl' _
 refine h g' cap' w' ho' ((World.grownBy_alloc w _ _).trans hg') ?_
 rcases hl' with q | q
 ·left
  have e' : g = g' := by simpa [Value.ownBlock] using q
  exact e'.symm
 ·right
  rw [q]
  simp
theorem infoS : (Tryz.prog.info? 9).map (fun i => (i.zero, i.size, i.bytes)) = some (some (.string ⟨#[]⟩), 1, 16) := by kernel_rfl
theorem owns_blk {base g n cap : Nat} {e : TypeId} {xs : List Value} (h : w.ownsRow base e 1 (.slice (some ⟨g, 0, none⟩) n cap) n xs) : K0.Blk g xs w := by
 have hl : xs.length = n := by have := h.1; omega
 refine ⟨fun j hj => ?_, fun j hj => h.frozenAt j, (h.lt g rfl).2⟩
 rw [h.cellAt j (by omega), List.getElem?_eq_getElem hj]
def pv (l : List (Nat × T0.Ent)) : List Value := (List.range 8).map fun (x : Nat) => .int .i64 (TR.par l (x : Int))
def nv (l : List (Nat × T0.Ent)) : List Value := (List.range 8).map fun (x : Nat) => .string (TR.nam l (x : Int))
theorem pv_length (l : List (Nat × T0.Ent)) : (pv l).length = 8 := by simp [pv]
theorem nv_length (l : List (Nat × T0.Ent)) : (nv l).length = 8 := by simp [nv]
theorem map_set {f : Nat → Value} {x : Nat} (v : Value) (hx : x < 8) : ((List.range 8).map f).set x v = (List.range 8).map fun y => if y = x then v else f y := by
 apply List.ext_getElem
 ·simp
 ·intro k h1 h2
  have hk : k < 8 := by simpa using h1
  rw [List.getElem_set]
  by_cases e : x = k
  ·subst e
   simp
  ·have e' : ¬ k = x := fun q => e q.symm
   simp [e, e']
theorem pv_first {l : List (Nat × T0.Ent)} {i x : Nat} {nm : ByteArray} (hx : x < 8) (h : TR.par l (x : Int) = -1) : (pv l).set x (.int .i64 (i : Int)) = pv (l ++ [(i, ((x : Int), nm))]) := by
 unfold pv
 rw [map_set _ hx]
 apply List.map_congr_left
 intro y _
 rw [TR.par_step]
 by_cases e : y = x
 ·subst e
  rw [if_pos rfl, if_pos rfl, if_pos h]
 ·have : ¬ ((x : Int) = (y : Int)) := by omega
  rw [if_neg e, if_neg this]
theorem pv_more {l : List (Nat × T0.Ent)} {i x : Nat} {nm : ByteArray} (hx : x < 8) (h : ¬ TR.par l (x : Int) = -1) : (pv l).set x (.int .i64 (-2)) = pv (l ++ [(i, ((x : Int), nm))]) := by
 unfold pv
 rw [map_set _ hx]
 apply List.map_congr_left
 intro y _
 rw [TR.par_step]
 by_cases e : y = x
 ·subst e
  rw [if_pos rfl, if_pos rfl, if_neg h]
 ·have : ¬ ((x : Int) = (y : Int)) := by omega
  rw [if_neg e, if_neg this]
theorem nv_first {l : List (Nat × T0.Ent)} {i x : Nat} {nm : ByteArray} (hx : x < 8) (h : TR.par l (x : Int) = -1) : (nv l).set x (.string nm) = nv (l ++ [(i, ((x : Int), nm))]) := by
 unfold nv
 rw [map_set _ hx]
 apply List.map_congr_left
 intro y _
 rw [TR.nam_step]
 by_cases e : y = x
 ·subst e
  rw [if_pos rfl, if_pos ⟨rfl, h⟩]
 ·have : ¬ ((x : Int) = (y : Int) ∧ TR.par l (y : Int) = -1) := fun q => by have := q.1; omega
  rw [if_neg e, if_neg this]
theorem nv_more {l : List (Nat × T0.Ent)} {i x : Nat} {nm : ByteArray} (h : ¬ TR.par l (x : Int) = -1) : nv l = nv (l ++ [(i, ((x : Int), nm))]) := by
 unfold nv
 apply List.map_congr_left
 intro y _
 rw [TR.nam_step]
 have : ¬ ((x : Int) = (y : Int) ∧ TR.par l (y : Int) = -1) := fun q => by
  have e : x = y := by have := q.1; omega
  subst e
  exact h q.2
 rw [if_neg this]
theorem pv_nil : pv [] = List.replicate 8 (.int .i64 (-1)) := rfl
theorem nv_nil : nv [] = List.replicate 8 (.string ⟨#[]⟩) := rfl
theorem ret_bool {a b : Bool} (h : a = b) : Ending.returned (.bool a) = .returned (.bool b) := by rw [h]
set_option maxHeartbeats 1000000 in
theorem l04Root (p : Int → Int) (g c : Nat) (i : Int) (w : World) (hp : ∀ x, p x < 8) (hB : ∀ x : Nat, x < 8 → w.cell? ⟨g, x, none⟩ = some (.int .i64 (p (x : Int)))) (hi : i < 8) :
  Calls Tryz.prog 118 #[.slice (some ⟨g, 0, none⟩) 8 c, .int .i64 i] w fun e w' => e = .returned (.bool (TR.root p 8 i)) ∧ w' = w := by
 go_enter Tryz.func118, Tryz.ntmps118
 go_wp2
 go_loop [1, 5] (fun v n => ∃ (k : Nat) (j : Int), k ≤ 8 ∧ n = .int .i64 k ∧ v = .int .i64 j ∧ j < 8 ∧ TR.root p (8 - k) j = TR.root p 8 i) (fun _ n => 8 - (intOf n).toNat)
 case atStart => exact ⟨0, i, Nat.zero_le _, rfl, rfl, hi, rfl⟩
 case round =>
  obtain ⟨k, j, hk, rfl, rfl, hj, hr⟩ := hrel
  have HR : Hid (TR.root p (8 - k) j = TR.root p 8 i) := hr
  clear hr
  by_cases hlt : k < 8
  ·have e1 : (k : Int) < 8 := by omega
   by_cases h0 : j = 0
   ·subst h0
    go_wp2
    go_ret
    exact ⟨ret_bool (by rw [← HR.out, TR.root_zero]), rfl⟩
   ·have h0' : (j == 0) = false := by simpa using h0
    by_cases hn : j < 0
    ·go_wp2
     go_ret
     exact ⟨ret_bool (by rw [← HR.out, TR.root_neg _ _ _ hn]), rfl⟩
    ·obtain ⟨x, rfl⟩ : ∃ x : Nat, j = (x : Int) := ⟨j.toNat, by omega⟩
     have hc := hB x (by omega)
     have hn' : decide ((x : Int) < 0) = false := by simp
     have b1 : (0 : Int) ≤ (x : Int) := by omega
     have b2 : (x : Int) < 8 := by omega
     have hq := hp (x : Int)
     have HS : Hid (TR.root p (8 - (k + 1)) (p (x : Int)) = TR.root p 8 i) := by
      show _ = _
      rw [← HR.out, show 8 - k = (8 - (k + 1)) + 1 by omega, TR.root_pos _ _ _ (by omega)]
     obtain ⟨q, eq⟩ : ∃ q, p (x : Int) = q := ⟨_, rfl⟩
     rw [eq] at hc hq HS
     clear eq hB hp
     go_wp2
     go_round
     case rel => exact ⟨k + 1, q, by omega, by go_num, rfl, hq, HS.out⟩
     case measure => simp [intOf]; omega
  ·obtain rfl : k = 8 := by omega
   have hfin : (j == 0) = TR.root p 8 i := by rw [← HR.out]; rfl
   clear HR
   obtain ⟨r, er⟩ : ∃ r, TR.root p 8 i = r := ⟨_, rfl⟩
   rw [er] at hfin
   have HE : Hid (TR.root p 8 i = r) := er
   clear er
   go_wp2
   go_ret
   exact ⟨ret_bool HE.out.symm, rfl⟩
set_option maxHeartbeats 1000000 in
theorem l04Owned (mem : ByteArray) (w : World) (hms : mem.size ≤ 281474976710656) :
  Calls Tryz.prog 115 #[.string mem] w fun e w' => ∃ a c, e = .returned (.slice a (cat (tZ mem) 8).length c) ∧ (cat (tZ mem) 8).length ≤ c ∧ J0.Own w.heap.size w' a (cat (tZ mem) 8) ∧ Below w.heap.size w w' := by
 have hG : Hid (∀ (k : Nat) W, Calls Tryz.prog 182 #[.string (O0.recd mem (k : Int))] W (G3.Ans (O0.recd mem (k : Int)) W)) := fun k W => G4.spec_GetInode _ W (O0.recd_size mem _ hms)
 have hA : Hid (∀ (k : Nat) W e w', G3.Ans (O0.recd mem (k : Int)) W e w' → ∃ (q o s : Int) (a : Option Addr) (c : Nat) (b : Bool), e = .returned (.tuple #[.agg #[.int .i64 q, .int .i64 o, .int .i64 s, .slice a (tZ mem k).length c], .bool b]) ∧ J0.Own W.heap.size w' a (tZ mem k) ∧ Below W.heap.size W w') := fun k W e w' ⟨a, c, he, ho, hc, hb⟩ => ⟨_, _, _, a, c, _, he, ho, hb⟩
 have hL : Hid (∀ (k : Nat) W, Calls Tryz.prog 120 #[.string mem, .int .i64 (k : Int)] W fun e w' => e = .returned (.string (O0.recd mem (k : Int))) ∧ w' = W) := fun k W => O1.l03Rec mem k W hms
 have hlen := TW.cat_len (TW.pg_few mem)
 have b0 := J0.ibuf_made (base := w.heap.size) w (Nat.le_refl _)
 have l0 := K0.below_new w (.cells #[] 3)
 go_enter Tryz.func115, Tryz.ntmps115
 go_wp2
 go_loopw [3, 4] (fun v i w' => ∃ (k n c : Nat) (a : Option Addr), k ≤ 8 ∧ i = .int .i64 k ∧ v = .slice a n c ∧ IBuf w.heap.size w' a n c (cat (tZ mem) k) ∧ Below w.heap.size w w') (fun _ i _ => 8 - (intOf i).toNat)
 case atStart => exact ⟨0, 0, 0, _, Nat.zero_le _, rfl, rfl, b0, l0⟩
 case round =>
  obtain ⟨k, n, c, a, hk, rfl, rfl, hbuf, hbel⟩ := hrel
  clear b0 l0
  by_cases hlt : k < 8
  ·have e1 : (k : Int) < 8 := by omega
   have HS : Hid (cat (tZ mem) k ++ tZ mem k = cat (tZ mem) (k + 1)) := rfl
   have hnl : n ≤ 96 := by
    have := hlen k
    rw [hbuf.1]
    omega
   have hfew := TW.pg_few mem k
   have hLk := hL.out k
   have hGk := hG.out k
   have hAk : Hid (∀ W e w', G3.Ans (O0.recd mem (k : Int)) W e w' → ∃ (q o s : Int) (a : Option Addr) (c : Nat) (b : Bool), e = .returned (.tuple #[.agg #[.int .i64 q, .int .i64 o, .int .i64 s, .slice a (tZ mem k).length c], .bool b]) ∧ J0.Own W.heap.size w' a (tZ mem k) ∧ Below W.heap.size W w') := hA.out k
   obtain ⟨zk, hzk⟩ : ∃ zk, tZ mem k = zk := ⟨_, rfl⟩
   obtain ⟨rk, hrk⟩ : ∃ rk, O0.recd mem (k : Int) = rk := ⟨_, rfl⟩
   rw [hzk] at HS hfew hAk
   rw [hrk] at hLk hGk hAk
   clear hzk hrk hL hG hA
   go_wp2_with (first
    | (go_at_call 120; refine (hLk _).mono ?_; rintro e wq ⟨rfl, rfl⟩)
    | (go_at_call 182; refine (hGk _).mono ?_; intro e w2 hans; obtain ⟨q, o, s, a2, c2, bb, rfl, o2, b2⟩ := hAk.out _ _ _ hans; clear hans; have n2 := K0.below_new w2 (.cells #[.int .i64 q, .int .i64 o, .int .i64 s, .slice a2 zk.length c2] 143); have y3 := (K0.blk_new [.int .i64 q, .int .i64 o, .int .i64 s, .slice a2 zk.length c2] w2 143).c3; have bf2 := (hbuf.below b2).below n2; have r2 := (o2.row.below n2); have l2 := (hbel.trans (b2.mono hbel.size)).trans (n2.mono (Nat.le_trans hbel.size b2.size)))
    | (at_builtin; refine Q1.append_rows rfl (.tmp 19) (.tmp 21) rfl bf2 _ _ zk (by rfl) (by rfl) r2 (by omega) l2.size ?_; intro a3 c3 w3 bf3 b3))
   go_roundw
   case rel => exact ⟨k + 1, n + zk.length, c3, a3, by omega, by go_num, rfl, by rw [← HS.out]; exact bf3, l2.trans b3⟩
   case measure => simp [intOf]; omega
  ·obtain rfl : k = 8 := by omega
   have hn : n = (cat (tZ mem) 8).length := hbuf.1
   subst hn
   go_wp2
   go_ret
   exact ⟨a, c, rfl, hbuf.fits, hbuf.own, hbel⟩
end Go.Proofs.YtljnkicgahepfaaGreatDoor.TS
namespace Go.Proofs.YtljnkicgahepfaaGreatDoor.TS
open Go.ChangeShapes Go.WideShapes Go.ChangeAt Go.RowKit
variable {w W W' : World} {mem : ByteArray}
open J0 (IBuf Own)
open I2 (ints)
open TW (tK tZ tE cat nodesOk)
structure Two (w : World) (k g1 c1 g2 c2 : Nat) (W : World) : Prop where
 o1 : W.ownsRow w.heap.size 3 1 (.slice (some ⟨g1, 0, none⟩) k c1) k (List.replicate k (.int .i64 (-1)))
 o2 : W.ownsRow w.heap.size 9 1 (.slice (some ⟨g2, 0, none⟩) k c2) k (List.replicate k (.string ⟨#[]⟩))
 ne : g1 ≠ g2
 bel : Below w.heap.size w W
theorem two_new (w : World) : Two w 0 w.heap.size 0 (w.heap.size + 1) 0 ((w.alloc (.cells #[] 3)).alloc (.cells #[] 9)) := by
 have h2 := World.ownsRow_made (base := w.heap.size) (e := 9) (size := 1) (w.alloc (.cells #[] 3)) #[] 0 (by simp) (Nat.zero_le _) rfl
 rw [World.size_alloc] at h2
 exact ⟨(World.ownsRow_made w #[] 0 (Nat.le_refl _) (Nat.zero_le _) rfl).alloc _, h2, by omega, ((Below.refl _ _).alloc (Nat.le_refl _) _).alloc (by simp) _⟩
structure Pr (w : World) (g1 g2 : Nat) (l : List (Nat × T0.Ent)) (W : World) : Prop where
 b1 : K0.Blk g1 (pv l) W
 b2 : K0.Blk g2 (nv l) W
 ne : g1 ≠ g2
 lo : w.heap.size ≤ g1 ∧ w.heap.size ≤ g2
 bel : Below w.heap.size w W
variable {g1 g2 : Nat} {l : List (Nat × T0.Ent)}
theorem Pr.below (h : Pr w g1 g2 l W) (hb : Below W.heap.size W W') : Pr w g1 g2 l W' := ⟨h.b1.below hb, h.b2.below hb, h.ne, h.lo, h.bel.trans (hb.mono h.bel.size)⟩
theorem Pr.drew (h : Pr w g1 g2 l W) : Pr w g1 g2 l W.drew := ⟨h.b1.drew, h.b2.drew, h.ne, h.lo, h.bel.drew⟩
theorem Pr.drewN (h : Pr w g1 g2 l W) (n : Nat) : Pr w g1 g2 l (W.drewN n) := ⟨h.b1.drewN n, h.b2.drewN n, h.ne, h.lo, K0.below_drewN h.bel n⟩
theorem Two.pr {c1 c2 : Nat} (h : Two w 8 g1 c1 g2 c2 W) : Pr w g1 g2 [] W := by
 refine ⟨?_, ?_, h.ne, ⟨(h.o1.lt g1 rfl).1, (h.o2.lt g2 rfl).1⟩, h.bel⟩
 ·rw [pv_nil]
  exact owns_blk h.o1
 ·rw [nv_nil]
  exact owns_blk h.o2
theorem Pr.par (h : Pr w g1 g2 l W) {x : Nat} (hx : x < 8) : W.cell? ⟨g1, x, none⟩ = some (.int .i64 (TR.par l (x : Int))) := by
 rw [h.b1.cell x (by rw [pv_length]; exact hx)]
 simp [pv]
theorem Pr.nam (h : Pr w g1 g2 l W) {x : Nat} (hx : x < 8) : W.cell? ⟨g2, x, none⟩ = some (.string (TR.nam l (x : Int))) := by
 rw [h.b2.cell x (by rw [nv_length]; exact hx)]
 simp [nv]
theorem Pr.first (h : Pr w g1 g2 l W) {i x : Nat} {nm : ByteArray} (hx : x < 8) (hp : TR.par l (x : Int) = -1) : Pr w g1 g2 (l ++ [(i, ((x : Int), nm))]) ((W.setCell ⟨g1, x, none⟩ (.int .i64 (i : Int))).setCell ⟨g2, x, none⟩ (.string nm)) := by
 refine ⟨?_, ?_, h.ne, h.lo, (h.bel.setCell (p := ⟨g1, x, none⟩) h.lo.1 _).setCell (p := ⟨g2, x, none⟩) h.lo.2 _⟩
 ·rw [← pv_first hx hp]
  exact (h.b1.set x _).setOther h.ne.symm x _
 ·rw [← nv_first hx hp]
  exact (h.b2.setOther h.ne x _).set x _
theorem Pr.more (h : Pr w g1 g2 l W) {i x : Nat} {nm : ByteArray} (hx : x < 8) (hp : ¬ TR.par l (x : Int) = -1) : Pr w g1 g2 (l ++ [(i, ((x : Int), nm))]) (W.setCell ⟨g1, x, none⟩ (.int .i64 (-2))) := by
 refine ⟨?_, ?_, h.ne, h.lo, h.bel.setCell (p := ⟨g1, x, none⟩) h.lo.1 _⟩
 ·rw [← pv_more hx hp]
  exact h.b1.set x _
 ·rw [← nv_more hp]
  exact h.b2.setOther h.ne x _
theorem lK_eq (hm : mem.size = 768) (i : Int) : O0.lK mem i = G0.gK (O0.recd mem i) := by
 unfold O0.lK
 cases h : O0.isL mem i with
 | true => rfl
 | false =>
  unfold O0.isL at h
  rw [decide_eq_true hm, Bool.true_and] at h
  cases hI : G0.isI (O0.recd mem i) with
  | false => rw [(G0.g_no hI).1]; rfl
  | true =>
   rw [hI, Bool.true_and] at h
   have h0 : B1.byteAt (O0.recd mem i) 0 = 0 := by simpa using h
   rw [(G0.g_yes hI).1, h0]
   rfl
theorem lD_dir (hm : mem.size = 768) (i : Int) (h2 : G0.gK (O0.recd mem i) = 2) : O0.lD mem i = D1.data mem i := by
 have h := lK_eq hm i
 rw [h2] at h
 cases hL : O0.isL mem i with
 | false => rw [(O0.l_no hL).1] at h; exact absurd h (by decide)
 | true => exact (O0.l_yes hL).2.2.2.2
def Par (mem : ByteArray) (w : World) (e : Ending) (w' : World) : Prop :=
 ∃ a1 c1 a2 c2, e = .returned (.tuple #[.slice a1 8 c1, .slice a2 8 c2, .bool (nodesOk mem)]) ∧ Below w.heap.size w w' ∧ (nodesOk mem = true → ∃ g1 g2, a1 = some ⟨g1, 0, none⟩ ∧ a2 = some ⟨g2, 0, none⟩ ∧ Pr w g1 g2 (TR.flat (tE mem) 8) w')
set_option maxHeartbeats 4000000 in
theorem l04Parents (mem : ByteArray) (w : World) (hm : mem.size = 768) : Calls Tryz.prog 117 #[.string mem] w (Par mem w) := by
 have hms : mem.size ≤ 281474976710656 := by omega
 have HN : Hid (∀ g1 c1 g2 c2 w', nodesOk mem = false → Below w.heap.size w w' → Par mem w (.returned (.tuple #[.slice (some ⟨g1, 0, none⟩) 8 c1, .slice (some ⟨g2, 0, none⟩) 8 c2, .bool false])) w') := fun g1 c1 g2 c2 w' h hb => ⟨_, _, _, _, by rw [h], hb, fun h' => by rw [h] at h'; cases h'⟩
 have HY : Hid (∀ g1 c1 g2 c2 w', nodesOk mem = true → Pr w g1 g2 (TR.flat (tE mem) 8) w' → Par mem w (.returned (.tuple #[.slice (some ⟨g1, 0, none⟩) 8 c1, .slice (some ⟨g2, 0, none⟩) 8 c2, .bool true])) w') := fun g1 c1 g2 c2 w' h hp => ⟨_, _, _, _, by rw [h], hp.bel, fun _ => ⟨g1, g2, rfl, rfl, hp⟩⟩
 have t0 := two_new w
 obtain ⟨R, hR⟩ : ∃ R, Par mem w = R := ⟨_, rfl⟩
 rw [hR] at HN HY ⊢
 clear hR
 go_enter Tryz.func117, Tryz.ntmps117
 go_wp2
 go_loopw [5, 6, 7] (fun v u i w' => ∃ (k g1 c1 g2 c2 : Nat), k ≤ 8 ∧ i = .int .i64 k ∧ v = .slice (some ⟨g1, 0, none⟩) k c1 ∧ u = .slice (some ⟨g2, 0, none⟩) k c2 ∧ Two w k g1 c1 g2 c2 w') (fun _ _ i _ => 8 - (intOf i).toNat)
 case atStart => exact ⟨0, _, _, _, _, Nat.zero_le _, rfl, rfl, rfl, t0⟩
 case round =>
  obtain ⟨k, g1, c1, g2, c2, hk, rfl, rfl, rfl, tw⟩ := hrel
  clear t0
  by_cases hlt : k < 8
  ·have e1 : (k : Int) < 8 := by omega
   have hg1 := tw.o1.lt g1 rfl
   have hg2 := tw.o2.lt g2 rfl
   have HG : Hid ((w.heap.size ≤ g1 ∧ g1 < wr.heap.size) ∧ (w.heap.size ≤ g2 ∧ g2 < wr.heap.size)) := ⟨hg1, hg2⟩
   clear hg1 hg2
   go_wp2_with (first
    | (at_builtin; refine append_one 146 9 (.string ⟨#[]⟩) 16 Tryz.underlying146 infoS rfl (by decide) rfl (.tmp 26) (.tmp 27) rfl o2' (.string ⟨#[]⟩) rfl (by rfl) rfl (by rfl) (by omega) l2.size ?_; intro g4 c4 w4 o4 gr4 q4)
    | (at_builtin; refine append_one 29 3 (.int .i64 0) 8 Tryz.underlying29 I2.info3 rfl (by decide) rfl (.tmp 23) (.tmp 24) rfl tw.o1 (.int .i64 (-1)) rfl (by rfl) rfl (by rfl) (by omega) tw.bel.size ?_; intro g3 c3 w3 o3 gr3 q3; have o2' := tw.o2.kept gr3 (Or.inr (by simpa [Value.ownBlock] using tw.ne.symm)); have l2 := tw.bel.trans (TW.below_gr gr3 (HG.out.1.1) tw.bel.size)))
   have hG := HG.out
   have o3' := o3.kept gr4 (Or.inr (by
    simp only [Value.ownBlock, ne_eq, Option.some.injEq]
    rcases q3 with e | e
    ·rw [e]
     exact tw.ne
    ·omega))
   go_roundw
   case rel =>
    refine ⟨k + 1, g3, c3, g4, c4, by omega, by go_num, rfl, rfl, ⟨by rw [List.replicate_succ']; exact o3', by rw [List.replicate_succ']; exact o4, ?_, l2.trans (TW.below_gr gr4 hG.2.1 l2.size)⟩⟩
    have h3 := (o3.lt g3 rfl).2
    rcases q3 with e | e <;> rcases q4 with e' | e'
    ·rw [e, e']
     exact tw.ne
    ·omega
    ·omega
    ·omega
   case measure => simp [intOf]; omega
  ·obtain rfl : k = 8 := by omega
   have p0 := tw.pr
   clear tw
   go_wp2
   go_loopg [8] 8 (fun gk i W => ∃ k : Nat, k + gk = 8 ∧ i = .int .i64 k ∧ N0.to (fun i => D1.nodeOk mem (i : Int)) k = true ∧ Pr w g1 g2 (TR.flat (tE mem) k) W)
   case atStart => exact ⟨0, rfl, rfl, rfl, p0⟩
   case round =>
    obtain ⟨k, hk', rfl, hok, pr⟩ := hrel
    obtain ⟨go, rfl⟩ : ∃ go, go = gk := ⟨_, rfl⟩
    clear p0
    by_cases hlt2 : k < 8
    ·have e1 : (k : Int) < 8 := by omega
     have hLk : Hid (∀ W, Calls Tryz.prog 120 #[.string mem, .int .i64 (k : Int)] W fun e w' => e = .returned (.string (O0.recd mem (k : Int))) ∧ w' = W) := fun W => O1.l03Rec mem k W hms
     have hGk : Hid (∀ W, Calls Tryz.prog 182 #[.string (O0.recd mem (k : Int))] W fun e w' => ∃ (q o s : Int) (a : Option Addr) (n c : Nat), e = .returned (.tuple #[.agg #[.int .i64 q, .int .i64 o, .int .i64 s, .slice a n c], .bool (G0.isI (O0.recd mem (k : Int)))]) ∧ Below W.heap.size W w') := fun W => (G4.spec_GetInode _ W (O0.recd_size mem _ hms)).mono fun e w' ⟨a, c, he, ho, hc, hb⟩ => ⟨_, _, _, a, _, c, he, hb⟩
     have hcase := D1.node_cases mem (k : Int)
     have hLo : Hid (∀ W, Calls Tryz.prog 116 #[.string mem, .int .i64 (k : Int)] W fun e w' => ∃ (o s : Int) (a : Option Addr) (n c : Nat) (bb : Bool), e = .returned (.tuple #[.agg #[.int .i64 (G0.gK (O0.recd mem (k : Int))), .int .i64 o, .int .i64 s, .slice a n c], .string (O0.lD mem (k : Int)), .bool bb]) ∧ Below W.heap.size W w') := fun W => (O3.spec_Load mem (k : Int) W hms).mono fun e w' ⟨a, c, he, ho, hc, hb⟩ => ⟨_, _, a, _, c, _, by rw [← lK_eq hm]; exact he, hb⟩
     have hlD := fun h => lD_dir hm (k : Int) h
     have hKE : tE mem k = D1.nodeE mem (k : Int) := rfl
     have hfl : TR.flat (tE mem) (k + 1) = TR.flat (tE mem) k ++ (tE mem k).map fun e => (k, e) := rfl
     obtain ⟨rk, hrk⟩ : ∃ rk, O0.recd mem (k : Int) = rk := ⟨_, rfl⟩
     rw [hrk] at hLk hGk hcase hLo hlD
     obtain ⟨K, hK⟩ : ∃ K, G0.gK rk = K := ⟨_, rfl⟩
     rw [hK] at hcase hLo hlD
     obtain ⟨ld, hld⟩ : ∃ ld, O0.lD mem (k : Int) = ld := ⟨_, rfl⟩
     rw [hld] at hLo hlD
     have HBAD : Hid (D1.nodeOk mem (k : Int) = false → nodesOk mem = false) := fun h => N0.to_bad hlt2 h
     have HGOOD : Hid (D1.nodeOk mem (k : Int) = true → N0.to (fun i => D1.nodeOk mem (i : Int)) (k + 1) = true) := fun h => N0.to_step hok h
     clear hrk hK hld hok
     rcases hcase with ⟨gI, hp⟩ | ⟨gI, g2', hp, hE⟩ | ⟨gI, g2', hp, hE⟩
     ·rw [gI] at hGk
      have HB2 : Hid (nodesOk mem = false) := HBAD.out hp
      clear gI hp HGOOD hlD hKE hfl
      go_wp2_with (first
       | (go_at_call 120; refine (hLk.out _).mono ?_; rintro e wq ⟨rfl, rfl⟩)
       | (go_at_call 182; refine (hGk.out _).mono ?_; rintro e w2 ⟨q, o, s, a, n, c, rfl, b2⟩; have l2 := (pr.below b2).bel.alloc (pr.below b2).bel.size (.cells #[.int .i64 q, .int .i64 o, .int .i64 s, .slice a n c] 143)))
      exact HN.out _ _ _ _ _ HB2.out l2
     ·rw [gI] at hGk
      have HO : Hid (N0.to (fun i => D1.nodeOk mem (i : Int)) (k + 1) = true) := HGOOD.out hp
      have HFL : Hid (TR.flat (tE mem) (k + 1) = TR.flat (tE mem) k) := by
       show _ = _
       rw [hfl, hKE, hE]
       simp
      clear gI hp HBAD hlD hKE hfl hE
      go_wp2_with (first
       | (go_at_call 120; refine (hLk.out _).mono ?_; rintro e wq ⟨rfl, rfl⟩)
       | (go_at_call 182; refine (hGk.out _).mono ?_; rintro e w2 ⟨q, o, s, a, n, c, rfl, b2⟩; have p2 := (pr.below b2).below (K0.below_new w2 (.cells #[.int .i64 q, .int .i64 o, .int .i64 s, .slice a n c] 143)))
       | (go_at_call 116; refine (hLo.out _).mono ?_; rintro e w3 ⟨o3, s3, a3, n3, c3, bb3, rfl, b3⟩; have p3 := (p2.below b3).below (K0.below_new w3 (.cells #[.int .i64 K, .int .i64 o3, .int .i64 s3, .slice a3 n3 c3] 143)); have y0 := (K0.blk_new [.int .i64 K, .int .i64 o3, .int .i64 s3, .slice a3 n3 c3] w3 143).c0))
      go_roundg (go - 1)
      case measure => omega
      case rel => exact ⟨k + 1, by omega, by go_num, HO.out, by rw [HFL.out]; exact p3⟩
     ·rw [gI] at hGk
      have hK2 : K = 2 := by simpa using g2'
      subst hK2
      have hdd := hlD rfl
      subst hdd
      have hdsz := D1.data_le mem (k : Int) hm
      have hGD : Hid (∀ W, Calls Tryz.prog 183 #[.string (D1.data mem (k : Int))] W fun e w' => ∃ a c, e = .returned (.tuple #[.slice a (tE mem k).length c, .bool (D1.nodeOk mem (k : Int))]) ∧ V1.OwnE W.heap.size w' a (tE mem k) ∧ Below W.heap.size W w') := fun W => by
       rw [hp, hKE, hE]
       exact (V3.spec_GetDir _ W hdsz).mono fun e w' ⟨a, c, he, ho, hc, hb⟩ => ⟨a, c, he, ho, hb⟩
      obtain ⟨dd, hdd⟩ : ∃ dd, D1.data mem (k : Int) = dd := ⟨_, rfl⟩
      rw [hdd] at hGD hLo
      clear gI g2' hp hE hKE hlD hdd hdsz
      cases hnk : D1.nodeOk mem (k : Int) with
      | false =>
       rw [hnk] at hGD
       have HB2 : Hid (nodesOk mem = false) := HBAD.out hnk
       clear HGOOD HBAD hnk hfl
       go_wp2_with (first
        | (go_at_call 120; refine (hLk.out _).mono ?_; rintro e wq ⟨rfl, rfl⟩)
        | (go_at_call 182; refine (hGk.out _).mono ?_; rintro e w2 ⟨q, o, s, a, n, c, rfl, b2⟩; have p2 := (pr.below b2).below (K0.below_new w2 (.cells #[.int .i64 q, .int .i64 o, .int .i64 s, .slice a n c] 143)))
        | (go_at_call 116; refine (hLo.out _).mono ?_; rintro e w3 ⟨o3, s3, a3, n3, c3, bb3, rfl, b3⟩; have p3 := (p2.below b3).below (K0.below_new w3 (.cells #[.int .i64 2, .int .i64 o3, .int .i64 s3, .slice a3 n3 c3] 143)); have y0 := (K0.blk_new [.int .i64 2, .int .i64 o3, .int .i64 s3, .slice a3 n3 c3] w3 143).c0)
        | (go_at_call 183; refine (hGD.out _).mono ?_; rintro e w4 ⟨a4, c4, rfl, o4, b4⟩; have p4 := p3.below b4))
       exact HN.out _ _ _ _ _ HB2.out p4.bel
      | true =>
       rw [hnk] at hGD
       have HO : Hid (N0.to (fun i => D1.nodeOk mem (i : Int)) (k + 1) = true) := HGOOD.out hnk
       clear HGOOD HBAD hnk
       go_wp2_with (first
        | (go_at_call 120; refine (hLk.out _).mono ?_; rintro e wq ⟨rfl, rfl⟩)
        | (go_at_call 182; refine (hGk.out _).mono ?_; rintro e w2 ⟨q, o, s, a, n, c, rfl, b2⟩; have p2 := (pr.below b2).below (K0.below_new w2 (.cells #[.int .i64 q, .int .i64 o, .int .i64 s, .slice a n c] 143)))
        | (go_at_call 116; refine (hLo.out _).mono ?_; rintro e w3 ⟨o3, s3, a3, n3, c3, bb3, rfl, b3⟩; have p3 := (p2.below b3).below (K0.below_new w3 (.cells #[.int .i64 2, .int .i64 o3, .int .i64 s3, .slice a3 n3 c3] 143)); have y0 := (K0.blk_new [.int .i64 2, .int .i64 o3, .int .i64 s3, .slice a3 n3 c3] w3 143).c0)
        | (go_at_call 183; refine (hGD.out _).mono ?_; rintro e w4 ⟨a4, c4, rfl, o4, b4⟩; have p4 := p3.below b4; have hb41 := p3.b1.lt; have hb42 := p3.b2.lt))
       obtain ⟨B0, hB0⟩ : ∃ B0, (w3.alloc (.cells #[.int .i64 2, .int .i64 o3, .int .i64 s3, .slice a3 n3 c3] 143)).heap.size = B0 := ⟨_, rfl⟩
       rw [hB0] at o4 hb41 hb42
       clear y0 p3 p2 b2 b3 b4 hB0 hGD hLo hGk hLk pr
       have pp : Pr w g1 g2 (TR.pre (tE mem) k 0) w4 := by rw [TR.pre_zero]; exact p4
       go_loopg [16] (tE mem k).length (fun gj i W => ∃ j : Nat, j + gj = (tE mem k).length ∧ i = .int .i64 j ∧ Pr w g1 g2 (TR.pre (tE mem) k j) W ∧ V1.OwnE B0 W a4 (tE mem k))
       case atStart => exact ⟨0, by omega, rfl, pp, o4⟩
       case round =>
        obtain ⟨j, hj, rfl, pr, oe⟩ := hrel
        clear pp p4 o4
        by_cases hjl : j < (tE mem k).length
        ·have hfew : (tE mem k).length ≤ 12 := TW.few_ok mem (k : Int)
         have hmem := TR.mem_ent hjl
         have hin := (TW.sane_ok mem).ino k _ hmem
         have hps := TR.pre_succ (tE mem) k j hjl
         rcases oe with h0 | ⟨gE, ea, hgE, hkE⟩
         ·rw [h0] at hjl
          exact absurd hjl (by simp)
         subst ea
         have z1 := (hkE.done j hjl).1
         have z2 := (hkE.done j hjl).2
         obtain ⟨x, hx⟩ : ∃ x : Nat, (T0.ent (tE mem k) j).1 = (x : Int) := ⟨(T0.ent (tE mem k) j).1.toNat, by omega⟩
         obtain ⟨nm, hnm⟩ : ∃ nm, (T0.ent (tE mem k) j).2 = nm := ⟨_, rfl⟩
         have hent : T0.ent (tE mem k) j = ((x : Int), nm) := by rw [← hx, ← hnm]
         have HPS : Hid (TR.pre (tE mem) k (j + 1) = TR.pre (tE mem) k j ++ [(k, ((x : Int), nm))]) := by
          show _ = _
          rw [hps, hent]
         rw [hx] at z1 hin
         rw [hnm] at z2
         have hx8 : x < 8 := by omega
         have u1 := pr.par hx8
         have u2 := pr.nam hx8
         have f1 := pr.b1.free x (by rw [pv_length]; exact hx8)
         have f2 := pr.b2.free x (by rw [nv_length]; exact hx8)
         have d1 : (0 : Int) ≤ (j : Int) := by omega
         have d2 : (j : Int) < ((tE mem k).length : Int) := by omega
         have d3 : (0 : Int) ≤ (x : Int) := by omega
         have d4 : (x : Int) < 8 := by omega
         have HE : Hid (V1.OwnE B0 wr (some ⟨gE, 0, none⟩) (tE mem k)) := Or.inr ⟨gE, rfl, hgE, hkE⟩
         have hne1 : g1 ≠ gE := by omega
         have hne2 : g2 ≠ gE := by omega
         by_cases hpar : TR.par (TR.pre (tE mem) k j) (x : Int) = -1
         ·have hq := pr.first (i := k) (nm := nm) hx8 hpar
          have HQ : Hid (Pr w g1 g2 (TR.pre (tE mem) k (j + 1)) ((wr.setCell ⟨g1, x, none⟩ (.int .i64 (k : Int))).setCell ⟨g2, x, none⟩ (.string nm))) := by
           show Pr _ _ _ _ _
           rw [HPS.out]
           exact hq
          rw [hpar] at u1
          have z1' : (wr.setCell ⟨g1, x, none⟩ (.int .i64 (k : Int))).cell? ⟨gE, j * 2, none⟩ = some (.int .i64 (x : Int)) := by rw [World.cell?_setCell_other _ _ _ _ (fun q => hne1 (Addr.mk.inj q).1)]; exact z1
          have z2' : (wr.setCell ⟨g1, x, none⟩ (.int .i64 (k : Int))).cell? ⟨gE, j * 2 + 1, none⟩ = some (.string nm) := by rw [World.cell?_setCell_other _ _ _ _ (fun q => hne1 (Addr.mk.inj q).1)]; exact z2
          have u2' : (wr.setCell ⟨g1, x, none⟩ (.int .i64 (k : Int))).cell? ⟨g2, x, none⟩ = some (.string (TR.nam (TR.pre (tE mem) k j) (x : Int))) := by rw [World.cell?_setCell_other _ _ _ _ (fun q => pr.ne (Addr.mk.inj q).1)]; exact u2
          clear pr hq hpar hps hent hx hnm hmem hin hkE hfl
          go_wp2
          go_region
          go_wp2
          go_roundg (gk - 1)
          case measure => omega
          case rel => exact ⟨j + 1, by omega, by go_num, HQ.out.drew, (N5.ownE_set (N5.ownE_set HE.out hb41 x _) hb42 x _).below ((Below.refl _ _).drew)⟩
         ·have hq := pr.more (i := k) (nm := nm) hx8 hpar
          have HQ : Hid (Pr w g1 g2 (TR.pre (tE mem) k (j + 1)) (wr.setCell ⟨g1, x, none⟩ (.int .i64 (-2)))) := by
           show Pr _ _ _ _ _
           rw [HPS.out]
           exact hq
          have hpar' : (TR.par (TR.pre (tE mem) k j) (x : Int) == -1) = false := by simpa using hpar
          clear pr hq hpar hps hent hx hnm hmem hin hkE hfl
          go_wp2
          go_roundg (gk - 1)
          case measure => omega
          case rel => exact ⟨j + 1, by omega, by go_num, HQ.out, N5.ownE_set HE.out hb41 x _⟩
        ·have hj0 : ¬ ((j : Int) < ((tE mem k).length : Int)) := by omega
         have pfin : Pr w g1 g2 (TR.flat (tE mem) (k + 1)) wr := by
          rw [← TR.pre_all, show (tE mem k).length = j by omega]
          exact pr
         clear pr oe
         go_wp2
         go_roundg (go - 1)
         case measure => omega
         case rel => exact ⟨k + 1, by omega, by go_num, HO.out, pfin⟩
    ·obtain rfl : k = 8 := by omega
     have HO : Hid (nodesOk mem = true) := hok
     clear hok
     go_wp2
     exact HY.out _ _ _ _ _ HO.out pr
end Go.Proofs.YtljnkicgahepfaaGreatDoor.TS
