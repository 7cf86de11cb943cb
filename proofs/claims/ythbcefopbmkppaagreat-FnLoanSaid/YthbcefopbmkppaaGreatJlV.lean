/- Joined texts: plain facts and contracts. -/
import Derived.Test.YthbcefopbmkppaaGreatJlU
import Derived.Deep.LoopGhost
import Derived.Deep.RegionHeld3
import Derived.WalkSmall
import Derived.OneCell
set_option linter.unusedVariables false
set_option linter.unusedSimpArgs false
set_option maxRecDepth 10000
namespace Go.Proofs.YthbcefopbmkppaaGreat.HP
open Go.ChangeShapes Go.WideShapes Go.ChangeAt Go.RowKit
variable {w W W' : World} {base Bh g c : Nat} {l : List Rg}
structure Chg (Bh g g' : Nat) (w w' : World) : Prop where
 os : w'.os = w.os
 tape : w'.tape = w.tape
 output : w'.output = w.output
 size : w.heap.size ≤ w'.heap.size
 block : ∀ k, k < w.heap.size → k ≠ Bh → k ≠ g → w'.heap[k]? = w.heap[k]?
 loc : g' = g ∨ w.heap.size ≤ g'
theorem Chg.grown {g' : Nat} (h : Chg Bh g g' w W) (k : W.grownBy W' (some g')) : Chg Bh g g' w W' :=
 ⟨k.os.trans h.os, k.tape.trans h.tape, k.output.trans h.output, Nat.le_trans h.size k.size, fun j hj hb hg => by
  rw [k.block j (Nat.lt_of_lt_of_le hj h.size) (fun e => by
   have e' := Option.some.inj e
   rcases h.loc with q | q
   ·exact hg (e'.trans q)
   ·omega)]
  exact h.block j hj hb hg, h.loc⟩
theorem Chg.below {b g' : Nat} (h : Chg Bh g g' w W) (hB : b ≤ Bh) (hg : b ≤ g) (hs : b ≤ w.heap.size) : Below b w W :=
 ⟨h.os, h.tape, h.output, h.size, fun k hk => h.block k (by omega) (by omega) (by omega)⟩
theorem HS.head {g' c' : Nat} {l' : List Rg} {u : Value} {n' : Nat} (bf : W.ownsRow base 38 2 (.slice (some ⟨g', 0, none⟩) n' c') n' (fr l')) (hn : l'.length = n') (x : W.cell? ⟨Bh, 0, none⟩ = some u) (f : W.frozen? ⟨Bh, 0, none⟩ = false) (ne : g' ≠ Bh) (lo : base ≤ Bh) (lt : Bh < W.heap.size) : HS base Bh g' c' l' (W.setCell ⟨Bh, 0, none⟩ (.slice (some ⟨g', 0, none⟩) n' c')) := by
 subst hn
 refine ⟨World.cell?_setCell_same _ _ _ x, by rw [World.frozen?_setCell]; exact f, ownsRow_setCell_other bf (a := ⟨Bh, 0, none⟩) (fun e => ne (Option.some.inj e)) _, ne, lo, by simpa [World.setCell] using lt⟩
theorem Chg.head {g' : Nat} (h : w.grownBy W (some g)) (loc : g' = g ∨ w.heap.size ≤ g') (u : Value) : Chg Bh g g' w (W.setCell ⟨Bh, 0, none⟩ u) :=
 ⟨h.os, h.tape, h.output, Nat.le_trans h.size (by simp [World.setCell]), fun k hk hB hg => (heap_setCell_other W ⟨Bh, 0, none⟩ k u hB).trans (h.block k hk (fun e => hg (Option.some.inj e))), loc⟩
theorem Chg.ofDrew {g' : Nat} (h : Chg Bh g g' w.drew W) : Chg Bh g g' w W := ⟨h.os, h.tape, h.output, h.size, h.block, h.loc⟩
theorem infoRg : (Tryz.prog.info? 38).map (fun i => (i.zero, i.size, i.bytes)) = some (some (.agg #[.int .i64 0, .int .i64 0]), 2, 16) := by kernel_rfl
theorem one_rg (u v : Int) : ∀ x ∈ [Value.int .i64 u, .int .i64 v], x.oneCell' = true := by
 intro x h
 simp at h
 rcases h with rfl | rfl <;> rfl
theorem step_push {ops : Array Oper} {o : Oper} {A : Act} {K : Act → World → Prop} {Q : Exit → Act → World → Prop} {E : Prop} (hgd : o.guard = none) (sl x : Operand)
  (ho : o.op = .call { callee := .builtin .append, args := #[sl, x], argTypes := #[49, 49] })
  (hbuf : w.ownsRow base 38 2 (.slice (some ⟨g, 0, none⟩) l.length c) l.length (fr l)) (r : Rg) (hs : A.eval sl = .slice (some ⟨g, 0, none⟩) l.length c) {H : Nat} (hH : w.heap.size = H) (hx : A.eval x = .slice (some ⟨H, 0, none⟩) 1 1) (hlen : l.length + 1 ≤ 1048576) (hb : base ≤ w.heap.size)
  (h : ∀ g' cap' w', w'.ownsRow base 38 2 (.slice (some ⟨g', 0, none⟩) (l.length + 1) cap') (l.length + 1) (fr (l ++ [r])) → w.grownBy w' (some g) → (g' = g ∨ w.heap.size < g') → K (A.put o.dst (.slice (some ⟨g', 0, none⟩) (l.length + 1) cap')) w') :
  if Region.wanted o (yielded ops A.tmps) = true then Oper.wp Tryz.prog o A (w.alloc (.cells #[.int .i64 r.1, .int .i64 r.2] 38)) K Q else E := by
 subst hH
 obtain ⟨i0, hi, hz0, hz1, hz2⟩ := info_parts infoRg
 have hb2 := hbuf.alloc (.cells #[.int .i64 r.1, .int .i64 r.2] 38)
 refine step_append_lies _ hgd sl x 49 ho base 38 i0 (.agg #[.int .i64 0, .int .i64 0]) 2 16 Tryz.underlying49 hi hz0 hz1 hz2 rfl (by omega) _ l.length _ hs hb2 ⟨w.heap.size, 0, none⟩ 1 1 [.int .i64 r.1, .int .i64 r.2] hx rfl (World.news_of_block (heap_alloc_new w _)) (one_rg r.1 r.2) (by omega) (by unfold maxLen; omega) (by omega) (by simp; omega) _ rfl ?_
 intro g' cap' w' ho' hg' hl' _
 refine h g' cap' w' ?_ ((World.grownBy_alloc w _ _).trans hg') ?_
 ·rw [fr_append]
  exact ho'
 ·rcases hl' with q | q
  ·left
   have e' : g = g' := by simpa [Value.ownBlock] using q
   exact e'.symm
  ·right
   rw [q]
   simp
set_option maxHeartbeats 2000000 in
theorem push (r : Rg) (w : World) (h : HS base Bh g c l w) (hlen : l.length + 1 ≤ 1048576) :
  Calls Tryz.prog 115 #[.pointer (some ⟨Bh, 0, none⟩), .iface 38 (.agg #[.int .i64 r.1, .int .i64 r.2])] w fun e w' => e = .returned (.tuple #[]) ∧ ∃ g' c', HS base Bh g' c' (l ++ [r]) w' ∧ Chg Bh g g' w w' := by
 have x0 := h.cell
 have f0 := h.free
 have hta := fun v W => asRange v W
 have hS0 : w.drew.cell? ⟨Bh, 0, none⟩ = some (.slice (some ⟨g, 0, none⟩) l.length c) := x0
 have hnew := K0.below_new w.drew (.cells #[.int .i64 r.1, .int .i64 r.2] 38)
 have hS1 : (w.drew.alloc (.cells #[.int .i64 r.1, .int .i64 r.2] 38)).cell? ⟨Bh, 0, none⟩ = some (.slice (some ⟨g, 0, none⟩) l.length c) := (hnew.cell (p := ⟨Bh, 0, none⟩) h.lt).trans hS0
 have hS2 : (w.alloc (.cells #[.int .i64 r.1, .int .i64 r.2] 38)).cell? ⟨Bh, 0, none⟩ = some (.slice (some ⟨g, 0, none⟩) l.length c) := hS1
 have hbuf : w.drew.ownsRow base 38 2 (.slice (some ⟨g, 0, none⟩) l.length c) l.length (fr l) := h.buf
 have hbs : base ≤ w.drew.heap.size := Nat.le_trans h.lo (Nat.le_of_lt h.lt)
 have HH : Hid (HS base Bh g c l w) := h
 have hlenl : (l ++ [r]).length = l.length + 1 := by simp
 clear h hnew
 go_enter Tryz.func115, Tryz.ntmps115
 go_wp2
 go_region_law (refine step_push rfl (.tmp 7) (.tmp 10) rfl hbuf r (by rfl) (H := w.heap.size) rfl (by rfl) hlen hbs ?_; intro g3 c3 w3 bf3 gr3 q3; have x3 : w3.cell? ⟨Bh, 0, none⟩ = some (.slice (some ⟨g, 0, none⟩) l.length c) := gr3.cell hS0 (by have := HH.out.ne; simpa using this.symm); have f3 : w3.frozen? ⟨Bh, 0, none⟩ = false := (World.frozen?_of_block (a := ⟨Bh, 0, none⟩) (gr3.block Bh HH.out.lt (by have := HH.out.ne; simpa using this.symm))).trans HH.out.free)
 all_goals (
  refine bodyPost_end (v := .tuple #[]) (by simp [results, Tryz.results115, go_sem]) rfl ?_
  refine ⟨rfl, g3, c3, HS.head (l' := l ++ [r]) bf3 (by simp) x3 f3 ?_ HH.out.lo (Nat.lt_of_lt_of_le HH.out.lt gr3.size), (Chg.head gr3 ?_ _).ofDrew⟩
  ·have := HH.out.ne
   have := HH.out.lt
   rcases q3 with q | q
   ·rw [q]; exact HH.out.ne
   ·have q' : w.heap.size < g3 := q
    omega
  ·rcases q3 with q | q
   ·exact Or.inl q
   ·exact Or.inr (Nat.le_of_lt q))
set_option maxHeartbeats 2000000 in
theorem pop (r : Rg) (w : World) (h : HS base Bh g c (l ++ [r]) w) :
  Calls Tryz.prog 114 #[.pointer (some ⟨Bh, 0, none⟩)] w fun e w' => e = .returned (.iface 38 (.agg #[.int .i64 r.1, .int .i64 r.2])) ∧ HS base Bh g c l w' ∧ Chg Bh g g w w' := by
 have hl : (l ++ [r]).length = l.length + 1 := by simp
 have x0 := h.cell
 have f0 := h.free
 have hr := h.room
 have hg := h.get (i := l.length) (by simp)
 have ha : at_ (l ++ [r]) l.length = r := by simp [at_]
 rw [ha] at hg
 obtain ⟨x1, x2⟩ := hg
 have hbuf := h.buf
 rw [hl] at x0 hr hbuf
 have hbf2 : w.ownsRow base 38 2 (.slice (some ⟨g, 0, none⟩) l.length c) l.length (fr l) := by
  rw [fr_append] at hbuf
  exact ownsRow_pop (fr_length l) hbuf
 have HH : Hid (HS base Bh g c (l ++ [r]) w) := h
 have hm : c ≤ 9223372036854775807 := by
  rcases hbuf.2 with ⟨h', _⟩ | ⟨g', cap', cur, h', hb, hg, hnc, hcm, hcs, ht⟩
  ·cases h'
  ·cases h'
   unfold maxLen at hcm
   omega
 have hc : l.length ≤ c := by omega
 have e1 : ((l.length + 1 : Nat) : Int) - 1 = (l.length : Int) := by omega
 obtain ⟨n, hn⟩ : ∃ n, l.length = n := ⟨_, rfl⟩
 rw [hn] at x0 hr x1 x2 hbuf hbf2 hc e1
 have e2 : (0 : Int) ≤ (n : Int) := by omega
 have e3 : (n : Int) < ((n + 1 : Nat) : Int) := by omega
 have e4 : (n : Int) < (n : Int) + 1 := by omega
 have ew : wrap64 (n : Int) = (n : Int) := by unfold wrap64; omega
 have hnew := K0.below_new w (.cells #[.int .i64 r.1, .int .i64 r.2] 38)
 have z1 : (w.alloc (.cells #[.int .i64 r.1, .int .i64 r.2] 38)).cell? ⟨Bh, 0, none⟩ = some (.slice (some ⟨g, 0, none⟩) (n + 1) c) := (hnew.cell (p := ⟨Bh, 0, none⟩) h.lt).trans x0
 have z2 : (w.alloc (.cells #[.int .i64 r.1, .int .i64 r.2] 38)).frozen? ⟨Bh, 0, none⟩ = false := (hnew.frozen (p := ⟨Bh, 0, none⟩) h.lt).trans f0
 have hbn : Bh ≠ w.heap.size := Nat.ne_of_lt h.lt
 have hbf3 := hbf2.alloc (.cells #[.int .i64 r.1, .int .i64 r.2] 38)
 have hgr := World.grownBy_alloc w (.cells #[.int .i64 r.1, .int .i64 r.2] 38) (some g)
 have y : ∀ k, ((w.alloc (.cells #[.int .i64 r.1, .int .i64 r.2] 38)).setCell ⟨Bh, 0, none⟩ (.slice (some ⟨g, 0, none⟩) n c)).cell? ⟨w.heap.size, k, none⟩ = (w.alloc (.cells #[.int .i64 r.1, .int .i64 r.2] 38)).cell? ⟨w.heap.size, k, none⟩ := fun k => World.cell?_setCell_other _ _ _ _ (fun q => hbn (Addr.mk.inj q).1)
 have y1 := (y 0).trans (show _ = some (Value.int .i64 r.1) by simp only [World.cell?, heap_alloc_new]; rfl)
 have y2 := (y 1).trans (show _ = some (Value.int .i64 r.2) by simp only [World.cell?, heap_alloc_new]; rfl)
 clear h hl ha hnew y
 go_enter Tryz.func114, Tryz.ntmps114
 go_wp2
 go_ret
 exact ⟨rfl, HS.head (l' := l) hbf3 hn z1 z2 HH.out.ne HH.out.lo (Nat.lt_of_lt_of_le HH.out.lt hgr.size), Chg.head hgr (Or.inl rfl) _⟩
end Go.Proofs.YthbcefopbmkppaaGreat.HP
namespace Go.Proofs.YthbcefopbmkppaaGreat.HP
open Go.ChangeShapes Go.WideShapes Go.ChangeAt Go.RowKit
variable {w W W' : World} {base Bh g c : Nat} {l : List Rg}
abbrev hI (Bh : Nat) : Value := .iface 48 (.pointer (some ⟨Bh, 0, none⟩))
theorem mPush (p : Option Addr) (w : World) : (method 246 48 (.pointer p) "Push").run Tryz.prog w = .ok (115, .pointer p) w := by kernel_rfl
theorem mPop (p : Option Addr) (w : World) : (method 246 48 (.pointer p) "Pop").run Tryz.prog w = .ok (114, .pointer p) w := by kernel_rfl
theorem mLess0 (a : Addr) (w : World) : (method 246 48 (.pointer (some a)) "Less").run Tryz.prog w = (do let v ← loadVar 49 a; pure (113, v) : Sem (FuncId × Value)).run Tryz.prog w := by kernel_rfl
theorem mSwap0 (a : Addr) (w : World) : (method 246 48 (.pointer (some a)) "Swap").run Tryz.prog w = (do let v ← loadVar 49 a; pure (116, v) : Sem (FuncId × Value)).run Tryz.prog w := by kernel_rfl
theorem mLen0 (a : Addr) (w : World) : (method 246 48 (.pointer (some a)) "Len").run Tryz.prog w = (do let v ← loadVar 49 a; pure (29, v) : Sem (FuncId × Value)).run Tryz.prog w := by kernel_rfl
theorem mLess {v : Value} (h : w.cell? ⟨Bh, 0, none⟩ = some v) : (method 246 48 (.pointer (some ⟨Bh, 0, none⟩)) "Less").run Tryz.prog w = .ok (113, v) w := by
 rw [mLess0]
 simp [go_sem, h]
theorem mSwap {v : Value} (h : w.cell? ⟨Bh, 0, none⟩ = some v) : (method 246 48 (.pointer (some ⟨Bh, 0, none⟩)) "Swap").run Tryz.prog w = .ok (116, v) w := by
 rw [mSwap0]
 simp [go_sem, h]
theorem mLen {v : Value} (h : w.cell? ⟨Bh, 0, none⟩ = some v) : (method 246 48 (.pointer (some ⟨Bh, 0, none⟩)) "Len").run Tryz.prog w = .ok (29, v) w := by
 rw [mLen0]
 simp [go_sem, h]
theorem gdn {row : Option Nat} (h : w.grownBy W row) (n : Nat) : w.grownBy (W.drewN n) row := ⟨h.os, h.tape, h.output, h.size, h.block⟩
theorem quo2 (j i : Nat) (h : i = (j - 1) / 2) : ((j : Int) - 1).tdiv 2 = (i : Int) := by
 subst h
 cases j with
 | zero => rfl
 | succ k =>
  rw [show ((k + 1 : Nat) : Int) - 1 = (k : Int) by omega, show k + 1 - 1 = k by omega]
  rfl
set_option maxHeartbeats 2000000 in
theorem up (j : Nat) (w : World) (h : HS base Bh g c l w) (hu : UpInv l j) (hlen : l.length ≤ 1048576) :
  Calls Tryz.prog 45 #[hI Bh, .int .i64 (j : Int)] w fun e w' => e = .returned (.tuple #[]) ∧ ∃ l', HS base Bh g c l' w' ∧ l'.Perm l ∧ HeapN l' l'.length ∧ w.grownBy w' (some g) := by
 go_enter Tryz.func45, Tryz.ntmps45
 go_wp2
 go_loopg [1] (j + 1) (fun gk v W => ∃ (j' : Nat) (l' : List Rg), j' < gk ∧ v = .int .i64 (j' : Int) ∧ HS base Bh g c l' W ∧ UpInv l' j' ∧ l'.Perm l ∧ w.grownBy W (some g))
 case atStart => exact ⟨j, l, by omega, rfl, h, hu, List.Perm.refl _, M0.grown_refl _ _⟩
 case round =>
  obtain ⟨j', l', hj, rfl, hs, hui, hp, hg⟩ := hrel
  have hjl := hui.2.2
  have hl' : l'.length ≤ 1048576 := hp.length_eq ▸ hlen
  obtain ⟨i, hi⟩ : ∃ i : Nat, i = (j' - 1) / 2 := ⟨_, rfl⟩
  have x0 := hs.cell
  have ei : ((j' : Int) - 1).tdiv 2 = (i : Int) := quo2 j' i hi
  have ew2 : wrap64 (i : Int) = (i : Int) := by unfold wrap64; omega
  have ew : wrap64 ((j' : Int) - 1) = (j' : Int) - 1 := by unfold wrap64; omega
  have HA : Hid (j' < gk ∧ HS base Bh g c l' wr ∧ UpInv l' j' ∧ l'.Perm l ∧ w.grownBy wr (some g) ∧ i = (j' - 1) / 2 ∧ l'.length ≤ 1048576) := ⟨hj, hs, hui, hp, hg, hi, hl'⟩
  clear hj hui hp hg hi h hu
  by_cases e : j' = 0
  ·subst e
   have e1 : i = 0 := HA.out.2.2.2.2.2.1
   subst e1
   go_wp2
   refine bodyPost_end (v := .tuple #[]) (by simp [results, Tryz.results45, go_sem]) rfl ?_
   obtain ⟨hj, hs, hui, hp, hg, hi, hl'⟩ := HA.out
   exact ⟨rfl, l', hs, hp, up_end hui (Or.inl rfl), hg⟩
  ·have hne : ((i : Int) == (j' : Int)) = false := by
    have := HA.out.2.2.2.2.2.1
    simp
    omega
   have hil : i < l'.length := by have := HA.out.2.2.2.2.2.1; omega
   have hm := mLess x0
   have hm2 := fun n => mSwap (w := wr.drewN n) (show (wr.drewN n).cell? ⟨Bh, 0, none⟩ = some _ from x0)
   by_cases hk : key l' j' < key l' i
   ·have hd : decide (key l' j' < key l' i) = true := decide_eq_true hk
    clear hk
    go_wp2_with (first
     | (go_at_call 113; refine (less j' i _ hs hjl hil).mono ?_; rintro e w1 ⟨rfl, m, rfl⟩; rw [hd]; have hs1 := HA.out.2.1.drewN m; clear hs)
     | (go_at_call 116; refine (swap i j' _ hs1 hil hjl).mono ?_; rintro e w2 ⟨rfl, hs2, hg2⟩))
    obtain ⟨hj, hs, hui, hp, hg, hi, hl'⟩ := HA.out
    go_roundg (i + 1)
    case measure => omega
    case rel => exact ⟨i, swp l' i j', by omega, by go_num, hs2, hi ▸ up_step hui (by omega) (hi ▸ of_decide_eq_true hd), (swp_perm l' i j' hil hjl).trans hp, (gdn hg m).trans hg2⟩
   ·have hd : decide (key l' j' < key l' i) = false := decide_eq_false hk
    clear hk
    go_wp2_with (go_at_call 113; refine (less j' i _ hs hjl hil).mono ?_; rintro e w1 ⟨rfl, m, rfl⟩; rw [hd]; clear hs)
    refine bodyPost_end (v := .tuple #[]) (by simp [results, Tryz.results45, go_sem]) rfl ?_
    obtain ⟨hj, hs, hui, hp, hg, hi, hl'⟩ := HA.out
    exact ⟨rfl, l', hs.drewN m, hp, up_end hui (Or.inr (hi ▸ of_decide_eq_false hd)), gdn hg m⟩
end Go.Proofs.YthbcefopbmkppaaGreat.HP
namespace Go.Proofs.YthbcefopbmkppaaGreat.HP
open Go.ChangeShapes Go.WideShapes Go.ChangeAt Go.RowKit
variable {w W W' : World} {base Bh g c : Nat} {l : List Rg}
def isB (e : Ending) : Prop := ∃ b, e = .returned (.bool b)
set_option maxHeartbeats 4000000 in
theorem down (n : Nat) (w : World) (h : HS base Bh g c l w) (hd : DownInv l n 0) (hlen : l.length ≤ 1048576) :
  Calls Tryz.prog 63 #[hI Bh, .int .i64 0, .int .i64 (n : Int)] w fun e w' => isB e ∧ ∃ l', HS base Bh g c l' w' ∧ l'.Perm l ∧ HeapN l' n ∧ (∀ k, n ≤ k → at_ l' k = at_ l k) ∧ w.grownBy w' (some g) := by
 go_enter Tryz.func63, Tryz.ntmps63
 go_wp2
 go_loopg [7] (n + 1) (fun gk v W => ∃ (i : Nat) (l' : List Rg), i ≤ n ∧ i + gk = n + 1 ∧ v = .int .i64 (i : Int) ∧ HS base Bh g c l' W ∧ DownInv l' n i ∧ l'.Perm l ∧ (∀ k, n ≤ k → at_ l' k = at_ l k) ∧ w.grownBy W (some g))
 case atStart => exact ⟨0, l, by omega, by omega, rfl, h, hd, List.Perm.refl _, fun _ _ => rfl, M0.grown_refl _ _⟩
 case round =>
  obtain ⟨i, l', hin, hik, rfl, hs, hdi, hp, hat, hg⟩ := hrel
  have hl' : l'.length ≤ 1048576 := hp.length_eq ▸ hlen
  have hn := hdi.2.2
  have x0 := hs.cell
  have hm0 := mLess x0
  have HA : Hid (i + gk = n + 1 ∧ HS base Bh g c l' wr ∧ DownInv l' n i ∧ l'.Perm l ∧ (∀ k, n ≤ k → at_ l' k = at_ l k) ∧ w.grownBy wr (some g)) := ⟨hik, hs, hdi, hp, hat, hg⟩
  clear hdi hp hat h hd
  obtain ⟨j1, hj1⟩ : ∃ j1 : Nat, j1 = 2 * i + 1 := ⟨_, rfl⟩
  obtain ⟨j2, hj2⟩ : ∃ j2 : Nat, j2 = 2 * i + 2 := ⟨_, rfl⟩
  have hi2 : i ≤ n := by omega
  have eA : wrap64 (2 * (i : Int)) = 2 * (i : Int) := by unfold wrap64; omega
  have eB : 2 * (i : Int) + 1 = (j1 : Int) := by omega
  have eC : (j1 : Int) + 1 = (j2 : Int) := by omega
  have eB' : wrap64 (j1 : Int) = (j1 : Int) := by unfold wrap64; omega
  have eC' : wrap64 (j2 : Int) = (j2 : Int) := by unfold wrap64; omega
  have c2 : ¬ ((j1 : Int) < 0) := by omega
  by_cases hc : 2 * i + 1 < n
  ·have HC : Hid (2 * i + 1 < n) := hc
   have c1 : ¬ ((n : Int) ≤ (j1 : Int)) := by omega
   have c1' : ¬ (n ≤ j1) := by omega
   have hil : i < l'.length := by omega
   have h1l : j1 < l'.length := by omega
   by_cases hb : j2 < n
   ·have c3 : (j2 : Int) < (n : Int) := by omega
    have h2l : j2 < l'.length := by omega
    by_cases hk2 : key l' j2 < key l' j1
    ·have hq : decide (key l' j2 < key l' j1) = true := decide_eq_true hk2
     have hkid : kid l' n i = j2 := by unfold kid; rw [if_pos ⟨by omega, by rw [← hj1, ← hj2]; exact hk2⟩]; omega
     have HJ : Hid (j1 = 2 * i + 1 ∧ j2 = 2 * i + 2) := ⟨hj1, hj2⟩
     clear hk2 hj1 hj2 hc hg hik
     obtain ⟨hjn, hij, hjp⟩ := kid_lt (l := l') HC.out
     rw [hkid] at hjn hij hjp
     have hjl : j2 < l'.length := by omega
     by_cases hk : key l' j2 < key l' i
     ·have hd : decide (key l' j2 < key l' i) = true := decide_eq_true hk
      have HK : Hid (kid l' n i = j2 ∧ i < j2 ∧ j2 < n ∧ key l' j2 < key l' i) := ⟨hkid, hij, hjn, hk⟩
      clear hk hkid hij hjn hjp
      go_wp2_with (first
       | (go_at_call 113; refine (less j2 j1 _ hs h2l h1l).mono ?_; rintro e w1 ⟨rfl, m, rfl⟩; have hs1 := hs.drewN m; have gr1 := gdn HA.out.2.2.2.2.2 m; generalize wr.drewN m = W1 at *; have hm1 := mLess hs1.cell; clear hs hm0; rw [hq])
       | (go_at_call 113; refine (less j2 i _ hs1 hjl hil).mono ?_; rintro e w2 ⟨rfl, m2, rfl⟩; have hs2 := hs1.drewN m2; have gr2 := gdn gr1 m2; generalize W1.drewN m2 = W2 at *; have hm3 := mSwap hs2.cell; clear hs1 gr1 hm1; rw [hd])
       | (go_at_call 116; refine (swap i j2 _ hs2 hil hjl).mono ?_; rintro e w3 ⟨rfl, hs3, hg3⟩))
      obtain ⟨hik, hs, hdi, hp, hat, hg⟩ := HA.out
      obtain ⟨hkid, hij, hjn, hk⟩ := HK.out
      go_roundg (n + 1 - j2)
      case measure => omega
      case rel => exact ⟨j2, swp l' i j2, by omega, by omega, by go_num, hs3, (by have q := down_step hdi HC.out (by rw [hkid]; exact hk); rw [hkid] at q; exact q), (swp_perm l' i j2 hil hjl).trans hp, fun k hk => by rw [swp_at l' i j2 k hil hjl, if_neg (by omega), if_neg (by omega)]; exact hat k hk, gr2.trans hg3⟩
     ·have hd : decide (key l' j2 < key l' i) = false := decide_eq_false hk
      have HK : Hid (kid l' n i = j2 ∧ ¬ key l' j2 < key l' i) := ⟨hkid, hk⟩
      clear hk hkid hij hjn hjp
      go_wp2_with (first
       | (go_at_call 113; refine (less j2 j1 _ hs h2l h1l).mono ?_; rintro e w1 ⟨rfl, m, rfl⟩; have hs1 := hs.drewN m; have gr1 := gdn HA.out.2.2.2.2.2 m; generalize wr.drewN m = W1 at *; have hm1 := mLess hs1.cell; clear hs hm0; rw [hq])
       | (go_at_call 113; refine (less j2 i _ hs1 hjl hil).mono ?_; rintro e w2 ⟨rfl, m2, rfl⟩; have hs2 := hs1.drewN m2; have gr2 := gdn gr1 m2; generalize W1.drewN m2 = W2 at *; have hm3 := mSwap hs2.cell; clear hs1 gr1 hm1; rw [hd]))
      go_ret
      obtain ⟨hik, hs, hdi, hp, hat, hg⟩ := HA.out
      exact ⟨⟨_, rfl⟩, l', hs2, hp, down_end hdi (Or.inr (by rw [HK.out.1]; have := HK.out.2; omega)), hat, gr2⟩
    ·have hq : decide (key l' j2 < key l' j1) = false := decide_eq_false hk2
     have hkid : kid l' n i = j1 := by unfold kid; rw [if_neg (fun q => hk2 (by rw [hj1, hj2]; exact q.2))]; omega
     have HJ : Hid (j1 = 2 * i + 1 ∧ j2 = 2 * i + 2) := ⟨hj1, hj2⟩
     clear hk2 hj1 hj2 hc hg hik
     obtain ⟨hjn, hij, hjp⟩ := kid_lt (l := l') HC.out
     rw [hkid] at hjn hij hjp
     have hjl : j1 < l'.length := by omega
     by_cases hk : key l' j1 < key l' i
     ·have hd : decide (key l' j1 < key l' i) = true := decide_eq_true hk
      have HK : Hid (kid l' n i = j1 ∧ i < j1 ∧ j1 < n ∧ key l' j1 < key l' i) := ⟨hkid, hij, hjn, hk⟩
      clear hk hkid hij hjn hjp
      go_wp2_with (first
       | (go_at_call 113; refine (less j2 j1 _ hs h2l h1l).mono ?_; rintro e w1 ⟨rfl, m, rfl⟩; have hs1 := hs.drewN m; have gr1 := gdn HA.out.2.2.2.2.2 m; generalize wr.drewN m = W1 at *; have hm1 := mLess hs1.cell; clear hs hm0; rw [hq])
       | (go_at_call 113; refine (less j1 i _ hs1 hjl hil).mono ?_; rintro e w2 ⟨rfl, m2, rfl⟩; have hs2 := hs1.drewN m2; have gr2 := gdn gr1 m2; generalize W1.drewN m2 = W2 at *; have hm3 := mSwap hs2.cell; clear hs1 gr1 hm1; rw [hd])
       | (go_at_call 116; refine (swap i j1 _ hs2 hil hjl).mono ?_; rintro e w3 ⟨rfl, hs3, hg3⟩))
      obtain ⟨hik, hs, hdi, hp, hat, hg⟩ := HA.out
      obtain ⟨hkid, hij, hjn, hk⟩ := HK.out
      go_roundg (n + 1 - j1)
      case measure => omega
      case rel => exact ⟨j1, swp l' i j1, by omega, by omega, by go_num, hs3, (by have q := down_step hdi HC.out (by rw [hkid]; exact hk); rw [hkid] at q; exact q), (swp_perm l' i j1 hil hjl).trans hp, fun k hk => by rw [swp_at l' i j1 k hil hjl, if_neg (by omega), if_neg (by omega)]; exact hat k hk, gr2.trans hg3⟩
     ·have hd : decide (key l' j1 < key l' i) = false := decide_eq_false hk
      have HK : Hid (kid l' n i = j1 ∧ ¬ key l' j1 < key l' i) := ⟨hkid, hk⟩
      clear hk hkid hij hjn hjp
      go_wp2_with (first
       | (go_at_call 113; refine (less j2 j1 _ hs h2l h1l).mono ?_; rintro e w1 ⟨rfl, m, rfl⟩; have hs1 := hs.drewN m; have gr1 := gdn HA.out.2.2.2.2.2 m; generalize wr.drewN m = W1 at *; have hm1 := mLess hs1.cell; clear hs hm0; rw [hq])
       | (go_at_call 113; refine (less j1 i _ hs1 hjl hil).mono ?_; rintro e w2 ⟨rfl, m2, rfl⟩; have hs2 := hs1.drewN m2; have gr2 := gdn gr1 m2; generalize W1.drewN m2 = W2 at *; have hm3 := mSwap hs2.cell; clear hs1 gr1 hm1; rw [hd]))
      go_ret
      obtain ⟨hik, hs, hdi, hp, hat, hg⟩ := HA.out
      exact ⟨⟨_, rfl⟩, l', hs2, hp, down_end hdi (Or.inr (by rw [HK.out.1]; have := HK.out.2; omega)), hat, gr2⟩
   ·have c3 : ¬ ((j2 : Int) < (n : Int)) := by omega
    have hkid : kid l' n i = j1 := by unfold kid; rw [if_neg (fun q => hb (by omega))]; omega
    have HJ : Hid (j1 = 2 * i + 1 ∧ j2 = 2 * i + 2) := ⟨hj1, hj2⟩
    obtain ⟨W1, hW⟩ : ∃ W1, wr = W1 := ⟨_, rfl⟩
    subst hW
    have hs1 := hs
    have gr1 := hg
    have hm1 := hm0
    clear hj1 hj2 hc hg hik hs hm0
    obtain ⟨hjn, hij, hjp⟩ := kid_lt (l := l') HC.out
    rw [hkid] at hjn hij hjp
    have hjl : j1 < l'.length := by omega
    by_cases hk : key l' j1 < key l' i
    ·have hd : decide (key l' j1 < key l' i) = true := decide_eq_true hk
     have HK : Hid (kid l' n i = j1 ∧ i < j1 ∧ j1 < n ∧ key l' j1 < key l' i) := ⟨hkid, hij, hjn, hk⟩
     clear hk hkid hij hjn hjp
     go_wp2_with (first
      | (fail)
      | (go_at_call 113; refine (less j1 i _ hs1 hjl hil).mono ?_; rintro e w2 ⟨rfl, m2, rfl⟩; have hs2 := hs1.drewN m2; have gr2 := gdn gr1 m2; generalize wr.drewN m2 = W2 at *; have hm3 := mSwap hs2.cell; clear hs1 gr1 hm1; rw [hd])
      | (go_at_call 116; refine (swap i j1 _ hs2 hil hjl).mono ?_; rintro e w3 ⟨rfl, hs3, hg3⟩))
     obtain ⟨hik, hs, hdi, hp, hat, hg⟩ := HA.out
     obtain ⟨hkid, hij, hjn, hk⟩ := HK.out
     go_roundg (n + 1 - j1)
     case measure => omega
     case rel => exact ⟨j1, swp l' i j1, by omega, by omega, by go_num, hs3, (by have q := down_step hdi HC.out (by rw [hkid]; exact hk); rw [hkid] at q; exact q), (swp_perm l' i j1 hil hjl).trans hp, fun k hk => by rw [swp_at l' i j1 k hil hjl, if_neg (by omega), if_neg (by omega)]; exact hat k hk, gr2.trans hg3⟩
    ·have hd : decide (key l' j1 < key l' i) = false := decide_eq_false hk
     have HK : Hid (kid l' n i = j1 ∧ ¬ key l' j1 < key l' i) := ⟨hkid, hk⟩
     clear hk hkid hij hjn hjp
     go_wp2_with (first
      | (fail)
      | (go_at_call 113; refine (less j1 i _ hs1 hjl hil).mono ?_; rintro e w2 ⟨rfl, m2, rfl⟩; have hs2 := hs1.drewN m2; have gr2 := gdn gr1 m2; generalize wr.drewN m2 = W2 at *; have hm3 := mSwap hs2.cell; clear hs1 gr1 hm1; rw [hd]))
     go_ret
     obtain ⟨hik, hs, hdi, hp, hat, hg⟩ := HA.out
     exact ⟨⟨_, rfl⟩, l', hs2, hp, down_end hdi (Or.inr (by rw [HK.out.1]; have := HK.out.2; omega)), hat, gr2⟩
  ·have c1 : (n : Int) ≤ (j1 : Int) := by omega
   have HC : Hid (¬ 2 * i + 1 < n) := hc
   clear hj1 hj2 hc hg hik
   go_wp2
   go_ret
   obtain ⟨hik, hs, hdi, hp, hat, hg⟩ := HA.out
   exact ⟨⟨_, rfl⟩, l', hs, hp, down_end hdi (Or.inl HC.out), hat, hg⟩
end Go.Proofs.YthbcefopbmkppaaGreat.HP
namespace Go.Proofs.YthbcefopbmkppaaGreat.HP
open Go.ChangeShapes Go.WideShapes Go.ChangeAt Go.RowKit
variable {w W W' : World} {base Bh g c : Nat} {l : List Rg}
set_option maxHeartbeats 1000000 in
theorem len (w : World) (n c g : Nat) : Calls Tryz.prog 29 #[.slice (some ⟨g, 0, none⟩) n c] w fun e w' => e = .returned (.int .i64 (n : Int)) ∧ w' = w := by
 go_enter Tryz.func29, Tryz.ntmps29
 go_wp2
 go_ret
 exact ⟨rfl, rfl⟩
set_option maxHeartbeats 2000000 in
theorem heapPush (r : Rg) (w : World) (h : HS base Bh g c l w) (hh : HeapN l l.length) (hlen : l.length + 1 ≤ 1048576) :
  Calls Tryz.prog 28 #[hI Bh, .iface 38 (.agg #[.int .i64 r.1, .int .i64 r.2])] w fun e w' => e = .returned (.tuple #[]) ∧ ∃ g' c' l', HS base Bh g' c' l' w' ∧ l'.Perm (l ++ [r]) ∧ HeapN l' l'.length ∧ Chg Bh g g' w w' := by
 have hm := mPush (some ⟨Bh, 0, none⟩) w
 have hps := push r w h hlen
 have hll : (l ++ [r]).length = l.length + 1 := by simp
 have HA : Hid (UpInv (l ++ [r]) l.length ∧ l.length + 1 ≤ 1048576) := ⟨push_start hh r, hlen⟩
 have en : ((l.length + 1 : Nat) : Int) - 1 = (l.length : Int) := by omega
 have en2 : ((l.length : Int) + 1) - 1 = (l.length : Int) := by omega
 have en3 : wrap64 (l.length : Int) = (l.length : Int) := by unfold wrap64; omega
 clear h hh
 go_enter Tryz.func28, Tryz.ntmps28
 go_wp2_with (go_at_call 115; refine hps.mono ?_; rintro e w1 ⟨rfl, g1, c1, hs1, ch1⟩; have x1 := hs1.cell; rw [hll] at x1; have hm1 := mLen x1)
 go_wp2_with (go_at_call 29; refine (len _ _ _ _).mono ?_; rintro e w2 ⟨rfl, rfl⟩)
 go_wp2_with (go_at_call 45; refine (up l.length _ hs1 HA.out.1 (by simpa using HA.out.2)).mono ?_; rintro e w3 ⟨rfl, l3, hs3, hp3, hh3, hg3⟩)
 refine bodyPost_end (v := .tuple #[]) (by simp [results, Tryz.results28, go_sem]) rfl ?_
 exact ⟨rfl, g1, c1, l3, hs3, hp3, hh3, ch1.grown hg3⟩
end Go.Proofs.YthbcefopbmkppaaGreat.HP
namespace Go.Proofs.YthbcefopbmkppaaGreat.HP
open Go.ChangeShapes Go.WideShapes Go.ChangeAt Go.RowKit
variable {w W W' : World} {base Bh g c : Nat} {l : List Rg}
theorem last_split {l2 : List Rg} {m : Nat} (h : l2.length = m + 1) : l2 = l2.take m ++ [at_ l2 m] := by
 rw [at_get l2 m (by omega)]
 have := List.take_append_drop m l2
 rw [List.drop_eq_getElem_cons (by omega), List.drop_eq_nil_of_le (show l2.length ≤ m + 1 by omega)] at this
 exact this.symm
theorem heap_take {l2 : List Rg} {m : Nat} (h : l2.length = m + 1) (hh : HeapN l2 m) : HeapN (l2.take m) (l2.take m).length := by
 have e : (l2.take m).length = m := by rw [List.length_take]; omega
 have k : ∀ i, i < m → key (l2.take m) i = key l2 i := by
  intro i hi
  unfold key
  rw [at_get _ i (by omega), at_get l2 i (by omega), List.getElem_take]
 rw [e]
 intro i h0 hi
 rw [k i hi, k _ (by omega)]
 exact hh i h0 hi
set_option maxHeartbeats 2000000 in
theorem heapPop (m : Nat) (w : World) (h : HS base Bh g c l w) (hh : HeapN l l.length) (hm : l.length = m + 1) (hlen : l.length ≤ 1048576) :
  Calls Tryz.prog 46 #[hI Bh] w fun e w' => ∃ (r : Rg) (l' : List Rg), e = .returned (.iface 38 (.agg #[.int .i64 r.1, .int .i64 r.2])) ∧ r = at_ l 0 ∧ (r :: l').Perm l ∧ HS base Bh g c l' w' ∧ HeapN l' l'.length ∧ Chg Bh g g w w' := by
 have x0 := h.cell
 have hm1 := mLen x0
 have hm2 := fun k => mSwap (w := w.drewN k) (show (w.drewN k).cell? ⟨Bh, 0, none⟩ = some _ from x0)
 have hm3 := mSwap x0
 have HA : Hid (HeapN l l.length ∧ l.length = m + 1 ∧ l.length ≤ 1048576 ∧ HS base Bh g c l w) := ⟨hh, hm, hlen, h⟩
 have hsw := swap 0 m w h (by omega) (by omega)
 rw [hm] at x0 hm1 hm2 hm3 hsw
 have en2 : ((m : Int) + 1) - 1 = (m : Int) := by omega
 have en3 : wrap64 (m : Int) = (m : Int) := by unfold wrap64; omega
 clear h hh hm
 go_enter Tryz.func46, Tryz.ntmps46
 go_wp2_with (go_at_call 29; refine (len _ _ _ _).mono ?_; rintro e w2 ⟨rfl, hw⟩; subst w2)
 go_wp2_with (go_at_call 116; refine hsw.mono ?_; rintro e w1 ⟨rfl, hs1, hg1⟩)
 obtain ⟨hh, hm, hlen, h⟩ := HA.out
 have hdn := down m w1 hs1 (pop_start hh hm) (by rw [swp_length]; exact hlen)
 clear hh hm h
 go_wp2_with (go_at_call 63; refine hdn.mono ?_; rintro e w3 ⟨⟨b, rfl⟩, l2, hs2, hp2, hh2, hat2, hg2⟩)
 obtain ⟨hh, hm, hlen, h⟩ := HA.out
 have hl2 : l2.length = m + 1 := by rw [hp2.length_eq, swp_length, hm]
 have ha : at_ l2 m = at_ l 0 := by rw [hat2 m (Nat.le_refl _), swp_at l 0 m m (by omega) (by omega), if_pos rfl]
 have hsp := last_split hl2
 rw [ha] at hsp
 have ht := heap_take hl2 hh2
 have hpm : (at_ l 0 :: l2.take m).Perm l := by
  have q1 : (l2.take m ++ [at_ l 0]).Perm (at_ l 0 :: l2.take m) := List.perm_append_comm
  rw [← hsp] at q1
  exact q1.symm.trans (hp2.trans (swp_perm l 0 m (by omega) (by omega)))
 rw [hsp] at hs2
 have hpp := pop (at_ l 0) w3 hs2
 have hm4 := mPop (some ⟨Bh, 0, none⟩) w3
 have HB : Hid ((at_ l 0 :: l2.take m).Perm l ∧ HeapN (l2.take m) (l2.take m).length ∧ w.grownBy w3 (some g)) := ⟨hpm, ht, hg1.trans hg2⟩
 obtain ⟨r, hr⟩ : ∃ r, at_ l 0 = r := ⟨_, rfl⟩
 obtain ⟨lt, hlt⟩ : ∃ lt, l2.take m = lt := ⟨_, rfl⟩
 rw [hr, hlt] at HB hpp
 have HR : Hid (r = at_ l 0) := hr.symm
 clear hh hm h hl2 ha hsp ht hpm hs2 hs1 hg1 hg2 hp2 hh2 hat2 hdn hr hlt
 go_wp2_with (go_at_call 114; refine hpp.mono ?_; rintro e w4 ⟨rfl, hs4, ch4⟩)
 go_ret
 refine ⟨r, lt, rfl, HR.out, HB.out.1, hs4, HB.out.2.1, ?_⟩
 have gr := HB.out.2.2
 exact ⟨ch4.os.trans gr.os, ch4.tape.trans gr.tape, ch4.output.trans gr.output, Nat.le_trans gr.size ch4.size, fun k hk hb hg => (ch4.block k (Nat.lt_of_lt_of_le hk gr.size) hb hg).trans (gr.block k hk (fun e => hg (Option.some.inj e))), Or.inl rfl⟩
theorem HS.grown {B : Nat} (h : HS base Bh g c l W) (hg : W.grownBy W' (some B)) (h1 : B ≠ Bh) (h2 : B ≠ g) : HS base Bh g c l W' :=
 ⟨(World.cell?_of_block (a := ⟨Bh, 0, none⟩) (hg.block Bh h.lt (fun e => h1 (Option.some.inj e).symm))).trans h.cell, (World.frozen?_of_block (a := ⟨Bh, 0, none⟩) (hg.block Bh h.lt (fun e => h1 (Option.some.inj e).symm))).trans h.free, h.buf.kept hg (Or.inr (fun e => h2 (Option.some.inj e).symm)), h.ne, h.lo, Nat.lt_of_lt_of_le h.lt hg.size⟩
theorem blk_block {B : Nat} {vs : List Value} (h : K0.Blk B vs W) (e : W'.heap[B]? = W.heap[B]?) (hs : W.heap.size ≤ W'.heap.size) : K0.Blk B vs W' :=
 ⟨fun j hj => (World.cell?_of_block (a := ⟨B, j, none⟩) e).trans (h.cell j hj), fun j hj => (World.frozen?_of_block (a := ⟨B, j, none⟩) e).trans (h.free j hj), Nat.lt_of_lt_of_le h.lt hs⟩
set_option maxHeartbeats 2000000 in
theorem least (m : Nat) (w : World) (h : HS base Bh g c l w) (hh : HeapN l l.length) (hm : l.length = m + 1) (hlen : l.length ≤ 1048576) :
  Calls Tryz.prog 30 #[.pointer (some ⟨Bh, 0, none⟩)] w fun e w' => ∃ (r : Rg) (l' : List Rg), e = .returned (.agg #[.int .i64 r.1, .int .i64 r.2]) ∧ r = at_ l 0 ∧ (r :: l').Perm l ∧ HS base Bh g c l' w' ∧ HeapN l' l'.length ∧ Chg Bh g g w w' := by
 have nl := K0.below_new w (.cells #[.int .i64 0, .int .i64 0] 38)
 have nb := K0.blk_new [.int .i64 0, .int .i64 0] w 38
 have hpp := heapPop m _ (h.below nl) hh hm hlen
 have hta := fun v W => asRange v W
 have HB1 : Hid (Bh < w.heap.size ∧ g < w.heap.size) := ⟨h.lt, h.glt.2⟩
 have hsz : (w.alloc (.cells #[.int .i64 0, .int .i64 0] 38)).heap.size = w.heap.size + 1 := by simp
 have HN : Hid (Below w.heap.size w (w.alloc (.cells #[.int .i64 0, .int .i64 0] 38))) := nl
 obtain ⟨B, hB⟩ : ∃ B, B = w.heap.size := ⟨_, rfl⟩
 clear h hh hm nl
 go_enter Tryz.func30, Tryz.ntmps30
 go_wp2_with (go_at_call 46; refine hpp.mono ?_; rintro e w4 ⟨r, l', rfl, hr, hp, hs, hh, ch⟩; have k4 := blk_block nb (ch.block w.heap.size (by omega) (by have := HB1.out; omega) (by have := HB1.out; omega)) ch.size; have z0 := k4.cell 0 (by simp); have z1 := k4.cell 1 (by simp); have f0 := k4.free 0 (by simp); have f1 := k4.free 1 (by simp); have g5 := M0.grown_set (j := 1) (M0.grown_set (j := 0) (M0.grown_refl w4 (some w.heap.size)) (.int .i64 r.1)) (.int .i64 r.2); have HH : Hid (r = at_ l 0 ∧ (r :: l').Perm l ∧ HS base Bh g c l' w4 ∧ HeapN l' l'.length ∧ Chg Bh g g (w.alloc (.cells #[.int .i64 0, .int .i64 0] 38)) w4) := ⟨hr, hp, hs, hh, ch⟩; clear hr hp hs hh ch k4)
 have y1 : ((w4.setCell ⟨w.heap.size, 0, none⟩ (.int .i64 r.1)).setCell ⟨w.heap.size, 1, none⟩ (.int .i64 r.2)).cell? ⟨w.heap.size, 1, none⟩ = some (.int .i64 r.2) := World.cell?_setCell_same _ _ _ ((World.cell?_setCell_other _ _ _ _ (by simp)).trans z1)
 have y0 : ((w4.setCell ⟨w.heap.size, 0, none⟩ (.int .i64 r.1)).setCell ⟨w.heap.size, 1, none⟩ (.int .i64 r.2)).cell? ⟨w.heap.size, 0, none⟩ = some (.int .i64 r.1) := (World.cell?_setCell_other _ _ _ _ (by simp)).trans (World.cell?_setCell_same _ _ _ z0)
 refine bodyPost_ret (v := .agg #[.int .i64 r.1, .int .i64 r.2]) (by simp [results, Tryz.results30, go_sem, y0, y1]) rfl ?_
 obtain ⟨hr, hp, hs, hh, ch⟩ := HH.out
 obtain ⟨b1, b2⟩ := HB1.out
 refine ⟨r, l', rfl, hr, hp, hs.grown g5 (by omega) (by omega), hh, ?_⟩
 have nl := HN.out
 exact ⟨g5.os.trans (ch.os.trans nl.os), g5.tape.trans (ch.tape.trans nl.tape), g5.output.trans (ch.output.trans nl.output), Nat.le_trans nl.size (Nat.le_trans ch.size g5.size), fun k hk hb hg => (g5.block k (Nat.lt_of_lt_of_le hk (Nat.le_trans nl.size ch.size)) (fun e => by have := Option.some.inj e; omega)).trans ((ch.block k (by omega) hb hg).trans (nl.block k hk)), Or.inl rfl⟩
end Go.Proofs.YthbcefopbmkppaaGreat.HP
