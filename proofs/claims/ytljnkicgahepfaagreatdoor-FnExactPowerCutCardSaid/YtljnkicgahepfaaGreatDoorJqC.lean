/- Joined texts: plain facts and contracts. -/
import Derived.Test.YtljnkicgahepfaaGreatDoorJqB
import Derived.Lib.SmallJoins
import Derived.OpenShut
import Derived.ShutString
import Derived.Laws.MakeOwn
import Derived.Test.YtljnkicgahepfaaGreatDoorJqA
import Derived.Lib.AppendZerosOnto
import Derived.Lib.ItoaNum
import Derived.Lib.ItoaLen
import Derived.Lib.ItoaMem
import Derived.Lib.Strings
import Derived.WalkKit
import Derived.Test.YtljnkicgahepfaaGreatDoorRows
import Derived.ProofKit
import Derived.Handy
set_option linter.unusedVariables false
set_option linter.unusedSimpArgs false
set_option maxRecDepth 10000
namespace Go.Proofs.YtljnkicgahepfaaGreatDoor.I2
open Go.ChangeShapes Go.WideShapes Go.ChangeAt Go.RowKit Go.Joins
open P1 (ret_bool quiet_bool)
open I0 (val vals)
section Args
variable {H : Type} {enc : TypeId × Value → H} {w : World}
theorem take_row {w : World} {b off : Nat} {zs : List Int} {n : Nat} (hb : b < w.heap.size) (hn : n ≤ zs.length) (hc : ∀ j, j < zs.length → w.cell? ⟨b, off + j, none⟩ = some (.int .i64 (zs.getD j 0))) : P0.Row w (some ⟨b, off, none⟩) (zs.take n) := by
 refine Or.inr ⟨b, off, rfl, hb, fun j hj => ?_⟩
 have hj' : j < n := by simp at hj; omega
 rw [hc j (by omega)]
 congr 2
 simp [List.getD, hj']
theorem cell_lt {w : World} {a : Addr} {v : Value} (h : w.cell? a = some v) : a.block < w.heap.size := by
 unfold World.cell? at h
 cases hb : w.heap[a.block]? with
 | none => simp [hb] at h
 | some o => exact (Array.getElem?_eq_some_iff.1 hb).1
theorem open_row {fuel : Nat} {v : Value} {x : DataW H × List MemPlace} (h : DataW.trod enc Tryz.prog w 0 (fun _ => true) true fuel 29 [v] = some x) :
  ∃ (a : Option Addr) (c : Nat) (zs : List Int), v = .slice a zs.length c ∧ zs.length ≤ c ∧ c ≤ maxLen ∧ P0.Row w a zs := by
 rcases open_ints Tryz.underlying29 Tryz.underlying3 (by kernel_rfl) h with ⟨hcs, _⟩ | ⟨a, len, cap, zs, hcs, _, hl, hm, hz, _, hcell, _⟩
 ·simp at hcs
  exact ⟨none, 0, [], hcs, Nat.le_refl _, Nat.zero_le _, Or.inl rfl⟩
 ·simp at hcs hz
  have hlen : (zs.take len).length = len := by simp; omega
  by_cases h0 : zs.length = 0
  ·have hl0 : len = 0 := by omega
   refine ⟨some a, cap, [], ?_, Nat.zero_le _, hm, Or.inl rfl⟩
   rw [hcs, hl0]
   rfl
  ·obtain ⟨b, off, rfl, hc⟩ := ints_at hcell (by omega)
   have hb : b < w.heap.size := cell_lt (hc 0 (by omega))
   exact ⟨some ⟨b, off, none⟩, cap, zs.take len, by rw [hcs, hlen], by omega, hm, take_row hb (by omega) hc⟩
end Args
def left (l : Int) (n : Nat) : Int := if l - n < 0 then -1 else l - n
theorem szIntS (a : Option Addr) (c n : Nat) (l : Int) (w : World) (hn : n ≤ maxLen) (h0 : 0 ≤ l) (h1 : l ≤ 1048576) :
  Calls Tryz.prog 208 #[.slice a n c, .int .i64 l] w fun e w' => e = .returned (.int .i64 (left l n)) ∧ w' = w := by
 unfold maxLen at hn
 by_cases h : l - (n : Int) < 0
 ·have e : left l n = -1 := if_pos h
  rw [e]
  go_enter Tryz.func208, Tryz.ntmps208
  go_wp2
  go_ret
  exact ⟨rfl, rfl⟩
 ·have e : left l n = l - (n : Int) := if_neg h
  rw [e]
  go_enter Tryz.func208, Tryz.ntmps208
  go_wp2
  go_ret
  exact ⟨rfl, rfl⟩
abbrev ints (zs : List Int) : List Value := zs.map fun z => .int .i64 z
theorem row_of_blk {W : World} {g : Nat} {zs : List Int} (h : K0.Blk g (ints zs) W) : P0.Row W (some ⟨g, 0, none⟩) zs := by
 refine Or.inr ⟨g, 0, rfl, h.lt, fun j hj => ?_⟩
 rw [Nat.zero_add, h.cell j (by simpa using hj)]
 simp [List.getD, hj]
def fill (zs : List Int) (k : Nat) : List Value := ints (zs.take k) ++ List.replicate (zs.length - k) (.int .i64 0)
theorem fill_zero (zs : List Int) : fill zs 0 = List.replicate zs.length (.int .i64 0) := by simp [fill]
theorem fill_all (zs : List Int) : fill zs zs.length = ints zs := by simp [fill]
theorem fill_length (zs : List Int) (k : Nat) (h : k ≤ zs.length) : (fill zs k).length = zs.length := by simp [fill]; omega
theorem fill_succ (zs : List Int) (k : Nat) (h : k < zs.length) : (fill zs k).set k (.int .i64 (zs.getD k 0)) = fill zs (k + 1) := by
 unfold fill
 have e : zs.length - k = (zs.length - (k + 1)) + 1 := by omega
 rw [e, List.replicate_succ, List.take_succ_eq_append_getElem h, ints, ints, List.map_append, List.set_append_right _ _ (by simp; omega)]
 have hm : min k zs.length = k := by omega
 simp [hm, List.getD, h]
theorem info3 : (Tryz.prog.info? 3).map (fun i => (i.zero, i.size, i.bytes)) = some (some (.int .i64 0), 1, 8) := by kernel_rfl
theorem make_ints (n : Nat) (hn : n ≤ 1048576) (W : World) : (Instr.makeSlice 29 (.int .i64 (n : Int)) (.int .i64 (n : Int))).run Tryz.prog W = .ok (.slice (some ⟨W.heap.size, 0, none⟩) n n) (W.alloc (.cells (List.replicate n (Value.int .i64 0)).toArray 3)) := by
 obtain ⟨i0, hi, hz0, hz1, hz2⟩ := info_parts info3
 have h := run_make (P := Tryz.prog) W 29 3 i0 (.int .i64 0) Tryz.underlying29 hi hz0 .i64 .i64 (n : Int) (n : Int) (by omega) (by omega) (by rw [hz2]; omega) (by omega)
 have e : madeCells (Value.int .i64 0).cells (n * i0.size) = (List.replicate n (Value.int .i64 0)).toArray := by
  apply Array.toList_inj.1
  rw [show (Value.int .i64 0).cells = #[Value.int .i64 0] from rfl, toList_madeCells_one, hz1]
  simp
 rw [show ((n : Int)).toNat = n by omega, e] at h
 exact h
set_option maxHeartbeats 1000000 in
theorem toIntS (a : Option Addr) (c : Nat) (zs : List Int) (w : World) (hn : zs.length ≤ 1048576) (hR : P0.Row w a zs) :
  Calls Tryz.prog 30 #[.slice a zs.length c] w fun e w' => ∃ g, e = .returned (.slice (some ⟨g, 0, none⟩) zs.length zs.length) ∧ w.heap.size ≤ g ∧ K0.Blk g (ints zs) w' ∧ Below w.heap.size w w' := by
 have hmk := make_ints zs.length hn
 have hb0 := K0.blk_new (List.replicate zs.length (Value.int .i64 0)) w 3
 have hl0 := K0.below_new w (.cells (List.replicate zs.length (Value.int .i64 0)).toArray 3)
 obtain ⟨W0, hW0⟩ : ∃ W0, w.alloc (.cells (List.replicate zs.length (Value.int .i64 0)).toArray 3) = W0 := ⟨_, rfl⟩
 have hmk0 := hmk w
 rw [hW0] at hb0 hl0 hmk0
 clear hmk hW0
 go_enter Tryz.func30, Tryz.ntmps30
 go_wp2
 go_loopw [4] (fun i w' => ∃ k : Nat, k ≤ zs.length ∧ i = .int .i64 k ∧ K0.Blk w.heap.size (fill zs k) w' ∧ Below w.heap.size w w') (fun i _ => zs.length - (intOf i).toNat)
 case atStart => exact ⟨0, Nat.zero_le _, rfl, by rw [fill_zero]; exact hb0, hl0⟩
 case round =>
  obtain ⟨k, hk, rfl, hblk, hbel⟩ := hrel
  by_cases hlt : k < zs.length
  ·obtain ⟨b, off, rfl, hb, hc⟩ := (hR.below hbel).get hlt
   have x1 := hc k hlt
   have x2 := hblk.cell k (by rw [fill_length _ _ hk]; exact hlt)
   have x3 := hblk.free k (by rw [fill_length _ _ hk]; exact hlt)
   obtain ⟨u, x4⟩ : ∃ u, wr.cell? ⟨w.heap.size, k, none⟩ = some u := ⟨_, x2⟩
   have HB : Hid (K0.Blk w.heap.size (fill zs (k + 1)) (wr.setCell ⟨w.heap.size, k, none⟩ (.int .i64 (zs.getD k 0)))) := by rw [← fill_succ zs k hlt]; exact hblk.set k _
   obtain ⟨z, ez⟩ : ∃ z, zs.getD k 0 = z := ⟨_, rfl⟩
   rw [ez] at x1 HB
   have e1 : (0 : Int) ≤ (k : Int) := by omega
   have e2 : (k : Int) < (zs.length : Int) := by omega
   clear x2 ez hc hblk hR hb0 hl0 hmk0
   go_wp2
   go_roundw
   case rel => exact ⟨k + 1, by omega, by go_num, HB.out, hbel.setCell (p := ⟨w.heap.size, k, none⟩) (Nat.le_refl _) _⟩
   case measure => simp [intOf]; omega
  ·obtain rfl : k = zs.length := by omega
   rw [fill_all] at hblk
   clear hR hb0 hl0 hmk0
   go_wp2
   go_ret
   exact ⟨_, rfl, Nat.le_refl _, hblk, hbel⟩
theorem eqIntS (a1 a2 : Option Addr) (c1 c2 : Nat) (zs : List Int) (w : World) (hn : zs.length ≤ 281474976710656) (h1 : P0.Row w a1 zs) (h2 : P0.Row w a2 zs) :
  Calls Tryz.prog 25 #[.slice a1 zs.length c1, .slice a2 zs.length c2] w fun e w' => e = .returned (.bool true) ∧ ∃ n, w' = w.drewN n := by
 go_enter Tryz.func25, Tryz.ntmps25
 go_wp2
 go_loopw [5] (fun i w' => ∃ k n : Nat, k ≤ zs.length ∧ w' = w.drewN n ∧ i = .int .i64 k) (fun i _ => zs.length - (intOf i).toNat)
 case atStart => exact ⟨0, 0, Nat.zero_le _, rfl, rfl⟩
 case round =>
  obtain ⟨k, n, hk, rfl, rfl⟩ := hrel
  by_cases hlt : k < zs.length
  ·have e1 : (0 : Int) ≤ (k : Int) := by omega
   have e2 : (k : Int) < (zs.length : Int) := by omega
   obtain ⟨b1, off1, rfl, hb1, hc1⟩ := h1.get hlt
   obtain ⟨b2, off2, rfl, hb2, hc2⟩ := h2.get hlt
   have x1 := hc1 k hlt
   have x2 := hc2 k hlt
   obtain ⟨z, ez⟩ : ∃ z, zs.getD k 0 = z := ⟨_, rfl⟩
   rw [ez] at x1 x2
   clear ez hc1 hc2 h1 h2
   go_wp2
   go_quiet (fail)
   go_wp2
   go_roundw
   case rel => exact ⟨k + 1, _, by omega, rfl, by go_num⟩
   case measure => simp [intOf]; omega
  ·clear h1 h2
   go_wp2
   go_ret
   exact ⟨rfl, _, rfl⟩
structure Three (w : World) (k o s : Int) (a : Option Addr) (n c : Nat) (W : World) : Prop where
 arg : K0.Blk w.heap.size (vals k o s a n c) W
 res : K0.Blk (w.heap.size + 1) (vals 0 0 0 none 0 0) W
 tmp : K0.Blk (w.heap.size + 2) (vals k o s none 0 0) W
 bel : Below w.heap.size w W
theorem Three.below {w W W' : World} {k o s : Int} {a : Option Addr} {n c : Nat} (h : Three w k o s a n c W) (hb : Below W.heap.size W W') : Three w k o s a n c W' :=
 ⟨h.arg.below hb, h.res.below hb, h.tmp.below hb, h.bel.trans (hb.mono (Nat.le_of_lt h.arg.lt))⟩
end Go.Proofs.YtljnkicgahepfaaGreatDoor.I2
namespace Go.Proofs.YtljnkicgahepfaaGreatDoor.J0
open Go.ChangeShapes Go.WideShapes Go.ChangeAt Go.RowKit
open I2 (ints)
def IBuf (base : Nat) (w : World) (a : Option Addr) (n cap : Nat) (zs : List Int) : Prop := n = zs.length ∧ w.ownsRow base 3 1 (.slice a n cap) n (ints zs)
variable {base n cap : Nat} {a : Option Addr} {w W : World} {zs : List Int}
theorem blk_keep {B B0 : Nat} {vs : List Value} (h : K0.Blk B vs w) (hb : Below B0 w W) (hlt : B < B0) : K0.Blk B vs W :=
 ⟨fun j hj => (hb.cell (p := ⟨B, j, none⟩) hlt).trans (h.cell j hj), fun j hj => (hb.frozen (p := ⟨B, j, none⟩) hlt).trans (h.free j hj), Nat.lt_of_lt_of_le h.lt hb.size⟩
theorem IBuf.below (h : IBuf base w a n cap zs) (hb : Below w.heap.size w W) : IBuf base W a n cap zs := ⟨h.1, F0.owns_below h.2 hb⟩
theorem IBuf.alloc (h : IBuf base w a n cap zs) (o : Obj) : IBuf base (w.alloc o) a n cap zs := h.below ((Below.refl _ _).alloc (Nat.le_refl _) o)
theorem IBuf.drew (h : IBuf base w a n cap zs) : IBuf base w.drew a n cap zs := h
theorem IBuf.drewN (h : IBuf base w a n cap zs) (m : Nat) : IBuf base (w.drewN m) a n cap zs := h
theorem ibuf_nil (w : World) : IBuf base w none 0 0 [] := ⟨rfl, rfl, Or.inl ⟨rfl, rfl⟩⟩
theorem ibuf_made (w : World) (hb : base ≤ w.heap.size) : IBuf base (w.alloc (.cells #[] 3)) (some ⟨w.heap.size, 0, none⟩) 0 0 [] := ⟨rfl, World.ownsRow_made w #[] 0 hb (Nat.zero_le _) rfl⟩
theorem IBuf.fits (h : IBuf base w a n cap zs) : n ≤ cap := by
 rcases h.2.2 with ⟨h0, h1⟩ | ⟨g, c, cur, hv, _, _, hle, _⟩
 ·omega
 ·simp at hv
  omega
def Own (base : Nat) (W : World) (a : Option Addr) (zs : List Int) : Prop := zs = [] ∨ ∃ g, a = some ⟨g, 0, none⟩ ∧ base ≤ g ∧ K0.Blk g (ints zs) W
theorem IBuf.own (h : IBuf base w a n cap zs) : Own base w a zs := by
 rcases h.2.2 with ⟨h0, h1⟩ | ⟨g, c, cur, hv, hg, hc, hle, _, hs, ht⟩
 ·left
  exact List.eq_nil_of_length_eq_zero (by rw [← h.1]; exact h1)
 ·right
  simp at hv
  refine ⟨g, hv.1, hg, ⟨fun j hj => ?_, fun j hj => ?_, (Array.getElem?_eq_some_iff.1 hc).1⟩⟩
  ·have hcell : w.cell? ⟨g, j, none⟩ = cur[j]? := by
    unfold World.cell?
    rw [hc]
    simp
   have hj' : j < zs.length := by simpa using hj
   have e1 : (cur.toList.take (n * 1))[j]? = (ints zs)[j]? := by rw [ht]
   rw [List.getElem?_take_of_lt (by have := h.1; omega)] at e1
   rw [hcell, ← Array.getElem?_toList, e1]
   simp [hj']
  ·unfold World.frozen?
   rw [hc]
   simp
theorem Own.row (h : Own base W a zs) : P0.Row W a zs := by
 rcases h with h | ⟨g, rfl, _, hb⟩
 ·exact Or.inl h
 ·exact I2.row_of_blk hb
theorem Own.below {W' : World} (h : Own base W a zs) (hb : Below W.heap.size W W') : Own base W' a zs := by
 rcases h with h | ⟨g, e, hg, hk⟩
 ·exact Or.inl h
 ·exact Or.inr ⟨g, e, hg, hk.below hb⟩
theorem Own.alloc (h : Own base W a zs) (o : Obj) : Own base (W.alloc o) a zs := h.below ((Below.refl _ _).alloc (Nat.le_refl _) o)
theorem Own.drew (h : Own base W a zs) : Own base W.drew a zs := h.imp id fun ⟨g, e, hg, hk⟩ => ⟨g, e, hg, hk.drew⟩
theorem Own.drewN (h : Own base W a zs) (m : Nat) : Own base (W.drewN m) a zs := h.imp id fun ⟨g, e, hg, hk⟩ => ⟨g, e, hg, hk.drewN m⟩
theorem Own.mono {base' : Nat} (h : Own base W a zs) (hb : base' ≤ base) : Own base' W a zs := by
 rcases h with h | ⟨g, e, hg, hk⟩
 ·exact Or.inl h
 ·exact Or.inr ⟨g, e, Nat.le_trans hb hg, hk⟩
theorem Own.set (h : Own base W a zs) {B : Nat} (hB : B < base) (j : Nat) (v : Value) : Own base (W.setCell ⟨B, j, none⟩ v) a zs := by
 rcases h with h | ⟨g, e, hg, hk⟩
 ·exact Or.inl h
 ·exact Or.inr ⟨g, e, hg, hk.setOther (by omega) j v⟩
theorem one_int (c : Int) : ∀ u ∈ [Value.int .i64 c], u.oneCell' = true := by
 intro u h
 simp at h
 subst h
 rfl
theorem own_block (h : IBuf base w a n cap zs) : ∀ g, (Value.slice a n cap).ownBlock = some g → base ≤ g := fun g hg => (h.2.lt g hg).1
theorem ints_snoc (zs : List Int) (z : Int) : ints zs ++ [.int .i64 z] = ints (zs ++ [z]) := by simp
theorem append_int {ops : Array Oper} {rest : List Oper} {o : Oper} {A : Act} {Q : Exit → Act → World → Prop} (hgd : o.guard = none) (sl x : Operand)
  (ho : o.op = .call { callee := .builtin .append, args := #[sl, x], argTypes := #[29, 29] })
  (hbuf : IBuf base w a n cap zs) (z : Int) (hs : A.eval sl = .slice a n cap) (hx : A.eval x = .slice (some ⟨w.heap.size, 0, none⟩) 1 1) (hlen : n + 1 ≤ 1048576) (hb : base ≤ w.heap.size)
  (h : ∀ g' cap' w', IBuf base w' (some ⟨g', 0, none⟩) (n + 1) cap' (zs ++ [z]) → Below base w w' → wpList Tryz.prog ops Q rest (A.put o.dst (.slice (some ⟨g', 0, none⟩) (n + 1) cap')) w') : wpList Tryz.prog ops Q (o :: rest) A (w.alloc (.cells #[.int .i64 z] 3)) := by
 obtain ⟨i0, hi, hz0, hz1, hz2⟩ := info_parts I2.info3
 have hb2 := hbuf.alloc (.cells #[.int .i64 z] 3)
 refine wpList_append_lies _ hgd sl x 29 ho base 3 i0 (.int .i64 0) 1 8 Tryz.underlying29 hi hz0 hz1 hz2 rfl (by omega) _ n _ hs hb2.2 ⟨w.heap.size, 0, none⟩ 1 1 [.int .i64 z] hx rfl (World.news_of_block (heap_alloc_new w _)) (one_int z) (by omega) (by unfold maxLen; omega) (by omega) (by simp; omega) _ rfl ?_
 intro g' cap' w' ho' hg' _ _
 refine h g' cap' w' ⟨by rw [hbuf.1]; simp, ?_⟩ ?_
 ·rw [← ints_snoc]
  exact ho'
 ·exact F0.below_grown ((Below.refl _ _).alloc hb _) hg' (own_block hbuf) (by simp; omega)
theorem step_int {ops : Array Oper} {o : Oper} {A : Act} {K : Act → World → Prop} {Q : Exit → Act → World → Prop} {E : Prop} (hgd : o.guard = none) (sl x : Operand)
  (ho : o.op = .call { callee := .builtin .append, args := #[sl, x], argTypes := #[29, 29] })
  (hbuf : IBuf base w a n cap zs) (z : Int) (hs : A.eval sl = .slice a n cap) (hx : A.eval x = .slice (some ⟨w.heap.size, 0, none⟩) 1 1) (hlen : n + 1 ≤ 1048576) (hb : base ≤ w.heap.size)
  (h : ∀ g' cap' w', IBuf base w' (some ⟨g', 0, none⟩) (n + 1) cap' (zs ++ [z]) → Below base w w' → K (A.put o.dst (.slice (some ⟨g', 0, none⟩) (n + 1) cap')) w') :
  if Region.wanted o (yielded ops A.tmps) = true then Oper.wp Tryz.prog o A (w.alloc (.cells #[.int .i64 z] 3)) K Q else E := by
 obtain ⟨i0, hi, hz0, hz1, hz2⟩ := info_parts I2.info3
 have hb2 := hbuf.alloc (.cells #[.int .i64 z] 3)
 refine step_append_lies _ hgd sl x 29 ho base 3 i0 (.int .i64 0) 1 8 Tryz.underlying29 hi hz0 hz1 hz2 rfl (by omega) _ n _ hs hb2.2 ⟨w.heap.size, 0, none⟩ 1 1 [.int .i64 z] hx rfl (World.news_of_block (heap_alloc_new w _)) (one_int z) (by omega) (by unfold maxLen; omega) (by omega) (by simp; omega) _ rfl ?_
 intro g' cap' w' ho' hg' _ _
 refine h g' cap' w' ⟨by rw [hbuf.1]; simp, ?_⟩ ?_
 ·rw [← ints_snoc]
  exact ho'
 ·exact F0.below_grown ((Below.refl _ _).alloc hb _) hg' (own_block hbuf) (by simp; omega)
end Go.Proofs.YtljnkicgahepfaaGreatDoor.J0
namespace Go.Proofs.YtljnkicgahepfaaGreatDoor.Q1
open Go.ChangeShapes Go.WideShapes Go.ChangeAt Go.RowKit
open I2 (ints)
open J0 (IBuf Own)
theorem run_append_none {P : Program} (w : World) (t ty e : TypeId) (i : TypeInfo) (ht : P.underlying t = some (.slice e)) (hi : P.info? e = some i) (b : Option Addr) (n cap : Nat) (hle : n ≤ cap) (ax : Option Addr) (cx : Nat) :
  (Builtin.append_ #[t, t] ty #[.slice b n cap, .slice ax 0 cx]).run P w = .ok (.slice b n cap) w := by
 cases b <;> cases ax <;> simp [Builtin.append_, run_underlying ht, sizeOf, typeInfo, hi, Builtin.lenOf, Builtin.firstCells, loadCells, loadCellsFrom, storeCells, hle]
variable {base n cap : Nat} {a : Option Addr} {w W : World} {zs : List Int}
theorem ints_one (xs : List Int) : ∀ u ∈ ints xs, u.oneCell' = true := by
 intro u h
 simp at h
 obtain ⟨z, _, rfl⟩ := h
 rfl
theorem append_rows {ops : Array Oper} {rest : List Oper} {o : Oper} {A : Act} {Q : Exit → Act → World → Prop} (hgd : o.guard = none) (sl x : Operand)
  (ho : o.op = .call { callee := .builtin .append, args := #[sl, x], argTypes := #[29, 29] })
  (hbuf : IBuf base w a n cap zs) (ax : Option Addr) (cx : Nat) (xs : List Int) (hs : A.eval sl = .slice a n cap) (hx : A.eval x = .slice ax xs.length cx) (hR : P0.Row w ax xs) (hlen : n + xs.length ≤ 4194304) (hb : base ≤ w.heap.size)
  (h : ∀ a' cap' w', IBuf base w' a' (n + xs.length) cap' (zs ++ xs) → Below base w w' → wpList Tryz.prog ops Q rest (A.put o.dst (.slice a' (n + xs.length) cap')) w') : wpList Tryz.prog ops Q (o :: rest) A w := by
 obtain ⟨i0, hi, hz0, hz1, hz2⟩ := info_parts I2.info3
 by_cases h0 : xs = []
 ·subst h0
  refine Lib.wpList_append_run _ hgd sl x 29 29 ho _ _ hs hx _ _ (run_append_none w 29 _ 3 i0 Tryz.underlying29 hi a n cap hbuf.fits ax cx) ?_
  exact h a cap w (by rw [List.append_nil]; exact hbuf) (Below.refl _ _)
 ·rcases hR with hR | ⟨b, off, rfl, hb2, hc⟩
  ·exact absurd hR h0
  ·have hm : 0 < xs.length := List.length_pos_iff.2 h0
   refine wpList_append_lies _ hgd sl x 29 ho base 3 i0 (.int .i64 0) 1 8 Tryz.underlying29 hi hz0 hz1 hz2 rfl (by omega) _ n _ hs hbuf.2 ⟨b, off, none⟩ xs.length cx (ints xs) hx (by simp) ?_ (ints_one xs) hm (by unfold maxLen; omega) (by omega) hb _ rfl ?_
   ·intro j u hj
    have hj' : j < xs.length := by
     have := (List.getElem?_eq_some_iff.1 hj).1
     simpa using this
    rw [B0.add_off, hc j hj', P0.getD_get _ _ hj', ← hj]
    simp [hj']
   ·intro g' cap' w' ho' hg' _ _
    refine h (some ⟨g', 0, none⟩) cap' w' ⟨by rw [hbuf.1]; simp, ?_⟩ ?_
    ·rw [show ints (zs ++ xs) = ints zs ++ ints xs by simp]
     exact ho'
    ·exact F0.below_grown (Below.refl _ _) hg' (J0.own_block hbuf) hb
set_option maxHeartbeats 2000000 in
theorem grow (k : Nat) (w : World) (hk : k ≤ 4194304) :
  Calls Tryz.prog 130 #[.slice none 0 0, .int .i64 k] w fun e w' => ∃ a c, e = .returned (.slice a 0 c) ∧ IBuf w.heap.size w' a 0 c [] ∧ Below w.heap.size w w' := by
 by_cases h0 : k = 0
 ·subst h0
  go_enter Tryz.func130, Tryz.ntmps130
  go_wp2
  go_ret
  exact ⟨none, 0, rfl, J0.ibuf_nil _, Below.refl _ _⟩
 ·obtain ⟨i0, hi, hz0, hz1, hz2⟩ := info_parts I2.info3
  have hrz : ∀ ty, (Builtin.append_ #[29, 3] ty #[.slice none 0 0, .int .i64 k]).run Tryz.prog w = .ok (.slice (some ⟨w.heap.size, 0, none⟩) (0 + k) (grownCap w (0 + k) 0 3)) (w.drew.alloc (.cells ((#[] : Array Value) ++ Builtin.zeroCells (Value.int .i64 0).cells k ++ Builtin.zeroCells (Value.int .i64 0).cells (grownCap w (0 + k) 0 3 - (0 + k))) 3)) := fun ty =>
   Lib.run_append_grow_zeros w 29 3 ty 3 i0 (.int .i64 0) .i64 .i64 Tryz.underlying29 Tryz.underlying3 hi hz0 none 0 0 [] (run_firstCells_none w.drew i0.size 0 0 0) k (by omega) (by omega) (by omega) (by omega) (by rw [hz2]; omega) (by rw [hz2, Builtin.nextslicecap, if_pos (by omega)]; omega)
  have hG := grownCap_ge w (0 + k) 0 3
  have hM := grownCap_le_maxLen w (0 + k) 0 3 (by unfold maxLen; omega)
  have hgt : (0 : Int) < (k : Int) := by omega
  have hnk : 0 < k := by omega
  obtain ⟨C, hC⟩ : ∃ C : Array Value, C = (#[] : Array Value) ++ Builtin.zeroCells (Value.int .i64 0).cells k ++ Builtin.zeroCells (Value.int .i64 0).cells (grownCap w (0 + k) 0 3 - (0 + k)) := ⟨_, rfl⟩
  rw [← hC] at hrz
  rw [Nat.zero_add] at hC hrz hG hM
  have hsz : C.size = grownCap w k 0 3 := by
   rw [hC]
   simp [Builtin.zeroCells, Value.cells]
   omega
  obtain ⟨G, hg⟩ : ∃ G, grownCap w k 0 3 = G := ⟨_, rfl⟩
  rw [hg] at hrz hG hM hsz
  have hbuf : IBuf w.heap.size (w.drew.alloc (.cells C 3)) (some ⟨w.heap.size, 0, none⟩) 0 G [] := ⟨rfl, World.ownsRow_made w.drew C G (Nat.le_refl _) hM (by omega)⟩
  have hbel : Below w.heap.size w (w.drew.alloc (.cells C 3)) := (Below.refl _ w).drew.alloc (Nat.le_refl _) _
  have hM' : G ≤ 9223372036854775807 := hM
  have hGk : k ≤ G := by omega
  clear hC hsz hg hM hi hz0 hz1 hz2
  go_enter Tryz.func130, Tryz.ntmps130
  go_wp2_with (at_builtin; refine Lib.wpList_append_run _ rfl _ _ _ _ rfl _ _ rfl rfl _ _ (hrz _) ?_)
  all_goals
   go_ret
   exact ⟨_, _, rfl, hbuf, hbel⟩
def pre (xs zs : List Int) (k : Nat) : List Int := if k = 0 then [] else if k = 1 then xs else zs
set_option maxHeartbeats 4000000 in
theorem concat0 (B : Nat) (a1 a2 : Option Addr) (c1 c2 : Nat) (xs ys zs : List Int) (hzs : zs = xs ++ ys) (w : World) (h1 : w.cell? ⟨B, 0, none⟩ = some (.slice a1 xs.length c1)) (h2 : w.cell? ⟨B, 1, none⟩ = some (.slice a2 ys.length c2)) (hB : B < w.heap.size)
  (R1 : P0.Row w a1 xs) (R2 : P0.Row w a2 ys) (hx : xs.length ≤ 1048576) (hy : ys.length ≤ 1048576) :
  Calls Tryz.prog 58 #[.slice (some ⟨B, 0, none⟩) 2 2] w fun e w' => ∃ a c, e = .returned (.slice a zs.length c) ∧ Own w.heap.size w' a zs ∧ zs.length ≤ c ∧ Below w.heap.size w w' := by
 have HL : Hid (zs.length = xs.length + ys.length) := by rw [hzs]; exact List.length_append
 have HZ : Hid (xs ++ ys = zs) := hzs.symm
 have hzl : zs.length ≤ 4194304 := by rw [HL.out]; omega
 clear hzs
 go_enter Tryz.func58, Tryz.ntmps58
 go_wp2
 go_loop [3, 11] (fun v i => ∃ k : Nat, k ≤ 2 ∧ i = .int .i64 k ∧ v = .int .i64 ((pre xs zs k).length : Int)) (fun _ i => 2 - (intOf i).toNat)
 case atStart => exact ⟨0, Nat.zero_le _, rfl, rfl⟩
 case round =>
  obtain ⟨k, hk, rfl, rfl⟩ := hrel
  have hk' : k = 0 ∨ k = 1 ∨ k = 2 := by omega
  rcases hk' with rfl | rfl | rfl
  ·have e0 : (pre xs zs 0).length = 0 := rfl
   rw [e0]
   have e1 : ¬ ((xs.length : Int) < 0) := by omega
   go_wp2
   go_round
   case rel => exact ⟨1, by omega, by go_num, rfl⟩
   case measure => simp [intOf]
  ·have e0 : (pre xs zs 1).length = xs.length := rfl
   rw [e0]
   have e1 : ¬ ((xs.length : Int) + (ys.length : Int) < 0) := by omega
   go_wp2
   go_round
   case rel => exact ⟨2, by omega, by go_num, by show _ = Value.int .i64 ((zs.length : Nat) : Int); rw [HL.out]; go_num⟩
   case measure => simp [intOf]
  ·have e0 : (pre xs zs 2).length = zs.length := rfl
   rw [e0]
   have hgr := grow zs.length w (by omega)
   go_wp2_with (go_at_call 130; refine hgr.mono ?_; rintro e w1 ⟨a, c, rfl, hbuf, hbel⟩)
   clear hgr
   go_loopw [6, 27] (fun v i w' => ∃ (k c : Nat) (a : Option Addr), k ≤ 2 ∧ i = .int .i64 k ∧ v = .slice a (pre xs zs k).length c ∧ IBuf w.heap.size w' a (pre xs zs k).length c (pre xs zs k) ∧ Below w.heap.size w w') (fun _ i _ => 2 - (intOf i).toNat)
   case atStart => exact ⟨0, c, a, Nat.zero_le _, rfl, rfl, hbuf, hbel⟩
   case round =>
    obtain ⟨k, c', a', hk, rfl, rfl, hbuf', hbel'⟩ := hrel
    clear hbuf hbel
    have x1 := (hbel'.cell (p := ⟨B, 0, none⟩) hB).trans h1
    have x2 := (hbel'.cell (p := ⟨B, 1, none⟩) hB).trans h2
    have r1 := R1.below hbel'
    have r2 := R2.below hbel'
    have hk' : k = 0 ∨ k = 1 ∨ k = 2 := by omega
    rcases hk' with rfl | rfl | rfl
    ·have hb0 : IBuf w.heap.size wr a' 0 c' [] := hbuf'
     have e0 : (pre xs zs 0).length = 0 := rfl
     rw [e0]
     clear hbuf' h1 h2 R1 R2
     go_wp2_with (at_builtin; refine append_rows rfl (.tmp 31) (.tmp 32) rfl hb0 a1 c1 xs rfl rfl r1 (by omega) hbel'.size ?_; intro a3 c3 w3 b3 l3)
     go_roundw
     case rel => exact ⟨1, c3, a3, by omega, by go_num, rfl, by rw [Nat.zero_add] at b3; exact b3, hbel'.trans l3⟩
     case measure => simp [intOf]
    ·have hb0 : IBuf w.heap.size wr a' xs.length c' xs := hbuf'
     have e0 : (pre xs zs 1).length = xs.length := rfl
     rw [e0]
     clear hbuf' h1 h2 R1 R2
     go_wp2_with (at_builtin; refine append_rows rfl (.tmp 31) (.tmp 32) rfl hb0 a2 c2 ys rfl rfl r2 (by omega) hbel'.size ?_; intro a3 c3 w3 b3 l3)
     go_roundw
     case rel => exact ⟨2, c3, a3, by omega, by go_num, by rw [← HL.out]; rfl, by rw [← HL.out, HZ.out] at b3; exact b3, hbel'.trans l3⟩
     case measure => simp [intOf]
    ·have hb0 : IBuf w.heap.size wr a' zs.length c' zs := hbuf'
     have e0 : (pre xs zs 2).length = zs.length := rfl
     rw [e0]
     clear hbuf' h1 h2 R1 R2
     go_wp2
     go_ret
     exact ⟨a', c', rfl, hb0.own, hb0.fits, hbel'⟩
theorem concat (B : Nat) (a1 a2 : Option Addr) (c1 c2 : Nat) (xs ys : List Int) (w : World) (h1 : w.cell? ⟨B, 0, none⟩ = some (.slice a1 xs.length c1)) (h2 : w.cell? ⟨B, 1, none⟩ = some (.slice a2 ys.length c2)) (hB : B < w.heap.size)
  (R1 : P0.Row w a1 xs) (R2 : P0.Row w a2 ys) (hx : xs.length ≤ 1048576) (hy : ys.length ≤ 1048576) :
  Calls Tryz.prog 58 #[.slice (some ⟨B, 0, none⟩) 2 2] w fun e w' => ∃ a c, e = .returned (.slice a (xs ++ ys).length c) ∧ Own w.heap.size w' a (xs ++ ys) ∧ (xs ++ ys).length ≤ c ∧ Below w.heap.size w w' :=
 concat0 B a1 a2 c1 c2 xs ys (xs ++ ys) rfl w h1 h2 hB R1 R2 hx hy
end Go.Proofs.YtljnkicgahepfaaGreatDoor.Q1
namespace Go.Proofs.YtljnkicgahepfaaGreatDoor.D0
open Go
def dd (u : Nat) : List UInt8 := if u = 0 then [] else Lib.decDigits u
theorem dd_step (u : Nat) (h : u ≠ 0) : dd u = dd (u / 10) ++ [UInt8.ofNat (48 + u % 10)] := by
 unfold dd
 rw [if_neg h]
 by_cases h1 : u < 10
 ·rw [Lib.decDigits_one h1, if_pos (by omega), Nat.mod_eq_of_lt h1]
  rfl
 ·rw [Lib.decDigits, dif_neg h1, if_neg (by omega)]
theorem dd_length (u : Nat) (h : u ≤ 9223372036854775808) : (dd u).length ≤ 21 := by
 unfold dd
 split
 ·simp
 ·have := Lib.itoa_length_le (-(u : Int)) (by omega) (by omega)
  rw [Lib.itoa_neg u (by omega)] at this
  simp at this
  omega
theorem round_eq (u v : Nat) (out : List UInt8) (h : u ≠ 0) (e : dd u ++ out = dd v) : dd (u / 10) ++ (UInt8.ofNat (48 + u % 10) :: out) = dd v := by
 rw [← e, dd_step u h]
 simp
def dig (x : Int) : ByteArray := ⟨#[UInt8.ofNat (48 + x.toNat)]⟩
theorem dig_size (x : Int) : (dig x).size = 1 := rfl
theorem dig_cons (x : Int) (out : List UInt8) : dig x ++ ⟨out.toArray⟩ = ⟨(UInt8.ofNat (48 + x.toNat) :: out).toArray⟩ := by
 apply ByteArray.ext
 apply Array.toList_inj.1
 simp [dig]
end Go.Proofs.YtljnkicgahepfaaGreatDoor.D0
namespace Go.Proofs.YtljnkicgahepfaaGreatDoor.M1
open Go.ChangeShapes Go.WideShapes Go.ChangeAt Go.RowKit
def mt (k : Nat) : ByteArray := ⟨(109 :: D0.dd k).toArray⟩
theorem conv1 (x : Int) (hx : 0 ≤ x ∧ x < 256) (w : World) :
  (convert 22 9 (.slice (some ⟨w.heap.size, 0, none⟩) 1 1)).run Tryz.prog (w.alloc (.cells #[.int .u8 x] 5)) = .ok (.string ⟨#[UInt8.ofNat x.toNat]⟩) (w.alloc (.cells #[.int .u8 x] 5)) :=
 B0.conv_back _ 22 9 5 _ 0 1 [UInt8.ofNat x.toNat] Tryz.underlying22 Tryz.underlying5 Tryz.underlying9
  (B0.holds_new _ _ _ _ _ fun j hj => by
   obtain rfl : j = 0 := by simpa using hj
   have : x.toNat < 256 := by omega
   simp [Nat.mod_eq_of_lt this]
   omega) 1 rfl
theorem dig_of (u : Nat) : (⟨#[UInt8.ofNat (48 + (u : Int) % 10).toNat]⟩ : ByteArray) = D0.dig ((u : Int) % 10) := by
 rw [D0.dig, show (48 + (u : Int) % 10).toNat = 48 + ((u : Int) % 10).toNat by omega]
theorem ret_m (v : Nat) : Ending.returned (.string (⟨#[109]⟩ ++ ⟨(D0.dd v).toArray⟩)) = Ending.returned (.string (mt v)) := by
 congr 2
theorem markText_any (v : Nat) (hv : v ≠ 0) (hm : v ≤ 9223372036854775807) (w : World) :
  Calls Tryz.prog 164 #[.int .i64 (v : Int)] w fun e w' => e = .returned (.string (mt v)) ∧ Below w.heap.size w w' := by
 have hv2 : ¬ (v : Int) ≤ 0 := by omega
 have hlen := D0.dd_length v (by omega)
 go_enter Tryz.func164, Tryz.ntmps164
 go_wp2
 go_loopw [0, 3] (fun i t w' => ∃ (u : Nat) (out : List UInt8), u ≤ v ∧ D0.dd u ++ out = D0.dd v ∧ i = .int .i64 (u : Int) ∧ t = .string ⟨out.toArray⟩ ∧ Below w.heap.size w w') (fun i _ _ => (intOf i).toNat)
 case atStart => exact ⟨v, [], Nat.le_refl _, by simp, rfl, rfl, Below.refl _ _⟩
 case round =>
  obtain ⟨u, out, hu, he, rfl, rfl, hbel⟩ := hrel
  have hB := hbel.size
  by_cases h0 : u = 0
  ·subst h0
   have he' : out = D0.dd v := by simpa [D0.dd] using he
   clear he
   subst he'
   have hs : (⟨#[109]⟩ : ByteArray).size + (⟨(D0.dd v).toArray⟩ : ByteArray).size ≤ 9223372036854775807 := by
    show 1 + (D0.dd v).toArray.size ≤ _
    simp
    omega
   go_wp2
   go_ret
   exact ⟨ret_m _, hbel⟩
  ·have hs : (D0.dig ((u : Int) % 10)).size + (⟨out.toArray⟩ : ByteArray).size ≤ 9223372036854775807 := by
    have := congrArg List.length he
    simp at this
    rw [D0.dig_size]
    show 1 + out.toArray.size ≤ _
    simp
    omega
   have hu1 : 0 < (u : Int) := by omega
   have hcv := conv1 (48 + (u : Int) % 10) (by omega)
   rw [dig_of] at hcv
   have hHe : Hid (D0.dd u ++ out = D0.dd v) := he
   clear he
   go_wp2
   go_roundw
   case rel => exact ⟨u / 10, UInt8.ofNat (48 + u % 10) :: out, by omega, D0.round_eq u v out h0 hHe.out, by go_num, by rw [D0.dig_cons]; rfl, hbel.alloc hB _⟩
   case measure => simp [intOf]; omega
end Go.Proofs.YtljnkicgahepfaaGreatDoor.M1
