/- Joined texts: plain facts and contracts. -/
import Derived.Test.YthbcefopbmkppaaGreatRows
import Derived.WalkKit
import Derived.ProofKit
import Derived.Below
import Derived.Handy
import Derived.Deep.QuietTactic
import Derived.Shelf.LaysM
import Derived.Shelf.Strconv.Clone
import Derived.Shelf.Slices.Turned
import Derived.Test.YthbcefopbmkppaaGreatProg
import Derived.BigQuiet
set_option linter.unusedVariables false
set_option linter.unusedSimpArgs false
set_option maxRecDepth 10000
namespace Go.Proofs.YthbcefopbmkppaaGreat.BZ
open List
theorem z : (∀ {α : Type} {xs : List α} {i : Nat} (h : i < xs.toArray.size), xs.toArray[i]'h = xs[i]'(by simpa using h)) ∧ (∀ {α : Type} {a : α} {zs : List α} {i : Nat} {h : i + 1 < (a :: zs).length}, getElem (a :: zs) (i + 1) h = getElem zs i (Nat.lt_of_succ_lt_succ h)) ∧ (∀ {α : Type} {a : α} {zs : List α} {h : 0 < (a :: zs).length}, getElem (a :: zs) 0 h = a) ∧ (∀ {α : Type} (l : List α) (i : Nat) (a : α), l.toArray.setIfInBounds i a = (l.set i a).toArray) ∧ (∀ {α : Type} {x y : α} {xs : List α} {i : Nat}, (x :: xs).set (i + 1) y = x :: xs.set i y) ∧ (∀ {α : Type} {x y : α} {xs : List α}, (x :: xs).set 0 y = y :: xs) :=
 ⟨getElem_toArray, getElem_cons_succ _ _ _ _, getElem_cons_zero _ _ _, fun _ _ _ => setIfInBounds_toArray .., set_cons_succ, set_cons_zero⟩
end Go.Proofs.YthbcefopbmkppaaGreat.BZ
namespace Go.Proofs.YthbcefopbmkppaaGreat.B1
open Go.ChangeShapes Go.WideShapes Go.ChangeAt Go.RowKit
def inB (x a b : Int) : Bool := decide (a ≤ x ∧ x ≤ b)
theorem inB_true {x a b : Int} (h : inB x a b = true) : a ≤ x ∧ x ≤ b := by simpa [inB] using h
theorem inB_false {x a b : Int} (h : inB x a b = false) : ¬ (a ≤ x ∧ x ≤ b) := by simpa [inB] using h
theorem l01In_any (x a b : Int) (w : World) :
  Calls Tryz.prog 31 #[.int .i64 x, .int .i64 a, .int .i64 b] w fun e w' => e = .returned (.bool (inB x a b)) ∧ w' = w := by
 by_cases h1 : a ≤ x
 ·by_cases h2 : x ≤ b
  ·have e : inB x a b = true := by simp [inB, h1, h2]
   rw [e]
   go_enter Tryz.func31, Tryz.ntmps31
   go_wp2
   go_ret
   exact ⟨rfl, rfl⟩
  ·have e : inB x a b = false := by simp [inB, h2]
   have h2' : decide (x ≤ b) = false := by simpa using h2
   rw [e]
   go_enter Tryz.func31, Tryz.ntmps31
   go_wp2
   go_ret
   exact ⟨rfl, rfl⟩
 ·have e : inB x a b = false := by simp [inB, h1]
  have h1' : decide (a ≤ x) = false := by simpa using h1
  rw [e]
  go_enter Tryz.func31, Tryz.ntmps31
  go_wp2
  go_ret
  exact ⟨rfl, rfl⟩
end Go.Proofs.YthbcefopbmkppaaGreat.B1
namespace Go.Proofs.YthbcefopbmkppaaGreat.K0
open Go.RowKit
structure Blk (B : Nat) (vs : List Value) (W : World) : Prop where
 cell : ∀ j (h : j < vs.length), W.cell? ⟨B, j, none⟩ = some vs[j]
 free : ∀ j, j < vs.length → W.frozen? ⟨B, j, none⟩ = false
 lt : B < W.heap.size
variable {B : Nat} {vs : List Value} {w W W' : World}
theorem Blk.below (h : Blk B vs W) (hb : Below W.heap.size W W') : Blk B vs W' :=
 ⟨fun j hj => (hb.cell (p := ⟨B, j, none⟩) h.lt).trans (h.cell j hj), fun j hj => (hb.frozen (p := ⟨B, j, none⟩) h.lt).trans (h.free j hj), Nat.lt_of_lt_of_le h.lt hb.size⟩
theorem Blk.alloc (h : Blk B vs W) (o : Obj) : Blk B vs (W.alloc o) := h.below ((Below.refl _ _).alloc (Nat.le_refl _) o)
theorem Blk.drew (h : Blk B vs W) : Blk B vs W.drew := ⟨h.cell, h.free, h.lt⟩
theorem Blk.drewN (h : Blk B vs W) (n : Nat) : Blk B vs (W.drewN n) := ⟨h.cell, h.free, h.lt⟩
theorem blk_new (vs : List Value) (w : World) (T : TypeId) : Blk w.heap.size vs (w.alloc (.cells vs.toArray T)) := by
 refine ⟨fun j hj => ?_, fun j hj => ?_, ?_⟩
 ·rw [World.cell?_alloc_mark]
  simp [hj]
 ·have h := World.frozen?_alloc_mark w vs.toArray T 0 0 j
  rw [h]
  simp
 ·simp
theorem blk_at (vs : List Value) (w : World) (T : TypeId) (hB : w.heap.size = B) : Blk B vs (w.alloc (.cells vs.toArray T)) := hB ▸ blk_new vs w T
theorem Blk.set (h : Blk B vs W) (j : Nat) (v : Value) : Blk B (vs.set j v) (W.setCell ⟨B, j, none⟩ v) := by
 refine ⟨fun k hk => ?_, fun k hk => ?_, ?_⟩
 ·have hk' : k < vs.length := by simpa using hk
  by_cases e : j = k
  ·subst e
   rw [World.cell?_setCell_same _ _ _ (h.cell j hk')]
   simp
  ·rw [World.cell?_setCell_other _ _ _ _ (fun x => e (Addr.mk.inj x).2.1), h.cell k hk', List.getElem_set_ne e]
 ·rw [World.frozen?_setCell]
  exact h.free k (by simpa using hk)
 ·have := h.lt
  simpa [World.setCell] using this
theorem Blk.setOther (h : Blk B vs W) {B' : Nat} (hne : B' ≠ B) (j : Nat) (v : Value) : Blk B vs (W.setCell ⟨B', j, none⟩ v) := by
 refine ⟨fun k hk => ?_, fun k hk => ?_, ?_⟩
 ·rw [World.cell?_setCell_other _ _ _ _ (fun x => hne (Addr.mk.inj x).1)]
  exact h.cell k hk
 ·rw [World.frozen?_setCell]
  exact h.free k hk
 ·have := h.lt
  simpa [World.setCell] using this
theorem Blk.c0 {a : Value} {l : List Value} (h : Blk B (a :: l) W) : W.cell? ⟨B, 0, none⟩ = some a := h.cell 0 (by simp)
theorem Blk.c1 {a b : Value} {l : List Value} (h : Blk B (a :: b :: l) W) : W.cell? ⟨B, 1, none⟩ = some b := h.cell 1 (by simp)
theorem Blk.c2 {a b c : Value} {l : List Value} (h : Blk B (a :: b :: c :: l) W) : W.cell? ⟨B, 2, none⟩ = some c := h.cell 2 (by simp)
theorem Blk.c3 {a b c d : Value} {l : List Value} (h : Blk B (a :: b :: c :: d :: l) W) : W.cell? ⟨B, 3, none⟩ = some d := h.cell 3 (by simp)
theorem Blk.f0 {a : Value} {l : List Value} (h : Blk B (a :: l) W) : W.frozen? ⟨B, 0, none⟩ = false := h.free 0 (by simp)
theorem Blk.f1 {a b : Value} {l : List Value} (h : Blk B (a :: b :: l) W) : W.frozen? ⟨B, 1, none⟩ = false := h.free 1 (by simp)
theorem Blk.f2 {a b c : Value} {l : List Value} (h : Blk B (a :: b :: c :: l) W) : W.frozen? ⟨B, 2, none⟩ = false := h.free 2 (by simp)
theorem Blk.f3 {a b c d : Value} {l : List Value} (h : Blk B (a :: b :: c :: d :: l) W) : W.frozen? ⟨B, 3, none⟩ = false := h.free 3 (by simp)
theorem Blk.put2 {a b : Value} (h : Blk B [a, b] W) (x y : Value) : Blk B [x, y] ((W.setCell ⟨B, 0, none⟩ x).setCell ⟨B, 1, none⟩ y) := (h.set 0 x).set 1 y
theorem Blk.put4 {a b c d : Value} (h : Blk B [a, b, c, d] W) (x y z u : Value) : Blk B [x, y, z, u] ((((W.setCell ⟨B, 0, none⟩ x).setCell ⟨B, 1, none⟩ y).setCell ⟨B, 2, none⟩ z).setCell ⟨B, 3, none⟩ u) := (((h.set 0 x).set 1 y).set 2 z).set 3 u
theorem below_drewN {B : Nat} {a w : World} (h : Below B a w) (n : Nat) : Below B a (w.drewN n) := ⟨h.os, h.tape, h.output, h.size, h.block⟩
theorem below_new (w : World) (o : Obj) : Below w.heap.size w (w.alloc o) := (Below.refl _ _).alloc (Nat.le_refl _) o
end Go.Proofs.YthbcefopbmkppaaGreat.K0
namespace Go.Proofs.YthbcefopbmkppaaGreat.P0
open Go.RowKit
def has (l : List Int) (x : Int) : Bool := l.contains x
def okAt (zs : List Int) (i : Nat) : Bool := B1.inB (zs.getD i 0) 5 23 && !(has (zs.take i) (zs.getD i 0))
def okUpto (zs : List Int) (k : Nat) : Bool := (List.range k).all (okAt zs)
def pagesOk (zs : List Int) : Bool := okUpto zs zs.length
theorem okUpto_succ (zs : List Int) (k : Nat) : okUpto zs (k + 1) = (okUpto zs k && okAt zs k) := by
 simp [okUpto, List.range_succ]
theorem okUpto_bad {zs : List Int} {k n : Nat} (hk : k < n) (h : okAt zs k = false) : okUpto zs n = false := by
 rw [okUpto, List.all_eq_false]
 exact ⟨k, List.mem_range.2 hk, by rw [h]; decide⟩
theorem getD_get (zs : List Int) (k : Nat) (h : k < zs.length) : zs.getD k 0 = zs[k] := by simp [List.getD, h]
theorem contains_succ (zs : List Int) (k : Nat) (x : Int) (h : k < zs.length) : has (zs.take (k + 1)) x = (has (zs.take k) x || x == zs.getD k 0) := by
 unfold has
 rw [List.take_succ_eq_append_getElem h, List.contains_eq_any_beq, List.contains_eq_any_beq, List.any_append, getD_get _ _ h]
 simp
theorem contains_of {zs : List Int} {k n : Nat} (hk : k < n) (hn : n ≤ zs.length) : has (zs.take n) (zs.getD k 0) = true := by
 unfold has
 rw [List.contains_iff_mem]
 rw [getD_get _ _ (by omega)]
 exact List.mem_iff_getElem.2 ⟨k, by simp; omega, by simp⟩
def need (s : Int) : Int := (s + 31) / 32
def Row (W : World) (a : Option Addr) (zs : List Int) : Prop := zs = [] ∨ ∃ b off, a = some ⟨b, off, none⟩ ∧ b < W.heap.size ∧ ∀ j, j < zs.length → W.cell? ⟨b, off + j, none⟩ = some (.int .i64 (zs.getD j 0))
theorem Row.below {W W' : World} {a : Option Addr} {zs : List Int} (h : Row W a zs) (hb : Below W.heap.size W W') : Row W' a zs := by
 rcases h with h | ⟨b, off, ha, hlt, hc⟩
 ·exact Or.inl h
 ·exact Or.inr ⟨b, off, ha, Nat.lt_of_lt_of_le hlt hb.size, fun j hj => (hb.cell (p := ⟨b, off + j, none⟩) hlt).trans (hc j hj)⟩
theorem Row.alloc {W : World} {a : Option Addr} {zs : List Int} (h : Row W a zs) (o : Obj) : Row (W.alloc o) a zs := h.below ((Below.refl _ _).alloc (Nat.le_refl _) o)
theorem Row.drew {W : World} {a : Option Addr} {zs : List Int} (h : Row W a zs) : Row W.drew a zs := h
theorem Row.drewN {W : World} {a : Option Addr} {zs : List Int} (h : Row W a zs) (n : Nat) : Row (W.drewN n) a zs := h
theorem Row.get {W : World} {a : Option Addr} {zs : List Int} {k : Nat} (h : Row W a zs) (hk : k < zs.length) : ∃ b off, a = some ⟨b, off, none⟩ ∧ b < W.heap.size ∧ ∀ j, j < zs.length → W.cell? ⟨b, off + j, none⟩ = some (.int .i64 (zs.getD j 0)) := by
 rcases h with h | h
 ·subst h
  simp at hk
 ·exact h
end Go.Proofs.YthbcefopbmkppaaGreat.P0
namespace Go.Proofs
open Go.Shelf
def Tryz.laysM316_ren : Go.Shelf.Ren := ⟨fun | 316 => 43 | n => n, fun | 9 => 9 | 3 => 3 | 4 => 4 | 37 => 22 | 0 => 0 | 127 => 99 | 5 => 5 | n => n, fun | n => n⟩
theorem Tryz.laysM316 : Go.Proofs.LaysM.n316 Tryz.prog Tryz.laysM316_ren := {
 mixed := by kernel_rfl
 f316 := Tryz.func43.trans (congrArg some (by kernel_rfl))
 t0 := Tryz.underlying0
 a0 := Tryz.isAgg0
 z0 := Tryz.sizeOf0
 v0 := Tryz.zeroValue0
 t3 := Tryz.underlying3
 a3 := Tryz.isAgg3
 z3 := Tryz.sizeOf3
 v3 := Tryz.zeroValue3
 t4 := Tryz.underlying4
 a4 := Tryz.isAgg4
 z4 := Tryz.sizeOf4
 v4 := Tryz.zeroValue4
 t9 := Tryz.underlying9
 a9 := Tryz.isAgg9
 z9 := Tryz.sizeOf9
 v9 := Tryz.zeroValue9
 t37 := Tryz.underlying22
 a37 := Tryz.isAgg22
 z37 := Tryz.sizeOf22
 v37 := Tryz.zeroValue22
 t127 := Tryz.underlying99
 a127 := Tryz.isAgg99
 z127 := Tryz.sizeOf99
 v127 := Tryz.zeroValue99
 t5 := Tryz.underlying5
 a5 := Tryz.isAgg5
 z5 := Tryz.sizeOf5
 v5 := Tryz.zeroValue5
 i0 := by kernel_rfl
 i3 := by kernel_rfl
 i4 := by kernel_rfl
 i5 := by kernel_rfl
 i9 := by kernel_rfl
 i37 := by kernel_rfl
 i127 := by kernel_rfl }
open Go.RowKit in
theorem Tryz.stringslite_Clone (s : ByteArray) (w : World) (hlim : s.size ≤ 281474976710656) :
  Calls Tryz.prog 43 #[.string s] w fun e w' => e = .returned (.string s) ∧ Below w.heap.size w w' := Any.stringslite_Clone Tryz.laysM316 s w hlim
def Tryz.lays107_ren : Go.Shelf.Ren := ⟨fun | 107 => 80 | 108 => 94 | n => n, fun | 28 => 24 | 3 => 3 | 4 => 4 | 0 => 0 | n => n, fun | n => n⟩
theorem Tryz.lays107 : Go.Proofs.Lays.n107 Tryz.prog Tryz.lays107_ren := {
 mixed := by kernel_rfl
 f107 := Tryz.func80.trans (congrArg some (by kernel_rfl))
 f108 := Tryz.func94.trans (congrArg some (by kernel_rfl))
 t0 := Tryz.underlying0
 a0 := Tryz.isAgg0
 z0 := Tryz.sizeOf0
 v0 := Tryz.zeroValue0
 t3 := Tryz.underlying3
 a3 := Tryz.isAgg3
 z3 := Tryz.sizeOf3
 v3 := Tryz.zeroValue3
 t4 := Tryz.underlying4
 a4 := Tryz.isAgg4
 z4 := Tryz.sizeOf4
 v4 := Tryz.zeroValue4
 t28 := Tryz.underlying24
 a28 := Tryz.isAgg24
 z28 := Tryz.sizeOf24
 v28 := Tryz.zeroValue24 }
open Go.Lib in
theorem Tryz.slices_Contains_int (b off n c : Nat) (zs : List Int) (x : Int) (w : World) (hz : n ≤ zs.length) (hbig : n ≤ 9223372036854775807) (hc : ∀ j, j < zs.length → w.cell? ⟨b, off + j, none⟩ = some (.int .i64 (zs.getD j 0))) :
  Calls Tryz.prog 80 #[.slice (some ⟨b, off, none⟩) n c, .int .i64 x] w fun e w' => e = .returned (.bool ((zs.take n).contains x)) ∧ w' = w := Any.slices_Contains_int Tryz.lays107 b off n c zs x w hz hbig hc
end Go.Proofs
namespace Go.Proofs.YthbcefopbmkppaaGreat.P1
open Go.ChangeShapes Go.WideShapes Go.ChangeAt Go.RowKit
theorem ret_bool {a b : Bool} (h : a = b) : Ending.returned (.bool a) = .returned (.bool b) := by rw [h]
theorem l02Has (b off n c : Nat) (zs : List Int) (x : Int) (w : World) (hz : n ≤ zs.length) (hbig : n ≤ 281474976710656) (hc : ∀ j, j < zs.length → w.cell? ⟨b, off + j, none⟩ = some (.int .i64 (zs.getD j 0))) :
  Calls Tryz.prog 35 #[.slice (some ⟨b, off, none⟩) n c, .int .i64 x] w fun e w' => e = .returned (.bool (P0.has (zs.take n) x)) ∧ w' = w := by
 go_enter Tryz.func35, Tryz.ntmps35
 go_wp2
 go_loop [5] (fun i => ∃ k : Nat, k ≤ n ∧ P0.has (zs.take k) x = false ∧ i = .int .i64 k) (fun i => n - (intOf i).toNat)
 case atStart => exact ⟨0, Nat.zero_le _, rfl, rfl⟩
 case round =>
  obtain ⟨k, hk, hno, rfl⟩ := hrel
  by_cases hlt : k < n
  ·have x1 := hc k (by omega)
   have hs := P0.contains_succ zs k x (by omega)
   have hin := fun h : x = zs.getD k 0 => h ▸ P0.contains_of (zs := zs) hlt hz
   obtain ⟨z, ez⟩ : ∃ z, zs.getD k 0 = z := ⟨_, rfl⟩
   rw [ez] at x1 hs hin
   have e1 : (0 : Int) ≤ (k : Int) := by omega
   have e2 : (k : Int) < (n : Int) := by omega
   by_cases h : z = x
   ·have h' : (z == x) = true := by simpa using h
    have HR : Hid (P0.has (zs.take n) x = true) := hin h.symm
    clear h hs hin hno ez hc
    go_wp2
    go_ret
    exact ⟨ret_bool HR.out.symm, rfl⟩
   ·have h' : (z == x) = false := by simpa using h
    have HN : Hid (P0.has (zs.take (k + 1)) x = false) := by
     rw [hs, hno, show (x == z) = false by simpa using fun q : x = z => h q.symm]
     rfl
    clear h hs hin hno ez hc
    go_wp2
    go_round
    case rel => exact ⟨k + 1, by omega, HN.out, by go_num⟩
    case measure => simp [intOf]; omega
  ·obtain rfl : k = n := by omega
   have HN : Hid (P0.has (zs.take k) x = false) := hno
   clear hno hc
   go_wp2
   go_ret
   exact ⟨ret_bool HN.out.symm, rfl⟩
theorem quiet_bool {P : Program} {f : FuncId} {args : Array Value} {w : World} {n : Nat} {a b : Bool} (h : Calls P f args (w.drewN n) fun e w' => e = .returned (.bool a) ∧ w' = w.drewN n) (hab : a = b) :
  Calls P f args (w.drewN n) fun e w'' => e = .returned (.bool b) ∧ ∃ m, w'' = w.drewN m := hab ▸ Calls.quiet_of_same h
set_option maxHeartbeats 1000000 in
theorem l03Pages (a : Option Addr) (c : Nat) (zs : List Int) (w : World) (hbig : zs.length ≤ 281474976710656) (hcap : zs.length ≤ c) (hR : P0.Row w a zs) :
  Calls Tryz.prog 82 #[.slice a zs.length c] w fun e w' => e = .returned (.bool (P0.pagesOk zs)) ∧ ∃ n, w' = w.drewN n := by
 go_enter Tryz.func82, Tryz.ntmps82
 go_wp2
 go_loopw [3] (fun i w' => ∃ k n : Nat, k ≤ zs.length ∧ P0.okUpto zs k = true ∧ i = .int .i64 k ∧ w' = w.drewN n) (fun i _ => zs.length - (intOf i).toNat)
 case atStart => exact ⟨0, 0, Nat.zero_le _, rfl, rfl, rfl⟩
 case round =>
  obtain ⟨k, n, hk, hok, rfl, hW⟩ := hrel
  have HW : Hid (∀ m, ∃ m', wr.drewN m = w.drewN m') := fun m => ⟨n + m, by rw [hW, World.drewN_drewN]⟩
  by_cases hlt : k < zs.length
  ·have hR' : P0.Row wr a zs := by rw [hW]; exact hR.drewN n
   obtain ⟨b, off, rfl, hb, hc⟩ := hR'.get hlt
   have hH : Hid (∀ m x, Calls Tryz.prog 35 #[.slice (some ⟨b, off, none⟩) k c, .int .i64 x] (wr.drewN m) fun e w' => e = .returned (.bool (P0.has (zs.take k) x)) ∧ w' = wr.drewN m) := fun m x => l02Has b off k c zs x _ (by omega) (by omega) hc
   have x1 := hc k hlt
   have hs := P0.okUpto_succ zs k
   have hat : P0.okAt zs k = (B1.inB (zs.getD k 0) 5 23 && !(P0.has (zs.take k) (zs.getD k 0))) := rfl
   obtain ⟨z, ez⟩ : ∃ z, zs.getD k 0 = z := ⟨_, rfl⟩
   rw [ez] at x1 hat
   have e1 : (0 : Int) ≤ (k : Int) := by omega
   have e2 : (k : Int) < (zs.length : Int) := by omega
   have e3 : (k : Int) ≤ (c : Int) := by omega
   by_cases h1 : B1.inB z 5 23 = true
   ·by_cases h2 : P0.has (zs.take k) z = true
    ·have HR : Hid (P0.pagesOk zs = false) := P0.okUpto_bad hlt (by rw [hat, h1, h2]; rfl)
     clear hs hat hok ez hc hR hR' hW
     go_wp2
     go_quiet ((first | (go_at_call 31; exact quiet_bool (B1.l01In_any _ _ _ _) h1) | (go_at_call 35; exact quiet_bool (hH.out _ _) h2)))
     go_wp2
     go_ret
     exact ⟨ret_bool HR.out.symm, HW.out _⟩
    ·have h2' : P0.has (zs.take k) z = false := by simpa using h2
     have HO : Hid (P0.okUpto zs (k + 1) = true) := by rw [hs, hok, hat, h1, h2']; rfl
     clear hs hat hok ez hc hR hR' hW h2
     go_wp2
     go_quiet ((first | (go_at_call 31; exact quiet_bool (B1.l01In_any _ _ _ _) h1) | (go_at_call 35; exact quiet_bool (hH.out _ _) h2')))
     go_wp2
     obtain ⟨m', hm'⟩ := HW.out nq
     go_roundw
     case rel => exact ⟨k + 1, m', by omega, HO.out, by go_num, hm'⟩
     case measure => simp [intOf]; omega
   ·have h1' : B1.inB z 5 23 = false := by simpa using h1
    have HR : Hid (P0.pagesOk zs = false) := P0.okUpto_bad hlt (by rw [hat, h1']; rfl)
    clear hs hat hok ez hc hR hR' hW h1
    go_wp2
    go_quiet ((go_at_call 31; exact quiet_bool (B1.l01In_any _ _ _ _) h1'))
    go_wp2
    go_ret
    exact ⟨ret_bool HR.out.symm, HW.out _⟩
  ·obtain rfl : k = zs.length := by omega
   have HR : Hid (P0.pagesOk zs = true) := hok
   have HW0 : Hid (wr = w.drewN n) := hW
   clear hok hR hW
   go_wp2
   go_ret
   exact ⟨ret_bool HR.out.symm, n, HW0.out⟩
theorem impl_Contains (b off n c : Nat) (zs : List Int) (x : Int) (w : World) (hz : n ≤ zs.length) (hbig : n ≤ 281474976710656) (hc : ∀ j, j < zs.length → w.cell? ⟨b, off + j, none⟩ = some (.int .i64 (zs.getD j 0))) :
  Calls Tryz.prog 80 #[.slice (some ⟨b, off, none⟩) n c, .int .i64 x] w fun e w' => e = .returned (.bool (P0.has (zs.take n) x)) ∧ w' = w :=
 Tryz.slices_Contains_int b off n c zs x w hz (by omega) hc
set_option maxHeartbeats 1000000 in
theorem pagesOk (a : Option Addr) (c : Nat) (zs : List Int) (w : World) (hbig : zs.length ≤ 281474976710656) (hcap : zs.length ≤ c) (hR : P0.Row w a zs) :
  Calls Tryz.prog 69 #[.slice a zs.length c] w fun e w' => e = .returned (.bool (P0.pagesOk zs)) ∧ w' = w := by
 go_enter Tryz.func69, Tryz.ntmps69
 go_wp2
 go_loop [7] (fun i => ∃ k : Nat, k ≤ zs.length ∧ P0.okUpto zs k = true ∧ i = .int .i64 k) (fun i => zs.length - (intOf i).toNat)
 case atStart => exact ⟨0, Nat.zero_le _, rfl, rfl⟩
 case round =>
  obtain ⟨k, hk, hok, rfl⟩ := hrel
  by_cases hlt : k < zs.length
  ·obtain ⟨b, off, rfl, hb, hc⟩ := hR.get hlt
   have hH : Hid (∀ x, Calls Tryz.prog 80 #[.slice (some ⟨b, off, none⟩) k c, .int .i64 x] w fun e w' => e = .returned (.bool (P0.has (zs.take k) x)) ∧ w' = w) := fun x => impl_Contains b off k c zs x _ (by omega) (by omega) hc
   have x1 := hc k hlt
   have hs := P0.okUpto_succ zs k
   have hat : P0.okAt zs k = (B1.inB (zs.getD k 0) 5 23 && !(P0.has (zs.take k) (zs.getD k 0))) := rfl
   obtain ⟨z, ez⟩ : ∃ z, zs.getD k 0 = z := ⟨_, rfl⟩
   rw [ez] at x1 hat
   have e1 : (0 : Int) ≤ (k : Int) := by omega
   have e2 : (k : Int) < (zs.length : Int) := by omega
   have e3 : (k : Int) ≤ (c : Int) := by omega
   by_cases g1 : z < 5
   ·have HR : Hid (P0.pagesOk zs = false) := P0.okUpto_bad hlt (by rw [hat, show B1.inB z 5 23 = false from decide_eq_false (by omega)]; rfl)
    clear hs hat hok ez hc hR
    go_wp2
    go_ret
    exact ⟨ret_bool HR.out.symm, rfl⟩
   ·by_cases g2 : 24 ≤ z
    ·have HR : Hid (P0.pagesOk zs = false) := P0.okUpto_bad hlt (by rw [hat, show B1.inB z 5 23 = false from decide_eq_false (by omega)]; rfl)
     clear hs hat hok ez hc hR
     go_wp2
     go_ret
     exact ⟨ret_bool HR.out.symm, rfl⟩
    ·have h1 : B1.inB z 5 23 = true := decide_eq_true (by omega)
     by_cases h2 : P0.has (zs.take k) z = true
     ·have HR : Hid (P0.pagesOk zs = false) := P0.okUpto_bad hlt (by rw [hat, h1, h2]; rfl)
      clear hs hat hok ez hc hR
      go_wp2_with (go_at_call 80; refine (hH.out _).mono ?_; rintro e w' ⟨rfl, rfl⟩)
      go_ret
      exact ⟨ret_bool HR.out.symm, rfl⟩
     ·have h2' : P0.has (zs.take k) z = false := by simpa using h2
      have HO : Hid (P0.okUpto zs (k + 1) = true) := by rw [hs, hok, hat, h1, h2']; rfl
      clear hs hat hok ez hc hR h2
      go_wp2_with (go_at_call 80; refine (hH.out _).mono ?_; rintro e w' ⟨rfl, rfl⟩)
      go_round
      case rel => exact ⟨k + 1, by omega, HO.out, by go_num⟩
      case measure => simp [intOf]; omega
  ·obtain rfl : k = zs.length := by omega
   have HR : Hid (P0.pagesOk zs = true) := hok
   clear hok hR
   go_wp2
   go_ret
   exact ⟨ret_bool HR.out.symm, rfl⟩
theorem l03Need (s : Int) (w : World) (h0 : 0 ≤ s) (h1 : s ≤ 65535) :
  Calls Tryz.prog 53 #[.int .i64 s] w fun e w' => e = .returned (.int .i64 (P0.need s)) ∧ w' = w := by
 have e : P0.need s = (s + 32 - 1) / 32 := by unfold P0.need; omega
 rw [e]
 go_enter Tryz.func53, Tryz.ntmps53
 go_wp2
 go_ret
 exact ⟨rfl, rfl⟩
theorem pagesFor (s : Int) (w : World) (h0 : 0 ≤ s) (h1 : s ≤ 65535) :
  Calls Tryz.prog 87 #[.int .i64 s] w fun e w' => e = .returned (.int .i64 (P0.need s)) ∧ w' = w := by
 have e : P0.need s = (s + 32 - 1) / 32 := by unfold P0.need; omega
 rw [e]
 go_enter Tryz.func87, Tryz.ntmps87
 go_wp2
 go_ret
 exact ⟨rfl, rfl⟩
end Go.Proofs.YthbcefopbmkppaaGreat.P1
namespace Go.Proofs.YthbcefopbmkppaaGreat.I0
open Go.ChangeShapes Go.WideShapes Go.ChangeAt Go.RowKit
open P1 (ret_bool quiet_bool)
def holds (o s : Int) (zs : List Int) : Bool := B1.inB o 0 9 && (B1.inB s 0 192 && (decide ((zs.length : Int) = P0.need s) && P0.pagesOk zs))
def free (o s : Int) (zs : List Int) : Bool := decide (o = 0) && (decide (s = 0) && decide (zs.length = 0))
def ok (k o s : Int) (zs : List Int) : Bool := if k = 0 then free o s zs else if k = 1 then holds o s zs else if k = 2 then holds o s zs && decide (s % 16 = 0) else false
abbrev val (k o s : Int) (a : Option Addr) (n c : Nat) : Value := .agg #[.int .i64 k, .int .i64 o, .int .i64 s, .slice a n c]
abbrev vals (k o s : Int) (a : Option Addr) (n c : Nat) : List Value := [.int .i64 k, .int .i64 o, .int .i64 s, .slice a n c]
theorem clientOk (o : Int) (w : World) : Calls Tryz.prog 67 #[.int .i64 o] w fun e w' => e = .returned (.bool (B1.inB o 0 8)) ∧ w' = w := by
 by_cases h1 : 0 ≤ o
 ·by_cases h2 : o ≤ 8
  ·have HR : Hid (B1.inB o 0 8 = true) := decide_eq_true (by omega)
   go_enter Tryz.func67, Tryz.ntmps67
   go_wp2
   go_ret
   exact ⟨ret_bool HR.out.symm, rfl⟩
  ·have h2' : decide (o ≤ 8) = false := by simpa using h2
   have HR : Hid (B1.inB o 0 8 = false) := decide_eq_false (by omega)
   go_enter Tryz.func67, Tryz.ntmps67
   go_wp2
   go_ret
   exact ⟨ret_bool HR.out.symm, rfl⟩
 ·have HR : Hid (B1.inB o 0 8 = false) := decide_eq_false (by omega)
  have h1' : decide (0 ≤ o) = false := by simpa using h1
  go_enter Tryz.func67, Tryz.ntmps67
  go_wp2
  go_ret
  exact ⟨ret_bool HR.out.symm, rfl⟩
theorem ownerOk (o : Int) (w : World) : Calls Tryz.prog 119 #[.int .i64 o] w fun e w' => e = .returned (.bool (B1.inB o 0 9)) ∧ w' = w := by
 have HC := clientOk o w
 cases hc : B1.inB o 0 8 with
 | true =>
  rw [hc] at HC
  have HR : Hid (B1.inB o 0 9 = true) := decide_eq_true (by have := of_decide_eq_true hc; omega)
  go_enter Tryz.func119, Tryz.ntmps119
  go_wp2_with (go_at_call 67; refine HC.mono ?_; rintro e w1 ⟨rfl, rfl⟩)
  go_ret
  exact ⟨ret_bool HR.out.symm, rfl⟩
 | false =>
  rw [hc] at HC
  have hn := of_decide_eq_false hc
  by_cases h3 : o = 9
  ·have HR : Hid (B1.inB o 0 9 = true) := decide_eq_true (by omega)
   have h3' : (o == 9) = true := by simpa using h3
   clear h3 hn
   go_enter Tryz.func119, Tryz.ntmps119
   go_wp2_with (go_at_call 67; refine HC.mono ?_; rintro e w1 ⟨rfl, rfl⟩)
   go_ret
   exact ⟨ret_bool HR.out.symm, rfl⟩
  ·have HR : Hid (B1.inB o 0 9 = false) := decide_eq_false (by omega)
   have h3' : (o == 9) = false := by simpa using h3
   clear h3 hn
   go_enter Tryz.func119, Tryz.ntmps119
   go_wp2_with (go_at_call 67; refine HC.mono ?_; rintro e w1 ⟨rfl, rfl⟩)
   go_ret
   exact ⟨ret_bool HR.out.symm, rfl⟩
theorem below_alloc_drew (w : World) (o : Obj) (n : Nat) : Below w.heap.size w ((w.alloc o).drewN n) := K0.below_drewN (K0.below_new w o) n
set_option maxHeartbeats 1000000 in
theorem holdsOk (k o s : Int) (a : Option Addr) (c : Nat) (zs : List Int) (w : World) (hbig : zs.length ≤ 281474976710656) (hcap : zs.length ≤ c) (hR : P0.Row w a zs) :
  Calls Tryz.prog 118 #[val k o s a zs.length c] w fun e w' => e = .returned (.bool (holds o s zs)) ∧ Below w.heap.size w w' := by
 have hB := K0.below_new w (.cells #[.int .i64 k, .int .i64 o, .int .i64 s, .slice a zs.length c] 55)
 have hR' := hR.alloc (.cells #[.int .i64 k, .int .i64 o, .int .i64 s, .slice a zs.length c] 55)
 have hP : Hid (∀ m, Calls Tryz.prog 69 #[.slice a zs.length c] ((w.alloc (.cells #[.int .i64 k, .int .i64 o, .int .i64 s, .slice a zs.length c] 55)).drewN m) fun e w' => e = .returned (.bool (P0.pagesOk zs)) ∧ w' = (w.alloc (.cells #[.int .i64 k, .int .i64 o, .int .i64 s, .slice a zs.length c] 55)).drewN m) := fun m => P1.pagesOk a c zs _ hbig hcap hR'
 by_cases h1 : s < 0
 ·have HR : Hid (holds o s zs = false) := by rw [holds, show B1.inB s 0 192 = false from decide_eq_false (by omega), Bool.false_and, Bool.and_false]; rfl
  go_enter Tryz.func118, Tryz.ntmps118
  go_wp2
  go_ret
  exact ⟨ret_bool HR.out.symm, hB⟩
 ·by_cases h2 : 192 < s
  ·have HR : Hid (holds o s zs = false) := by rw [holds, show B1.inB s 0 192 = false from decide_eq_false (by omega), Bool.false_and, Bool.and_false]; rfl
   go_enter Tryz.func118, Tryz.ntmps118
   go_wp2
   go_ret
   exact ⟨ret_bool HR.out.symm, hB⟩
  ·have HS : Hid (holds o s zs = (B1.inB o 0 9 && (decide ((zs.length : Int) = P0.need s) && P0.pagesOk zs))) := by rw [holds, show B1.inB s 0 192 = true from decide_eq_true (by omega), Bool.true_and]; rfl
   clear hB
   by_cases g1 : B1.inB o 0 9 = true
   ·by_cases g2 : (zs.length : Int) = P0.need s
    ·have g2' : ((zs.length : Int) == P0.need s) = true := by simpa using g2
     have HR : Hid (holds o s zs = P0.pagesOk zs) := by rw [HS.out, g1, decide_eq_true g2]; rfl
     clear g2 hR hR'
     go_enter Tryz.func118, Tryz.ntmps118
     go_wp2
     go_quiet ((first | (go_at_call 119; exact quiet_bool (ownerOk _ _) g1) | (go_at_call 87; exact Calls.quiet_of_same (P1.pagesFor _ _ (by omega) (by omega))) | (go_at_call 69; exact Calls.quiet_of_same (hP.out _))))
     go_wp2
     go_ret
     exact ⟨ret_bool HR.out.symm, below_alloc_drew _ _ _⟩
    ·have g2' : ((zs.length : Int) == P0.need s) = false := by simpa using g2
     have HR : Hid (holds o s zs = false) := by rw [HS.out, decide_eq_false g2, Bool.false_and, Bool.and_false]; rfl
     clear g2 hR hR'
     go_enter Tryz.func118, Tryz.ntmps118
     go_wp2
     go_quiet ((first | (go_at_call 119; exact quiet_bool (ownerOk _ _) g1) | (go_at_call 87; exact Calls.quiet_of_same (P1.pagesFor _ _ (by omega) (by omega)))))
     go_wp2
     go_ret
     exact ⟨ret_bool HR.out.symm, below_alloc_drew _ _ _⟩
   ·have g1' : B1.inB o 0 9 = false := by simpa using g1
    have HR : Hid (holds o s zs = false) := by rw [HS.out, g1', Bool.false_and]; rfl
    clear hR hR'
    go_enter Tryz.func118, Tryz.ntmps118
    go_wp2
    go_quiet ((go_at_call 119; exact quiet_bool (ownerOk _ _) g1'))
    go_wp2
    go_ret
    exact ⟨ret_bool HR.out.symm, below_alloc_drew _ _ _⟩
theorem freeSound (k o s : Int) (a : Option Addr) (c n : Nat) (zs : List Int) (w : World) (hn : n = zs.length) :
  Calls Tryz.prog 121 #[val k o s a n c] w fun e w' => e = .returned (.bool (free o s zs)) ∧ Below w.heap.size w w' := by
 have hB := K0.below_new w (.cells #[.int .i64 k, .int .i64 o, .int .i64 s, .slice a n c] 128)
 by_cases h1 : o = 0
 ·subst h1
  by_cases h2 : s = 0
  ·subst h2
   by_cases h3 : n = 0
   ·have HR : Hid (free 0 0 zs = true) := by rw [free, ← hn, h3]; rfl
    subst h3
    clear hn
    go_enter Tryz.func121, Tryz.ntmps121
    go_wp2
    go_ret
    exact ⟨ret_bool HR.out.symm, hB⟩
   ·have HR : Hid (free 0 0 zs = false) := by rw [free, ← hn, decide_eq_false h3]; rfl
    have h3' : ((n : Int) == 0) = false := by simp; omega
    clear hn
    go_enter Tryz.func121, Tryz.ntmps121
    go_wp2
    go_ret
    exact ⟨ret_bool HR.out.symm, hB⟩
  ·have HR : Hid (free 0 s zs = false) := by rw [free, decide_eq_false h2, Bool.false_and, Bool.and_false]; rfl
   have h2' : (s == 0) = false := by simpa using h2
   clear hn
   go_enter Tryz.func121, Tryz.ntmps121
   go_wp2
   go_ret
   exact ⟨ret_bool HR.out.symm, hB⟩
 ·have HR : Hid (free o s zs = false) := by rw [free, decide_eq_false h1, Bool.false_and]; rfl
  have h1' : (o == 0) = false := by simpa using h1
  clear hn
  go_enter Tryz.func121, Tryz.ntmps121
  go_wp2
  go_ret
  exact ⟨ret_bool HR.out.symm, hB⟩
theorem fileSound (k o s : Int) (a : Option Addr) (c : Nat) (zs : List Int) (w : World) (hbig : zs.length ≤ 281474976710656) (hcap : zs.length ≤ c) (hR : P0.Row w a zs) :
  Calls Tryz.prog 117 #[val k o s a zs.length c] w fun e w' => e = .returned (.bool (holds o s zs)) ∧ Below w.heap.size w w' := by
 have hB := K0.below_new w (.cells #[.int .i64 k, .int .i64 o, .int .i64 s, .slice a zs.length c] 123)
 have hR' := hR.alloc (.cells #[.int .i64 k, .int .i64 o, .int .i64 s, .slice a zs.length c] 123)
 go_enter Tryz.func117, Tryz.ntmps117
 go_wp2_with (go_at_call 118; refine (holdsOk k o s a c zs _ hbig hcap hR').mono ?_; rintro e w' ⟨rfl, hb⟩)
 go_ret
 exact ⟨rfl, hB.trans (hb.mono hB.size)⟩
theorem dirSound (k o s : Int) (a : Option Addr) (c : Nat) (zs : List Int) (w : World) (hbig : zs.length ≤ 281474976710656) (hcap : zs.length ≤ c) (hR : P0.Row w a zs) :
  Calls Tryz.prog 120 #[val k o s a zs.length c] w fun e w' => e = .returned (.bool (holds o s zs && decide (s % 16 = 0))) ∧ Below w.heap.size w w' := by
 have hB := K0.below_new w (.cells #[.int .i64 k, .int .i64 o, .int .i64 s, .slice a zs.length c] 125)
 have hR' := hR.alloc (.cells #[.int .i64 k, .int .i64 o, .int .i64 s, .slice a zs.length c] 125)
 have hK := K0.blk_new (vals k o s a zs.length c) w 125
 by_cases hh : holds o s zs = true
 ·have hs := hh
  simp only [holds, Bool.and_eq_true] at hs
  obtain ⟨hs1, hs2⟩ := B1.inB_true hs.2.1
  clear hs
  by_cases h16 : s % 16 = 0
  ·have h16' : (s % 16 == 0) = true := by simpa using h16
   have HR : Hid ((holds o s zs && decide (s % 16 = 0)) = true) := by rw [hh, decide_eq_true h16]; rfl
   clear h16
   go_enter Tryz.func120, Tryz.ntmps120
   go_wp2_with (go_at_call 118; refine (holdsOk k o s a c zs _ hbig hcap hR').mono ?_; rintro e w' ⟨rfl, hb⟩; have hK' := hK.below hb; have c2 := hK'.c2)
   go_ret
   exact ⟨ret_bool HR.out.symm, hB.trans (hb.mono hB.size)⟩
  ·have h16' : (s % 16 == 0) = false := by simpa using h16
   have HR : Hid ((holds o s zs && decide (s % 16 = 0)) = false) := by rw [decide_eq_false h16, Bool.and_false]; rfl
   clear h16
   go_enter Tryz.func120, Tryz.ntmps120
   go_wp2_with (go_at_call 118; refine (holdsOk k o s a c zs _ hbig hcap hR').mono ?_; rintro e w' ⟨rfl, hb⟩; have hK' := hK.below hb; have c2 := hK'.c2)
   go_ret
   exact ⟨ret_bool HR.out.symm, hB.trans (hb.mono hB.size)⟩
 ·have hh' : holds o s zs = false := by simpa using hh
  have HR : Hid ((holds o s zs && decide (s % 16 = 0)) = false) := by rw [hh', Bool.false_and]; rfl
  go_enter Tryz.func120, Tryz.ntmps120
  go_wp2_with (go_at_call 118; refine (holdsOk k o s a c zs _ hbig hcap hR').mono ?_; rintro e w' ⟨rfl, hb⟩)
  go_ret
  exact ⟨ret_bool HR.out.symm, hB.trans (hb.mono hB.size)⟩
end Go.Proofs.YthbcefopbmkppaaGreat.I0
