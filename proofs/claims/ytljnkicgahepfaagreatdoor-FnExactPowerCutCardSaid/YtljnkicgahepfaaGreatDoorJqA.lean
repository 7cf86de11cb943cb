/- Joined texts: plain facts and contracts. -/
import Derived.Test.YtljnkicgahepfaaGreatDoorRows
import Derived.Conc.MuLone
import Derived.KernelRfl
import Derived.WalkKit
import Derived.Laws.IdiomStrings
import Derived.Laws.IdiomCopy
import Derived.Laws.MakeOwn
import Derived.Lib.BufferWrite
import Derived.Lib.Strings
import Derived.Below
import Derived.Handy
import Derived.Deep.QuietTactic
import Derived.Lib.AppendStr
import Derived.Deep.AppendLies
import Derived.ProofKit
import Derived.Shelf.Strings.Builder1
import Derived.Shelf.Strings.Builder2
import Derived.Shelf.Strings.OnBuilder
import Derived.Shelf.Small.Strs
import Derived.Shelf.Strconv.Itoa0
import Derived.Shelf.Strconv.Itoa1
import Derived.Shelf.LaysM
import Derived.Shelf.Strconv.Itoa2
import Derived.Shelf.Strconv.Itoa3
import Derived.Shelf.Strconv.Clone
import Derived.Shelf.Sort.Plain
import Derived.Shelf.Slices.Turned
import Derived.Ground.Names2Prog
import Derived.Shelf.Slices.Clone
import Derived.Shelf.Slices.CompactI
import Derived.Test.YtljnkicgahepfaaGreatDoorProg
set_option linter.unusedVariables false
set_option linter.unusedSimpArgs false
set_option maxRecDepth 10000
namespace Go.Proofs.YtljnkicgahepfaaGreatDoor.LM
open Go.Conc.Locks
abbrev link : MuLink := { lock := 148, unlock := 149, ilock := 209, iunlock := 210, lockSlow := 262, unlockSlow := 265, disable := 258, enable := 260, acquire := 261, relMerge := 263, cas32 := 259, add32 := 264, tMutex := 112, tIMutex := 110, tPMutex := 242, tPIMutex := 285, tPI32 := 287, tUP := 289, tNoCopy := 107, tU32 := 108 }
theorem lib : MuLib Tryz.prog link := by
 constructor
 all_goals first
  | exact Tryz.func148.trans (congrArg some (by kernel_rfl))
  | exact Tryz.func149.trans (congrArg some (by kernel_rfl))
  | exact Tryz.func209.trans (congrArg some (by kernel_rfl))
  | exact Tryz.func210.trans (congrArg some (by kernel_rfl))
  | exact Tryz.func258.trans (congrArg some (by kernel_rfl))
  | exact Tryz.func260.trans (congrArg some (by kernel_rfl))
  | exact Tryz.func261.trans (congrArg some (by kernel_rfl))
  | exact Tryz.func263.trans (congrArg some (by kernel_rfl))
  | exact Tryz.func259.trans (congrArg some (by kernel_rfl))
  | exact Tryz.func264.trans (congrArg some (by kernel_rfl))
  | kernel_rfl
  | (intro w; kernel_rfl)
end Go.Proofs.YtljnkicgahepfaaGreatDoor.LM
namespace Go.Proofs.YtljnkicgahepfaaGreatDoor.BZ
open List
theorem z : (∀ {α : Type} {xs : List α} {i : Nat} (h : i < xs.toArray.size), xs.toArray[i]'h = xs[i]'(by simpa using h)) ∧ (∀ {α : Type} {a : α} {zs : List α} {i : Nat} {h : i + 1 < (a :: zs).length}, getElem (a :: zs) (i + 1) h = getElem zs i (Nat.lt_of_succ_lt_succ h)) ∧ (∀ {α : Type} {a : α} {zs : List α} {h : 0 < (a :: zs).length}, getElem (a :: zs) 0 h = a) ∧ (∀ {α : Type} (l : List α) (i : Nat) (a : α), l.toArray.setIfInBounds i a = (l.set i a).toArray) ∧ (∀ {α : Type} {x y : α} {xs : List α} {i : Nat}, (x :: xs).set (i + 1) y = x :: xs.set i y) ∧ (∀ {α : Type} {x y : α} {xs : List α}, (x :: xs).set 0 y = y :: xs) :=
 ⟨getElem_toArray, getElem_cons_succ _ _ _ _, getElem_cons_zero _ _ _, fun _ _ _ => setIfInBounds_toArray .., set_cons_succ, set_cons_zero⟩
end Go.Proofs.YtljnkicgahepfaaGreatDoor.BZ
namespace Go.Proofs.YtljnkicgahepfaaGreatDoor.B0
open Go.RowKit
variable {P : Program}
theorem add_off (b o j : Nat) : (⟨b, o, none⟩ : Addr).add j = ⟨b, o + j, none⟩ := by unfold Addr.add; split <;> simp_all
def Holds (w : World) (b o : Nat) (l : List UInt8) : Prop := ∀ j (hj : j < l.length), w.cell? ⟨b, o + j, none⟩ = some (.int .u8 (l[j].toNat : Int))
theorem conv_back (w : World) (src dst e : TypeId) (b o cap : Nat) (l : List UInt8) (hs : P.underlying src = some (.slice e)) (he : P.underlying e = some (.int .u8)) (hd : P.underlying dst = some .string)
  (h : Holds w b o l) (n : Nat) (hn : n = l.length) : (convert src dst (.slice (some ⟨b, o, none⟩) n cap)).run P w = .ok (.string ⟨l.toArray⟩) w := by
 subst hn
 exact run_convert_bytes_back w src dst e ⟨b, o, none⟩ cap l hs he hd (fun j hj => by rw [add_off]; exact h j hj)
theorem holds_new (w : World) (C : Array Value) (T : TypeId) (fr : Nat × Nat) (l : List UInt8) (h : ∀ j (hj : j < l.length), C[j]? = some (.int .u8 (l[j].toNat : Int))) :
  Holds (w.alloc (.cells C T fr)) w.heap.size 0 l := fun j hj => by
 rw [Nat.zero_add, World.cell?_alloc_mark]
 exact h j hj
theorem conv_to (w : World) (src dst e : TypeId) (s : ByteArray) (hs : P.underlying src = some .string) (hd : P.underlying dst = some (.slice e)) (he : P.underlying e = some (.int .u8)) :
  ∃ W cap, (convert src dst (.string s)).run P w = .ok (.slice (some ⟨w.heap.size, 0, none⟩) s.size cap) W ∧ s.size ≤ cap ∧ Below w.heap.size w W ∧ w.heap.size < W.heap.size ∧ Holds W w.heap.size 0 s.data.toList ∧ ∀ j, j < s.size → W.frozen? ⟨w.heap.size, j, none⟩ = false := by
 have hc : s.size ≤ grownCap w s.size 0 e := grownCap_ge w s.size 0 e
 refine ⟨_, _, run_bytes_of_string w src dst e s hs hd he, hc, ?_, ?_, ?_, ?_⟩
 ·exact (Below.refl _ w).drew.alloc (Nat.le_refl _) _
 ·show w.heap.size < (w.heap.push _).size
  simp
 ·refine holds_new w.drew _ _ _ _ fun j hj => ?_
  have hj' : j < s.data.size := by simpa using hj
  rw [bytesRow_at s _ j hj']
  simp
 ·intro j hj
  have := World.frozen?_alloc_mark w.drew (bytesRow s (grownCap w s.size 0 e)) e (bytesRow s (grownCap w s.size 0 e)).size ((bytesRow s (grownCap w s.size 0 e)).size + 1) j
  refine this.trans ?_
  have hb : s.size ≤ (bytesRow s (grownCap w s.size 0 e)).size := by
   have : s.data.size = s.size := rfl
   simp [bytesRow]
  have : ¬ (bytesRow s (grownCap w s.size 0 e)).size ≤ j := by omega
  simp [this]
theorem below_setCells {B b : Nat} {a : World} (hb : B ≤ b) : ∀ (vs : List Value) (o : Nat) (w : World), Below B a w → Below B a (w.setCells b o vs)
 | [], _, _, h => h
 | v :: r, o, w, h => below_setCells hb r (o + 1) _ (h.setCell (by simpa using hb) v)
theorem size_setCells (b : Nat) : ∀ (vs : List Value) (o : Nat) (w : World), (w.setCells b o vs).heap.size = w.heap.size
 | [], _, _ => rfl
 | v :: r, o, w => by rw [World.setCells, size_setCells b r]; simp
theorem copy_str (w : World) (dT sT ty elem : TypeId) (b o dLen dCap : Nat) (t : ByteArray) (hu : P.underlying dT = some (.slice elem)) (hs : (P.info? elem).map (·.size) = some 1) (hle : t.size ≤ dLen)
  (hc : ∀ j, j < t.size → (w.cell? ⟨b, o + j, none⟩).isSome = true) (hf : ∀ j, j < t.size → w.frozen? ⟨b, o + j, none⟩ = false) :
  (Builtin.copy_ #[dT, sT] ty #[.slice (some ⟨b, o, none⟩) dLen dCap, .string t]).run P w = .ok (goInt t.size) (w.setCells b o (Lib.byteCells t.data.toList)) := by
 have hlen : (Lib.byteCells t.data.toList).length = t.size := by rw [Lib.byteCells_length, ← Lib.size_eq]
 have hst := run_storeCells_cells (P := P) b o (Lib.byteCells t.data.toList) 0 w (by rw [hlen]; simpa using hc) (by rw [hlen]; simpa using hf) (Lib.byteCells_one _)
 have hmin : Nat.min t.size dLen = t.size := Nat.min_eq_left hle
 have htk : List.take t.size (List.map (fun b : UInt8 => Value.int IntKind.u8 (b.toNat : Int)) t.data.toList) = Lib.byteCells t.data.toList := by
  rw [List.take_of_length_le (by rw [List.length_map, ← Lib.size_eq]; exact Nat.le_refl _)]
  rfl
 cases hq : P.info? elem with
 | none => simp [hq] at hs
 | some i =>
  simp [Builtin.copy_, run_underlying hu, Builtin.lenOf, Builtin.firstCells, sizeOf, typeInfo, hq, hmin, htk, hst]
theorem holds_with (W : World) (b : Nat) (s t : List UInt8) (k : Nat) (hk : k + t.length ≤ s.length) (h : Holds W b 0 s) :
  Holds (W.setCells b k (Lib.byteCells t)) b 0 (s.take k ++ t ++ s.drop (k + t.length)) := by
 have hl : (Lib.byteCells t).length = t.length := Lib.byteCells_length t
 have hin : ∀ j, j < (Lib.byteCells t).length → (W.cell? ⟨b, k + j, none⟩).isSome = true := fun j hj => by
  have := h (k + j) (by omega)
  rw [Nat.zero_add] at this
  rw [this]
  rfl
 intro j hj
 have hj' : j < s.length := by simp at hj; omega
 rw [Nat.zero_add]
 by_cases h1 : j < k
 ·rw [World.cell?_setCells_out b _ k W _ (fun _ _ => Or.inl h1)]
  have := h j hj'
  rw [Nat.zero_add] at this
  rw [this, List.getElem_append_left (by simp; omega), List.getElem_append_left (by simp; omega), List.getElem_take]
 ·by_cases h2 : j < k + t.length
  ·have := World.cell?_setCells_in b (Lib.byteCells t) k W hin (j - k) (by omega)
   rw [show k + (j - k) = j by omega] at this
   rw [this, List.getElem_append_left (by simp; omega), List.getElem_append_right (by simp; omega)]
   have hm : min k s.length = k := by omega
   simp [Lib.byteCells, hm]
  ·rw [World.cell?_setCells_out b _ k W _ (fun _ _ => Or.inr (by rw [hl]; show k + t.length ≤ j; omega))]
   have := h j hj'
   rw [Nat.zero_add] at this
   have e : k + t.length + (j - (s.take k ++ t).length) = j := by rw [List.length_append, List.length_take]; omega
   rw [this, List.getElem_append_right (by simp; omega), List.getElem_drop]
   simp only [e]
end Go.Proofs.YtljnkicgahepfaaGreatDoor.B0
namespace Go.Proofs.YtljnkicgahepfaaGreatDoor.K0
open Go.RowKit
structure Blk (B : Nat) (vs : List Value) (W : World) : Prop where
 cell : ∀ j (h : j < vs.length), W.cell? ⟨B, j, none⟩ = some vs[j]
 free : ∀ j, j < vs.length → W.frozen? ⟨B, j, none⟩ = false
 lt : B < W.heap.size
variable {B : Nat} {vs : List Value} {w W W' : World}
theorem Blk.below (h : Blk B vs W) (hb : Below W.heap.size W W') : Blk B vs W' :=
 ⟨fun j hj => (hb.cell (p := ⟨B, j, none⟩) h.lt).trans (h.cell j hj), fun j hj => (hb.frozen (p := ⟨B, j, none⟩) h.lt).trans (h.free j hj), Nat.lt_of_lt_of_le h.lt hb.size⟩
theorem Blk.alloc (h : Blk B vs W) (o : Obj) : Blk B vs (W.alloc o) := h.below ((Below.refl _ _).alloc (Nat.le_refl _) o)
theorem Blk.drew (h : Blk B vs W) : Blk B vs W.drew := ⟨h.cell, h.free, h.lt⟩
theorem Blk.drewN (h : Blk B vs W) (n : Nat) : Blk B vs (W.drewN n) := ⟨h.cell, h.free, h.lt⟩
theorem blk_new (vs : List Value) (w : World) (T : TypeId) : Blk w.heap.size vs (w.alloc (.cells vs.toArray T)) := by
 refine ⟨fun j hj => ?_, fun j hj => ?_, ?_⟩
 ·rw [World.cell?_alloc_mark]
  simp [hj]
 ·have h := World.frozen?_alloc_mark w vs.toArray T 0 0 j
  rw [h]
  simp
 ·simp
theorem blk_at (vs : List Value) (w : World) (T : TypeId) (hB : w.heap.size = B) : Blk B vs (w.alloc (.cells vs.toArray T)) := hB ▸ blk_new vs w T
theorem Blk.set (h : Blk B vs W) (j : Nat) (v : Value) : Blk B (vs.set j v) (W.setCell ⟨B, j, none⟩ v) := by
 refine ⟨fun k hk => ?_, fun k hk => ?_, ?_⟩
 ·have hk' : k < vs.length := by simpa using hk
  by_cases e : j = k
  ·subst e
   rw [World.cell?_setCell_same _ _ _ (h.cell j hk')]
   simp
  ·rw [World.cell?_setCell_other _ _ _ _ (fun x => e (Addr.mk.inj x).2.1), h.cell k hk', List.getElem_set_ne e]
 ·rw [World.frozen?_setCell]
  exact h.free k (by simpa using hk)
 ·have := h.lt
  simpa [World.setCell] using this
theorem Blk.setOther (h : Blk B vs W) {B' : Nat} (hne : B' ≠ B) (j : Nat) (v : Value) : Blk B vs (W.setCell ⟨B', j, none⟩ v) := by
 refine ⟨fun k hk => ?_, fun k hk => ?_, ?_⟩
 ·rw [World.cell?_setCell_other _ _ _ _ (fun x => hne (Addr.mk.inj x).1)]
  exact h.cell k hk
 ·rw [World.frozen?_setCell]
  exact h.free k hk
 ·have := h.lt
  simpa [World.setCell] using this
theorem Blk.c0 {a : Value} {l : List Value} (h : Blk B (a :: l) W) : W.cell? ⟨B, 0, none⟩ = some a := h.cell 0 (by simp)
theorem Blk.c1 {a b : Value} {l : List Value} (h : Blk B (a :: b :: l) W) : W.cell? ⟨B, 1, none⟩ = some b := h.cell 1 (by simp)
theorem Blk.c2 {a b c : Value} {l : List Value} (h : Blk B (a :: b :: c :: l) W) : W.cell? ⟨B, 2, none⟩ = some c := h.cell 2 (by simp)
theorem Blk.c3 {a b c d : Value} {l : List Value} (h : Blk B (a :: b :: c :: d :: l) W) : W.cell? ⟨B, 3, none⟩ = some d := h.cell 3 (by simp)
theorem Blk.f0 {a : Value} {l : List Value} (h : Blk B (a :: l) W) : W.frozen? ⟨B, 0, none⟩ = false := h.free 0 (by simp)
theorem Blk.f1 {a b : Value} {l : List Value} (h : Blk B (a :: b :: l) W) : W.frozen? ⟨B, 1, none⟩ = false := h.free 1 (by simp)
theorem Blk.f2 {a b c : Value} {l : List Value} (h : Blk B (a :: b :: c :: l) W) : W.frozen? ⟨B, 2, none⟩ = false := h.free 2 (by simp)
theorem Blk.f3 {a b c d : Value} {l : List Value} (h : Blk B (a :: b :: c :: d :: l) W) : W.frozen? ⟨B, 3, none⟩ = false := h.free 3 (by simp)
theorem Blk.put2 {a b : Value} (h : Blk B [a, b] W) (x y : Value) : Blk B [x, y] ((W.setCell ⟨B, 0, none⟩ x).setCell ⟨B, 1, none⟩ y) := (h.set 0 x).set 1 y
theorem Blk.put4 {a b c d : Value} (h : Blk B [a, b, c, d] W) (x y z u : Value) : Blk B [x, y, z, u] ((((W.setCell ⟨B, 0, none⟩ x).setCell ⟨B, 1, none⟩ y).setCell ⟨B, 2, none⟩ z).setCell ⟨B, 3, none⟩ u) := (((h.set 0 x).set 1 y).set 2 z).set 3 u
theorem below_drewN {B : Nat} {a w : World} (h : Below B a w) (n : Nat) : Below B a (w.drewN n) := ⟨h.os, h.tape, h.output, h.size, h.block⟩
theorem below_new (w : World) (o : Obj) : Below w.heap.size w (w.alloc o) := (Below.refl _ _).alloc (Nat.le_refl _) o
end Go.Proofs.YtljnkicgahepfaaGreatDoor.K0
namespace Go.Proofs.YtljnkicgahepfaaGreatDoor.F0
open Go.ChangeShapes Go.WideShapes Go.ChangeAt Go.RowKit
def Buf (base : Nat) (w : World) (g n cap : Nat) (t : ByteArray) : Prop := n = t.size ∧ w.ownsRow base 5 1 (.slice (some ⟨g, 0, none⟩) n cap) n (Lib.strCells t)
theorem info5 : (Tryz.prog.info? 5).map (fun i => (i.zero, i.size, i.bytes)) = some (some (.int .u8 0), 1, 1) := by kernel_rfl
variable {base g n cap : Nat} {w W : World} {t : ByteArray}
theorem owns_below {e : TypeId} {size : Nat} {v : Value} {xs : List Value} (h : w.ownsRow base e size v n xs) (hb : Below w.heap.size w W) : W.ownsRow base e size v n xs := by
 refine ⟨h.1, ?_⟩
 rcases h.2 with h0 | ⟨g, cap, cur, hv, hg, hc, r⟩
 ·exact Or.inl h0
 ·refine Or.inr ⟨g, cap, cur, hv, hg, ?_, r⟩
  rw [hb.block g (Array.getElem?_eq_some_iff.1 hc).1]
  exact hc
theorem below_grown {B : Nat} {w W W' : World} {row : Option Nat} (h : Below B w W) (hg : W.grownBy W' row) (hr : ∀ g, row = some g → B ≤ g) (hB : B ≤ W.heap.size) : Below B w W' :=
 ⟨hg.os.trans h.os, hg.tape.trans h.tape, hg.output.trans h.output, Nat.le_trans h.size hg.size, fun k hk => by
  rw [hg.block k (by omega) (fun e => by have := hr k e.symm; omega)]
  exact h.block k hk⟩
theorem Buf.below (h : Buf base w g n cap t) (hb : Below w.heap.size w W) : Buf base W g n cap t := ⟨h.1, owns_below h.2 hb⟩
theorem Buf.alloc (h : Buf base w g n cap t) (o : Obj) : Buf base (w.alloc o) g n cap t := h.below ((Below.refl _ _).alloc (Nat.le_refl _) o)
theorem Buf.drew (h : Buf base w g n cap t) : Buf base w.drew g n cap t := h
theorem Buf.drewN (h : Buf base w g n cap t) (m : Nat) : Buf base (w.drewN m) g n cap t := h
theorem Buf.lt (h : Buf base w g n cap t) : base ≤ g ∧ g < w.heap.size := h.2.lt g rfl
theorem Buf.holds (h : Buf base w g n cap t) : B0.Holds w g 0 t.data.toList := by
 intro j hj
 have hj' : j < t.size := by rw [Lib.size_eq]; exact hj
 have := h.2.cells (g := g) rfl j (.int .u8 (t.data.toList[j].toNat : Int)) (by
  have hj2 : j < t.data.size := by simpa using hj
  simp [Lib.strCells]
  exact ⟨_, Array.getElem?_eq_getElem hj2, rfl⟩)
 rw [B0.add_off] at this
 exact this
theorem Buf.conv (h : Buf base w g n cap t) : (convert 22 9 (.slice (some ⟨g, 0, none⟩) n cap)).run Tryz.prog w = .ok (.string t) w := by
 have := B0.conv_back (P := Tryz.prog) w 22 9 5 g 0 cap t.data.toList Tryz.underlying22 Tryz.underlying5 Tryz.underlying9 h.holds n (by rw [h.1, Lib.size_eq])
 rwa [Lib.mk_data] at this
theorem buf_two (w : World) (x y : Int) (hx : 0 ≤ x ∧ x < 256) (hy : 0 ≤ y ∧ y < 256) (hb : base ≤ w.heap.size) :
  Buf base (w.alloc (.cells #[.int .u8 x, .int .u8 y] 5)) w.heap.size 2 2 ⟨#[UInt8.ofNat x.toNat, UInt8.ofNat y.toNat]⟩ := by
 have e1 : x.toNat < 256 := by omega
 have e2 : y.toNat < 256 := by omega
 refine ⟨rfl, by simp [Lib.strCells], Or.inr ⟨w.heap.size, 2, #[.int .u8 x, .int .u8 y], rfl, hb, heap_alloc_new w _, Nat.le_refl _, by unfold maxLen; omega, rfl, ?_⟩⟩
 simp [Lib.strCells, Nat.mod_eq_of_lt e1, Nat.mod_eq_of_lt e2]
 omega
theorem Buf.at (h : Buf base w g n cap t) {g' : Nat} (e : g = g') : Buf base w g' n cap t := e ▸ h
theorem buf_none (w : World) (C : Array Value) (cap : Nat) (hc : C.size = cap) (hm : cap ≤ maxLen) (hb : base ≤ w.heap.size) : Buf base (w.alloc (.cells C 5)) w.heap.size 0 cap ⟨#[]⟩ :=
 ⟨rfl, World.ownsRow_made w C cap hb hm (by omega)⟩
theorem cells_append (t s : ByteArray) : Lib.strCells t ++ Lib.strCells s = Lib.strCells (t ++ s) := by simp [Lib.strCells, ByteArray.data_append]
theorem append_text {ops : Array Oper} {rest : List Oper} {o : Oper} {a : Act} {Q : Exit → Act → World → Prop} (hgd : o.guard = none) (sl x : Operand)
  (ho : o.op = .call { callee := .builtin .append, args := #[sl, x], argTypes := #[22, 9] })
  (hbuf : Buf base w g n cap t) (s : ByteArray) (hs : a.eval sl = .slice (some ⟨g, 0, none⟩) n cap) (hx : a.eval x = .string s) (hlen : n + s.size ≤ 140737488355328) (hb : base ≤ w.heap.size)
  (h : ∀ g' cap' w', Buf base w' g' (n + s.size) cap' (t ++ s) → Below base w w' → wpList Tryz.prog ops Q rest (a.put o.dst (.slice (some ⟨g', 0, none⟩) (n + s.size) cap')) w') : wpList Tryz.prog ops Q (o :: rest) a w := by
 obtain ⟨i0, hi, hz0, hz1, hz2⟩ := info_parts info5
 refine Lib.wpList_append_own_string w hgd sl x 22 9 ho base 5 i0 Tryz.underlying22 Tryz.underlying9 hi hz0 hz1 hz2 _ n _ hs hbuf.2 s hx (by unfold maxLen; omega) hlen hb ?_
 intro v' w' ho' hg' hnil
 rcases ho'.2 with ⟨h0, _⟩ | ⟨g', cap', cur, hv, r⟩
 ·exact absurd ((hnil.1 h0).1) (by simp)
 ·subst hv
  refine h g' cap' w' ⟨by rw [hbuf.1, ByteArray.size_append], ?_⟩ ?_
  ·rw [← cells_append]
   exact ho'
  ·exact below_grown (Below.refl _ _) hg' (fun k hk => by
    have hk' : g = k := by simpa [Value.ownBlock] using hk
    exact hk' ▸ hbuf.lt.1) hb
theorem one_byte (c : Int) : ∀ u ∈ [Value.int .u8 c], u.oneCell' = true := by
 intro u h
 simp at h
 subst h
 rfl
theorem append_byte {ops : Array Oper} {rest : List Oper} {o : Oper} {a : Act} {Q : Exit → Act → World → Prop} (hgd : o.guard = none) (sl x : Operand)
  (ho : o.op = .call { callee := .builtin .append, args := #[sl, x], argTypes := #[22, 22] })
  (hbuf : Buf base w g n cap t) (c : Int) (hc : 0 ≤ c ∧ c < 256) (hs : a.eval sl = .slice (some ⟨g, 0, none⟩) n cap) (hx : a.eval x = .slice (some ⟨w.heap.size, 0, none⟩) 1 1) (hlen : n + 1 ≤ 140737488355328) (hb : base ≤ w.heap.size)
  (h : ∀ g' cap' w', Buf base w' g' (n + 1) cap' (t ++ ⟨#[UInt8.ofNat c.toNat]⟩) → Below base w w' → wpList Tryz.prog ops Q rest (a.put o.dst (.slice (some ⟨g', 0, none⟩) (n + 1) cap')) w') : wpList Tryz.prog ops Q (o :: rest) a (w.alloc (.cells #[.int .u8 c] 5)) := by
 obtain ⟨i0, hi, hz0, hz1, hz2⟩ := info_parts info5
 have hb2 := hbuf.alloc (.cells #[.int .u8 c] 5)
 refine wpList_append_lies _ hgd sl x 22 ho base 5 i0 (.int .u8 0) 1 1 Tryz.underlying22 hi hz0 hz1 hz2 rfl (by omega) _ n _ hs hb2.2 ⟨w.heap.size, 0, none⟩ 1 1 [.int .u8 c] hx rfl (World.news_of_block (heap_alloc_new w _)) (one_byte c) (by omega) (by unfold maxLen; omega) (by omega) (by simp; omega) _ rfl ?_
 intro g' cap' w' ho' hg' _ _
 have e1 : c.toNat < 256 := by omega
 refine h g' cap' w' ⟨by rw [hbuf.1, ByteArray.size_append]; rfl, ?_⟩ ?_
 ·rw [← cells_append]
  have e : Lib.strCells ⟨#[UInt8.ofNat c.toNat]⟩ = [.int .u8 c] := by
   simp [Lib.strCells, Nat.mod_eq_of_lt e1]
   omega
  rw [e]
  exact ho'
 ·exact below_grown ((Below.refl _ _).alloc hb _) hg' (fun k hk => by
   have hk' : g = k := by simpa [Value.ownBlock] using hk
   exact hk' ▸ hbuf.lt.1) (by simp; omega)
end Go.Proofs.YtljnkicgahepfaaGreatDoor.F0
namespace Go.Proofs.YtljnkicgahepfaaGreatDoor.B1
open Go.ChangeShapes Go.WideShapes Go.ChangeAt Go.RowKit
def inB (x a b : Int) : Bool := decide (a ≤ x ∧ x ≤ b)
theorem inB_true {x a b : Int} (h : inB x a b = true) : a ≤ x ∧ x ≤ b := by simpa [inB] using h
theorem inB_false {x a b : Int} (h : inB x a b = false) : ¬ (a ≤ x ∧ x ≤ b) := by simpa [inB] using h
theorem l01In_any (x a b : Int) (w : World) :
  Calls Tryz.prog 44 #[.int .i64 x, .int .i64 a, .int .i64 b] w fun e w' => e = .returned (.bool (inB x a b)) ∧ w' = w := by
 by_cases h1 : a ≤ x
 ·by_cases h2 : x ≤ b
  ·have e : inB x a b = true := by simp [inB, h1, h2]
   rw [e]
   go_enter Tryz.func44, Tryz.ntmps44
   go_wp2
   go_ret
   exact ⟨rfl, rfl⟩
  ·have e : inB x a b = false := by simp [inB, h2]
   have h2' : decide (x ≤ b) = false := by simpa using h2
   rw [e]
   go_enter Tryz.func44, Tryz.ntmps44
   go_wp2
   go_ret
   exact ⟨rfl, rfl⟩
 ·have e : inB x a b = false := by simp [inB, h1]
  have h1' : decide (a ≤ x) = false := by simpa using h1
  rw [e]
  go_enter Tryz.func44, Tryz.ntmps44
  go_wp2
  go_ret
  exact ⟨rfl, rfl⟩
end Go.Proofs.YtljnkicgahepfaaGreatDoor.B1
namespace Go.Proofs.YtljnkicgahepfaaGreatDoor.P0
open Go.RowKit
def has (l : List Int) (x : Int) : Bool := l.contains x
def okAt (zs : List Int) (i : Nat) : Bool := B1.inB (zs.getD i 0) 5 23 && !(has (zs.take i) (zs.getD i 0))
def okUpto (zs : List Int) (k : Nat) : Bool := (List.range k).all (okAt zs)
def pagesOk (zs : List Int) : Bool := okUpto zs zs.length
theorem okUpto_succ (zs : List Int) (k : Nat) : okUpto zs (k + 1) = (okUpto zs k && okAt zs k) := by
 simp [okUpto, List.range_succ]
theorem okUpto_bad {zs : List Int} {k n : Nat} (hk : k < n) (h : okAt zs k = false) : okUpto zs n = false := by
 rw [okUpto, List.all_eq_false]
 exact ⟨k, List.mem_range.2 hk, by rw [h]; decide⟩
theorem getD_get (zs : List Int) (k : Nat) (h : k < zs.length) : zs.getD k 0 = zs[k] := by simp [List.getD, h]
theorem contains_succ (zs : List Int) (k : Nat) (x : Int) (h : k < zs.length) : has (zs.take (k + 1)) x = (has (zs.take k) x || x == zs.getD k 0) := by
 unfold has
 rw [List.take_succ_eq_append_getElem h, List.contains_eq_any_beq, List.contains_eq_any_beq, List.any_append, getD_get _ _ h]
 simp
theorem contains_of {zs : List Int} {k n : Nat} (hk : k < n) (hn : n ≤ zs.length) : has (zs.take n) (zs.getD k 0) = true := by
 unfold has
 rw [List.contains_iff_mem]
 rw [getD_get _ _ (by omega)]
 exact List.mem_iff_getElem.2 ⟨k, by simp; omega, by simp⟩
def need (s : Int) : Int := (s + 31) / 32
def Row (W : World) (a : Option Addr) (zs : List Int) : Prop := zs = [] ∨ ∃ b off, a = some ⟨b, off, none⟩ ∧ b < W.heap.size ∧ ∀ j, j < zs.length → W.cell? ⟨b, off + j, none⟩ = some (.int .i64 (zs.getD j 0))
theorem Row.below {W W' : World} {a : Option Addr} {zs : List Int} (h : Row W a zs) (hb : Below W.heap.size W W') : Row W' a zs := by
 rcases h with h | ⟨b, off, ha, hlt, hc⟩
 ·exact Or.inl h
 ·exact Or.inr ⟨b, off, ha, Nat.lt_of_lt_of_le hlt hb.size, fun j hj => (hb.cell (p := ⟨b, off + j, none⟩) hlt).trans (hc j hj)⟩
theorem Row.alloc {W : World} {a : Option Addr} {zs : List Int} (h : Row W a zs) (o : Obj) : Row (W.alloc o) a zs := h.below ((Below.refl _ _).alloc (Nat.le_refl _) o)
theorem Row.drew {W : World} {a : Option Addr} {zs : List Int} (h : Row W a zs) : Row W.drew a zs := h
theorem Row.drewN {W : World} {a : Option Addr} {zs : List Int} (h : Row W a zs) (n : Nat) : Row (W.drewN n) a zs := h
theorem Row.get {W : World} {a : Option Addr} {zs : List Int} {k : Nat} (h : Row W a zs) (hk : k < zs.length) : ∃ b off, a = some ⟨b, off, none⟩ ∧ b < W.heap.size ∧ ∀ j, j < zs.length → W.cell? ⟨b, off + j, none⟩ = some (.int .i64 (zs.getD j 0)) := by
 rcases h with h | h
 ·subst h
  simp at hk
 ·exact h
end Go.Proofs.YtljnkicgahepfaaGreatDoor.P0
namespace Go.Proofs
open Go.Shelf
def Tryz.laysM316_ren : Go.Shelf.Ren := ⟨fun | 316 => 143 | n => n, fun | 9 => 9 | 3 => 3 | 4 => 4 | 37 => 22 | 0 => 0 | 127 => 241 | 5 => 5 | n => n, fun | n => n⟩
theorem Tryz.laysM316 : Go.Proofs.LaysM.n316 Tryz.prog Tryz.laysM316_ren := {
 mixed := by kernel_rfl
 f316 := Tryz.func143.trans (congrArg some (by kernel_rfl))
 t0 := Tryz.underlying0
 a0 := Tryz.isAgg0
 z0 := Tryz.sizeOf0
 v0 := Tryz.zeroValue0
 t3 := Tryz.underlying3
 a3 := Tryz.isAgg3
 z3 := Tryz.sizeOf3
 v3 := Tryz.zeroValue3
 t4 := Tryz.underlying4
 a4 := Tryz.isAgg4
 z4 := Tryz.sizeOf4
 v4 := Tryz.zeroValue4
 t9 := Tryz.underlying9
 a9 := Tryz.isAgg9
 z9 := Tryz.sizeOf9
 v9 := Tryz.zeroValue9
 t37 := Tryz.underlying22
 a37 := Tryz.isAgg22
 z37 := Tryz.sizeOf22
 v37 := Tryz.zeroValue22
 t127 := Tryz.underlying241
 a127 := Tryz.isAgg241
 z127 := Tryz.sizeOf241
 v127 := Tryz.zeroValue241
 t5 := Tryz.underlying5
 a5 := Tryz.isAgg5
 z5 := Tryz.sizeOf5
 v5 := Tryz.zeroValue5
 i0 := by kernel_rfl
 i3 := by kernel_rfl
 i4 := by kernel_rfl
 i5 := by kernel_rfl
 i9 := by kernel_rfl
 i37 := by kernel_rfl
 i127 := by kernel_rfl }
open Go.RowKit in
theorem Tryz.stringslite_Clone (s : ByteArray) (w : World) (hlim : s.size ≤ 281474976710656) :
  Calls Tryz.prog 143 #[.string s] w fun e w' => e = .returned (.string s) ∧ Below w.heap.size w w' := Any.stringslite_Clone Tryz.laysM316 s w hlim
def Tryz.lays189_ren : Go.Shelf.Ren := ⟨fun | 189 => 129 | 125 => 138 | 257 => 186 | 128 => 200 | 129 => 201 | 294 => 237 | 295 => 238 | 296 => 239 | 297 => 240 | 298 => 241 | 299 => 242 | 216 => 243 | 300 => 244 | 301 => 245 | 328 => 284 | 329 => 251 | 330 => 252 | 331 => 285 | 332 => 286 | 215 => 287 | 343 => 313 | n => n, fun | 28 => 29 | 3 => 3 | 46 => 166 | 0 => 0 | 51 => 108 | 53 => 234 | 4 => 4 | 183 => 227 | 182 => 226 | 131 => 223 | 5 => 5 | 9 => 9 | 218 => 278 | 222 => 282 | 228 => 313 | 229 => 314 | n => n, fun | n => n⟩
theorem Tryz.lays189 : Go.Proofs.Lays.n189 Tryz.prog Tryz.lays189_ren := {
 mixed := by kernel_rfl
 f125 := Tryz.func138.trans (congrArg some (by kernel_rfl))
 f128 := Tryz.func200.trans (congrArg some (by kernel_rfl))
 f129 := Tryz.func201.trans (congrArg some (by kernel_rfl))
 f189 := Tryz.func129.trans (congrArg some (by kernel_rfl))
 f215 := Tryz.func287.trans (congrArg some (by kernel_rfl))
 f216 := Tryz.func243.trans (congrArg some (by kernel_rfl))
 f257 := Tryz.func186.trans (congrArg some (by kernel_rfl))
 f294 := Tryz.func237.trans (congrArg some (by kernel_rfl))
 f295 := Tryz.func238.trans (congrArg some (by kernel_rfl))
 f296 := Tryz.func239.trans (congrArg some (by kernel_rfl))
 f297 := Tryz.func240.trans (congrArg some (by kernel_rfl))
 f298 := Tryz.func241.trans (congrArg some (by kernel_rfl))
 f299 := Tryz.func242.trans (congrArg some (by kernel_rfl))
 f300 := Tryz.func244.trans (congrArg some (by kernel_rfl))
 f301 := Tryz.func245.trans (congrArg some (by kernel_rfl))
 f328 := Tryz.func284.trans (congrArg some (by kernel_rfl))
 f329 := Tryz.func251.trans (congrArg some (by kernel_rfl))
 f330 := Tryz.func252.trans (congrArg some (by kernel_rfl))
 f331 := Tryz.func285.trans (congrArg some (by kernel_rfl))
 f332 := Tryz.func286.trans (congrArg some (by kernel_rfl))
 f343 := Tryz.func313.trans (congrArg some (by kernel_rfl))
 t0 := Tryz.underlying0
 a0 := Tryz.isAgg0
 z0 := Tryz.sizeOf0
 v0 := Tryz.zeroValue0
 t3 := Tryz.underlying3
 a3 := Tryz.isAgg3
 z3 := Tryz.sizeOf3
 v3 := Tryz.zeroValue3
 t4 := Tryz.underlying4
 a4 := Tryz.isAgg4
 z4 := Tryz.sizeOf4
 v4 := Tryz.zeroValue4
 t5 := Tryz.underlying5
 a5 := Tryz.isAgg5
 z5 := Tryz.sizeOf5
 v5 := Tryz.zeroValue5
 t9 := Tryz.underlying9
 a9 := Tryz.isAgg9
 z9 := Tryz.sizeOf9
 v9 := Tryz.zeroValue9
 t28 := Tryz.underlying29
 a28 := Tryz.isAgg29
 z28 := Tryz.sizeOf29
 v28 := Tryz.zeroValue29
 t46 := Tryz.underlying166
 a46 := Tryz.isAgg166
 z46 := Tryz.sizeOf166
 v46 := Tryz.zeroValue166
 t51 := Tryz.underlying108
 a51 := Tryz.isAgg108
 z51 := Tryz.sizeOf108
 v51 := Tryz.zeroValue108
 t53 := Tryz.underlying234
 a53 := Tryz.isAgg234
 z53 := Tryz.sizeOf234
 v53 := Tryz.zeroValue234
 t131 := Tryz.underlying223
 a131 := Tryz.isAgg223
 z131 := Tryz.sizeOf223
 v131 := Tryz.zeroValue223
 t182 := Tryz.underlying226
 a182 := Tryz.isAgg226
 z182 := Tryz.sizeOf226
 v182 := Tryz.zeroValue226
 t183 := Tryz.underlying227
 a183 := Tryz.isAgg227
 z183 := Tryz.sizeOf227
 v183 := Tryz.zeroValue227
 t218 := Tryz.underlying278
 a218 := Tryz.isAgg278
 z218 := Tryz.sizeOf278
 v218 := Tryz.zeroValue278
 t222 := Tryz.underlying282
 a222 := Tryz.isAgg282
 z222 := Tryz.sizeOf282
 v222 := Tryz.zeroValue282
 t228 := Tryz.underlying313
 a228 := Tryz.isAgg313
 z228 := Tryz.sizeOf313
 v228 := Tryz.zeroValue313
 t229 := Tryz.underlying314
 a229 := Tryz.isAgg314
 z229 := Tryz.sizeOf314
 v229 := Tryz.zeroValue314 }
open Go.Sort Go.RowKit in
theorem Tryz.slices_Sort_int (blk off cap : Nat) (zs : List Int) (w : World) (hH : Holds (Value.int .i64) w blk off zs.toArray) (hblk : blk < w.heap.size) (hsz : zs.length < 4611686018427387904) :
  Calls Tryz.prog 129 #[.slice (some ⟨blk, off, none⟩) zs.length cap] w fun e w' =>
   e = .returned (.tuple #[]) ∧ ∃ n os, w' = grow (putRow (Value.int .i64) (Sort.ahead w n) blk off (zs.mergeSort fun x y => decide (x ≤ y)).toArray) os := Any.slices_Sort_int Tryz.lays189 blk off cap zs w hH hblk hsz
def Tryz.lays107_ren : Go.Shelf.Ren := ⟨fun | 107 => 178 | 108 => 228 | n => n, fun | 28 => 29 | 3 => 3 | 4 => 4 | 0 => 0 | n => n, fun | n => n⟩
theorem Tryz.lays107 : Go.Proofs.Lays.n107 Tryz.prog Tryz.lays107_ren := {
 mixed := by kernel_rfl
 f107 := Tryz.func178.trans (congrArg some (by kernel_rfl))
 f108 := Tryz.func228.trans (congrArg some (by kernel_rfl))
 t0 := Tryz.underlying0
 a0 := Tryz.isAgg0
 z0 := Tryz.sizeOf0
 v0 := Tryz.zeroValue0
 t3 := Tryz.underlying3
 a3 := Tryz.isAgg3
 z3 := Tryz.sizeOf3
 v3 := Tryz.zeroValue3
 t4 := Tryz.underlying4
 a4 := Tryz.isAgg4
 z4 := Tryz.sizeOf4
 v4 := Tryz.zeroValue4
 t28 := Tryz.underlying29
 a28 := Tryz.isAgg29
 z28 := Tryz.sizeOf29
 v28 := Tryz.zeroValue29 }
open Go.Lib in
theorem Tryz.slices_Contains_int (b off n c : Nat) (zs : List Int) (x : Int) (w : World) (hz : n ≤ zs.length) (hbig : n ≤ 9223372036854775807) (hc : ∀ j, j < zs.length → w.cell? ⟨b, off + j, none⟩ = some (.int .i64 (zs.getD j 0))) :
  Calls Tryz.prog 178 #[.slice (some ⟨b, off, none⟩) n c, .int .i64 x] w fun e w' => e = .returned (.bool ((zs.take n).contains x)) ∧ w' = w := Any.slices_Contains_int Tryz.lays107 b off n c zs x w hz hbig hc
open Go.Lib in
theorem Tryz.slices_Contains_int_empty (a : Option Addr) (c : Nat) (x : Int) (w : World) :
  Calls Tryz.prog 178 #[.slice a 0 c, .int .i64 x] w fun e w' => e = .returned (.bool false) ∧ w' = w := Any.slices_Contains_int_empty Tryz.lays107 a c x w
def Tryz.laysNm215_ren : Go.Shelf.Ren := ⟨fun | 15 => 128 | n => n, fun | 22 => 29 | 3 => 3 | 4 => 4 | n => n, fun | n => n⟩
theorem Tryz.laysNm215 : Go.Proofs.Lays2.n15 Tryz.prog Tryz.laysNm215_ren := {
 mixed := by kernel_rfl
 f15 := Tryz.func128.trans (congrArg some (by kernel_rfl))
 t3 := Tryz.underlying3
 a3 := Tryz.isAgg3
 z3 := Tryz.sizeOf3
 v3 := Tryz.zeroValue3
 t4 := Tryz.underlying4
 a4 := Tryz.isAgg4
 z4 := Tryz.sizeOf4
 v4 := Tryz.zeroValue4
 t22 := Tryz.underlying29
 a22 := Tryz.isAgg29
 z22 := Tryz.sizeOf29
 v22 := Tryz.zeroValue29
 i3 := by kernel_rfl }
open Go.RowKit Go.Lib in
theorem Tryz.slices_Clone_int (b off n c : Nat) (zs : List Int) (w : World) (hz : n ≤ zs.length) (hbig : n * 8 ≤ 140737488355328) (hc : ∀ j, j < zs.length → w.cell? ⟨b, off + j, none⟩ = some (.int .i64 (zs.getD j 0))) :
  Calls Tryz.prog 128 #[.slice (some ⟨b, off, none⟩) n c] w fun e w' => ∃ v', e = .returned v' ∧ w'.ownsRow w.heap.size 3 1 v' n ((zs.take n).map (Value.int .i64)) ∧ v' ≠ .slice none 0 0 ∧ Below w.heap.size w w' := Any.slices_Clone_int Tryz.laysNm215 b off n c zs w hz hbig hc
def Tryz.laysNm220_ren : Go.Shelf.Ren := ⟨fun | 20 => 190 | n => n, fun | 22 => 29 | 3 => 3 | 4 => 4 | 0 => 0 | n => n, fun | n => n⟩
theorem Tryz.laysNm220 : Go.Proofs.Lays2.n20 Tryz.prog Tryz.laysNm220_ren := {
 mixed := by kernel_rfl
 f20 := Tryz.func190.trans (congrArg some (by kernel_rfl))
 t0 := Tryz.underlying0
 a0 := Tryz.isAgg0
 z0 := Tryz.sizeOf0
 v0 := Tryz.zeroValue0
 t3 := Tryz.underlying3
 a3 := Tryz.isAgg3
 z3 := Tryz.sizeOf3
 v3 := Tryz.zeroValue3
 t4 := Tryz.underlying4
 a4 := Tryz.isAgg4
 z4 := Tryz.sizeOf4
 v4 := Tryz.zeroValue4
 t22 := Tryz.underlying29
 a22 := Tryz.isAgg29
 z22 := Tryz.sizeOf29
 v22 := Tryz.zeroValue29
 i3 := by kernel_rfl }
open Go.RowKit Go.Lib Go.Sort in
theorem Tryz.slices_Compact_int (blk off cap : Nat) (zs : List Int) (w : World) (hH : Holds (Value.int .i64) w blk off zs.toArray) (hsz : zs.length ≤ 9223372036854775807) (hcap : zs.length ≤ cap) :
  Calls Tryz.prog 190 #[.slice (some ⟨blk, off, none⟩) zs.length cap] w fun e w' => e = .returned (.slice (some ⟨blk, off, none⟩) (Lib.compact zs).length cap) ∧ ∃ q, w' = putRow (Value.int .i64) (Sort.ahead w q) blk off (Lib.compact zs ++ List.replicate (zs.length - (Lib.compact zs).length) 0).toArray := Any.slices_Compact_int Tryz.laysNm220 blk off cap zs w hH hsz hcap
end Go.Proofs
