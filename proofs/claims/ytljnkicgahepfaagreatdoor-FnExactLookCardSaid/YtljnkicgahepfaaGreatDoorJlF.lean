/- Joined texts: plain facts and contracts. -/
import Derived.Test.YtljnkicgahepfaaGreatDoorJlA
import Derived.Test.YtljnkicgahepfaaGreatDoorJlB
import Derived.Test.YtljnkicgahepfaaGreatDoorRows
import Derived.Lib.AppendStr
import Derived.Deep.AppendLies
import Derived.ProofKit
import Derived.Test.YtljnkicgahepfaaGreatDoorJlE
import Derived.Deep.Fields
set_option linter.unusedVariables false
set_option linter.unusedSimpArgs false
set_option maxRecDepth 10000
namespace Go.Proofs.YtljnkicgahepfaaGreatDoor.F0
open Go.ChangeShapes Go.WideShapes Go.ChangeAt Go.RowKit
def Buf (base : Nat) (w : World) (g n cap : Nat) (t : ByteArray) : Prop := n = t.size ∧ w.ownsRow base 5 1 (.slice (some ⟨g, 0, none⟩) n cap) n (Lib.strCells t)
theorem info5 : (Tryz.prog.info? 5).map (fun i => (i.zero, i.size, i.bytes)) = some (some (.int .u8 0), 1, 1) := by kernel_rfl
variable {base g n cap : Nat} {w W : World} {t : ByteArray}
theorem owns_below {e : TypeId} {size : Nat} {v : Value} {xs : List Value} (h : w.ownsRow base e size v n xs) (hb : Below w.heap.size w W) : W.ownsRow base e size v n xs := by
 refine ⟨h.1, ?_⟩
 rcases h.2 with h0 | ⟨g, cap, cur, hv, hg, hc, r⟩
 ·exact Or.inl h0
 ·refine Or.inr ⟨g, cap, cur, hv, hg, ?_, r⟩
  rw [hb.block g (Array.getElem?_eq_some_iff.1 hc).1]
  exact hc
theorem below_grown {B : Nat} {w W W' : World} {row : Option Nat} (h : Below B w W) (hg : W.grownBy W' row) (hr : ∀ g, row = some g → B ≤ g) (hB : B ≤ W.heap.size) : Below B w W' :=
 ⟨hg.os.trans h.os, hg.tape.trans h.tape, hg.output.trans h.output, Nat.le_trans h.size hg.size, fun k hk => by
  rw [hg.block k (by omega) (fun e => by have := hr k e.symm; omega)]
  exact h.block k hk⟩
theorem Buf.below (h : Buf base w g n cap t) (hb : Below w.heap.size w W) : Buf base W g n cap t := ⟨h.1, owns_below h.2 hb⟩
theorem Buf.alloc (h : Buf base w g n cap t) (o : Obj) : Buf base (w.alloc o) g n cap t := h.below ((Below.refl _ _).alloc (Nat.le_refl _) o)
theorem Buf.drew (h : Buf base w g n cap t) : Buf base w.drew g n cap t := h
theorem Buf.drewN (h : Buf base w g n cap t) (m : Nat) : Buf base (w.drewN m) g n cap t := h
theorem Buf.lt (h : Buf base w g n cap t) : base ≤ g ∧ g < w.heap.size := h.2.lt g rfl
theorem Buf.holds (h : Buf base w g n cap t) : B0.Holds w g 0 t.data.toList := by
 intro j hj
 have hj' : j < t.size := by rw [Lib.size_eq]; exact hj
 have := h.2.cells (g := g) rfl j (.int .u8 (t.data.toList[j].toNat : Int)) (by
  have hj2 : j < t.data.size := by simpa using hj
  simp [Lib.strCells]
  exact ⟨_, Array.getElem?_eq_getElem hj2, rfl⟩)
 rw [B0.add_off] at this
 exact this
theorem Buf.conv (h : Buf base w g n cap t) : (convert 22 9 (.slice (some ⟨g, 0, none⟩) n cap)).run Tryz.prog w = .ok (.string t) w := by
 have := B0.conv_back (P := Tryz.prog) w 22 9 5 g 0 cap t.data.toList Tryz.underlying22 Tryz.underlying5 Tryz.underlying9 h.holds n (by rw [h.1, Lib.size_eq])
 rwa [Lib.mk_data] at this
theorem buf_two (w : World) (x y : Int) (hx : 0 ≤ x ∧ x < 256) (hy : 0 ≤ y ∧ y < 256) (hb : base ≤ w.heap.size) :
  Buf base (w.alloc (.cells #[.int .u8 x, .int .u8 y] 5)) w.heap.size 2 2 ⟨#[UInt8.ofNat x.toNat, UInt8.ofNat y.toNat]⟩ := by
 have e1 : x.toNat < 256 := by omega
 have e2 : y.toNat < 256 := by omega
 refine ⟨rfl, by simp [Lib.strCells], Or.inr ⟨w.heap.size, 2, #[.int .u8 x, .int .u8 y], rfl, hb, heap_alloc_new w _, Nat.le_refl _, by unfold maxLen; omega, rfl, ?_⟩⟩
 simp [Lib.strCells, Nat.mod_eq_of_lt e1, Nat.mod_eq_of_lt e2]
 omega
theorem Buf.at (h : Buf base w g n cap t) {g' : Nat} (e : g = g') : Buf base w g' n cap t := e ▸ h
theorem buf_none (w : World) (C : Array Value) (cap : Nat) (hc : C.size = cap) (hm : cap ≤ maxLen) (hb : base ≤ w.heap.size) : Buf base (w.alloc (.cells C 5)) w.heap.size 0 cap ⟨#[]⟩ :=
 ⟨rfl, World.ownsRow_made w C cap hb hm (by omega)⟩
theorem cells_append (t s : ByteArray) : Lib.strCells t ++ Lib.strCells s = Lib.strCells (t ++ s) := by simp [Lib.strCells, ByteArray.data_append]
theorem append_text {ops : Array Oper} {rest : List Oper} {o : Oper} {a : Act} {Q : Exit → Act → World → Prop} (hgd : o.guard = none) (sl x : Operand)
  (ho : o.op = .call { callee := .builtin .append, args := #[sl, x], argTypes := #[22, 9] })
  (hbuf : Buf base w g n cap t) (s : ByteArray) (hs : a.eval sl = .slice (some ⟨g, 0, none⟩) n cap) (hx : a.eval x = .string s) (hlen : n + s.size ≤ 140737488355328) (hb : base ≤ w.heap.size)
  (h : ∀ g' cap' w', Buf base w' g' (n + s.size) cap' (t ++ s) → Below base w w' → wpList Tryz.prog ops Q rest (a.put o.dst (.slice (some ⟨g', 0, none⟩) (n + s.size) cap')) w') : wpList Tryz.prog ops Q (o :: rest) a w := by
 obtain ⟨i0, hi, hz0, hz1, hz2⟩ := info_parts info5
 refine Lib.wpList_append_own_string w hgd sl x 22 9 ho base 5 i0 Tryz.underlying22 Tryz.underlying9 hi hz0 hz1 hz2 _ n _ hs hbuf.2 s hx (by unfold maxLen; omega) hlen hb ?_
 intro v' w' ho' hg' hnil
 rcases ho'.2 with ⟨h0, _⟩ | ⟨g', cap', cur, hv, r⟩
 ·exact absurd ((hnil.1 h0).1) (by simp)
 ·subst hv
  refine h g' cap' w' ⟨by rw [hbuf.1, ByteArray.size_append], ?_⟩ ?_
  ·rw [← cells_append]
   exact ho'
  ·exact below_grown (Below.refl _ _) hg' (fun k hk => by
    have hk' : g = k := by simpa [Value.ownBlock] using hk
    exact hk' ▸ hbuf.lt.1) hb
theorem one_byte (c : Int) : ∀ u ∈ [Value.int .u8 c], u.oneCell' = true := by
 intro u h
 simp at h
 subst h
 rfl
theorem append_byte {ops : Array Oper} {rest : List Oper} {o : Oper} {a : Act} {Q : Exit → Act → World → Prop} (hgd : o.guard = none) (sl x : Operand)
  (ho : o.op = .call { callee := .builtin .append, args := #[sl, x], argTypes := #[22, 22] })
  (hbuf : Buf base w g n cap t) (c : Int) (hc : 0 ≤ c ∧ c < 256) (hs : a.eval sl = .slice (some ⟨g, 0, none⟩) n cap) (hx : a.eval x = .slice (some ⟨w.heap.size, 0, none⟩) 1 1) (hlen : n + 1 ≤ 140737488355328) (hb : base ≤ w.heap.size)
  (h : ∀ g' cap' w', Buf base w' g' (n + 1) cap' (t ++ ⟨#[UInt8.ofNat c.toNat]⟩) → Below base w w' → wpList Tryz.prog ops Q rest (a.put o.dst (.slice (some ⟨g', 0, none⟩) (n + 1) cap')) w') : wpList Tryz.prog ops Q (o :: rest) a (w.alloc (.cells #[.int .u8 c] 5)) := by
 obtain ⟨i0, hi, hz0, hz1, hz2⟩ := info_parts info5
 have hb2 := hbuf.alloc (.cells #[.int .u8 c] 5)
 refine wpList_append_lies _ hgd sl x 22 ho base 5 i0 (.int .u8 0) 1 1 Tryz.underlying22 hi hz0 hz1 hz2 rfl (by omega) _ n _ hs hb2.2 ⟨w.heap.size, 0, none⟩ 1 1 [.int .u8 c] hx rfl (World.news_of_block (heap_alloc_new w _)) (one_byte c) (by omega) (by unfold maxLen; omega) (by omega) (by simp; omega) _ rfl ?_
 intro g' cap' w' ho' hg' _ _
 have e1 : c.toNat < 256 := by omega
 refine h g' cap' w' ⟨by rw [hbuf.1, ByteArray.size_append]; rfl, ?_⟩ ?_
 ·rw [← cells_append]
  have e : Lib.strCells ⟨#[UInt8.ofNat c.toNat]⟩ = [.int .u8 c] := by
   simp [Lib.strCells, Nat.mod_eq_of_lt e1]
   omega
  rw [e]
  exact ho'
 ·exact below_grown ((Below.refl _ _).alloc hb _) hg' (fun k hk => by
   have hk' : g = k := by simpa [Value.ownBlock] using hk
   exact hk' ▸ hbuf.lt.1) (by simp; omega)
end Go.Proofs.YtljnkicgahepfaaGreatDoor.F0
namespace Go.Proofs.YtljnkicgahepfaaGreatDoor.J0
open Go.ChangeShapes Go.WideShapes Go.ChangeAt Go.RowKit
open I2 (ints)
def IBuf (base : Nat) (w : World) (a : Option Addr) (n cap : Nat) (zs : List Int) : Prop := n = zs.length ∧ w.ownsRow base 3 1 (.slice a n cap) n (ints zs)
variable {base n cap : Nat} {a : Option Addr} {w W : World} {zs : List Int}
theorem blk_keep {B B0 : Nat} {vs : List Value} (h : K0.Blk B vs w) (hb : Below B0 w W) (hlt : B < B0) : K0.Blk B vs W :=
 ⟨fun j hj => (hb.cell (p := ⟨B, j, none⟩) hlt).trans (h.cell j hj), fun j hj => (hb.frozen (p := ⟨B, j, none⟩) hlt).trans (h.free j hj), Nat.lt_of_lt_of_le h.lt hb.size⟩
theorem IBuf.below (h : IBuf base w a n cap zs) (hb : Below w.heap.size w W) : IBuf base W a n cap zs := ⟨h.1, F0.owns_below h.2 hb⟩
theorem IBuf.alloc (h : IBuf base w a n cap zs) (o : Obj) : IBuf base (w.alloc o) a n cap zs := h.below ((Below.refl _ _).alloc (Nat.le_refl _) o)
theorem IBuf.drew (h : IBuf base w a n cap zs) : IBuf base w.drew a n cap zs := h
theorem IBuf.drewN (h : IBuf base w a n cap zs) (m : Nat) : IBuf base (w.drewN m) a n cap zs := h
theorem ibuf_nil (w : World) : IBuf base w none 0 0 [] := ⟨rfl, rfl, Or.inl ⟨rfl, rfl⟩⟩
theorem ibuf_made (w : World) (hb : base ≤ w.heap.size) : IBuf base (w.alloc (.cells #[] 3)) (some ⟨w.heap.size, 0, none⟩) 0 0 [] := ⟨rfl, World.ownsRow_made w #[] 0 hb (Nat.zero_le _) rfl⟩
theorem IBuf.fits (h : IBuf base w a n cap zs) : n ≤ cap := by
 rcases h.2.2 with ⟨h0, h1⟩ | ⟨g, c, cur, hv, _, _, hle, _⟩
 ·omega
 ·simp at hv
  omega
def Own (base : Nat) (W : World) (a : Option Addr) (zs : List Int) : Prop := zs = [] ∨ ∃ g, a = some ⟨g, 0, none⟩ ∧ base ≤ g ∧ K0.Blk g (ints zs) W
theorem IBuf.own (h : IBuf base w a n cap zs) : Own base w a zs := by
 rcases h.2.2 with ⟨h0, h1⟩ | ⟨g, c, cur, hv, hg, hc, hle, _, hs, ht⟩
 ·left
  exact List.eq_nil_of_length_eq_zero (by rw [← h.1]; exact h1)
 ·right
  simp at hv
  refine ⟨g, hv.1, hg, ⟨fun j hj => ?_, fun j hj => ?_, (Array.getElem?_eq_some_iff.1 hc).1⟩⟩
  ·have hcell : w.cell? ⟨g, j, none⟩ = cur[j]? := by
    unfold World.cell?
    rw [hc]
    simp
   have hj' : j < zs.length := by simpa using hj
   have e1 : (cur.toList.take (n * 1))[j]? = (ints zs)[j]? := by rw [ht]
   rw [List.getElem?_take_of_lt (by have := h.1; omega)] at e1
   rw [hcell, ← Array.getElem?_toList, e1]
   simp [hj']
  ·unfold World.frozen?
   rw [hc]
   simp
theorem Own.row (h : Own base W a zs) : P0.Row W a zs := by
 rcases h with h | ⟨g, rfl, _, hb⟩
 ·exact Or.inl h
 ·exact I2.row_of_blk hb
theorem Own.below {W' : World} (h : Own base W a zs) (hb : Below W.heap.size W W') : Own base W' a zs := by
 rcases h with h | ⟨g, e, hg, hk⟩
 ·exact Or.inl h
 ·exact Or.inr ⟨g, e, hg, hk.below hb⟩
theorem Own.alloc (h : Own base W a zs) (o : Obj) : Own base (W.alloc o) a zs := h.below ((Below.refl _ _).alloc (Nat.le_refl _) o)
theorem Own.drew (h : Own base W a zs) : Own base W.drew a zs := h.imp id fun ⟨g, e, hg, hk⟩ => ⟨g, e, hg, hk.drew⟩
theorem Own.drewN (h : Own base W a zs) (m : Nat) : Own base (W.drewN m) a zs := h.imp id fun ⟨g, e, hg, hk⟩ => ⟨g, e, hg, hk.drewN m⟩
theorem Own.mono {base' : Nat} (h : Own base W a zs) (hb : base' ≤ base) : Own base' W a zs := by
 rcases h with h | ⟨g, e, hg, hk⟩
 ·exact Or.inl h
 ·exact Or.inr ⟨g, e, Nat.le_trans hb hg, hk⟩
theorem Own.set (h : Own base W a zs) {B : Nat} (hB : B < base) (j : Nat) (v : Value) : Own base (W.setCell ⟨B, j, none⟩ v) a zs := by
 rcases h with h | ⟨g, e, hg, hk⟩
 ·exact Or.inl h
 ·exact Or.inr ⟨g, e, hg, hk.setOther (by omega) j v⟩
theorem one_int (c : Int) : ∀ u ∈ [Value.int .i64 c], u.oneCell' = true := by
 intro u h
 simp at h
 subst h
 rfl
theorem own_block (h : IBuf base w a n cap zs) : ∀ g, (Value.slice a n cap).ownBlock = some g → base ≤ g := fun g hg => (h.2.lt g hg).1
theorem ints_snoc (zs : List Int) (z : Int) : ints zs ++ [.int .i64 z] = ints (zs ++ [z]) := by simp
theorem append_int {ops : Array Oper} {rest : List Oper} {o : Oper} {A : Act} {Q : Exit → Act → World → Prop} (hgd : o.guard = none) (sl x : Operand)
  (ho : o.op = .call { callee := .builtin .append, args := #[sl, x], argTypes := #[29, 29] })
  (hbuf : IBuf base w a n cap zs) (z : Int) (hs : A.eval sl = .slice a n cap) (hx : A.eval x = .slice (some ⟨w.heap.size, 0, none⟩) 1 1) (hlen : n + 1 ≤ 1048576) (hb : base ≤ w.heap.size)
  (h : ∀ g' cap' w', IBuf base w' (some ⟨g', 0, none⟩) (n + 1) cap' (zs ++ [z]) → Below base w w' → wpList Tryz.prog ops Q rest (A.put o.dst (.slice (some ⟨g', 0, none⟩) (n + 1) cap')) w') : wpList Tryz.prog ops Q (o :: rest) A (w.alloc (.cells #[.int .i64 z] 3)) := by
 obtain ⟨i0, hi, hz0, hz1, hz2⟩ := info_parts I2.info3
 have hb2 := hbuf.alloc (.cells #[.int .i64 z] 3)
 refine wpList_append_lies _ hgd sl x 29 ho base 3 i0 (.int .i64 0) 1 8 Tryz.underlying29 hi hz0 hz1 hz2 rfl (by omega) _ n _ hs hb2.2 ⟨w.heap.size, 0, none⟩ 1 1 [.int .i64 z] hx rfl (World.news_of_block (heap_alloc_new w _)) (one_int z) (by omega) (by unfold maxLen; omega) (by omega) (by simp; omega) _ rfl ?_
 intro g' cap' w' ho' hg' _ _
 refine h g' cap' w' ⟨by rw [hbuf.1]; simp, ?_⟩ ?_
 ·rw [← ints_snoc]
  exact ho'
 ·exact F0.below_grown ((Below.refl _ _).alloc hb _) hg' (own_block hbuf) (by simp; omega)
theorem step_int {ops : Array Oper} {o : Oper} {A : Act} {K : Act → World → Prop} {Q : Exit → Act → World → Prop} {E : Prop} (hgd : o.guard = none) (sl x : Operand)
  (ho : o.op = .call { callee := .builtin .append, args := #[sl, x], argTypes := #[29, 29] })
  (hbuf : IBuf base w a n cap zs) (z : Int) (hs : A.eval sl = .slice a n cap) (hx : A.eval x = .slice (some ⟨w.heap.size, 0, none⟩) 1 1) (hlen : n + 1 ≤ 1048576) (hb : base ≤ w.heap.size)
  (h : ∀ g' cap' w', IBuf base w' (some ⟨g', 0, none⟩) (n + 1) cap' (zs ++ [z]) → Below base w w' → K (A.put o.dst (.slice (some ⟨g', 0, none⟩) (n + 1) cap')) w') :
  if Region.wanted o (yielded ops A.tmps) = true then Oper.wp Tryz.prog o A (w.alloc (.cells #[.int .i64 z] 3)) K Q else E := by
 obtain ⟨i0, hi, hz0, hz1, hz2⟩ := info_parts I2.info3
 have hb2 := hbuf.alloc (.cells #[.int .i64 z] 3)
 refine step_append_lies _ hgd sl x 29 ho base 3 i0 (.int .i64 0) 1 8 Tryz.underlying29 hi hz0 hz1 hz2 rfl (by omega) _ n _ hs hb2.2 ⟨w.heap.size, 0, none⟩ 1 1 [.int .i64 z] hx rfl (World.news_of_block (heap_alloc_new w _)) (one_int z) (by omega) (by unfold maxLen; omega) (by omega) (by simp; omega) _ rfl ?_
 intro g' cap' w' ho' hg' _ _
 refine h g' cap' w' ⟨by rw [hbuf.1]; simp, ?_⟩ ?_
 ·rw [← ints_snoc]
  exact ho'
 ·exact F0.below_grown ((Below.refl _ _).alloc hb _) hg' (own_block hbuf) (by simp; omega)
end Go.Proofs.YtljnkicgahepfaaGreatDoor.J0
namespace Go.Proofs.YtljnkicgahepfaaGreatDoor.N1
open Go.ChangeShapes Go.WideShapes Go.ChangeAt Go.RowKit Go.Joins Go.Deep
open N0 (Ln)
structure Sl where
 a1 : Option Addr
 c1 : Nat
 a2 : Option Addr
 c2 : Nat
 a3 : Option Addr
 c3 : Nat
abbrev vals (d : Ln) (s : Sl) : List Value := [.int .i64 d.ino, .int .i64 d.cl, .int .i64 d.un, .string d.rc, .slice s.a1 d.pg.length s.c1, .string d.sav, .slice s.a2 d.po.length s.c2, .slice s.a3 d.fr.length s.c3]
abbrev val (d : Ln) (s : Sl) : Value := .agg #[.int .i64 d.ino, .int .i64 d.cl, .int .i64 d.un, .string d.rc, .slice s.a1 d.pg.length s.c1, .string d.sav, .slice s.a2 d.po.length s.c2, .slice s.a3 d.fr.length s.c3]
structure Lists (W : World) (d : Ln) (s : Sl) : Prop where
 r1 : P0.Row W s.a1 d.pg
 r2 : P0.Row W s.a2 d.po
 r3 : P0.Row W s.a3 d.fr
structure FitM (d : Ln) (s : Sl) : Prop where
 l1 : d.pg.length ≤ maxLen
 l2 : d.po.length ≤ maxLen
 l3 : d.fr.length ≤ maxLen
 m4 : d.rc.size ≤ maxLen
 m5 : d.sav.size ≤ maxLen
structure Fit (d : Ln) (s : Sl) : Prop where
 p1 : d.pg.length ≤ 281474976710656
 m4 : d.rc.size ≤ 281474976710656
 m5 : d.sav.size ≤ 281474976710656
variable {W W' : World} {d : Ln} {s : Sl}
theorem Lists.below (h : Lists W d s) (hb : Below W.heap.size W W') : Lists W' d s := ⟨h.r1.below hb, h.r2.below hb, h.r3.below hb⟩
theorem Lists.alloc (h : Lists W d s) (o : Obj) : Lists (W.alloc o) d s := ⟨h.r1.alloc o, h.r2.alloc o, h.r3.alloc o⟩
theorem Lists.drewN (h : Lists W d s) (n : Nat) : Lists (W.drewN n) d s := ⟨h.r1, h.r2, h.r3⟩
theorem Lists.drew (h : Lists W d s) : Lists W.drew d s := ⟨h.r1, h.r2, h.r3⟩
section Args
variable {H : Type} {enc : TypeId × Value → H} {w : World}
theorem cells : Tryz.prog.cellsOf 170 = 8 := by kernel_rfl
end Args
structure LB (B : Nat) (d : Ln) (s : Sl) (W : World) : Prop where
 b : K0.Blk B (vals d s) W
variable {B : Nat}
theorem LB.c0 (h : LB B d s W) : W.cell? ⟨B, 0, none⟩ = some (.int .i64 d.ino) := h.b.cell 0 (by simp)
theorem LB.c1 (h : LB B d s W) : W.cell? ⟨B, 1, none⟩ = some (.int .i64 d.cl) := h.b.cell 1 (by simp)
theorem LB.c2 (h : LB B d s W) : W.cell? ⟨B, 2, none⟩ = some (.int .i64 d.un) := h.b.cell 2 (by simp)
theorem LB.c3 (h : LB B d s W) : W.cell? ⟨B, 3, none⟩ = some (.string d.rc) := h.b.cell 3 (by simp)
theorem LB.c4 (h : LB B d s W) : W.cell? ⟨B, 4, none⟩ = some (.slice s.a1 d.pg.length s.c1) := h.b.cell 4 (by simp)
theorem LB.c5 (h : LB B d s W) : W.cell? ⟨B, 5, none⟩ = some (.string d.sav) := h.b.cell 5 (by simp)
theorem LB.c6 (h : LB B d s W) : W.cell? ⟨B, 6, none⟩ = some (.slice s.a2 d.po.length s.c2) := h.b.cell 6 (by simp)
theorem LB.c7 (h : LB B d s W) : W.cell? ⟨B, 7, none⟩ = some (.slice s.a3 d.fr.length s.c3) := h.b.cell 7 (by simp)
theorem LB.below (h : LB B d s W) (hb : Below W.heap.size W W') : LB B d s W' := ⟨h.b.below hb⟩
theorem lb_new (d : Ln) (s : Sl) (w : World) (T : TypeId) : LB w.heap.size d s (w.alloc (.cells #[.int .i64 d.ino, .int .i64 d.cl, .int .i64 d.un, .string d.rc, .slice s.a1 d.pg.length s.c1, .string d.sav, .slice s.a2 d.po.length s.c2, .slice s.a3 d.fr.length s.c3] T)) := ⟨K0.blk_new (vals d s) w T⟩
end Go.Proofs.YtljnkicgahepfaaGreatDoor.N1
namespace Go.Proofs.YtljnkicgahepfaaGreatDoor.N2
open Go.ChangeShapes Go.WideShapes Go.ChangeAt Go.RowKit
open P1 (ret_bool quiet_bool)
theorem hasRow (a : Option Addr) (c : Nat) (zs : List Int) (x : Int) (w : World) (hbig : zs.length ≤ 281474976710656) (hR : P0.Row w a zs) :
  Calls Tryz.prog 106 #[.slice a zs.length c, .int .i64 x] w fun e w' => e = .returned (.bool (P0.has zs x)) ∧ w' = w := by
 by_cases h0 : zs = []
 ·subst h0
  go_enter Tryz.func106, Tryz.ntmps106
  go_wp2
  go_loop [5] (fun i => i = .int .i64 0) (fun _ => 0)
  case atStart => rfl
  case round =>
   subst hrel
   go_wp2
   go_ret
   exact ⟨rfl, rfl⟩
 ·rcases hR with h | ⟨b, off, rfl, hb, hc⟩
  ·exact absurd h h0
  ·have := P1.l02Has b off zs.length c zs x w (Nat.le_refl _) hbig hc
   rw [List.take_length] at this
   exact this
theorem containsRow (a : Option Addr) (c : Nat) (zs : List Int) (x : Int) (w : World) (hbig : zs.length ≤ 281474976710656) (hR : P0.Row w a zs) :
  Calls Tryz.prog 178 #[.slice a zs.length c, .int .i64 x] w fun e w' => e = .returned (.bool (P0.has zs x)) ∧ w' = w := by
 by_cases h0 : zs = []
 ·subst h0
  exact Tryz.slices_Contains_int_empty a c x w
 ·rcases hR with h | ⟨b, off, rfl, hb, hc⟩
  ·exact absurd h h0
  ·have := P1.impl_Contains b off zs.length c zs x w (Nat.le_refl _) hbig hc
   rw [List.take_length] at this
   exact this
theorem ascends (a : Option Addr) (c : Nat) (zs : List Int) (w : World) (hbig : zs.length ≤ 281474976710656) (hR : P0.Row w a zs) :
  Calls Tryz.prog 54 #[.slice a zs.length c] w fun e w' => e = .returned (.bool (N0.asc zs)) ∧ ∃ n, w' = w.drewN n := by
 go_enter Tryz.func54, Tryz.ntmps54
 go_wp2
 go_loopw [3] (fun i w' => ∃ k n : Nat, 1 ≤ k ∧ (k ≤ zs.length ∨ k = 1) ∧ N0.to (N0.ascAt zs) k = true ∧ i = .int .i64 k ∧ w' = w.drewN n) (fun i _ => zs.length - (intOf i).toNat)
 case atStart => exact ⟨1, 0, Nat.le_refl _, Or.inr rfl, rfl, rfl, rfl⟩
 case round =>
  obtain ⟨k, n, hk1, hk, hok, rfl, hW⟩ := hrel
  have HW : Hid (∀ m, ∃ m', wr.drewN m = w.drewN m') := fun m => ⟨n + m, by rw [hW, World.drewN_drewN]⟩
  by_cases hlt : k < zs.length
  ·have hR' : P0.Row wr a zs := by rw [hW]; exact hR.drewN n
   obtain ⟨b, off, rfl, hb, hc⟩ := hR'.get hlt
   have x1 := hc k hlt
   have x2 := hc (k - 1) (by omega)
   have hat : N0.ascAt zs k = (decide (k = 0) || decide (zs.getD (k - 1) 0 < zs.getD k 0)) := rfl
   obtain ⟨z, ez⟩ : ∃ z, zs.getD k 0 = z := ⟨_, rfl⟩
   obtain ⟨y, ey⟩ : ∃ y, zs.getD (k - 1) 0 = y := ⟨_, rfl⟩
   rw [ez] at x1 hat
   rw [ey] at x2 hat
   have e1 : (0 : Int) ≤ (k : Int) := by omega
   have e2 : (k : Int) < (zs.length : Int) := by omega
   have e3 : (0 : Int) ≤ (k : Int) - 1 := by omega
   have e4 : (k : Int) - 1 < (zs.length : Int) := by omega
   have e5 : ((k : Int) - 1).toNat = k - 1 := by omega
   by_cases h : z ≤ y
   ·have HR : Hid (N0.asc zs = false) := N0.to_bad hlt (by rw [hat, decide_eq_false (by omega), decide_eq_false (by omega)]; rfl)
    clear hat hok ez ey hc hR hR' hW
    go_wp2
    go_quiet (fail)
    go_wp2
    go_ret
    exact ⟨ret_bool HR.out.symm, HW.out _⟩
   ·have h' : decide (z ≤ y) = false := by simpa using h
    have HO : Hid (N0.to (N0.ascAt zs) (k + 1) = true) := N0.to_step hok (by rw [hat, decide_eq_true (show y < z by omega), Bool.or_true])
    clear hat hok ez ey hc hR hR' hW
    go_wp2
    go_quiet (fail)
    go_wp2
    obtain ⟨m', hm'⟩ := HW.out nq
    go_roundw
    case rel => exact ⟨k + 1, m', by omega, Or.inl (by omega), HO.out, by go_num, hm'⟩
    case measure => simp [intOf]; omega
  ·have HR : Hid (N0.asc zs = true) := by
    show N0.to (N0.ascAt zs) zs.length = true
    exact N0.to_iff.2 fun i hi => N0.to_iff.1 hok i (by omega)
   have HW0 : Hid (wr = w.drewN n) := hW
   have e6 : decide ((k : Int) < (zs.length : Int)) = false := by simp; omega
   clear hok hR hW
   go_wp2
   go_ret
   exact ⟨ret_bool HR.out.symm, n, HW0.out⟩
def eqAt (xs ys : List Int) (i : Nat) : Bool := decide (xs.getD i 0 = ys.getD i 0)
theorem eq_of {xs ys : List Int} (hl : xs.length = ys.length) (h : N0.to (eqAt xs ys) xs.length = true) : xs = ys := by
 apply List.ext_getElem hl
 intro i h1 h2
 have := N0.to_iff.1 h i h1
 simp only [eqAt, decide_eq_true_eq] at this
 rwa [P0.getD_get _ _ h1, P0.getD_get _ _ h2] at this
theorem ne_of {xs ys : List Int} {k : Nat} (hk : ¬ xs.getD k 0 = ys.getD k 0) : ¬ xs = ys := fun e => hk (by rw [e])
theorem equal (a1 a2 : Option Addr) (c1 c2 : Nat) (xs ys : List Int) (w : World) (hb1 : xs.length ≤ 281474976710656) (hb2 : ys.length ≤ 281474976710656) (h1 : P0.Row w a1 xs) (h2 : P0.Row w a2 ys) :
  Calls Tryz.prog 280 #[.slice a1 xs.length c1, .slice a2 ys.length c2] w fun e w' => e = .returned (.bool (decide (xs = ys))) ∧ ∃ n, w' = w.drewN n := by
 by_cases hl : xs.length = ys.length
 ·have hl' : ((xs.length : Int) != (ys.length : Int)) = false := by simp; omega
  go_enter Tryz.func280, Tryz.ntmps280
  go_wp2
  go_loopw [13] (fun i w' => ∃ k n : Nat, k ≤ xs.length ∧ N0.to (eqAt xs ys) k = true ∧ i = .int .i64 k ∧ w' = w.drewN n) (fun i _ => xs.length - (intOf i).toNat)
  case atStart => exact ⟨0, 0, Nat.zero_le _, rfl, rfl, rfl⟩
  case round =>
   obtain ⟨k, n, hk, hok, rfl, hW⟩ := hrel
   have HW : Hid (∀ m, ∃ m', wr.drewN m = w.drewN m') := fun m => ⟨n + m, by rw [hW, World.drewN_drewN]⟩
   by_cases hlt : k < xs.length
   ·have h1' : P0.Row wr a1 xs := by rw [hW]; exact h1.drewN n
    have h2' : P0.Row wr a2 ys := by rw [hW]; exact h2.drewN n
    obtain ⟨b1, off1, rfl, _, hc1⟩ := h1'.get hlt
    obtain ⟨b2, off2, rfl, _, hc2⟩ := h2'.get (by omega : k < ys.length)
    have x1 := hc1 k hlt
    have x2 := hc2 k (by omega)
    have hat : eqAt xs ys k = decide (xs.getD k 0 = ys.getD k 0) := rfl
    have hne : ¬ xs.getD k 0 = ys.getD k 0 → ¬ xs = ys := ne_of
    obtain ⟨z, ez⟩ : ∃ z, xs.getD k 0 = z := ⟨_, rfl⟩
    obtain ⟨y, ey⟩ : ∃ y, ys.getD k 0 = y := ⟨_, rfl⟩
    rw [ez] at x1 hat hne
    rw [ey] at x2 hat hne
    have e1 : (0 : Int) ≤ (k : Int) := by omega
    have e2 : (k : Int) < (xs.length : Int) := by omega
    have e3 : (k : Int) < (ys.length : Int) := by omega
    by_cases h : z = y
    ·have h' : (z != y) = false := by simpa using h
     have HO : Hid (N0.to (eqAt xs ys) (k + 1) = true) := N0.to_step hok (by rw [hat, decide_eq_true h])
     clear hat hok ez ey hc1 hc2 h1 h2 h1' h2' hW h hne hl
     go_wp2
     go_quiet (fail)
     go_wp2
     obtain ⟨m', hm'⟩ := HW.out nq
     go_roundw
     case rel => exact ⟨k + 1, m', by omega, HO.out, by go_num, hm'⟩
     case measure => simp [intOf]; omega
    ·have h' : (z != y) = true := by simpa using h
     have HR : Hid (decide (xs = ys) = false) := decide_eq_false (hne h)
     clear hat hok ez ey hc1 hc2 h1 h2 h1' h2' hW h hne hl
     go_wp2
     go_quiet (fail)
     go_wp2
     go_ret
     exact ⟨ret_bool HR.out.symm, HW.out _⟩
   ·obtain rfl : k = xs.length := by omega
    have HR : Hid (decide (xs = ys) = true) := decide_eq_true (eq_of hl hok)
    have HW0 : Hid (wr = w.drewN n) := hW
    have e9 : decide (xs.length < ys.length) = false := decide_eq_false (by omega)
    clear hok h1 h2 hW hl
    go_wp2
    go_ret
    exact ⟨ret_bool HR.out.symm, n, HW0.out⟩
 ·have hl' : ((xs.length : Int) != (ys.length : Int)) = true := by simp; omega
  have HR : Hid (decide (xs = ys) = false) := decide_eq_false fun e => hl (by rw [e])
  clear hl
  go_enter Tryz.func280, Tryz.ntmps280
  go_wp2
  go_ret
  exact ⟨ret_bool HR.out.symm, 0, rfl⟩
theorem same (a1 a2 : Option Addr) (c1 c2 : Nat) (xs ys : List Int) (w : World) (hb1 : xs.length ≤ 281474976710656) (hb2 : ys.length ≤ 281474976710656) (h1 : P0.Row w a1 xs) (h2 : P0.Row w a2 ys) :
  Calls Tryz.prog 121 #[.slice a1 xs.length c1, .slice a2 ys.length c2] w fun e w' => e = .returned (.bool (decide (xs = ys))) ∧ ∃ n, w' = w.drewN n := by
 by_cases hl : xs.length = ys.length
 ·have hl' : ((xs.length : Int) != (ys.length : Int)) = false := by simp; omega
  go_enter Tryz.func121, Tryz.ntmps121
  go_wp2
  go_loopw [5] (fun i w' => ∃ k n : Nat, k ≤ xs.length ∧ N0.to (eqAt xs ys) k = true ∧ i = .int .i64 k ∧ w' = w.drewN n) (fun i _ => xs.length - (intOf i).toNat)
  case atStart => exact ⟨0, 0, Nat.zero_le _, rfl, rfl, rfl⟩
  case round =>
   obtain ⟨k, n, hk, hok, rfl, hW⟩ := hrel
   have HW : Hid (∀ m, ∃ m', wr.drewN m = w.drewN m') := fun m => ⟨n + m, by rw [hW, World.drewN_drewN]⟩
   by_cases hlt : k < xs.length
   ·have h1' : P0.Row wr a1 xs := by rw [hW]; exact h1.drewN n
    have h2' : P0.Row wr a2 ys := by rw [hW]; exact h2.drewN n
    obtain ⟨b1, off1, rfl, _, hc1⟩ := h1'.get hlt
    obtain ⟨b2, off2, rfl, _, hc2⟩ := h2'.get (by omega : k < ys.length)
    have x1 := hc1 k hlt
    have x2 := hc2 k (by omega)
    have hat : eqAt xs ys k = decide (xs.getD k 0 = ys.getD k 0) := rfl
    have hne : ¬ xs.getD k 0 = ys.getD k 0 → ¬ xs = ys := ne_of
    obtain ⟨z, ez⟩ : ∃ z, xs.getD k 0 = z := ⟨_, rfl⟩
    obtain ⟨y, ey⟩ : ∃ y, ys.getD k 0 = y := ⟨_, rfl⟩
    rw [ez] at x1 hat hne
    rw [ey] at x2 hat hne
    have e1 : (0 : Int) ≤ (k : Int) := by omega
    have e2 : (k : Int) < (xs.length : Int) := by omega
    have e3 : (k : Int) < (ys.length : Int) := by omega
    by_cases h : z = y
    ·have h' : (z != y) = false := by simpa using h
     have HO : Hid (N0.to (eqAt xs ys) (k + 1) = true) := N0.to_step hok (by rw [hat, decide_eq_true h])
     clear hat hok ez ey hc1 hc2 h1 h2 h1' h2' hW h hne hl
     go_wp2
     go_quiet (fail)
     go_wp2
     obtain ⟨m', hm'⟩ := HW.out nq
     go_roundw
     case rel => exact ⟨k + 1, m', by omega, HO.out, by go_num, hm'⟩
     case measure => simp [intOf]; omega
    ·have h' : (z != y) = true := by simpa using h
     have HR : Hid (decide (xs = ys) = false) := decide_eq_false (hne h)
     clear hat hok ez ey hc1 hc2 h1 h2 h1' h2' hW h hne hl
     go_wp2
     go_quiet (fail)
     go_wp2
     go_ret
     exact ⟨ret_bool HR.out.symm, HW.out _⟩
   ·obtain rfl : k = xs.length := by omega
    have HR : Hid (decide (xs = ys) = true) := decide_eq_true (eq_of hl hok)
    have HW0 : Hid (wr = w.drewN n) := hW
    have e9 : decide (xs.length < ys.length) = false := decide_eq_false (by omega)
    clear hok h1 h2 hW hl
    go_wp2
    go_ret
    exact ⟨ret_bool HR.out.symm, n, HW0.out⟩
 ·have hl' : ((xs.length : Int) != (ys.length : Int)) = true := by simp; omega
  have HR : Hid (decide (xs = ys) = false) := decide_eq_false fun e => hl (by rw [e])
  clear hl
  go_enter Tryz.func121, Tryz.ntmps121
  go_wp2
  go_ret
  exact ⟨ret_bool HR.out.symm, 0, rfl⟩
set_option maxHeartbeats 2000000 in
theorem l05Up (a : Option Addr) (c : Nat) (zs : List Int) (x y : Int) (w : World) (hbig : zs.length ≤ 281474976710656) (hR : P0.Row w a zs) :
  Calls Tryz.prog 184 #[.slice a zs.length c, .int .i64 x, .int .i64 y] w fun e w' => e = .returned (.bool (N0.up zs x y)) ∧ ∃ n, w' = w.drewN n := by
 go_enter Tryz.func184, Tryz.ntmps184
 go_wp2
 go_loopw [7] (fun i w' => ∃ k n : Nat, k ≤ zs.length ∧ N0.to (N0.upAt zs x y) k = true ∧ i = .int .i64 k ∧ w' = w.drewN n) (fun i _ => zs.length - (intOf i).toNat)
 case atStart => exact ⟨0, 0, Nat.zero_le _, rfl, rfl, rfl⟩
 case round =>
  obtain ⟨k, n, hk, hok, rfl, hW⟩ := hrel
  have HW : Hid (∀ m, ∃ m', wr.drewN m = w.drewN m') := fun m => ⟨n + m, by rw [hW, World.drewN_drewN]⟩
  by_cases hlt : k < zs.length
  ·have hR' : P0.Row wr a zs := by rw [hW]; exact hR.drewN n
   obtain ⟨b, off, rfl, hb, hc⟩ := hR'.get hlt
   have x1 := hc k hlt
   have hat : N0.upAt zs x y k = (B1.inB (zs.getD k 0) x y && (decide (k = 0) || decide (zs.getD (k - 1) 0 < zs.getD k 0))) := rfl
   have e1 : (0 : Int) ≤ (k : Int) := by omega
   have e2 : (k : Int) < (zs.length : Int) := by omega
   by_cases g0 : k = 0
   ·subst g0
    obtain ⟨z, ez⟩ : ∃ z, zs.getD 0 0 = z := ⟨_, rfl⟩
    rw [ez] at x1 hat
    rw [Nat.add_zero] at x1
    rw [decide_eq_true rfl, Bool.true_or, Bool.and_true] at hat
    cases h1 : B1.inB z x y with
    | true =>
     have HO : Hid (N0.to (N0.upAt zs x y) (0 + 1) = true) := N0.to_step hok (by rw [hat, h1])
     clear hat hok ez hc hR hR' hW
     go_wp2
     go_quiet ((go_at_call 44; exact quiet_bool (B1.l01In_any _ _ _ _) h1))
     go_wp2
     obtain ⟨m', hm'⟩ := HW.out nq
     go_roundw
     case rel => exact ⟨0 + 1, m', by omega, HO.out, by go_num, hm'⟩
     case measure => simp [intOf]; omega
    | false =>
     have HR : Hid (N0.up zs x y = false) := N0.to_bad hlt (by rw [hat, h1])
     clear hat hok ez hc hR hR' hW
     go_wp2
     go_quiet ((go_at_call 44; exact quiet_bool (B1.l01In_any _ _ _ _) h1))
     go_wp2
     go_ret
     exact ⟨ret_bool HR.out.symm, HW.out _⟩
   ·have x2 := hc (k - 1) (by omega)
    obtain ⟨z, ez⟩ : ∃ z, zs.getD k 0 = z := ⟨_, rfl⟩
    obtain ⟨u, eu⟩ : ∃ u, zs.getD (k - 1) 0 = u := ⟨_, rfl⟩
    rw [ez] at x1 hat
    rw [eu] at x2 hat
    rw [decide_eq_false g0, Bool.false_or] at hat
    have e3 : (0 : Int) ≤ (k : Int) - 1 := by omega
    have e4 : (k : Int) - 1 < (zs.length : Int) := by omega
    have e5 : ((k : Int) - 1).toNat = k - 1 := by omega
    have e6 : 0 < k := by omega
    cases h1 : B1.inB z x y with
    | true =>
     by_cases h : z ≤ u
     ·have HR : Hid (N0.up zs x y = false) := N0.to_bad hlt (by rw [hat, h1, decide_eq_false (by omega)]; rfl)
      clear hat hok ez eu hc hR hR' hW
      go_wp2
      go_quiet ((go_at_call 44; exact quiet_bool (B1.l01In_any _ _ _ _) h1))
      go_wp2
      go_ret
      exact ⟨ret_bool HR.out.symm, HW.out _⟩
     ·have h' : decide (z ≤ u) = false := by simpa using h
      have HO : Hid (N0.to (N0.upAt zs x y) (k + 1) = true) := N0.to_step hok (by rw [hat, h1, decide_eq_true (by omega)]; rfl)
      clear hat hok ez eu hc hR hR' hW
      go_wp2
      go_quiet ((go_at_call 44; exact quiet_bool (B1.l01In_any _ _ _ _) h1))
      go_wp2
      obtain ⟨m', hm'⟩ := HW.out nq
      go_roundw
      case rel => exact ⟨k + 1, m', by omega, HO.out, by go_num, hm'⟩
      case measure => simp [intOf]; omega
    | false =>
     have HR : Hid (N0.up zs x y = false) := N0.to_bad hlt (by rw [hat, h1]; rfl)
     clear hat hok ez eu hc hR hR' hW
     go_wp2
     go_quiet ((go_at_call 44; exact quiet_bool (B1.l01In_any _ _ _ _) h1))
     go_wp2
     go_ret
     exact ⟨ret_bool HR.out.symm, HW.out _⟩
  ·obtain rfl : k = zs.length := by omega
   have HR : Hid (N0.up zs x y = true) := hok
   have HW0 : Hid (wr = w.drewN n) := hW
   clear hok hR hW
   go_wp2
   go_ret
   exact ⟨ret_bool HR.out.symm, n, HW0.out⟩
end Go.Proofs.YtljnkicgahepfaaGreatDoor.N2
namespace Go.Proofs.YtljnkicgahepfaaGreatDoor.M0
open Go.ChangeShapes Go.WideShapes Go.ChangeAt Go.RowKit
open I0 (val vals)
open I2 (ints)
theorem grown_refl (w : World) (row : Option Nat) : w.grownBy w row := ⟨rfl, rfl, rfl, Nat.le_refl _, fun _ _ _ => rfl⟩
theorem grown_set {w w1 : World} {g j : Nat} (h : w.grownBy w1 (some g)) (v : Value) : w.grownBy (w1.setCell ⟨g, j, none⟩ v) (some g) := by
 refine ⟨h.os, h.tape, h.output, ?_, fun k hk hr => ?_⟩
 ·simpa using h.size
 ·have hne : k ≠ g := fun e => hr (by rw [e])
  rw [← h.block k hk hr]
  exact Below.heap_setCell w1 ⟨g, j, none⟩ v k hne
end Go.Proofs.YtljnkicgahepfaaGreatDoor.M0
