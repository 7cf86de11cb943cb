/- Joined texts: plain facts and contracts, as each part says. -/
import Derived.Test.YtkdjcbmmbjongaaGreatJnA
import Derived.Test.YtkdjcbmmbjongaaGreatRows
import Derived.Lib.AppendStr
import Derived.Deep.AppendLies
import Derived.ProofKit
import Derived.Test.YtkdjcbmmbjongaaGreatJnC
import Derived.Deep.Fields

/- A row of bytes that a call has made and appends to: what it holds, and the two appends. -/
namespace Go.Proofs.YtkdjcbmmbjongaaGreat.F0
open Go.ChangeShapes Go.WideShapes Go.ChangeAt Go.RowKit
set_option linter.unusedVariables false
set_option linter.unusedSimpArgs false
set_option maxRecDepth 10000

/-- A row of a call's own: so many bytes, these. -/
def Buf (base : Nat) (w : World) (g n cap : Nat) (t : ByteArray) : Prop := n = t.size ∧ w.ownsRow base 5 1 (.slice (some ⟨g, 0, none⟩) n cap) n (Lib.strCells t)

theorem info5 : (Tryz.prog.info? 5).map (fun i => (i.zero, i.size, i.bytes)) = some (some (.int .u8 0), 1, 1) := by kernel_rfl

variable {base g n cap : Nat} {w W : World} {t : ByteArray}

theorem owns_below {e : TypeId} {size : Nat} {v : Value} {xs : List Value} (h : w.ownsRow base e size v n xs) (hb : Below w.heap.size w W) : W.ownsRow base e size v n xs := by
  refine ⟨h.1, ?_⟩
  rcases h.2 with h0 | ⟨g, cap, cur, hv, hg, hc, r⟩
  · exact Or.inl h0
  · refine Or.inr ⟨g, cap, cur, hv, hg, ?_, r⟩
    rw [hb.block g (Array.getElem?_eq_some_iff.1 hc).1]
    exact hc

theorem below_grown {B : Nat} {w W W' : World} {row : Option Nat} (h : Below B w W) (hg : W.grownBy W' row) (hr : ∀ g, row = some g → B ≤ g) (hB : B ≤ W.heap.size) : Below B w W' :=
  ⟨hg.os.trans h.os, hg.tape.trans h.tape, hg.output.trans h.output, Nat.le_trans h.size hg.size, fun k hk => by
    rw [hg.block k (by omega) (fun e => by have := hr k e.symm; omega)]
    exact h.block k hk⟩

theorem Buf.below (h : Buf base w g n cap t) (hb : Below w.heap.size w W) : Buf base W g n cap t := ⟨h.1, owns_below h.2 hb⟩
theorem Buf.alloc (h : Buf base w g n cap t) (o : Obj) : Buf base (w.alloc o) g n cap t := h.below ((Below.refl _ _).alloc (Nat.le_refl _) o)
theorem Buf.drew (h : Buf base w g n cap t) : Buf base w.drew g n cap t := h
theorem Buf.drewN (h : Buf base w g n cap t) (m : Nat) : Buf base (w.drewN m) g n cap t := h

theorem Buf.lt (h : Buf base w g n cap t) : base ≤ g ∧ g < w.heap.size := h.2.lt g rfl

theorem Buf.holds (h : Buf base w g n cap t) : B0.Holds w g 0 t.data.toList := by
  intro j hj
  have hj' : j < t.size := by rw [Lib.size_eq]; exact hj
  have := h.2.cells (g := g) rfl j (.int .u8 (t.data.toList[j].toNat : Int)) (by
    have hj2 : j < t.data.size := by simpa using hj
    simp [Lib.strCells]
    exact ⟨_, Array.getElem?_eq_getElem hj2, rfl⟩)
  rw [B0.add_off] at this
  exact this

/-- The row as a string. -/
theorem Buf.conv (h : Buf base w g n cap t) : (convert 83 9 (.slice (some ⟨g, 0, none⟩) n cap)).run Tryz.prog w = .ok (.string t) w := by
  have := B0.conv_back (P := Tryz.prog) w 83 9 5 g 0 cap t.data.toList Tryz.underlying83 Tryz.underlying5 Tryz.underlying9 h.holds n (by rw [h.1, Lib.size_eq])
  rwa [Lib.mk_data] at this

/-- A new row of two bytes. -/
theorem buf_two (w : World) (x y : Int) (hx : 0 ≤ x ∧ x < 256) (hy : 0 ≤ y ∧ y < 256) (hb : base ≤ w.heap.size) :
    Buf base (w.alloc (.cells #[.int .u8 x, .int .u8 y] 5)) w.heap.size 2 2 ⟨#[UInt8.ofNat x.toNat, UInt8.ofNat y.toNat]⟩ := by
  have e1 : x.toNat < 256 := by omega
  have e2 : y.toNat < 256 := by omega
  refine ⟨rfl, by simp [Lib.strCells], Or.inr ⟨w.heap.size, 2, #[.int .u8 x, .int .u8 y], rfl, hb, heap_alloc_new w _, Nat.le_refl _, by unfold maxLen; omega, rfl, ?_⟩⟩
  simp [Lib.strCells, Nat.mod_eq_of_lt e1, Nat.mod_eq_of_lt e2]
  omega

theorem Buf.at (h : Buf base w g n cap t) {g' : Nat} (e : g = g') : Buf base w g' n cap t := e ▸ h

/-- A new row without bytes, with room. -/
theorem buf_none (w : World) (C : Array Value) (cap : Nat) (hc : C.size = cap) (hm : cap ≤ maxLen) (hb : base ≤ w.heap.size) : Buf base (w.alloc (.cells C 5)) w.heap.size 0 cap ⟨#[]⟩ :=
  ⟨rfl, World.ownsRow_made w C cap hb hm (by omega)⟩

theorem cells_append (t s : ByteArray) : Lib.strCells t ++ Lib.strCells s = Lib.strCells (t ++ s) := by simp [Lib.strCells, ByteArray.data_append]

/-- 'room = append(room, s...)', s a string. -/
theorem append_text {ops : Array Oper} {rest : List Oper} {o : Oper} {a : Act} {Q : Exit → Act → World → Prop} (hgd : o.guard = none) (sl x : Operand)
    (ho : o.op = .call { callee := .builtin .append, args := #[sl, x], argTypes := #[83, 9] })
    (hbuf : Buf base w g n cap t) (s : ByteArray) (hs : a.eval sl = .slice (some ⟨g, 0, none⟩) n cap) (hx : a.eval x = .string s) (hlen : n + s.size ≤ 140737488355328) (hb : base ≤ w.heap.size)
    (h : ∀ g' cap' w', Buf base w' g' (n + s.size) cap' (t ++ s) → Below base w w' → wpList Tryz.prog ops Q rest (a.put o.dst (.slice (some ⟨g', 0, none⟩) (n + s.size) cap')) w') : wpList Tryz.prog ops Q (o :: rest) a w := by
  obtain ⟨i0, hi, hz0, hz1, hz2⟩ := info_parts info5
  refine Lib.wpList_append_own_string w hgd sl x 83 9 ho base 5 i0 Tryz.underlying83 Tryz.underlying9 hi hz0 hz1 hz2 _ n _ hs hbuf.2 s hx (by unfold maxLen; omega) hlen hb ?_
  intro v' w' ho' hg' hnil
  rcases ho'.2 with ⟨h0, _⟩ | ⟨g', cap', cur, hv, r⟩
  · exact absurd ((hnil.1 h0).1) (by simp)
  · subst hv
    refine h g' cap' w' ⟨by rw [hbuf.1, ByteArray.size_append], ?_⟩ ?_
    · rw [← cells_append]
      exact ho'
    · exact below_grown (Below.refl _ _) hg' (fun k hk => by
        have hk' : g = k := by simpa [Value.ownBlock] using hk
        exact hk' ▸ hbuf.lt.1) hb

theorem one_byte (c : Int) : ∀ u ∈ [Value.int .u8 c], u.oneCell' = true := by
  intro u h
  simp at h
  subst h
  rfl

/-- 'room = append(room, c)'. -/
theorem append_byte {ops : Array Oper} {rest : List Oper} {o : Oper} {a : Act} {Q : Exit → Act → World → Prop} (hgd : o.guard = none) (sl x : Operand)
    (ho : o.op = .call { callee := .builtin .append, args := #[sl, x], argTypes := #[83, 83] })
    (hbuf : Buf base w g n cap t) (c : Int) (hc : 0 ≤ c ∧ c < 256) (hs : a.eval sl = .slice (some ⟨g, 0, none⟩) n cap) (hx : a.eval x = .slice (some ⟨w.heap.size, 0, none⟩) 1 1) (hlen : n + 1 ≤ 140737488355328) (hb : base ≤ w.heap.size)
    (h : ∀ g' cap' w', Buf base w' g' (n + 1) cap' (t ++ ⟨#[UInt8.ofNat c.toNat]⟩) → Below base w w' → wpList Tryz.prog ops Q rest (a.put o.dst (.slice (some ⟨g', 0, none⟩) (n + 1) cap')) w') : wpList Tryz.prog ops Q (o :: rest) a (w.alloc (.cells #[.int .u8 c] 5)) := by
  obtain ⟨i0, hi, hz0, hz1, hz2⟩ := info_parts info5
  have hb2 := hbuf.alloc (.cells #[.int .u8 c] 5)
  refine wpList_append_lies _ hgd sl x 83 ho base 5 i0 (.int .u8 0) 1 1 Tryz.underlying83 hi hz0 hz1 hz2 rfl (by omega) _ n _ hs hb2.2 ⟨w.heap.size, 0, none⟩ 1 1 [.int .u8 c] hx rfl (World.news_of_block (heap_alloc_new w _)) (one_byte c) (by omega) (by unfold maxLen; omega) (by omega) (by simp; omega) _ rfl ?_
  intro g' cap' w' ho' hg' _ _
  have e1 : c.toNat < 256 := by omega
  refine h g' cap' w' ⟨by rw [hbuf.1, ByteArray.size_append]; rfl, ?_⟩ ?_
  · rw [← cells_append]
    have e : Lib.strCells ⟨#[UInt8.ofNat c.toNat]⟩ = [.int .u8 c] := by
      simp [Lib.strCells, Nat.mod_eq_of_lt e1]
      omega
    rw [e]
    exact ho'
  · exact below_grown ((Below.refl _ _).alloc hb _) hg' (fun k hk => by
      have hk' : g = k := by simpa [Value.ownBlock] using hk
      exact hk' ▸ hbuf.lt.1) (by simp; omega)
end Go.Proofs.YtkdjcbmmbjongaaGreat.F0

/- A row of numbers that a call has made and appends to. -/
namespace Go.Proofs.YtkdjcbmmbjongaaGreat.J0
open Go.ChangeShapes Go.WideShapes Go.ChangeAt Go.RowKit
set_option linter.unusedVariables false
set_option linter.unusedSimpArgs false
set_option maxRecDepth 10000

open I2 (ints)

/-- A row of a call's own: so many numbers, these; nil where there are none yet. -/
def IBuf (base : Nat) (w : World) (a : Option Addr) (n cap : Nat) (zs : List Int) : Prop := n = zs.length ∧ w.ownsRow base 3 1 (.slice a n cap) n (ints zs)

variable {base n cap : Nat} {a : Option Addr} {w W : World} {zs : List Int}

theorem blk_keep {B B0 : Nat} {vs : List Value} (h : K0.Blk B vs w) (hb : Below B0 w W) (hlt : B < B0) : K0.Blk B vs W :=
  ⟨fun j hj => (hb.cell (p := ⟨B, j, none⟩) hlt).trans (h.cell j hj), fun j hj => (hb.frozen (p := ⟨B, j, none⟩) hlt).trans (h.free j hj), Nat.lt_of_lt_of_le h.lt hb.size⟩

theorem IBuf.below (h : IBuf base w a n cap zs) (hb : Below w.heap.size w W) : IBuf base W a n cap zs := ⟨h.1, F0.owns_below h.2 hb⟩
theorem IBuf.alloc (h : IBuf base w a n cap zs) (o : Obj) : IBuf base (w.alloc o) a n cap zs := h.below ((Below.refl _ _).alloc (Nat.le_refl _) o)
theorem IBuf.drew (h : IBuf base w a n cap zs) : IBuf base w.drew a n cap zs := h
theorem IBuf.drewN (h : IBuf base w a n cap zs) (m : Nat) : IBuf base (w.drewN m) a n cap zs := h
theorem ibuf_nil (w : World) : IBuf base w none 0 0 [] := ⟨rfl, rfl, Or.inl ⟨rfl, rfl⟩⟩
theorem ibuf_made (w : World) (hb : base ≤ w.heap.size) : IBuf base (w.alloc (.cells #[] 3)) (some ⟨w.heap.size, 0, none⟩) 0 0 [] := ⟨rfl, World.ownsRow_made w #[] 0 hb (Nat.zero_le _) rfl⟩

theorem IBuf.fits (h : IBuf base w a n cap zs) : n ≤ cap := by
  rcases h.2.2 with ⟨h0, h1⟩ | ⟨g, c, cur, hv, _, _, hle, _⟩
  · omega
  · simp at hv
    omega

/-- What a call hands out: a row of its own, which may be written. -/
def Own (base : Nat) (W : World) (a : Option Addr) (zs : List Int) : Prop := zs = [] ∨ ∃ g, a = some ⟨g, 0, none⟩ ∧ base ≤ g ∧ K0.Blk g (ints zs) W

theorem IBuf.own (h : IBuf base w a n cap zs) : Own base w a zs := by
  rcases h.2.2 with ⟨h0, h1⟩ | ⟨g, c, cur, hv, hg, hc, hle, _, hs, ht⟩
  · left
    exact List.eq_nil_of_length_eq_zero (by rw [← h.1]; exact h1)
  · right
    simp at hv
    refine ⟨g, hv.1, hg, ⟨fun j hj => ?_, fun j hj => ?_, (Array.getElem?_eq_some_iff.1 hc).1⟩⟩
    · have hcell : w.cell? ⟨g, j, none⟩ = cur[j]? := by
        unfold World.cell?
        rw [hc]
        simp
      have hj' : j < zs.length := by simpa using hj
      have e1 : (cur.toList.take (n * 1))[j]? = (ints zs)[j]? := by rw [ht]
      rw [List.getElem?_take_of_lt (by have := h.1; omega)] at e1
      rw [hcell, ← Array.getElem?_toList, e1]
      simp [hj']
    · unfold World.frozen?
      rw [hc]
      simp

theorem Own.row (h : Own base W a zs) : P0.Row W a zs := by
  rcases h with h | ⟨g, rfl, _, hb⟩
  · exact Or.inl h
  · exact I2.row_of_blk hb

theorem Own.below {W' : World} (h : Own base W a zs) (hb : Below W.heap.size W W') : Own base W' a zs := by
  rcases h with h | ⟨g, e, hg, hk⟩
  · exact Or.inl h
  · exact Or.inr ⟨g, e, hg, hk.below hb⟩
theorem Own.alloc (h : Own base W a zs) (o : Obj) : Own base (W.alloc o) a zs := h.below ((Below.refl _ _).alloc (Nat.le_refl _) o)
theorem Own.drew (h : Own base W a zs) : Own base W.drew a zs := h.imp id fun ⟨g, e, hg, hk⟩ => ⟨g, e, hg, hk.drew⟩
theorem Own.drewN (h : Own base W a zs) (m : Nat) : Own base (W.drewN m) a zs := h.imp id fun ⟨g, e, hg, hk⟩ => ⟨g, e, hg, hk.drewN m⟩
theorem Own.mono {base' : Nat} (h : Own base W a zs) (hb : base' ≤ base) : Own base' W a zs := by
  rcases h with h | ⟨g, e, hg, hk⟩
  · exact Or.inl h
  · exact Or.inr ⟨g, e, Nat.le_trans hb hg, hk⟩
theorem Own.set (h : Own base W a zs) {B : Nat} (hB : B < base) (j : Nat) (v : Value) : Own base (W.setCell ⟨B, j, none⟩ v) a zs := by
  rcases h with h | ⟨g, e, hg, hk⟩
  · exact Or.inl h
  · exact Or.inr ⟨g, e, hg, hk.setOther (by omega) j v⟩

theorem one_int (c : Int) : ∀ u ∈ [Value.int .i64 c], u.oneCell' = true := by
  intro u h
  simp at h
  subst h
  rfl

theorem own_block (h : IBuf base w a n cap zs) : ∀ g, (Value.slice a n cap).ownBlock = some g → base ≤ g := fun g hg => (h.2.lt g hg).1

theorem ints_snoc (zs : List Int) (z : Int) : ints zs ++ [.int .i64 z] = ints (zs ++ [z]) := by simp

/-- 'list = append(list, z)'. -/
theorem append_int {ops : Array Oper} {rest : List Oper} {o : Oper} {A : Act} {Q : Exit → Act → World → Prop} (hgd : o.guard = none) (sl x : Operand)
    (ho : o.op = .call { callee := .builtin .append, args := #[sl, x], argTypes := #[22, 22] })
    (hbuf : IBuf base w a n cap zs) (z : Int) (hs : A.eval sl = .slice a n cap) (hx : A.eval x = .slice (some ⟨w.heap.size, 0, none⟩) 1 1) (hlen : n + 1 ≤ 1048576) (hb : base ≤ w.heap.size)
    (h : ∀ g' cap' w', IBuf base w' (some ⟨g', 0, none⟩) (n + 1) cap' (zs ++ [z]) → Below base w w' → wpList Tryz.prog ops Q rest (A.put o.dst (.slice (some ⟨g', 0, none⟩) (n + 1) cap')) w') : wpList Tryz.prog ops Q (o :: rest) A (w.alloc (.cells #[.int .i64 z] 3)) := by
  obtain ⟨i0, hi, hz0, hz1, hz2⟩ := info_parts I2.info3
  have hb2 := hbuf.alloc (.cells #[.int .i64 z] 3)
  refine wpList_append_lies _ hgd sl x 22 ho base 3 i0 (.int .i64 0) 1 8 Tryz.underlying22 hi hz0 hz1 hz2 rfl (by omega) _ n _ hs hb2.2 ⟨w.heap.size, 0, none⟩ 1 1 [.int .i64 z] hx rfl (World.news_of_block (heap_alloc_new w _)) (one_int z) (by omega) (by unfold maxLen; omega) (by omega) (by simp; omega) _ rfl ?_
  intro g' cap' w' ho' hg' _ _
  refine h g' cap' w' ⟨by rw [hbuf.1]; simp, ?_⟩ ?_
  · rw [← ints_snoc]
    exact ho'
  · exact F0.below_grown ((Below.refl _ _).alloc hb _) hg' (own_block hbuf) (by simp; omega)

/-- .. as a step of a region that draws its order. -/
theorem step_int {ops : Array Oper} {o : Oper} {A : Act} {K : Act → World → Prop} {Q : Exit → Act → World → Prop} {E : Prop} (hgd : o.guard = none) (sl x : Operand)
    (ho : o.op = .call { callee := .builtin .append, args := #[sl, x], argTypes := #[22, 22] })
    (hbuf : IBuf base w a n cap zs) (z : Int) (hs : A.eval sl = .slice a n cap) (hx : A.eval x = .slice (some ⟨w.heap.size, 0, none⟩) 1 1) (hlen : n + 1 ≤ 1048576) (hb : base ≤ w.heap.size)
    (h : ∀ g' cap' w', IBuf base w' (some ⟨g', 0, none⟩) (n + 1) cap' (zs ++ [z]) → Below base w w' → K (A.put o.dst (.slice (some ⟨g', 0, none⟩) (n + 1) cap')) w') :
    if Region.wanted o (yielded ops A.tmps) = true then Oper.wp Tryz.prog o A (w.alloc (.cells #[.int .i64 z] 3)) K Q else E := by
  obtain ⟨i0, hi, hz0, hz1, hz2⟩ := info_parts I2.info3
  have hb2 := hbuf.alloc (.cells #[.int .i64 z] 3)
  refine step_append_lies _ hgd sl x 22 ho base 3 i0 (.int .i64 0) 1 8 Tryz.underlying22 hi hz0 hz1 hz2 rfl (by omega) _ n _ hs hb2.2 ⟨w.heap.size, 0, none⟩ 1 1 [.int .i64 z] hx rfl (World.news_of_block (heap_alloc_new w _)) (one_int z) (by omega) (by unfold maxLen; omega) (by omega) (by simp; omega) _ rfl ?_
  intro g' cap' w' ho' hg' _ _
  refine h g' cap' w' ⟨by rw [hbuf.1]; simp, ?_⟩ ?_
  · rw [← ints_snoc]
    exact ho'
  · exact F0.below_grown ((Below.refl _ _).alloc hb _) hg' (own_block hbuf) (by simp; omega)
end Go.Proofs.YtkdjcbmmbjongaaGreat.J0

/- A loan among a law's arguments. -/
namespace Go.Proofs.YtkdjcbmmbjongaaGreat.N1
open Go.ChangeShapes Go.WideShapes Go.ChangeAt Go.RowKit Go.Joins Go.Deep
set_option linter.unusedVariables false
set_option linter.unusedSimpArgs false
set_option maxRecDepth 10000

open N0 (Ln)

/-- Where a loan's lists stand. -/
structure Sl where
  a1 : Option Addr
  c1 : Nat
  a2 : Option Addr
  c2 : Nat
  a3 : Option Addr
  c3 : Nat

abbrev vals (d : Ln) (s : Sl) : List Value := [.int .i64 d.ino, .int .i64 d.cl, .int .i64 d.un, .string d.rc, .slice s.a1 d.pg.length s.c1, .string d.sav, .slice s.a2 d.po.length s.c2, .slice s.a3 d.fr.length s.c3]
abbrev val (d : Ln) (s : Sl) : Value := .agg #[.int .i64 d.ino, .int .i64 d.cl, .int .i64 d.un, .string d.rc, .slice s.a1 d.pg.length s.c1, .string d.sav, .slice s.a2 d.po.length s.c2, .slice s.a3 d.fr.length s.c3]

/-- The lists of a loan. -/
structure Lists (W : World) (d : Ln) (s : Sl) : Prop where
  r1 : P0.Row W s.a1 d.pg
  r2 : P0.Row W s.a2 d.po
  r3 : P0.Row W s.a3 d.fr

/-- A loan's sizes, as any loan has them. -/
structure FitM (d : Ln) (s : Sl) : Prop where
  l1 : d.pg.length ≤ maxLen
  l2 : d.po.length ≤ maxLen
  l3 : d.fr.length ≤ maxLen
  m4 : d.rc.size ≤ maxLen
  m5 : d.sav.size ≤ maxLen

/-- A loan's sizes. -/
structure Fit (d : Ln) (s : Sl) : Prop where
  p1 : d.pg.length ≤ 281474976710656
  m4 : d.rc.size ≤ 281474976710656
  m5 : d.sav.size ≤ 281474976710656

variable {W W' : World} {d : Ln} {s : Sl}

theorem Lists.below (h : Lists W d s) (hb : Below W.heap.size W W') : Lists W' d s := ⟨h.r1.below hb, h.r2.below hb, h.r3.below hb⟩
theorem Lists.alloc (h : Lists W d s) (o : Obj) : Lists (W.alloc o) d s := ⟨h.r1.alloc o, h.r2.alloc o, h.r3.alloc o⟩
theorem Lists.drewN (h : Lists W d s) (n : Nat) : Lists (W.drewN n) d s := ⟨h.r1, h.r2, h.r3⟩
theorem Lists.drew (h : Lists W d s) : Lists W.drew d s := ⟨h.r1, h.r2, h.r3⟩

section Args
variable {H : Type} {enc : TypeId × Value → H} {w : World}

theorem array8 {α : Type} {cs : Array α} (h : cs.size = 8) : ∃ x0 x1 x2 x3 x4 x5 x6 x7, cs = #[x0, x1, x2, x3, x4, x5, x6, x7] := by
  obtain ⟨l⟩ := cs
  match l, h with
  | [x0, x1, x2, x3, x4, x5, x6, x7], _ => exact ⟨x0, x1, x2, x3, x4, x5, x6, x7, rfl⟩

/-- A structure of one-cell fields, opened. -/
theorem open_any {r : Reach} {b0 : Nat} {t : TypeId} {fs : Array Field} {v : Value} {x : DataW H} {p : List MemPlace} (hs : Tryz.prog.underlying t = some (.struct fs)) (hone : oneCellFields Tryz.prog fs = true) (hC : Tryz.prog.cellsOf t = fs.size)
    (hv : Value.okWide Tryz.prog w r b0 t v) (h : DataW.Trod enc Tryz.prog w 0 (fun _ => true) true t v x p) :
    ∃ (cs : Array Value) (n : Nat), v = .agg cs ∧ cs.size = fs.size ∧ ∀ (i : Nat) (f : Field) (c : Value), fs[i]? = some f → cs[i]? = some c → ∃ y, DataW.trod enc Tryz.prog w 0 (fun _ => true) true n f.type [c] = some y := by
  obtain ⟨cs, rfl, hsz⟩ := okWide_struct hs hv
  obtain ⟨fuel, hf⟩ := h
  obtain ⟨xs, n, _, _, _, hlen, hall⟩ := DataW.trod_struct hs hf
  refine ⟨cs, n, rfl, hsz.trans hC, fun i f c hi hc => ?_⟩
  obtain ⟨o, k⟩ := hone_of hone i f hi
  have hlt : i < fs.size := (Array.getElem?_eq_some_iff.1 hi).1
  have h1 := hall i f hi
  rw [o, k, List.getElem?_eq_getElem (by omega)] at h1
  have hci : i < cs.toList.length := by rw [Array.length_toList]; omega
  have e : ((Value.agg cs).cells.toList.drop i).take 1 = [c] := by
    show (cs.toList.drop i).take 1 = [c]
    rw [List.drop_eq_getElem_cons hci]
    have : cs.toList[i] = c := by
      rw [← Array.getElem?_toList, List.getElem?_eq_getElem hci] at hc
      exact Option.some.inj hc
    rw [this]
    rfl
  rw [e] at h1
  exact ⟨_, h1⟩

theorem cells : Tryz.prog.cellsOf 24 = 8 := by kernel_rfl

theorem open_loan {r : Reach} {b0 : Nat} {v : Value} {x : DataW H} {p : List MemPlace} (hv : Value.okWide Tryz.prog w r b0 24 v) (h : DataW.Trod enc Tryz.prog w 0 (fun _ => true) true 24 v x p) :
    ∃ (d : Ln) (s : Sl), v = val d s ∧ FitM d s ∧ Lists w d s := by
  obtain ⟨cs, n, rfl, hsz, hf⟩ := open_any Tryz.underlying24 (by kernel_rfl) cells hv h
  obtain ⟨x0, x1, x2, x3, x4, x5, x6, x7, rfl⟩ := array8 hsz
  obtain ⟨y0, h0⟩ := hf 0 _ x0 rfl rfl
  obtain ⟨y1, h1⟩ := hf 1 _ x1 rfl rfl
  obtain ⟨y2, h2⟩ := hf 2 _ x2 rfl rfl
  obtain ⟨y3, h3⟩ := hf 3 _ x3 rfl rfl
  obtain ⟨y4, h4⟩ := hf 4 _ x4 rfl rfl
  obtain ⟨y5, h5⟩ := hf 5 _ x5 rfl rfl
  obtain ⟨y6, h6⟩ := hf 6 _ x6 rfl rfl
  obtain ⟨y7, h7⟩ := hf 7 _ x7 rfl rfl
  obtain ⟨ino, e0, _, _⟩ := DataW.trod_int Tryz.underlying3 h0
  obtain ⟨cl, e1, _, _⟩ := DataW.trod_int Tryz.underlying3 h1
  obtain ⟨un, e2, _, _⟩ := DataW.trod_int Tryz.underlying3 h2
  obtain ⟨rc, e3, _, w3⟩ := DataW.trod_string Tryz.underlying9 h3
  obtain ⟨sav, e5, _, w5⟩ := DataW.trod_string Tryz.underlying9 h5
  obtain ⟨a1, c1, pg, rfl, p1, p2, R1⟩ := I2.open_row h4
  obtain ⟨a2, c2, po, rfl, p3, p4, R2⟩ := I2.open_row h6
  obtain ⟨a3, c3, fr, rfl, p5, p6, R3⟩ := I2.open_row h7
  simp at e0 e1 e2 e3 e5
  subst e0 e1 e2 e3 e5
  exact ⟨⟨ino, cl, un, rc, pg, sav, po, fr⟩, ⟨a1, c1, a2, c2, a3, c3⟩, rfl, ⟨Nat.le_trans p1 p2, Nat.le_trans p3 p4, Nat.le_trans p5 p6, w3, w5⟩, ⟨R1, R2, R3⟩⟩
end Args

/-- A block of eight cells. -/
structure LB (B : Nat) (d : Ln) (s : Sl) (W : World) : Prop where
  b : K0.Blk B (vals d s) W

variable {B : Nat}
theorem LB.c0 (h : LB B d s W) : W.cell? ⟨B, 0, none⟩ = some (.int .i64 d.ino) := h.b.cell 0 (by simp)
theorem LB.c1 (h : LB B d s W) : W.cell? ⟨B, 1, none⟩ = some (.int .i64 d.cl) := h.b.cell 1 (by simp)
theorem LB.c2 (h : LB B d s W) : W.cell? ⟨B, 2, none⟩ = some (.int .i64 d.un) := h.b.cell 2 (by simp)
theorem LB.c3 (h : LB B d s W) : W.cell? ⟨B, 3, none⟩ = some (.string d.rc) := h.b.cell 3 (by simp)
theorem LB.c4 (h : LB B d s W) : W.cell? ⟨B, 4, none⟩ = some (.slice s.a1 d.pg.length s.c1) := h.b.cell 4 (by simp)
theorem LB.c5 (h : LB B d s W) : W.cell? ⟨B, 5, none⟩ = some (.string d.sav) := h.b.cell 5 (by simp)
theorem LB.c6 (h : LB B d s W) : W.cell? ⟨B, 6, none⟩ = some (.slice s.a2 d.po.length s.c2) := h.b.cell 6 (by simp)
theorem LB.c7 (h : LB B d s W) : W.cell? ⟨B, 7, none⟩ = some (.slice s.a3 d.fr.length s.c3) := h.b.cell 7 (by simp)
theorem LB.below (h : LB B d s W) (hb : Below W.heap.size W W') : LB B d s W' := ⟨h.b.below hb⟩
theorem lb_new (d : Ln) (s : Sl) (w : World) (T : TypeId) : LB w.heap.size d s (w.alloc (.cells #[.int .i64 d.ino, .int .i64 d.cl, .int .i64 d.un, .string d.rc, .slice s.a1 d.pg.length s.c1, .string d.sav, .slice s.a2 d.po.length s.c2, .slice s.a3 d.fr.length s.c3] T)) := ⟨K0.blk_new (vals d s) w T⟩
end Go.Proofs.YtkdjcbmmbjongaaGreat.N1

/- Contracts of small functions over lists of numbers: impl.ascends, slices.Equal, spec.l05Same, spec.l05Up, spec.l02Has and slices.Contains, as the given laws call them. -/
namespace Go.Proofs.YtkdjcbmmbjongaaGreat.N2
open Go.ChangeShapes Go.WideShapes Go.ChangeAt Go.RowKit
set_option linter.unusedVariables false
set_option linter.unusedSimpArgs false
set_option maxRecDepth 10000

open P1 (ret_bool quiet_bool)

theorem hasRow (a : Option Addr) (c : Nat) (zs : List Int) (x : Int) (w : World) (hbig : zs.length ≤ 281474976710656) (hR : P0.Row w a zs) :
    Calls Tryz.prog 47 #[.slice a zs.length c, .int .i64 x] w fun e w' => e = .returned (.bool (P0.has zs x)) ∧ w' = w := by
  by_cases h0 : zs = []
  · subst h0
    go_enter Tryz.func47, Tryz.ntmps47
    go_wp2
    go_loop [5] (fun i => i = .int .i64 0) (fun _ => 0)
    case atStart => rfl
    case round =>
      subst hrel
      go_wp2
      go_ret
      exact ⟨rfl, rfl⟩
  · rcases hR with h | ⟨b, off, rfl, hb, hc⟩
    · exact absurd h h0
    · have := P1.l02Has b off zs.length c zs x w (Nat.le_refl _) hbig hc
      rw [List.take_length] at this
      exact this

theorem containsRow (a : Option Addr) (c : Nat) (zs : List Int) (x : Int) (w : World) (hbig : zs.length ≤ 281474976710656) (hR : P0.Row w a zs) :
    Calls Tryz.prog 88 #[.slice a zs.length c, .int .i64 x] w fun e w' => e = .returned (.bool (P0.has zs x)) ∧ w' = w := by
  by_cases h0 : zs = []
  · subst h0
    exact Tryz.slices_Contains_int_empty a c x w
  · rcases hR with h | ⟨b, off, rfl, hb, hc⟩
    · exact absurd h h0
    · have := P1.impl_Contains b off zs.length c zs x w (Nat.le_refl _) hbig hc
      rw [List.take_length] at this
      exact this

theorem ascends (a : Option Addr) (c : Nat) (zs : List Int) (w : World) (hbig : zs.length ≤ 281474976710656) (hR : P0.Row w a zs) :
    Calls Tryz.prog 112 #[.slice a zs.length c] w fun e w' => e = .returned (.bool (N0.asc zs)) ∧ ∃ n, w' = w.drewN n := by
  go_enter Tryz.func112, Tryz.ntmps112
  go_wp2
  go_loopw [3] (fun i w' => ∃ k n : Nat, 1 ≤ k ∧ (k ≤ zs.length ∨ k = 1) ∧ N0.to (N0.ascAt zs) k = true ∧ i = .int .i64 k ∧ w' = w.drewN n) (fun i _ => zs.length - (intOf i).toNat)
  case atStart => exact ⟨1, 0, Nat.le_refl _, Or.inr rfl, rfl, rfl, rfl⟩
  case round =>
    obtain ⟨k, n, hk1, hk, hok, rfl, hW⟩ := hrel
    have HW : Hid (∀ m, ∃ m', wr.drewN m = w.drewN m') := fun m => ⟨n + m, by rw [hW, World.drewN_drewN]⟩
    by_cases hlt : k < zs.length
    · have hR' : P0.Row wr a zs := by rw [hW]; exact hR.drewN n
      obtain ⟨b, off, rfl, hb, hc⟩ := hR'.get hlt
      have x1 := hc k hlt
      have x2 := hc (k - 1) (by omega)
      have hat : N0.ascAt zs k = (decide (k = 0) || decide (zs.getD (k - 1) 0 < zs.getD k 0)) := rfl
      obtain ⟨z, ez⟩ : ∃ z, zs.getD k 0 = z := ⟨_, rfl⟩
      obtain ⟨y, ey⟩ : ∃ y, zs.getD (k - 1) 0 = y := ⟨_, rfl⟩
      rw [ez] at x1 hat
      rw [ey] at x2 hat
      have e1 : (0 : Int) ≤ (k : Int) := by omega
      have e2 : (k : Int) < (zs.length : Int) := by omega
      have e3 : (0 : Int) ≤ (k : Int) - 1 := by omega
      have e4 : (k : Int) - 1 < (zs.length : Int) := by omega
      have e5 : ((k : Int) - 1).toNat = k - 1 := by omega
      by_cases h : z ≤ y
      · have HR : Hid (N0.asc zs = false) := N0.to_bad hlt (by rw [hat, decide_eq_false (by omega), decide_eq_false (by omega)]; rfl)
        clear hat hok ez ey hc hR hR' hW
        go_wp2
        go_quiet (fail)
        go_wp2
        go_ret
        exact ⟨ret_bool HR.out.symm, HW.out _⟩
      · have h' : decide (z ≤ y) = false := by simpa using h
        have HO : Hid (N0.to (N0.ascAt zs) (k + 1) = true) := N0.to_step hok (by rw [hat, decide_eq_true (show y < z by omega), Bool.or_true])
        clear hat hok ez ey hc hR hR' hW
        go_wp2
        go_quiet (fail)
        go_wp2
        obtain ⟨m', hm'⟩ := HW.out nq
        go_roundw
        case rel => exact ⟨k + 1, m', by omega, Or.inl (by omega), HO.out, by go_num, hm'⟩
        case measure => simp [intOf]; omega
    · have HR : Hid (N0.asc zs = true) := by
        show N0.to (N0.ascAt zs) zs.length = true
        exact N0.to_iff.2 fun i hi => N0.to_iff.1 hok i (by omega)
      have HW0 : Hid (wr = w.drewN n) := hW
      have e6 : decide ((k : Int) < (zs.length : Int)) = false := by simp; omega
      clear hok hR hW
      go_wp2
      go_ret
      exact ⟨ret_bool HR.out.symm, n, HW0.out⟩

/-- Two lists, held against each other as far as they go. -/
def eqAt (xs ys : List Int) (i : Nat) : Bool := decide (xs.getD i 0 = ys.getD i 0)

theorem eq_of {xs ys : List Int} (hl : xs.length = ys.length) (h : N0.to (eqAt xs ys) xs.length = true) : xs = ys := by
  apply List.ext_getElem hl
  intro i h1 h2
  have := N0.to_iff.1 h i h1
  simp only [eqAt, decide_eq_true_eq] at this
  rwa [P0.getD_get _ _ h1, P0.getD_get _ _ h2] at this

theorem ne_of {xs ys : List Int} {k : Nat} (hk : ¬ xs.getD k 0 = ys.getD k 0) : ¬ xs = ys := fun e => hk (by rw [e])

theorem equal (a1 a2 : Option Addr) (c1 c2 : Nat) (xs ys : List Int) (w : World) (hb1 : xs.length ≤ 281474976710656) (hb2 : ys.length ≤ 281474976710656) (h1 : P0.Row w a1 xs) (h2 : P0.Row w a2 ys) :
    Calls Tryz.prog 110 #[.slice a1 xs.length c1, .slice a2 ys.length c2] w fun e w' => e = .returned (.bool (decide (xs = ys))) ∧ ∃ n, w' = w.drewN n := by
  by_cases hl : xs.length = ys.length
  · have hl' : ((xs.length : Int) != (ys.length : Int)) = false := by simp; omega
    go_enter Tryz.func110, Tryz.ntmps110
    go_wp2
    go_loopw [13] (fun i w' => ∃ k n : Nat, k ≤ xs.length ∧ N0.to (eqAt xs ys) k = true ∧ i = .int .i64 k ∧ w' = w.drewN n) (fun i _ => xs.length - (intOf i).toNat)
    case atStart => exact ⟨0, 0, Nat.zero_le _, rfl, rfl, rfl⟩
    case round =>
      obtain ⟨k, n, hk, hok, rfl, hW⟩ := hrel
      have HW : Hid (∀ m, ∃ m', wr.drewN m = w.drewN m') := fun m => ⟨n + m, by rw [hW, World.drewN_drewN]⟩
      by_cases hlt : k < xs.length
      · have h1' : P0.Row wr a1 xs := by rw [hW]; exact h1.drewN n
        have h2' : P0.Row wr a2 ys := by rw [hW]; exact h2.drewN n
        obtain ⟨b1, off1, rfl, _, hc1⟩ := h1'.get hlt
        obtain ⟨b2, off2, rfl, _, hc2⟩ := h2'.get (by omega : k < ys.length)
        have x1 := hc1 k hlt
        have x2 := hc2 k (by omega)
        have hat : eqAt xs ys k = decide (xs.getD k 0 = ys.getD k 0) := rfl
        have hne : ¬ xs.getD k 0 = ys.getD k 0 → ¬ xs = ys := ne_of
        obtain ⟨z, ez⟩ : ∃ z, xs.getD k 0 = z := ⟨_, rfl⟩
        obtain ⟨y, ey⟩ : ∃ y, ys.getD k 0 = y := ⟨_, rfl⟩
        rw [ez] at x1 hat hne
        rw [ey] at x2 hat hne
        have e1 : (0 : Int) ≤ (k : Int) := by omega
        have e2 : (k : Int) < (xs.length : Int) := by omega
        have e3 : (k : Int) < (ys.length : Int) := by omega
        by_cases h : z = y
        · have h' : (z != y) = false := by simpa using h
          have HO : Hid (N0.to (eqAt xs ys) (k + 1) = true) := N0.to_step hok (by rw [hat, decide_eq_true h])
          clear hat hok ez ey hc1 hc2 h1 h2 h1' h2' hW h hne hl
          go_wp2
          go_quiet (fail)
          go_wp2
          obtain ⟨m', hm'⟩ := HW.out nq
          go_roundw
          case rel => exact ⟨k + 1, m', by omega, HO.out, by go_num, hm'⟩
          case measure => simp [intOf]; omega
        · have h' : (z != y) = true := by simpa using h
          have HR : Hid (decide (xs = ys) = false) := decide_eq_false (hne h)
          clear hat hok ez ey hc1 hc2 h1 h2 h1' h2' hW h hne hl
          go_wp2
          go_quiet (fail)
          go_wp2
          go_ret
          exact ⟨ret_bool HR.out.symm, HW.out _⟩
      · obtain rfl : k = xs.length := by omega
        have HR : Hid (decide (xs = ys) = true) := decide_eq_true (eq_of hl hok)
        have HW0 : Hid (wr = w.drewN n) := hW
        have e9 : decide (xs.length < ys.length) = false := decide_eq_false (by omega)
        clear hok h1 h2 hW hl
        go_wp2
        go_ret
        exact ⟨ret_bool HR.out.symm, n, HW0.out⟩
  · have hl' : ((xs.length : Int) != (ys.length : Int)) = true := by simp; omega
    have HR : Hid (decide (xs = ys) = false) := decide_eq_false fun e => hl (by rw [e])
    clear hl
    go_enter Tryz.func110, Tryz.ntmps110
    go_wp2
    go_ret
    exact ⟨ret_bool HR.out.symm, 0, rfl⟩

theorem same (a1 a2 : Option Addr) (c1 c2 : Nat) (xs ys : List Int) (w : World) (hb1 : xs.length ≤ 281474976710656) (hb2 : ys.length ≤ 281474976710656) (h1 : P0.Row w a1 xs) (h2 : P0.Row w a2 ys) :
    Calls Tryz.prog 74 #[.slice a1 xs.length c1, .slice a2 ys.length c2] w fun e w' => e = .returned (.bool (decide (xs = ys))) ∧ ∃ n, w' = w.drewN n := by
  by_cases hl : xs.length = ys.length
  · have hl' : ((xs.length : Int) != (ys.length : Int)) = false := by simp; omega
    go_enter Tryz.func74, Tryz.ntmps74
    go_wp2
    go_loopw [5] (fun i w' => ∃ k n : Nat, k ≤ xs.length ∧ N0.to (eqAt xs ys) k = true ∧ i = .int .i64 k ∧ w' = w.drewN n) (fun i _ => xs.length - (intOf i).toNat)
    case atStart => exact ⟨0, 0, Nat.zero_le _, rfl, rfl, rfl⟩
    case round =>
      obtain ⟨k, n, hk, hok, rfl, hW⟩ := hrel
      have HW : Hid (∀ m, ∃ m', wr.drewN m = w.drewN m') := fun m => ⟨n + m, by rw [hW, World.drewN_drewN]⟩
      by_cases hlt : k < xs.length
      · have h1' : P0.Row wr a1 xs := by rw [hW]; exact h1.drewN n
        have h2' : P0.Row wr a2 ys := by rw [hW]; exact h2.drewN n
        obtain ⟨b1, off1, rfl, _, hc1⟩ := h1'.get hlt
        obtain ⟨b2, off2, rfl, _, hc2⟩ := h2'.get (by omega : k < ys.length)
        have x1 := hc1 k hlt
        have x2 := hc2 k (by omega)
        have hat : eqAt xs ys k = decide (xs.getD k 0 = ys.getD k 0) := rfl
        have hne : ¬ xs.getD k 0 = ys.getD k 0 → ¬ xs = ys := ne_of
        obtain ⟨z, ez⟩ : ∃ z, xs.getD k 0 = z := ⟨_, rfl⟩
        obtain ⟨y, ey⟩ : ∃ y, ys.getD k 0 = y := ⟨_, rfl⟩
        rw [ez] at x1 hat hne
        rw [ey] at x2 hat hne
        have e1 : (0 : Int) ≤ (k : Int) := by omega
        have e2 : (k : Int) < (xs.length : Int) := by omega
        have e3 : (k : Int) < (ys.length : Int) := by omega
        by_cases h : z = y
        · have h' : (z != y) = false := by simpa using h
          have HO : Hid (N0.to (eqAt xs ys) (k + 1) = true) := N0.to_step hok (by rw [hat, decide_eq_true h])
          clear hat hok ez ey hc1 hc2 h1 h2 h1' h2' hW h hne hl
          go_wp2
          go_quiet (fail)
          go_wp2
          obtain ⟨m', hm'⟩ := HW.out nq
          go_roundw
          case rel => exact ⟨k + 1, m', by omega, HO.out, by go_num, hm'⟩
          case measure => simp [intOf]; omega
        · have h' : (z != y) = true := by simpa using h
          have HR : Hid (decide (xs = ys) = false) := decide_eq_false (hne h)
          clear hat hok ez ey hc1 hc2 h1 h2 h1' h2' hW h hne hl
          go_wp2
          go_quiet (fail)
          go_wp2
          go_ret
          exact ⟨ret_bool HR.out.symm, HW.out _⟩
      · obtain rfl : k = xs.length := by omega
        have HR : Hid (decide (xs = ys) = true) := decide_eq_true (eq_of hl hok)
        have HW0 : Hid (wr = w.drewN n) := hW
        have e9 : decide (xs.length < ys.length) = false := decide_eq_false (by omega)
        clear hok h1 h2 hW hl
        go_wp2
        go_ret
        exact ⟨ret_bool HR.out.symm, n, HW0.out⟩
  · have hl' : ((xs.length : Int) != (ys.length : Int)) = true := by simp; omega
    have HR : Hid (decide (xs = ys) = false) := decide_eq_false fun e => hl (by rw [e])
    clear hl
    go_enter Tryz.func74, Tryz.ntmps74
    go_wp2
    go_ret
    exact ⟨ret_bool HR.out.symm, 0, rfl⟩

set_option maxHeartbeats 2000000 in
theorem l05Up (a : Option Addr) (c : Nat) (zs : List Int) (x y : Int) (w : World) (hbig : zs.length ≤ 281474976710656) (hR : P0.Row w a zs) :
    Calls Tryz.prog 75 #[.slice a zs.length c, .int .i64 x, .int .i64 y] w fun e w' => e = .returned (.bool (N0.up zs x y)) ∧ ∃ n, w' = w.drewN n := by
  go_enter Tryz.func75, Tryz.ntmps75
  go_wp2
  go_loopw [7] (fun i w' => ∃ k n : Nat, k ≤ zs.length ∧ N0.to (N0.upAt zs x y) k = true ∧ i = .int .i64 k ∧ w' = w.drewN n) (fun i _ => zs.length - (intOf i).toNat)
  case atStart => exact ⟨0, 0, Nat.zero_le _, rfl, rfl, rfl⟩
  case round =>
    obtain ⟨k, n, hk, hok, rfl, hW⟩ := hrel
    have HW : Hid (∀ m, ∃ m', wr.drewN m = w.drewN m') := fun m => ⟨n + m, by rw [hW, World.drewN_drewN]⟩
    by_cases hlt : k < zs.length
    · have hR' : P0.Row wr a zs := by rw [hW]; exact hR.drewN n
      obtain ⟨b, off, rfl, hb, hc⟩ := hR'.get hlt
      have x1 := hc k hlt
      have hat : N0.upAt zs x y k = (B1.inB (zs.getD k 0) x y && (decide (k = 0) || decide (zs.getD (k - 1) 0 < zs.getD k 0))) := rfl
      have e1 : (0 : Int) ≤ (k : Int) := by omega
      have e2 : (k : Int) < (zs.length : Int) := by omega
      by_cases g0 : k = 0
      · subst g0
        obtain ⟨z, ez⟩ : ∃ z, zs.getD 0 0 = z := ⟨_, rfl⟩
        rw [ez] at x1 hat
        rw [Nat.add_zero] at x1
        rw [decide_eq_true rfl, Bool.true_or, Bool.and_true] at hat
        cases h1 : B1.inB z x y with
        | true =>
          have HO : Hid (N0.to (N0.upAt zs x y) (0 + 1) = true) := N0.to_step hok (by rw [hat, h1])
          clear hat hok ez hc hR hR' hW
          go_wp2
          go_quiet ((go_at_call 73; exact quiet_bool (B1.l01In_any _ _ _ _) h1))
          go_wp2
          obtain ⟨m', hm'⟩ := HW.out nq
          go_roundw
          case rel => exact ⟨0 + 1, m', by omega, HO.out, by go_num, hm'⟩
          case measure => simp [intOf]; omega
        | false =>
          have HR : Hid (N0.up zs x y = false) := N0.to_bad hlt (by rw [hat, h1])
          clear hat hok ez hc hR hR' hW
          go_wp2
          go_quiet ((go_at_call 73; exact quiet_bool (B1.l01In_any _ _ _ _) h1))
          go_wp2
          go_ret
          exact ⟨ret_bool HR.out.symm, HW.out _⟩
      · have x2 := hc (k - 1) (by omega)
        obtain ⟨z, ez⟩ : ∃ z, zs.getD k 0 = z := ⟨_, rfl⟩
        obtain ⟨u, eu⟩ : ∃ u, zs.getD (k - 1) 0 = u := ⟨_, rfl⟩
        rw [ez] at x1 hat
        rw [eu] at x2 hat
        rw [decide_eq_false g0, Bool.false_or] at hat
        have e3 : (0 : Int) ≤ (k : Int) - 1 := by omega
        have e4 : (k : Int) - 1 < (zs.length : Int) := by omega
        have e5 : ((k : Int) - 1).toNat = k - 1 := by omega
        have e6 : 0 < k := by omega
        cases h1 : B1.inB z x y with
        | true =>
          by_cases h : z ≤ u
          · have HR : Hid (N0.up zs x y = false) := N0.to_bad hlt (by rw [hat, h1, decide_eq_false (by omega)]; rfl)
            clear hat hok ez eu hc hR hR' hW
            go_wp2
            go_quiet ((go_at_call 73; exact quiet_bool (B1.l01In_any _ _ _ _) h1))
            go_wp2
            go_ret
            exact ⟨ret_bool HR.out.symm, HW.out _⟩
          · have h' : decide (z ≤ u) = false := by simpa using h
            have HO : Hid (N0.to (N0.upAt zs x y) (k + 1) = true) := N0.to_step hok (by rw [hat, h1, decide_eq_true (by omega)]; rfl)
            clear hat hok ez eu hc hR hR' hW
            go_wp2
            go_quiet ((go_at_call 73; exact quiet_bool (B1.l01In_any _ _ _ _) h1))
            go_wp2
            obtain ⟨m', hm'⟩ := HW.out nq
            go_roundw
            case rel => exact ⟨k + 1, m', by omega, HO.out, by go_num, hm'⟩
            case measure => simp [intOf]; omega
        | false =>
          have HR : Hid (N0.up zs x y = false) := N0.to_bad hlt (by rw [hat, h1]; rfl)
          clear hat hok ez eu hc hR hR' hW
          go_wp2
          go_quiet ((go_at_call 73; exact quiet_bool (B1.l01In_any _ _ _ _) h1))
          go_wp2
          go_ret
          exact ⟨ret_bool HR.out.symm, HW.out _⟩
    · obtain rfl : k = zs.length := by omega
      have HR : Hid (N0.up zs x y = true) := hok
      have HW0 : Hid (wr = w.drewN n) := hW
      clear hok hR hW
      go_wp2
      go_ret
      exact ⟨ret_bool HR.out.symm, n, HW0.out⟩
end Go.Proofs.YtkdjcbmmbjongaaGreat.N2

/- Contracts of laws.markIntS, laws.heldIntS, laws.markInode and laws.heldInode, as the given laws call them. -/
namespace Go.Proofs.YtkdjcbmmbjongaaGreat.M0
open Go.ChangeShapes Go.WideShapes Go.ChangeAt Go.RowKit
set_option linter.unusedVariables false
set_option linter.unusedSimpArgs false
set_option maxRecDepth 10000

open I0 (val vals)
open I2 (ints)

/-- The marks 1, 2, .. -/
def marks (n : Nat) : List Int := (List.range n).map fun (j : Nat) => ((1 + j : Nat) : Int)

theorem marks_length (n : Nat) : (marks n).length = n := by simp [marks]

/-- The row while it is being marked. -/
def part (vs : List Value) (k : Nat) : List Value := ints (marks k) ++ vs.drop k

theorem part_zero (vs : List Value) : part vs 0 = vs := by simp [part, marks]
theorem part_all (vs : List Value) : part vs vs.length = ints (marks vs.length) := by simp [part]
theorem part_length (vs : List Value) (k : Nat) (h : k ≤ vs.length) : (part vs k).length = vs.length := by simp [part, marks]; omega
theorem part_succ (vs : List Value) (k : Nat) (h : k < vs.length) : (part vs k).set k (.int .i64 ((1 + k : Nat) : Int)) = part vs (k + 1) := by
  unfold part
  have e : vs.drop k = vs[k] :: vs.drop (k + 1) := List.drop_eq_getElem_cons h
  have hl : (ints (marks k)).length = k := by simp [marks]
  rw [e, List.set_append_right _ _ (by omega), hl, Nat.sub_self, List.set_cons_zero]
  simp [marks, List.range_succ]

theorem marks_get (n k : Nat) (h : k < n) : (ints (marks n))[k]'(by simp [marks]; exact h) = .int .i64 ((1 + k : Nat) : Int) := by simp [marks]

theorem grown_refl (w : World) (row : Option Nat) : w.grownBy w row := ⟨rfl, rfl, rfl, Nat.le_refl _, fun _ _ _ => rfl⟩
theorem grown_set {w w1 : World} {g j : Nat} (h : w.grownBy w1 (some g)) (v : Value) : w.grownBy (w1.setCell ⟨g, j, none⟩ v) (some g) := by
  refine ⟨h.os, h.tape, h.output, ?_, fun k hk hr => ?_⟩
  · simpa using h.size
  · have hne : k ≠ g := fun e => hr (by rw [e])
    rw [← h.block k hk hr]
    exact Below.heap_setCell w1 ⟨g, j, none⟩ v k hne
theorem grown_alloc {w w' : World} {o : Obj} {row : Option Nat} (h : (w.alloc o).grownBy w' row) : w.grownBy w' row :=
  ⟨h.os, h.tape, h.output, Nat.le_trans (by simp) h.size, fun k hk hr => by
    rw [h.block k (by simp; omega) hr]
    exact ((Below.refl w.heap.size w).alloc (Nat.le_refl _) o).block k hk⟩

theorem blk_grown {B g : Nat} {vs : List Value} {w w' : World} (h : K0.Blk B vs w) (hg : w.grownBy w' (some g)) (hne : B ≠ g) : K0.Blk B vs w' := by
  have hb : w'.heap[B]? = w.heap[B]? := hg.block B h.lt (fun e => hne (Option.some.inj e))
  refine ⟨fun j hj => ?_, fun j hj => ?_, Nat.lt_of_lt_of_le h.lt hg.size⟩
  · rw [World.cell?_of_block (a := ⟨B, j, none⟩) hb]
    exact h.cell j hj
  · rw [World.frozen?_of_block (a := ⟨B, j, none⟩) hb]
    exact h.free j hj

theorem markIntS (g c : Nat) (vs : List Value) (w : World) (hn : vs.length ≤ 1048576) (hb : K0.Blk g vs w) :
    Calls Tryz.prog 38 #[.slice (some ⟨g, 0, none⟩) vs.length c, .int .i64 1] w fun e w' => e = .returned (.int .i64 ((1 + vs.length : Nat) : Int)) ∧ K0.Blk g (ints (marks vs.length)) w' ∧ w.grownBy w' (some g) := by
  go_enter Tryz.func38, Tryz.ntmps38
  go_wp2
  go_loopw [1, 5] (fun q i w' => ∃ k : Nat, k ≤ vs.length ∧ i = .int .i64 k ∧ q = .int .i64 ((1 + k : Nat) : Int) ∧ K0.Blk g (part vs k) w' ∧ w.grownBy w' (some g)) (fun _ i _ => vs.length - (intOf i).toNat)
  case atStart => exact ⟨0, Nat.zero_le _, rfl, rfl, by rw [part_zero]; exact hb, grown_refl _ _⟩
  case round =>
    obtain ⟨k, hk, rfl, rfl, hblk, hgr⟩ := hrel
    by_cases hlt : k < vs.length
    · have e1 : (0 : Int) ≤ (k : Int) := by omega
      have e2 : (k : Int) < (vs.length : Int) := by omega
      have x2 := hblk.cell k (by rw [part_length _ _ hk]; exact hlt)
      have x3 := hblk.free k (by rw [part_length _ _ hk]; exact hlt)
      obtain ⟨u, x4⟩ : ∃ u, wr.cell? ⟨g, k, none⟩ = some u := ⟨_, x2⟩
      have HB : Hid (K0.Blk g (part vs (k + 1)) (wr.setCell ⟨g, k, none⟩ (.int .i64 ((1 + k : Nat) : Int)))) := by rw [← part_succ vs k hlt]; exact hblk.set k _
      clear x2 hblk hb
      go_wp2
      go_roundw
      case rel => exact ⟨k + 1, by omega, by go_num, by go_num, HB.out, grown_set hgr _⟩
      case measure => simp [intOf]; omega
    · obtain rfl : k = vs.length := by omega
      rw [part_all] at hblk
      clear hb
      go_wp2
      go_ret
      exact ⟨rfl, hblk, hgr⟩

theorem markNone (a : Option Addr) (c : Nat) (w : World) :
    Calls Tryz.prog 38 #[.slice a 0 c, .int .i64 1] w fun e w' => e = .returned (.int .i64 1) ∧ w' = w := by
  go_enter Tryz.func38, Tryz.ntmps38
  go_wp2
  go_loop [1, 5] (fun q i => i = .int .i64 0 ∧ q = .int .i64 1) (fun _ _ => 0)
  case atStart => exact ⟨rfl, rfl⟩
  case round =>
    obtain ⟨rfl, rfl⟩ := hrel
    go_wp2
    go_ret
    exact ⟨rfl, rfl⟩

end Go.Proofs.YtkdjcbmmbjongaaGreat.M0

/- Contracts of laws.szLoan, laws.toLoan, laws.eqLoan and laws.markLoan. -/
namespace Go.Proofs.YtkdjcbmmbjongaaGreat.N3
open Go.ChangeShapes Go.WideShapes Go.ChangeAt Go.RowKit
set_option linter.unusedVariables false
set_option linter.unusedSimpArgs false
set_option maxRecDepth 10000

open N0 (Ln)
open N1 (Sl val vals Lists FitM LB lb_new)
open I2 (ints)

def total (d : Ln) : Nat := d.rc.size + d.pg.length + d.sav.size + d.po.length + d.fr.length

theorem szOk (a : Option Addr) (c n : Nat) (l : Int) (w : World) (hn : n ≤ maxLen) (h1 : l ≤ 1048576) (h : (n : Int) ≤ l) :
    Calls Tryz.prog 20 #[.slice a n c, .int .i64 l] w fun e w' => e = .returned (.int .i64 (l - n)) ∧ w' = w :=
  (I2.szIntS a c n l w hn (by omega) h1).mono fun _ _ ⟨he, hw⟩ => ⟨by rw [he, I2.left, if_neg (by omega)], hw⟩
theorem szNo (a : Option Addr) (c n : Nat) (l : Int) (w : World) (hn : n ≤ maxLen) (h0 : 0 ≤ l) (h1 : l ≤ 1048576) (h : l < (n : Int)) :
    Calls Tryz.prog 20 #[.slice a n c, .int .i64 l] w fun e w' => e = .returned (.int .i64 (-1)) ∧ w' = w :=
  (I2.szIntS a c n l w hn h0 h1).mono fun _ _ ⟨he, hw⟩ => ⟨by rw [he, I2.left, if_pos (by omega)], hw⟩

theorem szFit (d : Ln) (s : Sl) (w : World) (hF : FitM d s) (h : total d ≤ 1048576) :
    Calls Tryz.prog 5 #[val d s, .int .i64 1048576] w fun e w' => (∃ q : Int, 0 ≤ q ∧ e = .returned (.int .i64 q)) ∧ Below w.heap.size w w' := by
  have hB := K0.below_new w (.cells #[.int .i64 d.ino, .int .i64 d.cl, .int .i64 d.un, .string d.rc, .slice s.a1 d.pg.length s.c1, .string d.sav, .slice s.a2 d.po.length s.c2, .slice s.a3 d.fr.length s.c3] 24)
  have l1 := hF.l1
  have l2 := hF.l2
  have l3 := hF.l3
  unfold total at h
  have e1 : (0 : Int) ≤ 1048576 - (d.rc.size : Int) := by omega
  have g1 : ¬ (1048576 - (d.rc.size : Int) < 0) := by omega
  have g2 : ¬ (1048576 - (d.rc.size : Int) - (d.pg.length : Int) < 0) := by omega
  have g3 : ¬ (1048576 - (d.rc.size : Int) - (d.pg.length : Int) - (d.sav.size : Int) < 0) := by omega
  have g4 : ¬ (1048576 - (d.rc.size : Int) - (d.pg.length : Int) - (d.sav.size : Int) - (d.po.length : Int) < 0) := by omega
  have g5 : ¬ (1048576 - (d.rc.size : Int) - (d.pg.length : Int) - (d.sav.size : Int) - (d.po.length : Int) - (d.fr.length : Int) < 0) := by omega
  go_enter Tryz.func5, Tryz.ntmps5
  go_wp2_with (go_at_call 20; refine (szOk _ _ _ _ _ (by assumption) (by omega) (by omega)).mono ?_; rintro e w' ⟨rfl, rfl⟩)
  go_ret
  exact ⟨⟨_, by omega, rfl⟩, hB⟩

theorem szBig (d : Ln) (s : Sl) (w : World) (hF : FitM d s) (h : ¬ total d ≤ 1048576) :
    Calls Tryz.prog 5 #[val d s, .int .i64 1048576] w fun e w' => e = .returned (.int .i64 (-1)) ∧ Below w.heap.size w w' := by
  have hB := K0.below_new w (.cells #[.int .i64 d.ino, .int .i64 d.cl, .int .i64 d.un, .string d.rc, .slice s.a1 d.pg.length s.c1, .string d.sav, .slice s.a2 d.po.length s.c2, .slice s.a3 d.fr.length s.c3] 24)
  have l1 := hF.l1
  have l2 := hF.l2
  have l3 := hF.l3
  have l4 := hF.m4
  have l5 := hF.m5
  have l4' : d.rc.size ≤ 9223372036854775807 := l4
  have l5' : d.sav.size ≤ 9223372036854775807 := l5
  unfold total at h
  by_cases g1 : 1048576 - (d.rc.size : Int) < 0
  · go_enter Tryz.func5, Tryz.ntmps5
    go_wp2
    go_ret
    exact ⟨rfl, hB⟩
  · by_cases g2 : 1048576 - (d.rc.size : Int) - (d.pg.length : Int) < 0
    · go_enter Tryz.func5, Tryz.ntmps5
      go_wp2_with (go_at_call 20; refine (szNo _ _ _ _ _ (by assumption) (by omega) (by omega) (by omega)).mono ?_; rintro e w' ⟨rfl, rfl⟩)
      go_ret
      exact ⟨rfl, hB⟩
    · by_cases g3 : 1048576 - (d.rc.size : Int) - (d.pg.length : Int) - (d.sav.size : Int) < 0
      · go_enter Tryz.func5, Tryz.ntmps5
        go_wp2_with (go_at_call 20; refine (szOk _ _ _ _ _ (by assumption) (by omega) (by omega)).mono ?_; rintro e w' ⟨rfl, rfl⟩)
        go_ret
        exact ⟨rfl, hB⟩
      · by_cases g4 : 1048576 - (d.rc.size : Int) - (d.pg.length : Int) - (d.sav.size : Int) - (d.po.length : Int) < 0
        · go_enter Tryz.func5, Tryz.ntmps5
          go_wp2_with (first
            | (go_at_call 20; refine (szOk _ _ _ _ _ (by assumption) (by omega) (by omega)).mono ?_; rintro e w' ⟨rfl, rfl⟩)
            | (go_at_call 20; refine (szNo _ _ _ _ _ (by assumption) (by omega) (by omega) (by omega)).mono ?_; rintro e w' ⟨rfl, rfl⟩))
          go_ret
          exact ⟨rfl, hB⟩
        · go_enter Tryz.func5, Tryz.ntmps5
          go_wp2_with (first
            | (go_at_call 20; refine (szOk _ _ _ _ _ (by assumption) (by omega) (by omega)).mono ?_; rintro e w' ⟨rfl, rfl⟩)
            | (go_at_call 20; refine (szNo _ _ _ _ _ (by assumption) (by omega) (by omega) (by omega)).mono ?_; rintro e w' ⟨rfl, rfl⟩))
          go_ret
          exact ⟨rfl, hB⟩

theorem eqLoan (d : Ln) (s1 s2 : Sl) (w : World) (hp : d.pg.length ≤ 281474976710656) (ho : d.po.length ≤ 281474976710656) (hf : d.fr.length ≤ 281474976710656) (h1 : Lists w d s1) (h2 : Lists w d s2) :
    Calls Tryz.prog 12 #[val d s1, val d s2] w fun e w' => e = .returned (.bool true) ∧ Below w.heap.size w w' := by
  have b1 := lb_new d s1 w 31
  have hB := K0.below_new w (.cells #[.int .i64 d.ino, .int .i64 d.cl, .int .i64 d.un, .string d.rc, .slice s1.a1 d.pg.length s1.c1, .string d.sav, .slice s1.a2 d.po.length s1.c2, .slice s1.a3 d.fr.length s1.c3] 31)
  have hB2 := hB.alloc hB.size (.cells #[.int .i64 d.ino, .int .i64 d.cl, .int .i64 d.un, .string d.rc, .slice s2.a1 d.pg.length s2.c1, .string d.sav, .slice s2.a2 d.po.length s2.c2, .slice s2.a3 d.fr.length s2.c3] 31)
  have h1' := h1.below hB2
  have h2' := h2.below hB2
  obtain ⟨W, hW⟩ : ∃ W, (w.alloc (.cells #[.int .i64 d.ino, .int .i64 d.cl, .int .i64 d.un, .string d.rc, .slice s1.a1 d.pg.length s1.c1, .string d.sav, .slice s1.a2 d.po.length s1.c2, .slice s1.a3 d.fr.length s1.c3] 31)).alloc (.cells #[.int .i64 d.ino, .int .i64 d.cl, .int .i64 d.un, .string d.rc, .slice s2.a1 d.pg.length s2.c1, .string d.sav, .slice s2.a2 d.po.length s2.c2, .slice s2.a3 d.fr.length s2.c3] 31) = W := ⟨_, rfl⟩
  have hr1 : ∀ m, P0.Row (W.drewN m) s1.a1 d.pg := fun m => by rw [← hW]; exact h1'.r1.drewN m
  have hr2 : ∀ m, P0.Row (W.drewN m) s2.a1 d.pg := fun m => by rw [← hW]; exact h2'.r1.drewN m
  have hr3 : ∀ m, P0.Row (W.drewN m) s1.a2 d.po := fun m => by rw [← hW]; exact h1'.r2.drewN m
  have hr4 : ∀ m, P0.Row (W.drewN m) s2.a2 d.po := fun m => by rw [← hW]; exact h2'.r2.drewN m
  have hr5 : ∀ m, P0.Row (W.drewN m) s1.a3 d.fr := fun m => by rw [← hW]; exact h1'.r3.drewN m
  have hr6 : ∀ m, P0.Row (W.drewN m) s2.a3 d.fr := fun m => by rw [← hW]; exact h2'.r3.drewN m
  rw [hW] at hB2
  have hu : ∀ x : ByteArray, (x.toList != x.toList) = false := fun x => by simp
  subst hW
  go_enter Tryz.func12, Tryz.ntmps12
  go_wp2_with (first
    | (go_at_call 36; have n2' := n2; refine (I2.eqIntS _ _ _ _ d.fr _ hf (by simpa only [World.drewN_drewN] using hr5 (n1 + n2)) (by simpa only [World.drewN_drewN] using hr6 (n1 + n2))).mono ?_; rintro e w' ⟨rfl, n3, rfl⟩)
    | (go_at_call 36; have n1' := n1; refine (I2.eqIntS _ _ _ _ d.po _ ho (hr3 n1) (hr4 n1)).mono ?_; rintro e w' ⟨rfl, n2, rfl⟩)
    | (go_at_call 36; refine (I2.eqIntS _ _ _ _ d.pg _ hp (hr1 0) (hr2 0)).mono ?_; rintro e w' ⟨rfl, n1, rfl⟩))
  go_ret
  exact ⟨rfl, K0.below_drewN hB2 _⟩
end Go.Proofs.YtkdjcbmmbjongaaGreat.N3
