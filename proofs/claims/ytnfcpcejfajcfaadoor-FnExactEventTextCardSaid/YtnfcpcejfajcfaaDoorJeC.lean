/- Joined texts: plain facts and contracts, as each part says. -/
import Derived.Test.YtnfcpcejfajcfaaDoorJeB
import Derived.Test.YtnfcpcejfajcfaaDoorJeA
import Derived.WalkKit
import Derived.Below
import Derived.Lib.Strings
import Derived.Deep.AppendLies
import Derived.Lib.AppendZerosOnto
import Derived.Lib.ItoaLen
import Derived.Deep.RegionHeld3
import Derived.OrdersHeld
import Derived.Handy

/- A row of numbers that a call has made and appends to. -/
namespace Go.Proofs.YtnfcpcejfajcfaaDoor.J0
open Go.ChangeShapes Go.WideShapes Go.ChangeAt Go.RowKit
set_option linter.unusedVariables false
set_option linter.unusedSimpArgs false
set_option maxRecDepth 10000

open I2 (ints)

/-- A row of a call's own: so many numbers, these; nil where there are none yet. -/
def IBuf (base : Nat) (w : World) (a : Option Addr) (n cap : Nat) (zs : List Int) : Prop := n = zs.length ∧ w.ownsRow base 3 1 (.slice a n cap) n (ints zs)

variable {base n cap : Nat} {a : Option Addr} {w W : World} {zs : List Int}

theorem blk_keep {B B0 : Nat} {vs : List Value} (h : K0.Blk B vs w) (hb : Below B0 w W) (hlt : B < B0) : K0.Blk B vs W :=
  ⟨fun j hj => (hb.cell (p := ⟨B, j, none⟩) hlt).trans (h.cell j hj), fun j hj => (hb.frozen (p := ⟨B, j, none⟩) hlt).trans (h.free j hj), Nat.lt_of_lt_of_le h.lt hb.size⟩

theorem IBuf.below (h : IBuf base w a n cap zs) (hb : Below w.heap.size w W) : IBuf base W a n cap zs := ⟨h.1, F0.owns_below h.2 hb⟩
theorem IBuf.alloc (h : IBuf base w a n cap zs) (o : Obj) : IBuf base (w.alloc o) a n cap zs := h.below ((Below.refl _ _).alloc (Nat.le_refl _) o)
theorem IBuf.drew (h : IBuf base w a n cap zs) : IBuf base w.drew a n cap zs := h
theorem IBuf.drewN (h : IBuf base w a n cap zs) (m : Nat) : IBuf base (w.drewN m) a n cap zs := h
theorem ibuf_nil (w : World) : IBuf base w none 0 0 [] := ⟨rfl, rfl, Or.inl ⟨rfl, rfl⟩⟩
theorem ibuf_made (w : World) (hb : base ≤ w.heap.size) : IBuf base (w.alloc (.cells #[] 3)) (some ⟨w.heap.size, 0, none⟩) 0 0 [] := ⟨rfl, World.ownsRow_made w #[] 0 hb (Nat.zero_le _) rfl⟩

theorem IBuf.fits (h : IBuf base w a n cap zs) : n ≤ cap := by
  rcases h.2.2 with ⟨h0, h1⟩ | ⟨g, c, cur, hv, _, _, hle, _⟩
  · omega
  · simp at hv
    omega

/-- What a call hands out: a row of its own, which may be written. -/
def Own (base : Nat) (W : World) (a : Option Addr) (zs : List Int) : Prop := zs = [] ∨ ∃ g, a = some ⟨g, 0, none⟩ ∧ base ≤ g ∧ K0.Blk g (ints zs) W

theorem IBuf.own (h : IBuf base w a n cap zs) : Own base w a zs := by
  rcases h.2.2 with ⟨h0, h1⟩ | ⟨g, c, cur, hv, hg, hc, hle, _, hs, ht⟩
  · left
    exact List.eq_nil_of_length_eq_zero (by rw [← h.1]; exact h1)
  · right
    simp at hv
    refine ⟨g, hv.1, hg, ⟨fun j hj => ?_, fun j hj => ?_, (Array.getElem?_eq_some_iff.1 hc).1⟩⟩
    · have hcell : w.cell? ⟨g, j, none⟩ = cur[j]? := by
        unfold World.cell?
        rw [hc]
        simp
      have hj' : j < zs.length := by simpa using hj
      have e1 : (cur.toList.take (n * 1))[j]? = (ints zs)[j]? := by rw [ht]
      rw [List.getElem?_take_of_lt (by have := h.1; omega)] at e1
      rw [hcell, ← Array.getElem?_toList, e1]
      simp [hj']
    · unfold World.frozen?
      rw [hc]
      simp

theorem Own.row (h : Own base W a zs) : P0.Row W a zs := by
  rcases h with h | ⟨g, rfl, _, hb⟩
  · exact Or.inl h
  · exact I2.row_of_blk hb

theorem Own.below {W' : World} (h : Own base W a zs) (hb : Below W.heap.size W W') : Own base W' a zs := by
  rcases h with h | ⟨g, e, hg, hk⟩
  · exact Or.inl h
  · exact Or.inr ⟨g, e, hg, hk.below hb⟩
theorem Own.alloc (h : Own base W a zs) (o : Obj) : Own base (W.alloc o) a zs := h.below ((Below.refl _ _).alloc (Nat.le_refl _) o)
theorem Own.drew (h : Own base W a zs) : Own base W.drew a zs := h.imp id fun ⟨g, e, hg, hk⟩ => ⟨g, e, hg, hk.drew⟩
theorem Own.drewN (h : Own base W a zs) (m : Nat) : Own base (W.drewN m) a zs := h.imp id fun ⟨g, e, hg, hk⟩ => ⟨g, e, hg, hk.drewN m⟩
theorem Own.mono {base' : Nat} (h : Own base W a zs) (hb : base' ≤ base) : Own base' W a zs := by
  rcases h with h | ⟨g, e, hg, hk⟩
  · exact Or.inl h
  · exact Or.inr ⟨g, e, Nat.le_trans hb hg, hk⟩
theorem Own.set (h : Own base W a zs) {B : Nat} (hB : B < base) (j : Nat) (v : Value) : Own base (W.setCell ⟨B, j, none⟩ v) a zs := by
  rcases h with h | ⟨g, e, hg, hk⟩
  · exact Or.inl h
  · exact Or.inr ⟨g, e, hg, hk.setOther (by omega) j v⟩

theorem one_int (c : Int) : ∀ u ∈ [Value.int .i64 c], u.oneCell' = true := by
  intro u h
  simp at h
  subst h
  rfl

theorem own_block (h : IBuf base w a n cap zs) : ∀ g, (Value.slice a n cap).ownBlock = some g → base ≤ g := fun g hg => (h.2.lt g hg).1

theorem ints_snoc (zs : List Int) (z : Int) : ints zs ++ [.int .i64 z] = ints (zs ++ [z]) := by simp

/-- 'list = append(list, z)'. -/
theorem append_int {ops : Array Oper} {rest : List Oper} {o : Oper} {A : Act} {Q : Exit → Act → World → Prop} (hgd : o.guard = none) (sl x : Operand)
    (ho : o.op = .call { callee := .builtin .append, args := #[sl, x], argTypes := #[22, 22] })
    (hbuf : IBuf base w a n cap zs) (z : Int) (hs : A.eval sl = .slice a n cap) (hx : A.eval x = .slice (some ⟨w.heap.size, 0, none⟩) 1 1) (hlen : n + 1 ≤ 1048576) (hb : base ≤ w.heap.size)
    (h : ∀ g' cap' w', IBuf base w' (some ⟨g', 0, none⟩) (n + 1) cap' (zs ++ [z]) → Below base w w' → wpList Tryd.prog ops Q rest (A.put o.dst (.slice (some ⟨g', 0, none⟩) (n + 1) cap')) w') : wpList Tryd.prog ops Q (o :: rest) A (w.alloc (.cells #[.int .i64 z] 3)) := by
  obtain ⟨i0, hi, hz0, hz1, hz2⟩ := info_parts I2.info3
  have hb2 := hbuf.alloc (.cells #[.int .i64 z] 3)
  refine wpList_append_lies _ hgd sl x 22 ho base 3 i0 (.int .i64 0) 1 8 Tryd.underlying22 hi hz0 hz1 hz2 rfl (by omega) _ n _ hs hb2.2 ⟨w.heap.size, 0, none⟩ 1 1 [.int .i64 z] hx rfl (World.news_of_block (heap_alloc_new w _)) (one_int z) (by omega) (by unfold maxLen; omega) (by omega) (by simp; omega) _ rfl ?_
  intro g' cap' w' ho' hg' _ _
  refine h g' cap' w' ⟨by rw [hbuf.1]; simp, ?_⟩ ?_
  · rw [← ints_snoc]
    exact ho'
  · exact F0.below_grown ((Below.refl _ _).alloc hb _) hg' (own_block hbuf) (by simp; omega)

/-- .. as a step of a region that draws its order. -/
theorem step_int {ops : Array Oper} {o : Oper} {A : Act} {K : Act → World → Prop} {Q : Exit → Act → World → Prop} {E : Prop} (hgd : o.guard = none) (sl x : Operand)
    (ho : o.op = .call { callee := .builtin .append, args := #[sl, x], argTypes := #[22, 22] })
    (hbuf : IBuf base w a n cap zs) (z : Int) (hs : A.eval sl = .slice a n cap) (hx : A.eval x = .slice (some ⟨w.heap.size, 0, none⟩) 1 1) (hlen : n + 1 ≤ 1048576) (hb : base ≤ w.heap.size)
    (h : ∀ g' cap' w', IBuf base w' (some ⟨g', 0, none⟩) (n + 1) cap' (zs ++ [z]) → Below base w w' → K (A.put o.dst (.slice (some ⟨g', 0, none⟩) (n + 1) cap')) w') :
    if Region.wanted o (yielded ops A.tmps) = true then Oper.wp Tryd.prog o A (w.alloc (.cells #[.int .i64 z] 3)) K Q else E := by
  obtain ⟨i0, hi, hz0, hz1, hz2⟩ := info_parts I2.info3
  have hb2 := hbuf.alloc (.cells #[.int .i64 z] 3)
  refine step_append_lies _ hgd sl x 22 ho base 3 i0 (.int .i64 0) 1 8 Tryd.underlying22 hi hz0 hz1 hz2 rfl (by omega) _ n _ hs hb2.2 ⟨w.heap.size, 0, none⟩ 1 1 [.int .i64 z] hx rfl (World.news_of_block (heap_alloc_new w _)) (one_int z) (by omega) (by unfold maxLen; omega) (by omega) (by simp; omega) _ rfl ?_
  intro g' cap' w' ho' hg' _ _
  refine h g' cap' w' ⟨by rw [hbuf.1]; simp, ?_⟩ ?_
  · rw [← ints_snoc]
    exact ho'
  · exact F0.below_grown ((Below.refl _ _).alloc hb _) hg' (own_block hbuf) (by simp; omega)
end Go.Proofs.YtnfcpcejfajcfaaDoor.J0

/- Plain facts on the parts of a text between blanks, and on rows of strings in memory that a call has made. -/
namespace Go.Proofs.YtnfcpcejfajcfaaDoor.W0
open Go.RowKit
set_option linter.unusedVariables false

/-- The parts that are done when k bytes are read, and where the next one begins. -/
def st (s : ByteArray) : Nat → List ByteArray × Nat
  | 0 => ([], 0)
  | k + 1 => if (s[k]?.getD 0).toNat = 32 then ((st s k).1 ++ [s.extract (st s k).2 k], k + 1) else st s k

/-- The parts of a text between blanks. -/
def words (s : ByteArray) : List ByteArray := (st s s.size).1 ++ [s.extract (st s s.size).2 s.size]

theorem st_le (s : ByteArray) : ∀ k, (st s k).2 ≤ k ∧ (st s k).1.length ≤ k
  | 0 => ⟨Nat.le_refl _, Nat.le_refl _⟩
  | k + 1 => by
    have := st_le s k
    unfold st
    split
    · simp; omega
    · omega

theorem st_blank (s : ByteArray) (k : Nat) (h : k < s.size) (hb : s[k].toNat = 32) : st s (k + 1) = ((st s k).1 ++ [s.extract (st s k).2 k], k + 1) := by
  have e : s[k]? = some s[k] := getElem?_pos s k h
  rw [st, if_pos (by rw [e]; exact hb)]

theorem st_other (s : ByteArray) (k : Nat) (h : k < s.size) (hb : ¬ s[k].toNat = 32) : st s (k + 1) = st s k := by
  have e : s[k]? = some s[k] := getElem?_pos s k h
  rw [st, if_neg (by rw [e]; exact hb)]

/-- The strings as cells. -/
abbrev strs (l : List ByteArray) : List Value := l.map Value.string

theorem owns_below {W W' : World} {base : Nat} {e : TypeId} {size : Nat} {v : Value} {n : Nat} {xs : List Value} (h : W.ownsRow base e size v n xs) (hb : Below W.heap.size W W') : W'.ownsRow base e size v n xs := by
  refine ⟨h.1, ?_⟩
  rcases h.2 with h0 | ⟨g, cap, cur, hv, hg, hc, r⟩
  · exact Or.inl h0
  · refine Or.inr ⟨g, cap, cur, hv, hg, ?_, r⟩
    rw [hb.block g (Array.getElem?_eq_some_iff.1 hc).1]
    exact hc

theorem below_grown {B : Nat} {w W W' : World} {row : Option Nat} (h : Below B w W) (hg : W.grownBy W' row) (hr : ∀ g, row = some g → B ≤ g) (hB : B ≤ W.heap.size) : Below B w W' :=
  ⟨hg.os.trans h.os, hg.tape.trans h.tape, hg.output.trans h.output, Nat.le_trans h.size hg.size, fun k hk => by
    rw [hg.block k (by omega) (fun e => by have := hr k e.symm; omega)]
    exact h.block k hk⟩

theorem below_append {w wr w1 : World} {e : TypeId} {g n cap : Nat} {xs : List Value} {o : Obj} (hbel : Below w.heap.size w wr) (hown : wr.ownsRow w.heap.size e 1 (.slice (some ⟨g, 0, none⟩) n cap) n xs)
    (hgrow : (wr.alloc o).grownBy w1 (Value.slice (some ⟨g, 0, none⟩) n cap).ownBlock) : Below w.heap.size w w1 :=
  below_grown (hbel.alloc hbel.size o) hgrow (fun g' h => by
    obtain rfl : g = g' := by simpa [Value.ownBlock] using h
    exact (hown.lt g rfl).1) (by have := hbel.size; simp; omega)

theorem words_len (s : ByteArray) : (words s).length = (st s s.size).1.length + 1 := by simp [words]

theorem strs_words (s : ByteArray) : strs (words s) = strs (st s s.size).1 ++ [.string (s.extract (st s s.size).2 s.size)] := by simp [words, strs]

/-- Cells of a row that a call owns. -/
structure Row (w : World) (g : Nat) (ss : List ByteArray) : Prop where
  lt : g < w.heap.size
  cell : ∀ j (hj : j < ss.length), w.cell? ⟨g, j, none⟩ = some (.string ss[j])
  free : ∀ j, j < ss.length → w.frozen? ⟨g, j, none⟩ = false

theorem Row.below {w w' : World} {g : Nat} {ss : List ByteArray} (h : Row w g ss) (hb : Below w.heap.size w w') : Row w' g ss :=
  ⟨Nat.lt_of_lt_of_le h.lt hb.size, fun j hj => (hb.cell (p := ⟨g, j, none⟩) h.lt).trans (h.cell j hj), fun j hj => (hb.frozen (p := ⟨g, j, none⟩) h.lt).trans (h.free j hj)⟩

theorem row_of_owns {w : World} {base : Nat} {e : TypeId} {g n cap : Nat} {ss : List ByteArray} (h : w.ownsRow base e 1 (.slice (some ⟨g, 0, none⟩) n cap) n (strs ss)) (hn : 0 < n) : Row w g ss ∧ base ≤ g ∧ n = ss.length := by
  have hl : n = ss.length := by have := h.1; simp at this; omega
  rcases h.2 with ⟨h0, _⟩ | ⟨g', cap', cur, hv, hb, hc, h1, h2, h3, h4⟩
  · cases h0
  · obtain ⟨rfl, rfl⟩ : g = g' ∧ cap = cap' := by simpa using hv
    have hcell : ∀ j, w.cell? ⟨g, j, none⟩ = cur[j]? := fun j => by
      unfold World.cell?
      rw [hc]
      simp
    refine ⟨⟨(Array.getElem?_eq_some_iff.1 hc).1, fun j hj => ?_, fun j hj => ?_⟩, hb, hl⟩
    · rw [hcell]
      have e1 : (cur.toList.take (n * 1))[j]? = (strs ss)[j]? := by rw [h4]
      rw [List.getElem?_take_of_lt (by omega)] at e1
      rw [← Array.getElem?_toList, e1]
      simp [hj]
    · unfold World.frozen?
      rw [hc]
      simp
end Go.Proofs.YtnfcpcejfajcfaaDoor.W0

/- Rows of texts that a call makes; contracts of spec.l08Hex, impl.hexOrDash and impl.decTexts. -/
namespace Go.Proofs.YtnfcpcejfajcfaaDoor.EX
open Go.ChangeShapes Go.WideShapes Go.ChangeAt Go.RowKit
set_option linter.unusedVariables false
set_option linter.unusedSimpArgs false
set_option maxRecDepth 10000

open EV (Ev val vals Fit hx dt)

variable {base n cap : Nat} {a : Option Addr} {w W W' : World} {ss : List ByteArray}

/-- A row of texts in memory. -/
def SRow (W : World) (a : Option Addr) (ss : List ByteArray) : Prop := ss = [] ∨ ∃ b off, a = some ⟨b, off, none⟩ ∧ b < W.heap.size ∧ ∀ j (hj : j < ss.length), W.cell? ⟨b, off + j, none⟩ = some (.string ss[j])
theorem SRow.below (h : SRow W a ss) (hb : Below W.heap.size W W') : SRow W' a ss := h.imp id fun ⟨b, off, e, hl, hc⟩ => ⟨b, off, e, Nat.lt_of_lt_of_le hl hb.size, fun j hj => (hb.cell (p := ⟨b, off + j, none⟩) hl).trans (hc j hj)⟩
theorem SRow.drew (h : SRow W a ss) : SRow W.drew a ss := h

/-- A row of texts of a call's own. -/
def SBuf (base : Nat) (w : World) (a : Option Addr) (n cap : Nat) (ss : List ByteArray) : Prop := n = ss.length ∧ w.ownsRow base 9 1 (.slice a n cap) n (W0.strs ss)
theorem SBuf.below (h : SBuf base w a n cap ss) (hb : Below w.heap.size w W) : SBuf base W a n cap ss := ⟨h.1, W0.owns_below h.2 hb⟩
theorem sbuf_made (w : World) (hb : base ≤ w.heap.size) : SBuf base (w.alloc (.cells #[] 9)) (some ⟨w.heap.size, 0, none⟩) 0 0 [] := ⟨rfl, World.ownsRow_made w #[] 0 hb (Nat.zero_le _) rfl⟩
theorem sbuf_one (w : World) (x : ByteArray) (hb : base ≤ w.heap.size) : SBuf base (w.alloc (.cells #[.string x] 9)) (some ⟨w.heap.size, 0, none⟩) 1 1 [x] :=
  ⟨rfl, rfl, Or.inr ⟨w.heap.size, 1, #[.string x], rfl, hb, heap_alloc_new w _, Nat.le_refl _, by unfold maxLen; omega, rfl, rfl⟩⟩
theorem SBuf.fits (h : SBuf base w a n cap ss) : n ≤ cap := by
  rcases h.2.2 with ⟨h0, h1⟩ | ⟨g, c, cur, hv, _, _, hle, _⟩
  · omega
  · simp at hv
    omega
theorem SBuf.row (h : SBuf base w a n cap ss) : SRow w a ss := by
  rcases h.2.2 with ⟨h0, h1⟩ | ⟨g, c, cur, hv, hg, hc, hle, _, hs, ht⟩
  · left
    exact List.eq_nil_of_length_eq_zero (by rw [← h.1]; exact h1)
  · right
    simp at hv
    have hn := h.1
    refine ⟨g, 0, hv.1, (Array.getElem?_eq_some_iff.1 hc).1, fun j hj => ?_⟩
    have hcell : w.cell? ⟨g, 0 + j, none⟩ = cur[j]? := by
      unfold World.cell?
      rw [hc]
      simp
    have e1 : (cur.toList.take (n * 1))[j]? = (W0.strs ss)[j]? := by rw [ht]
    rw [List.getElem?_take_of_lt (by omega)] at e1
    rw [hcell, ← Array.getElem?_toList, e1]
    simp [hj]

theorem infoS : (Tryd.prog.info? 9).map (fun i => (i.zero, i.size, i.bytes)) = some (some (.string ⟨#[]⟩), 1, 16) := by kernel_rfl
theorem strs_one (xs : List ByteArray) : ∀ u ∈ W0.strs xs, u.oneCell' = true := by
  intro u h
  simp at h
  obtain ⟨z, _, rfl⟩ := h
  rfl
theorem run_append_none {P : Program} (w : World) (t ty e : TypeId) (i : TypeInfo) (ht : P.underlying t = some (.slice e)) (hi : P.info? e = some i) (b : Option Addr) (n cap : Nat) (hle : n ≤ cap) (ax : Option Addr) (cx : Nat) :
    (Builtin.append_ #[t, t] ty #[.slice b n cap, .slice ax 0 cx]).run P w = .ok (.slice b n cap) w := by
  cases b <;> cases ax <;> simp [Builtin.append_, run_underlying ht, sizeOf, typeInfo, hi, Builtin.lenOf, Builtin.firstCells, loadCells, loadCellsFrom, storeCells, hle]

/-- 'list = append(list, others...)'. -/
theorem append_strs {ops : Array Oper} {rest : List Oper} {o : Oper} {A : Act} {Q : Exit → Act → World → Prop} (hgd : o.guard = none) (sl x : Operand)
    (ho : o.op = .call { callee := .builtin .append, args := #[sl, x], argTypes := #[36, 36] })
    (hbuf : SBuf base w a n cap ss) (ax : Option Addr) (cx : Nat) (xs : List ByteArray) (hs : A.eval sl = .slice a n cap) (hx : A.eval x = .slice ax xs.length cx) (hR : SRow w ax xs) (hlen : n + xs.length ≤ 4194304) (hb : base ≤ w.heap.size)
    (h : ∀ a' cap' w', SBuf base w' a' (n + xs.length) cap' (ss ++ xs) → Below base w w' → wpList Tryd.prog ops Q rest (A.put o.dst (.slice a' (n + xs.length) cap')) w') : wpList Tryd.prog ops Q (o :: rest) A w := by
  obtain ⟨i0, hi, hz0, hz1, hz2⟩ := info_parts infoS
  by_cases h0 : xs = []
  · subst h0
    refine Lib.wpList_append_run _ hgd sl x 36 36 ho _ _ hs hx _ _ (run_append_none w 36 _ 9 i0 Tryd.underlying36 hi a n cap hbuf.fits ax cx) ?_
    exact h a cap w (by rw [List.append_nil]; exact hbuf) (Below.refl _ _)
  · rcases hR with hR | ⟨b, off, rfl, hb2, hc⟩
    · exact absurd hR h0
    · have hm : 0 < xs.length := List.length_pos_iff.2 h0
      refine wpList_append_lies _ hgd sl x 36 ho base 9 i0 (.string ⟨#[]⟩) 1 16 Tryd.underlying36 hi hz0 hz1 hz2 rfl (by omega) _ n _ hs hbuf.2 ⟨b, off, none⟩ xs.length cx (W0.strs xs) hx (by simp) ?_ (strs_one xs) hm (by unfold maxLen; omega) (by omega) hb _ rfl ?_
      · intro j u hj
        have hj' : j < xs.length := by
          have := (List.getElem?_eq_some_iff.1 hj).1
          simpa using this
        rw [B0.add_off, hc j hj', ← hj]
        simp [hj']
      · intro g' cap' w' ho' hg' _ _
        refine h (some ⟨g', 0, none⟩) cap' w' ⟨by rw [hbuf.1]; simp, ?_⟩ ?_
        · rw [show W0.strs (ss ++ xs) = W0.strs ss ++ W0.strs xs by simp]
          exact ho'
        · exact W0.below_grown (Below.refl _ _) hg' (fun g hg => (hbuf.2.lt g hg).1) hb

theorem row_new (w : World) (ys : List ByteArray) (T : TypeId) : SRow (w.alloc (.cells (W0.strs ys).toArray T)) (some ⟨w.heap.size, 0, none⟩) ys := by
  have k := K0.blk_new (W0.strs ys) w T
  refine Or.inr ⟨w.heap.size, 0, rfl, k.lt, fun j hj => ?_⟩
  rw [Nat.zero_add, k.cell j (by simpa using hj)]
  simp

theorem spec_hex (s : ByteArray) (w : World) (hs : s.size ≤ 281474976710656) :
    Calls Tryd.prog 11 #[.string s] w fun e w' => e = .returned (.string (hx s)) ∧ ∃ n, w' = w.drewN n := by
  by_cases h : s.size = 0
  · have e : hx s = ⟨#[45]⟩ := if_pos h
    have es : s = ⟨#[]⟩ := by
      apply ByteArray.ext
      exact Array.eq_empty_of_size_eq_zero h
    rw [e]
    subst es
    go_enter Tryd.func11, Tryd.ntmps11
    go_wp2
    go_ret
    exact ⟨rfl, 0, rfl⟩
  · have e : hx s = H1.hex s := if_neg h
    rw [e]
    have hne : (s.toList == []) = false := by
      rw [ByteArray.toList_eq]
      simp
      intro h'
      exact h (by rw [Lib.size_eq, h']; rfl)
    have HH : Hid (∀ W, Calls Tryd.prog 16 #[.string s] W fun e w' => e = .returned (.string (H1.hex s)) ∧ ∃ n, w' = W.drewN n) := fun W => H1.spec_Hex s W hs
    go_enter Tryd.func11, Tryd.ntmps11
    go_wp2_with (go_at_call 16; refine (HH.out _).mono ?_; rintro e w1 ⟨rfl, n, rfl⟩)
    go_ret
    exact ⟨rfl, n, rfl⟩

theorem impl_hex (s : ByteArray) (w : World) (hs : s.size ≤ 70368744177664) (htab : Lib.TabIs Tryd.prog w "loop.example/g00278/impl.hexDigits" .u8 H1.tab) :
    Calls Tryd.prog 21 #[.string s] w fun e w' => e = .returned (.string (hx s)) ∧ Below w.heap.size w w' := by
  by_cases h : s.size = 0
  · have e : hx s = ⟨#[45]⟩ := if_pos h
    have es : s = ⟨#[]⟩ := by
      apply ByteArray.ext
      exact Array.eq_empty_of_size_eq_zero h
    rw [e]
    subst es
    go_enter Tryd.func21, Tryd.ntmps21
    go_wp2
    go_ret
    exact ⟨rfl, Below.refl _ _⟩
  · have e : hx s = H1.hex s := if_neg h
    rw [e]
    have hne : (s.toList == []) = false := by
      rw [ByteArray.toList_eq]
      simp
      intro h'
      exact h (by rw [Lib.size_eq, h']; rfl)
    have HH : Hid (Calls Tryd.prog 26 #[.string s] w fun e w' => e = .returned (.string (H1.hex s)) ∧ Below w.heap.size w w') := H1.impl_Hex s w hs htab
    clear htab
    go_enter Tryd.func21, Tryd.ntmps21
    go_wp2_with (go_at_call 26; refine HH.out.mono ?_; rintro e w1 ⟨rfl, b1⟩)
    go_ret
    exact ⟨rfl, b1⟩

theorem dt_size (n : Int) (hn : (Lit.int .i64 n).wf = true) : (dt n).size ≤ 22 := by
  have hb : -9223372036854775808 ≤ n ∧ n ≤ 9223372036854775807 := by simpa [Lit.wf, IntKind.min, IntKind.max, IntKind.signed, IntKind.bits] using hn
  show (Lib.itoa n).toArray.size ≤ 22
  rw [List.size_toArray]
  by_cases h0 : n = 0
  · subst h0
    have e : Lib.itoa 0 = [48] := by unfold Lib.itoa; rw [if_neg (by omega)]; exact Lib.decDigits_one (by omega)
    rw [e]
    decide
  · by_cases h1 : 0 < n
    · obtain ⟨v, rfl⟩ : ∃ v : Nat, n = (v : Int) := ⟨n.toNat, by omega⟩
      rw [D0.itoa_pos v (by omega)]
      have := D0.dd_length v (by omega)
      omega
    · obtain ⟨v, rfl⟩ : ∃ v : Nat, n = -(v : Int) := ⟨n.natAbs, by omega⟩
      rw [D0.itoa_neg v (by omega)]
      have := D0.dd_length v (by omega)
      simp
      omega

/-- The two tables of numbers. -/
structure Tabs (w : World) : Prop where
  p : Lib.TabIs Tryd.prog w "internal/strconv.uint64pow10" .u64 Lib.pow10Tab
  h : Lib.TabIs Tryd.prog w "loop.example/g00278/impl.hexDigits" .u8 H1.tab
  e : EV.StrTab Tryd.prog w "loop.example/g00278/impl.eventWords" EV.words
theorem Tabs.below (t : Tabs w) (hb : Below w.heap.size w W) : Tabs W := ⟨L0.tab_below t.p hb, L0.tab_below t.h hb, EV.strtab_below t.e hb⟩

set_option maxHeartbeats 2000000 in
theorem decTexts (a : Option Addr) (c : Nat) (zs : List Int) (w : World) (hn : zs.length ≤ 1048576) (hw : ∀ z ∈ zs, (Lit.int .i64 z).wf = true) (hR : P0.Row w a zs) (ht : Tabs w) :
    Calls Tryd.prog 22 #[.slice a zs.length c] w fun e w' => (∃ a' c', e = .returned (.slice a' (zs.map dt).length c') ∧ SRow w' a' (zs.map dt) ∧ (zs.map dt).length ≤ c') ∧ Below w.heap.size w w' := by
  have b0 := sbuf_made w (Nat.le_refl _)
  have l0 := K0.below_new w (.cells #[] 9)
  have HR : Hid (∀ W, Below w.heap.size w W → P0.Row W a zs ∧ Tabs W) := fun W hb => ⟨hR.below hb, ht.below hb⟩
  have HU : Hid (∀ j, j < zs.length → (zs.take (j + 1)).map dt = (zs.take j).map dt ++ [dt (zs.getD j 0)]) := fun j hj => by
    rw [List.take_add_one, List.getElem?_eq_getElem hj, Option.toList_some, List.map_append, P0.getD_get _ _ hj]
    rfl
  have HA : Hid ((zs.take zs.length).map dt = zs.map dt) := by show (zs.take zs.length).map dt = _; rw [List.take_length]
  have HW : Hid (∀ j, j < zs.length → (Lit.int .i64 (zs.getD j 0)).wf = true) := fun j hj => hw _ (by rw [P0.getD_get _ _ hj]; exact List.getElem_mem hj)
  clear hR ht hw
  go_enter Tryd.func22, Tryd.ntmps22
  go_wp2
  go_loopw [3, 9] (fun t i w' => ∃ (j : Nat) (a' : Option Addr) (cap' : Nat), j ≤ zs.length ∧ i = .int .i64 j ∧ t = .slice a' j cap' ∧ SBuf w.heap.size w' a' j cap' ((zs.take j).map dt) ∧ Below w.heap.size w w') (fun _ i _ => zs.length - (intOf i).toNat)
  case atStart => exact ⟨0, _, _, Nat.zero_le _, rfl, rfl, b0, l0⟩
  case round =>
    obtain ⟨j, a1, cap1, hj, rfl, rfl, hbuf, hbel⟩ := hrel
    clear b0 l0
    by_cases hlt : j < zs.length
    · obtain ⟨hr, ht⟩ := HR.out _ hbel
      obtain ⟨b, off, rfl, hlt0, hc⟩ := hr.get hlt
      have y := hc j hlt
      have hz := HW.out j hlt
      have HU' := HU.out j hlt
      have e1 : (0 : Int) ≤ (j : Int) := by omega
      have e2 : (j : Int) < (zs.length : Int) := by omega
      have hB := hbel.size
      obtain ⟨z, ez⟩ : ∃ z, zs.getD j 0 = z := ⟨_, rfl⟩
      rw [ez] at y hz HU'
      have HU2 : Hid ((zs.take (j + 1)).map dt = (zs.take j).map dt ++ [dt z]) := HU'
      have hd := D1.impl_DecText z hz wr ht.p
      obtain ⟨S, hS⟩ : ∃ S, (zs.take j).map dt = S := ⟨_, rfl⟩
      rw [hS] at hbuf HU2
      clear HR HU HA HW hc ez HU' hS ht hr hz
      go_wp2_with (first
        | (go_at_call 20; refine hd.mono ?_; rintro e w1 ⟨rfl, b1⟩; have f1 := hbuf.below b1; have B1 := hbel.trans (b1.mono hB); have f2 := f1.below (K0.below_new w1 (.cells #[.string (dt z)] 9)); have B2 := B1.alloc B1.size (.cells #[.string (dt z)] 9); have r2 := row_new w1 [dt z] 9)
        | (at_builtin; refine append_strs rfl (.tmp 13) (.tmp 16) rfl f2 (some ⟨w1.heap.size, 0, none⟩) 1 [dt z] (by rfl) (by rfl) r2 (by simp only [List.length_cons, List.length_nil]; omega) B2.size ?_; intro a3 c3 w3 f3 l3; simp only [List.length_cons, List.length_nil, Nat.zero_add] at f3 ⊢; have B3 := B2.trans l3))
      go_roundw
      case rel => exact ⟨j + 1, a3, c3, by omega, by go_num, rfl, by rw [HU2.out]; exact f3, B3⟩
      case measure => simp [intOf]; omega
    · obtain rfl : j = zs.length := by omega
      rw [HA.out] at hbuf
      have hf := hbuf.fits
      have hr := hbuf.row
      have hl : (zs.map dt).length = zs.length := by simp
      have HF : Hid (SRow wr a1 (zs.map dt)) := hr
      clear HR HU HA HW hbuf hr
      go_wp2
      go_ret
      exact ⟨⟨a1, cap1, by rw [hl]; rfl, HF.out, by omega⟩, hbel⟩
end Go.Proofs.YtnfcpcejfajcfaaDoor.EX

/- The contract of impl.eventParts, as the given laws call it. -/
namespace Go.Proofs.YtnfcpcejfajcfaaDoor.EY
open Go.ChangeShapes Go.WideShapes Go.ChangeAt Go.RowKit
set_option linter.unusedVariables false
set_option linter.unusedSimpArgs false
set_option maxRecDepth 10000

open EV (Ev val vals Fit hx dt parts)
open EW (EB eb_new eo)
open EX (SRow Tabs row_new)

/-- What eventParts answers. -/
def Ans (ps : List ByteArray) (w : World) (e : Ending) (w' : World) : Prop := (∃ a' c', e = .returned (.slice a' ps.length c') ∧ SRow w' a' ps ∧ ps.length ≤ c') ∧ Below w.heap.size w w'

theorem wf_nat (n : Nat) (h : n ≤ 1048576) : (Lit.int .i64 (n : Int)).wf = true := by
  simp [Lit.wf, IntKind.min, IntKind.max, IntKind.signed, IntKind.bits]
  omega

variable {w : World} {d : Ev} {a : Option Addr} {c : Nat}

set_option maxHeartbeats 2000000 in
theorem parts0 (hk : d.kd = 0) (hF : Fit d) (ht : d.tx.size ≤ 1048576) (hl : d.kp.length ≤ 1048576) (hR : P0.Row w a d.kp) (hT : Tabs w) :
    Calls Tryd.prog 14 #[val d a c] w (Ans ([dt d.cl, dt d.ino, dt d.at_]) w) := by
  have bx := eb_new d a c w 27
  have n0 := K0.below_new w (eo d a c 27)
  have f1 := hF.f1
  have f2 := hF.f2
  have f3 := hF.f3
  have HD : Hid (∀ z W, (Lit.int .i64 z).wf = true → Tabs W → Calls Tryd.prog 20 #[.int .i64 z] W fun e w' => e = .returned (.string (dt z)) ∧ Below W.heap.size W w') := fun z W hz h => D1.impl_DecText z hz W h.p
  have HX : Hid (∀ W, Tabs W → Calls Tryd.prog 21 #[.string d.tx] W fun e w' => e = .returned (.string (hx d.tx)) ∧ Below W.heap.size W w') := fun W h => EX.impl_hex d.tx W (by omega) h.h
  have HK : Hid (∀ W, P0.Row W a d.kp → Tabs W → Calls Tryd.prog 22 #[.slice a d.kp.length c] W fun e w' => (∃ a' c', e = .returned (.slice a' (d.kp.map dt).length c') ∧ SRow w' a' (d.kp.map dt) ∧ (d.kp.map dt).length ≤ c') ∧ Below W.heap.size W w') := fun W hr h => EX.decTexts a c d.kp W hl hF.fk hr h
  have HR : Hid (∀ W, Below w.heap.size w W → P0.Row W a d.kp) := fun W hb => hR.below hb
  have T0 : Tabs (w.alloc (eo d a c 27)).drew := (hT.below n0).below ((Below.refl _ _).drew)
  have e0 := bx.below ((Below.refl _ _).drew)
  have N0 := n0.drew
  obtain ⟨W0, hW0⟩ : ∃ W0, w.alloc (eo d a c 27) = W0 := ⟨_, rfl⟩
  rw [hW0] at T0 e0 N0
  have HS : Hid (∀ W, EB w.heap.size d a c W → W.cell? ⟨w.heap.size, 1, none⟩ = some (.int .i64 d.cl) ∧ W.cell? ⟨w.heap.size, 2, none⟩ = some (.int .i64 d.ino) ∧ W.cell? ⟨w.heap.size, 3, none⟩ = some (.int .i64 d.at_)) := fun W h => ⟨h.c1, h.c2, h.c3⟩
  have s0 := HS.out _ e0
  have HKd : Hid (d.kd = 0) := hk
  clear hF hR hT bx n0 hk
  go_enter Tryd.func14, Tryd.ntmps14
  go_wp2
  try rw [hW0]
  go_region_held3 (fun W => W.cell? ⟨w.heap.size, 1, none⟩ = some (.int .i64 d.cl) ∧ W.cell? ⟨w.heap.size, 2, none⟩ = some (.int .i64 d.ino) ∧ W.cell? ⟨w.heap.size, 3, none⟩ = some (.int .i64 d.at_)) (assumption) ((first
    | (go_at_call 20; have T2' := T2; refine (HD.out d.at_ _ f3 T2).mono ?_; rintro e w3 ⟨rfl, b3⟩; have T3 := T2.below b3; have e3 := e2.below b3; have N3 := N2.trans (b3.mono N2.size); have s3 := HS.out _ e3)
    | (go_at_call 20; have T1' := T1; refine (HD.out d.ino _ f2 T1).mono ?_; rintro e w2 ⟨rfl, b2⟩; have T2 := T1.below b2; have e2 := e1.below b2; have N2 := N1.trans (b2.mono N1.size); have s2 := HS.out _ e2)
    | (go_at_call 20; refine (HD.out d.cl _ f1 T0).mono ?_; rintro e w1 ⟨rfl, b1⟩; have T1 := T0.below b1; have e1 := e0.below b1; have N1 := N0.trans (b1.mono N0.size); have s1 := HS.out _ e1)))
  have c0 := e3.c0
  have c4 := e3.c4
  have c5 := e3.c5
  rw [HKd.out] at c0
  clear s0 s1 s2 s3 e0 e1 e2 T0 T1 T2 T1' T2' HS
  go_wp2
  go_ret
  exact ⟨⟨_, _, rfl, row_new w3 [dt d.cl, dt d.ino, dt d.at_] 9, Nat.le_refl _⟩, N3.alloc N3.size _⟩


set_option maxHeartbeats 2000000 in
theorem parts1 (hk : d.kd = 1) (hF : Fit d) (ht : d.tx.size ≤ 1048576) (hl : d.kp.length ≤ 1048576) (hR : P0.Row w a d.kp) (hT : Tabs w) :
    Calls Tryd.prog 14 #[val d a c] w (Ans ([dt d.cl, dt d.at_, hx d.tx]) w) := by
  have bx := eb_new d a c w 27
  have n0 := K0.below_new w (eo d a c 27)
  have f1 := hF.f1
  have f2 := hF.f2
  have f3 := hF.f3
  have HD : Hid (∀ z W, (Lit.int .i64 z).wf = true → Tabs W → Calls Tryd.prog 20 #[.int .i64 z] W fun e w' => e = .returned (.string (dt z)) ∧ Below W.heap.size W w') := fun z W hz h => D1.impl_DecText z hz W h.p
  have HX : Hid (∀ W, Tabs W → Calls Tryd.prog 21 #[.string d.tx] W fun e w' => e = .returned (.string (hx d.tx)) ∧ Below W.heap.size W w') := fun W h => EX.impl_hex d.tx W (by omega) h.h
  have HK : Hid (∀ W, P0.Row W a d.kp → Tabs W → Calls Tryd.prog 22 #[.slice a d.kp.length c] W fun e w' => (∃ a' c', e = .returned (.slice a' (d.kp.map dt).length c') ∧ SRow w' a' (d.kp.map dt) ∧ (d.kp.map dt).length ≤ c') ∧ Below W.heap.size W w') := fun W hr h => EX.decTexts a c d.kp W hl hF.fk hr h
  have HR : Hid (∀ W, Below w.heap.size w W → P0.Row W a d.kp) := fun W hb => hR.below hb
  have T0 : Tabs (w.alloc (eo d a c 27)).drew := (hT.below n0).below ((Below.refl _ _).drew)
  have e0 := bx.below ((Below.refl _ _).drew)
  have N0 := n0.drew
  obtain ⟨W0, hW0⟩ : ∃ W0, w.alloc (eo d a c 27) = W0 := ⟨_, rfl⟩
  rw [hW0] at T0 e0 N0
  have HS : Hid (∀ W, EB w.heap.size d a c W → W.cell? ⟨w.heap.size, 1, none⟩ = some (.int .i64 d.cl) ∧ W.cell? ⟨w.heap.size, 2, none⟩ = some (.int .i64 d.ino) ∧ W.cell? ⟨w.heap.size, 3, none⟩ = some (.int .i64 d.at_)) := fun W h => ⟨h.c1, h.c2, h.c3⟩
  have s0 := HS.out _ e0
  have HKd : Hid (d.kd = 1) := hk
  clear hF hR hT bx n0 hk
  go_enter Tryd.func14, Tryd.ntmps14
  go_wp2
  try rw [hW0]
  go_region_held3 (fun W => W.cell? ⟨w.heap.size, 1, none⟩ = some (.int .i64 d.cl) ∧ W.cell? ⟨w.heap.size, 2, none⟩ = some (.int .i64 d.ino) ∧ W.cell? ⟨w.heap.size, 3, none⟩ = some (.int .i64 d.at_)) (assumption) ((first
    | (go_at_call 20; have T2' := T2; refine (HD.out d.at_ _ f3 T2).mono ?_; rintro e w3 ⟨rfl, b3⟩; have T3 := T2.below b3; have e3 := e2.below b3; have N3 := N2.trans (b3.mono N2.size); have s3 := HS.out _ e3)
    | (go_at_call 20; have T1' := T1; refine (HD.out d.ino _ f2 T1).mono ?_; rintro e w2 ⟨rfl, b2⟩; have T2 := T1.below b2; have e2 := e1.below b2; have N2 := N1.trans (b2.mono N1.size); have s2 := HS.out _ e2)
    | (go_at_call 20; refine (HD.out d.cl _ f1 T0).mono ?_; rintro e w1 ⟨rfl, b1⟩; have T1 := T0.below b1; have e1 := e0.below b1; have N1 := N0.trans (b1.mono N0.size); have s1 := HS.out _ e1)))
  have c0 := e3.c0
  have c4 := e3.c4
  have c5 := e3.c5
  rw [HKd.out] at c0
  clear s0 s1 s2 s3 e0 e1 e2 T0 T1 T2 T1' T2' HS
  go_wp2_with (go_at_call 21; refine (HX.out _ T3).mono ?_; rintro e w4 ⟨rfl, b4⟩; have N4 := N3.trans (b4.mono N3.size))
  go_ret
  exact ⟨⟨_, _, rfl, row_new w4 [dt d.cl, dt d.at_, hx d.tx] 9, Nat.le_refl _⟩, N4.alloc N4.size _⟩


set_option maxHeartbeats 2000000 in
theorem parts2 (hk : d.kd = 2) (hF : Fit d) (ht : d.tx.size ≤ 1048576) (hl : d.kp.length ≤ 1048576) (hR : P0.Row w a d.kp) (hT : Tabs w) :
    Calls Tryd.prog 14 #[val d a c] w (Ans ([dt d.cl, dt d.at_, dt d.tx.size]) w) := by
  have bx := eb_new d a c w 27
  have n0 := K0.below_new w (eo d a c 27)
  have f1 := hF.f1
  have f2 := hF.f2
  have f3 := hF.f3
  have HD : Hid (∀ z W, (Lit.int .i64 z).wf = true → Tabs W → Calls Tryd.prog 20 #[.int .i64 z] W fun e w' => e = .returned (.string (dt z)) ∧ Below W.heap.size W w') := fun z W hz h => D1.impl_DecText z hz W h.p
  have HX : Hid (∀ W, Tabs W → Calls Tryd.prog 21 #[.string d.tx] W fun e w' => e = .returned (.string (hx d.tx)) ∧ Below W.heap.size W w') := fun W h => EX.impl_hex d.tx W (by omega) h.h
  have HK : Hid (∀ W, P0.Row W a d.kp → Tabs W → Calls Tryd.prog 22 #[.slice a d.kp.length c] W fun e w' => (∃ a' c', e = .returned (.slice a' (d.kp.map dt).length c') ∧ SRow w' a' (d.kp.map dt) ∧ (d.kp.map dt).length ≤ c') ∧ Below W.heap.size W w') := fun W hr h => EX.decTexts a c d.kp W hl hF.fk hr h
  have HR : Hid (∀ W, Below w.heap.size w W → P0.Row W a d.kp) := fun W hb => hR.below hb
  have T0 : Tabs (w.alloc (eo d a c 27)).drew := (hT.below n0).below ((Below.refl _ _).drew)
  have e0 := bx.below ((Below.refl _ _).drew)
  have N0 := n0.drew
  obtain ⟨W0, hW0⟩ : ∃ W0, w.alloc (eo d a c 27) = W0 := ⟨_, rfl⟩
  rw [hW0] at T0 e0 N0
  have HS : Hid (∀ W, EB w.heap.size d a c W → W.cell? ⟨w.heap.size, 1, none⟩ = some (.int .i64 d.cl) ∧ W.cell? ⟨w.heap.size, 2, none⟩ = some (.int .i64 d.ino) ∧ W.cell? ⟨w.heap.size, 3, none⟩ = some (.int .i64 d.at_)) := fun W h => ⟨h.c1, h.c2, h.c3⟩
  have s0 := HS.out _ e0
  have HKd : Hid (d.kd = 2) := hk
  clear hF hR hT bx n0 hk
  go_enter Tryd.func14, Tryd.ntmps14
  go_wp2
  try rw [hW0]
  go_region_held3 (fun W => W.cell? ⟨w.heap.size, 1, none⟩ = some (.int .i64 d.cl) ∧ W.cell? ⟨w.heap.size, 2, none⟩ = some (.int .i64 d.ino) ∧ W.cell? ⟨w.heap.size, 3, none⟩ = some (.int .i64 d.at_)) (assumption) ((first
    | (go_at_call 20; have T2' := T2; refine (HD.out d.at_ _ f3 T2).mono ?_; rintro e w3 ⟨rfl, b3⟩; have T3 := T2.below b3; have e3 := e2.below b3; have N3 := N2.trans (b3.mono N2.size); have s3 := HS.out _ e3)
    | (go_at_call 20; have T1' := T1; refine (HD.out d.ino _ f2 T1).mono ?_; rintro e w2 ⟨rfl, b2⟩; have T2 := T1.below b2; have e2 := e1.below b2; have N2 := N1.trans (b2.mono N1.size); have s2 := HS.out _ e2)
    | (go_at_call 20; refine (HD.out d.cl _ f1 T0).mono ?_; rintro e w1 ⟨rfl, b1⟩; have T1 := T0.below b1; have e1 := e0.below b1; have N1 := N0.trans (b1.mono N0.size); have s1 := HS.out _ e1)))
  have c0 := e3.c0
  have c4 := e3.c4
  have c5 := e3.c5
  rw [HKd.out] at c0
  clear s0 s1 s2 s3 e0 e1 e2 T0 T1 T2 T1' T2' HS
  go_wp2_with (go_at_call 20; refine (HD.out (d.tx.size : Int) _ (wf_nat _ ht) T3).mono ?_; rintro e w4 ⟨rfl, b4⟩; have N4 := N3.trans (b4.mono N3.size))
  go_ret
  exact ⟨⟨_, _, rfl, row_new w4 [dt d.cl, dt d.at_, dt d.tx.size] 9, Nat.le_refl _⟩, N4.alloc N4.size _⟩


set_option maxHeartbeats 2000000 in
theorem parts3 (hk : d.kd = 3) (hF : Fit d) (ht : d.tx.size ≤ 1048576) (hl : d.kp.length ≤ 1048576) (hR : P0.Row w a d.kp) (hT : Tabs w) :
    Calls Tryd.prog 14 #[val d a c] w (Ans ([dt d.cl, dt d.ino]) w) := by
  have bx := eb_new d a c w 27
  have n0 := K0.below_new w (eo d a c 27)
  have f1 := hF.f1
  have f2 := hF.f2
  have f3 := hF.f3
  have HD : Hid (∀ z W, (Lit.int .i64 z).wf = true → Tabs W → Calls Tryd.prog 20 #[.int .i64 z] W fun e w' => e = .returned (.string (dt z)) ∧ Below W.heap.size W w') := fun z W hz h => D1.impl_DecText z hz W h.p
  have HX : Hid (∀ W, Tabs W → Calls Tryd.prog 21 #[.string d.tx] W fun e w' => e = .returned (.string (hx d.tx)) ∧ Below W.heap.size W w') := fun W h => EX.impl_hex d.tx W (by omega) h.h
  have HK : Hid (∀ W, P0.Row W a d.kp → Tabs W → Calls Tryd.prog 22 #[.slice a d.kp.length c] W fun e w' => (∃ a' c', e = .returned (.slice a' (d.kp.map dt).length c') ∧ SRow w' a' (d.kp.map dt) ∧ (d.kp.map dt).length ≤ c') ∧ Below W.heap.size W w') := fun W hr h => EX.decTexts a c d.kp W hl hF.fk hr h
  have HR : Hid (∀ W, Below w.heap.size w W → P0.Row W a d.kp) := fun W hb => hR.below hb
  have T0 : Tabs (w.alloc (eo d a c 27)).drew := (hT.below n0).below ((Below.refl _ _).drew)
  have e0 := bx.below ((Below.refl _ _).drew)
  have N0 := n0.drew
  obtain ⟨W0, hW0⟩ : ∃ W0, w.alloc (eo d a c 27) = W0 := ⟨_, rfl⟩
  rw [hW0] at T0 e0 N0
  have HS : Hid (∀ W, EB w.heap.size d a c W → W.cell? ⟨w.heap.size, 1, none⟩ = some (.int .i64 d.cl) ∧ W.cell? ⟨w.heap.size, 2, none⟩ = some (.int .i64 d.ino) ∧ W.cell? ⟨w.heap.size, 3, none⟩ = some (.int .i64 d.at_)) := fun W h => ⟨h.c1, h.c2, h.c3⟩
  have s0 := HS.out _ e0
  have HKd : Hid (d.kd = 3) := hk
  clear hF hR hT bx n0 hk
  go_enter Tryd.func14, Tryd.ntmps14
  go_wp2
  try rw [hW0]
  go_region_held3 (fun W => W.cell? ⟨w.heap.size, 1, none⟩ = some (.int .i64 d.cl) ∧ W.cell? ⟨w.heap.size, 2, none⟩ = some (.int .i64 d.ino) ∧ W.cell? ⟨w.heap.size, 3, none⟩ = some (.int .i64 d.at_)) (assumption) ((first
    | (go_at_call 20; have T2' := T2; refine (HD.out d.at_ _ f3 T2).mono ?_; rintro e w3 ⟨rfl, b3⟩; have T3 := T2.below b3; have e3 := e2.below b3; have N3 := N2.trans (b3.mono N2.size); have s3 := HS.out _ e3)
    | (go_at_call 20; have T1' := T1; refine (HD.out d.ino _ f2 T1).mono ?_; rintro e w2 ⟨rfl, b2⟩; have T2 := T1.below b2; have e2 := e1.below b2; have N2 := N1.trans (b2.mono N1.size); have s2 := HS.out _ e2)
    | (go_at_call 20; refine (HD.out d.cl _ f1 T0).mono ?_; rintro e w1 ⟨rfl, b1⟩; have T1 := T0.below b1; have e1 := e0.below b1; have N1 := N0.trans (b1.mono N0.size); have s1 := HS.out _ e1)))
  have c0 := e3.c0
  have c4 := e3.c4
  have c5 := e3.c5
  rw [HKd.out] at c0
  clear s0 s1 s2 s3 e0 e1 e2 T0 T1 T2 T1' T2' HS
  go_wp2
  go_ret
  exact ⟨⟨_, _, rfl, row_new w3 [dt d.cl, dt d.ino] 9, Nat.le_refl _⟩, N3.alloc N3.size _⟩


set_option maxHeartbeats 2000000 in
theorem parts4 (hk : d.kd = 4) (hF : Fit d) (ht : d.tx.size ≤ 1048576) (hl : d.kp.length ≤ 1048576) (hR : P0.Row w a d.kp) (hT : Tabs w) :
    Calls Tryd.prog 14 #[val d a c] w (Ans ([]) w) := by
  have bx := eb_new d a c w 27
  have n0 := K0.below_new w (eo d a c 27)
  have f1 := hF.f1
  have f2 := hF.f2
  have f3 := hF.f3
  have HD : Hid (∀ z W, (Lit.int .i64 z).wf = true → Tabs W → Calls Tryd.prog 20 #[.int .i64 z] W fun e w' => e = .returned (.string (dt z)) ∧ Below W.heap.size W w') := fun z W hz h => D1.impl_DecText z hz W h.p
  have HX : Hid (∀ W, Tabs W → Calls Tryd.prog 21 #[.string d.tx] W fun e w' => e = .returned (.string (hx d.tx)) ∧ Below W.heap.size W w') := fun W h => EX.impl_hex d.tx W (by omega) h.h
  have HK : Hid (∀ W, P0.Row W a d.kp → Tabs W → Calls Tryd.prog 22 #[.slice a d.kp.length c] W fun e w' => (∃ a' c', e = .returned (.slice a' (d.kp.map dt).length c') ∧ SRow w' a' (d.kp.map dt) ∧ (d.kp.map dt).length ≤ c') ∧ Below W.heap.size W w') := fun W hr h => EX.decTexts a c d.kp W hl hF.fk hr h
  have HR : Hid (∀ W, Below w.heap.size w W → P0.Row W a d.kp) := fun W hb => hR.below hb
  have T0 : Tabs (w.alloc (eo d a c 27)).drew := (hT.below n0).below ((Below.refl _ _).drew)
  have e0 := bx.below ((Below.refl _ _).drew)
  have N0 := n0.drew
  obtain ⟨W0, hW0⟩ : ∃ W0, w.alloc (eo d a c 27) = W0 := ⟨_, rfl⟩
  rw [hW0] at T0 e0 N0
  have HS : Hid (∀ W, EB w.heap.size d a c W → W.cell? ⟨w.heap.size, 1, none⟩ = some (.int .i64 d.cl) ∧ W.cell? ⟨w.heap.size, 2, none⟩ = some (.int .i64 d.ino) ∧ W.cell? ⟨w.heap.size, 3, none⟩ = some (.int .i64 d.at_)) := fun W h => ⟨h.c1, h.c2, h.c3⟩
  have s0 := HS.out _ e0
  have HKd : Hid (d.kd = 4) := hk
  clear hF hR hT bx n0 hk
  go_enter Tryd.func14, Tryd.ntmps14
  go_wp2
  try rw [hW0]
  go_region_held3 (fun W => W.cell? ⟨w.heap.size, 1, none⟩ = some (.int .i64 d.cl) ∧ W.cell? ⟨w.heap.size, 2, none⟩ = some (.int .i64 d.ino) ∧ W.cell? ⟨w.heap.size, 3, none⟩ = some (.int .i64 d.at_)) (assumption) ((first
    | (go_at_call 20; have T2' := T2; refine (HD.out d.at_ _ f3 T2).mono ?_; rintro e w3 ⟨rfl, b3⟩; have T3 := T2.below b3; have e3 := e2.below b3; have N3 := N2.trans (b3.mono N2.size); have s3 := HS.out _ e3)
    | (go_at_call 20; have T1' := T1; refine (HD.out d.ino _ f2 T1).mono ?_; rintro e w2 ⟨rfl, b2⟩; have T2 := T1.below b2; have e2 := e1.below b2; have N2 := N1.trans (b2.mono N1.size); have s2 := HS.out _ e2)
    | (go_at_call 20; refine (HD.out d.cl _ f1 T0).mono ?_; rintro e w1 ⟨rfl, b1⟩; have T1 := T0.below b1; have e1 := e0.below b1; have N1 := N0.trans (b1.mono N0.size); have s1 := HS.out _ e1)))
  have c0 := e3.c0
  have c4 := e3.c4
  have c5 := e3.c5
  rw [HKd.out] at c0
  clear s0 s1 s2 s3 e0 e1 e2 T0 T1 T2 T1' T2' HS
  go_wp2
  go_ret
  exact ⟨⟨_, _, rfl, row_new w3 [] 9, Nat.le_refl _⟩, N3.alloc N3.size _⟩


set_option maxHeartbeats 2000000 in
theorem parts5 (hk : d.kd = 5) (hF : Fit d) (ht : d.tx.size ≤ 1048576) (hl : d.kp.length ≤ 1048576) (hR : P0.Row w a d.kp) (hT : Tabs w) :
    Calls Tryd.prog 14 #[val d a c] w (Ans (d.kp.map dt) w) := by
  have bx := eb_new d a c w 27
  have n0 := K0.below_new w (eo d a c 27)
  have f1 := hF.f1
  have f2 := hF.f2
  have f3 := hF.f3
  have HD : Hid (∀ z W, (Lit.int .i64 z).wf = true → Tabs W → Calls Tryd.prog 20 #[.int .i64 z] W fun e w' => e = .returned (.string (dt z)) ∧ Below W.heap.size W w') := fun z W hz h => D1.impl_DecText z hz W h.p
  have HX : Hid (∀ W, Tabs W → Calls Tryd.prog 21 #[.string d.tx] W fun e w' => e = .returned (.string (hx d.tx)) ∧ Below W.heap.size W w') := fun W h => EX.impl_hex d.tx W (by omega) h.h
  have HK : Hid (∀ W, P0.Row W a d.kp → Tabs W → Calls Tryd.prog 22 #[.slice a d.kp.length c] W fun e w' => (∃ a' c', e = .returned (.slice a' (d.kp.map dt).length c') ∧ SRow w' a' (d.kp.map dt) ∧ (d.kp.map dt).length ≤ c') ∧ Below W.heap.size W w') := fun W hr h => EX.decTexts a c d.kp W hl hF.fk hr h
  have HR : Hid (∀ W, Below w.heap.size w W → P0.Row W a d.kp) := fun W hb => hR.below hb
  have T0 : Tabs (w.alloc (eo d a c 27)).drew := (hT.below n0).below ((Below.refl _ _).drew)
  have e0 := bx.below ((Below.refl _ _).drew)
  have N0 := n0.drew
  obtain ⟨W0, hW0⟩ : ∃ W0, w.alloc (eo d a c 27) = W0 := ⟨_, rfl⟩
  rw [hW0] at T0 e0 N0
  have HS : Hid (∀ W, EB w.heap.size d a c W → W.cell? ⟨w.heap.size, 1, none⟩ = some (.int .i64 d.cl) ∧ W.cell? ⟨w.heap.size, 2, none⟩ = some (.int .i64 d.ino) ∧ W.cell? ⟨w.heap.size, 3, none⟩ = some (.int .i64 d.at_)) := fun W h => ⟨h.c1, h.c2, h.c3⟩
  have s0 := HS.out _ e0
  have HKd : Hid (d.kd = 5) := hk
  clear hF hR hT bx n0 hk
  go_enter Tryd.func14, Tryd.ntmps14
  go_wp2
  try rw [hW0]
  go_region_held3 (fun W => W.cell? ⟨w.heap.size, 1, none⟩ = some (.int .i64 d.cl) ∧ W.cell? ⟨w.heap.size, 2, none⟩ = some (.int .i64 d.ino) ∧ W.cell? ⟨w.heap.size, 3, none⟩ = some (.int .i64 d.at_)) (assumption) ((first
    | (go_at_call 20; have T2' := T2; refine (HD.out d.at_ _ f3 T2).mono ?_; rintro e w3 ⟨rfl, b3⟩; have T3 := T2.below b3; have e3 := e2.below b3; have N3 := N2.trans (b3.mono N2.size); have s3 := HS.out _ e3)
    | (go_at_call 20; have T1' := T1; refine (HD.out d.ino _ f2 T1).mono ?_; rintro e w2 ⟨rfl, b2⟩; have T2 := T1.below b2; have e2 := e1.below b2; have N2 := N1.trans (b2.mono N1.size); have s2 := HS.out _ e2)
    | (go_at_call 20; refine (HD.out d.cl _ f1 T0).mono ?_; rintro e w1 ⟨rfl, b1⟩; have T1 := T0.below b1; have e1 := e0.below b1; have N1 := N0.trans (b1.mono N0.size); have s1 := HS.out _ e1)))
  have c0 := e3.c0
  have c4 := e3.c4
  have c5 := e3.c5
  rw [HKd.out] at c0
  clear s0 s1 s2 s3 e0 e1 e2 T0 T1 T2 T1' T2' HS
  go_wp2_with (go_at_call 22; refine (HK.out _ (HR.out _ N3) T3).mono ?_; rintro e w4 ⟨⟨a4, c4', rfl, r4, h4⟩, b4⟩; have N4 := N3.trans (b4.mono N3.size))
  go_ret
  exact ⟨⟨a4, c4', by rw [List.length_map]; rfl, r4, h4⟩, N4⟩


set_option maxHeartbeats 2000000 in
theorem parts6 (hk : d.kd = 6) (hF : Fit d) (ht : d.tx.size ≤ 1048576) (hl : d.kp.length ≤ 1048576) (hR : P0.Row w a d.kp) (hT : Tabs w) :
    Calls Tryd.prog 14 #[val d a c] w (Ans ([dt d.cl, dt d.ino, hx d.tx]) w) := by
  have bx := eb_new d a c w 27
  have n0 := K0.below_new w (eo d a c 27)
  have f1 := hF.f1
  have f2 := hF.f2
  have f3 := hF.f3
  have HD : Hid (∀ z W, (Lit.int .i64 z).wf = true → Tabs W → Calls Tryd.prog 20 #[.int .i64 z] W fun e w' => e = .returned (.string (dt z)) ∧ Below W.heap.size W w') := fun z W hz h => D1.impl_DecText z hz W h.p
  have HX : Hid (∀ W, Tabs W → Calls Tryd.prog 21 #[.string d.tx] W fun e w' => e = .returned (.string (hx d.tx)) ∧ Below W.heap.size W w') := fun W h => EX.impl_hex d.tx W (by omega) h.h
  have HK : Hid (∀ W, P0.Row W a d.kp → Tabs W → Calls Tryd.prog 22 #[.slice a d.kp.length c] W fun e w' => (∃ a' c', e = .returned (.slice a' (d.kp.map dt).length c') ∧ SRow w' a' (d.kp.map dt) ∧ (d.kp.map dt).length ≤ c') ∧ Below W.heap.size W w') := fun W hr h => EX.decTexts a c d.kp W hl hF.fk hr h
  have HR : Hid (∀ W, Below w.heap.size w W → P0.Row W a d.kp) := fun W hb => hR.below hb
  have T0 : Tabs (w.alloc (eo d a c 27)).drew := (hT.below n0).below ((Below.refl _ _).drew)
  have e0 := bx.below ((Below.refl _ _).drew)
  have N0 := n0.drew
  obtain ⟨W0, hW0⟩ : ∃ W0, w.alloc (eo d a c 27) = W0 := ⟨_, rfl⟩
  rw [hW0] at T0 e0 N0
  have HS : Hid (∀ W, EB w.heap.size d a c W → W.cell? ⟨w.heap.size, 1, none⟩ = some (.int .i64 d.cl) ∧ W.cell? ⟨w.heap.size, 2, none⟩ = some (.int .i64 d.ino) ∧ W.cell? ⟨w.heap.size, 3, none⟩ = some (.int .i64 d.at_)) := fun W h => ⟨h.c1, h.c2, h.c3⟩
  have s0 := HS.out _ e0
  have HKd : Hid (d.kd = 6) := hk
  clear hF hR hT bx n0 hk
  go_enter Tryd.func14, Tryd.ntmps14
  go_wp2
  try rw [hW0]
  go_region_held3 (fun W => W.cell? ⟨w.heap.size, 1, none⟩ = some (.int .i64 d.cl) ∧ W.cell? ⟨w.heap.size, 2, none⟩ = some (.int .i64 d.ino) ∧ W.cell? ⟨w.heap.size, 3, none⟩ = some (.int .i64 d.at_)) (assumption) ((first
    | (go_at_call 20; have T2' := T2; refine (HD.out d.at_ _ f3 T2).mono ?_; rintro e w3 ⟨rfl, b3⟩; have T3 := T2.below b3; have e3 := e2.below b3; have N3 := N2.trans (b3.mono N2.size); have s3 := HS.out _ e3)
    | (go_at_call 20; have T1' := T1; refine (HD.out d.ino _ f2 T1).mono ?_; rintro e w2 ⟨rfl, b2⟩; have T2 := T1.below b2; have e2 := e1.below b2; have N2 := N1.trans (b2.mono N1.size); have s2 := HS.out _ e2)
    | (go_at_call 20; refine (HD.out d.cl _ f1 T0).mono ?_; rintro e w1 ⟨rfl, b1⟩; have T1 := T0.below b1; have e1 := e0.below b1; have N1 := N0.trans (b1.mono N0.size); have s1 := HS.out _ e1)))
  have c0 := e3.c0
  have c4 := e3.c4
  have c5 := e3.c5
  rw [HKd.out] at c0
  clear s0 s1 s2 s3 e0 e1 e2 T0 T1 T2 T1' T2' HS
  go_wp2_with (go_at_call 21; refine (HX.out _ T3).mono ?_; rintro e w4 ⟨rfl, b4⟩; have N4 := N3.trans (b4.mono N3.size))
  go_ret
  exact ⟨⟨_, _, rfl, row_new w4 [dt d.cl, dt d.ino, hx d.tx] 9, Nat.le_refl _⟩, N4.alloc N4.size _⟩


set_option maxHeartbeats 2000000 in
theorem parts7 (hk : d.kd = 7) (hF : Fit d) (ht : d.tx.size ≤ 1048576) (hl : d.kp.length ≤ 1048576) (hR : P0.Row w a d.kp) (hT : Tabs w) :
    Calls Tryd.prog 14 #[val d a c] w (Ans ([dt d.cl, dt d.ino, dt d.at_, d.tx]) w) := by
  have bx := eb_new d a c w 27
  have n0 := K0.below_new w (eo d a c 27)
  have f1 := hF.f1
  have f2 := hF.f2
  have f3 := hF.f3
  have HD : Hid (∀ z W, (Lit.int .i64 z).wf = true → Tabs W → Calls Tryd.prog 20 #[.int .i64 z] W fun e w' => e = .returned (.string (dt z)) ∧ Below W.heap.size W w') := fun z W hz h => D1.impl_DecText z hz W h.p
  have HX : Hid (∀ W, Tabs W → Calls Tryd.prog 21 #[.string d.tx] W fun e w' => e = .returned (.string (hx d.tx)) ∧ Below W.heap.size W w') := fun W h => EX.impl_hex d.tx W (by omega) h.h
  have HK : Hid (∀ W, P0.Row W a d.kp → Tabs W → Calls Tryd.prog 22 #[.slice a d.kp.length c] W fun e w' => (∃ a' c', e = .returned (.slice a' (d.kp.map dt).length c') ∧ SRow w' a' (d.kp.map dt) ∧ (d.kp.map dt).length ≤ c') ∧ Below W.heap.size W w') := fun W hr h => EX.decTexts a c d.kp W hl hF.fk hr h
  have HR : Hid (∀ W, Below w.heap.size w W → P0.Row W a d.kp) := fun W hb => hR.below hb
  have T0 : Tabs (w.alloc (eo d a c 27)).drew := (hT.below n0).below ((Below.refl _ _).drew)
  have e0 := bx.below ((Below.refl _ _).drew)
  have N0 := n0.drew
  obtain ⟨W0, hW0⟩ : ∃ W0, w.alloc (eo d a c 27) = W0 := ⟨_, rfl⟩
  rw [hW0] at T0 e0 N0
  have HS : Hid (∀ W, EB w.heap.size d a c W → W.cell? ⟨w.heap.size, 1, none⟩ = some (.int .i64 d.cl) ∧ W.cell? ⟨w.heap.size, 2, none⟩ = some (.int .i64 d.ino) ∧ W.cell? ⟨w.heap.size, 3, none⟩ = some (.int .i64 d.at_)) := fun W h => ⟨h.c1, h.c2, h.c3⟩
  have s0 := HS.out _ e0
  have HKd : Hid (d.kd = 7) := hk
  clear hF hR hT bx n0 hk
  go_enter Tryd.func14, Tryd.ntmps14
  go_wp2
  try rw [hW0]
  go_region_held3 (fun W => W.cell? ⟨w.heap.size, 1, none⟩ = some (.int .i64 d.cl) ∧ W.cell? ⟨w.heap.size, 2, none⟩ = some (.int .i64 d.ino) ∧ W.cell? ⟨w.heap.size, 3, none⟩ = some (.int .i64 d.at_)) (assumption) ((first
    | (go_at_call 20; have T2' := T2; refine (HD.out d.at_ _ f3 T2).mono ?_; rintro e w3 ⟨rfl, b3⟩; have T3 := T2.below b3; have e3 := e2.below b3; have N3 := N2.trans (b3.mono N2.size); have s3 := HS.out _ e3)
    | (go_at_call 20; have T1' := T1; refine (HD.out d.ino _ f2 T1).mono ?_; rintro e w2 ⟨rfl, b2⟩; have T2 := T1.below b2; have e2 := e1.below b2; have N2 := N1.trans (b2.mono N1.size); have s2 := HS.out _ e2)
    | (go_at_call 20; refine (HD.out d.cl _ f1 T0).mono ?_; rintro e w1 ⟨rfl, b1⟩; have T1 := T0.below b1; have e1 := e0.below b1; have N1 := N0.trans (b1.mono N0.size); have s1 := HS.out _ e1)))
  have c0 := e3.c0
  have c4 := e3.c4
  have c5 := e3.c5
  rw [HKd.out] at c0
  clear s0 s1 s2 s3 e0 e1 e2 T0 T1 T2 T1' T2' HS
  go_wp2
  go_ret
  exact ⟨⟨_, _, rfl, row_new w3 [dt d.cl, dt d.ino, dt d.at_, d.tx] 9, Nat.le_refl _⟩, N3.alloc N3.size _⟩


set_option maxHeartbeats 2000000 in
theorem parts8 (hk : d.kd = 8) (hF : Fit d) (ht : d.tx.size ≤ 1048576) (hl : d.kp.length ≤ 1048576) (hR : P0.Row w a d.kp) (hT : Tabs w) :
    Calls Tryd.prog 14 #[val d a c] w (Ans ([dt d.cl, dt d.ino, d.tx]) w) := by
  have bx := eb_new d a c w 27
  have n0 := K0.below_new w (eo d a c 27)
  have f1 := hF.f1
  have f2 := hF.f2
  have f3 := hF.f3
  have HD : Hid (∀ z W, (Lit.int .i64 z).wf = true → Tabs W → Calls Tryd.prog 20 #[.int .i64 z] W fun e w' => e = .returned (.string (dt z)) ∧ Below W.heap.size W w') := fun z W hz h => D1.impl_DecText z hz W h.p
  have HX : Hid (∀ W, Tabs W → Calls Tryd.prog 21 #[.string d.tx] W fun e w' => e = .returned (.string (hx d.tx)) ∧ Below W.heap.size W w') := fun W h => EX.impl_hex d.tx W (by omega) h.h
  have HK : Hid (∀ W, P0.Row W a d.kp → Tabs W → Calls Tryd.prog 22 #[.slice a d.kp.length c] W fun e w' => (∃ a' c', e = .returned (.slice a' (d.kp.map dt).length c') ∧ SRow w' a' (d.kp.map dt) ∧ (d.kp.map dt).length ≤ c') ∧ Below W.heap.size W w') := fun W hr h => EX.decTexts a c d.kp W hl hF.fk hr h
  have HR : Hid (∀ W, Below w.heap.size w W → P0.Row W a d.kp) := fun W hb => hR.below hb
  have T0 : Tabs (w.alloc (eo d a c 27)).drew := (hT.below n0).below ((Below.refl _ _).drew)
  have e0 := bx.below ((Below.refl _ _).drew)
  have N0 := n0.drew
  obtain ⟨W0, hW0⟩ : ∃ W0, w.alloc (eo d a c 27) = W0 := ⟨_, rfl⟩
  rw [hW0] at T0 e0 N0
  have HS : Hid (∀ W, EB w.heap.size d a c W → W.cell? ⟨w.heap.size, 1, none⟩ = some (.int .i64 d.cl) ∧ W.cell? ⟨w.heap.size, 2, none⟩ = some (.int .i64 d.ino) ∧ W.cell? ⟨w.heap.size, 3, none⟩ = some (.int .i64 d.at_)) := fun W h => ⟨h.c1, h.c2, h.c3⟩
  have s0 := HS.out _ e0
  have HKd : Hid (d.kd = 8) := hk
  clear hF hR hT bx n0 hk
  go_enter Tryd.func14, Tryd.ntmps14
  go_wp2
  try rw [hW0]
  go_region_held3 (fun W => W.cell? ⟨w.heap.size, 1, none⟩ = some (.int .i64 d.cl) ∧ W.cell? ⟨w.heap.size, 2, none⟩ = some (.int .i64 d.ino) ∧ W.cell? ⟨w.heap.size, 3, none⟩ = some (.int .i64 d.at_)) (assumption) ((first
    | (go_at_call 20; have T2' := T2; refine (HD.out d.at_ _ f3 T2).mono ?_; rintro e w3 ⟨rfl, b3⟩; have T3 := T2.below b3; have e3 := e2.below b3; have N3 := N2.trans (b3.mono N2.size); have s3 := HS.out _ e3)
    | (go_at_call 20; have T1' := T1; refine (HD.out d.ino _ f2 T1).mono ?_; rintro e w2 ⟨rfl, b2⟩; have T2 := T1.below b2; have e2 := e1.below b2; have N2 := N1.trans (b2.mono N1.size); have s2 := HS.out _ e2)
    | (go_at_call 20; refine (HD.out d.cl _ f1 T0).mono ?_; rintro e w1 ⟨rfl, b1⟩; have T1 := T0.below b1; have e1 := e0.below b1; have N1 := N0.trans (b1.mono N0.size); have s1 := HS.out _ e1)))
  have c0 := e3.c0
  have c4 := e3.c4
  have c5 := e3.c5
  rw [HKd.out] at c0
  clear s0 s1 s2 s3 e0 e1 e2 T0 T1 T2 T1' T2' HS
  go_wp2
  go_ret
  exact ⟨⟨_, _, rfl, row_new w3 [dt d.cl, dt d.ino, d.tx] 9, Nat.le_refl _⟩, N3.alloc N3.size _⟩


set_option maxHeartbeats 2000000 in
theorem parts9 (hk : d.kd = 9) (hF : Fit d) (ht : d.tx.size ≤ 1048576) (hl : d.kp.length ≤ 1048576) (hR : P0.Row w a d.kp) (hT : Tabs w) :
    Calls Tryd.prog 14 #[val d a c] w (Ans ([dt d.cl, dt d.ino, dt d.at_, hx d.tx]) w) := by
  have bx := eb_new d a c w 27
  have n0 := K0.below_new w (eo d a c 27)
  have f1 := hF.f1
  have f2 := hF.f2
  have f3 := hF.f3
  have HD : Hid (∀ z W, (Lit.int .i64 z).wf = true → Tabs W → Calls Tryd.prog 20 #[.int .i64 z] W fun e w' => e = .returned (.string (dt z)) ∧ Below W.heap.size W w') := fun z W hz h => D1.impl_DecText z hz W h.p
  have HX : Hid (∀ W, Tabs W → Calls Tryd.prog 21 #[.string d.tx] W fun e w' => e = .returned (.string (hx d.tx)) ∧ Below W.heap.size W w') := fun W h => EX.impl_hex d.tx W (by omega) h.h
  have HK : Hid (∀ W, P0.Row W a d.kp → Tabs W → Calls Tryd.prog 22 #[.slice a d.kp.length c] W fun e w' => (∃ a' c', e = .returned (.slice a' (d.kp.map dt).length c') ∧ SRow w' a' (d.kp.map dt) ∧ (d.kp.map dt).length ≤ c') ∧ Below W.heap.size W w') := fun W hr h => EX.decTexts a c d.kp W hl hF.fk hr h
  have HR : Hid (∀ W, Below w.heap.size w W → P0.Row W a d.kp) := fun W hb => hR.below hb
  have T0 : Tabs (w.alloc (eo d a c 27)).drew := (hT.below n0).below ((Below.refl _ _).drew)
  have e0 := bx.below ((Below.refl _ _).drew)
  have N0 := n0.drew
  obtain ⟨W0, hW0⟩ : ∃ W0, w.alloc (eo d a c 27) = W0 := ⟨_, rfl⟩
  rw [hW0] at T0 e0 N0
  have HS : Hid (∀ W, EB w.heap.size d a c W → W.cell? ⟨w.heap.size, 1, none⟩ = some (.int .i64 d.cl) ∧ W.cell? ⟨w.heap.size, 2, none⟩ = some (.int .i64 d.ino) ∧ W.cell? ⟨w.heap.size, 3, none⟩ = some (.int .i64 d.at_)) := fun W h => ⟨h.c1, h.c2, h.c3⟩
  have s0 := HS.out _ e0
  have HKd : Hid (d.kd = 9) := hk
  clear hF hR hT bx n0 hk
  go_enter Tryd.func14, Tryd.ntmps14
  go_wp2
  try rw [hW0]
  go_region_held3 (fun W => W.cell? ⟨w.heap.size, 1, none⟩ = some (.int .i64 d.cl) ∧ W.cell? ⟨w.heap.size, 2, none⟩ = some (.int .i64 d.ino) ∧ W.cell? ⟨w.heap.size, 3, none⟩ = some (.int .i64 d.at_)) (assumption) ((first
    | (go_at_call 20; have T2' := T2; refine (HD.out d.at_ _ f3 T2).mono ?_; rintro e w3 ⟨rfl, b3⟩; have T3 := T2.below b3; have e3 := e2.below b3; have N3 := N2.trans (b3.mono N2.size); have s3 := HS.out _ e3)
    | (go_at_call 20; have T1' := T1; refine (HD.out d.ino _ f2 T1).mono ?_; rintro e w2 ⟨rfl, b2⟩; have T2 := T1.below b2; have e2 := e1.below b2; have N2 := N1.trans (b2.mono N1.size); have s2 := HS.out _ e2)
    | (go_at_call 20; refine (HD.out d.cl _ f1 T0).mono ?_; rintro e w1 ⟨rfl, b1⟩; have T1 := T0.below b1; have e1 := e0.below b1; have N1 := N0.trans (b1.mono N0.size); have s1 := HS.out _ e1)))
  have c0 := e3.c0
  have c4 := e3.c4
  have c5 := e3.c5
  rw [HKd.out] at c0
  clear s0 s1 s2 s3 e0 e1 e2 T0 T1 T2 T1' T2' HS
  go_wp2_with (go_at_call 21; refine (HX.out _ T3).mono ?_; rintro e w4 ⟨rfl, b4⟩; have N4 := N3.trans (b4.mono N3.size))
  go_ret
  exact ⟨⟨_, _, rfl, row_new w4 [dt d.cl, dt d.ino, dt d.at_, hx d.tx] 9, Nat.le_refl _⟩, N4.alloc N4.size _⟩


end Go.Proofs.YtnfcpcejfajcfaaDoor.EY

/- A call that alone may come up in a region that draws its order. -/
namespace Go.Proofs.YtnfcpcejfajcfaaDoor.Y0
open Go.RowKit
set_option linter.unusedVariables false
set_option linter.unusedSimpArgs false
variable {P : Program} {Q : Exit → Act → World → Prop} {ops : Array Oper}

theorem of_if {c : Prop} [Decidable c] {p q : Prop} (hc : c) (hp : p) : if c then p else q := by rw [if_pos hc]; exact hp

/-- A call of one argument that alone may come up. -/
theorem one_call {S : World → Prop} {a : Act} {w : World} {i f : Nat} {o : Oper} {listed : Array Bool} {fuel : Nat} {md : Region.Mode} (hr : Region.ready md ops listed = [i]) (ho : ops[i]? = some o) (hg : o.guard = none)
    (x : Operand) (ts : Array TypeId) (hop : o.op = .call { callee := .value (.func f), args := #[x], argTypes := ts }) (v : Value) (hx : a.eval x = v) (eg : ∀ args w, (callFunc f args).run P w = .ok (.enter f args) w)
    (hc : Calls P f #[v] w fun e w' => ∃ u, e = .returned u ∧ S w' ∧ wpAnyH P md ops Q S fuel (listed.setIfInBounds i true) (a.put o.dst u) w') : wpAnyH P md ops Q S (fuel + 1) listed a w := by
  refine wpAnyH_all hr (by simp) ?_
  intro j hj
  obtain rfl : j = i := by simpa using hj
  unfold wpOp
  rw [ho]
  refine of_if (by rw [Region.wanted, hg]) (.inl ?_)
  have he : (execOp a.eval o).run P w = .ok (.enter f #[v]) w := by
    subst hx
    simp [execOp, hop, resolve, go_sem, invoke, eg]
  unfold Oper.wp
  rw [he]
  refine Calls.mono hc ?_
  rintro e w' ⟨u, rfl, h⟩
  exact h

/-- .. where it is guarded, and the guard holds. -/
theorem one_callw {S : World → Prop} {a : Act} {w : World} {i f : Nat} {o : Oper} {listed : Array Bool} {fuel : Nat} {md : Region.Mode} (hr : Region.ready md ops listed = [i]) (ho : ops[i]? = some o) (hw : Region.wanted o (yielded ops a.tmps) = true)
    (x : Operand) (ts : Array TypeId) (hop : o.op = .call { callee := .value (.func f), args := #[x], argTypes := ts }) (v : Value) (hx : a.eval x = v) (eg : ∀ args w, (callFunc f args).run P w = .ok (.enter f args) w)
    (hc : Calls P f #[v] w fun e w' => ∃ u, e = .returned u ∧ S w' ∧ wpAnyH P md ops Q S fuel (listed.setIfInBounds i true) (a.put o.dst u) w') : wpAnyH P md ops Q S (fuel + 1) listed a w := by
  refine wpAnyH_all hr (by simp) ?_
  intro j hj
  obtain rfl : j = i := by simpa using hj
  unfold wpOp
  rw [ho]
  refine of_if hw (.inl ?_)
  have he : (execOp a.eval o).run P w = .ok (.enter f #[v]) w := by
    subst hx
    simp [execOp, hop, resolve, go_sem, invoke, eg]
  unfold Oper.wp
  rw [he]
  refine Calls.mono hc ?_
  rintro e w' ⟨u, rfl, h⟩
  exact h

theorem one_call2w {S : World → Prop} {a : Act} {w : World} {i f : Nat} {o : Oper} {listed : Array Bool} {fuel : Nat} {md : Region.Mode} (hr : Region.ready md ops listed = [i]) (ho : ops[i]? = some o) (hw : Region.wanted o (yielded ops a.tmps) = true)
    (x y : Operand) (ts : Array TypeId) (hop : o.op = .call { callee := .value (.func f), args := #[x, y], argTypes := ts }) (v u1 : Value) (hx0 : a.eval x = v) (hx1 : a.eval y = u1) (eg : ∀ args w, (callFunc f args).run P w = .ok (.enter f args) w)
    (hc : Calls P f #[v, u1] w fun e w' => ∃ u, e = .returned u ∧ S w' ∧ wpAnyH P md ops Q S fuel (listed.setIfInBounds i true) (a.put o.dst u) w') : wpAnyH P md ops Q S (fuel + 1) listed a w := by
  refine wpAnyH_all hr (by simp) ?_
  intro j hj
  obtain rfl : j = i := by simpa using hj
  unfold wpOp
  rw [ho]
  refine of_if hw (.inl ?_)
  have he : (execOp a.eval o).run P w = .ok (.enter f #[v, u1]) w := by
    subst hx0 hx1
    simp [execOp, hop, resolve, go_sem, invoke, eg]
  unfold Oper.wp
  rw [he]
  refine Calls.mono hc ?_
  rintro e w' ⟨u, rfl, h⟩
  exact h

theorem one_call3w {S : World → Prop} {a : Act} {w : World} {i f : Nat} {o : Oper} {listed : Array Bool} {fuel : Nat} {md : Region.Mode} (hr : Region.ready md ops listed = [i]) (ho : ops[i]? = some o) (hw : Region.wanted o (yielded ops a.tmps) = true)
    (x y z : Operand) (ts : Array TypeId) (hop : o.op = .call { callee := .value (.func f), args := #[x, y, z], argTypes := ts }) (v u1 u2 : Value) (hx0 : a.eval x = v) (hx1 : a.eval y = u1) (hx2 : a.eval z = u2) (eg : ∀ args w, (callFunc f args).run P w = .ok (.enter f args) w)
    (hc : Calls P f #[v, u1, u2] w fun e w' => ∃ u, e = .returned u ∧ S w' ∧ wpAnyH P md ops Q S fuel (listed.setIfInBounds i true) (a.put o.dst u) w') : wpAnyH P md ops Q S (fuel + 1) listed a w := by
  refine wpAnyH_all hr (by simp) ?_
  intro j hj
  obtain rfl : j = i := by simpa using hj
  unfold wpOp
  rw [ho]
  refine of_if hw (.inl ?_)
  have he : (execOp a.eval o).run P w = .ok (.enter f #[v, u1, u2]) w := by
    subst hx0 hx1 hx2
    simp [execOp, hop, resolve, go_sem, invoke, eg]
  unfold Oper.wp
  rw [he]
  refine Calls.mono hc ?_
  rintro e w' ⟨u, rfl, h⟩
  exact h

/-- Another operation that alone may come up. -/
theorem one_plain {S : World → Prop} {a : Act} {w w' : World} {u : Value} {i : Nat} {o : Oper} {listed : Array Bool} {fuel : Nat} {md : Region.Mode} (hr : Region.ready md ops listed = [i]) (ho : ops[i]? = some o) (hw : Region.wanted o (yielded ops a.tmps) = true)
    (he : (execOp a.eval o).run P w = .ok (.value u) w') (hS : S w') (h : wpAnyH P md ops Q S fuel (listed.setIfInBounds i true) (a.put o.dst u) w') : wpAnyH P md ops Q S (fuel + 1) listed a w := by
  refine wpAnyH_all hr (by simp) ?_
  intro j hj
  obtain rfl : j = i := by simpa using hj
  unfold wpOp
  rw [ho]
  refine of_if hw (.inl ?_)
  unfold Oper.wp
  rw [he]
  exact ⟨hS, h⟩

/-- .. a store. -/
theorem one_skip {S : World → Prop} {a : Act} {w w' : World} {i : Nat} {o : Oper} {listed : Array Bool} {fuel : Nat} {md : Region.Mode} (hr : Region.ready md ops listed = [i]) (ho : ops[i]? = some o) (hw : Region.wanted o (yielded ops a.tmps) = true)
    (he : (execOp a.eval o).run P w = .ok .skip w') (hS : S w') (h : wpAnyH P md ops Q S fuel (listed.setIfInBounds i true) (a.put o.dst undef) w') : wpAnyH P md ops Q S (fuel + 1) listed a w := by
  refine wpAnyH_all hr (by simp) ?_
  intro j hj
  obtain rfl : j = i := by simpa using hj
  unfold wpOp
  rw [ho]
  refine of_if hw (.inl ?_)
  unfold Oper.wp
  rw [he]
  exact ⟨hS, h⟩
end Go.Proofs.YtnfcpcejfajcfaaDoor.Y0
