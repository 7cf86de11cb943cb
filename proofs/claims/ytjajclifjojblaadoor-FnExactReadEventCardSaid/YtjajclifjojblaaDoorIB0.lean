/- A row of numbers that a call has made and appends to. -/
import Derived.Test.YtjajclifjojblaaDoorBuf0
import Derived.Test.YtjajclifjojblaaDoorIno2
namespace Go.Proofs.YtjajclifjojblaaDoor.J0
open Go.ChangeShapes Go.WideShapes Go.ChangeAt Go.RowKit
set_option linter.unusedVariables false
set_option linter.unusedSimpArgs false
set_option maxRecDepth 10000

open I2 (ints)

/-- A row of a call's own: so many numbers, these; nil where there are none yet. -/
def IBuf (base : Nat) (w : World) (a : Option Addr) (n cap : Nat) (zs : List Int) : Prop := n = zs.length ∧ w.ownsRow base 3 1 (.slice a n cap) n (ints zs)

variable {base n cap : Nat} {a : Option Addr} {w W : World} {zs : List Int}

theorem blk_keep {B B0 : Nat} {vs : List Value} (h : K0.Blk B vs w) (hb : Below B0 w W) (hlt : B < B0) : K0.Blk B vs W :=
  ⟨fun j hj => (hb.cell (p := ⟨B, j, none⟩) hlt).trans (h.cell j hj), fun j hj => (hb.frozen (p := ⟨B, j, none⟩) hlt).trans (h.free j hj), Nat.lt_of_lt_of_le h.lt hb.size⟩

theorem IBuf.below (h : IBuf base w a n cap zs) (hb : Below w.heap.size w W) : IBuf base W a n cap zs := ⟨h.1, F0.owns_below h.2 hb⟩
theorem IBuf.alloc (h : IBuf base w a n cap zs) (o : Obj) : IBuf base (w.alloc o) a n cap zs := h.below ((Below.refl _ _).alloc (Nat.le_refl _) o)
theorem IBuf.drew (h : IBuf base w a n cap zs) : IBuf base w.drew a n cap zs := h
theorem IBuf.drewN (h : IBuf base w a n cap zs) (m : Nat) : IBuf base (w.drewN m) a n cap zs := h
theorem ibuf_nil (w : World) : IBuf base w none 0 0 [] := ⟨rfl, rfl, Or.inl ⟨rfl, rfl⟩⟩
theorem ibuf_made (w : World) (hb : base ≤ w.heap.size) : IBuf base (w.alloc (.cells #[] 3)) (some ⟨w.heap.size, 0, none⟩) 0 0 [] := ⟨rfl, World.ownsRow_made w #[] 0 hb (Nat.zero_le _) rfl⟩

theorem IBuf.fits (h : IBuf base w a n cap zs) : n ≤ cap := by
  rcases h.2.2 with ⟨h0, h1⟩ | ⟨g, c, cur, hv, _, _, hle, _⟩
  · omega
  · simp at hv
    omega

/-- What a call hands out: a row of its own, which may be written. -/
def Own (base : Nat) (W : World) (a : Option Addr) (zs : List Int) : Prop := zs = [] ∨ ∃ g, a = some ⟨g, 0, none⟩ ∧ base ≤ g ∧ K0.Blk g (ints zs) W

theorem IBuf.own (h : IBuf base w a n cap zs) : Own base w a zs := by
  rcases h.2.2 with ⟨h0, h1⟩ | ⟨g, c, cur, hv, hg, hc, hle, _, hs, ht⟩
  · left
    exact List.eq_nil_of_length_eq_zero (by rw [← h.1]; exact h1)
  · right
    simp at hv
    refine ⟨g, hv.1, hg, ⟨fun j hj => ?_, fun j hj => ?_, (Array.getElem?_eq_some_iff.1 hc).1⟩⟩
    · have hcell : w.cell? ⟨g, j, none⟩ = cur[j]? := by
        unfold World.cell?
        rw [hc]
        simp
      have hj' : j < zs.length := by simpa using hj
      have e1 : (cur.toList.take (n * 1))[j]? = (ints zs)[j]? := by rw [ht]
      rw [List.getElem?_take_of_lt (by have := h.1; omega)] at e1
      rw [hcell, ← Array.getElem?_toList, e1]
      simp [hj']
    · unfold World.frozen?
      rw [hc]
      simp

theorem Own.row (h : Own base W a zs) : P0.Row W a zs := by
  rcases h with h | ⟨g, rfl, _, hb⟩
  · exact Or.inl h
  · exact I2.row_of_blk hb

theorem Own.below {W' : World} (h : Own base W a zs) (hb : Below W.heap.size W W') : Own base W' a zs := by
  rcases h with h | ⟨g, e, hg, hk⟩
  · exact Or.inl h
  · exact Or.inr ⟨g, e, hg, hk.below hb⟩
theorem Own.alloc (h : Own base W a zs) (o : Obj) : Own base (W.alloc o) a zs := h.below ((Below.refl _ _).alloc (Nat.le_refl _) o)
theorem Own.drew (h : Own base W a zs) : Own base W.drew a zs := h.imp id fun ⟨g, e, hg, hk⟩ => ⟨g, e, hg, hk.drew⟩
theorem Own.drewN (h : Own base W a zs) (m : Nat) : Own base (W.drewN m) a zs := h.imp id fun ⟨g, e, hg, hk⟩ => ⟨g, e, hg, hk.drewN m⟩
theorem Own.mono {base' : Nat} (h : Own base W a zs) (hb : base' ≤ base) : Own base' W a zs := by
  rcases h with h | ⟨g, e, hg, hk⟩
  · exact Or.inl h
  · exact Or.inr ⟨g, e, Nat.le_trans hb hg, hk⟩
theorem Own.set (h : Own base W a zs) {B : Nat} (hB : B < base) (j : Nat) (v : Value) : Own base (W.setCell ⟨B, j, none⟩ v) a zs := by
  rcases h with h | ⟨g, e, hg, hk⟩
  · exact Or.inl h
  · exact Or.inr ⟨g, e, hg, hk.setOther (by omega) j v⟩

theorem one_int (c : Int) : ∀ u ∈ [Value.int .i64 c], u.oneCell' = true := by
  intro u h
  simp at h
  subst h
  rfl

theorem own_block (h : IBuf base w a n cap zs) : ∀ g, (Value.slice a n cap).ownBlock = some g → base ≤ g := fun g hg => (h.2.lt g hg).1

theorem ints_snoc (zs : List Int) (z : Int) : ints zs ++ [.int .i64 z] = ints (zs ++ [z]) := by simp

/-- 'list = append(list, z)'. -/
theorem append_int {ops : Array Oper} {rest : List Oper} {o : Oper} {A : Act} {Q : Exit → Act → World → Prop} (hgd : o.guard = none) (sl x : Operand)
    (ho : o.op = .call { callee := .builtin .append, args := #[sl, x], argTypes := #[22, 22] })
    (hbuf : IBuf base w a n cap zs) (z : Int) (hs : A.eval sl = .slice a n cap) (hx : A.eval x = .slice (some ⟨w.heap.size, 0, none⟩) 1 1) (hlen : n + 1 ≤ 1048576) (hb : base ≤ w.heap.size)
    (h : ∀ g' cap' w', IBuf base w' (some ⟨g', 0, none⟩) (n + 1) cap' (zs ++ [z]) → Below base w w' → wpList Tryd.prog ops Q rest (A.put o.dst (.slice (some ⟨g', 0, none⟩) (n + 1) cap')) w') : wpList Tryd.prog ops Q (o :: rest) A (w.alloc (.cells #[.int .i64 z] 3)) := by
  obtain ⟨i0, hi, hz0, hz1, hz2⟩ := info_parts I2.info3
  have hb2 := hbuf.alloc (.cells #[.int .i64 z] 3)
  refine wpList_append_lies _ hgd sl x 22 ho base 3 i0 (.int .i64 0) 1 8 Tryd.underlying22 hi hz0 hz1 hz2 rfl (by omega) _ n _ hs hb2.2 ⟨w.heap.size, 0, none⟩ 1 1 [.int .i64 z] hx rfl (World.news_of_block (heap_alloc_new w _)) (one_int z) (by omega) (by unfold maxLen; omega) (by omega) (by simp; omega) _ rfl ?_
  intro g' cap' w' ho' hg' _ _
  refine h g' cap' w' ⟨by rw [hbuf.1]; simp, ?_⟩ ?_
  · rw [← ints_snoc]
    exact ho'
  · exact F0.below_grown ((Below.refl _ _).alloc hb _) hg' (own_block hbuf) (by simp; omega)

/-- .. as a step of a region that draws its order. -/
theorem step_int {ops : Array Oper} {o : Oper} {A : Act} {K : Act → World → Prop} {Q : Exit → Act → World → Prop} {E : Prop} (hgd : o.guard = none) (sl x : Operand)
    (ho : o.op = .call { callee := .builtin .append, args := #[sl, x], argTypes := #[22, 22] })
    (hbuf : IBuf base w a n cap zs) (z : Int) (hs : A.eval sl = .slice a n cap) (hx : A.eval x = .slice (some ⟨w.heap.size, 0, none⟩) 1 1) (hlen : n + 1 ≤ 1048576) (hb : base ≤ w.heap.size)
    (h : ∀ g' cap' w', IBuf base w' (some ⟨g', 0, none⟩) (n + 1) cap' (zs ++ [z]) → Below base w w' → K (A.put o.dst (.slice (some ⟨g', 0, none⟩) (n + 1) cap')) w') :
    if Region.wanted o (yielded ops A.tmps) = true then Oper.wp Tryd.prog o A (w.alloc (.cells #[.int .i64 z] 3)) K Q else E := by
  obtain ⟨i0, hi, hz0, hz1, hz2⟩ := info_parts I2.info3
  have hb2 := hbuf.alloc (.cells #[.int .i64 z] 3)
  refine step_append_lies _ hgd sl x 22 ho base 3 i0 (.int .i64 0) 1 8 Tryd.underlying22 hi hz0 hz1 hz2 rfl (by omega) _ n _ hs hb2.2 ⟨w.heap.size, 0, none⟩ 1 1 [.int .i64 z] hx rfl (World.news_of_block (heap_alloc_new w _)) (one_int z) (by omega) (by unfold maxLen; omega) (by omega) (by simp; omega) _ rfl ?_
  intro g' cap' w' ho' hg' _ _
  refine h g' cap' w' ⟨by rw [hbuf.1]; simp, ?_⟩ ?_
  · rw [← ints_snoc]
    exact ho'
  · exact F0.below_grown ((Below.refl _ _).alloc hb _) hg' (own_block hbuf) (by simp; omega)
end Go.Proofs.YtjajclifjojblaaDoor.J0
