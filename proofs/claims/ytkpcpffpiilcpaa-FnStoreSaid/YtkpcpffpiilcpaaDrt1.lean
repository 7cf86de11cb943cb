/- What the program's Dirty keeps as it goes through the dirty lines. -/
import Derived.Test.YtkpcpffpiilcpaaDrt0
import Derived.Test.YtkpcpffpiilcpaaFls1
namespace Go.Proofs.Ytkpcpffpiilcpaa.Y1
open Go.ChangeShapes Go.WideShapes Go.ChangeAt Go.RowKit Go.Shelf
open X0 (row mix)
open F0 (Has)
open I2 (ints)
set_option linter.unusedVariables false
set_option linter.unusedSimpArgs false
set_option maxRecDepth 10000

theorem same_row {a b : ByteArray} {k : Nat} (ha : a.size = 768) (hb : b.size = 768) (hk : k < 96) : Y0.same a b k = decide (row a.data.toList k = row b.data.toList k) := by
  rw [Y0.same, X0.part_row a k ha hk, X0.part_row b k hb hk, Lib.toList_data, Lib.toList_data]
  by_cases h : row a.data.toList k = row b.data.toList k
  · simp [h]
  · simp [h]

/-- 'list = append(list, z)' within a round. -/
theorem append_in {F : Fence} {m : Nat} {base n cap : Nat} {a : Option Addr} {w : World} {zs : List Int} {ops : Array Oper} {rest : List Oper} {o : Oper} {A : Act} {Q : Exit → Act → World → Prop} (hgd : o.guard = none) (sl x : Operand)
    (ho : o.op = .call { callee := .builtin .append, args := #[sl, x], argTypes := #[32, 32] })
    (hbuf : J0.IBuf base w a n cap zs) (z : Int) (hs : A.eval sl = .slice a n cap) (hx : A.eval x = .slice (some ⟨w.heap.size, 0, none⟩) 1 1) (hlen : n + 1 ≤ 1048576) (hb : base ≤ w.heap.size)
    (h : ∀ g' cap' w', J0.IBuf base w' (some ⟨g', 0, none⟩) (n + 1) cap' (zs ++ [z]) → (w.alloc (.cells #[.int .i64 z] 3)).grownBy w' (Value.slice a n cap).ownBlock → ((Value.slice a n cap).ownBlock = some g' ∨ g' = w.heap.size + 1) → wpListIn F m Try.prog ops Q rest (A.put o.dst (.slice (some ⟨g', 0, none⟩) (n + 1) cap')) w') :
    wpListIn F m Try.prog ops Q (o :: rest) A (w.alloc (.cells #[.int .i64 z] 3)) := by
  obtain ⟨i0, hi, hz0, hz1, hz2⟩ := info_parts I2.info3
  have hb2 := hbuf.alloc (.cells #[.int .i64 z] 3)
  refine wpListIn_plain hgd fun K hK' => ?_
  obtain ⟨g, cp, w', hrun, r1, r2, r3, r4⟩ := run_append_lies (P := Try.prog) (w.alloc (.cells #[.int .i64 z] 3)) 32 o.type base 3 i0 (.int .i64 0) 1 8 Try.underlying32 hi hz0 hz1 hz2 rfl (by omega) _ n _ hb2.2 ⟨w.heap.size, 0, none⟩ 1 1 [.int .i64 z] rfl (World.news_of_block (heap_alloc_new w _)) (J0.one_int z) (by omega) (by unfold maxLen; omega) (by omega) (by simp; omega) _ rfl
  unfold Oper.wpIn
  refine ⟨?_, ?_⟩
  · simp [Oper.about, ho, resolve, Target.leads, Sem.run_pure]
  · rw [Oper.semAt_plain F _ _ (by rw [ho]; intro c hc'; cases hc')]
    simp [execOp, ho, resolve, invoke, builtin, hs, hx, hrun, Result.andThen]
    refine hK' _ _ (h g cp w' ⟨by rw [hbuf.1]; simp, ?_⟩ r2 (by simpa using r3))
    rw [← J0.ints_snoc]
    exact r1

theorem ibuf_own {base n cap : Nat} {a : Option Addr} {W V : World} {zs : List Int} {row : Option Nat} (h : J0.IBuf base W a n cap zs) (hg : W.grownBy V row) (hr : ∀ r, row = some r → ∃ o : Obj, W.heap[r]? = some o ∧ o.isCells = false) : J0.IBuf base V a n cap zs := by
  refine ⟨h.1, h.2.1, ?_⟩
  rcases h.2.2 with h0 | ⟨g, c, cur, hv, hbase, hc, hrest⟩
  · exact Or.inl h0
  · refine Or.inr ⟨g, c, cur, hv, hbase, ?_, hrest⟩
    rw [hg.block g (Array.getElem?_eq_some_iff.1 hc).1 (fun e => ?_)]
    · exact hc
    · obtain ⟨o, ho, hno⟩ := hr g e.symm
      rw [hc] at ho
      cases ho
      simp [Obj.isCells] at hno

theorem ibuf_block {base n cap : Nat} {a : Option Addr} {W V : World} {zs : List Int} (h : J0.IBuf base W a n cap zs) (hk : ∀ g, (Value.slice a n cap).ownBlock = some g → V.heap[g]? = W.heap[g]?) : J0.IBuf base V a n cap zs := by
  refine ⟨h.1, h.2.1, ?_⟩
  rcases h.2.2 with h0 | ⟨g, c, cur, hv, hbase, hc, hrest⟩
  · exact Or.inl h0
  · refine Or.inr ⟨g, c, cur, hv, hbase, ?_, hrest⟩
    rw [hk g (by rw [hv]; rfl)]
    exact hc

/-- The lines, the list in its cell, and that all is new. -/
structure Dr (w : World) (G f : Nat) (la lb : List UInt8) (zs : List Int) (W : World) : Prop where
  dl : A3.Dl G la lb W
  lst : ∃ p n c, Has f 0 (.slice p n c) W ∧ J0.IBuf w.heap.size W p n c zs ∧ ∀ g, (Value.slice p n c).ownBlock = some g → g ≠ G ∧ g ≠ f
  fg : f ≠ G ∧ w.heap.size ≤ f
  bel : Below w.heap.size w W

variable {w W V : World} {G f : Nat} {la lb : List UInt8} {zs : List Int}

theorem Dr.own {row : Option Nat} {B : Nat} (h : Dr w G f la lb zs W) (hB : w.heap.size ≤ B) (hg : W.grownBy V row) (hr : ∀ r, row = some r → B ≤ r ∧ ∃ o : Obj, W.heap[r]? = some o ∧ o.isCells = false) : Dr w G f la lb zs V := by
  obtain ⟨p, n, c, h1, h2, h3⟩ := h.lst
  exact ⟨F0.dl_own h.dl hg fun r e => (hr r e).2, ⟨p, n, c, h1.own hg fun r e => (hr r e).2, ibuf_own h2 hg fun r e => (hr r e).2, h3⟩, h.fg, h.bel.grown hg h.bel.size fun r e => Nat.le_trans hB (hr r e).1⟩

theorem dl_block {V : World} (h : A3.Dl G la lb W) (hz : W.heap.size ≤ V.heap.size) (hb : V.heap[G]? = W.heap[G]?) : A3.Dl G la lb V :=
  ⟨fun j v hj => (World.cell?_of_block (a := ⟨G, 0 + j, none⟩) hb).trans (h.m j v hj), fun j v hj => (World.cell?_of_block (a := ⟨G, 768 + j, none⟩) hb).trans (h.d j v hj),
   fun j hj => ⟨by rw [World.cell?_of_block (a := ⟨G, _, none⟩) hb]; exact (h.t j hj).1, (World.frozen?_of_block (a := ⟨G, _, none⟩) hb).trans (h.t j hj).2⟩, Nat.lt_of_lt_of_le h.lt hz⟩

/-- The list behind one line more. -/
theorem Dr.step {p : Option Addr} {n c g' cap' : Nat} {z : Int} (h : Dr w G f la lb zs W) (hf : Has f 0 (.slice p n c) W) (hi : J0.IBuf w.heap.size W p n c zs) (hne : ∀ g, (Value.slice p n c).ownBlock = some g → g ≠ G ∧ g ≠ f)
    (hb : J0.IBuf w.heap.size V (some ⟨g', 0, none⟩) (n + 1) cap' (zs ++ [z])) (hg : (W.alloc (.cells #[.int .i64 z] 3)).grownBy V (Value.slice p n c).ownBlock) (hg' : (Value.slice p n c).ownBlock = some g' ∨ g' = W.heap.size + 1) :
    Dr w G f la lb (zs ++ [z]) (V.setCell ⟨f, 0, none⟩ (.slice (some ⟨g', 0, none⟩) (n + 1) cap')) ∧ ∀ B, KeepsFrom B W (V.setCell ⟨f, 0, none⟩ (.slice (some ⟨g', 0, none⟩) (n + 1) cap')) := by
  have hsz : W.heap.size + 1 ≤ V.heap.size := by have := hg.size; simpa using this
  have hlt := h.dl.lt
  have hfl := hf.2.2
  have ha : ∀ k, k < W.heap.size → (W.alloc (.cells #[.int .i64 z] 3)).heap[k]? = W.heap[k]? := fun k hk => Below.heap_alloc _ _ _ hk
  have hG : V.heap[G]? = W.heap[G]? := by
    rw [hg.block G (by simp; omega) (fun e => (hne G e.symm).1 rfl)]
    exact ha G hlt
  have hF : V.heap[f]? = W.heap[f]? := by
    rw [hg.block f (by simp; omega) (fun e => (hne f e.symm).2 rfl)]
    exact ha f hfl
  have hgn : g' ≠ G ∧ g' ≠ f := by
    rcases hg' with e | e
    · exact hne g' e
    · omega
  have hV : Has f 0 (.slice p n c) V := ⟨(World.cell?_of_block (a := ⟨f, 0, none⟩) hF).trans hf.1, (World.frozen?_of_block (a := ⟨f, 0, none⟩) hF).trans hf.2.1, by omega⟩
  have hbV : Below w.heap.size w V := I4.below_grown (h.bel.alloc h.bel.size _) hg (fun g e => by
    have := J0.own_block hi g e
    exact this) (by have := h.bel.size; simp; omega)
  refine ⟨⟨dl_block (dl_block h.dl (by omega) hG) (by simp) (Below.heap_setCell _ _ _ _ h.fg.1.symm), ⟨_, _, _, ⟨World.cell?_setCell_same _ _ _ hV.1, by rw [World.frozen?_setCell]; exact hV.2.1, by simpa using hV.2.2⟩, ibuf_block hb (fun g e => ?_), fun g e => ?_⟩, h.fg, hbV.setCell (p := ⟨f, 0, none⟩) h.fg.2 _⟩, fun B => ?_⟩
  · cases e
    exact Below.heap_setCell _ _ _ _ hgn.2
  · cases e
    exact hgn
  · refine KeepsFrom.trans (KeepsFrom.trans ((KeepsOthers.alloc W _).from B) ((KeepsOthers.of_grownBy hg (fun j o e ho => ?_)).from B)) ((KeepsOthers.setCell _ _ _).from B)
    rcases hi.2.2 with ⟨h0, _⟩ | ⟨g, cc, cur, hv, hbase, hc, hrest⟩
    · rw [h0] at e
      cases e
    · rw [hv] at e
      cases e
      rw [ha g (Array.getElem?_eq_some_iff.1 hc).1, hc] at ho
      cases ho
      rfl
end Go.Proofs.Ytkpcpffpiilcpaa.Y1
