/- Joined texts: plain facts and contracts, as each part says. -/
import Derived.Test.YtddlpejklpljoaaJfC
import Derived.Test.YtddlpejklpljoaaJfB
import Derived.Maps.OwnSet
import Derived.Deep.LoopGhost
import Derived.Deep.RegionHeld3
import Derived.Test.YtddlpejklpljoaaJfA
import Derived.Deep.QuietTactic
import Derived.BigQuiet

/- Contracts of laws.toEntryS and laws.eqEntryS, as the given laws call them. -/
namespace Go.Proofs.Ytddlpejklpljoaa.T5
open Go.ChangeShapes Go.WideShapes Go.ChangeAt Go.RowKit
set_option linter.unusedVariables false
set_option linter.unusedSimpArgs false
set_option maxRecDepth 10000

theorem info33 : (Try.prog.info? 80).map (fun i => (i.zero, i.size, i.bytes)) = some (some (.agg #[.int .i64 0, .string ⟨#[]⟩]), 2, 24) := by kernel_rfl

theorem make_ents (n : Nat) (hn : n ≤ 1048576) : ∃ C : Array Value, C.size = n * 2 ∧ ∀ W : World, (Instr.makeSlice 76 (.int .i64 (n : Int)) (.int .i64 (n : Int))).run Try.prog W = .ok (.slice (some ⟨W.heap.size, 0, none⟩) n n) (W.alloc (.cells C 80)) := by
  obtain ⟨i0, hi, hz0, hz1, hz2⟩ := info_parts info33
  refine ⟨madeCells (Value.agg #[.int .i64 0, .string ⟨#[]⟩]).cells (n * i0.size), by rw [size_madeCells, hz1], fun W => ?_⟩
  have h := run_make (P := Try.prog) W 76 80 i0 (.agg #[.int .i64 0, .string ⟨#[]⟩]) Try.underlying76 hi hz0 .i64 .i64 (n : Int) (n : Int) (by omega) (by omega) (by rw [hz2]; omega) (by omega)
  rw [show ((n : Int)).toNat = n by omega] at h
  exact h

/-- A row of entries while it is being filled. -/
structure Mk (g n : Nat) (es : List T0.Ent) (k : Nat) (W : World) : Prop where
  done : ∀ j, j < k → W.cell? ⟨g, j * 2, none⟩ = some (.int .i64 (T0.ent es j).1) ∧ W.cell? ⟨g, j * 2 + 1, none⟩ = some (.string (T0.ent es j).2)
  there : ∀ j, j < n * 2 → (W.cell? ⟨g, j, none⟩).isSome = true
  free : ∀ j, j < n * 2 → W.frozen? ⟨g, j, none⟩ = false
  lt : g < W.heap.size

variable {g n k : Nat} {es : List T0.Ent} {w W W' : World}

theorem Mk.below (h : Mk g n es k W) (hb : Below W.heap.size W W') : Mk g n es k W' :=
  ⟨fun j hj => ⟨(hb.cell (p := ⟨g, j * 2, none⟩) h.lt).trans (h.done j hj).1, (hb.cell (p := ⟨g, j * 2 + 1, none⟩) h.lt).trans (h.done j hj).2⟩,
   fun j hj => by rw [hb.cell (p := ⟨g, j, none⟩) h.lt]; exact h.there j hj, fun j hj => (hb.frozen (p := ⟨g, j, none⟩) h.lt).trans (h.free j hj), Nat.lt_of_lt_of_le h.lt hb.size⟩

theorem mk_new (w : World) (C : Array Value) (hC : C.size = n * 2) : Mk w.heap.size n es 0 (w.alloc (.cells C 80)) := by
  refine ⟨fun j hj => absurd hj (Nat.not_lt_zero _), fun j hj => ?_, fun j hj => ?_, ?_⟩
  · rw [World.cell?_alloc_mark]
    have : j < C.size := by omega
    simp [this]
  · have h := World.frozen?_alloc_mark w C 80 0 0 j
    rw [h]
    simp
  · simp

theorem some_set {W : World} {p x : Addr} {v : Value} (h : (W.cell? x).isSome = true) : ((W.setCell p v).cell? x).isSome = true := by
  by_cases e : p = x
  · subst e
    obtain ⟨u, hu⟩ := Option.isSome_iff_exists.1 h
    rw [World.cell?_setCell_same _ _ _ hu]
    rfl
  · rw [World.cell?_setCell_other _ _ _ _ e]
    exact h

theorem Mk.step (h : Mk g n es k W) (hk : k < n) {u : Int} {v : ByteArray} (he : T0.ent es k = (u, v)) : Mk g n es (k + 1) ((W.setCell ⟨g, k * 2, none⟩ (.int .i64 u)).setCell ⟨g, k * 2 + 1, none⟩ (.string v)) := by
  obtain ⟨x, hx⟩ := Option.isSome_iff_exists.1 (h.there (k * 2) (by omega))
  obtain ⟨y, hy⟩ := Option.isSome_iff_exists.1 (h.there (k * 2 + 1) (by omega))
  have n1 : (⟨g, k * 2 + 1, none⟩ : Addr) ≠ ⟨g, k * 2, none⟩ := by simp
  refine ⟨fun j hj => ?_, fun j hj => some_set (some_set (h.there j hj)), fun j hj => ?_, ?_⟩
  · by_cases e : j = k
    · subst e
      rw [he]
      refine ⟨?_, ?_⟩
      · rw [World.cell?_setCell_other _ _ _ _ n1, World.cell?_setCell_same _ _ _ hx]
      · rw [World.cell?_setCell_same _ _ _ ((World.cell?_setCell_other _ _ _ _ n1.symm).trans hy)]
    · have hd := h.done j (by omega)
      refine ⟨?_, ?_⟩
      · rw [World.cell?_setCell_other _ _ _ _ (by intro q; have := (Addr.mk.inj q).2.1; omega), World.cell?_setCell_other _ _ _ _ (by intro q; have := (Addr.mk.inj q).2.1; omega)]
        exact hd.1
      · rw [World.cell?_setCell_other _ _ _ _ (by intro q; have := (Addr.mk.inj q).2.1; omega), World.cell?_setCell_other _ _ _ _ (by intro q; have := (Addr.mk.inj q).2.1; omega)]
        exact hd.2
  · rw [World.frozen?_setCell, World.frozen?_setCell]
    exact h.free j hj
  · have := h.lt
    simpa [World.setCell] using this

end Go.Proofs.Ytddlpejklpljoaa.T5

/- A row of entries that a call has made and appends to. -/
namespace Go.Proofs.Ytddlpejklpljoaa.V1
open Go.ChangeShapes Go.WideShapes Go.ChangeAt Go.RowKit
set_option linter.unusedVariables false
set_option linter.unusedSimpArgs false
set_option maxRecDepth 10000

/-- Entries as cells, two each. -/
def flat : List T0.Ent → List Value
  | [] => []
  | e :: r => .int .i64 e.1 :: .string e.2 :: flat r

theorem flat_length : ∀ es : List T0.Ent, (flat es).length = es.length * 2
  | [] => rfl
  | e :: r => by simp [flat, flat_length r]; omega

theorem flat_append : ∀ (es : List T0.Ent) (e : T0.Ent), flat es ++ [.int .i64 e.1, .string e.2] = flat (es ++ [e])
  | [], e => rfl
  | x :: r, e => by simp [flat, ← flat_append r e]

theorem flat_get : ∀ (es : List T0.Ent) (j : Nat), j < es.length → (flat es)[j * 2]? = some (.int .i64 (T0.ent es j).1) ∧ (flat es)[j * 2 + 1]? = some (.string (T0.ent es j).2)
  | [], j, h => by simp at h
  | e :: r, 0, _ => ⟨rfl, rfl⟩
  | e :: r, j + 1, h => by
    have := flat_get r j (by simpa using h)
    have e1 : (j + 1) * 2 = j * 2 + 1 + 1 := by omega
    have e2 : T0.ent (e :: r) (j + 1) = T0.ent r j := rfl
    rw [e1, e2]
    exact this

/-- A row of a call's own. -/
def EBuf (base : Nat) (w : World) (a : Option Addr) (n cap : Nat) (es : List T0.Ent) : Prop := n = es.length ∧ w.ownsRow base 80 2 (.slice a n cap) n (flat es)

variable {base n cap : Nat} {a : Option Addr} {w W : World} {es : List T0.Ent}

theorem EBuf.below (h : EBuf base w a n cap es) (hb : Below w.heap.size w W) : EBuf base W a n cap es := ⟨h.1, F0.owns_below h.2 hb⟩
theorem EBuf.alloc (h : EBuf base w a n cap es) (o : Obj) : EBuf base (w.alloc o) a n cap es := h.below ((Below.refl _ _).alloc (Nat.le_refl _) o)
theorem ebuf_made (w : World) (hb : base ≤ w.heap.size) : EBuf base (w.alloc (.cells #[] 80)) (some ⟨w.heap.size, 0, none⟩) 0 0 [] := ⟨rfl, World.ownsRow_made w #[] 0 hb (Nat.zero_le _) rfl⟩

theorem EBuf.fits (h : EBuf base w a n cap es) : n ≤ cap := by
  rcases h.2.2 with ⟨h0, h1⟩ | ⟨g, c, cur, hv, _, _, hle, _⟩
  · omega
  · simp at hv
    omega

/-- What a call hands out. -/
def OwnE (base : Nat) (W : World) (a : Option Addr) (es : List T0.Ent) : Prop := es = [] ∨ ∃ g, a = some ⟨g, 0, none⟩ ∧ base ≤ g ∧ T5.Mk g es.length es es.length W

theorem EBuf.own (h : EBuf base w a n cap es) : OwnE base w a es := by
  rcases h.2.2 with ⟨h0, h1⟩ | ⟨g, c, cur, hv, hg, hc, hle, _, hs, ht⟩
  · left
    exact List.eq_nil_of_length_eq_zero (by rw [← h.1]; exact h1)
  · right
    simp at hv
    have hcell : ∀ j, w.cell? ⟨g, j, none⟩ = cur[j]? := fun j => by
      unfold World.cell?
      rw [hc]
      simp
    have hn := h.1
    have hget : ∀ j, j < n * 2 → cur[j]? = (flat es)[j]? := fun j hj => by
      have e1 : (cur.toList.take (n * 2))[j]? = (flat es)[j]? := by rw [ht]
      rw [List.getElem?_take_of_lt hj] at e1
      rw [← Array.getElem?_toList, e1]
    refine ⟨g, hv.1, hg, ⟨fun j hj => ?_, fun j hj => ?_, fun j hj => ?_, (Array.getElem?_eq_some_iff.1 hc).1⟩⟩
    · have := flat_get es j hj
      rw [hcell, hcell, hget _ (by omega), hget _ (by omega)]
      exact this
    · rw [hcell]
      have : j < cur.size := by omega
      simp [this]
    · unfold World.frozen?
      rw [hc]
      simp

theorem OwnE.row (h : OwnE base W a es) : T0.Row W a es := by
  rcases h with h | ⟨g, rfl, _, hm⟩
  · exact Or.inl h
  · exact Or.inr ⟨g, 0, rfl, hm.lt, fun j hj => by rw [Nat.zero_add]; exact hm.done j hj⟩
theorem OwnE.below {W' : World} (h : OwnE base W a es) (hb : Below W.heap.size W W') : OwnE base W' a es := h.imp id fun ⟨g, e, hg, hk⟩ => ⟨g, e, hg, hk.below hb⟩
theorem OwnE.mono {base' : Nat} (h : OwnE base W a es) (hb : base' ≤ base) : OwnE base' W a es := h.imp id fun ⟨g, e, hg, hk⟩ => ⟨g, e, Nat.le_trans hb hg, hk⟩

theorem one_ent (u : Int) (v : ByteArray) : ∀ x ∈ [Value.int .i64 u, .string v], x.oneCell' = true := by
  intro x h
  simp at h
  rcases h with rfl | rfl <;> rfl

/-- 'list = append(list, e)'. -/
theorem append_ent {ops : Array Oper} {rest : List Oper} {o : Oper} {A : Act} {Q : Exit → Act → World → Prop} (hgd : o.guard = none) (sl x : Operand)
    (ho : o.op = .call { callee := .builtin .append, args := #[sl, x], argTypes := #[76, 76] })
    (hbuf : EBuf base w a n cap es) (u : Int) (v : ByteArray) (hs : A.eval sl = .slice a n cap) {H : Nat} (hH : w.heap.size = H) (hx : A.eval x = .slice (some ⟨H, 0, none⟩) 1 1) (hlen : n + 1 ≤ 1048576) (hb : base ≤ w.heap.size)
    (h : ∀ g' cap' w', EBuf base w' (some ⟨g', 0, none⟩) (n + 1) cap' (es ++ [(u, v)]) → Below base w w' → wpList Try.prog ops Q rest (A.put o.dst (.slice (some ⟨g', 0, none⟩) (n + 1) cap')) w') : wpList Try.prog ops Q (o :: rest) A (w.alloc (.cells #[.int .i64 u, .string v] 80)) := by
  subst hH
  obtain ⟨i0, hi, hz0, hz1, hz2⟩ := info_parts T5.info33
  have hb2 := hbuf.alloc (.cells #[.int .i64 u, .string v] 80)
  refine wpList_append_lies _ hgd sl x 76 ho base 80 i0 (.agg #[.int .i64 0, .string ⟨#[]⟩]) 2 24 Try.underlying76 hi hz0 hz1 hz2 rfl (by omega) _ n _ hs hb2.2 ⟨w.heap.size, 0, none⟩ 1 1 [.int .i64 u, .string v] hx rfl (World.news_of_block (heap_alloc_new w _)) (one_ent u v) (by omega) (by unfold maxLen; omega) (by omega) (by simp; omega) _ rfl ?_
  intro g' cap' w' ho' hg' _ _
  refine h g' cap' w' ⟨by rw [hbuf.1]; simp, ?_⟩ ?_
  · rw [← flat_append]
    exact ho'
  · exact F0.below_grown ((Below.refl _ _).alloc hb _) hg' (fun g hg => (hbuf.2.lt g hg).1) (by simp; omega)

/-- What GetDir answers. -/
def Ans (s : ByteArray) (w : World) (e : Ending) (w' : World) : Prop :=
  ∃ a c, e = .returned (.tuple #[.slice a (V0.dE s).length c, .bool (V0.isD s)]) ∧ OwnE w.heap.size w' a (V0.dE s) ∧ (V0.dE s).length ≤ c ∧ Below w.heap.size w w'

theorem ans_no {s : ByteArray} {w w' : World} {a : Option Addr} {c : Nat} (h : V0.isD s = false) (hb : Below w.heap.size w w') : Ans s w (.returned (.tuple #[.slice a 0 c, .bool false])) w' := by
  have hd : V0.dE s = [] := by rw [V0.dE, h]; rfl
  exact ⟨a, c, by rw [hd, h]; rfl, by rw [hd]; exact Or.inl rfl, by rw [hd]; exact Nat.zero_le _, hb⟩

theorem ans_yes {s : ByteArray} {w w' : World} {a : Option Addr} {c : Nat} (h : V0.isD s = true) (ho : OwnE w.heap.size w' a (V0.ents s (V0.cnt s))) (hc : V0.cnt s ≤ c) (hb : Below w.heap.size w w') : Ans s w (.returned (.tuple #[.slice a (V0.cnt s) c, .bool true])) w' := by
  have hd : V0.dE s = V0.ents s (V0.cnt s) := by rw [V0.dE, h]; rfl
  exact ⟨a, c, by rw [hd, h, V0.ents_length], by rw [hd]; exact ho, by rw [hd, V0.ents_length]; exact hc, hb⟩

theorem name_size (x : ByteArray) : (E4.eName x).size ≤ x.size := by
  unfold E4.eName
  split
  · exact B2.part_size _ _ _
  · exact Nat.zero_le _

theorem fits_ents (s : ByteArray) (k : Nat) (hs : s.size ≤ 281474976710656) : T0.Fits (V0.ents s k) := fun j hj => by
  rw [V0.ents_length] at hj
  rw [V0.ents_get s k j hj]
  have h1 := name_size (V0.chunk s j)
  have h2 := B2.part_size s ((j : Int) * 16) 16
  have h3 : (V0.chunk s j).size ≤ s.size := h2
  simp only
  omega
end Go.Proofs.Ytddlpejklpljoaa.V1

/- The walk's stack in memory, and the map of what was met. -/
namespace Go.Proofs.Ytddlpejklpljoaa.TW
open Go.ChangeShapes Go.WideShapes Go.ChangeAt Go.RowKit
set_option linter.unusedVariables false
set_option linter.unusedSimpArgs false
set_option maxRecDepth 10000
variable {base g n cap : Nat} {w W W' : World} {d k x : Nat} {R S : List (Nat × Nat)}

def fl : List (Nat × Nat) → List Value
  | [] => []
  | q :: r => .int .i64 (q.1 : Int) :: .int .i64 (q.2 : Int) :: fl r
theorem fl_length : ∀ l : List (Nat × Nat), (fl l).length = l.length * 2
  | [] => rfl
  | q :: r => by simp [fl, fl_length r]; omega
theorem fl_append : ∀ l m : List (Nat × Nat), fl (l ++ m) = fl l ++ fl m
  | [], m => rfl
  | q :: r, m => by simp [fl, fl_append r m]
theorem fl_top (d k : Nat) (R : List (Nat × Nat)) : fl ((d, k) :: R).reverse = fl R.reverse ++ [.int .i64 (d : Int), .int .i64 (k : Int)] := by
  rw [List.reverse_cons, fl_append]
  rfl
theorem fl_rlen (R : List (Nat × Nat)) : (fl R.reverse).length = R.length * 2 := by rw [fl_length, List.length_reverse]

/-- The stack, its top first, in a row of the call's own. -/
def SBuf (base : Nat) (w : World) (g n cap : Nat) (S : List (Nat × Nat)) : Prop := n = S.length ∧ w.ownsRow base 110 2 (.slice (some ⟨g, 0, none⟩) n cap) n (fl S.reverse)

theorem SBuf.kept {row : Option Nat} (h : SBuf base w g n cap S) (hg : w.grownBy W row) (hne : some g ≠ row) : SBuf base W g n cap S := ⟨h.1, h.2.kept hg (Or.inr hne)⟩
theorem SBuf.lt (h : SBuf base w g n cap S) : base ≤ g ∧ g < w.heap.size := h.2.lt g rfl
theorem SBuf.drew (h : SBuf base w g n cap S) : SBuf base w.drew g n cap S := h

theorem SBuf.ino (h : SBuf base w g n cap ((d, k) :: R)) : w.cell? ⟨g, R.length * 2, none⟩ = some (.int .i64 (d : Int)) := by
  have hn : n = R.length + 1 := h.1
  rw [h.2.cellAt (R.length * 2) (by omega), fl_top, List.getElem?_append_right (by rw [fl_rlen]; exact Nat.le_refl _), fl_rlen, Nat.sub_self]
  rfl
theorem SBuf.next (h : SBuf base w g n cap ((d, k) :: R)) : w.cell? ⟨g, R.length * 2 + 1, none⟩ = some (.int .i64 (k : Int)) := by
  have hn : n = R.length + 1 := h.1
  rw [h.2.cellAt (R.length * 2 + 1) (by omega), fl_top, List.getElem?_append_right (by rw [fl_rlen]; omega), fl_rlen, show R.length * 2 + 1 - R.length * 2 = 1 by omega]
  rfl
theorem SBuf.free (h : SBuf base w g n cap S) (j : Nat) : w.frozen? ⟨g, j, none⟩ = false := h.2.frozenAt j
theorem SBuf.put (h : SBuf base w g n cap ((d, k) :: R)) (k' : Nat) : SBuf base (w.setCell ⟨g, R.length * 2 + 1, none⟩ (.int .i64 (k' : Int))) g n cap ((d, k') :: R) := by
  have := (h.2.stored (R.length * 2 + 1) (.int .i64 (k' : Int))).1
  rw [fl_top, List.set_append_right _ _ (by rw [fl_rlen]; omega), fl_rlen, show R.length * 2 + 1 - R.length * 2 = 1 by omega] at this
  refine ⟨h.1, ?_⟩
  rw [fl_top]
  exact this
theorem SBuf.pop (h : SBuf base w g n cap ((d, k) :: R)) : SBuf base w g R.length cap R := by
  have hn : n = R.length + 1 := h.1
  refine ⟨rfl, fl_rlen R, ?_⟩
  rcases h.2.2 with ⟨h', _⟩ | ⟨g', cap', cur, h', hb, hg, hnc, hcm, hcs, ht⟩
  · cases h'
  · cases h'
    refine Or.inr ⟨g, cap, cur, rfl, hb, hg, by omega, hcm, hcs, ?_⟩
    have := congrArg (List.take (R.length * 2)) ht
    rw [List.take_take, fl_top, List.take_left' (fl_rlen R), Nat.min_eq_left (by omega)] at this
    exact this
theorem SBuf.room (h : SBuf base w g n cap S) : n ≤ cap := by
  rcases h.2.2 with ⟨h', _⟩ | ⟨g', cap', cur, h', hb, hg, hnc, hcm, hcs, ht⟩
  · cases h'
  · cases h'
    exact hnc
theorem SBuf.cap_le (h : SBuf base w g n cap S) : cap ≤ maxLen := by
  rcases h.2.2 with ⟨h', _⟩ | ⟨g', cap', cur, h', hb, hg, hnc, hcm, hcs, ht⟩
  · cases h'
  · cases h'
    exact hcm
theorem sbuf_new (w : World) (hb : base ≤ w.heap.size) : SBuf base (w.alloc (.cells #[.int .i64 0, .int .i64 0] 110)) w.heap.size 1 1 [(0, 0)] :=
  ⟨rfl, World.ownsRow_lit w #[.int .i64 0, .int .i64 0] 1 hb (by unfold maxLen; omega) rfl⟩

theorem infoStep : (Try.prog.info? 110).map (fun i => (i.zero, i.size, i.bytes)) = some (some (.agg #[.int .i64 0, .int .i64 0]), 2, 16) := by kernel_rfl

theorem one_step (u v : Int) : ∀ x ∈ [Value.int .i64 u, .int .i64 v], x.oneCell' = true := by
  intro x h
  simp at h
  rcases h with rfl | rfl <;> rfl

/-- 'way = append(way, step{ino: x})'. -/
theorem append_step {ops : Array Oper} {rest : List Oper} {o : Oper} {A : Act} {Q : Exit → Act → World → Prop} (hgd : o.guard = none) (sl y : Operand)
    (ho : o.op = .call { callee := .builtin .append, args := #[sl, y], argTypes := #[111, 111] })
    (hbuf : SBuf base w g n cap S) (x : Nat) (hs : A.eval sl = .slice (some ⟨g, 0, none⟩) n cap) (hx : A.eval y = .slice (some ⟨w.heap.size, 0, none⟩) 1 1) (hlen : n + 1 ≤ 1048576) (hb : base ≤ w.heap.size)
    (h : ∀ g' cap' w', SBuf base w' g' (n + 1) cap' ((x, 0) :: S) → w.grownBy w' (some g) → (g' = g ∨ w.heap.size ≤ g') → wpList Try.prog ops Q rest (A.put o.dst (.slice (some ⟨g', 0, none⟩) (n + 1) cap')) w') : wpList Try.prog ops Q (o :: rest) A (w.alloc (.cells #[.int .i64 (x : Int), .int .i64 0] 110)) := by
  obtain ⟨i0, hi, hz0, hz1, hz2⟩ := info_parts infoStep
  have hb2 := hbuf.2.alloc (.cells #[.int .i64 (x : Int), .int .i64 0] 110)
  refine wpList_append_lies _ hgd sl y 111 ho base 110 i0 (.agg #[.int .i64 0, .int .i64 0]) 2 16 Try.underlying111 hi hz0 hz1 hz2 rfl (by omega) _ n _ hs hb2 ⟨w.heap.size, 0, none⟩ 1 1 [.int .i64 (x : Int), .int .i64 0] hx rfl (World.news_of_block (heap_alloc_new w _)) (one_step (x : Int) 0) (by omega) (by unfold maxLen; omega) (by omega) (by simp; omega) _ rfl ?_
  intro g' cap' w' ho' hg' hl' _
  refine h g' cap' w' ⟨by rw [hbuf.1]; simp, ?_⟩ ((World.grownBy_alloc w _ _).trans hg') ?_
  · rw [fl_top]
    exact ho'
  · rcases hl' with e | e
    · left
      have e' : g = g' := by simpa [Value.ownBlock] using e
      exact e'.symm
    · right
      rw [e]
      simp

theorem keyed : Go.Maps.Keyed Try.prog 3 := Go.Maps.int_keyed Try.underlying3
theorem zeroI (w : World) : (zeroValue 3).run Try.prog w = .ok (.int .i64 0) w := by kernel_rfl

/-- The map of what was met: its keys are those of the stack. -/
structure Met (bm m : Nat) (S : List (Nat × Nat)) (D : DataW Unit) (W : World) : Prop where
  own : W.ownsMap Try.prog 3 (plainElem (H := Unit) Try.prog 3) bm m D
  has : ∀ x : Nat, Maps.has D (.int .i64 (x : Int)) = TR.metIn S x
theorem Met.kept {bm m : Nat} {D : DataW Unit} {row : Option Nat} (h : Met bm m S D w) (hg : w.grownBy W row) (hne : some bm ≠ row) : Met bm m S D W := ⟨h.own.kept hg hne, h.has⟩
theorem Met.top {bm m : Nat} {D : DataW Unit} (h : Met bm m ((d, k) :: R) D w) (k' : Nat) : Met bm m ((d, k') :: R) D w := ⟨h.own, fun x => by rw [h.has x]; rfl⟩
theorem Met.lt {bm m : Nat} {D : DataW Unit} (h : Met bm m S D w) : bm < w.heap.size := by
  obtain ⟨es, clock, hb, _⟩ := h.own
  exact (Array.getElem?_eq_some_iff.1 hb).1

theorem metIn_cons (x k y : Nat) (S : List (Nat × Nat)) : TR.metIn ((x, k) :: S) y = ((x == y) || TR.metIn S y) := rfl
theorem key_ne {x y : Nat} (h : x ≠ y) : Lit.int .i64 (x : Int) ≠ Lit.int .i64 (y : Int) := by
  intro e
  injection e with _ e
  omega

theorem has_put {D : DataW Unit} (hD : Maps.IsMap D) (x : Nat) (v : DataW Unit) (h : ∀ y : Nat, Maps.has D (.int .i64 (y : Int)) = TR.metIn S y) (y : Nat) : Maps.has (D.put (.int .i64 (x : Int)) v) (.int .i64 (y : Int)) = TR.metIn ((x, 0) :: S) y := by
  rw [metIn_cons]
  by_cases e : x = y
  · subst e
    rw [Maps.has_put_same (k := .int .i64 (x : Int)) hD trivial]
    simp
  · rw [Maps.has_put_other (key_ne (fun e' => e e'.symm)), h y]
    simp [e]

theorem has_del {D : DataW Unit} (hnd : (((d, k) :: R).map (·.1)).Nodup) (h : ∀ y : Nat, Maps.has D (.int .i64 (y : Int)) = TR.metIn ((d, k) :: R) y) (y : Nat) : Maps.has (D.del (.int .i64 (d : Int))) (.int .i64 (y : Int)) = TR.metIn R y := by
  by_cases e : d = y
  · subst e
    rw [Maps.has_del_same]
    cases hm : TR.metIn R d with
    | false => rfl
    | true =>
      exfalso
      rw [List.map_cons, List.nodup_cons] at hnd
      obtain ⟨q, hq, he⟩ := List.any_eq_true.1 hm
      exact hnd.1 (List.mem_map.2 ⟨q, hq, by simpa using he⟩)
  · rw [Maps.has_del_other (key_ne (fun e' => e e'.symm)), h y, metIn_cons]
    simp [e]

theorem wf_nat (x : Nat) (h : x ≤ 1048576) : (Lit.int .i64 (x : Int)).wf = true := by
  simp [Lit.wf, IntKind.min, IntKind.max, IntKind.signed, IntKind.bits]
  omega
end Go.Proofs.Ytddlpejklpljoaa.TW

/- The contract of the tree's walk. -/
namespace Go.Proofs.Ytddlpejklpljoaa.TW
open Go.ChangeShapes Go.WideShapes Go.ChangeAt Go.RowKit
set_option linter.unusedVariables false
set_option linter.unusedSimpArgs false
set_option maxRecDepth 10000
variable {B : Nat} {N : Nat → Nd} {F : Nat → Nat} {P : Nat → ByteArray} {w W W' : World} {E : Nat → List T0.Ent}

/-- What is known of the tree's nodes as the walk begins. -/
structure Ns (B : Nat) (N : Nat → Nd) (E : Nat → List T0.Ent) (W : World) : Prop where
  ne : ∀ i, i < 8 → (N i).ne = (E i).length
  row : ∀ i, i < 8 → V1.OwnE (B + 1) W (N i).ae (E i)
  sane : TR.Sane E (fun i => (N i).k)
  few : ∀ i, (E i).length ≤ 12
  short : ∀ i e, e ∈ E i → e.2.size ≤ 14

theorem At_size {k : Nat} {p : ByteArray} {x : Nat} (hs : ∀ i e, e ∈ E i → e.2.size ≤ 14) (h : TR.At E x k p) : p.size ≤ 1 + 15 * k := by
  induction h using TR.At.ind with
  | zero => decide
  | @down d k p x nm _ hm ih =>
    have := hs _ _ hm
    have h1 : (TR.sep d).size ≤ 1 := by
      unfold TR.sep
      split <;> decide
    rw [ByteArray.size_append, ByteArray.size_append]
    simp only at this
    omega

/-- The rows of the nodes, where all but the tree's block is as it was. -/
theorem Ns.row_at (h : Ns B N E w) (hg : w.grownBy W (some B)) {i : Nat} (hi : i < 8) : T0.Row W (N i).ae (E i) := by
  rcases h.row i hi with h0 | ⟨g, e, hb, hk⟩
  · exact Or.inl h0
  · have hrow := (show T0.Row w (N i).ae (E i) from V1.OwnE.row (base := B + 1) (Or.inr ⟨g, e, hb, hk⟩))
    rcases hrow with h0 | ⟨b, off, ha, hlt, hc⟩
    · exact Or.inl h0
    · rw [e] at ha
      cases ha
      refine Or.inr ⟨g, 0, e, Nat.lt_of_lt_of_le hlt hg.size, fun j hj => ?_⟩
      have := hc j hj
      exact ⟨hg.cell this.1 (by simp; omega), hg.cell this.2 (by simp; omega)⟩

theorem gr_then {a b c : World} {row row' : Option Nat} (h : a.grownBy b row) (k : b.grownBy c row') (hr : ∀ j, row' = some j → a.heap.size ≤ j ∨ row = some j) : a.grownBy c row :=
  ⟨k.os.trans h.os, k.tape.trans h.tape, k.output.trans h.output, Nat.le_trans h.size k.size, fun i hi hne => (k.block i (Nat.lt_of_lt_of_le hi h.size) (fun e => by
    rcases hr i e.symm with h1 | h1
    · omega
    · exact hne h1.symm)).trans (h.block i hi hne)⟩
theorem gr_below {a b c : World} {row : Option Nat} (h : a.grownBy b row) (hb : Below a.heap.size b c) : a.grownBy c row :=
  ⟨hb.os.trans h.os, hb.tape.trans h.tape, hb.output.trans h.output, Nat.le_trans h.size hb.size, fun i hi hne => (hb.block i hi).trans (h.block i hi hne)⟩
theorem below_gr {a b : World} {g m : Nat} (h : a.grownBy b (some g)) (hm : m ≤ g) (hs : m ≤ a.heap.size) : Below m a b :=
  ⟨h.os, h.tape, h.output, h.size, fun i hi => h.block i (by omega) (by simp; omega)⟩

theorem blk_gr {a b : World} {g c : Nat} {vs : List Value} (h : K0.Blk c vs a) (hg : a.grownBy b (some g)) (hne : c ≠ g) : K0.Blk c vs b :=
  ⟨fun j hj => hg.cell (h.cell j hj) (by simpa using hne), fun j hj => (World.frozen?_of_block (hg.block c h.lt (by simpa using hne))).trans (h.free j hj), Nat.lt_of_lt_of_le h.lt hg.size⟩

/-- What stands in memory, in the midst of a round. -/
structure Mid (B : Nat) (N : Nat → Nd) (w : World) (g n cap bm m : Nat) (D : DataW Unit) (S : List (Nat × Nat)) (F : Nat → Nat) (P : Nat → ByteArray) (W : World) : Prop where
  tb : Tb B N F P W
  buf : SBuf w.heap.size W g n cap S
  met : Met bm m S D W
  grown : w.grownBy W (some B)
theorem Mid.drew {g n cap bm m : Nat} {D : DataW Unit} {S : List (Nat × Nat)} (h : Mid B N w g n cap bm m D S F P W) : Mid B N w g n cap bm m D S F P W.drew :=
  ⟨h.tb.drew, h.buf, ⟨h.met.own, h.met.has⟩, grown_drew h.grown⟩
theorem Mid.alloc {g n cap bm m : Nat} {D : DataW Unit} {S : List (Nat × Nat)} (h : Mid B N w g n cap bm m D S F P W) (o : Obj) : Mid B N w g n cap bm m D S F P (W.alloc o) :=
  ⟨h.tb.below (K0.below_new W o) h.tb.lt, h.buf.kept (World.grownBy_alloc W o none) (by simp), h.met.kept (World.grownBy_alloc W o none) (by simp), h.grown.trans (World.grownBy_alloc W o _)⟩
theorem Mid.put {g n cap bm m d k : Nat} {D : DataW Unit} {R : List (Nat × Nat)} (h : Mid B N w g n cap bm m D ((d, k) :: R) F P W) (hB : B < w.heap.size) (hne : bm ≠ g) (k' : Nat) : Mid B N w g n cap bm m D ((d, k') :: R) F P (W.setCell ⟨g, R.length * 2 + 1, none⟩ (.int .i64 (k' : Int))) := by
  have hs := (h.buf.2.stored (R.length * 2 + 1) (.int .i64 (k' : Int))).2
  have hl := h.buf.lt
  exact ⟨h.tb.below (below_gr hs hl.1 (Nat.le_of_lt (Nat.lt_of_le_of_lt hl.1 hl.2))) hB, h.buf.put k', (h.met.top k').kept hs (by simpa using hne), gr_then h.grown hs (fun j hj => by cases hj; exact Or.inl hl.1)⟩
theorem Mid.found {g n cap bm m : Nat} {D : DataW Unit} {S : List (Nat × Nat)} {F' : Nat → Nat} {P' : Nat → ByteArray} (h : Mid B N w g n cap bm m D S F P W) (hB : B < w.heap.size) (hbm : w.heap.size ≤ bm) (ht : Tb B N F' P' W') (hg : W.grownBy W' (some B)) : Mid B N w g n cap bm m D S F' P' W' :=
  ⟨ht, h.buf.kept hg (by have := h.buf.lt.1; simp; omega), h.met.kept hg (by simp; omega), h.grown.trans hg⟩

/-- The loops' state: so much is left to do. -/
structure St (B : Nat) (N : Nat → Nd) (E : Nat → List T0.Ent) (w : World) (left : Nat) (g n cap bm : Nat) (S : List (Nat × Nat)) (F : Nat → Nat) (P : Nat → ByteArray) (W : World) : Prop where
  tb : Tb B N F P W
  inv : TR.Inv E (fun i => (N i).k) S F P
  buf : SBuf w.heap.size W g n cap S
  met : ∃ m D, Met bm m S D W ∧ m + left ≤ 281474976710656
  bm : w.heap.size ≤ bm ∧ bm ≠ g
  num : ∀ x, F x + left ≤ 281474976710656
  left : left = TR.left E S
  grown : w.grownBy W (some B)

theorem St.drew {left g n cap bm : Nat} {S : List (Nat × Nat)} (h : St B N E w left g n cap bm S F P W) : St B N E w left g n cap bm S F P W.drew :=
  ⟨h.tb.drew, h.inv, h.buf, by obtain ⟨m, D, h1, h2⟩ := h.met; exact ⟨m, D, ⟨h1.own, h1.has⟩, h2⟩, h.bm, h.num, h.left, grown_drew h.grown⟩

theorem left_le (hf : ∀ i, (E i).length ≤ 12) : ∀ S : List (Nat × Nat), TR.left E S ≤ 13 * 16 ^ 8 * S.length
  | [] => Nat.zero_le _
  | q :: R => by
    have ih := left_le hf R
    have h1 := hf q.1
    have h2 : 16 ^ (8 - (R.length + 1)) ≤ 16 ^ 8 := Nat.pow_le_pow_right (by decide) (by omega)
    have h3 : ((E q.1).length - q.2 + 1) * 16 ^ (8 - (R.length + 1)) ≤ 13 * 16 ^ 8 := Nat.mul_le_mul (by omega) h2
    simp only [TR.left, List.length_cons]
    rw [Nat.mul_succ]
    omega

set_option maxHeartbeats 4000000 in
theorem walk (w : World) (hT : Tb B N (fun _ => 0) (fun _ => ⟨#[]⟩) w) (hN : Ns B N E w) (hK0 : (N 0).k = 2) :
    Calls Try.prog 59 #[.pointer (some ⟨B, 0, none⟩)] w fun e w' => w.grownBy w' (some B) ∧
      ((e = .returned (.bool false) ∧ TR.treeOk E (fun i => (N i).k) = false) ∨ (e = .returned (.bool true) ∧ ∃ F P, Tb B N F P w' ∧ TR.Inv E (fun i => (N i).k) [] F P ∧ ∀ x, F x ≤ 281474976710656)) := by
  have hmm := @run_makeMap Try.prog
  have x0 := hT.pth 0 (by decide)
  have y0 := hT.free 56 (by decide)
  have t1 := hT.setP (i := 0) (by decide) ⟨#[47]⟩
  have g1 : w.grownBy (w.setCell ⟨B, 56, none⟩ (.string ⟨#[47]⟩)) (some B) := Lib.grownBy_setCell _ B 56 _
  have hs1 : (w.setCell ⟨B, 56, none⟩ (.string ⟨#[47]⟩)).heap.size = w.heap.size := by simp [World.setCell]
  have s2 := sbuf_new (base := w.heap.size) (w.setCell ⟨B, 56, none⟩ (.string ⟨#[47]⟩)) (by rw [hs1]; exact Nat.le_refl _)
  have o3 := World.ownsMap_made (H := Unit) ((w.setCell ⟨B, 56, none⟩ (.string ⟨#[47]⟩)).alloc (.cells #[.int .i64 0, .int .i64 0] 110)) Try.prog 3 (plainElem Try.prog 3)
  have hs2 : ((w.setCell ⟨B, 56, none⟩ (.string ⟨#[47]⟩)).alloc (.cells #[.int .i64 0, .int .i64 0] 110)).heap.size = w.heap.size + 1 := by simp
  rw [hs2] at o3
  obtain ⟨w3, hrun3, own3, turn3⟩ := o3.store keyed Try.underlying112 (by unfold maxLen; omega) (key := .int .i64 0) (val := .int .i64 0) (kl := .int .i64 0) (Go.Maps.keyOf_int_mk Try.underlying3 (by decide)) (plainElem_int Try.underlying3 (by decide))
  have st0 : St B N E w (TR.left E [(0, 0)]) w.heap.size 1 1 (w.heap.size + 1) [(0, 0)] (fun _ => 0) (fun i => if i = 0 then ⟨#[47]⟩ else ⟨#[]⟩) w3 := by
    have hl := left_le hN.few [(0, 0)]
    simp only [List.length_cons, List.length_nil] at hl
    have gt := turn3.grown
    have ga := (World.grownBy_alloc (w.setCell ⟨B, 56, none⟩ (.string ⟨#[47]⟩)) (.cells #[.int .i64 0, .int .i64 0] 110) none)
    have gb := (World.grownBy_alloc ((w.setCell ⟨B, 56, none⟩ (.string ⟨#[47]⟩)).alloc (.cells #[.int .i64 0, .int .i64 0] 110)) (.map #[] 0) none)
    have hBw := hT.lt
    refine ⟨?_, TR.start, ?_, ⟨1, _, ⟨own3, ?_⟩, by omega⟩, ⟨by omega, by omega⟩, fun x => by omega, rfl, ?_⟩
    · have h1 : Below (B + 1) (w.setCell ⟨B, 56, none⟩ (.string ⟨#[47]⟩)) w3 := by
        refine ⟨?_, ?_, ?_, ?_, fun k hk => ?_⟩
        · exact gt.os.trans (gb.os.trans ga.os)
        · exact gt.tape.trans (gb.tape.trans ga.tape)
        · exact gt.output.trans (gb.output.trans ga.output)
        · exact Nat.le_trans ga.size (Nat.le_trans gb.size gt.size)
        · rw [gt.block k (by simp; omega) (by simp; omega), gb.block k (by simp; omega) (by simp), ga.block k (by simp; omega) (by simp)]
      exact t1.below h1 (by omega)
    · have := (s2.kept gb (by simp)).kept gt (by rw [hs1]; simp)
      rw [hs1] at this
      exact this
    · intro x
      exact has_put (S := []) Maps.isMap_empty 0 _ (fun y => rfl) x
    · exact gr_then ((g1.trans (World.grownBy_alloc _ _ _)).trans (World.grownBy_alloc _ _ _)) gt (fun j hj => by cases hj; left; omega)
  clear own3 turn3 o3 s2 t1 g1 hs1 hs2
  go_enter Try.func59, Try.ntmps59
  go_wp2
  go_step3
  go_wp2
  go_step3
  go_wp2
  have hT0 := hT.lt
  clear hrun3 hmm x0 y0 hT
  go_loopg [3] (TR.left E [(0, 0)]) (fun gk v wx => ∃ (g n cap : Nat) (S : List (Nat × Nat)) (F : Nat → Nat) (P : Nat → ByteArray), v = .slice (some ⟨g, 0, none⟩) n cap ∧ St B N E w gk g n cap (w.heap.size + 1) S F P wx)
  case atStart => exact ⟨_, _, _, _, _, _, rfl, st0⟩
  case round =>
    obtain ⟨g, n, cap, S, F, P, rfl, st⟩ := hrel
    clear st0
    obtain ⟨go, rfl⟩ : ∃ go, go = gk := ⟨_, rfl⟩
    obtain ⟨wo, rfl⟩ : ∃ wo, wo = wr := ⟨_, rfl⟩
    cases S with
    | nil =>
      have hn : n = 0 := st.buf.1
      subst hn
      go_wp2
      try rw [Exit.noGoto_ret]
      go_ret
      exact ⟨st.grown, Or.inr ⟨rfl, F, P, st.tb, st.inv, fun x => Nat.le_trans (Nat.le_add_right _ _) (st.num x)⟩⟩
    | cons q R =>
      obtain ⟨d, k⟩ := q
      have hn : n = R.length + 1 := st.buf.1
      subst hn
      have hd := (st.inv.lt (d, k) (by simp)).1
      have hBw := hT0
      have i0 := st.buf.ino
      have e0 := st.tb.ents hd
      rw [hN.ne d hd] at e0
      obtain ⟨ae, hae⟩ : ∃ ae, (N d).ae = ae := ⟨_, rfl⟩
      have HAE : Hid ((N d).ae = ae) := hae
      rw [hae] at e0
      clear hae
      have hlen := st.inv.len
      simp only [List.length_cons] at hlen
      have a1 : (0 : Int) < ((R.length + 1 : Nat) : Int) := by omega
      have a2 : IntKind.i64.wrap (((R.length + 1 : Nat) : Int) - 1) = (R.length : Int) := by rw [IntKind.wrap_i64]; omega
      have a3 : (0 : Int) ≤ (R.length : Int) := by omega
      have a4 : (R.length : Int) < ((R.length + 1 : Nat) : Int) := by omega
      have a5 : (0 : Int) ≤ (d : Int) := by omega
      have a6 : (d : Int) < 8 := by omega
      go_wp2
      go_region
      go_wp2
      clear i0 e0 a1 a2
      go_loopg [3] go (fun gj v wx => ∃ (k : Nat) (F : Nat → Nat) (P : Nat → ByteArray), gj ≤ go ∧ v = .slice (some ⟨g, 0, none⟩) (R.length + 1) cap ∧ St B N E w gj g (R.length + 1) cap (w.heap.size + 1) ((d, k) :: R) F P wx)
      case atStart => exact ⟨k, F, P, Nat.le_refl _, rfl, st.drew⟩
      case round =>
        clear st
        obtain ⟨k, F, P, hle, rfl, st⟩ := hrel
        obtain ⟨m, D, hmet, hml⟩ := st.met
        have mid0 : Mid B N w g (R.length + 1) cap (w.heap.size + 1) m D ((d, k) :: R) F P wr := ⟨st.tb, st.buf, hmet, st.grown⟩
        have n0 := st.buf.next
        have hbm := st.bm
        by_cases hk : k < (E d).length
        · have hmem := TR.mem_ent hk
          have hin := hN.sane.ino d _ hmem
          have hsh := hN.short d _ hmem
          have hrow := hN.row_at st.grown hd
          rw [HAE.out] at hrow
          obtain ⟨b, off, hab, hbl, hc⟩ := hrow.get hk
          subst hab
          have x1 := (hc k hk).1
          have x2 := (hc k hk).2
          obtain ⟨x, hx⟩ : ∃ x : Nat, (T0.ent (E d) k).1 = (x : Int) := ⟨(T0.ent (E d) k).1.toNat, by omega⟩
          obtain ⟨nm, hnm⟩ : ∃ nm, (T0.ent (E d) k).2 = nm := ⟨_, rfl⟩
          have HX : Hid ((T0.ent (E d) k).1 = (x : Int)) := hx
          have HM : Hid ((T0.ent (E d) k).2 = nm) := hnm
          rw [hx] at x1 hin
          rw [hnm] at x2 hsh
          clear hx hnm hc hrow hmem hbl
          have mid1 := mid0.alloc (.cells #[.int .i64 (x : Int), .string nm] 80)
          have mid2 := mid1.put hBw hbm.2 (k + 1)
          have eC : (((k + 1 : Nat)) : Int) = (k : Int) + 1 := by omega
          rw [eC] at mid2
          have be := K0.blk_new [.int .i64 (x : Int), .string nm] wr 80
          have be2 := be.setOther (B' := g) (by have := st.buf.lt; omega) (R.length * 2 + 1) (.int .i64 ((k : Int) + 1))
          have c0 := be.c0
          have c1 := be.c1
          have c2 := be2.c0
          have c3 := be2.c1
          have n1 := mid1.buf.next
          have f1 := mid1.buf.free (R.length * 2 + 1)
          have p1 := mid1.buf.ino
          have p2 := mid2.buf.ino
          have b1 : (0 : Int) ≤ (k : Int) := by omega
          have b2 : (k : Int) < ((E d).length : Int) := by omega
          have b3 : IntKind.i64.wrap ((k : Int) + 1) = (k : Int) + 1 := by
            have := hN.few d
            rw [IntKind.wrap_i64]
            omega
          have hkey : keyOf Try.prog 3 (.int .i64 (x : Int)) = some (.int .i64 (x : Int)) := Go.Maps.keyOf_int_mk Try.underlying3 (wf_nat x (by omega))
          have hown2 := mid2.met.own
          have hhas := hmet.has x
          cases hm : TR.metIn ((d, k) :: R) x with
          | true =>
            rw [hm] at hhas
            have HB : Hid (TR.treeOk E (fun i => (N i).k) = false) := st.inv.back hN.sane hk HX.out hm
            have HG : Hid (w.grownBy ((wr.alloc (.cells #[.int .i64 (x : Int), .string nm] 80)).setCell ⟨g, R.length * 2 + 1, none⟩ (.int .i64 ((k : Int) + 1))) (some B)) := mid2.grown
            clear mid0 mid1 mid2 be be2 st hmet hN hm
            go_wp2_with (at_lookup; refine wpList_lookup_own_ok_int _ rfl _ _ 112 rfl 3 3 .i64 keyed Try.underlying112 Try.underlying3 (zeroI _) (w.heap.size + 1) m D rfl hown2 _ _ rfl hkey ?_; intro c hat hwc)
            try rw [Exit.noGoto_ret]
            go_ret
            exact ⟨HG.out, Or.inl ⟨rfl, HB.out⟩⟩
          | false =>
            rw [hm] at hhas
            have hx8 : x < 8 := by omega
            have hl0 : 0 < gk := by
              rw [st.left]
              exact Nat.lt_of_le_of_lt (Nat.zero_le _) TR.left_pop
            have hFx : F x < 281474976710656 := by have := st.num x; omega
            have hPd : (P d).size ≤ 281474976710656 := by
              have := At_size hN.short (st.inv.atS [] (d, k) R rfl)
              simp only at this
              omega
            have mid2d := mid2.drew
            have hBG : wr.heap.size ≠ B := by have := st.tb.lt; omega
            have HGL : Hid ((w.heap.size ≤ g ∧ g < wr.heap.size) ∧ w.heap.size + 1 < wr.heap.size) := ⟨st.buf.lt, hmet.lt⟩
            have HF : Hid (∀ W, Tb B N F P W → Calls Try.prog 81 #[.pointer (some ⟨B, 0, none⟩), .int .i64 (d : Int), .agg #[.int .i64 (x : Int), .string nm]] W fun e w' => e = .returned (.tuple #[]) ∧ Tb B N (TR.upF F x) (TR.upP P x (P d ++ TR.sep d ++ nm)) w' ∧ W.grownBy w' (some B)) := fun W h => find d x nm W h hd hx8 hFx hPd (by omega)
            have HI : Hid (TR.Inv E (fun i => (N i).k) ((d, k) :: R) F P ∧ TR.metIn ((d, k) :: R) x = false ∧ gk = TR.left E ((d, k) :: R) ∧ ∀ y, F y + gk ≤ 281474976710656) := ⟨st.inv, hm, st.left, st.num⟩
            have be2d := be2.drew
            have HN : Hid (Ns B N E w) := hN
            clear mid0 mid1 mid2 be be2 st hmet hm hPd hFx hN
            go_wp2_with (at_lookup; refine wpList_lookup_own_ok_int _ rfl _ _ 112 rfl 3 3 .i64 keyed Try.underlying112 Try.underlying3 (zeroI _) (w.heap.size + 1) m D rfl hown2 _ _ rfl hkey ?_; intro c hat hwc)
            clear hown2 x1 x2 n0 n1 f1 b1 b2 b3
            have hS2 : ((wr.alloc (.cells #[.int .i64 (x : Int), .string nm] 80)).setCell ⟨g, R.length * 2 + 1, none⟩ (.int .i64 ((k : Int) + 1))).drew.cell? ⟨g, R.length * 2, none⟩ = some (.int .i64 (d : Int)) ∧ ((wr.alloc (.cells #[.int .i64 (x : Int), .string nm] 80)).setCell ⟨g, R.length * 2 + 1, none⟩ (.int .i64 ((k : Int) + 1))).drew.cell? ⟨wr.heap.size, 0, none⟩ = some (.int .i64 (x : Int)) ∧ ((wr.alloc (.cells #[.int .i64 (x : Int), .string nm] 80)).setCell ⟨g, R.length * 2 + 1, none⟩ (.int .i64 ((k : Int) + 1))).drew.cell? ⟨wr.heap.size, 1, none⟩ = some (.string nm) := ⟨mid2d.buf.ino, be2d.c0, be2d.c1⟩
            go_region_held3 (fun W => W.cell? ⟨g, R.length * 2, none⟩ = some (.int .i64 (d : Int)) ∧ W.cell? ⟨wr.heap.size, 0, none⟩ = some (.int .i64 (x : Int)) ∧ W.cell? ⟨wr.heap.size, 1, none⟩ = some (.string nm)) (assumption) ((go_at_call 81; refine (HF.out _ mid2d.tb).mono ?_; rintro e w3 ⟨rfl, t3, g3⟩; have mid3 := mid2d.found hBw hbm.1 t3 g3; have be3 := blk_gr be2d g3 hBG; have hS3 : w3.cell? ⟨g, R.length * 2, none⟩ = some (.int .i64 (d : Int)) ∧ w3.cell? ⟨wr.heap.size, 0, none⟩ = some (.int .i64 (x : Int)) ∧ w3.cell? ⟨wr.heap.size, 1, none⟩ = some (.string nm) := ⟨mid3.buf.ino, be3.c0, be3.c1⟩))
            have hkd := mid3.tb.kind hx8
            have q0 := be3.c0
            have x5 : (0 : Int) ≤ (x : Int) := by omega
            have x6 : (x : Int) < 8 := by omega
            obtain ⟨kx, hkx⟩ : ∃ kx, (N x).k = kx := ⟨_, rfl⟩
            have HKX : Hid ((N x).k = kx) := hkx
            rw [hkx] at hkd
            clear hkx hS2 hS3 mid2d be2d HF c0 c1 c2 c3 p1 p2 hhas g3 t3
            obtain ⟨I1, I2, I3, I4⟩ := HI.out
            obtain ⟨F', eF⟩ : ∃ F', TR.upF F x = F' := ⟨_, rfl⟩
            obtain ⟨P', eP⟩ : ∃ P', TR.upP P x (P d ++ TR.sep d ++ nm) = P' := ⟨_, rfl⟩
            have hup : ∀ y, F' y ≤ F y + 1 := fun y => by
              rw [← eF, TR.upF]
              split <;> omega
            rw [eF, eP] at mid3
            by_cases hK : kx = 2
            · have HJ : Hid (TR.Inv E (fun i => (N i).k) ((x, 0) :: (d, k + 1) :: R) F' P' ∧ TR.left E ((x, 0) :: (d, k + 1) :: R) < gk) := by
                refine ⟨?_, ?_⟩
                · have := I1.dir hk HX.out I2 (show (N x).k = 2 from HKX.out.trans hK) (by omega) hx8
                  rw [HM.out, eF, eP] at this
                  exact this
                · rw [I3]
                  refine TR.left_dir hk (Nat.le_trans (HN.out.few x) (by decide)) ?_
                  have := (I1.dir hk HX.out I2 (show (N x).k = 2 from HKX.out.trans hK) (by omega) hx8).len
                  simpa using this
              have HL : Hid (m + gk ≤ 281474976710656 ∧ ∀ y, F y + gk ≤ 281474976710656) := ⟨hml, I4⟩
              have hm48 : m < maxLen := by unfold maxLen; omega
              have mid3d := (mid3.drew).drew
              have hown3 := mid3.met.own
              have hwf : (Lit.int .i64 ((R.length : Int) + 1)).wf = true := wf_nat (R.length + 1) (by omega)
              clear I1 I2 I3 I4 eF eP
              subst hK
              go_wp2
              go_region
              have hown4 : ((w3.drew).ownsMap Try.prog 3 (plainElem (H := Unit) Try.prog 3) (w.heap.size + 1) m D) := hown3
              go_wp2_with (first
                | (at_mapUpdate; refine wpList_mapUpdate_in _ rfl _ _ _ 112 rfl 3 3 keyed Try.underlying112 _ (w.heap.size + 1) m D rfl hown4 hm48 _ _ _ rfl rfl hkey _ [] (plainElem_int Try.underlying3 hwf) ?_; intro w4 own4 turn4; have be4 := blk_gr be3.drew turn4.grown (by have := HGL.out; omega); have q4 := be4.c0; have buf4 := (mid3.buf.drew).kept turn4.grown (by simpa using hbm.2.symm))
                | (at_builtin; refine append_step rfl (.tmp 87) (.tmp 91) rfl buf4 x (by rfl) (by rfl) (by omega) (by have := HGL.out; have := turn4.grown.size; have := buf4.lt; omega) ?_; intro g5 cap5 w5 buf5 gr5 hl5))
              clear hown3 hown4 q0 q4 hkd
              have HO := HJ.out
              go_roundg (TR.left E ((x, 0) :: (d, k + 1) :: R))
              case measure => omega
              case rel =>
                have hL := HL.out
                have hG := HGL.out
                have hlt5 : (w.heap.size : Nat) + 1 ≠ g5 := by
                  rcases hl5 with e | e
                  · rw [e]
                    exact hbm.2
                  · have h1 := turn4.grown.size
                    have h2 := be3.lt
                    have h3 : w3.drew.heap.size = w3.heap.size := rfl
                    omega
                have t4 := mid3.tb.drew.below (below_gr turn4.grown (m := w.heap.size) (by omega) (by have h2 := be3.lt; have h3 : w3.drew.heap.size = w3.heap.size := rfl; omega)) hBw
                have t5 := t4.below (below_gr gr5 (m := w.heap.size) hG.1.1 (by have h1 := turn4.grown.size; have h2 := be3.lt; have h3 : w3.drew.heap.size = w3.heap.size := rfl; omega)) hBw
                exact ⟨g5, R.length + 1 + 1, cap5, (x, 0) :: (d, k + 1) :: R, F', P', rfl, ⟨t5, HO.1, buf5, ⟨m + 1, _, ⟨own4.kept gr5 (by simpa using hbm.2), has_put mid3.met.own.isMap x _ mid3.met.has⟩, by omega⟩, ⟨hbm.1, hlt5⟩, fun y => by have := hL.2 y; have := hup y; omega, rfl, gr_then (gr_then (grown_drew mid3.grown) turn4.grown (fun j hj => by cases hj; left; omega)) gr5 (fun j hj => by cases hj; exact Or.inl hG.1.1)⟩⟩
            · have HJ : Hid (TR.Inv E (fun i => (N i).k) ((d, k + 1) :: R) F' P' ∧ TR.left E ((d, k + 1) :: R) < gk) := by
                refine ⟨?_, ?_⟩
                · have := I1.file hk HX.out I2 (show ¬ (N x).k = 2 from fun e => hK (HKX.out.symm.trans e)) (by omega)
                  rw [HM.out, eF, eP] at this
                  exact this
                · rw [I3]
                  exact TR.left_file hk
              have HL : Hid (m + gk ≤ 281474976710656 ∧ ∀ y, F y + gk ≤ 281474976710656) := ⟨hml, I4⟩
              have hK' : (kx == 2) = false := by simpa using hK
              clear I1 I2 I3 I4 eF eP
              go_wp2
              go_region
              go_wp2
              have HO := HJ.out
              go_roundg (TR.left E ((d, k + 1) :: R))
              case measure => omega
              case rel =>
                have hL := HL.out
                exact ⟨k + 1, F', P', by omega, rfl, ⟨mid3.tb.drew, HO.1, mid3.buf.drew, ⟨m, D, ⟨mid3.met.own, mid3.met.has⟩, by omega⟩, hbm, fun y => by have := hL.2 y; have := hup y; omega, rfl, grown_drew mid3.grown⟩⟩
        · have b2 : ¬ ((k : Int) < ((E d).length : Int)) := by omega
          have i1 := st.buf.ino
          have hkey : keyOf Try.prog 3 (.int .i64 (d : Int)) = some (.int .i64 (d : Int)) := Go.Maps.keyOf_int_mk Try.underlying3 (wf_nat d (by omega))
          have hown := hmet.own
          have hcap := st.buf.room
          have c1 : (R.length : Int) ≤ (cap : Int) := by omega
          have c2 : IntKind.i64.wrap (((R.length + 1 : Nat) : Int) - 1) = (R.length : Int) := by rw [IntKind.wrap_i64]; omega
          have HS : Hid (St B N E w gk g (R.length + 1) cap (w.heap.size + 1) ((d, k) :: R) F P wr) := st
          have HM : Hid (Met (w.heap.size + 1) m ((d, k) :: R) D wr ∧ m + gk ≤ 281474976710656) := ⟨hmet, hml⟩
          clear mid0 st hmet hml hN
          go_wp2_with (at_delete; refine wpList_delete_own _ rfl _ _ 112 3 rfl 3 keyed Try.underlying112 _ (w.heap.size + 1) m D rfl hown _ _ rfl hkey ?_; intro w1 own1 turn1)
          have hs := HS.out
          have hl := hs.left
          have hp : TR.left E R < TR.left E ((d, k) :: R) := TR.left_pop
          go_roundg (TR.left E R)
          case measure => omega
          case rel =>
            have hm' := HM.out
            have hBl := hm'.1.lt
            refine ⟨g, R.length, cap, R, F, P, rfl, ⟨hs.tb.below (below_gr turn1.grown (m := w.heap.size) (by omega) (by omega)) hBw, hs.inv.pop hk, hs.buf.pop.kept turn1.grown (by simpa using hbm.2.symm), ⟨m, _, ⟨own1, has_del hs.inv.nodup hm'.1.has⟩, by omega⟩, hbm, fun y => by have := hs.num y; omega, rfl, gr_then hs.grown turn1.grown (fun j hj => by cases hj; left; omega)⟩⟩
end Go.Proofs.Ytddlpejklpljoaa.TW

/- Plain facts on lists of pages; rows of integers in memory. -/
namespace Go.Proofs.Ytddlpejklpljoaa.P0
open Go.RowKit
set_option linter.unusedVariables false
set_option linter.unusedSimpArgs false

/-- Whether a number is among some. -/
def has (l : List Int) (x : Int) : Bool := l.contains x

/-- The number at a place is a data page that does not stand ahead of it. -/
def okAt (zs : List Int) (i : Nat) : Bool := B1.inB (zs.getD i 0) 5 23 && !(has (zs.take i) (zs.getD i 0))

/-- The first numbers are data pages, no two alike. -/
def okUpto (zs : List Int) (k : Nat) : Bool := (List.range k).all (okAt zs)

def pagesOk (zs : List Int) : Bool := okUpto zs zs.length

theorem okUpto_succ (zs : List Int) (k : Nat) : okUpto zs (k + 1) = (okUpto zs k && okAt zs k) := by
  simp [okUpto, List.range_succ]

theorem okUpto_bad {zs : List Int} {k n : Nat} (hk : k < n) (h : okAt zs k = false) : okUpto zs n = false := by
  rw [okUpto, List.all_eq_false]
  exact ⟨k, List.mem_range.2 hk, by rw [h]; decide⟩

theorem getD_get (zs : List Int) (k : Nat) (h : k < zs.length) : zs.getD k 0 = zs[k] := by simp [List.getD, h]

theorem contains_succ (zs : List Int) (k : Nat) (x : Int) (h : k < zs.length) : has (zs.take (k + 1)) x = (has (zs.take k) x || x == zs.getD k 0) := by
  unfold has
  rw [List.take_succ_eq_append_getElem h, List.contains_eq_any_beq, List.contains_eq_any_beq, List.any_append, getD_get _ _ h]
  simp

theorem contains_of {zs : List Int} {k n : Nat} (hk : k < n) (hn : n ≤ zs.length) : has (zs.take n) (zs.getD k 0) = true := by
  unfold has
  rw [List.contains_iff_mem]
  rw [getD_get _ _ (by omega)]
  exact List.mem_iff_getElem.2 ⟨k, by simp; omega, by simp⟩

/-- How many pages hold so many bytes. -/
def need (s : Int) : Int := (s + 31) / 32

/-- A slice's place holds these numbers; nothing is said of it where there are none. -/
def Row (W : World) (a : Option Addr) (zs : List Int) : Prop := zs = [] ∨ ∃ b off, a = some ⟨b, off, none⟩ ∧ b < W.heap.size ∧ ∀ j, j < zs.length → W.cell? ⟨b, off + j, none⟩ = some (.int .i64 (zs.getD j 0))

theorem Row.below {W W' : World} {a : Option Addr} {zs : List Int} (h : Row W a zs) (hb : Below W.heap.size W W') : Row W' a zs := by
  rcases h with h | ⟨b, off, ha, hlt, hc⟩
  · exact Or.inl h
  · exact Or.inr ⟨b, off, ha, Nat.lt_of_lt_of_le hlt hb.size, fun j hj => (hb.cell (p := ⟨b, off + j, none⟩) hlt).trans (hc j hj)⟩

theorem Row.alloc {W : World} {a : Option Addr} {zs : List Int} (h : Row W a zs) (o : Obj) : Row (W.alloc o) a zs := h.below ((Below.refl _ _).alloc (Nat.le_refl _) o)
theorem Row.drew {W : World} {a : Option Addr} {zs : List Int} (h : Row W a zs) : Row W.drew a zs := h
theorem Row.drewN {W : World} {a : Option Addr} {zs : List Int} (h : Row W a zs) (n : Nat) : Row (W.drewN n) a zs := h

theorem Row.get {W : World} {a : Option Addr} {zs : List Int} {k : Nat} (h : Row W a zs) (hk : k < zs.length) : ∃ b off, a = some ⟨b, off, none⟩ ∧ b < W.heap.size ∧ ∀ j, j < zs.length → W.cell? ⟨b, off + j, none⟩ = some (.int .i64 (zs.getD j 0)) := by
  rcases h with h | h
  · subst h
    simp at hk
  · exact h
end Go.Proofs.Ytddlpejklpljoaa.P0

/- Contracts of spec.l02Has, spec.l03Pages, spec.l03Need, impl.pagesOk and impl.pagesFor, as the given laws call them. -/
namespace Go.Proofs.Ytddlpejklpljoaa.P1
open Go.ChangeShapes Go.WideShapes Go.ChangeAt Go.RowKit
set_option linter.unusedVariables false
set_option linter.unusedSimpArgs false
set_option maxRecDepth 10000

theorem ret_bool {a b : Bool} (h : a = b) : Ending.returned (.bool a) = .returned (.bool b) := by rw [h]

theorem l02Has (b off n c : Nat) (zs : List Int) (x : Int) (w : World) (hz : n ≤ zs.length) (hbig : n ≤ 281474976710656) (hc : ∀ j, j < zs.length → w.cell? ⟨b, off + j, none⟩ = some (.int .i64 (zs.getD j 0))) :
    Calls Try.prog 49 #[.slice (some ⟨b, off, none⟩) n c, .int .i64 x] w fun e w' => e = .returned (.bool (P0.has (zs.take n) x)) ∧ w' = w := by
  go_enter Try.func49, Try.ntmps49
  go_wp2
  go_loop [5] (fun i => ∃ k : Nat, k ≤ n ∧ P0.has (zs.take k) x = false ∧ i = .int .i64 k) (fun i => n - (intOf i).toNat)
  case atStart => exact ⟨0, Nat.zero_le _, rfl, rfl⟩
  case round =>
    obtain ⟨k, hk, hno, rfl⟩ := hrel
    by_cases hlt : k < n
    · have x1 := hc k (by omega)
      have hs := P0.contains_succ zs k x (by omega)
      have hin := fun h : x = zs.getD k 0 => h ▸ P0.contains_of (zs := zs) hlt hz
      obtain ⟨z, ez⟩ : ∃ z, zs.getD k 0 = z := ⟨_, rfl⟩
      rw [ez] at x1 hs hin
      have e1 : (0 : Int) ≤ (k : Int) := by omega
      have e2 : (k : Int) < (n : Int) := by omega
      by_cases h : z = x
      · have h' : (z == x) = true := by simpa using h
        have HR : Hid (P0.has (zs.take n) x = true) := hin h.symm
        clear h hs hin hno ez hc
        go_wp2
        go_ret
        exact ⟨ret_bool HR.out.symm, rfl⟩
      · have h' : (z == x) = false := by simpa using h
        have HN : Hid (P0.has (zs.take (k + 1)) x = false) := by
          rw [hs, hno, show (x == z) = false by simpa using fun q : x = z => h q.symm]
          rfl
        clear h hs hin hno ez hc
        go_wp2
        go_round
        case rel => exact ⟨k + 1, by omega, HN.out, by go_num⟩
        case measure => simp [intOf]; omega
    · obtain rfl : k = n := by omega
      have HN : Hid (P0.has (zs.take k) x = false) := hno
      clear hno hc
      go_wp2
      go_ret
      exact ⟨ret_bool HN.out.symm, rfl⟩

theorem quiet_bool {P : Program} {f : FuncId} {args : Array Value} {w : World} {n : Nat} {a b : Bool} (h : Calls P f args (w.drewN n) fun e w' => e = .returned (.bool a) ∧ w' = w.drewN n) (hab : a = b) :
    Calls P f args (w.drewN n) fun e w'' => e = .returned (.bool b) ∧ ∃ m, w'' = w.drewN m := hab ▸ Calls.quiet_of_same h

set_option maxHeartbeats 1000000 in
theorem l03Pages (a : Option Addr) (c : Nat) (zs : List Int) (w : World) (hbig : zs.length ≤ 281474976710656) (hcap : zs.length ≤ c) (hR : P0.Row w a zs) :
    Calls Try.prog 29 #[.slice a zs.length c] w fun e w' => e = .returned (.bool (P0.pagesOk zs)) ∧ ∃ n, w' = w.drewN n := by
  go_enter Try.func29, Try.ntmps29
  go_wp2
  go_loopw [3] (fun i w' => ∃ k n : Nat, k ≤ zs.length ∧ P0.okUpto zs k = true ∧ i = .int .i64 k ∧ w' = w.drewN n) (fun i _ => zs.length - (intOf i).toNat)
  case atStart => exact ⟨0, 0, Nat.zero_le _, rfl, rfl, rfl⟩
  case round =>
    obtain ⟨k, n, hk, hok, rfl, hW⟩ := hrel
    have HW : Hid (∀ m, ∃ m', wr.drewN m = w.drewN m') := fun m => ⟨n + m, by rw [hW, World.drewN_drewN]⟩
    by_cases hlt : k < zs.length
    · have hR' : P0.Row wr a zs := by rw [hW]; exact hR.drewN n
      obtain ⟨b, off, rfl, hb, hc⟩ := hR'.get hlt
      have hH : Hid (∀ m x, Calls Try.prog 49 #[.slice (some ⟨b, off, none⟩) k c, .int .i64 x] (wr.drewN m) fun e w' => e = .returned (.bool (P0.has (zs.take k) x)) ∧ w' = wr.drewN m) := fun m x => l02Has b off k c zs x _ (by omega) (by omega) hc
      have x1 := hc k hlt
      have hs := P0.okUpto_succ zs k
      have hat : P0.okAt zs k = (B1.inB (zs.getD k 0) 5 23 && !(P0.has (zs.take k) (zs.getD k 0))) := rfl
      obtain ⟨z, ez⟩ : ∃ z, zs.getD k 0 = z := ⟨_, rfl⟩
      rw [ez] at x1 hat
      have e1 : (0 : Int) ≤ (k : Int) := by omega
      have e2 : (k : Int) < (zs.length : Int) := by omega
      have e3 : (k : Int) ≤ (c : Int) := by omega
      by_cases h1 : B1.inB z 5 23 = true
      · by_cases h2 : P0.has (zs.take k) z = true
        · have HR : Hid (P0.pagesOk zs = false) := P0.okUpto_bad hlt (by rw [hat, h1, h2]; rfl)
          clear hs hat hok ez hc hR hR' hW
          go_wp2
          go_quiet ((first | (go_at_call 43; exact quiet_bool (B1.l01In_any _ _ _ _) h1) | (go_at_call 49; exact quiet_bool (hH.out _ _) h2)))
          go_wp2
          go_ret
          exact ⟨ret_bool HR.out.symm, HW.out _⟩
        · have h2' : P0.has (zs.take k) z = false := by simpa using h2
          have HO : Hid (P0.okUpto zs (k + 1) = true) := by rw [hs, hok, hat, h1, h2']; rfl
          clear hs hat hok ez hc hR hR' hW h2
          go_wp2
          go_quiet ((first | (go_at_call 43; exact quiet_bool (B1.l01In_any _ _ _ _) h1) | (go_at_call 49; exact quiet_bool (hH.out _ _) h2')))
          go_wp2
          obtain ⟨m', hm'⟩ := HW.out nq
          go_roundw
          case rel => exact ⟨k + 1, m', by omega, HO.out, by go_num, hm'⟩
          case measure => simp [intOf]; omega
      · have h1' : B1.inB z 5 23 = false := by simpa using h1
        have HR : Hid (P0.pagesOk zs = false) := P0.okUpto_bad hlt (by rw [hat, h1']; rfl)
        clear hs hat hok ez hc hR hR' hW h1
        go_wp2
        go_quiet ((go_at_call 43; exact quiet_bool (B1.l01In_any _ _ _ _) h1'))
        go_wp2
        go_ret
        exact ⟨ret_bool HR.out.symm, HW.out _⟩
    · obtain rfl : k = zs.length := by omega
      have HR : Hid (P0.pagesOk zs = true) := hok
      have HW0 : Hid (wr = w.drewN n) := hW
      clear hok hR hW
      go_wp2
      go_ret
      exact ⟨ret_bool HR.out.symm, n, HW0.out⟩

theorem impl_Contains (b off n c : Nat) (zs : List Int) (x : Int) (w : World) (hz : n ≤ zs.length) (hbig : n ≤ 281474976710656) (hc : ∀ j, j < zs.length → w.cell? ⟨b, off + j, none⟩ = some (.int .i64 (zs.getD j 0))) :
    Calls Try.prog 138 #[.slice (some ⟨b, off, none⟩) n c, .int .i64 x] w fun e w' => e = .returned (.bool (P0.has (zs.take n) x)) ∧ w' = w :=
  Try.slices_Contains_int b off n c zs x w hz (by omega) hc

set_option maxHeartbeats 1000000 in
theorem pagesOk (a : Option Addr) (c : Nat) (zs : List Int) (w : World) (hbig : zs.length ≤ 281474976710656) (hcap : zs.length ≤ c) (hR : P0.Row w a zs) :
    Calls Try.prog 132 #[.slice a zs.length c] w fun e w' => e = .returned (.bool (P0.pagesOk zs)) ∧ w' = w := by
  go_enter Try.func132, Try.ntmps132
  go_wp2
  go_loop [7] (fun i => ∃ k : Nat, k ≤ zs.length ∧ P0.okUpto zs k = true ∧ i = .int .i64 k) (fun i => zs.length - (intOf i).toNat)
  case atStart => exact ⟨0, Nat.zero_le _, rfl, rfl⟩
  case round =>
    obtain ⟨k, hk, hok, rfl⟩ := hrel
    by_cases hlt : k < zs.length
    · obtain ⟨b, off, rfl, hb, hc⟩ := hR.get hlt
      have hH : Hid (∀ x, Calls Try.prog 138 #[.slice (some ⟨b, off, none⟩) k c, .int .i64 x] w fun e w' => e = .returned (.bool (P0.has (zs.take k) x)) ∧ w' = w) := fun x => impl_Contains b off k c zs x _ (by omega) (by omega) hc
      have x1 := hc k hlt
      have hs := P0.okUpto_succ zs k
      have hat : P0.okAt zs k = (B1.inB (zs.getD k 0) 5 23 && !(P0.has (zs.take k) (zs.getD k 0))) := rfl
      obtain ⟨z, ez⟩ : ∃ z, zs.getD k 0 = z := ⟨_, rfl⟩
      rw [ez] at x1 hat
      have e1 : (0 : Int) ≤ (k : Int) := by omega
      have e2 : (k : Int) < (zs.length : Int) := by omega
      have e3 : (k : Int) ≤ (c : Int) := by omega
      by_cases g1 : z < 5
      · have HR : Hid (P0.pagesOk zs = false) := P0.okUpto_bad hlt (by rw [hat, show B1.inB z 5 23 = false from decide_eq_false (by omega)]; rfl)
        clear hs hat hok ez hc hR
        go_wp2
        go_ret
        exact ⟨ret_bool HR.out.symm, rfl⟩
      · by_cases g2 : 24 ≤ z
        · have HR : Hid (P0.pagesOk zs = false) := P0.okUpto_bad hlt (by rw [hat, show B1.inB z 5 23 = false from decide_eq_false (by omega)]; rfl)
          clear hs hat hok ez hc hR
          go_wp2
          go_ret
          exact ⟨ret_bool HR.out.symm, rfl⟩
        · have h1 : B1.inB z 5 23 = true := decide_eq_true (by omega)
          by_cases h2 : P0.has (zs.take k) z = true
          · have HR : Hid (P0.pagesOk zs = false) := P0.okUpto_bad hlt (by rw [hat, h1, h2]; rfl)
            clear hs hat hok ez hc hR
            go_wp2_with (go_at_call 138; refine (hH.out _).mono ?_; rintro e w' ⟨rfl, rfl⟩)
            go_ret
            exact ⟨ret_bool HR.out.symm, rfl⟩
          · have h2' : P0.has (zs.take k) z = false := by simpa using h2
            have HO : Hid (P0.okUpto zs (k + 1) = true) := by rw [hs, hok, hat, h1, h2']; rfl
            clear hs hat hok ez hc hR h2
            go_wp2_with (go_at_call 138; refine (hH.out _).mono ?_; rintro e w' ⟨rfl, rfl⟩)
            go_round
            case rel => exact ⟨k + 1, by omega, HO.out, by go_num⟩
            case measure => simp [intOf]; omega
    · obtain rfl : k = zs.length := by omega
      have HR : Hid (P0.pagesOk zs = true) := hok
      clear hok hR
      go_wp2
      go_ret
      exact ⟨ret_bool HR.out.symm, rfl⟩

theorem l03Need (s : Int) (w : World) (h0 : 0 ≤ s) (h1 : s ≤ 65535) :
    Calls Try.prog 70 #[.int .i64 s] w fun e w' => e = .returned (.int .i64 (P0.need s)) ∧ w' = w := by
  have e : P0.need s = (s + 32 - 1) / 32 := by unfold P0.need; omega
  rw [e]
  go_enter Try.func70, Try.ntmps70
  go_wp2
  go_ret
  exact ⟨rfl, rfl⟩

theorem pagesFor (s : Int) (w : World) (h0 : 0 ≤ s) (h1 : s ≤ 65535) :
    Calls Try.prog 116 #[.int .i64 s] w fun e w' => e = .returned (.int .i64 (P0.need s)) ∧ w' = w := by
  have e : P0.need s = (s + 32 - 1) / 32 := by unfold P0.need; omega
  rw [e]
  go_enter Try.func116, Try.ntmps116
  go_wp2
  go_ret
  exact ⟨rfl, rfl⟩
end Go.Proofs.Ytddlpejklpljoaa.P1
