/- Joined texts: plain facts and contracts. -/
import Derived.Test.YtpkmeknniajahaaGreatDoorJnF
import Derived.Test.YtpkmeknniajahaaGreatDoorJnG
import Derived.Maps.OwnSet
set_option linter.unusedVariables false
set_option linter.unusedSimpArgs false
set_option maxRecDepth 10000
namespace Go.Proofs.YtpkmeknniajahaaGreatDoor.V1
open Go.ChangeShapes Go.WideShapes Go.ChangeAt Go.RowKit
def flat : List T0.Ent → List Value
 | [] => []
 | e :: r => .int .i64 e.1 :: .string e.2 :: flat r
theorem flat_append : ∀ (es : List T0.Ent) (e : T0.Ent), flat es ++ [.int .i64 e.1, .string e.2] = flat (es ++ [e])
 | [], e => rfl
 | x :: r, e => by simp [flat, ← flat_append r e]
theorem flat_get : ∀ (es : List T0.Ent) (j : Nat), j < es.length → (flat es)[j * 2]? = some (.int .i64 (T0.ent es j).1) ∧ (flat es)[j * 2 + 1]? = some (.string (T0.ent es j).2)
 | [], j, h => by simp at h
 | e :: r, 0, _ => ⟨rfl, rfl⟩
 | e :: r, j + 1, h => by
  have := flat_get r j (by simpa using h)
  have e1 : (j + 1) * 2 = j * 2 + 1 + 1 := by omega
  have e2 : T0.ent (e :: r) (j + 1) = T0.ent r j := rfl
  rw [e1, e2]
  exact this
def EBuf (base : Nat) (w : World) (a : Option Addr) (n cap : Nat) (es : List T0.Ent) : Prop := n = es.length ∧ w.ownsRow base 71 2 (.slice a n cap) n (flat es)
variable {base n cap : Nat} {a : Option Addr} {w W : World} {es : List T0.Ent}
theorem EBuf.below (h : EBuf base w a n cap es) (hb : Below w.heap.size w W) : EBuf base W a n cap es := ⟨h.1, F0.owns_below h.2 hb⟩
theorem EBuf.alloc (h : EBuf base w a n cap es) (o : Obj) : EBuf base (w.alloc o) a n cap es := h.below ((Below.refl _ _).alloc (Nat.le_refl _) o)
theorem ebuf_made (w : World) (hb : base ≤ w.heap.size) : EBuf base (w.alloc (.cells #[] 71)) (some ⟨w.heap.size, 0, none⟩) 0 0 [] := ⟨rfl, World.ownsRow_made w #[] 0 hb (Nat.zero_le _) rfl⟩
theorem EBuf.fits (h : EBuf base w a n cap es) : n ≤ cap := by
 rcases h.2.2 with ⟨h0, h1⟩ | ⟨g, c, cur, hv, _, _, hle, _⟩
 ·omega
 ·simp at hv
  omega
def OwnE (base : Nat) (W : World) (a : Option Addr) (es : List T0.Ent) : Prop := es = [] ∨ ∃ g, a = some ⟨g, 0, none⟩ ∧ base ≤ g ∧ T5.Mk g es.length es es.length W
theorem EBuf.own (h : EBuf base w a n cap es) : OwnE base w a es := by
 rcases h.2.2 with ⟨h0, h1⟩ | ⟨g, c, cur, hv, hg, hc, hle, _, hs, ht⟩
 ·left
  exact List.eq_nil_of_length_eq_zero (by rw [← h.1]; exact h1)
 ·right
  simp at hv
  have hcell : ∀ j, w.cell? ⟨g, j, none⟩ = cur[j]? := fun j => by
   unfold World.cell?
   rw [hc]
   simp
  have hn := h.1
  have hget : ∀ j, j < n * 2 → cur[j]? = (flat es)[j]? := fun j hj => by
   have e1 : (cur.toList.take (n * 2))[j]? = (flat es)[j]? := by rw [ht]
   rw [List.getElem?_take_of_lt hj] at e1
   rw [← Array.getElem?_toList, e1]
  refine ⟨g, hv.1, hg, ⟨fun j hj => ?_, fun j hj => ?_, fun j hj => ?_, (Array.getElem?_eq_some_iff.1 hc).1⟩⟩
  ·have := flat_get es j hj
   rw [hcell, hcell, hget _ (by omega), hget _ (by omega)]
   exact this
  ·rw [hcell]
   have : j < cur.size := by omega
   simp [this]
  ·unfold World.frozen?
   rw [hc]
   simp
theorem OwnE.row (h : OwnE base W a es) : T0.Row W a es := by
 rcases h with h | ⟨g, rfl, _, hm⟩
 ·exact Or.inl h
 ·exact Or.inr ⟨g, 0, rfl, hm.lt, fun j hj => by rw [Nat.zero_add]; exact hm.done j hj⟩
theorem OwnE.below {W' : World} (h : OwnE base W a es) (hb : Below W.heap.size W W') : OwnE base W' a es := h.imp id fun ⟨g, e, hg, hk⟩ => ⟨g, e, hg, hk.below hb⟩
theorem OwnE.mono {base' : Nat} (h : OwnE base W a es) (hb : base' ≤ base) : OwnE base' W a es := h.imp id fun ⟨g, e, hg, hk⟩ => ⟨g, e, Nat.le_trans hb hg, hk⟩
theorem one_ent (u : Int) (v : ByteArray) : ∀ x ∈ [Value.int .i64 u, .string v], x.oneCell' = true := by
 intro x h
 simp at h
 rcases h with rfl | rfl <;> rfl
theorem append_ent {ops : Array Oper} {rest : List Oper} {o : Oper} {A : Act} {Q : Exit → Act → World → Prop} (hgd : o.guard = none) (sl x : Operand)
  (ho : o.op = .call { callee := .builtin .append, args := #[sl, x], argTypes := #[72, 72] })
  (hbuf : EBuf base w a n cap es) (u : Int) (v : ByteArray) (hs : A.eval sl = .slice a n cap) {H : Nat} (hH : w.heap.size = H) (hx : A.eval x = .slice (some ⟨H, 0, none⟩) 1 1) (hlen : n + 1 ≤ 1048576) (hb : base ≤ w.heap.size)
  (h : ∀ g' cap' w', EBuf base w' (some ⟨g', 0, none⟩) (n + 1) cap' (es ++ [(u, v)]) → Below base w w' → wpList Tryz.prog ops Q rest (A.put o.dst (.slice (some ⟨g', 0, none⟩) (n + 1) cap')) w') : wpList Tryz.prog ops Q (o :: rest) A (w.alloc (.cells #[.int .i64 u, .string v] 71)) := by
 subst hH
 obtain ⟨i0, hi, hz0, hz1, hz2⟩ := info_parts T5.info33
 have hb2 := hbuf.alloc (.cells #[.int .i64 u, .string v] 71)
 refine wpList_append_lies _ hgd sl x 72 ho base 71 i0 (.agg #[.int .i64 0, .string ⟨#[]⟩]) 2 24 Tryz.underlying72 hi hz0 hz1 hz2 rfl (by omega) _ n _ hs hb2.2 ⟨w.heap.size, 0, none⟩ 1 1 [.int .i64 u, .string v] hx rfl (World.news_of_block (heap_alloc_new w _)) (one_ent u v) (by omega) (by unfold maxLen; omega) (by omega) (by simp; omega) _ rfl ?_
 intro g' cap' w' ho' hg' _ _
 refine h g' cap' w' ⟨by rw [hbuf.1]; simp, ?_⟩ ?_
 ·rw [← flat_append]
  exact ho'
 ·exact F0.below_grown ((Below.refl _ _).alloc hb _) hg' (fun g hg => (hbuf.2.lt g hg).1) (by simp; omega)
def Ans (s : ByteArray) (w : World) (e : Ending) (w' : World) : Prop :=
 ∃ a c, e = .returned (.tuple #[.slice a (V0.dE s).length c, .bool (V0.isD s)]) ∧ OwnE w.heap.size w' a (V0.dE s) ∧ (V0.dE s).length ≤ c ∧ Below w.heap.size w w'
theorem ans_no {s : ByteArray} {w w' : World} {a : Option Addr} {c : Nat} (h : V0.isD s = false) (hb : Below w.heap.size w w') : Ans s w (.returned (.tuple #[.slice a 0 c, .bool false])) w' := by
 have hd : V0.dE s = [] := by rw [V0.dE, h]; rfl
 exact ⟨a, c, by rw [hd, h]; rfl, by rw [hd]; exact Or.inl rfl, by rw [hd]; exact Nat.zero_le _, hb⟩
theorem ans_yes {s : ByteArray} {w w' : World} {a : Option Addr} {c : Nat} (h : V0.isD s = true) (ho : OwnE w.heap.size w' a (V0.ents s (V0.cnt s))) (hc : V0.cnt s ≤ c) (hb : Below w.heap.size w w') : Ans s w (.returned (.tuple #[.slice a (V0.cnt s) c, .bool true])) w' := by
 have hd : V0.dE s = V0.ents s (V0.cnt s) := by rw [V0.dE, h]; rfl
 exact ⟨a, c, by rw [hd, h, V0.ents_length], by rw [hd]; exact ho, by rw [hd, V0.ents_length]; exact hc, hb⟩
theorem name_size (x : ByteArray) : (E4.eName x).size ≤ x.size := by
 unfold E4.eName
 split
 ·exact B2.part_size _ _ _
 ·exact Nat.zero_le _
theorem fits_ents (s : ByteArray) (k : Nat) (hs : s.size ≤ 281474976710656) : T0.Fits (V0.ents s k) := fun j hj => by
 rw [V0.ents_length] at hj
 rw [V0.ents_get s k j hj]
 have h1 := name_size (V0.chunk s j)
 have h2 := B2.part_size s ((j : Int) * 16) 16
 have h3 : (V0.chunk s j).size ≤ s.size := h2
 simp only
 omega
end Go.Proofs.YtpkmeknniajahaaGreatDoor.V1
namespace Go.Proofs.YtpkmeknniajahaaGreatDoor.TW
open Go.ChangeShapes Go.WideShapes Go.ChangeAt Go.RowKit
variable {base g n cap : Nat} {w W W' : World} {d k x : Nat} {R S : List (Nat × Nat)}
def fl : List (Nat × Nat) → List Value
 | [] => []
 | q :: r => .int .i64 (q.1 : Int) :: .int .i64 (q.2 : Int) :: fl r
theorem fl_length : ∀ l : List (Nat × Nat), (fl l).length = l.length * 2
 | [] => rfl
 | q :: r => by simp [fl, fl_length r]; omega
theorem fl_append : ∀ l m : List (Nat × Nat), fl (l ++ m) = fl l ++ fl m
 | [], m => rfl
 | q :: r, m => by simp [fl, fl_append r m]
theorem fl_top (d k : Nat) (R : List (Nat × Nat)) : fl ((d, k) :: R).reverse = fl R.reverse ++ [.int .i64 (d : Int), .int .i64 (k : Int)] := by
 rw [List.reverse_cons, fl_append]
 rfl
theorem fl_rlen (R : List (Nat × Nat)) : (fl R.reverse).length = R.length * 2 := by rw [fl_length, List.length_reverse]
def SBuf (base : Nat) (w : World) (g n cap : Nat) (S : List (Nat × Nat)) : Prop := n = S.length ∧ w.ownsRow base 104 2 (.slice (some ⟨g, 0, none⟩) n cap) n (fl S.reverse)
theorem SBuf.kept {row : Option Nat} (h : SBuf base w g n cap S) (hg : w.grownBy W row) (hne : some g ≠ row) : SBuf base W g n cap S := ⟨h.1, h.2.kept hg (Or.inr hne)⟩
theorem SBuf.lt (h : SBuf base w g n cap S) : base ≤ g ∧ g < w.heap.size := h.2.lt g rfl
theorem SBuf.drew (h : SBuf base w g n cap S) : SBuf base w.drew g n cap S := h
theorem SBuf.ino (h : SBuf base w g n cap ((d, k) :: R)) : w.cell? ⟨g, R.length * 2, none⟩ = some (.int .i64 (d : Int)) := by
 have hn : n = R.length + 1 := h.1
 rw [h.2.cellAt (R.length * 2) (by omega), fl_top, List.getElem?_append_right (by rw [fl_rlen]; exact Nat.le_refl _), fl_rlen, Nat.sub_self]
 rfl
theorem SBuf.next (h : SBuf base w g n cap ((d, k) :: R)) : w.cell? ⟨g, R.length * 2 + 1, none⟩ = some (.int .i64 (k : Int)) := by
 have hn : n = R.length + 1 := h.1
 rw [h.2.cellAt (R.length * 2 + 1) (by omega), fl_top, List.getElem?_append_right (by rw [fl_rlen]; omega), fl_rlen, show R.length * 2 + 1 - R.length * 2 = 1 by omega]
 rfl
theorem SBuf.free (h : SBuf base w g n cap S) (j : Nat) : w.frozen? ⟨g, j, none⟩ = false := h.2.frozenAt j
theorem SBuf.put (h : SBuf base w g n cap ((d, k) :: R)) (k' : Nat) : SBuf base (w.setCell ⟨g, R.length * 2 + 1, none⟩ (.int .i64 (k' : Int))) g n cap ((d, k') :: R) := by
 have := (h.2.stored (R.length * 2 + 1) (.int .i64 (k' : Int))).1
 rw [fl_top, List.set_append_right _ _ (by rw [fl_rlen]; omega), fl_rlen, show R.length * 2 + 1 - R.length * 2 = 1 by omega] at this
 refine ⟨h.1, ?_⟩
 rw [fl_top]
 exact this
theorem SBuf.pop (h : SBuf base w g n cap ((d, k) :: R)) : SBuf base w g R.length cap R := by
 have hn : n = R.length + 1 := h.1
 refine ⟨rfl, fl_rlen R, ?_⟩
 rcases h.2.2 with ⟨h', _⟩ | ⟨g', cap', cur, h', hb, hg, hnc, hcm, hcs, ht⟩
 ·cases h'
 ·cases h'
  refine Or.inr ⟨g, cap, cur, rfl, hb, hg, by omega, hcm, hcs, ?_⟩
  have := congrArg (List.take (R.length * 2)) ht
  rw [List.take_take, fl_top, List.take_left' (fl_rlen R), Nat.min_eq_left (by omega)] at this
  exact this
theorem SBuf.room (h : SBuf base w g n cap S) : n ≤ cap := by
 rcases h.2.2 with ⟨h', _⟩ | ⟨g', cap', cur, h', hb, hg, hnc, hcm, hcs, ht⟩
 ·cases h'
 ·cases h'
  exact hnc
theorem sbuf_new (w : World) (hb : base ≤ w.heap.size) : SBuf base (w.alloc (.cells #[.int .i64 0, .int .i64 0] 104)) w.heap.size 1 1 [(0, 0)] :=
 ⟨rfl, World.ownsRow_lit w #[.int .i64 0, .int .i64 0] 1 hb (by unfold maxLen; omega) rfl⟩
theorem infoStep : (Tryz.prog.info? 104).map (fun i => (i.zero, i.size, i.bytes)) = some (some (.agg #[.int .i64 0, .int .i64 0]), 2, 16) := by kernel_rfl
theorem one_step (u v : Int) : ∀ x ∈ [Value.int .i64 u, .int .i64 v], x.oneCell' = true := by
 intro x h
 simp at h
 rcases h with rfl | rfl <;> rfl
theorem append_step {ops : Array Oper} {rest : List Oper} {o : Oper} {A : Act} {Q : Exit → Act → World → Prop} (hgd : o.guard = none) (sl y : Operand)
  (ho : o.op = .call { callee := .builtin .append, args := #[sl, y], argTypes := #[105, 105] })
  (hbuf : SBuf base w g n cap S) (x : Nat) (hs : A.eval sl = .slice (some ⟨g, 0, none⟩) n cap) (hx : A.eval y = .slice (some ⟨w.heap.size, 0, none⟩) 1 1) (hlen : n + 1 ≤ 1048576) (hb : base ≤ w.heap.size)
  (h : ∀ g' cap' w', SBuf base w' g' (n + 1) cap' ((x, 0) :: S) → w.grownBy w' (some g) → (g' = g ∨ w.heap.size ≤ g') → wpList Tryz.prog ops Q rest (A.put o.dst (.slice (some ⟨g', 0, none⟩) (n + 1) cap')) w') : wpList Tryz.prog ops Q (o :: rest) A (w.alloc (.cells #[.int .i64 (x : Int), .int .i64 0] 104)) := by
 obtain ⟨i0, hi, hz0, hz1, hz2⟩ := info_parts infoStep
 have hb2 := hbuf.2.alloc (.cells #[.int .i64 (x : Int), .int .i64 0] 104)
 refine wpList_append_lies _ hgd sl y 105 ho base 104 i0 (.agg #[.int .i64 0, .int .i64 0]) 2 16 Tryz.underlying105 hi hz0 hz1 hz2 rfl (by omega) _ n _ hs hb2 ⟨w.heap.size, 0, none⟩ 1 1 [.int .i64 (x : Int), .int .i64 0] hx rfl (World.news_of_block (heap_alloc_new w _)) (one_step (x : Int) 0) (by omega) (by unfold maxLen; omega) (by omega) (by simp; omega) _ rfl ?_
 intro g' cap' w' ho' hg' hl' _
 refine h g' cap' w' ⟨by rw [hbuf.1]; simp, ?_⟩ ((World.grownBy_alloc w _ _).trans hg') ?_
 ·rw [fl_top]
  exact ho'
 ·rcases hl' with e | e
  ·left
   have e' : g = g' := by simpa [Value.ownBlock] using e
   exact e'.symm
  ·right
   rw [e]
   simp
theorem keyed : Go.Maps.Keyed Tryz.prog 3 := Go.Maps.int_keyed Tryz.underlying3
theorem zeroI (w : World) : (zeroValue 3).run Tryz.prog w = .ok (.int .i64 0) w := by kernel_rfl
structure Met (bm m : Nat) (S : List (Nat × Nat)) (D : DataW Unit) (W : World) : Prop where
 own : W.ownsMap Tryz.prog 3 (plainElem (H := Unit) Tryz.prog 3) bm m D
 has : ∀ x : Nat, Maps.has D (.int .i64 (x : Int)) = TR.metIn S x
theorem Met.kept {bm m : Nat} {D : DataW Unit} {row : Option Nat} (h : Met bm m S D w) (hg : w.grownBy W row) (hne : some bm ≠ row) : Met bm m S D W := ⟨h.own.kept hg hne, h.has⟩
theorem Met.top {bm m : Nat} {D : DataW Unit} (h : Met bm m ((d, k) :: R) D w) (k' : Nat) : Met bm m ((d, k') :: R) D w := ⟨h.own, fun x => by rw [h.has x]; rfl⟩
theorem Met.lt {bm m : Nat} {D : DataW Unit} (h : Met bm m S D w) : bm < w.heap.size := by
 obtain ⟨es, clock, hb, _⟩ := h.own
 exact (Array.getElem?_eq_some_iff.1 hb).1
theorem metIn_cons (x k y : Nat) (S : List (Nat × Nat)) : TR.metIn ((x, k) :: S) y = ((x == y) || TR.metIn S y) := rfl
theorem key_ne {x y : Nat} (h : x ≠ y) : Lit.int .i64 (x : Int) ≠ Lit.int .i64 (y : Int) := by
 intro e
 injection e with _ e
 omega
theorem has_put {D : DataW Unit} (hD : Maps.IsMap D) (x : Nat) (v : DataW Unit) (h : ∀ y : Nat, Maps.has D (.int .i64 (y : Int)) = TR.metIn S y) (y : Nat) : Maps.has (D.put (.int .i64 (x : Int)) v) (.int .i64 (y : Int)) = TR.metIn ((x, 0) :: S) y := by
 rw [metIn_cons]
 by_cases e : x = y
 ·subst e
  rw [Maps.has_put_same (k := .int .i64 (x : Int)) hD trivial]
  simp
 ·rw [Maps.has_put_other (key_ne (fun e' => e e'.symm)), h y]
  simp [e]
theorem has_del {D : DataW Unit} (hnd : (((d, k) :: R).map (·.1)).Nodup) (h : ∀ y : Nat, Maps.has D (.int .i64 (y : Int)) = TR.metIn ((d, k) :: R) y) (y : Nat) : Maps.has (D.del (.int .i64 (d : Int))) (.int .i64 (y : Int)) = TR.metIn R y := by
 by_cases e : d = y
 ·subst e
  rw [Maps.has_del_same]
  cases hm : TR.metIn R d with
  | false => rfl
  | true =>
   exfalso
   rw [List.map_cons, List.nodup_cons] at hnd
   obtain ⟨q, hq, he⟩ := List.any_eq_true.1 hm
   exact hnd.1 (List.mem_map.2 ⟨q, hq, by simpa using he⟩)
 ·rw [Maps.has_del_other (key_ne (fun e' => e e'.symm)), h y, metIn_cons]
  simp [e]
theorem wf_nat (x : Nat) (h : x ≤ 1048576) : (Lit.int .i64 (x : Int)).wf = true := by
 simp [Lit.wf, IntKind.min, IntKind.max, IntKind.signed, IntKind.bits]
 omega
end Go.Proofs.YtpkmeknniajahaaGreatDoor.TW
