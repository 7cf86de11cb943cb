/- What a range over the dirty lines keeps. -/
import Derived.Test.YtkpcpffpiilcpaaRng1
import Derived.Test.YtkpcpffpiilcpaaArr2
namespace Go.Proofs.Ytkpcpffpiilcpaa.F0
open Go.ChangeShapes Go.WideShapes Go.ChangeAt Go.RowKit Go.Shelf
open X0 (row mix)
set_option linter.unusedVariables false
set_option linter.unusedSimpArgs false

theorem dl_own {G : Nat} {la lb : List UInt8} {W V : World} {row : Option Nat} (h : A3.Dl G la lb W) (hg : W.grownBy V row) (hr : ∀ r, row = some r → ∃ o : Obj, W.heap[r]? = some o ∧ o.isCells = false) : A3.Dl G la lb V := by
  refine ⟨fun j v hj => cell_kept (h.m j v hj) hg hr, fun j v hj => cell_kept (h.d j v hj) hg hr, fun j hj => ?_, Nat.lt_of_lt_of_le h.lt hg.size⟩
  obtain ⟨u, hu⟩ := Option.isSome_iff_exists.1 (h.t j hj).1
  exact ⟨by rw [cell_kept hu hg hr]; rfl, (frozen_kept hu hg hr).trans (h.t j hj).2⟩

/-- One cell, that may be written or not. -/
def Has (b o : Nat) (v : Value) (W : World) : Prop := W.cell? ⟨b, o, none⟩ = some v ∧ W.frozen? ⟨b, o, none⟩ = false ∧ b < W.heap.size

theorem Has.own {b o : Nat} {v : Value} {W V : World} {row : Option Nat} (h : Has b o v W) (hg : W.grownBy V row) (hr : ∀ r, row = some r → ∃ o : Obj, W.heap[r]? = some o ∧ o.isCells = false) : Has b o v V :=
  ⟨cell_kept h.1 hg hr, (frozen_kept h.1 hg hr).trans h.2.1, Nat.lt_of_lt_of_le h.2.2 hg.size⟩

theorem Has.below {b o : Nat} {v : Value} {W V : World} (h : Has b o v W) (hb : Below W.heap.size W V) : Has b o v V :=
  ⟨(hb.cell (p := ⟨b, o, none⟩) h.2.2).trans h.1, (hb.frozen (p := ⟨b, o, none⟩) h.2.2).trans h.2.1, Nat.lt_of_lt_of_le h.2.2 hb.size⟩

theorem Has.drew {b o : Nat} {v : Value} {W : World} (h : Has b o v W) : Has b o v W.drew := h

theorem Has.set {b o g off : Nat} {v : Value} {W : World} (h : Has b o v W) (hn : b ≠ g) (vs : List Value) : Has b o v (W.setCells g off vs) :=
  ⟨(World.cell?_setCells_out g vs off W ⟨b, o, none⟩ (fun e => absurd e hn)).trans h.1, by rw [World.frozen?_setCells]; exact h.2.1, by rw [B0.size_setCells]; exact h.2.2⟩

theorem Has.alloc {b o : Nat} {v : Value} {W : World} (h : Has b o v W) (ob : Obj) : Has b o v (W.alloc ob) := h.below ((Below.refl _ _).alloc (Nat.le_refl _) ob)

theorem has_new (W : World) (v : Value) (T : TypeId) (C : Array Value) (j : Nat) (hj : C[j]? = some v) : Has W.heap.size j v (W.alloc (.cells C T)) :=
  ⟨by rw [World.cell?_alloc_mark]; exact hj, by simp [World.frozen?_alloc_mark], by simp⟩

theorem dl_below {G : Nat} {la lb : List UInt8} {W V : World} (h : A3.Dl G la lb W) (hb : Below W.heap.size W V) : A3.Dl G la lb V :=
  ⟨A0.rangeAt_below h.m hb h.lt, A0.rangeAt_below h.d hb h.lt, A0.there_below h.t hb h.lt, Nat.lt_of_lt_of_le h.lt hb.size⟩

theorem bytes_inj {l l' : List UInt8} (h : Lib.byteCells l = Lib.byteCells l') : l = l' := by
  have hi : Function.Injective (fun b : UInt8 => Value.int .u8 (b.toNat : Int)) := fun x y e => by
    injection e with _ e
    exact UInt8.toNat_inj.1 (Int.ofNat.inj e)
  exact List.map_inj_right (fun x y e => hi e) |>.1 h

theorem dl_unique {G : Nat} {la lb lb' : List UInt8} {W : World} (h : A3.Dl G la lb W) (h' : A3.Dl G la lb' W) (e : lb.length = lb'.length) : lb = lb' := by
  apply bytes_inj
  apply List.ext_getElem?
  intro j
  by_cases hj : j < (Lib.byteCells lb).length
  · have hj' : j < (Lib.byteCells lb').length := by rw [Lib.byteCells_length] at hj ⊢; omega
    have a := h.d j _ (List.getElem?_eq_getElem hj)
    have b := h'.d j _ (List.getElem?_eq_getElem hj')
    rw [List.getElem?_eq_getElem hj, List.getElem?_eq_getElem hj', ← a, ← b]
  · rw [List.getElem?_eq_none (by omega), List.getElem?_eq_none (by rw [Lib.byteCells_length] at hj ⊢; omega)]

/-- A line of the first text laid into the second. -/
theorem dl_set {G k : Nat} {la ld le : List UInt8} {W : World} (h : A3.Dl G la ld W) (hla : la.length = 768) (hld : ld.length = 768) (hk : k < 96) (he : ld.take (k * 8) ++ row la k ++ ld.drop (k * 8 + 8) = le) :
    A3.Dl G la le (W.setCells G (768 + k * 8) (Lib.byteCells (row la k))) := by
  have hr : (row la k).length = 8 := R1.row_len hla hk
  have hrb : (Lib.byteCells (row la k)).length = 8 := by rw [Lib.byteCells_length, hr]
  have hml : (Lib.byteCells la).length = 768 := by rw [Lib.byteCells_length, hla]
  refine ⟨World.rangeAt_setCells_apart h.m _ _ _ (by rw [hml]; omega), ?_, World.there_setCells h.t _ _ _, by rw [B0.size_setCells]; exact h.lt⟩
  subst he
  have h1 := A0.rangeAt_part h.d 0 (k * 8)
  have h2 := A0.rangeAt_part h.d (k * 8 + 8) 768
  rw [A0.bytes_part] at h1 h2
  have e1 : (ld.drop 0).take (k * 8) = ld.take (k * 8) := rfl
  have e2 : (ld.drop (k * 8 + 8)).take 768 = ld.drop (k * 8 + 8) := List.take_of_length_le (by rw [List.length_drop]; omega)
  rw [e1] at h1
  rw [e2] at h2
  have l1 : (Lib.byteCells (ld.take (k * 8))).length = k * 8 := by rw [Lib.byteCells_length, List.length_take]; omega
  rw [Lib.byteCells_append, Lib.byteCells_append]
  refine A0.rangeAt_snoc (A0.rangeAt_snoc (World.rangeAt_setCells_apart h1 _ _ _ (by rw [l1]; omega)) ?_) ?_
  · rw [l1]
    exact World.rangeAt_setCells_same _ _ _ _ (by rw [hrb]; exact A0.there_sub h.t (by omega) (by omega))
  · rw [List.length_append, l1, hrb]
    exact World.rangeAt_setCells_apart h2 _ _ _ (by rw [hrb]; omega)
end Go.Proofs.Ytkpcpffpiilcpaa.F0
