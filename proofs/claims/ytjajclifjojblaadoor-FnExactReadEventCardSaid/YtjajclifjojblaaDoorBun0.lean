/- Rows of a literal list, read and set: the rules that a walk by hand wants, as one. -/
import Derived.Test.YtjajclifjojblaaDoorRows

namespace Go.Proofs.YtjajclifjojblaaDoor.BZ
open List

theorem z : (∀ {α : Type} {xs : List α} {i : Nat} (h : i < xs.toArray.size), xs.toArray[i]'h = xs[i]'(by simpa using h)) ∧ (∀ {α : Type} {a : α} {zs : List α} {i : Nat} {h : i + 1 < (a :: zs).length}, getElem (a :: zs) (i + 1) h = getElem zs i (Nat.lt_of_succ_lt_succ h)) ∧ (∀ {α : Type} {a : α} {zs : List α} {h : 0 < (a :: zs).length}, getElem (a :: zs) 0 h = a) ∧ (∀ {α : Type} (l : List α) (i : Nat) (a : α), l.toArray.setIfInBounds i a = (l.set i a).toArray) ∧ (∀ {α : Type} {x y : α} {xs : List α} {i : Nat}, (x :: xs).set (i + 1) y = x :: xs.set i y) ∧ (∀ {α : Type} {x y : α} {xs : List α}, (x :: xs).set 0 y = y :: xs) :=
  ⟨getElem_toArray, getElem_cons_succ _ _ _ _, getElem_cons_zero _ _ _, fun _ _ _ => setIfInBounds_toArray .., set_cons_succ, set_cons_zero⟩

end Go.Proofs.YtjajclifjojblaaDoor.BZ
