/- From what a row lists of package variables to the tables that a walk reads, and that they are kept where only new memory is written. -/
import Derived.Lib.LaidTab
import Derived.WalkSmall
import Derived.ChangeVars
import Derived.Sort.Grow
namespace Go.Proofs.YtjajclifjojblaaDoor.L0
open Go.RowKit Go.Sort

/-- A table that stands at some place of the list. -/
theorem tab_mem {P : Program} {W : World} {name : String} {k : IntKind} {zs : List Int} {g : Nat} {t e : TypeId} {n : Nat}
    (hg : P.globalNamed name = some g) (hty : (P.globals[g]?).map (·.type) = some t) (ht : P.underlying t = some (.array n e)) (he : P.underlying e = some (.int k)) (hce : P.cellsOf e = 1) (hct : P.cellsOf t = n) :
    ∀ (l : List (String × DataW Unit)) (ps : List MemPlace), DataW.LaidVars P W l ps → ∀ j : Nat, l[j]? = some (name, Lib.tabData k zs) → Lib.TabIs P W name k zs
  | [], _, _, j, hj => by simp at hj
  | (n0, d0) :: l, ps, h, 0, hj => by
    obtain ⟨g', t', cs, fuel, p, q, hg', ht', hvar, hd, _, _⟩ := h
    obtain ⟨rfl, rfl⟩ : n0 = name ∧ d0 = Lib.tabData k zs := by simpa using hj
    obtain rfl := Option.some.inj (hg.symm.trans hg')
    obtain rfl := Option.some.inj (hty.symm.trans ht')
    unfold Lib.TabIs
    rw [hvar, ← Lib.cells_of_tab ht he hce hct hd]
  | (n0, d0) :: l, ps, h, j + 1, hj => by
    obtain ⟨g', t', cs, fuel, p, q, _, _, _, _, hr, _⟩ := h
    exact tab_mem hg hty ht he hce hct l q hr j (by simpa using hj)

theorem vars_one {H : Type} {enc : TypeId × Value → H} {P : Program} {w : World} {sp : Nat → Bool} {n : String} {gs : List (DataW H)} {ps : List MemPlace} (h : DataW.TrodVars enc P w sp [n] gs ps) : ∃ g1, gs = [g1] := by
  match gs, h with
  | [g1], _ => exact ⟨g1, rfl⟩
  | [], h => exact h.elim
  | _ :: _ :: _, h =>
    obtain ⟨_, _, _, _, _, _, _, _, _, _, h2, _⟩ := h
    exact h2.elim

/-- A table is there still where only new memory was written. -/
theorem tab_below {P : Program} {W W' : World} {name : String} {k : IntKind} {zs : List Int} (h : Lib.TabIs P W name k zs) (hb : Below W.heap.size W W') : Lib.TabIs P W' name k zs := by
  unfold Lib.TabIs at h ⊢
  obtain ⟨g, hg⟩ : ∃ g, P.globalNamed name = some g := by
    unfold World.var? at h
    cases hq : P.globalNamed name with
    | none => simp [hq] at h
    | some g => exact ⟨g, rfl⟩
  refine var?_below hb hg ?_ h
  unfold World.var? at h
  simp only [hg, Option.bind_some] at h
  cases hq : W.heap[g]? with
  | none => simp [hq] at h
  | some o => exact (Array.getElem?_eq_some_iff.1 hq).1

theorem below_grow {W : World} (k : Nat) (os : Array Obj) : Below W.heap.size W (grow (W.drewN k) os) := by
  refine ⟨rfl, rfl, rfl, ?_, fun j hj => ?_⟩
  · show W.heap.size ≤ (W.heap ++ os).size
    simp
  · show (W.heap ++ os)[j]? = W.heap[j]?
    exact Array.getElem?_append_left hj
end Go.Proofs.YtjajclifjojblaaDoor.L0
