/- A range over a method value that takes a yield: one law for a loop whose rounds are numbered. -/
import Derived.RangeFuncNested
import Derived.RangeFuncLeaves
import Derived.WalkKit
import Derived.Deep.Quiet
namespace Go.Proofs.Ytkpcpffpiilcpaa.R0
open Go.RowKit
set_option linter.unusedVariables false
set_option linter.unusedSimpArgs false

/-- How a round may be left. -/
def left (B : Nat) (I : Nat → World → Prop) (Ix : Code → World → Prop) (k : Nat) (W : World) : Exit → Act → World → Prop
  | .normal, _, V => KeepsFrom B W V ∧ I (k + 1) V
  | .ret, _, V => KeepsFrom B W V ∧ Ix .ret V
  | .exit id, _, V => KeepsFrom B W V ∧ Ix (.exit id) V
  | .goto t, _, V => KeepsFrom B W V ∧ Ix (.goto t) V
  | _, _, _ => False

theorem grown_drew (W : World) : W.grownBy W.drew none := ⟨rfl, rfl, rfl, Nat.le_refl _, fun _ _ _ => rfl⟩

theorem drew_of {B : Nat} {I : Nat → World → Prop} (hI : OwnFrom B I) {k : Nat} {W : World} (h : I k W) : I k W.drew := hI k W _ none h (grown_drew W) (fun r e => by cases e)

theorem drewN_of {B : Nat} {I : Nat → World → Prop} (hI : OwnFrom B I) {k : Nat} {W : World} (m : Nat) (h : I k W) : I k (W.drewN m) := hI k W _ none h ⟨rfl, rfl, rfl, Nat.le_refl _, fun _ _ _ => rfl⟩ (fun r e => by cases e)

theorem heap_drew (W : World) : W.drew.heap = W.heap := rfl

variable {P : Program} {n : Nat}

theorem range_bound {g : Operand} {ps : Array Tmp} {assign body : Code} {Q : Exit → Act → World → Prop} {a : Act} {w : World} {gf N : Nat} {bd : Array Value}
    (hg : a.eval g = .func (.func gf) bd #[]) (eg : ∀ args w, (callFunc gf args).run P w = .ok (.enter gf args) w) (hps : ps.size = 1)
    (I A : Nat → World → Prop) (Ix : Code → World → Prop) (hI : OwnFrom w.heap.size I) (hA : OwnFrom w.heap.size A) (hIx : OwnFrom w.heap.size Ix) (h0 : I 0 w)
    (hit : ∀ (l : Nat) (J : Nat → World → Prop) (Jx : World → Prop) (W : World), (∀ k W, J k W → I k W) → (∀ k W, J k W → I (k + 1) W → J (k + 1) W) → (∀ k W, J k W → J k W.drew) → (∀ k W m, J k W → J k (W.drewN m)) →
      (∀ k W, k < N → J k W → A k W → YieldAt Fence.wide (n - 1 - 1) P l #[.int .i64 (k : Int)] W fun e V => (e = .returned (.bool true) ∧ J (k + 1) V) ∨ (e = .returned (.bool false) ∧ Jx V)) → J 0 W →
      CallsIn Fence.wide (n - 1) P gf (bd ++ #[.func (.yield l) #[] #[]]) W fun e V => (∃ v, e = .returned v) ∧ (J N V ∨ Jx V))
    (hround : ∀ (l k : Nat) (W V : World), k < N → I k V → A k V →
      assign.wpIn (Fence.wide.inRound l) (n - 1 - 1) P (Exit.then (fun a' w' => w' = W ∧ body.wpIn (Fence.wide.inRound l) (n - 1 - 1) P (left w.heap.size I Ix k V) a' V) (fun _ _ _ => False)) { tmps := (ps.zip #[.int .i64 (k : Int)]).foldl (fun t (p, v) => t.setIfInBounds p v) a.tmps, defers := [] } W)
    (hdone : ∀ (D : Nat) (W : World), w.heap.size ≤ D → I N W → W.heap[D]? = some (.deferred (some [])) → Q .normal { a with defers := { target := .collected D, args := #[] } :: a.defers } W)
    (hstop : ∀ (D : Nat) (c : Code) (W : World), w.heap.size ≤ D → Ix c W → W.heap[D]? = some (.deferred (some [])) → c.wpIn Fence.wide n P Q { a with defers := { target := .collected D, args := #[] } :: a.defers } W) :
    (Code.rangeFunc g ps assign body).wpIn Fence.wide n P Q a w := by
  refine wpIn_rangeFunc fun fn hfn => ?_
  -- the loop's record in a state, with what is still to be jumped to
  let R (st : LoopState) (pe : Option Code) : Loop := { state := st, pending := pe, fn := fn, tmps := a.tmps, params := ps, assign := assign, body := body, defers := w.heap.size }
  let L := w.heap.size + 1
  let M := fun (V : World) (st : LoopState) (pe : Option Code) => V.heap[L]? = some (.loop (R st pe)) ∧ V.heap[w.heap.size]? = some (.deferred (some []))
  obtain ⟨W1, hW1⟩ : ∃ W1, (w.alloc (.deferred (some []))).alloc (.loop (R .ready none)) = W1 := ⟨_, rfl⟩
  have hM1 : M W1 .ready none := by
    rw [← hW1]
    refine ⟨?_, (Below.heap_alloc _ _ _ (by simp)).trans (World.alloc_heap_new w _)⟩
    have := World.alloc_heap_new (w.alloc (.deferred (some []))) (.loop (R .ready none))
    rwa [World.size_alloc] at this
  have hI1 : I 0 W1 := by rw [← hW1]; exact hI.alloc _ (hI.alloc _ h0)
  -- a turn of the record
  have turn : ∀ {V : World} {st : LoopState} {pe : Option Code} (st' : LoopState) (pe' : Option Code), M V st pe → M (V.putObj L (.loop (R st' pe'))) st' pe' := fun st' pe' h =>
    ⟨World.putObj_heap_same (Array.getElem?_eq_some_iff.1 h.1).1, (World.putObj_heap_other (Nat.ne_of_lt (Nat.lt_succ_self _))).trans h.2⟩
  refine ⟨L, [{ target := .collected w.heap.size, args := #[] }], W1, { target := .fn (.func gf) #[], args := bd ++ #[.func (.yield L) #[] #[]] }, W1, gf, bd ++ #[.func (.yield L) #[] #[]], W1, ?_, ?_, ?_, ?_, (fun h => by cases h), ?_⟩
  · rw [← hW1]; exact run_enterLoop_outer _ _ _ _ _
  · simp only [resolve, hg]
    simp [go_sem]
  · intro f' _; trivial
  · simp [invoke, go_sem, eg]
  · refine (hit L (fun k V => I k V ∧ M V .ready none) (fun V => ∃ c, Ix c V ∧ M V .done (some c)) W1 (fun k V h => h.1) (fun k V h hk => ⟨hk, h.2⟩) (fun k V h => ⟨drew_of hI h.1, h.2⟩) (fun k V m h => ⟨drewN_of hI m h.1, h.2⟩) ?_ ⟨hI1, hM1⟩).mono ?_
    · rintro k V hk ⟨hi, hm⟩ ha
      have hy := run_yield (P := P) (args := #[.int .i64 (k : Int)]) hm.1 (by show 1 = ps.size; exact hps.symm)
      have hm2 := turn .busy none hm
      have hi2 := hI.putObj (.loop (R .busy none)) hi (Nat.le_succ _) hm.1 rfl
      have ha2 := hA.putObj (.loop (R .busy none)) ha (Nat.le_succ _) hm.1 rfl
      refine ⟨fn, _, assign, body, hy, roundIn_of_wpIn hfn (wpIn_mono (hround L k V _ hk hi2 ha2) ?_)⟩
      rintro e a' w' he
      cases e with
      | normal => ?_
      | _ => exact he.elim
      obtain ⟨hw', he⟩ := he
      rw [hw']
      refine ⟨_, run_beginRound hm.1 rfl, wpIn_mono he ?_⟩
      -- a round that has been left by a jump, or by none
      have fin : ∀ (j : Option Code) (V3 : World), KeepsFrom w.heap.size (V.putObj L (.loop (R .busy none))) V3 →
          M V3 .busy none ∧ (Instr.endRound L j).run P V3 = .ok (.bool j.isNone) (V3.putObj L (.loop (R (if j.isNone then .ready else .done) j))) := fun j V3 hk3 => by
        have h3 : M V3 .busy none := ⟨hk3.same _ _ (Nat.le_succ _) hm2.1 rfl, hk3.same _ _ (Nat.le_refl _) hm2.2 rfl⟩
        exact ⟨h3, run_endRound (P := P) j h3.1⟩
      rintro e a3 V3 hp
      cases e with
      | normal =>
        obtain ⟨h3, hr⟩ := fin none V3 hp.1
        exact ⟨_, _, hr, .inl ⟨rfl, hI.putObj _ hp.2 (Nat.le_succ _) h3.1 rfl, turn .ready none h3⟩⟩
      | ret =>
        obtain ⟨h3, hr⟩ := fin (some .ret) V3 hp.1
        exact ⟨_, _, hr, .inr ⟨rfl, .ret, hIx.putObj _ hp.2 (Nat.le_succ _) h3.1 rfl, turn .done (some .ret) h3⟩⟩
      | exit id =>
        obtain ⟨h3, hr⟩ := fin (some (.exit id)) V3 hp.1
        exact ⟨_, _, hr, .inr ⟨rfl, .exit id, hIx.putObj _ hp.2 (Nat.le_succ _) h3.1 rfl, turn .done (some (.exit id)) h3⟩⟩
      | goto t =>
        obtain ⟨h3, hr⟩ := fin (some (.goto t)) V3 hp.1
        exact ⟨_, _, hr, .inr ⟨rfl, .goto t, hIx.putObj _ hp.2 (Nat.le_succ _) h3.1 rfl, turn .done (some (.goto t)) h3⟩⟩
      | panic ch => exact hp.elim
      | outgrown => exact hp.elim
    · rintro e V ⟨⟨v, rfl⟩, (⟨hi, hm⟩ | ⟨c, hi, hm⟩)⟩
      · exact ⟨none, _, run_endLoop (P := P) hm.1 (by simp [R]), hdone _ _ (Nat.le_refl _) (hI.putObj _ hi (Nat.le_succ _) hm.1 rfl) ((World.putObj_heap_other (Nat.ne_of_lt (Nat.lt_succ_self _))).trans hm.2)⟩
      · exact ⟨some c, _, run_endLoop (P := P) hm.1 (by simp [R]), hstop _ c _ (Nat.le_refl _) (hIx.putObj _ hi (Nat.le_succ _) hm.1 rfl) ((World.putObj_heap_other (Nat.ne_of_lt (Nat.lt_succ_self _))).trans hm.2)⟩
end Go.Proofs.Ytkpcpffpiilcpaa.R0
