/- What the law over GetDir keeps of two rows of entries that were handed out. -/
import Derived.Test.YtmdgeilmkfnipaaGdr4
namespace Go.Proofs.Ytmdgeilmkfnipaa.V5
open Go.ChangeShapes Go.WideShapes Go.ChangeAt Go.RowKit
set_option linter.unusedVariables false
set_option linter.unusedSimpArgs false
set_option maxRecDepth 10000

open T5 (Mk)
open V1 (OwnE)

/-- Two rows, apart; what the second holds now. -/
structure L (w : World) (aw ag : Option Addr) (E M : List T0.Ent) (W : World) : Prop where
  rows : E = [] ∨ ∃ g1 g2, aw = some ⟨g1, 0, none⟩ ∧ ag = some ⟨g2, 0, none⟩ ∧ w.heap.size ≤ g2 ∧ g1 ≠ g2 ∧ Mk g1 E.length E E.length W ∧ Mk g2 E.length M E.length W
  bel : Below w.heap.size w W

variable {w W W' : World} {aw ag : Option Addr} {E M : List T0.Ent} {cw cg : Nat}

theorem L.below (h : L w aw ag E M W) (hb : Below W.heap.size W W') : L w aw ag E M W' :=
  ⟨h.rows.imp id fun ⟨g1, g2, e1, e2, h1, h2, k1, k2⟩ => ⟨g1, g2, e1, e2, h1, h2, k1.below hb, k2.below hb⟩, h.bel.trans (hb.mono h.bel.size)⟩

theorem mk_row {g : Nat} (h : Mk g E.length E E.length W) : T0.Row W (some ⟨g, 0, none⟩) E := Or.inr ⟨g, 0, rfl, h.lt, fun j hj => by rw [Nat.zero_add]; exact h.done j hj⟩

theorem L.roww (h : L w aw ag E M W) : T0.Row W aw E := by
  rcases h.rows with h0 | ⟨g1, g2, e1, e2, _, _, k1, k2⟩
  · exact Or.inl h0
  · exact e1 ▸ mk_row k1
theorem L.rowg (h : L w aw ag E E W) : T0.Row W ag E := by
  rcases h.rows with h0 | ⟨g1, g2, e1, e2, _, _, k1, k2⟩
  · exact Or.inl h0
  · exact e2 ▸ mk_row k2

theorem l_new {w1 w2 : World} (b1 : Below w.heap.size w w1) (o1 : OwnE w.heap.size w1 aw E) (b2 : Below w1.heap.size w1 w2) (o2 : OwnE w1.heap.size w2 ag E) : L w aw ag E E w2 := by
  have hs1 := b1.size
  have hs2 := b2.size
  refine ⟨?_, b1.trans (b2.mono hs1)⟩
  rcases o1 with h0 | ⟨g1, e1, hg1, k1⟩
  · exact Or.inl h0
  · rcases o2 with h0 | ⟨g2, e2, hg2, k2⟩
    · exact Or.inl h0
    · have l1 := k1.lt
      exact Or.inr ⟨g1, g2, e1, e2, by omega, by omega, k1.below b2, k2⟩

theorem eq_L (hn : E.length ≤ 1048576) (h : L w aw ag E E W) :
    Calls Try.prog 56 #[.slice ag E.length cg, .slice aw E.length cw] W fun e w' => e = .returned (.bool true) ∧ L w aw ag E E w' :=
  (T5.eqEntryS ag aw cg cw E W hn h.rowg h.roww).mono fun _ _ ⟨he, hb⟩ => ⟨he, h.below hb⟩

theorem eq_M {ah : Option Addr} {ch : Nat} (hn : E.length ≤ 1048576) (h : L w aw ag E M W) (hr : T0.Row W ah E) :
    Calls Try.prog 56 #[.slice ah E.length ch, .slice aw E.length cw] W fun e w' => e = .returned (.bool true) ∧ L w aw ag E M w' :=
  (T5.eqEntryS ah aw ch cw E W hn hr h.roww).mono fun _ _ ⟨he, hb⟩ => ⟨he, h.below hb⟩

theorem start {g n : Nat} {es es' : List T0.Ent} {k : Nat} (h : Mk g n es k W) : Mk g n es' 0 W := ⟨fun j hj => absurd hj (Nat.not_lt_zero _), h.there, h.free, h.lt⟩

theorem mark_L (hn : E.length ≤ 1048576) (h : L w aw ag E E W) :
    Calls Try.prog 57 #[.slice ag E.length cg, .int .i64 1] W fun e w' => e = .returned (.int .i64 ((1 + 2 * E.length : Nat) : Int)) ∧ L w aw ag E (V4.em E.length) w' := by
  rcases h.rows with h0 | ⟨g1, g2, e1, e2, h1, h2, k1, k2⟩
  · subst h0
    exact (V4.markNone ag cg W).mono fun _ _ ⟨he, hb⟩ => ⟨he, Or.inl rfl, by rw [hb]; exact h.bel⟩
  · subst e2
    refine (V4.markEntryS g2 cg E.length W hn (start k2)).mono fun _ w' ⟨he, hk, hg⟩ => ⟨he, Or.inr ⟨g1, g2, e1, rfl, h1, h2, V4.mk_grown k1 hg h2, hk⟩, ?_⟩
    exact F0.below_grown h.bel hg (fun g' e => by obtain rfl := Option.some.inj e; exact h1) h.bel.size

theorem held_L (hn : E.length ≤ 1048576) (h : L w aw ag E (V4.em E.length) W) :
    Calls Try.prog 58 #[.slice ag E.length cg, .int .i64 1] W fun e w' => e = .returned (.int .i64 ((1 + 2 * E.length : Nat) : Int)) ∧ L w aw ag E (V4.em E.length) w' := by
  rcases h.rows with h0 | ⟨g1, g2, e1, e2, h1, h2, k1, k2⟩
  · subst h0
    exact (V4.heldNone ag cg W).mono fun _ _ ⟨he, hb⟩ => ⟨he, by rw [hb]; exact h⟩
  · subst e2
    exact (V4.heldEntryS g2 cg E.length W hn k2).mono fun _ _ ⟨he, hb⟩ => ⟨he, h.below hb⟩

theorem dE_len (s : ByteArray) (h : s.size ≤ 1048576) : (V0.dE s).length ≤ 1048576 := by
  unfold V0.dE
  split
  · rw [V0.ents_length]
    unfold V0.cnt
    omega
  · exact Nat.zero_le _
end Go.Proofs.Ytmdgeilmkfnipaa.V5
