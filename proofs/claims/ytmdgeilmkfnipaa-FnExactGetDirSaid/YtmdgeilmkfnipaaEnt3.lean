/- An entry among a law's arguments; contracts of laws.szEntry, laws.toEntry and laws.eqEntry. -/
import Derived.Test.YtmdgeilmkfnipaaEnt2
import Derived.Lib.SmallJoins
import Derived.OpenShut
import Derived.ShutString
namespace Go.Proofs.Ytmdgeilmkfnipaa.E3
open Go.ChangeShapes Go.WideShapes Go.ChangeAt Go.RowKit Go.Joins
set_option linter.unusedVariables false
set_option linter.unusedSimpArgs false
set_option maxRecDepth 10000

section Args
variable {H : Type} {enc : TypeId × Value → H} {w : World} {base : Nat} {sp : Nat → Bool} {held : Bool}

theorem cells : Try.prog.cellsOf 59 = 2 := by kernel_rfl

theorem open_entry {r : Reach} {b0 : Nat} {v : Value} {d : DataW H} {p : List MemPlace} (hv : Value.okWide Try.prog w r b0 59 v) (h : DataW.Trod enc Try.prog w base sp held 59 v d p) :
    ∃ (a : Int) (b : ByteArray), v = .agg #[.int .i64 a, .string b] ∧ d = .agg [.lit (.int .i64 a), .lit (.string b.data.toList)] ∧ p = [] ∧ (Lit.int .i64 a).wf = true ∧ b.size ≤ maxLen := by
  obtain ⟨c0, c1, y0, y1, m, rfl, rfl, rfl, hy0, hy1⟩ := open_agg2 Try.underlying59 (by kernel_rfl) cells hv h
  obtain ⟨a, e0, rfl, wa⟩ := DataW.trod_int Try.underlying3 hy0
  obtain ⟨b, e1, rfl, wb⟩ := DataW.trod_string Try.underlying9 hy1
  simp at e0 e1
  subst e0 e1
  exact ⟨a, b, rfl, rfl, rfl, wa, wb⟩

theorem shut_entry {a : Int} {b : ByteArray} (wa : (Lit.int .i64 a).wf = true) (wb : b.size ≤ maxLen) :
    DataW.Trod enc Try.prog w base sp held 59 (.agg #[.int .i64 a, .string b]) (.agg [.lit (.int .i64 a), .lit (.string b.data.toList)]) [] :=
  shut_agg2 (y0 := (.lit (.int .i64 a), [])) (y1 := (.lit (.string b.data.toList), [])) Try.underlying59 (by kernel_rfl) cells ⟨1, by simp [DataW.trod, Try.underlying3, wa]⟩ ⟨1, by simp [DataW.trod, Try.underlying9, wb]⟩
end Args

/-- What is left behind a name; -1 where nothing is. -/
def sz (s : ByteArray) (l : Int) : Int := if l - s.size < 0 then -1 else l - s.size

theorem szEntry (i : Int) (s : ByteArray) (l : Int) (w : World) (hs : s.size ≤ maxLen) (hl : 0 ≤ l) (hl2 : l ≤ 1048576) :
    Calls Try.prog 51 #[.agg #[.int .i64 i, .string s], .int .i64 l] w fun e w' => e = .returned (.int .i64 (sz s l)) ∧ Below w.heap.size w w' := by
  unfold maxLen at hs
  by_cases h : l - (s.size : Int) < 0
  · have e : sz s l = -1 := if_pos h
    rw [e]
    go_enter Try.func51, Try.ntmps51
    go_wp2
    go_ret
    exact ⟨rfl, (Below.refl _ _).alloc (Nat.le_refl _) _⟩
  · have e : sz s l = l - (s.size : Int) := if_neg h
    rw [e]
    go_enter Try.func51, Try.ntmps51
    go_wp2
    go_ret
    exact ⟨rfl, (Below.refl _ _).alloc (Nat.le_refl _) _⟩

theorem toEntry (i : Int) (s : ByteArray) (w : World) :
    Calls Try.prog 52 #[.agg #[.int .i64 i, .string s]] w fun e w' => e = .returned (.agg #[.int .i64 i, .string s]) ∧ Below w.heap.size w w' := by
  go_enter Try.func52, Try.ntmps52
  go_wp2
  exact bodyPost_ret (v := .agg #[.int .i64 i, .string s]) (by simp [results, Try.results52, go_sem]) rfl ⟨rfl, (((Below.refl _ _).alloc (Nat.le_refl _) _).alloc (by simp) _).alloc (by simp; omega) _⟩

theorem eqEntry (i : Int) (s : ByteArray) (w : World) :
    Calls Try.prog 53 #[.agg #[.int .i64 i, .string s], .agg #[.int .i64 i, .string s]] w fun e w' => e = .returned (.bool true) ∧ Below w.heap.size w w' := by
  go_enter Try.func53, Try.ntmps53
  go_wp2
  go_ret
  exact ⟨rfl, ((Below.refl _ _).alloc (Nat.le_refl _) _).alloc (by simp) _⟩

open E2 (Bx)
variable {B : Nat} {w W W' : World} {i : Int} {s : ByteArray}

theorem szFit (hz : (s.size : Int) ≤ 1048576) (h : Bx B w i s W) :
    Calls Try.prog 51 #[.agg #[.int .i64 i, .string s], .int .i64 1048576] W fun e w' => e = .returned (.int .i64 (1048576 - s.size)) ∧ Bx B w i s w' :=
  (szEntry i s 1048576 W (by unfold maxLen; omega) (by decide) (by decide)).mono fun _ _ ⟨he, hb⟩ => ⟨by rw [he, sz, if_neg (by omega)], h.below hb⟩

theorem szBig (hs : s.size ≤ maxLen) (hz : ¬ (s.size : Int) ≤ 1048576) (h : Bx B w i s W) :
    Calls Try.prog 51 #[.agg #[.int .i64 i, .string s], .int .i64 1048576] W fun e w' => e = .returned (.int .i64 (-1)) ∧ Bx B w i s w' :=
  (szEntry i s 1048576 W hs (by decide) (by decide)).mono fun _ _ ⟨he, hb⟩ => ⟨by rw [he, sz, if_pos (by omega)], h.below hb⟩

theorem toFit (h : Bx B w i s W) :
    Calls Try.prog 52 #[.agg #[.int .i64 i, .string s]] W fun e w' => e = .returned (.agg #[.int .i64 i, .string s]) ∧ Bx B w i s w' :=
  (toEntry i s W).mono fun _ _ ⟨he, hb⟩ => ⟨he, h.below hb⟩
end Go.Proofs.Ytmdgeilmkfnipaa.E3
