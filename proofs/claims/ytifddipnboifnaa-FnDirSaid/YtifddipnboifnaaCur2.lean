/- Contracts of spec.l01New, l01Below, l01Once, l01PickInt, l01Pick, l01Bytes and l01At: what they answer lies in its bounds; the cursor stays one. -/
import Derived.Test.YtifddipnboifnaaCur1
import Derived.Test.YtifddipnboifnaaWords0
import Derived.Test.YtifddipnboifnaaLib0
import Derived.Laws.IdiomStrings
namespace Go.Proofs.Ytifddipnboifnaa.C1
open Go.ChangeShapes Go.WideShapes Go.ChangeAt Go.RowKit C0
set_option linter.unusedVariables false

set_option maxHeartbeats 2000000 in
theorem below_any {w0 w : World} {c : Nat} {a : Option Addr} {len cap : Nat} (hcode : Given w0 a len) (h : St w0 w c a len cap) (hlen : len ≤ 1048576) (n : Int) (h0 : 0 < n) (h1 : n ≤ 2147483648) :
    Calls Try.prog 72 #[.pointer (some ⟨c, 0, none⟩), .int .i64 n] w fun e w' => (∃ x : Int, 0 ≤ x ∧ x < n ∧ e = .returned (.int .i64 x)) ∧ St w0 w' c a len cap ∧ w.grownBy w' (some c) := by
  have h0' : ¬ n ≤ 0 := by omega
  by_cases h2 : n ≤ 256
  · go_enter Try.func72, Try.ntmps72
    go_wp2_with (go_at_call 107; refine (byte_any hcode h hlen).mono ?_; rintro e w1 ⟨⟨x, x0, x1, rfl⟩, s1, g1⟩)
    go_ret
    exact ⟨⟨_, Int.emod_nonneg _ (by omega), Int.emod_lt_of_pos _ h0, rfl⟩, s1, g1⟩
  · go_enter Try.func72, Try.ntmps72
    go_wp2_with (first
      | (go_at_call 107; refine (byte_any hcode s3 hlen).mono ?_; rintro e w4 ⟨⟨x4, x40, x41, rfl⟩, s4, g4⟩)
      | (go_at_call 107; refine (byte_any hcode s2 hlen).mono ?_; rintro e w3 ⟨⟨x3, x30, x31, rfl⟩, s3, g3⟩)
      | (go_at_call 107; refine (byte_any hcode s1 hlen).mono ?_; rintro e w2 ⟨⟨x2, x20, x21, rfl⟩, s2, g2⟩)
      | (go_at_call 107; refine (byte_any hcode h hlen).mono ?_; rintro e w1 ⟨⟨x1, x10, x11, rfl⟩, s1, g1⟩))
    go_ret
    exact ⟨⟨_, Int.emod_nonneg _ (by omega), Int.emod_lt_of_pos _ h0, rfl⟩, s4, grown_trans (grown_trans (grown_trans g1 g2) g3) g4⟩

theorem once_any {w0 w : World} {c : Nat} {a : Option Addr} {len cap : Nat} (hcode : Given w0 a len) (h : St w0 w c a len cap) (hlen : len ≤ 1048576) (n : Int) (h0 : 0 < n) (h1 : n ≤ 2147483648) :
    Calls Try.prog 109 #[.pointer (some ⟨c, 0, none⟩), .int .i64 n] w fun e w' => (∃ x : Bool, e = .returned (.bool x)) ∧ St w0 w' c a len cap ∧ w.grownBy w' (some c) := by
  go_enter Try.func109, Try.ntmps109
  go_wp2_with (go_at_call 72; refine (below_any hcode h hlen n h0 h1).mono ?_; rintro e w1 ⟨⟨x, x0, x1, rfl⟩, s1, g1⟩)
  go_ret
  exact ⟨⟨_, rfl⟩, s1, g1⟩

/-- Cells of a list that a draw picks of. -/
structure Of (w : World) (l n : Nat) (Q : Value → Prop) : Prop where
  lt : l < w.heap.size
  cell : ∀ j, j < n → ∃ v, Q v ∧ w.cell? ⟨l, j, none⟩ = some v

theorem Of.grown {w w' : World} {l n c : Nat} {Q : Value → Prop} (h : Of w l n Q) (hg : w.grownBy w' (some c)) (hne : l ≠ c) : Of w' l n Q :=
  ⟨Nat.lt_of_lt_of_le h.lt hg.size, fun j hj => by
    obtain ⟨v, hv, hc⟩ := h.cell j hj
    refine ⟨v, hv, ?_⟩
    rw [World.cell?_of_block (a := ⟨l, j, none⟩) (hg.block l h.lt (fun e => hne (Option.some.inj e)))]
    exact hc⟩

theorem Of.new (w : World) (C : Array Value) (T : TypeId) (Q : Value → Prop) (h : ∀ j (hj : j < C.size), Q C[j]) : Of (w.alloc (.cells C T)) w.heap.size C.size Q :=
  ⟨by show _ < (w.heap.push _).size; simp, fun j hj => ⟨C[j], h j hj, by rw [World.cell?_alloc_mark, Array.getElem?_eq_getElem hj]⟩⟩

/-- A number of the kind int. -/
def IsInt (v : Value) : Prop := ∃ z : Int, (Lit.int .i64 z).wf = true ∧ v = .int .i64 z
/-- A short string. -/
def IsStr (v : Value) : Prop := ∃ s : ByteArray, s.size ≤ 8 ∧ v = .string s

theorem pickInt_any {w0 w : World} {c l n cp : Nat} {a : Option Addr} {len cap : Nat} (hcode : Given w0 a len) (h : St w0 w c a len cap) (hlen : len ≤ 1048576) (hof : Of w l n IsInt) (hne : l ≠ c) (h0 : 0 < n) (h1 : n ≤ 100) :
    Calls Try.prog 98 #[.pointer (some ⟨c, 0, none⟩), .slice (some ⟨l, 0, none⟩) n cp] w fun e w' => (∃ z : Int, (Lit.int .i64 z).wf = true ∧ e = .returned (.int .i64 z)) ∧ St w0 w' c a len cap ∧ w.grownBy w' (some c) := by
  go_enter Try.func98, Try.ntmps98
  go_wp2_with (go_at_call 72; refine (below_any hcode h hlen (n : Int) (by omega) (by omega)).mono ?_; rintro e w1 ⟨⟨x, x0, x1, rfl⟩, s1, g1⟩; obtain ⟨j, rfl⟩ : ∃ j : Nat, x = (j : Int) := ⟨x.toNat, by omega⟩; obtain ⟨v, ⟨z, wz, rfl⟩, hc⟩ := (hof.grown g1 hne).cell j (by omega))
  go_ret
  exact ⟨⟨z, wz, rfl⟩, s1, g1⟩

theorem pick_any {w0 w : World} {c l n cp : Nat} {a : Option Addr} {len cap : Nat} (hcode : Given w0 a len) (h : St w0 w c a len cap) (hlen : len ≤ 1048576) (hof : Of w l n IsStr) (hne : l ≠ c) (h0 : 0 < n) (h1 : n ≤ 100) :
    Calls Try.prog 101 #[.pointer (some ⟨c, 0, none⟩), .slice (some ⟨l, 0, none⟩) n cp] w fun e w' => (∃ s : ByteArray, s.size ≤ 8 ∧ e = .returned (.string s)) ∧ St w0 w' c a len cap ∧ w.grownBy w' (some c) := by
  go_enter Try.func101, Try.ntmps101
  go_wp2_with (go_at_call 72; refine (below_any hcode h hlen (n : Int) (by omega) (by omega)).mono ?_; rintro e w1 ⟨⟨x, x0, x1, rfl⟩, s1, g1⟩; obtain ⟨j, rfl⟩ : ∃ j : Nat, x = (j : Int) := ⟨x.toNat, by omega⟩; obtain ⟨v, ⟨z, wz, rfl⟩, hc⟩ := (hof.grown g1 hne).cell j (by omega))
  go_ret
  exact ⟨⟨z, wz, rfl⟩, s1, g1⟩
end Go.Proofs.Ytifddipnboifnaa.C1
