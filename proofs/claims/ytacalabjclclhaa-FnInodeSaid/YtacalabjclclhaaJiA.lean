/- Joined texts: plain facts and contracts, as each part says. -/
import Derived.WalkKit
import Derived.Below
import Derived.Laws.AppendOwn
import Derived.Deep.Draws
import Derived.Test.YtacalabjclclhaaRows
import Derived.ProofKit
import Derived.Handy
import Derived.Deep.QuietTactic
import Derived.BigQuiet
import Derived.Lib.Strings
import Derived.Deep.AppendLies
import Derived.Test.YtacalabjclclhaaJtA
import Derived.Laws.IdiomStrings
import Derived.Lib.ItoaNum
import Derived.Lib.ItoaLen
import Derived.Lib.ItoaMem
import Derived.OwnWalk
import Derived.Deep.DeepCutAuto
import Derived.Test.YtacalabjclclhaaJtH

/- The cursor over the bytes of a draw, as it lies in memory: what it is, and that it stays so. -/
namespace Go.Proofs.Ytacalabjclclhaa.C0
open Go.RowKit
set_option linter.unusedVariables false

/-- The bytes that came in can be read. -/
def Given (w : World) (a : Option Addr) (len : Nat) : Prop :=
  ∀ k, k < len → ∃ b off z, a = some ⟨b, off, none⟩ ∧ b < w.heap.size ∧ 0 ≤ z ∧ z < 256 ∧ w.cell? ⟨b, off + k, none⟩ = some (.int .u8 z)

theorem Given.below {w w' : World} {a : Option Addr} {len : Nat} (h : Given w a len) (hb : Below w.heap.size w w') : Given w' a len := fun k hk => by
  obtain ⟨b, off, z, ha, hlt, h0, h1, hc⟩ := h k hk
  exact ⟨b, off, z, ha, Nat.lt_of_lt_of_le hlt hb.size, h0, h1, (hb.cell (p := ⟨b, off + k, none⟩) hlt).trans hc⟩

/-- The cursor: the bytes, how far it is, and a number. -/
structure Cur (w : World) (c : Nat) (a : Option Addr) (len cap : Nat) : Prop where
  lt : c < w.heap.size
  cells : ∃ (k : Nat) (h : Int), k ≤ len ∧ w.cell? ⟨c, 0, none⟩ = some (.slice a len cap) ∧ w.cell? ⟨c, 1, none⟩ = some (.int .i64 (k : Int)) ∧ w.cell? ⟨c, 2, none⟩ = some (.int .i64 h)
  free1 : w.frozen? ⟨c, 1, none⟩ = false
  free2 : w.frozen? ⟨c, 2, none⟩ = false

/-- A cursor that lies behind all that was there. -/
structure St (w0 w : World) (c : Nat) (a : Option Addr) (len cap : Nat) : Prop where
  bel : Below w0.heap.size w0 w
  new : w0.heap.size ≤ c
  cur : Cur w c a len cap

theorem Cur.of_block {w w' : World} {c : Nat} {a : Option Addr} {len cap : Nat} (h : Cur w c a len cap) (hz : c < w'.heap.size) (hb : w'.heap[c]? = w.heap[c]?) : Cur w' c a len cap := by
  have e : ∀ j, w'.cell? ⟨c, j, none⟩ = w.cell? ⟨c, j, none⟩ := fun j => World.cell?_of_block (a := ⟨c, j, none⟩) hb
  have f : ∀ j, w'.frozen? ⟨c, j, none⟩ = w.frozen? ⟨c, j, none⟩ := fun j => World.frozen?_of_block (a := ⟨c, j, none⟩) hb
  obtain ⟨k, x, hk, c0, c1, c2⟩ := h.cells
  exact ⟨hz, ⟨k, x, hk, by rw [e]; exact c0, by rw [e]; exact c1, by rw [e]; exact c2⟩, by rw [f]; exact h.free1, by rw [f]; exact h.free2⟩

/-- Where only new memory was written. -/
theorem St.below {w0 w w' : World} {c : Nat} {a : Option Addr} {len cap : Nat} (h : St w0 w c a len cap) (hb : Below w.heap.size w w') : St w0 w' c a len cap :=
  ⟨h.bel.trans (hb.mono h.bel.size), h.new, h.cur.of_block (Nat.lt_of_lt_of_le h.cur.lt hb.size) (hb.block c h.cur.lt)⟩

/-- Where only another row of new memory, and what is new, was written. -/
theorem St.grown {w0 w w' : World} {c g : Nat} {a : Option Addr} {len cap : Nat} (h : St w0 w c a len cap) (hg : w.grownBy w' (some g)) (hne : c ≠ g) (hnew : w0.heap.size ≤ g) : St w0 w' c a len cap := by
  refine ⟨⟨hg.os.trans h.bel.os, hg.tape.trans h.bel.tape, hg.output.trans h.bel.output, Nat.le_trans h.bel.size hg.size, fun k hk => ?_⟩, h.new, h.cur.of_block (Nat.lt_of_lt_of_le h.cur.lt hg.size) (hg.block c h.cur.lt (fun e => hne (Option.some.inj e)))⟩
  rw [hg.block k (Nat.lt_of_lt_of_le hk h.bel.size) (fun e => by have := Option.some.inj e; omega)]
  exact h.bel.block k hk

theorem grown_refl (w : World) (row : Option Nat) : w.grownBy w row := ⟨rfl, rfl, rfl, Nat.le_refl _, fun _ _ _ => rfl⟩
theorem grown_trans {w w1 w2 : World} {row : Option Nat} (h : w.grownBy w1 row) (h' : w1.grownBy w2 row) : w.grownBy w2 row :=
  ⟨h'.os.trans h.os, h'.tape.trans h.tape, h'.output.trans h.output, Nat.le_trans h.size h'.size, fun k hk hr => by
    rw [h'.block k (Nat.lt_of_lt_of_le hk h.size) hr]
    exact h.block k hk hr⟩
theorem grown_drewN {w w1 : World} {row : Option Nat} (h : w.grownBy w1 row) (n : Nat) : w.grownBy (w1.drewN n) row := ⟨h.os, h.tape, h.output, h.size, h.block⟩
theorem grown_below {w w1 w2 : World} {row : Option Nat} (h : w.grownBy w1 row) (hb : Below w1.heap.size w1 w2) : w.grownBy w2 row :=
  ⟨hb.os.trans h.os, hb.tape.trans h.tape, hb.output.trans h.output, Nat.le_trans h.size hb.size, fun k hk hr => by
    rw [hb.block k (Nat.lt_of_lt_of_le hk h.size)]
    exact h.block k hk hr⟩
theorem grown_set {w w1 : World} {g j : Nat} (h : w.grownBy w1 (some g)) (v : Value) : w.grownBy (w1.setCell ⟨g, j, none⟩ v) (some g) := by
  refine ⟨h.os, h.tape, h.output, ?_, fun k hk hr => ?_⟩
  · simpa using h.size
  · have hne : k ≠ g := fun e => hr (by rw [e])
    rw [← h.block k hk hr]
    exact Below.heap_setCell w1 ⟨g, j, none⟩ v k hne

/-- The cursor behind a step that writes its number, and one that moves it on. -/
theorem St.set2 {w0 w : World} {c : Nat} {a : Option Addr} {len cap : Nat} (h : St w0 w c a len cap) (x : Int) : St w0 (w.setCell ⟨c, 2, none⟩ (.int .i64 x)) c a len cap := by
  obtain ⟨k, y, hk, c0, c1, c2⟩ := h.cur.cells
  refine ⟨h.bel.setCell (p := ⟨c, 2, none⟩) h.new _, h.new, ⟨by simpa using h.cur.lt, ⟨k, x, hk, ?_, ?_, ?_⟩, ?_, ?_⟩⟩
  · rw [World.cell?_setCell_other _ _ _ _ (fun e => by cases e)]; exact c0
  · rw [World.cell?_setCell_other _ _ _ _ (fun e => by cases e)]; exact c1
  · exact World.cell?_setCell_same _ _ _ c2
  · rw [World.frozen?_setCell]; exact h.cur.free1
  · rw [World.frozen?_setCell]; exact h.cur.free2

theorem St.set1 {w0 w : World} {c : Nat} {a : Option Addr} {len cap : Nat} (h : St w0 w c a len cap) (x : Int) (n : Nat) (hx : x = (n : Int)) (hn : n ≤ len) : St w0 (w.setCell ⟨c, 1, none⟩ (.int .i64 x)) c a len cap := by
  subst hx
  obtain ⟨k, y, hk, c0, c1, c2⟩ := h.cur.cells
  refine ⟨h.bel.setCell (p := ⟨c, 1, none⟩) h.new _, h.new, ⟨by simpa using h.cur.lt, ⟨n, y, hn, ?_, ?_, ?_⟩, ?_, ?_⟩⟩
  · rw [World.cell?_setCell_other _ _ _ _ (fun e => by cases e)]; exact c0
  · exact World.cell?_setCell_same _ _ _ c1
  · rw [World.cell?_setCell_other _ _ _ _ (fun e => by cases e)]; exact c2
  · rw [World.frozen?_setCell]; exact h.cur.free1
  · rw [World.frozen?_setCell]; exact h.cur.free2

theorem St.drewN {w0 w : World} {c : Nat} {a : Option Addr} {len cap : Nat} (h : St w0 w c a len cap) (n : Nat) : St w0 (w.drewN n) c a len cap :=
  h.below ⟨rfl, rfl, rfl, Nat.le_refl _, fun _ _ => rfl⟩
end Go.Proofs.Ytacalabjclclhaa.C0

/- The contract of spec.l01Byte: a number of 0 to 255; the cursor stays one. -/
namespace Go.Proofs.Ytacalabjclclhaa.C1
open Go.ChangeShapes Go.WideShapes Go.ChangeAt Go.RowKit C0
set_option linter.unusedVariables false

theorem and255 (n : Int) : bits .and .i64 n 255 = n % 256 := by
  have h255 : (BitVec.ofInt 64 255).toNat = 2 ^ 8 - 1 := by decide
  have key : (BitVec.ofInt 64 n &&& BitVec.ofInt 64 255).toNat = (n % ((2 ^ 64 : Nat) : Int)).toNat % 2 ^ 8 := by
    rw [BitVec.toNat_and, BitVec.toNat_ofInt, h255, Nat.and_two_pow_sub_one_eq_mod]
  show IntKind.i64.wrap ((BitVec.ofInt 64 n &&& BitVec.ofInt 64 255).toNat : Nat) = n % 256
  rw [key, IntKind.wrap_i64]
  omega

set_option maxHeartbeats 2000000 in
theorem byte_any {w0 w : World} {c : Nat} {a : Option Addr} {len cap : Nat} (hcode : Given w0 a len) (h : St w0 w c a len cap) (hlen : len ≤ 1048576) :
    Calls Try.prog 147 #[.pointer (some ⟨c, 0, none⟩)] w fun e w' => (∃ x : Int, 0 ≤ x ∧ x < 256 ∧ e = .returned (.int .i64 x)) ∧ St w0 w' c a len cap ∧ w.grownBy w' (some c) := by
  obtain ⟨k, y, hk, c0, c1, c2⟩ := h.cur.cells
  have f1 := h.cur.free1
  have f2 := h.cur.free2
  have hlt := h.cur.lt
  have ha := and255
  by_cases hkl : k < len
  · obtain ⟨b, off, z, rfl, hb, z0, z1, hz⟩ := hcode k hkl
    have hne : b ≠ c := by have := h.new; omega
    have hz2 : ∀ v, (w.setCell ⟨c, 2, none⟩ v).cell? ⟨b, off + k, none⟩ = some (.int .u8 z) := fun v => by
      rw [World.cell?_setCell_other _ _ _ _ (fun e => hne (Addr.mk.inj e).1.symm), h.bel.cell (p := ⟨b, off + k, none⟩) hb]
      exact hz
    have e1 : (0 : Int) ≤ (k : Int) := by omega
    have e2 : (k : Int) < (len : Int) := by omega
    clear hz
    go_enter Try.func147, Try.ntmps147
    go_wp2
    go_quiet (fail)
    go_wp2
    go_quiet (fail)
    go_wp2
    go_quiet (fail)
    go_wp2
    go_ret
    exact ⟨⟨_, by omega, by omega, rfl⟩, ((h.set2 _).drewN _).set1 _ (k + 1) (by omega) (by omega), grown_set (grown_drewN (grown_set (grown_refl _ _) _) _) _⟩
  · go_enter Try.func147, Try.ntmps147
    go_wp2
    go_quiet (fail)
    go_wp2
    go_quiet (fail)
    go_wp2
    go_ret
    exact ⟨⟨_, by omega, by omega, rfl⟩, ((h.set2 _).drewN _).drewN _, grown_drewN (grown_drewN (grown_set (grown_refl _ _) _) _) _⟩
end Go.Proofs.Ytacalabjclclhaa.C1

/- Plain facts on the parts of a text between blanks, and on rows of strings in memory that a call has made. -/
namespace Go.Proofs.Ytacalabjclclhaa.W0
open Go.RowKit
set_option linter.unusedVariables false

/-- The parts that are done when k bytes are read, and where the next one begins. -/
def st (s : ByteArray) : Nat → List ByteArray × Nat
  | 0 => ([], 0)
  | k + 1 => if (s[k]?.getD 0).toNat = 32 then ((st s k).1 ++ [s.extract (st s k).2 k], k + 1) else st s k

/-- The parts of a text between blanks. -/
def words (s : ByteArray) : List ByteArray := (st s s.size).1 ++ [s.extract (st s s.size).2 s.size]

theorem st_le (s : ByteArray) : ∀ k, (st s k).2 ≤ k ∧ (st s k).1.length ≤ k
  | 0 => ⟨Nat.le_refl _, Nat.le_refl _⟩
  | k + 1 => by
    have := st_le s k
    unfold st
    split
    · simp; omega
    · omega

theorem st_blank (s : ByteArray) (k : Nat) (h : k < s.size) (hb : s[k].toNat = 32) : st s (k + 1) = ((st s k).1 ++ [s.extract (st s k).2 k], k + 1) := by
  have e : s[k]? = some s[k] := getElem?_pos s k h
  rw [st, if_pos (by rw [e]; exact hb)]

theorem st_other (s : ByteArray) (k : Nat) (h : k < s.size) (hb : ¬ s[k].toNat = 32) : st s (k + 1) = st s k := by
  have e : s[k]? = some s[k] := getElem?_pos s k h
  rw [st, if_neg (by rw [e]; exact hb)]

/-- The strings as cells. -/
abbrev strs (l : List ByteArray) : List Value := l.map Value.string

theorem owns_below {W W' : World} {base : Nat} {e : TypeId} {size : Nat} {v : Value} {n : Nat} {xs : List Value} (h : W.ownsRow base e size v n xs) (hb : Below W.heap.size W W') : W'.ownsRow base e size v n xs := by
  refine ⟨h.1, ?_⟩
  rcases h.2 with h0 | ⟨g, cap, cur, hv, hg, hc, r⟩
  · exact Or.inl h0
  · refine Or.inr ⟨g, cap, cur, hv, hg, ?_, r⟩
    rw [hb.block g (Array.getElem?_eq_some_iff.1 hc).1]
    exact hc

theorem below_grown {B : Nat} {w W W' : World} {row : Option Nat} (h : Below B w W) (hg : W.grownBy W' row) (hr : ∀ g, row = some g → B ≤ g) (hB : B ≤ W.heap.size) : Below B w W' :=
  ⟨hg.os.trans h.os, hg.tape.trans h.tape, hg.output.trans h.output, Nat.le_trans h.size hg.size, fun k hk => by
    rw [hg.block k (by omega) (fun e => by have := hr k e.symm; omega)]
    exact h.block k hk⟩

theorem below_append {w wr w1 : World} {e : TypeId} {g n cap : Nat} {xs : List Value} {o : Obj} (hbel : Below w.heap.size w wr) (hown : wr.ownsRow w.heap.size e 1 (.slice (some ⟨g, 0, none⟩) n cap) n xs)
    (hgrow : (wr.alloc o).grownBy w1 (Value.slice (some ⟨g, 0, none⟩) n cap).ownBlock) : Below w.heap.size w w1 :=
  below_grown (hbel.alloc hbel.size o) hgrow (fun g' h => by
    obtain rfl : g = g' := by simpa [Value.ownBlock] using h
    exact (hown.lt g rfl).1) (by have := hbel.size; simp; omega)

theorem words_len (s : ByteArray) : (words s).length = (st s s.size).1.length + 1 := by simp [words]

theorem strs_words (s : ByteArray) : strs (words s) = strs (st s s.size).1 ++ [.string (s.extract (st s s.size).2 s.size)] := by simp [words, strs]

/-- Cells of a row that a call owns. -/
structure Row (w : World) (g : Nat) (ss : List ByteArray) : Prop where
  lt : g < w.heap.size
  cell : ∀ j (hj : j < ss.length), w.cell? ⟨g, j, none⟩ = some (.string ss[j])
  free : ∀ j, j < ss.length → w.frozen? ⟨g, j, none⟩ = false

theorem Row.below {w w' : World} {g : Nat} {ss : List ByteArray} (h : Row w g ss) (hb : Below w.heap.size w w') : Row w' g ss :=
  ⟨Nat.lt_of_lt_of_le h.lt hb.size, fun j hj => (hb.cell (p := ⟨g, j, none⟩) h.lt).trans (h.cell j hj), fun j hj => (hb.frozen (p := ⟨g, j, none⟩) h.lt).trans (h.free j hj)⟩

theorem row_of_owns {w : World} {base : Nat} {e : TypeId} {g n cap : Nat} {ss : List ByteArray} (h : w.ownsRow base e 1 (.slice (some ⟨g, 0, none⟩) n cap) n (strs ss)) (hn : 0 < n) : Row w g ss ∧ base ≤ g ∧ n = ss.length := by
  have hl : n = ss.length := by have := h.1; simp at this; omega
  rcases h.2 with ⟨h0, _⟩ | ⟨g', cap', cur, hv, hb, hc, h1, h2, h3, h4⟩
  · cases h0
  · obtain ⟨rfl, rfl⟩ : g = g' ∧ cap = cap' := by simpa using hv
    have hcell : ∀ j, w.cell? ⟨g, j, none⟩ = cur[j]? := fun j => by
      unfold World.cell?
      rw [hc]
      simp
    refine ⟨⟨(Array.getElem?_eq_some_iff.1 hc).1, fun j hj => ?_, fun j hj => ?_⟩, hb, hl⟩
    · rw [hcell]
      have e1 : (cur.toList.take (n * 1))[j]? = (strs ss)[j]? := by rw [h4]
      rw [List.getElem?_take_of_lt (by omega)] at e1
      rw [← Array.getElem?_toList, e1]
      simp [hj]
    · unfold World.frozen?
      rw [hc]
      simp
end Go.Proofs.Ytacalabjclclhaa.W0

/- Contracts of spec.l01New, l01Below, l01Once, l01PickInt, l01Pick, l01Bytes and l01At: what they answer lies in its bounds; the cursor stays one. -/
namespace Go.Proofs.Ytacalabjclclhaa.C1
open Go.ChangeShapes Go.WideShapes Go.ChangeAt Go.RowKit C0
set_option linter.unusedVariables false

set_option maxHeartbeats 2000000 in
theorem below_any {w0 w : World} {c : Nat} {a : Option Addr} {len cap : Nat} (hcode : Given w0 a len) (h : St w0 w c a len cap) (hlen : len ≤ 1048576) (n : Int) (h0 : 0 < n) (h1 : n ≤ 2147483648) :
    Calls Try.prog 99 #[.pointer (some ⟨c, 0, none⟩), .int .i64 n] w fun e w' => (∃ x : Int, 0 ≤ x ∧ x < n ∧ e = .returned (.int .i64 x)) ∧ St w0 w' c a len cap ∧ w.grownBy w' (some c) := by
  have h0' : ¬ n ≤ 0 := by omega
  by_cases h2 : n ≤ 256
  · go_enter Try.func99, Try.ntmps99
    go_wp2_with (go_at_call 147; refine (byte_any hcode h hlen).mono ?_; rintro e w1 ⟨⟨x, x0, x1, rfl⟩, s1, g1⟩)
    go_ret
    exact ⟨⟨_, Int.emod_nonneg _ (by omega), Int.emod_lt_of_pos _ h0, rfl⟩, s1, g1⟩
  · go_enter Try.func99, Try.ntmps99
    go_wp2_with (first
      | (go_at_call 147; refine (byte_any hcode s3 hlen).mono ?_; rintro e w4 ⟨⟨x4, x40, x41, rfl⟩, s4, g4⟩)
      | (go_at_call 147; refine (byte_any hcode s2 hlen).mono ?_; rintro e w3 ⟨⟨x3, x30, x31, rfl⟩, s3, g3⟩)
      | (go_at_call 147; refine (byte_any hcode s1 hlen).mono ?_; rintro e w2 ⟨⟨x2, x20, x21, rfl⟩, s2, g2⟩)
      | (go_at_call 147; refine (byte_any hcode h hlen).mono ?_; rintro e w1 ⟨⟨x1, x10, x11, rfl⟩, s1, g1⟩))
    go_ret
    exact ⟨⟨_, Int.emod_nonneg _ (by omega), Int.emod_lt_of_pos _ h0, rfl⟩, s4, grown_trans (grown_trans (grown_trans g1 g2) g3) g4⟩

theorem once_any {w0 w : World} {c : Nat} {a : Option Addr} {len cap : Nat} (hcode : Given w0 a len) (h : St w0 w c a len cap) (hlen : len ≤ 1048576) (n : Int) (h0 : 0 < n) (h1 : n ≤ 2147483648) :
    Calls Try.prog 148 #[.pointer (some ⟨c, 0, none⟩), .int .i64 n] w fun e w' => (∃ x : Bool, e = .returned (.bool x)) ∧ St w0 w' c a len cap ∧ w.grownBy w' (some c) := by
  go_enter Try.func148, Try.ntmps148
  go_wp2_with (go_at_call 99; refine (below_any hcode h hlen n h0 h1).mono ?_; rintro e w1 ⟨⟨x, x0, x1, rfl⟩, s1, g1⟩)
  go_ret
  exact ⟨⟨_, rfl⟩, s1, g1⟩

/-- Cells of a list that a draw picks of. -/
structure Of (w : World) (l n : Nat) (Q : Value → Prop) : Prop where
  lt : l < w.heap.size
  cell : ∀ j, j < n → ∃ v, Q v ∧ w.cell? ⟨l, j, none⟩ = some v

theorem Of.grown {w w' : World} {l n c : Nat} {Q : Value → Prop} (h : Of w l n Q) (hg : w.grownBy w' (some c)) (hne : l ≠ c) : Of w' l n Q :=
  ⟨Nat.lt_of_lt_of_le h.lt hg.size, fun j hj => by
    obtain ⟨v, hv, hc⟩ := h.cell j hj
    refine ⟨v, hv, ?_⟩
    rw [World.cell?_of_block (a := ⟨l, j, none⟩) (hg.block l h.lt (fun e => hne (Option.some.inj e)))]
    exact hc⟩

theorem Of.new (w : World) (C : Array Value) (T : TypeId) (Q : Value → Prop) (h : ∀ j (hj : j < C.size), Q C[j]) : Of (w.alloc (.cells C T)) w.heap.size C.size Q :=
  ⟨by show _ < (w.heap.push _).size; simp, fun j hj => ⟨C[j], h j hj, by rw [World.cell?_alloc_mark, Array.getElem?_eq_getElem hj]⟩⟩

/-- A number of the kind int. -/
def IsInt (v : Value) : Prop := ∃ z : Int, (Lit.int .i64 z).wf = true ∧ v = .int .i64 z
/-- A short string. -/
def IsStr (v : Value) : Prop := ∃ s : ByteArray, s.size ≤ 8 ∧ v = .string s

theorem pickInt_any {w0 w : World} {c l n cp : Nat} {a : Option Addr} {len cap : Nat} (hcode : Given w0 a len) (h : St w0 w c a len cap) (hlen : len ≤ 1048576) (hof : Of w l n IsInt) (hne : l ≠ c) (h0 : 0 < n) (h1 : n ≤ 100) :
    Calls Try.prog 139 #[.pointer (some ⟨c, 0, none⟩), .slice (some ⟨l, 0, none⟩) n cp] w fun e w' => (∃ z : Int, (Lit.int .i64 z).wf = true ∧ e = .returned (.int .i64 z)) ∧ St w0 w' c a len cap ∧ w.grownBy w' (some c) := by
  go_enter Try.func139, Try.ntmps139
  go_wp2_with (go_at_call 99; refine (below_any hcode h hlen (n : Int) (by omega) (by omega)).mono ?_; rintro e w1 ⟨⟨x, x0, x1, rfl⟩, s1, g1⟩; obtain ⟨j, rfl⟩ : ∃ j : Nat, x = (j : Int) := ⟨x.toNat, by omega⟩; obtain ⟨v, ⟨z, wz, rfl⟩, hc⟩ := (hof.grown g1 hne).cell j (by omega))
  go_ret
  exact ⟨⟨z, wz, rfl⟩, s1, g1⟩

theorem pick_any {w0 w : World} {c l n cp : Nat} {a : Option Addr} {len cap : Nat} (hcode : Given w0 a len) (h : St w0 w c a len cap) (hlen : len ≤ 1048576) (hof : Of w l n IsStr) (hne : l ≠ c) (h0 : 0 < n) (h1 : n ≤ 100) :
    Calls Try.prog 142 #[.pointer (some ⟨c, 0, none⟩), .slice (some ⟨l, 0, none⟩) n cp] w fun e w' => (∃ s : ByteArray, s.size ≤ 8 ∧ e = .returned (.string s)) ∧ St w0 w' c a len cap ∧ w.grownBy w' (some c) := by
  go_enter Try.func142, Try.ntmps142
  go_wp2_with (go_at_call 99; refine (below_any hcode h hlen (n : Int) (by omega) (by omega)).mono ?_; rintro e w1 ⟨⟨x, x0, x1, rfl⟩, s1, g1⟩; obtain ⟨j, rfl⟩ : ∃ j : Nat, x = (j : Int) := ⟨x.toNat, by omega⟩; obtain ⟨v, ⟨z, wz, rfl⟩, hc⟩ := (hof.grown g1 hne).cell j (by omega))
  go_ret
  exact ⟨⟨z, wz, rfl⟩, s1, g1⟩
end Go.Proofs.Ytacalabjclclhaa.C1

/- Contracts of spec.l01Bytes, l01At and l01New: what they answer lies in its bounds; the cursor stays one. -/
namespace Go.Proofs.Ytacalabjclclhaa.C1
open Go.ChangeShapes Go.WideShapes Go.ChangeAt Go.RowKit C0
set_option linter.unusedVariables false

theorem info8 : (Try.prog.info? 5).map (fun i => (i.zero, i.size, i.bytes)) = some (some (.int .u8 0), 1, 1) := by kernel_rfl

/-- Bytes as cells. -/
abbrev bcells (l : List UInt8) : List Value := l.map fun b => Value.int .u8 (b.toNat : Int)

theorem one_byte (x : Int) : ∀ u ∈ [Value.int .u8 x], u.oneCell' = true := by
  intro u h
  simp at h
  subst h
  rfl

theorem holds_of_owns {w : World} {base : Nat} {e : TypeId} {g n cap : Nat} {l : List UInt8} (h : w.ownsRow base e 1 (.slice (some ⟨g, 0, none⟩) n cap) n (bcells l)) : B0.Holds w g 0 l := by
  intro j hj
  have := h.cells (g := g) rfl j (.int .u8 (l[j].toNat : Int)) (by simp [hj])
  rwa [B0.add_off] at this

set_option maxHeartbeats 2000000 in
theorem bytes_any {w0 w : World} {c : Nat} {a : Option Addr} {len cap : Nat} (hcode : Given w0 a len) (h : St w0 w c a len cap) (hlen : len ≤ 1048576) (n : Nat) (h1 : n ≤ 1048576) :
    Calls Try.prog 141 #[.pointer (some ⟨c, 0, none⟩), .int .i64 (n : Int)] w fun e w' => (∃ s : ByteArray, s.size = n ∧ e = .returned (.string s)) ∧ St w0 w' c a len cap := by
  obtain ⟨i0, hi, hz0, hz1, hz2⟩ := info_parts info8
  have hcl := h.cur.lt
  have hn0 := h.new
  go_enter Try.func141, Try.ntmps141
  go_wp2
  go_loopw [5, 6] (fun v i w' => ∃ (k : Nat) (l : List UInt8) (g cp : Nat), k ≤ n ∧ l.length = k ∧ i = .int .i64 k ∧ v = .slice (some ⟨g, 0, none⟩) k cp ∧ w.heap.size ≤ w'.heap.size ∧ w'.ownsRow w.heap.size 5 1 (.slice (some ⟨g, 0, none⟩) k cp) k (bcells l) ∧ St w0 w' c a len cap) (fun _ i _ => n - (intOf i).toNat)
  case atStart => exact ⟨0, [], _, _, Nat.zero_le _, rfl, rfl, rfl, by simp, World.ownsRow_made w #[] 0 (Nat.le_refl _) (Nat.zero_le _) rfl, h.below ((Below.refl _ _).alloc (Nat.le_refl _) _)⟩
  case round =>
    obtain ⟨k, l, g, cp, hk, hl, rfl, rfl, hB, hown, hst⟩ := hrel
    have hg : w.heap.size ≤ g := (hown.lt g rfl).1
    by_cases hlt : k < n
    · have hlt' : (k : Int) < (n : Int) := by omega
      go_wp2_with (first
        | (go_at_call 99; refine (below_any hcode hst hlen 256 (by omega) (by omega)).mono ?_; rintro e w1 ⟨⟨x, x0, x1, rfl⟩, s1, g1⟩; have hown1 := hown.kept g1 (Or.inr (by simp [Value.ownBlock]; omega)); have hB1 := Nat.le_trans hB g1.size)
        | (at_builtin; refine wpList_append_lies _ rfl (.tmp 13) (.tmp 17) 22 rfl w.heap.size 5 i0 (.int .u8 0) 1 1 Try.underlying22 hi hz0 hz1 hz2 rfl (by omega) _ _ _ (by rfl) (hown1.alloc _) ⟨w1.heap.size, 0, none⟩ 1 1 [.int .u8 x] (by rfl) rfl (World.news_of_block (heap_alloc_new w1 _)) (one_byte _) (by omega) (by unfold maxLen; omega) (by omega) (by simp; omega) _ rfl ?_; intro g2 cap2 w2 hown2 hgrow hat hlt2))
      go_roundw
      case rel =>
        refine ⟨k + 1, l ++ [UInt8.ofNat x.toNat], g2, cap2, by omega, by simp [hl], by go_num, rfl, ?_, ?_, ?_⟩
        · exact Nat.le_trans (by simp; omega) hgrow.size
        · have e : bcells (l ++ [UInt8.ofNat x.toNat]) = bcells l ++ [.int .u8 x] := by
            have : x.toNat < 256 := by omega
            simp [Nat.mod_eq_of_lt this]
            omega
          rw [e]
          exact hown2
        · exact (s1.below ((Below.refl _ _).alloc (Nat.le_refl _) _)).grown (g := g) hgrow (by omega) (by omega)
      case measure => simp [intOf]; omega
    · obtain rfl : k = n := by omega
      have hcv := B0.conv_back (P := Try.prog) wr 22 9 5 g 0 cp l Try.underlying22 Try.underlying5 Try.underlying9 (holds_of_owns hown) k hl.symm
      go_wp2
      go_ret
      exact ⟨⟨⟨l.toArray⟩, by show l.toArray.size = _; simp [hl], rfl⟩, hst⟩

theorem ints4 : ∀ j (hj : j < (#[Value.int .i64 (-1), Value.int .i64 9223372036854775807, Value.int .i64 (-9223372036854775808), Value.int .i64 100] : Array Value).size), IsInt (#[Value.int .i64 (-1), Value.int .i64 9223372036854775807, Value.int .i64 (-9223372036854775808), Value.int .i64 100] : Array Value)[j] := by
  intro j hj
  match j, hj with
  | 0, _ => exact ⟨_, by decide, rfl⟩
  | 1, _ => exact ⟨_, by decide, rfl⟩
  | 2, _ => exact ⟨_, by decide, rfl⟩
  | 3, _ => exact ⟨_, by decide, rfl⟩

end Go.Proofs.Ytacalabjclclhaa.C1

/- Plain facts on decimal numerals. -/
namespace Go.Proofs.Ytacalabjclclhaa.D0
open Go

/-- The digits of a number, none for 0. -/
def dd (u : Nat) : List UInt8 := if u = 0 then [] else Lib.decDigits u

theorem dd_step (u : Nat) (h : u ≠ 0) : dd u = dd (u / 10) ++ [UInt8.ofNat (48 + u % 10)] := by
  unfold dd
  rw [if_neg h]
  by_cases h1 : u < 10
  · rw [Lib.decDigits_one h1, if_pos (by omega), Nat.mod_eq_of_lt h1]
    rfl
  · rw [Lib.decDigits, dif_neg h1, if_neg (by omega)]

theorem dd_length (u : Nat) (h : u ≤ 9223372036854775808) : (dd u).length ≤ 21 := by
  unfold dd
  split
  · simp
  · have := Lib.itoa_length_le (-(u : Int)) (by omega) (by omega)
    rw [Lib.itoa_neg u (by omega)] at this
    simp at this
    omega

/-- The ten digits as a text. -/
theorem digit_piece (d : Nat) (h : d < 10) : (⟨#[48, 49, 50, 51, 52, 53, 54, 55, 56, 57]⟩ : ByteArray).extract d (d + 1) = ⟨#[UInt8.ofNat (48 + d)]⟩ := by
  match d, h with
  | 0, _ => rfl
  | 1, _ => rfl
  | 2, _ => rfl
  | 3, _ => rfl
  | 4, _ => rfl
  | 5, _ => rfl
  | 6, _ => rfl
  | 7, _ => rfl
  | 8, _ => rfl
  | 9, _ => rfl

/-- A step of the loop that writes the digits from the last one on. -/
theorem round_eq (u v : Nat) (out : List UInt8) (h : u ≠ 0) (e : dd u ++ out = dd v) : dd (u / 10) ++ (UInt8.ofNat (48 + u % 10) :: out) = dd v := by
  rw [← e, dd_step u h]
  simp

/-- One digit as a text. -/
def dig (x : Int) : ByteArray := ⟨#[UInt8.ofNat (48 + x.toNat)]⟩

theorem dig_size (x : Int) : (dig x).size = 1 := rfl

theorem dig_cons (x : Int) (out : List UInt8) : dig x ++ ⟨out.toArray⟩ = ⟨(UInt8.ofNat (48 + x.toNat) :: out).toArray⟩ := by
  apply ByteArray.ext
  apply Array.toList_inj.1
  simp [dig]

theorem ret_minus (l : List UInt8) : Ending.returned (.string (⟨#[45]⟩ ++ ⟨l.toArray⟩)) = Ending.returned (.string ⟨(45 :: l).toArray⟩) := by
  congr 2

theorem itoa_pos (u : Nat) (h : u ≠ 0) : Lib.itoa (u : Int) = dd u := by rw [Lib.itoa_nonneg, dd, if_neg h]
theorem itoa_neg (u : Nat) (h : u ≠ 0) : Lib.itoa (-(u : Int)) = 45 :: dd u := by rw [Lib.itoa_neg u (by omega), dd, if_neg h]

/-- The piece of the ten digits at a digit's place. -/
theorem dig_slice {P : Program} (t : TypeId) (ht : P.underlying t = some .string) (x : Int) (h0 : 0 ≤ x) (h1 : x < 10) (W : World) :
    (Instr.slice t (.string ⟨#[48, 49, 50, 51, 52, 53, 54, 55, 56, 57]⟩) (some (.int .i64 x)) (some (.int .i64 (x + 1))) none).run P W = .ok (.string (dig x)) W := by
  rw [run_slice_string W t _ .i64 .i64 x (x + 1) ht h0 (by omega) (by show x + 1 ≤ ((10 : Nat) : Int); omega)]
  obtain ⟨d, rfl⟩ : ∃ d : Nat, x = (d : Int) := ⟨x.toNat, by omega⟩
  rw [show ((d : Int) + 1).toNat = d + 1 by omega, show ((d : Int)).toNat = d by omega, digit_piece d (by omega)]
  rfl
end Go.Proofs.Ytacalabjclclhaa.D0

/- The contract of spec.DecText, as the given laws call it. -/
namespace Go.Proofs.Ytacalabjclclhaa.D1
open Go.ChangeShapes Go.WideShapes Go.ChangeAt Go.RowKit
set_option linter.unusedVariables false

end Go.Proofs.Ytacalabjclclhaa.D1

/- Contracts of spec.l01New and of the draws of chapter 1: what is drawn lies in its bounds, and only new memory is written. -/
namespace Go.Proofs.Ytacalabjclclhaa.C1
open Go.ChangeShapes Go.WideShapes Go.ChangeAt Go.RowKit C0
set_option linter.unusedVariables false

theorem st_new {w : World} {a : Option Addr} {len cap : Nat} (x : Int) (T : TypeId) : St w (w.alloc (.cells #[.slice a len cap, .int .i64 0, .int .i64 x] T)) w.heap.size a len cap := by
  refine ⟨(Below.refl _ _).alloc (Nat.le_refl _) _, Nat.le_refl _, ⟨by show _ < (w.heap.push _).size; simp, ⟨0, x, Nat.zero_le _, ?_, ?_, ?_⟩, ?_, ?_⟩⟩
  · rw [World.cell?_alloc_mark]; rfl
  · rw [World.cell?_alloc_mark]; rfl
  · rw [World.cell?_alloc_mark]; rfl
  · have := World.frozen?_alloc_mark w #[.slice a len cap, .int .i64 0, .int .i64 x] T 0 0 1
    rw [this]; simp
  · have := World.frozen?_alloc_mark w #[.slice a len cap, .int .i64 0, .int .i64 x] T 0 0 2
    rw [this]; simp

set_option maxHeartbeats 2000000 in
theorem new_any {w : World} {a : Option Addr} {len cap : Nat} (hcode : Given w a len) (hlen : len ≤ 1048576) :
    Calls Try.prog 85 #[.slice a len cap] w fun e w' => ∃ c, e = .returned (.pointer (some ⟨c, 0, none⟩)) ∧ St w w' c a len cap := by
  go_enter Try.func85, Try.ntmps85
  go_wp2
  go_loop [3, 4] (fun t i => ∃ (k : Nat) (x : Int), k ≤ len ∧ i = .int .i64 k ∧ t = .int .i64 x) (fun _ i => len - (intOf i).toNat)
  case atStart => exact ⟨0, _, Nat.zero_le _, rfl, rfl⟩
  case round =>
    obtain ⟨k, x, hk, rfl, rfl⟩ := hrel
    by_cases hlt : k < len
    · have e1 : (0 : Int) ≤ (k : Int) := by omega
      have e2 : (k : Int) < (len : Int) := by omega
      obtain ⟨b, off, z, rfl, hb, z0, z1, hz⟩ := hcode k hlt
      by_cases h4 : (k : Int) < 4000
      · go_wp2
        go_round
        case rel => exact ⟨k + 1, _, by omega, by go_num, rfl⟩
        case measure => simp [intOf]; omega
      · have h4' : decide ((k : Int) < 4000) = false := by simpa using h4
        go_wp2
        go_ret
        exact ⟨_, rfl, st_new _ _⟩
    · have hf : decide ((k : Int) < (len : Int)) = false := by simp; omega
      go_wp2
      go_ret
      exact ⟨_, rfl, st_new _ _⟩
end Go.Proofs.Ytacalabjclclhaa.C1

/- Drawing: bytes, picks, and what else stays beside the cursor. -/
namespace Go.Proofs.Ytacalabjclclhaa.C1
open Go.ChangeShapes Go.WideShapes Go.ChangeAt Go.RowKit C0
set_option linter.unusedVariables false
set_option linter.unusedSimpArgs false
set_option maxRecDepth 10000

theorem grown_new {w W1 W2 : World} {c g : Nat} (h : w.grownBy W1 (some c)) (h' : W1.grownBy W2 (some g)) (hg : w.heap.size ≤ g) : w.grownBy W2 (some c) :=
  ⟨h'.os.trans h.os, h'.tape.trans h.tape, h'.output.trans h.output, Nat.le_trans h.size h'.size, fun k hk hr => by
    rw [h'.block k (Nat.lt_of_lt_of_le hk h.size) (fun e => by have := Option.some.inj e; omega)]
    exact h.block k hk hr⟩

theorem grown_of_below {w W : World} {c : Nat} (h : Below w.heap.size w W) : w.grownBy W (some c) := ⟨h.os, h.tape, h.output, h.size, fun k hk _ => h.block k hk⟩

theorem below_of_grown {w W : World} {c : Nat} (h : w.grownBy W (some c)) (hc : w.heap.size ≤ c) : Below w.heap.size w W :=
  ⟨h.os, h.tape, h.output, h.size, fun k hk => h.block k hk (fun e => by have := Option.some.inj e; omega)⟩

set_option maxHeartbeats 2000000 in
theorem bytes_grown {w0 w : World} {c : Nat} {a : Option Addr} {len cap : Nat} (hcode : Given w0 a len) (h : St w0 w c a len cap) (hlen : len ≤ 1048576) (n : Nat) (h1 : n ≤ 1048576) :
    Calls Try.prog 141 #[.pointer (some ⟨c, 0, none⟩), .int .i64 (n : Int)] w fun e w' => (∃ s : ByteArray, s.size = n ∧ e = .returned (.string s)) ∧ St w0 w' c a len cap ∧ w.grownBy w' (some c) := by
  obtain ⟨i0, hi, hz0, hz1, hz2⟩ := info_parts info8
  have hcl := h.cur.lt
  have hn0 := h.new
  go_enter Try.func141, Try.ntmps141
  go_wp2
  go_loopw [5, 6] (fun v i w' => ∃ (k : Nat) (l : List UInt8) (g cp : Nat), k ≤ n ∧ l.length = k ∧ i = .int .i64 k ∧ v = .slice (some ⟨g, 0, none⟩) k cp ∧ w.heap.size ≤ w'.heap.size ∧ w'.ownsRow w.heap.size 5 1 (.slice (some ⟨g, 0, none⟩) k cp) k (bcells l) ∧ St w0 w' c a len cap ∧ w.grownBy w' (some c)) (fun _ i _ => n - (intOf i).toNat)
  case atStart => exact ⟨0, [], _, _, Nat.zero_le _, rfl, rfl, rfl, by simp, World.ownsRow_made w #[] 0 (Nat.le_refl _) (Nat.zero_le _) rfl, h.below ((Below.refl _ _).alloc (Nat.le_refl _) _), grown_of_below ((Below.refl _ _).alloc (Nat.le_refl _) _)⟩
  case round =>
    obtain ⟨k, l, g, cp, hk, hl, rfl, rfl, hB, hown, hst, hgr⟩ := hrel
    have hg : w.heap.size ≤ g := (hown.lt g rfl).1
    by_cases hlt : k < n
    · have hlt' : (k : Int) < (n : Int) := by omega
      go_wp2_with (first
        | (go_at_call 99; refine (below_any hcode hst hlen 256 (by omega) (by omega)).mono ?_; rintro e w1 ⟨⟨x, x0, x1, rfl⟩, s1, g1⟩; have hown1 := hown.kept g1 (Or.inr (by simp [Value.ownBlock]; omega)); have hB1 := Nat.le_trans hB g1.size)
        | (at_builtin; refine wpList_append_lies _ rfl (.tmp 13) (.tmp 17) 22 rfl w.heap.size 5 i0 (.int .u8 0) 1 1 Try.underlying22 hi hz0 hz1 hz2 rfl (by omega) _ _ _ (by rfl) (hown1.alloc _) ⟨w1.heap.size, 0, none⟩ 1 1 [.int .u8 x] (by rfl) rfl (World.news_of_block (heap_alloc_new w1 _)) (one_byte _) (by omega) (by unfold maxLen; omega) (by omega) (by simp; omega) _ rfl ?_; intro g2 cap2 w2 hown2 hgrow hat hlt2))
      go_roundw
      case rel =>
        refine ⟨k + 1, l ++ [UInt8.ofNat x.toNat], g2, cap2, by omega, by simp [hl], by go_num, rfl, ?_, ?_, ?_, ?_⟩
        · exact Nat.le_trans (by simp; omega) hgrow.size
        · have e : bcells (l ++ [UInt8.ofNat x.toNat]) = bcells l ++ [.int .u8 x] := by
            have : x.toNat < 256 := by omega
            simp [Nat.mod_eq_of_lt this]
            omega
          rw [e]
          exact hown2
        · exact (s1.below ((Below.refl _ _).alloc (Nat.le_refl _) _)).grown (g := g) hgrow (by omega) (by omega)
        · exact grown_new (grown_below (grown_trans hgr g1) ((Below.refl _ _).alloc (Nat.le_refl _) _)) hgrow hg
      case measure => simp [intOf]; omega
    · obtain rfl : k = n := by omega
      have hcv := B0.conv_back (P := Try.prog) wr 22 9 5 g 0 cp l Try.underlying22 Try.underlying5 Try.underlying9 (holds_of_owns hown) k hl.symm
      go_wp2
      go_ret
      exact ⟨⟨⟨l.toArray⟩, by show l.toArray.size = _; simp [hl], rfl⟩, hst, hgr⟩

theorem st_other {w0 w : World} {c : Nat} {a : Option Addr} {len cap : Nat} (h : St w0 w c a len cap) {B j : Nat} (hne : B ≠ c) (hB : w0.heap.size ≤ B) (v : Value) : St w0 (w.setCell ⟨B, j, none⟩ v) c a len cap :=
  ⟨h.bel.setCell (p := ⟨B, j, none⟩) hB _, h.new, h.cur.of_block (by simpa using h.cur.lt) (Below.heap_setCell _ _ _ _ (Ne.symm hne))⟩

theorem blk_grown {B g : Nat} {vs : List Value} {w w' : World} (h : K0.Blk B vs w) (hg : w.grownBy w' (some g)) (hne : B ≠ g) : K0.Blk B vs w' := by
  have hb : w'.heap[B]? = w.heap[B]? := hg.block B h.lt (fun e => hne (Option.some.inj e))
  refine ⟨fun j hj => ?_, fun j hj => ?_, Nat.lt_of_lt_of_le h.lt hg.size⟩
  · rw [World.cell?_of_block (a := ⟨B, j, none⟩) hb]
    exact h.cell j hj
  · rw [World.frozen?_of_block (a := ⟨B, j, none⟩) hb]
    exact h.free j hj

theorem bytes_int {w0 w : World} {c : Nat} {a : Option Addr} {len cap : Nat} (hcode : Given w0 a len) (h : St w0 w c a len cap) (hlen : len ≤ 1048576) (n : Int) (h0 : 0 ≤ n) (h1 : n ≤ 1048576) :
    Calls Try.prog 141 #[.pointer (some ⟨c, 0, none⟩), .int .i64 n] w fun e w' => (∃ s : ByteArray, (s.size : Int) = n ∧ e = .returned (.string s)) ∧ St w0 w' c a len cap ∧ w.grownBy w' (some c) := by
  obtain ⟨m, rfl⟩ : ∃ m : Nat, n = (m : Int) := ⟨n.toNat, by omega⟩
  exact (bytes_grown hcode h hlen m (by omega)).mono fun e w' ⟨⟨s, hs, he⟩, h2⟩ => ⟨⟨s, by omega, he⟩, h2⟩

theorem wf_of (n : Int) (h0 : -9223372036854775808 ≤ n) (h1 : n ≤ 9223372036854775807) : (Lit.int .i64 n).wf = true := by
  simp [Lit.wf, IntKind.min, IntKind.max, IntKind.signed, IntKind.bits]
  omega

theorem wrap_of (n : Int) (h0 : -9223372036854775808 ≤ n) (h1 : n ≤ 9223372036854775807) : IntKind.i64.wrap n = n := by rw [IntKind.wrap_i64]; omega

theorem grown_setNew {w W : World} {c B j : Nat} {v : Value} (h : w.grownBy W (some c)) (hB : w.heap.size ≤ B) : w.grownBy (W.setCell ⟨B, j, none⟩ v) (some c) :=
  grown_new h (grown_set (grown_refl _ _) v) hB

theorem isInt {z : Int} (h0 : -9223372036854775808 ≤ z) (h1 : z ≤ 9223372036854775807) : IsInt (.int .i64 z) := ⟨z, wf_of z h0 h1, rfl⟩
theorem of_all {C : Array Value} {Q : Value → Prop} (h : ∀ v ∈ C.toList, Q v) : ∀ j (hj : j < C.size), Q C[j] := fun j hj => h _ (by simp)

/-- A text of no more than a hundred bytes. -/
def IsTxt (v : Value) : Prop := ∃ s : ByteArray, s.size ≤ 100 ∧ v = .string s

variable {a : Option Addr} {len cap : Nat}

theorem pickTxt {w0 w : World} {c l n cp : Nat} (hcode : Given w0 a len) (h : St w0 w c a len cap) (hlen : len ≤ 1048576) (hof : Of w l n IsTxt) (hne : l ≠ c) (h0 : 0 < n) (h1 : n ≤ 100) :
    Calls Try.prog 142 #[.pointer (some ⟨c, 0, none⟩), .slice (some ⟨l, 0, none⟩) n cp] w fun e w' => (∃ s : ByteArray, s.size ≤ 100 ∧ e = .returned (.string s)) ∧ St w0 w' c a len cap ∧ w.grownBy w' (some c) := by
  go_enter Try.func142, Try.ntmps142
  go_wp2_with (go_at_call 99; refine (below_any hcode h hlen (n : Int) (by omega) (by omega)).mono ?_; rintro e w1 ⟨⟨x, x0, x1, rfl⟩, s1, g1⟩; obtain ⟨j, rfl⟩ : ∃ j : Nat, x = (j : Int) := ⟨x.toNat, by omega⟩; obtain ⟨v, ⟨z, wz, rfl⟩, hc⟩ := (hof.grown g1 hne).cell j (by omega))
  go_ret
  exact ⟨⟨z, wz, rfl⟩, s1, g1⟩

/-- A pick out of texts, or numbers, that were laid just now. -/
theorem pickTxtNew {w0 W : World} {c : Nat} {C : Array Value} {cp : Nat} {T : TypeId} (hcode : Given w0 a len) (h : St w0 W c a len cap) (hlen : len ≤ 1048576) (hC : ∀ v ∈ C.toList, IsTxt v) (h0 : 0 < C.size) (h1 : C.size ≤ 100) :
    Calls Try.prog 142 #[.pointer (some ⟨c, 0, none⟩), .slice (some ⟨W.heap.size, 0, none⟩) C.size cp] (W.alloc (.cells C T)) fun e w' => (∃ s : ByteArray, s.size ≤ 100 ∧ e = .returned (.string s)) ∧ St w0 w' c a len cap ∧ (W.alloc (.cells C T)).grownBy w' (some c) :=
  pickTxt hcode (h.below (K0.below_new _ _)) hlen (Of.new W C T IsTxt (of_all hC)) (by have := h.cur.lt; omega) h0 h1

theorem pickNew {w0 W : World} {c : Nat} {C : Array Value} {cp : Nat} (hcode : Given w0 a len) (h : St w0 W c a len cap) (hlen : len ≤ 1048576) (hC : ∀ v ∈ C.toList, IsInt v) (h0 : 0 < C.size) (h1 : C.size ≤ 100) :
    Calls Try.prog 139 #[.pointer (some ⟨c, 0, none⟩), .slice (some ⟨W.heap.size, 0, none⟩) C.size cp] (W.alloc (.cells C 3)) fun e w' => (∃ z : Int, (Lit.int .i64 z).wf = true ∧ e = .returned (.int .i64 z)) ∧ St w0 w' c a len cap ∧ (W.alloc (.cells C 3)).grownBy w' (some c) :=
  pickInt_any hcode (h.below (K0.below_new _ _)) hlen (Of.new W C 3 IsInt (of_all hC)) (by have := h.cur.lt; omega) h0 h1

theorem txt {l : List UInt8} (h : l.length ≤ 100) : IsTxt (.string ⟨l.toArray⟩) := ⟨_, by show l.toArray.size ≤ 100; simpa using h, rfl⟩

/-- Texts of which a law of the kernel says that they are short. -/
def shortV (v : Value) : Bool := match v with | .string s => decide (s.data.toList.length ≤ 100) | _ => false
theorem short_txt {v : Value} (h : shortV v = true) : IsTxt v := by
  cases v <;> simp [shortV] at h
  exact ⟨_, by show _ ≤ 100; rw [Lib.size_eq]; exact h, rfl⟩
theorem all_short {l : List Value} (h : l.all shortV = true) : ∀ v ∈ l, IsTxt v := fun v hv => short_txt (List.all_eq_true.1 h v hv)
end Go.Proofs.Ytacalabjclclhaa.C1

/- Contracts of spec.l03Spoil and spec.l03Entry: what is drawn lies in its bounds; the cursor stays one. -/
namespace Go.Proofs.Ytacalabjclclhaa.C1
open Go.ChangeShapes Go.WideShapes Go.ChangeAt Go.RowKit C0
set_option linter.unusedVariables false
set_option linter.unusedSimpArgs false
set_option maxRecDepth 10000

/-- A cursor, and a struct beside it that is drawn, with the place of the answer. -/
structure Dv (w0 w : World) (c : Nat) (a : Option Addr) (len cap R B : Nat) (rs vs : List Value) (W : World) : Prop where
  st : St w0 W c a len cap
  res : K0.Blk R rs W
  dev : K0.Blk B vs W
  ne : R ≠ c ∧ B ≠ c ∧ R ≠ B
  old : w.heap.size ≤ R ∧ w.heap.size ≤ B ∧ w0.heap.size ≤ R ∧ w0.heap.size ≤ B
  gr : w.grownBy W (some c)

section
variable {w0 w W W' : World} {c : Nat} {a : Option Addr} {len cap R B : Nat} {rs vs : List Value}

theorem Dv.grown (h : Dv w0 w c a len cap R B rs vs W) (s : St w0 W' c a len cap) (g : W.grownBy W' (some c)) : Dv w0 w c a len cap R B rs vs W' :=
  ⟨s, blk_grown h.res g h.ne.1, blk_grown h.dev g h.ne.2.1, h.ne, h.old, grown_trans h.gr g⟩
theorem Dv.below (h : Dv w0 w c a len cap R B rs vs W) (hb : Below W.heap.size W W') : Dv w0 w c a len cap R B rs vs W' :=
  ⟨h.st.below hb, h.res.below hb, h.dev.below hb, h.ne, h.old, grown_below h.gr hb⟩
theorem Dv.drew (h : Dv w0 w c a len cap R B rs vs W) : Dv w0 w c a len cap R B rs vs W.drew := h.below (K0.below_drewN (Below.refl _ _) 1)
theorem Dv.alloc (h : Dv w0 w c a len cap R B rs vs W) (o : Obj) : Dv w0 w c a len cap R B rs vs (W.alloc o) := h.below (K0.below_new _ _)
theorem Dv.put (h : Dv w0 w c a len cap R B rs vs W) (j : Nat) (v : Value) : Dv w0 w c a len cap R B rs (vs.set j v) (W.setCell ⟨B, j, none⟩ v) :=
  ⟨st_other h.st h.ne.2.1 h.old.2.2.2 _, h.res.setOther (Ne.symm h.ne.2.2) _ _, h.dev.set j v, h.ne, h.old, grown_setNew h.gr h.old.2.1⟩
theorem Dv.fin (h : Dv w0 w c a len cap R B rs vs W) (j : Nat) (v : Value) : Dv w0 w c a len cap R B (rs.set j v) vs (W.setCell ⟨R, j, none⟩ v) :=
  ⟨st_other h.st h.ne.1 h.old.2.2.1 _, h.res.set j v, h.dev.setOther h.ne.2.2 _ _, h.ne, h.old, grown_setNew h.gr h.old.1⟩

theorem dv_new {w4 : World} {T : TypeId} (h1 : St w0 w4 c a len cap) (hc : c < w.heap.size) (hw : w0.heap.size ≤ w.heap.size) (k4 : K0.Blk w.heap.size rs w4) (g4 : w.grownBy w4 (some c)) :
    Dv w0 w c a len cap w.heap.size w4.heap.size rs vs (w4.alloc (.cells vs.toArray T)) := by
  have l4 := k4.lt
  have hb := K0.below_new w4 (.cells vs.toArray T)
  exact ⟨h1.below hb, k4.below hb, K0.blk_new vs w4 T, ⟨by omega, by omega, by omega⟩, ⟨by omega, by omega, by omega, by omega⟩, grown_below g4 hb⟩
end

variable {w0 w : World} {c : Nat} {a : Option Addr} {len cap : Nat}

theorem laid_size (s : ByteArray) (i : Int) (t : ByteArray) : (B5.laid s i t).size = s.size := by
  unfold B5.laid
  split
  · rename_i h
    obtain ⟨h0, h1, h2⟩ := B2.lies_true h
    rw [ByteArray.size_append, ByteArray.size_append, ByteArray.size_extract, ByteArray.size_extract]
    omega
  · rfl

theorem eints : ∀ v ∈ (#[Value.int .i64 0, Value.int .i64 8, Value.int .i64 (-1)] : Array Value).toList, IsInt v := by
  intro v hv
  simp at hv
  rcases hv with rfl | rfl | rfl <;> exact isInt (by omega) (by omega)

set_option maxHeartbeats 4000000 in
theorem l03Spoil (hcode : Given w0 a len) (h : St w0 w c a len cap) (hlen : len ≤ 1048576) (s : ByteArray) (hs : s.size ≤ 100000) :
    Calls Try.prog 87 #[.pointer (some ⟨c, 0, none⟩), .string s] w fun e w' => (∃ t : ByteArray, t.size ≤ 100100 ∧ e = .returned (.string t)) ∧ St w0 w' c a len cap ∧ w.grownBy w' (some c) := by
  have hsb : ∀ v ∈ (#[Value.string ⟨#[0]⟩, Value.string ⟨#[97]⟩] : Array Value).toList, IsTxt v := all_short (by rfl)
  go_enter Try.func87, Try.ntmps87
  go_wp2_with (first
    | (go_at_call 99; have s1' := s1; refine (below_any hcode s1 hlen 6 (by omega) (by omega)).mono ?_; rintro e w2 ⟨⟨m, m0, m1, rfl⟩, s2, g2⟩; have gr2 := grown_trans g1 g2)
    | (go_at_call 99; refine (below_any hcode h hlen ((s.size : Int) + 1) (by omega) (by omega)).mono ?_; rintro e w1 ⟨⟨i, i0, i1, rfl⟩, s1, g1⟩; have i2 : i ≤ (s.size : Int) := (by omega))
    | (go_at_call 141; refine (bytes_int hcode s2 hlen 1 (by omega) (by omega)).mono ?_; rintro e w3 ⟨⟨u, hu, rfl⟩, s3, g3⟩; have gr3 := grown_trans gr2 g3)
    | (go_at_call 116; refine (B5.spec_With s i u _ (by omega) (by omega)).mono ?_; rintro e w4 ⟨rfl, n4, rfl⟩)
    | (go_at_call 142; refine (pickTxtNew hcode s2 hlen hsb (show 0 < 2 by decide) (show 2 ≤ 100 by decide)).mono ?_; rintro e w3 ⟨⟨u, hu, rfl⟩, s3, g3⟩; have gr3 := grown_trans (grown_below gr2 (K0.below_new w2 _)) g3; have hcat : s.size + u.size ≤ 9223372036854775807 := (by omega)))
  all_goals go_ret
  · exact ⟨⟨_, by rw [ByteArray.size_extract]; omega, rfl⟩, s2, gr2⟩
  · exact ⟨⟨_, by rw [laid_size]; omega, rfl⟩, s3.drewN n4, grown_drewN gr3 n4⟩
  · exact ⟨⟨_, by rw [ByteArray.size_append]; omega, rfl⟩, s3, gr3⟩
  · exact ⟨⟨_, by omega, rfl⟩, s2, gr2⟩

theorem ret2v {W : World} {B : Nat} {u v c d : Value} (h0 : W.cell? ⟨B, 0, none⟩ = some c) (h1 : W.cell? ⟨B, 1, none⟩ = some d) :
    ((W.setCell ⟨B, 0, none⟩ u).setCell ⟨B, 1, none⟩ v).cell? ⟨B, 0, none⟩ = some u ∧ ((W.setCell ⟨B, 0, none⟩ u).setCell ⟨B, 1, none⟩ v).cell? ⟨B, 1, none⟩ = some v := by
  have e : (⟨B, 1, none⟩ : Addr) ≠ ⟨B, 0, none⟩ := by simp
  refine ⟨?_, ?_⟩
  · rw [World.cell?_setCell_other _ _ _ _ e, World.cell?_setCell_same _ _ _ h0]
  · rw [World.cell?_setCell_same _ _ _ ((World.cell?_setCell_other _ _ _ _ e.symm).trans h1)]

theorem names5 : ∀ v ∈ (#[Value.string ⟨#[97]⟩, Value.string ⟨#[98]⟩, Value.string ⟨#[102, 105, 108, 101, 46, 116, 120, 116]⟩, Value.string ⟨#[97, 98, 99, 100, 101, 102, 103, 104, 105, 106, 107, 108, 109, 110]⟩, Value.string ⟨#[120, 49]⟩] : Array Value).toList, IsTxt v := all_short (by rfl)
theorem names7 : ∀ v ∈ (#[Value.string ⟨#[]⟩, Value.string ⟨#[46]⟩, Value.string ⟨#[46, 46]⟩, Value.string ⟨#[65]⟩, Value.string ⟨#[97, 98, 99, 100, 101, 102, 103, 104, 105, 106, 107, 108, 109, 110, 111]⟩, Value.string ⟨#[97, 47, 98]⟩, Value.string ⟨#[46, 46, 46]⟩] : Array Value).toList, IsTxt v := all_short (by rfl)

set_option maxHeartbeats 4000000 in
theorem l03Entry (hcode : Given w0 a len) (h : St w0 w c a len cap) (hlen : len ≤ 1048576) :
    Calls Try.prog 93 #[.pointer (some ⟨c, 0, none⟩)] w fun e w' => (∃ (i : Int) (s : ByteArray), (Lit.int .i64 i).wf = true ∧ s.size ≤ 100 ∧ e = .returned (.agg #[.int .i64 i, .string s])) ∧ St w0 w' c a len cap ∧ w.grownBy w' (some c) := by
  have hcl := h.cur.lt
  have hn0 := h.new
  have k0 := K0.blk_new [.int .i64 0, .string ⟨#[]⟩] w 33
  have hs0 := h.below (K0.below_new w (.cells #[.int .i64 0, .string ⟨#[]⟩] 33))
  have g0 : w.grownBy (w.alloc (.cells #[.int .i64 0, .string ⟨#[]⟩] 33)) (some c) := grown_of_below (K0.below_new w _)
  go_enter Try.func93, Try.ntmps93
  go_wp2_with (first
    | (go_at_call 99; have q2' := q2; refine (below_any hcode q2.st hlen 10 (by omega) (by omega)).mono ?_; rintro e w3 ⟨⟨m, m0, m1, rfl⟩, s3, g3⟩; have q3 := q2.grown s3 g3; have c0 := q3.dev.c0; have c1 := q3.dev.c1; have f0 := q3.dev.f0; have f1 := q3.dev.f1; have r0 := q3.res.c0; have r1 := q3.res.c1; have r2 := q3.res.f0; have r3 := q3.res.f1)
    | (go_at_call 99; refine (below_any hcode hs0 hlen 7 (by omega) (by omega)).mono ?_; rintro e w1 ⟨⟨i, i0, i1, rfl⟩, s1, g1⟩; have k1 := blk_grown k0 g1 (by omega); have g1' := grown_trans g0 g1)
    | (go_at_call 142; have q3' := q3; refine (pickTxtNew hcode q3.st hlen names7 (show 0 < 7 by decide) (show 7 ≤ 100 by decide)).mono ?_; rintro e w4 ⟨⟨t, ht, rfl⟩, s4, g4⟩; have q4 := (q3.alloc _).grown s4 g4; have d0 := q4.dev.c0; have d1 := q4.dev.c1; have d2 := q4.dev.f1; have q5 := q4.put 1 (.string t); have d3 := q5.dev.c0; have d4 := q5.dev.c1; have d5 := q5.res.c0; have d6 := q5.res.c1; have d7 := q5.res.f0; have d8 := q5.res.f1)
    | (go_at_call 142; refine (pickTxtNew hcode s1 hlen names5 (show 0 < 5 by decide) (show 5 ≤ 100 by decide)).mono ?_; rintro e w2 ⟨⟨n, hn, rfl⟩, s2, g2⟩; have q2 := dv_new (vs := [.int .i64 (1 + i), .string n]) (T := 33) s2 hcl (Nat.le_trans hn0 (Nat.le_of_lt hcl)) (blk_grown (k1.below (K0.below_new _ _)) g2 (by omega)) (grown_trans (grown_below g1' (K0.below_new _ _)) g2))
    | (go_at_call 139; refine (pickNew hcode q3.st hlen eints (show 0 < 3 by decide) (show 3 ≤ 100 by decide)).mono ?_; rintro e w4 ⟨⟨z, wz, rfl⟩, s4, g4⟩; have q4 := (q3.alloc (.cells #[.int .i64 0, .int .i64 8, .int .i64 (-1)] 3)).grown s4 g4; have d0 := q4.dev.c0; have d1 := q4.dev.c1; have d2 := q4.dev.f0; have q5 := q4.put 0 (.int .i64 z); have d3 := q5.dev.c0; have d4 := q5.dev.c1; have d5 := q5.res.c0; have d6 := q5.res.c1; have d7 := q5.res.f0; have d8 := q5.res.f1))
  · have q := ret2v (u := .int .i64 (1 + i)) (v := .string t) q5.res.c0 q5.res.c1
    have qf := (q5.fin 0 (.int .i64 (1 + i))).fin 1 (.string t)
    exact bodyPost_ret (v := .agg #[.int .i64 (1 + i), .string t]) (by simp [results, Try.results93, go_sem, q.1, q.2]) rfl ⟨⟨1 + i, t, wf_of _ (by omega) (by omega), ht, rfl⟩, qf.st, qf.gr⟩
  · have q := ret2v (u := .int .i64 (z)) (v := .string n) q5.res.c0 q5.res.c1
    have qf := (q5.fin 0 (.int .i64 (z))).fin 1 (.string n)
    exact bodyPost_ret (v := .agg #[.int .i64 (z), .string n]) (by simp [results, Try.results93, go_sem, q.1, q.2]) rfl ⟨⟨z, n, wz, hn, rfl⟩, qf.st, qf.gr⟩
  · have q := ret2v (u := .int .i64 (1 + i)) (v := .string n) q3.res.c0 q3.res.c1
    have qf := (q3.fin 0 (.int .i64 (1 + i))).fin 1 (.string n)
    exact bodyPost_ret (v := .agg #[.int .i64 (1 + i), .string n]) (by simp [results, Try.results93, go_sem, q.1, q.2]) rfl ⟨⟨1 + i, n, wf_of _ (by omega) (by omega), hn, rfl⟩, qf.st, qf.gr⟩
end Go.Proofs.Ytacalabjclclhaa.C1

/- An inode that is drawn: what stays as its pages grow. -/
namespace Go.Proofs.Ytacalabjclclhaa.C1
open Go.ChangeShapes Go.WideShapes Go.ChangeAt Go.RowKit C0
open I0 (val vals)
set_option linter.unusedVariables false
set_option linter.unusedSimpArgs false
set_option maxRecDepth 10000

/-- 'list = append(list, z)' as a step of a region that draws its order, the cursor beside it. -/
theorem step_int2 {base n cp : Nat} {p : Option Addr} {W : World} {zs : List Int} {ops : Array Oper} {o : Oper} {A : Act} {K : Act → World → Prop} {Q : Exit → Act → World → Prop} {E : Prop} (hgd : o.guard = none) (sl x : Operand)
    (ho : o.op = .call { callee := .builtin .append, args := #[sl, x], argTypes := #[24, 24] })
    (hbuf : J0.IBuf base W p n cp zs) (z : Int) (hs : A.eval sl = .slice p n cp) (hx : A.eval x = .slice (some ⟨W.heap.size, 0, none⟩) 1 1) (hlen : n + 1 ≤ 1048576) (hb : base ≤ W.heap.size)
    (h : ∀ g' cap' w', J0.IBuf base w' (some ⟨g', 0, none⟩) (n + 1) cap' (zs ++ [z]) → (W.alloc (.cells #[.int .i64 z] 3)).grownBy w' (Value.slice p n cp).ownBlock → ((Value.slice p n cp).ownBlock = some g' ∨ g' = W.heap.size + 1) → K (A.put o.dst (.slice (some ⟨g', 0, none⟩) (n + 1) cap')) w') :
    if Region.wanted o (yielded ops A.tmps) = true then Oper.wp Try.prog o A (W.alloc (.cells #[.int .i64 z] 3)) K Q else E := by
  obtain ⟨i0, hi, hz0, hz1, hz2⟩ := info_parts I2.info3
  have hb2 := hbuf.alloc (.cells #[.int .i64 z] 3)
  refine step_append_lies _ hgd sl x 24 ho base 3 i0 (.int .i64 0) 1 8 Try.underlying24 hi hz0 hz1 hz2 rfl (by omega) _ n _ hs hb2.2 ⟨W.heap.size, 0, none⟩ 1 1 [.int .i64 z] hx rfl (World.news_of_block (heap_alloc_new W _)) (J0.one_int z) (by omega) (by unfold maxLen; omega) (by omega) (by simp; omega) _ rfl ?_
  intro g' cap' w' ho' hg' hat _
  refine h g' cap' w' ⟨by rw [hbuf.1]; simp, ?_⟩ hg' (by simpa using hat)
  rw [← J0.ints_snoc]
  exact ho'

theorem ibuf_block {base n cp : Nat} {p : Option Addr} {W V : World} {zs : List Int} (h : J0.IBuf base W p n cp zs) (hk : ∀ g, (Value.slice p n cp).ownBlock = some g → V.heap[g]? = W.heap[g]?) : J0.IBuf base V p n cp zs := by
  refine ⟨h.1, h.2.1, ?_⟩
  rcases h.2.2 with h0 | ⟨g, c, cur, hv, hbase, hc, hrest⟩
  · exact Or.inl h0
  · refine Or.inr ⟨g, c, cur, hv, hbase, ?_, hrest⟩
    rw [hk g (by rw [hv]; rfl)]
    exact hc

theorem ibuf_lt {base n cp g : Nat} {p : Option Addr} {W : World} {zs : List Int} (h : J0.IBuf base W p n cp zs) (e : (Value.slice p n cp).ownBlock = some g) : base ≤ g ∧ g < W.heap.size := by
  rcases h.2.2 with ⟨h0, _⟩ | ⟨g', c, cur, hv, hbase, hc, hrest⟩
  · rw [h0] at e
    cases e
  · rw [hv] at e
    cases e
    exact ⟨hbase, (Array.getElem?_eq_some_iff.1 hc).1⟩

/-- The cursor, the place of the answer, the inode in its cells, its pages. -/
structure In (w0 w : World) (c : Nat) (a : Option Addr) (len cap R B : Nat) (k o s : Int) (p : Option Addr) (n cp : Nat) (zs : List Int) (W : World) : Prop where
  dv : Dv w0 w c a len cap R B (vals 0 0 0 none 0 0) (vals k o s p n cp) W
  buf : J0.IBuf w.heap.size W p n cp zs
  ap : ∀ g, (Value.slice p n cp).ownBlock = some g → g ≠ B ∧ g ≠ R
  cl : c < w.heap.size

section
variable {w0 w W W' : World} {c : Nat} {a : Option Addr} {len cap R B : Nat} {k o s : Int} {p : Option Addr} {n cp : Nat} {zs : List Int}

theorem In.below (h : In w0 w c a len cap R B k o s p n cp zs W) (hb : Below W.heap.size W W') : In w0 w c a len cap R B k o s p n cp zs W' := ⟨h.dv.below hb, h.buf.below hb, h.ap, h.cl⟩
theorem In.drew (h : In w0 w c a len cap R B k o s p n cp zs W) : In w0 w c a len cap R B k o s p n cp zs W.drew := h.below (K0.below_drewN (Below.refl _ _) 1)
theorem In.alloc (h : In w0 w c a len cap R B k o s p n cp zs W) (ob : Obj) : In w0 w c a len cap R B k o s p n cp zs (W.alloc ob) := h.below (K0.below_new _ _)
theorem In.grown (h : In w0 w c a len cap R B k o s p n cp zs W) (st : St w0 W' c a len cap) (hg : W.grownBy W' (some c)) : In w0 w c a len cap R B k o s p n cp zs W' :=
  ⟨h.dv.grown st hg, ibuf_block h.buf (fun g e => hg.block g (ibuf_lt h.buf e).2 (fun e2 => by have := Option.some.inj e2; have := (ibuf_lt h.buf e).1; have := h.cl; omega)), h.ap, h.cl⟩
theorem In.set0 (h : In w0 w c a len cap R B k o s p n cp zs W) (x : Int) : In w0 w c a len cap R B x o s p n cp zs (W.setCell ⟨B, 0, none⟩ (.int .i64 x)) :=
  ⟨h.dv.put 0 _, ibuf_block h.buf (fun g e => Below.heap_setCell _ _ _ _ (h.ap g e).1), h.ap, h.cl⟩
theorem In.set1 (h : In w0 w c a len cap R B k o s p n cp zs W) (x : Int) : In w0 w c a len cap R B k x s p n cp zs (W.setCell ⟨B, 1, none⟩ (.int .i64 x)) :=
  ⟨h.dv.put 1 _, ibuf_block h.buf (fun g e => Below.heap_setCell _ _ _ _ (h.ap g e).1), h.ap, h.cl⟩
theorem In.set2 (h : In w0 w c a len cap R B k o s p n cp zs W) (x : Int) : In w0 w c a len cap R B k o x p n cp zs (W.setCell ⟨B, 2, none⟩ (.int .i64 x)) :=
  ⟨h.dv.put 2 _, ibuf_block h.buf (fun g e => Below.heap_setCell _ _ _ _ (h.ap g e).1), h.ap, h.cl⟩
theorem In.zero (h : In w0 w c a len cap R B k o s p n cp zs W) : In w0 w c a len cap R B 0 0 0 none 0 0 [] ((((W.setCell ⟨B, 0, none⟩ (.int .i64 0)).setCell ⟨B, 1, none⟩ (.int .i64 0)).setCell ⟨B, 2, none⟩ (.int .i64 0)).setCell ⟨B, 3, none⟩ (.slice none 0 0)) :=
  ⟨(((h.dv.put 0 _).put 1 _).put 2 _).put 3 _, J0.ibuf_nil _, (fun g e => by cases e), h.cl⟩

/-- Between an append and the store of what it made. -/
theorem In.mid (h : In w0 w c a len cap R B k o s p n cp zs W) {z : Int} (hg : (W.alloc (.cells #[.int .i64 z] 3)).grownBy W' (Value.slice p n cp).ownBlock) : W'.cell? ⟨B, 3, none⟩ = some (.slice p n cp) ∧ W'.frozen? ⟨B, 3, none⟩ = false := by
  have ha := h.alloc (.cells #[.int .i64 z] 3)
  have hb : W'.heap[B]? = (W.alloc (.cells #[.int .i64 z] 3)).heap[B]? := hg.block B ha.dv.dev.lt (fun e => (h.ap B e.symm).1 rfl)
  exact ⟨(World.cell?_of_block (a := ⟨B, 3, none⟩) hb).trans ha.dv.dev.c3, (World.frozen?_of_block (a := ⟨B, 3, none⟩) hb).trans ha.dv.dev.f3⟩

theorem In.step (h : In w0 w c a len cap R B k o s p n cp zs W) {z : Int} {g' cap' : Nat} (hb : J0.IBuf w.heap.size W' (some ⟨g', 0, none⟩) (n + 1) cap' (zs ++ [z])) (hg : (W.alloc (.cells #[.int .i64 z] 3)).grownBy W' (Value.slice p n cp).ownBlock)
    (hw : (Value.slice p n cp).ownBlock = some g' ∨ g' = W.heap.size + 1) : In w0 w c a len cap R B k o s (some ⟨g', 0, none⟩) (n + 1) cap' (zs ++ [z]) (W'.setCell ⟨B, 3, none⟩ (.slice (some ⟨g', 0, none⟩) (n + 1) cap')) := by
  have ha := h.alloc (.cells #[.int .i64 z] 3)
  have hR := ha.dv.res.lt
  have hB := ha.dv.dev.lt
  have hR0 := h.dv.res.lt
  have hB0 := h.dv.dev.lt
  have hc0 := h.cl
  have hgn : g' ≠ B ∧ g' ≠ R := by
    rcases hw with e | e
    · exact h.ap g' e
    · omega
  have hst : St w0 W' c a len cap ∧ w.grownBy W' (some c) := by
    cases hp : (Value.slice p n cp).ownBlock with
    | none =>
      rw [hp] at hg
      have hbl : Below (W.alloc (.cells #[.int .i64 z] 3)).heap.size (W.alloc (.cells #[.int .i64 z] 3)) W' := ⟨hg.os, hg.tape, hg.output, hg.size, fun q hq => hg.block q hq (by simp)⟩
      exact ⟨ha.dv.st.below hbl, grown_below ha.dv.gr hbl⟩
    | some g =>
      have hl := ibuf_lt h.buf hp
      rw [hp] at hg
      have hn := h.dv.st.new
      exact ⟨ha.dv.st.grown (g := g) hg (by omega) (by omega), grown_new ha.dv.gr hg hl.1⟩
  have kR : K0.Blk R (vals 0 0 0 none 0 0) W' := by
    have hb2 : W'.heap[R]? = (W.alloc (.cells #[.int .i64 z] 3)).heap[R]? := hg.block R hR (fun e => (h.ap R e.symm).2 rfl)
    exact ⟨fun j hj => (World.cell?_of_block (a := ⟨R, j, none⟩) hb2).trans (ha.dv.res.cell j hj), fun j hj => (World.frozen?_of_block (a := ⟨R, j, none⟩) hb2).trans (ha.dv.res.free j hj), Nat.lt_of_lt_of_le hR hg.size⟩
  have kB : K0.Blk B (vals k o s p n cp) W' := by
    have hb2 : W'.heap[B]? = (W.alloc (.cells #[.int .i64 z] 3)).heap[B]? := hg.block B hB (fun e => (h.ap B e.symm).1 rfl)
    exact ⟨fun j hj => (World.cell?_of_block (a := ⟨B, j, none⟩) hb2).trans (ha.dv.dev.cell j hj), fun j hj => (World.frozen?_of_block (a := ⟨B, j, none⟩) hb2).trans (ha.dv.dev.free j hj), Nat.lt_of_lt_of_le hB hg.size⟩
  have dv' : Dv w0 w c a len cap R B (vals 0 0 0 none 0 0) (vals k o s p n cp) W' := ⟨hst.1, kR, kB, h.dv.ne, h.dv.old, hst.2⟩
  exact ⟨dv'.put 3 _, ibuf_block hb (fun g e => by cases e; exact Below.heap_setCell _ _ _ _ hgn.1), (fun g e => by cases e; exact hgn), h.cl⟩
end

/-- A number between two. -/
def IsRng (lo hi : Int) (v : Value) : Prop := ∃ z : Int, lo ≤ z ∧ z ≤ hi ∧ v = .int .i64 z
def rngV (lo hi : Int) (v : Value) : Bool := match v with | .int .i64 z => decide (lo ≤ z ∧ z ≤ hi) | _ => false
theorem all_rng {lo hi : Int} {l : List Value} (h : l.all (rngV lo hi) = true) : ∀ v ∈ l, IsRng lo hi v := fun v hv => by
  have h1 := List.all_eq_true.1 h v hv
  cases v <;> simp [rngV] at h1
  rename_i kd z
  cases kd <;> simp at h1
  exact ⟨z, h1.1, h1.2, rfl⟩

theorem pickRng {a : Option Addr} {len cap : Nat} {w0 W : World} {c : Nat} {C : Array Value} {cp : Nat} {lo hi : Int} (hcode : Given w0 a len) (h : St w0 W c a len cap) (hlen : len ≤ 1048576) (hC : ∀ v ∈ C.toList, IsRng lo hi v) (h0 : 0 < C.size) (h1 : C.size ≤ 100) :
    Calls Try.prog 139 #[.pointer (some ⟨c, 0, none⟩), .slice (some ⟨W.heap.size, 0, none⟩) C.size cp] (W.alloc (.cells C 3)) fun e w' => (∃ z : Int, lo ≤ z ∧ z ≤ hi ∧ e = .returned (.int .i64 z)) ∧ St w0 w' c a len cap ∧ (W.alloc (.cells C 3)).grownBy w' (some c) := by
  have hof := Of.new W C 3 (IsRng lo hi) (of_all hC)
  have hst := h.below (K0.below_new W (.cells C 3))
  have hne : W.heap.size ≠ c := by have := h.cur.lt; omega
  obtain ⟨V, hV⟩ : ∃ V, W.alloc (.cells C 3) = V := ⟨_, rfl⟩
  obtain ⟨l, hl⟩ : ∃ l, W.heap.size = l := ⟨_, rfl⟩
  obtain ⟨n, hn⟩ : ∃ n, C.size = n := ⟨_, rfl⟩
  rw [hV, hl, hn] at hof
  rw [hV] at hst
  rw [hl] at hne
  rw [hV, hl, hn]
  rw [hn] at h0 h1
  clear hV hl hn
  go_enter Try.func139, Try.ntmps139
  go_wp2_with (go_at_call 99; refine (below_any hcode hst hlen (n : Int) (by omega) (by omega)).mono ?_; rintro e w1 ⟨⟨x, x0, x1, rfl⟩, s1, g1⟩; obtain ⟨j, rfl⟩ : ∃ j : Nat, x = (j : Int) := ⟨x.toNat, by omega⟩; obtain ⟨v, ⟨z, z0, z1, rfl⟩, hc⟩ := (hof.grown g1 hne).cell j (by omega))
  go_ret
  exact ⟨⟨z, z0, z1, rfl⟩, s1, g1⟩
end Go.Proofs.Ytacalabjclclhaa.C1
