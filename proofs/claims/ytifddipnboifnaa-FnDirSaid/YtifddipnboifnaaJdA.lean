/- Joined texts: plain facts and contracts, as each part says. -/
import Derived.WalkKit
import Derived.Below
import Derived.Laws.AppendOwn
import Derived.Deep.Draws
import Derived.Test.YtifddipnboifnaaRows
import Derived.ProofKit
import Derived.Handy
import Derived.Deep.QuietTactic
import Derived.BigQuiet
import Derived.OpenShut
import Derived.ShutString
import Derived.ChangeSlices
import Derived.Lib.Strings
import Derived.Deep.AppendLies
import Derived.Laws.IdiomStrings
import Derived.Laws.IdiomCopy
import Derived.Laws.MakeOwn
import Derived.Lib.BufferWrite
import Derived.Lib.ItoaNum
import Derived.Lib.ItoaLen
import Derived.Lib.ItoaMem
import Derived.OwnWalk

/- The cursor over the bytes of a draw, as it lies in memory: what it is, and that it stays so. -/
namespace Go.Proofs.Ytifddipnboifnaa.C0
open Go.RowKit
set_option linter.unusedVariables false

/-- The bytes that came in can be read. -/
def Given (w : World) (a : Option Addr) (len : Nat) : Prop :=
  ∀ k, k < len → ∃ b off z, a = some ⟨b, off, none⟩ ∧ b < w.heap.size ∧ 0 ≤ z ∧ z < 256 ∧ w.cell? ⟨b, off + k, none⟩ = some (.int .u8 z)

theorem Given.below {w w' : World} {a : Option Addr} {len : Nat} (h : Given w a len) (hb : Below w.heap.size w w') : Given w' a len := fun k hk => by
  obtain ⟨b, off, z, ha, hlt, h0, h1, hc⟩ := h k hk
  exact ⟨b, off, z, ha, Nat.lt_of_lt_of_le hlt hb.size, h0, h1, (hb.cell (p := ⟨b, off + k, none⟩) hlt).trans hc⟩

/-- The cursor: the bytes, how far it is, and a number. -/
structure Cur (w : World) (c : Nat) (a : Option Addr) (len cap : Nat) : Prop where
  lt : c < w.heap.size
  cells : ∃ (k : Nat) (h : Int), k ≤ len ∧ w.cell? ⟨c, 0, none⟩ = some (.slice a len cap) ∧ w.cell? ⟨c, 1, none⟩ = some (.int .i64 (k : Int)) ∧ w.cell? ⟨c, 2, none⟩ = some (.int .i64 h)
  free1 : w.frozen? ⟨c, 1, none⟩ = false
  free2 : w.frozen? ⟨c, 2, none⟩ = false

/-- A cursor that lies behind all that was there. -/
structure St (w0 w : World) (c : Nat) (a : Option Addr) (len cap : Nat) : Prop where
  bel : Below w0.heap.size w0 w
  new : w0.heap.size ≤ c
  cur : Cur w c a len cap

theorem Cur.of_block {w w' : World} {c : Nat} {a : Option Addr} {len cap : Nat} (h : Cur w c a len cap) (hz : c < w'.heap.size) (hb : w'.heap[c]? = w.heap[c]?) : Cur w' c a len cap := by
  have e : ∀ j, w'.cell? ⟨c, j, none⟩ = w.cell? ⟨c, j, none⟩ := fun j => World.cell?_of_block (a := ⟨c, j, none⟩) hb
  have f : ∀ j, w'.frozen? ⟨c, j, none⟩ = w.frozen? ⟨c, j, none⟩ := fun j => World.frozen?_of_block (a := ⟨c, j, none⟩) hb
  obtain ⟨k, x, hk, c0, c1, c2⟩ := h.cells
  exact ⟨hz, ⟨k, x, hk, by rw [e]; exact c0, by rw [e]; exact c1, by rw [e]; exact c2⟩, by rw [f]; exact h.free1, by rw [f]; exact h.free2⟩

/-- Where only new memory was written. -/
theorem St.below {w0 w w' : World} {c : Nat} {a : Option Addr} {len cap : Nat} (h : St w0 w c a len cap) (hb : Below w.heap.size w w') : St w0 w' c a len cap :=
  ⟨h.bel.trans (hb.mono h.bel.size), h.new, h.cur.of_block (Nat.lt_of_lt_of_le h.cur.lt hb.size) (hb.block c h.cur.lt)⟩

/-- Where only another row of new memory, and what is new, was written. -/
theorem St.grown {w0 w w' : World} {c g : Nat} {a : Option Addr} {len cap : Nat} (h : St w0 w c a len cap) (hg : w.grownBy w' (some g)) (hne : c ≠ g) (hnew : w0.heap.size ≤ g) : St w0 w' c a len cap := by
  refine ⟨⟨hg.os.trans h.bel.os, hg.tape.trans h.bel.tape, hg.output.trans h.bel.output, Nat.le_trans h.bel.size hg.size, fun k hk => ?_⟩, h.new, h.cur.of_block (Nat.lt_of_lt_of_le h.cur.lt hg.size) (hg.block c h.cur.lt (fun e => hne (Option.some.inj e)))⟩
  rw [hg.block k (Nat.lt_of_lt_of_le hk h.bel.size) (fun e => by have := Option.some.inj e; omega)]
  exact h.bel.block k hk

theorem grown_refl (w : World) (row : Option Nat) : w.grownBy w row := ⟨rfl, rfl, rfl, Nat.le_refl _, fun _ _ _ => rfl⟩
theorem grown_trans {w w1 w2 : World} {row : Option Nat} (h : w.grownBy w1 row) (h' : w1.grownBy w2 row) : w.grownBy w2 row :=
  ⟨h'.os.trans h.os, h'.tape.trans h.tape, h'.output.trans h.output, Nat.le_trans h.size h'.size, fun k hk hr => by
    rw [h'.block k (Nat.lt_of_lt_of_le hk h.size) hr]
    exact h.block k hk hr⟩
theorem grown_drewN {w w1 : World} {row : Option Nat} (h : w.grownBy w1 row) (n : Nat) : w.grownBy (w1.drewN n) row := ⟨h.os, h.tape, h.output, h.size, h.block⟩
theorem grown_below {w w1 w2 : World} {row : Option Nat} (h : w.grownBy w1 row) (hb : Below w1.heap.size w1 w2) : w.grownBy w2 row :=
  ⟨hb.os.trans h.os, hb.tape.trans h.tape, hb.output.trans h.output, Nat.le_trans h.size hb.size, fun k hk hr => by
    rw [hb.block k (Nat.lt_of_lt_of_le hk h.size)]
    exact h.block k hk hr⟩
theorem grown_set {w w1 : World} {g j : Nat} (h : w.grownBy w1 (some g)) (v : Value) : w.grownBy (w1.setCell ⟨g, j, none⟩ v) (some g) := by
  refine ⟨h.os, h.tape, h.output, ?_, fun k hk hr => ?_⟩
  · simpa using h.size
  · have hne : k ≠ g := fun e => hr (by rw [e])
    rw [← h.block k hk hr]
    exact Below.heap_setCell w1 ⟨g, j, none⟩ v k hne

/-- The cursor behind a step that writes its number, and one that moves it on. -/
theorem St.set2 {w0 w : World} {c : Nat} {a : Option Addr} {len cap : Nat} (h : St w0 w c a len cap) (x : Int) : St w0 (w.setCell ⟨c, 2, none⟩ (.int .i64 x)) c a len cap := by
  obtain ⟨k, y, hk, c0, c1, c2⟩ := h.cur.cells
  refine ⟨h.bel.setCell (p := ⟨c, 2, none⟩) h.new _, h.new, ⟨by simpa using h.cur.lt, ⟨k, x, hk, ?_, ?_, ?_⟩, ?_, ?_⟩⟩
  · rw [World.cell?_setCell_other _ _ _ _ (fun e => by cases e)]; exact c0
  · rw [World.cell?_setCell_other _ _ _ _ (fun e => by cases e)]; exact c1
  · exact World.cell?_setCell_same _ _ _ c2
  · rw [World.frozen?_setCell]; exact h.cur.free1
  · rw [World.frozen?_setCell]; exact h.cur.free2

theorem St.set1 {w0 w : World} {c : Nat} {a : Option Addr} {len cap : Nat} (h : St w0 w c a len cap) (x : Int) (n : Nat) (hx : x = (n : Int)) (hn : n ≤ len) : St w0 (w.setCell ⟨c, 1, none⟩ (.int .i64 x)) c a len cap := by
  subst hx
  obtain ⟨k, y, hk, c0, c1, c2⟩ := h.cur.cells
  refine ⟨h.bel.setCell (p := ⟨c, 1, none⟩) h.new _, h.new, ⟨by simpa using h.cur.lt, ⟨n, y, hn, ?_, ?_, ?_⟩, ?_, ?_⟩⟩
  · rw [World.cell?_setCell_other _ _ _ _ (fun e => by cases e)]; exact c0
  · exact World.cell?_setCell_same _ _ _ c1
  · rw [World.cell?_setCell_other _ _ _ _ (fun e => by cases e)]; exact c2
  · rw [World.frozen?_setCell]; exact h.cur.free1
  · rw [World.frozen?_setCell]; exact h.cur.free2

theorem St.drewN {w0 w : World} {c : Nat} {a : Option Addr} {len cap : Nat} (h : St w0 w c a len cap) (n : Nat) : St w0 (w.drewN n) c a len cap :=
  h.below ⟨rfl, rfl, rfl, Nat.le_refl _, fun _ _ => rfl⟩
end Go.Proofs.Ytifddipnboifnaa.C0

/- The contract of spec.l01Byte: a number of 0 to 255; the cursor stays one. -/
namespace Go.Proofs.Ytifddipnboifnaa.C1
open Go.ChangeShapes Go.WideShapes Go.ChangeAt Go.RowKit C0
set_option linter.unusedVariables false

theorem and255 (n : Int) : bits .and .i64 n 255 = n % 256 := by
  have h255 : (BitVec.ofInt 64 255).toNat = 2 ^ 8 - 1 := by decide
  have key : (BitVec.ofInt 64 n &&& BitVec.ofInt 64 255).toNat = (n % ((2 ^ 64 : Nat) : Int)).toNat % 2 ^ 8 := by
    rw [BitVec.toNat_and, BitVec.toNat_ofInt, h255, Nat.and_two_pow_sub_one_eq_mod]
  show IntKind.i64.wrap ((BitVec.ofInt 64 n &&& BitVec.ofInt 64 255).toNat : Nat) = n % 256
  rw [key, IntKind.wrap_i64]
  omega

set_option maxHeartbeats 2000000 in
theorem byte_any {w0 w : World} {c : Nat} {a : Option Addr} {len cap : Nat} (hcode : Given w0 a len) (h : St w0 w c a len cap) (hlen : len ≤ 1048576) :
    Calls Try.prog 107 #[.pointer (some ⟨c, 0, none⟩)] w fun e w' => (∃ x : Int, 0 ≤ x ∧ x < 256 ∧ e = .returned (.int .i64 x)) ∧ St w0 w' c a len cap ∧ w.grownBy w' (some c) := by
  obtain ⟨k, y, hk, c0, c1, c2⟩ := h.cur.cells
  have f1 := h.cur.free1
  have f2 := h.cur.free2
  have hlt := h.cur.lt
  have ha := and255
  by_cases hkl : k < len
  · obtain ⟨b, off, z, rfl, hb, z0, z1, hz⟩ := hcode k hkl
    have hne : b ≠ c := by have := h.new; omega
    have hz2 : ∀ v, (w.setCell ⟨c, 2, none⟩ v).cell? ⟨b, off + k, none⟩ = some (.int .u8 z) := fun v => by
      rw [World.cell?_setCell_other _ _ _ _ (fun e => hne (Addr.mk.inj e).1.symm), h.bel.cell (p := ⟨b, off + k, none⟩) hb]
      exact hz
    have e1 : (0 : Int) ≤ (k : Int) := by omega
    have e2 : (k : Int) < (len : Int) := by omega
    clear hz
    go_enter Try.func107, Try.ntmps107
    go_wp2
    go_quiet (fail)
    go_wp2
    go_quiet (fail)
    go_wp2
    go_quiet (fail)
    go_wp2
    go_ret
    exact ⟨⟨_, by omega, by omega, rfl⟩, ((h.set2 _).drewN _).set1 _ (k + 1) (by omega) (by omega), grown_set (grown_drewN (grown_set (grown_refl _ _) _) _) _⟩
  · go_enter Try.func107, Try.ntmps107
    go_wp2
    go_quiet (fail)
    go_wp2
    go_quiet (fail)
    go_wp2
    go_ret
    exact ⟨⟨_, by omega, by omega, rfl⟩, ((h.set2 _).drewN _).drewN _, grown_drewN (grown_drewN (grown_set (grown_refl _ _) _) _) _⟩
end Go.Proofs.Ytifddipnboifnaa.C1

/- A slice of bytes among a law's arguments; laws.big. -/
namespace Go.Proofs.Ytifddipnboifnaa.Q0
open Go.ChangeShapes Go.WideShapes Go.ChangeAt Go.RowKit
set_option linter.unusedVariables false
set_option linter.unusedSimpArgs false
set_option maxRecDepth 10000

theorem lt_of_cell {w : World} {b o : Nat} {v : Value} (h : w.cell? ⟨b, o, none⟩ = some v) : b < w.heap.size := by
  rcases Nat.lt_or_ge b w.heap.size with hlt | hge
  · exact hlt
  · unfold World.cell? at h
    rw [Array.getElem?_eq_none hge] at h
    simp at h

theorem open_code {H : Type} {enc : TypeId × Value → H} {w : World} {fuel : Nat} {v : Value} {x : DataW H × List MemPlace} (h : DataW.trod enc Try.prog w 0 (fun _ => true) true fuel 22 [v] = some x) :
    ∃ (a : Option Addr) (len cap : Nat), v = .slice a len cap ∧ C0.Given w a len := by
  rcases open_ints Try.underlying22 Try.underlying5 (by kernel_rfl) h with ⟨hcs, _⟩ | ⟨a, len, cap, zs, hcs, _, hl, hm, hz, _, hcell, hwz⟩
  · simp at hcs
    exact ⟨none, 0, 0, hcs, fun k hk => absurd hk (Nat.not_lt_zero _)⟩
  · simp at hcs hz
    refine ⟨some a, len, cap, hcs, fun k hk => ?_⟩
    obtain ⟨b, off, rfl, hc⟩ := ints_at hcell (by omega)
    have hck := hc k (by omega)
    have hmem : zs.getD k 0 ∈ zs := by
      rw [List.getD_eq_getElem?_getD, List.getElem?_eq_getElem (by omega : k < zs.length)]
      exact List.getElem_mem _
    have hwf := hwz _ hmem
    have hb : 0 ≤ zs.getD k 0 ∧ zs.getD k 0 ≤ 255 := by simpa [Lit.wf, IntKind.min, IntKind.max, IntKind.signed, IntKind.bits] using hwf
    exact ⟨b, off, zs.getD k 0, rfl, lt_of_cell hck, hb.1, by omega, hck⟩

theorem big_no (a : Option Addr) (len cap : Nat) (w : World) (hl : ¬ 1048576 < (len : Int)) : Calls Try.prog 10 #[.slice a len cap] w fun e w' => e = .returned (.bool false) ∧ w' = w := by
  have hl' : decide (1048576 < (len : Int)) = false := by simpa using hl
  go_enter Try.func10, Try.ntmps10
  go_wp2
  go_ret
  exact ⟨rfl, rfl⟩

theorem big_yes (a : Option Addr) (len cap : Nat) (w : World) (hl : 1048576 < (len : Int)) : Calls Try.prog 10 #[.slice a len cap] w fun e w' => e = .returned (.bool true) ∧ w' = w := by
  go_enter Try.func10, Try.ntmps10
  go_wp2
  go_ret
  exact ⟨rfl, rfl⟩
end Go.Proofs.Ytifddipnboifnaa.Q0

/- Plain facts on the parts of a text between blanks, and on rows of strings in memory that a call has made. -/
namespace Go.Proofs.Ytifddipnboifnaa.W0
open Go.RowKit
set_option linter.unusedVariables false

/-- The parts that are done when k bytes are read, and where the next one begins. -/
def st (s : ByteArray) : Nat → List ByteArray × Nat
  | 0 => ([], 0)
  | k + 1 => if (s[k]?.getD 0).toNat = 32 then ((st s k).1 ++ [s.extract (st s k).2 k], k + 1) else st s k

/-- The parts of a text between blanks. -/
def words (s : ByteArray) : List ByteArray := (st s s.size).1 ++ [s.extract (st s s.size).2 s.size]

theorem st_le (s : ByteArray) : ∀ k, (st s k).2 ≤ k ∧ (st s k).1.length ≤ k
  | 0 => ⟨Nat.le_refl _, Nat.le_refl _⟩
  | k + 1 => by
    have := st_le s k
    unfold st
    split
    · simp; omega
    · omega

theorem st_blank (s : ByteArray) (k : Nat) (h : k < s.size) (hb : s[k].toNat = 32) : st s (k + 1) = ((st s k).1 ++ [s.extract (st s k).2 k], k + 1) := by
  have e : s[k]? = some s[k] := getElem?_pos s k h
  rw [st, if_pos (by rw [e]; exact hb)]

theorem st_other (s : ByteArray) (k : Nat) (h : k < s.size) (hb : ¬ s[k].toNat = 32) : st s (k + 1) = st s k := by
  have e : s[k]? = some s[k] := getElem?_pos s k h
  rw [st, if_neg (by rw [e]; exact hb)]

/-- The strings as cells. -/
abbrev strs (l : List ByteArray) : List Value := l.map Value.string

theorem owns_below {W W' : World} {base : Nat} {e : TypeId} {size : Nat} {v : Value} {n : Nat} {xs : List Value} (h : W.ownsRow base e size v n xs) (hb : Below W.heap.size W W') : W'.ownsRow base e size v n xs := by
  refine ⟨h.1, ?_⟩
  rcases h.2 with h0 | ⟨g, cap, cur, hv, hg, hc, r⟩
  · exact Or.inl h0
  · refine Or.inr ⟨g, cap, cur, hv, hg, ?_, r⟩
    rw [hb.block g (Array.getElem?_eq_some_iff.1 hc).1]
    exact hc

theorem below_grown {B : Nat} {w W W' : World} {row : Option Nat} (h : Below B w W) (hg : W.grownBy W' row) (hr : ∀ g, row = some g → B ≤ g) (hB : B ≤ W.heap.size) : Below B w W' :=
  ⟨hg.os.trans h.os, hg.tape.trans h.tape, hg.output.trans h.output, Nat.le_trans h.size hg.size, fun k hk => by
    rw [hg.block k (by omega) (fun e => by have := hr k e.symm; omega)]
    exact h.block k hk⟩

theorem below_append {w wr w1 : World} {e : TypeId} {g n cap : Nat} {xs : List Value} {o : Obj} (hbel : Below w.heap.size w wr) (hown : wr.ownsRow w.heap.size e 1 (.slice (some ⟨g, 0, none⟩) n cap) n xs)
    (hgrow : (wr.alloc o).grownBy w1 (Value.slice (some ⟨g, 0, none⟩) n cap).ownBlock) : Below w.heap.size w w1 :=
  below_grown (hbel.alloc hbel.size o) hgrow (fun g' h => by
    obtain rfl : g = g' := by simpa [Value.ownBlock] using h
    exact (hown.lt g rfl).1) (by have := hbel.size; simp; omega)

theorem words_len (s : ByteArray) : (words s).length = (st s s.size).1.length + 1 := by simp [words]

theorem strs_words (s : ByteArray) : strs (words s) = strs (st s s.size).1 ++ [.string (s.extract (st s s.size).2 s.size)] := by simp [words, strs]

/-- Cells of a row that a call owns. -/
structure Row (w : World) (g : Nat) (ss : List ByteArray) : Prop where
  lt : g < w.heap.size
  cell : ∀ j (hj : j < ss.length), w.cell? ⟨g, j, none⟩ = some (.string ss[j])
  free : ∀ j, j < ss.length → w.frozen? ⟨g, j, none⟩ = false

theorem Row.below {w w' : World} {g : Nat} {ss : List ByteArray} (h : Row w g ss) (hb : Below w.heap.size w w') : Row w' g ss :=
  ⟨Nat.lt_of_lt_of_le h.lt hb.size, fun j hj => (hb.cell (p := ⟨g, j, none⟩) h.lt).trans (h.cell j hj), fun j hj => (hb.frozen (p := ⟨g, j, none⟩) h.lt).trans (h.free j hj)⟩

theorem row_of_owns {w : World} {base : Nat} {e : TypeId} {g n cap : Nat} {ss : List ByteArray} (h : w.ownsRow base e 1 (.slice (some ⟨g, 0, none⟩) n cap) n (strs ss)) (hn : 0 < n) : Row w g ss ∧ base ≤ g ∧ n = ss.length := by
  have hl : n = ss.length := by have := h.1; simp at this; omega
  rcases h.2 with ⟨h0, _⟩ | ⟨g', cap', cur, hv, hb, hc, h1, h2, h3, h4⟩
  · cases h0
  · obtain ⟨rfl, rfl⟩ : g = g' ∧ cap = cap' := by simpa using hv
    have hcell : ∀ j, w.cell? ⟨g, j, none⟩ = cur[j]? := fun j => by
      unfold World.cell?
      rw [hc]
      simp
    refine ⟨⟨(Array.getElem?_eq_some_iff.1 hc).1, fun j hj => ?_, fun j hj => ?_⟩, hb, hl⟩
    · rw [hcell]
      have e1 : (cur.toList.take (n * 1))[j]? = (strs ss)[j]? := by rw [h4]
      rw [List.getElem?_take_of_lt (by omega)] at e1
      rw [← Array.getElem?_toList, e1]
      simp [hj]
    · unfold World.frozen?
      rw [hc]
      simp
end Go.Proofs.Ytifddipnboifnaa.W0

/- Small facts on bytes in new memory, over any program: a slice of bytes turned into a string, a string turned into a slice, a string copied into a slice. -/
namespace Go.Proofs.Ytifddipnboifnaa.B0
open Go.RowKit
set_option linter.unusedVariables false
variable {P : Program}

theorem add_off (b o j : Nat) : (⟨b, o, none⟩ : Addr).add j = ⟨b, o + j, none⟩ := by unfold Addr.add; split <;> simp_all

/-- The cells of a block from a place on hold these bytes. -/
def Holds (w : World) (b o : Nat) (l : List UInt8) : Prop := ∀ j (hj : j < l.length), w.cell? ⟨b, o + j, none⟩ = some (.int .u8 (l[j].toNat : Int))

theorem conv_back (w : World) (src dst e : TypeId) (b o cap : Nat) (l : List UInt8) (hs : P.underlying src = some (.slice e)) (he : P.underlying e = some (.int .u8)) (hd : P.underlying dst = some .string)
    (h : Holds w b o l) (n : Nat) (hn : n = l.length) : (convert src dst (.slice (some ⟨b, o, none⟩) n cap)).run P w = .ok (.string ⟨l.toArray⟩) w := by
  subst hn
  exact run_convert_bytes_back w src dst e ⟨b, o, none⟩ cap l hs he hd (fun j hj => by rw [add_off]; exact h j hj)

theorem holds_new (w : World) (C : Array Value) (T : TypeId) (fr : Nat × Nat) (l : List UInt8) (h : ∀ j (hj : j < l.length), C[j]? = some (.int .u8 (l[j].toNat : Int))) :
    Holds (w.alloc (.cells C T fr)) w.heap.size 0 l := fun j hj => by
  rw [Nat.zero_add, World.cell?_alloc_mark]
  exact h j hj

/-- '[]byte(s)'. -/
theorem conv_to (w : World) (src dst e : TypeId) (s : ByteArray) (hs : P.underlying src = some .string) (hd : P.underlying dst = some (.slice e)) (he : P.underlying e = some (.int .u8)) :
    ∃ W cap, (convert src dst (.string s)).run P w = .ok (.slice (some ⟨w.heap.size, 0, none⟩) s.size cap) W ∧ s.size ≤ cap ∧ Below w.heap.size w W ∧ w.heap.size < W.heap.size ∧ Holds W w.heap.size 0 s.data.toList ∧ ∀ j, j < s.size → W.frozen? ⟨w.heap.size, j, none⟩ = false := by
  have hc : s.size ≤ grownCap w s.size 0 e := grownCap_ge w s.size 0 e
  refine ⟨_, _, run_bytes_of_string w src dst e s hs hd he, hc, ?_, ?_, ?_, ?_⟩
  · exact (Below.refl _ w).drew.alloc (Nat.le_refl _) _
  · show w.heap.size < (w.heap.push _).size
    simp
  · refine holds_new w.drew _ _ _ _ fun j hj => ?_
    have hj' : j < s.data.size := by simpa using hj
    rw [bytesRow_at s _ j hj']
    simp
  · intro j hj
    have := World.frozen?_alloc_mark w.drew (bytesRow s (grownCap w s.size 0 e)) e (bytesRow s (grownCap w s.size 0 e)).size ((bytesRow s (grownCap w s.size 0 e)).size + 1) j
    refine this.trans ?_
    have hb : s.size ≤ (bytesRow s (grownCap w s.size 0 e)).size := by
      have : s.data.size = s.size := rfl
      simp [bytesRow]
    have : ¬ (bytesRow s (grownCap w s.size 0 e)).size ≤ j := by omega
    simp [this]

theorem below_setCells {B b : Nat} {a : World} (hb : B ≤ b) : ∀ (vs : List Value) (o : Nat) (w : World), Below B a w → Below B a (w.setCells b o vs)
  | [], _, _, h => h
  | v :: r, o, w, h => below_setCells hb r (o + 1) _ (h.setCell (by simpa using hb) v)

theorem size_setCells (b : Nat) : ∀ (vs : List Value) (o : Nat) (w : World), (w.setCells b o vs).heap.size = w.heap.size
  | [], _, _ => rfl
  | v :: r, o, w => by rw [World.setCells, size_setCells b r]; simp

theorem isSome_setCells (b : Nat) : ∀ (vs : List Value) (o : Nat) (w : World) (x : Addr), (w.cell? x).isSome = true → ((w.setCells b o vs).cell? x).isSome = true
  | [], _, _, _, h => h
  | v :: r, o, w, x, h => by
    rw [World.setCells]
    refine isSome_setCells b r (o + 1) _ x ?_
    by_cases e : (⟨b, o, none⟩ : Addr) = x
    · subst e
      obtain ⟨u, hu⟩ := Option.isSome_iff_exists.1 h
      rw [World.cell?_setCell_same _ _ _ hu]
      rfl
    · rw [World.cell?_setCell_other _ _ _ _ e]
      exact h

/-- 'copy(b, t)', t a string that fits. -/
theorem copy_str (w : World) (dT sT ty elem : TypeId) (b o dLen dCap : Nat) (t : ByteArray) (hu : P.underlying dT = some (.slice elem)) (hs : (P.info? elem).map (·.size) = some 1) (hle : t.size ≤ dLen)
    (hc : ∀ j, j < t.size → (w.cell? ⟨b, o + j, none⟩).isSome = true) (hf : ∀ j, j < t.size → w.frozen? ⟨b, o + j, none⟩ = false) :
    (Builtin.copy_ #[dT, sT] ty #[.slice (some ⟨b, o, none⟩) dLen dCap, .string t]).run P w = .ok (goInt t.size) (w.setCells b o (Lib.byteCells t.data.toList)) := by
  have hlen : (Lib.byteCells t.data.toList).length = t.size := by rw [Lib.byteCells_length, ← Lib.size_eq]
  have hst := run_storeCells_cells (P := P) b o (Lib.byteCells t.data.toList) 0 w (by rw [hlen]; simpa using hc) (by rw [hlen]; simpa using hf) (Lib.byteCells_one _)
  have hmin : Nat.min t.size dLen = t.size := Nat.min_eq_left hle
  have htk : List.take t.size (List.map (fun b : UInt8 => Value.int IntKind.u8 (b.toNat : Int)) t.data.toList) = Lib.byteCells t.data.toList := by
    rw [List.take_of_length_le (by rw [List.length_map, ← Lib.size_eq]; exact Nat.le_refl _)]
    rfl
  cases hq : P.info? elem with
  | none => simp [hq] at hs
  | some i =>
    simp [Builtin.copy_, run_underlying hu, Builtin.lenOf, Builtin.firstCells, sizeOf, typeInfo, hq, hmin, htk, hst]

theorem holds_with (W : World) (b : Nat) (s t : List UInt8) (k : Nat) (hk : k + t.length ≤ s.length) (h : Holds W b 0 s) :
    Holds (W.setCells b k (Lib.byteCells t)) b 0 (s.take k ++ t ++ s.drop (k + t.length)) := by
  have hl : (Lib.byteCells t).length = t.length := Lib.byteCells_length t
  have hin : ∀ j, j < (Lib.byteCells t).length → (W.cell? ⟨b, k + j, none⟩).isSome = true := fun j hj => by
    have := h (k + j) (by omega)
    rw [Nat.zero_add] at this
    rw [this]
    rfl
  intro j hj
  have hj' : j < s.length := by simp at hj; omega
  rw [Nat.zero_add]
  by_cases h1 : j < k
  · rw [World.cell?_setCells_out b _ k W _ (fun _ _ => Or.inl h1)]
    have := h j hj'
    rw [Nat.zero_add] at this
    rw [this, List.getElem_append_left (by simp; omega), List.getElem_append_left (by simp; omega), List.getElem_take]
  · by_cases h2 : j < k + t.length
    · have := World.cell?_setCells_in b (Lib.byteCells t) k W hin (j - k) (by omega)
      rw [show k + (j - k) = j by omega] at this
      rw [this, List.getElem_append_left (by simp; omega), List.getElem_append_right (by simp; omega)]
      have hm : min k s.length = k := by omega
      simp [Lib.byteCells, hm]
    · rw [World.cell?_setCells_out b _ k W _ (fun _ _ => Or.inr (by rw [hl]; show k + t.length ≤ j; omega))]
      have := h j hj'
      rw [Nat.zero_add] at this
      have e : k + t.length + (j - (s.take k ++ t).length) = j := by rw [List.length_append, List.length_take]; omega
      rw [this, List.getElem_append_right (by simp; omega), List.getElem_drop]
      simp only [e]
end Go.Proofs.Ytifddipnboifnaa.B0

/- Contracts of spec.l01New, l01Below, l01Once, l01PickInt, l01Pick, l01Bytes and l01At: what they answer lies in its bounds; the cursor stays one. -/
namespace Go.Proofs.Ytifddipnboifnaa.C1
open Go.ChangeShapes Go.WideShapes Go.ChangeAt Go.RowKit C0
set_option linter.unusedVariables false

set_option maxHeartbeats 2000000 in
theorem below_any {w0 w : World} {c : Nat} {a : Option Addr} {len cap : Nat} (hcode : Given w0 a len) (h : St w0 w c a len cap) (hlen : len ≤ 1048576) (n : Int) (h0 : 0 < n) (h1 : n ≤ 2147483648) :
    Calls Try.prog 72 #[.pointer (some ⟨c, 0, none⟩), .int .i64 n] w fun e w' => (∃ x : Int, 0 ≤ x ∧ x < n ∧ e = .returned (.int .i64 x)) ∧ St w0 w' c a len cap ∧ w.grownBy w' (some c) := by
  have h0' : ¬ n ≤ 0 := by omega
  by_cases h2 : n ≤ 256
  · go_enter Try.func72, Try.ntmps72
    go_wp2_with (go_at_call 107; refine (byte_any hcode h hlen).mono ?_; rintro e w1 ⟨⟨x, x0, x1, rfl⟩, s1, g1⟩)
    go_ret
    exact ⟨⟨_, Int.emod_nonneg _ (by omega), Int.emod_lt_of_pos _ h0, rfl⟩, s1, g1⟩
  · go_enter Try.func72, Try.ntmps72
    go_wp2_with (first
      | (go_at_call 107; refine (byte_any hcode s3 hlen).mono ?_; rintro e w4 ⟨⟨x4, x40, x41, rfl⟩, s4, g4⟩)
      | (go_at_call 107; refine (byte_any hcode s2 hlen).mono ?_; rintro e w3 ⟨⟨x3, x30, x31, rfl⟩, s3, g3⟩)
      | (go_at_call 107; refine (byte_any hcode s1 hlen).mono ?_; rintro e w2 ⟨⟨x2, x20, x21, rfl⟩, s2, g2⟩)
      | (go_at_call 107; refine (byte_any hcode h hlen).mono ?_; rintro e w1 ⟨⟨x1, x10, x11, rfl⟩, s1, g1⟩))
    go_ret
    exact ⟨⟨_, Int.emod_nonneg _ (by omega), Int.emod_lt_of_pos _ h0, rfl⟩, s4, grown_trans (grown_trans (grown_trans g1 g2) g3) g4⟩

theorem once_any {w0 w : World} {c : Nat} {a : Option Addr} {len cap : Nat} (hcode : Given w0 a len) (h : St w0 w c a len cap) (hlen : len ≤ 1048576) (n : Int) (h0 : 0 < n) (h1 : n ≤ 2147483648) :
    Calls Try.prog 109 #[.pointer (some ⟨c, 0, none⟩), .int .i64 n] w fun e w' => (∃ x : Bool, e = .returned (.bool x)) ∧ St w0 w' c a len cap ∧ w.grownBy w' (some c) := by
  go_enter Try.func109, Try.ntmps109
  go_wp2_with (go_at_call 72; refine (below_any hcode h hlen n h0 h1).mono ?_; rintro e w1 ⟨⟨x, x0, x1, rfl⟩, s1, g1⟩)
  go_ret
  exact ⟨⟨_, rfl⟩, s1, g1⟩

/-- Cells of a list that a draw picks of. -/
structure Of (w : World) (l n : Nat) (Q : Value → Prop) : Prop where
  lt : l < w.heap.size
  cell : ∀ j, j < n → ∃ v, Q v ∧ w.cell? ⟨l, j, none⟩ = some v

theorem Of.grown {w w' : World} {l n c : Nat} {Q : Value → Prop} (h : Of w l n Q) (hg : w.grownBy w' (some c)) (hne : l ≠ c) : Of w' l n Q :=
  ⟨Nat.lt_of_lt_of_le h.lt hg.size, fun j hj => by
    obtain ⟨v, hv, hc⟩ := h.cell j hj
    refine ⟨v, hv, ?_⟩
    rw [World.cell?_of_block (a := ⟨l, j, none⟩) (hg.block l h.lt (fun e => hne (Option.some.inj e)))]
    exact hc⟩

theorem Of.new (w : World) (C : Array Value) (T : TypeId) (Q : Value → Prop) (h : ∀ j (hj : j < C.size), Q C[j]) : Of (w.alloc (.cells C T)) w.heap.size C.size Q :=
  ⟨by show _ < (w.heap.push _).size; simp, fun j hj => ⟨C[j], h j hj, by rw [World.cell?_alloc_mark, Array.getElem?_eq_getElem hj]⟩⟩

/-- A number of the kind int. -/
def IsInt (v : Value) : Prop := ∃ z : Int, (Lit.int .i64 z).wf = true ∧ v = .int .i64 z
/-- A short string. -/
def IsStr (v : Value) : Prop := ∃ s : ByteArray, s.size ≤ 8 ∧ v = .string s

theorem pickInt_any {w0 w : World} {c l n cp : Nat} {a : Option Addr} {len cap : Nat} (hcode : Given w0 a len) (h : St w0 w c a len cap) (hlen : len ≤ 1048576) (hof : Of w l n IsInt) (hne : l ≠ c) (h0 : 0 < n) (h1 : n ≤ 100) :
    Calls Try.prog 98 #[.pointer (some ⟨c, 0, none⟩), .slice (some ⟨l, 0, none⟩) n cp] w fun e w' => (∃ z : Int, (Lit.int .i64 z).wf = true ∧ e = .returned (.int .i64 z)) ∧ St w0 w' c a len cap ∧ w.grownBy w' (some c) := by
  go_enter Try.func98, Try.ntmps98
  go_wp2_with (go_at_call 72; refine (below_any hcode h hlen (n : Int) (by omega) (by omega)).mono ?_; rintro e w1 ⟨⟨x, x0, x1, rfl⟩, s1, g1⟩; obtain ⟨j, rfl⟩ : ∃ j : Nat, x = (j : Int) := ⟨x.toNat, by omega⟩; obtain ⟨v, ⟨z, wz, rfl⟩, hc⟩ := (hof.grown g1 hne).cell j (by omega))
  go_ret
  exact ⟨⟨z, wz, rfl⟩, s1, g1⟩

theorem pick_any {w0 w : World} {c l n cp : Nat} {a : Option Addr} {len cap : Nat} (hcode : Given w0 a len) (h : St w0 w c a len cap) (hlen : len ≤ 1048576) (hof : Of w l n IsStr) (hne : l ≠ c) (h0 : 0 < n) (h1 : n ≤ 100) :
    Calls Try.prog 101 #[.pointer (some ⟨c, 0, none⟩), .slice (some ⟨l, 0, none⟩) n cp] w fun e w' => (∃ s : ByteArray, s.size ≤ 8 ∧ e = .returned (.string s)) ∧ St w0 w' c a len cap ∧ w.grownBy w' (some c) := by
  go_enter Try.func101, Try.ntmps101
  go_wp2_with (go_at_call 72; refine (below_any hcode h hlen (n : Int) (by omega) (by omega)).mono ?_; rintro e w1 ⟨⟨x, x0, x1, rfl⟩, s1, g1⟩; obtain ⟨j, rfl⟩ : ∃ j : Nat, x = (j : Int) := ⟨x.toNat, by omega⟩; obtain ⟨v, ⟨z, wz, rfl⟩, hc⟩ := (hof.grown g1 hne).cell j (by omega))
  go_ret
  exact ⟨⟨z, wz, rfl⟩, s1, g1⟩
end Go.Proofs.Ytifddipnboifnaa.C1

/- Contracts of spec.l01Bytes, l01At and l01New: what they answer lies in its bounds; the cursor stays one. -/
namespace Go.Proofs.Ytifddipnboifnaa.C1
open Go.ChangeShapes Go.WideShapes Go.ChangeAt Go.RowKit C0
set_option linter.unusedVariables false

theorem info8 : (Try.prog.info? 5).map (fun i => (i.zero, i.size, i.bytes)) = some (some (.int .u8 0), 1, 1) := by kernel_rfl

/-- Bytes as cells. -/
abbrev bcells (l : List UInt8) : List Value := l.map fun b => Value.int .u8 (b.toNat : Int)

theorem one_byte (x : Int) : ∀ u ∈ [Value.int .u8 x], u.oneCell' = true := by
  intro u h
  simp at h
  subst h
  rfl

theorem holds_of_owns {w : World} {base : Nat} {e : TypeId} {g n cap : Nat} {l : List UInt8} (h : w.ownsRow base e 1 (.slice (some ⟨g, 0, none⟩) n cap) n (bcells l)) : B0.Holds w g 0 l := by
  intro j hj
  have := h.cells (g := g) rfl j (.int .u8 (l[j].toNat : Int)) (by simp [hj])
  rwa [B0.add_off] at this

set_option maxHeartbeats 2000000 in
theorem bytes_any {w0 w : World} {c : Nat} {a : Option Addr} {len cap : Nat} (hcode : Given w0 a len) (h : St w0 w c a len cap) (hlen : len ≤ 1048576) (n : Nat) (h1 : n ≤ 1048576) :
    Calls Try.prog 100 #[.pointer (some ⟨c, 0, none⟩), .int .i64 (n : Int)] w fun e w' => (∃ s : ByteArray, s.size = n ∧ e = .returned (.string s)) ∧ St w0 w' c a len cap := by
  obtain ⟨i0, hi, hz0, hz1, hz2⟩ := info_parts info8
  have hcl := h.cur.lt
  have hn0 := h.new
  go_enter Try.func100, Try.ntmps100
  go_wp2
  go_loopw [5, 6] (fun v i w' => ∃ (k : Nat) (l : List UInt8) (g cp : Nat), k ≤ n ∧ l.length = k ∧ i = .int .i64 k ∧ v = .slice (some ⟨g, 0, none⟩) k cp ∧ w.heap.size ≤ w'.heap.size ∧ w'.ownsRow w.heap.size 5 1 (.slice (some ⟨g, 0, none⟩) k cp) k (bcells l) ∧ St w0 w' c a len cap) (fun _ i _ => n - (intOf i).toNat)
  case atStart => exact ⟨0, [], _, _, Nat.zero_le _, rfl, rfl, rfl, by simp, World.ownsRow_made w #[] 0 (Nat.le_refl _) (Nat.zero_le _) rfl, h.below ((Below.refl _ _).alloc (Nat.le_refl _) _)⟩
  case round =>
    obtain ⟨k, l, g, cp, hk, hl, rfl, rfl, hB, hown, hst⟩ := hrel
    have hg : w.heap.size ≤ g := (hown.lt g rfl).1
    by_cases hlt : k < n
    · have hlt' : (k : Int) < (n : Int) := by omega
      go_wp2_with (first
        | (go_at_call 72; refine (below_any hcode hst hlen 256 (by omega) (by omega)).mono ?_; rintro e w1 ⟨⟨x, x0, x1, rfl⟩, s1, g1⟩; have hown1 := hown.kept g1 (Or.inr (by simp [Value.ownBlock]; omega)); have hB1 := Nat.le_trans hB g1.size)
        | (at_builtin; refine wpList_append_lies _ rfl (.tmp 13) (.tmp 17) 22 rfl w.heap.size 5 i0 (.int .u8 0) 1 1 Try.underlying22 hi hz0 hz1 hz2 rfl (by omega) _ _ _ (by rfl) (hown1.alloc _) ⟨w1.heap.size, 0, none⟩ 1 1 [.int .u8 x] (by rfl) rfl (World.news_of_block (heap_alloc_new w1 _)) (one_byte _) (by omega) (by unfold maxLen; omega) (by omega) (by simp; omega) _ rfl ?_; intro g2 cap2 w2 hown2 hgrow hat hlt2))
      go_roundw
      case rel =>
        refine ⟨k + 1, l ++ [UInt8.ofNat x.toNat], g2, cap2, by omega, by simp [hl], by go_num, rfl, ?_, ?_, ?_⟩
        · exact Nat.le_trans (by simp; omega) hgrow.size
        · have e : bcells (l ++ [UInt8.ofNat x.toNat]) = bcells l ++ [.int .u8 x] := by
            have : x.toNat < 256 := by omega
            simp [Nat.mod_eq_of_lt this]
            omega
          rw [e]
          exact hown2
        · exact (s1.below ((Below.refl _ _).alloc (Nat.le_refl _) _)).grown (g := g) hgrow (by omega) (by omega)
      case measure => simp [intOf]; omega
    · obtain rfl : k = n := by omega
      have hcv := B0.conv_back (P := Try.prog) wr 22 9 5 g 0 cp l Try.underlying22 Try.underlying5 Try.underlying9 (holds_of_owns hown) k hl.symm
      go_wp2
      go_ret
      exact ⟨⟨⟨l.toArray⟩, by show l.toArray.size = _; simp [hl], rfl⟩, hst⟩

theorem ints4 : ∀ j (hj : j < (#[Value.int .i64 (-1), Value.int .i64 9223372036854775807, Value.int .i64 (-9223372036854775808), Value.int .i64 100] : Array Value).size), IsInt (#[Value.int .i64 (-1), Value.int .i64 9223372036854775807, Value.int .i64 (-9223372036854775808), Value.int .i64 100] : Array Value)[j] := by
  intro j hj
  match j, hj with
  | 0, _ => exact ⟨_, by decide, rfl⟩
  | 1, _ => exact ⟨_, by decide, rfl⟩
  | 2, _ => exact ⟨_, by decide, rfl⟩
  | 3, _ => exact ⟨_, by decide, rfl⟩

end Go.Proofs.Ytifddipnboifnaa.C1

/- Plain facts on decimal numerals. -/
namespace Go.Proofs.Ytifddipnboifnaa.D0
open Go

/-- The digits of a number, none for 0. -/
def dd (u : Nat) : List UInt8 := if u = 0 then [] else Lib.decDigits u

theorem dd_step (u : Nat) (h : u ≠ 0) : dd u = dd (u / 10) ++ [UInt8.ofNat (48 + u % 10)] := by
  unfold dd
  rw [if_neg h]
  by_cases h1 : u < 10
  · rw [Lib.decDigits_one h1, if_pos (by omega), Nat.mod_eq_of_lt h1]
    rfl
  · rw [Lib.decDigits, dif_neg h1, if_neg (by omega)]

theorem dd_length (u : Nat) (h : u ≤ 9223372036854775808) : (dd u).length ≤ 21 := by
  unfold dd
  split
  · simp
  · have := Lib.itoa_length_le (-(u : Int)) (by omega) (by omega)
    rw [Lib.itoa_neg u (by omega)] at this
    simp at this
    omega

/-- The ten digits as a text. -/
theorem digit_piece (d : Nat) (h : d < 10) : (⟨#[48, 49, 50, 51, 52, 53, 54, 55, 56, 57]⟩ : ByteArray).extract d (d + 1) = ⟨#[UInt8.ofNat (48 + d)]⟩ := by
  match d, h with
  | 0, _ => rfl
  | 1, _ => rfl
  | 2, _ => rfl
  | 3, _ => rfl
  | 4, _ => rfl
  | 5, _ => rfl
  | 6, _ => rfl
  | 7, _ => rfl
  | 8, _ => rfl
  | 9, _ => rfl

/-- A step of the loop that writes the digits from the last one on. -/
theorem round_eq (u v : Nat) (out : List UInt8) (h : u ≠ 0) (e : dd u ++ out = dd v) : dd (u / 10) ++ (UInt8.ofNat (48 + u % 10) :: out) = dd v := by
  rw [← e, dd_step u h]
  simp

/-- One digit as a text. -/
def dig (x : Int) : ByteArray := ⟨#[UInt8.ofNat (48 + x.toNat)]⟩

theorem dig_size (x : Int) : (dig x).size = 1 := rfl

theorem dig_cons (x : Int) (out : List UInt8) : dig x ++ ⟨out.toArray⟩ = ⟨(UInt8.ofNat (48 + x.toNat) :: out).toArray⟩ := by
  apply ByteArray.ext
  apply Array.toList_inj.1
  simp [dig]

theorem ret_minus (l : List UInt8) : Ending.returned (.string (⟨#[45]⟩ ++ ⟨l.toArray⟩)) = Ending.returned (.string ⟨(45 :: l).toArray⟩) := by
  congr 2

theorem itoa_pos (u : Nat) (h : u ≠ 0) : Lib.itoa (u : Int) = dd u := by rw [Lib.itoa_nonneg, dd, if_neg h]
theorem itoa_neg (u : Nat) (h : u ≠ 0) : Lib.itoa (-(u : Int)) = 45 :: dd u := by rw [Lib.itoa_neg u (by omega), dd, if_neg h]

/-- The piece of the ten digits at a digit's place. -/
theorem dig_slice {P : Program} (t : TypeId) (ht : P.underlying t = some .string) (x : Int) (h0 : 0 ≤ x) (h1 : x < 10) (W : World) :
    (Instr.slice t (.string ⟨#[48, 49, 50, 51, 52, 53, 54, 55, 56, 57]⟩) (some (.int .i64 x)) (some (.int .i64 (x + 1))) none).run P W = .ok (.string (dig x)) W := by
  rw [run_slice_string W t _ .i64 .i64 x (x + 1) ht h0 (by omega) (by show x + 1 ≤ ((10 : Nat) : Int); omega)]
  obtain ⟨d, rfl⟩ : ∃ d : Nat, x = (d : Int) := ⟨x.toNat, by omega⟩
  rw [show ((d : Int) + 1).toNat = d + 1 by omega, show ((d : Int)).toNat = d by omega, digit_piece d (by omega)]
  rfl
end Go.Proofs.Ytifddipnboifnaa.D0

/- The contract of spec.DecText, as the given laws call it. -/
namespace Go.Proofs.Ytifddipnboifnaa.D1
open Go.ChangeShapes Go.WideShapes Go.ChangeAt Go.RowKit
set_option linter.unusedVariables false

end Go.Proofs.Ytifddipnboifnaa.D1

/- Contracts of spec.l01New and of the draws of chapter 1: what is drawn lies in its bounds, and only new memory is written. -/
namespace Go.Proofs.Ytifddipnboifnaa.C1
open Go.ChangeShapes Go.WideShapes Go.ChangeAt Go.RowKit C0
set_option linter.unusedVariables false

theorem st_new {w : World} {a : Option Addr} {len cap : Nat} (x : Int) (T : TypeId) : St w (w.alloc (.cells #[.slice a len cap, .int .i64 0, .int .i64 x] T)) w.heap.size a len cap := by
  refine ⟨(Below.refl _ _).alloc (Nat.le_refl _) _, Nat.le_refl _, ⟨by show _ < (w.heap.push _).size; simp, ⟨0, x, Nat.zero_le _, ?_, ?_, ?_⟩, ?_, ?_⟩⟩
  · rw [World.cell?_alloc_mark]; rfl
  · rw [World.cell?_alloc_mark]; rfl
  · rw [World.cell?_alloc_mark]; rfl
  · have := World.frozen?_alloc_mark w #[.slice a len cap, .int .i64 0, .int .i64 x] T 0 0 1
    rw [this]; simp
  · have := World.frozen?_alloc_mark w #[.slice a len cap, .int .i64 0, .int .i64 x] T 0 0 2
    rw [this]; simp

set_option maxHeartbeats 2000000 in
theorem new_any {w : World} {a : Option Addr} {len cap : Nat} (hcode : Given w a len) (hlen : len ≤ 1048576) :
    Calls Try.prog 58 #[.slice a len cap] w fun e w' => ∃ c, e = .returned (.pointer (some ⟨c, 0, none⟩)) ∧ St w w' c a len cap := by
  go_enter Try.func58, Try.ntmps58
  go_wp2
  go_loop [3, 4] (fun t i => ∃ (k : Nat) (x : Int), k ≤ len ∧ i = .int .i64 k ∧ t = .int .i64 x) (fun _ i => len - (intOf i).toNat)
  case atStart => exact ⟨0, _, Nat.zero_le _, rfl, rfl⟩
  case round =>
    obtain ⟨k, x, hk, rfl, rfl⟩ := hrel
    by_cases hlt : k < len
    · have e1 : (0 : Int) ≤ (k : Int) := by omega
      have e2 : (k : Int) < (len : Int) := by omega
      obtain ⟨b, off, z, rfl, hb, z0, z1, hz⟩ := hcode k hlt
      by_cases h4 : (k : Int) < 4000
      · go_wp2
        go_round
        case rel => exact ⟨k + 1, _, by omega, by go_num, rfl⟩
        case measure => simp [intOf]; omega
      · have h4' : decide ((k : Int) < 4000) = false := by simpa using h4
        go_wp2
        go_ret
        exact ⟨_, rfl, st_new _ _⟩
    · have hf : decide ((k : Int) < (len : Int)) = false := by simp; omega
      go_wp2
      go_ret
      exact ⟨_, rfl, st_new _ _⟩
end Go.Proofs.Ytifddipnboifnaa.C1

/- Blocks of cells that a call has made: what stands in them, kept by what happens elsewhere. -/
namespace Go.Proofs.Ytifddipnboifnaa.K0
open Go.RowKit
set_option linter.unusedVariables false
set_option linter.unusedSimpArgs false

/-- A block's first cells hold these values, and may be written. -/
structure Blk (B : Nat) (vs : List Value) (W : World) : Prop where
  cell : ∀ j (h : j < vs.length), W.cell? ⟨B, j, none⟩ = some vs[j]
  free : ∀ j, j < vs.length → W.frozen? ⟨B, j, none⟩ = false
  lt : B < W.heap.size

variable {B : Nat} {vs : List Value} {w W W' : World}

theorem Blk.below (h : Blk B vs W) (hb : Below W.heap.size W W') : Blk B vs W' :=
  ⟨fun j hj => (hb.cell (p := ⟨B, j, none⟩) h.lt).trans (h.cell j hj), fun j hj => (hb.frozen (p := ⟨B, j, none⟩) h.lt).trans (h.free j hj), Nat.lt_of_lt_of_le h.lt hb.size⟩

theorem Blk.alloc (h : Blk B vs W) (o : Obj) : Blk B vs (W.alloc o) := h.below ((Below.refl _ _).alloc (Nat.le_refl _) o)
theorem Blk.drew (h : Blk B vs W) : Blk B vs W.drew := ⟨h.cell, h.free, h.lt⟩
theorem Blk.drewN (h : Blk B vs W) (n : Nat) : Blk B vs (W.drewN n) := ⟨h.cell, h.free, h.lt⟩

theorem blk_new (vs : List Value) (w : World) (T : TypeId) : Blk w.heap.size vs (w.alloc (.cells vs.toArray T)) := by
  refine ⟨fun j hj => ?_, fun j hj => ?_, ?_⟩
  · rw [World.cell?_alloc_mark]
    simp [hj]
  · have h := World.frozen?_alloc_mark w vs.toArray T 0 0 j
    rw [h]
    simp
  · simp

theorem blk_at (vs : List Value) (w : World) (T : TypeId) (hB : w.heap.size = B) : Blk B vs (w.alloc (.cells vs.toArray T)) := hB ▸ blk_new vs w T

theorem Blk.set (h : Blk B vs W) (j : Nat) (v : Value) : Blk B (vs.set j v) (W.setCell ⟨B, j, none⟩ v) := by
  refine ⟨fun k hk => ?_, fun k hk => ?_, ?_⟩
  · have hk' : k < vs.length := by simpa using hk
    by_cases e : j = k
    · subst e
      rw [World.cell?_setCell_same _ _ _ (h.cell j hk')]
      simp
    · rw [World.cell?_setCell_other _ _ _ _ (fun x => e (Addr.mk.inj x).2.1), h.cell k hk', List.getElem_set_ne e]
  · rw [World.frozen?_setCell]
    exact h.free k (by simpa using hk)
  · have := h.lt
    simpa [World.setCell] using this

theorem Blk.setOther (h : Blk B vs W) {B' : Nat} (hne : B' ≠ B) (j : Nat) (v : Value) : Blk B vs (W.setCell ⟨B', j, none⟩ v) := by
  refine ⟨fun k hk => ?_, fun k hk => ?_, ?_⟩
  · rw [World.cell?_setCell_other _ _ _ _ (fun x => hne (Addr.mk.inj x).1)]
    exact h.cell k hk
  · rw [World.frozen?_setCell]
    exact h.free k hk
  · have := h.lt
    simpa [World.setCell] using this

theorem Blk.c0 {a : Value} {l : List Value} (h : Blk B (a :: l) W) : W.cell? ⟨B, 0, none⟩ = some a := h.cell 0 (by simp)
theorem Blk.c1 {a b : Value} {l : List Value} (h : Blk B (a :: b :: l) W) : W.cell? ⟨B, 1, none⟩ = some b := h.cell 1 (by simp)
theorem Blk.c2 {a b c : Value} {l : List Value} (h : Blk B (a :: b :: c :: l) W) : W.cell? ⟨B, 2, none⟩ = some c := h.cell 2 (by simp)
theorem Blk.c3 {a b c d : Value} {l : List Value} (h : Blk B (a :: b :: c :: d :: l) W) : W.cell? ⟨B, 3, none⟩ = some d := h.cell 3 (by simp)
theorem Blk.f0 {a : Value} {l : List Value} (h : Blk B (a :: l) W) : W.frozen? ⟨B, 0, none⟩ = false := h.free 0 (by simp)
theorem Blk.f1 {a b : Value} {l : List Value} (h : Blk B (a :: b :: l) W) : W.frozen? ⟨B, 1, none⟩ = false := h.free 1 (by simp)
theorem Blk.f2 {a b c : Value} {l : List Value} (h : Blk B (a :: b :: c :: l) W) : W.frozen? ⟨B, 2, none⟩ = false := h.free 2 (by simp)
theorem Blk.f3 {a b c d : Value} {l : List Value} (h : Blk B (a :: b :: c :: d :: l) W) : W.frozen? ⟨B, 3, none⟩ = false := h.free 3 (by simp)

/-- Two results in cells, written last. -/
theorem Blk.put2 {a b : Value} (h : Blk B [a, b] W) (x y : Value) : Blk B [x, y] ((W.setCell ⟨B, 0, none⟩ x).setCell ⟨B, 1, none⟩ y) := (h.set 0 x).set 1 y
theorem Blk.put4 {a b c d : Value} (h : Blk B [a, b, c, d] W) (x y z u : Value) : Blk B [x, y, z, u] ((((W.setCell ⟨B, 0, none⟩ x).setCell ⟨B, 1, none⟩ y).setCell ⟨B, 2, none⟩ z).setCell ⟨B, 3, none⟩ u) := (((h.set 0 x).set 1 y).set 2 z).set 3 u

theorem below_drewN {B : Nat} {a w : World} (h : Below B a w) (n : Nat) : Below B a (w.drewN n) := ⟨h.os, h.tape, h.output, h.size, h.block⟩

/-- A new block, and what is there below it. -/
theorem below_new (w : World) (o : Obj) : Below w.heap.size w (w.alloc o) := (Below.refl _ _).alloc (Nat.le_refl _) o

theorem below_step {B : Nat} {w W W' : World} (h : Below B w W) (hB : B ≤ W.heap.size) (hb : Below W.heap.size W W') : Below B w W' := h.trans (hb.mono hB)
end Go.Proofs.Ytifddipnboifnaa.K0

/- Drawing: bytes, picks, and what else stays beside the cursor. -/
namespace Go.Proofs.Ytifddipnboifnaa.C1
open Go.ChangeShapes Go.WideShapes Go.ChangeAt Go.RowKit C0
set_option linter.unusedVariables false
set_option linter.unusedSimpArgs false
set_option maxRecDepth 10000

theorem grown_new {w W1 W2 : World} {c g : Nat} (h : w.grownBy W1 (some c)) (h' : W1.grownBy W2 (some g)) (hg : w.heap.size ≤ g) : w.grownBy W2 (some c) :=
  ⟨h'.os.trans h.os, h'.tape.trans h.tape, h'.output.trans h.output, Nat.le_trans h.size h'.size, fun k hk hr => by
    rw [h'.block k (Nat.lt_of_lt_of_le hk h.size) (fun e => by have := Option.some.inj e; omega)]
    exact h.block k hk hr⟩

theorem grown_of_below {w W : World} {c : Nat} (h : Below w.heap.size w W) : w.grownBy W (some c) := ⟨h.os, h.tape, h.output, h.size, fun k hk _ => h.block k hk⟩

theorem below_of_grown {w W : World} {c : Nat} (h : w.grownBy W (some c)) (hc : w.heap.size ≤ c) : Below w.heap.size w W :=
  ⟨h.os, h.tape, h.output, h.size, fun k hk => h.block k hk (fun e => by have := Option.some.inj e; omega)⟩

set_option maxHeartbeats 2000000 in
theorem bytes_grown {w0 w : World} {c : Nat} {a : Option Addr} {len cap : Nat} (hcode : Given w0 a len) (h : St w0 w c a len cap) (hlen : len ≤ 1048576) (n : Nat) (h1 : n ≤ 1048576) :
    Calls Try.prog 100 #[.pointer (some ⟨c, 0, none⟩), .int .i64 (n : Int)] w fun e w' => (∃ s : ByteArray, s.size = n ∧ e = .returned (.string s)) ∧ St w0 w' c a len cap ∧ w.grownBy w' (some c) := by
  obtain ⟨i0, hi, hz0, hz1, hz2⟩ := info_parts info8
  have hcl := h.cur.lt
  have hn0 := h.new
  go_enter Try.func100, Try.ntmps100
  go_wp2
  go_loopw [5, 6] (fun v i w' => ∃ (k : Nat) (l : List UInt8) (g cp : Nat), k ≤ n ∧ l.length = k ∧ i = .int .i64 k ∧ v = .slice (some ⟨g, 0, none⟩) k cp ∧ w.heap.size ≤ w'.heap.size ∧ w'.ownsRow w.heap.size 5 1 (.slice (some ⟨g, 0, none⟩) k cp) k (bcells l) ∧ St w0 w' c a len cap ∧ w.grownBy w' (some c)) (fun _ i _ => n - (intOf i).toNat)
  case atStart => exact ⟨0, [], _, _, Nat.zero_le _, rfl, rfl, rfl, by simp, World.ownsRow_made w #[] 0 (Nat.le_refl _) (Nat.zero_le _) rfl, h.below ((Below.refl _ _).alloc (Nat.le_refl _) _), grown_of_below ((Below.refl _ _).alloc (Nat.le_refl _) _)⟩
  case round =>
    obtain ⟨k, l, g, cp, hk, hl, rfl, rfl, hB, hown, hst, hgr⟩ := hrel
    have hg : w.heap.size ≤ g := (hown.lt g rfl).1
    by_cases hlt : k < n
    · have hlt' : (k : Int) < (n : Int) := by omega
      go_wp2_with (first
        | (go_at_call 72; refine (below_any hcode hst hlen 256 (by omega) (by omega)).mono ?_; rintro e w1 ⟨⟨x, x0, x1, rfl⟩, s1, g1⟩; have hown1 := hown.kept g1 (Or.inr (by simp [Value.ownBlock]; omega)); have hB1 := Nat.le_trans hB g1.size)
        | (at_builtin; refine wpList_append_lies _ rfl (.tmp 13) (.tmp 17) 22 rfl w.heap.size 5 i0 (.int .u8 0) 1 1 Try.underlying22 hi hz0 hz1 hz2 rfl (by omega) _ _ _ (by rfl) (hown1.alloc _) ⟨w1.heap.size, 0, none⟩ 1 1 [.int .u8 x] (by rfl) rfl (World.news_of_block (heap_alloc_new w1 _)) (one_byte _) (by omega) (by unfold maxLen; omega) (by omega) (by simp; omega) _ rfl ?_; intro g2 cap2 w2 hown2 hgrow hat hlt2))
      go_roundw
      case rel =>
        refine ⟨k + 1, l ++ [UInt8.ofNat x.toNat], g2, cap2, by omega, by simp [hl], by go_num, rfl, ?_, ?_, ?_, ?_⟩
        · exact Nat.le_trans (by simp; omega) hgrow.size
        · have e : bcells (l ++ [UInt8.ofNat x.toNat]) = bcells l ++ [.int .u8 x] := by
            have : x.toNat < 256 := by omega
            simp [Nat.mod_eq_of_lt this]
            omega
          rw [e]
          exact hown2
        · exact (s1.below ((Below.refl _ _).alloc (Nat.le_refl _) _)).grown (g := g) hgrow (by omega) (by omega)
        · exact grown_new (grown_below (grown_trans hgr g1) ((Below.refl _ _).alloc (Nat.le_refl _) _)) hgrow hg
      case measure => simp [intOf]; omega
    · obtain rfl : k = n := by omega
      have hcv := B0.conv_back (P := Try.prog) wr 22 9 5 g 0 cp l Try.underlying22 Try.underlying5 Try.underlying9 (holds_of_owns hown) k hl.symm
      go_wp2
      go_ret
      exact ⟨⟨⟨l.toArray⟩, by show l.toArray.size = _; simp [hl], rfl⟩, hst, hgr⟩

theorem st_other {w0 w : World} {c : Nat} {a : Option Addr} {len cap : Nat} (h : St w0 w c a len cap) {B j : Nat} (hne : B ≠ c) (hB : w0.heap.size ≤ B) (v : Value) : St w0 (w.setCell ⟨B, j, none⟩ v) c a len cap :=
  ⟨h.bel.setCell (p := ⟨B, j, none⟩) hB _, h.new, h.cur.of_block (by simpa using h.cur.lt) (Below.heap_setCell _ _ _ _ (Ne.symm hne))⟩

theorem blk_grown {B g : Nat} {vs : List Value} {w w' : World} (h : K0.Blk B vs w) (hg : w.grownBy w' (some g)) (hne : B ≠ g) : K0.Blk B vs w' := by
  have hb : w'.heap[B]? = w.heap[B]? := hg.block B h.lt (fun e => hne (Option.some.inj e))
  refine ⟨fun j hj => ?_, fun j hj => ?_, Nat.lt_of_lt_of_le h.lt hg.size⟩
  · rw [World.cell?_of_block (a := ⟨B, j, none⟩) hb]
    exact h.cell j hj
  · rw [World.frozen?_of_block (a := ⟨B, j, none⟩) hb]
    exact h.free j hj

theorem bytes_int {w0 w : World} {c : Nat} {a : Option Addr} {len cap : Nat} (hcode : Given w0 a len) (h : St w0 w c a len cap) (hlen : len ≤ 1048576) (n : Int) (h0 : 0 ≤ n) (h1 : n ≤ 1048576) :
    Calls Try.prog 100 #[.pointer (some ⟨c, 0, none⟩), .int .i64 n] w fun e w' => (∃ s : ByteArray, (s.size : Int) = n ∧ e = .returned (.string s)) ∧ St w0 w' c a len cap ∧ w.grownBy w' (some c) := by
  obtain ⟨m, rfl⟩ : ∃ m : Nat, n = (m : Int) := ⟨n.toNat, by omega⟩
  exact (bytes_grown hcode h hlen m (by omega)).mono fun e w' ⟨⟨s, hs, he⟩, h2⟩ => ⟨⟨s, by omega, he⟩, h2⟩

theorem wf_of (n : Int) (h0 : -9223372036854775808 ≤ n) (h1 : n ≤ 9223372036854775807) : (Lit.int .i64 n).wf = true := by
  simp [Lit.wf, IntKind.min, IntKind.max, IntKind.signed, IntKind.bits]
  omega

theorem wrap_of (n : Int) (h0 : -9223372036854775808 ≤ n) (h1 : n ≤ 9223372036854775807) : IntKind.i64.wrap n = n := by rw [IntKind.wrap_i64]; omega

theorem grown_setNew {w W : World} {c B j : Nat} {v : Value} (h : w.grownBy W (some c)) (hB : w.heap.size ≤ B) : w.grownBy (W.setCell ⟨B, j, none⟩ v) (some c) :=
  grown_new h (grown_set (grown_refl _ _) v) hB

theorem isInt {z : Int} (h0 : -9223372036854775808 ≤ z) (h1 : z ≤ 9223372036854775807) : IsInt (.int .i64 z) := ⟨z, wf_of z h0 h1, rfl⟩
theorem of_all {C : Array Value} {Q : Value → Prop} (h : ∀ v ∈ C.toList, Q v) : ∀ j (hj : j < C.size), Q C[j] := fun j hj => h _ (by simp)

/-- A text of no more than a hundred bytes. -/
def IsTxt (v : Value) : Prop := ∃ s : ByteArray, s.size ≤ 100 ∧ v = .string s

variable {a : Option Addr} {len cap : Nat}

theorem pickTxt {w0 w : World} {c l n cp : Nat} (hcode : Given w0 a len) (h : St w0 w c a len cap) (hlen : len ≤ 1048576) (hof : Of w l n IsTxt) (hne : l ≠ c) (h0 : 0 < n) (h1 : n ≤ 100) :
    Calls Try.prog 101 #[.pointer (some ⟨c, 0, none⟩), .slice (some ⟨l, 0, none⟩) n cp] w fun e w' => (∃ s : ByteArray, s.size ≤ 100 ∧ e = .returned (.string s)) ∧ St w0 w' c a len cap ∧ w.grownBy w' (some c) := by
  go_enter Try.func101, Try.ntmps101
  go_wp2_with (go_at_call 72; refine (below_any hcode h hlen (n : Int) (by omega) (by omega)).mono ?_; rintro e w1 ⟨⟨x, x0, x1, rfl⟩, s1, g1⟩; obtain ⟨j, rfl⟩ : ∃ j : Nat, x = (j : Int) := ⟨x.toNat, by omega⟩; obtain ⟨v, ⟨z, wz, rfl⟩, hc⟩ := (hof.grown g1 hne).cell j (by omega))
  go_ret
  exact ⟨⟨z, wz, rfl⟩, s1, g1⟩

/-- A pick out of texts, or numbers, that were laid just now. -/
theorem pickTxtNew {w0 W : World} {c : Nat} {C : Array Value} {cp : Nat} {T : TypeId} (hcode : Given w0 a len) (h : St w0 W c a len cap) (hlen : len ≤ 1048576) (hC : ∀ v ∈ C.toList, IsTxt v) (h0 : 0 < C.size) (h1 : C.size ≤ 100) :
    Calls Try.prog 101 #[.pointer (some ⟨c, 0, none⟩), .slice (some ⟨W.heap.size, 0, none⟩) C.size cp] (W.alloc (.cells C T)) fun e w' => (∃ s : ByteArray, s.size ≤ 100 ∧ e = .returned (.string s)) ∧ St w0 w' c a len cap ∧ (W.alloc (.cells C T)).grownBy w' (some c) :=
  pickTxt hcode (h.below (K0.below_new _ _)) hlen (Of.new W C T IsTxt (of_all hC)) (by have := h.cur.lt; omega) h0 h1

theorem pickNew {w0 W : World} {c : Nat} {C : Array Value} {cp : Nat} (hcode : Given w0 a len) (h : St w0 W c a len cap) (hlen : len ≤ 1048576) (hC : ∀ v ∈ C.toList, IsInt v) (h0 : 0 < C.size) (h1 : C.size ≤ 100) :
    Calls Try.prog 98 #[.pointer (some ⟨c, 0, none⟩), .slice (some ⟨W.heap.size, 0, none⟩) C.size cp] (W.alloc (.cells C 3)) fun e w' => (∃ z : Int, (Lit.int .i64 z).wf = true ∧ e = .returned (.int .i64 z)) ∧ St w0 w' c a len cap ∧ (W.alloc (.cells C 3)).grownBy w' (some c) :=
  pickInt_any hcode (h.below (K0.below_new _ _)) hlen (Of.new W C 3 IsInt (of_all hC)) (by have := h.cur.lt; omega) h0 h1

theorem txt {l : List UInt8} (h : l.length ≤ 100) : IsTxt (.string ⟨l.toArray⟩) := ⟨_, by show l.toArray.size ≤ 100; simpa using h, rfl⟩

/-- Texts of which a law of the kernel says that they are short. -/
def shortV (v : Value) : Bool := match v with | .string s => decide (s.data.toList.length ≤ 100) | _ => false
theorem short_txt {v : Value} (h : shortV v = true) : IsTxt v := by
  cases v <;> simp [shortV] at h
  exact ⟨_, by show _ ≤ 100; rw [Lib.size_eq]; exact h, rfl⟩
theorem all_short {l : List Value} (h : l.all shortV = true) : ∀ v ∈ l, IsTxt v := fun v hv => short_txt (List.all_eq_true.1 h v hv)
end Go.Proofs.Ytifddipnboifnaa.C1

/- The contract of impl.liesIn, and the part of a text as a function. -/
namespace Go.Proofs.Ytifddipnboifnaa.B2
open Go.ChangeShapes Go.WideShapes Go.ChangeAt Go.RowKit
set_option linter.unusedVariables false

/-- Whether so many bytes from a place on lie in a text of so many. -/
def lies (z : Nat) (i n : Int) : Bool := decide (0 ≤ i ∧ 0 ≤ n ∧ n ≤ (z : Int) - i)

theorem lies_true {z : Nat} {i n : Int} (h : lies z i n = true) : 0 ≤ i ∧ 0 ≤ n ∧ n ≤ (z : Int) - i := by simpa [lies] using h
theorem lies_false {z : Nat} {i n : Int} (h : lies z i n = false) : ¬ (0 ≤ i ∧ 0 ≤ n ∧ n ≤ (z : Int) - i) := of_decide_eq_false h

theorem liesIn_any (s : ByteArray) (i n : Int) (w : World) (hs : s.size ≤ maxLen) :
    Calls Try.prog 105 #[.string s, .int .i64 i, .int .i64 n] w fun e w' => e = .returned (.bool (lies s.size i n)) ∧ w' = w := by
  unfold maxLen at hs
  by_cases h1 : 0 ≤ i
  · by_cases h2 : 0 ≤ n
    · by_cases h3 : i ≤ (s.size : Int)
      · by_cases h4 : n ≤ (s.size : Int) - i
        · have e : lies s.size i n = true := decide_eq_true ⟨h1, h2, h4⟩
          rw [e]
          go_enter Try.func105, Try.ntmps105
          go_wp2
          go_ret
          exact ⟨rfl, rfl⟩
        · have e : lies s.size i n = false := decide_eq_false fun h => h4 h.2.2
          have h4' : decide (n ≤ (s.size : Int) - i) = false := by simpa using h4
          rw [e]
          go_enter Try.func105, Try.ntmps105
          go_wp2
          go_ret
          exact ⟨rfl, rfl⟩
      · have e : lies s.size i n = false := decide_eq_false fun h => by omega
        have h3' : decide (i ≤ (s.size : Int)) = false := by simpa using h3
        rw [e]
        go_enter Try.func105, Try.ntmps105
        go_wp2
        go_ret
        exact ⟨rfl, rfl⟩
    · have e : lies s.size i n = false := decide_eq_false fun h => by omega
      have h2' : decide (0 ≤ n) = false := by simpa using h2
      rw [e]
      go_enter Try.func105, Try.ntmps105
      go_wp2
      go_ret
      exact ⟨rfl, rfl⟩
  · have e : lies s.size i n = false := decide_eq_false fun h => by omega
    have h1' : decide (0 ≤ i) = false := by simpa using h1
    rw [e]
    go_enter Try.func105, Try.ntmps105
    go_wp2
    go_ret
    exact ⟨rfl, rfl⟩

/-- The n bytes from place i on; none where they do not all lie there. -/
def part (s : ByteArray) (i n : Int) : ByteArray := if lies s.size i n then s.extract i.toNat (i + n).toNat else ⟨#[]⟩

end Go.Proofs.Ytifddipnboifnaa.B2
