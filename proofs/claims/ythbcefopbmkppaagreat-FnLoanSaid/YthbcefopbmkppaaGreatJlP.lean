/- Joined texts: plain facts and contracts. -/
import Derived.WalkKit
import Derived.Below
import Derived.Laws.AppendOwn
import Derived.Deep.Draws
import Derived.Test.YthbcefopbmkppaaGreatRows
import Derived.ProofKit
import Derived.Handy
import Derived.Deep.QuietTactic
import Derived.BigQuiet
import Derived.Lib.Strings
import Derived.Deep.AppendLies
import Derived.Test.YthbcefopbmkppaaGreatJlB
import Derived.Laws.IdiomStrings
import Derived.Lib.ItoaNum
import Derived.Lib.ItoaLen
import Derived.Lib.ItoaMem
import Derived.OwnWalk
import Derived.Test.YthbcefopbmkppaaGreatJlA
set_option linter.unusedVariables false
set_option linter.unusedSimpArgs false
set_option maxRecDepth 10000
namespace Go.Proofs.YthbcefopbmkppaaGreat.C0
open Go.RowKit
def Given (w : World) (a : Option Addr) (len : Nat) : Prop :=
 ∀ k, k < len → ∃ b off z, a = some ⟨b, off, none⟩ ∧ b < w.heap.size ∧ 0 ≤ z ∧ z < 256 ∧ w.cell? ⟨b, off + k, none⟩ = some (.int .u8 z)
theorem Given.below {w w' : World} {a : Option Addr} {len : Nat} (h : Given w a len) (hb : Below w.heap.size w w') : Given w' a len := fun k hk => by
 obtain ⟨b, off, z, ha, hlt, h0, h1, hc⟩ := h k hk
 exact ⟨b, off, z, ha, Nat.lt_of_lt_of_le hlt hb.size, h0, h1, (hb.cell (p := ⟨b, off + k, none⟩) hlt).trans hc⟩
structure Cur (w : World) (c : Nat) (a : Option Addr) (len cap : Nat) : Prop where
 lt : c < w.heap.size
 cells : ∃ (k : Nat) (h : Int), k ≤ len ∧ w.cell? ⟨c, 0, none⟩ = some (.slice a len cap) ∧ w.cell? ⟨c, 1, none⟩ = some (.int .i64 (k : Int)) ∧ w.cell? ⟨c, 2, none⟩ = some (.int .i64 h)
 free1 : w.frozen? ⟨c, 1, none⟩ = false
 free2 : w.frozen? ⟨c, 2, none⟩ = false
structure St (w0 w : World) (c : Nat) (a : Option Addr) (len cap : Nat) : Prop where
 bel : Below w0.heap.size w0 w
 new : w0.heap.size ≤ c
 cur : Cur w c a len cap
theorem Cur.of_block {w w' : World} {c : Nat} {a : Option Addr} {len cap : Nat} (h : Cur w c a len cap) (hz : c < w'.heap.size) (hb : w'.heap[c]? = w.heap[c]?) : Cur w' c a len cap := by
 have e : ∀ j, w'.cell? ⟨c, j, none⟩ = w.cell? ⟨c, j, none⟩ := fun j => World.cell?_of_block (a := ⟨c, j, none⟩) hb
 have f : ∀ j, w'.frozen? ⟨c, j, none⟩ = w.frozen? ⟨c, j, none⟩ := fun j => World.frozen?_of_block (a := ⟨c, j, none⟩) hb
 obtain ⟨k, x, hk, c0, c1, c2⟩ := h.cells
 exact ⟨hz, ⟨k, x, hk, by rw [e]; exact c0, by rw [e]; exact c1, by rw [e]; exact c2⟩, by rw [f]; exact h.free1, by rw [f]; exact h.free2⟩
theorem St.below {w0 w w' : World} {c : Nat} {a : Option Addr} {len cap : Nat} (h : St w0 w c a len cap) (hb : Below w.heap.size w w') : St w0 w' c a len cap :=
 ⟨h.bel.trans (hb.mono h.bel.size), h.new, h.cur.of_block (Nat.lt_of_lt_of_le h.cur.lt hb.size) (hb.block c h.cur.lt)⟩
theorem St.grown {w0 w w' : World} {c g : Nat} {a : Option Addr} {len cap : Nat} (h : St w0 w c a len cap) (hg : w.grownBy w' (some g)) (hne : c ≠ g) (hnew : w0.heap.size ≤ g) : St w0 w' c a len cap := by
 refine ⟨⟨hg.os.trans h.bel.os, hg.tape.trans h.bel.tape, hg.output.trans h.bel.output, Nat.le_trans h.bel.size hg.size, fun k hk => ?_⟩, h.new, h.cur.of_block (Nat.lt_of_lt_of_le h.cur.lt hg.size) (hg.block c h.cur.lt (fun e => hne (Option.some.inj e)))⟩
 rw [hg.block k (Nat.lt_of_lt_of_le hk h.bel.size) (fun e => by have := Option.some.inj e; omega)]
 exact h.bel.block k hk
theorem grown_refl (w : World) (row : Option Nat) : w.grownBy w row := ⟨rfl, rfl, rfl, Nat.le_refl _, fun _ _ _ => rfl⟩
theorem grown_trans {w w1 w2 : World} {row : Option Nat} (h : w.grownBy w1 row) (h' : w1.grownBy w2 row) : w.grownBy w2 row :=
 ⟨h'.os.trans h.os, h'.tape.trans h.tape, h'.output.trans h.output, Nat.le_trans h.size h'.size, fun k hk hr => by
  rw [h'.block k (Nat.lt_of_lt_of_le hk h.size) hr]
  exact h.block k hk hr⟩
theorem grown_drewN {w w1 : World} {row : Option Nat} (h : w.grownBy w1 row) (n : Nat) : w.grownBy (w1.drewN n) row := ⟨h.os, h.tape, h.output, h.size, h.block⟩
theorem grown_below {w w1 w2 : World} {row : Option Nat} (h : w.grownBy w1 row) (hb : Below w1.heap.size w1 w2) : w.grownBy w2 row :=
 ⟨hb.os.trans h.os, hb.tape.trans h.tape, hb.output.trans h.output, Nat.le_trans h.size hb.size, fun k hk hr => by
  rw [hb.block k (Nat.lt_of_lt_of_le hk h.size)]
  exact h.block k hk hr⟩
theorem grown_set {w w1 : World} {g j : Nat} (h : w.grownBy w1 (some g)) (v : Value) : w.grownBy (w1.setCell ⟨g, j, none⟩ v) (some g) := by
 refine ⟨h.os, h.tape, h.output, ?_, fun k hk hr => ?_⟩
 ·simpa using h.size
 ·have hne : k ≠ g := fun e => hr (by rw [e])
  rw [← h.block k hk hr]
  exact Below.heap_setCell w1 ⟨g, j, none⟩ v k hne
theorem St.set2 {w0 w : World} {c : Nat} {a : Option Addr} {len cap : Nat} (h : St w0 w c a len cap) (x : Int) : St w0 (w.setCell ⟨c, 2, none⟩ (.int .i64 x)) c a len cap := by
 obtain ⟨k, y, hk, c0, c1, c2⟩ := h.cur.cells
 refine ⟨h.bel.setCell (p := ⟨c, 2, none⟩) h.new _, h.new, ⟨by simpa using h.cur.lt, ⟨k, x, hk, ?_, ?_, ?_⟩, ?_, ?_⟩⟩
 ·rw [World.cell?_setCell_other _ _ _ _ (fun e => by cases e)]; exact c0
 ·rw [World.cell?_setCell_other _ _ _ _ (fun e => by cases e)]; exact c1
 ·exact World.cell?_setCell_same _ _ _ c2
 ·rw [World.frozen?_setCell]; exact h.cur.free1
 ·rw [World.frozen?_setCell]; exact h.cur.free2
theorem St.set1 {w0 w : World} {c : Nat} {a : Option Addr} {len cap : Nat} (h : St w0 w c a len cap) (x : Int) (n : Nat) (hx : x = (n : Int)) (hn : n ≤ len) : St w0 (w.setCell ⟨c, 1, none⟩ (.int .i64 x)) c a len cap := by
 subst hx
 obtain ⟨k, y, hk, c0, c1, c2⟩ := h.cur.cells
 refine ⟨h.bel.setCell (p := ⟨c, 1, none⟩) h.new _, h.new, ⟨by simpa using h.cur.lt, ⟨n, y, hn, ?_, ?_, ?_⟩, ?_, ?_⟩⟩
 ·rw [World.cell?_setCell_other _ _ _ _ (fun e => by cases e)]; exact c0
 ·exact World.cell?_setCell_same _ _ _ c1
 ·rw [World.cell?_setCell_other _ _ _ _ (fun e => by cases e)]; exact c2
 ·rw [World.frozen?_setCell]; exact h.cur.free1
 ·rw [World.frozen?_setCell]; exact h.cur.free2
theorem St.drewN {w0 w : World} {c : Nat} {a : Option Addr} {len cap : Nat} (h : St w0 w c a len cap) (n : Nat) : St w0 (w.drewN n) c a len cap :=
 h.below ⟨rfl, rfl, rfl, Nat.le_refl _, fun _ _ => rfl⟩
end Go.Proofs.YthbcefopbmkppaaGreat.C0
namespace Go.Proofs.YthbcefopbmkppaaGreat.C1
open Go.ChangeShapes Go.WideShapes Go.ChangeAt Go.RowKit C0
theorem and255 (n : Int) : bits .and .i64 n 255 = n % 256 := by
 have h255 : (BitVec.ofInt 64 255).toNat = 2 ^ 8 - 1 := by decide
 have key : (BitVec.ofInt 64 n &&& BitVec.ofInt 64 255).toNat = (n % ((2 ^ 64 : Nat) : Int)).toNat % 2 ^ 8 := by
  rw [BitVec.toNat_and, BitVec.toNat_ofInt, h255, Nat.and_two_pow_sub_one_eq_mod]
 show IntKind.i64.wrap ((BitVec.ofInt 64 n &&& BitVec.ofInt 64 255).toNat : Nat) = n % 256
 rw [key, IntKind.wrap_i64]
 omega
set_option maxHeartbeats 2000000 in
theorem byte_any {w0 w : World} {c : Nat} {a : Option Addr} {len cap : Nat} (hcode : Given w0 a len) (h : St w0 w c a len cap) (hlen : len ≤ 1048576) :
  Calls Tryz.prog 62 #[.pointer (some ⟨c, 0, none⟩)] w fun e w' => (∃ x : Int, 0 ≤ x ∧ x < 256 ∧ e = .returned (.int .i64 x)) ∧ St w0 w' c a len cap ∧ w.grownBy w' (some c) := by
 obtain ⟨k, y, hk, c0, c1, c2⟩ := h.cur.cells
 have f1 := h.cur.free1
 have f2 := h.cur.free2
 have hlt := h.cur.lt
 have ha := and255
 by_cases hkl : k < len
 ·obtain ⟨b, off, z, rfl, hb, z0, z1, hz⟩ := hcode k hkl
  have hne : b ≠ c := by have := h.new; omega
  have hz2 : ∀ v, (w.setCell ⟨c, 2, none⟩ v).cell? ⟨b, off + k, none⟩ = some (.int .u8 z) := fun v => by
   rw [World.cell?_setCell_other _ _ _ _ (fun e => hne (Addr.mk.inj e).1.symm), h.bel.cell (p := ⟨b, off + k, none⟩) hb]
   exact hz
  have e1 : (0 : Int) ≤ (k : Int) := by omega
  have e2 : (k : Int) < (len : Int) := by omega
  clear hz
  go_enter Tryz.func62, Tryz.ntmps62
  go_wp2
  go_quiet (fail)
  go_wp2
  go_quiet (fail)
  go_wp2
  go_quiet (fail)
  go_wp2
  go_ret
  exact ⟨⟨_, by omega, by omega, rfl⟩, ((h.set2 _).drewN _).set1 _ (k + 1) (by omega) (by omega), grown_set (grown_drewN (grown_set (grown_refl _ _) _) _) _⟩
 ·go_enter Tryz.func62, Tryz.ntmps62
  go_wp2
  go_quiet (fail)
  go_wp2
  go_quiet (fail)
  go_wp2
  go_ret
  exact ⟨⟨_, by omega, by omega, rfl⟩, ((h.set2 _).drewN _).drewN _, grown_drewN (grown_drewN (grown_set (grown_refl _ _) _) _) _⟩
end Go.Proofs.YthbcefopbmkppaaGreat.C1
namespace Go.Proofs.YthbcefopbmkppaaGreat.W0
open Go.RowKit
structure Row (w : World) (g : Nat) (ss : List ByteArray) : Prop where
 lt : g < w.heap.size
 cell : ∀ j (hj : j < ss.length), w.cell? ⟨g, j, none⟩ = some (.string ss[j])
 free : ∀ j, j < ss.length → w.frozen? ⟨g, j, none⟩ = false
theorem Row.below {w w' : World} {g : Nat} {ss : List ByteArray} (h : Row w g ss) (hb : Below w.heap.size w w') : Row w' g ss :=
 ⟨Nat.lt_of_lt_of_le h.lt hb.size, fun j hj => (hb.cell (p := ⟨g, j, none⟩) h.lt).trans (h.cell j hj), fun j hj => (hb.frozen (p := ⟨g, j, none⟩) h.lt).trans (h.free j hj)⟩
end Go.Proofs.YthbcefopbmkppaaGreat.W0
namespace Go.Proofs.YthbcefopbmkppaaGreat.C1
open Go.ChangeShapes Go.WideShapes Go.ChangeAt Go.RowKit C0
set_option maxHeartbeats 2000000 in
theorem below_any {w0 w : World} {c : Nat} {a : Option Addr} {len cap : Nat} (hcode : Given w0 a len) (h : St w0 w c a len cap) (hlen : len ≤ 1048576) (n : Int) (h0 : 0 < n) (h1 : n ≤ 2147483648) :
  Calls Tryz.prog 44 #[.pointer (some ⟨c, 0, none⟩), .int .i64 n] w fun e w' => (∃ x : Int, 0 ≤ x ∧ x < n ∧ e = .returned (.int .i64 x)) ∧ St w0 w' c a len cap ∧ w.grownBy w' (some c) := by
 have h0' : ¬ n ≤ 0 := by omega
 by_cases h2 : n ≤ 256
 ·go_enter Tryz.func44, Tryz.ntmps44
  go_wp2_with (go_at_call 62; refine (byte_any hcode h hlen).mono ?_; rintro e w1 ⟨⟨x, x0, x1, rfl⟩, s1, g1⟩)
  go_ret
  exact ⟨⟨_, Int.emod_nonneg _ (by omega), Int.emod_lt_of_pos _ h0, rfl⟩, s1, g1⟩
 ·go_enter Tryz.func44, Tryz.ntmps44
  go_wp2_with (first
   | (go_at_call 62; refine (byte_any hcode s3 hlen).mono ?_; rintro e w4 ⟨⟨x4, x40, x41, rfl⟩, s4, g4⟩)
   | (go_at_call 62; refine (byte_any hcode s2 hlen).mono ?_; rintro e w3 ⟨⟨x3, x30, x31, rfl⟩, s3, g3⟩)
   | (go_at_call 62; refine (byte_any hcode s1 hlen).mono ?_; rintro e w2 ⟨⟨x2, x20, x21, rfl⟩, s2, g2⟩)
   | (go_at_call 62; refine (byte_any hcode h hlen).mono ?_; rintro e w1 ⟨⟨x1, x10, x11, rfl⟩, s1, g1⟩))
  go_ret
  exact ⟨⟨_, Int.emod_nonneg _ (by omega), Int.emod_lt_of_pos _ h0, rfl⟩, s4, grown_trans (grown_trans (grown_trans g1 g2) g3) g4⟩
theorem once_any {w0 w : World} {c : Nat} {a : Option Addr} {len cap : Nat} (hcode : Given w0 a len) (h : St w0 w c a len cap) (hlen : len ≤ 1048576) (n : Int) (h0 : 0 < n) (h1 : n ≤ 2147483648) :
  Calls Tryz.prog 58 #[.pointer (some ⟨c, 0, none⟩), .int .i64 n] w fun e w' => (∃ x : Bool, e = .returned (.bool x)) ∧ St w0 w' c a len cap ∧ w.grownBy w' (some c) := by
 go_enter Tryz.func58, Tryz.ntmps58
 go_wp2_with (go_at_call 44; refine (below_any hcode h hlen n h0 h1).mono ?_; rintro e w1 ⟨⟨x, x0, x1, rfl⟩, s1, g1⟩)
 go_ret
 exact ⟨⟨_, rfl⟩, s1, g1⟩
structure Of (w : World) (l n : Nat) (Q : Value → Prop) : Prop where
 lt : l < w.heap.size
 cell : ∀ j, j < n → ∃ v, Q v ∧ w.cell? ⟨l, j, none⟩ = some v
theorem Of.grown {w w' : World} {l n c : Nat} {Q : Value → Prop} (h : Of w l n Q) (hg : w.grownBy w' (some c)) (hne : l ≠ c) : Of w' l n Q :=
 ⟨Nat.lt_of_lt_of_le h.lt hg.size, fun j hj => by
  obtain ⟨v, hv, hc⟩ := h.cell j hj
  refine ⟨v, hv, ?_⟩
  rw [World.cell?_of_block (a := ⟨l, j, none⟩) (hg.block l h.lt (fun e => hne (Option.some.inj e)))]
  exact hc⟩
theorem Of.new (w : World) (C : Array Value) (T : TypeId) (Q : Value → Prop) (h : ∀ j (hj : j < C.size), Q C[j]) : Of (w.alloc (.cells C T)) w.heap.size C.size Q :=
 ⟨by show _ < (w.heap.push _).size; simp, fun j hj => ⟨C[j], h j hj, by rw [World.cell?_alloc_mark, Array.getElem?_eq_getElem hj]⟩⟩
def IsInt (v : Value) : Prop := ∃ z : Int, (Lit.int .i64 z).wf = true ∧ v = .int .i64 z
theorem pickInt_any {w0 w : World} {c l n cp : Nat} {a : Option Addr} {len cap : Nat} (hcode : Given w0 a len) (h : St w0 w c a len cap) (hlen : len ≤ 1048576) (hof : Of w l n IsInt) (hne : l ≠ c) (h0 : 0 < n) (h1 : n ≤ 100) :
  Calls Tryz.prog 23 #[.pointer (some ⟨c, 0, none⟩), .slice (some ⟨l, 0, none⟩) n cp] w fun e w' => (∃ z : Int, (Lit.int .i64 z).wf = true ∧ e = .returned (.int .i64 z)) ∧ St w0 w' c a len cap ∧ w.grownBy w' (some c) := by
 go_enter Tryz.func23, Tryz.ntmps23
 go_wp2_with (go_at_call 44; refine (below_any hcode h hlen (n : Int) (by omega) (by omega)).mono ?_; rintro e w1 ⟨⟨x, x0, x1, rfl⟩, s1, g1⟩; obtain ⟨j, rfl⟩ : ∃ j : Nat, x = (j : Int) := ⟨x.toNat, by omega⟩; obtain ⟨v, ⟨z, wz, rfl⟩, hc⟩ := (hof.grown g1 hne).cell j (by omega))
 go_ret
 exact ⟨⟨z, wz, rfl⟩, s1, g1⟩
end Go.Proofs.YthbcefopbmkppaaGreat.C1
namespace Go.Proofs.YthbcefopbmkppaaGreat.C1
open Go.ChangeShapes Go.WideShapes Go.ChangeAt Go.RowKit C0
theorem info8 : (Tryz.prog.info? 5).map (fun i => (i.zero, i.size, i.bytes)) = some (some (.int .u8 0), 1, 1) := by kernel_rfl
abbrev bcells (l : List UInt8) : List Value := l.map fun b => Value.int .u8 (b.toNat : Int)
theorem one_byte (x : Int) : ∀ u ∈ [Value.int .u8 x], u.oneCell' = true := by
 intro u h
 simp at h
 subst h
 rfl
theorem holds_of_owns {w : World} {base : Nat} {e : TypeId} {g n cap : Nat} {l : List UInt8} (h : w.ownsRow base e 1 (.slice (some ⟨g, 0, none⟩) n cap) n (bcells l)) : B0.Holds w g 0 l := by
 intro j hj
 have := h.cells (g := g) rfl j (.int .u8 (l[j].toNat : Int)) (by simp [hj])
 rwa [B0.add_off] at this
end Go.Proofs.YthbcefopbmkppaaGreat.C1
namespace Go.Proofs.YthbcefopbmkppaaGreat.C1
open Go.ChangeShapes Go.WideShapes Go.ChangeAt Go.RowKit C0
theorem st_new {w : World} {a : Option Addr} {len cap : Nat} (x : Int) (T : TypeId) : St w (w.alloc (.cells #[.slice a len cap, .int .i64 0, .int .i64 x] T)) w.heap.size a len cap := by
 refine ⟨(Below.refl _ _).alloc (Nat.le_refl _) _, Nat.le_refl _, ⟨by show _ < (w.heap.push _).size; simp, ⟨0, x, Nat.zero_le _, ?_, ?_, ?_⟩, ?_, ?_⟩⟩
 ·rw [World.cell?_alloc_mark]; rfl
 ·rw [World.cell?_alloc_mark]; rfl
 ·rw [World.cell?_alloc_mark]; rfl
 ·have := World.frozen?_alloc_mark w #[.slice a len cap, .int .i64 0, .int .i64 x] T 0 0 1
  rw [this]; simp
 ·have := World.frozen?_alloc_mark w #[.slice a len cap, .int .i64 0, .int .i64 x] T 0 0 2
  rw [this]; simp
set_option maxHeartbeats 2000000 in
theorem new_any {w : World} {a : Option Addr} {len cap : Nat} (hcode : Given w a len) (hlen : len ≤ 1048576) :
  Calls Tryz.prog 22 #[.slice a len cap] w fun e w' => ∃ c, e = .returned (.pointer (some ⟨c, 0, none⟩)) ∧ St w w' c a len cap := by
 go_enter Tryz.func22, Tryz.ntmps22
 go_wp2
 go_loop [3, 4] (fun t i => ∃ (k : Nat) (x : Int), k ≤ len ∧ i = .int .i64 k ∧ t = .int .i64 x) (fun _ i => len - (intOf i).toNat)
 case atStart => exact ⟨0, _, Nat.zero_le _, rfl, rfl⟩
 case round =>
  obtain ⟨k, x, hk, rfl, rfl⟩ := hrel
  by_cases hlt : k < len
  ·have e1 : (0 : Int) ≤ (k : Int) := by omega
   have e2 : (k : Int) < (len : Int) := by omega
   obtain ⟨b, off, z, rfl, hb, z0, z1, hz⟩ := hcode k hlt
   by_cases h4 : (k : Int) < 4000
   ·go_wp2
    go_round
    case rel => exact ⟨k + 1, _, by omega, by go_num, rfl⟩
    case measure => simp [intOf]; omega
   ·have h4' : decide ((k : Int) < 4000) = false := by simpa using h4
    go_wp2
    go_ret
    exact ⟨_, rfl, st_new _ _⟩
  ·have hf : decide ((k : Int) < (len : Int)) = false := by simp; omega
   go_wp2
   go_ret
   exact ⟨_, rfl, st_new _ _⟩
end Go.Proofs.YthbcefopbmkppaaGreat.C1
namespace Go.Proofs.YthbcefopbmkppaaGreat.C1
open Go.ChangeShapes Go.WideShapes Go.ChangeAt Go.RowKit C0
theorem grown_new {w W1 W2 : World} {c g : Nat} (h : w.grownBy W1 (some c)) (h' : W1.grownBy W2 (some g)) (hg : w.heap.size ≤ g) : w.grownBy W2 (some c) :=
 ⟨h'.os.trans h.os, h'.tape.trans h.tape, h'.output.trans h.output, Nat.le_trans h.size h'.size, fun k hk hr => by
  rw [h'.block k (Nat.lt_of_lt_of_le hk h.size) (fun e => by have := Option.some.inj e; omega)]
  exact h.block k hk hr⟩
theorem grown_of_below {w W : World} {c : Nat} (h : Below w.heap.size w W) : w.grownBy W (some c) := ⟨h.os, h.tape, h.output, h.size, fun k hk _ => h.block k hk⟩
set_option maxHeartbeats 2000000 in
theorem bytes_grown {w0 w : World} {c : Nat} {a : Option Addr} {len cap : Nat} (hcode : Given w0 a len) (h : St w0 w c a len cap) (hlen : len ≤ 1048576) (n : Nat) (h1 : n ≤ 1048576) :
  Calls Tryz.prog 57 #[.pointer (some ⟨c, 0, none⟩), .int .i64 (n : Int)] w fun e w' => (∃ s : ByteArray, s.size = n ∧ e = .returned (.string s)) ∧ St w0 w' c a len cap ∧ w.grownBy w' (some c) := by
 obtain ⟨i0, hi, hz0, hz1, hz2⟩ := info_parts info8
 have hcl := h.cur.lt
 have hn0 := h.new
 go_enter Tryz.func57, Tryz.ntmps57
 go_wp2
 go_loopw [5, 6] (fun v i w' => ∃ (k : Nat) (l : List UInt8) (g cp : Nat), k ≤ n ∧ l.length = k ∧ i = .int .i64 k ∧ v = .slice (some ⟨g, 0, none⟩) k cp ∧ w.heap.size ≤ w'.heap.size ∧ w'.ownsRow w.heap.size 5 1 (.slice (some ⟨g, 0, none⟩) k cp) k (bcells l) ∧ St w0 w' c a len cap ∧ w.grownBy w' (some c)) (fun _ i _ => n - (intOf i).toNat)
 case atStart => exact ⟨0, [], _, _, Nat.zero_le _, rfl, rfl, rfl, by simp, World.ownsRow_made w #[] 0 (Nat.le_refl _) (Nat.zero_le _) rfl, h.below ((Below.refl _ _).alloc (Nat.le_refl _) _), grown_of_below ((Below.refl _ _).alloc (Nat.le_refl _) _)⟩
 case round =>
  obtain ⟨k, l, g, cp, hk, hl, rfl, rfl, hB, hown, hst, hgr⟩ := hrel
  have hg : w.heap.size ≤ g := (hown.lt g rfl).1
  by_cases hlt : k < n
  ·have hlt' : (k : Int) < (n : Int) := by omega
   go_wp2_with (first
    | (go_at_call 44; refine (below_any hcode hst hlen 256 (by omega) (by omega)).mono ?_; rintro e w1 ⟨⟨x, x0, x1, rfl⟩, s1, g1⟩; have hown1 := hown.kept g1 (Or.inr (by simp [Value.ownBlock]; omega)); have hB1 := Nat.le_trans hB g1.size)
    | (at_builtin; refine wpList_append_lies _ rfl (.tmp 13) (.tmp 17) 22 rfl w.heap.size 5 i0 (.int .u8 0) 1 1 Tryz.underlying22 hi hz0 hz1 hz2 rfl (by omega) _ _ _ (by rfl) (hown1.alloc _) ⟨w1.heap.size, 0, none⟩ 1 1 [.int .u8 x] (by rfl) rfl (World.news_of_block (heap_alloc_new w1 _)) (one_byte _) (by omega) (by unfold maxLen; omega) (by omega) (by simp; omega) _ rfl ?_; intro g2 cap2 w2 hown2 hgrow hat hlt2))
   go_roundw
   case rel =>
    refine ⟨k + 1, l ++ [UInt8.ofNat x.toNat], g2, cap2, by omega, by simp [hl], by go_num, rfl, ?_, ?_, ?_, ?_⟩
    ·exact Nat.le_trans (by simp; omega) hgrow.size
    ·have e : bcells (l ++ [UInt8.ofNat x.toNat]) = bcells l ++ [.int .u8 x] := by
      have : x.toNat < 256 := by omega
      simp [Nat.mod_eq_of_lt this]
      omega
     rw [e]
     exact hown2
    ·exact (s1.below ((Below.refl _ _).alloc (Nat.le_refl _) _)).grown (g := g) hgrow (by omega) (by omega)
    ·exact grown_new (grown_below (grown_trans hgr g1) ((Below.refl _ _).alloc (Nat.le_refl _) _)) hgrow hg
   case measure => simp [intOf]; omega
  ·obtain rfl : k = n := by omega
   have hcv := B0.conv_back (P := Tryz.prog) wr 22 9 5 g 0 cp l Tryz.underlying22 Tryz.underlying5 Tryz.underlying9 (holds_of_owns hown) k hl.symm
   go_wp2
   go_ret
   exact ⟨⟨⟨l.toArray⟩, by show l.toArray.size = _; simp [hl], rfl⟩, hst, hgr⟩
theorem st_other {w0 w : World} {c : Nat} {a : Option Addr} {len cap : Nat} (h : St w0 w c a len cap) {B j : Nat} (hne : B ≠ c) (hB : w0.heap.size ≤ B) (v : Value) : St w0 (w.setCell ⟨B, j, none⟩ v) c a len cap :=
 ⟨h.bel.setCell (p := ⟨B, j, none⟩) hB _, h.new, h.cur.of_block (by simpa using h.cur.lt) (Below.heap_setCell _ _ _ _ (Ne.symm hne))⟩
theorem blk_grown {B g : Nat} {vs : List Value} {w w' : World} (h : K0.Blk B vs w) (hg : w.grownBy w' (some g)) (hne : B ≠ g) : K0.Blk B vs w' := by
 have hb : w'.heap[B]? = w.heap[B]? := hg.block B h.lt (fun e => hne (Option.some.inj e))
 refine ⟨fun j hj => ?_, fun j hj => ?_, Nat.lt_of_lt_of_le h.lt hg.size⟩
 ·rw [World.cell?_of_block (a := ⟨B, j, none⟩) hb]
  exact h.cell j hj
 ·rw [World.frozen?_of_block (a := ⟨B, j, none⟩) hb]
  exact h.free j hj
theorem bytes_int {w0 w : World} {c : Nat} {a : Option Addr} {len cap : Nat} (hcode : Given w0 a len) (h : St w0 w c a len cap) (hlen : len ≤ 1048576) (n : Int) (h0 : 0 ≤ n) (h1 : n ≤ 1048576) :
  Calls Tryz.prog 57 #[.pointer (some ⟨c, 0, none⟩), .int .i64 n] w fun e w' => (∃ s : ByteArray, (s.size : Int) = n ∧ e = .returned (.string s)) ∧ St w0 w' c a len cap ∧ w.grownBy w' (some c) := by
 obtain ⟨m, rfl⟩ : ∃ m : Nat, n = (m : Int) := ⟨n.toNat, by omega⟩
 exact (bytes_grown hcode h hlen m (by omega)).mono fun e w' ⟨⟨s, hs, he⟩, h2⟩ => ⟨⟨s, by omega, he⟩, h2⟩
theorem wf_of (n : Int) (h0 : -9223372036854775808 ≤ n) (h1 : n ≤ 9223372036854775807) : (Lit.int .i64 n).wf = true := by
 simp [Lit.wf, IntKind.min, IntKind.max, IntKind.signed, IntKind.bits]
 omega
theorem wrap_of (n : Int) (h0 : -9223372036854775808 ≤ n) (h1 : n ≤ 9223372036854775807) : IntKind.i64.wrap n = n := by rw [IntKind.wrap_i64]; omega
theorem grown_setNew {w W : World} {c B j : Nat} {v : Value} (h : w.grownBy W (some c)) (hB : w.heap.size ≤ B) : w.grownBy (W.setCell ⟨B, j, none⟩ v) (some c) :=
 grown_new h (grown_set (grown_refl _ _) v) hB
theorem isInt {z : Int} (h0 : -9223372036854775808 ≤ z) (h1 : z ≤ 9223372036854775807) : IsInt (.int .i64 z) := ⟨z, wf_of z h0 h1, rfl⟩
theorem of_all {C : Array Value} {Q : Value → Prop} (h : ∀ v ∈ C.toList, Q v) : ∀ j (hj : j < C.size), Q C[j] := fun j hj => h _ (by simp)
def IsTxt (v : Value) : Prop := ∃ s : ByteArray, s.size ≤ 100 ∧ v = .string s
variable {a : Option Addr} {len cap : Nat}
theorem pickTxt {w0 w : World} {c l n cp : Nat} (hcode : Given w0 a len) (h : St w0 w c a len cap) (hlen : len ≤ 1048576) (hof : Of w l n IsTxt) (hne : l ≠ c) (h0 : 0 < n) (h1 : n ≤ 100) :
  Calls Tryz.prog 61 #[.pointer (some ⟨c, 0, none⟩), .slice (some ⟨l, 0, none⟩) n cp] w fun e w' => (∃ s : ByteArray, s.size ≤ 100 ∧ e = .returned (.string s)) ∧ St w0 w' c a len cap ∧ w.grownBy w' (some c) := by
 go_enter Tryz.func61, Tryz.ntmps61
 go_wp2_with (go_at_call 44; refine (below_any hcode h hlen (n : Int) (by omega) (by omega)).mono ?_; rintro e w1 ⟨⟨x, x0, x1, rfl⟩, s1, g1⟩; obtain ⟨j, rfl⟩ : ∃ j : Nat, x = (j : Int) := ⟨x.toNat, by omega⟩; obtain ⟨v, ⟨z, wz, rfl⟩, hc⟩ := (hof.grown g1 hne).cell j (by omega))
 go_ret
 exact ⟨⟨z, wz, rfl⟩, s1, g1⟩
theorem pickTxtNew {w0 W : World} {c : Nat} {C : Array Value} {cp : Nat} {T : TypeId} (hcode : Given w0 a len) (h : St w0 W c a len cap) (hlen : len ≤ 1048576) (hC : ∀ v ∈ C.toList, IsTxt v) (h0 : 0 < C.size) (h1 : C.size ≤ 100) :
  Calls Tryz.prog 61 #[.pointer (some ⟨c, 0, none⟩), .slice (some ⟨W.heap.size, 0, none⟩) C.size cp] (W.alloc (.cells C T)) fun e w' => (∃ s : ByteArray, s.size ≤ 100 ∧ e = .returned (.string s)) ∧ St w0 w' c a len cap ∧ (W.alloc (.cells C T)).grownBy w' (some c) :=
 pickTxt hcode (h.below (K0.below_new _ _)) hlen (Of.new W C T IsTxt (of_all hC)) (by have := h.cur.lt; omega) h0 h1
theorem pickNew {w0 W : World} {c : Nat} {C : Array Value} {cp : Nat} (hcode : Given w0 a len) (h : St w0 W c a len cap) (hlen : len ≤ 1048576) (hC : ∀ v ∈ C.toList, IsInt v) (h0 : 0 < C.size) (h1 : C.size ≤ 100) :
  Calls Tryz.prog 23 #[.pointer (some ⟨c, 0, none⟩), .slice (some ⟨W.heap.size, 0, none⟩) C.size cp] (W.alloc (.cells C 3)) fun e w' => (∃ z : Int, (Lit.int .i64 z).wf = true ∧ e = .returned (.int .i64 z)) ∧ St w0 w' c a len cap ∧ (W.alloc (.cells C 3)).grownBy w' (some c) :=
 pickInt_any hcode (h.below (K0.below_new _ _)) hlen (Of.new W C 3 IsInt (of_all hC)) (by have := h.cur.lt; omega) h0 h1
def shortV (v : Value) : Bool := match v with | .string s => decide (s.data.toList.length ≤ 100) | _ => false
theorem short_txt {v : Value} (h : shortV v = true) : IsTxt v := by
 cases v <;> simp [shortV] at h
 exact ⟨_, by show _ ≤ 100; rw [Lib.size_eq]; exact h, rfl⟩
theorem all_short {l : List Value} (h : l.all shortV = true) : ∀ v ∈ l, IsTxt v := fun v hv => short_txt (List.all_eq_true.1 h v hv)
end Go.Proofs.YthbcefopbmkppaaGreat.C1
