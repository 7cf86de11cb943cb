/- Joined texts: plain facts and contracts. -/
import Derived.Test.YthbcefopbmkppaaGreatJlB
import Derived.Test.YthbcefopbmkppaaGreatJlC
import Derived.Test.YthbcefopbmkppaaGreatJlA
import Derived.Test.YthbcefopbmkppaaGreatRows
import Derived.Lib.AppendStr
import Derived.Deep.AppendLies
import Derived.ProofKit
import Derived.Deep.RegionWith
import Derived.Lib.SmallJoins
import Derived.OpenShut
import Derived.ShutString
import Derived.Laws.MakeOwn
set_option linter.unusedVariables false
set_option linter.unusedSimpArgs false
set_option maxRecDepth 10000
namespace Go.Proofs.YthbcefopbmkppaaGreat.G0
open Go
def cnt (s : ByteArray) : Nat := min (P0.need (B6.pairAt s 2)).toNat 12
def pgs (s : ByteArray) (k : Nat) : List Int := (List.range k).map fun (j : Nat) => B1.byteAt s (4 + (j : Int))
theorem pgs_length (s : ByteArray) (k : Nat) : (pgs s k).length = k := by simp [pgs]
theorem pgs_succ (s : ByteArray) (k : Nat) : pgs s k ++ [B1.byteAt s (4 + (k : Int))] = pgs s (k + 1) := by simp [pgs, List.range_succ]
def txt (s : ByteArray) : ByteArray := R0.putI (B1.byteAt s 0) (B1.byteAt s 1) (B6.pairAt s 2) (pgs s (cnt s))
def isI (s : ByteArray) : Bool := decide (s.size = 16) && ((txt s).toList == s.toList)
def gK (s : ByteArray) : Int := if isI s then B1.byteAt s 0 else 0
def gO (s : ByteArray) : Int := if isI s then B1.byteAt s 1 else 0
def gS (s : ByteArray) : Int := if isI s then B6.pairAt s 2 else 0
def gZ (s : ByteArray) : List Int := if isI s then pgs s (cnt s) else []
theorem pairAt_lt (s : ByteArray) (i : Int) : 0 ≤ B6.pairAt s i ∧ B6.pairAt s i ≤ 65535 := by
 unfold B6.pairAt
 split
 ·rename_i h
  have h1 := (s[i.toNat]'(by omega)).toNat_lt
  have h2 := (s[(i + 1).toNat]'(by omega)).toNat_lt
  omega
 ·omega
theorem need_nonneg {x : Int} (h : 0 ≤ x) : 0 ≤ P0.need x := by unfold P0.need; omega
theorem cnt_le (s : ByteArray) : cnt s ≤ 12 := Nat.min_le_right _ _
theorem cnt_lt (s : ByteArray) (k : Nat) : k < cnt s ↔ (k : Int) < P0.need (B6.pairAt s 2) ∧ k < 12 := by
 have := need_nonneg (pairAt_lt s 2).1
 unfold cnt
 omega
theorem isI_ok {s : ByteArray} (h : isI s = true) : s.size = 16 ∧ (txt s).toList = s.toList ∧ I0.ok (B1.byteAt s 0) (B1.byteAt s 1) (B6.pairAt s 2) (pgs s (cnt s)) = true := by
 simp only [isI, Bool.and_eq_true, decide_eq_true_eq, beq_iff_eq] at h
 refine ⟨h.1, h.2, ?_⟩
 cases hok : I0.ok (B1.byteAt s 0) (B1.byteAt s 1) (B6.pairAt s 2) (pgs s (cnt s)) with
 | true => rfl
 | false =>
  have h2 := h.2
  rw [txt, R0.putI, hok, if_neg (by decide)] at h2
  have h3 := congrArg List.length h2
  rw [Lib.toList_data, Lib.toList_data, ← Lib.size_eq, ← Lib.size_eq] at h3
  rw [h.1] at h3
  exact absurd h3 (by decide)
theorem isI_of {s : ByteArray} (h16 : s.size = 16) (h : ((txt s).toList == s.toList) = true) : isI s = true := by rw [isI, decide_eq_true h16, h]; rfl
theorem isI_not {s : ByteArray} (h : ((txt s).toList == s.toList) = false) : isI s = false := by rw [isI, h, Bool.and_false]
theorem isI_no {s : ByteArray} (h : ¬ s.size = 16) : isI s = false := by rw [isI, decide_eq_false h, Bool.false_and]
theorem isI_bad {s : ByteArray} (h : I0.ok (B1.byteAt s 0) (B1.byteAt s 1) (B6.pairAt s 2) (pgs s (cnt s)) = false) : isI s = false := by
 cases hi : isI s with
 | false => rfl
 | true => rw [(isI_ok hi).2.2] at h; cases h
theorem g_no {s : ByteArray} (h : isI s = false) : gK s = 0 ∧ gO s = 0 ∧ gS s = 0 ∧ gZ s = [] := by simp [gK, gO, gS, gZ, h]
theorem g_yes {s : ByteArray} (h : isI s = true) : gK s = B1.byteAt s 0 ∧ gO s = B1.byteAt s 1 ∧ gS s = B6.pairAt s 2 ∧ gZ s = pgs s (cnt s) := by simp [gK, gO, gS, gZ, h]
end Go.Proofs.YthbcefopbmkppaaGreat.G0
namespace Go.Proofs.YthbcefopbmkppaaGreat.L1
open Go.ChangeShapes Go.WideShapes Go.ChangeAt Go.RowKit
def recAt (i : Int) : Int := if B1.inB i 0 7 then 32 + i * 16 else -1
theorem spec_RecAt (i : Int) (w : World) :
  Calls Tryz.prog 25 #[.int .i64 i] w fun e w' => e = .returned (.int .i64 (recAt i)) ∧ w' = w := by
 by_cases h : B1.inB i 0 7 = true
 ·have e : recAt i = 32 + i * 16 := by rw [recAt, if_pos h]
  obtain ⟨h1, h2⟩ := B1.inB_true h
  rw [e]
  go_enter Tryz.func25, Tryz.ntmps25
  go_wp2_with (go_at_call 31; refine (B1.l01In_any _ _ _ _).mono ?_; rintro e w' ⟨rfl, rfl⟩)
  go_ret
  exact ⟨rfl, rfl⟩
 ·have h' : B1.inB i 0 7 = false := by simpa using h
  have e : recAt i = -1 := by rw [recAt, if_neg h]
  rw [e]
  go_enter Tryz.func25, Tryz.ntmps25
  go_wp2_with (go_at_call 31; refine (B1.l01In_any _ _ _ _).mono ?_; rintro e w' ⟨rfl, rfl⟩)
  go_ret
  exact ⟨rfl, rfl⟩
theorem impl_RecAt (i : Int) (w : World) :
  Calls Tryz.prog 17 #[.int .i64 i] w fun e w' => e = .returned (.int .i64 (recAt i)) ∧ w' = w := by
 by_cases h1 : i < 0
 ·have e : recAt i = -1 := by rw [recAt, show B1.inB i 0 7 = false from decide_eq_false (by omega)]; rfl
  rw [e]
  go_enter Tryz.func17, Tryz.ntmps17
  go_wp2
  go_ret
  exact ⟨rfl, rfl⟩
 ·by_cases h2 : 8 ≤ i
  ·have e : recAt i = -1 := by rw [recAt, show B1.inB i 0 7 = false from decide_eq_false (by omega)]; rfl
   rw [e]
   go_enter Tryz.func17, Tryz.ntmps17
   go_wp2
   go_ret
   exact ⟨rfl, rfl⟩
  ·have e : recAt i = 32 + i * 16 := by rw [recAt, show B1.inB i 0 7 = true from decide_eq_true (by omega)]; rfl
   rw [e]
   go_enter Tryz.func17, Tryz.ntmps17
   go_wp2
   go_ret
   exact ⟨rfl, rfl⟩
end Go.Proofs.YthbcefopbmkppaaGreat.L1
namespace Go.Proofs.YthbcefopbmkppaaGreat.O0
open Go
def recd (mem : ByteArray) (i : Int) : ByteArray := B2.part mem (L1.recAt i) 16
def joined (mem : ByteArray) (zs : List Int) : Nat → ByteArray
 | 0 => ⟨#[]⟩
 | k + 1 => joined mem zs k ++ B2.part mem (zs.getD k 0 * 32) 32
theorem page_size {mem : ByteArray} (hm : mem.size = 768) {z : Int} (h0 : 5 ≤ z) (h1 : z ≤ 23) : (B2.part mem (z * 32) 32).size = 32 := by
 rw [B2.part, show B2.lies mem.size (z * 32) 32 = true from decide_eq_true (by omega), if_pos rfl, ByteArray.size_extract]
 omega
theorem joined_size {mem : ByteArray} (hm : mem.size = 768) {zs : List Int} (hp : P0.pagesOk zs = true) : ∀ k, k ≤ zs.length → (joined mem zs k).size = 32 * k
 | 0, _ => rfl
 | k + 1, h => by
  have hz := R0.pages_bounds hp (k := k) (by omega)
  rw [joined, ByteArray.size_append, joined_size hm hp k (by omega), page_size hm hz.1 hz.2]
  omega
def isL (mem : ByteArray) (i : Int) : Bool := decide (mem.size = 768) && (G0.isI (recd mem i) && !decide (B1.byteAt (recd mem i) 0 = 0))
def lK (mem : ByteArray) (i : Int) : Int := if isL mem i then G0.gK (recd mem i) else 0
def lO (mem : ByteArray) (i : Int) : Int := if isL mem i then G0.gO (recd mem i) else 0
def lS (mem : ByteArray) (i : Int) : Int := if isL mem i then G0.gS (recd mem i) else 0
def lZ (mem : ByteArray) (i : Int) : List Int := if isL mem i then G0.gZ (recd mem i) else []
def lD (mem : ByteArray) (i : Int) : ByteArray := if isL mem i then (joined mem (G0.gZ (recd mem i)) (G0.gZ (recd mem i)).length).extract 0 (G0.gS (recd mem i)).toNat else ⟨#[]⟩
theorem l_no {mem : ByteArray} {i : Int} (h : isL mem i = false) : lK mem i = 0 ∧ lO mem i = 0 ∧ lS mem i = 0 ∧ lZ mem i = [] ∧ lD mem i = ⟨#[]⟩ := by simp [lK, lO, lS, lZ, lD, h]
theorem l_yes {mem : ByteArray} {i : Int} (h : isL mem i = true) : lK mem i = G0.gK (recd mem i) ∧ lO mem i = G0.gO (recd mem i) ∧ lS mem i = G0.gS (recd mem i) ∧ lZ mem i = G0.gZ (recd mem i) ∧ lD mem i = (joined mem (G0.gZ (recd mem i)) (G0.gZ (recd mem i)).length).extract 0 (G0.gS (recd mem i)).toNat := by simp [lK, lO, lS, lZ, lD, h]
theorem isL_of {mem : ByteArray} {i : Int} (h1 : mem.size = 768) (h2 : G0.isI (recd mem i) = true) (h3 : ¬ B1.byteAt (recd mem i) 0 = 0) : isL mem i = true := by rw [isL, decide_eq_true h1, h2, decide_eq_false h3]; rfl
theorem recd_size (mem : ByteArray) (i : Int) (h : mem.size ≤ 281474976710656) : (recd mem i).size ≤ 281474976710656 := by
 have := B2.part_size mem (L1.recAt i) 16
 unfold recd
 omega
theorem got {s : ByteArray} (h : G0.isI s = true) : (0 ≤ G0.gS s ∧ G0.gS s ≤ 192) ∧ (G0.gZ s).length ≤ 6 ∧ G0.gS s ≤ 32 * ((G0.gZ s).length : Int) ∧ P0.pagesOk (G0.gZ s) = true ∧ (0 ≤ G0.gK s ∧ G0.gK s ≤ 2) := by
 have hb := R0.ok_bounds (G0.isI_ok h).2.2
 obtain ⟨e1, e2, e3, e4⟩ := G0.g_yes h
 rw [e1, e3, e4]
 refine ⟨hb.2.2.1, hb.2.2.2.1, ?_, hb.2.2.2.2.2, hb.1⟩
 rw [hb.2.2.2.2.1]
 unfold P0.need
 omega
end Go.Proofs.YthbcefopbmkppaaGreat.O0
namespace Go.Proofs.YthbcefopbmkppaaGreat.F0
open Go.ChangeShapes Go.WideShapes Go.ChangeAt Go.RowKit
def Buf (base : Nat) (w : World) (g n cap : Nat) (t : ByteArray) : Prop := n = t.size ∧ w.ownsRow base 5 1 (.slice (some ⟨g, 0, none⟩) n cap) n (Lib.strCells t)
theorem info5 : (Tryz.prog.info? 5).map (fun i => (i.zero, i.size, i.bytes)) = some (some (.int .u8 0), 1, 1) := by kernel_rfl
variable {base g n cap : Nat} {w W : World} {t : ByteArray}
theorem owns_below {e : TypeId} {size : Nat} {v : Value} {xs : List Value} (h : w.ownsRow base e size v n xs) (hb : Below w.heap.size w W) : W.ownsRow base e size v n xs := by
 refine ⟨h.1, ?_⟩
 rcases h.2 with h0 | ⟨g, cap, cur, hv, hg, hc, r⟩
 ·exact Or.inl h0
 ·refine Or.inr ⟨g, cap, cur, hv, hg, ?_, r⟩
  rw [hb.block g (Array.getElem?_eq_some_iff.1 hc).1]
  exact hc
theorem below_grown {B : Nat} {w W W' : World} {row : Option Nat} (h : Below B w W) (hg : W.grownBy W' row) (hr : ∀ g, row = some g → B ≤ g) (hB : B ≤ W.heap.size) : Below B w W' :=
 ⟨hg.os.trans h.os, hg.tape.trans h.tape, hg.output.trans h.output, Nat.le_trans h.size hg.size, fun k hk => by
  rw [hg.block k (by omega) (fun e => by have := hr k e.symm; omega)]
  exact h.block k hk⟩
theorem Buf.below (h : Buf base w g n cap t) (hb : Below w.heap.size w W) : Buf base W g n cap t := ⟨h.1, owns_below h.2 hb⟩
theorem Buf.alloc (h : Buf base w g n cap t) (o : Obj) : Buf base (w.alloc o) g n cap t := h.below ((Below.refl _ _).alloc (Nat.le_refl _) o)
theorem Buf.drew (h : Buf base w g n cap t) : Buf base w.drew g n cap t := h
theorem Buf.drewN (h : Buf base w g n cap t) (m : Nat) : Buf base (w.drewN m) g n cap t := h
theorem Buf.lt (h : Buf base w g n cap t) : base ≤ g ∧ g < w.heap.size := h.2.lt g rfl
theorem Buf.holds (h : Buf base w g n cap t) : B0.Holds w g 0 t.data.toList := by
 intro j hj
 have hj' : j < t.size := by rw [Lib.size_eq]; exact hj
 have := h.2.cells (g := g) rfl j (.int .u8 (t.data.toList[j].toNat : Int)) (by
  have hj2 : j < t.data.size := by simpa using hj
  simp [Lib.strCells]
  exact ⟨_, Array.getElem?_eq_getElem hj2, rfl⟩)
 rw [B0.add_off] at this
 exact this
theorem Buf.conv (h : Buf base w g n cap t) : (convert 22 9 (.slice (some ⟨g, 0, none⟩) n cap)).run Tryz.prog w = .ok (.string t) w := by
 have := B0.conv_back (P := Tryz.prog) w 22 9 5 g 0 cap t.data.toList Tryz.underlying22 Tryz.underlying5 Tryz.underlying9 h.holds n (by rw [h.1, Lib.size_eq])
 rwa [Lib.mk_data] at this
theorem buf_two (w : World) (x y : Int) (hx : 0 ≤ x ∧ x < 256) (hy : 0 ≤ y ∧ y < 256) (hb : base ≤ w.heap.size) :
  Buf base (w.alloc (.cells #[.int .u8 x, .int .u8 y] 5)) w.heap.size 2 2 ⟨#[UInt8.ofNat x.toNat, UInt8.ofNat y.toNat]⟩ := by
 have e1 : x.toNat < 256 := by omega
 have e2 : y.toNat < 256 := by omega
 refine ⟨rfl, by simp [Lib.strCells], Or.inr ⟨w.heap.size, 2, #[.int .u8 x, .int .u8 y], rfl, hb, heap_alloc_new w _, Nat.le_refl _, by unfold maxLen; omega, rfl, ?_⟩⟩
 simp [Lib.strCells, Nat.mod_eq_of_lt e1, Nat.mod_eq_of_lt e2]
 omega
theorem Buf.at (h : Buf base w g n cap t) {g' : Nat} (e : g = g') : Buf base w g' n cap t := e ▸ h
theorem cells_append (t s : ByteArray) : Lib.strCells t ++ Lib.strCells s = Lib.strCells (t ++ s) := by simp [Lib.strCells, ByteArray.data_append]
theorem append_text {ops : Array Oper} {rest : List Oper} {o : Oper} {a : Act} {Q : Exit → Act → World → Prop} (hgd : o.guard = none) (sl x : Operand)
  (ho : o.op = .call { callee := .builtin .append, args := #[sl, x], argTypes := #[22, 9] })
  (hbuf : Buf base w g n cap t) (s : ByteArray) (hs : a.eval sl = .slice (some ⟨g, 0, none⟩) n cap) (hx : a.eval x = .string s) (hlen : n + s.size ≤ 140737488355328) (hb : base ≤ w.heap.size)
  (h : ∀ g' cap' w', Buf base w' g' (n + s.size) cap' (t ++ s) → Below base w w' → wpList Tryz.prog ops Q rest (a.put o.dst (.slice (some ⟨g', 0, none⟩) (n + s.size) cap')) w') : wpList Tryz.prog ops Q (o :: rest) a w := by
 obtain ⟨i0, hi, hz0, hz1, hz2⟩ := info_parts info5
 refine Lib.wpList_append_own_string w hgd sl x 22 9 ho base 5 i0 Tryz.underlying22 Tryz.underlying9 hi hz0 hz1 hz2 _ n _ hs hbuf.2 s hx (by unfold maxLen; omega) hlen hb ?_
 intro v' w' ho' hg' hnil
 rcases ho'.2 with ⟨h0, _⟩ | ⟨g', cap', cur, hv, r⟩
 ·exact absurd ((hnil.1 h0).1) (by simp)
 ·subst hv
  refine h g' cap' w' ⟨by rw [hbuf.1, ByteArray.size_append], ?_⟩ ?_
  ·rw [← cells_append]
   exact ho'
  ·exact below_grown (Below.refl _ _) hg' (fun k hk => by
    have hk' : g = k := by simpa [Value.ownBlock] using hk
    exact hk' ▸ hbuf.lt.1) hb
theorem one_byte (c : Int) : ∀ u ∈ [Value.int .u8 c], u.oneCell' = true := by
 intro u h
 simp at h
 subst h
 rfl
theorem append_byte {ops : Array Oper} {rest : List Oper} {o : Oper} {a : Act} {Q : Exit → Act → World → Prop} (hgd : o.guard = none) (sl x : Operand)
  (ho : o.op = .call { callee := .builtin .append, args := #[sl, x], argTypes := #[22, 22] })
  (hbuf : Buf base w g n cap t) (c : Int) (hc : 0 ≤ c ∧ c < 256) (hs : a.eval sl = .slice (some ⟨g, 0, none⟩) n cap) (hx : a.eval x = .slice (some ⟨w.heap.size, 0, none⟩) 1 1) (hlen : n + 1 ≤ 140737488355328) (hb : base ≤ w.heap.size)
  (h : ∀ g' cap' w', Buf base w' g' (n + 1) cap' (t ++ ⟨#[UInt8.ofNat c.toNat]⟩) → Below base w w' → wpList Tryz.prog ops Q rest (a.put o.dst (.slice (some ⟨g', 0, none⟩) (n + 1) cap')) w') : wpList Tryz.prog ops Q (o :: rest) a (w.alloc (.cells #[.int .u8 c] 5)) := by
 obtain ⟨i0, hi, hz0, hz1, hz2⟩ := info_parts info5
 have hb2 := hbuf.alloc (.cells #[.int .u8 c] 5)
 refine wpList_append_lies _ hgd sl x 22 ho base 5 i0 (.int .u8 0) 1 1 Tryz.underlying22 hi hz0 hz1 hz2 rfl (by omega) _ n _ hs hb2.2 ⟨w.heap.size, 0, none⟩ 1 1 [.int .u8 c] hx rfl (World.news_of_block (heap_alloc_new w _)) (one_byte c) (by omega) (by unfold maxLen; omega) (by omega) (by simp; omega) _ rfl ?_
 intro g' cap' w' ho' hg' _ _
 have e1 : c.toNat < 256 := by omega
 refine h g' cap' w' ⟨by rw [hbuf.1, ByteArray.size_append]; rfl, ?_⟩ ?_
 ·rw [← cells_append]
  have e : Lib.strCells ⟨#[UInt8.ofNat c.toNat]⟩ = [.int .u8 c] := by
   simp [Lib.strCells, Nat.mod_eq_of_lt e1]
   omega
  rw [e]
  exact ho'
 ·exact below_grown ((Below.refl _ _).alloc hb _) hg' (fun k hk => by
   have hk' : g = k := by simpa [Value.ownBlock] using hk
   exact hk' ▸ hbuf.lt.1) (by simp; omega)
end Go.Proofs.YthbcefopbmkppaaGreat.F0
namespace Go.Proofs.YthbcefopbmkppaaGreat.I1
open Go.ChangeShapes Go.WideShapes Go.ChangeAt Go.RowKit
open P1 (ret_bool quiet_bool)
open I0 (val vals)
def rec (k : Int) (v : Value) : Value := if k = 0 then .iface 128 v else if k = 1 then .iface 123 v else if k = 2 then .iface 125 v else .nilIface
set_option maxHeartbeats 1000000 in
theorem recordOf0 (o s : Int) (a : Option Addr) (c : Nat) (zs : List Int) (w : World) (hbig : zs.length ≤ 281474976710656) (hcap : zs.length ≤ c) (hR : P0.Row w a zs) :
  Calls Tryz.prog 88 #[val 0 o s a zs.length c] w fun e w' => e = .returned (.tuple #[.iface 128 (val 0 o s a zs.length c), .bool (I0.free o s zs)]) ∧ Below w.heap.size w w' := by
 have hB := K0.below_new w (.cells #[.int .i64 0, .int .i64 o, .int .i64 s, .slice a zs.length c] 55)
 have hR' := hR.alloc (.cells #[.int .i64 0, .int .i64 o, .int .i64 s, .slice a zs.length c] 55)
 go_enter Tryz.func88, Tryz.ntmps88
 go_wp2_with (go_at_call 121; refine (I0.freeSound 0 o s a c zs.length zs _ rfl).mono ?_; rintro e w' ⟨rfl, hb⟩)
 go_ret2
 exact ⟨rfl, hB.trans (hb.mono hB.size)⟩
set_option maxHeartbeats 1000000 in
theorem recordOf1 (o s : Int) (a : Option Addr) (c : Nat) (zs : List Int) (w : World) (hbig : zs.length ≤ 281474976710656) (hcap : zs.length ≤ c) (hR : P0.Row w a zs) :
  Calls Tryz.prog 88 #[val 1 o s a zs.length c] w fun e w' => e = .returned (.tuple #[.iface 123 (val 1 o s a zs.length c), .bool (I0.holds o s zs)]) ∧ Below w.heap.size w w' := by
 have hB := K0.below_new w (.cells #[.int .i64 1, .int .i64 o, .int .i64 s, .slice a zs.length c] 55)
 have hR' := hR.alloc (.cells #[.int .i64 1, .int .i64 o, .int .i64 s, .slice a zs.length c] 55)
 go_enter Tryz.func88, Tryz.ntmps88
 go_wp2_with (go_at_call 117; refine (I0.fileSound 1 o s a c zs _ hbig hcap hR').mono ?_; rintro e w' ⟨rfl, hb⟩)
 go_ret2
 exact ⟨rfl, hB.trans (hb.mono hB.size)⟩
set_option maxHeartbeats 1000000 in
theorem recordOf2 (o s : Int) (a : Option Addr) (c : Nat) (zs : List Int) (w : World) (hbig : zs.length ≤ 281474976710656) (hcap : zs.length ≤ c) (hR : P0.Row w a zs) :
  Calls Tryz.prog 88 #[val 2 o s a zs.length c] w fun e w' => e = .returned (.tuple #[.iface 125 (val 2 o s a zs.length c), .bool (I0.holds o s zs && decide (s % 16 = 0))]) ∧ Below w.heap.size w w' := by
 have hB := K0.below_new w (.cells #[.int .i64 2, .int .i64 o, .int .i64 s, .slice a zs.length c] 55)
 have hR' := hR.alloc (.cells #[.int .i64 2, .int .i64 o, .int .i64 s, .slice a zs.length c] 55)
 go_enter Tryz.func88, Tryz.ntmps88
 go_wp2_with (go_at_call 120; refine (I0.dirSound 2 o s a c zs _ hbig hcap hR').mono ?_; rintro e w' ⟨rfl, hb⟩)
 go_ret2
 exact ⟨rfl, hB.trans (hb.mono hB.size)⟩
theorem recordOfN (k o s : Int) (a : Option Addr) (c n : Nat) (w : World) (h0 : k ≠ 0) (h1 : k ≠ 1) (h2 : k ≠ 2) :
  Calls Tryz.prog 88 #[val k o s a n c] w fun e w' => e = .returned (.tuple #[.nilIface, .bool false]) ∧ Below w.heap.size w w' := by
 have hB := K0.below_new w (.cells #[.int .i64 k, .int .i64 o, .int .i64 s, .slice a n c] 55)
 have g0 : (k == 0) = false := by simpa using h0
 have g1 : (k == 1) = false := by simpa using h1
 have g2 : (k == 2) = false := by simpa using h2
 go_enter Tryz.func88, Tryz.ntmps88
 go_wp2
 go_ret2
 exact ⟨rfl, hB⟩
theorem recordOf (k o s : Int) (a : Option Addr) (c : Nat) (zs : List Int) (w : World) (hbig : zs.length ≤ 281474976710656) (hcap : zs.length ≤ c) (hR : P0.Row w a zs) :
  Calls Tryz.prog 88 #[val k o s a zs.length c] w fun e w' => e = .returned (.tuple #[rec k (val k o s a zs.length c), .bool (I0.ok k o s zs)]) ∧ Below w.heap.size w w' := by
 by_cases h0 : k = 0
 ·subst h0
  exact recordOf0 o s a c zs w hbig hcap hR
 ·by_cases h1 : k = 1
  ·subst h1
   exact recordOf1 o s a c zs w hbig hcap hR
  ·by_cases h2 : k = 2
   ·subst h2
    exact recordOf2 o s a c zs w hbig hcap hR
   ·have e1 : rec k (val k o s a zs.length c) = .nilIface := by rw [rec, if_neg h0, if_neg h1, if_neg h2]
    have e2 : I0.ok k o s zs = false := by rw [I0.ok, if_neg h0, if_neg h1, if_neg h2]
    rw [e1, e2]
    exact recordOfN k o s a c zs.length w h0 h1 h2
theorem specFree (o s : Int) (a : Option Addr) (c n : Nat) (zs : List Int) (w : World) (hn : n = zs.length) :
  Calls Tryz.prog 72 #[val 0 o s a n c] w fun e w' => e = .returned (.bool (I0.free o s zs)) ∧ Below w.heap.size w w' := by
 have hB := K0.below_new w (.cells #[.int .i64 0, .int .i64 o, .int .i64 s, .slice a n c] 55)
 by_cases h1 : o = 0
 ·subst h1
  by_cases h2 : s = 0
  ·subst h2
   by_cases h3 : n = 0
   ·have HR : Hid (I0.free 0 0 zs = true) := by rw [I0.free, ← hn, h3]; rfl
    subst h3
    clear hn
    go_enter Tryz.func72, Tryz.ntmps72
    go_wp2
    go_ret
    exact ⟨ret_bool HR.out.symm, hB⟩
   ·have HR : Hid (I0.free 0 0 zs = false) := by rw [I0.free, ← hn, decide_eq_false h3]; rfl
    have h3' : ((n : Int) == 0) = false := by simp; omega
    clear hn
    go_enter Tryz.func72, Tryz.ntmps72
    go_wp2
    go_ret
    exact ⟨ret_bool HR.out.symm, hB⟩
  ·have HR : Hid (I0.free 0 s zs = false) := by rw [I0.free, decide_eq_false h2, Bool.false_and, Bool.and_false]; rfl
   have h2' : (s == 0) = false := by simpa using h2
   clear hn
   go_enter Tryz.func72, Tryz.ntmps72
   go_wp2
   go_ret
   exact ⟨ret_bool HR.out.symm, hB⟩
 ·have HR : Hid (I0.free o s zs = false) := by rw [I0.free, decide_eq_false h1, Bool.false_and]; rfl
  have h1' : (o == 0) = false := by simpa using h1
  clear hn
  go_enter Tryz.func72, Tryz.ntmps72
  go_wp2
  go_ret
  exact ⟨ret_bool HR.out.symm, hB⟩
set_option maxHeartbeats 2000000 in
theorem specHolds (k o s : Int) (a : Option Addr) (c : Nat) (zs : List Int) (w : World) (hbig : zs.length ≤ 281474976710656) (hcap : zs.length ≤ c) (hR : P0.Row w a zs) (h0 : k ≠ 0) :
    Calls Tryz.prog 72 #[val k o s a zs.length c] w fun e w' => e = .returned (.bool (I0.ok k o s zs)) ∧ Below w.heap.size w w' := by
  have hB := K0.below_new w (.cells #[.int .i64 k, .int .i64 o, .int .i64 s, .slice a zs.length c] 55)
  have hR' := hR.alloc (.cells #[.int .i64 k, .int .i64 o, .int .i64 s, .slice a zs.length c] 55)
  have hP : Hid (∀ m, Calls Tryz.prog 82 #[.slice a zs.length c] ((w.alloc (.cells #[.int .i64 k, .int .i64 o, .int .i64 s, .slice a zs.length c] 55)).drewN m) fun e w' => e = .returned (.bool (P0.pagesOk zs)) ∧ ∃ n, w' = ((w.alloc (.cells #[.int .i64 k, .int .i64 o, .int .i64 s, .slice a zs.length c] 55)).drewN m).drewN n) := fun m => P1.l03Pages a c zs _ hbig hcap (hR'.drewN m)
  clear hR hR'
  have z0 : (k == 0) = false := by simpa using h0
  by_cases hS : B1.inB s 0 192 = true
  · obtain ⟨hs1, hs2⟩ := B1.inB_true hS
    by_cases hd : k = 2 ∧ ¬ s % 16 = 0
    · obtain ⟨rfl, h16⟩ := hd
      have h16' : (s % 16 != 0) = true := by simpa using h16
      have HR : Hid (I0.ok 2 o s zs = false) := by
        show (I0.holds o s zs && decide (s % 16 = 0)) = false
        rw [decide_eq_false h16, Bool.and_false]
      clear h16
      go_enter Tryz.func72, Tryz.ntmps72
      go_wp2
      go_ret
      exact ⟨ret_bool HR.out.symm, hB⟩
    · have HK : Hid (B1.inB k 1 2 = true → I0.ok k o s zs = I0.holds o s zs) := fun h => by
        obtain ⟨k1, k2⟩ := B1.inB_true h
        by_cases e1 : k = 1
        · subst e1; rfl
        · have e2 : k = 2 := by omega
          have h16 : s % 16 = 0 := Decidable.byContradiction fun h => hd ⟨e2, h⟩
          subst e2
          show (I0.holds o s zs && decide (s % 16 = 0)) = I0.holds o s zs
          rw [decide_eq_true h16, Bool.and_true]
      have HN : Hid (B1.inB k 1 2 = false → I0.ok k o s zs = false) := fun h => by
        have := B1.inB_false h
        rw [I0.ok, if_neg h0, if_neg (by omega), if_neg (by omega)]
      have hg : (k == 2) = false ∨ ((k == 2) = true ∧ (s % 16 != 0) = false) := by
        by_cases e2 : k = 2
        · right
          refine ⟨by simpa using e2, ?_⟩
          have h16 : s % 16 = 0 := Decidable.byContradiction fun h => hd ⟨e2, h⟩
          simpa using h16
        · left
          simpa using e2
      have HH : Hid (I0.holds o s zs = (B1.inB o 0 9 && (decide ((zs.length : Int) = P0.need s) && P0.pagesOk zs))) := by rw [I0.holds, hS, Bool.true_and]; rfl
      clear hd h0
      by_cases g0 : B1.inB k 1 2 = true
      · by_cases g1 : B1.inB o 0 9 = true
        · by_cases g2 : (zs.length : Int) = P0.need s
          · have g2' : ((zs.length : Int) == P0.need s) = true := by simpa using g2
            have HR : Hid (I0.ok k o s zs = P0.pagesOk zs) := by rw [HK.out g0, HH.out, g1, decide_eq_true g2]; rfl
            clear g2
            rcases hg with hg | ⟨hg, hg2⟩
            all_goals
              go_enter Tryz.func72, Tryz.ntmps72
              go_wp2
              go_quiet ((first | (go_at_call 31; first | exact quiet_bool (B1.l01In_any _ _ _ _) g0 | exact quiet_bool (B1.l01In_any _ _ _ _) g1 | exact quiet_bool (B1.l01In_any _ _ _ _) hS) | (go_at_call 53; exact Calls.quiet_of_same (P1.l03Need _ _ (by omega) (by omega))) | (go_at_call 82; exact Calls.quiet_of (hP.out _))))
              go_wp2
              go_ret
              exact ⟨ret_bool HR.out.symm, I0.below_alloc_drew _ _ _⟩
          · have g2' : ((zs.length : Int) == P0.need s) = false := by simpa using g2
            have HR : Hid (I0.ok k o s zs = false) := by rw [HK.out g0, HH.out, decide_eq_false g2, Bool.false_and, Bool.and_false]; rfl
            clear g2
            rcases hg with hg | ⟨hg, hg2⟩
            all_goals
              go_enter Tryz.func72, Tryz.ntmps72
              go_wp2
              go_quiet ((first | (go_at_call 31; first | exact quiet_bool (B1.l01In_any _ _ _ _) g0 | exact quiet_bool (B1.l01In_any _ _ _ _) g1 | exact quiet_bool (B1.l01In_any _ _ _ _) hS) | (go_at_call 53; exact Calls.quiet_of_same (P1.l03Need _ _ (by omega) (by omega)))))
              go_wp2
              go_ret
              exact ⟨ret_bool HR.out.symm, I0.below_alloc_drew _ _ _⟩
        · have g1' : B1.inB o 0 9 = false := by simpa using g1
          have HR : Hid (I0.ok k o s zs = false) := by rw [HK.out g0, HH.out, g1', Bool.false_and]; rfl
          rcases hg with hg | ⟨hg, hg2⟩
          all_goals
            go_enter Tryz.func72, Tryz.ntmps72
            go_wp2
            go_quiet ((go_at_call 31; first | exact quiet_bool (B1.l01In_any _ _ _ _) g0 | exact quiet_bool (B1.l01In_any _ _ _ _) g1'))
            go_wp2
            go_ret
            exact ⟨ret_bool HR.out.symm, I0.below_alloc_drew _ _ _⟩
      · have g0' : B1.inB k 1 2 = false := by simpa using g0
        have HR : Hid (I0.ok k o s zs = false) := HN.out g0'
        rcases hg with hg | ⟨hg, hg2⟩
        all_goals
          go_enter Tryz.func72, Tryz.ntmps72
          go_wp2
          go_quiet ((go_at_call 31; exact quiet_bool (B1.l01In_any _ _ _ _) g0'))
          go_wp2
          go_ret
          exact ⟨ret_bool HR.out.symm, I0.below_alloc_drew _ _ _⟩
  · have hS' : B1.inB s 0 192 = false := by simpa using hS
    have HR : Hid (I0.ok k o s zs = false) := by
      show I0.ok k o s zs = false
      have hf : I0.holds o s zs = false := by rw [I0.holds, hS', Bool.false_and, Bool.and_false]
      rw [I0.ok, if_neg h0]
      split
      · exact hf
      · split
        · rw [hf]; rfl
        · rfl
    clear hS
    have hg : (k == 2) = false ∨ (k == 2) = true := by cases (k == 2) <;> simp
    by_cases g0 : B1.inB k 1 2 = true
    · by_cases g1 : B1.inB o 0 9 = true
      · rcases hg with hg | hg
        all_goals
          go_enter Tryz.func72, Tryz.ntmps72
          go_wp2
          all_goals first
            | (go_ret
               exact ⟨ret_bool HR.out.symm, hB⟩)
            | (go_quiet ((go_at_call 31; first | exact quiet_bool (B1.l01In_any _ _ _ _) g0 | exact quiet_bool (B1.l01In_any _ _ _ _) g1 | exact quiet_bool (B1.l01In_any _ _ _ _) hS'))
               go_wp2
               go_ret
               exact ⟨ret_bool HR.out.symm, I0.below_alloc_drew _ _ _⟩)
      · have g1' : B1.inB o 0 9 = false := by simpa using g1
        rcases hg with hg | hg
        all_goals
          go_enter Tryz.func72, Tryz.ntmps72
          go_wp2
          all_goals first
            | (go_ret
               exact ⟨ret_bool HR.out.symm, hB⟩)
            | (go_quiet ((go_at_call 31; first | exact quiet_bool (B1.l01In_any _ _ _ _) g0 | exact quiet_bool (B1.l01In_any _ _ _ _) g1'))
               go_wp2
               go_ret
               exact ⟨ret_bool HR.out.symm, I0.below_alloc_drew _ _ _⟩)
    · have g0' : B1.inB k 1 2 = false := by simpa using g0
      rcases hg with hg | hg
      all_goals
        go_enter Tryz.func72, Tryz.ntmps72
        go_wp2
        all_goals first
          | (go_ret
             exact ⟨ret_bool HR.out.symm, hB⟩)
          | (go_quiet ((go_at_call 31; exact quiet_bool (B1.l01In_any _ _ _ _) g0'))
             go_wp2
             go_ret
             exact ⟨ret_bool HR.out.symm, I0.below_alloc_drew _ _ _⟩)
theorem spec_InodeOk (k o s : Int) (a : Option Addr) (c : Nat) (zs : List Int) (w : World) (hbig : zs.length ≤ 281474976710656) (hcap : zs.length ≤ c) (hR : P0.Row w a zs) :
  Calls Tryz.prog 72 #[val k o s a zs.length c] w fun e w' => e = .returned (.bool (I0.ok k o s zs)) ∧ Below w.heap.size w w' := by
 by_cases h0 : k = 0
 ·subst h0
  exact specFree o s a c zs.length zs w rfl
 ·exact specHolds k o s a c zs w hbig hcap hR h0
end Go.Proofs.YthbcefopbmkppaaGreat.I1
namespace Go.Proofs.YthbcefopbmkppaaGreat.I2
open Go.ChangeShapes Go.WideShapes Go.ChangeAt Go.RowKit Go.Joins
open P1 (ret_bool quiet_bool)
open I0 (val vals)
section Args
variable {H : Type} {enc : TypeId × Value → H} {w : World}
end Args
abbrev ints (zs : List Int) : List Value := zs.map fun z => .int .i64 z
theorem row_of_blk {W : World} {g : Nat} {zs : List Int} (h : K0.Blk g (ints zs) W) : P0.Row W (some ⟨g, 0, none⟩) zs := by
 refine Or.inr ⟨g, 0, rfl, h.lt, fun j hj => ?_⟩
 rw [Nat.zero_add, h.cell j (by simpa using hj)]
 simp [List.getD, hj]
theorem info3 : (Tryz.prog.info? 3).map (fun i => (i.zero, i.size, i.bytes)) = some (some (.int .i64 0), 1, 8) := by kernel_rfl
structure Three (w : World) (k o s : Int) (a : Option Addr) (n c : Nat) (W : World) : Prop where
 arg : K0.Blk w.heap.size (vals k o s a n c) W
 res : K0.Blk (w.heap.size + 1) (vals 0 0 0 none 0 0) W
 tmp : K0.Blk (w.heap.size + 2) (vals k o s none 0 0) W
 bel : Below w.heap.size w W
theorem Three.below {w W W' : World} {k o s : Int} {a : Option Addr} {n c : Nat} (h : Three w k o s a n c W) (hb : Below W.heap.size W W') : Three w k o s a n c W' :=
 ⟨h.arg.below hb, h.res.below hb, h.tmp.below hb, h.bel.trans (hb.mono (Nat.le_of_lt h.arg.lt))⟩
end Go.Proofs.YthbcefopbmkppaaGreat.I2
