/- Joined texts: plain facts and contracts. -/
import Derived.WalkKit
import Derived.Laws.IdiomStrings
import Derived.Laws.IdiomCopy
import Derived.Laws.MakeOwn
import Derived.Lib.BufferWrite
import Derived.Lib.Strings
import Derived.Below
import Derived.Test.YthbcefopbmkppaaGreatRows
import Derived.ProofKit
import Derived.Handy
import Derived.Deep.QuietTactic
import Derived.BigQuiet
import Derived.Test.YthbcefopbmkppaaGreatJlA
set_option linter.unusedVariables false
set_option linter.unusedSimpArgs false
set_option maxRecDepth 10000
namespace Go.Proofs.YthbcefopbmkppaaGreat.B0
open Go.RowKit
variable {P : Program}
theorem add_off (b o j : Nat) : (⟨b, o, none⟩ : Addr).add j = ⟨b, o + j, none⟩ := by unfold Addr.add; split <;> simp_all
def Holds (w : World) (b o : Nat) (l : List UInt8) : Prop := ∀ j (hj : j < l.length), w.cell? ⟨b, o + j, none⟩ = some (.int .u8 (l[j].toNat : Int))
theorem conv_back (w : World) (src dst e : TypeId) (b o cap : Nat) (l : List UInt8) (hs : P.underlying src = some (.slice e)) (he : P.underlying e = some (.int .u8)) (hd : P.underlying dst = some .string)
  (h : Holds w b o l) (n : Nat) (hn : n = l.length) : (convert src dst (.slice (some ⟨b, o, none⟩) n cap)).run P w = .ok (.string ⟨l.toArray⟩) w := by
 subst hn
 exact run_convert_bytes_back w src dst e ⟨b, o, none⟩ cap l hs he hd (fun j hj => by rw [add_off]; exact h j hj)
theorem holds_new (w : World) (C : Array Value) (T : TypeId) (fr : Nat × Nat) (l : List UInt8) (h : ∀ j (hj : j < l.length), C[j]? = some (.int .u8 (l[j].toNat : Int))) :
  Holds (w.alloc (.cells C T fr)) w.heap.size 0 l := fun j hj => by
 rw [Nat.zero_add, World.cell?_alloc_mark]
 exact h j hj
theorem conv_to (w : World) (src dst e : TypeId) (s : ByteArray) (hs : P.underlying src = some .string) (hd : P.underlying dst = some (.slice e)) (he : P.underlying e = some (.int .u8)) :
  ∃ W cap, (convert src dst (.string s)).run P w = .ok (.slice (some ⟨w.heap.size, 0, none⟩) s.size cap) W ∧ s.size ≤ cap ∧ Below w.heap.size w W ∧ w.heap.size < W.heap.size ∧ Holds W w.heap.size 0 s.data.toList ∧ ∀ j, j < s.size → W.frozen? ⟨w.heap.size, j, none⟩ = false := by
 have hc : s.size ≤ grownCap w s.size 0 e := grownCap_ge w s.size 0 e
 refine ⟨_, _, run_bytes_of_string w src dst e s hs hd he, hc, ?_, ?_, ?_, ?_⟩
 ·exact (Below.refl _ w).drew.alloc (Nat.le_refl _) _
 ·show w.heap.size < (w.heap.push _).size
  simp
 ·refine holds_new w.drew _ _ _ _ fun j hj => ?_
  have hj' : j < s.data.size := by simpa using hj
  rw [bytesRow_at s _ j hj']
  simp
 ·intro j hj
  have := World.frozen?_alloc_mark w.drew (bytesRow s (grownCap w s.size 0 e)) e (bytesRow s (grownCap w s.size 0 e)).size ((bytesRow s (grownCap w s.size 0 e)).size + 1) j
  refine this.trans ?_
  have hb : s.size ≤ (bytesRow s (grownCap w s.size 0 e)).size := by
   have : s.data.size = s.size := rfl
   simp [bytesRow]
  have : ¬ (bytesRow s (grownCap w s.size 0 e)).size ≤ j := by omega
  simp [this]
theorem below_setCells {B b : Nat} {a : World} (hb : B ≤ b) : ∀ (vs : List Value) (o : Nat) (w : World), Below B a w → Below B a (w.setCells b o vs)
 | [], _, _, h => h
 | v :: r, o, w, h => below_setCells hb r (o + 1) _ (h.setCell (by simpa using hb) v)
theorem copy_str (w : World) (dT sT ty elem : TypeId) (b o dLen dCap : Nat) (t : ByteArray) (hu : P.underlying dT = some (.slice elem)) (hs : (P.info? elem).map (·.size) = some 1) (hle : t.size ≤ dLen)
  (hc : ∀ j, j < t.size → (w.cell? ⟨b, o + j, none⟩).isSome = true) (hf : ∀ j, j < t.size → w.frozen? ⟨b, o + j, none⟩ = false) :
  (Builtin.copy_ #[dT, sT] ty #[.slice (some ⟨b, o, none⟩) dLen dCap, .string t]).run P w = .ok (goInt t.size) (w.setCells b o (Lib.byteCells t.data.toList)) := by
 have hlen : (Lib.byteCells t.data.toList).length = t.size := by rw [Lib.byteCells_length, ← Lib.size_eq]
 have hst := run_storeCells_cells (P := P) b o (Lib.byteCells t.data.toList) 0 w (by rw [hlen]; simpa using hc) (by rw [hlen]; simpa using hf) (Lib.byteCells_one _)
 have hmin : Nat.min t.size dLen = t.size := Nat.min_eq_left hle
 have htk : List.take t.size (List.map (fun b : UInt8 => Value.int IntKind.u8 (b.toNat : Int)) t.data.toList) = Lib.byteCells t.data.toList := by
  rw [List.take_of_length_le (by rw [List.length_map, ← Lib.size_eq]; exact Nat.le_refl _)]
  rfl
 cases hq : P.info? elem with
 | none => simp [hq] at hs
 | some i =>
  simp [Builtin.copy_, run_underlying hu, Builtin.lenOf, Builtin.firstCells, sizeOf, typeInfo, hq, hmin, htk, hst]
theorem holds_with (W : World) (b : Nat) (s t : List UInt8) (k : Nat) (hk : k + t.length ≤ s.length) (h : Holds W b 0 s) :
  Holds (W.setCells b k (Lib.byteCells t)) b 0 (s.take k ++ t ++ s.drop (k + t.length)) := by
 have hl : (Lib.byteCells t).length = t.length := Lib.byteCells_length t
 have hin : ∀ j, j < (Lib.byteCells t).length → (W.cell? ⟨b, k + j, none⟩).isSome = true := fun j hj => by
  have := h (k + j) (by omega)
  rw [Nat.zero_add] at this
  rw [this]
  rfl
 intro j hj
 have hj' : j < s.length := by simp at hj; omega
 rw [Nat.zero_add]
 by_cases h1 : j < k
 ·rw [World.cell?_setCells_out b _ k W _ (fun _ _ => Or.inl h1)]
  have := h j hj'
  rw [Nat.zero_add] at this
  rw [this, List.getElem_append_left (by simp; omega), List.getElem_append_left (by simp; omega), List.getElem_take]
 ·by_cases h2 : j < k + t.length
  ·have := World.cell?_setCells_in b (Lib.byteCells t) k W hin (j - k) (by omega)
   rw [show k + (j - k) = j by omega] at this
   rw [this, List.getElem_append_left (by simp; omega), List.getElem_append_right (by simp; omega)]
   have hm : min k s.length = k := by omega
   simp [Lib.byteCells, hm]
  ·rw [World.cell?_setCells_out b _ k W _ (fun _ _ => Or.inr (by rw [hl]; show k + t.length ≤ j; omega))]
   have := h j hj'
   rw [Nat.zero_add] at this
   have e : k + t.length + (j - (s.take k ++ t).length) = j := by rw [List.length_append, List.length_take]; omega
   rw [this, List.getElem_append_right (by simp; omega), List.getElem_drop]
   simp only [e]
end Go.Proofs.YthbcefopbmkppaaGreat.B0
namespace Go.Proofs.YthbcefopbmkppaaGreat.B4
open Go.ChangeShapes Go.WideShapes Go.ChangeAt Go.RowKit
def nulls (k : Nat) : ByteArray := ⟨Array.replicate k 0⟩
def zeros (n : Int) : ByteArray := if n ≤ 5000 then nulls n.toNat else ⟨#[]⟩
theorem nulls_succ (k : Nat) : nulls k ++ ⟨#[0]⟩ = nulls (k + 1) := by
 apply ByteArray.ext
 simp [nulls, Array.replicate_succ]
theorem nulls_size (k : Nat) : (nulls k).size = k := by simp [nulls, ByteArray.size]
theorem info8 : (Tryz.prog.info? 5).map (fun i => (i.zero, i.size, i.bytes)) = some (some (.int .u8 0), 1, 1) := by kernel_rfl
theorem spec_Zeros (n : Int) (w : World) :
  Calls Tryz.prog 27 #[.int .i64 n] w fun e w' => e = .returned (.string (zeros n)) ∧ w' = w := by
 by_cases h : n ≤ 5000
 ·have e : zeros n = nulls n.toNat := by rw [zeros, if_pos h]
  rw [e]
  go_enter Tryz.func27, Tryz.ntmps27
  go_wp2
  go_loop [3, 4] (fun t i => ∃ k : Nat, k ≤ n.toNat ∧ i = .int .i64 k ∧ t = .string (nulls k)) (fun _ i => n.toNat - (intOf i).toNat)
  case atStart => exact ⟨0, Nat.zero_le _, rfl, rfl⟩
  case round =>
   obtain ⟨k, hk, rfl, rfl⟩ := hrel
   by_cases hlt : (k : Int) < n
   ·have hz : (nulls k).size + 1 ≤ 9223372036854775807 := by rw [nulls_size]; omega
    go_wp2
    go_round
    case rel => exact ⟨k + 1, by omega, by go_num, by first | rfl | rw [← nulls_succ]⟩
    case measure => simp [intOf]; omega
   ·have hf : decide ((k : Int) < n) = false := by simpa using hlt
    go_wp2
    go_ret
    have hk' : k = n.toNat := by omega
    exact ⟨by rw [← hk']; rfl, rfl⟩
 ·have e : zeros n = ⟨#[]⟩ := by rw [zeros, if_neg h]
  have hf : decide (n ≤ 5000) = false := by simpa using h
  rw [e]
  go_enter Tryz.func27, Tryz.ntmps27
  go_wp2
  go_loop [3, 4] (fun t i => i = .int .i64 0 ∧ t = .string ⟨#[]⟩) (fun _ _ => 0)
  case atStart => exact ⟨rfl, rfl⟩
  case round =>
   obtain ⟨rfl, rfl⟩ := hrel
   go_wp2
   go_ret
   exact ⟨rfl, rfl⟩
set_option maxRecDepth 4000 in
theorem impl_Zeros (n : Int) (w : World) :
  Calls Tryz.prog 21 #[.int .i64 n] w fun e w' => e = .returned (.string (zeros n)) ∧ Below w.heap.size w w' := by
 by_cases h1 : n < 0
 ·have e : zeros n = ⟨#[]⟩ := by rw [zeros, if_pos (by omega), show n.toNat = 0 by omega]; rfl
  rw [e]
  go_enter Tryz.func21, Tryz.ntmps21
  go_wp2
  go_ret
  exact ⟨rfl, Below.refl _ _⟩
 ·by_cases h2 : 5000 < n
  ·have e : zeros n = ⟨#[]⟩ := by rw [zeros, if_neg (by omega)]
   rw [e]
   go_enter Tryz.func21, Tryz.ntmps21
   go_wp2
   go_ret
   exact ⟨rfl, Below.refl _ _⟩
  ·have e : zeros n = nulls n.toNat := by rw [zeros, if_pos (by omega)]
   rw [e]
   obtain ⟨i0, hi, hz0, hz1, hz2⟩ := info_parts info8
   obtain ⟨M, hM⟩ : ∃ M, M = madeCells (Value.int .u8 0).cells (n.toNat * i0.size) := ⟨_, rfl⟩
   have hmk : ∀ W : World, (Instr.makeSlice 22 (.int .i64 n) (.int .i64 n)).run Tryz.prog W = .ok (.slice (some ⟨W.heap.size, 0, none⟩) n.toNat n.toNat) (W.alloc (.cells M 5)) := fun W => by
    have h := run_make (P := Tryz.prog) W 22 5 i0 (.int .u8 0) Tryz.underlying22 hi hz0 .i64 .i64 n n (by omega) (by omega) (by rw [hz2]; omega) (by omega)
    rwa [← hM] at h
   have hcv : ∀ W : World, (convert 22 9 (.slice (some ⟨W.heap.size, 0, none⟩) n.toNat n.toNat)).run Tryz.prog (W.alloc (.cells M 5)) = .ok (.string (nulls n.toNat)) (W.alloc (.cells M 5)) := fun W => by
    have h := B0.conv_back (P := Tryz.prog) (W.alloc (.cells M 5)) 22 9 5 W.heap.size 0 n.toNat (List.replicate n.toNat 0) Tryz.underlying22 Tryz.underlying5 Tryz.underlying9
     (B0.holds_new _ _ _ _ _ fun j hj => by
      have hj' : j < n.toNat := by simpa using hj
      rw [hM, ← Array.getElem?_toList, show (Value.int .u8 0).cells = #[Value.int .u8 0] from rfl, toList_madeCells_one, hz1]
      simp [hj']) n.toNat (by simp)
    have e2 : (⟨(List.replicate n.toNat (0 : UInt8)).toArray⟩ : ByteArray) = nulls n.toNat := by simp [nulls]
    rwa [e2] at h
   clear hM
   clear hi hz0 hz1 hz2
   go_enter Tryz.func21, Tryz.ntmps21
   go_wp2
   go_ret
   exact ⟨rfl, by go_grown⟩
end Go.Proofs.YthbcefopbmkppaaGreat.B4
namespace Go.Proofs.YthbcefopbmkppaaGreat.B2
open Go.ChangeShapes Go.WideShapes Go.ChangeAt Go.RowKit
def lies (z : Nat) (i n : Int) : Bool := decide (0 ≤ i ∧ 0 ≤ n ∧ n ≤ (z : Int) - i)
theorem lies_true {z : Nat} {i n : Int} (h : lies z i n = true) : 0 ≤ i ∧ 0 ≤ n ∧ n ≤ (z : Int) - i := by simpa [lies] using h
theorem lies_false {z : Nat} {i n : Int} (h : lies z i n = false) : ¬ (0 ≤ i ∧ 0 ≤ n ∧ n ≤ (z : Int) - i) := of_decide_eq_false h
theorem liesIn_any (s : ByteArray) (i n : Int) (w : World) (hs : s.size ≤ maxLen) :
  Calls Tryz.prog 39 #[.string s, .int .i64 i, .int .i64 n] w fun e w' => e = .returned (.bool (lies s.size i n)) ∧ w' = w := by
 unfold maxLen at hs
 by_cases h1 : 0 ≤ i
 ·by_cases h2 : 0 ≤ n
  ·by_cases h3 : i ≤ (s.size : Int)
   ·by_cases h4 : n ≤ (s.size : Int) - i
    ·have e : lies s.size i n = true := decide_eq_true ⟨h1, h2, h4⟩
     rw [e]
     go_enter Tryz.func39, Tryz.ntmps39
     go_wp2
     go_ret
     exact ⟨rfl, rfl⟩
    ·have e : lies s.size i n = false := decide_eq_false fun h => h4 h.2.2
     have h4' : decide (n ≤ (s.size : Int) - i) = false := by simpa using h4
     rw [e]
     go_enter Tryz.func39, Tryz.ntmps39
     go_wp2
     go_ret
     exact ⟨rfl, rfl⟩
   ·have e : lies s.size i n = false := decide_eq_false fun h => by omega
    have h3' : decide (i ≤ (s.size : Int)) = false := by simpa using h3
    rw [e]
    go_enter Tryz.func39, Tryz.ntmps39
    go_wp2
    go_ret
    exact ⟨rfl, rfl⟩
  ·have e : lies s.size i n = false := decide_eq_false fun h => by omega
   have h2' : decide (0 ≤ n) = false := by simpa using h2
   rw [e]
   go_enter Tryz.func39, Tryz.ntmps39
   go_wp2
   go_ret
   exact ⟨rfl, rfl⟩
 ·have e : lies s.size i n = false := decide_eq_false fun h => by omega
  have h1' : decide (0 ≤ i) = false := by simpa using h1
  rw [e]
  go_enter Tryz.func39, Tryz.ntmps39
  go_wp2
  go_ret
  exact ⟨rfl, rfl⟩
def part (s : ByteArray) (i n : Int) : ByteArray := if lies s.size i n then s.extract i.toNat (i + n).toNat else ⟨#[]⟩
end Go.Proofs.YthbcefopbmkppaaGreat.B2
namespace Go.Proofs.YthbcefopbmkppaaGreat.B5
open Go.ChangeShapes Go.WideShapes Go.ChangeAt Go.RowKit
def laid (s : ByteArray) (i : Int) (t : ByteArray) : ByteArray := if B2.lies s.size i t.size then s.extract 0 i.toNat ++ t ++ s.extract (i + t.size).toNat s.size else s
theorem spec_With (s : ByteArray) (i : Int) (t : ByteArray) (w : World) (hs : s.size ≤ 281474976710656) (ht : t.size ≤ 281474976710656) :
  Calls Tryz.prog 24 #[.string s, .int .i64 i, .string t] w fun e w' => e = .returned (.string (laid s i t)) ∧ ∃ n, w' = w.drewN n := by
 by_cases h1 : i < 0
 ·have e : laid s i t = s := by rw [laid, show B2.lies s.size i t.size = false from decide_eq_false fun h => by omega]; rfl
  rw [e]
  go_enter Tryz.func24, Tryz.ntmps24
  go_wp2
  go_ret
  exact ⟨rfl, 0, rfl⟩
 ·by_cases h3 : (s.size : Int) < (t.size : Int)
  ·have e : laid s i t = s := by rw [laid, show B2.lies s.size i t.size = false from decide_eq_false fun h => by omega]; rfl
   rw [e]
   go_enter Tryz.func24, Tryz.ntmps24
   go_wp2
   go_ret
   exact ⟨rfl, 0, rfl⟩
  ·by_cases h4 : (s.size : Int) - (t.size : Int) < i
   ·have e : laid s i t = s := by rw [laid, show B2.lies s.size i t.size = false from decide_eq_false fun h => by omega]; rfl
    rw [e]
    go_enter Tryz.func24, Tryz.ntmps24
    go_wp2
    go_ret
    exact ⟨rfl, 0, rfl⟩
   ·have e : laid s i t = s.extract 0 i.toNat ++ t ++ s.extract (i + t.size).toNat s.size := by rw [laid, show B2.lies s.size i t.size = true from decide_eq_true (by omega)]; rfl
    rw [e]
    have h5 : i ≤ (s.size : Int) := by omega
    have h6 : i + (t.size : Int) ≤ (s.size : Int) := by omega
    have h7 : 0 ≤ i + (t.size : Int) := by omega
    have z1 : (s.extract 0 i.toNat).size ≤ s.size := by simp only [ByteArray.size_extract]; omega
    have z2 : (s.extract (i + t.size).toNat s.size).size ≤ s.size := by simp only [ByteArray.size_extract]; omega
    have z3 : (s.extract 0 i.toNat).size + t.size ≤ 9223372036854775807 := by omega
    have z4 : (s.extract 0 i.toNat ++ t).size + (s.extract (i + t.size).toNat s.size).size ≤ 9223372036854775807 := by rw [ByteArray.size_append]; omega
    go_enter Tryz.func24, Tryz.ntmps24
    go_wp2
    go_quiet (fail)
    go_wp2
    go_ret
    exact ⟨rfl, _, rfl⟩
theorem laid_eq (s : ByteArray) (k : Nat) (t : ByteArray) (h : k + t.size ≤ s.size) :
  s.extract 0 k ++ t ++ s.extract (k + t.size) s.size = ⟨(s.data.toList.take k ++ t.data.toList ++ s.data.toList.drop (k + t.data.toList.length)).toArray⟩ := by
 apply ByteArray.ext
 apply Array.toList_inj.1
 have e1 : (s.data.toList.drop (k + t.data.toList.length)).take (s.size - (k + t.size)) = s.data.toList.drop (k + t.data.toList.length) :=
  List.take_of_length_le (by rw [List.length_drop, ← Lib.size_eq, ← Lib.size_eq]; omega)
 simp only [ByteArray.data_append, Array.toList_append, Lib.extract_data, List.drop_zero, Nat.sub_zero]
 rw [Lib.size_eq t] at *
 rw [e1]
theorem info8 : (Tryz.prog.info? 5).map (·.size) = some 1 := by kernel_rfl
theorem impl_With (s : ByteArray) (i : Int) (t : ByteArray) (w : World) (hs : s.size ≤ 281474976710656) (ht : t.size ≤ 281474976710656) :
  Calls Tryz.prog 20 #[.string s, .int .i64 i, .string t] w fun e w' => e = .returned (.string (laid s i t)) ∧ Below w.heap.size w w' := by
 have hs' : s.size ≤ maxLen := by unfold maxLen; omega
 obtain ⟨W, cap, hcv, hcap, hb, hz, hH, hF⟩ := B0.conv_to (P := Tryz.prog) w 9 22 5 s Tryz.underlying9 Tryz.underlying22 Tryz.underlying5
 have hlen : s.data.toList.length = s.size := (Lib.size_eq s).symm
 have hself : (⟨s.data.toList.toArray⟩ : ByteArray) = s := Lib.mk_data s
 have hback : (convert 22 9 (.slice (some ⟨w.heap.size, 0, none⟩) s.size cap)).run Tryz.prog W = .ok (.string s) W := by
  have := B0.conv_back (P := Tryz.prog) W 22 9 5 w.heap.size 0 cap s.data.toList Tryz.underlying22 Tryz.underlying5 Tryz.underlying9 hH s.size hlen.symm
  rwa [hself] at this
 by_cases h : B2.lies s.size i t.size = true
 ·obtain ⟨h1, h2, h3⟩ := B2.lies_true h
  have e : laid s i t = s.extract 0 i.toNat ++ t ++ s.extract (i + t.size).toNat s.size := by rw [laid, h]; rfl
  by_cases h0 : t.size = 0
  ·have e' : laid s i t = s := by
    rw [e, show (i + (t.size : Int)).toNat = i.toNat + t.size by omega, laid_eq s i.toNat t (by omega)]
    have : t.data.toList = [] := List.eq_nil_of_length_eq_zero (by rw [← Lib.size_eq]; exact h0)
    rw [this]
    simp
   have hcp : ∀ d dl dc W', (Builtin.copy_ #[22, 9] 3 #[.slice d dl dc, .string t]).run Tryz.prog W' = .ok (goInt 0) W' := fun d dl dc W' =>
    Lib.run_copy_empty_string W' 22 9 3 5 d dl dc t Tryz.underlying22 (by rw [info8]; rfl) h0
   rw [e']
   clear hH hF e e' hself h0
   by_cases h9 : cap = i.toNat
   ·subst h9
    go_enter Tryz.func20, Tryz.ntmps20
    go_wp2_with (go_at_call 39; refine (B2.liesIn_any _ _ _ _ hs').mono ?_; rintro e w' ⟨rfl, rfl⟩)
    go_ret
    exact ⟨rfl, hb⟩
   ·go_enter Tryz.func20, Tryz.ntmps20
    go_wp2_with (go_at_call 39; refine (B2.liesIn_any _ _ _ _ hs').mono ?_; rintro e w' ⟨rfl, rfl⟩)
    go_ret
    exact ⟨rfl, hb⟩
  ·have h9 : ¬ cap = i.toNat := by omega
   have htl : t.data.toList.length = t.size := (Lib.size_eq t).symm
   have hcp := B0.copy_str (P := Tryz.prog) W 22 9 3 5 w.heap.size i.toNat (s.size - i.toNat) (cap - i.toNat) t Tryz.underlying22 info8 (by omega)
    (fun j hj => by
     have := hH (i.toNat + j) (by omega)
     rw [Nat.zero_add] at this
     rw [this]
     rfl) (fun j hj => hF _ (by omega))
   have hH2 := B0.holds_with W w.heap.size s.data.toList t.data.toList i.toNat (by omega) hH
   have hb2 : Below w.heap.size w (W.setCells w.heap.size i.toNat (Lib.byteCells t.data.toList)) := B0.below_setCells (Nat.le_refl _) _ _ _ hb
   obtain ⟨W2, hW2⟩ : ∃ W2, W2 = W.setCells w.heap.size i.toNat (Lib.byteCells t.data.toList) := ⟨_, rfl⟩
   rw [← hW2] at hcp hH2 hb2
   have hback2 : (convert 22 9 (.slice (some ⟨w.heap.size, 0, none⟩) s.size cap)).run Tryz.prog W2 = .ok (.string (laid s i t)) W2 := by
    have := B0.conv_back (P := Tryz.prog) W2 22 9 5 w.heap.size 0 cap _ Tryz.underlying22 Tryz.underlying5 Tryz.underlying9 hH2 s.size (by simp; omega)
    rw [e, show (i + (t.size : Int)).toNat = i.toNat + t.size by omega, laid_eq s i.toNat t (by omega)]
    exact this
   clear hH hF hH2 hW2 e hself hback h0 hlen htl
   go_enter Tryz.func20, Tryz.ntmps20
   go_wp2_with (go_at_call 39; refine (B2.liesIn_any _ _ _ _ hs').mono ?_; rintro e w' ⟨rfl, rfl⟩)
   go_ret
   exact ⟨rfl, hb2⟩
 ·have h' : B2.lies s.size i t.size = false := by simpa using h
  have e : laid s i t = s := by rw [laid, h']; rfl
  rw [e]
  clear hH hF e hself
  go_enter Tryz.func20, Tryz.ntmps20
  go_wp2_with (go_at_call 39; refine (B2.liesIn_any _ _ _ _ hs').mono ?_; rintro e w' ⟨rfl, rfl⟩)
  go_ret
  exact ⟨rfl, hb⟩
end Go.Proofs.YthbcefopbmkppaaGreat.B5
namespace Go.Proofs.YthbcefopbmkppaaGreat.B1
open Go.ChangeShapes Go.WideShapes Go.ChangeAt Go.RowKit
def byteAt (s : ByteArray) (i : Int) : Int := if h : 0 ≤ i ∧ i < s.size then (s[i.toNat]'(by omega)).toNat else 0
theorem spec_ByteAt (s : ByteArray) (i : Int) (w : World) (hs : s.size ≤ maxLen) :
  Calls Tryz.prog 51 #[.string s, .int .i64 i] w fun e w' => e = .returned (.int .i64 (byteAt s i)) ∧ w' = w := by
 unfold maxLen at hs
 by_cases h : 0 ≤ i ∧ i < s.size
 ·have hin : inB i 0 ((s.size : Int) - 1) = true := by simp [inB]; omega
  have e : byteAt s i = (s[i.toNat]'(by omega)).toNat := by simp [byteAt, h]
  obtain ⟨h1, h2⟩ := h
  rw [e]
  have hb := (s[i.toNat]'(by omega)).toNat_lt
  go_enter Tryz.func51, Tryz.ntmps51
  go_wp2_with (go_at_call 31; refine (l01In_any _ _ _ _).mono ?_; rintro e w' ⟨rfl, rfl⟩)
  go_ret
  exact ⟨rfl, rfl⟩
 ·have hin : inB i 0 ((s.size : Int) - 1) = false := by simp [inB]; omega
  have e : byteAt s i = 0 := by simp [byteAt, h]
  rw [e]
  go_enter Tryz.func51, Tryz.ntmps51
  go_wp2_with (go_at_call 31; refine (l01In_any _ _ _ _).mono ?_; rintro e w' ⟨rfl, rfl⟩)
  go_ret
  exact ⟨rfl, rfl⟩
theorem impl_ByteAt (s : ByteArray) (i : Int) (w : World) (hs : s.size ≤ maxLen) :
  Calls Tryz.prog 85 #[.string s, .int .i64 i] w fun e w' => e = .returned (.int .i64 (byteAt s i)) ∧ w' = w := by
 unfold maxLen at hs
 by_cases h : 0 ≤ i ∧ i < s.size
 ·have e : byteAt s i = (s[i.toNat]'(by omega)).toNat := by simp [byteAt, h]
  obtain ⟨h1, h2⟩ := h
  rw [e]
  have hb := (s[i.toNat]'(by omega)).toNat_lt
  have h1' : ¬ i < 0 := by omega
  go_enter Tryz.func85, Tryz.ntmps85
  go_wp2
  go_ret
  exact ⟨rfl, rfl⟩
 ·have e : byteAt s i = 0 := by simp [byteAt, h]
  rw [e]
  by_cases h1 : i < 0
  ·go_enter Tryz.func85, Tryz.ntmps85
   go_wp2
   go_ret
   exact ⟨rfl, rfl⟩
  ·have h2 : (s.size : Int) ≤ i := by omega
   go_enter Tryz.func85, Tryz.ntmps85
   go_wp2
   go_ret
   exact ⟨rfl, rfl⟩
end Go.Proofs.YthbcefopbmkppaaGreat.B1
namespace Go.Proofs.YthbcefopbmkppaaGreat.E0
open Go
def chr (c : UInt8) : Bool := decide (97 ≤ c.toNat ∧ c.toNat ≤ 122) || (decide (48 ≤ c.toNat ∧ c.toNat ≤ 57) || decide (c.toNat = 46))
theorem chr_false {c : UInt8} (h : chr c = false) : ¬ (97 ≤ c.toNat ∧ c.toNat ≤ 122) ∧ ¬ (48 ≤ c.toNat ∧ c.toNat ≤ 57) ∧ ¬ c.toNat = 46 := by
 simp only [chr, Bool.or_eq_false_iff, decide_eq_false_iff_not] at h
 exact h
theorem chr_true {c : UInt8} (h : chr c = true) : (97 ≤ c.toNat ∧ c.toNat ≤ 122) ∨ (48 ≤ c.toNat ∧ c.toNat ≤ 57) ∨ c.toNat = 46 := by
 simp only [chr, Bool.or_eq_true, decide_eq_true_eq] at h
 exact h
def dot1 (s : ByteArray) : Bool := s.toList == [46]
def dot2 (s : ByteArray) : Bool := s.toList == [46, 46]
def nameOk (s : ByteArray) : Bool := s.data.toList.all chr && (B1.inB s.size 1 14 && (!dot1 s && !dot2 s))
def entryOk (i : Int) (s : ByteArray) : Bool := nameOk s && B1.inB i 1 7
theorem take_snoc (s : ByteArray) (k : Nat) (h : k < s.size) : s.data.toList.take (k + 1) = s.data.toList.take k ++ [s[k]] := by
 rw [List.take_succ_eq_append_getElem (by rw [← Lib.size_eq]; exact h)]
 rfl
theorem take_all (s : ByteArray) : s.data.toList.take s.size = s.data.toList := List.take_of_length_le (by rw [← Lib.size_eq]; exact Nat.le_refl _)
theorem all_snoc {s : ByteArray} {k : Nat} (h : k < s.size) (ha : (s.data.toList.take k).all chr = true) (hc : chr s[k] = true) : (s.data.toList.take (k + 1)).all chr = true := by
 rw [take_snoc s k h]
 simp only [List.all_append, List.all_cons, List.all_nil, Bool.and_true, Bool.and_eq_true]
 exact ⟨ha, hc⟩
theorem all_bad {s : ByteArray} {k : Nat} (hk : k < s.size) (h : chr s[k] = false) : s.data.toList.all chr = false := by
 rw [List.all_eq_false]
 refine ⟨s[k], ?_, by rw [h]; decide⟩
 have hk' : k < s.data.toList.length := by rw [← Lib.size_eq]; exact hk
 exact List.getElem_mem hk'
theorem nameOk_bad {s : ByteArray} {k : Nat} (hk : k < s.size) (h : chr s[k] = false) : nameOk s = false := by rw [nameOk, all_bad hk h]; rfl
theorem nameOk_all {s : ByteArray} (h : s.data.toList.all chr = true) : nameOk s = (B1.inB s.size 1 14 && (!dot1 s && !dot2 s)) := by rw [nameOk, h]; rfl
theorem nameOk_size {s : ByteArray} (h : nameOk s = true) : 1 ≤ s.size ∧ s.size ≤ 14 := by
 simp only [nameOk, Bool.and_eq_true] at h
 have := B1.inB_true h.2.1
 omega
theorem entryOk_true {i : Int} {s : ByteArray} (h : entryOk i s = true) : nameOk s = true ∧ (1 ≤ i ∧ i ≤ 7) := by
 simp only [entryOk, Bool.and_eq_true] at h
 exact ⟨h.1, B1.inB_true h.2⟩
def headOf (i : Int) (s : ByteArray) : ByteArray := ⟨#[UInt8.ofNat i.toNat, UInt8.ofNat s.size]⟩ ++ s
def putE (i : Int) (s : ByteArray) : ByteArray := if entryOk i s then headOf i s ++ B4.nulls (14 - s.size) else ⟨#[]⟩
theorem headOf_size (i : Int) (s : ByteArray) : (headOf i s).size = 2 + s.size := by
 rw [headOf, ByteArray.size_append]
 rfl
theorem laid_front (t : ByteArray) (n : Nat) (h : t.size ≤ n) : B5.laid (B4.nulls n) 0 t = t ++ B4.nulls (n - t.size) := by
 have hz := B4.nulls_size n
 rw [B5.laid, show B2.lies (B4.nulls n).size 0 t.size = true from decide_eq_true (by omega), if_pos rfl]
 have h2 : ((0 : Int) + (t.size : Int)).toNat = 0 + t.size := by omega
 rw [h2]
 have := B5.laid_eq (B4.nulls n) 0 t (by omega)
 rw [show ((0 : Int)).toNat = 0 from rfl, this]
 apply ByteArray.ext
 simp only [ByteArray.data_append]
 apply Array.toList_inj.1
 simp only [Array.toList_append, List.take_zero, List.nil_append, Nat.zero_add, B4.nulls, Array.toList_replicate, List.drop_replicate]
 rw [← Lib.size_eq]
end Go.Proofs.YthbcefopbmkppaaGreat.E0
namespace Go.Proofs.YthbcefopbmkppaaGreat.B3
open Go.ChangeShapes Go.WideShapes Go.ChangeAt Go.RowKit
def pair (n : Int) : ByteArray := if B1.inB n 0 65535 then ⟨#[UInt8.ofNat (n % 256).toNat, UInt8.ofNat (n / 256).toNat]⟩ else ⟨#[]⟩
theorem ofNat_int (n : Int) (h0 : 0 ≤ n) (h1 : n < 256) : ((UInt8.ofNat n.toNat).toNat : Int) = n := by
 have : n.toNat < 256 := by omega
 simp [Nat.mod_eq_of_lt this]
 omega
theorem conv2 (x y : Int) (hx : 0 ≤ x ∧ x < 256) (hy : 0 ≤ y ∧ y < 256) (w : World) :
  (convert 22 9 (.slice (some ⟨w.heap.size, 0, none⟩) 2 2)).run Tryz.prog (w.alloc (.cells #[.int .u8 x, .int .u8 y] 5)) = .ok (.string ⟨#[UInt8.ofNat x.toNat, UInt8.ofNat y.toNat]⟩) (w.alloc (.cells #[.int .u8 x, .int .u8 y] 5)) :=
 B0.conv_back _ 22 9 5 _ 0 2 [UInt8.ofNat x.toNat, UInt8.ofNat y.toNat] Tryz.underlying22 Tryz.underlying5 Tryz.underlying9
  (B0.holds_new _ _ _ _ _ fun j hj => by
   match j, hj with
   | 0, _ => simp only [List.getElem_cons_zero, ofNat_int x hx.1 hx.2]; rfl
   | 1, _ => simp only [List.getElem_cons_succ, List.getElem_cons_zero, ofNat_int y hy.1 hy.2]; rfl) 2 rfl
theorem spec_Pair (n : Int) (w : World) :
  Calls Tryz.prog 73 #[.int .i64 n] w fun e w' => e = .returned (.string (pair n)) ∧ Below w.heap.size w w' := by
 by_cases h : B1.inB n 0 65535 = true
 ·have e : pair n = ⟨#[UInt8.ofNat (n % 256).toNat, UInt8.ofNat (n / 256).toNat]⟩ := by rw [pair, h]; rfl
  rw [e]
  obtain ⟨h1, h2⟩ := B1.inB_true h
  have hc := conv2 (n % 256) (n / 256) (by omega) (by omega)
  go_enter Tryz.func73, Tryz.ntmps73
  go_wp2_with (go_at_call 31; refine (B1.l01In_any _ _ _ _).mono ?_; rintro e w' ⟨rfl, rfl⟩)
  go_ret
  exact ⟨rfl, by go_grown⟩
 ·have h' : B1.inB n 0 65535 = false := by simpa using h
  have e : pair n = ⟨#[]⟩ := by rw [pair, h']; rfl
  rw [e]
  go_enter Tryz.func73, Tryz.ntmps73
  go_wp2_with (go_at_call 31; refine (B1.l01In_any _ _ _ _).mono ?_; rintro e w' ⟨rfl, rfl⟩)
  go_ret
  exact ⟨rfl, Below.refl _ _⟩
theorem impl_Pair (n : Int) (w : World) :
  Calls Tryz.prog 95 #[.int .i64 n] w fun e w' => e = .returned (.string (pair n)) ∧ Below w.heap.size w w' := by
 by_cases h1 : n < 0
 ·have e : pair n = ⟨#[]⟩ := by rw [pair, show B1.inB n 0 65535 = false from decide_eq_false (by omega)]; rfl
  rw [e]
  go_enter Tryz.func95, Tryz.ntmps95
  go_wp2
  go_ret
  exact ⟨rfl, Below.refl _ _⟩
 ·by_cases h2 : 65535 < n
  ·have e : pair n = ⟨#[]⟩ := by rw [pair, show B1.inB n 0 65535 = false from decide_eq_false (by omega)]; rfl
   rw [e]
   go_enter Tryz.func95, Tryz.ntmps95
   go_wp2
   go_ret
   exact ⟨rfl, Below.refl _ _⟩
  ·have e : pair n = ⟨#[UInt8.ofNat (n % 256).toNat, UInt8.ofNat (n / 256).toNat]⟩ := by rw [pair, show B1.inB n 0 65535 = true from decide_eq_true (by omega)]; rfl
   rw [e]
   have hc := conv2 (n % 256) (n / 256) (by omega) (by omega)
   go_enter Tryz.func95, Tryz.ntmps95
   go_wp2
   go_ret
   exact ⟨rfl, by go_grown⟩
end Go.Proofs.YthbcefopbmkppaaGreat.B3
namespace Go.Proofs.YthbcefopbmkppaaGreat.R0
open Go
def pg (zs : List Int) : ByteArray := ⟨(zs.map fun z => UInt8.ofNat z.toNat).toArray⟩
theorem pg_size (zs : List Int) : (pg zs).size = zs.length := by simp [pg, ByteArray.size]
theorem pg_snoc (zs : List Int) (k : Nat) (h : k < zs.length) : pg (zs.take k) ++ ⟨#[UInt8.ofNat (zs.getD k 0).toNat]⟩ = pg (zs.take (k + 1)) := by
 apply ByteArray.ext
 rw [ByteArray.data_append]
 apply Array.toList_inj.1
 simp only [pg, Array.toList_append, List.take_succ_eq_append_getElem h, List.map_append, List.map_cons, List.map_nil, P0.getD_get zs k h]
def two (k o : Int) : ByteArray := ⟨#[UInt8.ofNat k.toNat, UInt8.ofNat o.toNat]⟩
theorem two_size (k o : Int) : (two k o).size = 2 := rfl
def head (k o s : Int) (zs : List Int) : ByteArray := two k o ++ B3.pair s ++ pg zs
def putI (k o s : Int) (zs : List Int) : ByteArray := if I0.ok k o s zs then head k o s zs ++ B4.nulls (12 - zs.length) else ⟨#[]⟩
theorem pair_size (s : Int) (h0 : 0 ≤ s) (h1 : s ≤ 65535) : (B3.pair s).size = 2 := by
 rw [B3.pair, show B1.inB s 0 65535 = true from decide_eq_true ⟨h0, h1⟩]
 rfl
theorem ok_bounds {k o s : Int} {zs : List Int} (h : I0.ok k o s zs = true) : (0 ≤ k ∧ k ≤ 2) ∧ (0 ≤ o ∧ o ≤ 9) ∧ (0 ≤ s ∧ s ≤ 192) ∧ zs.length ≤ 6 ∧ (zs.length : Int) = P0.need s ∧ P0.pagesOk zs = true := by
 have hh : ∀ {o s : Int} {zs : List Int}, I0.holds o s zs = true → (0 ≤ o ∧ o ≤ 9) ∧ (0 ≤ s ∧ s ≤ 192) ∧ zs.length ≤ 6 ∧ (zs.length : Int) = P0.need s ∧ P0.pagesOk zs = true := by
  intro o s zs h
  simp only [I0.holds, Bool.and_eq_true, decide_eq_true_eq] at h
  have h1 := B1.inB_true h.1
  have h2 := B1.inB_true h.2.1
  have h3 := h.2.2.1
  refine ⟨h1, h2, ?_, h3, h.2.2.2⟩
  unfold P0.need at h3
  omega
 unfold I0.ok at h
 split at h
 ·rename_i e
  simp only [I0.free, Bool.and_eq_true, decide_eq_true_eq] at h
  have hz : zs = [] := List.eq_nil_of_length_eq_zero h.2.2
  refine ⟨by omega, by omega, by omega, by omega, ?_, ?_⟩
  ·rw [h.2.1, h.2.2]; decide
  ·rw [hz]; rfl
 ·split at h
  ·rename_i e
   exact ⟨by omega, hh h⟩
  ·split at h
   ·rename_i e
    simp only [Bool.and_eq_true] at h
    exact ⟨by omega, hh h.1⟩
   ·cases h
theorem pages_bounds {zs : List Int} (h : P0.pagesOk zs = true) {k : Nat} (hk : k < zs.length) : 5 ≤ zs.getD k 0 ∧ zs.getD k 0 ≤ 23 := by
 have h1 : P0.okAt zs k = true := by
  cases hb : P0.okAt zs k with
  | true => rfl
  | false => rw [P0.pagesOk, P0.okUpto_bad hk hb] at h; cases h
 simp only [P0.okAt, Bool.and_eq_true] at h1
 exact B1.inB_true h1.1
theorem head_size (k o s : Int) (zs : List Int) (h0 : 0 ≤ s) (h1 : s ≤ 65535) : (head k o s zs).size = 4 + zs.length := by
 rw [head, ByteArray.size_append, ByteArray.size_append, two_size, pair_size s h0 h1, pg_size]
theorem putI_size (k o s : Int) (zs : List Int) : (putI k o s zs).size ≤ 16 := by
 unfold putI
 split
 ·rename_i h
  obtain ⟨_, _, hs, hl, _⟩ := ok_bounds h
  rw [ByteArray.size_append, head_size _ _ _ _ (by omega) (by omega), B4.nulls_size]
  omega
 ·exact Nat.zero_le _
end Go.Proofs.YthbcefopbmkppaaGreat.R0
namespace Go.Proofs.YthbcefopbmkppaaGreat.B6
open Go.ChangeShapes Go.WideShapes Go.ChangeAt Go.RowKit
def pairAt (s : ByteArray) (i : Int) : Int := if h : 0 ≤ i ∧ i + 1 < s.size then (s[i.toNat]'(by omega)).toNat + 256 * (s[(i + 1).toNat]'(by omega)).toNat else 0
theorem spec_PairAt (s : ByteArray) (i : Int) (w : World) (hs : s.size ≤ 281474976710656) :
  Calls Tryz.prog 52 #[.string s, .int .i64 i] w fun e w' => e = .returned (.int .i64 (pairAt s i)) ∧ ∃ n, w' = w.drewN n := by
 by_cases h1 : i < 0
 ·have e : pairAt s i = 0 := by rw [pairAt, dif_neg (by omega)]
  rw [e]
  go_enter Tryz.func52, Tryz.ntmps52
  go_wp2
  go_ret
  exact ⟨rfl, 0, rfl⟩
 ·by_cases h2 : (s.size : Int) - 2 < i
  ·have e : pairAt s i = 0 := by rw [pairAt, dif_neg (by omega)]
   rw [e]
   go_enter Tryz.func52, Tryz.ntmps52
   go_wp2
   go_ret
   exact ⟨rfl, 0, rfl⟩
  ·have e : pairAt s i = (s[i.toNat]'(by omega)).toNat + 256 * (s[(i + 1).toNat]'(by omega)).toNat := by rw [pairAt, dif_pos (by omega)]
   rw [e]
   have h3 : i < (s.size : Int) := by omega
   have h4 : i + 1 < (s.size : Int) := by omega
   have h6 : 0 ≤ i := by omega
   have h7 : 0 ≤ i + 1 := by omega
   have b1 := (s[i.toNat]'(by omega)).toNat_lt
   have b2 := (s[(i + 1).toNat]'(by omega)).toNat_lt
   go_enter Tryz.func52, Tryz.ntmps52
   go_wp2
   go_quiet (fail)
   go_wp2
   go_ret
   exact ⟨rfl, _, rfl⟩
theorem impl_PairAt (s : ByteArray) (i : Int) (w : World) (hs : s.size ≤ 281474976710656) :
  Calls Tryz.prog 84 #[.string s, .int .i64 i] w fun e w' => e = .returned (.int .i64 (pairAt s i)) ∧ ∃ n, w' = w.drewN n := by
 have hs' : s.size ≤ maxLen := by unfold maxLen; omega
 by_cases h : B2.lies s.size i 2 = true
 ·obtain ⟨h1, h2, h5⟩ := B2.lies_true h
  have e : pairAt s i = (s[i.toNat]'(by omega)).toNat + (s[(i + 1).toNat]'(by omega)).toNat * 256 := by rw [pairAt, dif_pos (by omega), Int.mul_comm]
  rw [e]
  have h3 : i < (s.size : Int) := by omega
  have h4 : i + 1 < (s.size : Int) := by omega
  have h6 : 0 ≤ i := by omega
  have h7 : 0 ≤ i + 1 := by omega
  have b1 := (s[i.toNat]'(by omega)).toNat_lt
  have b2 := (s[(i + 1).toNat]'(by omega)).toNat_lt
  go_enter Tryz.func84, Tryz.ntmps84
  go_wp2_with (go_at_call 39; refine (B2.liesIn_any _ _ _ _ hs').mono ?_; rintro e w' ⟨rfl, rfl⟩)
  go_quiet (fail)
  go_wp2
  go_ret
  exact ⟨rfl, _, rfl⟩
 ·have h' : B2.lies s.size i 2 = false := by simpa using h
  have e : pairAt s i = 0 := by rw [pairAt, dif_neg (fun h9 => B2.lies_false h' (by omega))]
  rw [e]
  go_enter Tryz.func84, Tryz.ntmps84
  go_wp2_with (go_at_call 39; refine (B2.liesIn_any _ _ _ _ hs').mono ?_; rintro e w' ⟨rfl, rfl⟩)
  go_ret
  exact ⟨rfl, 0, rfl⟩
end Go.Proofs.YthbcefopbmkppaaGreat.B6
