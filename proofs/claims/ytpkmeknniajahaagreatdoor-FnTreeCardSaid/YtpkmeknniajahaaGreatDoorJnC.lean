/- Joined texts: plain facts and contracts. -/
import Derived.Test.YtpkmeknniajahaaGreatDoorJnB
import Derived.Test.YtpkmeknniajahaaGreatDoorJnA
import Derived.Handy
import Derived.Deep.QuietTactic
import Derived.BigQuiet
import Derived.Lib.Strings
import Derived.Laws.RangeString
import Derived.Laws.RangeAny
import Derived.Deep.RegionWith
set_option linter.unusedVariables false
set_option linter.unusedSimpArgs false
set_option maxRecDepth 10000
namespace Go.Proofs.YtpkmeknniajahaaGreatDoor.B5
open Go.ChangeShapes Go.WideShapes Go.ChangeAt Go.RowKit
def laid (s : ByteArray) (i : Int) (t : ByteArray) : ByteArray := if B2.lies s.size i t.size then s.extract 0 i.toNat ++ t ++ s.extract (i + t.size).toNat s.size else s
theorem spec_With (s : ByteArray) (i : Int) (t : ByteArray) (w : World) (hs : s.size ≤ 281474976710656) (ht : t.size ≤ 281474976710656) :
  Calls Tryz.prog 39 #[.string s, .int .i64 i, .string t] w fun e w' => e = .returned (.string (laid s i t)) ∧ ∃ n, w' = w.drewN n := by
 by_cases h1 : i < 0
 ·have e : laid s i t = s := by rw [laid, show B2.lies s.size i t.size = false from decide_eq_false fun h => by omega]; rfl
  rw [e]
  go_enter Tryz.func39, Tryz.ntmps39
  go_wp2
  go_ret
  exact ⟨rfl, 0, rfl⟩
 ·by_cases h3 : (s.size : Int) < (t.size : Int)
  ·have e : laid s i t = s := by rw [laid, show B2.lies s.size i t.size = false from decide_eq_false fun h => by omega]; rfl
   rw [e]
   go_enter Tryz.func39, Tryz.ntmps39
   go_wp2
   go_ret
   exact ⟨rfl, 0, rfl⟩
  ·by_cases h4 : (s.size : Int) - (t.size : Int) < i
   ·have e : laid s i t = s := by rw [laid, show B2.lies s.size i t.size = false from decide_eq_false fun h => by omega]; rfl
    rw [e]
    go_enter Tryz.func39, Tryz.ntmps39
    go_wp2
    go_ret
    exact ⟨rfl, 0, rfl⟩
   ·have e : laid s i t = s.extract 0 i.toNat ++ t ++ s.extract (i + t.size).toNat s.size := by rw [laid, show B2.lies s.size i t.size = true from decide_eq_true (by omega)]; rfl
    rw [e]
    have h5 : i ≤ (s.size : Int) := by omega
    have h6 : i + (t.size : Int) ≤ (s.size : Int) := by omega
    have h7 : 0 ≤ i + (t.size : Int) := by omega
    have z1 : (s.extract 0 i.toNat).size ≤ s.size := by simp only [ByteArray.size_extract]; omega
    have z2 : (s.extract (i + t.size).toNat s.size).size ≤ s.size := by simp only [ByteArray.size_extract]; omega
    have z3 : (s.extract 0 i.toNat).size + t.size ≤ 9223372036854775807 := by omega
    have z4 : (s.extract 0 i.toNat ++ t).size + (s.extract (i + t.size).toNat s.size).size ≤ 9223372036854775807 := by rw [ByteArray.size_append]; omega
    go_enter Tryz.func39, Tryz.ntmps39
    go_wp2
    go_quiet (fail)
    go_wp2
    go_ret
    exact ⟨rfl, _, rfl⟩
theorem laid_eq (s : ByteArray) (k : Nat) (t : ByteArray) (h : k + t.size ≤ s.size) :
  s.extract 0 k ++ t ++ s.extract (k + t.size) s.size = ⟨(s.data.toList.take k ++ t.data.toList ++ s.data.toList.drop (k + t.data.toList.length)).toArray⟩ := by
 apply ByteArray.ext
 apply Array.toList_inj.1
 have e1 : (s.data.toList.drop (k + t.data.toList.length)).take (s.size - (k + t.size)) = s.data.toList.drop (k + t.data.toList.length) :=
  List.take_of_length_le (by rw [List.length_drop, ← Lib.size_eq, ← Lib.size_eq]; omega)
 simp only [ByteArray.data_append, Array.toList_append, Lib.extract_data, List.drop_zero, Nat.sub_zero]
 rw [Lib.size_eq t] at *
 rw [e1]
theorem info8 : (Tryz.prog.info? 5).map (·.size) = some 1 := by kernel_rfl
theorem impl_With (s : ByteArray) (i : Int) (t : ByteArray) (w : World) (hs : s.size ≤ 281474976710656) (ht : t.size ≤ 281474976710656) :
  Calls Tryz.prog 30 #[.string s, .int .i64 i, .string t] w fun e w' => e = .returned (.string (laid s i t)) ∧ Below w.heap.size w w' := by
 have hs' : s.size ≤ maxLen := by unfold maxLen; omega
 obtain ⟨W, cap, hcv, hcap, hb, hz, hH, hF⟩ := B0.conv_to (P := Tryz.prog) w 9 22 5 s Tryz.underlying9 Tryz.underlying22 Tryz.underlying5
 have hlen : s.data.toList.length = s.size := (Lib.size_eq s).symm
 have hself : (⟨s.data.toList.toArray⟩ : ByteArray) = s := Lib.mk_data s
 have hback : (convert 22 9 (.slice (some ⟨w.heap.size, 0, none⟩) s.size cap)).run Tryz.prog W = .ok (.string s) W := by
  have := B0.conv_back (P := Tryz.prog) W 22 9 5 w.heap.size 0 cap s.data.toList Tryz.underlying22 Tryz.underlying5 Tryz.underlying9 hH s.size hlen.symm
  rwa [hself] at this
 by_cases h : B2.lies s.size i t.size = true
 ·obtain ⟨h1, h2, h3⟩ := B2.lies_true h
  have e : laid s i t = s.extract 0 i.toNat ++ t ++ s.extract (i + t.size).toNat s.size := by rw [laid, h]; rfl
  by_cases h0 : t.size = 0
  ·have e' : laid s i t = s := by
    rw [e, show (i + (t.size : Int)).toNat = i.toNat + t.size by omega, laid_eq s i.toNat t (by omega)]
    have : t.data.toList = [] := List.eq_nil_of_length_eq_zero (by rw [← Lib.size_eq]; exact h0)
    rw [this]
    simp
   have hcp : ∀ d dl dc W', (Builtin.copy_ #[22, 9] 3 #[.slice d dl dc, .string t]).run Tryz.prog W' = .ok (goInt 0) W' := fun d dl dc W' =>
    Lib.run_copy_empty_string W' 22 9 3 5 d dl dc t Tryz.underlying22 (by rw [info8]; rfl) h0
   rw [e']
   clear hH hF e e' hself h0
   by_cases h9 : cap = i.toNat
   ·subst h9
    go_enter Tryz.func30, Tryz.ntmps30
    go_wp2_with (go_at_call 65; refine (B2.liesIn_any _ _ _ _ hs').mono ?_; rintro e w' ⟨rfl, rfl⟩)
    go_ret
    exact ⟨rfl, hb⟩
   ·go_enter Tryz.func30, Tryz.ntmps30
    go_wp2_with (go_at_call 65; refine (B2.liesIn_any _ _ _ _ hs').mono ?_; rintro e w' ⟨rfl, rfl⟩)
    go_ret
    exact ⟨rfl, hb⟩
  ·have h9 : ¬ cap = i.toNat := by omega
   have htl : t.data.toList.length = t.size := (Lib.size_eq t).symm
   have hcp := B0.copy_str (P := Tryz.prog) W 22 9 3 5 w.heap.size i.toNat (s.size - i.toNat) (cap - i.toNat) t Tryz.underlying22 info8 (by omega)
    (fun j hj => by
     have := hH (i.toNat + j) (by omega)
     rw [Nat.zero_add] at this
     rw [this]
     rfl) (fun j hj => hF _ (by omega))
   have hH2 := B0.holds_with W w.heap.size s.data.toList t.data.toList i.toNat (by omega) hH
   have hb2 : Below w.heap.size w (W.setCells w.heap.size i.toNat (Lib.byteCells t.data.toList)) := B0.below_setCells (Nat.le_refl _) _ _ _ hb
   obtain ⟨W2, hW2⟩ : ∃ W2, W2 = W.setCells w.heap.size i.toNat (Lib.byteCells t.data.toList) := ⟨_, rfl⟩
   rw [← hW2] at hcp hH2 hb2
   have hback2 : (convert 22 9 (.slice (some ⟨w.heap.size, 0, none⟩) s.size cap)).run Tryz.prog W2 = .ok (.string (laid s i t)) W2 := by
    have := B0.conv_back (P := Tryz.prog) W2 22 9 5 w.heap.size 0 cap _ Tryz.underlying22 Tryz.underlying5 Tryz.underlying9 hH2 s.size (by simp; omega)
    rw [e, show (i + (t.size : Int)).toNat = i.toNat + t.size by omega, laid_eq s i.toNat t (by omega)]
    exact this
   clear hH hF hH2 hW2 e hself hback h0 hlen htl
   go_enter Tryz.func30, Tryz.ntmps30
   go_wp2_with (go_at_call 65; refine (B2.liesIn_any _ _ _ _ hs').mono ?_; rintro e w' ⟨rfl, rfl⟩)
   go_ret
   exact ⟨rfl, hb2⟩
 ·have h' : B2.lies s.size i t.size = false := by simpa using h
  have e : laid s i t = s := by rw [laid, h']; rfl
  rw [e]
  clear hH hF e hself
  go_enter Tryz.func30, Tryz.ntmps30
  go_wp2_with (go_at_call 65; refine (B2.liesIn_any _ _ _ _ hs').mono ?_; rintro e w' ⟨rfl, rfl⟩)
  go_ret
  exact ⟨rfl, hb⟩
end Go.Proofs.YtpkmeknniajahaaGreatDoor.B5
namespace Go.Proofs.YtpkmeknniajahaaGreatDoor.B1
open Go.ChangeShapes Go.WideShapes Go.ChangeAt Go.RowKit
def byteAt (s : ByteArray) (i : Int) : Int := if h : 0 ≤ i ∧ i < s.size then (s[i.toNat]'(by omega)).toNat else 0
theorem spec_ByteAt (s : ByteArray) (i : Int) (w : World) (hs : s.size ≤ maxLen) :
  Calls Tryz.prog 92 #[.string s, .int .i64 i] w fun e w' => e = .returned (.int .i64 (byteAt s i)) ∧ w' = w := by
 unfold maxLen at hs
 by_cases h : 0 ≤ i ∧ i < s.size
 ·have hin : inB i 0 ((s.size : Int) - 1) = true := by simp [inB]; omega
  have e : byteAt s i = (s[i.toNat]'(by omega)).toNat := by simp [byteAt, h]
  obtain ⟨h1, h2⟩ := h
  rw [e]
  have hb := (s[i.toNat]'(by omega)).toNat_lt
  go_enter Tryz.func92, Tryz.ntmps92
  go_wp2_with (go_at_call 70; refine (l01In_any _ _ _ _).mono ?_; rintro e w' ⟨rfl, rfl⟩)
  go_ret
  exact ⟨rfl, rfl⟩
 ·have hin : inB i 0 ((s.size : Int) - 1) = false := by simp [inB]; omega
  have e : byteAt s i = 0 := by simp [byteAt, h]
  rw [e]
  go_enter Tryz.func92, Tryz.ntmps92
  go_wp2_with (go_at_call 70; refine (l01In_any _ _ _ _).mono ?_; rintro e w' ⟨rfl, rfl⟩)
  go_ret
  exact ⟨rfl, rfl⟩
theorem impl_ByteAt (s : ByteArray) (i : Int) (w : World) (hs : s.size ≤ maxLen) :
  Calls Tryz.prog 136 #[.string s, .int .i64 i] w fun e w' => e = .returned (.int .i64 (byteAt s i)) ∧ w' = w := by
 unfold maxLen at hs
 by_cases h : 0 ≤ i ∧ i < s.size
 ·have e : byteAt s i = (s[i.toNat]'(by omega)).toNat := by simp [byteAt, h]
  obtain ⟨h1, h2⟩ := h
  rw [e]
  have hb := (s[i.toNat]'(by omega)).toNat_lt
  have h1' : ¬ i < 0 := by omega
  go_enter Tryz.func136, Tryz.ntmps136
  go_wp2
  go_ret
  exact ⟨rfl, rfl⟩
 ·have e : byteAt s i = 0 := by simp [byteAt, h]
  rw [e]
  by_cases h1 : i < 0
  ·go_enter Tryz.func136, Tryz.ntmps136
   go_wp2
   go_ret
   exact ⟨rfl, rfl⟩
  ·have h2 : (s.size : Int) ≤ i := by omega
   go_enter Tryz.func136, Tryz.ntmps136
   go_wp2
   go_ret
   exact ⟨rfl, rfl⟩
end Go.Proofs.YtpkmeknniajahaaGreatDoor.B1
namespace Go.Proofs.YtpkmeknniajahaaGreatDoor.E0
open Go
def chr (c : UInt8) : Bool := decide (97 ≤ c.toNat ∧ c.toNat ≤ 122) || (decide (48 ≤ c.toNat ∧ c.toNat ≤ 57) || decide (c.toNat = 46))
theorem chr_false {c : UInt8} (h : chr c = false) : ¬ (97 ≤ c.toNat ∧ c.toNat ≤ 122) ∧ ¬ (48 ≤ c.toNat ∧ c.toNat ≤ 57) ∧ ¬ c.toNat = 46 := by
 simp only [chr, Bool.or_eq_false_iff, decide_eq_false_iff_not] at h
 exact h
theorem chr_true {c : UInt8} (h : chr c = true) : (97 ≤ c.toNat ∧ c.toNat ≤ 122) ∨ (48 ≤ c.toNat ∧ c.toNat ≤ 57) ∨ c.toNat = 46 := by
 simp only [chr, Bool.or_eq_true, decide_eq_true_eq] at h
 exact h
def dot1 (s : ByteArray) : Bool := s.toList == [46]
def dot2 (s : ByteArray) : Bool := s.toList == [46, 46]
def nameOk (s : ByteArray) : Bool := s.data.toList.all chr && (B1.inB s.size 1 14 && (!dot1 s && !dot2 s))
def entryOk (i : Int) (s : ByteArray) : Bool := nameOk s && B1.inB i 1 7
theorem take_snoc (s : ByteArray) (k : Nat) (h : k < s.size) : s.data.toList.take (k + 1) = s.data.toList.take k ++ [s[k]] := by
 rw [List.take_succ_eq_append_getElem (by rw [← Lib.size_eq]; exact h)]
 rfl
theorem take_all (s : ByteArray) : s.data.toList.take s.size = s.data.toList := List.take_of_length_le (by rw [← Lib.size_eq]; exact Nat.le_refl _)
theorem all_snoc {s : ByteArray} {k : Nat} (h : k < s.size) (ha : (s.data.toList.take k).all chr = true) (hc : chr s[k] = true) : (s.data.toList.take (k + 1)).all chr = true := by
 rw [take_snoc s k h]
 simp only [List.all_append, List.all_cons, List.all_nil, Bool.and_true, Bool.and_eq_true]
 exact ⟨ha, hc⟩
theorem all_bad {s : ByteArray} {k : Nat} (hk : k < s.size) (h : chr s[k] = false) : s.data.toList.all chr = false := by
 rw [List.all_eq_false]
 refine ⟨s[k], ?_, by rw [h]; decide⟩
 have hk' : k < s.data.toList.length := by rw [← Lib.size_eq]; exact hk
 exact List.getElem_mem hk'
theorem nameOk_bad {s : ByteArray} {k : Nat} (hk : k < s.size) (h : chr s[k] = false) : nameOk s = false := by rw [nameOk, all_bad hk h]; rfl
theorem nameOk_all {s : ByteArray} (h : s.data.toList.all chr = true) : nameOk s = (B1.inB s.size 1 14 && (!dot1 s && !dot2 s)) := by rw [nameOk, h]; rfl
theorem nameOk_size {s : ByteArray} (h : nameOk s = true) : 1 ≤ s.size ∧ s.size ≤ 14 := by
 simp only [nameOk, Bool.and_eq_true] at h
 have := B1.inB_true h.2.1
 omega
theorem entryOk_true {i : Int} {s : ByteArray} (h : entryOk i s = true) : nameOk s = true ∧ (1 ≤ i ∧ i ≤ 7) := by
 simp only [entryOk, Bool.and_eq_true] at h
 exact ⟨h.1, B1.inB_true h.2⟩
def headOf (i : Int) (s : ByteArray) : ByteArray := ⟨#[UInt8.ofNat i.toNat, UInt8.ofNat s.size]⟩ ++ s
def putE (i : Int) (s : ByteArray) : ByteArray := if entryOk i s then headOf i s ++ B4.nulls (14 - s.size) else ⟨#[]⟩
theorem headOf_size (i : Int) (s : ByteArray) : (headOf i s).size = 2 + s.size := by
 rw [headOf, ByteArray.size_append]
 rfl
theorem laid_front (t : ByteArray) (n : Nat) (h : t.size ≤ n) : B5.laid (B4.nulls n) 0 t = t ++ B4.nulls (n - t.size) := by
 have hz := B4.nulls_size n
 rw [B5.laid, show B2.lies (B4.nulls n).size 0 t.size = true from decide_eq_true (by omega), if_pos rfl]
 have h2 : ((0 : Int) + (t.size : Int)).toNat = 0 + t.size := by omega
 rw [h2]
 have := B5.laid_eq (B4.nulls n) 0 t (by omega)
 rw [show ((0 : Int)).toNat = 0 from rfl, this]
 apply ByteArray.ext
 simp only [ByteArray.data_append]
 apply Array.toList_inj.1
 simp only [Array.toList_append, List.take_zero, List.nil_append, Nat.zero_add, B4.nulls, Array.toList_replicate, List.drop_replicate]
 rw [← Lib.size_eq]
end Go.Proofs.YtpkmeknniajahaaGreatDoor.E0
namespace Go.Proofs.YtpkmeknniajahaaGreatDoor.E1
open Go.ChangeShapes Go.WideShapes Go.ChangeAt Go.RowKit
theorem ret_bool {a b : Bool} (h : a = b) : Ending.returned (.bool a) = .returned (.bool b) := by rw [h]
theorem in_a (c : UInt8) : B1.inB (c.toNat : Int) 97 122 = decide (97 ≤ c.toNat ∧ c.toNat ≤ 122) := by
 unfold B1.inB
 rw [decide_eq_decide]
 omega
theorem in_0 (c : UInt8) : B1.inB (c.toNat : Int) 48 57 = decide (48 ≤ c.toNat ∧ c.toNat ≤ 57) := by
 unfold B1.inB
 rw [decide_eq_decide]
 omega
set_option maxHeartbeats 1000000 in
set_option maxRecDepth 4000 in
theorem spec_EntryOk (i : Int) (s : ByteArray) (w : World) (hs : s.size ≤ 281474976710656) :
  Calls Tryz.prog 111 #[.agg #[.int .i64 i, .string s]] w fun e w' => e = .returned (.bool (E0.entryOk i s)) ∧ w' = w.alloc (.cells #[.int .i64 i, .string s] 71) := by
 go_enter Tryz.func111, Tryz.ntmps111
 go_wp2
 go_loop [3] (fun t => ∃ k : Nat, k ≤ s.size ∧ (s.data.toList.take k).all E0.chr = true ∧ t = .int .i64 k) (fun t => s.size - (intOf t).toNat)
 case atStart => exact ⟨0, Nat.zero_le _, rfl, rfl⟩
 case round =>
  obtain ⟨k, hk, hall, rfl⟩ := hrel
  by_cases hlt : k < s.size
  ·have hc := s[k].toNat_lt
   have hi1 := in_a s[k]
   have hi2 := in_0 s[k]
   by_cases hd : E0.chr s[k] = true
   ·have HA : Hid ((s.data.toList.take (k + 1)).all E0.chr = true) := E0.all_snoc hlt hall hd
    have hcase := E0.chr_true hd
    clear hall hd
    by_cases h1 : 97 ≤ s[k].toNat ∧ s[k].toNat ≤ 122
    ·rw [decide_eq_true h1] at hi1
     clear hcase hi2
     go_wp2_with (go_at_call 70; refine (B1.l01In_any _ _ _ _).mono ?_; rintro e w' ⟨rfl, rfl⟩)
     go_round
     case rel => exact ⟨k + 1, by omega, HA.out, by go_num⟩
     case measure => simp [intOf]; omega
    ·rw [decide_eq_false h1] at hi1
     by_cases h2 : 48 ≤ s[k].toNat ∧ s[k].toNat ≤ 57
     ·rw [decide_eq_true h2] at hi2
      clear hcase
      go_wp2_with (go_at_call 70; refine (B1.l01In_any _ _ _ _).mono ?_; rintro e w' ⟨rfl, rfl⟩)
      go_round
      case rel => exact ⟨k + 1, by omega, HA.out, by go_num⟩
      case measure => simp [intOf]; omega
     ·rw [decide_eq_false h2] at hi2
      have h3 : ((s[k].toNat : Int) != 46) = false := by simp; omega
      clear hcase
      go_wp2_with (go_at_call 70; refine (B1.l01In_any _ _ _ _).mono ?_; rintro e w' ⟨rfl, rfl⟩)
      go_round
      case rel => exact ⟨k + 1, by omega, HA.out, by go_num⟩
      case measure => simp [intOf]; omega
   ·have hd' : E0.chr s[k] = false := by simpa using hd
    obtain ⟨n1, n2, n3⟩ := E0.chr_false hd'
    rw [decide_eq_false n1] at hi1
    rw [decide_eq_false n2] at hi2
    have h3 : ((s[k].toNat : Int) != 46) = true := by simp; omega
    have HR : Hid (E0.entryOk i s = false) := by rw [E0.entryOk, E0.nameOk_bad hlt hd']; rfl
    clear hall hd hd'
    go_wp2_with (go_at_call 70; refine (B1.l01In_any _ _ _ _).mono ?_; rintro e w' ⟨rfl, rfl⟩)
    go_ret
    exact ⟨ret_bool HR.out.symm, rfl⟩
  ·obtain rfl : k = s.size := by omega
   rw [E0.take_all] at hall
   have HR : Hid (E0.entryOk i s = ((B1.inB s.size 1 14 && (!(s.toList == [46]) && !(s.toList == [46, 46]))) && B1.inB i 1 7)) := by rw [E0.entryOk, E0.nameOk_all hall]; rfl
   clear hall
   by_cases h1 : B1.inB i 1 7 = true
   ·by_cases h2 : B1.inB s.size 1 14 = true
    ·by_cases h3 : (s.toList == [46]) = true
     ·go_wp2_with (go_at_call 70; refine (B1.l01In_any _ _ _ _).mono ?_; rintro e w' ⟨rfl, rfl⟩)
      go_ret
      exact ⟨ret_bool (by rw [HR.out, h1, h2, h3]; rfl), rfl⟩
     ·have h3' : (s.toList == [46]) = false := by simpa using h3
      by_cases h4 : (s.toList == [46, 46]) = true
      ·go_wp2_with (go_at_call 70; refine (B1.l01In_any _ _ _ _).mono ?_; rintro e w' ⟨rfl, rfl⟩)
       go_ret
       exact ⟨ret_bool (by rw [HR.out, h1, h2, h3', h4]; rfl), rfl⟩
      ·have h4' : (s.toList == [46, 46]) = false := by simpa using h4
       go_wp2_with (go_at_call 70; refine (B1.l01In_any _ _ _ _).mono ?_; rintro e w' ⟨rfl, rfl⟩)
       go_ret
       exact ⟨ret_bool (by rw [HR.out, h1, h2, h3', h4']; rfl), rfl⟩
    ·have h2' : B1.inB s.size 1 14 = false := by simpa using h2
     go_wp2_with (go_at_call 70; refine (B1.l01In_any _ _ _ _).mono ?_; rintro e w' ⟨rfl, rfl⟩)
     go_ret
     exact ⟨ret_bool (by rw [HR.out, h1, h2']; rfl), rfl⟩
   ·have h1' : B1.inB i 1 7 = false := by simpa using h1
    go_wp2_with (go_at_call 70; refine (B1.l01In_any _ _ _ _).mono ?_; rintro e w' ⟨rfl, rfl⟩)
    go_ret
    exact ⟨ret_bool (by rw [HR.out, h1', Bool.and_false]), rfl⟩
theorem below_iter (w : World) (s : ByteArray) (k : Nat) : Below w.heap.size w (w.iter s k) := (Below.refl _ w).alloc (Nat.le_refl _) _
set_option maxHeartbeats 1000000 in
set_option maxRecDepth 4000 in
theorem impl_nameOk (s : ByteArray) (w : World) (hs : s.size ≤ 281474976710656) :
  Calls Tryz.prog 151 #[.string s] w fun e w' => e = .returned (.bool (E0.nameOk s)) ∧ Below w.heap.size w w' := by
 by_cases z1 : (s.size : Int) < 1
 ·have HR : Hid (E0.nameOk s = false) := by rw [E0.nameOk, show B1.inB s.size 1 14 = false from decide_eq_false (by omega), Bool.false_and, Bool.and_false]; rfl
  go_enter Tryz.func151, Tryz.ntmps151
  go_wp2
  go_ret
  exact ⟨ret_bool HR.out.symm, Below.refl _ _⟩
 ·by_cases z2 : 14 < (s.size : Int)
  ·have HR : Hid (E0.nameOk s = false) := by rw [E0.nameOk, show B1.inB s.size 1 14 = false from decide_eq_false (by omega), Bool.false_and, Bool.and_false]; rfl
   go_enter Tryz.func151, Tryz.ntmps151
   go_wp2
   go_ret
   exact ⟨ret_bool HR.out.symm, Below.refl _ _⟩
  ·by_cases h3 : (s.toList == [46]) = true
   ·have HR : Hid (E0.nameOk s = false) := by rw [E0.nameOk, E0.dot1, h3, Bool.not_true, Bool.false_and, Bool.and_false, Bool.and_false]; rfl
    go_enter Tryz.func151, Tryz.ntmps151
    go_wp2
    go_ret
    exact ⟨ret_bool HR.out.symm, Below.refl _ _⟩
   ·have h3' : (s.toList == [46]) = false := by simpa using h3
    clear h3
    by_cases h4 : (s.toList == [46, 46]) = true
    ·have HR : Hid (E0.nameOk s = false) := by rw [E0.nameOk, E0.dot2, h4, Bool.not_true, Bool.and_false, Bool.and_false, Bool.and_false]; rfl
     go_enter Tryz.func151, Tryz.ntmps151
     go_wp2
     go_ret
     exact ⟨ret_bool HR.out.symm, Below.refl _ _⟩
    ·have h4' : (s.toList == [46, 46]) = false := by simpa using h4
     clear h4
     have HY : Hid (s.data.toList.all E0.chr = true → E0.nameOk s = true) := fun h => by
      rw [E0.nameOk_all h, E0.dot1, E0.dot2, h3', h4', show B1.inB s.size 1 14 = true from decide_eq_true (by omega)]
      rfl
     go_enter Tryz.func151, Tryz.ntmps151
     go_wp2
     go_loopw [] (fun w' => ∃ k : Nat, w' = w.iter s k ∧ k ≤ s.size ∧ (s.data.toList.take k).all E0.chr = true) (fun w' => s.size - w'.iterPos w.heap.size)
     case atStart => exact ⟨0, rfl, Nat.zero_le _, rfl⟩
     case round =>
      obtain ⟨k, rfl, hk, hall⟩ := hrel
      by_cases hlt : k < s.size
      ·have hc := s[k].toNat_lt
       by_cases ha : s[k].toNat < 128
       ·have hnx : ∀ ty, (Instr.next (.pointer (some ⟨w.heap.size, 0, none⟩)) true ty).run Tryz.prog (w.iter s k) = _ := fun ty => run_next_ascii w s k ty hlt ha
        by_cases hd : E0.chr s[k] = true
        ·have HA : Hid ((s.data.toList.take (k + 1)).all E0.chr = true) := E0.all_snoc hlt hall hd
         have hcase := E0.chr_true hd
         clear hall hd
         rcases hcase with ⟨c1, c2⟩ | ⟨c1, c2⟩ | c1
         ·have g1 : ((s[k].toNat : Int) != 46) = true := by simp; omega
          have g2 : ¬ (s[k].toNat : Int) < 48 := by omega
          have g3 : 57 < (s[k].toNat : Int) := by omega
          have g4 : ¬ (s[k].toNat : Int) < 97 := by omega
          have g5 : ¬ 122 < (s[k].toNat : Int) := by omega
          go_wp2
          go_roundw
          case rel => exact ⟨k + 1, rfl, by omega, HA.out⟩
          case measure => simp; omega
         ·have g1 : ((s[k].toNat : Int) != 46) = true := by simp; omega
          have g2 : ¬ (s[k].toNat : Int) < 48 := by omega
          have g3 : ¬ 57 < (s[k].toNat : Int) := by omega
          go_wp2
          go_roundw
          case rel => exact ⟨k + 1, rfl, by omega, HA.out⟩
          case measure => simp; omega
         ·have g1 : ((s[k].toNat : Int) != 46) = false := by simp; omega
          clear c1
          go_wp2
          go_roundw
          case rel => exact ⟨k + 1, rfl, by omega, HA.out⟩
          case measure => simp; omega
        ·have hd' : E0.chr s[k] = false := by simpa using hd
         obtain ⟨n1, n2, n3⟩ := E0.chr_false hd'
         have HR : Hid (E0.nameOk s = false) := E0.nameOk_bad hlt hd'
         have g1 : ((s[k].toNat : Int) != 46) = true := by simp; omega
         clear hall hd hd' n3
         by_cases g2 : (s[k].toNat : Int) < 48
         ·have g3 : (s[k].toNat : Int) < 97 := by omega
          go_wp2
          go_ret
          exact ⟨ret_bool HR.out.symm, below_iter _ _ _⟩
         ·have g3 : 57 < (s[k].toNat : Int) := by omega
          by_cases g4 : (s[k].toNat : Int) < 97
          ·go_wp2
           go_ret
           exact ⟨ret_bool HR.out.symm, below_iter _ _ _⟩
          ·have g5 : 122 < (s[k].toNat : Int) := by omega
           go_wp2
           go_ret
           exact ⟨ret_bool HR.out.symm, below_iter _ _ _⟩
       ·have hnx : ∀ ty, (Instr.next (.pointer (some ⟨w.heap.size, 0, none⟩)) true ty).run Tryz.prog (w.iter s k) = _ := fun ty => run_next_any w s k ty hlt
        have hh := (decode_high s k hlt (by omega)).1
        have g1 : (((Utf8.decode s k).1 : Int) != 46) = true := by simp; omega
        have g2 : ¬ ((Utf8.decode s k).1 : Int) < 48 := by omega
        have g3 : 57 < ((Utf8.decode s k).1 : Int) := by omega
        have g4 : ¬ ((Utf8.decode s k).1 : Int) < 97 := by omega
        have g5 : 122 < ((Utf8.decode s k).1 : Int) := by omega
        have HR : Hid (E0.nameOk s = false) := E0.nameOk_bad hlt (by
         have : ∀ c : UInt8, ¬ c.toNat < 128 → E0.chr c = false := fun c h => by
          simp only [E0.chr, Bool.or_eq_false_iff, decide_eq_false_iff_not]
          omega
         exact this _ ha)
        clear hall
        go_wp2
        go_ret
        exact ⟨ret_bool HR.out.symm, below_iter _ _ _⟩
      ·obtain rfl : k = s.size := by omega
       have hnx : ∀ ty, (Instr.next (.pointer (some ⟨w.heap.size, 0, none⟩)) true ty).run Tryz.prog (w.iter s s.size) = _ := fun ty => run_next_end w s s.size ty hlt
       rw [E0.take_all] at hall
       have HR : Hid (E0.nameOk s = true) := HY.out hall
       clear hall
       go_wp2
       go_ret
       exact ⟨ret_bool HR.out.symm, below_iter _ _ _⟩
theorem impl_EntryOk (i : Int) (s : ByteArray) (w : World) (hs : s.size ≤ 281474976710656) :
  Calls Tryz.prog 141 #[.agg #[.int .i64 i, .string s]] w fun e w' => e = .returned (.bool (E0.entryOk i s)) ∧ Below w.heap.size w w' := by
 have hb0 : Below w.heap.size w (w.alloc (.cells #[.int .i64 i, .string s] 71)) := (Below.refl _ _).alloc (Nat.le_refl _) _
 by_cases h1 : 1 ≤ i
 ·by_cases h2 : i < 8
  ·have HR : Hid (E0.entryOk i s = E0.nameOk s) := by rw [E0.entryOk, show B1.inB i 1 7 = true from decide_eq_true (by omega), Bool.and_true]; rfl
   go_enter Tryz.func141, Tryz.ntmps141
   go_wp2_with (go_at_call 151; refine (impl_nameOk _ _ hs).mono ?_; rintro e w' ⟨rfl, hb⟩)
   go_ret
   exact ⟨ret_bool HR.out.symm, hb0.trans (hb.mono hb0.size)⟩
  ·have HR : Hid (E0.entryOk i s = false) := by rw [E0.entryOk, show B1.inB i 1 7 = false from decide_eq_false (by omega), Bool.and_false]; rfl
   have h2' : decide (i < 8) = false := by simpa using h2
   go_enter Tryz.func141, Tryz.ntmps141
   go_wp2
   go_ret
   exact ⟨ret_bool HR.out.symm, hb0⟩
 ·have HR : Hid (E0.entryOk i s = false) := by rw [E0.entryOk, show B1.inB i 1 7 = false from decide_eq_false (by omega), Bool.and_false]; rfl
  have h1' : decide (1 ≤ i) = false := by simpa using h1
  go_enter Tryz.func141, Tryz.ntmps141
  go_wp2
  go_ret
  exact ⟨ret_bool HR.out.symm, hb0⟩
end Go.Proofs.YtpkmeknniajahaaGreatDoor.E1
namespace Go.Proofs.YtpkmeknniajahaaGreatDoor.B3
open Go.ChangeShapes Go.WideShapes Go.ChangeAt Go.RowKit
def pair (n : Int) : ByteArray := if B1.inB n 0 65535 then ⟨#[UInt8.ofNat (n % 256).toNat, UInt8.ofNat (n / 256).toNat]⟩ else ⟨#[]⟩
theorem ofNat_int (n : Int) (h0 : 0 ≤ n) (h1 : n < 256) : ((UInt8.ofNat n.toNat).toNat : Int) = n := by
 have : n.toNat < 256 := by omega
 simp [Nat.mod_eq_of_lt this]
 omega
theorem conv2 (x y : Int) (hx : 0 ≤ x ∧ x < 256) (hy : 0 ≤ y ∧ y < 256) (w : World) :
  (convert 22 9 (.slice (some ⟨w.heap.size, 0, none⟩) 2 2)).run Tryz.prog (w.alloc (.cells #[.int .u8 x, .int .u8 y] 5)) = .ok (.string ⟨#[UInt8.ofNat x.toNat, UInt8.ofNat y.toNat]⟩) (w.alloc (.cells #[.int .u8 x, .int .u8 y] 5)) :=
 B0.conv_back _ 22 9 5 _ 0 2 [UInt8.ofNat x.toNat, UInt8.ofNat y.toNat] Tryz.underlying22 Tryz.underlying5 Tryz.underlying9
  (B0.holds_new _ _ _ _ _ fun j hj => by
   match j, hj with
   | 0, _ => simp only [List.getElem_cons_zero, ofNat_int x hx.1 hx.2]; rfl
   | 1, _ => simp only [List.getElem_cons_succ, List.getElem_cons_zero, ofNat_int y hy.1 hy.2]; rfl) 2 rfl
theorem spec_Pair (n : Int) (w : World) :
  Calls Tryz.prog 72 #[.int .i64 n] w fun e w' => e = .returned (.string (pair n)) ∧ Below w.heap.size w w' := by
 by_cases h : B1.inB n 0 65535 = true
 ·have e : pair n = ⟨#[UInt8.ofNat (n % 256).toNat, UInt8.ofNat (n / 256).toNat]⟩ := by rw [pair, h]; rfl
  rw [e]
  obtain ⟨h1, h2⟩ := B1.inB_true h
  have hc := conv2 (n % 256) (n / 256) (by omega) (by omega)
  go_enter Tryz.func72, Tryz.ntmps72
  go_wp2_with (go_at_call 70; refine (B1.l01In_any _ _ _ _).mono ?_; rintro e w' ⟨rfl, rfl⟩)
  go_ret
  exact ⟨rfl, by go_grown⟩
 ·have h' : B1.inB n 0 65535 = false := by simpa using h
  have e : pair n = ⟨#[]⟩ := by rw [pair, h']; rfl
  rw [e]
  go_enter Tryz.func72, Tryz.ntmps72
  go_wp2_with (go_at_call 70; refine (B1.l01In_any _ _ _ _).mono ?_; rintro e w' ⟨rfl, rfl⟩)
  go_ret
  exact ⟨rfl, Below.refl _ _⟩
theorem impl_Pair (n : Int) (w : World) :
  Calls Tryz.prog 91 #[.int .i64 n] w fun e w' => e = .returned (.string (pair n)) ∧ Below w.heap.size w w' := by
 by_cases h1 : n < 0
 ·have e : pair n = ⟨#[]⟩ := by rw [pair, show B1.inB n 0 65535 = false from decide_eq_false (by omega)]; rfl
  rw [e]
  go_enter Tryz.func91, Tryz.ntmps91
  go_wp2
  go_ret
  exact ⟨rfl, Below.refl _ _⟩
 ·by_cases h2 : 65535 < n
  ·have e : pair n = ⟨#[]⟩ := by rw [pair, show B1.inB n 0 65535 = false from decide_eq_false (by omega)]; rfl
   rw [e]
   go_enter Tryz.func91, Tryz.ntmps91
   go_wp2
   go_ret
   exact ⟨rfl, Below.refl _ _⟩
  ·have e : pair n = ⟨#[UInt8.ofNat (n % 256).toNat, UInt8.ofNat (n / 256).toNat]⟩ := by rw [pair, show B1.inB n 0 65535 = true from decide_eq_true (by omega)]; rfl
   rw [e]
   have hc := conv2 (n % 256) (n / 256) (by omega) (by omega)
   go_enter Tryz.func91, Tryz.ntmps91
   go_wp2
   go_ret
   exact ⟨rfl, by go_grown⟩
end Go.Proofs.YtpkmeknniajahaaGreatDoor.B3
namespace Go.Proofs.YtpkmeknniajahaaGreatDoor.E2
open Go.ChangeShapes Go.WideShapes Go.ChangeAt Go.RowKit
theorem ret_str {a b : ByteArray} (h : a = b) : Ending.returned (.string a) = .returned (.string b) := by rw [h]
structure Bx (B : Nat) (w : World) (i : Int) (s : ByteArray) (W : World) : Prop where
 c0 : W.cell? ⟨B, 0, none⟩ = some (.int .i64 i)
 c1 : W.cell? ⟨B, 1, none⟩ = some (.string s)
 lt : B < W.heap.size
 bel : Below B w W
variable {B : Nat} {w W W' : World} {i : Int} {s : ByteArray}
theorem Bx.below (h : Bx B w i s W) (hb : Below W.heap.size W W') : Bx B w i s W' :=
 ⟨(hb.cell (p := ⟨B, 0, none⟩) h.lt).trans h.c0, (hb.cell (p := ⟨B, 1, none⟩) h.lt).trans h.c1, Nat.lt_of_lt_of_le h.lt hb.size, h.bel.trans (hb.mono (Nat.le_of_lt h.lt))⟩
theorem Bx.alloc (h : Bx B w i s W) (o : Obj) : Bx B w i s (W.alloc o) := h.below ((Below.refl _ _).alloc (Nat.le_refl _) o)
theorem Bx.drew (h : Bx B w i s W) : Bx B w i s W.drew := ⟨h.c0, h.c1, h.lt, h.bel.drew⟩
theorem bx_new (i : Int) (s : ByteArray) (w : World) (T : TypeId) : Bx w.heap.size w i s (w.alloc (.cells #[.int .i64 i, .string s] T)) := by
 refine ⟨?_, ?_, ?_, ?_⟩
 all_goals first | exact (Below.refl _ _).alloc (Nat.le_refl _) _ | (simp [go_sem]; done) | (simp; done)
theorem spec_EntryOk_bx (hs : s.size ≤ 281474976710656) (h : Bx B w i s W) :
  Calls Tryz.prog 111 #[.agg #[.int .i64 i, .string s]] W fun e w' => e = .returned (.bool (E0.entryOk i s)) ∧ Bx B w i s w' :=
 (E1.spec_EntryOk i s W hs).mono fun _ _ ⟨he, hb⟩ => ⟨he, hb ▸ h.alloc _⟩
theorem impl_EntryOk_bx (hs : s.size ≤ 281474976710656) (h : Bx B w i s W) :
  Calls Tryz.prog 141 #[.agg #[.int .i64 i, .string s]] W fun e w' => e = .returned (.bool (E0.entryOk i s)) ∧ Bx B w i s w' :=
 (E1.impl_EntryOk i s W hs).mono fun _ _ ⟨he, hb⟩ => ⟨he, h.below hb⟩
theorem zeros_bx (n : Int) (h : Bx B w i s W) :
  Calls Tryz.prog 31 #[.int .i64 n] W fun e w' => e = .returned (.string (B4.zeros n)) ∧ Bx B w i s w' :=
 (B4.impl_Zeros n W).mono fun _ _ ⟨he, hb⟩ => ⟨he, h.below hb⟩
theorem with_bx (a : ByteArray) (k : Int) (t : ByteArray) (hs : a.size ≤ 281474976710656) (ht : t.size ≤ 281474976710656) (h : Bx B w i s W) :
  Calls Tryz.prog 30 #[.string a, .int .i64 k, .string t] W fun e w' => e = .returned (.string (B5.laid a k t)) ∧ Bx B w i s w' :=
 (B5.impl_With a k t W hs ht).mono fun _ _ ⟨he, hb⟩ => ⟨he, h.below hb⟩
theorem head_eq (hi : 1 ≤ i ∧ i ≤ 7) (hs : s.size ≤ 14) : (⟨#[UInt8.ofNat i.toNat, UInt8.ofNat ((s.size : Int)).toNat]⟩ : ByteArray) ++ s = E0.headOf i s := by
 rw [E0.headOf, Int.toNat_natCast]
set_option maxHeartbeats 1000000 in
set_option maxRecDepth 4000 in
theorem spec_PutEntry (i : Int) (s : ByteArray) (w : World) (hs : s.size ≤ 281474976710656) :
  Calls Tryz.prog 80 #[.agg #[.int .i64 i, .string s]] w fun e w' => e = .returned (.string (E0.putE i s)) ∧ Below w.heap.size w w' := by
 have h0 := bx_new i s w 71
 by_cases hok : E0.entryOk i s = true
 ·obtain ⟨hn, hi⟩ := E0.entryOk_true hok
  have hz := E0.nameOk_size hn
  have hc := B3.conv2 i (s.size : Int) (by omega) (by omega)
  obtain ⟨X, hX⟩ : ∃ X : ByteArray, X = ⟨#[UInt8.ofNat i.toNat, UInt8.ofNat ((s.size : Int)).toNat]⟩ := ⟨_, rfl⟩
  have hXs : X.size = 2 := by rw [hX]; rfl
  have HP : Hid (E0.putE i s = (X ++ s) ++ B4.zeros (16 - ((X.size : Int) + (s.size : Int)))) := by
   rw [E0.putE, if_pos hok, hXs, hX, head_eq hi hz.2, B4.zeros, if_pos (by omega), show (16 - (((2 : Nat) : Int) + (s.size : Int))).toNat = 14 - s.size by omega]
   rfl
  have z1 : X.size + s.size ≤ 9223372036854775807 := by omega
  have z2 : (X.size : Int) + (s.size : Int) ≤ 16 := by omega
  have z3 : X.size + s.size + (B4.zeros (16 - ((X.size : Int) + (s.size : Int)))).size ≤ 9223372036854775807 := by
   rw [B4.zeros, if_pos (by omega), B4.nulls_size]
   omega
  rw [← hX] at hc
  clear hX hXs
  go_enter Tryz.func80, Tryz.ntmps80
  go_wp2_with (first
   | (go_at_call 111; refine (spec_EntryOk_bx hs h0).mono ?_; rintro e w1 ⟨rfl, h1⟩; have c0 := h1.c0; have c1 := h1.c1; have h1a := h1.alloc (.cells #[.int .u8 i, .int .u8 (s.size : Int)] 5); have d0 := h1a.c0; have d1 := h1a.c1)
   | (go_at_call 40; refine (B4.spec_Zeros _ _).mono ?_; rintro e w2 ⟨rfl, rfl⟩))
  go_ret
  exact ⟨ret_str HP.out.symm, h1a.bel⟩
 ·have hok' : E0.entryOk i s = false := by simpa using hok
  have HP : Hid (E0.putE i s = ⟨#[]⟩) := by rw [E0.putE, if_neg hok]; rfl
  go_enter Tryz.func80, Tryz.ntmps80
  go_wp2_with (go_at_call 111; refine (spec_EntryOk_bx hs h0).mono ?_; rintro e w1 ⟨rfl, h1⟩)
  go_ret
  exact ⟨ret_str HP.out.symm, h1.bel⟩
set_option maxHeartbeats 1000000 in
set_option maxRecDepth 4000 in
theorem impl_PutEntry (i : Int) (s : ByteArray) (w : World) (hs : s.size ≤ 281474976710656) :
  Calls Tryz.prog 140 #[.agg #[.int .i64 i, .string s]] w fun e w' => e = .returned (.string (E0.putE i s)) ∧ Below w.heap.size w w' := by
 have h0 := bx_new i s w 71
 by_cases hok : E0.entryOk i s = true
 ·obtain ⟨hn, hi⟩ := E0.entryOk_true hok
  have hz := E0.nameOk_size hn
  have hc := B3.conv2 i (s.size : Int) (by omega) (by omega)
  obtain ⟨X, hX⟩ : ∃ X : ByteArray, X = ⟨#[UInt8.ofNat i.toNat, UInt8.ofNat ((s.size : Int)).toNat]⟩ := ⟨_, rfl⟩
  have hXs : X.size = 2 := by rw [hX]; rfl
  have z2 : (X ++ s).size = 2 + s.size := by rw [ByteArray.size_append, hXs]
  have HP : Hid (E0.putE i s = B5.laid (B4.zeros 16) 0 (X ++ s)) := by
   rw [E0.putE, if_pos hok, B4.zeros, if_pos (by decide), show ((16 : Int)).toNat = 16 from rfl, E0.laid_front _ 16 (by omega), z2, hX, head_eq hi hz.2, show 16 - (2 + s.size) = 14 - s.size by omega]
   rfl
  have z1 : X.size + s.size ≤ 9223372036854775807 := by omega
  have z4 : (X ++ s).size ≤ 281474976710656 := by omega
  have z5 : (B4.zeros 16).size ≤ 281474976710656 := by decide
  rw [← hX] at hc
  clear hX hXs z2
  go_enter Tryz.func140, Tryz.ntmps140
  go_wp2_with (go_at_call 141; refine (impl_EntryOk_bx hs h0).mono ?_; rintro e w1 ⟨rfl, h1⟩; have c0 := h1.c0; have c1 := h1.c1; have h1a := h1.alloc (.cells #[.int .u8 i, .int .u8 (s.size : Int)] 5); have d0 := h1a.c0; have d1 := h1a.c1; have h1d := h1a.drew)
  go_region_with (first
   | (go_at_call 31; refine (zeros_bx _ (by assumption)).mono ?_; rintro e w4 ⟨rfl, h4⟩; have x0 := h4.c0; have x1 := h4.c1)
   | (go_at_call 30; refine (with_bx _ _ _ z5 z4 (by assumption)).mono ?_; rintro e w5 ⟨rfl, h5⟩))
  all_goals
   go_wp2
   go_ret
   exact ⟨ret_str HP.out.symm, h5.bel⟩
 ·have hok' : E0.entryOk i s = false := by simpa using hok
  have HP : Hid (E0.putE i s = ⟨#[]⟩) := by rw [E0.putE, if_neg hok]; rfl
  go_enter Tryz.func140, Tryz.ntmps140
  go_wp2_with (go_at_call 141; refine (impl_EntryOk_bx hs h0).mono ?_; rintro e w1 ⟨rfl, h1⟩)
  go_ret
  exact ⟨ret_str HP.out.symm, h1.bel⟩
end Go.Proofs.YtpkmeknniajahaaGreatDoor.E2
