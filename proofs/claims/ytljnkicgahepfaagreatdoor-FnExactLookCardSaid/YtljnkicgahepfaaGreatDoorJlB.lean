/- Joined texts: plain facts and contracts. -/
import Derived.Test.YtljnkicgahepfaaGreatDoorJlA
import Derived.Laws.RangeString
import Derived.Laws.RangeAny
import Derived.Handy
import Derived.Deep.RegionWith
import Derived.WalkKit
import Derived.Below
import Derived.Deep.QuietTactic
import Derived.Lib.SmallJoins
import Derived.OpenShut
import Derived.ShutString
set_option linter.unusedVariables false
set_option linter.unusedSimpArgs false
set_option maxRecDepth 10000
namespace Go.Proofs.YtljnkicgahepfaaGreatDoor.E1
open Go.ChangeShapes Go.WideShapes Go.ChangeAt Go.RowKit
theorem ret_bool {a b : Bool} (h : a = b) : Ending.returned (.bool a) = .returned (.bool b) := by rw [h]
theorem in_a (c : UInt8) : B1.inB (c.toNat : Int) 97 122 = decide (97 ≤ c.toNat ∧ c.toNat ≤ 122) := by
 unfold B1.inB
 rw [decide_eq_decide]
 omega
theorem in_0 (c : UInt8) : B1.inB (c.toNat : Int) 48 57 = decide (48 ≤ c.toNat ∧ c.toNat ≤ 57) := by
 unfold B1.inB
 rw [decide_eq_decide]
 omega
set_option maxHeartbeats 1000000 in
set_option maxRecDepth 4000 in
theorem spec_EntryOk (i : Int) (s : ByteArray) (w : World) (hs : s.size ≤ 281474976710656) :
  Calls Tryz.prog 279 #[.agg #[.int .i64 i, .string s]] w fun e w' => e = .returned (.bool (E0.entryOk i s)) ∧ w' = w.alloc (.cells #[.int .i64 i, .string s] 188) := by
 go_enter Tryz.func279, Tryz.ntmps279
 go_wp2
 go_loop [3] (fun t => ∃ k : Nat, k ≤ s.size ∧ (s.data.toList.take k).all E0.chr = true ∧ t = .int .i64 k) (fun t => s.size - (intOf t).toNat)
 case atStart => exact ⟨0, Nat.zero_le _, rfl, rfl⟩
 case round =>
  obtain ⟨k, hk, hall, rfl⟩ := hrel
  by_cases hlt : k < s.size
  ·have hc := s[k].toNat_lt
   have hi1 := in_a s[k]
   have hi2 := in_0 s[k]
   by_cases hd : E0.chr s[k] = true
   ·have HA : Hid ((s.data.toList.take (k + 1)).all E0.chr = true) := E0.all_snoc hlt hall hd
    have hcase := E0.chr_true hd
    clear hall hd
    by_cases h1 : 97 ≤ s[k].toNat ∧ s[k].toNat ≤ 122
    ·rw [decide_eq_true h1] at hi1
     clear hcase hi2
     go_wp2_with (go_at_call 44; refine (B1.l01In_any _ _ _ _).mono ?_; rintro e w' ⟨rfl, rfl⟩)
     go_round
     case rel => exact ⟨k + 1, by omega, HA.out, by go_num⟩
     case measure => simp [intOf]; omega
    ·rw [decide_eq_false h1] at hi1
     by_cases h2 : 48 ≤ s[k].toNat ∧ s[k].toNat ≤ 57
     ·rw [decide_eq_true h2] at hi2
      clear hcase
      go_wp2_with (go_at_call 44; refine (B1.l01In_any _ _ _ _).mono ?_; rintro e w' ⟨rfl, rfl⟩)
      go_round
      case rel => exact ⟨k + 1, by omega, HA.out, by go_num⟩
      case measure => simp [intOf]; omega
     ·rw [decide_eq_false h2] at hi2
      have h3 : ((s[k].toNat : Int) != 46) = false := by simp; omega
      clear hcase
      go_wp2_with (go_at_call 44; refine (B1.l01In_any _ _ _ _).mono ?_; rintro e w' ⟨rfl, rfl⟩)
      go_round
      case rel => exact ⟨k + 1, by omega, HA.out, by go_num⟩
      case measure => simp [intOf]; omega
   ·have hd' : E0.chr s[k] = false := by simpa using hd
    obtain ⟨n1, n2, n3⟩ := E0.chr_false hd'
    rw [decide_eq_false n1] at hi1
    rw [decide_eq_false n2] at hi2
    have h3 : ((s[k].toNat : Int) != 46) = true := by simp; omega
    have HR : Hid (E0.entryOk i s = false) := by rw [E0.entryOk, E0.nameOk_bad hlt hd']; rfl
    clear hall hd hd'
    go_wp2_with (go_at_call 44; refine (B1.l01In_any _ _ _ _).mono ?_; rintro e w' ⟨rfl, rfl⟩)
    go_ret
    exact ⟨ret_bool HR.out.symm, rfl⟩
  ·obtain rfl : k = s.size := by omega
   rw [E0.take_all] at hall
   have HR : Hid (E0.entryOk i s = ((B1.inB s.size 1 14 && (!(s.toList == [46]) && !(s.toList == [46, 46]))) && B1.inB i 1 7)) := by rw [E0.entryOk, E0.nameOk_all hall]; rfl
   clear hall
   by_cases h1 : B1.inB i 1 7 = true
   ·by_cases h2 : B1.inB s.size 1 14 = true
    ·by_cases h3 : (s.toList == [46]) = true
     ·go_wp2_with (go_at_call 44; refine (B1.l01In_any _ _ _ _).mono ?_; rintro e w' ⟨rfl, rfl⟩)
      go_ret
      exact ⟨ret_bool (by rw [HR.out, h1, h2, h3]; rfl), rfl⟩
     ·have h3' : (s.toList == [46]) = false := by simpa using h3
      by_cases h4 : (s.toList == [46, 46]) = true
      ·go_wp2_with (go_at_call 44; refine (B1.l01In_any _ _ _ _).mono ?_; rintro e w' ⟨rfl, rfl⟩)
       go_ret
       exact ⟨ret_bool (by rw [HR.out, h1, h2, h3', h4]; rfl), rfl⟩
      ·have h4' : (s.toList == [46, 46]) = false := by simpa using h4
       go_wp2_with (go_at_call 44; refine (B1.l01In_any _ _ _ _).mono ?_; rintro e w' ⟨rfl, rfl⟩)
       go_ret
       exact ⟨ret_bool (by rw [HR.out, h1, h2, h3', h4']; rfl), rfl⟩
    ·have h2' : B1.inB s.size 1 14 = false := by simpa using h2
     go_wp2_with (go_at_call 44; refine (B1.l01In_any _ _ _ _).mono ?_; rintro e w' ⟨rfl, rfl⟩)
     go_ret
     exact ⟨ret_bool (by rw [HR.out, h1, h2']; rfl), rfl⟩
   ·have h1' : B1.inB i 1 7 = false := by simpa using h1
    go_wp2_with (go_at_call 44; refine (B1.l01In_any _ _ _ _).mono ?_; rintro e w' ⟨rfl, rfl⟩)
    go_ret
    exact ⟨ret_bool (by rw [HR.out, h1', Bool.and_false]), rfl⟩
theorem below_iter (w : World) (s : ByteArray) (k : Nat) : Below w.heap.size w (w.iter s k) := (Below.refl _ w).alloc (Nat.le_refl _) _
set_option maxHeartbeats 1000000 in
set_option maxRecDepth 4000 in
theorem impl_nameOk (s : ByteArray) (w : World) (hs : s.size ≤ 281474976710656) :
  Calls Tryz.prog 315 #[.string s] w fun e w' => e = .returned (.bool (E0.nameOk s)) ∧ Below w.heap.size w w' := by
 by_cases z1 : (s.size : Int) < 1
 ·have HR : Hid (E0.nameOk s = false) := by rw [E0.nameOk, show B1.inB s.size 1 14 = false from decide_eq_false (by omega), Bool.false_and, Bool.and_false]; rfl
  go_enter Tryz.func315, Tryz.ntmps315
  go_wp2
  go_ret
  exact ⟨ret_bool HR.out.symm, Below.refl _ _⟩
 ·by_cases z2 : 14 < (s.size : Int)
  ·have HR : Hid (E0.nameOk s = false) := by rw [E0.nameOk, show B1.inB s.size 1 14 = false from decide_eq_false (by omega), Bool.false_and, Bool.and_false]; rfl
   go_enter Tryz.func315, Tryz.ntmps315
   go_wp2
   go_ret
   exact ⟨ret_bool HR.out.symm, Below.refl _ _⟩
  ·by_cases h3 : (s.toList == [46]) = true
   ·have HR : Hid (E0.nameOk s = false) := by rw [E0.nameOk, E0.dot1, h3, Bool.not_true, Bool.false_and, Bool.and_false, Bool.and_false]; rfl
    go_enter Tryz.func315, Tryz.ntmps315
    go_wp2
    go_ret
    exact ⟨ret_bool HR.out.symm, Below.refl _ _⟩
   ·have h3' : (s.toList == [46]) = false := by simpa using h3
    clear h3
    by_cases h4 : (s.toList == [46, 46]) = true
    ·have HR : Hid (E0.nameOk s = false) := by rw [E0.nameOk, E0.dot2, h4, Bool.not_true, Bool.and_false, Bool.and_false, Bool.and_false]; rfl
     go_enter Tryz.func315, Tryz.ntmps315
     go_wp2
     go_ret
     exact ⟨ret_bool HR.out.symm, Below.refl _ _⟩
    ·have h4' : (s.toList == [46, 46]) = false := by simpa using h4
     clear h4
     have HY : Hid (s.data.toList.all E0.chr = true → E0.nameOk s = true) := fun h => by
      rw [E0.nameOk_all h, E0.dot1, E0.dot2, h3', h4', show B1.inB s.size 1 14 = true from decide_eq_true (by omega)]
      rfl
     go_enter Tryz.func315, Tryz.ntmps315
     go_wp2
     go_loopw [] (fun w' => ∃ k : Nat, w' = w.iter s k ∧ k ≤ s.size ∧ (s.data.toList.take k).all E0.chr = true) (fun w' => s.size - w'.iterPos w.heap.size)
     case atStart => exact ⟨0, rfl, Nat.zero_le _, rfl⟩
     case round =>
      obtain ⟨k, rfl, hk, hall⟩ := hrel
      by_cases hlt : k < s.size
      ·have hc := s[k].toNat_lt
       by_cases ha : s[k].toNat < 128
       ·have hnx : ∀ ty, (Instr.next (.pointer (some ⟨w.heap.size, 0, none⟩)) true ty).run Tryz.prog (w.iter s k) = _ := fun ty => run_next_ascii w s k ty hlt ha
        by_cases hd : E0.chr s[k] = true
        ·have HA : Hid ((s.data.toList.take (k + 1)).all E0.chr = true) := E0.all_snoc hlt hall hd
         have hcase := E0.chr_true hd
         clear hall hd
         rcases hcase with ⟨c1, c2⟩ | ⟨c1, c2⟩ | c1
         ·have g1 : ((s[k].toNat : Int) != 46) = true := by simp; omega
          have g2 : ¬ (s[k].toNat : Int) < 48 := by omega
          have g3 : 57 < (s[k].toNat : Int) := by omega
          have g4 : ¬ (s[k].toNat : Int) < 97 := by omega
          have g5 : ¬ 122 < (s[k].toNat : Int) := by omega
          go_wp2
          go_roundw
          case rel => exact ⟨k + 1, rfl, by omega, HA.out⟩
          case measure => simp; omega
         ·have g1 : ((s[k].toNat : Int) != 46) = true := by simp; omega
          have g2 : ¬ (s[k].toNat : Int) < 48 := by omega
          have g3 : ¬ 57 < (s[k].toNat : Int) := by omega
          go_wp2
          go_roundw
          case rel => exact ⟨k + 1, rfl, by omega, HA.out⟩
          case measure => simp; omega
         ·have g1 : ((s[k].toNat : Int) != 46) = false := by simp; omega
          clear c1
          go_wp2
          go_roundw
          case rel => exact ⟨k + 1, rfl, by omega, HA.out⟩
          case measure => simp; omega
        ·have hd' : E0.chr s[k] = false := by simpa using hd
         obtain ⟨n1, n2, n3⟩ := E0.chr_false hd'
         have HR : Hid (E0.nameOk s = false) := E0.nameOk_bad hlt hd'
         have g1 : ((s[k].toNat : Int) != 46) = true := by simp; omega
         clear hall hd hd' n3
         by_cases g2 : (s[k].toNat : Int) < 48
         ·have g3 : (s[k].toNat : Int) < 97 := by omega
          go_wp2
          go_ret
          exact ⟨ret_bool HR.out.symm, below_iter _ _ _⟩
         ·have g3 : 57 < (s[k].toNat : Int) := by omega
          by_cases g4 : (s[k].toNat : Int) < 97
          ·go_wp2
           go_ret
           exact ⟨ret_bool HR.out.symm, below_iter _ _ _⟩
          ·have g5 : 122 < (s[k].toNat : Int) := by omega
           go_wp2
           go_ret
           exact ⟨ret_bool HR.out.symm, below_iter _ _ _⟩
       ·have hnx : ∀ ty, (Instr.next (.pointer (some ⟨w.heap.size, 0, none⟩)) true ty).run Tryz.prog (w.iter s k) = _ := fun ty => run_next_any w s k ty hlt
        have hh := (decode_high s k hlt (by omega)).1
        have g1 : (((Utf8.decode s k).1 : Int) != 46) = true := by simp; omega
        have g2 : ¬ ((Utf8.decode s k).1 : Int) < 48 := by omega
        have g3 : 57 < ((Utf8.decode s k).1 : Int) := by omega
        have g4 : ¬ ((Utf8.decode s k).1 : Int) < 97 := by omega
        have g5 : 122 < ((Utf8.decode s k).1 : Int) := by omega
        have HR : Hid (E0.nameOk s = false) := E0.nameOk_bad hlt (by
         have : ∀ c : UInt8, ¬ c.toNat < 128 → E0.chr c = false := fun c h => by
          simp only [E0.chr, Bool.or_eq_false_iff, decide_eq_false_iff_not]
          omega
         exact this _ ha)
        clear hall
        go_wp2
        go_ret
        exact ⟨ret_bool HR.out.symm, below_iter _ _ _⟩
      ·obtain rfl : k = s.size := by omega
       have hnx : ∀ ty, (Instr.next (.pointer (some ⟨w.heap.size, 0, none⟩)) true ty).run Tryz.prog (w.iter s s.size) = _ := fun ty => run_next_end w s s.size ty hlt
       rw [E0.take_all] at hall
       have HR : Hid (E0.nameOk s = true) := HY.out hall
       clear hall
       go_wp2
       go_ret
       exact ⟨ret_bool HR.out.symm, below_iter _ _ _⟩
theorem impl_EntryOk (i : Int) (s : ByteArray) (w : World) (hs : s.size ≤ 281474976710656) :
  Calls Tryz.prog 296 #[.agg #[.int .i64 i, .string s]] w fun e w' => e = .returned (.bool (E0.entryOk i s)) ∧ Below w.heap.size w w' := by
 have hb0 : Below w.heap.size w (w.alloc (.cells #[.int .i64 i, .string s] 188)) := (Below.refl _ _).alloc (Nat.le_refl _) _
 by_cases h1 : 1 ≤ i
 ·by_cases h2 : i < 8
  ·have HR : Hid (E0.entryOk i s = E0.nameOk s) := by rw [E0.entryOk, show B1.inB i 1 7 = true from decide_eq_true (by omega), Bool.and_true]; rfl
   go_enter Tryz.func296, Tryz.ntmps296
   go_wp2_with (go_at_call 315; refine (impl_nameOk _ _ hs).mono ?_; rintro e w' ⟨rfl, hb⟩)
   go_ret
   exact ⟨ret_bool HR.out.symm, hb0.trans (hb.mono hb0.size)⟩
  ·have HR : Hid (E0.entryOk i s = false) := by rw [E0.entryOk, show B1.inB i 1 7 = false from decide_eq_false (by omega), Bool.and_false]; rfl
   have h2' : decide (i < 8) = false := by simpa using h2
   go_enter Tryz.func296, Tryz.ntmps296
   go_wp2
   go_ret
   exact ⟨ret_bool HR.out.symm, hb0⟩
 ·have HR : Hid (E0.entryOk i s = false) := by rw [E0.entryOk, show B1.inB i 1 7 = false from decide_eq_false (by omega), Bool.and_false]; rfl
  have h1' : decide (1 ≤ i) = false := by simpa using h1
  go_enter Tryz.func296, Tryz.ntmps296
  go_wp2
  go_ret
  exact ⟨ret_bool HR.out.symm, hb0⟩
end Go.Proofs.YtljnkicgahepfaaGreatDoor.E1
namespace Go.Proofs.YtljnkicgahepfaaGreatDoor.B3
open Go.ChangeShapes Go.WideShapes Go.ChangeAt Go.RowKit
def pair (n : Int) : ByteArray := if B1.inB n 0 65535 then ⟨#[UInt8.ofNat (n % 256).toNat, UInt8.ofNat (n / 256).toNat]⟩ else ⟨#[]⟩
theorem ofNat_int (n : Int) (h0 : 0 ≤ n) (h1 : n < 256) : ((UInt8.ofNat n.toNat).toNat : Int) = n := by
 have : n.toNat < 256 := by omega
 simp [Nat.mod_eq_of_lt this]
 omega
theorem conv2 (x y : Int) (hx : 0 ≤ x ∧ x < 256) (hy : 0 ≤ y ∧ y < 256) (w : World) :
  (convert 22 9 (.slice (some ⟨w.heap.size, 0, none⟩) 2 2)).run Tryz.prog (w.alloc (.cells #[.int .u8 x, .int .u8 y] 5)) = .ok (.string ⟨#[UInt8.ofNat x.toNat, UInt8.ofNat y.toNat]⟩) (w.alloc (.cells #[.int .u8 x, .int .u8 y] 5)) :=
 B0.conv_back _ 22 9 5 _ 0 2 [UInt8.ofNat x.toNat, UInt8.ofNat y.toNat] Tryz.underlying22 Tryz.underlying5 Tryz.underlying9
  (B0.holds_new _ _ _ _ _ fun j hj => by
   match j, hj with
   | 0, _ => simp only [List.getElem_cons_zero, ofNat_int x hx.1 hx.2]; rfl
   | 1, _ => simp only [List.getElem_cons_succ, List.getElem_cons_zero, ofNat_int y hy.1 hy.2]; rfl) 2 rfl
theorem spec_Pair (n : Int) (w : World) :
  Calls Tryz.prog 225 #[.int .i64 n] w fun e w' => e = .returned (.string (pair n)) ∧ Below w.heap.size w w' := by
 by_cases h : B1.inB n 0 65535 = true
 ·have e : pair n = ⟨#[UInt8.ofNat (n % 256).toNat, UInt8.ofNat (n / 256).toNat]⟩ := by rw [pair, h]; rfl
  rw [e]
  obtain ⟨h1, h2⟩ := B1.inB_true h
  have hc := conv2 (n % 256) (n / 256) (by omega) (by omega)
  go_enter Tryz.func225, Tryz.ntmps225
  go_wp2_with (go_at_call 44; refine (B1.l01In_any _ _ _ _).mono ?_; rintro e w' ⟨rfl, rfl⟩)
  go_ret
  exact ⟨rfl, by go_grown⟩
 ·have h' : B1.inB n 0 65535 = false := by simpa using h
  have e : pair n = ⟨#[]⟩ := by rw [pair, h']; rfl
  rw [e]
  go_enter Tryz.func225, Tryz.ntmps225
  go_wp2_with (go_at_call 44; refine (B1.l01In_any _ _ _ _).mono ?_; rintro e w' ⟨rfl, rfl⟩)
  go_ret
  exact ⟨rfl, Below.refl _ _⟩
theorem impl_Pair (n : Int) (w : World) :
  Calls Tryz.prog 314 #[.int .i64 n] w fun e w' => e = .returned (.string (pair n)) ∧ Below w.heap.size w w' := by
 by_cases h1 : n < 0
 ·have e : pair n = ⟨#[]⟩ := by rw [pair, show B1.inB n 0 65535 = false from decide_eq_false (by omega)]; rfl
  rw [e]
  go_enter Tryz.func314, Tryz.ntmps314
  go_wp2
  go_ret
  exact ⟨rfl, Below.refl _ _⟩
 ·by_cases h2 : 65535 < n
  ·have e : pair n = ⟨#[]⟩ := by rw [pair, show B1.inB n 0 65535 = false from decide_eq_false (by omega)]; rfl
   rw [e]
   go_enter Tryz.func314, Tryz.ntmps314
   go_wp2
   go_ret
   exact ⟨rfl, Below.refl _ _⟩
  ·have e : pair n = ⟨#[UInt8.ofNat (n % 256).toNat, UInt8.ofNat (n / 256).toNat]⟩ := by rw [pair, show B1.inB n 0 65535 = true from decide_eq_true (by omega)]; rfl
   rw [e]
   have hc := conv2 (n % 256) (n / 256) (by omega) (by omega)
   go_enter Tryz.func314, Tryz.ntmps314
   go_wp2
   go_ret
   exact ⟨rfl, by go_grown⟩
end Go.Proofs.YtljnkicgahepfaaGreatDoor.B3
namespace Go.Proofs.YtljnkicgahepfaaGreatDoor.E2
open Go.ChangeShapes Go.WideShapes Go.ChangeAt Go.RowKit
theorem ret_str {a b : ByteArray} (h : a = b) : Ending.returned (.string a) = .returned (.string b) := by rw [h]
structure Bx (B : Nat) (w : World) (i : Int) (s : ByteArray) (W : World) : Prop where
 c0 : W.cell? ⟨B, 0, none⟩ = some (.int .i64 i)
 c1 : W.cell? ⟨B, 1, none⟩ = some (.string s)
 lt : B < W.heap.size
 bel : Below B w W
variable {B : Nat} {w W W' : World} {i : Int} {s : ByteArray}
theorem Bx.below (h : Bx B w i s W) (hb : Below W.heap.size W W') : Bx B w i s W' :=
 ⟨(hb.cell (p := ⟨B, 0, none⟩) h.lt).trans h.c0, (hb.cell (p := ⟨B, 1, none⟩) h.lt).trans h.c1, Nat.lt_of_lt_of_le h.lt hb.size, h.bel.trans (hb.mono (Nat.le_of_lt h.lt))⟩
theorem Bx.alloc (h : Bx B w i s W) (o : Obj) : Bx B w i s (W.alloc o) := h.below ((Below.refl _ _).alloc (Nat.le_refl _) o)
theorem Bx.drew (h : Bx B w i s W) : Bx B w i s W.drew := ⟨h.c0, h.c1, h.lt, h.bel.drew⟩
theorem bx_new (i : Int) (s : ByteArray) (w : World) (T : TypeId) : Bx w.heap.size w i s (w.alloc (.cells #[.int .i64 i, .string s] T)) := by
 refine ⟨?_, ?_, ?_, ?_⟩
 all_goals first | exact (Below.refl _ _).alloc (Nat.le_refl _) _ | (simp [go_sem]; done) | (simp; done)
theorem spec_EntryOk_bx (hs : s.size ≤ 281474976710656) (h : Bx B w i s W) :
  Calls Tryz.prog 279 #[.agg #[.int .i64 i, .string s]] W fun e w' => e = .returned (.bool (E0.entryOk i s)) ∧ Bx B w i s w' :=
 (E1.spec_EntryOk i s W hs).mono fun _ _ ⟨he, hb⟩ => ⟨he, hb ▸ h.alloc _⟩
theorem impl_EntryOk_bx (hs : s.size ≤ 281474976710656) (h : Bx B w i s W) :
  Calls Tryz.prog 296 #[.agg #[.int .i64 i, .string s]] W fun e w' => e = .returned (.bool (E0.entryOk i s)) ∧ Bx B w i s w' :=
 (E1.impl_EntryOk i s W hs).mono fun _ _ ⟨he, hb⟩ => ⟨he, h.below hb⟩
theorem zeros_bx (n : Int) (h : Bx B w i s W) :
  Calls Tryz.prog 132 #[.int .i64 n] W fun e w' => e = .returned (.string (B4.zeros n)) ∧ Bx B w i s w' :=
 (B4.impl_Zeros n W).mono fun _ _ ⟨he, hb⟩ => ⟨he, h.below hb⟩
theorem with_bx (a : ByteArray) (k : Int) (t : ByteArray) (hs : a.size ≤ 281474976710656) (ht : t.size ≤ 281474976710656) (h : Bx B w i s W) :
  Calls Tryz.prog 131 #[.string a, .int .i64 k, .string t] W fun e w' => e = .returned (.string (B5.laid a k t)) ∧ Bx B w i s w' :=
 (B5.impl_With a k t W hs ht).mono fun _ _ ⟨he, hb⟩ => ⟨he, h.below hb⟩
theorem head_eq (hi : 1 ≤ i ∧ i ≤ 7) (hs : s.size ≤ 14) : (⟨#[UInt8.ofNat i.toNat, UInt8.ofNat ((s.size : Int)).toNat]⟩ : ByteArray) ++ s = E0.headOf i s := by
 rw [E0.headOf, Int.toNat_natCast]
set_option maxHeartbeats 1000000 in
set_option maxRecDepth 4000 in
theorem spec_PutEntry (i : Int) (s : ByteArray) (w : World) (hs : s.size ≤ 281474976710656) :
  Calls Tryz.prog 226 #[.agg #[.int .i64 i, .string s]] w fun e w' => e = .returned (.string (E0.putE i s)) ∧ Below w.heap.size w w' := by
 have h0 := bx_new i s w 188
 by_cases hok : E0.entryOk i s = true
 ·obtain ⟨hn, hi⟩ := E0.entryOk_true hok
  have hz := E0.nameOk_size hn
  have hc := B3.conv2 i (s.size : Int) (by omega) (by omega)
  obtain ⟨X, hX⟩ : ∃ X : ByteArray, X = ⟨#[UInt8.ofNat i.toNat, UInt8.ofNat ((s.size : Int)).toNat]⟩ := ⟨_, rfl⟩
  have hXs : X.size = 2 := by rw [hX]; rfl
  have HP : Hid (E0.putE i s = (X ++ s) ++ B4.zeros (16 - ((X.size : Int) + (s.size : Int)))) := by
   rw [E0.putE, if_pos hok, hXs, hX, head_eq hi hz.2, B4.zeros, if_pos (by omega), show (16 - (((2 : Nat) : Int) + (s.size : Int))).toNat = 14 - s.size by omega]
   rfl
  have z1 : X.size + s.size ≤ 9223372036854775807 := by omega
  have z2 : (X.size : Int) + (s.size : Int) ≤ 16 := by omega
  have z3 : X.size + s.size + (B4.zeros (16 - ((X.size : Int) + (s.size : Int)))).size ≤ 9223372036854775807 := by
   rw [B4.zeros, if_pos (by omega), B4.nulls_size]
   omega
  rw [← hX] at hc
  clear hX hXs
  go_enter Tryz.func226, Tryz.ntmps226
  go_wp2_with (first
   | (go_at_call 279; refine (spec_EntryOk_bx hs h0).mono ?_; rintro e w1 ⟨rfl, h1⟩; have c0 := h1.c0; have c1 := h1.c1; have h1a := h1.alloc (.cells #[.int .u8 i, .int .u8 (s.size : Int)] 5); have d0 := h1a.c0; have d1 := h1a.c1)
   | (go_at_call 111; refine (B4.spec_Zeros _ _).mono ?_; rintro e w2 ⟨rfl, rfl⟩))
  go_ret
  exact ⟨ret_str HP.out.symm, h1a.bel⟩
 ·have hok' : E0.entryOk i s = false := by simpa using hok
  have HP : Hid (E0.putE i s = ⟨#[]⟩) := by rw [E0.putE, if_neg hok]; rfl
  go_enter Tryz.func226, Tryz.ntmps226
  go_wp2_with (go_at_call 279; refine (spec_EntryOk_bx hs h0).mono ?_; rintro e w1 ⟨rfl, h1⟩)
  go_ret
  exact ⟨ret_str HP.out.symm, h1.bel⟩
set_option maxHeartbeats 1000000 in
set_option maxRecDepth 4000 in
theorem impl_PutEntry (i : Int) (s : ByteArray) (w : World) (hs : s.size ≤ 281474976710656) :
  Calls Tryz.prog 295 #[.agg #[.int .i64 i, .string s]] w fun e w' => e = .returned (.string (E0.putE i s)) ∧ Below w.heap.size w w' := by
 have h0 := bx_new i s w 188
 by_cases hok : E0.entryOk i s = true
 ·obtain ⟨hn, hi⟩ := E0.entryOk_true hok
  have hz := E0.nameOk_size hn
  have hc := B3.conv2 i (s.size : Int) (by omega) (by omega)
  obtain ⟨X, hX⟩ : ∃ X : ByteArray, X = ⟨#[UInt8.ofNat i.toNat, UInt8.ofNat ((s.size : Int)).toNat]⟩ := ⟨_, rfl⟩
  have hXs : X.size = 2 := by rw [hX]; rfl
  have z2 : (X ++ s).size = 2 + s.size := by rw [ByteArray.size_append, hXs]
  have HP : Hid (E0.putE i s = B5.laid (B4.zeros 16) 0 (X ++ s)) := by
   rw [E0.putE, if_pos hok, B4.zeros, if_pos (by decide), show ((16 : Int)).toNat = 16 from rfl, E0.laid_front _ 16 (by omega), z2, hX, head_eq hi hz.2, show 16 - (2 + s.size) = 14 - s.size by omega]
   rfl
  have z1 : X.size + s.size ≤ 9223372036854775807 := by omega
  have z4 : (X ++ s).size ≤ 281474976710656 := by omega
  have z5 : (B4.zeros 16).size ≤ 281474976710656 := by decide
  rw [← hX] at hc
  clear hX hXs z2
  go_enter Tryz.func295, Tryz.ntmps295
  go_wp2_with (go_at_call 296; refine (impl_EntryOk_bx hs h0).mono ?_; rintro e w1 ⟨rfl, h1⟩; have c0 := h1.c0; have c1 := h1.c1; have h1a := h1.alloc (.cells #[.int .u8 i, .int .u8 (s.size : Int)] 5); have d0 := h1a.c0; have d1 := h1a.c1; have h1d := h1a.drew)
  go_region_with (first
   | (go_at_call 132; refine (zeros_bx _ (by assumption)).mono ?_; rintro e w4 ⟨rfl, h4⟩; have x0 := h4.c0; have x1 := h4.c1)
   | (go_at_call 131; refine (with_bx _ _ _ z5 z4 (by assumption)).mono ?_; rintro e w5 ⟨rfl, h5⟩))
  all_goals
   go_wp2
   go_ret
   exact ⟨ret_str HP.out.symm, h5.bel⟩
 ·have hok' : E0.entryOk i s = false := by simpa using hok
  have HP : Hid (E0.putE i s = ⟨#[]⟩) := by rw [E0.putE, if_neg hok]; rfl
  go_enter Tryz.func295, Tryz.ntmps295
  go_wp2_with (go_at_call 296; refine (impl_EntryOk_bx hs h0).mono ?_; rintro e w1 ⟨rfl, h1⟩)
  go_ret
  exact ⟨ret_str HP.out.symm, h1.bel⟩
end Go.Proofs.YtljnkicgahepfaaGreatDoor.E2
namespace Go.Proofs.YtljnkicgahepfaaGreatDoor.K0
open Go.RowKit
structure Blk (B : Nat) (vs : List Value) (W : World) : Prop where
 cell : ∀ j (h : j < vs.length), W.cell? ⟨B, j, none⟩ = some vs[j]
 free : ∀ j, j < vs.length → W.frozen? ⟨B, j, none⟩ = false
 lt : B < W.heap.size
variable {B : Nat} {vs : List Value} {w W W' : World}
theorem Blk.below (h : Blk B vs W) (hb : Below W.heap.size W W') : Blk B vs W' :=
 ⟨fun j hj => (hb.cell (p := ⟨B, j, none⟩) h.lt).trans (h.cell j hj), fun j hj => (hb.frozen (p := ⟨B, j, none⟩) h.lt).trans (h.free j hj), Nat.lt_of_lt_of_le h.lt hb.size⟩
theorem Blk.alloc (h : Blk B vs W) (o : Obj) : Blk B vs (W.alloc o) := h.below ((Below.refl _ _).alloc (Nat.le_refl _) o)
theorem Blk.drew (h : Blk B vs W) : Blk B vs W.drew := ⟨h.cell, h.free, h.lt⟩
theorem Blk.drewN (h : Blk B vs W) (n : Nat) : Blk B vs (W.drewN n) := ⟨h.cell, h.free, h.lt⟩
theorem blk_new (vs : List Value) (w : World) (T : TypeId) : Blk w.heap.size vs (w.alloc (.cells vs.toArray T)) := by
 refine ⟨fun j hj => ?_, fun j hj => ?_, ?_⟩
 ·rw [World.cell?_alloc_mark]
  simp [hj]
 ·have h := World.frozen?_alloc_mark w vs.toArray T 0 0 j
  rw [h]
  simp
 ·simp
theorem blk_at (vs : List Value) (w : World) (T : TypeId) (hB : w.heap.size = B) : Blk B vs (w.alloc (.cells vs.toArray T)) := hB ▸ blk_new vs w T
theorem Blk.set (h : Blk B vs W) (j : Nat) (v : Value) : Blk B (vs.set j v) (W.setCell ⟨B, j, none⟩ v) := by
 refine ⟨fun k hk => ?_, fun k hk => ?_, ?_⟩
 ·have hk' : k < vs.length := by simpa using hk
  by_cases e : j = k
  ·subst e
   rw [World.cell?_setCell_same _ _ _ (h.cell j hk')]
   simp
  ·rw [World.cell?_setCell_other _ _ _ _ (fun x => e (Addr.mk.inj x).2.1), h.cell k hk', List.getElem_set_ne e]
 ·rw [World.frozen?_setCell]
  exact h.free k (by simpa using hk)
 ·have := h.lt
  simpa [World.setCell] using this
theorem Blk.setOther (h : Blk B vs W) {B' : Nat} (hne : B' ≠ B) (j : Nat) (v : Value) : Blk B vs (W.setCell ⟨B', j, none⟩ v) := by
 refine ⟨fun k hk => ?_, fun k hk => ?_, ?_⟩
 ·rw [World.cell?_setCell_other _ _ _ _ (fun x => hne (Addr.mk.inj x).1)]
  exact h.cell k hk
 ·rw [World.frozen?_setCell]
  exact h.free k hk
 ·have := h.lt
  simpa [World.setCell] using this
theorem Blk.c0 {a : Value} {l : List Value} (h : Blk B (a :: l) W) : W.cell? ⟨B, 0, none⟩ = some a := h.cell 0 (by simp)
theorem Blk.c1 {a b : Value} {l : List Value} (h : Blk B (a :: b :: l) W) : W.cell? ⟨B, 1, none⟩ = some b := h.cell 1 (by simp)
theorem Blk.c2 {a b c : Value} {l : List Value} (h : Blk B (a :: b :: c :: l) W) : W.cell? ⟨B, 2, none⟩ = some c := h.cell 2 (by simp)
theorem Blk.c3 {a b c d : Value} {l : List Value} (h : Blk B (a :: b :: c :: d :: l) W) : W.cell? ⟨B, 3, none⟩ = some d := h.cell 3 (by simp)
theorem Blk.f0 {a : Value} {l : List Value} (h : Blk B (a :: l) W) : W.frozen? ⟨B, 0, none⟩ = false := h.free 0 (by simp)
theorem Blk.f1 {a b : Value} {l : List Value} (h : Blk B (a :: b :: l) W) : W.frozen? ⟨B, 1, none⟩ = false := h.free 1 (by simp)
theorem Blk.f2 {a b c : Value} {l : List Value} (h : Blk B (a :: b :: c :: l) W) : W.frozen? ⟨B, 2, none⟩ = false := h.free 2 (by simp)
theorem Blk.f3 {a b c d : Value} {l : List Value} (h : Blk B (a :: b :: c :: d :: l) W) : W.frozen? ⟨B, 3, none⟩ = false := h.free 3 (by simp)
theorem Blk.put2 {a b : Value} (h : Blk B [a, b] W) (x y : Value) : Blk B [x, y] ((W.setCell ⟨B, 0, none⟩ x).setCell ⟨B, 1, none⟩ y) := (h.set 0 x).set 1 y
theorem Blk.put4 {a b c d : Value} (h : Blk B [a, b, c, d] W) (x y z u : Value) : Blk B [x, y, z, u] ((((W.setCell ⟨B, 0, none⟩ x).setCell ⟨B, 1, none⟩ y).setCell ⟨B, 2, none⟩ z).setCell ⟨B, 3, none⟩ u) := (((h.set 0 x).set 1 y).set 2 z).set 3 u
theorem below_drewN {B : Nat} {a w : World} (h : Below B a w) (n : Nat) : Below B a (w.drewN n) := ⟨h.os, h.tape, h.output, h.size, h.block⟩
theorem below_new (w : World) (o : Obj) : Below w.heap.size w (w.alloc o) := (Below.refl _ _).alloc (Nat.le_refl _) o
end Go.Proofs.YtljnkicgahepfaaGreatDoor.K0
namespace Go.Proofs.YtljnkicgahepfaaGreatDoor.T0
open Go.RowKit
abbrev Ent := Int × ByteArray
def clash (o e : Ent) : Bool := (o.2.toList == e.2.toList) || (o.1 == e.1)
def taken (es : List Ent) (e : Ent) : Bool := es.any fun o => clash o e
def ent (es : List Ent) (k : Nat) : Ent := es.getD k (0, ⟨#[]⟩)
theorem ent_get (es : List Ent) (k : Nat) (h : k < es.length) : ent es k = es[k] := by simp [ent, List.getD, h]
theorem taken_succ (es : List Ent) (k : Nat) (e : Ent) (h : k < es.length) : taken (es.take (k + 1)) e = (taken (es.take k) e || clash (ent es k) e) := by
 rw [taken, taken, List.take_succ_eq_append_getElem h, List.any_append, ent_get es k h]
 simp
theorem taken_of {es : List Ent} {k n : Nat} {e : Ent} (hk : k < n) (hn : n ≤ es.length) (h : clash (ent es k) e = true) : taken (es.take n) e = true := by
 rw [taken, List.any_eq_true]
 refine ⟨ent es k, ?_, h⟩
 rw [ent_get es k (by omega)]
 exact List.mem_iff_getElem.2 ⟨k, by simp; omega, by simp⟩
def okAt (es : List Ent) (i : Nat) : Bool := E0.entryOk (ent es i).1 (ent es i).2 && !(taken (es.take i) (ent es i))
def okUpto (es : List Ent) (k : Nat) : Bool := (List.range k).all (okAt es)
def dirOk (es : List Ent) : Bool := decide (es.length ≤ 12) && okUpto es es.length
theorem okUpto_succ (es : List Ent) (k : Nat) : okUpto es (k + 1) = (okUpto es k && okAt es k) := by simp [okUpto, List.range_succ]
theorem okUpto_bad {es : List Ent} {k n : Nat} (hk : k < n) (h : okAt es k = false) : okUpto es n = false := by
 rw [okUpto, List.all_eq_false]
 exact ⟨k, List.mem_range.2 hk, by rw [h]; decide⟩
theorem dirOk_bad {es : List Ent} {k : Nat} (hk : k < es.length) (h : okAt es k = false) : dirOk es = false := by rw [dirOk, okUpto_bad hk h, Bool.and_false]
def joined (es : List Ent) : Nat → ByteArray
 | 0 => ⟨#[]⟩
 | k + 1 => joined es k ++ E0.putE (ent es k).1 (ent es k).2
def putD (es : List Ent) : ByteArray := if dirOk es then joined es es.length else ⟨#[]⟩
theorem putE_size16 {i : Int} {s : ByteArray} (h : E0.entryOk i s = true) : (E0.putE i s).size = 16 := by
 have := E0.nameOk_size (E0.entryOk_true h).1
 rw [E0.putE, if_pos h, ByteArray.size_append, E0.headOf_size, B4.nulls_size]
 omega
theorem okAt_entry {es : List Ent} {k : Nat} (h : okAt es k = true) : E0.entryOk (ent es k).1 (ent es k).2 = true ∧ taken (es.take k) (ent es k) = false := by
 simp only [okAt, Bool.and_eq_true, Bool.not_eq_true'] at h
 exact h
theorem okUpto_at {es : List Ent} {n k : Nat} (h : okUpto es n = true) (hk : k < n) : okAt es k = true := by
 cases hb : okAt es k with
 | true => rfl
 | false => rw [okUpto_bad hk hb] at h; cases h
theorem joined_size {es : List Ent} {n : Nat} (h : okUpto es n = true) : ∀ k, k ≤ n → (joined es k).size = 16 * k
 | 0, _ => rfl
 | k + 1, hk => by
  rw [joined, ByteArray.size_append, joined_size h k (by omega), putE_size16 (okAt_entry (okUpto_at h (by omega : k < n))).1]
  omega
def Row (W : World) (a : Option Addr) (es : List Ent) : Prop := es = [] ∨ ∃ b off, a = some ⟨b, off, none⟩ ∧ b < W.heap.size ∧ ∀ j, j < es.length → W.cell? ⟨b, off + j * 2, none⟩ = some (.int .i64 (ent es j).1) ∧ W.cell? ⟨b, off + j * 2 + 1, none⟩ = some (.string (ent es j).2)
theorem Row.below {W W' : World} {a : Option Addr} {es : List Ent} (h : Row W a es) (hb : Below W.heap.size W W') : Row W' a es := by
 rcases h with h | ⟨b, off, ha, hlt, hc⟩
 ·exact Or.inl h
 ·exact Or.inr ⟨b, off, ha, Nat.lt_of_lt_of_le hlt hb.size, fun j hj => ⟨(hb.cell (p := ⟨b, off + j * 2, none⟩) hlt).trans (hc j hj).1, (hb.cell (p := ⟨b, off + j * 2 + 1, none⟩) hlt).trans (hc j hj).2⟩⟩
theorem Row.drewN {W : World} {a : Option Addr} {es : List Ent} (h : Row W a es) (n : Nat) : Row (W.drewN n) a es := h
theorem Row.get {W : World} {a : Option Addr} {es : List Ent} {k : Nat} (h : Row W a es) (hk : k < es.length) : ∃ b off, a = some ⟨b, off, none⟩ ∧ b < W.heap.size ∧ ∀ j, j < es.length → W.cell? ⟨b, off + j * 2, none⟩ = some (.int .i64 (ent es j).1) ∧ W.cell? ⟨b, off + j * 2 + 1, none⟩ = some (.string (ent es j).2) := by
 rcases h with h | h
 ·subst h
  simp at hk
 ·exact h
theorem Row.take {W : World} {b off n : Nat} {es : List Ent} (hlt : b < W.heap.size) (hn : n ≤ es.length) (hc : ∀ j, j < es.length → W.cell? ⟨b, off + j * 2, none⟩ = some (.int .i64 (ent es j).1) ∧ W.cell? ⟨b, off + j * 2 + 1, none⟩ = some (.string (ent es j).2)) : Row W (some ⟨b, off, none⟩) (es.take n) := by
 refine Or.inr ⟨b, off, rfl, hlt, fun j hj => ?_⟩
 have hj' : j < n := by simp at hj; omega
 have e : ent (es.take n) j = ent es j := by simp [ent, List.getD, hj']
 rw [e]
 exact hc j (by omega)
def Fits (es : List Ent) : Prop := ∀ j, j < es.length → (ent es j).2.size ≤ 281474976710656
end Go.Proofs.YtljnkicgahepfaaGreatDoor.T0
