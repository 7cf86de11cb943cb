/- Joined texts: plain facts and contracts. -/
import Derived.Test.YthbcefopbmkppaaGreatJlB
import Derived.Laws.RangeString
import Derived.Laws.RangeAny
import Derived.Handy
import Derived.Deep.RegionWith
import Derived.Lib.SmallJoins
import Derived.OpenShut
import Derived.ShutString
import Derived.Test.YthbcefopbmkppaaGreatJlA
set_option linter.unusedVariables false
set_option linter.unusedSimpArgs false
set_option maxRecDepth 10000
namespace Go.Proofs.YthbcefopbmkppaaGreat.E1
open Go.ChangeShapes Go.WideShapes Go.ChangeAt Go.RowKit
theorem ret_bool {a b : Bool} (h : a = b) : Ending.returned (.bool a) = .returned (.bool b) := by rw [h]
theorem in_a (c : UInt8) : B1.inB (c.toNat : Int) 97 122 = decide (97 ≤ c.toNat ∧ c.toNat ≤ 122) := by
 unfold B1.inB
 rw [decide_eq_decide]
 omega
theorem in_0 (c : UInt8) : B1.inB (c.toNat : Int) 48 57 = decide (48 ≤ c.toNat ∧ c.toNat ≤ 57) := by
 unfold B1.inB
 rw [decide_eq_decide]
 omega
set_option maxHeartbeats 1000000 in
set_option maxRecDepth 4000 in
theorem spec_EntryOk (i : Int) (s : ByteArray) (w : World) (hs : s.size ≤ 281474976710656) :
  Calls Tryz.prog 83 #[.agg #[.int .i64 i, .string s]] w fun e w' => e = .returned (.bool (E0.entryOk i s)) ∧ w' = w.alloc (.cells #[.int .i64 i, .string s] 88) := by
 go_enter Tryz.func83, Tryz.ntmps83
 go_wp2
 go_loop [3] (fun t => ∃ k : Nat, k ≤ s.size ∧ (s.data.toList.take k).all E0.chr = true ∧ t = .int .i64 k) (fun t => s.size - (intOf t).toNat)
 case atStart => exact ⟨0, Nat.zero_le _, rfl, rfl⟩
 case round =>
  obtain ⟨k, hk, hall, rfl⟩ := hrel
  by_cases hlt : k < s.size
  ·have hc := s[k].toNat_lt
   have hi1 := in_a s[k]
   have hi2 := in_0 s[k]
   by_cases hd : E0.chr s[k] = true
   ·have HA : Hid ((s.data.toList.take (k + 1)).all E0.chr = true) := E0.all_snoc hlt hall hd
    have hcase := E0.chr_true hd
    clear hall hd
    by_cases h1 : 97 ≤ s[k].toNat ∧ s[k].toNat ≤ 122
    ·rw [decide_eq_true h1] at hi1
     clear hcase hi2
     go_wp2_with (go_at_call 31; refine (B1.l01In_any _ _ _ _).mono ?_; rintro e w' ⟨rfl, rfl⟩)
     go_round
     case rel => exact ⟨k + 1, by omega, HA.out, by go_num⟩
     case measure => simp [intOf]; omega
    ·rw [decide_eq_false h1] at hi1
     by_cases h2 : 48 ≤ s[k].toNat ∧ s[k].toNat ≤ 57
     ·rw [decide_eq_true h2] at hi2
      clear hcase
      go_wp2_with (go_at_call 31; refine (B1.l01In_any _ _ _ _).mono ?_; rintro e w' ⟨rfl, rfl⟩)
      go_round
      case rel => exact ⟨k + 1, by omega, HA.out, by go_num⟩
      case measure => simp [intOf]; omega
     ·rw [decide_eq_false h2] at hi2
      have h3 : ((s[k].toNat : Int) != 46) = false := by simp; omega
      clear hcase
      go_wp2_with (go_at_call 31; refine (B1.l01In_any _ _ _ _).mono ?_; rintro e w' ⟨rfl, rfl⟩)
      go_round
      case rel => exact ⟨k + 1, by omega, HA.out, by go_num⟩
      case measure => simp [intOf]; omega
   ·have hd' : E0.chr s[k] = false := by simpa using hd
    obtain ⟨n1, n2, n3⟩ := E0.chr_false hd'
    rw [decide_eq_false n1] at hi1
    rw [decide_eq_false n2] at hi2
    have h3 : ((s[k].toNat : Int) != 46) = true := by simp; omega
    have HR : Hid (E0.entryOk i s = false) := by rw [E0.entryOk, E0.nameOk_bad hlt hd']; rfl
    clear hall hd hd'
    go_wp2_with (go_at_call 31; refine (B1.l01In_any _ _ _ _).mono ?_; rintro e w' ⟨rfl, rfl⟩)
    go_ret
    exact ⟨ret_bool HR.out.symm, rfl⟩
  ·obtain rfl : k = s.size := by omega
   rw [E0.take_all] at hall
   have HR : Hid (E0.entryOk i s = ((B1.inB s.size 1 14 && (!(s.toList == [46]) && !(s.toList == [46, 46]))) && B1.inB i 1 7)) := by rw [E0.entryOk, E0.nameOk_all hall]; rfl
   clear hall
   by_cases h1 : B1.inB i 1 7 = true
   ·by_cases h2 : B1.inB s.size 1 14 = true
    ·by_cases h3 : (s.toList == [46]) = true
     ·go_wp2_with (go_at_call 31; refine (B1.l01In_any _ _ _ _).mono ?_; rintro e w' ⟨rfl, rfl⟩)
      go_ret
      exact ⟨ret_bool (by rw [HR.out, h1, h2, h3]; rfl), rfl⟩
     ·have h3' : (s.toList == [46]) = false := by simpa using h3
      by_cases h4 : (s.toList == [46, 46]) = true
      ·go_wp2_with (go_at_call 31; refine (B1.l01In_any _ _ _ _).mono ?_; rintro e w' ⟨rfl, rfl⟩)
       go_ret
       exact ⟨ret_bool (by rw [HR.out, h1, h2, h3', h4]; rfl), rfl⟩
      ·have h4' : (s.toList == [46, 46]) = false := by simpa using h4
       go_wp2_with (go_at_call 31; refine (B1.l01In_any _ _ _ _).mono ?_; rintro e w' ⟨rfl, rfl⟩)
       go_ret
       exact ⟨ret_bool (by rw [HR.out, h1, h2, h3', h4']; rfl), rfl⟩
    ·have h2' : B1.inB s.size 1 14 = false := by simpa using h2
     go_wp2_with (go_at_call 31; refine (B1.l01In_any _ _ _ _).mono ?_; rintro e w' ⟨rfl, rfl⟩)
     go_ret
     exact ⟨ret_bool (by rw [HR.out, h1, h2']; rfl), rfl⟩
   ·have h1' : B1.inB i 1 7 = false := by simpa using h1
    go_wp2_with (go_at_call 31; refine (B1.l01In_any _ _ _ _).mono ?_; rintro e w' ⟨rfl, rfl⟩)
    go_ret
    exact ⟨ret_bool (by rw [HR.out, h1', Bool.and_false]), rfl⟩
theorem below_iter (w : World) (s : ByteArray) (k : Nat) : Below w.heap.size w (w.iter s k) := (Below.refl _ w).alloc (Nat.le_refl _) _
set_option maxHeartbeats 1000000 in
set_option maxRecDepth 4000 in
theorem impl_nameOk (s : ByteArray) (w : World) (hs : s.size ≤ 281474976710656) :
  Calls Tryz.prog 96 #[.string s] w fun e w' => e = .returned (.bool (E0.nameOk s)) ∧ Below w.heap.size w w' := by
 by_cases z1 : (s.size : Int) < 1
 ·have HR : Hid (E0.nameOk s = false) := by rw [E0.nameOk, show B1.inB s.size 1 14 = false from decide_eq_false (by omega), Bool.false_and, Bool.and_false]; rfl
  go_enter Tryz.func96, Tryz.ntmps96
  go_wp2
  go_ret
  exact ⟨ret_bool HR.out.symm, Below.refl _ _⟩
 ·by_cases z2 : 14 < (s.size : Int)
  ·have HR : Hid (E0.nameOk s = false) := by rw [E0.nameOk, show B1.inB s.size 1 14 = false from decide_eq_false (by omega), Bool.false_and, Bool.and_false]; rfl
   go_enter Tryz.func96, Tryz.ntmps96
   go_wp2
   go_ret
   exact ⟨ret_bool HR.out.symm, Below.refl _ _⟩
  ·by_cases h3 : (s.toList == [46]) = true
   ·have HR : Hid (E0.nameOk s = false) := by rw [E0.nameOk, E0.dot1, h3, Bool.not_true, Bool.false_and, Bool.and_false, Bool.and_false]; rfl
    go_enter Tryz.func96, Tryz.ntmps96
    go_wp2
    go_ret
    exact ⟨ret_bool HR.out.symm, Below.refl _ _⟩
   ·have h3' : (s.toList == [46]) = false := by simpa using h3
    clear h3
    by_cases h4 : (s.toList == [46, 46]) = true
    ·have HR : Hid (E0.nameOk s = false) := by rw [E0.nameOk, E0.dot2, h4, Bool.not_true, Bool.and_false, Bool.and_false, Bool.and_false]; rfl
     go_enter Tryz.func96, Tryz.ntmps96
     go_wp2
     go_ret
     exact ⟨ret_bool HR.out.symm, Below.refl _ _⟩
    ·have h4' : (s.toList == [46, 46]) = false := by simpa using h4
     clear h4
     have HY : Hid (s.data.toList.all E0.chr = true → E0.nameOk s = true) := fun h => by
      rw [E0.nameOk_all h, E0.dot1, E0.dot2, h3', h4', show B1.inB s.size 1 14 = true from decide_eq_true (by omega)]
      rfl
     go_enter Tryz.func96, Tryz.ntmps96
     go_wp2
     go_loopw [] (fun w' => ∃ k : Nat, w' = w.iter s k ∧ k ≤ s.size ∧ (s.data.toList.take k).all E0.chr = true) (fun w' => s.size - w'.iterPos w.heap.size)
     case atStart => exact ⟨0, rfl, Nat.zero_le _, rfl⟩
     case round =>
      obtain ⟨k, rfl, hk, hall⟩ := hrel
      by_cases hlt : k < s.size
      ·have hc := s[k].toNat_lt
       by_cases ha : s[k].toNat < 128
       ·have hnx : ∀ ty, (Instr.next (.pointer (some ⟨w.heap.size, 0, none⟩)) true ty).run Tryz.prog (w.iter s k) = _ := fun ty => run_next_ascii w s k ty hlt ha
        by_cases hd : E0.chr s[k] = true
        ·have HA : Hid ((s.data.toList.take (k + 1)).all E0.chr = true) := E0.all_snoc hlt hall hd
         have hcase := E0.chr_true hd
         clear hall hd
         rcases hcase with ⟨c1, c2⟩ | ⟨c1, c2⟩ | c1
         ·have g1 : ((s[k].toNat : Int) != 46) = true := by simp; omega
          have g2 : ¬ (s[k].toNat : Int) < 48 := by omega
          have g3 : 57 < (s[k].toNat : Int) := by omega
          have g4 : ¬ (s[k].toNat : Int) < 97 := by omega
          have g5 : ¬ 122 < (s[k].toNat : Int) := by omega
          go_wp2
          go_roundw
          case rel => exact ⟨k + 1, rfl, by omega, HA.out⟩
          case measure => simp; omega
         ·have g1 : ((s[k].toNat : Int) != 46) = true := by simp; omega
          have g2 : ¬ (s[k].toNat : Int) < 48 := by omega
          have g3 : ¬ 57 < (s[k].toNat : Int) := by omega
          go_wp2
          go_roundw
          case rel => exact ⟨k + 1, rfl, by omega, HA.out⟩
          case measure => simp; omega
         ·have g1 : ((s[k].toNat : Int) != 46) = false := by simp; omega
          clear c1
          go_wp2
          go_roundw
          case rel => exact ⟨k + 1, rfl, by omega, HA.out⟩
          case measure => simp; omega
        ·have hd' : E0.chr s[k] = false := by simpa using hd
         obtain ⟨n1, n2, n3⟩ := E0.chr_false hd'
         have HR : Hid (E0.nameOk s = false) := E0.nameOk_bad hlt hd'
         have g1 : ((s[k].toNat : Int) != 46) = true := by simp; omega
         clear hall hd hd' n3
         by_cases g2 : (s[k].toNat : Int) < 48
         ·have g3 : (s[k].toNat : Int) < 97 := by omega
          go_wp2
          go_ret
          exact ⟨ret_bool HR.out.symm, below_iter _ _ _⟩
         ·have g3 : 57 < (s[k].toNat : Int) := by omega
          by_cases g4 : (s[k].toNat : Int) < 97
          ·go_wp2
           go_ret
           exact ⟨ret_bool HR.out.symm, below_iter _ _ _⟩
          ·have g5 : 122 < (s[k].toNat : Int) := by omega
           go_wp2
           go_ret
           exact ⟨ret_bool HR.out.symm, below_iter _ _ _⟩
       ·have hnx : ∀ ty, (Instr.next (.pointer (some ⟨w.heap.size, 0, none⟩)) true ty).run Tryz.prog (w.iter s k) = _ := fun ty => run_next_any w s k ty hlt
        have hh := (decode_high s k hlt (by omega)).1
        have g1 : (((Utf8.decode s k).1 : Int) != 46) = true := by simp; omega
        have g2 : ¬ ((Utf8.decode s k).1 : Int) < 48 := by omega
        have g3 : 57 < ((Utf8.decode s k).1 : Int) := by omega
        have g4 : ¬ ((Utf8.decode s k).1 : Int) < 97 := by omega
        have g5 : 122 < ((Utf8.decode s k).1 : Int) := by omega
        have HR : Hid (E0.nameOk s = false) := E0.nameOk_bad hlt (by
         have : ∀ c : UInt8, ¬ c.toNat < 128 → E0.chr c = false := fun c h => by
          simp only [E0.chr, Bool.or_eq_false_iff, decide_eq_false_iff_not]
          omega
         exact this _ ha)
        clear hall
        go_wp2
        go_ret
        exact ⟨ret_bool HR.out.symm, below_iter _ _ _⟩
      ·obtain rfl : k = s.size := by omega
       have hnx : ∀ ty, (Instr.next (.pointer (some ⟨w.heap.size, 0, none⟩)) true ty).run Tryz.prog (w.iter s s.size) = _ := fun ty => run_next_end w s s.size ty hlt
       rw [E0.take_all] at hall
       have HR : Hid (E0.nameOk s = true) := HY.out hall
       clear hall
       go_wp2
       go_ret
       exact ⟨ret_bool HR.out.symm, below_iter _ _ _⟩
theorem impl_EntryOk (i : Int) (s : ByteArray) (w : World) (hs : s.size ≤ 281474976710656) :
  Calls Tryz.prog 92 #[.agg #[.int .i64 i, .string s]] w fun e w' => e = .returned (.bool (E0.entryOk i s)) ∧ Below w.heap.size w w' := by
 have hb0 : Below w.heap.size w (w.alloc (.cells #[.int .i64 i, .string s] 88)) := (Below.refl _ _).alloc (Nat.le_refl _) _
 by_cases h1 : 1 ≤ i
 ·by_cases h2 : i < 8
  ·have HR : Hid (E0.entryOk i s = E0.nameOk s) := by rw [E0.entryOk, show B1.inB i 1 7 = true from decide_eq_true (by omega), Bool.and_true]; rfl
   go_enter Tryz.func92, Tryz.ntmps92
   go_wp2_with (go_at_call 96; refine (impl_nameOk _ _ hs).mono ?_; rintro e w' ⟨rfl, hb⟩)
   go_ret
   exact ⟨ret_bool HR.out.symm, hb0.trans (hb.mono hb0.size)⟩
  ·have HR : Hid (E0.entryOk i s = false) := by rw [E0.entryOk, show B1.inB i 1 7 = false from decide_eq_false (by omega), Bool.and_false]; rfl
   have h2' : decide (i < 8) = false := by simpa using h2
   go_enter Tryz.func92, Tryz.ntmps92
   go_wp2
   go_ret
   exact ⟨ret_bool HR.out.symm, hb0⟩
 ·have HR : Hid (E0.entryOk i s = false) := by rw [E0.entryOk, show B1.inB i 1 7 = false from decide_eq_false (by omega), Bool.and_false]; rfl
  have h1' : decide (1 ≤ i) = false := by simpa using h1
  go_enter Tryz.func92, Tryz.ntmps92
  go_wp2
  go_ret
  exact ⟨ret_bool HR.out.symm, hb0⟩
end Go.Proofs.YthbcefopbmkppaaGreat.E1
namespace Go.Proofs.YthbcefopbmkppaaGreat.E2
open Go.ChangeShapes Go.WideShapes Go.ChangeAt Go.RowKit
theorem ret_str {a b : ByteArray} (h : a = b) : Ending.returned (.string a) = .returned (.string b) := by rw [h]
structure Bx (B : Nat) (w : World) (i : Int) (s : ByteArray) (W : World) : Prop where
 c0 : W.cell? ⟨B, 0, none⟩ = some (.int .i64 i)
 c1 : W.cell? ⟨B, 1, none⟩ = some (.string s)
 lt : B < W.heap.size
 bel : Below B w W
variable {B : Nat} {w W W' : World} {i : Int} {s : ByteArray}
theorem Bx.below (h : Bx B w i s W) (hb : Below W.heap.size W W') : Bx B w i s W' :=
 ⟨(hb.cell (p := ⟨B, 0, none⟩) h.lt).trans h.c0, (hb.cell (p := ⟨B, 1, none⟩) h.lt).trans h.c1, Nat.lt_of_lt_of_le h.lt hb.size, h.bel.trans (hb.mono (Nat.le_of_lt h.lt))⟩
theorem Bx.alloc (h : Bx B w i s W) (o : Obj) : Bx B w i s (W.alloc o) := h.below ((Below.refl _ _).alloc (Nat.le_refl _) o)
theorem Bx.drew (h : Bx B w i s W) : Bx B w i s W.drew := ⟨h.c0, h.c1, h.lt, h.bel.drew⟩
theorem bx_new (i : Int) (s : ByteArray) (w : World) (T : TypeId) : Bx w.heap.size w i s (w.alloc (.cells #[.int .i64 i, .string s] T)) := by
 refine ⟨?_, ?_, ?_, ?_⟩
 all_goals first | exact (Below.refl _ _).alloc (Nat.le_refl _) _ | (simp [go_sem]; done) | (simp; done)
theorem spec_EntryOk_bx (hs : s.size ≤ 281474976710656) (h : Bx B w i s W) :
  Calls Tryz.prog 83 #[.agg #[.int .i64 i, .string s]] W fun e w' => e = .returned (.bool (E0.entryOk i s)) ∧ Bx B w i s w' :=
 (E1.spec_EntryOk i s W hs).mono fun _ _ ⟨he, hb⟩ => ⟨he, hb ▸ h.alloc _⟩
theorem impl_EntryOk_bx (hs : s.size ≤ 281474976710656) (h : Bx B w i s W) :
  Calls Tryz.prog 92 #[.agg #[.int .i64 i, .string s]] W fun e w' => e = .returned (.bool (E0.entryOk i s)) ∧ Bx B w i s w' :=
 (E1.impl_EntryOk i s W hs).mono fun _ _ ⟨he, hb⟩ => ⟨he, h.below hb⟩
theorem zeros_bx (n : Int) (h : Bx B w i s W) :
  Calls Tryz.prog 21 #[.int .i64 n] W fun e w' => e = .returned (.string (B4.zeros n)) ∧ Bx B w i s w' :=
 (B4.impl_Zeros n W).mono fun _ _ ⟨he, hb⟩ => ⟨he, h.below hb⟩
theorem with_bx (a : ByteArray) (k : Int) (t : ByteArray) (hs : a.size ≤ 281474976710656) (ht : t.size ≤ 281474976710656) (h : Bx B w i s W) :
  Calls Tryz.prog 20 #[.string a, .int .i64 k, .string t] W fun e w' => e = .returned (.string (B5.laid a k t)) ∧ Bx B w i s w' :=
 (B5.impl_With a k t W hs ht).mono fun _ _ ⟨he, hb⟩ => ⟨he, h.below hb⟩
theorem head_eq (hi : 1 ≤ i ∧ i ≤ 7) (hs : s.size ≤ 14) : (⟨#[UInt8.ofNat i.toNat, UInt8.ofNat ((s.size : Int)).toNat]⟩ : ByteArray) ++ s = E0.headOf i s := by
 rw [E0.headOf, Int.toNat_natCast]
set_option maxHeartbeats 1000000 in
set_option maxRecDepth 4000 in
theorem spec_PutEntry (i : Int) (s : ByteArray) (w : World) (hs : s.size ≤ 281474976710656) :
  Calls Tryz.prog 74 #[.agg #[.int .i64 i, .string s]] w fun e w' => e = .returned (.string (E0.putE i s)) ∧ Below w.heap.size w w' := by
 have h0 := bx_new i s w 88
 by_cases hok : E0.entryOk i s = true
 ·obtain ⟨hn, hi⟩ := E0.entryOk_true hok
  have hz := E0.nameOk_size hn
  have hc := B3.conv2 i (s.size : Int) (by omega) (by omega)
  obtain ⟨X, hX⟩ : ∃ X : ByteArray, X = ⟨#[UInt8.ofNat i.toNat, UInt8.ofNat ((s.size : Int)).toNat]⟩ := ⟨_, rfl⟩
  have hXs : X.size = 2 := by rw [hX]; rfl
  have HP : Hid (E0.putE i s = (X ++ s) ++ B4.zeros (16 - ((X.size : Int) + (s.size : Int)))) := by
   rw [E0.putE, if_pos hok, hXs, hX, head_eq hi hz.2, B4.zeros, if_pos (by omega), show (16 - (((2 : Nat) : Int) + (s.size : Int))).toNat = 14 - s.size by omega]
   rfl
  have z1 : X.size + s.size ≤ 9223372036854775807 := by omega
  have z2 : (X.size : Int) + (s.size : Int) ≤ 16 := by omega
  have z3 : X.size + s.size + (B4.zeros (16 - ((X.size : Int) + (s.size : Int)))).size ≤ 9223372036854775807 := by
   rw [B4.zeros, if_pos (by omega), B4.nulls_size]
   omega
  rw [← hX] at hc
  clear hX hXs
  go_enter Tryz.func74, Tryz.ntmps74
  go_wp2_with (first
   | (go_at_call 83; refine (spec_EntryOk_bx hs h0).mono ?_; rintro e w1 ⟨rfl, h1⟩; have c0 := h1.c0; have c1 := h1.c1; have h1a := h1.alloc (.cells #[.int .u8 i, .int .u8 (s.size : Int)] 5); have d0 := h1a.c0; have d1 := h1a.c1)
   | (go_at_call 27; refine (B4.spec_Zeros _ _).mono ?_; rintro e w2 ⟨rfl, rfl⟩))
  go_ret
  exact ⟨ret_str HP.out.symm, h1a.bel⟩
 ·have hok' : E0.entryOk i s = false := by simpa using hok
  have HP : Hid (E0.putE i s = ⟨#[]⟩) := by rw [E0.putE, if_neg hok]; rfl
  go_enter Tryz.func74, Tryz.ntmps74
  go_wp2_with (go_at_call 83; refine (spec_EntryOk_bx hs h0).mono ?_; rintro e w1 ⟨rfl, h1⟩)
  go_ret
  exact ⟨ret_str HP.out.symm, h1.bel⟩
set_option maxHeartbeats 1000000 in
set_option maxRecDepth 4000 in
theorem impl_PutEntry (i : Int) (s : ByteArray) (w : World) (hs : s.size ≤ 281474976710656) :
  Calls Tryz.prog 91 #[.agg #[.int .i64 i, .string s]] w fun e w' => e = .returned (.string (E0.putE i s)) ∧ Below w.heap.size w w' := by
 have h0 := bx_new i s w 88
 by_cases hok : E0.entryOk i s = true
 ·obtain ⟨hn, hi⟩ := E0.entryOk_true hok
  have hz := E0.nameOk_size hn
  have hc := B3.conv2 i (s.size : Int) (by omega) (by omega)
  obtain ⟨X, hX⟩ : ∃ X : ByteArray, X = ⟨#[UInt8.ofNat i.toNat, UInt8.ofNat ((s.size : Int)).toNat]⟩ := ⟨_, rfl⟩
  have hXs : X.size = 2 := by rw [hX]; rfl
  have z2 : (X ++ s).size = 2 + s.size := by rw [ByteArray.size_append, hXs]
  have HP : Hid (E0.putE i s = B5.laid (B4.zeros 16) 0 (X ++ s)) := by
   rw [E0.putE, if_pos hok, B4.zeros, if_pos (by decide), show ((16 : Int)).toNat = 16 from rfl, E0.laid_front _ 16 (by omega), z2, hX, head_eq hi hz.2, show 16 - (2 + s.size) = 14 - s.size by omega]
   rfl
  have z1 : X.size + s.size ≤ 9223372036854775807 := by omega
  have z4 : (X ++ s).size ≤ 281474976710656 := by omega
  have z5 : (B4.zeros 16).size ≤ 281474976710656 := by decide
  rw [← hX] at hc
  clear hX hXs z2
  go_enter Tryz.func91, Tryz.ntmps91
  go_wp2_with (go_at_call 92; refine (impl_EntryOk_bx hs h0).mono ?_; rintro e w1 ⟨rfl, h1⟩; have c0 := h1.c0; have c1 := h1.c1; have h1a := h1.alloc (.cells #[.int .u8 i, .int .u8 (s.size : Int)] 5); have d0 := h1a.c0; have d1 := h1a.c1; have h1d := h1a.drew)
  go_region_with (first
   | (go_at_call 21; refine (zeros_bx _ (by assumption)).mono ?_; rintro e w4 ⟨rfl, h4⟩; have x0 := h4.c0; have x1 := h4.c1)
   | (go_at_call 20; refine (with_bx _ _ _ z5 z4 (by assumption)).mono ?_; rintro e w5 ⟨rfl, h5⟩))
  all_goals
   go_wp2
   go_ret
   exact ⟨ret_str HP.out.symm, h5.bel⟩
 ·have hok' : E0.entryOk i s = false := by simpa using hok
  have HP : Hid (E0.putE i s = ⟨#[]⟩) := by rw [E0.putE, if_neg hok]; rfl
  go_enter Tryz.func91, Tryz.ntmps91
  go_wp2_with (go_at_call 92; refine (impl_EntryOk_bx hs h0).mono ?_; rintro e w1 ⟨rfl, h1⟩)
  go_ret
  exact ⟨ret_str HP.out.symm, h1.bel⟩
end Go.Proofs.YthbcefopbmkppaaGreat.E2
namespace Go.Proofs.YthbcefopbmkppaaGreat.B2
open Go.ChangeShapes Go.WideShapes Go.ChangeAt Go.RowKit
theorem clone_any (s : ByteArray) (w : World) (hs : s.size ≤ 281474976710656) :
  Calls Tryz.prog 19 #[.string s] w fun e w' => e = .returned (.string s) ∧ Below w.heap.size w w' := by
 go_enter Tryz.func19, Tryz.ntmps19
 go_wp2_with (go_at_call 43; refine (Tryz.stringslite_Clone _ _ hs).mono ?_; rintro e w' ⟨rfl, hb⟩)
 go_ret
 exact ⟨rfl, hb⟩
theorem part_size (s : ByteArray) (i n : Int) : (part s i n).size ≤ s.size := by
 unfold part
 split
 ·simp only [ByteArray.size_extract]; omega
 ·exact Nat.zero_le _
theorem impl_Part (s : ByteArray) (i n : Int) (w : World) (hs : s.size ≤ 281474976710656) :
  Calls Tryz.prog 16 #[.string s, .int .i64 i, .int .i64 n] w fun e w' => e = .returned (.string (part s i n)) ∧ Below w.heap.size w w' := by
 have hs' : s.size ≤ maxLen := by unfold maxLen; omega
 have hz := part_size s i n
 by_cases h : lies s.size i n = true
 ·have e : part s i n = s.extract i.toNat (i + n).toNat := by rw [part, h]; rfl
  rw [e] at hz ⊢
  obtain ⟨h1, h2, h3⟩ := lies_true h
  have h5 : i ≤ i + n := by omega
  have h6 : i + n ≤ (s.size : Int) := by omega
  go_enter Tryz.func16, Tryz.ntmps16
  go_wp2_with (first | (go_at_call 39; refine (liesIn_any _ _ _ _ hs').mono ?_; rintro e w' ⟨rfl, rfl⟩) | (go_at_call 19; refine (clone_any _ _ (by omega)).mono ?_; rintro e w' ⟨rfl, hb⟩))
  go_ret
  exact ⟨rfl, hb⟩
 ·have h' : lies s.size i n = false := by simpa using h
  have e : part s i n = ⟨#[]⟩ := by rw [part, h']; rfl
  rw [e]
  go_enter Tryz.func16, Tryz.ntmps16
  go_wp2_with (go_at_call 39; refine (liesIn_any _ _ _ _ hs').mono ?_; rintro e w' ⟨rfl, rfl⟩)
  go_ret
  exact ⟨rfl, Below.refl _ _⟩
end Go.Proofs.YthbcefopbmkppaaGreat.B2
namespace Go.Proofs.YthbcefopbmkppaaGreat.B2
open Go.ChangeShapes Go.WideShapes Go.ChangeAt Go.RowKit
set_option maxRecDepth 4000 in
theorem spec_Part (s : ByteArray) (i n : Int) (w : World) (hs : s.size ≤ maxLen) (wi : (Lit.int .i64 i).wf = true) (wn : (Lit.int .i64 n).wf = true) :
  Calls Tryz.prog 37 #[.string s, .int .i64 i, .int .i64 n] w fun e w' => e = .returned (.string (part s i n)) ∧ w' = w := by
 unfold maxLen at hs
 by_cases h1 : i < 0
 ·have e : part s i n = ⟨#[]⟩ := by rw [part, show lies s.size i n = false from decide_eq_false fun h => by omega]; rfl
  rw [e]
  go_enter Tryz.func37, Tryz.ntmps37
  go_wp2
  go_ret
  exact ⟨rfl, rfl⟩
 ·by_cases h2 : n < 0
  ·have e : part s i n = ⟨#[]⟩ := by rw [part, show lies s.size i n = false from decide_eq_false fun h => by omega]; rfl
   rw [e]
   go_enter Tryz.func37, Tryz.ntmps37
   go_wp2
   go_ret
   exact ⟨rfl, rfl⟩
  ·by_cases h3 : (s.size : Int) < n
   ·have e : part s i n = ⟨#[]⟩ := by rw [part, show lies s.size i n = false from decide_eq_false fun h => by omega]; rfl
    rw [e]
    go_enter Tryz.func37, Tryz.ntmps37
    go_wp2
    go_ret
    exact ⟨rfl, rfl⟩
   ·by_cases h4 : (s.size : Int) - n < i
    ·have e : part s i n = ⟨#[]⟩ := by rw [part, show lies s.size i n = false from decide_eq_false fun h => by omega]; rfl
     rw [e]
     go_enter Tryz.func37, Tryz.ntmps37
     go_wp2
     go_ret
     exact ⟨rfl, rfl⟩
    ·have e : part s i n = s.extract i.toNat (i + n).toNat := by rw [part, show lies s.size i n = true from decide_eq_true (by omega)]; rfl
     rw [e]
     have h5 : i ≤ i + n := by omega
     have h6 : i + n ≤ (s.size : Int) := by omega
     go_enter Tryz.func37, Tryz.ntmps37
     go_wp2
     go_ret
     exact ⟨rfl, rfl⟩
end Go.Proofs.YthbcefopbmkppaaGreat.B2
namespace Go.Proofs.YthbcefopbmkppaaGreat.E4
open Go.ChangeShapes Go.WideShapes Go.ChangeAt Go.RowKit
def ino (s : ByteArray) : Int := B1.byteAt s 0
def name (s : ByteArray) : ByteArray := B2.part s 2 (B1.byteAt s 1)
def isE (s : ByteArray) : Bool := decide (s.size = 16) && ((E0.putE (ino s) (name s)).toList == s.toList)
def eIno (s : ByteArray) : Int := if isE s then ino s else 0
def eName (s : ByteArray) : ByteArray := if isE s then name s else ⟨#[]⟩
def getE (s : ByteArray) : Value := .tuple #[.agg #[.int .i64 (eIno s), .string (eName s)], .bool (isE s)]
theorem wf_of (n : Int) (h0 : -9223372036854775808 ≤ n) (h1 : n ≤ 9223372036854775807) : (Lit.int .i64 n).wf = true := by
 simp [Lit.wf, IntKind.min, IntKind.max, IntKind.signed, IntKind.bits]
 omega
theorem byteAt_lt (s : ByteArray) (i : Int) : 0 ≤ B1.byteAt s i ∧ B1.byteAt s i < 256 := by
 unfold B1.byteAt
 split
 ·rename_i h
  have := (s[i.toNat]'(by omega)).toNat_lt
  omega
 ·omega
theorem getE_no {s : ByteArray} (h : isE s = false) : getE s = .tuple #[.agg #[.int .i64 0, .string ⟨#[]⟩], .bool false] := by simp [getE, eIno, eName, h]
theorem getE_yes {s : ByteArray} (h : isE s = true) : getE s = .tuple #[.agg #[.int .i64 (ino s), .string (name s)], .bool true] := by simp [getE, eIno, eName, h]
structure Two (w : World) (B : Nat) (a : Int) (b : ByteArray) (W : World) : Prop where
 n : K0.Blk w.heap.size [.int .i64 0, .string ⟨#[]⟩] W
 m : K0.Blk B [.int .i64 a, .string b] W
 ne : w.heap.size < B
 bel : Below w.heap.size w W
theorem Two.below {w W W' : World} {B : Nat} {a : Int} {b : ByteArray} (h : Two w B a b W) (hb : Below W.heap.size W W') : Two w B a b W' := ⟨h.n.below hb, h.m.below hb, h.ne, h.bel.trans (hb.mono (Nat.le_of_lt h.n.lt))⟩
theorem two_new (w w1 : World) (a : Int) (b : ByteArray) (h : Below (w.alloc (.cells #[.int .i64 0, .string ⟨#[]⟩] 88)).heap.size (w.alloc (.cells #[.int .i64 0, .string ⟨#[]⟩] 88)) w1) :
  Two w w1.heap.size a b (w1.alloc (.cells #[.int .i64 a, .string b] 88)) := by
 have hs := h.size
 simp at hs
 exact ⟨((K0.blk_new [.int .i64 0, .string ⟨#[]⟩] w 88).below h).alloc _, K0.blk_new [.int .i64 a, .string b] w1 88, by omega, (((Below.refl _ _).alloc (Nat.le_refl _) _).trans (h.mono (by simp))).alloc (by omega) _⟩
theorem two_first (w : World) (a : Int) (b : ByteArray) : Two w (w.heap.size + 1) a b ((w.alloc (.cells #[.int .i64 0, .string ⟨#[]⟩] 88)).alloc (.cells #[.int .i64 a, .string b] 88)) := by
 have h := two_new w _ a b (Below.refl _ _)
 simpa using h
theorem ret_val {v u : Value} (h : v = u) : Ending.returned v = .returned u := by rw [h]
set_option maxHeartbeats 1000000 in
theorem spec_GetEntry (s : ByteArray) (w : World) (hs : s.size ≤ 281474976710656) :
  Calls Tryz.prog 55 #[.string s] w fun e w' => e = .returned (getE s) ∧ Below w.heap.size w w' := by
 have hm : s.size ≤ maxLen := by unfold maxLen; omega
 have k0 := byteAt_lt s 0
 have k1 := byteAt_lt s 1
 have hn : (B2.part s 2 (B1.byteAt s 1)).size ≤ 281474976710656 := by have := B2.part_size s 2 (B1.byteAt s 1); omega
 have v2 : (Lit.int .i64 2).wf = true := by decide
 have v1 := wf_of (B1.byteAt s 1) (by omega) (by omega)
 have t1 := two_first w (B1.byteAt s 0) (B2.part s 2 (B1.byteAt s 1))
 by_cases h16 : s.size = 16
 ·have g16 : ((s.size : Int) != 16) = false := by simp; omega
  by_cases hP : ((E0.putE (B1.byteAt s 0) (B2.part s 2 (B1.byteAt s 1))).toList == s.toList) = true
  ·have HR : Hid (getE s = .tuple #[.agg #[.int .i64 (B1.byteAt s 0), .string (B2.part s 2 (B1.byteAt s 1))], .bool true]) := getE_yes (by rw [isE, ino, name, hP, decide_eq_true h16]; rfl)
   go_enter Tryz.func55, Tryz.ntmps55
   go_wp2_with (first
    | (go_at_call 51; refine (B1.spec_ByteAt _ _ _ hm).mono ?_; rintro e w' ⟨rfl, rfl⟩)
    | (go_at_call 37; refine (B2.spec_Part _ _ _ _ hm v2 v1).mono ?_; rintro e w' ⟨rfl, rfl⟩)
    | (go_at_call 74; refine (E2.spec_PutEntry _ _ _ hn).mono ?_; rintro e w2 ⟨rfl, b2⟩; have t2 := t1.below b2; have c0 := t2.n.c0; have c1 := t2.n.c1; have f0 := t2.n.f0; have f1 := t2.n.f1; have d0 := t2.m.c0; have d1 := t2.m.c1))
   have q := t2.n.put2 (.int .i64 (B1.byteAt s 0)) (.string (B2.part s 2 (B1.byteAt s 1)))
   exact bodyPost_ret (v := .tuple #[.agg #[.int .i64 (B1.byteAt s 0), .string (B2.part s 2 (B1.byteAt s 1))], .bool true]) (by simp [results, Tryz.results55, go_sem, q.c0, q.c1]) rfl
    ⟨ret_val HR.out.symm, (t2.bel.setCell (p := ⟨w.heap.size, 0, none⟩) (Nat.le_refl _) _).setCell (p := ⟨w.heap.size, 1, none⟩) (Nat.le_refl _) _⟩
  ·have hP' : ((E0.putE (B1.byteAt s 0) (B2.part s 2 (B1.byteAt s 1))).toList == s.toList) = false := by simpa using hP
   have HR : Hid (getE s = .tuple #[.agg #[.int .i64 0, .string ⟨#[]⟩], .bool false]) := getE_no (by rw [isE, ino, name, hP', Bool.and_false])
   clear hP
   go_enter Tryz.func55, Tryz.ntmps55
   go_wp2_with (first
    | (go_at_call 51; refine (B1.spec_ByteAt _ _ _ hm).mono ?_; rintro e w' ⟨rfl, rfl⟩)
    | (go_at_call 37; refine (B2.spec_Part _ _ _ _ hm v2 v1).mono ?_; rintro e w' ⟨rfl, rfl⟩)
    | (go_at_call 74; refine (E2.spec_PutEntry _ _ _ hn).mono ?_; rintro e w2 ⟨rfl, b2⟩; have t2 := t1.below b2; have c0 := t2.n.c0; have c1 := t2.n.c1; have f0 := t2.n.f0; have f1 := t2.n.f1; have d0 := t2.m.c0; have d1 := t2.m.c1))
   have q := t2.n.put2 (.int .i64 0) (.string ⟨#[]⟩)
   exact bodyPost_ret (v := .tuple #[.agg #[.int .i64 0, .string ⟨#[]⟩], .bool false]) (by simp [results, Tryz.results55, go_sem, q.c0, q.c1]) rfl
    ⟨ret_val HR.out.symm, (t2.bel.setCell (p := ⟨w.heap.size, 0, none⟩) (Nat.le_refl _) _).setCell (p := ⟨w.heap.size, 1, none⟩) (Nat.le_refl _) _⟩
 ·have g16 : ((s.size : Int) != 16) = true := by simp; omega
  have HR : Hid (getE s = .tuple #[.agg #[.int .i64 0, .string ⟨#[]⟩], .bool false]) := getE_no (by rw [isE, decide_eq_false h16, Bool.false_and])
  have c0 := t1.n.c0
  have c1 := t1.n.c1
  have q := t1.n.put2 (.int .i64 0) (.string ⟨#[]⟩)
  go_enter Tryz.func55, Tryz.ntmps55
  go_wp2_with (first
   | (go_at_call 51; refine (B1.spec_ByteAt _ _ _ hm).mono ?_; rintro e w' ⟨rfl, rfl⟩)
   | (go_at_call 37; refine (B2.spec_Part _ _ _ _ hm v2 v1).mono ?_; rintro e w' ⟨rfl, rfl⟩))
  refine bodyPost_ret (v := .tuple #[.agg #[.int .i64 0, .string ⟨#[]⟩], .bool false]) (by simp [results, Tryz.results55, go_sem, q.c0, q.c1]) rfl
   ⟨ret_val HR.out.symm, ?_⟩
  go_grown
set_option maxHeartbeats 1000000 in
theorem impl_GetEntry (s : ByteArray) (w : World) (hs : s.size ≤ 281474976710656) :
  Calls Tryz.prog 78 #[.string s] w fun e w' => e = .returned (getE s) ∧ Below w.heap.size w w' := by
 have hm : s.size ≤ maxLen := by unfold maxLen; omega
 have hn : (B2.part s 2 (B1.byteAt s 1)).size ≤ 281474976710656 := by have := B2.part_size s 2 (B1.byteAt s 1); omega
 by_cases h16 : s.size = 16
 ·have g16 : ((s.size : Int) != 16) = false := by simp; omega
  by_cases hP : ((E0.putE (B1.byteAt s 0) (B2.part s 2 (B1.byteAt s 1))).toList == s.toList) = true
  ·have HR : Hid (getE s = .tuple #[.agg #[.int .i64 (B1.byteAt s 0), .string (B2.part s 2 (B1.byteAt s 1))], .bool true]) := getE_yes (by rw [isE, ino, name, hP, decide_eq_true h16]; rfl)
   go_enter Tryz.func78, Tryz.ntmps78
   go_wp2_with (first
    | (go_at_call 85; refine (B1.impl_ByteAt _ _ _ hm).mono ?_; rintro e w' ⟨rfl, rfl⟩)
    | (go_at_call 16; refine (B2.impl_Part _ _ _ _ hs).mono ?_; rintro e w1 ⟨rfl, b1⟩; have t1 := two_new w w1 (B1.byteAt s 0) (B2.part s 2 (B1.byteAt s 1)) b1)
    | (go_at_call 91; refine (E2.impl_PutEntry _ _ _ hn).mono ?_; rintro e w2 ⟨rfl, b2⟩; have t2 := t1.below b2; have c0 := t2.n.c0; have c1 := t2.n.c1; have f0 := t2.n.f0; have f1 := t2.n.f1; have d0 := t2.m.c0; have d1 := t2.m.c1))
   have q := t2.n.put2 (.int .i64 (B1.byteAt s 0)) (.string (B2.part s 2 (B1.byteAt s 1)))
   exact bodyPost_ret (v := .tuple #[.agg #[.int .i64 (B1.byteAt s 0), .string (B2.part s 2 (B1.byteAt s 1))], .bool true]) (by simp [results, Tryz.results78, go_sem, q.c0, q.c1]) rfl
    ⟨ret_val HR.out.symm, (t2.bel.setCell (p := ⟨w.heap.size, 0, none⟩) (Nat.le_refl _) _).setCell (p := ⟨w.heap.size, 1, none⟩) (Nat.le_refl _) _⟩
  ·have hP' : ((E0.putE (B1.byteAt s 0) (B2.part s 2 (B1.byteAt s 1))).toList == s.toList) = false := by simpa using hP
   have HR : Hid (getE s = .tuple #[.agg #[.int .i64 0, .string ⟨#[]⟩], .bool false]) := getE_no (by rw [isE, ino, name, hP', Bool.and_false])
   clear hP
   go_enter Tryz.func78, Tryz.ntmps78
   go_wp2_with (first
    | (go_at_call 85; refine (B1.impl_ByteAt _ _ _ hm).mono ?_; rintro e w' ⟨rfl, rfl⟩)
    | (go_at_call 16; refine (B2.impl_Part _ _ _ _ hs).mono ?_; rintro e w1 ⟨rfl, b1⟩; have t1 := two_new w w1 (B1.byteAt s 0) (B2.part s 2 (B1.byteAt s 1)) b1)
    | (go_at_call 91; refine (E2.impl_PutEntry _ _ _ hn).mono ?_; rintro e w2 ⟨rfl, b2⟩; have t2 := t1.below b2; have c0 := t2.n.c0; have c1 := t2.n.c1; have f0 := t2.n.f0; have f1 := t2.n.f1; have d0 := t2.m.c0; have d1 := t2.m.c1))
   have q := t2.n.put2 (.int .i64 0) (.string ⟨#[]⟩)
   exact bodyPost_ret (v := .tuple #[.agg #[.int .i64 0, .string ⟨#[]⟩], .bool false]) (by simp [results, Tryz.results78, go_sem, q.c0, q.c1]) rfl
    ⟨ret_val HR.out.symm, (t2.bel.setCell (p := ⟨w.heap.size, 0, none⟩) (Nat.le_refl _) _).setCell (p := ⟨w.heap.size, 1, none⟩) (Nat.le_refl _) _⟩
 ·have g16 : ((s.size : Int) != 16) = true := by simp; omega
  have HR : Hid (getE s = .tuple #[.agg #[.int .i64 0, .string ⟨#[]⟩], .bool false]) := getE_no (by rw [isE, decide_eq_false h16, Bool.false_and])
  go_enter Tryz.func78, Tryz.ntmps78
  go_wp2
  refine bodyPost_ret (v := .tuple #[.agg #[.int .i64 0, .string ⟨#[]⟩], .bool false]) (by simp [results, Tryz.results78, go_sem]) rfl
   ⟨ret_val HR.out.symm, ?_⟩
  go_grown
end Go.Proofs.YthbcefopbmkppaaGreat.E4
