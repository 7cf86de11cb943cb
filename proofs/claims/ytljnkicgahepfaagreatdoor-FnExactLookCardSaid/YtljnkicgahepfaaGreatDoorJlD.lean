/- Joined texts: plain facts and contracts. -/
import Derived.Test.YtljnkicgahepfaaGreatDoorJlC
import Derived.Deep.QuietTactic
import Derived.BigQuiet
import Derived.Test.YtljnkicgahepfaaGreatDoorJlA
import Derived.Test.YtljnkicgahepfaaGreatDoorJlB
set_option linter.unusedVariables false
set_option linter.unusedSimpArgs false
set_option maxRecDepth 10000
namespace Go.Proofs.YtljnkicgahepfaaGreatDoor.P1
open Go.ChangeShapes Go.WideShapes Go.ChangeAt Go.RowKit
theorem ret_bool {a b : Bool} (h : a = b) : Ending.returned (.bool a) = .returned (.bool b) := by rw [h]
theorem l02Has (b off n c : Nat) (zs : List Int) (x : Int) (w : World) (hz : n ≤ zs.length) (hbig : n ≤ 281474976710656) (hc : ∀ j, j < zs.length → w.cell? ⟨b, off + j, none⟩ = some (.int .i64 (zs.getD j 0))) :
  Calls Tryz.prog 106 #[.slice (some ⟨b, off, none⟩) n c, .int .i64 x] w fun e w' => e = .returned (.bool (P0.has (zs.take n) x)) ∧ w' = w := by
 go_enter Tryz.func106, Tryz.ntmps106
 go_wp2
 go_loop [5] (fun i => ∃ k : Nat, k ≤ n ∧ P0.has (zs.take k) x = false ∧ i = .int .i64 k) (fun i => n - (intOf i).toNat)
 case atStart => exact ⟨0, Nat.zero_le _, rfl, rfl⟩
 case round =>
  obtain ⟨k, hk, hno, rfl⟩ := hrel
  by_cases hlt : k < n
  ·have x1 := hc k (by omega)
   have hs := P0.contains_succ zs k x (by omega)
   have hin := fun h : x = zs.getD k 0 => h ▸ P0.contains_of (zs := zs) hlt hz
   obtain ⟨z, ez⟩ : ∃ z, zs.getD k 0 = z := ⟨_, rfl⟩
   rw [ez] at x1 hs hin
   have e1 : (0 : Int) ≤ (k : Int) := by omega
   have e2 : (k : Int) < (n : Int) := by omega
   by_cases h : z = x
   ·have h' : (z == x) = true := by simpa using h
    have HR : Hid (P0.has (zs.take n) x = true) := hin h.symm
    clear h hs hin hno ez hc
    go_wp2
    go_ret
    exact ⟨ret_bool HR.out.symm, rfl⟩
   ·have h' : (z == x) = false := by simpa using h
    have HN : Hid (P0.has (zs.take (k + 1)) x = false) := by
     rw [hs, hno, show (x == z) = false by simpa using fun q : x = z => h q.symm]
     rfl
    clear h hs hin hno ez hc
    go_wp2
    go_round
    case rel => exact ⟨k + 1, by omega, HN.out, by go_num⟩
    case measure => simp [intOf]; omega
  ·obtain rfl : k = n := by omega
   have HN : Hid (P0.has (zs.take k) x = false) := hno
   clear hno hc
   go_wp2
   go_ret
   exact ⟨ret_bool HN.out.symm, rfl⟩
theorem quiet_bool {P : Program} {f : FuncId} {args : Array Value} {w : World} {n : Nat} {a b : Bool} (h : Calls P f args (w.drewN n) fun e w' => e = .returned (.bool a) ∧ w' = w.drewN n) (hab : a = b) :
  Calls P f args (w.drewN n) fun e w'' => e = .returned (.bool b) ∧ ∃ m, w'' = w.drewN m := hab ▸ Calls.quiet_of_same h
set_option maxHeartbeats 1000000 in
theorem l03Pages (a : Option Addr) (c : Nat) (zs : List Int) (w : World) (hbig : zs.length ≤ 281474976710656) (hcap : zs.length ≤ c) (hR : P0.Row w a zs) :
  Calls Tryz.prog 114 #[.slice a zs.length c] w fun e w' => e = .returned (.bool (P0.pagesOk zs)) ∧ ∃ n, w' = w.drewN n := by
 go_enter Tryz.func114, Tryz.ntmps114
 go_wp2
 go_loopw [3] (fun i w' => ∃ k n : Nat, k ≤ zs.length ∧ P0.okUpto zs k = true ∧ i = .int .i64 k ∧ w' = w.drewN n) (fun i _ => zs.length - (intOf i).toNat)
 case atStart => exact ⟨0, 0, Nat.zero_le _, rfl, rfl, rfl⟩
 case round =>
  obtain ⟨k, n, hk, hok, rfl, hW⟩ := hrel
  have HW : Hid (∀ m, ∃ m', wr.drewN m = w.drewN m') := fun m => ⟨n + m, by rw [hW, World.drewN_drewN]⟩
  by_cases hlt : k < zs.length
  ·have hR' : P0.Row wr a zs := by rw [hW]; exact hR.drewN n
   obtain ⟨b, off, rfl, hb, hc⟩ := hR'.get hlt
   have hH : Hid (∀ m x, Calls Tryz.prog 106 #[.slice (some ⟨b, off, none⟩) k c, .int .i64 x] (wr.drewN m) fun e w' => e = .returned (.bool (P0.has (zs.take k) x)) ∧ w' = wr.drewN m) := fun m x => l02Has b off k c zs x _ (by omega) (by omega) hc
   have x1 := hc k hlt
   have hs := P0.okUpto_succ zs k
   have hat : P0.okAt zs k = (B1.inB (zs.getD k 0) 5 23 && !(P0.has (zs.take k) (zs.getD k 0))) := rfl
   obtain ⟨z, ez⟩ : ∃ z, zs.getD k 0 = z := ⟨_, rfl⟩
   rw [ez] at x1 hat
   have e1 : (0 : Int) ≤ (k : Int) := by omega
   have e2 : (k : Int) < (zs.length : Int) := by omega
   have e3 : (k : Int) ≤ (c : Int) := by omega
   by_cases h1 : B1.inB z 5 23 = true
   ·by_cases h2 : P0.has (zs.take k) z = true
    ·have HR : Hid (P0.pagesOk zs = false) := P0.okUpto_bad hlt (by rw [hat, h1, h2]; rfl)
     clear hs hat hok ez hc hR hR' hW
     go_wp2
     go_quiet ((first | (go_at_call 44; exact quiet_bool (B1.l01In_any _ _ _ _) h1) | (go_at_call 106; exact quiet_bool (hH.out _ _) h2)))
     go_wp2
     go_ret
     exact ⟨ret_bool HR.out.symm, HW.out _⟩
    ·have h2' : P0.has (zs.take k) z = false := by simpa using h2
     have HO : Hid (P0.okUpto zs (k + 1) = true) := by rw [hs, hok, hat, h1, h2']; rfl
     clear hs hat hok ez hc hR hR' hW h2
     go_wp2
     go_quiet ((first | (go_at_call 44; exact quiet_bool (B1.l01In_any _ _ _ _) h1) | (go_at_call 106; exact quiet_bool (hH.out _ _) h2')))
     go_wp2
     obtain ⟨m', hm'⟩ := HW.out nq
     go_roundw
     case rel => exact ⟨k + 1, m', by omega, HO.out, by go_num, hm'⟩
     case measure => simp [intOf]; omega
   ·have h1' : B1.inB z 5 23 = false := by simpa using h1
    have HR : Hid (P0.pagesOk zs = false) := P0.okUpto_bad hlt (by rw [hat, h1']; rfl)
    clear hs hat hok ez hc hR hR' hW h1
    go_wp2
    go_quiet ((go_at_call 44; exact quiet_bool (B1.l01In_any _ _ _ _) h1'))
    go_wp2
    go_ret
    exact ⟨ret_bool HR.out.symm, HW.out _⟩
  ·obtain rfl : k = zs.length := by omega
   have HR : Hid (P0.pagesOk zs = true) := hok
   have HW0 : Hid (wr = w.drewN n) := hW
   clear hok hR hW
   go_wp2
   go_ret
   exact ⟨ret_bool HR.out.symm, n, HW0.out⟩
theorem impl_Contains (b off n c : Nat) (zs : List Int) (x : Int) (w : World) (hz : n ≤ zs.length) (hbig : n ≤ 281474976710656) (hc : ∀ j, j < zs.length → w.cell? ⟨b, off + j, none⟩ = some (.int .i64 (zs.getD j 0))) :
  Calls Tryz.prog 178 #[.slice (some ⟨b, off, none⟩) n c, .int .i64 x] w fun e w' => e = .returned (.bool (P0.has (zs.take n) x)) ∧ w' = w :=
 Tryz.slices_Contains_int b off n c zs x w hz (by omega) hc
set_option maxHeartbeats 1000000 in
theorem pagesOk (a : Option Addr) (c : Nat) (zs : List Int) (w : World) (hbig : zs.length ≤ 281474976710656) (hcap : zs.length ≤ c) (hR : P0.Row w a zs) :
  Calls Tryz.prog 282 #[.slice a zs.length c] w fun e w' => e = .returned (.bool (P0.pagesOk zs)) ∧ w' = w := by
 go_enter Tryz.func282, Tryz.ntmps282
 go_wp2
 go_loop [7] (fun i => ∃ k : Nat, k ≤ zs.length ∧ P0.okUpto zs k = true ∧ i = .int .i64 k) (fun i => zs.length - (intOf i).toNat)
 case atStart => exact ⟨0, Nat.zero_le _, rfl, rfl⟩
 case round =>
  obtain ⟨k, hk, hok, rfl⟩ := hrel
  by_cases hlt : k < zs.length
  ·obtain ⟨b, off, rfl, hb, hc⟩ := hR.get hlt
   have hH : Hid (∀ x, Calls Tryz.prog 178 #[.slice (some ⟨b, off, none⟩) k c, .int .i64 x] w fun e w' => e = .returned (.bool (P0.has (zs.take k) x)) ∧ w' = w) := fun x => impl_Contains b off k c zs x _ (by omega) (by omega) hc
   have x1 := hc k hlt
   have hs := P0.okUpto_succ zs k
   have hat : P0.okAt zs k = (B1.inB (zs.getD k 0) 5 23 && !(P0.has (zs.take k) (zs.getD k 0))) := rfl
   obtain ⟨z, ez⟩ : ∃ z, zs.getD k 0 = z := ⟨_, rfl⟩
   rw [ez] at x1 hat
   have e1 : (0 : Int) ≤ (k : Int) := by omega
   have e2 : (k : Int) < (zs.length : Int) := by omega
   have e3 : (k : Int) ≤ (c : Int) := by omega
   by_cases g1 : z < 5
   ·have HR : Hid (P0.pagesOk zs = false) := P0.okUpto_bad hlt (by rw [hat, show B1.inB z 5 23 = false from decide_eq_false (by omega)]; rfl)
    clear hs hat hok ez hc hR
    go_wp2
    go_ret
    exact ⟨ret_bool HR.out.symm, rfl⟩
   ·by_cases g2 : 24 ≤ z
    ·have HR : Hid (P0.pagesOk zs = false) := P0.okUpto_bad hlt (by rw [hat, show B1.inB z 5 23 = false from decide_eq_false (by omega)]; rfl)
     clear hs hat hok ez hc hR
     go_wp2
     go_ret
     exact ⟨ret_bool HR.out.symm, rfl⟩
    ·have h1 : B1.inB z 5 23 = true := decide_eq_true (by omega)
     by_cases h2 : P0.has (zs.take k) z = true
     ·have HR : Hid (P0.pagesOk zs = false) := P0.okUpto_bad hlt (by rw [hat, h1, h2]; rfl)
      clear hs hat hok ez hc hR
      go_wp2_with (go_at_call 178; refine (hH.out _).mono ?_; rintro e w' ⟨rfl, rfl⟩)
      go_ret
      exact ⟨ret_bool HR.out.symm, rfl⟩
     ·have h2' : P0.has (zs.take k) z = false := by simpa using h2
      have HO : Hid (P0.okUpto zs (k + 1) = true) := by rw [hs, hok, hat, h1, h2']; rfl
      clear hs hat hok ez hc hR h2
      go_wp2_with (go_at_call 178; refine (hH.out _).mono ?_; rintro e w' ⟨rfl, rfl⟩)
      go_round
      case rel => exact ⟨k + 1, by omega, HO.out, by go_num⟩
      case measure => simp [intOf]; omega
  ·obtain rfl : k = zs.length := by omega
   have HR : Hid (P0.pagesOk zs = true) := hok
   clear hok hR
   go_wp2
   go_ret
   exact ⟨ret_bool HR.out.symm, rfl⟩
theorem l03Need (s : Int) (w : World) (h0 : 0 ≤ s) (h1 : s ≤ 65535) :
  Calls Tryz.prog 231 #[.int .i64 s] w fun e w' => e = .returned (.int .i64 (P0.need s)) ∧ w' = w := by
 have e : P0.need s = (s + 32 - 1) / 32 := by unfold P0.need; omega
 rw [e]
 go_enter Tryz.func231, Tryz.ntmps231
 go_wp2
 go_ret
 exact ⟨rfl, rfl⟩
theorem pagesFor (s : Int) (w : World) (h0 : 0 ≤ s) (h1 : s ≤ 65535) :
  Calls Tryz.prog 291 #[.int .i64 s] w fun e w' => e = .returned (.int .i64 (P0.need s)) ∧ w' = w := by
 have e : P0.need s = (s + 32 - 1) / 32 := by unfold P0.need; omega
 rw [e]
 go_enter Tryz.func291, Tryz.ntmps291
 go_wp2
 go_ret
 exact ⟨rfl, rfl⟩
end Go.Proofs.YtljnkicgahepfaaGreatDoor.P1
namespace Go.Proofs.YtljnkicgahepfaaGreatDoor.I0
open Go.ChangeShapes Go.WideShapes Go.ChangeAt Go.RowKit
open P1 (ret_bool quiet_bool)
def holds (o s : Int) (zs : List Int) : Bool := B1.inB o 0 9 && (B1.inB s 0 192 && (decide ((zs.length : Int) = P0.need s) && P0.pagesOk zs))
def free (o s : Int) (zs : List Int) : Bool := decide (o = 0) && (decide (s = 0) && decide (zs.length = 0))
def ok (k o s : Int) (zs : List Int) : Bool := if k = 0 then free o s zs else if k = 1 then holds o s zs else if k = 2 then holds o s zs && decide (s % 16 = 0) else false
abbrev val (k o s : Int) (a : Option Addr) (n c : Nat) : Value := .agg #[.int .i64 k, .int .i64 o, .int .i64 s, .slice a n c]
abbrev vals (k o s : Int) (a : Option Addr) (n c : Nat) : List Value := [.int .i64 k, .int .i64 o, .int .i64 s, .slice a n c]
theorem clientOk (o : Int) (w : World) : Calls Tryz.prog 281 #[.int .i64 o] w fun e w' => e = .returned (.bool (B1.inB o 0 8)) ∧ w' = w := by
 by_cases h1 : 0 ≤ o
 ·by_cases h2 : o ≤ 8
  ·have HR : Hid (B1.inB o 0 8 = true) := decide_eq_true (by omega)
   go_enter Tryz.func281, Tryz.ntmps281
   go_wp2
   go_ret
   exact ⟨ret_bool HR.out.symm, rfl⟩
  ·have h2' : decide (o ≤ 8) = false := by simpa using h2
   have HR : Hid (B1.inB o 0 8 = false) := decide_eq_false (by omega)
   go_enter Tryz.func281, Tryz.ntmps281
   go_wp2
   go_ret
   exact ⟨ret_bool HR.out.symm, rfl⟩
 ·have HR : Hid (B1.inB o 0 8 = false) := decide_eq_false (by omega)
  have h1' : decide (0 ≤ o) = false := by simpa using h1
  go_enter Tryz.func281, Tryz.ntmps281
  go_wp2
  go_ret
  exact ⟨ret_bool HR.out.symm, rfl⟩
theorem ownerOk (o : Int) (w : World) : Calls Tryz.prog 357 #[.int .i64 o] w fun e w' => e = .returned (.bool (B1.inB o 0 9)) ∧ w' = w := by
 have HC := clientOk o w
 cases hc : B1.inB o 0 8 with
 | true =>
  rw [hc] at HC
  have HR : Hid (B1.inB o 0 9 = true) := decide_eq_true (by have := of_decide_eq_true hc; omega)
  go_enter Tryz.func357, Tryz.ntmps357
  go_wp2_with (go_at_call 281; refine HC.mono ?_; rintro e w1 ⟨rfl, rfl⟩)
  go_ret
  exact ⟨ret_bool HR.out.symm, rfl⟩
 | false =>
  rw [hc] at HC
  have hn := of_decide_eq_false hc
  by_cases h3 : o = 9
  ·have HR : Hid (B1.inB o 0 9 = true) := decide_eq_true (by omega)
   have h3' : (o == 9) = true := by simpa using h3
   clear h3 hn
   go_enter Tryz.func357, Tryz.ntmps357
   go_wp2_with (go_at_call 281; refine HC.mono ?_; rintro e w1 ⟨rfl, rfl⟩)
   go_ret
   exact ⟨ret_bool HR.out.symm, rfl⟩
  ·have HR : Hid (B1.inB o 0 9 = false) := decide_eq_false (by omega)
   have h3' : (o == 9) = false := by simpa using h3
   clear h3 hn
   go_enter Tryz.func357, Tryz.ntmps357
   go_wp2_with (go_at_call 281; refine HC.mono ?_; rintro e w1 ⟨rfl, rfl⟩)
   go_ret
   exact ⟨ret_bool HR.out.symm, rfl⟩
theorem below_alloc_drew (w : World) (o : Obj) (n : Nat) : Below w.heap.size w ((w.alloc o).drewN n) := K0.below_drewN (K0.below_new w o) n
set_option maxHeartbeats 1000000 in
theorem holdsOk (k o s : Int) (a : Option Addr) (c : Nat) (zs : List Int) (w : World) (hbig : zs.length ≤ 281474976710656) (hcap : zs.length ≤ c) (hR : P0.Row w a zs) :
  Calls Tryz.prog 356 #[val k o s a zs.length c] w fun e w' => e = .returned (.bool (holds o s zs)) ∧ Below w.heap.size w w' := by
 have hB := K0.below_new w (.cells #[.int .i64 k, .int .i64 o, .int .i64 s, .slice a zs.length c] 143)
 have hR' := hR.alloc (.cells #[.int .i64 k, .int .i64 o, .int .i64 s, .slice a zs.length c] 143)
 have hP : Hid (∀ m, Calls Tryz.prog 282 #[.slice a zs.length c] ((w.alloc (.cells #[.int .i64 k, .int .i64 o, .int .i64 s, .slice a zs.length c] 143)).drewN m) fun e w' => e = .returned (.bool (P0.pagesOk zs)) ∧ w' = (w.alloc (.cells #[.int .i64 k, .int .i64 o, .int .i64 s, .slice a zs.length c] 143)).drewN m) := fun m => P1.pagesOk a c zs _ hbig hcap hR'
 by_cases h1 : s < 0
 ·have HR : Hid (holds o s zs = false) := by rw [holds, show B1.inB s 0 192 = false from decide_eq_false (by omega), Bool.false_and, Bool.and_false]; rfl
  go_enter Tryz.func356, Tryz.ntmps356
  go_wp2
  go_ret
  exact ⟨ret_bool HR.out.symm, hB⟩
 ·by_cases h2 : 192 < s
  ·have HR : Hid (holds o s zs = false) := by rw [holds, show B1.inB s 0 192 = false from decide_eq_false (by omega), Bool.false_and, Bool.and_false]; rfl
   go_enter Tryz.func356, Tryz.ntmps356
   go_wp2
   go_ret
   exact ⟨ret_bool HR.out.symm, hB⟩
  ·have HS : Hid (holds o s zs = (B1.inB o 0 9 && (decide ((zs.length : Int) = P0.need s) && P0.pagesOk zs))) := by rw [holds, show B1.inB s 0 192 = true from decide_eq_true (by omega), Bool.true_and]; rfl
   clear hB
   by_cases g1 : B1.inB o 0 9 = true
   ·by_cases g2 : (zs.length : Int) = P0.need s
    ·have g2' : ((zs.length : Int) == P0.need s) = true := by simpa using g2
     have HR : Hid (holds o s zs = P0.pagesOk zs) := by rw [HS.out, g1, decide_eq_true g2]; rfl
     clear g2 hR hR'
     go_enter Tryz.func356, Tryz.ntmps356
     go_wp2
     go_quiet ((first | (go_at_call 357; exact quiet_bool (ownerOk _ _) g1) | (go_at_call 291; exact Calls.quiet_of_same (P1.pagesFor _ _ (by omega) (by omega))) | (go_at_call 282; exact Calls.quiet_of_same (hP.out _))))
     go_wp2
     go_ret
     exact ⟨ret_bool HR.out.symm, below_alloc_drew _ _ _⟩
    ·have g2' : ((zs.length : Int) == P0.need s) = false := by simpa using g2
     have HR : Hid (holds o s zs = false) := by rw [HS.out, decide_eq_false g2, Bool.false_and, Bool.and_false]; rfl
     clear g2 hR hR'
     go_enter Tryz.func356, Tryz.ntmps356
     go_wp2
     go_quiet ((first | (go_at_call 357; exact quiet_bool (ownerOk _ _) g1) | (go_at_call 291; exact Calls.quiet_of_same (P1.pagesFor _ _ (by omega) (by omega)))))
     go_wp2
     go_ret
     exact ⟨ret_bool HR.out.symm, below_alloc_drew _ _ _⟩
   ·have g1' : B1.inB o 0 9 = false := by simpa using g1
    have HR : Hid (holds o s zs = false) := by rw [HS.out, g1', Bool.false_and]; rfl
    clear hR hR'
    go_enter Tryz.func356, Tryz.ntmps356
    go_wp2
    go_quiet ((go_at_call 357; exact quiet_bool (ownerOk _ _) g1'))
    go_wp2
    go_ret
    exact ⟨ret_bool HR.out.symm, below_alloc_drew _ _ _⟩
theorem freeSound (k o s : Int) (a : Option Addr) (c n : Nat) (zs : List Int) (w : World) (hn : n = zs.length) :
  Calls Tryz.prog 372 #[val k o s a n c] w fun e w' => e = .returned (.bool (free o s zs)) ∧ Below w.heap.size w w' := by
 have hB := K0.below_new w (.cells #[.int .i64 k, .int .i64 o, .int .i64 s, .slice a n c] 340)
 by_cases h1 : o = 0
 ·subst h1
  by_cases h2 : s = 0
  ·subst h2
   by_cases h3 : n = 0
   ·have HR : Hid (free 0 0 zs = true) := by rw [free, ← hn, h3]; rfl
    subst h3
    clear hn
    go_enter Tryz.func372, Tryz.ntmps372
    go_wp2
    go_ret
    exact ⟨ret_bool HR.out.symm, hB⟩
   ·have HR : Hid (free 0 0 zs = false) := by rw [free, ← hn, decide_eq_false h3]; rfl
    have h3' : ((n : Int) == 0) = false := by simp; omega
    clear hn
    go_enter Tryz.func372, Tryz.ntmps372
    go_wp2
    go_ret
    exact ⟨ret_bool HR.out.symm, hB⟩
  ·have HR : Hid (free 0 s zs = false) := by rw [free, decide_eq_false h2, Bool.false_and, Bool.and_false]; rfl
   have h2' : (s == 0) = false := by simpa using h2
   clear hn
   go_enter Tryz.func372, Tryz.ntmps372
   go_wp2
   go_ret
   exact ⟨ret_bool HR.out.symm, hB⟩
 ·have HR : Hid (free o s zs = false) := by rw [free, decide_eq_false h1, Bool.false_and]; rfl
  have h1' : (o == 0) = false := by simpa using h1
  clear hn
  go_enter Tryz.func372, Tryz.ntmps372
  go_wp2
  go_ret
  exact ⟨ret_bool HR.out.symm, hB⟩
theorem fileSound (k o s : Int) (a : Option Addr) (c : Nat) (zs : List Int) (w : World) (hbig : zs.length ≤ 281474976710656) (hcap : zs.length ≤ c) (hR : P0.Row w a zs) :
  Calls Tryz.prog 355 #[val k o s a zs.length c] w fun e w' => e = .returned (.bool (holds o s zs)) ∧ Below w.heap.size w w' := by
 have hB := K0.below_new w (.cells #[.int .i64 k, .int .i64 o, .int .i64 s, .slice a zs.length c] 309)
 have hR' := hR.alloc (.cells #[.int .i64 k, .int .i64 o, .int .i64 s, .slice a zs.length c] 309)
 go_enter Tryz.func355, Tryz.ntmps355
 go_wp2_with (go_at_call 356; refine (holdsOk k o s a c zs _ hbig hcap hR').mono ?_; rintro e w' ⟨rfl, hb⟩)
 go_ret
 exact ⟨rfl, hB.trans (hb.mono hB.size)⟩
theorem dirSound (k o s : Int) (a : Option Addr) (c : Nat) (zs : List Int) (w : World) (hbig : zs.length ≤ 281474976710656) (hcap : zs.length ≤ c) (hR : P0.Row w a zs) :
  Calls Tryz.prog 358 #[val k o s a zs.length c] w fun e w' => e = .returned (.bool (holds o s zs && decide (s % 16 = 0))) ∧ Below w.heap.size w w' := by
 have hB := K0.below_new w (.cells #[.int .i64 k, .int .i64 o, .int .i64 s, .slice a zs.length c] 311)
 have hR' := hR.alloc (.cells #[.int .i64 k, .int .i64 o, .int .i64 s, .slice a zs.length c] 311)
 have hK := K0.blk_new (vals k o s a zs.length c) w 311
 by_cases hh : holds o s zs = true
 ·have hs := hh
  simp only [holds, Bool.and_eq_true] at hs
  obtain ⟨hs1, hs2⟩ := B1.inB_true hs.2.1
  clear hs
  by_cases h16 : s % 16 = 0
  ·have h16' : (s % 16 == 0) = true := by simpa using h16
   have HR : Hid ((holds o s zs && decide (s % 16 = 0)) = true) := by rw [hh, decide_eq_true h16]; rfl
   clear h16
   go_enter Tryz.func358, Tryz.ntmps358
   go_wp2_with (go_at_call 356; refine (holdsOk k o s a c zs _ hbig hcap hR').mono ?_; rintro e w' ⟨rfl, hb⟩; have hK' := hK.below hb; have c2 := hK'.c2)
   go_ret
   exact ⟨ret_bool HR.out.symm, hB.trans (hb.mono hB.size)⟩
  ·have h16' : (s % 16 == 0) = false := by simpa using h16
   have HR : Hid ((holds o s zs && decide (s % 16 = 0)) = false) := by rw [decide_eq_false h16, Bool.and_false]; rfl
   clear h16
   go_enter Tryz.func358, Tryz.ntmps358
   go_wp2_with (go_at_call 356; refine (holdsOk k o s a c zs _ hbig hcap hR').mono ?_; rintro e w' ⟨rfl, hb⟩; have hK' := hK.below hb; have c2 := hK'.c2)
   go_ret
   exact ⟨ret_bool HR.out.symm, hB.trans (hb.mono hB.size)⟩
 ·have hh' : holds o s zs = false := by simpa using hh
  have HR : Hid ((holds o s zs && decide (s % 16 = 0)) = false) := by rw [hh', Bool.false_and]; rfl
  go_enter Tryz.func358, Tryz.ntmps358
  go_wp2_with (go_at_call 356; refine (holdsOk k o s a c zs _ hbig hcap hR').mono ?_; rintro e w' ⟨rfl, hb⟩)
  go_ret
  exact ⟨ret_bool HR.out.symm, hB.trans (hb.mono hB.size)⟩
end Go.Proofs.YtljnkicgahepfaaGreatDoor.I0
namespace Go.Proofs.YtljnkicgahepfaaGreatDoor.R0
open Go
def pg (zs : List Int) : ByteArray := ⟨(zs.map fun z => UInt8.ofNat z.toNat).toArray⟩
theorem pg_size (zs : List Int) : (pg zs).size = zs.length := by simp [pg, ByteArray.size]
theorem pg_snoc (zs : List Int) (k : Nat) (h : k < zs.length) : pg (zs.take k) ++ ⟨#[UInt8.ofNat (zs.getD k 0).toNat]⟩ = pg (zs.take (k + 1)) := by
 apply ByteArray.ext
 rw [ByteArray.data_append]
 apply Array.toList_inj.1
 simp only [pg, Array.toList_append, List.take_succ_eq_append_getElem h, List.map_append, List.map_cons, List.map_nil, P0.getD_get zs k h]
def two (k o : Int) : ByteArray := ⟨#[UInt8.ofNat k.toNat, UInt8.ofNat o.toNat]⟩
theorem two_size (k o : Int) : (two k o).size = 2 := rfl
def head (k o s : Int) (zs : List Int) : ByteArray := two k o ++ B3.pair s ++ pg zs
def putI (k o s : Int) (zs : List Int) : ByteArray := if I0.ok k o s zs then head k o s zs ++ B4.nulls (12 - zs.length) else ⟨#[]⟩
theorem pair_size (s : Int) (h0 : 0 ≤ s) (h1 : s ≤ 65535) : (B3.pair s).size = 2 := by
 rw [B3.pair, show B1.inB s 0 65535 = true from decide_eq_true ⟨h0, h1⟩]
 rfl
theorem ok_bounds {k o s : Int} {zs : List Int} (h : I0.ok k o s zs = true) : (0 ≤ k ∧ k ≤ 2) ∧ (0 ≤ o ∧ o ≤ 9) ∧ (0 ≤ s ∧ s ≤ 192) ∧ zs.length ≤ 6 ∧ (zs.length : Int) = P0.need s ∧ P0.pagesOk zs = true := by
 have hh : ∀ {o s : Int} {zs : List Int}, I0.holds o s zs = true → (0 ≤ o ∧ o ≤ 9) ∧ (0 ≤ s ∧ s ≤ 192) ∧ zs.length ≤ 6 ∧ (zs.length : Int) = P0.need s ∧ P0.pagesOk zs = true := by
  intro o s zs h
  simp only [I0.holds, Bool.and_eq_true, decide_eq_true_eq] at h
  have h1 := B1.inB_true h.1
  have h2 := B1.inB_true h.2.1
  have h3 := h.2.2.1
  refine ⟨h1, h2, ?_, h3, h.2.2.2⟩
  unfold P0.need at h3
  omega
 unfold I0.ok at h
 split at h
 ·rename_i e
  simp only [I0.free, Bool.and_eq_true, decide_eq_true_eq] at h
  have hz : zs = [] := List.eq_nil_of_length_eq_zero h.2.2
  refine ⟨by omega, by omega, by omega, by omega, ?_, ?_⟩
  ·rw [h.2.1, h.2.2]; decide
  ·rw [hz]; rfl
 ·split at h
  ·rename_i e
   exact ⟨by omega, hh h⟩
  ·split at h
   ·rename_i e
    simp only [Bool.and_eq_true] at h
    exact ⟨by omega, hh h.1⟩
   ·cases h
theorem pages_bounds {zs : List Int} (h : P0.pagesOk zs = true) {k : Nat} (hk : k < zs.length) : 5 ≤ zs.getD k 0 ∧ zs.getD k 0 ≤ 23 := by
 have h1 : P0.okAt zs k = true := by
  cases hb : P0.okAt zs k with
  | true => rfl
  | false => rw [P0.pagesOk, P0.okUpto_bad hk hb] at h; cases h
 simp only [P0.okAt, Bool.and_eq_true] at h1
 exact B1.inB_true h1.1
theorem head_size (k o s : Int) (zs : List Int) (h0 : 0 ≤ s) (h1 : s ≤ 65535) : (head k o s zs).size = 4 + zs.length := by
 rw [head, ByteArray.size_append, ByteArray.size_append, two_size, pair_size s h0 h1, pg_size]
end Go.Proofs.YtljnkicgahepfaaGreatDoor.R0
namespace Go.Proofs.YtljnkicgahepfaaGreatDoor.B6
open Go.ChangeShapes Go.WideShapes Go.ChangeAt Go.RowKit
def pairAt (s : ByteArray) (i : Int) : Int := if h : 0 ≤ i ∧ i + 1 < s.size then (s[i.toNat]'(by omega)).toNat + 256 * (s[(i + 1).toNat]'(by omega)).toNat else 0
theorem spec_PairAt (s : ByteArray) (i : Int) (w : World) (hs : s.size ≤ 281474976710656) :
  Calls Tryz.prog 230 #[.string s, .int .i64 i] w fun e w' => e = .returned (.int .i64 (pairAt s i)) ∧ ∃ n, w' = w.drewN n := by
 by_cases h1 : i < 0
 ·have e : pairAt s i = 0 := by rw [pairAt, dif_neg (by omega)]
  rw [e]
  go_enter Tryz.func230, Tryz.ntmps230
  go_wp2
  go_ret
  exact ⟨rfl, 0, rfl⟩
 ·by_cases h2 : (s.size : Int) - 2 < i
  ·have e : pairAt s i = 0 := by rw [pairAt, dif_neg (by omega)]
   rw [e]
   go_enter Tryz.func230, Tryz.ntmps230
   go_wp2
   go_ret
   exact ⟨rfl, 0, rfl⟩
  ·have e : pairAt s i = (s[i.toNat]'(by omega)).toNat + 256 * (s[(i + 1).toNat]'(by omega)).toNat := by rw [pairAt, dif_pos (by omega)]
   rw [e]
   have h3 : i < (s.size : Int) := by omega
   have h4 : i + 1 < (s.size : Int) := by omega
   have h6 : 0 ≤ i := by omega
   have h7 : 0 ≤ i + 1 := by omega
   have b1 := (s[i.toNat]'(by omega)).toNat_lt
   have b2 := (s[(i + 1).toNat]'(by omega)).toNat_lt
   go_enter Tryz.func230, Tryz.ntmps230
   go_wp2
   go_quiet (fail)
   go_wp2
   go_ret
   exact ⟨rfl, _, rfl⟩
theorem impl_PairAt (s : ByteArray) (i : Int) (w : World) (hs : s.size ≤ 281474976710656) :
  Calls Tryz.prog 288 #[.string s, .int .i64 i] w fun e w' => e = .returned (.int .i64 (pairAt s i)) ∧ ∃ n, w' = w.drewN n := by
 have hs' : s.size ≤ maxLen := by unfold maxLen; omega
 by_cases h : B2.lies s.size i 2 = true
 ·obtain ⟨h1, h2, h5⟩ := B2.lies_true h
  have e : pairAt s i = (s[i.toNat]'(by omega)).toNat + (s[(i + 1).toNat]'(by omega)).toNat * 256 := by rw [pairAt, dif_pos (by omega), Int.mul_comm]
  rw [e]
  have h3 : i < (s.size : Int) := by omega
  have h4 : i + 1 < (s.size : Int) := by omega
  have h6 : 0 ≤ i := by omega
  have h7 : 0 ≤ i + 1 := by omega
  have b1 := (s[i.toNat]'(by omega)).toNat_lt
  have b2 := (s[(i + 1).toNat]'(by omega)).toNat_lt
  go_enter Tryz.func288, Tryz.ntmps288
  go_wp2_with (go_at_call 156; refine (B2.liesIn_any _ _ _ _ hs').mono ?_; rintro e w' ⟨rfl, rfl⟩)
  go_quiet (fail)
  go_wp2
  go_ret
  exact ⟨rfl, _, rfl⟩
 ·have h' : B2.lies s.size i 2 = false := by simpa using h
  have e : pairAt s i = 0 := by rw [pairAt, dif_neg (fun h9 => B2.lies_false h' (by omega))]
  rw [e]
  go_enter Tryz.func288, Tryz.ntmps288
  go_wp2_with (go_at_call 156; refine (B2.liesIn_any _ _ _ _ hs').mono ?_; rintro e w' ⟨rfl, rfl⟩)
  go_ret
  exact ⟨rfl, 0, rfl⟩
end Go.Proofs.YtljnkicgahepfaaGreatDoor.B6
namespace Go.Proofs.YtljnkicgahepfaaGreatDoor.G0
open Go
def cnt (s : ByteArray) : Nat := min (P0.need (B6.pairAt s 2)).toNat 12
def pgs (s : ByteArray) (k : Nat) : List Int := (List.range k).map fun (j : Nat) => B1.byteAt s (4 + (j : Int))
theorem pgs_length (s : ByteArray) (k : Nat) : (pgs s k).length = k := by simp [pgs]
theorem pgs_succ (s : ByteArray) (k : Nat) : pgs s k ++ [B1.byteAt s (4 + (k : Int))] = pgs s (k + 1) := by simp [pgs, List.range_succ]
def txt (s : ByteArray) : ByteArray := R0.putI (B1.byteAt s 0) (B1.byteAt s 1) (B6.pairAt s 2) (pgs s (cnt s))
def isI (s : ByteArray) : Bool := decide (s.size = 16) && ((txt s).toList == s.toList)
def gK (s : ByteArray) : Int := if isI s then B1.byteAt s 0 else 0
def gO (s : ByteArray) : Int := if isI s then B1.byteAt s 1 else 0
def gS (s : ByteArray) : Int := if isI s then B6.pairAt s 2 else 0
def gZ (s : ByteArray) : List Int := if isI s then pgs s (cnt s) else []
theorem pairAt_lt (s : ByteArray) (i : Int) : 0 ≤ B6.pairAt s i ∧ B6.pairAt s i ≤ 65535 := by
 unfold B6.pairAt
 split
 ·rename_i h
  have h1 := (s[i.toNat]'(by omega)).toNat_lt
  have h2 := (s[(i + 1).toNat]'(by omega)).toNat_lt
  omega
 ·omega
theorem need_nonneg {x : Int} (h : 0 ≤ x) : 0 ≤ P0.need x := by unfold P0.need; omega
theorem cnt_le (s : ByteArray) : cnt s ≤ 12 := Nat.min_le_right _ _
theorem cnt_lt (s : ByteArray) (k : Nat) : k < cnt s ↔ (k : Int) < P0.need (B6.pairAt s 2) ∧ k < 12 := by
 have := need_nonneg (pairAt_lt s 2).1
 unfold cnt
 omega
theorem isI_ok {s : ByteArray} (h : isI s = true) : s.size = 16 ∧ (txt s).toList = s.toList ∧ I0.ok (B1.byteAt s 0) (B1.byteAt s 1) (B6.pairAt s 2) (pgs s (cnt s)) = true := by
 simp only [isI, Bool.and_eq_true, decide_eq_true_eq, beq_iff_eq] at h
 refine ⟨h.1, h.2, ?_⟩
 cases hok : I0.ok (B1.byteAt s 0) (B1.byteAt s 1) (B6.pairAt s 2) (pgs s (cnt s)) with
 | true => rfl
 | false =>
  have h2 := h.2
  rw [txt, R0.putI, hok, if_neg (by decide)] at h2
  have h3 := congrArg List.length h2
  rw [Lib.toList_data, Lib.toList_data, ← Lib.size_eq, ← Lib.size_eq] at h3
  rw [h.1] at h3
  exact absurd h3 (by decide)
theorem isI_of {s : ByteArray} (h16 : s.size = 16) (h : ((txt s).toList == s.toList) = true) : isI s = true := by rw [isI, decide_eq_true h16, h]; rfl
theorem isI_not {s : ByteArray} (h : ((txt s).toList == s.toList) = false) : isI s = false := by rw [isI, h, Bool.and_false]
theorem isI_no {s : ByteArray} (h : ¬ s.size = 16) : isI s = false := by rw [isI, decide_eq_false h, Bool.false_and]
theorem isI_bad {s : ByteArray} (h : I0.ok (B1.byteAt s 0) (B1.byteAt s 1) (B6.pairAt s 2) (pgs s (cnt s)) = false) : isI s = false := by
 cases hi : isI s with
 | false => rfl
 | true => rw [(isI_ok hi).2.2] at h; cases h
theorem g_no {s : ByteArray} (h : isI s = false) : gK s = 0 ∧ gO s = 0 ∧ gS s = 0 ∧ gZ s = [] := by simp [gK, gO, gS, gZ, h]
theorem g_yes {s : ByteArray} (h : isI s = true) : gK s = B1.byteAt s 0 ∧ gO s = B1.byteAt s 1 ∧ gS s = B6.pairAt s 2 ∧ gZ s = pgs s (cnt s) := by simp [gK, gO, gS, gZ, h]
end Go.Proofs.YtljnkicgahepfaaGreatDoor.G0
namespace Go.Proofs.YtljnkicgahepfaaGreatDoor.L1
open Go.ChangeShapes Go.WideShapes Go.ChangeAt Go.RowKit
def recAt (i : Int) : Int := if B1.inB i 0 7 then 32 + i * 16 else -1
theorem spec_RecAt (i : Int) (w : World) :
  Calls Tryz.prog 109 #[.int .i64 i] w fun e w' => e = .returned (.int .i64 (recAt i)) ∧ w' = w := by
 by_cases h : B1.inB i 0 7 = true
 ·have e : recAt i = 32 + i * 16 := by rw [recAt, if_pos h]
  obtain ⟨h1, h2⟩ := B1.inB_true h
  rw [e]
  go_enter Tryz.func109, Tryz.ntmps109
  go_wp2_with (go_at_call 44; refine (B1.l01In_any _ _ _ _).mono ?_; rintro e w' ⟨rfl, rfl⟩)
  go_ret
  exact ⟨rfl, rfl⟩
 ·have h' : B1.inB i 0 7 = false := by simpa using h
  have e : recAt i = -1 := by rw [recAt, if_neg h]
  rw [e]
  go_enter Tryz.func109, Tryz.ntmps109
  go_wp2_with (go_at_call 44; refine (B1.l01In_any _ _ _ _).mono ?_; rintro e w' ⟨rfl, rfl⟩)
  go_ret
  exact ⟨rfl, rfl⟩
theorem impl_RecAt (i : Int) (w : World) :
  Calls Tryz.prog 125 #[.int .i64 i] w fun e w' => e = .returned (.int .i64 (recAt i)) ∧ w' = w := by
 by_cases h1 : i < 0
 ·have e : recAt i = -1 := by rw [recAt, show B1.inB i 0 7 = false from decide_eq_false (by omega)]; rfl
  rw [e]
  go_enter Tryz.func125, Tryz.ntmps125
  go_wp2
  go_ret
  exact ⟨rfl, rfl⟩
 ·by_cases h2 : 8 ≤ i
  ·have e : recAt i = -1 := by rw [recAt, show B1.inB i 0 7 = false from decide_eq_false (by omega)]; rfl
   rw [e]
   go_enter Tryz.func125, Tryz.ntmps125
   go_wp2
   go_ret
   exact ⟨rfl, rfl⟩
  ·have e : recAt i = 32 + i * 16 := by rw [recAt, show B1.inB i 0 7 = true from decide_eq_true (by omega)]; rfl
   rw [e]
   go_enter Tryz.func125, Tryz.ntmps125
   go_wp2
   go_ret
   exact ⟨rfl, rfl⟩
end Go.Proofs.YtljnkicgahepfaaGreatDoor.L1
namespace Go.Proofs.YtljnkicgahepfaaGreatDoor.O0
open Go
def recd (mem : ByteArray) (i : Int) : ByteArray := B2.part mem (L1.recAt i) 16
def joined (mem : ByteArray) (zs : List Int) : Nat → ByteArray
 | 0 => ⟨#[]⟩
 | k + 1 => joined mem zs k ++ B2.part mem (zs.getD k 0 * 32) 32
theorem page_size {mem : ByteArray} (hm : mem.size = 768) {z : Int} (h0 : 5 ≤ z) (h1 : z ≤ 23) : (B2.part mem (z * 32) 32).size = 32 := by
 rw [B2.part, show B2.lies mem.size (z * 32) 32 = true from decide_eq_true (by omega), if_pos rfl, ByteArray.size_extract]
 omega
theorem joined_size {mem : ByteArray} (hm : mem.size = 768) {zs : List Int} (hp : P0.pagesOk zs = true) : ∀ k, k ≤ zs.length → (joined mem zs k).size = 32 * k
 | 0, _ => rfl
 | k + 1, h => by
  have hz := R0.pages_bounds hp (k := k) (by omega)
  rw [joined, ByteArray.size_append, joined_size hm hp k (by omega), page_size hm hz.1 hz.2]
  omega
def isL (mem : ByteArray) (i : Int) : Bool := decide (mem.size = 768) && (G0.isI (recd mem i) && !decide (B1.byteAt (recd mem i) 0 = 0))
def lK (mem : ByteArray) (i : Int) : Int := if isL mem i then G0.gK (recd mem i) else 0
def lO (mem : ByteArray) (i : Int) : Int := if isL mem i then G0.gO (recd mem i) else 0
def lS (mem : ByteArray) (i : Int) : Int := if isL mem i then G0.gS (recd mem i) else 0
def lZ (mem : ByteArray) (i : Int) : List Int := if isL mem i then G0.gZ (recd mem i) else []
def lD (mem : ByteArray) (i : Int) : ByteArray := if isL mem i then (joined mem (G0.gZ (recd mem i)) (G0.gZ (recd mem i)).length).extract 0 (G0.gS (recd mem i)).toNat else ⟨#[]⟩
theorem l_no {mem : ByteArray} {i : Int} (h : isL mem i = false) : lK mem i = 0 ∧ lO mem i = 0 ∧ lS mem i = 0 ∧ lZ mem i = [] ∧ lD mem i = ⟨#[]⟩ := by simp [lK, lO, lS, lZ, lD, h]
theorem l_yes {mem : ByteArray} {i : Int} (h : isL mem i = true) : lK mem i = G0.gK (recd mem i) ∧ lO mem i = G0.gO (recd mem i) ∧ lS mem i = G0.gS (recd mem i) ∧ lZ mem i = G0.gZ (recd mem i) ∧ lD mem i = (joined mem (G0.gZ (recd mem i)) (G0.gZ (recd mem i)).length).extract 0 (G0.gS (recd mem i)).toNat := by simp [lK, lO, lS, lZ, lD, h]
theorem isL_of {mem : ByteArray} {i : Int} (h1 : mem.size = 768) (h2 : G0.isI (recd mem i) = true) (h3 : ¬ B1.byteAt (recd mem i) 0 = 0) : isL mem i = true := by rw [isL, decide_eq_true h1, h2, decide_eq_false h3]; rfl
theorem recd_size (mem : ByteArray) (i : Int) (h : mem.size ≤ 281474976710656) : (recd mem i).size ≤ 281474976710656 := by
 have := B2.part_size mem (L1.recAt i) 16
 unfold recd
 omega
theorem got {s : ByteArray} (h : G0.isI s = true) : (0 ≤ G0.gS s ∧ G0.gS s ≤ 192) ∧ (G0.gZ s).length ≤ 6 ∧ G0.gS s ≤ 32 * ((G0.gZ s).length : Int) ∧ P0.pagesOk (G0.gZ s) = true ∧ (0 ≤ G0.gK s ∧ G0.gK s ≤ 2) := by
 have hb := R0.ok_bounds (G0.isI_ok h).2.2
 obtain ⟨e1, e2, e3, e4⟩ := G0.g_yes h
 rw [e1, e3, e4]
 refine ⟨hb.2.2.1, hb.2.2.2.1, ?_, hb.2.2.2.2.2, hb.1⟩
 rw [hb.2.2.2.2.1]
 unfold P0.need
 omega
end Go.Proofs.YtljnkicgahepfaaGreatDoor.O0
