/- Joined texts: plain facts and contracts. -/
import Derived.Test.YtljnkicgahepfaaGreatDoorJqA
import Derived.Deep.QuietTactic
import Derived.BigQuiet
import Derived.Deep.RegionWith
set_option linter.unusedVariables false
set_option linter.unusedSimpArgs false
set_option maxRecDepth 10000
namespace Go.Proofs.YtljnkicgahepfaaGreatDoor.P1
open Go.ChangeShapes Go.WideShapes Go.ChangeAt Go.RowKit
theorem ret_bool {a b : Bool} (h : a = b) : Ending.returned (.bool a) = .returned (.bool b) := by rw [h]
theorem l02Has (b off n c : Nat) (zs : List Int) (x : Int) (w : World) (hz : n ≤ zs.length) (hbig : n ≤ 281474976710656) (hc : ∀ j, j < zs.length → w.cell? ⟨b, off + j, none⟩ = some (.int .i64 (zs.getD j 0))) :
  Calls Tryz.prog 106 #[.slice (some ⟨b, off, none⟩) n c, .int .i64 x] w fun e w' => e = .returned (.bool (P0.has (zs.take n) x)) ∧ w' = w := by
 go_enter Tryz.func106, Tryz.ntmps106
 go_wp2
 go_loop [5] (fun i => ∃ k : Nat, k ≤ n ∧ P0.has (zs.take k) x = false ∧ i = .int .i64 k) (fun i => n - (intOf i).toNat)
 case atStart => exact ⟨0, Nat.zero_le _, rfl, rfl⟩
 case round =>
  obtain ⟨k, hk, hno, rfl⟩ := hrel
  by_cases hlt : k < n
  ·have x1 := hc k (by omega)
   have hs := P0.contains_succ zs k x (by omega)
   have hin := fun h : x = zs.getD k 0 => h ▸ P0.contains_of (zs := zs) hlt hz
   obtain ⟨z, ez⟩ : ∃ z, zs.getD k 0 = z := ⟨_, rfl⟩
   rw [ez] at x1 hs hin
   have e1 : (0 : Int) ≤ (k : Int) := by omega
   have e2 : (k : Int) < (n : Int) := by omega
   by_cases h : z = x
   ·have h' : (z == x) = true := by simpa using h
    have HR : Hid (P0.has (zs.take n) x = true) := hin h.symm
    clear h hs hin hno ez hc
    go_wp2
    go_ret
    exact ⟨ret_bool HR.out.symm, rfl⟩
   ·have h' : (z == x) = false := by simpa using h
    have HN : Hid (P0.has (zs.take (k + 1)) x = false) := by
     rw [hs, hno, show (x == z) = false by simpa using fun q : x = z => h q.symm]
     rfl
    clear h hs hin hno ez hc
    go_wp2
    go_round
    case rel => exact ⟨k + 1, by omega, HN.out, by go_num⟩
    case measure => simp [intOf]; omega
  ·obtain rfl : k = n := by omega
   have HN : Hid (P0.has (zs.take k) x = false) := hno
   clear hno hc
   go_wp2
   go_ret
   exact ⟨ret_bool HN.out.symm, rfl⟩
theorem quiet_bool {P : Program} {f : FuncId} {args : Array Value} {w : World} {n : Nat} {a b : Bool} (h : Calls P f args (w.drewN n) fun e w' => e = .returned (.bool a) ∧ w' = w.drewN n) (hab : a = b) :
  Calls P f args (w.drewN n) fun e w'' => e = .returned (.bool b) ∧ ∃ m, w'' = w.drewN m := hab ▸ Calls.quiet_of_same h
set_option maxHeartbeats 1000000 in
theorem l03Pages (a : Option Addr) (c : Nat) (zs : List Int) (w : World) (hbig : zs.length ≤ 281474976710656) (hcap : zs.length ≤ c) (hR : P0.Row w a zs) :
  Calls Tryz.prog 114 #[.slice a zs.length c] w fun e w' => e = .returned (.bool (P0.pagesOk zs)) ∧ ∃ n, w' = w.drewN n := by
 go_enter Tryz.func114, Tryz.ntmps114
 go_wp2
 go_loopw [3] (fun i w' => ∃ k n : Nat, k ≤ zs.length ∧ P0.okUpto zs k = true ∧ i = .int .i64 k ∧ w' = w.drewN n) (fun i _ => zs.length - (intOf i).toNat)
 case atStart => exact ⟨0, 0, Nat.zero_le _, rfl, rfl, rfl⟩
 case round =>
  obtain ⟨k, n, hk, hok, rfl, hW⟩ := hrel
  have HW : Hid (∀ m, ∃ m', wr.drewN m = w.drewN m') := fun m => ⟨n + m, by rw [hW, World.drewN_drewN]⟩
  by_cases hlt : k < zs.length
  ·have hR' : P0.Row wr a zs := by rw [hW]; exact hR.drewN n
   obtain ⟨b, off, rfl, hb, hc⟩ := hR'.get hlt
   have hH : Hid (∀ m x, Calls Tryz.prog 106 #[.slice (some ⟨b, off, none⟩) k c, .int .i64 x] (wr.drewN m) fun e w' => e = .returned (.bool (P0.has (zs.take k) x)) ∧ w' = wr.drewN m) := fun m x => l02Has b off k c zs x _ (by omega) (by omega) hc
   have x1 := hc k hlt
   have hs := P0.okUpto_succ zs k
   have hat : P0.okAt zs k = (B1.inB (zs.getD k 0) 5 23 && !(P0.has (zs.take k) (zs.getD k 0))) := rfl
   obtain ⟨z, ez⟩ : ∃ z, zs.getD k 0 = z := ⟨_, rfl⟩
   rw [ez] at x1 hat
   have e1 : (0 : Int) ≤ (k : Int) := by omega
   have e2 : (k : Int) < (zs.length : Int) := by omega
   have e3 : (k : Int) ≤ (c : Int) := by omega
   by_cases h1 : B1.inB z 5 23 = true
   ·by_cases h2 : P0.has (zs.take k) z = true
    ·have HR : Hid (P0.pagesOk zs = false) := P0.okUpto_bad hlt (by rw [hat, h1, h2]; rfl)
     clear hs hat hok ez hc hR hR' hW
     go_wp2
     go_quiet ((first | (go_at_call 44; exact quiet_bool (B1.l01In_any _ _ _ _) h1) | (go_at_call 106; exact quiet_bool (hH.out _ _) h2)))
     go_wp2
     go_ret
     exact ⟨ret_bool HR.out.symm, HW.out _⟩
    ·have h2' : P0.has (zs.take k) z = false := by simpa using h2
     have HO : Hid (P0.okUpto zs (k + 1) = true) := by rw [hs, hok, hat, h1, h2']; rfl
     clear hs hat hok ez hc hR hR' hW h2
     go_wp2
     go_quiet ((first | (go_at_call 44; exact quiet_bool (B1.l01In_any _ _ _ _) h1) | (go_at_call 106; exact quiet_bool (hH.out _ _) h2')))
     go_wp2
     obtain ⟨m', hm'⟩ := HW.out nq
     go_roundw
     case rel => exact ⟨k + 1, m', by omega, HO.out, by go_num, hm'⟩
     case measure => simp [intOf]; omega
   ·have h1' : B1.inB z 5 23 = false := by simpa using h1
    have HR : Hid (P0.pagesOk zs = false) := P0.okUpto_bad hlt (by rw [hat, h1']; rfl)
    clear hs hat hok ez hc hR hR' hW h1
    go_wp2
    go_quiet ((go_at_call 44; exact quiet_bool (B1.l01In_any _ _ _ _) h1'))
    go_wp2
    go_ret
    exact ⟨ret_bool HR.out.symm, HW.out _⟩
  ·obtain rfl : k = zs.length := by omega
   have HR : Hid (P0.pagesOk zs = true) := hok
   have HW0 : Hid (wr = w.drewN n) := hW
   clear hok hR hW
   go_wp2
   go_ret
   exact ⟨ret_bool HR.out.symm, n, HW0.out⟩
theorem impl_Contains (b off n c : Nat) (zs : List Int) (x : Int) (w : World) (hz : n ≤ zs.length) (hbig : n ≤ 281474976710656) (hc : ∀ j, j < zs.length → w.cell? ⟨b, off + j, none⟩ = some (.int .i64 (zs.getD j 0))) :
  Calls Tryz.prog 178 #[.slice (some ⟨b, off, none⟩) n c, .int .i64 x] w fun e w' => e = .returned (.bool (P0.has (zs.take n) x)) ∧ w' = w :=
 Tryz.slices_Contains_int b off n c zs x w hz (by omega) hc
set_option maxHeartbeats 1000000 in
theorem pagesOk (a : Option Addr) (c : Nat) (zs : List Int) (w : World) (hbig : zs.length ≤ 281474976710656) (hcap : zs.length ≤ c) (hR : P0.Row w a zs) :
  Calls Tryz.prog 282 #[.slice a zs.length c] w fun e w' => e = .returned (.bool (P0.pagesOk zs)) ∧ w' = w := by
 go_enter Tryz.func282, Tryz.ntmps282
 go_wp2
 go_loop [7] (fun i => ∃ k : Nat, k ≤ zs.length ∧ P0.okUpto zs k = true ∧ i = .int .i64 k) (fun i => zs.length - (intOf i).toNat)
 case atStart => exact ⟨0, Nat.zero_le _, rfl, rfl⟩
 case round =>
  obtain ⟨k, hk, hok, rfl⟩ := hrel
  by_cases hlt : k < zs.length
  ·obtain ⟨b, off, rfl, hb, hc⟩ := hR.get hlt
   have hH : Hid (∀ x, Calls Tryz.prog 178 #[.slice (some ⟨b, off, none⟩) k c, .int .i64 x] w fun e w' => e = .returned (.bool (P0.has (zs.take k) x)) ∧ w' = w) := fun x => impl_Contains b off k c zs x _ (by omega) (by omega) hc
   have x1 := hc k hlt
   have hs := P0.okUpto_succ zs k
   have hat : P0.okAt zs k = (B1.inB (zs.getD k 0) 5 23 && !(P0.has (zs.take k) (zs.getD k 0))) := rfl
   obtain ⟨z, ez⟩ : ∃ z, zs.getD k 0 = z := ⟨_, rfl⟩
   rw [ez] at x1 hat
   have e1 : (0 : Int) ≤ (k : Int) := by omega
   have e2 : (k : Int) < (zs.length : Int) := by omega
   have e3 : (k : Int) ≤ (c : Int) := by omega
   by_cases g1 : z < 5
   ·have HR : Hid (P0.pagesOk zs = false) := P0.okUpto_bad hlt (by rw [hat, show B1.inB z 5 23 = false from decide_eq_false (by omega)]; rfl)
    clear hs hat hok ez hc hR
    go_wp2
    go_ret
    exact ⟨ret_bool HR.out.symm, rfl⟩
   ·by_cases g2 : 24 ≤ z
    ·have HR : Hid (P0.pagesOk zs = false) := P0.okUpto_bad hlt (by rw [hat, show B1.inB z 5 23 = false from decide_eq_false (by omega)]; rfl)
     clear hs hat hok ez hc hR
     go_wp2
     go_ret
     exact ⟨ret_bool HR.out.symm, rfl⟩
    ·have h1 : B1.inB z 5 23 = true := decide_eq_true (by omega)
     by_cases h2 : P0.has (zs.take k) z = true
     ·have HR : Hid (P0.pagesOk zs = false) := P0.okUpto_bad hlt (by rw [hat, h1, h2]; rfl)
      clear hs hat hok ez hc hR
      go_wp2_with (go_at_call 178; refine (hH.out _).mono ?_; rintro e w' ⟨rfl, rfl⟩)
      go_ret
      exact ⟨ret_bool HR.out.symm, rfl⟩
     ·have h2' : P0.has (zs.take k) z = false := by simpa using h2
      have HO : Hid (P0.okUpto zs (k + 1) = true) := by rw [hs, hok, hat, h1, h2']; rfl
      clear hs hat hok ez hc hR h2
      go_wp2_with (go_at_call 178; refine (hH.out _).mono ?_; rintro e w' ⟨rfl, rfl⟩)
      go_round
      case rel => exact ⟨k + 1, by omega, HO.out, by go_num⟩
      case measure => simp [intOf]; omega
  ·obtain rfl : k = zs.length := by omega
   have HR : Hid (P0.pagesOk zs = true) := hok
   clear hok hR
   go_wp2
   go_ret
   exact ⟨ret_bool HR.out.symm, rfl⟩
theorem l03Need (s : Int) (w : World) (h0 : 0 ≤ s) (h1 : s ≤ 65535) :
  Calls Tryz.prog 231 #[.int .i64 s] w fun e w' => e = .returned (.int .i64 (P0.need s)) ∧ w' = w := by
 have e : P0.need s = (s + 32 - 1) / 32 := by unfold P0.need; omega
 rw [e]
 go_enter Tryz.func231, Tryz.ntmps231
 go_wp2
 go_ret
 exact ⟨rfl, rfl⟩
theorem pagesFor (s : Int) (w : World) (h0 : 0 ≤ s) (h1 : s ≤ 65535) :
  Calls Tryz.prog 291 #[.int .i64 s] w fun e w' => e = .returned (.int .i64 (P0.need s)) ∧ w' = w := by
 have e : P0.need s = (s + 32 - 1) / 32 := by unfold P0.need; omega
 rw [e]
 go_enter Tryz.func291, Tryz.ntmps291
 go_wp2
 go_ret
 exact ⟨rfl, rfl⟩
end Go.Proofs.YtljnkicgahepfaaGreatDoor.P1
namespace Go.Proofs.YtljnkicgahepfaaGreatDoor.I0
open Go.ChangeShapes Go.WideShapes Go.ChangeAt Go.RowKit
open P1 (ret_bool quiet_bool)
def holds (o s : Int) (zs : List Int) : Bool := B1.inB o 0 9 && (B1.inB s 0 192 && (decide ((zs.length : Int) = P0.need s) && P0.pagesOk zs))
def free (o s : Int) (zs : List Int) : Bool := decide (o = 0) && (decide (s = 0) && decide (zs.length = 0))
def ok (k o s : Int) (zs : List Int) : Bool := if k = 0 then free o s zs else if k = 1 then holds o s zs else if k = 2 then holds o s zs && decide (s % 16 = 0) else false
abbrev val (k o s : Int) (a : Option Addr) (n c : Nat) : Value := .agg #[.int .i64 k, .int .i64 o, .int .i64 s, .slice a n c]
abbrev vals (k o s : Int) (a : Option Addr) (n c : Nat) : List Value := [.int .i64 k, .int .i64 o, .int .i64 s, .slice a n c]
theorem clientOk (o : Int) (w : World) : Calls Tryz.prog 281 #[.int .i64 o] w fun e w' => e = .returned (.bool (B1.inB o 0 8)) ∧ w' = w := by
 by_cases h1 : 0 ≤ o
 ·by_cases h2 : o ≤ 8
  ·have HR : Hid (B1.inB o 0 8 = true) := decide_eq_true (by omega)
   go_enter Tryz.func281, Tryz.ntmps281
   go_wp2
   go_ret
   exact ⟨ret_bool HR.out.symm, rfl⟩
  ·have h2' : decide (o ≤ 8) = false := by simpa using h2
   have HR : Hid (B1.inB o 0 8 = false) := decide_eq_false (by omega)
   go_enter Tryz.func281, Tryz.ntmps281
   go_wp2
   go_ret
   exact ⟨ret_bool HR.out.symm, rfl⟩
 ·have HR : Hid (B1.inB o 0 8 = false) := decide_eq_false (by omega)
  have h1' : decide (0 ≤ o) = false := by simpa using h1
  go_enter Tryz.func281, Tryz.ntmps281
  go_wp2
  go_ret
  exact ⟨ret_bool HR.out.symm, rfl⟩
theorem ownerOk (o : Int) (w : World) : Calls Tryz.prog 357 #[.int .i64 o] w fun e w' => e = .returned (.bool (B1.inB o 0 9)) ∧ w' = w := by
 have HC := clientOk o w
 cases hc : B1.inB o 0 8 with
 | true =>
  rw [hc] at HC
  have HR : Hid (B1.inB o 0 9 = true) := decide_eq_true (by have := of_decide_eq_true hc; omega)
  go_enter Tryz.func357, Tryz.ntmps357
  go_wp2_with (go_at_call 281; refine HC.mono ?_; rintro e w1 ⟨rfl, rfl⟩)
  go_ret
  exact ⟨ret_bool HR.out.symm, rfl⟩
 | false =>
  rw [hc] at HC
  have hn := of_decide_eq_false hc
  by_cases h3 : o = 9
  ·have HR : Hid (B1.inB o 0 9 = true) := decide_eq_true (by omega)
   have h3' : (o == 9) = true := by simpa using h3
   clear h3 hn
   go_enter Tryz.func357, Tryz.ntmps357
   go_wp2_with (go_at_call 281; refine HC.mono ?_; rintro e w1 ⟨rfl, rfl⟩)
   go_ret
   exact ⟨ret_bool HR.out.symm, rfl⟩
  ·have HR : Hid (B1.inB o 0 9 = false) := decide_eq_false (by omega)
   have h3' : (o == 9) = false := by simpa using h3
   clear h3 hn
   go_enter Tryz.func357, Tryz.ntmps357
   go_wp2_with (go_at_call 281; refine HC.mono ?_; rintro e w1 ⟨rfl, rfl⟩)
   go_ret
   exact ⟨ret_bool HR.out.symm, rfl⟩
theorem below_alloc_drew (w : World) (o : Obj) (n : Nat) : Below w.heap.size w ((w.alloc o).drewN n) := K0.below_drewN (K0.below_new w o) n
set_option maxHeartbeats 1000000 in
theorem holdsOk (k o s : Int) (a : Option Addr) (c : Nat) (zs : List Int) (w : World) (hbig : zs.length ≤ 281474976710656) (hcap : zs.length ≤ c) (hR : P0.Row w a zs) :
  Calls Tryz.prog 356 #[val k o s a zs.length c] w fun e w' => e = .returned (.bool (holds o s zs)) ∧ Below w.heap.size w w' := by
 have hB := K0.below_new w (.cells #[.int .i64 k, .int .i64 o, .int .i64 s, .slice a zs.length c] 143)
 have hR' := hR.alloc (.cells #[.int .i64 k, .int .i64 o, .int .i64 s, .slice a zs.length c] 143)
 have hP : Hid (∀ m, Calls Tryz.prog 282 #[.slice a zs.length c] ((w.alloc (.cells #[.int .i64 k, .int .i64 o, .int .i64 s, .slice a zs.length c] 143)).drewN m) fun e w' => e = .returned (.bool (P0.pagesOk zs)) ∧ w' = (w.alloc (.cells #[.int .i64 k, .int .i64 o, .int .i64 s, .slice a zs.length c] 143)).drewN m) := fun m => P1.pagesOk a c zs _ hbig hcap hR'
 by_cases h1 : s < 0
 ·have HR : Hid (holds o s zs = false) := by rw [holds, show B1.inB s 0 192 = false from decide_eq_false (by omega), Bool.false_and, Bool.and_false]; rfl
  go_enter Tryz.func356, Tryz.ntmps356
  go_wp2
  go_ret
  exact ⟨ret_bool HR.out.symm, hB⟩
 ·by_cases h2 : 192 < s
  ·have HR : Hid (holds o s zs = false) := by rw [holds, show B1.inB s 0 192 = false from decide_eq_false (by omega), Bool.false_and, Bool.and_false]; rfl
   go_enter Tryz.func356, Tryz.ntmps356
   go_wp2
   go_ret
   exact ⟨ret_bool HR.out.symm, hB⟩
  ·have HS : Hid (holds o s zs = (B1.inB o 0 9 && (decide ((zs.length : Int) = P0.need s) && P0.pagesOk zs))) := by rw [holds, show B1.inB s 0 192 = true from decide_eq_true (by omega), Bool.true_and]; rfl
   clear hB
   by_cases g1 : B1.inB o 0 9 = true
   ·by_cases g2 : (zs.length : Int) = P0.need s
    ·have g2' : ((zs.length : Int) == P0.need s) = true := by simpa using g2
     have HR : Hid (holds o s zs = P0.pagesOk zs) := by rw [HS.out, g1, decide_eq_true g2]; rfl
     clear g2 hR hR'
     go_enter Tryz.func356, Tryz.ntmps356
     go_wp2
     go_quiet ((first | (go_at_call 357; exact quiet_bool (ownerOk _ _) g1) | (go_at_call 291; exact Calls.quiet_of_same (P1.pagesFor _ _ (by omega) (by omega))) | (go_at_call 282; exact Calls.quiet_of_same (hP.out _))))
     go_wp2
     go_ret
     exact ⟨ret_bool HR.out.symm, below_alloc_drew _ _ _⟩
    ·have g2' : ((zs.length : Int) == P0.need s) = false := by simpa using g2
     have HR : Hid (holds o s zs = false) := by rw [HS.out, decide_eq_false g2, Bool.false_and, Bool.and_false]; rfl
     clear g2 hR hR'
     go_enter Tryz.func356, Tryz.ntmps356
     go_wp2
     go_quiet ((first | (go_at_call 357; exact quiet_bool (ownerOk _ _) g1) | (go_at_call 291; exact Calls.quiet_of_same (P1.pagesFor _ _ (by omega) (by omega)))))
     go_wp2
     go_ret
     exact ⟨ret_bool HR.out.symm, below_alloc_drew _ _ _⟩
   ·have g1' : B1.inB o 0 9 = false := by simpa using g1
    have HR : Hid (holds o s zs = false) := by rw [HS.out, g1', Bool.false_and]; rfl
    clear hR hR'
    go_enter Tryz.func356, Tryz.ntmps356
    go_wp2
    go_quiet ((go_at_call 357; exact quiet_bool (ownerOk _ _) g1'))
    go_wp2
    go_ret
    exact ⟨ret_bool HR.out.symm, below_alloc_drew _ _ _⟩
theorem freeSound (k o s : Int) (a : Option Addr) (c n : Nat) (zs : List Int) (w : World) (hn : n = zs.length) :
  Calls Tryz.prog 372 #[val k o s a n c] w fun e w' => e = .returned (.bool (free o s zs)) ∧ Below w.heap.size w w' := by
 have hB := K0.below_new w (.cells #[.int .i64 k, .int .i64 o, .int .i64 s, .slice a n c] 340)
 by_cases h1 : o = 0
 ·subst h1
  by_cases h2 : s = 0
  ·subst h2
   by_cases h3 : n = 0
   ·have HR : Hid (free 0 0 zs = true) := by rw [free, ← hn, h3]; rfl
    subst h3
    clear hn
    go_enter Tryz.func372, Tryz.ntmps372
    go_wp2
    go_ret
    exact ⟨ret_bool HR.out.symm, hB⟩
   ·have HR : Hid (free 0 0 zs = false) := by rw [free, ← hn, decide_eq_false h3]; rfl
    have h3' : ((n : Int) == 0) = false := by simp; omega
    clear hn
    go_enter Tryz.func372, Tryz.ntmps372
    go_wp2
    go_ret
    exact ⟨ret_bool HR.out.symm, hB⟩
  ·have HR : Hid (free 0 s zs = false) := by rw [free, decide_eq_false h2, Bool.false_and, Bool.and_false]; rfl
   have h2' : (s == 0) = false := by simpa using h2
   clear hn
   go_enter Tryz.func372, Tryz.ntmps372
   go_wp2
   go_ret
   exact ⟨ret_bool HR.out.symm, hB⟩
 ·have HR : Hid (free o s zs = false) := by rw [free, decide_eq_false h1, Bool.false_and]; rfl
  have h1' : (o == 0) = false := by simpa using h1
  clear hn
  go_enter Tryz.func372, Tryz.ntmps372
  go_wp2
  go_ret
  exact ⟨ret_bool HR.out.symm, hB⟩
theorem fileSound (k o s : Int) (a : Option Addr) (c : Nat) (zs : List Int) (w : World) (hbig : zs.length ≤ 281474976710656) (hcap : zs.length ≤ c) (hR : P0.Row w a zs) :
  Calls Tryz.prog 355 #[val k o s a zs.length c] w fun e w' => e = .returned (.bool (holds o s zs)) ∧ Below w.heap.size w w' := by
 have hB := K0.below_new w (.cells #[.int .i64 k, .int .i64 o, .int .i64 s, .slice a zs.length c] 309)
 have hR' := hR.alloc (.cells #[.int .i64 k, .int .i64 o, .int .i64 s, .slice a zs.length c] 309)
 go_enter Tryz.func355, Tryz.ntmps355
 go_wp2_with (go_at_call 356; refine (holdsOk k o s a c zs _ hbig hcap hR').mono ?_; rintro e w' ⟨rfl, hb⟩)
 go_ret
 exact ⟨rfl, hB.trans (hb.mono hB.size)⟩
theorem dirSound (k o s : Int) (a : Option Addr) (c : Nat) (zs : List Int) (w : World) (hbig : zs.length ≤ 281474976710656) (hcap : zs.length ≤ c) (hR : P0.Row w a zs) :
  Calls Tryz.prog 358 #[val k o s a zs.length c] w fun e w' => e = .returned (.bool (holds o s zs && decide (s % 16 = 0))) ∧ Below w.heap.size w w' := by
 have hB := K0.below_new w (.cells #[.int .i64 k, .int .i64 o, .int .i64 s, .slice a zs.length c] 311)
 have hR' := hR.alloc (.cells #[.int .i64 k, .int .i64 o, .int .i64 s, .slice a zs.length c] 311)
 have hK := K0.blk_new (vals k o s a zs.length c) w 311
 by_cases hh : holds o s zs = true
 ·have hs := hh
  simp only [holds, Bool.and_eq_true] at hs
  obtain ⟨hs1, hs2⟩ := B1.inB_true hs.2.1
  clear hs
  by_cases h16 : s % 16 = 0
  ·have h16' : (s % 16 == 0) = true := by simpa using h16
   have HR : Hid ((holds o s zs && decide (s % 16 = 0)) = true) := by rw [hh, decide_eq_true h16]; rfl
   clear h16
   go_enter Tryz.func358, Tryz.ntmps358
   go_wp2_with (go_at_call 356; refine (holdsOk k o s a c zs _ hbig hcap hR').mono ?_; rintro e w' ⟨rfl, hb⟩; have hK' := hK.below hb; have c2 := hK'.c2)
   go_ret
   exact ⟨ret_bool HR.out.symm, hB.trans (hb.mono hB.size)⟩
  ·have h16' : (s % 16 == 0) = false := by simpa using h16
   have HR : Hid ((holds o s zs && decide (s % 16 = 0)) = false) := by rw [decide_eq_false h16, Bool.and_false]; rfl
   clear h16
   go_enter Tryz.func358, Tryz.ntmps358
   go_wp2_with (go_at_call 356; refine (holdsOk k o s a c zs _ hbig hcap hR').mono ?_; rintro e w' ⟨rfl, hb⟩; have hK' := hK.below hb; have c2 := hK'.c2)
   go_ret
   exact ⟨ret_bool HR.out.symm, hB.trans (hb.mono hB.size)⟩
 ·have hh' : holds o s zs = false := by simpa using hh
  have HR : Hid ((holds o s zs && decide (s % 16 = 0)) = false) := by rw [hh', Bool.false_and]; rfl
  go_enter Tryz.func358, Tryz.ntmps358
  go_wp2_with (go_at_call 356; refine (holdsOk k o s a c zs _ hbig hcap hR').mono ?_; rintro e w' ⟨rfl, hb⟩)
  go_ret
  exact ⟨ret_bool HR.out.symm, hB.trans (hb.mono hB.size)⟩
end Go.Proofs.YtljnkicgahepfaaGreatDoor.I0
namespace Go.Proofs.YtljnkicgahepfaaGreatDoor.I1
open Go.ChangeShapes Go.WideShapes Go.ChangeAt Go.RowKit
open P1 (ret_bool quiet_bool)
open I0 (val vals)
def rec (k : Int) (v : Value) : Value := if k = 0 then .iface 340 v else if k = 1 then .iface 309 v else if k = 2 then .iface 311 v else .nilIface
set_option maxHeartbeats 1000000 in
theorem recordOf0 (o s : Int) (a : Option Addr) (c : Nat) (zs : List Int) (w : World) (hbig : zs.length ≤ 281474976710656) (hcap : zs.length ≤ c) (hR : P0.Row w a zs) :
  Calls Tryz.prog 292 #[val 0 o s a zs.length c] w fun e w' => e = .returned (.tuple #[.iface 340 (val 0 o s a zs.length c), .bool (I0.free o s zs)]) ∧ Below w.heap.size w w' := by
 have hB := K0.below_new w (.cells #[.int .i64 0, .int .i64 o, .int .i64 s, .slice a zs.length c] 143)
 have hR' := hR.alloc (.cells #[.int .i64 0, .int .i64 o, .int .i64 s, .slice a zs.length c] 143)
 go_enter Tryz.func292, Tryz.ntmps292
 go_wp2_with (go_at_call 372; refine (I0.freeSound 0 o s a c zs.length zs _ rfl).mono ?_; rintro e w' ⟨rfl, hb⟩)
 go_ret2
 exact ⟨rfl, hB.trans (hb.mono hB.size)⟩
set_option maxHeartbeats 1000000 in
theorem recordOf1 (o s : Int) (a : Option Addr) (c : Nat) (zs : List Int) (w : World) (hbig : zs.length ≤ 281474976710656) (hcap : zs.length ≤ c) (hR : P0.Row w a zs) :
  Calls Tryz.prog 292 #[val 1 o s a zs.length c] w fun e w' => e = .returned (.tuple #[.iface 309 (val 1 o s a zs.length c), .bool (I0.holds o s zs)]) ∧ Below w.heap.size w w' := by
 have hB := K0.below_new w (.cells #[.int .i64 1, .int .i64 o, .int .i64 s, .slice a zs.length c] 143)
 have hR' := hR.alloc (.cells #[.int .i64 1, .int .i64 o, .int .i64 s, .slice a zs.length c] 143)
 go_enter Tryz.func292, Tryz.ntmps292
 go_wp2_with (go_at_call 355; refine (I0.fileSound 1 o s a c zs _ hbig hcap hR').mono ?_; rintro e w' ⟨rfl, hb⟩)
 go_ret2
 exact ⟨rfl, hB.trans (hb.mono hB.size)⟩
set_option maxHeartbeats 1000000 in
theorem recordOf2 (o s : Int) (a : Option Addr) (c : Nat) (zs : List Int) (w : World) (hbig : zs.length ≤ 281474976710656) (hcap : zs.length ≤ c) (hR : P0.Row w a zs) :
  Calls Tryz.prog 292 #[val 2 o s a zs.length c] w fun e w' => e = .returned (.tuple #[.iface 311 (val 2 o s a zs.length c), .bool (I0.holds o s zs && decide (s % 16 = 0))]) ∧ Below w.heap.size w w' := by
 have hB := K0.below_new w (.cells #[.int .i64 2, .int .i64 o, .int .i64 s, .slice a zs.length c] 143)
 have hR' := hR.alloc (.cells #[.int .i64 2, .int .i64 o, .int .i64 s, .slice a zs.length c] 143)
 go_enter Tryz.func292, Tryz.ntmps292
 go_wp2_with (go_at_call 358; refine (I0.dirSound 2 o s a c zs _ hbig hcap hR').mono ?_; rintro e w' ⟨rfl, hb⟩)
 go_ret2
 exact ⟨rfl, hB.trans (hb.mono hB.size)⟩
theorem recordOfN (k o s : Int) (a : Option Addr) (c n : Nat) (w : World) (h0 : k ≠ 0) (h1 : k ≠ 1) (h2 : k ≠ 2) :
  Calls Tryz.prog 292 #[val k o s a n c] w fun e w' => e = .returned (.tuple #[.nilIface, .bool false]) ∧ Below w.heap.size w w' := by
 have hB := K0.below_new w (.cells #[.int .i64 k, .int .i64 o, .int .i64 s, .slice a n c] 143)
 have g0 : (k == 0) = false := by simpa using h0
 have g1 : (k == 1) = false := by simpa using h1
 have g2 : (k == 2) = false := by simpa using h2
 go_enter Tryz.func292, Tryz.ntmps292
 go_wp2
 go_ret2
 exact ⟨rfl, hB⟩
theorem recordOf (k o s : Int) (a : Option Addr) (c : Nat) (zs : List Int) (w : World) (hbig : zs.length ≤ 281474976710656) (hcap : zs.length ≤ c) (hR : P0.Row w a zs) :
  Calls Tryz.prog 292 #[val k o s a zs.length c] w fun e w' => e = .returned (.tuple #[rec k (val k o s a zs.length c), .bool (I0.ok k o s zs)]) ∧ Below w.heap.size w w' := by
 by_cases h0 : k = 0
 ·subst h0
  exact recordOf0 o s a c zs w hbig hcap hR
 ·by_cases h1 : k = 1
  ·subst h1
   exact recordOf1 o s a c zs w hbig hcap hR
  ·by_cases h2 : k = 2
   ·subst h2
    exact recordOf2 o s a c zs w hbig hcap hR
   ·have e1 : rec k (val k o s a zs.length c) = .nilIface := by rw [rec, if_neg h0, if_neg h1, if_neg h2]
    have e2 : I0.ok k o s zs = false := by rw [I0.ok, if_neg h0, if_neg h1, if_neg h2]
    rw [e1, e2]
    exact recordOfN k o s a c zs.length w h0 h1 h2
theorem specFree (o s : Int) (a : Option Addr) (c n : Nat) (zs : List Int) (w : World) (hn : n = zs.length) :
  Calls Tryz.prog 224 #[val 0 o s a n c] w fun e w' => e = .returned (.bool (I0.free o s zs)) ∧ Below w.heap.size w w' := by
 have hB := K0.below_new w (.cells #[.int .i64 0, .int .i64 o, .int .i64 s, .slice a n c] 143)
 by_cases h1 : o = 0
 ·subst h1
  by_cases h2 : s = 0
  ·subst h2
   by_cases h3 : n = 0
   ·have HR : Hid (I0.free 0 0 zs = true) := by rw [I0.free, ← hn, h3]; rfl
    subst h3
    clear hn
    go_enter Tryz.func224, Tryz.ntmps224
    go_wp2
    go_ret
    exact ⟨ret_bool HR.out.symm, hB⟩
   ·have HR : Hid (I0.free 0 0 zs = false) := by rw [I0.free, ← hn, decide_eq_false h3]; rfl
    have h3' : ((n : Int) == 0) = false := by simp; omega
    clear hn
    go_enter Tryz.func224, Tryz.ntmps224
    go_wp2
    go_ret
    exact ⟨ret_bool HR.out.symm, hB⟩
  ·have HR : Hid (I0.free 0 s zs = false) := by rw [I0.free, decide_eq_false h2, Bool.false_and, Bool.and_false]; rfl
   have h2' : (s == 0) = false := by simpa using h2
   clear hn
   go_enter Tryz.func224, Tryz.ntmps224
   go_wp2
   go_ret
   exact ⟨ret_bool HR.out.symm, hB⟩
 ·have HR : Hid (I0.free o s zs = false) := by rw [I0.free, decide_eq_false h1, Bool.false_and]; rfl
  have h1' : (o == 0) = false := by simpa using h1
  clear hn
  go_enter Tryz.func224, Tryz.ntmps224
  go_wp2
  go_ret
  exact ⟨ret_bool HR.out.symm, hB⟩
set_option maxHeartbeats 2000000 in
theorem specHolds (k o s : Int) (a : Option Addr) (c : Nat) (zs : List Int) (w : World) (hbig : zs.length ≤ 281474976710656) (hcap : zs.length ≤ c) (hR : P0.Row w a zs) (h0 : k ≠ 0) :
    Calls Tryz.prog 224 #[val k o s a zs.length c] w fun e w' => e = .returned (.bool (I0.ok k o s zs)) ∧ Below w.heap.size w w' := by
  have hB := K0.below_new w (.cells #[.int .i64 k, .int .i64 o, .int .i64 s, .slice a zs.length c] 143)
  have hR' := hR.alloc (.cells #[.int .i64 k, .int .i64 o, .int .i64 s, .slice a zs.length c] 143)
  have hP : Hid (∀ m, Calls Tryz.prog 114 #[.slice a zs.length c] ((w.alloc (.cells #[.int .i64 k, .int .i64 o, .int .i64 s, .slice a zs.length c] 143)).drewN m) fun e w' => e = .returned (.bool (P0.pagesOk zs)) ∧ ∃ n, w' = ((w.alloc (.cells #[.int .i64 k, .int .i64 o, .int .i64 s, .slice a zs.length c] 143)).drewN m).drewN n) := fun m => P1.l03Pages a c zs _ hbig hcap (hR'.drewN m)
  clear hR hR'
  have z0 : (k == 0) = false := by simpa using h0
  by_cases hS : B1.inB s 0 192 = true
  · obtain ⟨hs1, hs2⟩ := B1.inB_true hS
    by_cases hd : k = 2 ∧ ¬ s % 16 = 0
    · obtain ⟨rfl, h16⟩ := hd
      have h16' : (s % 16 != 0) = true := by simpa using h16
      have HR : Hid (I0.ok 2 o s zs = false) := by
        show (I0.holds o s zs && decide (s % 16 = 0)) = false
        rw [decide_eq_false h16, Bool.and_false]
      clear h16
      go_enter Tryz.func224, Tryz.ntmps224
      go_wp2
      go_ret
      exact ⟨ret_bool HR.out.symm, hB⟩
    · have HK : Hid (B1.inB k 1 2 = true → I0.ok k o s zs = I0.holds o s zs) := fun h => by
        obtain ⟨k1, k2⟩ := B1.inB_true h
        by_cases e1 : k = 1
        · subst e1; rfl
        · have e2 : k = 2 := by omega
          have h16 : s % 16 = 0 := Decidable.byContradiction fun h => hd ⟨e2, h⟩
          subst e2
          show (I0.holds o s zs && decide (s % 16 = 0)) = I0.holds o s zs
          rw [decide_eq_true h16, Bool.and_true]
      have HN : Hid (B1.inB k 1 2 = false → I0.ok k o s zs = false) := fun h => by
        have := B1.inB_false h
        rw [I0.ok, if_neg h0, if_neg (by omega), if_neg (by omega)]
      have hg : (k == 2) = false ∨ ((k == 2) = true ∧ (s % 16 != 0) = false) := by
        by_cases e2 : k = 2
        · right
          refine ⟨by simpa using e2, ?_⟩
          have h16 : s % 16 = 0 := Decidable.byContradiction fun h => hd ⟨e2, h⟩
          simpa using h16
        · left
          simpa using e2
      have HH : Hid (I0.holds o s zs = (B1.inB o 0 9 && (decide ((zs.length : Int) = P0.need s) && P0.pagesOk zs))) := by rw [I0.holds, hS, Bool.true_and]; rfl
      clear hd h0
      by_cases g0 : B1.inB k 1 2 = true
      · by_cases g1 : B1.inB o 0 9 = true
        · by_cases g2 : (zs.length : Int) = P0.need s
          · have g2' : ((zs.length : Int) == P0.need s) = true := by simpa using g2
            have HR : Hid (I0.ok k o s zs = P0.pagesOk zs) := by rw [HK.out g0, HH.out, g1, decide_eq_true g2]; rfl
            clear g2
            rcases hg with hg | ⟨hg, hg2⟩
            all_goals
              go_enter Tryz.func224, Tryz.ntmps224
              go_wp2
              go_quiet ((first | (go_at_call 44; first | exact quiet_bool (B1.l01In_any _ _ _ _) g0 | exact quiet_bool (B1.l01In_any _ _ _ _) g1 | exact quiet_bool (B1.l01In_any _ _ _ _) hS) | (go_at_call 231; exact Calls.quiet_of_same (P1.l03Need _ _ (by omega) (by omega))) | (go_at_call 114; exact Calls.quiet_of (hP.out _))))
              go_wp2
              go_ret
              exact ⟨ret_bool HR.out.symm, I0.below_alloc_drew _ _ _⟩
          · have g2' : ((zs.length : Int) == P0.need s) = false := by simpa using g2
            have HR : Hid (I0.ok k o s zs = false) := by rw [HK.out g0, HH.out, decide_eq_false g2, Bool.false_and, Bool.and_false]; rfl
            clear g2
            rcases hg with hg | ⟨hg, hg2⟩
            all_goals
              go_enter Tryz.func224, Tryz.ntmps224
              go_wp2
              go_quiet ((first | (go_at_call 44; first | exact quiet_bool (B1.l01In_any _ _ _ _) g0 | exact quiet_bool (B1.l01In_any _ _ _ _) g1 | exact quiet_bool (B1.l01In_any _ _ _ _) hS) | (go_at_call 231; exact Calls.quiet_of_same (P1.l03Need _ _ (by omega) (by omega)))))
              go_wp2
              go_ret
              exact ⟨ret_bool HR.out.symm, I0.below_alloc_drew _ _ _⟩
        · have g1' : B1.inB o 0 9 = false := by simpa using g1
          have HR : Hid (I0.ok k o s zs = false) := by rw [HK.out g0, HH.out, g1', Bool.false_and]; rfl
          rcases hg with hg | ⟨hg, hg2⟩
          all_goals
            go_enter Tryz.func224, Tryz.ntmps224
            go_wp2
            go_quiet ((go_at_call 44; first | exact quiet_bool (B1.l01In_any _ _ _ _) g0 | exact quiet_bool (B1.l01In_any _ _ _ _) g1'))
            go_wp2
            go_ret
            exact ⟨ret_bool HR.out.symm, I0.below_alloc_drew _ _ _⟩
      · have g0' : B1.inB k 1 2 = false := by simpa using g0
        have HR : Hid (I0.ok k o s zs = false) := HN.out g0'
        rcases hg with hg | ⟨hg, hg2⟩
        all_goals
          go_enter Tryz.func224, Tryz.ntmps224
          go_wp2
          go_quiet ((go_at_call 44; exact quiet_bool (B1.l01In_any _ _ _ _) g0'))
          go_wp2
          go_ret
          exact ⟨ret_bool HR.out.symm, I0.below_alloc_drew _ _ _⟩
  · have hS' : B1.inB s 0 192 = false := by simpa using hS
    have HR : Hid (I0.ok k o s zs = false) := by
      show I0.ok k o s zs = false
      have hf : I0.holds o s zs = false := by rw [I0.holds, hS', Bool.false_and, Bool.and_false]
      rw [I0.ok, if_neg h0]
      split
      · exact hf
      · split
        · rw [hf]; rfl
        · rfl
    clear hS
    have hg : (k == 2) = false ∨ (k == 2) = true := by cases (k == 2) <;> simp
    by_cases g0 : B1.inB k 1 2 = true
    · by_cases g1 : B1.inB o 0 9 = true
      · rcases hg with hg | hg
        all_goals
          go_enter Tryz.func224, Tryz.ntmps224
          go_wp2
          all_goals first
            | (go_ret
               exact ⟨ret_bool HR.out.symm, hB⟩)
            | (go_quiet ((go_at_call 44; first | exact quiet_bool (B1.l01In_any _ _ _ _) g0 | exact quiet_bool (B1.l01In_any _ _ _ _) g1 | exact quiet_bool (B1.l01In_any _ _ _ _) hS'))
               go_wp2
               go_ret
               exact ⟨ret_bool HR.out.symm, I0.below_alloc_drew _ _ _⟩)
      · have g1' : B1.inB o 0 9 = false := by simpa using g1
        rcases hg with hg | hg
        all_goals
          go_enter Tryz.func224, Tryz.ntmps224
          go_wp2
          all_goals first
            | (go_ret
               exact ⟨ret_bool HR.out.symm, hB⟩)
            | (go_quiet ((go_at_call 44; first | exact quiet_bool (B1.l01In_any _ _ _ _) g0 | exact quiet_bool (B1.l01In_any _ _ _ _) g1'))
               go_wp2
               go_ret
               exact ⟨ret_bool HR.out.symm, I0.below_alloc_drew _ _ _⟩)
    · have g0' : B1.inB k 1 2 = false := by simpa using g0
      rcases hg with hg | hg
      all_goals
        go_enter Tryz.func224, Tryz.ntmps224
        go_wp2
        all_goals first
          | (go_ret
             exact ⟨ret_bool HR.out.symm, hB⟩)
          | (go_quiet ((go_at_call 44; exact quiet_bool (B1.l01In_any _ _ _ _) g0'))
             go_wp2
             go_ret
             exact ⟨ret_bool HR.out.symm, I0.below_alloc_drew _ _ _⟩)
theorem spec_InodeOk (k o s : Int) (a : Option Addr) (c : Nat) (zs : List Int) (w : World) (hbig : zs.length ≤ 281474976710656) (hcap : zs.length ≤ c) (hR : P0.Row w a zs) :
  Calls Tryz.prog 224 #[val k o s a zs.length c] w fun e w' => e = .returned (.bool (I0.ok k o s zs)) ∧ Below w.heap.size w w' := by
 by_cases h0 : k = 0
 ·subst h0
  exact specFree o s a c zs.length zs w rfl
 ·exact specHolds k o s a c zs w hbig hcap hR h0
end Go.Proofs.YtljnkicgahepfaaGreatDoor.I1
