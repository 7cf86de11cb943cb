/- Joined texts: plain facts and contracts, as each part says. -/
import Derived.Test.YtddlpejklpljoaaJfD
import Derived.Deep.RegionWith
import Derived.Lib.SmallJoins
import Derived.OpenShut
import Derived.ShutString
import Derived.Laws.MakeOwn
import Derived.Test.YtddlpejklpljoaaJfC
import Derived.Lib.AppendZerosOnto
import Derived.Shelf.LaysM
import Derived.Shelf.Strconv.Clone
import Derived.Shelf.Sort.Plain
import Derived.Shelf.Slices.Turned
import Derived.Ground.Names2Prog
import Derived.Shelf.Slices.Clone
import Derived.Shelf.Slices.CompactI
import Derived.Test.YtddlpejklpljoaaJfB

/- Plain facts on inodes; contracts of the program's checks of an inode's parts. -/
namespace Go.Proofs.Ytddlpejklpljoaa.I0
open Go.ChangeShapes Go.WideShapes Go.ChangeAt Go.RowKit
set_option linter.unusedVariables false
set_option linter.unusedSimpArgs false
set_option maxRecDepth 10000

open P1 (ret_bool quiet_bool)

/-- What a file's or a directory's inode must be. -/
def holds (o s : Int) (zs : List Int) : Bool := B1.inB o 0 9 && (B1.inB s 0 192 && (decide ((zs.length : Int) = P0.need s) && P0.pagesOk zs))

/-- What a free inode must be. -/
def free (o s : Int) (zs : List Int) : Bool := decide (o = 0) && (decide (s = 0) && decide (zs.length = 0))

/-- What an inode must be. -/
def ok (k o s : Int) (zs : List Int) : Bool := if k = 0 then free o s zs else if k = 1 then holds o s zs else if k = 2 then holds o s zs && decide (s % 16 = 0) else false

abbrev val (k o s : Int) (a : Option Addr) (n c : Nat) : Value := .agg #[.int .i64 k, .int .i64 o, .int .i64 s, .slice a n c]
abbrev vals (k o s : Int) (a : Option Addr) (n c : Nat) : List Value := [.int .i64 k, .int .i64 o, .int .i64 s, .slice a n c]

theorem clientOk (o : Int) (w : World) : Calls Try.prog 130 #[.int .i64 o] w fun e w' => e = .returned (.bool (B1.inB o 0 8)) ∧ w' = w := by
  by_cases h1 : 0 ≤ o
  · by_cases h2 : o ≤ 8
    · have HR : Hid (B1.inB o 0 8 = true) := decide_eq_true (by omega)
      go_enter Try.func130, Try.ntmps130
      go_wp2
      go_ret
      exact ⟨ret_bool HR.out.symm, rfl⟩
    · have h2' : decide (o ≤ 8) = false := by simpa using h2
      have HR : Hid (B1.inB o 0 8 = false) := decide_eq_false (by omega)
      go_enter Try.func130, Try.ntmps130
      go_wp2
      go_ret
      exact ⟨ret_bool HR.out.symm, rfl⟩
  · have HR : Hid (B1.inB o 0 8 = false) := decide_eq_false (by omega)
    have h1' : decide (0 ≤ o) = false := by simpa using h1
    go_enter Try.func130, Try.ntmps130
    go_wp2
    go_ret
    exact ⟨ret_bool HR.out.symm, rfl⟩

theorem ownerOk (o : Int) (w : World) : Calls Try.prog 163 #[.int .i64 o] w fun e w' => e = .returned (.bool (B1.inB o 0 9)) ∧ w' = w := by
  have HC := clientOk o w
  cases hc : B1.inB o 0 8 with
  | true =>
    rw [hc] at HC
    have HR : Hid (B1.inB o 0 9 = true) := decide_eq_true (by have := of_decide_eq_true hc; omega)
    go_enter Try.func163, Try.ntmps163
    go_wp2_with (go_at_call 130; refine HC.mono ?_; rintro e w1 ⟨rfl, rfl⟩)
    go_ret
    exact ⟨ret_bool HR.out.symm, rfl⟩
  | false =>
    rw [hc] at HC
    have hn := of_decide_eq_false hc
    by_cases h3 : o = 9
    · have HR : Hid (B1.inB o 0 9 = true) := decide_eq_true (by omega)
      have h3' : (o == 9) = true := by simpa using h3
      clear h3 hn
      go_enter Try.func163, Try.ntmps163
      go_wp2_with (go_at_call 130; refine HC.mono ?_; rintro e w1 ⟨rfl, rfl⟩)
      go_ret
      exact ⟨ret_bool HR.out.symm, rfl⟩
    · have HR : Hid (B1.inB o 0 9 = false) := decide_eq_false (by omega)
      have h3' : (o == 9) = false := by simpa using h3
      clear h3 hn
      go_enter Try.func163, Try.ntmps163
      go_wp2_with (go_at_call 130; refine HC.mono ?_; rintro e w1 ⟨rfl, rfl⟩)
      go_ret
      exact ⟨ret_bool HR.out.symm, rfl⟩

theorem below_alloc_drew (w : World) (o : Obj) (n : Nat) : Below w.heap.size w ((w.alloc o).drewN n) := K0.below_drewN (K0.below_new w o) n

set_option maxHeartbeats 1000000 in
theorem holdsOk (k o s : Int) (a : Option Addr) (c : Nat) (zs : List Int) (w : World) (hbig : zs.length ≤ 281474976710656) (hcap : zs.length ≤ c) (hR : P0.Row w a zs) :
    Calls Try.prog 162 #[val k o s a zs.length c] w fun e w' => e = .returned (.bool (holds o s zs)) ∧ Below w.heap.size w w' := by
  have hB := K0.below_new w (.cells #[.int .i64 k, .int .i64 o, .int .i64 s, .slice a zs.length c] 45)
  have hR' := hR.alloc (.cells #[.int .i64 k, .int .i64 o, .int .i64 s, .slice a zs.length c] 45)
  have hP : Hid (∀ m, Calls Try.prog 132 #[.slice a zs.length c] ((w.alloc (.cells #[.int .i64 k, .int .i64 o, .int .i64 s, .slice a zs.length c] 45)).drewN m) fun e w' => e = .returned (.bool (P0.pagesOk zs)) ∧ w' = (w.alloc (.cells #[.int .i64 k, .int .i64 o, .int .i64 s, .slice a zs.length c] 45)).drewN m) := fun m => P1.pagesOk a c zs _ hbig hcap hR'
  by_cases h1 : s < 0
  · have HR : Hid (holds o s zs = false) := by rw [holds, show B1.inB s 0 192 = false from decide_eq_false (by omega), Bool.false_and, Bool.and_false]; rfl
    go_enter Try.func162, Try.ntmps162
    go_wp2
    go_ret
    exact ⟨ret_bool HR.out.symm, hB⟩
  · by_cases h2 : 192 < s
    · have HR : Hid (holds o s zs = false) := by rw [holds, show B1.inB s 0 192 = false from decide_eq_false (by omega), Bool.false_and, Bool.and_false]; rfl
      go_enter Try.func162, Try.ntmps162
      go_wp2
      go_ret
      exact ⟨ret_bool HR.out.symm, hB⟩
    · have HS : Hid (holds o s zs = (B1.inB o 0 9 && (decide ((zs.length : Int) = P0.need s) && P0.pagesOk zs))) := by rw [holds, show B1.inB s 0 192 = true from decide_eq_true (by omega), Bool.true_and]; rfl
      clear hB
      by_cases g1 : B1.inB o 0 9 = true
      · by_cases g2 : (zs.length : Int) = P0.need s
        · have g2' : ((zs.length : Int) == P0.need s) = true := by simpa using g2
          have HR : Hid (holds o s zs = P0.pagesOk zs) := by rw [HS.out, g1, decide_eq_true g2]; rfl
          clear g2 hR hR'
          go_enter Try.func162, Try.ntmps162
          go_wp2
          go_quiet ((first | (go_at_call 163; exact quiet_bool (ownerOk _ _) g1) | (go_at_call 116; exact Calls.quiet_of_same (P1.pagesFor _ _ (by omega) (by omega))) | (go_at_call 132; exact Calls.quiet_of_same (hP.out _))))
          go_wp2
          go_ret
          exact ⟨ret_bool HR.out.symm, below_alloc_drew _ _ _⟩
        · have g2' : ((zs.length : Int) == P0.need s) = false := by simpa using g2
          have HR : Hid (holds o s zs = false) := by rw [HS.out, decide_eq_false g2, Bool.false_and, Bool.and_false]; rfl
          clear g2 hR hR'
          go_enter Try.func162, Try.ntmps162
          go_wp2
          go_quiet ((first | (go_at_call 163; exact quiet_bool (ownerOk _ _) g1) | (go_at_call 116; exact Calls.quiet_of_same (P1.pagesFor _ _ (by omega) (by omega)))))
          go_wp2
          go_ret
          exact ⟨ret_bool HR.out.symm, below_alloc_drew _ _ _⟩
      · have g1' : B1.inB o 0 9 = false := by simpa using g1
        have HR : Hid (holds o s zs = false) := by rw [HS.out, g1', Bool.false_and]; rfl
        clear hR hR'
        go_enter Try.func162, Try.ntmps162
        go_wp2
        go_quiet ((go_at_call 163; exact quiet_bool (ownerOk _ _) g1'))
        go_wp2
        go_ret
        exact ⟨ret_bool HR.out.symm, below_alloc_drew _ _ _⟩

theorem freeSound (k o s : Int) (a : Option Addr) (c n : Nat) (zs : List Int) (w : World) (hn : n = zs.length) :
    Calls Try.prog 165 #[val k o s a n c] w fun e w' => e = .returned (.bool (free o s zs)) ∧ Below w.heap.size w w' := by
  have hB := K0.below_new w (.cells #[.int .i64 k, .int .i64 o, .int .i64 s, .slice a n c] 168)
  by_cases h1 : o = 0
  · subst h1
    by_cases h2 : s = 0
    · subst h2
      by_cases h3 : n = 0
      · have HR : Hid (free 0 0 zs = true) := by rw [free, ← hn, h3]; rfl
        subst h3
        clear hn
        go_enter Try.func165, Try.ntmps165
        go_wp2
        go_ret
        exact ⟨ret_bool HR.out.symm, hB⟩
      · have HR : Hid (free 0 0 zs = false) := by rw [free, ← hn, decide_eq_false h3]; rfl
        have h3' : ((n : Int) == 0) = false := by simp; omega
        clear hn
        go_enter Try.func165, Try.ntmps165
        go_wp2
        go_ret
        exact ⟨ret_bool HR.out.symm, hB⟩
    · have HR : Hid (free 0 s zs = false) := by rw [free, decide_eq_false h2, Bool.false_and, Bool.and_false]; rfl
      have h2' : (s == 0) = false := by simpa using h2
      clear hn
      go_enter Try.func165, Try.ntmps165
      go_wp2
      go_ret
      exact ⟨ret_bool HR.out.symm, hB⟩
  · have HR : Hid (free o s zs = false) := by rw [free, decide_eq_false h1, Bool.false_and]; rfl
    have h1' : (o == 0) = false := by simpa using h1
    clear hn
    go_enter Try.func165, Try.ntmps165
    go_wp2
    go_ret
    exact ⟨ret_bool HR.out.symm, hB⟩

theorem fileSound (k o s : Int) (a : Option Addr) (c : Nat) (zs : List Int) (w : World) (hbig : zs.length ≤ 281474976710656) (hcap : zs.length ≤ c) (hR : P0.Row w a zs) :
    Calls Try.prog 161 #[val k o s a zs.length c] w fun e w' => e = .returned (.bool (holds o s zs)) ∧ Below w.heap.size w w' := by
  have hB := K0.below_new w (.cells #[.int .i64 k, .int .i64 o, .int .i64 s, .slice a zs.length c] 156)
  have hR' := hR.alloc (.cells #[.int .i64 k, .int .i64 o, .int .i64 s, .slice a zs.length c] 156)
  go_enter Try.func161, Try.ntmps161
  go_wp2_with (go_at_call 162; refine (holdsOk k o s a c zs _ hbig hcap hR').mono ?_; rintro e w' ⟨rfl, hb⟩)
  go_ret
  exact ⟨rfl, hB.trans (hb.mono hB.size)⟩

theorem dirSound (k o s : Int) (a : Option Addr) (c : Nat) (zs : List Int) (w : World) (hbig : zs.length ≤ 281474976710656) (hcap : zs.length ≤ c) (hR : P0.Row w a zs) :
    Calls Try.prog 164 #[val k o s a zs.length c] w fun e w' => e = .returned (.bool (holds o s zs && decide (s % 16 = 0))) ∧ Below w.heap.size w w' := by
  have hB := K0.below_new w (.cells #[.int .i64 k, .int .i64 o, .int .i64 s, .slice a zs.length c] 158)
  have hR' := hR.alloc (.cells #[.int .i64 k, .int .i64 o, .int .i64 s, .slice a zs.length c] 158)
  have hK := K0.blk_new (vals k o s a zs.length c) w 158
  by_cases hh : holds o s zs = true
  · have hs := hh
    simp only [holds, Bool.and_eq_true] at hs
    obtain ⟨hs1, hs2⟩ := B1.inB_true hs.2.1
    clear hs
    by_cases h16 : s % 16 = 0
    · have h16' : (s % 16 == 0) = true := by simpa using h16
      have HR : Hid ((holds o s zs && decide (s % 16 = 0)) = true) := by rw [hh, decide_eq_true h16]; rfl
      clear h16
      go_enter Try.func164, Try.ntmps164
      go_wp2_with (go_at_call 162; refine (holdsOk k o s a c zs _ hbig hcap hR').mono ?_; rintro e w' ⟨rfl, hb⟩; have hK' := hK.below hb; have c2 := hK'.c2)
      go_ret
      exact ⟨ret_bool HR.out.symm, hB.trans (hb.mono hB.size)⟩
    · have h16' : (s % 16 == 0) = false := by simpa using h16
      have HR : Hid ((holds o s zs && decide (s % 16 = 0)) = false) := by rw [decide_eq_false h16, Bool.and_false]; rfl
      clear h16
      go_enter Try.func164, Try.ntmps164
      go_wp2_with (go_at_call 162; refine (holdsOk k o s a c zs _ hbig hcap hR').mono ?_; rintro e w' ⟨rfl, hb⟩; have hK' := hK.below hb; have c2 := hK'.c2)
      go_ret
      exact ⟨ret_bool HR.out.symm, hB.trans (hb.mono hB.size)⟩
  · have hh' : holds o s zs = false := by simpa using hh
    have HR : Hid ((holds o s zs && decide (s % 16 = 0)) = false) := by rw [hh', Bool.false_and]; rfl
    go_enter Try.func164, Try.ntmps164
    go_wp2_with (go_at_call 162; refine (holdsOk k o s a c zs _ hbig hcap hR').mono ?_; rintro e w' ⟨rfl, hb⟩)
    go_ret
    exact ⟨ret_bool HR.out.symm, hB.trans (hb.mono hB.size)⟩
end Go.Proofs.Ytddlpejklpljoaa.I0

/- Contracts of impl.recordOf, impl.InodeOk and spec.InodeOk, as the given laws call them. -/
namespace Go.Proofs.Ytddlpejklpljoaa.I1
open Go.ChangeShapes Go.WideShapes Go.ChangeAt Go.RowKit
set_option linter.unusedVariables false
set_option linter.unusedSimpArgs false
set_option maxRecDepth 10000

open P1 (ret_bool quiet_bool)
open I0 (val vals)

/-- An inode as one of its kinds. -/
def rec (k : Int) (v : Value) : Value := if k = 0 then .iface 168 v else if k = 1 then .iface 156 v else if k = 2 then .iface 158 v else .nilIface

set_option maxHeartbeats 1000000 in
theorem recordOf0 (o s : Int) (a : Option Addr) (c : Nat) (zs : List Int) (w : World) (hbig : zs.length ≤ 281474976710656) (hcap : zs.length ≤ c) (hR : P0.Row w a zs) :
    Calls Try.prog 117 #[val 0 o s a zs.length c] w fun e w' => e = .returned (.tuple #[.iface 168 (val 0 o s a zs.length c), .bool (I0.free o s zs)]) ∧ Below w.heap.size w w' := by
  have hB := K0.below_new w (.cells #[.int .i64 0, .int .i64 o, .int .i64 s, .slice a zs.length c] 45)
  have hR' := hR.alloc (.cells #[.int .i64 0, .int .i64 o, .int .i64 s, .slice a zs.length c] 45)
  go_enter Try.func117, Try.ntmps117
  go_wp2_with (go_at_call 165; refine (I0.freeSound 0 o s a c zs.length zs _ rfl).mono ?_; rintro e w' ⟨rfl, hb⟩)
  go_ret2
  exact ⟨rfl, hB.trans (hb.mono hB.size)⟩

set_option maxHeartbeats 1000000 in
theorem recordOf1 (o s : Int) (a : Option Addr) (c : Nat) (zs : List Int) (w : World) (hbig : zs.length ≤ 281474976710656) (hcap : zs.length ≤ c) (hR : P0.Row w a zs) :
    Calls Try.prog 117 #[val 1 o s a zs.length c] w fun e w' => e = .returned (.tuple #[.iface 156 (val 1 o s a zs.length c), .bool (I0.holds o s zs)]) ∧ Below w.heap.size w w' := by
  have hB := K0.below_new w (.cells #[.int .i64 1, .int .i64 o, .int .i64 s, .slice a zs.length c] 45)
  have hR' := hR.alloc (.cells #[.int .i64 1, .int .i64 o, .int .i64 s, .slice a zs.length c] 45)
  go_enter Try.func117, Try.ntmps117
  go_wp2_with (go_at_call 161; refine (I0.fileSound 1 o s a c zs _ hbig hcap hR').mono ?_; rintro e w' ⟨rfl, hb⟩)
  go_ret2
  exact ⟨rfl, hB.trans (hb.mono hB.size)⟩

set_option maxHeartbeats 1000000 in
theorem recordOf2 (o s : Int) (a : Option Addr) (c : Nat) (zs : List Int) (w : World) (hbig : zs.length ≤ 281474976710656) (hcap : zs.length ≤ c) (hR : P0.Row w a zs) :
    Calls Try.prog 117 #[val 2 o s a zs.length c] w fun e w' => e = .returned (.tuple #[.iface 158 (val 2 o s a zs.length c), .bool (I0.holds o s zs && decide (s % 16 = 0))]) ∧ Below w.heap.size w w' := by
  have hB := K0.below_new w (.cells #[.int .i64 2, .int .i64 o, .int .i64 s, .slice a zs.length c] 45)
  have hR' := hR.alloc (.cells #[.int .i64 2, .int .i64 o, .int .i64 s, .slice a zs.length c] 45)
  go_enter Try.func117, Try.ntmps117
  go_wp2_with (go_at_call 164; refine (I0.dirSound 2 o s a c zs _ hbig hcap hR').mono ?_; rintro e w' ⟨rfl, hb⟩)
  go_ret2
  exact ⟨rfl, hB.trans (hb.mono hB.size)⟩

theorem recordOfN (k o s : Int) (a : Option Addr) (c n : Nat) (w : World) (h0 : k ≠ 0) (h1 : k ≠ 1) (h2 : k ≠ 2) :
    Calls Try.prog 117 #[val k o s a n c] w fun e w' => e = .returned (.tuple #[.nilIface, .bool false]) ∧ Below w.heap.size w w' := by
  have hB := K0.below_new w (.cells #[.int .i64 k, .int .i64 o, .int .i64 s, .slice a n c] 45)
  have g0 : (k == 0) = false := by simpa using h0
  have g1 : (k == 1) = false := by simpa using h1
  have g2 : (k == 2) = false := by simpa using h2
  go_enter Try.func117, Try.ntmps117
  go_wp2
  go_ret2
  exact ⟨rfl, hB⟩

theorem recordOf (k o s : Int) (a : Option Addr) (c : Nat) (zs : List Int) (w : World) (hbig : zs.length ≤ 281474976710656) (hcap : zs.length ≤ c) (hR : P0.Row w a zs) :
    Calls Try.prog 117 #[val k o s a zs.length c] w fun e w' => e = .returned (.tuple #[rec k (val k o s a zs.length c), .bool (I0.ok k o s zs)]) ∧ Below w.heap.size w w' := by
  by_cases h0 : k = 0
  · subst h0
    exact recordOf0 o s a c zs w hbig hcap hR
  · by_cases h1 : k = 1
    · subst h1
      exact recordOf1 o s a c zs w hbig hcap hR
    · by_cases h2 : k = 2
      · subst h2
        exact recordOf2 o s a c zs w hbig hcap hR
      · have e1 : rec k (val k o s a zs.length c) = .nilIface := by rw [rec, if_neg h0, if_neg h1, if_neg h2]
        have e2 : I0.ok k o s zs = false := by rw [I0.ok, if_neg h0, if_neg h1, if_neg h2]
        rw [e1, e2]
        exact recordOfN k o s a c zs.length w h0 h1 h2

theorem specFree (o s : Int) (a : Option Addr) (c n : Nat) (zs : List Int) (w : World) (hn : n = zs.length) :
    Calls Try.prog 88 #[val 0 o s a n c] w fun e w' => e = .returned (.bool (I0.free o s zs)) ∧ Below w.heap.size w w' := by
  have hB := K0.below_new w (.cells #[.int .i64 0, .int .i64 o, .int .i64 s, .slice a n c] 45)
  by_cases h1 : o = 0
  · subst h1
    by_cases h2 : s = 0
    · subst h2
      by_cases h3 : n = 0
      · have HR : Hid (I0.free 0 0 zs = true) := by rw [I0.free, ← hn, h3]; rfl
        subst h3
        clear hn
        go_enter Try.func88, Try.ntmps88
        go_wp2
        go_ret
        exact ⟨ret_bool HR.out.symm, hB⟩
      · have HR : Hid (I0.free 0 0 zs = false) := by rw [I0.free, ← hn, decide_eq_false h3]; rfl
        have h3' : ((n : Int) == 0) = false := by simp; omega
        clear hn
        go_enter Try.func88, Try.ntmps88
        go_wp2
        go_ret
        exact ⟨ret_bool HR.out.symm, hB⟩
    · have HR : Hid (I0.free 0 s zs = false) := by rw [I0.free, decide_eq_false h2, Bool.false_and, Bool.and_false]; rfl
      have h2' : (s == 0) = false := by simpa using h2
      clear hn
      go_enter Try.func88, Try.ntmps88
      go_wp2
      go_ret
      exact ⟨ret_bool HR.out.symm, hB⟩
  · have HR : Hid (I0.free o s zs = false) := by rw [I0.free, decide_eq_false h1, Bool.false_and]; rfl
    have h1' : (o == 0) = false := by simpa using h1
    clear hn
    go_enter Try.func88, Try.ntmps88
    go_wp2
    go_ret
    exact ⟨ret_bool HR.out.symm, hB⟩

set_option maxHeartbeats 2000000 in
theorem specHolds (k o s : Int) (a : Option Addr) (c : Nat) (zs : List Int) (w : World) (hbig : zs.length ≤ 281474976710656) (hcap : zs.length ≤ c) (hR : P0.Row w a zs) (h0 : k ≠ 0) :
    Calls Try.prog 88 #[val k o s a zs.length c] w fun e w' => e = .returned (.bool (I0.ok k o s zs)) ∧ Below w.heap.size w w' := by
  have hB := K0.below_new w (.cells #[.int .i64 k, .int .i64 o, .int .i64 s, .slice a zs.length c] 45)
  have hR' := hR.alloc (.cells #[.int .i64 k, .int .i64 o, .int .i64 s, .slice a zs.length c] 45)
  have hP : Hid (∀ m, Calls Try.prog 29 #[.slice a zs.length c] ((w.alloc (.cells #[.int .i64 k, .int .i64 o, .int .i64 s, .slice a zs.length c] 45)).drewN m) fun e w' => e = .returned (.bool (P0.pagesOk zs)) ∧ ∃ n, w' = ((w.alloc (.cells #[.int .i64 k, .int .i64 o, .int .i64 s, .slice a zs.length c] 45)).drewN m).drewN n) := fun m => P1.l03Pages a c zs _ hbig hcap (hR'.drewN m)
  clear hR hR'
  have z0 : (k == 0) = false := by simpa using h0
  by_cases hS : B1.inB s 0 192 = true
  · obtain ⟨hs1, hs2⟩ := B1.inB_true hS
    by_cases hd : k = 2 ∧ ¬ s % 16 = 0
    · obtain ⟨rfl, h16⟩ := hd
      have h16' : (s % 16 != 0) = true := by simpa using h16
      have HR : Hid (I0.ok 2 o s zs = false) := by
        show (I0.holds o s zs && decide (s % 16 = 0)) = false
        rw [decide_eq_false h16, Bool.and_false]
      clear h16
      go_enter Try.func88, Try.ntmps88
      go_wp2
      go_ret
      exact ⟨ret_bool HR.out.symm, hB⟩
    · have HK : Hid (B1.inB k 1 2 = true → I0.ok k o s zs = I0.holds o s zs) := fun h => by
        obtain ⟨k1, k2⟩ := B1.inB_true h
        by_cases e1 : k = 1
        · subst e1; rfl
        · have e2 : k = 2 := by omega
          have h16 : s % 16 = 0 := Decidable.byContradiction fun h => hd ⟨e2, h⟩
          subst e2
          show (I0.holds o s zs && decide (s % 16 = 0)) = I0.holds o s zs
          rw [decide_eq_true h16, Bool.and_true]
      have HN : Hid (B1.inB k 1 2 = false → I0.ok k o s zs = false) := fun h => by
        have := B1.inB_false h
        rw [I0.ok, if_neg h0, if_neg (by omega), if_neg (by omega)]
      have hg : (k == 2) = false ∨ ((k == 2) = true ∧ (s % 16 != 0) = false) := by
        by_cases e2 : k = 2
        · right
          refine ⟨by simpa using e2, ?_⟩
          have h16 : s % 16 = 0 := Decidable.byContradiction fun h => hd ⟨e2, h⟩
          simpa using h16
        · left
          simpa using e2
      have HH : Hid (I0.holds o s zs = (B1.inB o 0 9 && (decide ((zs.length : Int) = P0.need s) && P0.pagesOk zs))) := by rw [I0.holds, hS, Bool.true_and]; rfl
      clear hd h0
      by_cases g0 : B1.inB k 1 2 = true
      · by_cases g1 : B1.inB o 0 9 = true
        · by_cases g2 : (zs.length : Int) = P0.need s
          · have g2' : ((zs.length : Int) == P0.need s) = true := by simpa using g2
            have HR : Hid (I0.ok k o s zs = P0.pagesOk zs) := by rw [HK.out g0, HH.out, g1, decide_eq_true g2]; rfl
            clear g2
            rcases hg with hg | ⟨hg, hg2⟩
            all_goals
              go_enter Try.func88, Try.ntmps88
              go_wp2
              go_quiet ((first | (go_at_call 43; first | exact quiet_bool (B1.l01In_any _ _ _ _) g0 | exact quiet_bool (B1.l01In_any _ _ _ _) g1 | exact quiet_bool (B1.l01In_any _ _ _ _) hS) | (go_at_call 70; exact Calls.quiet_of_same (P1.l03Need _ _ (by omega) (by omega))) | (go_at_call 29; exact Calls.quiet_of (hP.out _))))
              go_wp2
              go_ret
              exact ⟨ret_bool HR.out.symm, I0.below_alloc_drew _ _ _⟩
          · have g2' : ((zs.length : Int) == P0.need s) = false := by simpa using g2
            have HR : Hid (I0.ok k o s zs = false) := by rw [HK.out g0, HH.out, decide_eq_false g2, Bool.false_and, Bool.and_false]; rfl
            clear g2
            rcases hg with hg | ⟨hg, hg2⟩
            all_goals
              go_enter Try.func88, Try.ntmps88
              go_wp2
              go_quiet ((first | (go_at_call 43; first | exact quiet_bool (B1.l01In_any _ _ _ _) g0 | exact quiet_bool (B1.l01In_any _ _ _ _) g1 | exact quiet_bool (B1.l01In_any _ _ _ _) hS) | (go_at_call 70; exact Calls.quiet_of_same (P1.l03Need _ _ (by omega) (by omega)))))
              go_wp2
              go_ret
              exact ⟨ret_bool HR.out.symm, I0.below_alloc_drew _ _ _⟩
        · have g1' : B1.inB o 0 9 = false := by simpa using g1
          have HR : Hid (I0.ok k o s zs = false) := by rw [HK.out g0, HH.out, g1', Bool.false_and]; rfl
          rcases hg with hg | ⟨hg, hg2⟩
          all_goals
            go_enter Try.func88, Try.ntmps88
            go_wp2
            go_quiet ((go_at_call 43; first | exact quiet_bool (B1.l01In_any _ _ _ _) g0 | exact quiet_bool (B1.l01In_any _ _ _ _) g1'))
            go_wp2
            go_ret
            exact ⟨ret_bool HR.out.symm, I0.below_alloc_drew _ _ _⟩
      · have g0' : B1.inB k 1 2 = false := by simpa using g0
        have HR : Hid (I0.ok k o s zs = false) := HN.out g0'
        rcases hg with hg | ⟨hg, hg2⟩
        all_goals
          go_enter Try.func88, Try.ntmps88
          go_wp2
          go_quiet ((go_at_call 43; exact quiet_bool (B1.l01In_any _ _ _ _) g0'))
          go_wp2
          go_ret
          exact ⟨ret_bool HR.out.symm, I0.below_alloc_drew _ _ _⟩
  · have hS' : B1.inB s 0 192 = false := by simpa using hS
    have HR : Hid (I0.ok k o s zs = false) := by
      show I0.ok k o s zs = false
      have hf : I0.holds o s zs = false := by rw [I0.holds, hS', Bool.false_and, Bool.and_false]
      rw [I0.ok, if_neg h0]
      split
      · exact hf
      · split
        · rw [hf]; rfl
        · rfl
    clear hS
    have hg : (k == 2) = false ∨ (k == 2) = true := by cases (k == 2) <;> simp
    by_cases g0 : B1.inB k 1 2 = true
    · by_cases g1 : B1.inB o 0 9 = true
      · rcases hg with hg | hg
        all_goals
          go_enter Try.func88, Try.ntmps88
          go_wp2
          all_goals first
            | (go_ret
               exact ⟨ret_bool HR.out.symm, hB⟩)
            | (go_quiet ((go_at_call 43; first | exact quiet_bool (B1.l01In_any _ _ _ _) g0 | exact quiet_bool (B1.l01In_any _ _ _ _) g1 | exact quiet_bool (B1.l01In_any _ _ _ _) hS'))
               go_wp2
               go_ret
               exact ⟨ret_bool HR.out.symm, I0.below_alloc_drew _ _ _⟩)
      · have g1' : B1.inB o 0 9 = false := by simpa using g1
        rcases hg with hg | hg
        all_goals
          go_enter Try.func88, Try.ntmps88
          go_wp2
          all_goals first
            | (go_ret
               exact ⟨ret_bool HR.out.symm, hB⟩)
            | (go_quiet ((go_at_call 43; first | exact quiet_bool (B1.l01In_any _ _ _ _) g0 | exact quiet_bool (B1.l01In_any _ _ _ _) g1'))
               go_wp2
               go_ret
               exact ⟨ret_bool HR.out.symm, I0.below_alloc_drew _ _ _⟩)
    · have g0' : B1.inB k 1 2 = false := by simpa using g0
      rcases hg with hg | hg
      all_goals
        go_enter Try.func88, Try.ntmps88
        go_wp2
        all_goals first
          | (go_ret
             exact ⟨ret_bool HR.out.symm, hB⟩)
          | (go_quiet ((go_at_call 43; exact quiet_bool (B1.l01In_any _ _ _ _) g0'))
             go_wp2
             go_ret
             exact ⟨ret_bool HR.out.symm, I0.below_alloc_drew _ _ _⟩)

theorem spec_InodeOk (k o s : Int) (a : Option Addr) (c : Nat) (zs : List Int) (w : World) (hbig : zs.length ≤ 281474976710656) (hcap : zs.length ≤ c) (hR : P0.Row w a zs) :
    Calls Try.prog 88 #[val k o s a zs.length c] w fun e w' => e = .returned (.bool (I0.ok k o s zs)) ∧ Below w.heap.size w w' := by
  by_cases h0 : k = 0
  · subst h0
    exact specFree o s a c zs.length zs w rfl
  · exact specHolds k o s a c zs w hbig hcap hR h0
end Go.Proofs.Ytddlpejklpljoaa.I1

/- An inode among a law's arguments; contracts of the laws' own functions over inodes and lists of numbers. -/
namespace Go.Proofs.Ytddlpejklpljoaa.I2
open Go.ChangeShapes Go.WideShapes Go.ChangeAt Go.RowKit Go.Joins
set_option linter.unusedVariables false
set_option linter.unusedSimpArgs false
set_option maxRecDepth 10000

open P1 (ret_bool quiet_bool)
open I0 (val vals)

section Args
variable {H : Type} {enc : TypeId × Value → H} {w : World}

theorem take_row {w : World} {b off : Nat} {zs : List Int} {n : Nat} (hb : b < w.heap.size) (hn : n ≤ zs.length) (hc : ∀ j, j < zs.length → w.cell? ⟨b, off + j, none⟩ = some (.int .i64 (zs.getD j 0))) : P0.Row w (some ⟨b, off, none⟩) (zs.take n) := by
  refine Or.inr ⟨b, off, rfl, hb, fun j hj => ?_⟩
  have hj' : j < n := by simp at hj; omega
  rw [hc j (by omega)]
  congr 2
  simp [List.getD, hj']

theorem cell_lt {w : World} {a : Addr} {v : Value} (h : w.cell? a = some v) : a.block < w.heap.size := by
  unfold World.cell? at h
  cases hb : w.heap[a.block]? with
  | none => simp [hb] at h
  | some o => exact (Array.getElem?_eq_some_iff.1 hb).1

theorem open_row {fuel : Nat} {v : Value} {x : DataW H × List MemPlace} (h : DataW.trod enc Try.prog w 0 (fun _ => true) true fuel 29 [v] = some x) :
    ∃ (a : Option Addr) (c : Nat) (zs : List Int), v = .slice a zs.length c ∧ zs.length ≤ c ∧ c ≤ maxLen ∧ P0.Row w a zs := by
  rcases open_ints Try.underlying29 Try.underlying3 (by kernel_rfl) h with ⟨hcs, _⟩ | ⟨a, len, cap, zs, hcs, _, hl, hm, hz, _, hcell, _⟩
  · simp at hcs
    exact ⟨none, 0, [], hcs, Nat.le_refl _, Nat.zero_le _, Or.inl rfl⟩
  · simp at hcs hz
    have hlen : (zs.take len).length = len := by simp; omega
    by_cases h0 : zs.length = 0
    · have hl0 : len = 0 := by omega
      refine ⟨some a, cap, [], ?_, Nat.zero_le _, hm, Or.inl rfl⟩
      rw [hcs, hl0]
      rfl
    · obtain ⟨b, off, rfl, hc⟩ := ints_at hcell (by omega)
      have hb : b < w.heap.size := cell_lt (hc 0 (by omega))
      exact ⟨some ⟨b, off, none⟩, cap, zs.take len, by rw [hcs, hlen], by omega, hm, take_row hb (by omega) hc⟩

end Args

/-- What is left behind so many; -1 where nothing is. -/
def left (l : Int) (n : Nat) : Int := if l - n < 0 then -1 else l - n

theorem szIntS (a : Option Addr) (c n : Nat) (l : Int) (w : World) (hn : n ≤ maxLen) (h0 : 0 ≤ l) (h1 : l ≤ 1048576) :
    Calls Try.prog 41 #[.slice a n c, .int .i64 l] w fun e w' => e = .returned (.int .i64 (left l n)) ∧ w' = w := by
  unfold maxLen at hn
  by_cases h : l - (n : Int) < 0
  · have e : left l n = -1 := if_pos h
    rw [e]
    go_enter Try.func41, Try.ntmps41
    go_wp2
    go_ret
    exact ⟨rfl, rfl⟩
  · have e : left l n = l - (n : Int) := if_neg h
    rw [e]
    go_enter Try.func41, Try.ntmps41
    go_wp2
    go_ret
    exact ⟨rfl, rfl⟩

theorem ret_int {k : IntKind} {a b : Int} (h : a = b) : Ending.returned (.int k a) = .returned (.int k b) := by rw [h]

abbrev ints (zs : List Int) : List Value := zs.map fun z => .int .i64 z

theorem row_of_blk {W : World} {g : Nat} {zs : List Int} (h : K0.Blk g (ints zs) W) : P0.Row W (some ⟨g, 0, none⟩) zs := by
  refine Or.inr ⟨g, 0, rfl, h.lt, fun j hj => ?_⟩
  rw [Nat.zero_add, h.cell j (by simpa using hj)]
  simp [List.getD, hj]

/-- The row while it is being filled. -/
def fill (zs : List Int) (k : Nat) : List Value := ints (zs.take k) ++ List.replicate (zs.length - k) (.int .i64 0)

theorem fill_zero (zs : List Int) : fill zs 0 = List.replicate zs.length (.int .i64 0) := by simp [fill]
theorem fill_all (zs : List Int) : fill zs zs.length = ints zs := by simp [fill]
theorem fill_length (zs : List Int) (k : Nat) (h : k ≤ zs.length) : (fill zs k).length = zs.length := by simp [fill]; omega
theorem fill_succ (zs : List Int) (k : Nat) (h : k < zs.length) : (fill zs k).set k (.int .i64 (zs.getD k 0)) = fill zs (k + 1) := by
  unfold fill
  have e : zs.length - k = (zs.length - (k + 1)) + 1 := by omega
  rw [e, List.replicate_succ, List.take_succ_eq_append_getElem h, ints, ints, List.map_append, List.set_append_right _ _ (by simp; omega)]
  have hm : min k zs.length = k := by omega
  simp [hm, List.getD, h]

theorem info3 : (Try.prog.info? 3).map (fun i => (i.zero, i.size, i.bytes)) = some (some (.int .i64 0), 1, 8) := by kernel_rfl

theorem make_ints (n : Nat) (hn : n ≤ 1048576) (W : World) : (Instr.makeSlice 29 (.int .i64 (n : Int)) (.int .i64 (n : Int))).run Try.prog W = .ok (.slice (some ⟨W.heap.size, 0, none⟩) n n) (W.alloc (.cells (List.replicate n (Value.int .i64 0)).toArray 3)) := by
  obtain ⟨i0, hi, hz0, hz1, hz2⟩ := info_parts info3
  have h := run_make (P := Try.prog) W 29 3 i0 (.int .i64 0) Try.underlying29 hi hz0 .i64 .i64 (n : Int) (n : Int) (by omega) (by omega) (by rw [hz2]; omega) (by omega)
  have e : madeCells (Value.int .i64 0).cells (n * i0.size) = (List.replicate n (Value.int .i64 0)).toArray := by
    apply Array.toList_inj.1
    rw [show (Value.int .i64 0).cells = #[Value.int .i64 0] from rfl, toList_madeCells_one, hz1]
    simp
  rw [show ((n : Int)).toNat = n by omega, e] at h
  exact h

set_option maxHeartbeats 1000000 in
theorem toIntS (a : Option Addr) (c : Nat) (zs : List Int) (w : World) (hn : zs.length ≤ 1048576) (hR : P0.Row w a zs) :
    Calls Try.prog 44 #[.slice a zs.length c] w fun e w' => ∃ g, e = .returned (.slice (some ⟨g, 0, none⟩) zs.length zs.length) ∧ w.heap.size ≤ g ∧ K0.Blk g (ints zs) w' ∧ Below w.heap.size w w' := by
  have hmk := make_ints zs.length hn
  have hb0 := K0.blk_new (List.replicate zs.length (Value.int .i64 0)) w 3
  have hl0 := K0.below_new w (.cells (List.replicate zs.length (Value.int .i64 0)).toArray 3)
  obtain ⟨W0, hW0⟩ : ∃ W0, w.alloc (.cells (List.replicate zs.length (Value.int .i64 0)).toArray 3) = W0 := ⟨_, rfl⟩
  have hmk0 := hmk w
  rw [hW0] at hb0 hl0 hmk0
  clear hmk hW0
  go_enter Try.func44, Try.ntmps44
  go_wp2
  go_loopw [4] (fun i w' => ∃ k : Nat, k ≤ zs.length ∧ i = .int .i64 k ∧ K0.Blk w.heap.size (fill zs k) w' ∧ Below w.heap.size w w') (fun i _ => zs.length - (intOf i).toNat)
  case atStart => exact ⟨0, Nat.zero_le _, rfl, by rw [fill_zero]; exact hb0, hl0⟩
  case round =>
    obtain ⟨k, hk, rfl, hblk, hbel⟩ := hrel
    by_cases hlt : k < zs.length
    · obtain ⟨b, off, rfl, hb, hc⟩ := (hR.below hbel).get hlt
      have x1 := hc k hlt
      have x2 := hblk.cell k (by rw [fill_length _ _ hk]; exact hlt)
      have x3 := hblk.free k (by rw [fill_length _ _ hk]; exact hlt)
      obtain ⟨u, x4⟩ : ∃ u, wr.cell? ⟨w.heap.size, k, none⟩ = some u := ⟨_, x2⟩
      have HB : Hid (K0.Blk w.heap.size (fill zs (k + 1)) (wr.setCell ⟨w.heap.size, k, none⟩ (.int .i64 (zs.getD k 0)))) := by rw [← fill_succ zs k hlt]; exact hblk.set k _
      obtain ⟨z, ez⟩ : ∃ z, zs.getD k 0 = z := ⟨_, rfl⟩
      rw [ez] at x1 HB
      have e1 : (0 : Int) ≤ (k : Int) := by omega
      have e2 : (k : Int) < (zs.length : Int) := by omega
      clear x2 ez hc hblk hR hb0 hl0 hmk0
      go_wp2
      go_roundw
      case rel => exact ⟨k + 1, by omega, by go_num, HB.out, hbel.setCell (p := ⟨w.heap.size, k, none⟩) (Nat.le_refl _) _⟩
      case measure => simp [intOf]; omega
    · obtain rfl : k = zs.length := by omega
      rw [fill_all] at hblk
      clear hR hb0 hl0 hmk0
      go_wp2
      go_ret
      exact ⟨_, rfl, Nat.le_refl _, hblk, hbel⟩

theorem eqIntS (a1 a2 : Option Addr) (c1 c2 : Nat) (zs : List Int) (w : World) (hn : zs.length ≤ 281474976710656) (h1 : P0.Row w a1 zs) (h2 : P0.Row w a2 zs) :
    Calls Try.prog 19 #[.slice a1 zs.length c1, .slice a2 zs.length c2] w fun e w' => e = .returned (.bool true) ∧ ∃ n, w' = w.drewN n := by
  go_enter Try.func19, Try.ntmps19
  go_wp2
  go_loopw [5] (fun i w' => ∃ k n : Nat, k ≤ zs.length ∧ w' = w.drewN n ∧ i = .int .i64 k) (fun i _ => zs.length - (intOf i).toNat)
  case atStart => exact ⟨0, 0, Nat.zero_le _, rfl, rfl⟩
  case round =>
    obtain ⟨k, n, hk, rfl, rfl⟩ := hrel
    by_cases hlt : k < zs.length
    · have e1 : (0 : Int) ≤ (k : Int) := by omega
      have e2 : (k : Int) < (zs.length : Int) := by omega
      obtain ⟨b1, off1, rfl, hb1, hc1⟩ := h1.get hlt
      obtain ⟨b2, off2, rfl, hb2, hc2⟩ := h2.get hlt
      have x1 := hc1 k hlt
      have x2 := hc2 k hlt
      obtain ⟨z, ez⟩ : ∃ z, zs.getD k 0 = z := ⟨_, rfl⟩
      rw [ez] at x1 x2
      clear ez hc1 hc2 h1 h2
      go_wp2
      go_quiet (fail)
      go_wp2
      go_roundw
      case rel => exact ⟨k + 1, _, by omega, rfl, by go_num⟩
      case measure => simp [intOf]; omega
    · clear h1 h2
      go_wp2
      go_ret
      exact ⟨rfl, _, rfl⟩

/-- The three blocks of toInode. -/
structure Three (w : World) (k o s : Int) (a : Option Addr) (n c : Nat) (W : World) : Prop where
  arg : K0.Blk w.heap.size (vals k o s a n c) W
  res : K0.Blk (w.heap.size + 1) (vals 0 0 0 none 0 0) W
  tmp : K0.Blk (w.heap.size + 2) (vals k o s none 0 0) W
  bel : Below w.heap.size w W

theorem Three.below {w W W' : World} {k o s : Int} {a : Option Addr} {n c : Nat} (h : Three w k o s a n c W) (hb : Below W.heap.size W W') : Three w k o s a n c W' :=
  ⟨h.arg.below hb, h.res.below hb, h.tmp.below hb, h.bel.trans (hb.mono (Nat.le_of_lt h.arg.lt))⟩

end Go.Proofs.Ytddlpejklpljoaa.I2

/- A row of numbers that a call has made and appends to. -/
namespace Go.Proofs.Ytddlpejklpljoaa.J0
open Go.ChangeShapes Go.WideShapes Go.ChangeAt Go.RowKit
set_option linter.unusedVariables false
set_option linter.unusedSimpArgs false
set_option maxRecDepth 10000

open I2 (ints)

/-- A row of a call's own: so many numbers, these; nil where there are none yet. -/
def IBuf (base : Nat) (w : World) (a : Option Addr) (n cap : Nat) (zs : List Int) : Prop := n = zs.length ∧ w.ownsRow base 3 1 (.slice a n cap) n (ints zs)

variable {base n cap : Nat} {a : Option Addr} {w W : World} {zs : List Int}

theorem blk_keep {B B0 : Nat} {vs : List Value} (h : K0.Blk B vs w) (hb : Below B0 w W) (hlt : B < B0) : K0.Blk B vs W :=
  ⟨fun j hj => (hb.cell (p := ⟨B, j, none⟩) hlt).trans (h.cell j hj), fun j hj => (hb.frozen (p := ⟨B, j, none⟩) hlt).trans (h.free j hj), Nat.lt_of_lt_of_le h.lt hb.size⟩

theorem IBuf.below (h : IBuf base w a n cap zs) (hb : Below w.heap.size w W) : IBuf base W a n cap zs := ⟨h.1, F0.owns_below h.2 hb⟩
theorem IBuf.alloc (h : IBuf base w a n cap zs) (o : Obj) : IBuf base (w.alloc o) a n cap zs := h.below ((Below.refl _ _).alloc (Nat.le_refl _) o)
theorem IBuf.drew (h : IBuf base w a n cap zs) : IBuf base w.drew a n cap zs := h
theorem IBuf.drewN (h : IBuf base w a n cap zs) (m : Nat) : IBuf base (w.drewN m) a n cap zs := h
theorem ibuf_nil (w : World) : IBuf base w none 0 0 [] := ⟨rfl, rfl, Or.inl ⟨rfl, rfl⟩⟩
theorem ibuf_made (w : World) (hb : base ≤ w.heap.size) : IBuf base (w.alloc (.cells #[] 3)) (some ⟨w.heap.size, 0, none⟩) 0 0 [] := ⟨rfl, World.ownsRow_made w #[] 0 hb (Nat.zero_le _) rfl⟩

theorem IBuf.fits (h : IBuf base w a n cap zs) : n ≤ cap := by
  rcases h.2.2 with ⟨h0, h1⟩ | ⟨g, c, cur, hv, _, _, hle, _⟩
  · omega
  · simp at hv
    omega

/-- What a call hands out: a row of its own, which may be written. -/
def Own (base : Nat) (W : World) (a : Option Addr) (zs : List Int) : Prop := zs = [] ∨ ∃ g, a = some ⟨g, 0, none⟩ ∧ base ≤ g ∧ K0.Blk g (ints zs) W

theorem IBuf.own (h : IBuf base w a n cap zs) : Own base w a zs := by
  rcases h.2.2 with ⟨h0, h1⟩ | ⟨g, c, cur, hv, hg, hc, hle, _, hs, ht⟩
  · left
    exact List.eq_nil_of_length_eq_zero (by rw [← h.1]; exact h1)
  · right
    simp at hv
    refine ⟨g, hv.1, hg, ⟨fun j hj => ?_, fun j hj => ?_, (Array.getElem?_eq_some_iff.1 hc).1⟩⟩
    · have hcell : w.cell? ⟨g, j, none⟩ = cur[j]? := by
        unfold World.cell?
        rw [hc]
        simp
      have hj' : j < zs.length := by simpa using hj
      have e1 : (cur.toList.take (n * 1))[j]? = (ints zs)[j]? := by rw [ht]
      rw [List.getElem?_take_of_lt (by have := h.1; omega)] at e1
      rw [hcell, ← Array.getElem?_toList, e1]
      simp [hj']
    · unfold World.frozen?
      rw [hc]
      simp

theorem Own.row (h : Own base W a zs) : P0.Row W a zs := by
  rcases h with h | ⟨g, rfl, _, hb⟩
  · exact Or.inl h
  · exact I2.row_of_blk hb

theorem Own.below {W' : World} (h : Own base W a zs) (hb : Below W.heap.size W W') : Own base W' a zs := by
  rcases h with h | ⟨g, e, hg, hk⟩
  · exact Or.inl h
  · exact Or.inr ⟨g, e, hg, hk.below hb⟩
theorem Own.alloc (h : Own base W a zs) (o : Obj) : Own base (W.alloc o) a zs := h.below ((Below.refl _ _).alloc (Nat.le_refl _) o)
theorem Own.drew (h : Own base W a zs) : Own base W.drew a zs := h.imp id fun ⟨g, e, hg, hk⟩ => ⟨g, e, hg, hk.drew⟩
theorem Own.drewN (h : Own base W a zs) (m : Nat) : Own base (W.drewN m) a zs := h.imp id fun ⟨g, e, hg, hk⟩ => ⟨g, e, hg, hk.drewN m⟩
theorem Own.mono {base' : Nat} (h : Own base W a zs) (hb : base' ≤ base) : Own base' W a zs := by
  rcases h with h | ⟨g, e, hg, hk⟩
  · exact Or.inl h
  · exact Or.inr ⟨g, e, Nat.le_trans hb hg, hk⟩
theorem Own.set (h : Own base W a zs) {B : Nat} (hB : B < base) (j : Nat) (v : Value) : Own base (W.setCell ⟨B, j, none⟩ v) a zs := by
  rcases h with h | ⟨g, e, hg, hk⟩
  · exact Or.inl h
  · exact Or.inr ⟨g, e, hg, hk.setOther (by omega) j v⟩

theorem one_int (c : Int) : ∀ u ∈ [Value.int .i64 c], u.oneCell' = true := by
  intro u h
  simp at h
  subst h
  rfl

theorem own_block (h : IBuf base w a n cap zs) : ∀ g, (Value.slice a n cap).ownBlock = some g → base ≤ g := fun g hg => (h.2.lt g hg).1

theorem ints_snoc (zs : List Int) (z : Int) : ints zs ++ [.int .i64 z] = ints (zs ++ [z]) := by simp

/-- 'list = append(list, z)'. -/
theorem append_int {ops : Array Oper} {rest : List Oper} {o : Oper} {A : Act} {Q : Exit → Act → World → Prop} (hgd : o.guard = none) (sl x : Operand)
    (ho : o.op = .call { callee := .builtin .append, args := #[sl, x], argTypes := #[29, 29] })
    (hbuf : IBuf base w a n cap zs) (z : Int) (hs : A.eval sl = .slice a n cap) (hx : A.eval x = .slice (some ⟨w.heap.size, 0, none⟩) 1 1) (hlen : n + 1 ≤ 1048576) (hb : base ≤ w.heap.size)
    (h : ∀ g' cap' w', IBuf base w' (some ⟨g', 0, none⟩) (n + 1) cap' (zs ++ [z]) → Below base w w' → wpList Try.prog ops Q rest (A.put o.dst (.slice (some ⟨g', 0, none⟩) (n + 1) cap')) w') : wpList Try.prog ops Q (o :: rest) A (w.alloc (.cells #[.int .i64 z] 3)) := by
  obtain ⟨i0, hi, hz0, hz1, hz2⟩ := info_parts I2.info3
  have hb2 := hbuf.alloc (.cells #[.int .i64 z] 3)
  refine wpList_append_lies _ hgd sl x 29 ho base 3 i0 (.int .i64 0) 1 8 Try.underlying29 hi hz0 hz1 hz2 rfl (by omega) _ n _ hs hb2.2 ⟨w.heap.size, 0, none⟩ 1 1 [.int .i64 z] hx rfl (World.news_of_block (heap_alloc_new w _)) (one_int z) (by omega) (by unfold maxLen; omega) (by omega) (by simp; omega) _ rfl ?_
  intro g' cap' w' ho' hg' _ _
  refine h g' cap' w' ⟨by rw [hbuf.1]; simp, ?_⟩ ?_
  · rw [← ints_snoc]
    exact ho'
  · exact F0.below_grown ((Below.refl _ _).alloc hb _) hg' (own_block hbuf) (by simp; omega)

/-- .. as a step of a region that draws its order. -/
theorem step_int {ops : Array Oper} {o : Oper} {A : Act} {K : Act → World → Prop} {Q : Exit → Act → World → Prop} {E : Prop} (hgd : o.guard = none) (sl x : Operand)
    (ho : o.op = .call { callee := .builtin .append, args := #[sl, x], argTypes := #[29, 29] })
    (hbuf : IBuf base w a n cap zs) (z : Int) (hs : A.eval sl = .slice a n cap) (hx : A.eval x = .slice (some ⟨w.heap.size, 0, none⟩) 1 1) (hlen : n + 1 ≤ 1048576) (hb : base ≤ w.heap.size)
    (h : ∀ g' cap' w', IBuf base w' (some ⟨g', 0, none⟩) (n + 1) cap' (zs ++ [z]) → Below base w w' → K (A.put o.dst (.slice (some ⟨g', 0, none⟩) (n + 1) cap')) w') :
    if Region.wanted o (yielded ops A.tmps) = true then Oper.wp Try.prog o A (w.alloc (.cells #[.int .i64 z] 3)) K Q else E := by
  obtain ⟨i0, hi, hz0, hz1, hz2⟩ := info_parts I2.info3
  have hb2 := hbuf.alloc (.cells #[.int .i64 z] 3)
  refine step_append_lies _ hgd sl x 29 ho base 3 i0 (.int .i64 0) 1 8 Try.underlying29 hi hz0 hz1 hz2 rfl (by omega) _ n _ hs hb2.2 ⟨w.heap.size, 0, none⟩ 1 1 [.int .i64 z] hx rfl (World.news_of_block (heap_alloc_new w _)) (one_int z) (by omega) (by unfold maxLen; omega) (by omega) (by simp; omega) _ rfl ?_
  intro g' cap' w' ho' hg' _ _
  refine h g' cap' w' ⟨by rw [hbuf.1]; simp, ?_⟩ ?_
  · rw [← ints_snoc]
    exact ho'
  · exact F0.below_grown ((Below.refl _ _).alloc hb _) hg' (own_block hbuf) (by simp; omega)
end Go.Proofs.Ytddlpejklpljoaa.J0

/- A row of numbers appended to another; contracts of slices.Grow and slices.Concat, as the given laws call them. -/
namespace Go.Proofs.Ytddlpejklpljoaa.Q1
open Go.ChangeShapes Go.WideShapes Go.ChangeAt Go.RowKit
set_option linter.unusedVariables false
set_option linter.unusedSimpArgs false
set_option maxRecDepth 10000

open I2 (ints)
open J0 (IBuf Own)

theorem run_append_none {P : Program} (w : World) (t ty e : TypeId) (i : TypeInfo) (ht : P.underlying t = some (.slice e)) (hi : P.info? e = some i) (b : Option Addr) (n cap : Nat) (hle : n ≤ cap) (ax : Option Addr) (cx : Nat) :
    (Builtin.append_ #[t, t] ty #[.slice b n cap, .slice ax 0 cx]).run P w = .ok (.slice b n cap) w := by
  cases b <;> cases ax <;> simp [Builtin.append_, run_underlying ht, sizeOf, typeInfo, hi, Builtin.lenOf, Builtin.firstCells, loadCells, loadCellsFrom, storeCells, hle]

variable {base n cap : Nat} {a : Option Addr} {w W : World} {zs : List Int}

theorem ints_one (xs : List Int) : ∀ u ∈ ints xs, u.oneCell' = true := by
  intro u h
  simp at h
  obtain ⟨z, _, rfl⟩ := h
  rfl

/-- 'list = append(list, others...)'. -/
theorem append_rows {ops : Array Oper} {rest : List Oper} {o : Oper} {A : Act} {Q : Exit → Act → World → Prop} (hgd : o.guard = none) (sl x : Operand)
    (ho : o.op = .call { callee := .builtin .append, args := #[sl, x], argTypes := #[29, 29] })
    (hbuf : IBuf base w a n cap zs) (ax : Option Addr) (cx : Nat) (xs : List Int) (hs : A.eval sl = .slice a n cap) (hx : A.eval x = .slice ax xs.length cx) (hR : P0.Row w ax xs) (hlen : n + xs.length ≤ 4194304) (hb : base ≤ w.heap.size)
    (h : ∀ a' cap' w', IBuf base w' a' (n + xs.length) cap' (zs ++ xs) → Below base w w' → wpList Try.prog ops Q rest (A.put o.dst (.slice a' (n + xs.length) cap')) w') : wpList Try.prog ops Q (o :: rest) A w := by
  obtain ⟨i0, hi, hz0, hz1, hz2⟩ := info_parts I2.info3
  by_cases h0 : xs = []
  · subst h0
    refine Lib.wpList_append_run _ hgd sl x 29 29 ho _ _ hs hx _ _ (run_append_none w 29 _ 3 i0 Try.underlying29 hi a n cap hbuf.fits ax cx) ?_
    exact h a cap w (by rw [List.append_nil]; exact hbuf) (Below.refl _ _)
  · rcases hR with hR | ⟨b, off, rfl, hb2, hc⟩
    · exact absurd hR h0
    · have hm : 0 < xs.length := List.length_pos_iff.2 h0
      refine wpList_append_lies _ hgd sl x 29 ho base 3 i0 (.int .i64 0) 1 8 Try.underlying29 hi hz0 hz1 hz2 rfl (by omega) _ n _ hs hbuf.2 ⟨b, off, none⟩ xs.length cx (ints xs) hx (by simp) ?_ (ints_one xs) hm (by unfold maxLen; omega) (by omega) hb _ rfl ?_
      · intro j u hj
        have hj' : j < xs.length := by
          have := (List.getElem?_eq_some_iff.1 hj).1
          simpa using this
        rw [B0.add_off, hc j hj', P0.getD_get _ _ hj', ← hj]
        simp [hj']
      · intro g' cap' w' ho' hg' _ _
        refine h (some ⟨g', 0, none⟩) cap' w' ⟨by rw [hbuf.1]; simp, ?_⟩ ?_
        · rw [show ints (zs ++ xs) = ints zs ++ ints xs by simp]
          exact ho'
        · exact F0.below_grown (Below.refl _ _) hg' (J0.own_block hbuf) hb

set_option maxHeartbeats 2000000 in
theorem grow (k : Nat) (w : World) (hk : k ≤ 4194304) :
    Calls Try.prog 139 #[.slice none 0 0, .int .i64 k] w fun e w' => ∃ a c, e = .returned (.slice a 0 c) ∧ IBuf w.heap.size w' a 0 c [] ∧ Below w.heap.size w w' := by
  by_cases h0 : k = 0
  · subst h0
    go_enter Try.func139, Try.ntmps139
    go_wp2
    go_ret
    exact ⟨none, 0, rfl, J0.ibuf_nil _, Below.refl _ _⟩
  · obtain ⟨i0, hi, hz0, hz1, hz2⟩ := info_parts I2.info3
    have hrz : ∀ ty, (Builtin.append_ #[29, 3] ty #[.slice none 0 0, .int .i64 k]).run Try.prog w = .ok (.slice (some ⟨w.heap.size, 0, none⟩) (0 + k) (grownCap w (0 + k) 0 3)) (w.drew.alloc (.cells ((#[] : Array Value) ++ Builtin.zeroCells (Value.int .i64 0).cells k ++ Builtin.zeroCells (Value.int .i64 0).cells (grownCap w (0 + k) 0 3 - (0 + k))) 3)) := fun ty =>
      Lib.run_append_grow_zeros w 29 3 ty 3 i0 (.int .i64 0) .i64 .i64 Try.underlying29 Try.underlying3 hi hz0 none 0 0 [] (run_firstCells_none w.drew i0.size 0 0 0) k (by omega) (by omega) (by omega) (by omega) (by rw [hz2]; omega) (by rw [hz2, Builtin.nextslicecap, if_pos (by omega)]; omega)
    have hG := grownCap_ge w (0 + k) 0 3
    have hM := grownCap_le_maxLen w (0 + k) 0 3 (by unfold maxLen; omega)
    have hgt : (0 : Int) < (k : Int) := by omega
    have hnk : 0 < k := by omega
    obtain ⟨C, hC⟩ : ∃ C : Array Value, C = (#[] : Array Value) ++ Builtin.zeroCells (Value.int .i64 0).cells k ++ Builtin.zeroCells (Value.int .i64 0).cells (grownCap w (0 + k) 0 3 - (0 + k)) := ⟨_, rfl⟩
    rw [← hC] at hrz
    rw [Nat.zero_add] at hC hrz hG hM
    have hsz : C.size = grownCap w k 0 3 := by
      rw [hC]
      simp [Builtin.zeroCells, Value.cells]
      omega
    obtain ⟨G, hg⟩ : ∃ G, grownCap w k 0 3 = G := ⟨_, rfl⟩
    rw [hg] at hrz hG hM hsz
    have hbuf : IBuf w.heap.size (w.drew.alloc (.cells C 3)) (some ⟨w.heap.size, 0, none⟩) 0 G [] := ⟨rfl, World.ownsRow_made w.drew C G (Nat.le_refl _) hM (by omega)⟩
    have hbel : Below w.heap.size w (w.drew.alloc (.cells C 3)) := (Below.refl _ w).drew.alloc (Nat.le_refl _) _
    have hM' : G ≤ 9223372036854775807 := hM
    have hGk : k ≤ G := by omega
    clear hC hsz hg hM hi hz0 hz1 hz2
    go_enter Try.func139, Try.ntmps139
    go_wp2_with (at_builtin; refine Lib.wpList_append_run _ rfl _ _ _ _ rfl _ _ rfl rfl _ _ (hrz _) ?_)
    all_goals
      go_ret
      exact ⟨_, _, rfl, hbuf, hbel⟩

/-- The first of two lists, joined. -/
def pre (xs zs : List Int) (k : Nat) : List Int := if k = 0 then [] else if k = 1 then xs else zs

set_option maxHeartbeats 4000000 in
theorem concat0 (B : Nat) (a1 a2 : Option Addr) (c1 c2 : Nat) (xs ys zs : List Int) (hzs : zs = xs ++ ys) (w : World) (h1 : w.cell? ⟨B, 0, none⟩ = some (.slice a1 xs.length c1)) (h2 : w.cell? ⟨B, 1, none⟩ = some (.slice a2 ys.length c2)) (hB : B < w.heap.size)
    (R1 : P0.Row w a1 xs) (R2 : P0.Row w a2 ys) (hx : xs.length ≤ 1048576) (hy : ys.length ≤ 1048576) :
    Calls Try.prog 133 #[.slice (some ⟨B, 0, none⟩) 2 2] w fun e w' => ∃ a c, e = .returned (.slice a zs.length c) ∧ Own w.heap.size w' a zs ∧ zs.length ≤ c ∧ Below w.heap.size w w' := by
  have HL : Hid (zs.length = xs.length + ys.length) := by rw [hzs]; exact List.length_append
  have HZ : Hid (xs ++ ys = zs) := hzs.symm
  have hzl : zs.length ≤ 4194304 := by rw [HL.out]; omega
  clear hzs
  go_enter Try.func133, Try.ntmps133
  go_wp2
  go_loop [3, 11] (fun v i => ∃ k : Nat, k ≤ 2 ∧ i = .int .i64 k ∧ v = .int .i64 ((pre xs zs k).length : Int)) (fun _ i => 2 - (intOf i).toNat)
  case atStart => exact ⟨0, Nat.zero_le _, rfl, rfl⟩
  case round =>
    obtain ⟨k, hk, rfl, rfl⟩ := hrel
    have hk' : k = 0 ∨ k = 1 ∨ k = 2 := by omega
    rcases hk' with rfl | rfl | rfl
    · have e0 : (pre xs zs 0).length = 0 := rfl
      rw [e0]
      have e1 : ¬ ((xs.length : Int) < 0) := by omega
      go_wp2
      go_round
      case rel => exact ⟨1, by omega, by go_num, rfl⟩
      case measure => simp [intOf]
    · have e0 : (pre xs zs 1).length = xs.length := rfl
      rw [e0]
      have e1 : ¬ ((xs.length : Int) + (ys.length : Int) < 0) := by omega
      go_wp2
      go_round
      case rel => exact ⟨2, by omega, by go_num, by show _ = Value.int .i64 ((zs.length : Nat) : Int); rw [HL.out]; go_num⟩
      case measure => simp [intOf]
    · have e0 : (pre xs zs 2).length = zs.length := rfl
      rw [e0]
      have hgr := grow zs.length w (by omega)
      go_wp2_with (go_at_call 139; refine hgr.mono ?_; rintro e w1 ⟨a, c, rfl, hbuf, hbel⟩)
      clear hgr
      go_loopw [6, 27] (fun v i w' => ∃ (k c : Nat) (a : Option Addr), k ≤ 2 ∧ i = .int .i64 k ∧ v = .slice a (pre xs zs k).length c ∧ IBuf w.heap.size w' a (pre xs zs k).length c (pre xs zs k) ∧ Below w.heap.size w w') (fun _ i _ => 2 - (intOf i).toNat)
      case atStart => exact ⟨0, c, a, Nat.zero_le _, rfl, rfl, hbuf, hbel⟩
      case round =>
        obtain ⟨k, c', a', hk, rfl, rfl, hbuf', hbel'⟩ := hrel
        clear hbuf hbel
        have x1 := (hbel'.cell (p := ⟨B, 0, none⟩) hB).trans h1
        have x2 := (hbel'.cell (p := ⟨B, 1, none⟩) hB).trans h2
        have r1 := R1.below hbel'
        have r2 := R2.below hbel'
        have hk' : k = 0 ∨ k = 1 ∨ k = 2 := by omega
        rcases hk' with rfl | rfl | rfl
        · have hb0 : IBuf w.heap.size wr a' 0 c' [] := hbuf'
          have e0 : (pre xs zs 0).length = 0 := rfl
          rw [e0]
          clear hbuf' h1 h2 R1 R2
          go_wp2_with (at_builtin; refine append_rows rfl (.tmp 31) (.tmp 32) rfl hb0 a1 c1 xs rfl rfl r1 (by omega) hbel'.size ?_; intro a3 c3 w3 b3 l3)
          go_roundw
          case rel => exact ⟨1, c3, a3, by omega, by go_num, rfl, by rw [Nat.zero_add] at b3; exact b3, hbel'.trans l3⟩
          case measure => simp [intOf]
        · have hb0 : IBuf w.heap.size wr a' xs.length c' xs := hbuf'
          have e0 : (pre xs zs 1).length = xs.length := rfl
          rw [e0]
          clear hbuf' h1 h2 R1 R2
          go_wp2_with (at_builtin; refine append_rows rfl (.tmp 31) (.tmp 32) rfl hb0 a2 c2 ys rfl rfl r2 (by omega) hbel'.size ?_; intro a3 c3 w3 b3 l3)
          go_roundw
          case rel => exact ⟨2, c3, a3, by omega, by go_num, by rw [← HL.out]; rfl, by rw [← HL.out, HZ.out] at b3; exact b3, hbel'.trans l3⟩
          case measure => simp [intOf]
        · have hb0 : IBuf w.heap.size wr a' zs.length c' zs := hbuf'
          have e0 : (pre xs zs 2).length = zs.length := rfl
          rw [e0]
          clear hbuf' h1 h2 R1 R2
          go_wp2
          go_ret
          exact ⟨a', c', rfl, hb0.own, hb0.fits, hbel'⟩
theorem concat (B : Nat) (a1 a2 : Option Addr) (c1 c2 : Nat) (xs ys : List Int) (w : World) (h1 : w.cell? ⟨B, 0, none⟩ = some (.slice a1 xs.length c1)) (h2 : w.cell? ⟨B, 1, none⟩ = some (.slice a2 ys.length c2)) (hB : B < w.heap.size)
    (R1 : P0.Row w a1 xs) (R2 : P0.Row w a2 ys) (hx : xs.length ≤ 1048576) (hy : ys.length ≤ 1048576) :
    Calls Try.prog 133 #[.slice (some ⟨B, 0, none⟩) 2 2] w fun e w' => ∃ a c, e = .returned (.slice a (xs ++ ys).length c) ∧ Own w.heap.size w' a (xs ++ ys) ∧ (xs ++ ys).length ≤ c ∧ Below w.heap.size w w' :=
  concat0 B a1 a2 c1 c2 xs ys (xs ++ ys) rfl w h1 h2 hB R1 R2 hx hy
end Go.Proofs.Ytddlpejklpljoaa.Q1

/- More contracts of the library functions that the laws of this seat call, laid over its translation. -/
namespace Go.Proofs
open Go.Shelf
def Try.lays189_ren : Go.Shelf.Ren := ⟨fun | 189 => 61 | 125 => 83 | 257 => 82 | 128 => 106 | 129 => 107 | 294 => 97 | 295 => 98 | 296 => 99 | 297 => 100 | 298 => 101 | 299 => 102 | 216 => 103 | 300 => 104 | 301 => 105 | 328 => 123 | 329 => 124 | 330 => 125 | 331 => 126 | 332 => 127 | 215 => 128 | 343 => 137 | n => n, fun | 28 => 29 | 3 => 3 | 46 => 118 | 0 => 0 | 51 => 146 | 53 => 148 | 4 => 4 | 183 => 141 | 182 => 140 | 131 => 114 | 5 => 5 | 9 => 9 | 218 => 160 | 222 => 164 | 228 => 170 | 229 => 171 | n => n, fun | n => n⟩
theorem Try.lays189 : Go.Proofs.Lays.n189 Try.prog Try.lays189_ren := {
  mixed := by kernel_rfl
  f125 := Try.func83.trans (congrArg some (by kernel_rfl))
  f128 := Try.func106.trans (congrArg some (by kernel_rfl))
  f129 := Try.func107.trans (congrArg some (by kernel_rfl))
  f189 := Try.func61.trans (congrArg some (by kernel_rfl))
  f215 := Try.func128.trans (congrArg some (by kernel_rfl))
  f216 := Try.func103.trans (congrArg some (by kernel_rfl))
  f257 := Try.func82.trans (congrArg some (by kernel_rfl))
  f294 := Try.func97.trans (congrArg some (by kernel_rfl))
  f295 := Try.func98.trans (congrArg some (by kernel_rfl))
  f296 := Try.func99.trans (congrArg some (by kernel_rfl))
  f297 := Try.func100.trans (congrArg some (by kernel_rfl))
  f298 := Try.func101.trans (congrArg some (by kernel_rfl))
  f299 := Try.func102.trans (congrArg some (by kernel_rfl))
  f300 := Try.func104.trans (congrArg some (by kernel_rfl))
  f301 := Try.func105.trans (congrArg some (by kernel_rfl))
  f328 := Try.func123.trans (congrArg some (by kernel_rfl))
  f329 := Try.func124.trans (congrArg some (by kernel_rfl))
  f330 := Try.func125.trans (congrArg some (by kernel_rfl))
  f331 := Try.func126.trans (congrArg some (by kernel_rfl))
  f332 := Try.func127.trans (congrArg some (by kernel_rfl))
  f343 := Try.func137.trans (congrArg some (by kernel_rfl))
  t0 := Try.underlying0
  a0 := Try.isAgg0
  z0 := Try.sizeOf0
  v0 := Try.zeroValue0
  t3 := Try.underlying3
  a3 := Try.isAgg3
  z3 := Try.sizeOf3
  v3 := Try.zeroValue3
  t4 := Try.underlying4
  a4 := Try.isAgg4
  z4 := Try.sizeOf4
  v4 := Try.zeroValue4
  t5 := Try.underlying5
  a5 := Try.isAgg5
  z5 := Try.sizeOf5
  v5 := Try.zeroValue5
  t9 := Try.underlying9
  a9 := Try.isAgg9
  z9 := Try.sizeOf9
  v9 := Try.zeroValue9
  t28 := Try.underlying29
  a28 := Try.isAgg29
  z28 := Try.sizeOf29
  v28 := Try.zeroValue29
  t46 := Try.underlying118
  a46 := Try.isAgg118
  z46 := Try.sizeOf118
  v46 := Try.zeroValue118
  t51 := Try.underlying146
  a51 := Try.isAgg146
  z51 := Try.sizeOf146
  v51 := Try.zeroValue146
  t53 := Try.underlying148
  a53 := Try.isAgg148
  z53 := Try.sizeOf148
  v53 := Try.zeroValue148
  t131 := Try.underlying114
  a131 := Try.isAgg114
  z131 := Try.sizeOf114
  v131 := Try.zeroValue114
  t182 := Try.underlying140
  a182 := Try.isAgg140
  z182 := Try.sizeOf140
  v182 := Try.zeroValue140
  t183 := Try.underlying141
  a183 := Try.isAgg141
  z183 := Try.sizeOf141
  v183 := Try.zeroValue141
  t218 := Try.underlying160
  a218 := Try.isAgg160
  z218 := Try.sizeOf160
  v218 := Try.zeroValue160
  t222 := Try.underlying164
  a222 := Try.isAgg164
  z222 := Try.sizeOf164
  v222 := Try.zeroValue164
  t228 := Try.underlying170
  a228 := Try.isAgg170
  z228 := Try.sizeOf170
  v228 := Try.zeroValue170
  t229 := Try.underlying171
  a229 := Try.isAgg171
  z229 := Try.sizeOf171
  v229 := Try.zeroValue171 }
open Go.Sort Go.RowKit in
theorem Try.slices_Sort_int (blk off cap : Nat) (zs : List Int) (w : World) (hH : Holds (Value.int .i64) w blk off zs.toArray) (hblk : blk < w.heap.size) (hsz : zs.length < 4611686018427387904) :
    Calls Try.prog 61 #[.slice (some ⟨blk, off, none⟩) zs.length cap] w fun e w' =>
      e = .returned (.tuple #[]) ∧ ∃ n os, w' = grow (putRow (Value.int .i64) (Sort.ahead w n) blk off (zs.mergeSort fun x y => decide (x ≤ y)).toArray) os := Any.slices_Sort_int Try.lays189 blk off cap zs w hH hblk hsz
def Try.laysNm220_ren : Go.Shelf.Ren := ⟨fun | 20 => 79 | n => n, fun | 22 => 29 | 3 => 3 | 4 => 4 | 0 => 0 | n => n, fun | n => n⟩
theorem Try.laysNm220 : Go.Proofs.Lays2.n20 Try.prog Try.laysNm220_ren := {
  mixed := by kernel_rfl
  f20 := Try.func79.trans (congrArg some (by kernel_rfl))
  t0 := Try.underlying0
  a0 := Try.isAgg0
  z0 := Try.sizeOf0
  v0 := Try.zeroValue0
  t3 := Try.underlying3
  a3 := Try.isAgg3
  z3 := Try.sizeOf3
  v3 := Try.zeroValue3
  t4 := Try.underlying4
  a4 := Try.isAgg4
  z4 := Try.sizeOf4
  v4 := Try.zeroValue4
  t22 := Try.underlying29
  a22 := Try.isAgg29
  z22 := Try.sizeOf29
  v22 := Try.zeroValue29
  i3 := by kernel_rfl }
open Go.RowKit Go.Lib Go.Sort in
theorem Try.slices_Compact_int_arr (blk off cap : Nat) (d : Array Int) (w : World) (hH : Holds encI w blk off d) (hsz : d.size ≤ 9223372036854775807) (hcap : d.size ≤ cap) :
    Calls Try.prog 79 #[.slice (some ⟨blk, off, none⟩) d.size cap] w fun e w' => e = .returned (.slice (some ⟨blk, off, none⟩) (compactUpTo d d.size).length cap) ∧ ∃ q, w' = putRow encI (Sort.ahead w q) blk off (compactUpTo d d.size ++ List.replicate (d.size - (compactUpTo d d.size).length) 0).toArray := Any.slices_Compact_int_arr Try.laysNm220 blk off cap d w hH hsz hcap
open Go.RowKit Go.Lib Go.Sort in
theorem Try.slices_Compact_int (blk off cap : Nat) (zs : List Int) (w : World) (hH : Holds (Value.int .i64) w blk off zs.toArray) (hsz : zs.length ≤ 9223372036854775807) (hcap : zs.length ≤ cap) :
    Calls Try.prog 79 #[.slice (some ⟨blk, off, none⟩) zs.length cap] w fun e w' => e = .returned (.slice (some ⟨blk, off, none⟩) (Lib.compact zs).length cap) ∧ ∃ q, w' = putRow (Value.int .i64) (Sort.ahead w q) blk off (Lib.compact zs ++ List.replicate (zs.length - (Lib.compact zs).length) 0).toArray := Any.slices_Compact_int Try.laysNm220 blk off cap zs w hH hsz hcap
open Go.RowKit Go.Lib Go.Sort in
theorem Try.slices_Compact_int_empty (a : Option Addr) (cap : Nat) (w : World) :
    Calls Try.prog 79 #[.slice a 0 cap] w fun e w' => e = .returned (.slice a 0 cap) ∧ w' = w := Any.slices_Compact_int_empty Try.laysNm220 a cap w
end Go.Proofs
