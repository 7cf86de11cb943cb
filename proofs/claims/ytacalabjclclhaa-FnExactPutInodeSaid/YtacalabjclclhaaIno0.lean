/- Plain facts on inodes; contracts of the program's checks of an inode's parts. -/
import Derived.Test.YtacalabjclclhaaPg1
namespace Go.Proofs.Ytacalabjclclhaa.I0
open Go.ChangeShapes Go.WideShapes Go.ChangeAt Go.RowKit
set_option linter.unusedVariables false
set_option linter.unusedSimpArgs false
set_option maxRecDepth 10000

open P1 (ret_bool quiet_bool)

/-- What a file's or a directory's inode must be. -/
def holds (o s : Int) (zs : List Int) : Bool := B1.inB o 0 9 && (B1.inB s 0 192 && (decide ((zs.length : Int) = P0.need s) && P0.pagesOk zs))

/-- What a free inode must be. -/
def free (o s : Int) (zs : List Int) : Bool := decide (o = 0) && (decide (s = 0) && decide (zs.length = 0))

/-- What an inode must be. -/
def ok (k o s : Int) (zs : List Int) : Bool := if k = 0 then free o s zs else if k = 1 then holds o s zs else if k = 2 then holds o s zs && decide (s % 16 = 0) else false

abbrev val (k o s : Int) (a : Option Addr) (n c : Nat) : Value := .agg #[.int .i64 k, .int .i64 o, .int .i64 s, .slice a n c]
abbrev vals (k o s : Int) (a : Option Addr) (n c : Nat) : List Value := [.int .i64 k, .int .i64 o, .int .i64 s, .slice a n c]

theorem clientOk (o : Int) (w : World) : Calls Try.prog 167 #[.int .i64 o] w fun e w' => e = .returned (.bool (B1.inB o 0 8)) ∧ w' = w := by
  by_cases h1 : 0 ≤ o
  · by_cases h2 : o ≤ 8
    · have HR : Hid (B1.inB o 0 8 = true) := decide_eq_true (by omega)
      go_enter Try.func167, Try.ntmps167
      go_wp2
      go_ret
      exact ⟨ret_bool HR.out.symm, rfl⟩
    · have h2' : decide (o ≤ 8) = false := by simpa using h2
      have HR : Hid (B1.inB o 0 8 = false) := decide_eq_false (by omega)
      go_enter Try.func167, Try.ntmps167
      go_wp2
      go_ret
      exact ⟨ret_bool HR.out.symm, rfl⟩
  · have HR : Hid (B1.inB o 0 8 = false) := decide_eq_false (by omega)
    have h1' : decide (0 ≤ o) = false := by simpa using h1
    go_enter Try.func167, Try.ntmps167
    go_wp2
    go_ret
    exact ⟨ret_bool HR.out.symm, rfl⟩

theorem ownerOk (o : Int) (w : World) : Calls Try.prog 194 #[.int .i64 o] w fun e w' => e = .returned (.bool (B1.inB o 0 9)) ∧ w' = w := by
  have HC := clientOk o w
  cases hc : B1.inB o 0 8 with
  | true =>
    rw [hc] at HC
    have HR : Hid (B1.inB o 0 9 = true) := decide_eq_true (by have := of_decide_eq_true hc; omega)
    go_enter Try.func194, Try.ntmps194
    go_wp2_with (go_at_call 167; refine HC.mono ?_; rintro e w1 ⟨rfl, rfl⟩)
    go_ret
    exact ⟨ret_bool HR.out.symm, rfl⟩
  | false =>
    rw [hc] at HC
    have hn := of_decide_eq_false hc
    by_cases h3 : o = 9
    · have HR : Hid (B1.inB o 0 9 = true) := decide_eq_true (by omega)
      have h3' : (o == 9) = true := by simpa using h3
      clear h3 hn
      go_enter Try.func194, Try.ntmps194
      go_wp2_with (go_at_call 167; refine HC.mono ?_; rintro e w1 ⟨rfl, rfl⟩)
      go_ret
      exact ⟨ret_bool HR.out.symm, rfl⟩
    · have HR : Hid (B1.inB o 0 9 = false) := decide_eq_false (by omega)
      have h3' : (o == 9) = false := by simpa using h3
      clear h3 hn
      go_enter Try.func194, Try.ntmps194
      go_wp2_with (go_at_call 167; refine HC.mono ?_; rintro e w1 ⟨rfl, rfl⟩)
      go_ret
      exact ⟨ret_bool HR.out.symm, rfl⟩

theorem below_alloc_drew (w : World) (o : Obj) (n : Nat) : Below w.heap.size w ((w.alloc o).drewN n) := K0.below_drewN (K0.below_new w o) n

set_option maxHeartbeats 1000000 in
theorem holdsOk (k o s : Int) (a : Option Addr) (c : Nat) (zs : List Int) (w : World) (hbig : zs.length ≤ 281474976710656) (hcap : zs.length ≤ c) (hR : P0.Row w a zs) :
    Calls Try.prog 193 #[val k o s a zs.length c] w fun e w' => e = .returned (.bool (holds o s zs)) ∧ Below w.heap.size w w' := by
  have hB := K0.below_new w (.cells #[.int .i64 k, .int .i64 o, .int .i64 s, .slice a zs.length c] 26)
  have hR' := hR.alloc (.cells #[.int .i64 k, .int .i64 o, .int .i64 s, .slice a zs.length c] 26)
  have hP : Hid (∀ m, Calls Try.prog 169 #[.slice a zs.length c] ((w.alloc (.cells #[.int .i64 k, .int .i64 o, .int .i64 s, .slice a zs.length c] 26)).drewN m) fun e w' => e = .returned (.bool (P0.pagesOk zs)) ∧ w' = (w.alloc (.cells #[.int .i64 k, .int .i64 o, .int .i64 s, .slice a zs.length c] 26)).drewN m) := fun m => P1.pagesOk a c zs _ hbig hcap hR'
  by_cases h1 : s < 0
  · have HR : Hid (holds o s zs = false) := by rw [holds, show B1.inB s 0 192 = false from decide_eq_false (by omega), Bool.false_and, Bool.and_false]; rfl
    go_enter Try.func193, Try.ntmps193
    go_wp2
    go_ret
    exact ⟨ret_bool HR.out.symm, hB⟩
  · by_cases h2 : 192 < s
    · have HR : Hid (holds o s zs = false) := by rw [holds, show B1.inB s 0 192 = false from decide_eq_false (by omega), Bool.false_and, Bool.and_false]; rfl
      go_enter Try.func193, Try.ntmps193
      go_wp2
      go_ret
      exact ⟨ret_bool HR.out.symm, hB⟩
    · have HS : Hid (holds o s zs = (B1.inB o 0 9 && (decide ((zs.length : Int) = P0.need s) && P0.pagesOk zs))) := by rw [holds, show B1.inB s 0 192 = true from decide_eq_true (by omega), Bool.true_and]; rfl
      clear hB
      by_cases g1 : B1.inB o 0 9 = true
      · by_cases g2 : (zs.length : Int) = P0.need s
        · have g2' : ((zs.length : Int) == P0.need s) = true := by simpa using g2
          have HR : Hid (holds o s zs = P0.pagesOk zs) := by rw [HS.out, g1, decide_eq_true g2]; rfl
          clear g2 hR hR'
          go_enter Try.func193, Try.ntmps193
          go_wp2
          go_quiet ((first | (go_at_call 194; exact quiet_bool (ownerOk _ _) g1) | (go_at_call 145; exact Calls.quiet_of_same (P1.pagesFor _ _ (by omega) (by omega))) | (go_at_call 169; exact Calls.quiet_of_same (hP.out _))))
          go_wp2
          go_ret
          exact ⟨ret_bool HR.out.symm, below_alloc_drew _ _ _⟩
        · have g2' : ((zs.length : Int) == P0.need s) = false := by simpa using g2
          have HR : Hid (holds o s zs = false) := by rw [HS.out, decide_eq_false g2, Bool.false_and, Bool.and_false]; rfl
          clear g2 hR hR'
          go_enter Try.func193, Try.ntmps193
          go_wp2
          go_quiet ((first | (go_at_call 194; exact quiet_bool (ownerOk _ _) g1) | (go_at_call 145; exact Calls.quiet_of_same (P1.pagesFor _ _ (by omega) (by omega)))))
          go_wp2
          go_ret
          exact ⟨ret_bool HR.out.symm, below_alloc_drew _ _ _⟩
      · have g1' : B1.inB o 0 9 = false := by simpa using g1
        have HR : Hid (holds o s zs = false) := by rw [HS.out, g1', Bool.false_and]; rfl
        clear hR hR'
        go_enter Try.func193, Try.ntmps193
        go_wp2
        go_quiet ((go_at_call 194; exact quiet_bool (ownerOk _ _) g1'))
        go_wp2
        go_ret
        exact ⟨ret_bool HR.out.symm, below_alloc_drew _ _ _⟩

theorem freeSound (k o s : Int) (a : Option Addr) (c n : Nat) (zs : List Int) (w : World) (hn : n = zs.length) :
    Calls Try.prog 196 #[val k o s a n c] w fun e w' => e = .returned (.bool (free o s zs)) ∧ Below w.heap.size w w' := by
  have hB := K0.below_new w (.cells #[.int .i64 k, .int .i64 o, .int .i64 s, .slice a n c] 162)
  by_cases h1 : o = 0
  · subst h1
    by_cases h2 : s = 0
    · subst h2
      by_cases h3 : n = 0
      · have HR : Hid (free 0 0 zs = true) := by rw [free, ← hn, h3]; rfl
        subst h3
        clear hn
        go_enter Try.func196, Try.ntmps196
        go_wp2
        go_ret
        exact ⟨ret_bool HR.out.symm, hB⟩
      · have HR : Hid (free 0 0 zs = false) := by rw [free, ← hn, decide_eq_false h3]; rfl
        have h3' : ((n : Int) == 0) = false := by simp; omega
        clear hn
        go_enter Try.func196, Try.ntmps196
        go_wp2
        go_ret
        exact ⟨ret_bool HR.out.symm, hB⟩
    · have HR : Hid (free 0 s zs = false) := by rw [free, decide_eq_false h2, Bool.false_and, Bool.and_false]; rfl
      have h2' : (s == 0) = false := by simpa using h2
      clear hn
      go_enter Try.func196, Try.ntmps196
      go_wp2
      go_ret
      exact ⟨ret_bool HR.out.symm, hB⟩
  · have HR : Hid (free o s zs = false) := by rw [free, decide_eq_false h1, Bool.false_and]; rfl
    have h1' : (o == 0) = false := by simpa using h1
    clear hn
    go_enter Try.func196, Try.ntmps196
    go_wp2
    go_ret
    exact ⟨ret_bool HR.out.symm, hB⟩

theorem fileSound (k o s : Int) (a : Option Addr) (c : Nat) (zs : List Int) (w : World) (hbig : zs.length ≤ 281474976710656) (hcap : zs.length ≤ c) (hR : P0.Row w a zs) :
    Calls Try.prog 192 #[val k o s a zs.length c] w fun e w' => e = .returned (.bool (holds o s zs)) ∧ Below w.heap.size w w' := by
  have hB := K0.below_new w (.cells #[.int .i64 k, .int .i64 o, .int .i64 s, .slice a zs.length c] 157)
  have hR' := hR.alloc (.cells #[.int .i64 k, .int .i64 o, .int .i64 s, .slice a zs.length c] 157)
  go_enter Try.func192, Try.ntmps192
  go_wp2_with (go_at_call 193; refine (holdsOk k o s a c zs _ hbig hcap hR').mono ?_; rintro e w' ⟨rfl, hb⟩)
  go_ret
  exact ⟨rfl, hB.trans (hb.mono hB.size)⟩

theorem dirSound (k o s : Int) (a : Option Addr) (c : Nat) (zs : List Int) (w : World) (hbig : zs.length ≤ 281474976710656) (hcap : zs.length ≤ c) (hR : P0.Row w a zs) :
    Calls Try.prog 195 #[val k o s a zs.length c] w fun e w' => e = .returned (.bool (holds o s zs && decide (s % 16 = 0))) ∧ Below w.heap.size w w' := by
  have hB := K0.below_new w (.cells #[.int .i64 k, .int .i64 o, .int .i64 s, .slice a zs.length c] 159)
  have hR' := hR.alloc (.cells #[.int .i64 k, .int .i64 o, .int .i64 s, .slice a zs.length c] 159)
  have hK := K0.blk_new (vals k o s a zs.length c) w 159
  by_cases hh : holds o s zs = true
  · have hs := hh
    simp only [holds, Bool.and_eq_true] at hs
    obtain ⟨hs1, hs2⟩ := B1.inB_true hs.2.1
    clear hs
    by_cases h16 : s % 16 = 0
    · have h16' : (s % 16 == 0) = true := by simpa using h16
      have HR : Hid ((holds o s zs && decide (s % 16 = 0)) = true) := by rw [hh, decide_eq_true h16]; rfl
      clear h16
      go_enter Try.func195, Try.ntmps195
      go_wp2_with (go_at_call 193; refine (holdsOk k o s a c zs _ hbig hcap hR').mono ?_; rintro e w' ⟨rfl, hb⟩; have hK' := hK.below hb; have c2 := hK'.c2)
      go_ret
      exact ⟨ret_bool HR.out.symm, hB.trans (hb.mono hB.size)⟩
    · have h16' : (s % 16 == 0) = false := by simpa using h16
      have HR : Hid ((holds o s zs && decide (s % 16 = 0)) = false) := by rw [decide_eq_false h16, Bool.and_false]; rfl
      clear h16
      go_enter Try.func195, Try.ntmps195
      go_wp2_with (go_at_call 193; refine (holdsOk k o s a c zs _ hbig hcap hR').mono ?_; rintro e w' ⟨rfl, hb⟩; have hK' := hK.below hb; have c2 := hK'.c2)
      go_ret
      exact ⟨ret_bool HR.out.symm, hB.trans (hb.mono hB.size)⟩
  · have hh' : holds o s zs = false := by simpa using hh
    have HR : Hid ((holds o s zs && decide (s % 16 = 0)) = false) := by rw [hh', Bool.false_and]; rfl
    go_enter Try.func195, Try.ntmps195
    go_wp2_with (go_at_call 193; refine (holdsOk k o s a c zs _ hbig hcap hR').mono ?_; rintro e w' ⟨rfl, hb⟩)
    go_ret
    exact ⟨ret_bool HR.out.symm, hB.trans (hb.mono hB.size)⟩
end Go.Proofs.Ytacalabjclclhaa.I0
