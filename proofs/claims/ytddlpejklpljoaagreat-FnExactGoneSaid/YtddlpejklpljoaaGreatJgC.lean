/- Joined texts: plain facts and contracts, as each part says. -/
import Derived.Test.YtddlpejklpljoaaGreatJgB
import Derived.Test.YtddlpejklpljoaaGreatJgA
import Derived.Deep.QuietTactic
import Derived.BigQuiet
import Derived.Deep.RegionWith

/- Plain facts on inodes; contracts of the program's checks of an inode's parts. -/
namespace Go.Proofs.YtddlpejklpljoaaGreat.I0
open Go.ChangeShapes Go.WideShapes Go.ChangeAt Go.RowKit
set_option linter.unusedVariables false
set_option linter.unusedSimpArgs false
set_option maxRecDepth 10000

open P1 (ret_bool quiet_bool)

/-- What a file's or a directory's inode must be. -/
def holds (o s : Int) (zs : List Int) : Bool := B1.inB o 0 9 && (B1.inB s 0 192 && (decide ((zs.length : Int) = P0.need s) && P0.pagesOk zs))

/-- What a free inode must be. -/
def free (o s : Int) (zs : List Int) : Bool := decide (o = 0) && (decide (s = 0) && decide (zs.length = 0))

/-- What an inode must be. -/
def ok (k o s : Int) (zs : List Int) : Bool := if k = 0 then free o s zs else if k = 1 then holds o s zs else if k = 2 then holds o s zs && decide (s % 16 = 0) else false

abbrev val (k o s : Int) (a : Option Addr) (n c : Nat) : Value := .agg #[.int .i64 k, .int .i64 o, .int .i64 s, .slice a n c]
abbrev vals (k o s : Int) (a : Option Addr) (n c : Nat) : List Value := [.int .i64 k, .int .i64 o, .int .i64 s, .slice a n c]

theorem clientOk (o : Int) (w : World) : Calls Tryz.prog 117 #[.int .i64 o] w fun e w' => e = .returned (.bool (B1.inB o 0 8)) ∧ w' = w := by
  by_cases h1 : 0 ≤ o
  · by_cases h2 : o ≤ 8
    · have HR : Hid (B1.inB o 0 8 = true) := decide_eq_true (by omega)
      go_enter Tryz.func117, Tryz.ntmps117
      go_wp2
      go_ret
      exact ⟨ret_bool HR.out.symm, rfl⟩
    · have h2' : decide (o ≤ 8) = false := by simpa using h2
      have HR : Hid (B1.inB o 0 8 = false) := decide_eq_false (by omega)
      go_enter Tryz.func117, Tryz.ntmps117
      go_wp2
      go_ret
      exact ⟨ret_bool HR.out.symm, rfl⟩
  · have HR : Hid (B1.inB o 0 8 = false) := decide_eq_false (by omega)
    have h1' : decide (0 ≤ o) = false := by simpa using h1
    go_enter Tryz.func117, Tryz.ntmps117
    go_wp2
    go_ret
    exact ⟨ret_bool HR.out.symm, rfl⟩

theorem ownerOk (o : Int) (w : World) : Calls Tryz.prog 178 #[.int .i64 o] w fun e w' => e = .returned (.bool (B1.inB o 0 9)) ∧ w' = w := by
  have HC := clientOk o w
  cases hc : B1.inB o 0 8 with
  | true =>
    rw [hc] at HC
    have HR : Hid (B1.inB o 0 9 = true) := decide_eq_true (by have := of_decide_eq_true hc; omega)
    go_enter Tryz.func178, Tryz.ntmps178
    go_wp2_with (go_at_call 117; refine HC.mono ?_; rintro e w1 ⟨rfl, rfl⟩)
    go_ret
    exact ⟨ret_bool HR.out.symm, rfl⟩
  | false =>
    rw [hc] at HC
    have hn := of_decide_eq_false hc
    by_cases h3 : o = 9
    · have HR : Hid (B1.inB o 0 9 = true) := decide_eq_true (by omega)
      have h3' : (o == 9) = true := by simpa using h3
      clear h3 hn
      go_enter Tryz.func178, Tryz.ntmps178
      go_wp2_with (go_at_call 117; refine HC.mono ?_; rintro e w1 ⟨rfl, rfl⟩)
      go_ret
      exact ⟨ret_bool HR.out.symm, rfl⟩
    · have HR : Hid (B1.inB o 0 9 = false) := decide_eq_false (by omega)
      have h3' : (o == 9) = false := by simpa using h3
      clear h3 hn
      go_enter Tryz.func178, Tryz.ntmps178
      go_wp2_with (go_at_call 117; refine HC.mono ?_; rintro e w1 ⟨rfl, rfl⟩)
      go_ret
      exact ⟨ret_bool HR.out.symm, rfl⟩

theorem below_alloc_drew (w : World) (o : Obj) (n : Nat) : Below w.heap.size w ((w.alloc o).drewN n) := K0.below_drewN (K0.below_new w o) n

set_option maxHeartbeats 1000000 in
theorem holdsOk (k o s : Int) (a : Option Addr) (c : Nat) (zs : List Int) (w : World) (hbig : zs.length ≤ 281474976710656) (hcap : zs.length ≤ c) (hR : P0.Row w a zs) :
    Calls Tryz.prog 177 #[val k o s a zs.length c] w fun e w' => e = .returned (.bool (holds o s zs)) ∧ Below w.heap.size w w' := by
  have hB := K0.below_new w (.cells #[.int .i64 k, .int .i64 o, .int .i64 s, .slice a zs.length c] 45)
  have hR' := hR.alloc (.cells #[.int .i64 k, .int .i64 o, .int .i64 s, .slice a zs.length c] 45)
  have hP : Hid (∀ m, Calls Tryz.prog 119 #[.slice a zs.length c] ((w.alloc (.cells #[.int .i64 k, .int .i64 o, .int .i64 s, .slice a zs.length c] 45)).drewN m) fun e w' => e = .returned (.bool (P0.pagesOk zs)) ∧ w' = (w.alloc (.cells #[.int .i64 k, .int .i64 o, .int .i64 s, .slice a zs.length c] 45)).drewN m) := fun m => P1.pagesOk a c zs _ hbig hcap hR'
  by_cases h1 : s < 0
  · have HR : Hid (holds o s zs = false) := by rw [holds, show B1.inB s 0 192 = false from decide_eq_false (by omega), Bool.false_and, Bool.and_false]; rfl
    go_enter Tryz.func177, Tryz.ntmps177
    go_wp2
    go_ret
    exact ⟨ret_bool HR.out.symm, hB⟩
  · by_cases h2 : 192 < s
    · have HR : Hid (holds o s zs = false) := by rw [holds, show B1.inB s 0 192 = false from decide_eq_false (by omega), Bool.false_and, Bool.and_false]; rfl
      go_enter Tryz.func177, Tryz.ntmps177
      go_wp2
      go_ret
      exact ⟨ret_bool HR.out.symm, hB⟩
    · have HS : Hid (holds o s zs = (B1.inB o 0 9 && (decide ((zs.length : Int) = P0.need s) && P0.pagesOk zs))) := by rw [holds, show B1.inB s 0 192 = true from decide_eq_true (by omega), Bool.true_and]; rfl
      clear hB
      by_cases g1 : B1.inB o 0 9 = true
      · by_cases g2 : (zs.length : Int) = P0.need s
        · have g2' : ((zs.length : Int) == P0.need s) = true := by simpa using g2
          have HR : Hid (holds o s zs = P0.pagesOk zs) := by rw [HS.out, g1, decide_eq_true g2]; rfl
          clear g2 hR hR'
          go_enter Tryz.func177, Tryz.ntmps177
          go_wp2
          go_quiet ((first | (go_at_call 178; exact quiet_bool (ownerOk _ _) g1) | (go_at_call 105; exact Calls.quiet_of_same (P1.pagesFor _ _ (by omega) (by omega))) | (go_at_call 119; exact Calls.quiet_of_same (hP.out _))))
          go_wp2
          go_ret
          exact ⟨ret_bool HR.out.symm, below_alloc_drew _ _ _⟩
        · have g2' : ((zs.length : Int) == P0.need s) = false := by simpa using g2
          have HR : Hid (holds o s zs = false) := by rw [HS.out, decide_eq_false g2, Bool.false_and, Bool.and_false]; rfl
          clear g2 hR hR'
          go_enter Tryz.func177, Tryz.ntmps177
          go_wp2
          go_quiet ((first | (go_at_call 178; exact quiet_bool (ownerOk _ _) g1) | (go_at_call 105; exact Calls.quiet_of_same (P1.pagesFor _ _ (by omega) (by omega)))))
          go_wp2
          go_ret
          exact ⟨ret_bool HR.out.symm, below_alloc_drew _ _ _⟩
      · have g1' : B1.inB o 0 9 = false := by simpa using g1
        have HR : Hid (holds o s zs = false) := by rw [HS.out, g1', Bool.false_and]; rfl
        clear hR hR'
        go_enter Tryz.func177, Tryz.ntmps177
        go_wp2
        go_quiet ((go_at_call 178; exact quiet_bool (ownerOk _ _) g1'))
        go_wp2
        go_ret
        exact ⟨ret_bool HR.out.symm, below_alloc_drew _ _ _⟩

theorem freeSound (k o s : Int) (a : Option Addr) (c n : Nat) (zs : List Int) (w : World) (hn : n = zs.length) :
    Calls Tryz.prog 180 #[val k o s a n c] w fun e w' => e = .returned (.bool (free o s zs)) ∧ Below w.heap.size w w' := by
  have hB := K0.below_new w (.cells #[.int .i64 k, .int .i64 o, .int .i64 s, .slice a n c] 137)
  by_cases h1 : o = 0
  · subst h1
    by_cases h2 : s = 0
    · subst h2
      by_cases h3 : n = 0
      · have HR : Hid (free 0 0 zs = true) := by rw [free, ← hn, h3]; rfl
        subst h3
        clear hn
        go_enter Tryz.func180, Tryz.ntmps180
        go_wp2
        go_ret
        exact ⟨ret_bool HR.out.symm, hB⟩
      · have HR : Hid (free 0 0 zs = false) := by rw [free, ← hn, decide_eq_false h3]; rfl
        have h3' : ((n : Int) == 0) = false := by simp; omega
        clear hn
        go_enter Tryz.func180, Tryz.ntmps180
        go_wp2
        go_ret
        exact ⟨ret_bool HR.out.symm, hB⟩
    · have HR : Hid (free 0 s zs = false) := by rw [free, decide_eq_false h2, Bool.false_and, Bool.and_false]; rfl
      have h2' : (s == 0) = false := by simpa using h2
      clear hn
      go_enter Tryz.func180, Tryz.ntmps180
      go_wp2
      go_ret
      exact ⟨ret_bool HR.out.symm, hB⟩
  · have HR : Hid (free o s zs = false) := by rw [free, decide_eq_false h1, Bool.false_and]; rfl
    have h1' : (o == 0) = false := by simpa using h1
    clear hn
    go_enter Tryz.func180, Tryz.ntmps180
    go_wp2
    go_ret
    exact ⟨ret_bool HR.out.symm, hB⟩

theorem fileSound (k o s : Int) (a : Option Addr) (c : Nat) (zs : List Int) (w : World) (hbig : zs.length ≤ 281474976710656) (hcap : zs.length ≤ c) (hR : P0.Row w a zs) :
    Calls Tryz.prog 176 #[val k o s a zs.length c] w fun e w' => e = .returned (.bool (holds o s zs)) ∧ Below w.heap.size w w' := by
  have hB := K0.below_new w (.cells #[.int .i64 k, .int .i64 o, .int .i64 s, .slice a zs.length c] 134)
  have hR' := hR.alloc (.cells #[.int .i64 k, .int .i64 o, .int .i64 s, .slice a zs.length c] 134)
  go_enter Tryz.func176, Tryz.ntmps176
  go_wp2_with (go_at_call 177; refine (holdsOk k o s a c zs _ hbig hcap hR').mono ?_; rintro e w' ⟨rfl, hb⟩)
  go_ret
  exact ⟨rfl, hB.trans (hb.mono hB.size)⟩

theorem dirSound (k o s : Int) (a : Option Addr) (c : Nat) (zs : List Int) (w : World) (hbig : zs.length ≤ 281474976710656) (hcap : zs.length ≤ c) (hR : P0.Row w a zs) :
    Calls Tryz.prog 179 #[val k o s a zs.length c] w fun e w' => e = .returned (.bool (holds o s zs && decide (s % 16 = 0))) ∧ Below w.heap.size w w' := by
  have hB := K0.below_new w (.cells #[.int .i64 k, .int .i64 o, .int .i64 s, .slice a zs.length c] 136)
  have hR' := hR.alloc (.cells #[.int .i64 k, .int .i64 o, .int .i64 s, .slice a zs.length c] 136)
  have hK := K0.blk_new (vals k o s a zs.length c) w 136
  by_cases hh : holds o s zs = true
  · have hs := hh
    simp only [holds, Bool.and_eq_true] at hs
    obtain ⟨hs1, hs2⟩ := B1.inB_true hs.2.1
    clear hs
    by_cases h16 : s % 16 = 0
    · have h16' : (s % 16 == 0) = true := by simpa using h16
      have HR : Hid ((holds o s zs && decide (s % 16 = 0)) = true) := by rw [hh, decide_eq_true h16]; rfl
      clear h16
      go_enter Tryz.func179, Tryz.ntmps179
      go_wp2_with (go_at_call 177; refine (holdsOk k o s a c zs _ hbig hcap hR').mono ?_; rintro e w' ⟨rfl, hb⟩; have hK' := hK.below hb; have c2 := hK'.c2)
      go_ret
      exact ⟨ret_bool HR.out.symm, hB.trans (hb.mono hB.size)⟩
    · have h16' : (s % 16 == 0) = false := by simpa using h16
      have HR : Hid ((holds o s zs && decide (s % 16 = 0)) = false) := by rw [decide_eq_false h16, Bool.and_false]; rfl
      clear h16
      go_enter Tryz.func179, Tryz.ntmps179
      go_wp2_with (go_at_call 177; refine (holdsOk k o s a c zs _ hbig hcap hR').mono ?_; rintro e w' ⟨rfl, hb⟩; have hK' := hK.below hb; have c2 := hK'.c2)
      go_ret
      exact ⟨ret_bool HR.out.symm, hB.trans (hb.mono hB.size)⟩
  · have hh' : holds o s zs = false := by simpa using hh
    have HR : Hid ((holds o s zs && decide (s % 16 = 0)) = false) := by rw [hh', Bool.false_and]; rfl
    go_enter Tryz.func179, Tryz.ntmps179
    go_wp2_with (go_at_call 177; refine (holdsOk k o s a c zs _ hbig hcap hR').mono ?_; rintro e w' ⟨rfl, hb⟩)
    go_ret
    exact ⟨ret_bool HR.out.symm, hB.trans (hb.mono hB.size)⟩
end Go.Proofs.YtddlpejklpljoaaGreat.I0

/- Plain facts on an inode as bytes. -/
namespace Go.Proofs.YtddlpejklpljoaaGreat.R0
open Go
set_option linter.unusedVariables false
set_option linter.unusedSimpArgs false

/-- Pages as a byte each. -/
def pg (zs : List Int) : ByteArray := ⟨(zs.map fun z => UInt8.ofNat z.toNat).toArray⟩

theorem pg_size (zs : List Int) : (pg zs).size = zs.length := by simp [pg, ByteArray.size]
theorem pg_nil : pg [] = ⟨#[]⟩ := rfl
theorem pg_snoc (zs : List Int) (k : Nat) (h : k < zs.length) : pg (zs.take k) ++ ⟨#[UInt8.ofNat (zs.getD k 0).toNat]⟩ = pg (zs.take (k + 1)) := by
  apply ByteArray.ext
  rw [ByteArray.data_append]
  apply Array.toList_inj.1
  simp only [pg, Array.toList_append, List.take_succ_eq_append_getElem h, List.map_append, List.map_cons, List.map_nil, P0.getD_get zs k h]

/-- Kind and owner. -/
def two (k o : Int) : ByteArray := ⟨#[UInt8.ofNat k.toNat, UInt8.ofNat o.toNat]⟩

theorem two_size (k o : Int) : (two k o).size = 2 := rfl

/-- What stands ahead of the zeros. -/
def head (k o s : Int) (zs : List Int) : ByteArray := two k o ++ B3.pair s ++ pg zs

/-- An inode as bytes; none where it is not right. -/
def putI (k o s : Int) (zs : List Int) : ByteArray := if I0.ok k o s zs then head k o s zs ++ B4.nulls (12 - zs.length) else ⟨#[]⟩

theorem pair_size (s : Int) (h0 : 0 ≤ s) (h1 : s ≤ 65535) : (B3.pair s).size = 2 := by
  rw [B3.pair, show B1.inB s 0 65535 = true from decide_eq_true ⟨h0, h1⟩]
  rfl

/-- Bounds of what is right. -/
theorem ok_bounds {k o s : Int} {zs : List Int} (h : I0.ok k o s zs = true) : (0 ≤ k ∧ k ≤ 2) ∧ (0 ≤ o ∧ o ≤ 9) ∧ (0 ≤ s ∧ s ≤ 192) ∧ zs.length ≤ 6 ∧ (zs.length : Int) = P0.need s ∧ P0.pagesOk zs = true := by
  have hh : ∀ {o s : Int} {zs : List Int}, I0.holds o s zs = true → (0 ≤ o ∧ o ≤ 9) ∧ (0 ≤ s ∧ s ≤ 192) ∧ zs.length ≤ 6 ∧ (zs.length : Int) = P0.need s ∧ P0.pagesOk zs = true := by
    intro o s zs h
    simp only [I0.holds, Bool.and_eq_true, decide_eq_true_eq] at h
    have h1 := B1.inB_true h.1
    have h2 := B1.inB_true h.2.1
    have h3 := h.2.2.1
    refine ⟨h1, h2, ?_, h3, h.2.2.2⟩
    unfold P0.need at h3
    omega
  unfold I0.ok at h
  split at h
  · rename_i e
    simp only [I0.free, Bool.and_eq_true, decide_eq_true_eq] at h
    have hz : zs = [] := List.eq_nil_of_length_eq_zero h.2.2
    refine ⟨by omega, by omega, by omega, by omega, ?_, ?_⟩
    · rw [h.2.1, h.2.2]; decide
    · rw [hz]; rfl
  · split at h
    · rename_i e
      exact ⟨by omega, hh h⟩
    · split at h
      · rename_i e
        simp only [Bool.and_eq_true] at h
        exact ⟨by omega, hh h.1⟩
      · cases h

theorem pages_bounds {zs : List Int} (h : P0.pagesOk zs = true) {k : Nat} (hk : k < zs.length) : 5 ≤ zs.getD k 0 ∧ zs.getD k 0 ≤ 23 := by
  have h1 : P0.okAt zs k = true := by
    cases hb : P0.okAt zs k with
    | true => rfl
    | false => rw [P0.pagesOk, P0.okUpto_bad hk hb] at h; cases h
  simp only [P0.okAt, Bool.and_eq_true] at h1
  exact B1.inB_true h1.1

theorem head_size (k o s : Int) (zs : List Int) (h0 : 0 ≤ s) (h1 : s ≤ 65535) : (head k o s zs).size = 4 + zs.length := by
  rw [head, ByteArray.size_append, ByteArray.size_append, two_size, pair_size s h0 h1, pg_size]

theorem putI_size (k o s : Int) (zs : List Int) : (putI k o s zs).size ≤ 16 := by
  unfold putI
  split
  · rename_i h
    obtain ⟨_, _, hs, hl, _⟩ := ok_bounds h
    rw [ByteArray.size_append, head_size _ _ _ _ (by omega) (by omega), B4.nulls_size]
    omega
  · exact Nat.zero_le _
end Go.Proofs.YtddlpejklpljoaaGreat.R0

/- Contracts of spec.PairAt and impl.PairAt, as the given laws call them. -/
namespace Go.Proofs.YtddlpejklpljoaaGreat.B6
open Go.ChangeShapes Go.WideShapes Go.ChangeAt Go.RowKit
set_option linter.unusedVariables false

/-- The number whose two bytes stand from a place on, the low one first; 0 where there are not two. -/
def pairAt (s : ByteArray) (i : Int) : Int := if h : 0 ≤ i ∧ i + 1 < s.size then (s[i.toNat]'(by omega)).toNat + 256 * (s[(i + 1).toNat]'(by omega)).toNat else 0

theorem spec_PairAt (s : ByteArray) (i : Int) (w : World) (hs : s.size ≤ 281474976710656) :
    Calls Tryz.prog 87 #[.string s, .int .i64 i] w fun e w' => e = .returned (.int .i64 (pairAt s i)) ∧ ∃ n, w' = w.drewN n := by
  by_cases h1 : i < 0
  · have e : pairAt s i = 0 := by rw [pairAt, dif_neg (by omega)]
    rw [e]
    go_enter Tryz.func87, Tryz.ntmps87
    go_wp2
    go_ret
    exact ⟨rfl, 0, rfl⟩
  · by_cases h2 : (s.size : Int) - 2 < i
    · have e : pairAt s i = 0 := by rw [pairAt, dif_neg (by omega)]
      rw [e]
      go_enter Tryz.func87, Tryz.ntmps87
      go_wp2
      go_ret
      exact ⟨rfl, 0, rfl⟩
    · have e : pairAt s i = (s[i.toNat]'(by omega)).toNat + 256 * (s[(i + 1).toNat]'(by omega)).toNat := by rw [pairAt, dif_pos (by omega)]
      rw [e]
      have h3 : i < (s.size : Int) := by omega
      have h4 : i + 1 < (s.size : Int) := by omega
      have h6 : 0 ≤ i := by omega
      have h7 : 0 ≤ i + 1 := by omega
      have b1 := (s[i.toNat]'(by omega)).toNat_lt
      have b2 := (s[(i + 1).toNat]'(by omega)).toNat_lt
      go_enter Tryz.func87, Tryz.ntmps87
      go_wp2
      go_quiet (fail)
      go_wp2
      go_ret
      exact ⟨rfl, _, rfl⟩

theorem impl_PairAt (s : ByteArray) (i : Int) (w : World) (hs : s.size ≤ 281474976710656) :
    Calls Tryz.prog 102 #[.string s, .int .i64 i] w fun e w' => e = .returned (.int .i64 (pairAt s i)) ∧ ∃ n, w' = w.drewN n := by
  have hs' : s.size ≤ maxLen := by unfold maxLen; omega
  by_cases h : B2.lies s.size i 2 = true
  · obtain ⟨h1, h2, h5⟩ := B2.lies_true h
    have e : pairAt s i = (s[i.toNat]'(by omega)).toNat + (s[(i + 1).toNat]'(by omega)).toNat * 256 := by rw [pairAt, dif_pos (by omega), Int.mul_comm]
    rw [e]
    have h3 : i < (s.size : Int) := by omega
    have h4 : i + 1 < (s.size : Int) := by omega
    have h6 : 0 ≤ i := by omega
    have h7 : 0 ≤ i + 1 := by omega
    have b1 := (s[i.toNat]'(by omega)).toNat_lt
    have b2 := (s[(i + 1).toNat]'(by omega)).toNat_lt
    go_enter Tryz.func102, Tryz.ntmps102
    go_wp2_with (go_at_call 59; refine (B2.liesIn_any _ _ _ _ hs').mono ?_; rintro e w' ⟨rfl, rfl⟩)
    go_quiet (fail)
    go_wp2
    go_ret
    exact ⟨rfl, _, rfl⟩
  · have h' : B2.lies s.size i 2 = false := by simpa using h
    have e : pairAt s i = 0 := by rw [pairAt, dif_neg (fun h9 => B2.lies_false h' (by omega))]
    rw [e]
    go_enter Tryz.func102, Tryz.ntmps102
    go_wp2_with (go_at_call 59; refine (B2.liesIn_any _ _ _ _ hs').mono ?_; rintro e w' ⟨rfl, rfl⟩)
    go_ret
    exact ⟨rfl, 0, rfl⟩
end Go.Proofs.YtddlpejklpljoaaGreat.B6

/- Plain facts on reading an inode out of bytes. -/
namespace Go.Proofs.YtddlpejklpljoaaGreat.G0
open Go
set_option linter.unusedVariables false
set_option linter.unusedSimpArgs false

/-- How many pages are read: as many as the size asks for, no more than twelve. -/
def cnt (s : ByteArray) : Nat := min (P0.need (B6.pairAt s 2)).toNat 12

/-- The first pages that stand in a record. -/
def pgs (s : ByteArray) (k : Nat) : List Int := (List.range k).map fun (j : Nat) => B1.byteAt s (4 + (j : Int))

theorem pgs_length (s : ByteArray) (k : Nat) : (pgs s k).length = k := by simp [pgs]
theorem pgs_succ (s : ByteArray) (k : Nat) : pgs s k ++ [B1.byteAt s (4 + (k : Int))] = pgs s (k + 1) := by simp [pgs, List.range_succ]

/-- The bytes of the inode that a text would tell. -/
def txt (s : ByteArray) : ByteArray := R0.putI (B1.byteAt s 0) (B1.byteAt s 1) (B6.pairAt s 2) (pgs s (cnt s))

/-- Whether a text is that of an inode. -/
def isI (s : ByteArray) : Bool := decide (s.size = 16) && ((txt s).toList == s.toList)

def gK (s : ByteArray) : Int := if isI s then B1.byteAt s 0 else 0
def gO (s : ByteArray) : Int := if isI s then B1.byteAt s 1 else 0
def gS (s : ByteArray) : Int := if isI s then B6.pairAt s 2 else 0
def gZ (s : ByteArray) : List Int := if isI s then pgs s (cnt s) else []

theorem pairAt_lt (s : ByteArray) (i : Int) : 0 ≤ B6.pairAt s i ∧ B6.pairAt s i ≤ 65535 := by
  unfold B6.pairAt
  split
  · rename_i h
    have h1 := (s[i.toNat]'(by omega)).toNat_lt
    have h2 := (s[(i + 1).toNat]'(by omega)).toNat_lt
    omega
  · omega

theorem need_nonneg {x : Int} (h : 0 ≤ x) : 0 ≤ P0.need x := by unfold P0.need; omega

theorem cnt_le (s : ByteArray) : cnt s ≤ 12 := Nat.min_le_right _ _

theorem cnt_lt (s : ByteArray) (k : Nat) : k < cnt s ↔ (k : Int) < P0.need (B6.pairAt s 2) ∧ k < 12 := by
  have := need_nonneg (pairAt_lt s 2).1
  unfold cnt
  omega

/-- Where the text is an inode's the inode is right. -/
theorem isI_ok {s : ByteArray} (h : isI s = true) : s.size = 16 ∧ (txt s).toList = s.toList ∧ I0.ok (B1.byteAt s 0) (B1.byteAt s 1) (B6.pairAt s 2) (pgs s (cnt s)) = true := by
  simp only [isI, Bool.and_eq_true, decide_eq_true_eq, beq_iff_eq] at h
  refine ⟨h.1, h.2, ?_⟩
  cases hok : I0.ok (B1.byteAt s 0) (B1.byteAt s 1) (B6.pairAt s 2) (pgs s (cnt s)) with
  | true => rfl
  | false =>
    have h2 := h.2
    rw [txt, R0.putI, hok, if_neg (by decide)] at h2
    have h3 := congrArg List.length h2
    rw [Lib.toList_data, Lib.toList_data, ← Lib.size_eq, ← Lib.size_eq] at h3
    rw [h.1] at h3
    exact absurd h3 (by decide)

theorem isI_of {s : ByteArray} (h16 : s.size = 16) (h : ((txt s).toList == s.toList) = true) : isI s = true := by rw [isI, decide_eq_true h16, h]; rfl
theorem isI_not {s : ByteArray} (h : ((txt s).toList == s.toList) = false) : isI s = false := by rw [isI, h, Bool.and_false]
theorem isI_no {s : ByteArray} (h : ¬ s.size = 16) : isI s = false := by rw [isI, decide_eq_false h, Bool.false_and]
theorem isI_bad {s : ByteArray} (h : I0.ok (B1.byteAt s 0) (B1.byteAt s 1) (B6.pairAt s 2) (pgs s (cnt s)) = false) : isI s = false := by
  cases hi : isI s with
  | false => rfl
  | true => rw [(isI_ok hi).2.2] at h; cases h

theorem g_no {s : ByteArray} (h : isI s = false) : gK s = 0 ∧ gO s = 0 ∧ gS s = 0 ∧ gZ s = [] := by simp [gK, gO, gS, gZ, h]
theorem g_yes {s : ByteArray} (h : isI s = true) : gK s = B1.byteAt s 0 ∧ gO s = B1.byteAt s 1 ∧ gS s = B6.pairAt s 2 ∧ gZ s = pgs s (cnt s) := by simp [gK, gO, gS, gZ, h]
end Go.Proofs.YtddlpejklpljoaaGreat.G0

/- Contracts of spec.RecAt and impl.RecAt, as the given laws call them. -/
namespace Go.Proofs.YtddlpejklpljoaaGreat.L1
open Go.ChangeShapes Go.WideShapes Go.ChangeAt Go.RowKit
set_option linter.unusedVariables false

/-- The place of the record of an inode; -1 where there is none. -/
def recAt (i : Int) : Int := if B1.inB i 0 7 then 32 + i * 16 else -1

theorem spec_RecAt (i : Int) (w : World) :
    Calls Tryz.prog 45 #[.int .i64 i] w fun e w' => e = .returned (.int .i64 (recAt i)) ∧ w' = w := by
  by_cases h : B1.inB i 0 7 = true
  · have e : recAt i = 32 + i * 16 := by rw [recAt, if_pos h]
    obtain ⟨h1, h2⟩ := B1.inB_true h
    rw [e]
    go_enter Tryz.func45, Tryz.ntmps45
    go_wp2_with (go_at_call 51; refine (B1.l01In_any _ _ _ _).mono ?_; rintro e w' ⟨rfl, rfl⟩)
    go_ret
    exact ⟨rfl, rfl⟩
  · have h' : B1.inB i 0 7 = false := by simpa using h
    have e : recAt i = -1 := by rw [recAt, if_neg h]
    rw [e]
    go_enter Tryz.func45, Tryz.ntmps45
    go_wp2_with (go_at_call 51; refine (B1.l01In_any _ _ _ _).mono ?_; rintro e w' ⟨rfl, rfl⟩)
    go_ret
    exact ⟨rfl, rfl⟩

theorem impl_RecAt (i : Int) (w : World) :
    Calls Tryz.prog 19 #[.int .i64 i] w fun e w' => e = .returned (.int .i64 (recAt i)) ∧ w' = w := by
  by_cases h1 : i < 0
  · have e : recAt i = -1 := by rw [recAt, show B1.inB i 0 7 = false from decide_eq_false (by omega)]; rfl
    rw [e]
    go_enter Tryz.func19, Tryz.ntmps19
    go_wp2
    go_ret
    exact ⟨rfl, rfl⟩
  · by_cases h2 : 8 ≤ i
    · have e : recAt i = -1 := by rw [recAt, show B1.inB i 0 7 = false from decide_eq_false (by omega)]; rfl
      rw [e]
      go_enter Tryz.func19, Tryz.ntmps19
      go_wp2
      go_ret
      exact ⟨rfl, rfl⟩
    · have e : recAt i = 32 + i * 16 := by rw [recAt, show B1.inB i 0 7 = true from decide_eq_true (by omega)]; rfl
      rw [e]
      go_enter Tryz.func19, Tryz.ntmps19
      go_wp2
      go_ret
      exact ⟨rfl, rfl⟩
end Go.Proofs.YtddlpejklpljoaaGreat.L1

/- Plain facts on what Load tells. -/
namespace Go.Proofs.YtddlpejklpljoaaGreat.O0
open Go
set_option linter.unusedVariables false
set_option linter.unusedSimpArgs false

/-- The record of an inode in a memory. -/
def recd (mem : ByteArray) (i : Int) : ByteArray := B2.part mem (L1.recAt i) 16

/-- The first pages' bytes. -/
def joined (mem : ByteArray) (zs : List Int) : Nat → ByteArray
  | 0 => ⟨#[]⟩
  | k + 1 => joined mem zs k ++ B2.part mem (zs.getD k 0 * 32) 32

theorem page_size {mem : ByteArray} (hm : mem.size = 768) {z : Int} (h0 : 5 ≤ z) (h1 : z ≤ 23) : (B2.part mem (z * 32) 32).size = 32 := by
  rw [B2.part, show B2.lies mem.size (z * 32) 32 = true from decide_eq_true (by omega), if_pos rfl, ByteArray.size_extract]
  omega

theorem joined_size {mem : ByteArray} (hm : mem.size = 768) {zs : List Int} (hp : P0.pagesOk zs = true) : ∀ k, k ≤ zs.length → (joined mem zs k).size = 32 * k
  | 0, _ => rfl
  | k + 1, h => by
    have hz := R0.pages_bounds hp (k := k) (by omega)
    rw [joined, ByteArray.size_append, joined_size hm hp k (by omega), page_size hm hz.1 hz.2]
    omega

/-- Whether there is an inode to load. -/
def isL (mem : ByteArray) (i : Int) : Bool := decide (mem.size = 768) && (G0.isI (recd mem i) && !decide (B1.byteAt (recd mem i) 0 = 0))

def lK (mem : ByteArray) (i : Int) : Int := if isL mem i then G0.gK (recd mem i) else 0
def lO (mem : ByteArray) (i : Int) : Int := if isL mem i then G0.gO (recd mem i) else 0
def lS (mem : ByteArray) (i : Int) : Int := if isL mem i then G0.gS (recd mem i) else 0
def lZ (mem : ByteArray) (i : Int) : List Int := if isL mem i then G0.gZ (recd mem i) else []
def lD (mem : ByteArray) (i : Int) : ByteArray := if isL mem i then (joined mem (G0.gZ (recd mem i)) (G0.gZ (recd mem i)).length).extract 0 (G0.gS (recd mem i)).toNat else ⟨#[]⟩

theorem l_no {mem : ByteArray} {i : Int} (h : isL mem i = false) : lK mem i = 0 ∧ lO mem i = 0 ∧ lS mem i = 0 ∧ lZ mem i = [] ∧ lD mem i = ⟨#[]⟩ := by simp [lK, lO, lS, lZ, lD, h]
theorem l_yes {mem : ByteArray} {i : Int} (h : isL mem i = true) : lK mem i = G0.gK (recd mem i) ∧ lO mem i = G0.gO (recd mem i) ∧ lS mem i = G0.gS (recd mem i) ∧ lZ mem i = G0.gZ (recd mem i) ∧ lD mem i = (joined mem (G0.gZ (recd mem i)) (G0.gZ (recd mem i)).length).extract 0 (G0.gS (recd mem i)).toNat := by simp [lK, lO, lS, lZ, lD, h]

theorem isL_size {mem : ByteArray} {i : Int} (h : ¬ mem.size = 768) : isL mem i = false := by rw [isL, decide_eq_false h, Bool.false_and]
theorem isL_rec {mem : ByteArray} {i : Int} (h : G0.isI (recd mem i) = false) : isL mem i = false := by rw [isL, h, Bool.false_and, Bool.and_false]
theorem isL_free {mem : ByteArray} {i : Int} (h : B1.byteAt (recd mem i) 0 = 0) : isL mem i = false := by rw [isL, decide_eq_true h, Bool.not_true, Bool.and_false, Bool.and_false]
theorem isL_of {mem : ByteArray} {i : Int} (h1 : mem.size = 768) (h2 : G0.isI (recd mem i) = true) (h3 : ¬ B1.byteAt (recd mem i) 0 = 0) : isL mem i = true := by rw [isL, decide_eq_true h1, h2, decide_eq_false h3]; rfl

theorem recd_size (mem : ByteArray) (i : Int) (h : mem.size ≤ 281474976710656) : (recd mem i).size ≤ 281474976710656 := by
  have := B2.part_size mem (L1.recAt i) 16
  unfold recd
  omega

/-- The inode that is loaded: its numbers. -/
theorem got {s : ByteArray} (h : G0.isI s = true) : (0 ≤ G0.gS s ∧ G0.gS s ≤ 192) ∧ (G0.gZ s).length ≤ 6 ∧ G0.gS s ≤ 32 * ((G0.gZ s).length : Int) ∧ P0.pagesOk (G0.gZ s) = true ∧ (0 ≤ G0.gK s ∧ G0.gK s ≤ 2) := by
  have hb := R0.ok_bounds (G0.isI_ok h).2.2
  obtain ⟨e1, e2, e3, e4⟩ := G0.g_yes h
  rw [e1, e3, e4]
  refine ⟨hb.2.2.1, hb.2.2.2.1, ?_, hb.2.2.2.2.2, hb.1⟩
  rw [hb.2.2.2.2.1]
  unfold P0.need
  omega

theorem cut (t : ByteArray) (m : Nat) (h : m ≤ t.size) : t.extract 0 m ++ t.extract m t.size = t := by
  apply ByteArray.ext
  apply Array.toList_inj.1
  simp only [ByteArray.data_append, Array.toList_append, Lib.extract_data, List.drop_zero, Nat.sub_zero]
  have : (t.data.toList.drop m).take (t.size - m) = t.data.toList.drop m := List.take_of_length_le (by rw [List.length_drop, ← Lib.size_eq]; exact Nat.le_refl _)
  rw [this, List.take_append_drop]
end Go.Proofs.YtddlpejklpljoaaGreat.O0

/- Plain facts on loans: what a loan must be, as the program asks it and as its specification does. -/
namespace Go.Proofs.YtddlpejklpljoaaGreat.N0
open Go
set_option linter.unusedVariables false
set_option linter.unusedSimpArgs false

/-- A loan's numbers, texts and lists. -/
structure Ln where
  ino : Int
  cl : Int
  un : Int
  rc : ByteArray
  pg : List Int
  sav : ByteArray
  po : List Int
  fr : List Int

/-- A test that holds at the first places. -/
def to (f : Nat → Bool) (k : Nat) : Bool := (List.range k).all f

theorem to_zero (f : Nat → Bool) : to f 0 = true := rfl
theorem to_succ (f : Nat → Bool) (k : Nat) : to f (k + 1) = (to f k && f k) := by simp [to, List.range_succ]
theorem to_iff {f : Nat → Bool} {k : Nat} : to f k = true ↔ ∀ i, i < k → f i = true := by simp [to, List.all_eq_true]
theorem to_bad {f : Nat → Bool} {k n : Nat} (hk : k < n) (h : f k = false) : to f n = false := by
  cases e : to f n with
  | false => rfl
  | true => rw [to_iff.1 e k hk] at h; cases h
theorem to_step {f : Nat → Bool} {k : Nat} (h : to f k = true) (hf : f k = true) : to f (k + 1) = true := by rw [to_succ, h, hf]; rfl

def ascAt (zs : List Int) (i : Nat) : Bool := decide (i = 0) || decide (zs.getD (i - 1) 0 < zs.getD i 0)
def asc (zs : List Int) : Bool := to (ascAt zs) zs.length
def upAt (zs : List Int) (a b : Int) (i : Nat) : Bool := B1.inB (zs.getD i 0) a b && ascAt zs i
def up (zs : List Int) (a b : Int) : Bool := to (upAt zs a b) zs.length
def apAt (pg po : List Int) (i : Nat) : Bool := !(P0.has pg (po.getD i 0))
def apart (pg po : List Int) : Bool := to (apAt pg po) po.length
def amAt (zs al : List Int) (i : Nat) : Bool := P0.has al (zs.getD i 0)
def among (zs al : List Int) : Bool := to (amAt zs al) zs.length
def frAt (fr : List Int) (ino : Int) (i : Nat) : Bool := B1.inB (fr.getD i 0) 1 7 && !decide (fr.getD i 0 = ino)

/-- What a lent inode was is there. -/
def past (d : Ln) : Bool := G0.isI d.rc && (!decide (G0.gK d.rc = 0) && (decide (G0.gZ d.rc = d.pg) && (decide (d.sav.size = d.pg.length * 32) && (!decide (G0.gK d.rc = 2) || V0.isD (B2.part d.sav 0 (G0.gS d.rc))))))
def nums (d : Ln) : Bool := decide (0 ≤ d.ino) && (decide (d.ino < 8) && (decide (0 ≤ d.cl) && (decide (d.cl ≤ 8) && decide (0 ≤ d.un))))
def poolOk (d : Ln) : Bool := decide (d.po.length ≤ 4) && (asc d.po && P0.pagesOk (G0.gZ d.rc ++ d.po))
def freshOk (d : Ln) : Bool := if G0.gK d.rc = 2 then decide (d.fr.length ≤ 2) && (asc d.fr && to (frAt d.fr d.ino) d.fr.length) else decide (d.fr.length = 0)

/-- What a loan must be, as the program asks. -/
def loanOk (d : Ln) : Bool := past d && (nums d && (poolOk d && freshOk d))

/-- .. as the specification asks: what is asked first. -/
def sFirst (d : Ln) : Bool := G0.isI d.rc && (!decide (G0.gK d.rc = 0) && (B1.inB d.ino 0 7 && (B1.inB d.cl 0 8 && (!decide (d.un < 0) && (decide (G0.gZ d.rc = d.pg) && decide (d.sav.size = d.pg.length * 32))))))
def sDir (d : Ln) : Bool := !decide (G0.gK d.rc = 2) || V0.isD (B2.part d.sav 0 (G0.gS d.rc))
def sLast (d : Ln) : Bool := up d.po 5 23 && (decide (d.po.length ≤ 4) && (up d.fr 1 7 && (decide (d.fr.length ≤ 2) && (!(P0.has d.fr d.ino) && (decide (G0.gK d.rc = 2) || decide (d.fr.length = 0))))))
def sOk (d : Ln) : Bool := sFirst d && (apart d.pg d.po && (sDir d && sLast d))

theorem getD_mem {zs : List Int} {i : Nat} (h : i < zs.length) : zs.getD i 0 ∈ zs := by
  rw [P0.getD_get _ _ h]
  exact List.getElem_mem h
theorem mem_getD {zs : List Int} {z : Int} (h : z ∈ zs) : ∃ i, i < zs.length ∧ zs.getD i 0 = z := by
  obtain ⟨i, hi, e⟩ := List.mem_iff_getElem.1 h
  exact ⟨i, hi, by rw [P0.getD_get _ _ hi]; exact e⟩

theorem has_iff {l : List Int} {x : Int} : P0.has l x = true ↔ x ∈ l := by unfold P0.has; exact List.contains_iff_mem
theorem has_not {l : List Int} {x : Int} : P0.has l x = false ↔ ¬ x ∈ l := by
  rw [← has_iff]
  cases P0.has l x <;> simp

theorem inB_iff {z a b : Int} : B1.inB z a b = true ↔ a ≤ z ∧ z ≤ b := by unfold B1.inB; simp

theorem pagesOk_iff {zs : List Int} : P0.pagesOk zs = true ↔ (∀ z ∈ zs, 5 ≤ z ∧ z ≤ 23) ∧ zs.Nodup := by
  have h0 : P0.pagesOk zs = to (P0.okAt zs) zs.length := rfl
  rw [h0, to_iff]
  constructor
  · intro h
    refine ⟨fun z hz => ?_, ?_⟩
    · obtain ⟨i, hi, rfl⟩ := mem_getD hz
      have := h i hi
      simp only [P0.okAt, Bool.and_eq_true] at this
      exact inB_iff.1 this.1
    · rw [List.Nodup, List.pairwise_iff_getElem]
      intro i j hi hj hij e
      have := h j hj
      simp only [P0.okAt, Bool.and_eq_true, Bool.not_eq_true'] at this
      have h2 := P0.contains_of (zs := zs) hij (Nat.le_of_lt hj)
      rw [P0.getD_get _ _ hi, e, ← P0.getD_get _ _ hj, this.2] at h2
      cases h2
  · rintro ⟨h1, h2⟩ i hi
    simp only [P0.okAt, Bool.and_eq_true, Bool.not_eq_true']
    refine ⟨inB_iff.2 (h1 _ (getD_mem hi)), has_not.2 fun hm => ?_⟩
    obtain ⟨j, hj, e⟩ := List.mem_iff_getElem.1 hm
    have hj' : j < i := by simp at hj; omega
    rw [List.getElem_take, P0.getD_get _ _ hi] at e
    rw [List.Nodup, List.pairwise_iff_getElem] at h2
    exact h2 j i (by omega) hi hj' e

theorem asc_iff {zs : List Int} : asc zs = true ↔ zs.Pairwise (· < ·) := by
  unfold asc
  rw [to_iff, List.pairwise_iff_getElem]
  constructor
  · intro h i j hi hj hij
    induction j with
    | zero => omega
    | succ j ih =>
      have hs := h (j + 1) hj
      simp only [ascAt, Bool.or_eq_true, decide_eq_true_eq, Nat.add_sub_cancel] at hs
      have hs' : zs[j] < zs[j + 1] := by
        rcases hs with hs | hs
        · omega
        · rw [P0.getD_get _ _ (by omega), P0.getD_get _ _ hj] at hs
          exact hs
      by_cases e : i = j
      · subst e
        exact hs'
      · exact Int.lt_trans (ih (by omega) (by omega)) hs'
  · intro h i hi
    simp only [ascAt, Bool.or_eq_true, decide_eq_true_eq]
    by_cases e : i = 0
    · exact Or.inl e
    · right
      rw [P0.getD_get _ _ (by omega), P0.getD_get _ _ hi]
      exact h (i - 1) i (by omega) hi (by omega)

theorem asc_nodup {zs : List Int} (h : asc zs = true) : zs.Nodup := (asc_iff.1 h).imp fun h e => by omega

theorem up_iff {zs : List Int} {a b : Int} : up zs a b = true ↔ (∀ z ∈ zs, a ≤ z ∧ z ≤ b) ∧ asc zs = true := by
  unfold up asc
  rw [to_iff, to_iff]
  constructor
  · intro h
    refine ⟨fun z hz => ?_, fun i hi => ?_⟩
    · obtain ⟨i, hi, rfl⟩ := mem_getD hz
      have := h i hi
      simp only [upAt, Bool.and_eq_true] at this
      exact inB_iff.1 this.1
    · have := h i hi
      simp only [upAt, Bool.and_eq_true] at this
      exact this.2
  · rintro ⟨h1, h2⟩ i hi
    simp only [upAt, Bool.and_eq_true]
    exact ⟨inB_iff.2 (h1 _ (getD_mem hi)), h2 i hi⟩

theorem apart_iff {pg po : List Int} : apart pg po = true ↔ ∀ z ∈ po, ¬ z ∈ pg := by
  unfold apart
  rw [to_iff]
  constructor
  · intro h z hz
    obtain ⟨i, hi, rfl⟩ := mem_getD hz
    have := h i hi
    simp only [apAt, Bool.not_eq_true'] at this
    exact has_not.1 this
  · intro h i hi
    simp only [apAt, Bool.not_eq_true']
    exact has_not.2 (h _ (getD_mem hi))

theorem among_iff {zs al : List Int} : among zs al = true ↔ ∀ z ∈ zs, z ∈ al := by
  unfold among
  rw [to_iff]
  constructor
  · intro h z hz
    obtain ⟨i, hi, rfl⟩ := mem_getD hz
    exact has_iff.1 (h i hi)
  · intro h i hi
    exact has_iff.2 (h _ (getD_mem hi))

theorem frTo_iff {fr : List Int} {ino : Int} : to (frAt fr ino) fr.length = true ↔ (∀ z ∈ fr, 1 ≤ z ∧ z ≤ 7) ∧ ¬ ino ∈ fr := by
  rw [to_iff]
  constructor
  · intro h
    refine ⟨fun z hz => ?_, fun hm => ?_⟩
    · obtain ⟨i, hi, rfl⟩ := mem_getD hz
      have := h i hi
      simp only [frAt, Bool.and_eq_true] at this
      exact inB_iff.1 this.1
    · obtain ⟨i, hi, e⟩ := mem_getD hm
      have := h i hi
      simp only [frAt, Bool.and_eq_true, Bool.not_eq_true', decide_eq_false_iff_not] at this
      exact this.2 e
  · rintro ⟨h1, h2⟩ i hi
    simp only [frAt, Bool.and_eq_true, Bool.not_eq_true', decide_eq_false_iff_not]
    exact ⟨inB_iff.2 (h1 _ (getD_mem hi)), fun e => h2 (e ▸ getD_mem hi)⟩

/-- Both ask for the same. -/
theorem sOk_eq (d : Ln) : sOk d = loanOk d := by
  rw [Bool.eq_iff_iff]
  by_cases hP : sFirst d = true
  · have h := hP
    simp only [sFirst, Bool.and_eq_true, Bool.not_eq_true', decide_eq_true_eq, decide_eq_false_iff_not, inB_iff] at h
    obtain ⟨hI, hk, hi, hc, hu, hz, hs⟩ := h
    have hg := O0.got hI
    have hpg := pagesOk_iff.1 hg.2.2.2.1
    rw [hz] at hpg
    simp only [sOk, loanOk, hP, past, nums, poolOk, hI, hk, hz, hs, Bool.and_eq_true, Bool.true_and, decide_true, decide_false, Bool.not_false, decide_eq_true_eq, sDir, sLast]
    rw [apart_iff, up_iff, up_iff, pagesOk_iff]
    constructor
    · rintro ⟨h1, h2, ⟨h3, h4⟩, h5, ⟨h6, h7⟩, h8, h9, h10⟩
      refine ⟨h2, ⟨by omega, by omega, by omega, by omega, by omega⟩, ⟨h5, h4, ?_, ?_⟩, ?_⟩
      · intro z hz'
        rcases List.mem_append.1 hz' with h | h
        · exact hpg.1 z h
        · exact h3 z h
      · exact List.nodup_append.2 ⟨hpg.2, asc_nodup h4, fun a ha b hb e => h1 b hb (e ▸ ha)⟩
      · unfold freshOk
        by_cases k2 : G0.gK d.rc = 2
        · rw [if_pos k2]
          simp only [Bool.and_eq_true, decide_eq_true_eq]
          exact ⟨h8, h7, frTo_iff.2 ⟨h6, has_not.1 (by simpa using h9)⟩⟩
        · rw [if_neg k2]
          simp only [k2, decide_false, Bool.false_or, decide_eq_true_eq, Bool.or_eq_true, false_or] at h10
          simpa using h10
    · rintro ⟨h2, ⟨n1, n2, n3, n4, n5⟩, ⟨h5, h4, h3, hnd⟩, hf⟩
      have hnd' := List.nodup_append.1 hnd
      have hfr : up d.fr 1 7 = true ∧ d.fr.length ≤ 2 ∧ (!P0.has d.fr d.ino) = true ∧ (decide (G0.gK d.rc = 2) || decide (d.fr.length = 0)) = true := by
        unfold freshOk at hf
        by_cases k2 : G0.gK d.rc = 2
        · rw [if_pos k2] at hf
          simp only [Bool.and_eq_true, decide_eq_true_eq] at hf
          obtain ⟨f1, f2, f3⟩ := hf
          obtain ⟨f4, f5⟩ := frTo_iff.1 f3
          exact ⟨up_iff.2 ⟨f4, f2⟩, f1, by simpa using has_not.2 f5, by simp [k2]⟩
        · rw [if_neg k2] at hf
          have h0 : d.fr = [] := List.eq_nil_of_length_eq_zero (by simpa using hf)
          rw [h0]
          exact ⟨rfl, by decide, rfl, by simp⟩
      obtain ⟨q1, q2, q3, q4⟩ := hfr
      exact ⟨fun z hz' hz2 => hnd'.2.2 z hz2 z hz' rfl, h2, ⟨fun z hz' => h3 z (List.mem_append.2 (Or.inr hz')), h4⟩, h5, up_iff.1 q1, q2, q3, q4⟩
  · have h1 : sFirst d = false := by simpa using hP
    simp only [sOk, h1, Bool.false_and, Bool.false_eq_true, false_iff]
    intro hl
    apply hP
    simp only [loanOk, past, nums, Bool.and_eq_true, decide_eq_true_eq] at hl
    obtain ⟨⟨a1, a2, a3, a4, a5⟩, ⟨b1, b2, b3, b4, b5⟩, -⟩ := hl
    simp only [sFirst, Bool.and_eq_true, decide_eq_true_eq, inB_iff]
    exact ⟨a1, a2, ⟨b1, by omega⟩, ⟨b3, b4⟩, by simp; omega, a3, a4⟩

theorem loanOk_past {d : Ln} (h : loanOk d = true) : past d = true := by simp only [loanOk, Bool.and_eq_true] at h; exact h.1

/-- What is known of a right loan. -/
theorem loanOk_is {d : Ln} (h : loanOk d = true) : G0.isI d.rc = true ∧ G0.gK d.rc ≠ 0 ∧ G0.gZ d.rc = d.pg ∧ d.sav.size = d.pg.length * 32 ∧ (0 ≤ d.ino ∧ d.ino ≤ 7) ∧ (0 ≤ d.cl ∧ d.cl ≤ 8) ∧ d.pg.length ≤ 6 ∧ d.po.length ≤ 4 ∧ d.fr.length ≤ 2 ∧ P0.pagesOk (d.pg ++ d.po) = true ∧ (∀ z ∈ d.fr, 1 ≤ z ∧ z ≤ 7) ∧ asc d.po = true ∧ asc d.fr = true := by
  have h' := h
  rw [← sOk_eq] at h'
  simp only [sOk, sFirst, sLast, Bool.and_eq_true, decide_eq_true_eq, inB_iff, Bool.not_eq_true', decide_eq_false_iff_not] at h'
  obtain ⟨⟨a1, a2, a3, a4, a5, a6, a7⟩, -, -, b1, b2, b3, b4, -⟩ := h'
  simp only [loanOk, poolOk, Bool.and_eq_true] at h
  have hp := h.2.2.1.2.2
  rw [a6] at hp
  have := (O0.got a1).2.1
  rw [a6] at this
  exact ⟨a1, a2, a6, a7, a3, a4, this, b2, b4, hp, (up_iff.1 b3).1, (up_iff.1 b1).2, (up_iff.1 b3).2⟩
end Go.Proofs.YtddlpejklpljoaaGreat.N0

/- Contracts of impl.recordOf, impl.InodeOk and spec.InodeOk, as the given laws call them. -/
namespace Go.Proofs.YtddlpejklpljoaaGreat.I1
open Go.ChangeShapes Go.WideShapes Go.ChangeAt Go.RowKit
set_option linter.unusedVariables false
set_option linter.unusedSimpArgs false
set_option maxRecDepth 10000

open P1 (ret_bool quiet_bool)
open I0 (val vals)

/-- An inode as one of its kinds. -/
def rec (k : Int) (v : Value) : Value := if k = 0 then .iface 137 v else if k = 1 then .iface 134 v else if k = 2 then .iface 136 v else .nilIface

set_option maxHeartbeats 1000000 in
theorem recordOf0 (o s : Int) (a : Option Addr) (c : Nat) (zs : List Int) (w : World) (hbig : zs.length ≤ 281474976710656) (hcap : zs.length ≤ c) (hR : P0.Row w a zs) :
    Calls Tryz.prog 106 #[val 0 o s a zs.length c] w fun e w' => e = .returned (.tuple #[.iface 137 (val 0 o s a zs.length c), .bool (I0.free o s zs)]) ∧ Below w.heap.size w w' := by
  have hB := K0.below_new w (.cells #[.int .i64 0, .int .i64 o, .int .i64 s, .slice a zs.length c] 45)
  have hR' := hR.alloc (.cells #[.int .i64 0, .int .i64 o, .int .i64 s, .slice a zs.length c] 45)
  go_enter Tryz.func106, Tryz.ntmps106
  go_wp2_with (go_at_call 180; refine (I0.freeSound 0 o s a c zs.length zs _ rfl).mono ?_; rintro e w' ⟨rfl, hb⟩)
  go_ret2
  exact ⟨rfl, hB.trans (hb.mono hB.size)⟩

set_option maxHeartbeats 1000000 in
theorem recordOf1 (o s : Int) (a : Option Addr) (c : Nat) (zs : List Int) (w : World) (hbig : zs.length ≤ 281474976710656) (hcap : zs.length ≤ c) (hR : P0.Row w a zs) :
    Calls Tryz.prog 106 #[val 1 o s a zs.length c] w fun e w' => e = .returned (.tuple #[.iface 134 (val 1 o s a zs.length c), .bool (I0.holds o s zs)]) ∧ Below w.heap.size w w' := by
  have hB := K0.below_new w (.cells #[.int .i64 1, .int .i64 o, .int .i64 s, .slice a zs.length c] 45)
  have hR' := hR.alloc (.cells #[.int .i64 1, .int .i64 o, .int .i64 s, .slice a zs.length c] 45)
  go_enter Tryz.func106, Tryz.ntmps106
  go_wp2_with (go_at_call 176; refine (I0.fileSound 1 o s a c zs _ hbig hcap hR').mono ?_; rintro e w' ⟨rfl, hb⟩)
  go_ret2
  exact ⟨rfl, hB.trans (hb.mono hB.size)⟩

set_option maxHeartbeats 1000000 in
theorem recordOf2 (o s : Int) (a : Option Addr) (c : Nat) (zs : List Int) (w : World) (hbig : zs.length ≤ 281474976710656) (hcap : zs.length ≤ c) (hR : P0.Row w a zs) :
    Calls Tryz.prog 106 #[val 2 o s a zs.length c] w fun e w' => e = .returned (.tuple #[.iface 136 (val 2 o s a zs.length c), .bool (I0.holds o s zs && decide (s % 16 = 0))]) ∧ Below w.heap.size w w' := by
  have hB := K0.below_new w (.cells #[.int .i64 2, .int .i64 o, .int .i64 s, .slice a zs.length c] 45)
  have hR' := hR.alloc (.cells #[.int .i64 2, .int .i64 o, .int .i64 s, .slice a zs.length c] 45)
  go_enter Tryz.func106, Tryz.ntmps106
  go_wp2_with (go_at_call 179; refine (I0.dirSound 2 o s a c zs _ hbig hcap hR').mono ?_; rintro e w' ⟨rfl, hb⟩)
  go_ret2
  exact ⟨rfl, hB.trans (hb.mono hB.size)⟩

theorem recordOfN (k o s : Int) (a : Option Addr) (c n : Nat) (w : World) (h0 : k ≠ 0) (h1 : k ≠ 1) (h2 : k ≠ 2) :
    Calls Tryz.prog 106 #[val k o s a n c] w fun e w' => e = .returned (.tuple #[.nilIface, .bool false]) ∧ Below w.heap.size w w' := by
  have hB := K0.below_new w (.cells #[.int .i64 k, .int .i64 o, .int .i64 s, .slice a n c] 45)
  have g0 : (k == 0) = false := by simpa using h0
  have g1 : (k == 1) = false := by simpa using h1
  have g2 : (k == 2) = false := by simpa using h2
  go_enter Tryz.func106, Tryz.ntmps106
  go_wp2
  go_ret2
  exact ⟨rfl, hB⟩

theorem recordOf (k o s : Int) (a : Option Addr) (c : Nat) (zs : List Int) (w : World) (hbig : zs.length ≤ 281474976710656) (hcap : zs.length ≤ c) (hR : P0.Row w a zs) :
    Calls Tryz.prog 106 #[val k o s a zs.length c] w fun e w' => e = .returned (.tuple #[rec k (val k o s a zs.length c), .bool (I0.ok k o s zs)]) ∧ Below w.heap.size w w' := by
  by_cases h0 : k = 0
  · subst h0
    exact recordOf0 o s a c zs w hbig hcap hR
  · by_cases h1 : k = 1
    · subst h1
      exact recordOf1 o s a c zs w hbig hcap hR
    · by_cases h2 : k = 2
      · subst h2
        exact recordOf2 o s a c zs w hbig hcap hR
      · have e1 : rec k (val k o s a zs.length c) = .nilIface := by rw [rec, if_neg h0, if_neg h1, if_neg h2]
        have e2 : I0.ok k o s zs = false := by rw [I0.ok, if_neg h0, if_neg h1, if_neg h2]
        rw [e1, e2]
        exact recordOfN k o s a c zs.length w h0 h1 h2

theorem specFree (o s : Int) (a : Option Addr) (c n : Nat) (zs : List Int) (w : World) (hn : n = zs.length) :
    Calls Tryz.prog 121 #[val 0 o s a n c] w fun e w' => e = .returned (.bool (I0.free o s zs)) ∧ Below w.heap.size w w' := by
  have hB := K0.below_new w (.cells #[.int .i64 0, .int .i64 o, .int .i64 s, .slice a n c] 45)
  by_cases h1 : o = 0
  · subst h1
    by_cases h2 : s = 0
    · subst h2
      by_cases h3 : n = 0
      · have HR : Hid (I0.free 0 0 zs = true) := by rw [I0.free, ← hn, h3]; rfl
        subst h3
        clear hn
        go_enter Tryz.func121, Tryz.ntmps121
        go_wp2
        go_ret
        exact ⟨ret_bool HR.out.symm, hB⟩
      · have HR : Hid (I0.free 0 0 zs = false) := by rw [I0.free, ← hn, decide_eq_false h3]; rfl
        have h3' : ((n : Int) == 0) = false := by simp; omega
        clear hn
        go_enter Tryz.func121, Tryz.ntmps121
        go_wp2
        go_ret
        exact ⟨ret_bool HR.out.symm, hB⟩
    · have HR : Hid (I0.free 0 s zs = false) := by rw [I0.free, decide_eq_false h2, Bool.false_and, Bool.and_false]; rfl
      have h2' : (s == 0) = false := by simpa using h2
      clear hn
      go_enter Tryz.func121, Tryz.ntmps121
      go_wp2
      go_ret
      exact ⟨ret_bool HR.out.symm, hB⟩
  · have HR : Hid (I0.free o s zs = false) := by rw [I0.free, decide_eq_false h1, Bool.false_and]; rfl
    have h1' : (o == 0) = false := by simpa using h1
    clear hn
    go_enter Tryz.func121, Tryz.ntmps121
    go_wp2
    go_ret
    exact ⟨ret_bool HR.out.symm, hB⟩

set_option maxHeartbeats 2000000 in
theorem specHolds (k o s : Int) (a : Option Addr) (c : Nat) (zs : List Int) (w : World) (hbig : zs.length ≤ 281474976710656) (hcap : zs.length ≤ c) (hR : P0.Row w a zs) (h0 : k ≠ 0) :
    Calls Tryz.prog 121 #[val k o s a zs.length c] w fun e w' => e = .returned (.bool (I0.ok k o s zs)) ∧ Below w.heap.size w w' := by
  have hB := K0.below_new w (.cells #[.int .i64 k, .int .i64 o, .int .i64 s, .slice a zs.length c] 45)
  have hR' := hR.alloc (.cells #[.int .i64 k, .int .i64 o, .int .i64 s, .slice a zs.length c] 45)
  have hP : Hid (∀ m, Calls Tryz.prog 67 #[.slice a zs.length c] ((w.alloc (.cells #[.int .i64 k, .int .i64 o, .int .i64 s, .slice a zs.length c] 45)).drewN m) fun e w' => e = .returned (.bool (P0.pagesOk zs)) ∧ ∃ n, w' = ((w.alloc (.cells #[.int .i64 k, .int .i64 o, .int .i64 s, .slice a zs.length c] 45)).drewN m).drewN n) := fun m => P1.l03Pages a c zs _ hbig hcap (hR'.drewN m)
  clear hR hR'
  have z0 : (k == 0) = false := by simpa using h0
  by_cases hS : B1.inB s 0 192 = true
  · obtain ⟨hs1, hs2⟩ := B1.inB_true hS
    by_cases hd : k = 2 ∧ ¬ s % 16 = 0
    · obtain ⟨rfl, h16⟩ := hd
      have h16' : (s % 16 != 0) = true := by simpa using h16
      have HR : Hid (I0.ok 2 o s zs = false) := by
        show (I0.holds o s zs && decide (s % 16 = 0)) = false
        rw [decide_eq_false h16, Bool.and_false]
      clear h16
      go_enter Tryz.func121, Tryz.ntmps121
      go_wp2
      go_ret
      exact ⟨ret_bool HR.out.symm, hB⟩
    · have HK : Hid (B1.inB k 1 2 = true → I0.ok k o s zs = I0.holds o s zs) := fun h => by
        obtain ⟨k1, k2⟩ := B1.inB_true h
        by_cases e1 : k = 1
        · subst e1; rfl
        · have e2 : k = 2 := by omega
          have h16 : s % 16 = 0 := Decidable.byContradiction fun h => hd ⟨e2, h⟩
          subst e2
          show (I0.holds o s zs && decide (s % 16 = 0)) = I0.holds o s zs
          rw [decide_eq_true h16, Bool.and_true]
      have HN : Hid (B1.inB k 1 2 = false → I0.ok k o s zs = false) := fun h => by
        have := B1.inB_false h
        rw [I0.ok, if_neg h0, if_neg (by omega), if_neg (by omega)]
      have hg : (k == 2) = false ∨ ((k == 2) = true ∧ (s % 16 != 0) = false) := by
        by_cases e2 : k = 2
        · right
          refine ⟨by simpa using e2, ?_⟩
          have h16 : s % 16 = 0 := Decidable.byContradiction fun h => hd ⟨e2, h⟩
          simpa using h16
        · left
          simpa using e2
      have HH : Hid (I0.holds o s zs = (B1.inB o 0 9 && (decide ((zs.length : Int) = P0.need s) && P0.pagesOk zs))) := by rw [I0.holds, hS, Bool.true_and]; rfl
      clear hd h0
      by_cases g0 : B1.inB k 1 2 = true
      · by_cases g1 : B1.inB o 0 9 = true
        · by_cases g2 : (zs.length : Int) = P0.need s
          · have g2' : ((zs.length : Int) == P0.need s) = true := by simpa using g2
            have HR : Hid (I0.ok k o s zs = P0.pagesOk zs) := by rw [HK.out g0, HH.out, g1, decide_eq_true g2]; rfl
            clear g2
            rcases hg with hg | ⟨hg, hg2⟩
            all_goals
              go_enter Tryz.func121, Tryz.ntmps121
              go_wp2
              go_quiet ((first | (go_at_call 51; first | exact quiet_bool (B1.l01In_any _ _ _ _) g0 | exact quiet_bool (B1.l01In_any _ _ _ _) g1 | exact quiet_bool (B1.l01In_any _ _ _ _) hS) | (go_at_call 88; exact Calls.quiet_of_same (P1.l03Need _ _ (by omega) (by omega))) | (go_at_call 67; exact Calls.quiet_of (hP.out _))))
              go_wp2
              go_ret
              exact ⟨ret_bool HR.out.symm, I0.below_alloc_drew _ _ _⟩
          · have g2' : ((zs.length : Int) == P0.need s) = false := by simpa using g2
            have HR : Hid (I0.ok k o s zs = false) := by rw [HK.out g0, HH.out, decide_eq_false g2, Bool.false_and, Bool.and_false]; rfl
            clear g2
            rcases hg with hg | ⟨hg, hg2⟩
            all_goals
              go_enter Tryz.func121, Tryz.ntmps121
              go_wp2
              go_quiet ((first | (go_at_call 51; first | exact quiet_bool (B1.l01In_any _ _ _ _) g0 | exact quiet_bool (B1.l01In_any _ _ _ _) g1 | exact quiet_bool (B1.l01In_any _ _ _ _) hS) | (go_at_call 88; exact Calls.quiet_of_same (P1.l03Need _ _ (by omega) (by omega)))))
              go_wp2
              go_ret
              exact ⟨ret_bool HR.out.symm, I0.below_alloc_drew _ _ _⟩
        · have g1' : B1.inB o 0 9 = false := by simpa using g1
          have HR : Hid (I0.ok k o s zs = false) := by rw [HK.out g0, HH.out, g1', Bool.false_and]; rfl
          rcases hg with hg | ⟨hg, hg2⟩
          all_goals
            go_enter Tryz.func121, Tryz.ntmps121
            go_wp2
            go_quiet ((go_at_call 51; first | exact quiet_bool (B1.l01In_any _ _ _ _) g0 | exact quiet_bool (B1.l01In_any _ _ _ _) g1'))
            go_wp2
            go_ret
            exact ⟨ret_bool HR.out.symm, I0.below_alloc_drew _ _ _⟩
      · have g0' : B1.inB k 1 2 = false := by simpa using g0
        have HR : Hid (I0.ok k o s zs = false) := HN.out g0'
        rcases hg with hg | ⟨hg, hg2⟩
        all_goals
          go_enter Tryz.func121, Tryz.ntmps121
          go_wp2
          go_quiet ((go_at_call 51; exact quiet_bool (B1.l01In_any _ _ _ _) g0'))
          go_wp2
          go_ret
          exact ⟨ret_bool HR.out.symm, I0.below_alloc_drew _ _ _⟩
  · have hS' : B1.inB s 0 192 = false := by simpa using hS
    have HR : Hid (I0.ok k o s zs = false) := by
      show I0.ok k o s zs = false
      have hf : I0.holds o s zs = false := by rw [I0.holds, hS', Bool.false_and, Bool.and_false]
      rw [I0.ok, if_neg h0]
      split
      · exact hf
      · split
        · rw [hf]; rfl
        · rfl
    clear hS
    have hg : (k == 2) = false ∨ (k == 2) = true := by cases (k == 2) <;> simp
    by_cases g0 : B1.inB k 1 2 = true
    · by_cases g1 : B1.inB o 0 9 = true
      · rcases hg with hg | hg
        all_goals
          go_enter Tryz.func121, Tryz.ntmps121
          go_wp2
          all_goals first
            | (go_ret
               exact ⟨ret_bool HR.out.symm, hB⟩)
            | (go_quiet ((go_at_call 51; first | exact quiet_bool (B1.l01In_any _ _ _ _) g0 | exact quiet_bool (B1.l01In_any _ _ _ _) g1 | exact quiet_bool (B1.l01In_any _ _ _ _) hS'))
               go_wp2
               go_ret
               exact ⟨ret_bool HR.out.symm, I0.below_alloc_drew _ _ _⟩)
      · have g1' : B1.inB o 0 9 = false := by simpa using g1
        rcases hg with hg | hg
        all_goals
          go_enter Tryz.func121, Tryz.ntmps121
          go_wp2
          all_goals first
            | (go_ret
               exact ⟨ret_bool HR.out.symm, hB⟩)
            | (go_quiet ((go_at_call 51; first | exact quiet_bool (B1.l01In_any _ _ _ _) g0 | exact quiet_bool (B1.l01In_any _ _ _ _) g1'))
               go_wp2
               go_ret
               exact ⟨ret_bool HR.out.symm, I0.below_alloc_drew _ _ _⟩)
    · have g0' : B1.inB k 1 2 = false := by simpa using g0
      rcases hg with hg | hg
      all_goals
        go_enter Tryz.func121, Tryz.ntmps121
        go_wp2
        all_goals first
          | (go_ret
             exact ⟨ret_bool HR.out.symm, hB⟩)
          | (go_quiet ((go_at_call 51; exact quiet_bool (B1.l01In_any _ _ _ _) g0'))
             go_wp2
             go_ret
             exact ⟨ret_bool HR.out.symm, I0.below_alloc_drew _ _ _⟩)

theorem spec_InodeOk (k o s : Int) (a : Option Addr) (c : Nat) (zs : List Int) (w : World) (hbig : zs.length ≤ 281474976710656) (hcap : zs.length ≤ c) (hR : P0.Row w a zs) :
    Calls Tryz.prog 121 #[val k o s a zs.length c] w fun e w' => e = .returned (.bool (I0.ok k o s zs)) ∧ Below w.heap.size w w' := by
  by_cases h0 : k = 0
  · subst h0
    exact specFree o s a c zs.length zs w rfl
  · exact specHolds k o s a c zs w hbig hcap hR h0
end Go.Proofs.YtddlpejklpljoaaGreat.I1
