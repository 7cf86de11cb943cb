/- Joined texts: plain facts and contracts, as each part says. -/
import Derived.Test.YtifddipnboifnaaJdD
import Derived.Test.YtifddipnboifnaaJdB
import Derived.Deep.RegionWith
import Derived.Test.YtifddipnboifnaaJdC
import Derived.Deep.RegionHeld3

/- Plain facts on an inode as bytes. -/
namespace Go.Proofs.Ytifddipnboifnaa.R0
open Go
set_option linter.unusedVariables false
set_option linter.unusedSimpArgs false

/-- Pages as a byte each. -/
def pg (zs : List Int) : ByteArray := ⟨(zs.map fun z => UInt8.ofNat z.toNat).toArray⟩

theorem pg_size (zs : List Int) : (pg zs).size = zs.length := by simp [pg, ByteArray.size]
theorem pg_nil : pg [] = ⟨#[]⟩ := rfl
theorem pg_snoc (zs : List Int) (k : Nat) (h : k < zs.length) : pg (zs.take k) ++ ⟨#[UInt8.ofNat (zs.getD k 0).toNat]⟩ = pg (zs.take (k + 1)) := by
  apply ByteArray.ext
  rw [ByteArray.data_append]
  apply Array.toList_inj.1
  simp only [pg, Array.toList_append, List.take_succ_eq_append_getElem h, List.map_append, List.map_cons, List.map_nil, P0.getD_get zs k h]

/-- Kind and owner. -/
def two (k o : Int) : ByteArray := ⟨#[UInt8.ofNat k.toNat, UInt8.ofNat o.toNat]⟩

theorem two_size (k o : Int) : (two k o).size = 2 := rfl

/-- What stands ahead of the zeros. -/
def head (k o s : Int) (zs : List Int) : ByteArray := two k o ++ B3.pair s ++ pg zs

/-- An inode as bytes; none where it is not right. -/
def putI (k o s : Int) (zs : List Int) : ByteArray := if I0.ok k o s zs then head k o s zs ++ B4.nulls (12 - zs.length) else ⟨#[]⟩

theorem pair_size (s : Int) (h0 : 0 ≤ s) (h1 : s ≤ 65535) : (B3.pair s).size = 2 := by
  rw [B3.pair, show B1.inB s 0 65535 = true from decide_eq_true ⟨h0, h1⟩]
  rfl

/-- Bounds of what is right. -/
theorem ok_bounds {k o s : Int} {zs : List Int} (h : I0.ok k o s zs = true) : (0 ≤ k ∧ k ≤ 2) ∧ (0 ≤ o ∧ o ≤ 9) ∧ (0 ≤ s ∧ s ≤ 192) ∧ zs.length ≤ 6 ∧ (zs.length : Int) = P0.need s ∧ P0.pagesOk zs = true := by
  have hh : ∀ {o s : Int} {zs : List Int}, I0.holds o s zs = true → (0 ≤ o ∧ o ≤ 9) ∧ (0 ≤ s ∧ s ≤ 192) ∧ zs.length ≤ 6 ∧ (zs.length : Int) = P0.need s ∧ P0.pagesOk zs = true := by
    intro o s zs h
    simp only [I0.holds, Bool.and_eq_true, decide_eq_true_eq] at h
    have h1 := B1.inB_true h.1
    have h2 := B1.inB_true h.2.1
    have h3 := h.2.2.1
    refine ⟨h1, h2, ?_, h3, h.2.2.2⟩
    unfold P0.need at h3
    omega
  unfold I0.ok at h
  split at h
  · rename_i e
    simp only [I0.free, Bool.and_eq_true, decide_eq_true_eq] at h
    have hz : zs = [] := List.eq_nil_of_length_eq_zero h.2.2
    refine ⟨by omega, by omega, by omega, by omega, ?_, ?_⟩
    · rw [h.2.1, h.2.2]; decide
    · rw [hz]; rfl
  · split at h
    · rename_i e
      exact ⟨by omega, hh h⟩
    · split at h
      · rename_i e
        simp only [Bool.and_eq_true] at h
        exact ⟨by omega, hh h.1⟩
      · cases h

theorem pages_bounds {zs : List Int} (h : P0.pagesOk zs = true) {k : Nat} (hk : k < zs.length) : 5 ≤ zs.getD k 0 ∧ zs.getD k 0 ≤ 23 := by
  have h1 : P0.okAt zs k = true := by
    cases hb : P0.okAt zs k with
    | true => rfl
    | false => rw [P0.pagesOk, P0.okUpto_bad hk hb] at h; cases h
  simp only [P0.okAt, Bool.and_eq_true] at h1
  exact B1.inB_true h1.1

theorem head_size (k o s : Int) (zs : List Int) (h0 : 0 ≤ s) (h1 : s ≤ 65535) : (head k o s zs).size = 4 + zs.length := by
  rw [head, ByteArray.size_append, ByteArray.size_append, two_size, pair_size s h0 h1, pg_size]

theorem putI_size (k o s : Int) (zs : List Int) : (putI k o s zs).size ≤ 16 := by
  unfold putI
  split
  · rename_i h
    obtain ⟨_, _, hs, hl, _⟩ := ok_bounds h
    rw [ByteArray.size_append, head_size _ _ _ _ (by omega) (by omega), B4.nulls_size]
    omega
  · exact Nat.zero_le _
end Go.Proofs.Ytifddipnboifnaa.R0

/- Contracts of impl.recordOf, impl.InodeOk and spec.InodeOk, as the given laws call them. -/
namespace Go.Proofs.Ytifddipnboifnaa.I1
open Go.ChangeShapes Go.WideShapes Go.ChangeAt Go.RowKit
set_option linter.unusedVariables false
set_option linter.unusedSimpArgs false
set_option maxRecDepth 10000

open P1 (ret_bool quiet_bool)
open I0 (val vals)

/-- An inode as one of its kinds. -/
def rec (k : Int) (v : Value) : Value := if k = 0 then .iface 114 v else if k = 1 then .iface 108 v else if k = 2 then .iface 110 v else .nilIface

set_option maxHeartbeats 1000000 in
theorem recordOf0 (o s : Int) (a : Option Addr) (c : Nat) (zs : List Int) (w : World) (hbig : zs.length ≤ 281474976710656) (hcap : zs.length ≤ c) (hR : P0.Row w a zs) :
    Calls Try.prog 76 #[val 0 o s a zs.length c] w fun e w' => e = .returned (.tuple #[.iface 114 (val 0 o s a zs.length c), .bool (I0.free o s zs)]) ∧ Below w.heap.size w w' := by
  have hB := K0.below_new w (.cells #[.int .i64 0, .int .i64 o, .int .i64 s, .slice a zs.length c] 26)
  have hR' := hR.alloc (.cells #[.int .i64 0, .int .i64 o, .int .i64 s, .slice a zs.length c] 26)
  go_enter Try.func76, Try.ntmps76
  go_wp2_with (go_at_call 162; refine (I0.freeSound 0 o s a c zs.length zs _ rfl).mono ?_; rintro e w' ⟨rfl, hb⟩)
  go_ret2
  exact ⟨rfl, hB.trans (hb.mono hB.size)⟩

set_option maxHeartbeats 1000000 in
theorem recordOf1 (o s : Int) (a : Option Addr) (c : Nat) (zs : List Int) (w : World) (hbig : zs.length ≤ 281474976710656) (hcap : zs.length ≤ c) (hR : P0.Row w a zs) :
    Calls Try.prog 76 #[val 1 o s a zs.length c] w fun e w' => e = .returned (.tuple #[.iface 108 (val 1 o s a zs.length c), .bool (I0.holds o s zs)]) ∧ Below w.heap.size w w' := by
  have hB := K0.below_new w (.cells #[.int .i64 1, .int .i64 o, .int .i64 s, .slice a zs.length c] 26)
  have hR' := hR.alloc (.cells #[.int .i64 1, .int .i64 o, .int .i64 s, .slice a zs.length c] 26)
  go_enter Try.func76, Try.ntmps76
  go_wp2_with (go_at_call 155; refine (I0.fileSound 1 o s a c zs _ hbig hcap hR').mono ?_; rintro e w' ⟨rfl, hb⟩)
  go_ret2
  exact ⟨rfl, hB.trans (hb.mono hB.size)⟩

set_option maxHeartbeats 1000000 in
theorem recordOf2 (o s : Int) (a : Option Addr) (c : Nat) (zs : List Int) (w : World) (hbig : zs.length ≤ 281474976710656) (hcap : zs.length ≤ c) (hR : P0.Row w a zs) :
    Calls Try.prog 76 #[val 2 o s a zs.length c] w fun e w' => e = .returned (.tuple #[.iface 110 (val 2 o s a zs.length c), .bool (I0.holds o s zs && decide (s % 16 = 0))]) ∧ Below w.heap.size w w' := by
  have hB := K0.below_new w (.cells #[.int .i64 2, .int .i64 o, .int .i64 s, .slice a zs.length c] 26)
  have hR' := hR.alloc (.cells #[.int .i64 2, .int .i64 o, .int .i64 s, .slice a zs.length c] 26)
  go_enter Try.func76, Try.ntmps76
  go_wp2_with (go_at_call 161; refine (I0.dirSound 2 o s a c zs _ hbig hcap hR').mono ?_; rintro e w' ⟨rfl, hb⟩)
  go_ret2
  exact ⟨rfl, hB.trans (hb.mono hB.size)⟩

theorem recordOfN (k o s : Int) (a : Option Addr) (c n : Nat) (w : World) (h0 : k ≠ 0) (h1 : k ≠ 1) (h2 : k ≠ 2) :
    Calls Try.prog 76 #[val k o s a n c] w fun e w' => e = .returned (.tuple #[.nilIface, .bool false]) ∧ Below w.heap.size w w' := by
  have hB := K0.below_new w (.cells #[.int .i64 k, .int .i64 o, .int .i64 s, .slice a n c] 26)
  have g0 : (k == 0) = false := by simpa using h0
  have g1 : (k == 1) = false := by simpa using h1
  have g2 : (k == 2) = false := by simpa using h2
  go_enter Try.func76, Try.ntmps76
  go_wp2
  go_ret2
  exact ⟨rfl, hB⟩

theorem recordOf (k o s : Int) (a : Option Addr) (c : Nat) (zs : List Int) (w : World) (hbig : zs.length ≤ 281474976710656) (hcap : zs.length ≤ c) (hR : P0.Row w a zs) :
    Calls Try.prog 76 #[val k o s a zs.length c] w fun e w' => e = .returned (.tuple #[rec k (val k o s a zs.length c), .bool (I0.ok k o s zs)]) ∧ Below w.heap.size w w' := by
  by_cases h0 : k = 0
  · subst h0
    exact recordOf0 o s a c zs w hbig hcap hR
  · by_cases h1 : k = 1
    · subst h1
      exact recordOf1 o s a c zs w hbig hcap hR
    · by_cases h2 : k = 2
      · subst h2
        exact recordOf2 o s a c zs w hbig hcap hR
      · have e1 : rec k (val k o s a zs.length c) = .nilIface := by rw [rec, if_neg h0, if_neg h1, if_neg h2]
        have e2 : I0.ok k o s zs = false := by rw [I0.ok, if_neg h0, if_neg h1, if_neg h2]
        rw [e1, e2]
        exact recordOfN k o s a c zs.length w h0 h1 h2

theorem impl_InodeOk (k o s : Int) (a : Option Addr) (c : Nat) (zs : List Int) (w : World) (hbig : zs.length ≤ 281474976710656) (hcap : zs.length ≤ c) (hR : P0.Row w a zs) :
    Calls Try.prog 25 #[val k o s a zs.length c] w fun e w' => e = .returned (.bool (I0.ok k o s zs)) ∧ Below w.heap.size w w' := by
  have hB := K0.below_new w (.cells #[.int .i64 k, .int .i64 o, .int .i64 s, .slice a zs.length c] 26)
  have hR' := hR.alloc (.cells #[.int .i64 k, .int .i64 o, .int .i64 s, .slice a zs.length c] 26)
  go_enter Try.func25, Try.ntmps25
  go_wp2_with (go_at_call 76; refine (recordOf k o s a c zs _ hbig hcap hR').mono ?_; rintro e w' ⟨rfl, hb⟩)
  go_ret
  exact ⟨rfl, hB.trans (hb.mono hB.size)⟩

theorem specFree (o s : Int) (a : Option Addr) (c n : Nat) (zs : List Int) (w : World) (hn : n = zs.length) :
    Calls Try.prog 26 #[val 0 o s a n c] w fun e w' => e = .returned (.bool (I0.free o s zs)) ∧ Below w.heap.size w w' := by
  have hB := K0.below_new w (.cells #[.int .i64 0, .int .i64 o, .int .i64 s, .slice a n c] 26)
  by_cases h1 : o = 0
  · subst h1
    by_cases h2 : s = 0
    · subst h2
      by_cases h3 : n = 0
      · have HR : Hid (I0.free 0 0 zs = true) := by rw [I0.free, ← hn, h3]; rfl
        subst h3
        clear hn
        go_enter Try.func26, Try.ntmps26
        go_wp2
        go_ret
        exact ⟨ret_bool HR.out.symm, hB⟩
      · have HR : Hid (I0.free 0 0 zs = false) := by rw [I0.free, ← hn, decide_eq_false h3]; rfl
        have h3' : ((n : Int) == 0) = false := by simp; omega
        clear hn
        go_enter Try.func26, Try.ntmps26
        go_wp2
        go_ret
        exact ⟨ret_bool HR.out.symm, hB⟩
    · have HR : Hid (I0.free 0 s zs = false) := by rw [I0.free, decide_eq_false h2, Bool.false_and, Bool.and_false]; rfl
      have h2' : (s == 0) = false := by simpa using h2
      clear hn
      go_enter Try.func26, Try.ntmps26
      go_wp2
      go_ret
      exact ⟨ret_bool HR.out.symm, hB⟩
  · have HR : Hid (I0.free o s zs = false) := by rw [I0.free, decide_eq_false h1, Bool.false_and]; rfl
    have h1' : (o == 0) = false := by simpa using h1
    clear hn
    go_enter Try.func26, Try.ntmps26
    go_wp2
    go_ret
    exact ⟨ret_bool HR.out.symm, hB⟩

set_option maxHeartbeats 2000000 in
theorem specHolds (k o s : Int) (a : Option Addr) (c : Nat) (zs : List Int) (w : World) (hbig : zs.length ≤ 281474976710656) (hcap : zs.length ≤ c) (hR : P0.Row w a zs) (h0 : k ≠ 0) :
    Calls Try.prog 26 #[val k o s a zs.length c] w fun e w' => e = .returned (.bool (I0.ok k o s zs)) ∧ Below w.heap.size w w' := by
  have hB := K0.below_new w (.cells #[.int .i64 k, .int .i64 o, .int .i64 s, .slice a zs.length c] 26)
  have hR' := hR.alloc (.cells #[.int .i64 k, .int .i64 o, .int .i64 s, .slice a zs.length c] 26)
  have hP : Hid (∀ m, Calls Try.prog 78 #[.slice a zs.length c] ((w.alloc (.cells #[.int .i64 k, .int .i64 o, .int .i64 s, .slice a zs.length c] 26)).drewN m) fun e w' => e = .returned (.bool (P0.pagesOk zs)) ∧ ∃ n, w' = ((w.alloc (.cells #[.int .i64 k, .int .i64 o, .int .i64 s, .slice a zs.length c] 26)).drewN m).drewN n) := fun m => P1.l03Pages a c zs _ hbig hcap (hR'.drewN m)
  clear hR hR'
  have z0 : (k == 0) = false := by simpa using h0
  by_cases hS : B1.inB s 0 192 = true
  · obtain ⟨hs1, hs2⟩ := B1.inB_true hS
    by_cases hd : k = 2 ∧ ¬ s % 16 = 0
    · obtain ⟨rfl, h16⟩ := hd
      have h16' : (s % 16 != 0) = true := by simpa using h16
      have HR : Hid (I0.ok 2 o s zs = false) := by
        show (I0.holds o s zs && decide (s % 16 = 0)) = false
        rw [decide_eq_false h16, Bool.and_false]
      clear h16
      go_enter Try.func26, Try.ntmps26
      go_wp2
      go_ret
      exact ⟨ret_bool HR.out.symm, hB⟩
    · have HK : Hid (B1.inB k 1 2 = true → I0.ok k o s zs = I0.holds o s zs) := fun h => by
        obtain ⟨k1, k2⟩ := B1.inB_true h
        by_cases e1 : k = 1
        · subst e1; rfl
        · have e2 : k = 2 := by omega
          have h16 : s % 16 = 0 := Decidable.byContradiction fun h => hd ⟨e2, h⟩
          subst e2
          show (I0.holds o s zs && decide (s % 16 = 0)) = I0.holds o s zs
          rw [decide_eq_true h16, Bool.and_true]
      have HN : Hid (B1.inB k 1 2 = false → I0.ok k o s zs = false) := fun h => by
        have := B1.inB_false h
        rw [I0.ok, if_neg h0, if_neg (by omega), if_neg (by omega)]
      have hg : (k == 2) = false ∨ ((k == 2) = true ∧ (s % 16 != 0) = false) := by
        by_cases e2 : k = 2
        · right
          refine ⟨by simpa using e2, ?_⟩
          have h16 : s % 16 = 0 := Decidable.byContradiction fun h => hd ⟨e2, h⟩
          simpa using h16
        · left
          simpa using e2
      have HH : Hid (I0.holds o s zs = (B1.inB o 0 9 && (decide ((zs.length : Int) = P0.need s) && P0.pagesOk zs))) := by rw [I0.holds, hS, Bool.true_and]; rfl
      clear hd h0
      by_cases g0 : B1.inB k 1 2 = true
      · by_cases g1 : B1.inB o 0 9 = true
        · by_cases g2 : (zs.length : Int) = P0.need s
          · have g2' : ((zs.length : Int) == P0.need s) = true := by simpa using g2
            have HR : Hid (I0.ok k o s zs = P0.pagesOk zs) := by rw [HK.out g0, HH.out, g1, decide_eq_true g2]; rfl
            clear g2
            rcases hg with hg | ⟨hg, hg2⟩
            all_goals
              go_enter Try.func26, Try.ntmps26
              go_wp2
              go_quiet ((first | (go_at_call 77; first | exact quiet_bool (B1.l01In_any _ _ _ _) g0 | exact quiet_bool (B1.l01In_any _ _ _ _) g1 | exact quiet_bool (B1.l01In_any _ _ _ _) hS) | (go_at_call 65; exact Calls.quiet_of_same (P1.l03Need _ _ (by omega) (by omega))) | (go_at_call 78; exact Calls.quiet_of (hP.out _))))
              go_wp2
              go_ret
              exact ⟨ret_bool HR.out.symm, I0.below_alloc_drew _ _ _⟩
          · have g2' : ((zs.length : Int) == P0.need s) = false := by simpa using g2
            have HR : Hid (I0.ok k o s zs = false) := by rw [HK.out g0, HH.out, decide_eq_false g2, Bool.false_and, Bool.and_false]; rfl
            clear g2
            rcases hg with hg | ⟨hg, hg2⟩
            all_goals
              go_enter Try.func26, Try.ntmps26
              go_wp2
              go_quiet ((first | (go_at_call 77; first | exact quiet_bool (B1.l01In_any _ _ _ _) g0 | exact quiet_bool (B1.l01In_any _ _ _ _) g1 | exact quiet_bool (B1.l01In_any _ _ _ _) hS) | (go_at_call 65; exact Calls.quiet_of_same (P1.l03Need _ _ (by omega) (by omega)))))
              go_wp2
              go_ret
              exact ⟨ret_bool HR.out.symm, I0.below_alloc_drew _ _ _⟩
        · have g1' : B1.inB o 0 9 = false := by simpa using g1
          have HR : Hid (I0.ok k o s zs = false) := by rw [HK.out g0, HH.out, g1', Bool.false_and]; rfl
          rcases hg with hg | ⟨hg, hg2⟩
          all_goals
            go_enter Try.func26, Try.ntmps26
            go_wp2
            go_quiet ((go_at_call 77; first | exact quiet_bool (B1.l01In_any _ _ _ _) g0 | exact quiet_bool (B1.l01In_any _ _ _ _) g1'))
            go_wp2
            go_ret
            exact ⟨ret_bool HR.out.symm, I0.below_alloc_drew _ _ _⟩
      · have g0' : B1.inB k 1 2 = false := by simpa using g0
        have HR : Hid (I0.ok k o s zs = false) := HN.out g0'
        rcases hg with hg | ⟨hg, hg2⟩
        all_goals
          go_enter Try.func26, Try.ntmps26
          go_wp2
          go_quiet ((go_at_call 77; exact quiet_bool (B1.l01In_any _ _ _ _) g0'))
          go_wp2
          go_ret
          exact ⟨ret_bool HR.out.symm, I0.below_alloc_drew _ _ _⟩
  · have hS' : B1.inB s 0 192 = false := by simpa using hS
    have HR : Hid (I0.ok k o s zs = false) := by
      show I0.ok k o s zs = false
      have hf : I0.holds o s zs = false := by rw [I0.holds, hS', Bool.false_and, Bool.and_false]
      rw [I0.ok, if_neg h0]
      split
      · exact hf
      · split
        · rw [hf]; rfl
        · rfl
    clear hS
    have hg : (k == 2) = false ∨ (k == 2) = true := by cases (k == 2) <;> simp
    by_cases g0 : B1.inB k 1 2 = true
    · by_cases g1 : B1.inB o 0 9 = true
      · rcases hg with hg | hg
        all_goals
          go_enter Try.func26, Try.ntmps26
          go_wp2
          all_goals first
            | (go_ret
               exact ⟨ret_bool HR.out.symm, hB⟩)
            | (go_quiet ((go_at_call 77; first | exact quiet_bool (B1.l01In_any _ _ _ _) g0 | exact quiet_bool (B1.l01In_any _ _ _ _) g1 | exact quiet_bool (B1.l01In_any _ _ _ _) hS'))
               go_wp2
               go_ret
               exact ⟨ret_bool HR.out.symm, I0.below_alloc_drew _ _ _⟩)
      · have g1' : B1.inB o 0 9 = false := by simpa using g1
        rcases hg with hg | hg
        all_goals
          go_enter Try.func26, Try.ntmps26
          go_wp2
          all_goals first
            | (go_ret
               exact ⟨ret_bool HR.out.symm, hB⟩)
            | (go_quiet ((go_at_call 77; first | exact quiet_bool (B1.l01In_any _ _ _ _) g0 | exact quiet_bool (B1.l01In_any _ _ _ _) g1'))
               go_wp2
               go_ret
               exact ⟨ret_bool HR.out.symm, I0.below_alloc_drew _ _ _⟩)
    · have g0' : B1.inB k 1 2 = false := by simpa using g0
      rcases hg with hg | hg
      all_goals
        go_enter Try.func26, Try.ntmps26
        go_wp2
        all_goals first
          | (go_ret
             exact ⟨ret_bool HR.out.symm, hB⟩)
          | (go_quiet ((go_at_call 77; exact quiet_bool (B1.l01In_any _ _ _ _) g0'))
             go_wp2
             go_ret
             exact ⟨ret_bool HR.out.symm, I0.below_alloc_drew _ _ _⟩)

theorem spec_InodeOk (k o s : Int) (a : Option Addr) (c : Nat) (zs : List Int) (w : World) (hbig : zs.length ≤ 281474976710656) (hcap : zs.length ≤ c) (hR : P0.Row w a zs) :
    Calls Try.prog 26 #[val k o s a zs.length c] w fun e w' => e = .returned (.bool (I0.ok k o s zs)) ∧ Below w.heap.size w w' := by
  by_cases h0 : k = 0
  · subst h0
    exact specFree o s a c zs.length zs w rfl
  · exact specHolds k o s a c zs w hbig hcap hR h0
end Go.Proofs.Ytifddipnboifnaa.I1

/- Contracts of impl.recordText and impl.PutInode, as the given laws call them. -/
namespace Go.Proofs.Ytifddipnboifnaa.R1
open Go.ChangeShapes Go.WideShapes Go.ChangeAt Go.RowKit
set_option linter.unusedVariables false
set_option linter.unusedSimpArgs false
set_option maxRecDepth 10000

open I0 (val vals)

theorem ret_str {a b : ByteArray} (h : a = b) : Ending.returned (.string a) = .returned (.string b) := by rw [h]

/-- The record's text so far: kind, owner, size, and the first pages. -/
def upto (k o s : Int) (zs : List Int) (j : Nat) : ByteArray := R0.two k o ++ B3.pair s ++ R0.pg (zs.take j)

theorem upto_zero (k o s : Int) (zs : List Int) : upto k o s zs 0 = R0.two k o ++ B3.pair s := by
  apply ByteArray.ext
  simp [upto, R0.pg]
theorem upto_succ (k o s : Int) (zs : List Int) (j : Nat) (h : j < zs.length) : upto k o s zs j ++ ⟨#[UInt8.ofNat (zs.getD j 0).toNat]⟩ = upto k o s zs (j + 1) := by
  rw [upto, upto, ByteArray.append_assoc, R0.pg_snoc zs j h]
theorem upto_all (k o s : Int) (zs : List Int) : upto k o s zs zs.length = R0.head k o s zs := by rw [upto, List.take_length, R0.head]

theorem zeros_buf {base g n cap : Nat} {W : World} {t : ByteArray} (m : Int) (h : F0.Buf base W g n cap t) :
    Calls Try.prog 68 #[.int .i64 m] W fun e w' => e = .returned (.string (B4.zeros m)) ∧ F0.Buf base w' g n cap t ∧ Below W.heap.size W w' :=
  (B4.impl_Zeros m W).mono fun _ _ ⟨he, hb⟩ => ⟨he, h.below hb, hb⟩

/-- A world behind the call's own box, with the row. -/
structure St (w : World) (W1 : World) (g n cap : Nat) (t : ByteArray) (W : World) : Prop where
  buf : F0.Buf W1.heap.size W g n cap t
  bel : Below W1.heap.size W1 W

variable {w W1 W W' : World} {g n cap : Nat} {t : ByteArray}

theorem St.below (h : St w W1 g n cap t W) (hb : Below W.heap.size W W') : St w W1 g n cap t W' := ⟨h.buf.below hb, h.bel.trans (hb.mono h.bel.size)⟩
theorem St.drew (h : St w W1 g n cap t W) : St w W1 g n cap t W.drew := ⟨h.buf.drew, h.bel.drew⟩

theorem zeros_st (m : Int) (h : St w W1 g n cap t W) :
    Calls Try.prog 68 #[.int .i64 m] W fun e w' => e = .returned (.string (B4.zeros m)) ∧ St w W1 g n cap t w' :=
  (B4.impl_Zeros m W).mono fun _ _ ⟨he, hb⟩ => ⟨he, h.below hb⟩

theorem with_st (a : ByteArray) (k : Int) (u : ByteArray) (hs : a.size ≤ 281474976710656) (ht : u.size ≤ 281474976710656) (h : St w W1 g n cap t W) :
    Calls Try.prog 67 #[.string a, .int .i64 k, .string u] W fun e w' => e = .returned (.string (B5.laid a k u)) ∧ St w W1 g n cap t w' :=
  (B5.impl_With a k u W hs ht).mono fun _ _ ⟨he, hb⟩ => ⟨he, h.below hb⟩

set_option maxHeartbeats 2000000 in
theorem recordText (k o s : Int) (a : Option Addr) (c : Nat) (zs : List Int) (w : World) (hok : I0.ok k o s zs = true) (hR : P0.Row w a zs) :
    Calls Try.prog 59 #[val k o s a zs.length c] w fun e w' => e = .returned (.string (R0.putI k o s zs)) ∧ Below w.heap.size w w' := by
  obtain ⟨hk, ho, hs, hl, -, hp⟩ := R0.ok_bounds hok
  have hP2 := R0.pair_size s (by omega) (by omega)
  have hbox := K0.blk_new (vals k o s a zs.length c) w 26
  have hl0 := K0.below_new w (.cells #[.int .i64 k, .int .i64 o, .int .i64 s, .slice a zs.length c] 26)
  have hR1 := hR.below hl0
  have hbuf0 := F0.buf_two (base := (w.alloc (.cells #[.int .i64 k, .int .i64 o, .int .i64 s, .slice a zs.length c] 26)).heap.size) (w.alloc (.cells #[.int .i64 k, .int .i64 o, .int .i64 s, .slice a zs.length c] 26)) k o (by omega) (by omega) (Nat.le_refl _)
  have hbuf0 := hbuf0.at (g' := w.heap.size + 1) (by simp)
  have hbl0 := K0.below_new (w.alloc (.cells #[.int .i64 k, .int .i64 o, .int .i64 s, .slice a zs.length c] 26)) (.cells #[.int .u8 k, .int .u8 o] 5)
  have hbox0 := hbox.below hbl0
  have HT : Hid (R0.putI k o s zs = B5.laid (B4.zeros 16) 0 (R0.head k o s zs)) := by
    have hz := R0.head_size k o s zs (by omega) (by omega)
    rw [R0.putI, if_pos hok, B4.zeros, if_pos (by decide), show ((16 : Int)).toNat = 16 from rfl, E0.laid_front _ 16 (by omega), hz, show 16 - (4 + zs.length) = 12 - zs.length by omega]
    rfl
  have hz4 : (R0.head k o s zs).size ≤ 281474976710656 := by rw [R0.head_size k o s zs (by omega) (by omega)]; omega
  have hz5 : (B4.zeros 16).size ≤ 281474976710656 := by decide
  clear hR hok
  have hs0 : 0 ≤ s := hs.1
  have hk0 : 0 ≤ k := hk.1
  have hk1 : k ≤ 2 := hk.2
  have ho0 : 0 ≤ o := ho.1
  have ho1 : o ≤ 9 := ho.2
  go_enter Try.func59, Try.ntmps59
  go_wp2_with (first
    | (go_at_call 99; refine (B3.impl_Pair _ _).mono ?_; rintro e w2 ⟨rfl, b2⟩; have hbuf2 := hbuf0.below b2; have bel2 := hbl0.trans (b2.mono hbl0.size); have hbox2 := hbox.below bel2; have c3 := hbox2.c3)
    | (at_builtin; refine F0.append_text rfl (.tmp 13) (.tmp 16) rfl hbuf2 (B3.pair s) (by rfl) (by rfl) (by omega) bel2.size ?_; intro g3 cap3 w3 hbuf3 bel3'; have bel3 := bel2.trans bel3'; have hbox3 := hbox.below bel3; have d3 := hbox3.c3))
  go_loopw [3, 21] (fun r i w' => ∃ (j g cap : Nat), j ≤ zs.length ∧ i = .int .i64 j ∧ r = .slice (some ⟨g, 0, none⟩) (4 + j) cap ∧ F0.Buf (w.alloc (.cells #[.int .i64 k, .int .i64 o, .int .i64 s, .slice a zs.length c] 26)).heap.size w' g (4 + j) cap (upto k o s zs j) ∧ Below (w.alloc (.cells #[.int .i64 k, .int .i64 o, .int .i64 s, .slice a zs.length c] 26)).heap.size (w.alloc (.cells #[.int .i64 k, .int .i64 o, .int .i64 s, .slice a zs.length c] 26)) w') (fun _ i _ => zs.length - (intOf i).toNat)
  case atStart =>
    rw [hP2] at hbuf3
    exact ⟨0, g3, cap3, Nat.zero_le _, rfl, rfl, by rw [upto_zero]; exact hbuf3, bel3⟩
  case round =>
    obtain ⟨j, g, cap, hj, rfl, rfl, hbuf, hbel⟩ := hrel
    clear hbuf0 hbl0 hbox0 hbuf2 bel2 hbox2 c3 hbuf3 bel3 bel3' hbox3 d3 b2
    by_cases hlt : j < zs.length
    · obtain ⟨b, off, rfl, hb, hc⟩ := (hR1.below hbel).get hlt
      have x1 := hc j hlt
      have hz := R0.pages_bounds hp hlt
      have hu := upto_succ k o s zs j hlt
      obtain ⟨z, ez⟩ : ∃ z, zs.getD j 0 = z := ⟨_, rfl⟩
      rw [ez] at x1 hz hu
      have z0 : 0 ≤ z := by omega
      have z1 : z ≤ 23 := hz.2
      have e1 : (0 : Int) ≤ (j : Int) := by omega
      have e2 : (j : Int) < (zs.length : Int) := by omega
      have HU : Hid (upto k o s zs j ++ ⟨#[UInt8.ofNat z.toNat]⟩ = upto k o s zs (j + 1)) := hu
      clear hu ez hc hz
      go_wp2_with (at_builtin; refine F0.append_byte rfl (.tmp 25) (.tmp 28) rfl hbuf z (by omega) (by rfl) (by rfl) (by omega) hbel.size ?_; intro g1 cap1 w1 hbuf1 bel1)
      go_roundw
      case rel => exact ⟨j + 1, g1, cap1, by omega, by go_num, rfl, by rw [← HU.out]; exact hbuf1, hbel.trans bel1⟩
      case measure => simp [intOf]; omega
    · obtain rfl : j = zs.length := by omega
      rw [upto_all] at hbuf
      have st : St w (w.alloc (.cells #[.int .i64 k, .int .i64 o, .int .i64 s, .slice a zs.length c] 26)) g (4 + zs.length) cap (R0.head k o s zs) wr := ⟨hbuf, hbel⟩
      have hfin : Hid (∀ W, St w (w.alloc (.cells #[.int .i64 k, .int .i64 o, .int .i64 s, .slice a zs.length c] 26)) g (4 + zs.length) cap (R0.head k o s zs) W → Below w.heap.size w W) := fun W h => hl0.trans (h.bel.mono hl0.size)
      clear hR1 hbuf hbel hbox hl0
      go_wp2
      have st1 := st.drew
      have cv0 := st.buf.conv
      have cv1 := st1.buf.conv
      go_region_with (first
        | (go_at_call 68; refine (zeros_st _ (by assumption)).mono ?_; rintro e w4 ⟨rfl, h4⟩; have cv4 := h4.buf.conv)
        | (go_at_call 67; refine (with_st _ _ _ hz5 hz4 (by assumption)).mono ?_; rintro e w5 ⟨rfl, h5⟩))
      all_goals
        go_wp2
        go_ret
        exact ⟨ret_str HT.out.symm, hfin.out _ h5⟩

theorem impl_PutInode (k o s : Int) (a : Option Addr) (c : Nat) (zs : List Int) (w : World) (hbig : zs.length ≤ 281474976710656) (hcap : zs.length ≤ c) (hR : P0.Row w a zs) :
    Calls Try.prog 12 #[val k o s a zs.length c] w fun e w' => e = .returned (.string (R0.putI k o s zs)) ∧ Below w.heap.size w w' := by
  have hbox := K0.blk_new (vals k o s a zs.length c) w 26
  have hl0 := K0.below_new w (.cells #[.int .i64 k, .int .i64 o, .int .i64 s, .slice a zs.length c] 26)
  have hR0 := hR.below hl0
  clear hR
  by_cases hok : I0.ok k o s zs = true
  · go_enter Try.func12, Try.ntmps12
    go_wp2_with (first
      | (go_at_call 25; refine (I1.impl_InodeOk k o s a c zs _ hbig hcap hR0).mono ?_; rintro e w1 ⟨rfl, b1⟩; have hbox1 := hbox.below b1; have c0 := hbox1.c0; have c1 := hbox1.c1; have c2 := hbox1.c2; have c3 := hbox1.c3; have hR1 := hR0.below b1; have l1 := hl0.trans (b1.mono hl0.size))
      | (go_at_call 59; refine (recordText k o s a c zs _ hok hR1).mono ?_; rintro e w2 ⟨rfl, b2⟩; have l2 := l1.trans (b2.mono l1.size)))
    go_ret
    exact ⟨rfl, l2⟩
  · have hok' : I0.ok k o s zs = false := by simpa using hok
    have HR : Hid (R0.putI k o s zs = ⟨#[]⟩) := by rw [R0.putI, if_neg hok]; rfl
    go_enter Try.func12, Try.ntmps12
    go_wp2_with (go_at_call 25; refine (I1.impl_InodeOk k o s a c zs _ hbig hcap hR0).mono ?_; rintro e w1 ⟨rfl, b1⟩; have l1 := hl0.trans (b1.mono hl0.size))
    go_ret
    exact ⟨ret_str HR.out.symm, l1⟩
end Go.Proofs.Ytifddipnboifnaa.R1

/- The contract of spec.PutInode, as the given laws call it. -/
namespace Go.Proofs.Ytifddipnboifnaa.R2
open Go.ChangeShapes Go.WideShapes Go.ChangeAt Go.RowKit
set_option linter.unusedVariables false
set_option linter.unusedSimpArgs false
set_option maxRecDepth 10000

open I0 (val vals)
open R1 (ret_str St)

/-- Kind, owner and the first pages. -/
def upto (k o : Int) (zs : List Int) (j : Nat) : ByteArray := R0.two k o ++ R0.pg (zs.take j)

theorem upto_zero (k o : Int) (zs : List Int) : upto k o zs 0 = R0.two k o := by
  apply ByteArray.ext
  simp [upto, R0.pg]
theorem upto_succ (k o : Int) (zs : List Int) (j : Nat) (h : j < zs.length) : upto k o zs j ++ ⟨#[UInt8.ofNat (zs.getD j 0).toNat]⟩ = upto k o zs (j + 1) := by
  rw [upto, upto, ByteArray.append_assoc, R0.pg_snoc zs j h]
theorem upto_all (k o : Int) (zs : List Int) : upto k o zs zs.length = R0.two k o ++ R0.pg zs := by rw [upto, List.take_length]

variable {base g n cap : Nat} {w W1 W W' : World} {t u : ByteArray}

/-- A row's front as a string. -/
theorem conv_front (h : F0.Buf base W g n cap (t ++ u)) (m : Nat) (hm : m = t.size) : (convert 22 9 (.slice (some ⟨g, 0, none⟩) m cap)).run Try.prog W = .ok (.string t) W := by
  have hh := h.holds
  have := B0.conv_back (P := Try.prog) W 22 9 5 g 0 cap t.data.toList Try.underlying22 Try.underlying5 Try.underlying9 (fun j hj => by
    have h2 := hh j (by simp [ByteArray.data_append] at hj ⊢; omega)
    rw [h2]
    congr 2
    simp only [ByteArray.data_append, Array.toList_append]
    rw [List.getElem_append_left hj]) m (by rw [hm, Lib.size_eq])
  rwa [Lib.mk_data] at this

/-- A row's rest as a string. -/
theorem conv_rest (h : F0.Buf base W g n cap (t ++ u)) (m : Nat) (hm : m = t.size) (r : Nat) (hr : r = u.size) (c : Nat) : (convert 22 9 (.slice (some ⟨g, m, none⟩) r c)).run Try.prog W = .ok (.string u) W := by
  have hh := h.holds
  have := B0.conv_back (P := Try.prog) W 22 9 5 g m c u.data.toList Try.underlying22 Try.underlying5 Try.underlying9 (fun j hj => by
    have hts : t.data.toList.length = m := by rw [hm, Lib.size_eq]
    have h2 := hh (m + j) (by simp only [ByteArray.data_append, Array.toList_append, List.length_append]; omega)
    rw [Nat.zero_add] at h2
    rw [h2]
    congr 2
    simp only [ByteArray.data_append, Array.toList_append]
    rw [List.getElem_append_right (by omega)]
    simp [hts]) r (by rw [hr, Lib.size_eq])
  rwa [Lib.mk_data] at this

theorem conv_none (W : World) (b o c : Nat) : (convert 22 9 (.slice (some ⟨b, o, none⟩) 0 c)).run Try.prog W = .ok (.string ⟨#[]⟩) W :=
  B0.conv_back (P := Try.prog) W 22 9 5 b o c [] Try.underlying22 Try.underlying5 Try.underlying9 (fun j hj => by simp at hj) 0 rfl

theorem pair_st (m : Int) (h : St w W1 g n cap t W) :
    Calls Try.prog 73 #[.int .i64 m] W fun e w' => e = .returned (.string (B3.pair m)) ∧ St w W1 g n cap t w' ∧ Below W.heap.size W w' :=
  (B3.spec_Pair m W).mono fun _ _ ⟨he, hb⟩ => ⟨he, h.below hb, hb⟩

abbrev conA (k o : Int) (g cap : Nat) (W : World) : Prop := (convert 22 9 (.slice (some ⟨g, 0, none⟩) 2 cap)).run Try.prog W = .ok (.string (R0.two k o)) W
abbrev conB (zs : List Int) (g cap : Nat) (W : World) : Prop := (convert 22 9 (.slice (some ⟨g, 2, none⟩) zs.length (cap - 2))).run Try.prog W = .ok (.string (R0.pg zs)) W

theorem all_of {k o s : Int} {zs : List Int} (h : St w W1 g (2 + zs.length) cap (R0.two k o ++ R0.pg zs) W) (hc : W.cell? ⟨w.heap.size, 2, none⟩ = some (.int .i64 s)) :
    conA k o g cap W ∧ conB zs g cap W ∧ W.cell? ⟨w.heap.size, 2, none⟩ = some (.int .i64 s) ∧ St w W1 g (2 + zs.length) cap (R0.two k o ++ R0.pg zs) W :=
  ⟨conv_front h.buf 2 rfl, conv_rest h.buf 2 rfl zs.length (R0.pg_size zs).symm (cap - 2), hc, h⟩

theorem pair_all {k o s : Int} {zs : List Int} (h : conA k o g cap W ∧ conB zs g cap W ∧ W.cell? ⟨w.heap.size, 2, none⟩ = some (.int .i64 s) ∧ St w W1 g (2 + zs.length) cap (R0.two k o ++ R0.pg zs) W) :
    Calls Try.prog 73 #[.int .i64 s] W fun e w' => e = .returned (.string (B3.pair s)) ∧ (conA k o g cap w' ∧ conB zs g cap w' ∧ w'.cell? ⟨w.heap.size, 2, none⟩ = some (.int .i64 s) ∧ St w W1 g (2 + zs.length) cap (R0.two k o ++ R0.pg zs) w') :=
  (B3.spec_Pair s W).mono fun _ w' ⟨he, hb⟩ => ⟨he, all_of (h.2.2.2.below hb) ((hb.cell (p := ⟨w.heap.size, 2, none⟩) (by
    have := h.2.2.1
    unfold World.cell? at this
    cases hq : W.heap[w.heap.size]? with
    | none => simp [hq] at this
    | some o => exact (Array.getElem?_eq_some_iff.1 hq).1)).trans h.2.2.1)⟩

theorem inodeOk_at (k o s : Int) (a : Option Addr) (c : Nat) (zs : List Int) (W : World) (hbig : zs.length ≤ 281474976710656) (hcap : zs.length ≤ c) (hR : P0.Row W a zs) (hbox : K0.Blk w.heap.size (vals k o s a zs.length c) W) (hl : Below w.heap.size w W) :
    Calls Try.prog 26 #[val k o s a zs.length c] W fun e w' => e = .returned (.bool (I0.ok k o s zs)) ∧ K0.Blk w.heap.size (vals k o s a zs.length c) w' ∧ P0.Row w' a zs ∧ Below w.heap.size w w' :=
  (I1.spec_InodeOk k o s a c zs W hbig hcap hR).mono fun _ _ ⟨he, hb⟩ => ⟨he, hbox.below hb, hR.below hb, hl.trans (hb.mono hl.size)⟩

set_option maxHeartbeats 4000000 in
theorem spec_PutInode (k o s : Int) (a : Option Addr) (c : Nat) (zs : List Int) (w : World) (hbig : zs.length ≤ 281474976710656) (hcap : zs.length ≤ c) (hR : P0.Row w a zs) :
    Calls Try.prog 22 #[val k o s a zs.length c] w fun e w' => e = .returned (.string (R0.putI k o s zs)) ∧ Below w.heap.size w w' := by
  have hbox := K0.blk_new (vals k o s a zs.length c) w 26
  have hl0 := K0.below_new w (.cells #[.int .i64 k, .int .i64 o, .int .i64 s, .slice a zs.length c] 26)
  have hR0 := hR.below hl0
  clear hR
  by_cases hok : I0.ok k o s zs = true
  · obtain ⟨hk, ho, hs, hl, -, hp⟩ := R0.ok_bounds hok
    have hP2 := R0.pair_size s (by omega) (by omega)
    have hs0 : 0 ≤ s := hs.1
    have hk0 : 0 ≤ k := hk.1
    have hk1 : k ≤ 2 := hk.2
    have ho0 : 0 ≤ o := ho.1
    have ho1 : o ≤ 9 := ho.2
    have HT : Hid (R0.putI k o s zs = (R0.two k o ++ B3.pair s ++ R0.pg zs) ++ B4.zeros (16 - (4 + (zs.length : Int)))) := by
      rw [R0.putI, if_pos hok, R0.head, B4.zeros, if_pos (by omega), show (16 - (4 + (zs.length : Int))).toNat = 12 - zs.length by omega]
      rfl
    go_enter Try.func22, Try.ntmps22
    go_wp2_with (go_at_call 26; refine (inodeOk_at k o s a c zs _ hbig hcap hR0 hbox hl0).mono ?_; rintro e w1 ⟨rfl, hbox1, hR1, hl1⟩; have c0 := hbox1.c0; have c1 := hbox1.c1; have c2 := hbox1.c2; have c3 := hbox1.c3; have hbuf0 := F0.buf_two (base := w1.heap.size) w1 k o (by omega) (by omega) (Nat.le_refl _); have bel0 := K0.below_new w1 (.cells #[.int .u8 k, .int .u8 o] 5))
    go_loopw [3, 4] (fun r i w' => ∃ (j g cap : Nat), j ≤ zs.length ∧ i = .int .i64 j ∧ r = .slice (some ⟨g, 0, none⟩) (2 + j) cap ∧ F0.Buf w1.heap.size w' g (2 + j) cap (upto k o zs j) ∧ Below w1.heap.size w1 w') (fun _ i _ => zs.length - (intOf i).toNat)
    case atStart => exact ⟨0, _, _, Nat.zero_le _, rfl, rfl, by rw [upto_zero]; exact hbuf0, bel0⟩
    case round =>
      obtain ⟨j, g, cap, hj, rfl, rfl, hbuf, hbel⟩ := hrel
      have hboxr := hbox1.below hbel
      have r2 := hboxr.c2
      have r3 := hboxr.c3
      clear hbuf0 bel0 c0 c1 c2 c3 hbox hl0 hR0
      by_cases hlt : j < zs.length
      · obtain ⟨b, off, rfl, hb, hc⟩ := (hR1.below hbel).get hlt
        have x1 := hc j hlt
        have hz := R0.pages_bounds hp hlt
        have hu := upto_succ k o zs j hlt
        obtain ⟨z, ez⟩ : ∃ z, zs.getD j 0 = z := ⟨_, rfl⟩
        rw [ez] at x1 hz hu
        have z0 : 0 ≤ z := by omega
        have z1 : z ≤ 23 := hz.2
        have e1 : (0 : Int) ≤ (j : Int) := by omega
        have e2 : (j : Int) < (zs.length : Int) := by omega
        have HU : Hid (upto k o zs j ++ ⟨#[UInt8.ofNat z.toNat]⟩ = upto k o zs (j + 1)) := hu
        clear hu ez hc hz
        go_wp2_with (at_builtin; refine F0.append_byte rfl (.tmp 23) (.tmp 30) rfl hbuf z (by omega) (by rfl) (by rfl) (by omega) hbel.size ?_; intro g1 cap1 w2 hbuf1 bel1)
        go_roundw
        case rel => exact ⟨j + 1, g1, cap1, by omega, by go_num, rfl, by rw [← HU.out]; exact hbuf1, hbel.trans bel1⟩
        case measure => simp [intOf]; omega
      · obtain rfl : j = zs.length := by omega
        rw [upto_all] at hbuf
        have st : St w w1 g (2 + zs.length) cap (R0.two k o ++ R0.pg zs) wr := ⟨hbuf, hbel⟩
        have hfin : Hid (∀ W, St w w1 g (2 + zs.length) cap (R0.two k o ++ R0.pg zs) W → Below w.heap.size w W) := fun W h => hl1.trans (h.bel.mono hl1.size)
        have hcp : 2 + zs.length ≤ cap := by
          rcases hbuf.2.2 with ⟨h0, _⟩ | ⟨g', cap', cur, hv, _, _, hle, _⟩
          · cases h0
          · simp at hv; omega
        clear hR1 hbuf hbel hbox1 hl1
        have z1 : (R0.two k o).size + (B3.pair s).size ≤ 9223372036854775807 := by rw [R0.two_size, hP2]; omega
        have z2 : (R0.two k o ++ B3.pair s).size + (R0.pg zs).size ≤ 9223372036854775807 := by rw [ByteArray.size_append, R0.two_size, hP2, R0.pg_size]; omega
        have h2s := R0.two_size k o
        have hps := R0.pg_size zs
        have z3 : 4 + zs.length + (B4.zeros (16 - (4 + (zs.length : Int)))).size ≤ 9223372036854775807 := by rw [B4.zeros, if_pos (by omega), B4.nulls_size]; omega
        have hSd : conA k o g cap wr.drew ∧ conB zs g cap wr.drew ∧ wr.drew.cell? ⟨w.heap.size, 2, none⟩ = some (.int .i64 s) ∧ St w w1 g (2 + zs.length) cap (R0.two k o ++ R0.pg zs) wr.drew := all_of st.drew r2
        by_cases hc2 : cap = 2
        · subst hc2
          obtain rfl : zs = [] := List.eq_nil_of_length_eq_zero (by omega)
          have hcn := conv_none
          have HE : Hid (R0.putI k o s [] = (R0.two k o ++ B3.pair s ++ ⟨#[]⟩) ++ B4.zeros 12) := HT.out
          have z5 : 4 + (B4.zeros 12).size ≤ 9223372036854775807 := z3
          clear HT z3
          go_wp2
          go_region_held3 (fun W => (convert 22 9 (.slice (some ⟨g, 0, none⟩) 2 2)).run Try.prog W = .ok (.string (R0.two k o)) W ∧ (convert 22 9 (.slice (some ⟨g, 2, none⟩) ([] : List Int).length (2 - 2))).run Try.prog W = .ok (.string (R0.pg [])) W ∧ W.cell? ⟨w.heap.size, 2, none⟩ = some (.int .i64 s) ∧ St w w1 g (2 + ([] : List Int).length) 2 (R0.two k o ++ R0.pg []) W) (assumption) ((go_at_call 73; refine (pair_all (by assumption)).mono ?_; rintro e w4 ⟨rfl, h4⟩))
          all_goals
            go_wp2_with (go_at_call 74; refine (B4.spec_Zeros _ _).mono ?_; rintro e w2 ⟨rfl, rfl⟩)
            go_ret
            exact ⟨ret_str HE.out.symm, hfin.out _ h4.2.2.2⟩
        · have i1 : (2 : Int) ≤ (cap : Int) := by omega
          have i2 : (2 : Int) ≤ 2 + (zs.length : Int) := by omega
          have i3 : 2 + (zs.length : Int) ≤ (cap : Int) := by omega
          have i5 : 2 + 2 + zs.length ≤ 9223372036854775807 := by omega
          have i6 : 4 + zs.length ≤ 9223372036854775807 := by omega
          have i7 : ¬ 9223372036854775807 < 4 + zs.length := by omega
          have i4 : (2 : Int) ≤ ((2 + zs.length : Nat) : Int) := by omega
          go_wp2
          go_region_held3 (fun W => (convert 22 9 (.slice (some ⟨g, 0, none⟩) 2 cap)).run Try.prog W = .ok (.string (R0.two k o)) W ∧ (convert 22 9 (.slice (some ⟨g, 2, none⟩) zs.length (cap - 2))).run Try.prog W = .ok (.string (R0.pg zs)) W ∧ W.cell? ⟨w.heap.size, 2, none⟩ = some (.int .i64 s) ∧ St w w1 g (2 + zs.length) cap (R0.two k o ++ R0.pg zs) W) (assumption) ((go_at_call 73; refine (pair_all (by assumption)).mono ?_; rintro e w4 ⟨rfl, h4⟩))
          all_goals
            go_wp2_with (go_at_call 74; refine (B4.spec_Zeros _ _).mono ?_; rintro e w2 ⟨rfl, rfl⟩)
            go_ret
            exact ⟨ret_str HT.out.symm, hfin.out _ h4.2.2.2⟩
  · have hok' : I0.ok k o s zs = false := by simpa using hok
    have HR : Hid (R0.putI k o s zs = ⟨#[]⟩) := by rw [R0.putI, if_neg hok]; rfl
    go_enter Try.func22, Try.ntmps22
    go_wp2_with (go_at_call 26; refine (inodeOk_at k o s a c zs _ hbig hcap hR0 hbox hl0).mono ?_; rintro e w1 ⟨rfl, hbox1, hR1, hl1⟩)
    go_ret
    exact ⟨ret_str HR.out.symm, hl1⟩
end Go.Proofs.Ytifddipnboifnaa.R2

/- Contracts of spec.RecAt and impl.RecAt, as the given laws call them. -/
namespace Go.Proofs.Ytifddipnboifnaa.L1
open Go.ChangeShapes Go.WideShapes Go.ChangeAt Go.RowKit
set_option linter.unusedVariables false

/-- The place of the record of an inode; -1 where there is none. -/
def recAt (i : Int) : Int := if B1.inB i 0 7 then 32 + i * 16 else -1

theorem spec_RecAt (i : Int) (w : World) :
    Calls Try.prog 30 #[.int .i64 i] w fun e w' => e = .returned (.int .i64 (recAt i)) ∧ w' = w := by
  by_cases h : B1.inB i 0 7 = true
  · have e : recAt i = 32 + i * 16 := by rw [recAt, if_pos h]
    obtain ⟨h1, h2⟩ := B1.inB_true h
    rw [e]
    go_enter Try.func30, Try.ntmps30
    go_wp2_with (go_at_call 77; refine (B1.l01In_any _ _ _ _).mono ?_; rintro e w' ⟨rfl, rfl⟩)
    go_ret
    exact ⟨rfl, rfl⟩
  · have h' : B1.inB i 0 7 = false := by simpa using h
    have e : recAt i = -1 := by rw [recAt, if_neg h]
    rw [e]
    go_enter Try.func30, Try.ntmps30
    go_wp2_with (go_at_call 77; refine (B1.l01In_any _ _ _ _).mono ?_; rintro e w' ⟨rfl, rfl⟩)
    go_ret
    exact ⟨rfl, rfl⟩

theorem impl_RecAt (i : Int) (w : World) :
    Calls Try.prog 29 #[.int .i64 i] w fun e w' => e = .returned (.int .i64 (recAt i)) ∧ w' = w := by
  by_cases h1 : i < 0
  · have e : recAt i = -1 := by rw [recAt, show B1.inB i 0 7 = false from decide_eq_false (by omega)]; rfl
    rw [e]
    go_enter Try.func29, Try.ntmps29
    go_wp2
    go_ret
    exact ⟨rfl, rfl⟩
  · by_cases h2 : 8 ≤ i
    · have e : recAt i = -1 := by rw [recAt, show B1.inB i 0 7 = false from decide_eq_false (by omega)]; rfl
      rw [e]
      go_enter Try.func29, Try.ntmps29
      go_wp2
      go_ret
      exact ⟨rfl, rfl⟩
    · have e : recAt i = 32 + i * 16 := by rw [recAt, show B1.inB i 0 7 = true from decide_eq_true (by omega)]; rfl
      rw [e]
      go_enter Try.func29, Try.ntmps29
      go_wp2
      go_ret
      exact ⟨rfl, rfl⟩
end Go.Proofs.Ytifddipnboifnaa.L1

/- Contracts of spec.l03Mem and of the draws that laws.FnDir asks for: what is drawn lies in its bounds. -/
namespace Go.Proofs.Ytifddipnboifnaa.C1
open Go.ChangeShapes Go.WideShapes Go.ChangeAt Go.RowKit C0
set_option linter.unusedVariables false
set_option linter.unusedSimpArgs false
set_option maxRecDepth 10000
variable {w0 w : World} {c : Nat} {a : Option Addr} {len cap : Nat}

theorem putD_size (es : List T0.Ent) : (T0.putD es).size ≤ 192 := by
  unfold T0.putD
  split
  · rename_i h
    simp only [T0.dirOk, Bool.and_eq_true, decide_eq_true_eq] at h
    rw [T0.joined_size h.2 _ (Nat.le_refl _)]
    omega
  · exact Nat.zero_le _

theorem short_fits {es : List T0.Ent} (h : Short es) : T0.Fits es := fun j hj => by
  rw [T0.ent_get _ _ hj]
  have := h _ (List.getElem_mem hj)
  omega

theorem mWith {W : World} (s : ByteArray) (i : Int) (t : ByteArray) (hs : s.size = 768) (ht : t.size ≤ 1000) (h : St w0 W c a len cap) (g : w.grownBy W (some c)) :
    Calls Try.prog 87 #[.string s, .int .i64 i, .string t] W fun e w' => (∃ u : ByteArray, u.size = 768 ∧ e = .returned (.string u)) ∧ St w0 w' c a len cap ∧ w.grownBy w' (some c) :=
  (B5.spec_With s i t W (by omega) (by omega)).mono fun e w' ⟨he, n, hw⟩ => ⟨⟨_, (laid_size s i t).trans hs, he⟩, by rw [hw]; exact h.drewN n, by rw [hw]; exact grown_drewN g n⟩

theorem mPut {W : World} (k o s : Int) (p : Option Addr) (cp : Nat) (zs : List Int) (hn : zs.length ≤ 100) (hcp : zs.length ≤ cp) (hR : P0.Row W p zs) (h : St w0 W c a len cap) (g : w.grownBy W (some c)) :
    Calls Try.prog 22 #[I0.val k o s p zs.length cp] W fun e w' => (∃ u : ByteArray, u.size ≤ 1000 ∧ e = .returned (.string u)) ∧ St w0 w' c a len cap ∧ w.grownBy w' (some c) :=
  (R2.spec_PutInode k o s p cp zs W (by omega) hcp hR).mono fun e w' ⟨he, hb⟩ => ⟨⟨_, Nat.le_trans (R0.putI_size _ _ _ _) (by omega), he⟩, h.below hb, grown_below g hb⟩

theorem mRec {W : World} (i : Int) (h : St w0 W c a len cap) (g : w.grownBy W (some c)) :
    Calls Try.prog 30 #[.int .i64 i] W fun e w' => (∃ x : Int, e = .returned (.int .i64 x)) ∧ St w0 w' c a len cap ∧ w.grownBy w' (some c) :=
  (L1.spec_RecAt i W).mono fun e w' ⟨he, hb⟩ => ⟨⟨_, he⟩, by rw [hb]; exact h, by rw [hb]; exact g⟩

theorem row_new (W : World) (zs : List Int) (C : Array Value) (hC : C = (zs.map fun z => Value.int .i64 z).toArray) : P0.Row (W.alloc (.cells C 3)) (some ⟨W.heap.size, 0, none⟩) zs := by
  subst hC
  refine Or.inr ⟨W.heap.size, 0, rfl, by simp, fun j hj => ?_⟩
  rw [World.cell?_alloc_mark]
  simp [hj]

set_option maxHeartbeats 4000000 in
theorem l03Mem (hcode : Given w0 a len) (h : St w0 w c a len cap) (hlen : len ≤ 1048576) :
    Calls Try.prog 82 #[.pointer (some ⟨c, 0, none⟩)] w fun e w' => (∃ u : ByteArray, u.size ≤ 768 ∧ e = .returned (.string u)) ∧ St w0 w' c a len cap ∧ w.grownBy w' (some c) := by
  have hg0 : w.grownBy w (some c) := grown_refl _ _
  obtain ⟨z, hz⟩ : ∃ z, B4.zeros 768 = z := ⟨_, rfl⟩
  have hzs : z.size = 768 := by rw [← hz, B4.zeros, if_pos (by omega), B4.nulls_size]; rfl
  have HZ : Hid (∀ W, Calls Try.prog 74 #[.int .i64 768] W fun e w' => e = .returned (.string z) ∧ W = w') := fun W => (B4.spec_Zeros 768 W).mono fun _ _ ⟨he, hb⟩ => ⟨by rw [he, hz], hb.symm⟩
  have hlit : (⟨#[84, 78, 82, 49]⟩ : ByteArray).size ≤ 1000 := show 4 ≤ 1000 by omega
  have HP : Hid (Calls Try.prog 39 #[.slice (some ⟨w.heap.size, 0, none⟩) 2 2] (w.alloc (.cells #[.int .i64 1, .string ⟨#[97]⟩, .int .i64 2, .string ⟨#[98]⟩] 33)) fun e w' => (∃ u : ByteArray, u.size ≤ 1000 ∧ e = .returned (.string u)) ∧ St w0 w' c a len cap ∧ w.grownBy w' (some c)) :=
    (T3.spec_PutDir (some ⟨w.heap.size, 0, none⟩) 2 [(1, ⟨#[97]⟩), (2, ⟨#[98]⟩)] _ (by simp) (by simp) (fun j hj => by match j, hj with | 0, _ => exact (show 1 ≤ 281474976710656 by omega) | 1, _ => exact (show 1 ≤ 281474976710656 by omega)) (Or.inr ⟨w.heap.size, 0, rfl, by simp, fun j hj => by
      match j, hj with
      | 0, _ => exact ⟨by rw [World.cell?_alloc_mark]; rfl, by rw [World.cell?_alloc_mark]; rfl⟩
      | 1, _ => exact ⟨by rw [World.cell?_alloc_mark]; rfl, by rw [World.cell?_alloc_mark]; rfl⟩⟩)).mono fun e w' ⟨he, hb⟩ => ⟨⟨_, Nat.le_trans (putD_size _) (by omega), he⟩, (h.below (K0.below_new w _)).below hb, grown_below (grown_of_below (K0.below_new w _)) hb⟩
  clear hz
  go_enter Try.func82, Try.ntmps82
  go_wp2_with (first
    | (go_at_call 74; refine (HZ.out _).mono ?_; rintro e v1 ⟨rfl, rfl⟩)
    | (go_at_call 39; refine HP.out.mono ?_; rintro e vd ⟨⟨ud, hud, rfl⟩, sd, gd⟩)
    | (go_at_call 30; refine (mRec (w0 := w0) (w := w) _ (by assumption) (by assumption)).mono ?_; rintro e vr ⟨⟨xr, rfl⟩, sr, gr⟩)
    | (go_at_call 22; have i3 := i2; refine (mPut (w0 := w0) (w := w) _ _ _ none 0 [] (by simp) (by simp) (Or.inl rfl) sr gr).mono ?_; rintro e vp ⟨⟨up, hup, rfl⟩, sp, gp⟩)
    | (go_at_call 22; have i2 := i1; refine (mPut (w0 := w0) (w := w) _ _ _ _ _ [7, 6] (by simp) (by simp) (row_new vr [7, 6] _ rfl) (sr.below (K0.below_new _ _)) (grown_below gr (K0.below_new _ _))).mono ?_; rintro e vp ⟨⟨up, hup, rfl⟩, sp, gp⟩)
    | (go_at_call 22; have i1 : True := trivial; refine (mPut (w0 := w0) (w := w) _ _ _ _ _ [5] (by simp) (by simp) (row_new vr [5] _ rfl) (sr.below (K0.below_new _ _)) (grown_below gr (K0.below_new _ _))).mono ?_; rintro e vp ⟨⟨up, hup, rfl⟩, sp, gp⟩)
    | (go_at_call 87; refine (mWith (w0 := w0) (w := w) _ _ _ (by assumption) (by assumption) (by assumption) (by assumption)).mono ?_; rintro e vm ⟨⟨um, hum, rfl⟩, sm, gm⟩; have hum1 : (1 : Int) ≤ (um.size : Int) := (by omega))
    | (go_at_call 100; have bl' := bl; refine (bytes_int hcode sbl hlen 1 (by omega) (by omega)).mono ?_; rintro e vb ⟨⟨ub, hub, rfl⟩, sb, gb0⟩; have gb := grown_trans gbl gb0; have hub2 : ub.size ≤ 1000 := (by omega))
    | (go_at_call 100; refine (bytes_int hcode sm hlen 64 (by omega) (by omega)).mono ?_; rintro e vb ⟨⟨ub, hub, rfl⟩, sb, gb0⟩; have gb := grown_trans gm gb0; have hub2 : ub.size ≤ 1000 := (by omega))
    | (go_at_call 109; have o2 := o1; refine (once_any hcode (by assumption) hlen 20 (by omega) (by omega)).mono ?_; rintro e vo ⟨⟨bo2, rfl⟩, so2, go20⟩; have go2 : w.grownBy vo (some c) := (by first | exact grown_trans gm go20 | exact grown_trans go1 go20))
    | (go_at_call 109; have o1 : True := trivial; refine (once_any hcode sm hlen 4 (by omega) (by omega)).mono ?_; rintro e vo ⟨⟨bo, rfl⟩, so, go0⟩; have go1 := grown_trans gm go0)
    | (go_at_call 72; have bl : True := trivial; refine (below_any hcode so hlen 200 (by omega) (by omega)).mono ?_; rintro e vl ⟨⟨xl, xl0, xl1, rfl⟩, sbl, gl0⟩; have gbl := grown_trans go1 gl0))
  all_goals go_ret
  all_goals first
    | exact ⟨⟨_, by rw [ByteArray.size_extract]; omega, rfl⟩, so2, go2⟩
    | exact ⟨⟨_, by omega, rfl⟩, so2, go2⟩
end Go.Proofs.Ytifddipnboifnaa.C1

/- The contract of impl.GetDir, as the given laws call it. -/
namespace Go.Proofs.Ytifddipnboifnaa.V2
open Go.ChangeShapes Go.WideShapes Go.ChangeAt Go.RowKit
set_option linter.unusedVariables false
set_option linter.unusedSimpArgs false
set_option maxRecDepth 10000

open V1 (Ans ans_no ans_yes EBuf OwnE)

theorem get_lit {s : ByteArray} {W : World} {r : Bool} (hs : s.size ≤ 281474976710656) (hr : E4.isE s = r) :
    Calls Try.prog 19 #[.string s] W fun e w' => e = .returned (.tuple #[.agg #[.int .i64 (E4.eIno s), .string (E4.eName s)], .bool r]) ∧ Below W.heap.size W w' :=
  (E4.impl_GetEntry s W hs).mono fun _ _ ⟨he, hb⟩ => ⟨by rw [he, E4.getE, hr], hb⟩

set_option maxHeartbeats 2000000 in
theorem impl_GetDir (s : ByteArray) (w : World) (hs : s.size ≤ 281474976710656) : Calls Try.prog 34 #[.string s] w (Ans s w) := by
  have HN : Hid (∀ a c w', V0.isD s = false → Below w.heap.size w w' → Ans s w (.returned (.tuple #[.slice a 0 c, .bool false])) w') := fun a c w' h hb => ans_no h hb
  have HF : Hid (∀ k, V0.isD s = true → k < s.size / 16 → E4.isE (V0.chunk s k) = true) := fun k h hk => (V0.of_isD h).2.2.2.1 k hk
  have HD : Hid (V0.isD s = true → T0.dirOk (V0.ents s (s.size / 16)) = true) := fun h => (V0.of_isD h).2.2.2.2
  have HY : Hid (∀ a c w', s.size ≤ 192 → s.size % 16 = 0 → (∀ j, j < s.size / 16 → E4.isE (V0.chunk s j) = true) → T0.dirOk (V0.ents s (s.size / 16)) = true → OwnE w.heap.size w' a (V0.ents s (s.size / 16)) → s.size / 16 ≤ c → Below w.heap.size w w' → Ans s w (.returned (.tuple #[.slice a (s.size / 16) c, .bool true])) w') := fun a c w' h1 h2 h3 h4 ho hc hb => by
    obtain ⟨hi, hk⟩ := V0.isD_of h1 h2 h3 h4
    rw [← hk] at ho hc ⊢
    exact ans_yes hi ho hc hb
  obtain ⟨R, hR⟩ : ∃ R, Ans s w = R := ⟨_, rfl⟩
  by_cases h1 : 192 < (s.size : Int)
  · have hi : V0.isD s = false := by
      cases h : V0.isD s with
      | false => rfl
      | true => have := (V0.of_isD h).1; omega
    rw [hR] at HN ⊢
    go_enter Try.func34, Try.ntmps34
    go_wp2
    exact HN.out _ _ _ hi (K0.below_new _ _)
  · by_cases h2 : s.size % 16 = 0
    · have h2' : ((s.size : Int) % 16 != 0) = false := by simp; omega
      have b0 := V1.ebuf_made w (Nat.le_refl _)
      have l0 := K0.below_new w (.cells #[] 33)
      rw [hR] at HN HY ⊢
      clear hR
      go_enter Try.func34, Try.ntmps34
      go_wp2
      go_loopw [4, 5] (fun v i w' => ∃ (k c : Nat) (a : Option Addr), k ≤ s.size / 16 ∧ (∀ j, j < k → E4.isE (V0.chunk s j) = true) ∧ i = .int .i64 ((k : Int) * 16) ∧ v = .slice a k c ∧ EBuf w.heap.size w' a k c (V0.ents s k) ∧ Below w.heap.size w w') (fun _ i _ => s.size - (intOf i).toNat)
      case atStart => exact ⟨0, 0, _, Nat.zero_le _, fun j hj => absurd hj (Nat.not_lt_zero _), rfl, rfl, b0, l0⟩
      case round =>
        obtain ⟨k, c, a, hk, hE, rfl, rfl, hbuf, hbel⟩ := hrel
        clear b0 l0
        by_cases hlt : k < s.size / 16
        · have e1 : (k : Int) * 16 < (s.size : Int) := by omega
          have hcs : (V0.chunk s k).size ≤ 281474976710656 := by have := B2.part_size s ((k : Int) * 16) 16; unfold V0.chunk; omega
          have hpt : Hid (∀ W, Calls Try.prog 70 #[.string s, .int .i64 ((k : Int) * 16), .int .i64 16] W fun e w' => e = .returned (.string (V0.chunk s k)) ∧ Below W.heap.size W w') := fun W => B2.impl_Part _ _ _ _ hs
          have HS : Hid (V0.ents s k ++ [(E4.eIno (V0.chunk s k), E4.eName (V0.chunk s k))] = V0.ents s (k + 1)) := V0.ents_succ s k
          by_cases hi : E4.isE (V0.chunk s k) = true
          · have HE : Hid (∀ j, j < k + 1 → E4.isE (V0.chunk s j) = true) := fun j hj => by
              by_cases e : j = k
              · rw [e]; exact hi
              · exact hE j (by omega)
            clear hE
            go_wp2_with (first
              | (go_at_call 70; refine (hpt.out _).mono ?_; rintro e w1 ⟨rfl, b1⟩; have f1 := hbel.trans (b1.mono hbel.size))
              | (go_at_call 19; refine (get_lit hcs hi).mono ?_; rintro e w2 ⟨rfl, b2⟩; have f2 := f1.trans (b2.mono f1.size); have u2 := ((hbuf.below b1).below b2).alloc (.cells #[.int .i64 (E4.eIno (V0.chunk s k)), .string (E4.eName (V0.chunk s k))] 33); have f3 := f2.alloc f2.size (.cells #[.int .i64 (E4.eIno (V0.chunk s k)), .string (E4.eName (V0.chunk s k))] 33))
              | (at_builtin; refine V1.append_ent rfl (.tmp 35) (.tmp 37) rfl u2 _ _ (by rfl) (H := w2.heap.size + 1) (by simp) (by rfl) (by omega) f3.size ?_; intro g1 cap1 w4 hbuf4 bel4))
            go_roundw
            case rel => exact ⟨k + 1, cap1, _, by omega, HE.out, by go_num, rfl, by rw [← HS.out]; exact hbuf4, f3.trans bel4⟩
            case measure => simp [intOf]; omega
          · have hi' : E4.isE (V0.chunk s k) = false := by simpa using hi
            have hn : V0.isD s = false := by
              cases h : V0.isD s with
              | false => rfl
              | true => exact absurd (HF.out k h hlt) hi
            clear hE
            go_wp2_with (first
              | (go_at_call 70; refine (hpt.out _).mono ?_; rintro e w1 ⟨rfl, b1⟩; have f1 := hbel.trans (b1.mono hbel.size))
              | (go_at_call 19; refine (get_lit hcs hi').mono ?_; rintro e w2 ⟨rfl, b2⟩; have f2 := f1.trans (b2.mono f1.size); have f3 := f2.alloc f2.size (.cells #[.int .i64 (E4.eIno (V0.chunk s k)), .string (E4.eName (V0.chunk s k))] 33); have f4 := f3.alloc f3.size (.cells #[] 33)))
            exact HN.out _ _ _ hn f4
        · obtain rfl : k = s.size / 16 := by omega
          have e1 : ¬ ((s.size / 16 : Nat) : Int) * 16 < (s.size : Int) := by omega
          have hfit := hbuf.fits
          have hdl : Hid (∀ r, T0.dirOk (V0.ents s (s.size / 16)) = r → Calls Try.prog 81 #[.slice a (s.size / 16) c] wr fun e w' => e = .returned (.bool r) ∧ Below wr.heap.size wr w') := fun r hr => by
            have := T2.dir_lit (a := a) (c := c) (W := wr) (es := V0.ents s (s.size / 16)) (by rw [V0.ents_length]; omega) (by rw [V0.ents_length]; exact hfit) (V1.fits_ents s _ hs) hbuf.own.row hr
            rw [V0.ents_length] at this
            exact this
          by_cases hd : T0.dirOk (V0.ents s (s.size / 16)) = true
          · go_wp2_with (go_at_call 81; refine (hdl.out true hd).mono ?_; rintro e w1 ⟨rfl, b1⟩)
            exact HY.out _ _ _ (by omega) h2 hE hd (hbuf.own.below b1) hfit (hbel.trans (b1.mono hbel.size))
          · have hd' : T0.dirOk (V0.ents s (s.size / 16)) = false := by simpa using hd
            have hn : V0.isD s = false := by
              cases h : V0.isD s with
              | false => rfl
              | true => exact absurd (HD.out h) hd
            go_wp2_with (go_at_call 81; refine (hdl.out false hd').mono ?_; rintro e w1 ⟨rfl, b1⟩; have f1 := hbel.trans (b1.mono hbel.size); have f2 := f1.alloc f1.size (.cells #[] 33))
            exact HN.out _ _ _ hn f2
    · have h2' : ((s.size : Int) % 16 != 0) = true := by simp; omega
      have hi : V0.isD s = false := by
        cases h : V0.isD s with
        | false => rfl
        | true => exact absurd (V0.of_isD h).2.1 h2
      rw [hR] at HN ⊢
      go_enter Try.func34, Try.ntmps34
      go_wp2
      exact HN.out _ _ _ hi (K0.below_new _ _)
end Go.Proofs.Ytifddipnboifnaa.V2
