/- Joined texts: plain facts and contracts, as each part says. -/
import Derived.Test.YtddlpejklpljoaaJfF
import Derived.Test.YtddlpejklpljoaaJfE
import Derived.Test.YtddlpejklpljoaaJfC
import Derived.Deep.RegionWith

/- Contracts of small functions over lists of numbers: impl.ascends, slices.Equal, spec.l05Same, spec.l05Up, spec.l02Has and slices.Contains, as the given laws call them. -/
namespace Go.Proofs.Ytddlpejklpljoaa.N2
open Go.ChangeShapes Go.WideShapes Go.ChangeAt Go.RowKit
set_option linter.unusedVariables false
set_option linter.unusedSimpArgs false
set_option maxRecDepth 10000

open P1 (ret_bool quiet_bool)

theorem hasRow (a : Option Addr) (c : Nat) (zs : List Int) (x : Int) (w : World) (hbig : zs.length ≤ 281474976710656) (hR : P0.Row w a zs) :
    Calls Try.prog 49 #[.slice a zs.length c, .int .i64 x] w fun e w' => e = .returned (.bool (P0.has zs x)) ∧ w' = w := by
  by_cases h0 : zs = []
  · subst h0
    go_enter Try.func49, Try.ntmps49
    go_wp2
    go_loop [5] (fun i => i = .int .i64 0) (fun _ => 0)
    case atStart => rfl
    case round =>
      subst hrel
      go_wp2
      go_ret
      exact ⟨rfl, rfl⟩
  · rcases hR with h | ⟨b, off, rfl, hb, hc⟩
    · exact absurd h h0
    · have := P1.l02Has b off zs.length c zs x w (Nat.le_refl _) hbig hc
      rw [List.take_length] at this
      exact this

theorem containsRow (a : Option Addr) (c : Nat) (zs : List Int) (x : Int) (w : World) (hbig : zs.length ≤ 281474976710656) (hR : P0.Row w a zs) :
    Calls Try.prog 138 #[.slice a zs.length c, .int .i64 x] w fun e w' => e = .returned (.bool (P0.has zs x)) ∧ w' = w := by
  by_cases h0 : zs = []
  · subst h0
    exact Try.slices_Contains_int_empty a c x w
  · rcases hR with h | ⟨b, off, rfl, hb, hc⟩
    · exact absurd h h0
    · have := P1.impl_Contains b off zs.length c zs x w (Nat.le_refl _) hbig hc
      rw [List.take_length] at this
      exact this

theorem ascends (a : Option Addr) (c : Nat) (zs : List Int) (w : World) (hbig : zs.length ≤ 281474976710656) (hR : P0.Row w a zs) :
    Calls Try.prog 131 #[.slice a zs.length c] w fun e w' => e = .returned (.bool (N0.asc zs)) ∧ ∃ n, w' = w.drewN n := by
  go_enter Try.func131, Try.ntmps131
  go_wp2
  go_loopw [3] (fun i w' => ∃ k n : Nat, 1 ≤ k ∧ (k ≤ zs.length ∨ k = 1) ∧ N0.to (N0.ascAt zs) k = true ∧ i = .int .i64 k ∧ w' = w.drewN n) (fun i _ => zs.length - (intOf i).toNat)
  case atStart => exact ⟨1, 0, Nat.le_refl _, Or.inr rfl, rfl, rfl, rfl⟩
  case round =>
    obtain ⟨k, n, hk1, hk, hok, rfl, hW⟩ := hrel
    have HW : Hid (∀ m, ∃ m', wr.drewN m = w.drewN m') := fun m => ⟨n + m, by rw [hW, World.drewN_drewN]⟩
    by_cases hlt : k < zs.length
    · have hR' : P0.Row wr a zs := by rw [hW]; exact hR.drewN n
      obtain ⟨b, off, rfl, hb, hc⟩ := hR'.get hlt
      have x1 := hc k hlt
      have x2 := hc (k - 1) (by omega)
      have hat : N0.ascAt zs k = (decide (k = 0) || decide (zs.getD (k - 1) 0 < zs.getD k 0)) := rfl
      obtain ⟨z, ez⟩ : ∃ z, zs.getD k 0 = z := ⟨_, rfl⟩
      obtain ⟨y, ey⟩ : ∃ y, zs.getD (k - 1) 0 = y := ⟨_, rfl⟩
      rw [ez] at x1 hat
      rw [ey] at x2 hat
      have e1 : (0 : Int) ≤ (k : Int) := by omega
      have e2 : (k : Int) < (zs.length : Int) := by omega
      have e3 : (0 : Int) ≤ (k : Int) - 1 := by omega
      have e4 : (k : Int) - 1 < (zs.length : Int) := by omega
      have e5 : ((k : Int) - 1).toNat = k - 1 := by omega
      by_cases h : z ≤ y
      · have HR : Hid (N0.asc zs = false) := N0.to_bad hlt (by rw [hat, decide_eq_false (by omega), decide_eq_false (by omega)]; rfl)
        clear hat hok ez ey hc hR hR' hW
        go_wp2
        go_quiet (fail)
        go_wp2
        go_ret
        exact ⟨ret_bool HR.out.symm, HW.out _⟩
      · have h' : decide (z ≤ y) = false := by simpa using h
        have HO : Hid (N0.to (N0.ascAt zs) (k + 1) = true) := N0.to_step hok (by rw [hat, decide_eq_true (show y < z by omega), Bool.or_true])
        clear hat hok ez ey hc hR hR' hW
        go_wp2
        go_quiet (fail)
        go_wp2
        obtain ⟨m', hm'⟩ := HW.out nq
        go_roundw
        case rel => exact ⟨k + 1, m', by omega, Or.inl (by omega), HO.out, by go_num, hm'⟩
        case measure => simp [intOf]; omega
    · have HR : Hid (N0.asc zs = true) := by
        show N0.to (N0.ascAt zs) zs.length = true
        exact N0.to_iff.2 fun i hi => N0.to_iff.1 hok i (by omega)
      have HW0 : Hid (wr = w.drewN n) := hW
      have e6 : decide ((k : Int) < (zs.length : Int)) = false := by simp; omega
      clear hok hR hW
      go_wp2
      go_ret
      exact ⟨ret_bool HR.out.symm, n, HW0.out⟩

/-- Two lists, held against each other as far as they go. -/
def eqAt (xs ys : List Int) (i : Nat) : Bool := decide (xs.getD i 0 = ys.getD i 0)

theorem eq_of {xs ys : List Int} (hl : xs.length = ys.length) (h : N0.to (eqAt xs ys) xs.length = true) : xs = ys := by
  apply List.ext_getElem hl
  intro i h1 h2
  have := N0.to_iff.1 h i h1
  simp only [eqAt, decide_eq_true_eq] at this
  rwa [P0.getD_get _ _ h1, P0.getD_get _ _ h2] at this

theorem ne_of {xs ys : List Int} {k : Nat} (hk : ¬ xs.getD k 0 = ys.getD k 0) : ¬ xs = ys := fun e => hk (by rw [e])

theorem equal (a1 a2 : Option Addr) (c1 c2 : Nat) (xs ys : List Int) (w : World) (hb1 : xs.length ≤ 281474976710656) (hb2 : ys.length ≤ 281474976710656) (h1 : P0.Row w a1 xs) (h2 : P0.Row w a2 ys) :
    Calls Try.prog 129 #[.slice a1 xs.length c1, .slice a2 ys.length c2] w fun e w' => e = .returned (.bool (decide (xs = ys))) ∧ ∃ n, w' = w.drewN n := by
  by_cases hl : xs.length = ys.length
  · have hl' : ((xs.length : Int) != (ys.length : Int)) = false := by simp; omega
    go_enter Try.func129, Try.ntmps129
    go_wp2
    go_loopw [13] (fun i w' => ∃ k n : Nat, k ≤ xs.length ∧ N0.to (eqAt xs ys) k = true ∧ i = .int .i64 k ∧ w' = w.drewN n) (fun i _ => xs.length - (intOf i).toNat)
    case atStart => exact ⟨0, 0, Nat.zero_le _, rfl, rfl, rfl⟩
    case round =>
      obtain ⟨k, n, hk, hok, rfl, hW⟩ := hrel
      have HW : Hid (∀ m, ∃ m', wr.drewN m = w.drewN m') := fun m => ⟨n + m, by rw [hW, World.drewN_drewN]⟩
      by_cases hlt : k < xs.length
      · have h1' : P0.Row wr a1 xs := by rw [hW]; exact h1.drewN n
        have h2' : P0.Row wr a2 ys := by rw [hW]; exact h2.drewN n
        obtain ⟨b1, off1, rfl, _, hc1⟩ := h1'.get hlt
        obtain ⟨b2, off2, rfl, _, hc2⟩ := h2'.get (by omega : k < ys.length)
        have x1 := hc1 k hlt
        have x2 := hc2 k (by omega)
        have hat : eqAt xs ys k = decide (xs.getD k 0 = ys.getD k 0) := rfl
        have hne : ¬ xs.getD k 0 = ys.getD k 0 → ¬ xs = ys := ne_of
        obtain ⟨z, ez⟩ : ∃ z, xs.getD k 0 = z := ⟨_, rfl⟩
        obtain ⟨y, ey⟩ : ∃ y, ys.getD k 0 = y := ⟨_, rfl⟩
        rw [ez] at x1 hat hne
        rw [ey] at x2 hat hne
        have e1 : (0 : Int) ≤ (k : Int) := by omega
        have e2 : (k : Int) < (xs.length : Int) := by omega
        have e3 : (k : Int) < (ys.length : Int) := by omega
        by_cases h : z = y
        · have h' : (z != y) = false := by simpa using h
          have HO : Hid (N0.to (eqAt xs ys) (k + 1) = true) := N0.to_step hok (by rw [hat, decide_eq_true h])
          clear hat hok ez ey hc1 hc2 h1 h2 h1' h2' hW h hne hl
          go_wp2
          go_quiet (fail)
          go_wp2
          obtain ⟨m', hm'⟩ := HW.out nq
          go_roundw
          case rel => exact ⟨k + 1, m', by omega, HO.out, by go_num, hm'⟩
          case measure => simp [intOf]; omega
        · have h' : (z != y) = true := by simpa using h
          have HR : Hid (decide (xs = ys) = false) := decide_eq_false (hne h)
          clear hat hok ez ey hc1 hc2 h1 h2 h1' h2' hW h hne hl
          go_wp2
          go_quiet (fail)
          go_wp2
          go_ret
          exact ⟨ret_bool HR.out.symm, HW.out _⟩
      · obtain rfl : k = xs.length := by omega
        have HR : Hid (decide (xs = ys) = true) := decide_eq_true (eq_of hl hok)
        have HW0 : Hid (wr = w.drewN n) := hW
        have e9 : decide (xs.length < ys.length) = false := decide_eq_false (by omega)
        clear hok h1 h2 hW hl
        go_wp2
        go_ret
        exact ⟨ret_bool HR.out.symm, n, HW0.out⟩
  · have hl' : ((xs.length : Int) != (ys.length : Int)) = true := by simp; omega
    have HR : Hid (decide (xs = ys) = false) := decide_eq_false fun e => hl (by rw [e])
    clear hl
    go_enter Try.func129, Try.ntmps129
    go_wp2
    go_ret
    exact ⟨ret_bool HR.out.symm, 0, rfl⟩

theorem same (a1 a2 : Option Addr) (c1 c2 : Nat) (xs ys : List Int) (w : World) (hb1 : xs.length ≤ 281474976710656) (hb2 : ys.length ≤ 281474976710656) (h1 : P0.Row w a1 xs) (h2 : P0.Row w a2 ys) :
    Calls Try.prog 84 #[.slice a1 xs.length c1, .slice a2 ys.length c2] w fun e w' => e = .returned (.bool (decide (xs = ys))) ∧ ∃ n, w' = w.drewN n := by
  by_cases hl : xs.length = ys.length
  · have hl' : ((xs.length : Int) != (ys.length : Int)) = false := by simp; omega
    go_enter Try.func84, Try.ntmps84
    go_wp2
    go_loopw [5] (fun i w' => ∃ k n : Nat, k ≤ xs.length ∧ N0.to (eqAt xs ys) k = true ∧ i = .int .i64 k ∧ w' = w.drewN n) (fun i _ => xs.length - (intOf i).toNat)
    case atStart => exact ⟨0, 0, Nat.zero_le _, rfl, rfl, rfl⟩
    case round =>
      obtain ⟨k, n, hk, hok, rfl, hW⟩ := hrel
      have HW : Hid (∀ m, ∃ m', wr.drewN m = w.drewN m') := fun m => ⟨n + m, by rw [hW, World.drewN_drewN]⟩
      by_cases hlt : k < xs.length
      · have h1' : P0.Row wr a1 xs := by rw [hW]; exact h1.drewN n
        have h2' : P0.Row wr a2 ys := by rw [hW]; exact h2.drewN n
        obtain ⟨b1, off1, rfl, _, hc1⟩ := h1'.get hlt
        obtain ⟨b2, off2, rfl, _, hc2⟩ := h2'.get (by omega : k < ys.length)
        have x1 := hc1 k hlt
        have x2 := hc2 k (by omega)
        have hat : eqAt xs ys k = decide (xs.getD k 0 = ys.getD k 0) := rfl
        have hne : ¬ xs.getD k 0 = ys.getD k 0 → ¬ xs = ys := ne_of
        obtain ⟨z, ez⟩ : ∃ z, xs.getD k 0 = z := ⟨_, rfl⟩
        obtain ⟨y, ey⟩ : ∃ y, ys.getD k 0 = y := ⟨_, rfl⟩
        rw [ez] at x1 hat hne
        rw [ey] at x2 hat hne
        have e1 : (0 : Int) ≤ (k : Int) := by omega
        have e2 : (k : Int) < (xs.length : Int) := by omega
        have e3 : (k : Int) < (ys.length : Int) := by omega
        by_cases h : z = y
        · have h' : (z != y) = false := by simpa using h
          have HO : Hid (N0.to (eqAt xs ys) (k + 1) = true) := N0.to_step hok (by rw [hat, decide_eq_true h])
          clear hat hok ez ey hc1 hc2 h1 h2 h1' h2' hW h hne hl
          go_wp2
          go_quiet (fail)
          go_wp2
          obtain ⟨m', hm'⟩ := HW.out nq
          go_roundw
          case rel => exact ⟨k + 1, m', by omega, HO.out, by go_num, hm'⟩
          case measure => simp [intOf]; omega
        · have h' : (z != y) = true := by simpa using h
          have HR : Hid (decide (xs = ys) = false) := decide_eq_false (hne h)
          clear hat hok ez ey hc1 hc2 h1 h2 h1' h2' hW h hne hl
          go_wp2
          go_quiet (fail)
          go_wp2
          go_ret
          exact ⟨ret_bool HR.out.symm, HW.out _⟩
      · obtain rfl : k = xs.length := by omega
        have HR : Hid (decide (xs = ys) = true) := decide_eq_true (eq_of hl hok)
        have HW0 : Hid (wr = w.drewN n) := hW
        have e9 : decide (xs.length < ys.length) = false := decide_eq_false (by omega)
        clear hok h1 h2 hW hl
        go_wp2
        go_ret
        exact ⟨ret_bool HR.out.symm, n, HW0.out⟩
  · have hl' : ((xs.length : Int) != (ys.length : Int)) = true := by simp; omega
    have HR : Hid (decide (xs = ys) = false) := decide_eq_false fun e => hl (by rw [e])
    clear hl
    go_enter Try.func84, Try.ntmps84
    go_wp2
    go_ret
    exact ⟨ret_bool HR.out.symm, 0, rfl⟩

set_option maxHeartbeats 2000000 in
theorem l05Up (a : Option Addr) (c : Nat) (zs : List Int) (x y : Int) (w : World) (hbig : zs.length ≤ 281474976710656) (hR : P0.Row w a zs) :
    Calls Try.prog 85 #[.slice a zs.length c, .int .i64 x, .int .i64 y] w fun e w' => e = .returned (.bool (N0.up zs x y)) ∧ ∃ n, w' = w.drewN n := by
  go_enter Try.func85, Try.ntmps85
  go_wp2
  go_loopw [7] (fun i w' => ∃ k n : Nat, k ≤ zs.length ∧ N0.to (N0.upAt zs x y) k = true ∧ i = .int .i64 k ∧ w' = w.drewN n) (fun i _ => zs.length - (intOf i).toNat)
  case atStart => exact ⟨0, 0, Nat.zero_le _, rfl, rfl, rfl⟩
  case round =>
    obtain ⟨k, n, hk, hok, rfl, hW⟩ := hrel
    have HW : Hid (∀ m, ∃ m', wr.drewN m = w.drewN m') := fun m => ⟨n + m, by rw [hW, World.drewN_drewN]⟩
    by_cases hlt : k < zs.length
    · have hR' : P0.Row wr a zs := by rw [hW]; exact hR.drewN n
      obtain ⟨b, off, rfl, hb, hc⟩ := hR'.get hlt
      have x1 := hc k hlt
      have hat : N0.upAt zs x y k = (B1.inB (zs.getD k 0) x y && (decide (k = 0) || decide (zs.getD (k - 1) 0 < zs.getD k 0))) := rfl
      have e1 : (0 : Int) ≤ (k : Int) := by omega
      have e2 : (k : Int) < (zs.length : Int) := by omega
      by_cases g0 : k = 0
      · subst g0
        obtain ⟨z, ez⟩ : ∃ z, zs.getD 0 0 = z := ⟨_, rfl⟩
        rw [ez] at x1 hat
        rw [Nat.add_zero] at x1
        rw [decide_eq_true rfl, Bool.true_or, Bool.and_true] at hat
        cases h1 : B1.inB z x y with
        | true =>
          have HO : Hid (N0.to (N0.upAt zs x y) (0 + 1) = true) := N0.to_step hok (by rw [hat, h1])
          clear hat hok ez hc hR hR' hW
          go_wp2
          go_quiet ((go_at_call 43; exact quiet_bool (B1.l01In_any _ _ _ _) h1))
          go_wp2
          obtain ⟨m', hm'⟩ := HW.out nq
          go_roundw
          case rel => exact ⟨0 + 1, m', by omega, HO.out, by go_num, hm'⟩
          case measure => simp [intOf]; omega
        | false =>
          have HR : Hid (N0.up zs x y = false) := N0.to_bad hlt (by rw [hat, h1])
          clear hat hok ez hc hR hR' hW
          go_wp2
          go_quiet ((go_at_call 43; exact quiet_bool (B1.l01In_any _ _ _ _) h1))
          go_wp2
          go_ret
          exact ⟨ret_bool HR.out.symm, HW.out _⟩
      · have x2 := hc (k - 1) (by omega)
        obtain ⟨z, ez⟩ : ∃ z, zs.getD k 0 = z := ⟨_, rfl⟩
        obtain ⟨u, eu⟩ : ∃ u, zs.getD (k - 1) 0 = u := ⟨_, rfl⟩
        rw [ez] at x1 hat
        rw [eu] at x2 hat
        rw [decide_eq_false g0, Bool.false_or] at hat
        have e3 : (0 : Int) ≤ (k : Int) - 1 := by omega
        have e4 : (k : Int) - 1 < (zs.length : Int) := by omega
        have e5 : ((k : Int) - 1).toNat = k - 1 := by omega
        have e6 : 0 < k := by omega
        cases h1 : B1.inB z x y with
        | true =>
          by_cases h : z ≤ u
          · have HR : Hid (N0.up zs x y = false) := N0.to_bad hlt (by rw [hat, h1, decide_eq_false (by omega)]; rfl)
            clear hat hok ez eu hc hR hR' hW
            go_wp2
            go_quiet ((go_at_call 43; exact quiet_bool (B1.l01In_any _ _ _ _) h1))
            go_wp2
            go_ret
            exact ⟨ret_bool HR.out.symm, HW.out _⟩
          · have h' : decide (z ≤ u) = false := by simpa using h
            have HO : Hid (N0.to (N0.upAt zs x y) (k + 1) = true) := N0.to_step hok (by rw [hat, h1, decide_eq_true (by omega)]; rfl)
            clear hat hok ez eu hc hR hR' hW
            go_wp2
            go_quiet ((go_at_call 43; exact quiet_bool (B1.l01In_any _ _ _ _) h1))
            go_wp2
            obtain ⟨m', hm'⟩ := HW.out nq
            go_roundw
            case rel => exact ⟨k + 1, m', by omega, HO.out, by go_num, hm'⟩
            case measure => simp [intOf]; omega
        | false =>
          have HR : Hid (N0.up zs x y = false) := N0.to_bad hlt (by rw [hat, h1]; rfl)
          clear hat hok ez eu hc hR hR' hW
          go_wp2
          go_quiet ((go_at_call 43; exact quiet_bool (B1.l01In_any _ _ _ _) h1))
          go_wp2
          go_ret
          exact ⟨ret_bool HR.out.symm, HW.out _⟩
    · obtain rfl : k = zs.length := by omega
      have HR : Hid (N0.up zs x y = true) := hok
      have HW0 : Hid (wr = w.drewN n) := hW
      clear hok hR hW
      go_wp2
      go_ret
      exact ⟨ret_bool HR.out.symm, n, HW0.out⟩
end Go.Proofs.Ytddlpejklpljoaa.N2

/- Contracts of laws.markIntS, laws.heldIntS, laws.markInode and laws.heldInode, as the given laws call them. -/
namespace Go.Proofs.Ytddlpejklpljoaa.M0
open Go.ChangeShapes Go.WideShapes Go.ChangeAt Go.RowKit
set_option linter.unusedVariables false
set_option linter.unusedSimpArgs false
set_option maxRecDepth 10000

open I0 (val vals)
open I2 (ints)

/-- The marks 1, 2, .. -/
def marks (n : Nat) : List Int := (List.range n).map fun (j : Nat) => ((1 + j : Nat) : Int)

theorem marks_length (n : Nat) : (marks n).length = n := by simp [marks]

/-- The row while it is being marked. -/
def part (vs : List Value) (k : Nat) : List Value := ints (marks k) ++ vs.drop k

theorem part_zero (vs : List Value) : part vs 0 = vs := by simp [part, marks]
theorem part_all (vs : List Value) : part vs vs.length = ints (marks vs.length) := by simp [part]
theorem part_length (vs : List Value) (k : Nat) (h : k ≤ vs.length) : (part vs k).length = vs.length := by simp [part, marks]; omega
theorem part_succ (vs : List Value) (k : Nat) (h : k < vs.length) : (part vs k).set k (.int .i64 ((1 + k : Nat) : Int)) = part vs (k + 1) := by
  unfold part
  have e : vs.drop k = vs[k] :: vs.drop (k + 1) := List.drop_eq_getElem_cons h
  have hl : (ints (marks k)).length = k := by simp [marks]
  rw [e, List.set_append_right _ _ (by omega), hl, Nat.sub_self, List.set_cons_zero]
  simp [marks, List.range_succ]

theorem marks_get (n k : Nat) (h : k < n) : (ints (marks n))[k]'(by simp [marks]; exact h) = .int .i64 ((1 + k : Nat) : Int) := by simp [marks]

theorem grown_refl (w : World) (row : Option Nat) : w.grownBy w row := ⟨rfl, rfl, rfl, Nat.le_refl _, fun _ _ _ => rfl⟩
theorem grown_set {w w1 : World} {g j : Nat} (h : w.grownBy w1 (some g)) (v : Value) : w.grownBy (w1.setCell ⟨g, j, none⟩ v) (some g) := by
  refine ⟨h.os, h.tape, h.output, ?_, fun k hk hr => ?_⟩
  · simpa using h.size
  · have hne : k ≠ g := fun e => hr (by rw [e])
    rw [← h.block k hk hr]
    exact Below.heap_setCell w1 ⟨g, j, none⟩ v k hne
theorem grown_alloc {w w' : World} {o : Obj} {row : Option Nat} (h : (w.alloc o).grownBy w' row) : w.grownBy w' row :=
  ⟨h.os, h.tape, h.output, Nat.le_trans (by simp) h.size, fun k hk hr => by
    rw [h.block k (by simp; omega) hr]
    exact ((Below.refl w.heap.size w).alloc (Nat.le_refl _) o).block k hk⟩

theorem blk_grown {B g : Nat} {vs : List Value} {w w' : World} (h : K0.Blk B vs w) (hg : w.grownBy w' (some g)) (hne : B ≠ g) : K0.Blk B vs w' := by
  have hb : w'.heap[B]? = w.heap[B]? := hg.block B h.lt (fun e => hne (Option.some.inj e))
  refine ⟨fun j hj => ?_, fun j hj => ?_, Nat.lt_of_lt_of_le h.lt hg.size⟩
  · rw [World.cell?_of_block (a := ⟨B, j, none⟩) hb]
    exact h.cell j hj
  · rw [World.frozen?_of_block (a := ⟨B, j, none⟩) hb]
    exact h.free j hj

theorem markIntS (g c : Nat) (vs : List Value) (w : World) (hn : vs.length ≤ 1048576) (hb : K0.Blk g vs w) :
    Calls Try.prog 20 #[.slice (some ⟨g, 0, none⟩) vs.length c, .int .i64 1] w fun e w' => e = .returned (.int .i64 ((1 + vs.length : Nat) : Int)) ∧ K0.Blk g (ints (marks vs.length)) w' ∧ w.grownBy w' (some g) := by
  go_enter Try.func20, Try.ntmps20
  go_wp2
  go_loopw [1, 5] (fun q i w' => ∃ k : Nat, k ≤ vs.length ∧ i = .int .i64 k ∧ q = .int .i64 ((1 + k : Nat) : Int) ∧ K0.Blk g (part vs k) w' ∧ w.grownBy w' (some g)) (fun _ i _ => vs.length - (intOf i).toNat)
  case atStart => exact ⟨0, Nat.zero_le _, rfl, rfl, by rw [part_zero]; exact hb, grown_refl _ _⟩
  case round =>
    obtain ⟨k, hk, rfl, rfl, hblk, hgr⟩ := hrel
    by_cases hlt : k < vs.length
    · have e1 : (0 : Int) ≤ (k : Int) := by omega
      have e2 : (k : Int) < (vs.length : Int) := by omega
      have x2 := hblk.cell k (by rw [part_length _ _ hk]; exact hlt)
      have x3 := hblk.free k (by rw [part_length _ _ hk]; exact hlt)
      obtain ⟨u, x4⟩ : ∃ u, wr.cell? ⟨g, k, none⟩ = some u := ⟨_, x2⟩
      have HB : Hid (K0.Blk g (part vs (k + 1)) (wr.setCell ⟨g, k, none⟩ (.int .i64 ((1 + k : Nat) : Int)))) := by rw [← part_succ vs k hlt]; exact hblk.set k _
      clear x2 hblk hb
      go_wp2
      go_roundw
      case rel => exact ⟨k + 1, by omega, by go_num, by go_num, HB.out, grown_set hgr _⟩
      case measure => simp [intOf]; omega
    · obtain rfl : k = vs.length := by omega
      rw [part_all] at hblk
      clear hb
      go_wp2
      go_ret
      exact ⟨rfl, hblk, hgr⟩

theorem markNone (a : Option Addr) (c : Nat) (w : World) :
    Calls Try.prog 20 #[.slice a 0 c, .int .i64 1] w fun e w' => e = .returned (.int .i64 1) ∧ w' = w := by
  go_enter Try.func20, Try.ntmps20
  go_wp2
  go_loop [1, 5] (fun q i => i = .int .i64 0 ∧ q = .int .i64 1) (fun _ _ => 0)
  case atStart => exact ⟨rfl, rfl⟩
  case round =>
    obtain ⟨rfl, rfl⟩ := hrel
    go_wp2
    go_ret
    exact ⟨rfl, rfl⟩

theorem heldIntS (g c n : Nat) (w : World) (hn : n ≤ 1048576) (hb : K0.Blk g (ints (marks n)) w) :
    Calls Try.prog 21 #[.slice (some ⟨g, 0, none⟩) n c, .int .i64 1] w fun e w' => e = .returned (.int .i64 ((1 + n : Nat) : Int)) ∧ w' = w := by
  go_enter Try.func21, Try.ntmps21
  go_wp2
  go_loop [1, 5] (fun q i => ∃ k : Nat, k ≤ n ∧ i = .int .i64 k ∧ q = .int .i64 ((1 + k : Nat) : Int)) (fun _ i => n - (intOf i).toNat)
  case atStart => exact ⟨0, Nat.zero_le _, rfl, rfl⟩
  case round =>
    obtain ⟨k, hk, rfl, rfl⟩ := hrel
    by_cases hlt : k < n
    · have e1 : (0 : Int) ≤ (k : Int) := by omega
      have e2 : (k : Int) < (n : Int) := by omega
      have x1 := hb.cell k (by simp [marks]; exact hlt)
      rw [marks_get n k hlt] at x1
      clear hb
      go_wp2
      go_round
      case rel => exact ⟨k + 1, by omega, by go_num, by go_num⟩
      case measure => simp [intOf]; omega
    · obtain rfl : k = n := by omega
      clear hb
      go_wp2
      go_ret
      exact ⟨rfl, rfl⟩

theorem heldNone (a : Option Addr) (c : Nat) (w : World) :
    Calls Try.prog 21 #[.slice a 0 c, .int .i64 1] w fun e w' => e = .returned (.int .i64 1) ∧ w' = w := by
  go_enter Try.func21, Try.ntmps21
  go_wp2
  go_loop [1, 5] (fun q i => i = .int .i64 0 ∧ q = .int .i64 1) (fun _ _ => 0)
  case atStart => exact ⟨rfl, rfl⟩
  case round =>
    obtain ⟨rfl, rfl⟩ := hrel
    go_wp2
    go_ret
    exact ⟨rfl, rfl⟩

end Go.Proofs.Ytddlpejklpljoaa.M0

/- Contracts of laws.szLoan, laws.toLoan, laws.eqLoan and laws.markLoan. -/
namespace Go.Proofs.Ytddlpejklpljoaa.N3
open Go.ChangeShapes Go.WideShapes Go.ChangeAt Go.RowKit
set_option linter.unusedVariables false
set_option linter.unusedSimpArgs false
set_option maxRecDepth 10000

open N0 (Ln)
open N1 (Sl val vals Lists FitM LB lb_new)
open I2 (ints)

def total (d : Ln) : Nat := d.rc.size + d.pg.length + d.sav.size + d.po.length + d.fr.length

theorem szOk (a : Option Addr) (c n : Nat) (l : Int) (w : World) (hn : n ≤ maxLen) (h1 : l ≤ 1048576) (h : (n : Int) ≤ l) :
    Calls Try.prog 41 #[.slice a n c, .int .i64 l] w fun e w' => e = .returned (.int .i64 (l - n)) ∧ w' = w :=
  (I2.szIntS a c n l w hn (by omega) h1).mono fun _ _ ⟨he, hw⟩ => ⟨by rw [he, I2.left, if_neg (by omega)], hw⟩
theorem szNo (a : Option Addr) (c n : Nat) (l : Int) (w : World) (hn : n ≤ maxLen) (h0 : 0 ≤ l) (h1 : l ≤ 1048576) (h : l < (n : Int)) :
    Calls Try.prog 41 #[.slice a n c, .int .i64 l] w fun e w' => e = .returned (.int .i64 (-1)) ∧ w' = w :=
  (I2.szIntS a c n l w hn h0 h1).mono fun _ _ ⟨he, hw⟩ => ⟨by rw [he, I2.left, if_pos (by omega)], hw⟩

theorem szFit (d : Ln) (s : Sl) (w : World) (hF : FitM d s) (h : total d ≤ 1048576) :
    Calls Try.prog 22 #[val d s, .int .i64 1048576] w fun e w' => (∃ q : Int, 0 ≤ q ∧ e = .returned (.int .i64 q)) ∧ Below w.heap.size w w' := by
  have hB := K0.below_new w (.cells #[.int .i64 d.ino, .int .i64 d.cl, .int .i64 d.un, .string d.rc, .slice s.a1 d.pg.length s.c1, .string d.sav, .slice s.a2 d.po.length s.c2, .slice s.a3 d.fr.length s.c3] 34)
  have l1 := hF.l1
  have l2 := hF.l2
  have l3 := hF.l3
  unfold total at h
  have e1 : (0 : Int) ≤ 1048576 - (d.rc.size : Int) := by omega
  have g1 : ¬ (1048576 - (d.rc.size : Int) < 0) := by omega
  have g2 : ¬ (1048576 - (d.rc.size : Int) - (d.pg.length : Int) < 0) := by omega
  have g3 : ¬ (1048576 - (d.rc.size : Int) - (d.pg.length : Int) - (d.sav.size : Int) < 0) := by omega
  have g4 : ¬ (1048576 - (d.rc.size : Int) - (d.pg.length : Int) - (d.sav.size : Int) - (d.po.length : Int) < 0) := by omega
  have g5 : ¬ (1048576 - (d.rc.size : Int) - (d.pg.length : Int) - (d.sav.size : Int) - (d.po.length : Int) - (d.fr.length : Int) < 0) := by omega
  go_enter Try.func22, Try.ntmps22
  go_wp2_with (go_at_call 41; refine (szOk _ _ _ _ _ (by assumption) (by omega) (by omega)).mono ?_; rintro e w' ⟨rfl, rfl⟩)
  go_ret
  exact ⟨⟨_, by omega, rfl⟩, hB⟩

theorem szBig (d : Ln) (s : Sl) (w : World) (hF : FitM d s) (h : ¬ total d ≤ 1048576) :
    Calls Try.prog 22 #[val d s, .int .i64 1048576] w fun e w' => e = .returned (.int .i64 (-1)) ∧ Below w.heap.size w w' := by
  have hB := K0.below_new w (.cells #[.int .i64 d.ino, .int .i64 d.cl, .int .i64 d.un, .string d.rc, .slice s.a1 d.pg.length s.c1, .string d.sav, .slice s.a2 d.po.length s.c2, .slice s.a3 d.fr.length s.c3] 34)
  have l1 := hF.l1
  have l2 := hF.l2
  have l3 := hF.l3
  have l4 := hF.m4
  have l5 := hF.m5
  have l4' : d.rc.size ≤ 9223372036854775807 := l4
  have l5' : d.sav.size ≤ 9223372036854775807 := l5
  unfold total at h
  by_cases g1 : 1048576 - (d.rc.size : Int) < 0
  · go_enter Try.func22, Try.ntmps22
    go_wp2
    go_ret
    exact ⟨rfl, hB⟩
  · by_cases g2 : 1048576 - (d.rc.size : Int) - (d.pg.length : Int) < 0
    · go_enter Try.func22, Try.ntmps22
      go_wp2_with (go_at_call 41; refine (szNo _ _ _ _ _ (by assumption) (by omega) (by omega) (by omega)).mono ?_; rintro e w' ⟨rfl, rfl⟩)
      go_ret
      exact ⟨rfl, hB⟩
    · by_cases g3 : 1048576 - (d.rc.size : Int) - (d.pg.length : Int) - (d.sav.size : Int) < 0
      · go_enter Try.func22, Try.ntmps22
        go_wp2_with (go_at_call 41; refine (szOk _ _ _ _ _ (by assumption) (by omega) (by omega)).mono ?_; rintro e w' ⟨rfl, rfl⟩)
        go_ret
        exact ⟨rfl, hB⟩
      · by_cases g4 : 1048576 - (d.rc.size : Int) - (d.pg.length : Int) - (d.sav.size : Int) - (d.po.length : Int) < 0
        · go_enter Try.func22, Try.ntmps22
          go_wp2_with (first
            | (go_at_call 41; refine (szOk _ _ _ _ _ (by assumption) (by omega) (by omega)).mono ?_; rintro e w' ⟨rfl, rfl⟩)
            | (go_at_call 41; refine (szNo _ _ _ _ _ (by assumption) (by omega) (by omega) (by omega)).mono ?_; rintro e w' ⟨rfl, rfl⟩))
          go_ret
          exact ⟨rfl, hB⟩
        · go_enter Try.func22, Try.ntmps22
          go_wp2_with (first
            | (go_at_call 41; refine (szOk _ _ _ _ _ (by assumption) (by omega) (by omega)).mono ?_; rintro e w' ⟨rfl, rfl⟩)
            | (go_at_call 41; refine (szNo _ _ _ _ _ (by assumption) (by omega) (by omega) (by omega)).mono ?_; rintro e w' ⟨rfl, rfl⟩))
          go_ret
          exact ⟨rfl, hB⟩

theorem eqLoan (d : Ln) (s1 s2 : Sl) (w : World) (hp : d.pg.length ≤ 281474976710656) (ho : d.po.length ≤ 281474976710656) (hf : d.fr.length ≤ 281474976710656) (h1 : Lists w d s1) (h2 : Lists w d s2) :
    Calls Try.prog 26 #[val d s1, val d s2] w fun e w' => e = .returned (.bool true) ∧ Below w.heap.size w w' := by
  have b1 := lb_new d s1 w 37
  have hB := K0.below_new w (.cells #[.int .i64 d.ino, .int .i64 d.cl, .int .i64 d.un, .string d.rc, .slice s1.a1 d.pg.length s1.c1, .string d.sav, .slice s1.a2 d.po.length s1.c2, .slice s1.a3 d.fr.length s1.c3] 37)
  have hB2 := hB.alloc hB.size (.cells #[.int .i64 d.ino, .int .i64 d.cl, .int .i64 d.un, .string d.rc, .slice s2.a1 d.pg.length s2.c1, .string d.sav, .slice s2.a2 d.po.length s2.c2, .slice s2.a3 d.fr.length s2.c3] 37)
  have h1' := h1.below hB2
  have h2' := h2.below hB2
  obtain ⟨W, hW⟩ : ∃ W, (w.alloc (.cells #[.int .i64 d.ino, .int .i64 d.cl, .int .i64 d.un, .string d.rc, .slice s1.a1 d.pg.length s1.c1, .string d.sav, .slice s1.a2 d.po.length s1.c2, .slice s1.a3 d.fr.length s1.c3] 37)).alloc (.cells #[.int .i64 d.ino, .int .i64 d.cl, .int .i64 d.un, .string d.rc, .slice s2.a1 d.pg.length s2.c1, .string d.sav, .slice s2.a2 d.po.length s2.c2, .slice s2.a3 d.fr.length s2.c3] 37) = W := ⟨_, rfl⟩
  have hr1 : ∀ m, P0.Row (W.drewN m) s1.a1 d.pg := fun m => by rw [← hW]; exact h1'.r1.drewN m
  have hr2 : ∀ m, P0.Row (W.drewN m) s2.a1 d.pg := fun m => by rw [← hW]; exact h2'.r1.drewN m
  have hr3 : ∀ m, P0.Row (W.drewN m) s1.a2 d.po := fun m => by rw [← hW]; exact h1'.r2.drewN m
  have hr4 : ∀ m, P0.Row (W.drewN m) s2.a2 d.po := fun m => by rw [← hW]; exact h2'.r2.drewN m
  have hr5 : ∀ m, P0.Row (W.drewN m) s1.a3 d.fr := fun m => by rw [← hW]; exact h1'.r3.drewN m
  have hr6 : ∀ m, P0.Row (W.drewN m) s2.a3 d.fr := fun m => by rw [← hW]; exact h2'.r3.drewN m
  rw [hW] at hB2
  have hu : ∀ x : ByteArray, (x.toList != x.toList) = false := fun x => by simp
  subst hW
  go_enter Try.func26, Try.ntmps26
  go_wp2_with (first
    | (go_at_call 19; have n2' := n2; refine (I2.eqIntS _ _ _ _ d.fr _ hf (by simpa only [World.drewN_drewN] using hr5 (n1 + n2)) (by simpa only [World.drewN_drewN] using hr6 (n1 + n2))).mono ?_; rintro e w' ⟨rfl, n3, rfl⟩)
    | (go_at_call 19; have n1' := n1; refine (I2.eqIntS _ _ _ _ d.po _ ho (hr3 n1) (hr4 n1)).mono ?_; rintro e w' ⟨rfl, n2, rfl⟩)
    | (go_at_call 19; refine (I2.eqIntS _ _ _ _ d.pg _ hp (hr1 0) (hr2 0)).mono ?_; rintro e w' ⟨rfl, n1, rfl⟩))
  go_ret
  exact ⟨rfl, K0.below_drewN hB2 _⟩
end Go.Proofs.Ytddlpejklpljoaa.N3

/- Contracts of laws.toLoan and laws.markLoan. -/
namespace Go.Proofs.Ytddlpejklpljoaa.N4
open Go.ChangeShapes Go.WideShapes Go.ChangeAt Go.RowKit
set_option linter.unusedVariables false
set_option linter.unusedSimpArgs false
set_option maxRecDepth 10000

open N0 (Ln)
open N1 (Sl val vals Lists FitM LB lb_new)
open I2 (ints)

abbrev zero8 : List Value := [.int .i64 0, .int .i64 0, .int .i64 0, .string ⟨#[]⟩, .slice none 0 0, .string ⟨#[]⟩, .slice none 0 0, .slice none 0 0]

/-- The three blocks of toLoan. -/
structure T (w : World) (d : Ln) (s : Sl) (vs : List Value) (W : World) : Prop where
  arg : LB w.heap.size d s W
  res : K0.Blk (w.heap.size + 1) zero8 W
  tmp : K0.Blk (w.heap.size + 2) vs W
  bel : Below w.heap.size w W

variable {w W W' : World} {d : Ln} {s : Sl} {vs : List Value}

theorem T.below (h : T w d s vs W) (hb : Below W.heap.size W W') : T w d s vs W' := ⟨h.arg.below hb, h.res.below hb, h.tmp.below hb, h.bel.trans (hb.mono h.bel.size)⟩
theorem T.set (h : T w d s vs W) (j : Nat) (v : Value) : T w d s (vs.set j v) (W.setCell ⟨w.heap.size + 2, j, none⟩ v) :=
  ⟨⟨h.arg.b.setOther (by omega) j v⟩, h.res.setOther (by omega) j v, h.tmp.set j v, h.bel.setCell (p := ⟨w.heap.size + 2, j, none⟩) (Nat.le_add_right _ _) v⟩
theorem T.arg' (h : T w d s vs W) : LB w.heap.size d s W := h.arg

/-- Where a copy's lists stand. -/
def at3 (d : Ln) (g1 g2 g3 : Nat) : Sl := ⟨some ⟨g1, 0, none⟩, d.pg.length, some ⟨g2, 0, none⟩, d.po.length, some ⟨g3, 0, none⟩, d.fr.length⟩

theorem t_new (w : World) (d : Ln) (s : Sl) :
    T w d s [.int .i64 d.ino, .int .i64 d.cl, .int .i64 d.un, .string d.rc, .slice none 0 0, .string ⟨#[]⟩, .slice none 0 0, .slice none 0 0] (((w.alloc (.cells #[.int .i64 d.ino, .int .i64 d.cl, .int .i64 d.un, .string d.rc, .slice s.a1 d.pg.length s.c1, .string d.sav, .slice s.a2 d.po.length s.c2, .slice s.a3 d.fr.length s.c3] 34)).alloc (.cells #[.int .i64 0, .int .i64 0, .int .i64 0, .string ⟨#[]⟩, .slice none 0 0, .string ⟨#[]⟩, .slice none 0 0, .slice none 0 0] 37)).alloc (.cells #[.int .i64 d.ino, .int .i64 d.cl, .int .i64 d.un, .string d.rc, .slice none 0 0, .string ⟨#[]⟩, .slice none 0 0, .slice none 0 0] 37)) :=
  ⟨⟨((K0.blk_new (vals d s) w 34).alloc _).alloc _⟩, (K0.blk_at zero8 _ 37 (by simp)).alloc _, K0.blk_at [.int .i64 d.ino, .int .i64 d.cl, .int .i64 d.un, .string d.rc, .slice none 0 0, .string ⟨#[]⟩, .slice none 0 0, .slice none 0 0] _ 37 (by simp),
   (((Below.refl _ _).alloc (Nat.le_refl _) _).alloc (by simp) _).alloc (by simp; omega) _⟩

/-- A copy of a loan: its lists are its own. -/
structure Cp (B : Nat) (d : Ln) (g1 g2 g3 : Nat) (W : World) : Prop where
  h1 : B ≤ g1
  h2 : B ≤ g2
  h3 : B ≤ g3
  k1 : K0.Blk g1 (ints d.pg) W
  k2 : K0.Blk g2 (ints d.po) W
  k3 : K0.Blk g3 (ints d.fr) W

variable {B g1 g2 g3 : Nat}
theorem Cp.below (h : Cp B d g1 g2 g3 W) (hb : Below W.heap.size W W') : Cp B d g1 g2 g3 W' := ⟨h.h1, h.h2, h.h3, h.k1.below hb, h.k2.below hb, h.k3.below hb⟩
theorem Cp.lists (h : Cp B d g1 g2 g3 W) : Lists W d (at3 d g1 g2 g3) := ⟨I2.row_of_blk h.k1, I2.row_of_blk h.k2, I2.row_of_blk h.k3⟩

theorem put8 {B : Nat} {x0 x1 x2 x3 x4 x5 x6 x7 y0 y1 y2 y3 y4 y5 y6 y7 : Value} (h : K0.Blk B [x0, x1, x2, x3, x4, x5, x6, x7] W) :
    K0.Blk B [y0, y1, y2, y3, y4, y5, y6, y7] ((((((((W.setCell ⟨B, 0, none⟩ y0).setCell ⟨B, 1, none⟩ y1).setCell ⟨B, 2, none⟩ y2).setCell ⟨B, 3, none⟩ y3).setCell ⟨B, 4, none⟩ y4).setCell ⟨B, 5, none⟩ y5).setCell ⟨B, 6, none⟩ y6).setCell ⟨B, 7, none⟩ y7) :=
  (((((((h.set 0 y0).set 1 y1).set 2 y2).set 3 y3).set 4 y4).set 5 y5).set 6 y6).set 7 y7
theorem other8 {B B' : Nat} {vs : List Value} (h : K0.Blk B' vs W) (hne : B ≠ B') (y0 y1 y2 y3 y4 y5 y6 y7 : Value) :
    K0.Blk B' vs ((((((((W.setCell ⟨B, 0, none⟩ y0).setCell ⟨B, 1, none⟩ y1).setCell ⟨B, 2, none⟩ y2).setCell ⟨B, 3, none⟩ y3).setCell ⟨B, 4, none⟩ y4).setCell ⟨B, 5, none⟩ y5).setCell ⟨B, 6, none⟩ y6).setCell ⟨B, 7, none⟩ y7) :=
  (((((((h.setOther hne 0 y0).setOther hne 1 y1).setOther hne 2 y2).setOther hne 3 y3).setOther hne 4 y4).setOther hne 5 y5).setOther hne 6 y6).setOther hne 7 y7
theorem bel8 {B b : Nat} (h : Below b w W) (hb : b ≤ B) (y0 y1 y2 y3 y4 y5 y6 y7 : Value) :
    Below b w ((((((((W.setCell ⟨B, 0, none⟩ y0).setCell ⟨B, 1, none⟩ y1).setCell ⟨B, 2, none⟩ y2).setCell ⟨B, 3, none⟩ y3).setCell ⟨B, 4, none⟩ y4).setCell ⟨B, 5, none⟩ y5).setCell ⟨B, 6, none⟩ y6).setCell ⟨B, 7, none⟩ y7) :=
  (((((((h.setCell (p := ⟨B, 0, none⟩) hb y0).setCell (p := ⟨B, 1, none⟩) hb y1).setCell (p := ⟨B, 2, none⟩) hb y2).setCell (p := ⟨B, 3, none⟩) hb y3).setCell (p := ⟨B, 4, none⟩) hb y4).setCell (p := ⟨B, 5, none⟩) hb y5).setCell (p := ⟨B, 6, none⟩) hb y6).setCell (p := ⟨B, 7, none⟩) hb y7

set_option maxHeartbeats 4000000 in
theorem toLoan (d : Ln) (s : Sl) (w : World) (hp : d.pg.length ≤ 1048576) (ho : d.po.length ≤ 1048576) (hf : d.fr.length ≤ 1048576) (hR : Lists w d s) :
    Calls Try.prog 24 #[val d s] w fun e w' => ∃ g1 g2 g3, e = .returned (val d (at3 d g1 g2 g3)) ∧ Cp w.heap.size d g1 g2 g3 w' ∧ Below w.heap.size w w' := by
  have t0 := t_new w d s
  have HL : Hid (∀ W, Below w.heap.size w W → Lists W d s) := fun W hb => hR.below hb
  have r0 := (HL.out _ t0.bel).r1
  clear hR
  go_enter Try.func24, Try.ntmps24
  go_wp2_with (first
    | (go_at_call 44; have q2' := q2; refine (I2.toIntS s.a3 s.c3 d.fr _ hf q2).mono ?_; rintro e w3 ⟨g3, rfl, hg3, k3, b3⟩; have t3 := u2.below b3; have m1 := l2.below b3; have m2 := (k2.setOther (B' := w.heap.size + 2) (by omega) 6 (.slice (some ⟨g2, 0, none⟩) d.po.length d.po.length)).below b3; have z7 := t3.tmp.cell 7 (by simp); have y7 := t3.tmp.free 7 (by simp); have z0 := t3.tmp.cell 0 (by simp); have z1 := t3.tmp.cell 1 (by simp); have z2 := t3.tmp.cell 2 (by simp); have z3 := t3.tmp.cell 3 (by simp); have z4 := t3.tmp.cell 4 (by simp); have z5 := t3.tmp.cell 5 (by simp); have z6 := t3.tmp.cell 6 (by simp); simp only [List.set_cons_zero, List.set_cons_succ, List.getElem_cons_zero, List.getElem_cons_succ] at z0 z1 z2 z3 z4 z5 z6 z7; have i0 := t3.res.cell 0 (by simp); have i1 := t3.res.cell 1 (by simp); have i2 := t3.res.cell 2 (by simp); have i3 := t3.res.cell 3 (by simp); have i4 := t3.res.cell 4 (by simp); have i5 := t3.res.cell 5 (by simp); have i6 := t3.res.cell 6 (by simp); have i7 := t3.res.cell 7 (by simp); simp only [List.getElem_cons_zero, List.getElem_cons_succ] at i0 i1 i2 i3 i4 i5 i6 i7; have j0 := t3.res.free 0 (by simp); have j1 := t3.res.free 1 (by simp); have j2 := t3.res.free 2 (by simp); have j3 := t3.res.free 3 (by simp); have j4 := t3.res.free 4 (by simp); have j5 := t3.res.free 5 (by simp); have j6 := t3.res.free 6 (by simp); have j7 := t3.res.free 7 (by simp))
    | (go_at_call 44; have q1' := q1; refine (I2.toIntS s.a2 s.c2 d.po _ ho q1).mono ?_; rintro e w2 ⟨g2, rfl, hg2, k2, b2⟩; have t2 := u1.below b2; have l2 := ((k1.setOther (B' := w.heap.size + 2) (by omega) 4 (.slice (some ⟨g1, 0, none⟩) d.pg.length d.pg.length)).setOther (B' := w.heap.size + 2) (by omega) 5 (.string d.sav)).below b2; have hg2' : w.heap.size + 3 ≤ g2 := (by have hq := u1.tmp.lt; omega); have l2 := l2.setOther (B' := w.heap.size + 2) (by omega) 6 (.slice (some ⟨g2, 0, none⟩) d.po.length d.po.length); have c7 := t2.arg.c7; have x6 := t2.tmp.cell 6 (by simp); have y6 := t2.tmp.free 6 (by simp); simp only [List.set_cons_zero, List.set_cons_succ, List.getElem_cons_zero, List.getElem_cons_succ] at x6; have u2 := t2.set 6 (.slice (some ⟨g2, 0, none⟩) d.po.length d.po.length); have q2 := (HL.out _ u2.bel).r3)
    | (go_at_call 44; refine (I2.toIntS s.a1 s.c1 d.pg _ hp r0).mono ?_; rintro e w1 ⟨g1, rfl, hg1, k1, b1⟩; have t1 := t0.below b1; have hg1' : w.heap.size + 3 ≤ g1 := (by have hq := t0.tmp.lt; omega); have c5 := t1.arg.c5; have c6 := t1.arg.c6; have x4 := t1.tmp.cell 4 (by simp); have y4 := t1.tmp.free 4 (by simp); have x5 := t1.tmp.cell 5 (by simp); have y5 := t1.tmp.free 5 (by simp); simp only [List.getElem_cons_zero, List.getElem_cons_succ] at x4 x5; have u1 := (t1.set 4 (.slice (some ⟨g1, 0, none⟩) d.pg.length d.pg.length)).set 5 (.string d.sav); have q1 := (HL.out _ u1.bel).r2))
  have hg3' : w.heap.size + 3 ≤ g3 := by
    have := u2.tmp.lt
    simp at hg3 this
    omega
  have u3 := t3.set 7 (.slice (some ⟨g3, 0, none⟩) d.fr.length d.fr.length)
  have q := put8 (y0 := .int .i64 d.ino) (y1 := .int .i64 d.cl) (y2 := .int .i64 d.un) (y3 := .string d.rc) (y4 := .slice (some ⟨g1, 0, none⟩) d.pg.length d.pg.length) (y5 := .string d.sav) (y6 := .slice (some ⟨g2, 0, none⟩) d.po.length d.po.length) (y7 := .slice (some ⟨g3, 0, none⟩) d.fr.length d.fr.length) u3.res
  have v0 := q.cell 0 (by simp)
  have v1 := q.cell 1 (by simp)
  have v2 := q.cell 2 (by simp)
  have v3 := q.cell 3 (by simp)
  have v4 := q.cell 4 (by simp)
  have v5 := q.cell 5 (by simp)
  have v6 := q.cell 6 (by simp)
  have v7 := q.cell 7 (by simp)
  simp only [List.getElem_cons_zero, List.getElem_cons_succ] at v0 v1 v2 v3 v4 v5 v6 v7
  refine bodyPost_ret (v := val d (at3 d g1 g2 g3)) (by simp [results, Try.results24, go_sem, v0, v1, v2, v3, v4, v5, v6, v7, at3]) rfl ⟨g1, g2, g3, rfl, ⟨by omega, by omega, by omega, ?_, ?_, ?_⟩, ?_⟩
  · exact other8 (m1.setOther (B' := w.heap.size + 2) (by omega) 7 _) (by omega) _ _ _ _ _ _ _ _
  · exact other8 (m2.setOther (B' := w.heap.size + 2) (by omega) 7 _) (by omega) _ _ _ _ _ _ _ _
  · exact other8 (k3.setOther (B' := w.heap.size + 2) (by omega) 7 _) (by omega) _ _ _ _ _ _ _ _
  · exact bel8 u3.bel (by omega) _ _ _ _ _ _ _ _
end Go.Proofs.Ytddlpejklpljoaa.N4

/- Contracts of impl.recordText and impl.PutInode, as the given laws call them. -/
namespace Go.Proofs.Ytddlpejklpljoaa.R1
open Go.ChangeShapes Go.WideShapes Go.ChangeAt Go.RowKit
set_option linter.unusedVariables false
set_option linter.unusedSimpArgs false
set_option maxRecDepth 10000

open I0 (val vals)

theorem ret_str {a b : ByteArray} (h : a = b) : Ending.returned (.string a) = .returned (.string b) := by rw [h]

/-- The record's text so far: kind, owner, size, and the first pages. -/
def upto (k o s : Int) (zs : List Int) (j : Nat) : ByteArray := R0.two k o ++ B3.pair s ++ R0.pg (zs.take j)

theorem upto_zero (k o s : Int) (zs : List Int) : upto k o s zs 0 = R0.two k o ++ B3.pair s := by
  apply ByteArray.ext
  simp [upto, R0.pg]
theorem upto_succ (k o s : Int) (zs : List Int) (j : Nat) (h : j < zs.length) : upto k o s zs j ++ ⟨#[UInt8.ofNat (zs.getD j 0).toNat]⟩ = upto k o s zs (j + 1) := by
  rw [upto, upto, ByteArray.append_assoc, R0.pg_snoc zs j h]
theorem upto_all (k o s : Int) (zs : List Int) : upto k o s zs zs.length = R0.head k o s zs := by rw [upto, List.take_length, R0.head]

theorem zeros_buf {base g n cap : Nat} {W : World} {t : ByteArray} (m : Int) (h : F0.Buf base W g n cap t) :
    Calls Try.prog 56 #[.int .i64 m] W fun e w' => e = .returned (.string (B4.zeros m)) ∧ F0.Buf base w' g n cap t ∧ Below W.heap.size W w' :=
  (B4.impl_Zeros m W).mono fun _ _ ⟨he, hb⟩ => ⟨he, h.below hb, hb⟩

/-- A world behind the call's own box, with the row. -/
structure St (w : World) (W1 : World) (g n cap : Nat) (t : ByteArray) (W : World) : Prop where
  buf : F0.Buf W1.heap.size W g n cap t
  bel : Below W1.heap.size W1 W

variable {w W1 W W' : World} {g n cap : Nat} {t : ByteArray}

theorem St.below (h : St w W1 g n cap t W) (hb : Below W.heap.size W W') : St w W1 g n cap t W' := ⟨h.buf.below hb, h.bel.trans (hb.mono h.bel.size)⟩
theorem St.drew (h : St w W1 g n cap t W) : St w W1 g n cap t W.drew := ⟨h.buf.drew, h.bel.drew⟩

theorem zeros_st (m : Int) (h : St w W1 g n cap t W) :
    Calls Try.prog 56 #[.int .i64 m] W fun e w' => e = .returned (.string (B4.zeros m)) ∧ St w W1 g n cap t w' :=
  (B4.impl_Zeros m W).mono fun _ _ ⟨he, hb⟩ => ⟨he, h.below hb⟩

theorem with_st (a : ByteArray) (k : Int) (u : ByteArray) (hs : a.size ≤ 281474976710656) (ht : u.size ≤ 281474976710656) (h : St w W1 g n cap t W) :
    Calls Try.prog 55 #[.string a, .int .i64 k, .string u] W fun e w' => e = .returned (.string (B5.laid a k u)) ∧ St w W1 g n cap t w' :=
  (B5.impl_With a k u W hs ht).mono fun _ _ ⟨he, hb⟩ => ⟨he, h.below hb⟩

set_option maxHeartbeats 2000000 in
theorem recordText (k o s : Int) (a : Option Addr) (c : Nat) (zs : List Int) (w : World) (hok : I0.ok k o s zs = true) (hR : P0.Row w a zs) :
    Calls Try.prog 118 #[val k o s a zs.length c] w fun e w' => e = .returned (.string (R0.putI k o s zs)) ∧ Below w.heap.size w w' := by
  obtain ⟨hk, ho, hs, hl, -, hp⟩ := R0.ok_bounds hok
  have hP2 := R0.pair_size s (by omega) (by omega)
  have hbox := K0.blk_new (vals k o s a zs.length c) w 45
  have hl0 := K0.below_new w (.cells #[.int .i64 k, .int .i64 o, .int .i64 s, .slice a zs.length c] 45)
  have hR1 := hR.below hl0
  have hbuf0 := F0.buf_two (base := (w.alloc (.cells #[.int .i64 k, .int .i64 o, .int .i64 s, .slice a zs.length c] 45)).heap.size) (w.alloc (.cells #[.int .i64 k, .int .i64 o, .int .i64 s, .slice a zs.length c] 45)) k o (by omega) (by omega) (Nat.le_refl _)
  have hbuf0 := hbuf0.at (g' := w.heap.size + 1) (by simp)
  have hbl0 := K0.below_new (w.alloc (.cells #[.int .i64 k, .int .i64 o, .int .i64 s, .slice a zs.length c] 45)) (.cells #[.int .u8 k, .int .u8 o] 5)
  have hbox0 := hbox.below hbl0
  have HT : Hid (R0.putI k o s zs = B5.laid (B4.zeros 16) 0 (R0.head k o s zs)) := by
    have hz := R0.head_size k o s zs (by omega) (by omega)
    rw [R0.putI, if_pos hok, B4.zeros, if_pos (by decide), show ((16 : Int)).toNat = 16 from rfl, E0.laid_front _ 16 (by omega), hz, show 16 - (4 + zs.length) = 12 - zs.length by omega]
    rfl
  have hz4 : (R0.head k o s zs).size ≤ 281474976710656 := by rw [R0.head_size k o s zs (by omega) (by omega)]; omega
  have hz5 : (B4.zeros 16).size ≤ 281474976710656 := by decide
  clear hR hok
  have hs0 : 0 ≤ s := hs.1
  have hk0 : 0 ≤ k := hk.1
  have hk1 : k ≤ 2 := hk.2
  have ho0 : 0 ≤ o := ho.1
  have ho1 : o ≤ 9 := ho.2
  go_enter Try.func118, Try.ntmps118
  go_wp2_with (first
    | (go_at_call 135; refine (B3.impl_Pair _ _).mono ?_; rintro e w2 ⟨rfl, b2⟩; have hbuf2 := hbuf0.below b2; have bel2 := hbl0.trans (b2.mono hbl0.size); have hbox2 := hbox.below bel2; have c3 := hbox2.c3)
    | (at_builtin; refine F0.append_text rfl (.tmp 13) (.tmp 16) rfl hbuf2 (B3.pair s) (by rfl) (by rfl) (by omega) bel2.size ?_; intro g3 cap3 w3 hbuf3 bel3'; have bel3 := bel2.trans bel3'; have hbox3 := hbox.below bel3; have d3 := hbox3.c3))
  go_loopw [3, 21] (fun r i w' => ∃ (j g cap : Nat), j ≤ zs.length ∧ i = .int .i64 j ∧ r = .slice (some ⟨g, 0, none⟩) (4 + j) cap ∧ F0.Buf (w.alloc (.cells #[.int .i64 k, .int .i64 o, .int .i64 s, .slice a zs.length c] 45)).heap.size w' g (4 + j) cap (upto k o s zs j) ∧ Below (w.alloc (.cells #[.int .i64 k, .int .i64 o, .int .i64 s, .slice a zs.length c] 45)).heap.size (w.alloc (.cells #[.int .i64 k, .int .i64 o, .int .i64 s, .slice a zs.length c] 45)) w') (fun _ i _ => zs.length - (intOf i).toNat)
  case atStart =>
    rw [hP2] at hbuf3
    exact ⟨0, g3, cap3, Nat.zero_le _, rfl, rfl, by rw [upto_zero]; exact hbuf3, bel3⟩
  case round =>
    obtain ⟨j, g, cap, hj, rfl, rfl, hbuf, hbel⟩ := hrel
    clear hbuf0 hbl0 hbox0 hbuf2 bel2 hbox2 c3 hbuf3 bel3 bel3' hbox3 d3 b2
    by_cases hlt : j < zs.length
    · obtain ⟨b, off, rfl, hb, hc⟩ := (hR1.below hbel).get hlt
      have x1 := hc j hlt
      have hz := R0.pages_bounds hp hlt
      have hu := upto_succ k o s zs j hlt
      obtain ⟨z, ez⟩ : ∃ z, zs.getD j 0 = z := ⟨_, rfl⟩
      rw [ez] at x1 hz hu
      have z0 : 0 ≤ z := by omega
      have z1 : z ≤ 23 := hz.2
      have e1 : (0 : Int) ≤ (j : Int) := by omega
      have e2 : (j : Int) < (zs.length : Int) := by omega
      have HU : Hid (upto k o s zs j ++ ⟨#[UInt8.ofNat z.toNat]⟩ = upto k o s zs (j + 1)) := hu
      clear hu ez hc hz
      go_wp2_with (at_builtin; refine F0.append_byte rfl (.tmp 25) (.tmp 28) rfl hbuf z (by omega) (by rfl) (by rfl) (by omega) hbel.size ?_; intro g1 cap1 w1 hbuf1 bel1)
      go_roundw
      case rel => exact ⟨j + 1, g1, cap1, by omega, by go_num, rfl, by rw [← HU.out]; exact hbuf1, hbel.trans bel1⟩
      case measure => simp [intOf]; omega
    · obtain rfl : j = zs.length := by omega
      rw [upto_all] at hbuf
      have st : St w (w.alloc (.cells #[.int .i64 k, .int .i64 o, .int .i64 s, .slice a zs.length c] 45)) g (4 + zs.length) cap (R0.head k o s zs) wr := ⟨hbuf, hbel⟩
      have hfin : Hid (∀ W, St w (w.alloc (.cells #[.int .i64 k, .int .i64 o, .int .i64 s, .slice a zs.length c] 45)) g (4 + zs.length) cap (R0.head k o s zs) W → Below w.heap.size w W) := fun W h => hl0.trans (h.bel.mono hl0.size)
      clear hR1 hbuf hbel hbox hl0
      go_wp2
      have st1 := st.drew
      have cv0 := st.buf.conv
      have cv1 := st1.buf.conv
      go_region_with (first
        | (go_at_call 56; refine (zeros_st _ (by assumption)).mono ?_; rintro e w4 ⟨rfl, h4⟩; have cv4 := h4.buf.conv)
        | (go_at_call 55; refine (with_st _ _ _ hz5 hz4 (by assumption)).mono ?_; rintro e w5 ⟨rfl, h5⟩))
      all_goals
        go_wp2
        go_ret
        exact ⟨ret_str HT.out.symm, hfin.out _ h5⟩

end Go.Proofs.Ytddlpejklpljoaa.R1

/- Contracts of impl.readPages, impl.readRecord, impl.isFree, impl.inodeOf and impl.GetInode, as the given laws call them. -/
namespace Go.Proofs.Ytddlpejklpljoaa.G1
open Go.ChangeShapes Go.WideShapes Go.ChangeAt Go.RowKit
set_option linter.unusedVariables false
set_option linter.unusedSimpArgs false
set_option maxRecDepth 10000

open I0 (val vals)

set_option maxHeartbeats 1000000 in
theorem readPages (s : ByteArray) (w : World) (h16 : s.size = 16) :
    Calls Try.prog 115 #[.string s, .int .i64 (P0.need (B6.pairAt s 2))] w fun e w' => ∃ a c, e = .returned (.slice a (G0.pgs s (G0.cnt s)).length c) ∧ J0.IBuf w.heap.size w' a (G0.pgs s (G0.cnt s)).length c (G0.pgs s (G0.cnt s)) ∧ Below w.heap.size w w' := by
  rw [G0.pgs_length]
  have hm : s.size ≤ maxLen := by unfold maxLen; omega
  have hz : (s.size : Int) = 16 := by omega
  have b0 := J0.ibuf_made w (Nat.le_refl _)
  have l0 := K0.below_new w (.cells #[] 3)
  have hcl := G0.cnt_le s
  have hct := G0.cnt_lt s
  obtain ⟨N, hN⟩ : ∃ N, P0.need (B6.pairAt s 2) = N := ⟨_, rfl⟩
  rw [hN] at hct ⊢
  obtain ⟨C, hC⟩ : ∃ C, G0.cnt s = C := ⟨_, rfl⟩
  rw [hC] at hct hcl ⊢
  clear hN hC
  go_enter Try.func115, Try.ntmps115
  go_wp2
  go_loopw [5, 6] (fun v i w' => ∃ (k c : Nat) (a : Option Addr), k ≤ C ∧ i = .int .i64 (4 + (k : Int)) ∧ v = .slice a k c ∧ J0.IBuf w.heap.size w' a k c (G0.pgs s k) ∧ Below w.heap.size w w') (fun _ i _ => 16 - (intOf i).toNat)
  case atStart => exact ⟨0, 0, _, Nat.zero_le _, rfl, rfl, b0, l0⟩
  case round =>
    obtain ⟨k, c, a, hk, rfl, rfl, hbuf, hbel⟩ := hrel
    clear b0 l0
    by_cases hlt : k < C
    · obtain ⟨h1, h2⟩ := (hct k).1 hlt
      have e1 : 4 + (k : Int) < 16 := by omega
      have HS : Hid (G0.pgs s k ++ [B1.byteAt s (4 + (k : Int))] = G0.pgs s (k + 1)) := G0.pgs_succ s k
      go_wp2_with (first
        | (go_at_call 114; refine (B1.impl_ByteAt _ _ _ hm).mono ?_; rintro e w' ⟨rfl, rfl⟩)
        | (at_builtin; refine J0.append_int rfl (.tmp 20) (.tmp 24) rfl hbuf _ (by rfl) (by rfl) (by omega) hbel.size ?_; intro g1 cap1 w1 hbuf1 bel1))
      go_roundw
      case rel => exact ⟨k + 1, cap1, _, by omega, by go_num, rfl, by rw [← HS.out]; exact hbuf1, hbel.trans bel1⟩
      case measure => simp [intOf]; omega
    · obtain rfl : k = C := by omega
      by_cases h12 : k < 12
      · have e1 : 4 + (k : Int) < 16 := by omega
        have e2 : ¬ (k : Int) < N := fun h => hlt ((hct k).2 ⟨h, h12⟩)
        have e3 : decide ((k : Int) < N) = false := by simpa using e2
        go_wp2
        go_ret
        exact ⟨a, c, rfl, hbuf, hbel⟩
      · have e1 : ¬ 4 + (k : Int) < 16 := by omega
        have e3 : decide (4 + (k : Int) < 16) = false := by simpa using e1
        go_wp2
        go_ret
        exact ⟨a, c, rfl, hbuf, hbel⟩

theorem as00 (v : Value) (w : World) : (Instr.typeAssert (.iface 168 v) 133 168 true).run Try.prog w = .ok (.tuple #[v, .bool true]) w := by kernel_rfl
theorem as10 (v : Value) (w : World) : (Instr.typeAssert (.iface 156 v) 133 168 true).run Try.prog w = .ok (.tuple #[val 0 0 0 none 0 0, .bool false]) w := by kernel_rfl
theorem as20 (v : Value) (w : World) : (Instr.typeAssert (.iface 158 v) 133 168 true).run Try.prog w = .ok (.tuple #[val 0 0 0 none 0 0, .bool false]) w := by kernel_rfl
theorem as11 (v : Value) (w : World) : (Instr.typeAssert (.iface 156 v) 133 156 true).run Try.prog w = .ok (.tuple #[v, .bool true]) w := by kernel_rfl
theorem as21 (v : Value) (w : World) : (Instr.typeAssert (.iface 158 v) 133 156 true).run Try.prog w = .ok (.tuple #[val 0 0 0 none 0 0, .bool false]) w := by kernel_rfl
theorem as22 (v : Value) (w : World) : (Instr.typeAssert (.iface 158 v) 133 158 false).run Try.prog w = .ok v w := by kernel_rfl

theorem isFree0 (v : Value) (k o s : Int) (a : Option Addr) (n c : Nat) (hv : v = val k o s a n c) (w : World) :
    Calls Try.prog 119 #[.iface 168 v] w fun e w' => e = .returned (.bool true) ∧ Below w.heap.size w w' := by
  have ha := as00
  subst hv
  go_enter Try.func119, Try.ntmps119
  go_wp2
  go_ret
  exact ⟨rfl, K0.below_new _ _⟩

theorem isFree1 (v : Value) (k o s : Int) (a : Option Addr) (n c : Nat) (hv : v = val k o s a n c) (w : World) :
    Calls Try.prog 119 #[.iface 156 v] w fun e w' => e = .returned (.bool false) ∧ Below w.heap.size w w' := by
  have ha := as10
  subst hv
  go_enter Try.func119, Try.ntmps119
  go_wp2
  go_ret
  exact ⟨rfl, K0.below_new _ _⟩

theorem isFree2 (v : Value) (k o s : Int) (a : Option Addr) (n c : Nat) (hv : v = val k o s a n c) (w : World) :
    Calls Try.prog 119 #[.iface 158 v] w fun e w' => e = .returned (.bool false) ∧ Below w.heap.size w w' := by
  have ha := as20
  subst hv
  go_enter Try.func119, Try.ntmps119
  go_wp2
  go_ret
  exact ⟨rfl, K0.below_new _ _⟩

theorem inodeOf0 (k o s : Int) (a : Option Addr) (n c : Nat) (w : World) :
    Calls Try.prog 93 #[.iface 168 (val k o s a n c)] w fun e w' => e = .returned (val 0 0 0 none 0 0) ∧ Below w.heap.size w w' := by
  have n0 := K0.blk_new (vals 0 0 0 none 0 0) w 45
  have l0 := K0.below_new w (.cells #[.int .i64 0, .int .i64 0, .int .i64 0, .slice none 0 0] 45)
  go_enter Try.func93, Try.ntmps93
  go_wp2_with (go_at_call 119; refine (isFree0 _ k o s a n c rfl _).mono ?_; rintro e w1 ⟨rfl, b1⟩; have n1 := n0.below b1; have l1 := l0.trans (b1.mono l0.size); have c0 := n1.c0; have c1 := n1.c1; have c2 := n1.c2; have c3 := n1.c3; have f0 := n1.f0; have f1 := n1.f1; have f2 := n1.f2; have f3 := n1.f3)
  have q := n1.put4 (.int .i64 0) (.int .i64 0) (.int .i64 0) (.slice none 0 0)
  refine bodyPost_ret (v := val 0 0 0 none 0 0) (by simp [results, Try.results93, go_sem, q.c0, q.c1, q.c2, q.c3]) rfl ⟨rfl, ?_⟩
  exact (((l1.setCell (p := ⟨w.heap.size, 0, none⟩) (Nat.le_refl _) _).setCell (p := ⟨w.heap.size, 1, none⟩) (Nat.le_refl _) _).setCell (p := ⟨w.heap.size, 2, none⟩) (Nat.le_refl _) _).setCell (p := ⟨w.heap.size, 3, none⟩) (Nat.le_refl _) _

set_option maxHeartbeats 1000000 in
theorem inodeOf1 (k o s : Int) (a : Option Addr) (n c : Nat) (w : World) :
    Calls Try.prog 93 #[.iface 156 (val k o s a n c)] w fun e w' => e = .returned (val k o s a n c) ∧ Below w.heap.size w w' := by
  have ha := as11
  have n0 := K0.blk_new (vals 0 0 0 none 0 0) w 45
  have l0 := K0.below_new w (.cells #[.int .i64 0, .int .i64 0, .int .i64 0, .slice none 0 0] 45)
  go_enter Try.func93, Try.ntmps93
  go_wp2_with (go_at_call 119; refine (isFree1 _ k o s a n c rfl _).mono ?_; rintro e w1 ⟨rfl, b1⟩; have n1 := (n0.below b1).alloc (.cells #[.int .i64 k, .int .i64 o, .int .i64 s, .slice a n c] 156); have l1 := (l0.trans (b1.mono l0.size)).alloc (Nat.le_trans l0.size b1.size) (.cells #[.int .i64 k, .int .i64 o, .int .i64 s, .slice a n c] 156); have c0 := n1.c0; have c1 := n1.c1; have c2 := n1.c2; have c3 := n1.c3; have f0 := n1.f0; have f1 := n1.f1; have f2 := n1.f2; have f3 := n1.f3)
  have q := n1.put4 (.int .i64 k) (.int .i64 o) (.int .i64 s) (.slice a n c)
  refine bodyPost_ret (v := val k o s a n c) (by simp [results, Try.results93, go_sem, q.c0, q.c1, q.c2, q.c3]) rfl ⟨rfl, ?_⟩
  exact (((l1.setCell (p := ⟨w.heap.size, 0, none⟩) (Nat.le_refl _) _).setCell (p := ⟨w.heap.size, 1, none⟩) (Nat.le_refl _) _).setCell (p := ⟨w.heap.size, 2, none⟩) (Nat.le_refl _) _).setCell (p := ⟨w.heap.size, 3, none⟩) (Nat.le_refl _) _

set_option maxHeartbeats 1000000 in
theorem inodeOf2 (k o s : Int) (a : Option Addr) (n c : Nat) (w : World) :
    Calls Try.prog 93 #[.iface 158 (val k o s a n c)] w fun e w' => e = .returned (val k o s a n c) ∧ Below w.heap.size w w' := by
  have ha := as21
  have hb := as22
  have n0 := K0.blk_new (vals 0 0 0 none 0 0) w 45
  have l0 := K0.below_new w (.cells #[.int .i64 0, .int .i64 0, .int .i64 0, .slice none 0 0] 45)
  go_enter Try.func93, Try.ntmps93
  go_wp2_with (go_at_call 119; refine (isFree2 _ k o s a n c rfl _).mono ?_; rintro e w1 ⟨rfl, b1⟩; have n1 := (n0.below b1).alloc (.cells #[.int .i64 0, .int .i64 0, .int .i64 0, .slice none 0 0] 156); have l1 := (l0.trans (b1.mono l0.size)).alloc (Nat.le_trans l0.size b1.size) (.cells #[.int .i64 0, .int .i64 0, .int .i64 0, .slice none 0 0] 156); have c0 := n1.c0; have c1 := n1.c1; have c2 := n1.c2; have c3 := n1.c3; have f0 := n1.f0; have f1 := n1.f1; have f2 := n1.f2; have f3 := n1.f3)
  have q := n1.put4 (.int .i64 k) (.int .i64 o) (.int .i64 s) (.slice a n c)
  refine bodyPost_ret (v := val k o s a n c) (by simp [results, Try.results93, go_sem, q.c0, q.c1, q.c2, q.c3]) rfl ⟨rfl, ?_⟩
  exact (((l1.setCell (p := ⟨w.heap.size, 0, none⟩) (Nat.le_refl _) _).setCell (p := ⟨w.heap.size, 1, none⟩) (Nat.le_refl _) _).setCell (p := ⟨w.heap.size, 2, none⟩) (Nat.le_refl _) _).setCell (p := ⟨w.heap.size, 3, none⟩) (Nat.le_refl _) _
end Go.Proofs.Ytddlpejklpljoaa.G1
