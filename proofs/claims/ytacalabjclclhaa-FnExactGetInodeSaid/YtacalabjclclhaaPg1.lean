/- Contracts of spec.l02Has, spec.l03Pages, spec.l03Need, impl.pagesOk and impl.pagesFor, as the given laws call them. -/
import Derived.Test.YtacalabjclclhaaPg0
import Derived.Test.YtacalabjclclhaaShelf
import Derived.Deep.QuietTactic
import Derived.BigQuiet
namespace Go.Proofs.Ytacalabjclclhaa.P1
open Go.ChangeShapes Go.WideShapes Go.ChangeAt Go.RowKit
set_option linter.unusedVariables false
set_option linter.unusedSimpArgs false
set_option maxRecDepth 10000

theorem ret_bool {a b : Bool} (h : a = b) : Ending.returned (.bool a) = .returned (.bool b) := by rw [h]

theorem l02Has (b off n c : Nat) (zs : List Int) (x : Int) (w : World) (hz : n ≤ zs.length) (hbig : n ≤ 281474976710656) (hc : ∀ j, j < zs.length → w.cell? ⟨b, off + j, none⟩ = some (.int .i64 (zs.getD j 0))) :
    Calls Try.prog 119 #[.slice (some ⟨b, off, none⟩) n c, .int .i64 x] w fun e w' => e = .returned (.bool (P0.has (zs.take n) x)) ∧ w' = w := by
  go_enter Try.func119, Try.ntmps119
  go_wp2
  go_loop [5] (fun i => ∃ k : Nat, k ≤ n ∧ P0.has (zs.take k) x = false ∧ i = .int .i64 k) (fun i => n - (intOf i).toNat)
  case atStart => exact ⟨0, Nat.zero_le _, rfl, rfl⟩
  case round =>
    obtain ⟨k, hk, hno, rfl⟩ := hrel
    by_cases hlt : k < n
    · have x1 := hc k (by omega)
      have hs := P0.contains_succ zs k x (by omega)
      have hin := fun h : x = zs.getD k 0 => h ▸ P0.contains_of (zs := zs) hlt hz
      obtain ⟨z, ez⟩ : ∃ z, zs.getD k 0 = z := ⟨_, rfl⟩
      rw [ez] at x1 hs hin
      have e1 : (0 : Int) ≤ (k : Int) := by omega
      have e2 : (k : Int) < (n : Int) := by omega
      by_cases h : z = x
      · have h' : (z == x) = true := by simpa using h
        have HR : Hid (P0.has (zs.take n) x = true) := hin h.symm
        clear h hs hin hno ez hc
        go_wp2
        go_ret
        exact ⟨ret_bool HR.out.symm, rfl⟩
      · have h' : (z == x) = false := by simpa using h
        have HN : Hid (P0.has (zs.take (k + 1)) x = false) := by
          rw [hs, hno, show (x == z) = false by simpa using fun q : x = z => h q.symm]
          rfl
        clear h hs hin hno ez hc
        go_wp2
        go_round
        case rel => exact ⟨k + 1, by omega, HN.out, by go_num⟩
        case measure => simp [intOf]; omega
    · obtain rfl : k = n := by omega
      have HN : Hid (P0.has (zs.take k) x = false) := hno
      clear hno hc
      go_wp2
      go_ret
      exact ⟨ret_bool HN.out.symm, rfl⟩

theorem quiet_bool {P : Program} {f : FuncId} {args : Array Value} {w : World} {n : Nat} {a b : Bool} (h : Calls P f args (w.drewN n) fun e w' => e = .returned (.bool a) ∧ w' = w.drewN n) (hab : a = b) :
    Calls P f args (w.drewN n) fun e w'' => e = .returned (.bool b) ∧ ∃ m, w'' = w.drewN m := hab ▸ Calls.quiet_of_same h

set_option maxHeartbeats 1000000 in
theorem l03Pages (a : Option Addr) (c : Nat) (zs : List Int) (w : World) (hbig : zs.length ≤ 281474976710656) (hcap : zs.length ≤ c) (hR : P0.Row w a zs) :
    Calls Try.prog 105 #[.slice a zs.length c] w fun e w' => e = .returned (.bool (P0.pagesOk zs)) ∧ ∃ n, w' = w.drewN n := by
  go_enter Try.func105, Try.ntmps105
  go_wp2
  go_loopw [3] (fun i w' => ∃ k n : Nat, k ≤ zs.length ∧ P0.okUpto zs k = true ∧ i = .int .i64 k ∧ w' = w.drewN n) (fun i _ => zs.length - (intOf i).toNat)
  case atStart => exact ⟨0, 0, Nat.zero_le _, rfl, rfl, rfl⟩
  case round =>
    obtain ⟨k, n, hk, hok, rfl, hW⟩ := hrel
    have HW : Hid (∀ m, ∃ m', wr.drewN m = w.drewN m') := fun m => ⟨n + m, by rw [hW, World.drewN_drewN]⟩
    by_cases hlt : k < zs.length
    · have hR' : P0.Row wr a zs := by rw [hW]; exact hR.drewN n
      obtain ⟨b, off, rfl, hb, hc⟩ := hR'.get hlt
      have hH : Hid (∀ m x, Calls Try.prog 119 #[.slice (some ⟨b, off, none⟩) k c, .int .i64 x] (wr.drewN m) fun e w' => e = .returned (.bool (P0.has (zs.take k) x)) ∧ w' = wr.drewN m) := fun m x => l02Has b off k c zs x _ (by omega) (by omega) hc
      have x1 := hc k hlt
      have hs := P0.okUpto_succ zs k
      have hat : P0.okAt zs k = (B1.inB (zs.getD k 0) 5 23 && !(P0.has (zs.take k) (zs.getD k 0))) := rfl
      obtain ⟨z, ez⟩ : ∃ z, zs.getD k 0 = z := ⟨_, rfl⟩
      rw [ez] at x1 hat
      have e1 : (0 : Int) ≤ (k : Int) := by omega
      have e2 : (k : Int) < (zs.length : Int) := by omega
      have e3 : (k : Int) ≤ (c : Int) := by omega
      by_cases h1 : B1.inB z 5 23 = true
      · by_cases h2 : P0.has (zs.take k) z = true
        · have HR : Hid (P0.pagesOk zs = false) := P0.okUpto_bad hlt (by rw [hat, h1, h2]; rfl)
          clear hs hat hok ez hc hR hR' hW
          go_wp2
          go_quiet ((first | (go_at_call 104; exact quiet_bool (B1.l01In_any _ _ _ _) h1) | (go_at_call 119; exact quiet_bool (hH.out _ _) h2)))
          go_wp2
          go_ret
          exact ⟨ret_bool HR.out.symm, HW.out _⟩
        · have h2' : P0.has (zs.take k) z = false := by simpa using h2
          have HO : Hid (P0.okUpto zs (k + 1) = true) := by rw [hs, hok, hat, h1, h2']; rfl
          clear hs hat hok ez hc hR hR' hW h2
          go_wp2
          go_quiet ((first | (go_at_call 104; exact quiet_bool (B1.l01In_any _ _ _ _) h1) | (go_at_call 119; exact quiet_bool (hH.out _ _) h2')))
          go_wp2
          obtain ⟨m', hm'⟩ := HW.out nq
          go_roundw
          case rel => exact ⟨k + 1, m', by omega, HO.out, by go_num, hm'⟩
          case measure => simp [intOf]; omega
      · have h1' : B1.inB z 5 23 = false := by simpa using h1
        have HR : Hid (P0.pagesOk zs = false) := P0.okUpto_bad hlt (by rw [hat, h1']; rfl)
        clear hs hat hok ez hc hR hR' hW h1
        go_wp2
        go_quiet ((go_at_call 104; exact quiet_bool (B1.l01In_any _ _ _ _) h1'))
        go_wp2
        go_ret
        exact ⟨ret_bool HR.out.symm, HW.out _⟩
    · obtain rfl : k = zs.length := by omega
      have HR : Hid (P0.pagesOk zs = true) := hok
      have HW0 : Hid (wr = w.drewN n) := hW
      clear hok hR hW
      go_wp2
      go_ret
      exact ⟨ret_bool HR.out.symm, n, HW0.out⟩

theorem impl_Contains (b off n c : Nat) (zs : List Int) (x : Int) (w : World) (hz : n ≤ zs.length) (hbig : n ≤ 281474976710656) (hc : ∀ j, j < zs.length → w.cell? ⟨b, off + j, none⟩ = some (.int .i64 (zs.getD j 0))) :
    Calls Try.prog 171 #[.slice (some ⟨b, off, none⟩) n c, .int .i64 x] w fun e w' => e = .returned (.bool (P0.has (zs.take n) x)) ∧ w' = w :=
  Try.slices_Contains_int b off n c zs x w hz (by omega) hc

set_option maxHeartbeats 1000000 in
theorem pagesOk (a : Option Addr) (c : Nat) (zs : List Int) (w : World) (hbig : zs.length ≤ 281474976710656) (hcap : zs.length ≤ c) (hR : P0.Row w a zs) :
    Calls Try.prog 169 #[.slice a zs.length c] w fun e w' => e = .returned (.bool (P0.pagesOk zs)) ∧ w' = w := by
  go_enter Try.func169, Try.ntmps169
  go_wp2
  go_loop [7] (fun i => ∃ k : Nat, k ≤ zs.length ∧ P0.okUpto zs k = true ∧ i = .int .i64 k) (fun i => zs.length - (intOf i).toNat)
  case atStart => exact ⟨0, Nat.zero_le _, rfl, rfl⟩
  case round =>
    obtain ⟨k, hk, hok, rfl⟩ := hrel
    by_cases hlt : k < zs.length
    · obtain ⟨b, off, rfl, hb, hc⟩ := hR.get hlt
      have hH : Hid (∀ x, Calls Try.prog 171 #[.slice (some ⟨b, off, none⟩) k c, .int .i64 x] w fun e w' => e = .returned (.bool (P0.has (zs.take k) x)) ∧ w' = w) := fun x => impl_Contains b off k c zs x _ (by omega) (by omega) hc
      have x1 := hc k hlt
      have hs := P0.okUpto_succ zs k
      have hat : P0.okAt zs k = (B1.inB (zs.getD k 0) 5 23 && !(P0.has (zs.take k) (zs.getD k 0))) := rfl
      obtain ⟨z, ez⟩ : ∃ z, zs.getD k 0 = z := ⟨_, rfl⟩
      rw [ez] at x1 hat
      have e1 : (0 : Int) ≤ (k : Int) := by omega
      have e2 : (k : Int) < (zs.length : Int) := by omega
      have e3 : (k : Int) ≤ (c : Int) := by omega
      by_cases g1 : z < 5
      · have HR : Hid (P0.pagesOk zs = false) := P0.okUpto_bad hlt (by rw [hat, show B1.inB z 5 23 = false from decide_eq_false (by omega)]; rfl)
        clear hs hat hok ez hc hR
        go_wp2
        go_ret
        exact ⟨ret_bool HR.out.symm, rfl⟩
      · by_cases g2 : 24 ≤ z
        · have HR : Hid (P0.pagesOk zs = false) := P0.okUpto_bad hlt (by rw [hat, show B1.inB z 5 23 = false from decide_eq_false (by omega)]; rfl)
          clear hs hat hok ez hc hR
          go_wp2
          go_ret
          exact ⟨ret_bool HR.out.symm, rfl⟩
        · have h1 : B1.inB z 5 23 = true := decide_eq_true (by omega)
          by_cases h2 : P0.has (zs.take k) z = true
          · have HR : Hid (P0.pagesOk zs = false) := P0.okUpto_bad hlt (by rw [hat, h1, h2]; rfl)
            clear hs hat hok ez hc hR
            go_wp2_with (go_at_call 171; refine (hH.out _).mono ?_; rintro e w' ⟨rfl, rfl⟩)
            go_ret
            exact ⟨ret_bool HR.out.symm, rfl⟩
          · have h2' : P0.has (zs.take k) z = false := by simpa using h2
            have HO : Hid (P0.okUpto zs (k + 1) = true) := by rw [hs, hok, hat, h1, h2']; rfl
            clear hs hat hok ez hc hR h2
            go_wp2_with (go_at_call 171; refine (hH.out _).mono ?_; rintro e w' ⟨rfl, rfl⟩)
            go_round
            case rel => exact ⟨k + 1, by omega, HO.out, by go_num⟩
            case measure => simp [intOf]; omega
    · obtain rfl : k = zs.length := by omega
      have HR : Hid (P0.pagesOk zs = true) := hok
      clear hok hR
      go_wp2
      go_ret
      exact ⟨ret_bool HR.out.symm, rfl⟩

theorem l03Need (s : Int) (w : World) (h0 : 0 ≤ s) (h1 : s ≤ 65535) :
    Calls Try.prog 92 #[.int .i64 s] w fun e w' => e = .returned (.int .i64 (P0.need s)) ∧ w' = w := by
  have e : P0.need s = (s + 32 - 1) / 32 := by unfold P0.need; omega
  rw [e]
  go_enter Try.func92, Try.ntmps92
  go_wp2
  go_ret
  exact ⟨rfl, rfl⟩

theorem pagesFor (s : Int) (w : World) (h0 : 0 ≤ s) (h1 : s ≤ 65535) :
    Calls Try.prog 145 #[.int .i64 s] w fun e w' => e = .returned (.int .i64 (P0.need s)) ∧ w' = w := by
  have e : P0.need s = (s + 32 - 1) / 32 := by unfold P0.need; omega
  rw [e]
  go_enter Try.func145, Try.ntmps145
  go_wp2
  go_ret
  exact ⟨rfl, rfl⟩
end Go.Proofs.Ytacalabjclclhaa.P1
