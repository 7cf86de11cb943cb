/- Plain facts on a power cut; contracts of spec.l02Has and slices.Contains over rows of numbers. -/
import Derived.Test.YtkpcpffpiilcpaaDrt2
import Derived.Test.YtkpcpffpiilcpaaShelf
namespace Go.Proofs.Ytkpcpffpiilcpaa.W0
open Go.ChangeShapes Go.WideShapes Go.ChangeAt Go.RowKit
open X0 (row mix)
set_option linter.unusedVariables false
set_option linter.unusedSimpArgs false
set_option maxRecDepth 10000

def has (l : List Int) (x : Int) : Bool := l.contains x

theorem getD_get (zs : List Int) (k : Nat) (h : k < zs.length) : zs.getD k 0 = zs[k] := by simp [List.getD, h]

theorem contains_succ (zs : List Int) (k : Nat) (x : Int) (h : k < zs.length) : has (zs.take (k + 1)) x = (has (zs.take k) x || x == zs.getD k 0) := by
  unfold has
  rw [List.take_succ_eq_append_getElem h, List.contains_eq_any_beq, List.contains_eq_any_beq, List.any_append, getD_get _ _ h]
  simp

theorem contains_of {zs : List Int} {k n : Nat} (hk : k < n) (hn : n ≤ zs.length) : has (zs.take n) (zs.getD k 0) = true := by
  unfold has
  rw [List.contains_iff_mem]
  rw [getD_get _ _ (by omega)]
  exact List.mem_iff_getElem.2 ⟨k, by simp; omega, by simp⟩

theorem ret_bool {a b : Bool} (h : a = b) : Ending.returned (.bool a) = .returned (.bool b) := by rw [h]

theorem l02Has (b off n c : Nat) (zs : List Int) (x : Int) (w : World) (hz : n ≤ zs.length) (hbig : n ≤ 281474976710656) (hc : ∀ j, j < zs.length → w.cell? ⟨b, off + j, none⟩ = some (.int .i64 (zs.getD j 0))) :
    Calls Try.prog 52 #[.slice (some ⟨b, off, none⟩) n c, .int .i64 x] w fun e w' => e = .returned (.bool (has (zs.take n) x)) ∧ w' = w := by
  go_enter Try.func52, Try.ntmps52
  go_wp2
  go_loop [5] (fun i => ∃ k : Nat, k ≤ n ∧ has (zs.take k) x = false ∧ i = .int .i64 k) (fun i => n - (intOf i).toNat)
  case atStart => exact ⟨0, Nat.zero_le _, rfl, rfl⟩
  case round =>
    obtain ⟨k, hk, hno, rfl⟩ := hrel
    by_cases hlt : k < n
    · have x1 := hc k (by omega)
      have hs := contains_succ zs k x (by omega)
      have hin := fun h : x = zs.getD k 0 => h ▸ contains_of (zs := zs) hlt hz
      obtain ⟨z, ez⟩ : ∃ z, zs.getD k 0 = z := ⟨_, rfl⟩
      rw [ez] at x1 hs hin
      have e1 : (0 : Int) ≤ (k : Int) := by omega
      have e2 : (k : Int) < (n : Int) := by omega
      by_cases h : z = x
      · have h' : (z == x) = true := by simpa using h
        have HR : Hid (has (zs.take n) x = true) := hin h.symm
        clear h hs hin hno ez hc
        go_wp2
        go_ret
        exact ⟨ret_bool HR.out.symm, rfl⟩
      · have h' : (z == x) = false := by simpa using h
        have HN : Hid (has (zs.take (k + 1)) x = false) := by
          rw [hs, hno, show (x == z) = false by simpa using fun q : x = z => h q.symm]
          rfl
        clear h hs hin hno ez hc
        go_wp2
        go_round
        case rel => exact ⟨k + 1, by omega, HN.out, by go_num⟩
        case measure => simp [intOf]; omega
    · obtain rfl : k = n := by omega
      have HN : Hid (has (zs.take k) x = false) := hno
      clear hno hc
      go_wp2
      go_ret
      exact ⟨ret_bool HN.out.symm, rfl⟩

theorem l02Has_none (a : Option Addr) (c : Nat) (x : Int) (w : World) : Calls Try.prog 52 #[.slice a 0 c, .int .i64 x] w fun e w' => e = .returned (.bool false) ∧ w' = w := by
  go_enter Try.func52, Try.ntmps52
  go_wp2
  go_loop [5] (fun i => i = .int .i64 0) (fun i => 0)
  case atStart => rfl
  case round =>
    obtain rfl := hrel
    go_wp2
    go_ret
    exact ⟨rfl, rfl⟩

theorem spec_has (a : Option Addr) (c : Nat) (zs : List Int) (x : Int) (w : World) (hbig : zs.length ≤ 1048576) (hR : P0.Row w a zs) :
    Calls Try.prog 52 #[.slice a zs.length c, .int .i64 x] w fun e w' => e = .returned (.bool (has zs x)) ∧ w' = w := by
  rcases hR with rfl | ⟨b, off, rfl, hb, hc⟩
  · exact l02Has_none a c x w
  · have := l02Has b off zs.length c zs x w (Nat.le_refl _) (by omega) hc
    rwa [List.take_length] at this

theorem impl_has (a : Option Addr) (c : Nat) (zs : List Int) (x : Int) (w : World) (hbig : zs.length ≤ 1048576) (hR : P0.Row w a zs) :
    Calls Try.prog 51 #[.slice a zs.length c, .int .i64 x] w fun e w' => e = .returned (.bool (has zs x)) ∧ w' = w := by
  rcases hR with rfl | ⟨b, off, rfl, hb, hc⟩
  · exact Try.slices_Contains_int_empty a c x w
  · have := Try.slices_Contains_int b off zs.length c zs x w (Nat.le_refl _) (by omega) hc
    rwa [List.take_length] at this

/-- Which lines a power cut leaves as they were written. -/
def pick (kept : List Int) (k : Nat) : Bool := has kept (k : Int)

/-- What both texts are behind a power cut. -/
def pw (a b : ByteArray) (kept : List Int) : ByteArray := ⟨(mix a.data.toList b.data.toList (pick kept)).toArray⟩

def pMem (a b : ByteArray) (kept : List Int) : ByteArray := if D1.ok a b then pw a b kept else a
def pDur (a b : ByteArray) (kept : List Int) : ByteArray := if D1.ok a b then pw a b kept else b

theorem mix_rows (la lb : List UInt8) (p q : Nat → Bool) (ha : la.length = 768) (hb : lb.length = 768) (h : ∀ k, k < 96 → p k = q k ∨ row la k = row lb k) : mix la lb p = mix la lb q := by
  apply List.map_congr_left
  intro j hj
  have hj' : j < 768 := by simpa using hj
  rcases h (j / 8) (by omega) with e | e
  · rw [e]
  · have h1 : (row la (j / 8))[j % 8]? = (row lb (j / 8))[j % 8]? := by rw [e]
    rw [X0.row_get (by omega), X0.row_get (by omega), show j / 8 * 8 + j % 8 = j by omega, X0.get_of ha hj', X0.get_of hb hj'] at h1
    have h2 : la.getD j 0 = lb.getD j 0 := by simpa using h1
    rw [h2]
    split <;> split <;> rfl

/-- Those of the first lines of a list that are kept. -/
def sel (Z kept : List Int) (i : Nat) (k : Nat) : Bool := has (Z.take i) (k : Int) && has kept (k : Int)

theorem sel_other {Z kept : List Int} {i q : Nat} (hi : i < Z.length) (hq : Z.getD i 0 = (q : Int)) : ∀ k, k < 96 → k ≠ q → sel Z kept i k = sel Z kept (i + 1) k := by
  intro k _ hk
  unfold sel
  rw [contains_succ _ _ _ hi, hq, show ((k : Int) == (q : Int)) = false by simp; omega, Bool.or_false]

theorem sel_yes {Z kept : List Int} {i q : Nat} (hi : i < Z.length) (hq : Z.getD i 0 = (q : Int)) (hk : has kept (q : Int) = true) : sel Z kept (i + 1) q = true := by
  unfold sel
  rw [contains_succ _ _ _ hi, hq, hk, show ((q : Int) == (q : Int)) = true by simp, Bool.or_true]
  rfl

theorem sel_no {Z kept : List Int} {i q : Nat} (hi : i < Z.length) (hq : Z.getD i 0 = (q : Int)) (hk : has kept (q : Int) = false) : ∀ k, k < 96 → sel Z kept i k = sel Z kept (i + 1) k := by
  intro k h96
  by_cases e : k = q
  · subst e
    unfold sel
    rw [hk, Bool.and_false, Bool.and_false]
  · exact sel_other hi hq k h96 e

theorem drt_mem {a b : ByteArray} {n : Nat} {x : Int} : x ∈ Y0.drt a b n ↔ ∃ k : Nat, k < n ∧ Y0.same a b k = false ∧ x = (k : Int) := by
  simp only [Y0.drt, List.mem_map, List.mem_filter, List.mem_range]
  constructor
  · rintro ⟨k, ⟨h1, h2⟩, rfl⟩
    exact ⟨k, h1, by simpa using h2, rfl⟩
  · rintro ⟨k, h1, h2, rfl⟩
    exact ⟨k, ⟨h1, by simpa using h2⟩, rfl⟩

theorem drt_get {a b : ByteArray} {i : Nat} (hi : i < (Y0.drt a b 96).length) : ∃ q : Nat, q < 96 ∧ (Y0.drt a b 96).getD i 0 = (q : Int) := by
  rw [getD_get _ _ hi]
  obtain ⟨k, h1, _, h3⟩ := drt_mem.1 (List.getElem_mem hi)
  exact ⟨k, h1, h3⟩

/-- All dirty lines that are kept: the same as all that are kept. -/
theorem sel_all {a b : ByteArray} {kept : List Int} (ha : a.size = 768) (hb : b.size = 768) : mix a.data.toList b.data.toList (sel (Y0.drt a b 96) kept (Y0.drt a b 96).length) = mix a.data.toList b.data.toList (pick kept) := by
  refine mix_rows _ _ _ _ (by rw [← Lib.size_eq]; exact ha) (by rw [← Lib.size_eq]; exact hb) ?_
  intro k hk
  by_cases hs : row a.data.toList k = row b.data.toList k
  · exact Or.inr hs
  · left
    have h1 : has (Y0.drt a b 96) (k : Int) = true := by
      unfold has
      rw [List.contains_iff_mem]
      exact drt_mem.2 ⟨k, hk, by rw [Y1.same_row ha hb hk]; exact decide_eq_false hs, rfl⟩
    rw [sel, List.take_length, h1, Bool.true_and]
    rfl
end Go.Proofs.Ytkpcpffpiilcpaa.W0
