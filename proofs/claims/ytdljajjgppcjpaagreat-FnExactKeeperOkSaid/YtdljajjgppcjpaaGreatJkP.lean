/- Joined texts: plain facts and contracts, as each part says. -/
import Derived.Test.YtdljajjgppcjpaaGreatJkL
import Derived.Test.YtdljajjgppcjpaaGreatJkO
import Derived.Test.YtdljajjgppcjpaaGreatJkD
import Derived.Deep.RegionLaw
import Derived.Deep.AppendLies
import Derived.Deep.RegionHeld3
import Derived.Test.YtdljajjgppcjpaaGreatJkN
import Derived.Test.YtdljajjgppcjpaaGreatJkJ

/- The contracts of spec.l04Add and spec.l05Only at any row, as the given laws call them. -/
namespace Go.Proofs.YtdljajjgppcjpaaGreat.Y5
open Go.ChangeShapes Go.WideShapes Go.ChangeAt Go.RowKit
set_option linter.unusedVariables false
set_option linter.unusedSimpArgs false
set_option maxRecDepth 10000

open J0 (IBuf Own)
open I2 (ints)
open Y2 (step_rows row_grown ibuf_mono)

/-- A number put ahead of the first that is not less. -/
def ins (zs : List Int) (x : Int) : List Int := zs.takeWhile (fun z => decide (z < x)) ++ x :: zs.dropWhile (fun z => decide (z < x))

theorem ins_at {zs : List Int} {x : Int} {k : Nat} (hk : k ≤ zs.length) (h1 : ∀ j, j < k → zs.getD j 0 < x) (h2 : k < zs.length → ¬ zs.getD k 0 < x) : ins zs x = zs.take k ++ x :: zs.drop k := by
  induction zs generalizing k with
  | nil => cases k <;> rfl
  | cons z zs ih =>
    cases k with
    | zero =>
      have h := h2 (by simp)
      have h' : ¬ z < x := by simpa using h
      simp [ins, List.takeWhile_cons, List.dropWhile_cons, h']
    | succ k =>
      have h := h1 0 (by omega)
      have h' : z < x := by simpa using h
      have hi := ih (k := k) (by simpa using hk) (fun j hj => by simpa using h1 (j + 1) (by omega)) (fun hl => by simpa using h2 (by simpa using hl))
      unfold ins at hi ⊢
      simp only [List.takeWhile_cons, List.dropWhile_cons, decide_eq_true h', if_true, List.cons_append, List.take_succ_cons, List.drop_succ_cons]
      rw [hi]

theorem ins_length (zs : List Int) (x : Int) : (ins zs x).length = zs.length + 1 := by
  unfold ins
  have := congrArg List.length (List.takeWhile_append_dropWhile (p := fun z => decide (z < x)) (l := zs))
  simp only [List.length_append, List.length_cons] at this ⊢
  omega

theorem ins_perm (zs : List Int) (x : Int) : (ins zs x).Perm (x :: zs) := by
  unfold ins
  refine (List.perm_middle).trans ?_
  rw [List.takeWhile_append_dropWhile]

theorem ins_sorted {zs : List Int} (x : Int) (h : zs.Pairwise (· ≤ ·)) : (ins zs x).Pairwise (· ≤ ·) := by
  induction zs with
  | nil => simp [ins]
  | cons z zs ih =>
    have hz := List.pairwise_cons.1 h
    by_cases hx : z < x
    · have : ins (z :: zs) x = z :: ins zs x := by simp [ins, List.takeWhile_cons, List.dropWhile_cons, hx]
      rw [this, List.pairwise_cons]
      refine ⟨fun y hy => ?_, ih hz.2⟩
      rcases List.mem_cons.1 ((ins_perm zs x).mem_iff.1 hy) with rfl | hm
      · omega
      · exact hz.1 y hm
    · have : ins (z :: zs) x = x :: z :: zs := by simp [ins, List.takeWhile_cons, List.dropWhile_cons, hx]
      rw [this, List.pairwise_cons]
      refine ⟨fun y hy => ?_, h⟩
      rcases List.mem_cons.1 hy with rfl | hm
      · omega
      · have := hz.1 y hm
        omega

theorem ret_len {a : Option Addr} {c n m : Nat} (h : n = m) : Ending.returned (.slice a n c) = .returned (.slice a m c) := by rw [h]

theorem row_drop {W : World} {g off k : Nat} {zs : List Int} (h : P0.Row W (some ⟨g, off, none⟩) zs) (hk : k ≤ zs.length) : P0.Row W (some ⟨g, off + k, none⟩) (zs.drop k) := by
  rcases h with h | ⟨b, o, e, hlt, hc⟩
  · subst h
    exact Or.inl (by simp)
  · cases e
    refine Or.inr ⟨g, off + k, rfl, hlt, fun j hj => ?_⟩
    rw [List.length_drop] at hj
    have := hc (k + j) (by omega)
    rw [show off + k + j = off + (k + j) by omega, this, P0.getD_get _ _ (by omega), P0.getD_get _ _ (by rw [List.length_drop]; omega), List.getElem_drop]
theorem row_take {W : World} {g off k : Nat} {zs : List Int} (h : P0.Row W (some ⟨g, off, none⟩) zs) (hk : k ≤ zs.length) : P0.Row W (some ⟨g, off, none⟩) (zs.take k) := by
  rcases h with h | ⟨b, o, e, hlt, hc⟩
  · subst h
    exact Or.inl (by simp)
  · cases e
    refine Or.inr ⟨g, off, rfl, hlt, fun j hj => ?_⟩
    rw [List.length_take] at hj
    rw [hc j (by omega), P0.getD_get _ _ (by omega), P0.getD_get _ _ (by rw [List.length_take]; omega), List.getElem_take]

set_option maxHeartbeats 4000000 in
theorem l04Add (g off c : Nat) (zs : List Int) (x : Int) (w : World) (hn : zs.length ≤ 1048576) (hc : zs.length ≤ c) (hR : P0.Row w (some ⟨g, off, none⟩) zs) :
    Calls Tryz.prog 94 #[.slice (some ⟨g, off, none⟩) zs.length c, .int .i64 x] w fun e w' => ∃ a' c', e = .returned (.slice a' (zs.length + 1) c') ∧ IBuf w.heap.size w' a' (zs.length + 1) c' (ins zs x) ∧ Below w.heap.size w w' := by
  go_enter Tryz.func94, Tryz.ntmps94
  go_wp2
  go_loop [5] (fun i => ∃ k : Nat, k ≤ zs.length ∧ (∀ j, j < k → zs.getD j 0 < x) ∧ i = .int .i64 k) (fun i => zs.length - (intOf i).toNat)
  case atStart => exact ⟨0, Nat.zero_le _, fun j hj => absurd hj (by omega), rfl⟩
  case round =>
    obtain ⟨k, hk, hless, rfl⟩ := hrel
    have hgo : (k < zs.length ∧ zs.getD k 0 < x) ∨ ((k < zs.length → ¬ zs.getD k 0 < x)) := by
      by_cases h1 : k < zs.length
      · by_cases h2 : zs.getD k 0 < x
        · exact Or.inl ⟨h1, h2⟩
        · exact Or.inr fun _ => h2
      · exact Or.inr fun h => absurd h h1
    rcases hgo with ⟨hlt, x2⟩ | hend
    · obtain ⟨b, of2, hab, _, hcl⟩ := hR.get hlt
      cases hab
      have x1 := hcl k hlt
      have HL : Hid (∀ j, j < k + 1 → zs.getD j 0 < x) := fun j hj => by
        by_cases h : j = k
        · subst h; exact x2
        · exact hless j (by omega)
      obtain ⟨z, ez⟩ : ∃ z, zs.getD k 0 = z := ⟨_, rfl⟩
      rw [ez] at x1 x2
      have e1 : (0 : Int) ≤ (k : Int) := by omega
      have e2 : (k : Int) < (zs.length : Int) := by omega
      clear ez hcl hR hless
      go_wp2
      go_round
      case rel => exact ⟨k + 1, by omega, HL.out, by go_num⟩
      case measure => simp [intOf]; omega
    · have HI : Hid (ins zs x = zs.take k ++ x :: zs.drop k) := ins_at hk hless hend
      have e1 : (0 : Int) ≤ (k : Int) := by omega
      have e2 : (k : Int) ≤ (c : Int) := by omega
      have e3 : (k : Int) ≤ (zs.length : Int) := by omega
      have L0 : Below w.heap.size w w.drew := (Below.refl _ _).drew
      have L1 := L0.alloc L0.size (.cells #[] 3)
      have L2 := L1.alloc L1.size (.cells #[.int .i64 x] 3)
      have M1 := L0.alloc L0.size (.cells #[.int .i64 x] 3)
      have L3 := M1.alloc M1.size (.cells #[] 3)
      have B1 := J0.ibuf_made w.drew L0.size
      have B2 := B1.alloc (.cells #[.int .i64 x] 3)
      have B3 := J0.ibuf_made (w.drew.alloc (.cells #[.int .i64 x] 3)) M1.size
      have X2 := Y1.row_one (w.drew.alloc (.cells #[] 3)) x
      have X3 := (Y1.row_one w.drew x).alloc (.cells #[] 3)
      have hTr := row_take (k := k) hR hk
      have hDr := row_drop (k := k) hR hk
      have hTl : (zs.take k).length = k := by rw [List.length_take]; omega
      have hDl : (zs.drop k).length = zs.length - k := List.length_drop
      have hsum : k + (zs.length - k) = zs.length := by omega
      -- the test, as the walk meets it
      have htest : (k = zs.length) ∨ (k < zs.length ∧ ∃ z, w.cell? ⟨g, off + k, none⟩ = some (.int .i64 z) ∧ decide (z < x) = false) := by
        by_cases h : k < zs.length
        · right
          obtain ⟨b, of2, hab, _, hcl⟩ := hR.get h
          cases hab
          exact ⟨h, _, hcl k h, by simpa using hend h⟩
        · left; omega
      obtain ⟨T, hT⟩ : ∃ T, zs.take k = T := ⟨_, rfl⟩
      obtain ⟨D, hD⟩ : ∃ D, zs.drop k = D := ⟨_, rfl⟩
      rw [hT] at HI hTr hTl
      rw [hD] at HI hDr hDl
      clear hT hD hless hend hR
      rcases htest with hkn | ⟨hkn, z, hz, hzx⟩
      · subst hkn
        obtain rfl : D = [] := List.eq_nil_of_length_eq_zero (by omega)
        have e9 : decide ((zs.length : Int) < (zs.length : Int)) = false := by simp
        clear hDr hDl hsum
        by_cases hcn : c = zs.length
        · subst c
          clear hk hc
          go_wp2
          go_region_law (first
            | (refine step_rows rfl (.tmp 27) (.tmp 30) rfl f8 (some ⟨g, off, none⟩) (0) [] (by simp [Act.eval, Act.put, hTl]) (by simp [Act.eval, Act.put, hTl]) (Or.inl rfl) (by simp only [List.length_cons, List.length_nil]; omega) l8.size ?_; intro a9 c9 w9 f9 g9; have l9 := l8.trans (D7.run_below f8 l8.size g9))
            | (refine step_rows rfl (.tmp 24) (.tmp 26) rfl f7 _ _ [x] (by simp [Act.eval, Act.put, hTl]) (by simp [Act.eval, Act.put]; rfl) x7 (by simp only [List.length_cons, List.length_nil]; omega) l7.size ?_; intro a8 c8 w8 f8 g8; have l8 := l7.trans (D7.run_below f7 l7.size g8))
            | (refine step_rows rfl (.tmp 24) (.tmp 26) rfl (f7.alloc (.cells #[.int .i64 x] 3)) (some ⟨w7.heap.size, 0, none⟩) 1 [x] (by simp [Act.eval, Act.put, hTl]) (by simp [Act.eval, Act.put]) (Y1.row_one w7 x) (by simp only [List.length_cons, List.length_nil]; omega) (l7.alloc l7.size _).size ?_; intro a8 c8 w8 f8 g8; have l8 := (l7.alloc l7.size (.cells #[.int .i64 x] 3)).trans (D7.run_below (f7.alloc (.cells #[.int .i64 x] 3)) (l7.alloc l7.size (.cells #[.int .i64 x] 3)).size g8))
            | (refine step_rows rfl (.tmp 20) (.tmp 23) rfl B1 (some ⟨g, off, none⟩) zs.length T (by simp [Act.eval, Act.put]) (by simp [Act.eval, Act.put, hTl]) (hTr.below L1) (by omega) L1.size ?_; intro a7 c7 w7 f7 g7; have l7 := L1.trans (D7.run_below B1 L1.size g7))
            | (refine step_rows rfl (.tmp 20) (.tmp 23) rfl B2 (some ⟨g, off, none⟩) zs.length T (by simp [Act.eval, Act.put]) (by simp [Act.eval, Act.put, hTl]) (hTr.below L2) (by omega) L2.size ?_; intro a7 c7 w7 f7 g7; have l7 := L2.trans (D7.run_below B2 L2.size g7); have x7 := row_grown X2 g7 (by rintro p ⟨⟩ h; simp [Value.ownBlock] at h))
            | (refine step_rows rfl (.tmp 20) (.tmp 23) rfl B3 (some ⟨g, off, none⟩) zs.length T (by simp [Act.eval, Act.put]) (by simp [Act.eval, Act.put, hTl]) (hTr.below L3) (by omega) L3.size ?_; intro a7 c7 w7 f7 g7; have l7 := L3.trans (D7.run_below B3 L3.size g7); have x7 := row_grown X3 g7 (by rintro p ⟨⟩ h; simp [Value.ownBlock] at h)))
          all_goals
            have f9 : IBuf w.heap.size w9 a9 (zs.length + 1) c9 (ins zs x) := by
              rw [HI.out]
              have hf := f9
              simp only [List.nil_append, List.append_assoc, List.cons_append, List.append_nil] at hf
              rw [show 0 + T.length + [x].length + ([] : List Int).length = zs.length + 1 by simp only [List.length_cons, List.length_nil]; omega] at hf
              exact hf
            go_wp2
            go_ret
            exact ⟨a9, c9, by rfl, f9, l9⟩
        · clear hk
          go_wp2
          go_region_law (first
            | (refine step_rows rfl (.tmp 27) (.tmp 30) rfl f8 (some ⟨g, off + zs.length, none⟩) (c - zs.length) [] (by simp [Act.eval, Act.put, hTl]) (by simp [Act.eval, Act.put, hTl]) (Or.inl rfl) (by simp only [List.length_cons, List.length_nil]; omega) l8.size ?_; intro a9 c9 w9 f9 g9; have l9 := l8.trans (D7.run_below f8 l8.size g9))
            | (refine step_rows rfl (.tmp 24) (.tmp 26) rfl f7 _ _ [x] (by simp [Act.eval, Act.put, hTl]) (by simp [Act.eval, Act.put]; rfl) x7 (by simp only [List.length_cons, List.length_nil]; omega) l7.size ?_; intro a8 c8 w8 f8 g8; have l8 := l7.trans (D7.run_below f7 l7.size g8))
            | (refine step_rows rfl (.tmp 24) (.tmp 26) rfl (f7.alloc (.cells #[.int .i64 x] 3)) (some ⟨w7.heap.size, 0, none⟩) 1 [x] (by simp [Act.eval, Act.put, hTl]) (by simp [Act.eval, Act.put]) (Y1.row_one w7 x) (by simp only [List.length_cons, List.length_nil]; omega) (l7.alloc l7.size _).size ?_; intro a8 c8 w8 f8 g8; have l8 := (l7.alloc l7.size (.cells #[.int .i64 x] 3)).trans (D7.run_below (f7.alloc (.cells #[.int .i64 x] 3)) (l7.alloc l7.size (.cells #[.int .i64 x] 3)).size g8))
            | (refine step_rows rfl (.tmp 20) (.tmp 23) rfl B1 (some ⟨g, off, none⟩) c T (by simp [Act.eval, Act.put]) (by simp [Act.eval, Act.put, hTl]) (hTr.below L1) (by omega) L1.size ?_; intro a7 c7 w7 f7 g7; have l7 := L1.trans (D7.run_below B1 L1.size g7))
            | (refine step_rows rfl (.tmp 20) (.tmp 23) rfl B2 (some ⟨g, off, none⟩) c T (by simp [Act.eval, Act.put]) (by simp [Act.eval, Act.put, hTl]) (hTr.below L2) (by omega) L2.size ?_; intro a7 c7 w7 f7 g7; have l7 := L2.trans (D7.run_below B2 L2.size g7); have x7 := row_grown X2 g7 (by rintro p ⟨⟩ h; simp [Value.ownBlock] at h))
            | (refine step_rows rfl (.tmp 20) (.tmp 23) rfl B3 (some ⟨g, off, none⟩) c T (by simp [Act.eval, Act.put]) (by simp [Act.eval, Act.put, hTl]) (hTr.below L3) (by omega) L3.size ?_; intro a7 c7 w7 f7 g7; have l7 := L3.trans (D7.run_below B3 L3.size g7); have x7 := row_grown X3 g7 (by rintro p ⟨⟩ h; simp [Value.ownBlock] at h)))
          all_goals
            have f9 : IBuf w.heap.size w9 a9 (zs.length + 1) c9 (ins zs x) := by
              rw [HI.out]
              have hf := f9
              simp only [List.nil_append, List.append_assoc, List.cons_append, List.append_nil] at hf
              rw [show 0 + T.length + [x].length + ([] : List Int).length = zs.length + 1 by simp only [List.length_cons, List.length_nil]; omega] at hf
              exact hf
            go_wp2
            go_ret
            exact ⟨a9, c9, by rfl, f9, l9⟩
      · have e4 : (k : Int) < (zs.length : Int) := by omega
        have hck : ¬ c = k := by omega
        go_wp2
        go_region_law (first
          | (refine step_rows rfl (.tmp 27) (.tmp 30) rfl f8 (some ⟨g, off + k, none⟩) (c - k) D (by simp [Act.eval, Act.put, hTl, hDl]) (by simp [Act.eval, Act.put, hTl, hDl]) (hDr.below l8) (by simp only [List.length_cons, List.length_nil]; omega) l8.size ?_; intro a9 c9 w9 f9 g9; have l9 := l8.trans (D7.run_below f8 l8.size g9))
          | (refine step_rows rfl (.tmp 24) (.tmp 26) rfl f7 _ _ [x] (by simp [Act.eval, Act.put, hTl, hDl]) (by simp [Act.eval, Act.put]; rfl) x7 (by simp only [List.length_cons, List.length_nil]; omega) l7.size ?_; intro a8 c8 w8 f8 g8; have l8 := l7.trans (D7.run_below f7 l7.size g8))
          | (refine step_rows rfl (.tmp 24) (.tmp 26) rfl (f7.alloc (.cells #[.int .i64 x] 3)) (some ⟨w7.heap.size, 0, none⟩) 1 [x] (by simp [Act.eval, Act.put, hTl, hDl]) (by simp [Act.eval, Act.put]) (Y1.row_one w7 x) (by simp only [List.length_cons, List.length_nil]; omega) (l7.alloc l7.size _).size ?_; intro a8 c8 w8 f8 g8; have l8 := (l7.alloc l7.size (.cells #[.int .i64 x] 3)).trans (D7.run_below (f7.alloc (.cells #[.int .i64 x] 3)) (l7.alloc l7.size (.cells #[.int .i64 x] 3)).size g8))
          | (refine step_rows rfl (.tmp 20) (.tmp 23) rfl B1 (some ⟨g, off, none⟩) c T (by simp [Act.eval, Act.put]) (by simp [Act.eval, Act.put, hTl, hDl]) (hTr.below L1) (by omega) L1.size ?_; intro a7 c7 w7 f7 g7; have l7 := L1.trans (D7.run_below B1 L1.size g7))
          | (refine step_rows rfl (.tmp 20) (.tmp 23) rfl B2 (some ⟨g, off, none⟩) c T (by simp [Act.eval, Act.put]) (by simp [Act.eval, Act.put, hTl, hDl]) (hTr.below L2) (by omega) L2.size ?_; intro a7 c7 w7 f7 g7; have l7 := L2.trans (D7.run_below B2 L2.size g7); have x7 := row_grown X2 g7 (by rintro p ⟨⟩ h; simp [Value.ownBlock] at h))
          | (refine step_rows rfl (.tmp 20) (.tmp 23) rfl B3 (some ⟨g, off, none⟩) c T (by simp [Act.eval, Act.put]) (by simp [Act.eval, Act.put, hTl, hDl]) (hTr.below L3) (by omega) L3.size ?_; intro a7 c7 w7 f7 g7; have l7 := L3.trans (D7.run_below B3 L3.size g7); have x7 := row_grown X3 g7 (by rintro p ⟨⟩ h; simp [Value.ownBlock] at h)))
        all_goals
          have f9 : IBuf w.heap.size w9 a9 (zs.length + 1) c9 (ins zs x) := by
            rw [HI.out]
            have hf := f9
            simp only [List.nil_append, List.append_assoc, List.cons_append, List.append_nil] at hf
            rw [show 0 + T.length + [x].length + D.length = zs.length + 1 by simp only [List.length_cons, List.length_nil]; omega] at hf
            exact hf
          go_wp2
          go_ret
          exact ⟨a9, c9, by refine ret_len ?_; omega, f9, l9⟩
end Go.Proofs.YtdljajjgppcjpaaGreat.Y5

/- The contract of spec.l05Only at any rows, as the given laws call it, and a sorted row's plain facts. -/
namespace Go.Proofs.YtdljajjgppcjpaaGreat.Y6
open Go.ChangeShapes Go.WideShapes Go.ChangeAt Go.RowKit
set_option linter.unusedVariables false
set_option linter.unusedSimpArgs false
set_option maxRecDepth 10000

open J0 (IBuf Own)
open I2 (ints)
open Y5 (ins)
open Y2 (ibuf_mono)

/-- A row's numbers in order. -/
def srt (zs : List Int) : List Int := zs.foldl ins []
theorem srt_snoc (zs : List Int) (x : Int) : srt (zs ++ [x]) = ins (srt zs) x := by simp [srt, List.foldl_append]

theorem foldl_perm (zs acc : List Int) : (zs.foldl ins acc).Perm (acc ++ zs) := by
  induction zs generalizing acc with
  | nil => simp
  | cons z zs ih =>
    refine (ih (ins acc z)).trans ?_
    refine ((Y5.ins_perm acc z).append_right zs).trans ?_
    exact (List.perm_middle (l₁ := acc) (l₂ := zs) (a := z)).symm
theorem srt_perm (zs : List Int) : (srt zs).Perm zs := foldl_perm zs []
theorem srt_length (zs : List Int) : (srt zs).length = zs.length := (srt_perm zs).length_eq
theorem foldl_sorted (zs acc : List Int) (h : acc.Pairwise (· ≤ ·)) : (zs.foldl ins acc).Pairwise (· ≤ ·) := by
  induction zs generalizing acc with
  | nil => exact h
  | cons z zs ih => exact ih _ (Y5.ins_sorted z h)
theorem srt_sorted (zs : List Int) : (srt zs).Pairwise (· ≤ ·) := foldl_sorted zs [] List.Pairwise.nil

/-- Two rows in order that hold the same are one. -/
theorem sorted_one : ∀ {xs ys : List Int}, xs.Perm ys → xs.Pairwise (· ≤ ·) → ys.Pairwise (· ≤ ·) → xs = ys
  | [], ys, hp, _, _ => (List.nil_perm.1 hp).symm
  | x :: xs, [], hp, _, _ => absurd hp.length_eq (by simp)
  | x :: xs, y :: ys, hp, h1, h2 => by
    have q1 := List.pairwise_cons.1 h1
    have q2 := List.pairwise_cons.1 h2
    have hx : x ∈ y :: ys := hp.mem_iff.1 (by simp)
    have hy : y ∈ x :: xs := hp.mem_iff.2 (by simp)
    obtain rfl : x = y := by
      rcases List.mem_cons.1 hx with e | m1
      · exact e
      · rcases List.mem_cons.1 hy with e | m2
        · exact e.symm
        · have := q1.1 y m2
          have := q2.1 x m1
          omega
    rw [sorted_one (List.perm_cons x |>.1 hp) q1.2 q2.2]

/-- .. as the library's sort lays it. -/
theorem merge_srt (zs : List Int) : zs.mergeSort (fun x y => decide (x ≤ y)) = srt zs := by
  refine sorted_one ((List.mergeSort_perm zs _).trans (srt_perm zs).symm) ?_ (srt_sorted zs)
  have := List.pairwise_mergeSort (le := fun x y : Int => decide (x ≤ y)) (fun a b c h1 h2 => by simp only [decide_eq_true_eq] at h1 h2 ⊢; omega) (fun a b => by simp only [Bool.or_eq_true, decide_eq_true_eq]; omega) zs
  exact this.imp fun h => by simpa using h

/-- Those of a row that are among others, or those that are not. -/
def kept (b : Bool) (zs al : List Int) : List Int := zs.filter fun z => P0.has al z == b
theorem kept_yes {b : Bool} {zs al : List Int} {k : Nat} (hk : k < zs.length) (h : P0.has al (zs.getD k 0) = b) : srt (kept b (zs.take (k + 1)) al) = ins (srt (kept b (zs.take k) al)) (zs.getD k 0) := by
  rw [← srt_snoc]
  unfold kept
  rw [List.take_succ_eq_append_getElem hk, List.filter_append, P0.getD_get _ _ hk]
  rw [P0.getD_get _ _ hk] at h
  simp [h]
theorem kept_no {b : Bool} {zs al : List Int} {k : Nat} (hk : k < zs.length) (h : P0.has al (zs.getD k 0) = !b) : srt (kept b (zs.take (k + 1)) al) = srt (kept b (zs.take k) al) := by
  unfold kept
  rw [List.take_succ_eq_append_getElem hk, List.filter_append]
  rw [P0.getD_get _ _ hk] at h
  cases b <;> simp [h]
theorem kept_len (b : Bool) (zs al : List Int) (k : Nat) : (srt (kept b (zs.take k) al)).length ≤ zs.length := by
  rw [srt_length]
  exact Nat.le_trans (List.length_filter_le _ _) (by rw [List.length_take]; omega)

set_option maxHeartbeats 2000000 in
theorem l05Only (b : Bool) (a1 a2 : Option Addr) (c1 c2 : Nat) (zs al : List Int) (w : World) (h1 : zs.length ≤ 1048576) (h2 : al.length ≤ 281474976710656) (R1 : P0.Row w a1 zs) (R2 : P0.Row w a2 al) :
    Calls Tryz.prog 96 #[.slice a1 zs.length c1, .slice a2 al.length c2, .bool b] w fun e w' => ∃ a c, e = .returned (.slice a (srt (kept b zs al)).length c) ∧ (srt (kept b zs al)).length ≤ c ∧ Own w.heap.size w' a (srt (kept b zs al)) ∧ Below w.heap.size w w' := by
  have b0 := J0.ibuf_made w (Nat.le_refl _)
  have l0 := K0.below_new w (.cells #[] 3)
  go_enter Tryz.func96, Tryz.ntmps96
  go_wp2
  go_loopw [7, 8] (fun v i w' => ∃ (k n c g : Nat), k ≤ zs.length ∧ i = .int .i64 k ∧ v = .slice (some ⟨g, 0, none⟩) n c ∧ IBuf w.heap.size w' (some ⟨g, 0, none⟩) n c (srt (kept b (zs.take k) al)) ∧ Below w.heap.size w w') (fun _ i _ => zs.length - (intOf i).toNat)
  case atStart => exact ⟨0, 0, 0, _, Nat.zero_le _, rfl, rfl, b0, l0⟩
  case round =>
    obtain ⟨k, n, c', g, hk, rfl, rfl, hbuf, hbel⟩ := hrel
    clear b0 l0
    by_cases hlt : k < zs.length
    · obtain ⟨bb, off, hab, _, hc⟩ := (R1.below hbel).get hlt
      have x1 := hc k hlt
      have hyes := fun h => kept_yes (b := b) (zs := zs) (al := al) hlt h
      have hno := fun h => kept_no (b := b) (zs := zs) (al := al) hlt h
      have hln := kept_len b zs al k
      obtain ⟨z, ez⟩ : ∃ z, zs.getD k 0 = z := ⟨_, rfl⟩
      rw [ez] at x1 hyes hno
      have hH : Hid (Calls Tryz.prog 41 #[.slice a2 al.length c2, .int .i64 z] wr fun e w' => e = .returned (.bool (P0.has al z)) ∧ w' = wr) := N2.hasRow a2 c2 al z wr h2 (R2.below hbel)
      obtain ⟨O, hO⟩ : ∃ O, srt (kept b (zs.take k) al) = O := ⟨_, rfl⟩
      rw [hO] at hbuf hyes hno hln
      obtain rfl : n = O.length := hbuf.1
      have hA : Hid (Calls Tryz.prog 94 #[.slice (some ⟨g, 0, none⟩) O.length c', .int .i64 z] wr fun e w' => ∃ a' c', e = .returned (.slice a' (O.length + 1) c') ∧ IBuf wr.heap.size w' a' (O.length + 1) c' (ins O z) ∧ Below wr.heap.size wr w') := Y5.l04Add g 0 c' O z wr (by omega) hbuf.fits hbuf.own.row
      rw [hab]
      have e1 : (0 : Int) ≤ (k : Int) := by omega
      have e2 : (k : Int) < (zs.length : Int) := by omega
      by_cases h : P0.has al z = b
      · have HS : Hid (ins O z = srt (kept b (zs.take (k + 1)) al)) := (hyes h).symm
        rw [h] at hH
        clear ez hc hyes hno h R1 R2 hO hbuf
        have hbb : (b == b) = true := by simp
        go_wp2_with (first
          | (go_at_call 41; refine (hH.out).mono ?_; rintro e w' ⟨rfl, rfl⟩)
          | (go_at_call 94; refine (hA.out).mono ?_; rintro e w3 ⟨a3, c3, rfl, f3, b3⟩))
        obtain ⟨g3, rfl⟩ : ∃ g3, a3 = some ⟨g3, 0, none⟩ := by
          rcases f3.own with h0 | ⟨g3, e3, _⟩
          · exact absurd (congrArg List.length h0) (by rw [Y5.ins_length]; simp)
          · exact ⟨g3, e3⟩
        go_roundw
        case rel => exact ⟨k + 1, _, c3, g3, by omega, by go_num, rfl, by rw [← HS.out]; exact ibuf_mono f3 hbel.size, hbel.trans (b3.mono hbel.size)⟩
        case measure => simp [intOf]; omega
      · have h' : P0.has al z = !b := by
          cases b <;> cases hh : P0.has al z <;> simp_all
        have HS : Hid (srt (kept b (zs.take (k + 1)) al) = O) := hno h'
        rw [h'] at hH
        have hbb : ((!b) == b) = false := by cases b <;> rfl
        clear ez hc hyes hno h h' R1 R2 hO
        go_wp2_with (go_at_call 41; refine (hH.out).mono ?_; rintro e w' ⟨rfl, rfl⟩)
        go_roundw
        case rel => exact ⟨k + 1, _, c', g, by omega, by go_num, rfl, by rw [HS.out]; exact hbuf, hbel⟩
        case measure => simp [intOf]; omega
    · obtain rfl : k = zs.length := by omega
      have HF : Hid (IBuf w.heap.size wr (some ⟨g, 0, none⟩) n c' (srt (kept b zs al))) := by
        show IBuf _ _ _ _ _ _
        rw [List.take_length] at hbuf
        exact hbuf
      have e9 : decide ((zs.length : Int) < (zs.length : Int)) = false := by simp
      clear hbuf R1 R2
      go_wp2
      go_ret
      exact ⟨_, c', by rw [← HF.out.1]; rfl, by rw [← HF.out.1]; exact HF.out.fits, HF.out.own, hbel⟩
end Go.Proofs.YtdljajjgppcjpaaGreat.Y6

/- The contracts of impl.Used and spec.Used; what the law over them keeps. -/
namespace Go.Proofs.YtdljajjgppcjpaaGreat.US
open Go.ChangeShapes Go.WideShapes Go.ChangeAt Go.RowKit
set_option linter.unusedVariables false
set_option linter.unusedSimpArgs false
set_option maxRecDepth 10000
variable {w W W' : World} {mem : ByteArray}
open J0 (IBuf Own)
open I2 (ints)
open TW (tK tZ tE cat nodesOk sound headOk hd)

/-- What Used answers. -/
def used (mem : ByteArray) : List Int := if sound mem = true then Y6.srt (cat (tZ mem) 8) else []
theorem used_len (mem : ByteArray) : (used mem).length ≤ 1048576 := by
  unfold used
  split
  · rw [Y6.srt_length]
    have := TW.cat_len (TW.pg_few mem) 8
    omega
  · exact Nat.zero_le _

theorem take_ins (zs : List Int) (k : Nat) (h : k < zs.length) : Y6.srt (zs.take (k + 1)) = Y5.ins (Y6.srt (zs.take k)) (zs.getD k 0) := by
  rw [List.take_succ_eq_append_getElem h, Y6.srt_snoc, P0.getD_get _ _ h]

set_option maxHeartbeats 1000000 in
theorem spec_Used (mem : ByteArray) (w : World) (hms : mem.size ≤ 281474976710656) : Calls Tryz.prog 55 #[.string mem] w fun e w' => ∃ a c, e = .returned (.slice a (used mem).length c) ∧ Own w.heap.size w' a (used mem) ∧ Below w.heap.size w w' := by
  have hS : Hid (∀ W, Calls Tryz.prog 50 #[.string mem] W fun e w' => e = .returned (.bool (sound mem)) ∧ Below W.heap.size W w') := fun W => TS.spec_Sound mem W hms
  have how : Hid (∀ W, Calls Tryz.prog 90 #[.string mem] W fun e w' => ∃ a c, e = .returned (.slice a (cat (tZ mem) 8).length c) ∧ (cat (tZ mem) 8).length ≤ c ∧ Own W.heap.size w' a (cat (tZ mem) 8) ∧ Below W.heap.size W w') := fun W => TS.l04Owned mem W hms
  have l0 := K0.below_new w (.cells #[] 3)
  have b0 := J0.ibuf_made (base := w.heap.size) w (Nat.le_refl _)
  cases hs : sound mem with
  | false =>
    rw [hs] at hS
    have hu : used mem = [] := by unfold used; rw [hs]; rfl
    rw [hu]
    clear hs hu how
    go_enter Tryz.func55, Tryz.ntmps55
    go_wp2_with (go_at_call 50; refine (hS.out _).mono ?_; rintro e w1 ⟨rfl, b1⟩)
    go_ret
    exact ⟨_, _, rfl, Or.inl rfl, l0.trans (b1.mono l0.size)⟩
  | true =>
    rw [hs] at hS
    have hu : used mem = Y6.srt (cat (tZ mem) 8) := by unfold used; rw [if_pos hs]
    rw [hu]
    have hlen := TW.cat_len (TW.pg_few mem) 8
    obtain ⟨zs, hzs⟩ : ∃ zs, cat (tZ mem) 8 = zs := ⟨_, rfl⟩
    rw [hzs] at how hlen ⊢
    clear hs hu hzs
    go_enter Tryz.func55, Tryz.ntmps55
    go_wp2_with (first
      | (go_at_call 50; refine (hS.out _).mono ?_; rintro e w1 ⟨rfl, b1⟩; have l1 := l0.trans (b1.mono l0.size))
      | (go_at_call 90; refine (how.out _).mono ?_; rintro e w2 ⟨a2, c2, rfl, hc2, o2, b2⟩))
    have bf : IBuf w.heap.size w2 (some ⟨w.heap.size, 0, none⟩) 0 0 [] := (b0.below b1).below b2
    have l2 := l1.trans (b2.mono l1.size)
    have r2 := o2.row
    clear b0 l0 l1 b1 b2 hS how
    go_loopw [3, 5] (fun v i W => ∃ (k g c : Nat), k ≤ zs.length ∧ i = .int .i64 k ∧ v = .slice (some ⟨g, 0, none⟩) k c ∧ IBuf w.heap.size W (some ⟨g, 0, none⟩) k c (Y6.srt (zs.take k)) ∧ P0.Row W a2 zs ∧ Below w.heap.size w W) (fun _ i _ => zs.length - (intOf i).toNat)
    case atStart => exact ⟨0, _, 0, Nat.zero_le _, rfl, rfl, bf, r2, l2⟩
    case round =>
      obtain ⟨k, g, c, hk, rfl, rfl, hbuf, hrow, hbel⟩ := hrel
      clear bf r2 l2 o2
      by_cases hlt : k < zs.length
      · have hrow' := hrow
        obtain ⟨b, off, hab, hbl, hc⟩ := hrow.get hlt
        subst hab
        have x1 := hc k hlt
        have hsl : (Y6.srt (zs.take k)).length = k := hbuf.1.symm
        have hti := take_ins zs k hlt
        obtain ⟨z, ez⟩ : ∃ z, zs.getD k 0 = z := ⟨_, rfl⟩
        rw [ez] at x1 hti
        have e1 : (0 : Int) ≤ (k : Int) := by omega
        have e2 : (k : Int) < (zs.length : Int) := by omega
        have hrw : P0.Row wr (some ⟨g, 0, none⟩) (Y6.srt (zs.take k)) := hbuf.own.row
        have hadd := Y5.l04Add g 0 c (Y6.srt (zs.take k)) z wr (by omega) (by rw [hsl]; exact hbuf.fits) hrw
        rw [hsl, ← hti] at hadd
        have HA : Hid (Calls Tryz.prog 94 #[.slice (some ⟨g, 0, none⟩) k c, .int .i64 z] wr fun e w' => ∃ a' c', e = .returned (.slice a' (k + 1) c') ∧ IBuf wr.heap.size w' a' (k + 1) c' (Y6.srt (zs.take (k + 1))) ∧ Below wr.heap.size wr w') := hadd
        clear hadd hti ez hc hrw hsl
        go_wp2_with (go_at_call 94; refine HA.out.mono ?_; rintro e w3 ⟨a3, c3, rfl, bf3, b3⟩)
        have bf3' := Y2.ibuf_mono bf3 hbel.size
        obtain ⟨g3, rfl⟩ : ∃ g3, a3 = some ⟨g3, 0, none⟩ := by
          rcases bf3.2.2 with ⟨h1, h2⟩ | ⟨g', cap', cur, h1, _⟩
          · omega
          · cases h1
            exact ⟨g', rfl⟩
        go_roundw
        case rel => exact ⟨k + 1, g3, c3, by omega, by go_num, rfl, bf3', hrow'.below b3, hbel.trans (b3.mono hbel.size)⟩
        case measure => simp [intOf]; omega
      · obtain rfl : k = zs.length := by omega
        rw [List.take_length] at hbuf
        have HB : Hid (IBuf w.heap.size wr (some ⟨g, 0, none⟩) zs.length c (Y6.srt zs)) := hbuf
        clear hrow hbuf
        go_wp2
        go_ret
        exact ⟨_, c, by rw [Y6.srt_length]; rfl, HB.out.own, hbel⟩

end Go.Proofs.YtdljajjgppcjpaaGreat.US

/- Plain facts on paths: the way down and the way up tell the same. -/
namespace Go.Proofs.YtdljajjgppcjpaaGreat.TR
open T0 (Ent)
set_option linter.unusedVariables false
set_option linter.unusedSimpArgs false
variable {E : Nat → List Ent} {K : Nat → Int} {F : Nat → Nat} {P : Nat → ByteArray} {d k x : Nat}

/-- The path's text, nothing for inode 0. -/
def At2 (E : Nat → List Ent) : Nat → Nat → ByteArray → Prop
  | x, 0, p => x = 0 ∧ p = ⟨#[]⟩
  | x, k + 1, p => ∃ d q nm, At2 E d k q ∧ ((x : Int), nm) ∈ E d ∧ p = q ++ (⟨#[47]⟩ ++ nm)
theorem At2.zero {E : Nat → List Ent} : At2 E 0 0 ⟨#[]⟩ := ⟨rfl, rfl⟩
theorem At2.down {E : Nat → List Ent} {d k : Nat} {q : ByteArray} {x : Nat} {nm : ByteArray} (h : At2 E d k q) (hm : ((x : Int), nm) ∈ E d) : At2 E x (k + 1) (q ++ (⟨#[47]⟩ ++ nm)) := ⟨d, q, nm, h, hm, rfl⟩
theorem At2.or {E : Nat → List Ent} {x : Nat} {p : ByteArray} : ∀ {k : Nat}, At2 E x k p → (x = 0 ∧ k = 0 ∧ p = ⟨#[]⟩) ∨ ∃ d k' q nm, k = k' + 1 ∧ At2 E d k' q ∧ ((x : Int), nm) ∈ E d ∧ p = q ++ (⟨#[47]⟩ ++ nm)
  | 0, h => Or.inl ⟨h.1, rfl, h.2⟩
  | k + 1, ⟨d, q, nm, h, hm, e⟩ => Or.inr ⟨d, k, q, nm, rfl, h, hm, e⟩
theorem At2.ind {E : Nat → List Ent} {motive : (x k : Nat) → (p : ByteArray) → At2 E x k p → Prop} (zero : motive 0 0 ⟨#[]⟩ At2.zero) (down : ∀ {d k : Nat} {q : ByteArray} {x : Nat} {nm : ByteArray} (hd : At2 E d k q) (hm : ((x : Int), nm) ∈ E d), motive d k q hd → motive x (k + 1) (q ++ (⟨#[47]⟩ ++ nm)) (At2.down hd hm)) : ∀ {x k : Nat} {p : ByteArray} (h : At2 E x k p), motive x k p h
  | x, 0, p, h => by
    obtain ⟨rfl, rfl⟩ := h
    exact zero
  | x, k + 1, p, h => by
    obtain ⟨d, q, nm, hd, hm, rfl⟩ := h
    exact down hd hm (At2.ind zero down hd)

def full (q : ByteArray) : ByteArray := if q.size = 0 then ⟨#[47]⟩ else q

theorem app_nil (a : ByteArray) : a ++ ⟨#[]⟩ = a := by
  apply ByteArray.ext
  simp [ByteArray.data_append]
theorem nil_app (a : ByteArray) : (⟨#[]⟩ : ByteArray) ++ a = a := by
  apply ByteArray.ext
  simp [ByteArray.data_append]
theorem app_assoc (a b c : ByteArray) : (a ++ b) ++ c = a ++ (b ++ c) := by
  apply ByteArray.ext
  simp [ByteArray.data_append]

theorem at_two (hS : Sane E K) {p : ByteArray} (h : At E x k p) : ∃ q, At2 E x k q ∧ p = full q ∧ (0 < x → 0 < q.size) ∧ (x = 0 → q = ⟨#[]⟩) := by
  induction h using At.ind with
  | zero => exact ⟨⟨#[]⟩, At2.zero, rfl, fun h => absurd h (by decide), fun _ => rfl⟩
  | @down d k p x nm hd hm ih =>
    obtain ⟨q, hq, hp, h1, h2⟩ := ih
    have hx := (hS.ino _ _ hm).1
    have hne : 0 < (q ++ ((⟨#[47]⟩ : ByteArray) ++ nm)).size := by
      rw [ByteArray.size_append, ByteArray.size_append]
      have : (⟨#[47]⟩ : ByteArray).size = 1 := rfl
      omega
    refine ⟨_, At2.down hq hm, ?_, fun _ => hne, fun e => ?_⟩
    · rw [full, if_neg (by omega)]
      by_cases h0 : d = 0
      · rw [h2 h0] at hp ⊢
        rw [hp, sep, if_pos h0, app_nil, nil_app]
        rfl
      · have := h1 (by omega)
        rw [full, if_neg (by omega)] at hp
        rw [hp, sep, if_neg h0, app_assoc]
    · simp only at hx
      omega

theorem At2.size (hs : ∀ i e, e ∈ E i → e.2.size ≤ 14) {q : ByteArray} (h : At2 E x k q) : q.size ≤ 15 * k := by
  induction h using At2.ind with
  | zero => decide
  | @down d k q x nm _ hm ih =>
    have := hs _ _ hm
    rw [ByteArray.size_append, ByteArray.size_append]
    have h1 : (⟨#[47]⟩ : ByteArray).size = 1 := rfl
    simp only at this
    omega

/-- In a right tree an entry is the only one of its inode. -/
theorem only (ht : treeOk E K = true) (hS : Sane E K) {e : Ent} (hd : d < 8) (he : e ∈ E d) : own (flat E 8) e.1 = [(d, e)] := by
  have hi := hS.ino _ _ he
  obtain ⟨x, hx⟩ : ∃ x : Nat, e.1 = (x : Int) := ⟨e.1.toNat, by omega⟩
  have m1 : (d, e) ∈ own (flat E 8) e.1 := List.mem_filter.2 ⟨mem_flat he hd, by simp⟩
  have hone := treeOk_iff.1 ht x (by omega) (by omega)
  rw [hx] at m1 ⊢
  unfold oneOk at hone
  simp only [Bool.and_eq_true, beq_iff_eq, Bool.or_eq_true] at hone
  rcases par_ge (flat E 8) x with hp | hp | ⟨p, hp, _⟩
  · rw [(par_nil _ _).1 hp] at m1
    simp at m1
  · rcases hone.2 with hk | hr
    · rw [hk, hp] at hone
      simp at hone
    · rw [root_pos _ _ _ (by omega), hp, root_neg _ _ _ (by decide)] at hr
      cases hr
  · rw [hp] at m1 ⊢
    simp only [List.mem_singleton] at m1
    rw [m1]
theorem par_of (ht : treeOk E K = true) (hS : Sane E K) {e : Ent} (hd : d < 8) (he : e ∈ E d) : par (flat E 8) e.1 = d ∧ nam (flat E 8) e.1 = e.2 := by
  have h := only ht hS hd he
  unfold par nam
  rw [h]
  exact ⟨rfl, rfl⟩

/-- What was found is what there is, and its path. -/
theorem found_at (h : Inv E K [] F P) (hS : Sane E K) (hK0 : K 0 = 2) (ht : treeOk E K = true) (hx : x < 8) (hk : K x ≠ 0) : ∃ k, k ≤ 8 ∧ At E x k (P x) := by
  by_cases h0 : x = 0
  · subst h0
    rw [h.zero]
    exact ⟨0, by decide, At.zero⟩
  · have hd := h.done hS hK0
    rw [ht] at hd
    have := onceAll_iff.1 hd x (by omega) hx
    simp only [once, decide_eq_true_eq] at this
    rw [if_neg hk] at this
    exact h.at_ x (by omega)
end Go.Proofs.YtdljajjgppcjpaaGreat.TR

/- Files: plain facts, and a row of files that a call appends to. -/
namespace Go.Proofs.YtdljajjgppcjpaaGreat.FI
open Go.ChangeShapes Go.WideShapes Go.ChangeAt Go.RowKit
set_option linter.unusedVariables false
set_option linter.unusedSimpArgs false
set_option maxRecDepth 10000
variable {w W W' : World} {mem : ByteArray}
open TW (tK tZ tE cat nodesOk sound)

structure Fl where
  ino : Int
  path : ByteArray
  kind : Int
  owner : Int
  data : ByteArray
def Fl.vals (f : Fl) : List Value := [.int .i64 f.ino, .string f.path, .int .i64 f.kind, .int .i64 f.owner, .string f.data]
def ffl : List Fl → List Value
  | [] => []
  | f :: r => f.vals ++ ffl r
theorem ffl_length : ∀ l : List Fl, (ffl l).length = l.length * 5
  | [] => rfl
  | f :: r => by rw [ffl, List.length_append, ffl_length r]; simp [Fl.vals]; omega
theorem ffl_append : ∀ l m : List Fl, ffl (l ++ m) = ffl l ++ ffl m
  | [], m => rfl
  | f :: r, m => by rw [List.cons_append, ffl, ffl, ffl_append r m, List.append_assoc]
theorem ffl_snoc (l : List Fl) (f : Fl) : ffl (l ++ [f]) = ffl l ++ f.vals := by rw [ffl_append]; simp [ffl]
def zf : Fl := ⟨0, ⟨#[]⟩, 0, 0, ⟨#[]⟩⟩
theorem ffl_get : ∀ (l : List Fl) (i j : Nat), i < l.length → j < 5 → (ffl l)[i * 5 + j]? = (l.getD i zf).vals[j]?
  | [], i, j, h, _ => by simp at h
  | f :: r, i, j, h, hj => by
    have hl : f.vals.length = 5 := rfl
    rw [ffl]
    cases i with
    | zero =>
      rw [List.getElem?_append_left (by rw [hl]; omega)]
      simp
    | succ i =>
      rw [List.getElem?_append_right (by rw [hl]; omega), hl, show (i + 1) * 5 + j - 5 = i * 5 + j by omega, ffl_get r i j (by simpa using h) hj]
      simp

/-- The cells of a row of files. -/
theorem file_cells {g : Nat} {l : List Fl} (h : K0.Blk g (ffl l) W) {i : Nat} (hi : i < l.length) :
    W.cell? ⟨g, i * 5, none⟩ = some (.int .i64 (l.getD i zf).ino) ∧ W.cell? ⟨g, i * 5 + 1, none⟩ = some (.string (l.getD i zf).path) ∧ W.cell? ⟨g, i * 5 + 2, none⟩ = some (.int .i64 (l.getD i zf).kind) ∧ W.cell? ⟨g, i * 5 + 3, none⟩ = some (.int .i64 (l.getD i zf).owner) ∧ W.cell? ⟨g, i * 5 + 4, none⟩ = some (.string (l.getD i zf).data) := by
  have hl := ffl_length l
  have key : ∀ j (hj : j < 5), W.cell? ⟨g, i * 5 + j, none⟩ = (l.getD i zf).vals[j]? := by
    intro j hj
    rw [h.cell (i * 5 + j) (by omega), ← ffl_get l i j hi hj, List.getElem?_eq_getElem (by omega)]
  exact ⟨key 0 (by decide), key 1 (by decide), key 2 (by decide), key 3 (by decide), key 4 (by decide)⟩

/-- A row of files of a call's own. -/
def FBuf (base : Nat) (w : World) (g n cap : Nat) (l : List Fl) : Prop := n = l.length ∧ w.ownsRow base 142 5 (.slice (some ⟨g, 0, none⟩) n cap) n (ffl l)
variable {base g n cap : Nat} {l : List Fl}
theorem FBuf.below (h : FBuf base w g n cap l) (hb : Below w.heap.size w W) : FBuf base W g n cap l := ⟨h.1, F0.owns_below h.2 hb⟩
theorem FBuf.alloc (h : FBuf base w g n cap l) (o : Obj) : FBuf base (w.alloc o) g n cap l := ⟨h.1, h.2.alloc o⟩
theorem FBuf.drew (h : FBuf base w g n cap l) : FBuf base w.drew g n cap l := h
theorem FBuf.blk (h : FBuf base w g n cap l) : K0.Blk g (ffl l) w := by
  have hl := h.2.1
  refine ⟨fun j hj => ?_, fun j hj => h.2.frozenAt j, (h.2.lt g rfl).2⟩
  rw [h.2.cellAt j (by omega), List.getElem?_eq_getElem hj]
theorem fbuf_new (w : World) (hb : base ≤ w.heap.size) : FBuf base (w.alloc (.cells #[] 142)) w.heap.size 0 0 [] := ⟨rfl, World.ownsRow_made w #[] 0 hb (Nat.zero_le _) rfl⟩
theorem infoFile : (Tryz.prog.info? 142).map (fun i => (i.zero, i.size, i.bytes)) = some (some (.agg #[.int .i64 0, .string ⟨#[]⟩, .int .i64 0, .int .i64 0, .string ⟨#[]⟩]), 5, 56) := by kernel_rfl
theorem one_file (f : Fl) : ∀ x ∈ f.vals, x.oneCell' = true := by
  intro x h
  simp [Fl.vals] at h
  rcases h with rfl | rfl | rfl | rfl | rfl <;> rfl

/-- 'files = append(files, File{..})', as a step of a region that draws its order. -/
theorem step_file {ops : Array Oper} {o : Oper} {A : Act} {K : Act → World → Prop} {Q : Exit → Act → World → Prop} {E : Prop} (hgd : o.guard = none) (sl x : Operand)
    (ho : o.op = .call { callee := .builtin .append, args := #[sl, x], argTypes := #[139, 139] })
    (hbuf : FBuf base w g n cap l) (f : Fl) (hs : A.eval sl = .slice (some ⟨g, 0, none⟩) n cap) {H : Nat} (hH : w.heap.size = H) (hx : A.eval x = .slice (some ⟨H, 0, none⟩) 1 1) (hlen : n + 1 ≤ 1048576) (hb : base ≤ w.heap.size)
    (h : ∀ g' cap' w', FBuf base w' g' (n + 1) cap' (l ++ [f]) → Below base w w' → w.grownBy w' (some g) → (g' = g ∨ w.heap.size ≤ g') → K (A.put o.dst (.slice (some ⟨g', 0, none⟩) (n + 1) cap')) w') :
    if Region.wanted o (yielded ops A.tmps) = true then Oper.wp Tryz.prog o A (w.alloc (.cells #[.int .i64 f.ino, .string f.path, .int .i64 f.kind, .int .i64 f.owner, .string f.data] 142)) K Q else E := by
  subst hH
  obtain ⟨i0, hi, hz0, hz1, hz2⟩ := info_parts infoFile
  have hb2 := hbuf.alloc (.cells #[.int .i64 f.ino, .string f.path, .int .i64 f.kind, .int .i64 f.owner, .string f.data] 142)
  refine step_append_lies _ hgd sl x 139 ho base 142 i0 (.agg #[.int .i64 0, .string ⟨#[]⟩, .int .i64 0, .int .i64 0, .string ⟨#[]⟩]) 5 56 Tryz.underlying139 hi hz0 hz1 hz2 rfl (by omega) _ n _ hs hb2.2 ⟨w.heap.size, 0, none⟩ 1 1 f.vals hx rfl (World.news_of_block (heap_alloc_new w _)) (one_file f) (by omega) (by unfold maxLen; omega) (by omega) (by simp; omega) _ rfl ?_
  intro g' cap' w' ho' hg' hl' _
  refine h g' cap' w' ⟨by rw [hbuf.1]; simp, ?_⟩ ?_ ?_ ?_
  · rw [ffl_snoc]
    exact ho'
  · exact F0.below_grown ((Below.refl _ _).alloc hb _) hg' (fun k hk => (hbuf.2.lt k hk).1) (by simp; omega)
  · exact (World.grownBy_alloc w _ _).trans hg'
  · rcases hl' with q | q
    · left
      have e' : g = g' := by simpa [Value.ownBlock] using q
      exact e'.symm
    · right
      rw [q]
      simp

/-- The way up, as the specification takes it. -/
def upq (p : Int → Int) (nm : Int → ByteArray) : Nat → Int → ByteArray → ByteArray
  | 0, _, out => out
  | n + 1, i, out => if 0 < i then upq p nm n (p i) ((⟨#[47]⟩ ++ nm i) ++ out) else out
def fpath (mem : ByteArray) (i : Nat) : ByteArray := TR.full (upq (TR.par (TR.flat (tE mem) 8)) (TR.nam (TR.flat (tE mem) 8)) 8 (i : Int) ⟨#[]⟩)

theorem up_of {E : Nat → List T0.Ent} {K : Nat → Int} (ht : TR.treeOk E K = true) (hS : TR.Sane E K) {x k : Nat} {q : ByteArray} (h : TR.At2 E x k q) : x < 8 ∧ ∀ m, k ≤ m → ∀ out, upq (TR.par (TR.flat E 8)) (TR.nam (TR.flat E 8)) m (x : Int) out = q ++ out := by
  induction h using TR.At2.ind with
  | zero =>
    refine ⟨by decide, fun m _ out => ?_⟩
    rw [TR.nil_app]
    cases m with
    | zero => rfl
    | succ m => rw [upq, if_neg (by decide)]
  | @down d k q x nm hd hm ih =>
    have hx := hS.ino _ _ hm
    simp only at hx
    refine ⟨by omega, fun m hk out => ?_⟩
    obtain ⟨m', rfl⟩ : ∃ m', m = m' + 1 := ⟨m - 1, by omega⟩
    obtain ⟨h1, h2⟩ := TR.par_of ht hS ih.1 hm
    simp only at h1 h2
    rw [upq, if_pos hx.1, h1, h2, ih.2 m' (by omega), TR.app_assoc, TR.app_assoc, TR.app_assoc]

theorem path_eq {F : Nat → Nat} {P : Nat → ByteArray} (h : TR.Inv (tE mem) (tK mem) [] F P) (hK0 : tK mem 0 = 2) (ht : TR.treeOk (tE mem) (tK mem) = true) {x : Nat} (hx : x < 8) (hk : tK mem x ≠ 0) :
    P x = fpath mem x ∧ ∃ k q, k ≤ 8 ∧ TR.At2 (tE mem) x k q ∧ fpath mem x = TR.full q := by
  obtain ⟨k, hk8, ha⟩ := TR.found_at h (TW.sane_ok mem) hK0 ht hx hk
  obtain ⟨q, hq, hp, _, _⟩ := TR.at_two (TW.sane_ok mem) ha
  have hu := (up_of ht (TW.sane_ok mem) hq).2 8 hk8 ⟨#[]⟩
  have hf : fpath mem x = TR.full q := by rw [fpath, hu, TR.app_nil]
  exact ⟨by rw [hf, hp], k, q, hk8, hq, hf⟩

/-- The files of the first inodes. -/
def flOf (mem : ByteArray) (P : Nat → ByteArray) (i : Nat) : Fl := ⟨(i : Int), P i, tK mem i, G0.gO (O0.recd mem (i : Int)), D1.nodeD mem (i : Int)⟩
def filesTo (mem : ByteArray) (P : Nat → ByteArray) : Nat → List Fl
  | 0 => []
  | i + 1 => filesTo mem P i ++ if tK mem i = 0 then [] else [flOf mem P i]
theorem filesTo_len (mem : ByteArray) (P : Nat → ByteArray) : ∀ i, (filesTo mem P i).length ≤ i
  | 0 => Nat.le_refl _
  | i + 1 => by
    have := filesTo_len mem P i
    rw [filesTo, List.length_append]
    split <;> simp <;> omega
theorem filesTo_congr {P P' : Nat → ByteArray} : ∀ i, (∀ x, x < i → tK mem x ≠ 0 → P x = P' x) → filesTo mem P i = filesTo mem P' i
  | 0, _ => rfl
  | i + 1, h => by
    rw [filesTo, filesTo, filesTo_congr i fun x hx hk => h x (by omega) hk]
    by_cases hk : tK mem i = 0
    · rw [if_pos hk, if_pos hk]
    · rw [if_neg hk, if_neg hk, flOf, flOf, h i (by omega) hk]
/-- What Files answers. -/
def files (mem : ByteArray) : List Fl := if sound mem = true then filesTo mem (fpath mem) 8 else []
theorem sound_parts (h : sound mem = true) : mem.size = 768 ∧ nodesOk mem = true ∧ tK mem 0 = 2 ∧ TR.treeOk (tE mem) (tK mem) = true := by
  unfold sound at h
  simp only [Bool.and_eq_true, decide_eq_true_eq, beq_iff_eq] at h
  exact ⟨h.1, h.2.2.1, h.2.2.2.1, h.2.2.2.2.2⟩
end Go.Proofs.YtdljajjgppcjpaaGreat.FI

/- The contracts of the tree's files and of impl.Files. -/
namespace Go.Proofs.YtdljajjgppcjpaaGreat.FI
open Go.ChangeShapes Go.WideShapes Go.ChangeAt Go.RowKit
set_option linter.unusedVariables false
set_option linter.unusedSimpArgs false
set_option maxRecDepth 10000
variable {w W W' : World} {mem : ByteArray} {B : Nat} {N : Nat → TW.Nd} {F : Nat → Nat} {P : Nat → ByteArray}
open TW (tK tZ tE cat nodesOk sound nds run_node)

set_option maxHeartbeats 4000000 in
theorem treeFiles (w : World) (hG : TW.Good mem B N F P w) :
    Calls Tryz.prog 101 #[.pointer (some ⟨B, 0, none⟩)] w fun e w' => ∃ g c, e = .returned (.slice (some ⟨g, 0, none⟩) (filesTo mem P 8).length c) ∧ w.heap.size ≤ g ∧ K0.Blk g (ffl (filesTo mem P 8)) w' ∧ Below w.heap.size w w' := by
  have hr := World.rangeAt_alloc hG.tb.range (.cells #[] 142)
  have hn48 : (nds N 8).length = 48 := TW.nds_length N 8
  have hix := fun i hi W => run_node N i hi W
  obtain ⟨C, hC⟩ : ∃ C, (nds N 8).toArray = C := ⟨_, rfl⟩
  have HC : Hid ((nds N 8).toArray = C) := hC
  rw [hC] at hix
  have HX : Hid (∀ i : Nat, i < 8 → ∀ W, (Instr.index 165 (.agg C) (.int .i64 (i : Int))).run Tryz.prog W = .ok (.agg #[.int .i64 (N i).k, .int .i64 (N i).o, .int .i64 (N i).s, .slice (N i).a (N i).n (N i).c, .string (N i).x, .slice (N i).ae (N i).ne (N i).ce]) W) := hix
  have b0 := fbuf_new (base := w.heap.size) w (Nat.le_refl _)
  have l0 := K0.below_new w (.cells #[] 142)
  have hlen := filesTo_len mem P
  have HG : Hid (TW.Good mem B N F P w) := hG
  clear hC hix hG
  go_enter Tryz.func101, Tryz.ntmps101
  go_wp2_with (refine wpList_load_mid rfl 165 (.tmp 9) rfl B 0 rfl _ _ hr Tryz.underlying165 rfl (by rw [TW.infoNodes, hn48]) ?_; rw [HC.out])
  clear hr
  go_loopw [3, 11] (fun v i w' => ∃ (k n c g : Nat), k ≤ 8 ∧ i = .int .i64 k ∧ v = .slice (some ⟨g, 0, none⟩) n c ∧ FBuf w.heap.size w' g n c (filesTo mem P k) ∧ Below w.heap.size w w') (fun _ i _ => 8 - (intOf i).toNat)
  case atStart => exact ⟨0, 0, 0, _, Nat.zero_le _, rfl, rfl, b0, l0⟩
  case round =>
    obtain ⟨k, n, c, g, hk, rfl, rfl, hbuf, hbel⟩ := hrel
    clear b0 l0
    by_cases hlt : k < 8
    · have hx := HX.out k hlt
      have hnd := HG.out.nd k hlt
      have x1 := (HG.out.tb.below hbel HG.out.tb.lt).pth k hlt
      have tb1 := (HG.out.tb.below hbel HG.out.tb.lt)
      have e1 : (0 : Int) ≤ (k : Int) := by omega
      have e2 : (k : Int) < 8 := by omega
      have hnl : n ≤ 8 := by
        have := hlen k
        rw [hbuf.1]
        omega
      have hkk := hnd.k
      have hoo := hnd.o
      have hxx := hnd.x
      have hst : filesTo mem P (k + 1) = filesTo mem P k ++ if tK mem k = 0 then [] else [flOf mem P k] := rfl
      have hfl : flOf mem P k = ⟨(k : Int), P k, tK mem k, G0.gO (O0.recd mem (k : Int)), D1.nodeD mem (k : Int)⟩ := rfl
      rw [← hoo, ← hxx, ← hkk] at hfl
      rw [← hkk] at hst
      obtain ⟨d, hd⟩ : ∃ d, N k = d := ⟨_, rfl⟩
      rw [hd] at hx hfl hst
      obtain ⟨pk, hpk⟩ : ∃ pk, P k = pk := ⟨_, rfl⟩
      rw [hpk] at x1 hfl
      have nl := K0.below_new wr (.cells #[.int .i64 d.k, .int .i64 d.o, .int .i64 d.s, .slice d.a d.n d.c, .string d.x, .slice d.ae d.ne d.ce] 164)
      have nb := K0.blk_new [.int .i64 d.k, .int .i64 d.o, .int .i64 d.s, .slice d.a d.n d.c, .string d.x, .slice d.ae d.ne d.ce] wr 164
      have hbuf1 := hbuf.below nl
      have hbel1 := hbel.trans (nl.mono hbel.size)
      have x2 := (nl.cell (p := ⟨B, 56 + k, none⟩) tb1.lt).trans x1
      obtain ⟨c0, c1, c2, c3, c4, c5⟩ := D1.cells6 nb
      clear hnd hd hpk tb1 hkk hoo hxx
      by_cases hz : d.k = 0
      · have HS : Hid (filesTo mem P (k + 1) = filesTo mem P k) := by
          show _ = _
          rw [hst, if_pos hz, List.append_nil]
        have hz' : (d.k != 0) = false := by simpa using hz
        clear hst hfl hz
        go_wp2
        go_roundw
        case rel => exact ⟨k + 1, n, c, g, by omega, by go_num, rfl, by rw [HS.out]; exact hbuf1, hbel1⟩
        case measure => simp [intOf]; omega
      · have HS : Hid (filesTo mem P (k + 1) = filesTo mem P k ++ [⟨(k : Int), pk, d.k, d.o, d.x⟩]) := by
          show _ = _
          rw [hst, if_neg hz, hfl]
        have hz' : (d.k != 0) = true := by simpa using hz
        clear hst hfl hz
        go_wp2
        have hbuf2 := hbuf1.drew
        have hbel2 := hbel1.drew
        have HGL : Hid (g < wr.heap.size ∧ B < wr.heap.size ∧ B < g) := ⟨(hbuf.2.lt g rfl).2, Nat.lt_of_lt_of_le HG.out.tb.lt hbel.size, Nat.lt_of_lt_of_le HG.out.tb.lt (hbuf.2.lt g rfl).1⟩
        obtain ⟨W0, hW0⟩ : ∃ W0, wr.alloc (.cells #[.int .i64 d.k, .int .i64 d.o, .int .i64 d.s, .slice d.a d.n d.c, .string d.x, .slice d.ae d.ne d.ce] 164) = W0 := ⟨_, rfl⟩
        have hs0 : W0.heap.size = wr.heap.size + 1 := by rw [← hW0]; simp
        rw [hW0] at hbuf2 hbel2 c0 c1 c4 x2 ⊢
        have hS0 : W0.drew.cell? ⟨B, 56 + k, none⟩ = some (.string pk) ∧ W0.drew.cell? ⟨wr.heap.size, 0, none⟩ = some (.int .i64 d.k) ∧ W0.drew.cell? ⟨wr.heap.size, 1, none⟩ = some (.int .i64 d.o) ∧ W0.drew.cell? ⟨wr.heap.size, 4, none⟩ = some (.string d.x) := ⟨x2, c0, c1, c4⟩
        have hnew := K0.below_new W0.drew (.cells #[.int .i64 (k : Int), .string pk, .int .i64 d.k, .int .i64 d.o, .string d.x] 142)
        have hS1 : (W0.drew.alloc (.cells #[.int .i64 (k : Int), .string pk, .int .i64 d.k, .int .i64 d.o, .string d.x] 142)).cell? ⟨B, 56 + k, none⟩ = some (.string pk) ∧ (W0.drew.alloc (.cells #[.int .i64 (k : Int), .string pk, .int .i64 d.k, .int .i64 d.o, .string d.x] 142)).cell? ⟨wr.heap.size, 0, none⟩ = some (.int .i64 d.k) ∧ (W0.drew.alloc (.cells #[.int .i64 (k : Int), .string pk, .int .i64 d.k, .int .i64 d.o, .string d.x] 142)).cell? ⟨wr.heap.size, 1, none⟩ = some (.int .i64 d.o) ∧ (W0.drew.alloc (.cells #[.int .i64 (k : Int), .string pk, .int .i64 d.k, .int .i64 d.o, .string d.x] 142)).cell? ⟨wr.heap.size, 4, none⟩ = some (.string d.x) := by
          have h1 : B < W0.drew.heap.size := by have := HGL.out.2.1; show B < W0.heap.size; omega
          have h2 : wr.heap.size < W0.drew.heap.size := by show wr.heap.size < W0.heap.size; omega
          exact ⟨(hnew.cell (p := ⟨B, 56 + k, none⟩) h1).trans hS0.1, (hnew.cell (p := ⟨wr.heap.size, 0, none⟩) h2).trans hS0.2.1, (hnew.cell (p := ⟨wr.heap.size, 1, none⟩) h2).trans hS0.2.2.1, (hnew.cell (p := ⟨wr.heap.size, 4, none⟩) h2).trans hS0.2.2.2⟩
        clear hW0 hnew nl nb c2 c3 c5 hbuf1 hbel1 hbuf hbel hx x1
        go_region_held3 (fun W => W.cell? ⟨B, 56 + k, none⟩ = some (.string pk) ∧ W.cell? ⟨wr.heap.size, 0, none⟩ = some (.int .i64 d.k) ∧ W.cell? ⟨wr.heap.size, 1, none⟩ = some (.int .i64 d.o) ∧ W.cell? ⟨wr.heap.size, 4, none⟩ = some (.string d.x)) (assumption) ((refine step_file rfl (.tmp 19) (.tmp 36) rfl hbuf2 ⟨(k : Int), pk, d.k, d.o, d.x⟩ (by rfl) (H := wr.heap.size + 1) hs0 (by rfl) (by omega) hbel2.size ?_; intro g3 c3' w3 bf3 b3 gr3 _; have hS3 : w3.cell? ⟨B, 56 + k, none⟩ = some (.string pk) ∧ w3.cell? ⟨wr.heap.size, 0, none⟩ = some (.int .i64 d.k) ∧ w3.cell? ⟨wr.heap.size, 1, none⟩ = some (.int .i64 d.o) ∧ w3.cell? ⟨wr.heap.size, 4, none⟩ = some (.string d.x) := ⟨gr3.cell hS0.1 (by have := HGL.out.2.2; simp; omega), gr3.cell hS0.2.1 (by have := HGL.out.1; simp; omega), gr3.cell hS0.2.2.1 (by have := HGL.out.1; simp; omega), gr3.cell hS0.2.2.2 (by have := HGL.out.1; simp; omega)⟩))
        go_wp2
        go_roundw
        case rel => exact ⟨k + 1, n + 1, c3', g3, by omega, by go_num, rfl, by rw [HS.out]; exact bf3, hbel2.trans b3⟩
        case measure => simp [intOf]; omega
    · obtain rfl : k = 8 := by omega
      have hn : n = (filesTo mem P 8).length := hbuf.1
      subst hn
      have HB : Hid (FBuf w.heap.size wr g (filesTo mem P 8).length c (filesTo mem P 8)) := hbuf
      clear hbuf HX HC
      go_wp2
      go_ret
      exact ⟨g, c, rfl, (HB.out.2.lt g rfl).1, HB.out.blk, hbel⟩

end Go.Proofs.YtdljajjgppcjpaaGreat.FI

/- The contract of impl.viewOf, as the given laws call it. -/
namespace Go.Proofs.YtdljajjgppcjpaaGreat.KV
open Go.ChangeShapes Go.WideShapes Go.ChangeAt Go.RowKit
set_option linter.unusedVariables false
set_option linter.unusedSimpArgs false
set_option maxRecDepth 10000

open N0 (Ln)
open N1 (Sl Lists)
open Z0 (dat Kp Lns kval)
open Z4 (truth)
open J0 (IBuf Own)
open I2 (ints)
open TW (sound)
open US (used)
open FI (files ffl Fl zf)

/-- The inodes of the files. -/
def fin (mem : ByteArray) : List Int := (files mem).map fun f => f.ino
theorem fin_len (mem : ByteArray) : (fin mem).length = (files mem).length := List.length_map _
theorem files_len (mem : ByteArray) : (files mem).length ≤ 8 := by
  unfold files
  split
  · exact FI.filesTo_len _ _ _
  · exact Nat.zero_le _
theorem fin_take (mem : ByteArray) {j : Nat} (h : j < (files mem).length) : (fin mem).take (j + 1) = (fin mem).take j ++ [((files mem).getD j zf).ino] := by
  unfold fin
  have h' : j < ((files mem).map fun f => f.ino).length := by rw [List.length_map]; exact h
  rw [List.take_succ_eq_append_getElem h', List.getElem_map, List.getD_eq_getElem?_getD, List.getElem?_eq_getElem h]
  rfl

/-- What viewOf answers. -/
def Ans (k : Kp) (w : World) (e : Ending) (w' : World) : Prop :=
  ∃ x a1 n1 c1 a2 n2 c2, e = .returned (.tuple #[.agg #[.string x, .slice a1 n1 c1, .slice a2 n2 c2], .bool (sound (truth k))]) ∧ Below w.heap.size w w' ∧
    (sound (truth k) = true → x = truth k ∧ n1 = (used (truth k)).length ∧ n2 = (fin (truth k)).length ∧ P0.Row w' a1 (used (truth k)) ∧ P0.Row w' a2 (fin (truth k)))

theorem ibuf_set {base n cap B : Nat} {a : Option Addr} {w : World} {zs : List Int} (h : IBuf base w a n cap zs) (hB : B < base) (j : Nat) (v : Value) : IBuf base (w.setCell ⟨B, j, none⟩ v) a n cap zs := ⟨h.1, ownsRow_setCell_below h.2 (a := ⟨B, j, none⟩) hB v⟩

set_option maxHeartbeats 4000000 in
theorem viewOf (k : Kp) (a : Option Addr) (c : Nat) (ss : Nat → Sl) (w : World) (hms : k.mem.size ≤ 281474976710656) (hn : k.ds.length ≤ 1048576) (hF : Z4.Fits k.ds ss) (hR : Lns w a k.ds ss) :
    Calls Tryz.prog 62 #[kval k a c] w (Ans k w) := by
  have x0 := Z4.bk_new w k a c
  have hts : (truth k).size ≤ 281474976710656 := by
    unfold truth
    rw [Z4.unAll_size]
    exact hms
  have n1 := K0.below_new (w.alloc (.cells #[.string k.mem, .string k.dur, .slice a k.ds.length c, .int .i64 k.ck] 51)) (.cells #[.string ⟨#[]⟩, .slice none 0 0, .slice none 0 0] 98)
  have e0 : (w.alloc (.cells #[.string k.mem, .string k.dur, .slice a k.ds.length c, .int .i64 k.ck] 51)).heap.size = w.heap.size + 1 := by simp
  have v1 := K0.blk_new [.string ⟨#[]⟩, .slice none 0 0, .slice none 0 0] (w.alloc (.cells #[.string k.mem, .string k.dur, .slice a k.ds.length c, .int .i64 k.ck] 51)) 98
  have x1 := x0.below n1
  rw [e0] at v1
  have L1 := hR.below x1.bel
  have c0 := x1.arg.c0
  have c1 := x1.arg.c1
  have c2 := x1.arg.c2
  have c3 := x1.arg.c3
  have HT : Hid (∀ W, Lns W a k.ds ss → Calls Tryz.prog 98 #[kval k a c] W fun e w' => e = .returned (.string (truth k)) ∧ Below W.heap.size W w') := fun W h => Z4.impl_Truth k a c ss W hms hn hF h
  have bel1 := x1.bel
  obtain ⟨m, em⟩ : ∃ m, truth k = m := ⟨_, rfl⟩
  unfold Ans
  rw [em] at HT hts ⊢
  have hr : Hid (∀ W, Calls Tryz.prog 99 #[.string m] W (TW.Ans m W)) := fun W => TW.readTree m W hts
  have hA : Hid (∀ w e w', TW.Ans m w e w' → ∃ p, e = .returned (.tuple #[.pointer p, .bool (sound m)]) ∧ Below w.heap.size w w' ∧ (sound m = true → ∃ B N F P, p = some ⟨B, 0, none⟩ ∧ w.heap.size ≤ B ∧ TW.Good m B N F P w')) := fun w e w' h => h
  clear hR x0 n1 e0 x1 hF em hms hn hts
  cases hs : sound m with
  | false =>
    rw [hs] at hA
    clear hs
    go_enter Tryz.func62, Tryz.ntmps62
    go_wp2_with (first
      | (go_at_call 98; refine (HT.out _ L1).mono ?_; rintro e w2 ⟨rfl, b2⟩; have v2 := v1.below b2; have bel2 := bel1.trans (b2.mono bel1.size))
      | (go_at_call 99; refine (hr.out _).mono ?_; intro e w3 hans; obtain ⟨p, rfl, b3, -⟩ := hA.out _ _ _ hans; clear hans; have v3 := v2.below b3; have bel3 := bel2.trans (b3.mono bel2.size); have d0 := v3.c0; have d1 := v3.c1; have d2 := v3.c2; have f0 := v3.f0; have f1 := v3.f1; have f2 := v3.f2))
    have q := ((v3.set 0 (.string ⟨#[]⟩)).set 1 (.slice none 0 0)).set 2 (.slice none 0 0)
    have MF := ((bel3.setCell (p := ⟨w.heap.size + 1, 0, none⟩) (Nat.le_add_right _ 1) (.string ⟨#[]⟩)).setCell (p := ⟨w.heap.size + 1, 1, none⟩) (Nat.le_add_right _ 1) (.slice none 0 0)).setCell (p := ⟨w.heap.size + 1, 2, none⟩) (Nat.le_add_right _ 1) (.slice none 0 0)
    simp only [List.set_cons_zero, List.set_cons_succ] at q
    exact bodyPost_ret (v := .tuple #[.agg #[.string ⟨#[]⟩, .slice none 0 0, .slice none 0 0], .bool false]) (by simp [results, Tryz.results62, go_sem, q.c0, q.c1, q.c2]) rfl ⟨⟨#[]⟩, none, 0, 0, none, 0, 0, rfl, MF, fun h => by cases h⟩
  | true =>
    rw [hs] at hA
    obtain ⟨_, _, hK0, ht⟩ := FI.sound_parts hs
    have hu : used m = Y6.srt (TW.cat (TW.tZ m) 8) := by unfold used; rw [if_pos hs]
    have hu2 : files m = FI.filesTo m (FI.fpath m) 8 := by unfold files; rw [if_pos hs]
    have hp : Hid (∀ B N F P W, TW.Good m B N F P W → Calls Tryz.prog 100 #[.pointer (some ⟨B, 0, none⟩)] W fun e w' => ∃ g c, e = .returned (.slice (some ⟨g, 0, none⟩) (used m).length c) ∧ W.heap.size ≤ g ∧ K0.Blk g (ints (used m)) w' ∧ Below W.heap.size W w') := fun B N F P W h =>
      (TW.pages W h.tb h.ps).mono fun e w' ⟨g, c, he, hc, hg, hk, hb⟩ => ⟨g, c, by rw [hu, Y6.srt_length]; exact he, hg, by rw [hu, ← Y6.merge_srt]; exact hk, hb⟩
    have hf : Hid (∀ B N F P W, TW.Good m B N F P W → Calls Tryz.prog 101 #[.pointer (some ⟨B, 0, none⟩)] W fun e w' => ∃ g c, e = .returned (.slice (some ⟨g, 0, none⟩) (files m).length c) ∧ W.heap.size ≤ g ∧ K0.Blk g (ffl (files m)) w' ∧ Below W.heap.size W w') := fun B N F P W h => by
      rw [hu2, ← FI.filesTo_congr 8 fun x hx hk => (FI.path_eq h.inv hK0 ht hx hk).1]
      exact FI.treeFiles W h
    have hfl := files_len m
    have htk : Hid (∀ j, j < (files m).length → (fin m).take (j + 1) = (fin m).take j ++ [((files m).getD j zf).ino]) := fun j h => fin_take m h
    have hfin := fin_len m
    clear hs hu hu2 hK0 ht
    go_enter Tryz.func62, Tryz.ntmps62
    go_wp2_with (first
      | (go_at_call 98; refine (HT.out _ L1).mono ?_; rintro e w2 ⟨rfl, b2⟩; have v2 := v1.below b2; have bel2 := bel1.trans (b2.mono bel1.size))
      | (go_at_call 99; refine (hr.out _).mono ?_; intro e w3 hans; obtain ⟨p, rfl, b3, hy⟩ := hA.out _ _ _ hans; clear hans; obtain ⟨B, N, F, P, rfl, hB, hg⟩ := hy (by trivial); clear hy; have v3 := v2.below b3; have bel3 := bel2.trans (b3.mono bel2.size))
      | (go_at_call 100; refine (hp.out _ _ _ _ _ hg).mono ?_; rintro e w4 ⟨g4, c4, rfl, hg4, k4, b4⟩; have v4 := v3.below b4; have hg' := hg.below b4; have bel4 := bel3.trans (b4.mono bel3.size); have nb := K0.below_new w4 (.cells #[.string m, .slice (some ⟨g4, 0, none⟩) (used m).length c4, .slice none 0 0] 98); have hv := K0.blk_new [.string m, .slice (some ⟨g4, 0, none⟩) (used m).length c4, .slice none 0 0] w4 98; have hg5 := hg'.below nb; have v5 := v4.below nb; have k5 := k4.below nb; have bel5 := bel4.trans (nb.mono bel4.size))
      | (go_at_call 101; refine (hf.out _ _ _ _ _ hg5).mono ?_; rintro e w6 ⟨g6, c6, rfl, hg6, k6, b6⟩; have v6 := v5.below b6; have k46 := k5.below b6; have hv6 := hv.below b6; have bel6 := bel5.trans (b6.mono bel5.size)))
    have s4 := k4.lt
    have s5 : (w4.alloc (.cells #[.string m, .slice (some ⟨g4, 0, none⟩) (used m).length c4, .slice none 0 0] 98)).heap.size = w4.heap.size + 1 := by simp
    rw [s5] at hg6
    have s6 := k6.lt
    have s7 := hv6.lt
    have s8 : w.heap.size + 1 < w4.heap.size := v4.lt
    have s9 : w.heap.size + 1 < w3.heap.size := v3.lt
    have HH : Hid (g4 < w4.heap.size ∧ w4.heap.size < g6 ∧ g6 < w6.heap.size ∧ w.heap.size + 1 < w4.heap.size ∧ w.heap.size + 1 < g4) := ⟨s4, by omega, s6, s8, by omega⟩
    have bf : IBuf w6.heap.size w6 none 0 0 [] := J0.ibuf_nil _
    clear v1 v2 v3 v4 v5 hg hg' hg5 nb hv k4 k5 bel1 bel2 bel3 bel4 bel5 b2 b3 b4 b6 hA hp hf hr HT L1 c0 c1 c2 c3 s4 s5 s6 s7 s8 s9 hg4 hg6 hB
    obtain ⟨n, en⟩ : ∃ n, (files m).length = n := ⟨_, rfl⟩
    rw [en] at htk hfl hfin ⊢
    go_loopw [27] (fun i W => ∃ (j : Nat) (a' : Option Addr) (c' : Nat), j ≤ n ∧ i = .int .i64 j ∧ K0.Blk w4.heap.size [.string m, .slice (some ⟨g4, 0, none⟩) (used m).length c4, .slice a' j c'] W ∧ IBuf w6.heap.size W a' j c' ((fin m).take j) ∧ K0.Blk g6 (ffl (files m)) W ∧ K0.Blk (w.heap.size + 1) [.string ⟨#[]⟩, .slice none 0 0, .slice none 0 0] W ∧ K0.Blk g4 (ints (used m)) W ∧ w6.heap.size ≤ W.heap.size ∧ Below w.heap.size w W) (fun i _ => n - (intOf i).toNat)
    case atStart => exact ⟨0, none, 0, Nat.zero_le _, rfl, hv6, bf, k6, v6, k46, Nat.le_refl _, bel6⟩
    case round =>
      obtain ⟨j, a7, c7, hj, rfl, hv7, bf7, k67, v7, k47, hs7, bel7⟩ := hrel
      clear hv6 bf k6 v6 k46 bel6
      by_cases hlt : j < n
      · obtain ⟨y0, y1, y2, y3, y4⟩ := FI.file_cells k67 (i := j) (by omega)
        have HS : Hid ((fin m).take (j + 1) = (fin m).take j ++ [((files m).getD j zf).ino]) := htk.out j hlt
        obtain ⟨f, ef⟩ : ∃ f, (files m).getD j zf = f := ⟨_, rfl⟩
        rw [ef] at y0 y1 y2 y3 y4 HS
        have e1 : (0 : Int) ≤ (j : Int) := by omega
        have e2 : (j : Int) < (n : Int) := by omega
        have nl := K0.below_new wr (.cells #[.int .i64 f.ino, .string f.path, .int .i64 f.kind, .int .i64 f.owner, .string f.data] 142)
        have nbk := K0.blk_new [.int .i64 f.ino, .string f.path, .int .i64 f.kind, .int .i64 f.owner, .string f.data] wr 142
        have z0 := nbk.c0
        have hv8 := hv7.below nl
        have bf8 := bf7.below nl
        have k68 := k67.below nl
        have v8 := v7.below nl
        have k48 := k47.below nl
        have hs8 := Nat.le_trans hs7 nl.size
        have bel8 := bel7.trans (nl.mono bel7.size)
        have d2 := hv8.c2
        clear hv7 bf7 k67 v7 k47 ef htk
        go_wp2_with (at_builtin; refine KO.append_intH rfl (.tmp 32) (.tmp 35) rfl bf8 f.ino (by rfl) (H := wr.heap.size + 1) (by simp) (by rfl) (by omega) hs8 ?_; intro g9 c9 w9 bf9 b9; have hv9 := J0.blk_keep hv8 b9 (by have := HH.out; omega); have k69 := J0.blk_keep k68 b9 HH.out.2.2.1; have v9 := J0.blk_keep v8 b9 (by have := HH.out; omega); have k49 := J0.blk_keep k48 b9 (by have := HH.out; omega); have bel9 := bel8.trans (b9.mono (by have := HH.out; omega)); have g2 := hv9.c2; have h2 := hv9.f2)
        have hne1 : w4.heap.size ≠ g6 := by have := HH.out; omega
        have hne2 : w4.heap.size ≠ w.heap.size + 1 := by have := HH.out; omega
        have hne3 : w4.heap.size ≠ g4 := by have := HH.out; omega
        have hle : w.heap.size ≤ w4.heap.size := by have := HH.out; omega
        have q := hv9.set 2 (.slice (some ⟨g9, 0, none⟩) (j + 1) c9)
        simp only [List.set_cons_zero, List.set_cons_succ] at q
        have bfq := ibuf_set bf9 (B := w4.heap.size) (by have := HH.out; omega) 2 (.slice (some ⟨g9, 0, none⟩) (j + 1) c9)
        have k6q := k69.setOther hne1 2 (.slice (some ⟨g9, 0, none⟩) (j + 1) c9)
        have vq := v9.setOther hne2 2 (.slice (some ⟨g9, 0, none⟩) (j + 1) c9)
        have k4q := k49.setOther hne3 2 (.slice (some ⟨g9, 0, none⟩) (j + 1) c9)
        have hsq : w6.heap.size ≤ (w9.setCell ⟨w4.heap.size, 2, none⟩ (.slice (some ⟨g9, 0, none⟩) (j + 1) c9)).heap.size := Nat.le_trans (Nat.le_trans (Nat.le_trans hs8 b9.size) (Nat.le_refl _)) (by simp)
        have belq := bel9.setCell (p := ⟨w4.heap.size, 2, none⟩) hle (.slice (some ⟨g9, 0, none⟩) (j + 1) c9)
        go_roundw
        case rel => exact ⟨j + 1, some ⟨g9, 0, none⟩, c9, by omega, by go_num, q, by rw [HS.out]; exact bfq, k6q, vq, k4q, hsq, belq⟩
        case measure => simp [intOf]; omega
      · obtain rfl : j = n := by omega
        have htl : (fin m).take j = fin m := List.take_of_length_le (by omega)
        rw [htl] at bf7
        have d0 := hv7.c0
        have d1 := hv7.c1
        have d2 := hv7.c2
        have f0 := v7.c0
        have f1 := v7.c1
        have f2 := v7.c2
        have g0 := v7.f0
        have g1 := v7.f1
        have g2 := v7.f2
        have HB7 : Hid (IBuf w6.heap.size wr a7 j c7 (fin m)) := bf7
        clear bf7 htk htl
        go_wp2
        have hle : w.heap.size ≤ w.heap.size + 1 := Nat.le_add_right _ 1
        have q := ((v7.set 0 (.string m)).set 1 (.slice (some ⟨g4, 0, none⟩) (used m).length c4)).set 2 (.slice a7 j c7)
        simp only [List.set_cons_zero, List.set_cons_succ] at q
        have hne : w.heap.size + 1 ≠ g4 := by have := HH.out; omega
        have MF := ((bel7.setCell (p := ⟨w.heap.size + 1, 0, none⟩) hle (.string m)).setCell (p := ⟨w.heap.size + 1, 1, none⟩) hle (.slice (some ⟨g4, 0, none⟩) (used m).length c4)).setCell (p := ⟨w.heap.size + 1, 2, none⟩) hle (.slice a7 j c7)
        have k4q := ((k47.setOther hne 0 (.string m)).setOther hne 1 (.slice (some ⟨g4, 0, none⟩) (used m).length c4)).setOther hne 2 (.slice a7 j c7)
        have ow := ((HB7.out.own.set (B := w.heap.size + 1) (by have := HH.out; omega) 0 (.string m)).set (B := w.heap.size + 1) (by have := HH.out; omega) 1 (.slice (some ⟨g4, 0, none⟩) (used m).length c4)).set (B := w.heap.size + 1) (by have := HH.out; omega) 2 (.slice a7 j c7)
        exact bodyPost_ret (v := .tuple #[.agg #[.string m, .slice (some ⟨g4, 0, none⟩) (used m).length c4, .slice a7 j c7], .bool true]) (by simp [results, Tryz.results62, go_sem, q.c0, q.c1, q.c2]) rfl ⟨m, some ⟨g4, 0, none⟩, _, c4, a7, j, c7, rfl, MF, fun _ => ⟨rfl, rfl, hfin.symm, I2.row_of_blk k4q, ow.row⟩⟩
end Go.Proofs.YtdljajjgppcjpaaGreat.KV
