/- Joined texts: plain facts and contracts. -/
import Derived.Test.YtljnkicgahepfaaGreatDoorJqT
import Derived.Test.YtljnkicgahepfaaGreatDoorJqZE
import Derived.Test.YtljnkicgahepfaaGreatDoorJqC
import Derived.Test.YtljnkicgahepfaaGreatDoorJqU
set_option linter.unusedVariables false
set_option linter.unusedSimpArgs false
set_option maxRecDepth 10000
namespace Go.Proofs.YtljnkicgahepfaaGreatDoor.Y5
open Go.ChangeShapes Go.WideShapes Go.ChangeAt Go.RowKit
open J0 (IBuf)
open I2 (ints)
open Y2 (step_rows row_grown ibuf_mono)
def ins (zs : List Int) (x : Int) : List Int := zs.takeWhile (fun z => decide (z < x)) ++ x :: zs.dropWhile (fun z => decide (z < x))
theorem ins_at {zs : List Int} {x : Int} {k : Nat} (hk : k ≤ zs.length) (h1 : ∀ j, j < k → zs.getD j 0 < x) (h2 : k < zs.length → ¬ zs.getD k 0 < x) : ins zs x = zs.take k ++ x :: zs.drop k := by
 induction zs generalizing k with
 | nil => cases k <;> rfl
 | cons z zs ih =>
  cases k with
  | zero =>
   have h := h2 (by simp)
   have h' : ¬ z < x := by simpa using h
   simp [ins, List.takeWhile_cons, List.dropWhile_cons, h']
  | succ k =>
   have h := h1 0 (by omega)
   have h' : z < x := by simpa using h
   have hi := ih (k := k) (by simpa using hk) (fun j hj => by simpa using h1 (j + 1) (by omega)) (fun hl => by simpa using h2 (by simpa using hl))
   unfold ins at hi ⊢
   simp only [List.takeWhile_cons, List.dropWhile_cons, decide_eq_true h', if_true, List.cons_append, List.take_succ_cons, List.drop_succ_cons]
   rw [hi]
theorem ins_length (zs : List Int) (x : Int) : (ins zs x).length = zs.length + 1 := by
 unfold ins
 have := congrArg List.length (List.takeWhile_append_dropWhile (p := fun z => decide (z < x)) (l := zs))
 simp only [List.length_append, List.length_cons] at this ⊢
 omega
theorem ins_perm (zs : List Int) (x : Int) : (ins zs x).Perm (x :: zs) := by
 unfold ins
 refine (List.perm_middle).trans ?_
 rw [List.takeWhile_append_dropWhile]
theorem ins_sorted {zs : List Int} (x : Int) (h : zs.Pairwise (· ≤ ·)) : (ins zs x).Pairwise (· ≤ ·) := by
 induction zs with
 | nil => simp [ins]
 | cons z zs ih =>
  have hz := List.pairwise_cons.1 h
  by_cases hx : z < x
  ·have : ins (z :: zs) x = z :: ins zs x := by simp [ins, List.takeWhile_cons, List.dropWhile_cons, hx]
   rw [this, List.pairwise_cons]
   refine ⟨fun y hy => ?_, ih hz.2⟩
   rcases List.mem_cons.1 ((ins_perm zs x).mem_iff.1 hy) with rfl | hm
   ·omega
   ·exact hz.1 y hm
  ·have : ins (z :: zs) x = x :: z :: zs := by simp [ins, List.takeWhile_cons, List.dropWhile_cons, hx]
   rw [this, List.pairwise_cons]
   refine ⟨fun y hy => ?_, h⟩
   rcases List.mem_cons.1 hy with rfl | hm
   ·omega
   ·have := hz.1 y hm
    omega
theorem ret_len {a : Option Addr} {c n m : Nat} (h : n = m) : Ending.returned (.slice a n c) = .returned (.slice a m c) := by rw [h]
theorem row_drop {W : World} {g off k : Nat} {zs : List Int} (h : P0.Row W (some ⟨g, off, none⟩) zs) (hk : k ≤ zs.length) : P0.Row W (some ⟨g, off + k, none⟩) (zs.drop k) := by
 rcases h with h | ⟨b, o, e, hlt, hc⟩
 ·subst h
  exact Or.inl (by simp)
 ·cases e
  refine Or.inr ⟨g, off + k, rfl, hlt, fun j hj => ?_⟩
  rw [List.length_drop] at hj
  have := hc (k + j) (by omega)
  rw [show off + k + j = off + (k + j) by omega, this, P0.getD_get _ _ (by omega), P0.getD_get _ _ (by rw [List.length_drop]; omega), List.getElem_drop]
theorem row_take {W : World} {g off k : Nat} {zs : List Int} (h : P0.Row W (some ⟨g, off, none⟩) zs) (hk : k ≤ zs.length) : P0.Row W (some ⟨g, off, none⟩) (zs.take k) := by
 rcases h with h | ⟨b, o, e, hlt, hc⟩
 ·subst h
  exact Or.inl (by simp)
 ·cases e
  refine Or.inr ⟨g, off, rfl, hlt, fun j hj => ?_⟩
  rw [List.length_take] at hj
  rw [hc j (by omega), P0.getD_get _ _ (by omega), P0.getD_get _ _ (by rw [List.length_take]; omega), List.getElem_take]
set_option maxHeartbeats 4000000 in
theorem l04Add (g off c : Nat) (zs : List Int) (x : Int) (w : World) (hn : zs.length ≤ 1048576) (hc : zs.length ≤ c) (hR : P0.Row w (some ⟨g, off, none⟩) zs) :
  Calls Tryz.prog 119 #[.slice (some ⟨g, off, none⟩) zs.length c, .int .i64 x] w fun e w' => ∃ a' c', e = .returned (.slice a' (zs.length + 1) c') ∧ IBuf w.heap.size w' a' (zs.length + 1) c' (ins zs x) ∧ Below w.heap.size w w' := by
 go_enter Tryz.func119, Tryz.ntmps119
 go_wp2
 go_loop [5] (fun i => ∃ k : Nat, k ≤ zs.length ∧ (∀ j, j < k → zs.getD j 0 < x) ∧ i = .int .i64 k) (fun i => zs.length - (intOf i).toNat)
 case atStart => exact ⟨0, Nat.zero_le _, fun j hj => absurd hj (by omega), rfl⟩
 case round =>
  obtain ⟨k, hk, hless, rfl⟩ := hrel
  have hgo : (k < zs.length ∧ zs.getD k 0 < x) ∨ ((k < zs.length → ¬ zs.getD k 0 < x)) := by
   by_cases h1 : k < zs.length
   ·by_cases h2 : zs.getD k 0 < x
    ·exact Or.inl ⟨h1, h2⟩
    ·exact Or.inr fun _ => h2
   ·exact Or.inr fun h => absurd h h1
  rcases hgo with ⟨hlt, x2⟩ | hend
  ·obtain ⟨b, of2, hab, _, hcl⟩ := hR.get hlt
   cases hab
   have x1 := hcl k hlt
   have HL : Hid (∀ j, j < k + 1 → zs.getD j 0 < x) := fun j hj => by
    by_cases h : j = k
    ·subst h; exact x2
    ·exact hless j (by omega)
   obtain ⟨z, ez⟩ : ∃ z, zs.getD k 0 = z := ⟨_, rfl⟩
   rw [ez] at x1 x2
   have e1 : (0 : Int) ≤ (k : Int) := by omega
   have e2 : (k : Int) < (zs.length : Int) := by omega
   clear ez hcl hR hless
   go_wp2
   go_round
   case rel => exact ⟨k + 1, by omega, HL.out, by go_num⟩
   case measure => simp [intOf]; omega
  ·have HI : Hid (ins zs x = zs.take k ++ x :: zs.drop k) := ins_at hk hless hend
   have e1 : (0 : Int) ≤ (k : Int) := by omega
   have e2 : (k : Int) ≤ (c : Int) := by omega
   have e3 : (k : Int) ≤ (zs.length : Int) := by omega
   have L0 : Below w.heap.size w w.drew := (Below.refl _ _).drew
   have L1 := L0.alloc L0.size (.cells #[] 3)
   have L2 := L1.alloc L1.size (.cells #[.int .i64 x] 3)
   have M1 := L0.alloc L0.size (.cells #[.int .i64 x] 3)
   have L3 := M1.alloc M1.size (.cells #[] 3)
   have B1 := J0.ibuf_made w.drew L0.size
   have B2 := B1.alloc (.cells #[.int .i64 x] 3)
   have B3 := J0.ibuf_made (w.drew.alloc (.cells #[.int .i64 x] 3)) M1.size
   have X2 := Y1.row_one (w.drew.alloc (.cells #[] 3)) x
   have X3 := (Y1.row_one w.drew x).alloc (.cells #[] 3)
   have hTr := row_take (k := k) hR hk
   have hDr := row_drop (k := k) hR hk
   have hTl : (zs.take k).length = k := by rw [List.length_take]; omega
   have hDl : (zs.drop k).length = zs.length - k := List.length_drop
   have hsum : k + (zs.length - k) = zs.length := by omega
   have htest : (k = zs.length) ∨ (k < zs.length ∧ ∃ z, w.cell? ⟨g, off + k, none⟩ = some (.int .i64 z) ∧ decide (z < x) = false) := by
    by_cases h : k < zs.length
    ·right
     obtain ⟨b, of2, hab, _, hcl⟩ := hR.get h
     cases hab
     exact ⟨h, _, hcl k h, by simpa using hend h⟩
    ·left; omega
   obtain ⟨T, hT⟩ : ∃ T, zs.take k = T := ⟨_, rfl⟩
   obtain ⟨D, hD⟩ : ∃ D, zs.drop k = D := ⟨_, rfl⟩
   rw [hT] at HI hTr hTl
   rw [hD] at HI hDr hDl
   clear hT hD hless hend hR
   rcases htest with hkn | ⟨hkn, z, hz, hzx⟩
   ·subst hkn
    obtain rfl : D = [] := List.eq_nil_of_length_eq_zero (by omega)
    have e9 : decide ((zs.length : Int) < (zs.length : Int)) = false := by simp
    clear hDr hDl hsum
    by_cases hcn : c = zs.length
    ·subst c
     clear hk hc
     go_wp2
     go_region_law (first
      | (refine step_rows rfl (.tmp 27) (.tmp 30) rfl f8 (some ⟨g, off, none⟩) (0) [] (by simp [Act.eval, Act.put, hTl]) (by simp [Act.eval, Act.put, hTl]) (Or.inl rfl) (by simp only [List.length_cons, List.length_nil]; omega) l8.size ?_; intro a9 c9 w9 f9 g9; have l9 := l8.trans (D7.run_below f8 l8.size g9))
      | (refine step_rows rfl (.tmp 24) (.tmp 26) rfl f7 _ _ [x] (by simp [Act.eval, Act.put, hTl]) (by simp [Act.eval, Act.put]; rfl) x7 (by simp only [List.length_cons, List.length_nil]; omega) l7.size ?_; intro a8 c8 w8 f8 g8; have l8 := l7.trans (D7.run_below f7 l7.size g8))
      | (refine step_rows rfl (.tmp 24) (.tmp 26) rfl (f7.alloc (.cells #[.int .i64 x] 3)) (some ⟨w7.heap.size, 0, none⟩) 1 [x] (by simp [Act.eval, Act.put, hTl]) (by simp [Act.eval, Act.put]) (Y1.row_one w7 x) (by simp only [List.length_cons, List.length_nil]; omega) (l7.alloc l7.size _).size ?_; intro a8 c8 w8 f8 g8; have l8 := (l7.alloc l7.size (.cells #[.int .i64 x] 3)).trans (D7.run_below (f7.alloc (.cells #[.int .i64 x] 3)) (l7.alloc l7.size (.cells #[.int .i64 x] 3)).size g8))
      | (refine step_rows rfl (.tmp 20) (.tmp 23) rfl B1 (some ⟨g, off, none⟩) zs.length T (by simp [Act.eval, Act.put]) (by simp [Act.eval, Act.put, hTl]) (hTr.below L1) (by omega) L1.size ?_; intro a7 c7 w7 f7 g7; have l7 := L1.trans (D7.run_below B1 L1.size g7))
      | (refine step_rows rfl (.tmp 20) (.tmp 23) rfl B2 (some ⟨g, off, none⟩) zs.length T (by simp [Act.eval, Act.put]) (by simp [Act.eval, Act.put, hTl]) (hTr.below L2) (by omega) L2.size ?_; intro a7 c7 w7 f7 g7; have l7 := L2.trans (D7.run_below B2 L2.size g7); have x7 := row_grown X2 g7 (by rintro p ⟨⟩ h; simp [Value.ownBlock] at h))
      | (refine step_rows rfl (.tmp 20) (.tmp 23) rfl B3 (some ⟨g, off, none⟩) zs.length T (by simp [Act.eval, Act.put]) (by simp [Act.eval, Act.put, hTl]) (hTr.below L3) (by omega) L3.size ?_; intro a7 c7 w7 f7 g7; have l7 := L3.trans (D7.run_below B3 L3.size g7); have x7 := row_grown X3 g7 (by rintro p ⟨⟩ h; simp [Value.ownBlock] at h)))
     all_goals
      have f9 : IBuf w.heap.size w9 a9 (zs.length + 1) c9 (ins zs x) := by
       rw [HI.out]
       have hf := f9
       simp only [List.nil_append, List.append_assoc, List.cons_append, List.append_nil] at hf
       rw [show 0 + T.length + [x].length + ([] : List Int).length = zs.length + 1 by simp only [List.length_cons, List.length_nil]; omega] at hf
       exact hf
      go_wp2
      go_ret
      exact ⟨a9, c9, by rfl, f9, l9⟩
    ·clear hk
     go_wp2
     go_region_law (first
      | (refine step_rows rfl (.tmp 27) (.tmp 30) rfl f8 (some ⟨g, off + zs.length, none⟩) (c - zs.length) [] (by simp [Act.eval, Act.put, hTl]) (by simp [Act.eval, Act.put, hTl]) (Or.inl rfl) (by simp only [List.length_cons, List.length_nil]; omega) l8.size ?_; intro a9 c9 w9 f9 g9; have l9 := l8.trans (D7.run_below f8 l8.size g9))
      | (refine step_rows rfl (.tmp 24) (.tmp 26) rfl f7 _ _ [x] (by simp [Act.eval, Act.put, hTl]) (by simp [Act.eval, Act.put]; rfl) x7 (by simp only [List.length_cons, List.length_nil]; omega) l7.size ?_; intro a8 c8 w8 f8 g8; have l8 := l7.trans (D7.run_below f7 l7.size g8))
      | (refine step_rows rfl (.tmp 24) (.tmp 26) rfl (f7.alloc (.cells #[.int .i64 x] 3)) (some ⟨w7.heap.size, 0, none⟩) 1 [x] (by simp [Act.eval, Act.put, hTl]) (by simp [Act.eval, Act.put]) (Y1.row_one w7 x) (by simp only [List.length_cons, List.length_nil]; omega) (l7.alloc l7.size _).size ?_; intro a8 c8 w8 f8 g8; have l8 := (l7.alloc l7.size (.cells #[.int .i64 x] 3)).trans (D7.run_below (f7.alloc (.cells #[.int .i64 x] 3)) (l7.alloc l7.size (.cells #[.int .i64 x] 3)).size g8))
      | (refine step_rows rfl (.tmp 20) (.tmp 23) rfl B1 (some ⟨g, off, none⟩) c T (by simp [Act.eval, Act.put]) (by simp [Act.eval, Act.put, hTl]) (hTr.below L1) (by omega) L1.size ?_; intro a7 c7 w7 f7 g7; have l7 := L1.trans (D7.run_below B1 L1.size g7))
      | (refine step_rows rfl (.tmp 20) (.tmp 23) rfl B2 (some ⟨g, off, none⟩) c T (by simp [Act.eval, Act.put]) (by simp [Act.eval, Act.put, hTl]) (hTr.below L2) (by omega) L2.size ?_; intro a7 c7 w7 f7 g7; have l7 := L2.trans (D7.run_below B2 L2.size g7); have x7 := row_grown X2 g7 (by rintro p ⟨⟩ h; simp [Value.ownBlock] at h))
      | (refine step_rows rfl (.tmp 20) (.tmp 23) rfl B3 (some ⟨g, off, none⟩) c T (by simp [Act.eval, Act.put]) (by simp [Act.eval, Act.put, hTl]) (hTr.below L3) (by omega) L3.size ?_; intro a7 c7 w7 f7 g7; have l7 := L3.trans (D7.run_below B3 L3.size g7); have x7 := row_grown X3 g7 (by rintro p ⟨⟩ h; simp [Value.ownBlock] at h)))
     all_goals
      have f9 : IBuf w.heap.size w9 a9 (zs.length + 1) c9 (ins zs x) := by
       rw [HI.out]
       have hf := f9
       simp only [List.nil_append, List.append_assoc, List.cons_append, List.append_nil] at hf
       rw [show 0 + T.length + [x].length + ([] : List Int).length = zs.length + 1 by simp only [List.length_cons, List.length_nil]; omega] at hf
       exact hf
      go_wp2
      go_ret
      exact ⟨a9, c9, by rfl, f9, l9⟩
   ·have e4 : (k : Int) < (zs.length : Int) := by omega
    have hck : ¬ c = k := by omega
    go_wp2
    go_region_law (first
     | (refine step_rows rfl (.tmp 27) (.tmp 30) rfl f8 (some ⟨g, off + k, none⟩) (c - k) D (by simp [Act.eval, Act.put, hTl, hDl]) (by simp [Act.eval, Act.put, hTl, hDl]) (hDr.below l8) (by simp only [List.length_cons, List.length_nil]; omega) l8.size ?_; intro a9 c9 w9 f9 g9; have l9 := l8.trans (D7.run_below f8 l8.size g9))
     | (refine step_rows rfl (.tmp 24) (.tmp 26) rfl f7 _ _ [x] (by simp [Act.eval, Act.put, hTl, hDl]) (by simp [Act.eval, Act.put]; rfl) x7 (by simp only [List.length_cons, List.length_nil]; omega) l7.size ?_; intro a8 c8 w8 f8 g8; have l8 := l7.trans (D7.run_below f7 l7.size g8))
     | (refine step_rows rfl (.tmp 24) (.tmp 26) rfl (f7.alloc (.cells #[.int .i64 x] 3)) (some ⟨w7.heap.size, 0, none⟩) 1 [x] (by simp [Act.eval, Act.put, hTl, hDl]) (by simp [Act.eval, Act.put]) (Y1.row_one w7 x) (by simp only [List.length_cons, List.length_nil]; omega) (l7.alloc l7.size _).size ?_; intro a8 c8 w8 f8 g8; have l8 := (l7.alloc l7.size (.cells #[.int .i64 x] 3)).trans (D7.run_below (f7.alloc (.cells #[.int .i64 x] 3)) (l7.alloc l7.size (.cells #[.int .i64 x] 3)).size g8))
     | (refine step_rows rfl (.tmp 20) (.tmp 23) rfl B1 (some ⟨g, off, none⟩) c T (by simp [Act.eval, Act.put]) (by simp [Act.eval, Act.put, hTl, hDl]) (hTr.below L1) (by omega) L1.size ?_; intro a7 c7 w7 f7 g7; have l7 := L1.trans (D7.run_below B1 L1.size g7))
     | (refine step_rows rfl (.tmp 20) (.tmp 23) rfl B2 (some ⟨g, off, none⟩) c T (by simp [Act.eval, Act.put]) (by simp [Act.eval, Act.put, hTl, hDl]) (hTr.below L2) (by omega) L2.size ?_; intro a7 c7 w7 f7 g7; have l7 := L2.trans (D7.run_below B2 L2.size g7); have x7 := row_grown X2 g7 (by rintro p ⟨⟩ h; simp [Value.ownBlock] at h))
     | (refine step_rows rfl (.tmp 20) (.tmp 23) rfl B3 (some ⟨g, off, none⟩) c T (by simp [Act.eval, Act.put]) (by simp [Act.eval, Act.put, hTl, hDl]) (hTr.below L3) (by omega) L3.size ?_; intro a7 c7 w7 f7 g7; have l7 := L3.trans (D7.run_below B3 L3.size g7); have x7 := row_grown X3 g7 (by rintro p ⟨⟩ h; simp [Value.ownBlock] at h)))
    all_goals
     have f9 : IBuf w.heap.size w9 a9 (zs.length + 1) c9 (ins zs x) := by
      rw [HI.out]
      have hf := f9
      simp only [List.nil_append, List.append_assoc, List.cons_append, List.append_nil] at hf
      rw [show 0 + T.length + [x].length + D.length = zs.length + 1 by simp only [List.length_cons, List.length_nil]; omega] at hf
      exact hf
     go_wp2
     go_ret
     exact ⟨a9, c9, by refine ret_len ?_; omega, f9, l9⟩
end Go.Proofs.YtljnkicgahepfaaGreatDoor.Y5
namespace Go.Proofs.YtljnkicgahepfaaGreatDoor.Y6
open Go.ChangeShapes Go.WideShapes Go.ChangeAt Go.RowKit
open J0 (IBuf)
open I2 (ints)
open Y5 (ins)
open Y2 (ibuf_mono)
def srt (zs : List Int) : List Int := zs.foldl ins []
theorem srt_snoc (zs : List Int) (x : Int) : srt (zs ++ [x]) = ins (srt zs) x := by simp [srt, List.foldl_append]
theorem foldl_perm (zs acc : List Int) : (zs.foldl ins acc).Perm (acc ++ zs) := by
 induction zs generalizing acc with
 | nil => simp
 | cons z zs ih =>
  refine (ih (ins acc z)).trans ?_
  refine ((Y5.ins_perm acc z).append_right zs).trans ?_
  exact (List.perm_middle (l₁ := acc) (l₂ := zs) (a := z)).symm
theorem srt_perm (zs : List Int) : (srt zs).Perm zs := foldl_perm zs []
theorem srt_length (zs : List Int) : (srt zs).length = zs.length := (srt_perm zs).length_eq
theorem foldl_sorted (zs acc : List Int) (h : acc.Pairwise (· ≤ ·)) : (zs.foldl ins acc).Pairwise (· ≤ ·) := by
 induction zs generalizing acc with
 | nil => exact h
 | cons z zs ih => exact ih _ (Y5.ins_sorted z h)
theorem srt_sorted (zs : List Int) : (srt zs).Pairwise (· ≤ ·) := foldl_sorted zs [] List.Pairwise.nil
theorem sorted_one : ∀ {xs ys : List Int}, xs.Perm ys → xs.Pairwise (· ≤ ·) → ys.Pairwise (· ≤ ·) → xs = ys
 | [], ys, hp, _, _ => (List.nil_perm.1 hp).symm
 | x :: xs, [], hp, _, _ => absurd hp.length_eq (by simp)
 | x :: xs, y :: ys, hp, h1, h2 => by
  have q1 := List.pairwise_cons.1 h1
  have q2 := List.pairwise_cons.1 h2
  have hx : x ∈ y :: ys := hp.mem_iff.1 (by simp)
  have hy : y ∈ x :: xs := hp.mem_iff.2 (by simp)
  obtain rfl : x = y := by
   rcases List.mem_cons.1 hx with e | m1
   ·exact e
   ·rcases List.mem_cons.1 hy with e | m2
    ·exact e.symm
    ·have := q1.1 y m2
     have := q2.1 x m1
     omega
  rw [sorted_one (List.perm_cons x |>.1 hp) q1.2 q2.2]
theorem merge_srt (zs : List Int) : zs.mergeSort (fun x y => decide (x ≤ y)) = srt zs := by
 refine sorted_one ((List.mergeSort_perm zs _).trans (srt_perm zs).symm) ?_ (srt_sorted zs)
 have := List.pairwise_mergeSort (le := fun x y : Int => decide (x ≤ y)) (fun a b c h1 h2 => by simp only [decide_eq_true_eq] at h1 h2 ⊢; omega) (fun a b => by simp only [Bool.or_eq_true, decide_eq_true_eq]; omega) zs
 exact this.imp fun h => by simpa using h
def kept (b : Bool) (zs al : List Int) : List Int := zs.filter fun z => P0.has al z == b
theorem kept_yes {b : Bool} {zs al : List Int} {k : Nat} (hk : k < zs.length) (h : P0.has al (zs.getD k 0) = b) : srt (kept b (zs.take (k + 1)) al) = ins (srt (kept b (zs.take k) al)) (zs.getD k 0) := by
 rw [← srt_snoc]
 unfold kept
 rw [List.take_succ_eq_append_getElem hk, List.filter_append, P0.getD_get _ _ hk]
 rw [P0.getD_get _ _ hk] at h
 simp [h]
theorem kept_no {b : Bool} {zs al : List Int} {k : Nat} (hk : k < zs.length) (h : P0.has al (zs.getD k 0) = !b) : srt (kept b (zs.take (k + 1)) al) = srt (kept b (zs.take k) al) := by
 unfold kept
 rw [List.take_succ_eq_append_getElem hk, List.filter_append]
 rw [P0.getD_get _ _ hk] at h
 cases b <;> simp [h]
theorem kept_len (b : Bool) (zs al : List Int) (k : Nat) : (srt (kept b (zs.take k) al)).length ≤ zs.length := by
 rw [srt_length]
 exact Nat.le_trans (List.length_filter_le _ _) (by rw [List.length_take]; omega)
set_option maxHeartbeats 2000000 in
theorem l05Only (b : Bool) (a1 a2 : Option Addr) (c1 c2 : Nat) (zs al : List Int) (w : World) (h1 : zs.length ≤ 1048576) (h2 : al.length ≤ 281474976710656) (R1 : P0.Row w a1 zs) (R2 : P0.Row w a2 al) :
  Calls Tryz.prog 122 #[.slice a1 zs.length c1, .slice a2 al.length c2, .bool b] w fun e w' => ∃ a c, e = .returned (.slice a (srt (kept b zs al)).length c) ∧ (srt (kept b zs al)).length ≤ c ∧ J0.Own w.heap.size w' a (srt (kept b zs al)) ∧ Below w.heap.size w w' := by
 have b0 := J0.ibuf_made w (Nat.le_refl _)
 have l0 := K0.below_new w (.cells #[] 3)
 go_enter Tryz.func122, Tryz.ntmps122
 go_wp2
 go_loopw [7, 8] (fun v i w' => ∃ (k n c g : Nat), k ≤ zs.length ∧ i = .int .i64 k ∧ v = .slice (some ⟨g, 0, none⟩) n c ∧ IBuf w.heap.size w' (some ⟨g, 0, none⟩) n c (srt (kept b (zs.take k) al)) ∧ Below w.heap.size w w') (fun _ i _ => zs.length - (intOf i).toNat)
 case atStart => exact ⟨0, 0, 0, _, Nat.zero_le _, rfl, rfl, b0, l0⟩
 case round =>
  obtain ⟨k, n, c', g, hk, rfl, rfl, hbuf, hbel⟩ := hrel
  clear b0 l0
  by_cases hlt : k < zs.length
  ·obtain ⟨bb, off, hab, _, hc⟩ := (R1.below hbel).get hlt
   have x1 := hc k hlt
   have hyes := fun h => kept_yes (b := b) (zs := zs) (al := al) hlt h
   have hno := fun h => kept_no (b := b) (zs := zs) (al := al) hlt h
   have hln := kept_len b zs al k
   obtain ⟨z, ez⟩ : ∃ z, zs.getD k 0 = z := ⟨_, rfl⟩
   rw [ez] at x1 hyes hno
   have hH : Hid (Calls Tryz.prog 106 #[.slice a2 al.length c2, .int .i64 z] wr fun e w' => e = .returned (.bool (P0.has al z)) ∧ w' = wr) := N2.hasRow a2 c2 al z wr h2 (R2.below hbel)
   obtain ⟨O, hO⟩ : ∃ O, srt (kept b (zs.take k) al) = O := ⟨_, rfl⟩
   rw [hO] at hbuf hyes hno hln
   obtain rfl : n = O.length := hbuf.1
   have hA : Hid (Calls Tryz.prog 119 #[.slice (some ⟨g, 0, none⟩) O.length c', .int .i64 z] wr fun e w' => ∃ a' c', e = .returned (.slice a' (O.length + 1) c') ∧ IBuf wr.heap.size w' a' (O.length + 1) c' (ins O z) ∧ Below wr.heap.size wr w') := Y5.l04Add g 0 c' O z wr (by omega) hbuf.fits hbuf.own.row
   rw [hab]
   have e1 : (0 : Int) ≤ (k : Int) := by omega
   have e2 : (k : Int) < (zs.length : Int) := by omega
   by_cases h : P0.has al z = b
   ·have HS : Hid (ins O z = srt (kept b (zs.take (k + 1)) al)) := (hyes h).symm
    rw [h] at hH
    clear ez hc hyes hno h R1 R2 hO hbuf
    have hbb : (b == b) = true := by simp
    go_wp2_with (first
     | (go_at_call 106; refine (hH.out).mono ?_; rintro e w' ⟨rfl, rfl⟩)
     | (go_at_call 119; refine (hA.out).mono ?_; rintro e w3 ⟨a3, c3, rfl, f3, b3⟩))
    obtain ⟨g3, rfl⟩ : ∃ g3, a3 = some ⟨g3, 0, none⟩ := by
     rcases f3.own with h0 | ⟨g3, e3, _⟩
     ·exact absurd (congrArg List.length h0) (by rw [Y5.ins_length]; simp)
     ·exact ⟨g3, e3⟩
    go_roundw
    case rel => exact ⟨k + 1, _, c3, g3, by omega, by go_num, rfl, by rw [← HS.out]; exact ibuf_mono f3 hbel.size, hbel.trans (b3.mono hbel.size)⟩
    case measure => simp [intOf]; omega
   ·have h' : P0.has al z = !b := by
     cases b <;> cases hh : P0.has al z <;> simp_all
    have HS : Hid (srt (kept b (zs.take (k + 1)) al) = O) := hno h'
    rw [h'] at hH
    have hbb : ((!b) == b) = false := by cases b <;> rfl
    clear ez hc hyes hno h h' R1 R2 hO
    go_wp2_with (go_at_call 106; refine (hH.out).mono ?_; rintro e w' ⟨rfl, rfl⟩)
    go_roundw
    case rel => exact ⟨k + 1, _, c', g, by omega, by go_num, rfl, by rw [HS.out]; exact hbuf, hbel⟩
    case measure => simp [intOf]; omega
  ·obtain rfl : k = zs.length := by omega
   have HF : Hid (IBuf w.heap.size wr (some ⟨g, 0, none⟩) n c' (srt (kept b zs al))) := by
    show IBuf _ _ _ _ _ _
    rw [List.take_length] at hbuf
    exact hbuf
   have e9 : decide ((zs.length : Int) < (zs.length : Int)) = false := by simp
   clear hbuf R1 R2
   go_wp2
   go_ret
   exact ⟨_, c', by rw [← HF.out.1]; rfl, by rw [← HF.out.1]; exact HF.out.fits, HF.out.own, hbel⟩
end Go.Proofs.YtljnkicgahepfaaGreatDoor.Y6
namespace Go.Proofs.YtljnkicgahepfaaGreatDoor.US
open Go.ChangeShapes Go.WideShapes Go.ChangeAt Go.RowKit
variable {w W W' : World} {mem : ByteArray}
open J0 (IBuf)
open I2 (ints)
open TW (tK tZ tE cat nodesOk sound headOk hd)
def used (mem : ByteArray) : List Int := if sound mem = true then Y6.srt (cat (tZ mem) 8) else []
theorem used_len (mem : ByteArray) : (used mem).length ≤ 1048576 := by
 unfold used
 split
 ·rw [Y6.srt_length]
  have := TW.cat_len (TW.pg_few mem) 8
  omega
 ·exact Nat.zero_le _
theorem take_ins (zs : List Int) (k : Nat) (h : k < zs.length) : Y6.srt (zs.take (k + 1)) = Y5.ins (Y6.srt (zs.take k)) (zs.getD k 0) := by
 rw [List.take_succ_eq_append_getElem h, Y6.srt_snoc, P0.getD_get _ _ h]
set_option maxHeartbeats 1000000 in
theorem spec_Used (mem : ByteArray) (w : World) (hms : mem.size ≤ 281474976710656) : Calls Tryz.prog 50 #[.string mem] w fun e w' => ∃ a c, e = .returned (.slice a (used mem).length c) ∧ J0.Own w.heap.size w' a (used mem) ∧ Below w.heap.size w w' := by
 have hS : Hid (∀ W, Calls Tryz.prog 45 #[.string mem] W fun e w' => e = .returned (.bool (sound mem)) ∧ Below W.heap.size W w') := fun W => TS.spec_Sound mem W hms
 have how : Hid (∀ W, Calls Tryz.prog 115 #[.string mem] W fun e w' => ∃ a c, e = .returned (.slice a (cat (tZ mem) 8).length c) ∧ (cat (tZ mem) 8).length ≤ c ∧ J0.Own W.heap.size w' a (cat (tZ mem) 8) ∧ Below W.heap.size W w') := fun W => TS.l04Owned mem W hms
 have l0 := K0.below_new w (.cells #[] 3)
 have b0 := J0.ibuf_made (base := w.heap.size) w (Nat.le_refl _)
 cases hs : sound mem with
 | false =>
  rw [hs] at hS
  have hu : used mem = [] := by unfold used; rw [hs]; rfl
  rw [hu]
  clear hs hu how
  go_enter Tryz.func50, Tryz.ntmps50
  go_wp2_with (go_at_call 45; refine (hS.out _).mono ?_; rintro e w1 ⟨rfl, b1⟩)
  go_ret
  exact ⟨_, _, rfl, Or.inl rfl, l0.trans (b1.mono l0.size)⟩
 | true =>
  rw [hs] at hS
  have hu : used mem = Y6.srt (cat (tZ mem) 8) := by unfold used; rw [if_pos hs]
  rw [hu]
  have hlen := TW.cat_len (TW.pg_few mem) 8
  obtain ⟨zs, hzs⟩ : ∃ zs, cat (tZ mem) 8 = zs := ⟨_, rfl⟩
  rw [hzs] at how hlen ⊢
  clear hs hu hzs
  go_enter Tryz.func50, Tryz.ntmps50
  go_wp2_with (first
   | (go_at_call 45; refine (hS.out _).mono ?_; rintro e w1 ⟨rfl, b1⟩; have l1 := l0.trans (b1.mono l0.size))
   | (go_at_call 115; refine (how.out _).mono ?_; rintro e w2 ⟨a2, c2, rfl, hc2, o2, b2⟩))
  have bf : IBuf w.heap.size w2 (some ⟨w.heap.size, 0, none⟩) 0 0 [] := (b0.below b1).below b2
  have l2 := l1.trans (b2.mono l1.size)
  have r2 := o2.row
  clear b0 l0 l1 b1 b2 hS how
  go_loopw [3, 5] (fun v i W => ∃ (k g c : Nat), k ≤ zs.length ∧ i = .int .i64 k ∧ v = .slice (some ⟨g, 0, none⟩) k c ∧ IBuf w.heap.size W (some ⟨g, 0, none⟩) k c (Y6.srt (zs.take k)) ∧ P0.Row W a2 zs ∧ Below w.heap.size w W) (fun _ i _ => zs.length - (intOf i).toNat)
  case atStart => exact ⟨0, _, 0, Nat.zero_le _, rfl, rfl, bf, r2, l2⟩
  case round =>
   obtain ⟨k, g, c, hk, rfl, rfl, hbuf, hrow, hbel⟩ := hrel
   clear bf r2 l2 o2
   by_cases hlt : k < zs.length
   ·have hrow' := hrow
    obtain ⟨b, off, hab, hbl, hc⟩ := hrow.get hlt
    subst hab
    have x1 := hc k hlt
    have hsl : (Y6.srt (zs.take k)).length = k := hbuf.1.symm
    have hti := take_ins zs k hlt
    obtain ⟨z, ez⟩ : ∃ z, zs.getD k 0 = z := ⟨_, rfl⟩
    rw [ez] at x1 hti
    have e1 : (0 : Int) ≤ (k : Int) := by omega
    have e2 : (k : Int) < (zs.length : Int) := by omega
    have hrw : P0.Row wr (some ⟨g, 0, none⟩) (Y6.srt (zs.take k)) := hbuf.own.row
    have hadd := Y5.l04Add g 0 c (Y6.srt (zs.take k)) z wr (by omega) (by rw [hsl]; exact hbuf.fits) hrw
    rw [hsl, ← hti] at hadd
    have HA : Hid (Calls Tryz.prog 119 #[.slice (some ⟨g, 0, none⟩) k c, .int .i64 z] wr fun e w' => ∃ a' c', e = .returned (.slice a' (k + 1) c') ∧ IBuf wr.heap.size w' a' (k + 1) c' (Y6.srt (zs.take (k + 1))) ∧ Below wr.heap.size wr w') := hadd
    clear hadd hti ez hc hrw hsl
    go_wp2_with (go_at_call 119; refine HA.out.mono ?_; rintro e w3 ⟨a3, c3, rfl, bf3, b3⟩)
    have bf3' := Y2.ibuf_mono bf3 hbel.size
    obtain ⟨g3, rfl⟩ : ∃ g3, a3 = some ⟨g3, 0, none⟩ := by
     rcases bf3.2.2 with ⟨h1, h2⟩ | ⟨g', cap', cur, h1, _⟩
     ·omega
     ·cases h1
      exact ⟨g', rfl⟩
    go_roundw
    case rel => exact ⟨k + 1, g3, c3, by omega, by go_num, rfl, bf3', hrow'.below b3, hbel.trans (b3.mono hbel.size)⟩
    case measure => simp [intOf]; omega
   ·obtain rfl : k = zs.length := by omega
    rw [List.take_length] at hbuf
    have HB : Hid (IBuf w.heap.size wr (some ⟨g, 0, none⟩) zs.length c (Y6.srt zs)) := hbuf
    clear hrow hbuf
    go_wp2
    go_ret
    exact ⟨_, c, by rw [Y6.srt_length]; rfl, HB.out.own, hbel⟩
structure L (w : World) (aw ag : Option Addr) (Z M : List Int) (W : World) : Prop where
 bel : Below w.heap.size w W
 rows : Z = [] ∨ ∃ g1 g2, aw = some ⟨g1, 0, none⟩ ∧ ag = some ⟨g2, 0, none⟩ ∧ w.heap.size ≤ g2 ∧ g1 ≠ g2 ∧ K0.Blk g1 (ints Z) W ∧ K0.Blk g2 (ints M) W
variable {aw ag : Option Addr} {Z M : List Int} {cw cg : Nat}
theorem L.below (h : L w aw ag Z M W) (hb : Below W.heap.size W W') : L w aw ag Z M W' :=
 ⟨h.bel.trans (hb.mono h.bel.size), h.rows.imp id fun ⟨g1, g2, e1, e2, h1, h2, k1, k2⟩ => ⟨g1, g2, e1, e2, h1, h2, k1.below hb, k2.below hb⟩⟩
end Go.Proofs.YtljnkicgahepfaaGreatDoor.US
namespace Go.Proofs.YtljnkicgahepfaaGreatDoor.TR
open T0 (Ent)
variable {E : Nat → List Ent} {K : Nat → Int} {F : Nat → Nat} {P : Nat → ByteArray} {d k x : Nat}
def At2 (E : Nat → List Ent) : Nat → Nat → ByteArray → Prop
 | x, 0, p => x = 0 ∧ p = ⟨#[]⟩
 | x, k + 1, p => ∃ d q nm, At2 E d k q ∧ ((x : Int), nm) ∈ E d ∧ p = q ++ (⟨#[47]⟩ ++ nm)
theorem At2.zero {E : Nat → List Ent} : At2 E 0 0 ⟨#[]⟩ := ⟨rfl, rfl⟩
theorem At2.down {E : Nat → List Ent} {d k : Nat} {q : ByteArray} {x : Nat} {nm : ByteArray} (h : At2 E d k q) (hm : ((x : Int), nm) ∈ E d) : At2 E x (k + 1) (q ++ (⟨#[47]⟩ ++ nm)) := ⟨d, q, nm, h, hm, rfl⟩
theorem At2.or {E : Nat → List Ent} {x : Nat} {p : ByteArray} : ∀ {k : Nat}, At2 E x k p → (x = 0 ∧ k = 0 ∧ p = ⟨#[]⟩) ∨ ∃ d k' q nm, k = k' + 1 ∧ At2 E d k' q ∧ ((x : Int), nm) ∈ E d ∧ p = q ++ (⟨#[47]⟩ ++ nm)
 | 0, h => Or.inl ⟨h.1, rfl, h.2⟩
 | k + 1, ⟨d, q, nm, h, hm, e⟩ => Or.inr ⟨d, k, q, nm, rfl, h, hm, e⟩
theorem At2.ind {E : Nat → List Ent} {motive : (x k : Nat) → (p : ByteArray) → At2 E x k p → Prop} (zero : motive 0 0 ⟨#[]⟩ At2.zero) (down : ∀ {d k : Nat} {q : ByteArray} {x : Nat} {nm : ByteArray} (hd : At2 E d k q) (hm : ((x : Int), nm) ∈ E d), motive d k q hd → motive x (k + 1) (q ++ (⟨#[47]⟩ ++ nm)) (At2.down hd hm)) : ∀ {x k : Nat} {p : ByteArray} (h : At2 E x k p), motive x k p h
 | x, 0, p, h => by
  obtain ⟨rfl, rfl⟩ := h
  exact zero
 | x, k + 1, p, h => by
  obtain ⟨d, q, nm, hd, hm, rfl⟩ := h
  exact down hd hm (At2.ind zero down hd)
def full (q : ByteArray) : ByteArray := if q.size = 0 then ⟨#[47]⟩ else q
theorem app_nil (a : ByteArray) : a ++ ⟨#[]⟩ = a := by
 apply ByteArray.ext
 simp [ByteArray.data_append]
theorem nil_app (a : ByteArray) : (⟨#[]⟩ : ByteArray) ++ a = a := by
 apply ByteArray.ext
 simp [ByteArray.data_append]
theorem app_assoc (a b c : ByteArray) : (a ++ b) ++ c = a ++ (b ++ c) := by
 apply ByteArray.ext
 simp [ByteArray.data_append]
theorem at_two (hS : Sane E K) {p : ByteArray} (h : At E x k p) : ∃ q, At2 E x k q ∧ p = full q ∧ (0 < x → 0 < q.size) ∧ (x = 0 → q = ⟨#[]⟩) := by
 induction h using At.ind with
 | zero => exact ⟨⟨#[]⟩, At2.zero, rfl, fun h => absurd h (by decide), fun _ => rfl⟩
 | @down d k p x nm hd hm ih =>
  obtain ⟨q, hq, hp, h1, h2⟩ := ih
  have hx := (hS.ino _ _ hm).1
  have hne : 0 < (q ++ ((⟨#[47]⟩ : ByteArray) ++ nm)).size := by
   rw [ByteArray.size_append, ByteArray.size_append]
   have : (⟨#[47]⟩ : ByteArray).size = 1 := rfl
   omega
  refine ⟨_, At2.down hq hm, ?_, fun _ => hne, fun e => ?_⟩
  ·rw [full, if_neg (by omega)]
   by_cases h0 : d = 0
   ·rw [h2 h0] at hp ⊢
    rw [hp, sep, if_pos h0, app_nil, nil_app]
    rfl
   ·have := h1 (by omega)
    rw [full, if_neg (by omega)] at hp
    rw [hp, sep, if_neg h0, app_assoc]
  ·simp only at hx
   omega
theorem At2.size (hs : ∀ i e, e ∈ E i → e.2.size ≤ 14) {q : ByteArray} (h : At2 E x k q) : q.size ≤ 15 * k := by
 induction h using At2.ind with
 | zero => decide
 | @down d k q x nm _ hm ih =>
  have := hs _ _ hm
  rw [ByteArray.size_append, ByteArray.size_append]
  have h1 : (⟨#[47]⟩ : ByteArray).size = 1 := rfl
  simp only at this
  omega
theorem only (ht : treeOk E K = true) (hS : Sane E K) {e : Ent} (hd : d < 8) (he : e ∈ E d) : own (flat E 8) e.1 = [(d, e)] := by
 have hi := hS.ino _ _ he
 obtain ⟨x, hx⟩ : ∃ x : Nat, e.1 = (x : Int) := ⟨e.1.toNat, by omega⟩
 have m1 : (d, e) ∈ own (flat E 8) e.1 := List.mem_filter.2 ⟨mem_flat he hd, by simp⟩
 have hone := treeOk_iff.1 ht x (by omega) (by omega)
 rw [hx] at m1 ⊢
 unfold oneOk at hone
 simp only [Bool.and_eq_true, beq_iff_eq, Bool.or_eq_true] at hone
 rcases par_ge (flat E 8) x with hp | hp | ⟨p, hp, _⟩
 ·rw [(par_nil _ _).1 hp] at m1
  simp at m1
 ·rcases hone.2 with hk | hr
  ·rw [hk, hp] at hone
   simp at hone
  ·rw [root_pos _ _ _ (by omega), hp, root_neg _ _ _ (by decide)] at hr
   cases hr
 ·rw [hp] at m1 ⊢
  simp only [List.mem_singleton] at m1
  rw [m1]
theorem par_of (ht : treeOk E K = true) (hS : Sane E K) {e : Ent} (hd : d < 8) (he : e ∈ E d) : par (flat E 8) e.1 = d ∧ nam (flat E 8) e.1 = e.2 := by
 have h := only ht hS hd he
 unfold par nam
 rw [h]
 exact ⟨rfl, rfl⟩
theorem found_at (h : Inv E K [] F P) (hS : Sane E K) (hK0 : K 0 = 2) (ht : treeOk E K = true) (hx : x < 8) (hk : K x ≠ 0) : ∃ k, k ≤ 8 ∧ At E x k (P x) := by
 by_cases h0 : x = 0
 ·subst h0
  rw [h.zero]
  exact ⟨0, by decide, At.zero⟩
 ·have hd := h.done hS hK0
  rw [ht] at hd
  have := onceAll_iff.1 hd x (by omega) hx
  simp only [once, decide_eq_true_eq] at this
  rw [if_neg hk] at this
  exact h.at_ x (by omega)
end Go.Proofs.YtljnkicgahepfaaGreatDoor.TR
