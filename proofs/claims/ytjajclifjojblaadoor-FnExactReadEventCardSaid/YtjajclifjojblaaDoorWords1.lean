/- The contract of spec.Words, as the given laws call it. -/
import Derived.Test.YtjajclifjojblaaDoorRows
import Derived.Test.YtjajclifjojblaaDoorWords0
import Derived.ProofKit
import Derived.Handy
namespace Go.Proofs.YtjajclifjojblaaDoor.W1
open Go.ChangeShapes Go.WideShapes Go.ChangeAt Go.RowKit
set_option linter.unusedVariables false

theorem info9 : (Tryd.prog.info? 9).map (fun i => (i.zero, i.size, i.bytes)) = some (some (.string ⟨#[]⟩), 1, 16) := by kernel_rfl

theorem one_str (x : ByteArray) : ∀ u ∈ [Value.string x], u.oneCell' = true := by
  intro u h
  simp at h
  subst h
  rfl

set_option maxHeartbeats 2000000 in
theorem spec_Words (s : ByteArray) (w : World) (hs : s.size ≤ 1048576) :
    Calls Tryd.prog 9 #[.string s] w fun e w' => ∃ g cap, e = .returned (.slice (some ⟨g, 0, none⟩) (W0.words s).length cap) ∧ w'.ownsRow w.heap.size 9 1 (.slice (some ⟨g, 0, none⟩) (W0.words s).length cap) (W0.words s).length (W0.strs (W0.words s)) ∧ Below w.heap.size w w' := by
  obtain ⟨i0, hi, hz0, hz1, hz2⟩ := info_parts info9
  go_enter Tryd.func9, Tryd.ntmps9
  go_wp2
  go_loopw [3, 4, 5] (fun v f i w' => ∃ k : Nat, k ≤ s.size ∧ i = .int .i64 k ∧ f = .int .i64 ((W0.st s k).2 : Nat) ∧ Below w.heap.size w w' ∧ ∃ g cap, v = .slice (some ⟨g, 0, none⟩) (W0.st s k).1.length cap ∧ w'.ownsRow w.heap.size 9 1 (.slice (some ⟨g, 0, none⟩) (W0.st s k).1.length cap) (W0.st s k).1.length (W0.strs (W0.st s k).1)) (fun _ _ i _ => s.size - (intOf i).toNat)
  case atStart => exact ⟨0, Nat.zero_le _, rfl, rfl, (Below.refl _ _).alloc (Nat.le_refl _) _, _, _, rfl, World.ownsRow_made w #[] 0 (Nat.le_refl _) (Nat.zero_le _) rfl⟩
  case round =>
    obtain ⟨k, hk, rfl, rfl, hbel, g, cap, rfl, hown⟩ := hrel
    have hB := hbel.size
    have hst := W0.st_le s k
    by_cases hlt : k < s.size
    · have hc := s[k].toNat_lt
      by_cases hb : s[k].toNat = 32
      · have hb' : ((s[k].toNat : Int) == 32) = true := by simp; omega
        have HS : Hid (W0.st s (k + 1) = ((W0.st s k).1 ++ [s.extract (W0.st s k).2 k], k + 1)) := W0.st_blank s k hlt hb
        clear hb
        go_wp2_with (at_builtin; refine wpList_append_lies _ rfl (.tmp 17) (.tmp 22) 30 rfl w.heap.size 9 i0 (.string ⟨#[]⟩) 1 16 Tryd.underlying30 hi hz0 hz1 hz2 rfl (by omega) _ _ _ (by rfl) (hown.alloc _) ⟨wr.heap.size, 0, none⟩ 1 1 [.string (s.extract (W0.st s k).2 k)] (by rfl) rfl (World.news_of_block (heap_alloc_new wr _)) (one_str _) (by omega) (by unfold maxLen; omega) (by omega) (by simp; omega) _ rfl ?_; intro g1 cap1 w1 hown1 hgrow hat hlt1)
        go_roundw
        case rel => exact ⟨k + 1, by omega, by go_num, by rw [HS.out]; rfl, W0.below_append hbel hown hgrow, g1, cap1, by rw [HS.out, List.length_append]; rfl, by rw [HS.out, List.length_append, W0.strs, List.map_append]; exact hown1⟩
        case measure => simp [intOf]; omega
      · have hb' : ((s[k].toNat : Int) == 32) = false := by simp; omega
        have HS : Hid (W0.st s (k + 1) = W0.st s k) := W0.st_other s k hlt hb
        clear hb
        go_wp2
        go_roundw
        case rel => exact ⟨k + 1, by omega, by go_num, by rw [HS.out], hbel, _, _, by rw [HS.out], by rw [HS.out]; exact hown⟩
        case measure => simp [intOf]; omega
    · obtain rfl : k = s.size := by omega
      go_wp2_with (at_builtin; refine wpList_append_lies _ rfl (.tmp 26) (.tmp 30) 30 rfl w.heap.size 9 i0 (.string ⟨#[]⟩) 1 16 Tryd.underlying30 hi hz0 hz1 hz2 rfl (by omega) _ _ _ (by rfl) (hown.alloc _) ⟨wr.heap.size, 0, none⟩ 1 1 [.string (s.extract (W0.st s s.size).2 s.size)] (by rfl) rfl (World.news_of_block (heap_alloc_new wr _)) (one_str _) (by omega) (by unfold maxLen; omega) (by omega) (by simp; omega) _ rfl ?_; intro g1 cap1 w1 hown1 hgrow hat hlt1)
      go_ret
      exact ⟨g1, cap1, by rw [W0.words_len]; rfl, by rw [W0.words_len, W0.strs_words]; exact hown1, W0.below_append hbel hown hgrow⟩
end Go.Proofs.YtjajclifjojblaaDoor.W1
