/- The contract of the program's cutLines. -/
import Derived.Test.YtkpcpffpiilcpaaArr0
import Derived.WalkKit
import Derived.ProofKit
namespace Go.Proofs.Ytkpcpffpiilcpaa.A1
open Go.ChangeShapes Go.WideShapes Go.ChangeAt Go.RowKit
set_option linter.unusedVariables false
set_option linter.unusedSimpArgs false

/-- Two blocks of 768 cells from B on; the second holds the first bytes of a text. -/
structure Cut (B : Nat) (w : World) (l : List UInt8) (k : Nat) (W : World) : Prop where
  t0 : W.there B 0 768
  t1 : W.there (B + 1) 0 768
  row : W.rangeAt (B + 1) 0 (Lib.byteCells (l.take (k * 8)))
  bel : Below B w W
  lt : B + 1 < W.heap.size

theorem cut_new (w : World) (Z : Array Value) (hZ : Z.size = 768) (l : List UInt8) : Cut w.heap.size w l 0 ((w.alloc (.cells Z 67)).alloc (.cells Z 67)) := by
  have h0 := A0.there_new w Z 67
  have h1 := A0.there_new (w.alloc (.cells Z 67)) Z 67
  rw [World.size_alloc] at h1
  rw [hZ] at h0 h1
  exact ⟨World.there_alloc h0 _, h1, by simpa [Lib.byteCells] using A0.rangeAt_nil _ _ _, ((Below.refl _ _).alloc (Nat.le_refl _) _).alloc (by simp) _, by simp⟩

theorem Cut.drew {B : Nat} {w W : World} {l : List UInt8} {k : Nat} (h : Cut B w l k W) : Cut B w l k W.drew :=
  ⟨by simpa using h.t0, by simpa using h.t1, by simpa using h.row, h.bel.drew, h.lt⟩

theorem Cut.step {B : Nat} {w W : World} {l : List UInt8} {k : Nat} (h : Cut B w l k W) (hl : l.length = 768) (hk : k < 96) : Cut B w l (k + 1) (W.setCells (B + 1) (k * 8) (Lib.byteCells ((l.drop (k * 8)).take 8))) := by
  have hlen : (Lib.byteCells ((l.drop (k * 8)).take 8)).length = 8 := by rw [Lib.byteCells_length, List.length_take, List.length_drop]; omega
  have hpl : (Lib.byteCells (l.take (k * 8))).length = k * 8 := by rw [Lib.byteCells_length, List.length_take]; omega
  refine ⟨World.there_setCells h.t0 _ _ _, World.there_setCells h.t1 _ _ _, ?_, B0.below_setCells (by omega) _ _ _ h.bel, by rw [B0.size_setCells]; exact h.lt⟩
  rw [show (k + 1) * 8 = k * 8 + 8 by omega, List.take_add, Lib.byteCells_append]
  refine A0.rangeAt_snoc (World.rangeAt_setCells_apart h.row _ _ _ (by rw [hpl]; omega)) ?_
  rw [hpl, Nat.zero_add]
  exact World.rangeAt_setCells_same _ _ _ _ (by rw [hlen]; exact A0.there_sub h.t1 (by omega) (by omega))

theorem extract_take (s : ByteArray) (k : Nat) (h : k + 8 ≤ 768) : (s.extract k 768).data.toList.take 8 = (s.data.toList.drop k).take 8 := by
  rw [Lib.extract_data, List.take_take]
  congr 1
  omega

set_option maxHeartbeats 4000000 in
theorem cutLines (s : ByteArray) (w : World) (hs : s.size = 768) :
    Calls Try.prog 56 #[.string s] w fun e w' => e = .returned (.agg (Lib.byteCells s.data.toList).toArray) ∧ Below w.heap.size w w' := by
  have hl : s.data.toList.length = 768 := by rw [← Lib.size_eq]; exact hs
  obtain ⟨hz0, hsz⟩ := zero_of_info A0.zeroLines
  obtain ⟨Z, hZ0, hZ⟩ : ∃ Z : Array Value, Z = Array.replicate 768 (.int .u8 0) ∧ Z.size = 768 := ⟨_, rfl, by simp⟩
  rw [← hZ0] at hz0
  clear hZ0
  have h0 := cut_new w Z hZ s.data.toList
  obtain ⟨C, hC⟩ : ∃ C, (Lib.byteCells s.data.toList).toArray = C := ⟨_, rfl⟩
  rw [hC]
  go_enter Try.func56, Try.ntmps56
  go_wp2
  go_loopw [5] (fun i w' => ∃ k : Nat, k ≤ 96 ∧ i = .int .i64 k ∧ Cut w.heap.size w s.data.toList k w') (fun i _ => 96 - (intOf i).toNat)
  case atStart => exact ⟨0, Nat.zero_le _, rfl, h0⟩
  case round =>
    obtain ⟨k, hk, rfl, hc⟩ := hrel
    by_cases hlt : k < 96
    · have e1 : (0 : Int) ≤ (k : Int) := by omega
      have e2 : (k : Int) < 96 := by omega
      have e3 : (0 : Int) ≤ (k : Int) * 8 := by omega
      have e4 : (k : Int) * 8 ≤ (s.size : Int) := by omega
      have hd := hc.drew
      have hcp := A0.copy_head (P := Try.prog) wr.drew 22 9 3 5 (w.heap.size + 1) (k * 8) 8 8 (s.extract (k * 8) 768) Try.underlying22 A0.infoByte (by rw [ByteArray.size_extract]; omega) (A0.there_sub hd.t1 (by omega) (by omega))
      rw [extract_take s (k * 8) (by omega)] at hcp
      have h1 := hd.step hl hlt
      obtain ⟨W1, hW1⟩ : ∃ W1, wr.drew.setCells (w.heap.size + 1) (k * 8) (Lib.byteCells ((s.data.toList.drop (k * 8)).take 8)) = W1 := ⟨_, rfl⟩
      rw [hW1] at hcp h1
      clear hW1
      go_wp2
      go_region
      all_goals
        go_wp2
        go_roundw
        case rel => exact ⟨k + 1, by omega, by go_num, h1⟩
        case measure => simp [intOf]; omega
    · obtain rfl : k = 96 := by omega
      have hr := hc.row
      rw [List.take_of_length_le (by omega)] at hr
      have hn : (Lib.byteCells s.data.toList).length = 768 := by rw [Lib.byteCells_length, hl]
      have hrr : (wr.setCells w.heap.size 0 (Lib.byteCells s.data.toList)).rangeAt w.heap.size 0 (Lib.byteCells s.data.toList) := World.rangeAt_setCells_same _ _ _ _ (by rw [hn]; exact hc.t0)
      have hlr := run_loadVar_mid (P := Try.prog) _ w.heap.size 0 67 _ _ hrr Try.underlying67 rfl (by rw [hsz, hn])
      have hb : Below w.heap.size w (wr.setCells w.heap.size 0 (Lib.byteCells s.data.toList)) := B0.below_setCells (Nat.le_refl _) _ _ _ hc.bel
      have hCl : C.toList = Lib.byteCells s.data.toList := by rw [← hC]
      have hCs : C.size = 768 := by rw [← hC]; simpa using hn
      have h1 : C.all (·.oneCell') = true := by rw [← hC]; exact all_oneCell_toArray (Lib.byteCells_one _)
      obtain ⟨W1, hW1⟩ : ∃ W1, wr.setCells w.heap.size 0 (Lib.byteCells s.data.toList) = W1 := ⟨_, rfl⟩
      rw [hW1] at hlr hb
      rw [hC] at hlr
      go_wp2_with (first
        | (refine wpList_load_mid rfl 67 (.tmp 3) rfl (w.heap.size + 1) 0 rfl _ _ hr Try.underlying67 rfl (by rw [hsz, hn]) ?_; rw [hC])
        | (refine wpList_store_mid rfl 67 (.tmp 2) (.tmp 17) rfl w.heap.size 0 C rfl rfl (by rw [hCs]; exact hc.t0) (by rw [hsz, hCs]) h1 ?_; rw [hCl, hW1]))
      refine bodyPost_ret (v := .agg C) ?_ rfl ⟨rfl, hb⟩
      rw [A0.results_cell rfl]
      show ((asAddr (.pointer (some ⟨w.heap.size, 0, none⟩))).run Try.prog W1).andThen _ = _
      simp only [asAddr, Sem.run_pure, Result.andThen_ok, hlr]
end Go.Proofs.Ytkpcpffpiilcpaa.A1
