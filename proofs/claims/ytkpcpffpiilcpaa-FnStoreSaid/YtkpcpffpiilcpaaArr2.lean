/- The contract of the text of some lines. -/
import Derived.Test.YtkpcpffpiilcpaaArr0
import Derived.WalkKit
import Derived.ProofKit
import Derived.ArgAppend
namespace Go.Proofs.Ytkpcpffpiilcpaa.A2
open Go.ChangeShapes Go.WideShapes Go.ChangeAt Go.RowKit
set_option linter.unusedVariables false
set_option linter.unusedSimpArgs false

theorem info8 : (Try.prog.info? 5).map (fun i => (i.zero, i.size, i.bytes)) = some (some (.int .u8 0), 1, 1) := by kernel_rfl

/-- A new block of 768 bytes, the first of them those of a text. -/
structure Txt (w : World) (l : List UInt8) (k : Nat) (W : World) : Prop where
  t0 : W.there w.heap.size 0 768
  row : W.rangeAt w.heap.size 0 (Lib.byteCells (l.take (k * 8)))
  bel : Below w.heap.size w W
  lt : w.heap.size < W.heap.size

theorem txt_new (w : World) (M : Array Value) (hM : M.size = 768) (l : List UInt8) : Txt w l 0 (w.alloc (.cells M 5)) := by
  have h0 := A0.there_new w M 5
  rw [hM] at h0
  exact ⟨h0, by simpa [Lib.byteCells] using A0.rangeAt_nil _ _ _, (Below.refl _ _).alloc (Nat.le_refl _) _, by simp⟩

theorem Txt.step {w W : World} {l : List UInt8} {k : Nat} (h : Txt w l k W) (hl : l.length = 768) (hk : k < 96) : Txt w l (k + 1) (W.setCells w.heap.size (k * 8) (Lib.byteCells ((l.drop (k * 8)).take 8))) := by
  have hlen : (Lib.byteCells ((l.drop (k * 8)).take 8)).length = 8 := by rw [Lib.byteCells_length, List.length_take, List.length_drop]; omega
  have hpl : (Lib.byteCells (l.take (k * 8))).length = k * 8 := by rw [Lib.byteCells_length, List.length_take]; omega
  refine ⟨World.there_setCells h.t0 _ _ _, ?_, B0.below_setCells (Nat.le_refl _) _ _ _ h.bel, by rw [B0.size_setCells]; exact h.lt⟩
  rw [show (k + 1) * 8 = k * 8 + 8 by omega, List.take_add, Lib.byteCells_append]
  refine A0.rangeAt_snoc (World.rangeAt_setCells_apart h.row _ _ _ (by rw [hpl]; omega)) ?_
  rw [hpl, Nat.zero_add]
  exact World.rangeAt_setCells_same _ _ _ _ (by rw [hlen]; exact A0.there_sub h.t0 (by omega) (by omega))

set_option maxHeartbeats 4000000 in
theorem text (l : List UInt8) (B o : Nat) (w : World) (hl : l.length = 768) (hB : B < w.heap.size) (hr : w.rangeAt B o (Lib.byteCells l)) :
    Calls Try.prog 45 #[.pointer (some ⟨B, o, none⟩)] w fun e w' => e = .returned (.string ⟨l.toArray⟩) ∧ Below w.heap.size w w' := by
  obtain ⟨i0, hi, hz0, hz1, hz2⟩ := info_parts info8
  obtain ⟨M, hM⟩ : ∃ M, M = madeCells (Value.int .u8 0).cells ((768 : Int).toNat * i0.size) := ⟨_, rfl⟩
  have hMs : M.size = 768 := by rw [hM, size_madeCells, hz1]; rfl
  have hmk : (Instr.makeSlice 22 (.int .i64 0) (.int .i64 768)).run Try.prog w = .ok (.slice (some ⟨w.heap.size, 0, none⟩) 0 768) (w.alloc (.cells M 5)) := by
    have h := run_make (P := Try.prog) w 22 5 i0 (.int .u8 0) Try.underlying22 hi hz0 .i64 .i64 0 768 (by omega) (by omega) (by rw [hz2]; decide) (by decide)
    rw [← hM] at h
    exact h
  clear hM
  have h0 := txt_new w M hMs l
  go_enter Try.func45, Try.ntmps45
  go_wp2
  go_loopw [3, 6] (fun d i w' => ∃ k : Nat, k ≤ 96 ∧ i = .int .i64 k ∧ d = .slice (some ⟨w.heap.size, 0, none⟩) (k * 8) 768 ∧ Txt w l k w') (fun _ i _ => 96 - (intOf i).toNat)
  case atStart => exact ⟨0, Nat.zero_le _, rfl, rfl, h0⟩
  case round =>
    obtain ⟨k, hk, rfl, rfl, hc⟩ := hrel
    by_cases hlt : k < 96
    · have e1 : (0 : Int) ≤ (k : Int) := by omega
      have e2 : (k : Int) < 96 := by omega
      have hrow : wr.rangeAt B (o + k * 8) (Lib.byteCells ((l.drop (k * 8)).take 8)) := by
        rw [← A0.bytes_part]; exact A0.rangeAt_part (A0.rangeAt_below hr hc.bel hB) _ _
      have hlen : (Lib.byteCells ((l.drop (k * 8)).take 8)).length = 8 := by rw [Lib.byteCells_length, List.length_take, List.length_drop]; omega
      have hap := run_append_room_cells (P := Try.prog) wr 22 22 5 i0 Try.underlying22 hi w.heap.size 0 (k * 8) 768 ⟨B, o + k * 8, none⟩ 8 8 (Lib.byteCells ((l.drop (k * 8)).take 8)) (by rw [hlen, hz1])
        (fun j u hu => by rw [Addr.add_mid]; exact hrow j u hu) (Lib.byteCells_one _) (by omega)
        (fun j hj => by rw [hlen] at hj; rw [hz1]; have := (hc.t0 (k * 8 + j) (by omega)).1; simpa using this)
        (fun j hj => by rw [hlen] at hj; rw [hz1]; have := (hc.t0 (k * 8 + j) (by omega)).2; simpa using this)
      rw [hz1, Nat.zero_add, Nat.mul_one] at hap
      have h1 := hc.step hl hlt
      obtain ⟨W1, hW1⟩ : ∃ W1, wr.setCells w.heap.size (k * 8) (Lib.byteCells ((l.drop (k * 8)).take 8)) = W1 := ⟨_, rfl⟩
      rw [hW1] at hap h1
      clear hW1
      go_wp2_with (at_builtin; refine A0.wpList_append_run rfl (.tmp 9) (.tmp 14) 22 rfl rfl rfl hap ?_)
      go_roundw
      case rel => exact ⟨k + 1, by omega, by go_num, by rw [show (k + 1) * 8 = k * 8 + 8 by omega], h1⟩
      case measure => simp [intOf]; omega
    · obtain rfl : k = 96 := by omega
      have hrw := hc.row
      rw [List.take_of_length_le (by omega)] at hrw
      have hcv := B0.conv_back (P := Try.prog) wr 22 9 5 w.heap.size 0 768 l Try.underlying22 Try.underlying5 Try.underlying9 (A0.holds_of_range hrw) 768 hl.symm
      go_wp2
      go_ret
      exact ⟨rfl, hc.bel⟩
end Go.Proofs.Ytkpcpffpiilcpaa.A2
