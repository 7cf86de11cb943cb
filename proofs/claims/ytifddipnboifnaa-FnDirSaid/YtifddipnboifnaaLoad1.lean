/- Contracts of impl.dataOf, spec.l03Rec and spec.l03Page, as the given laws call them. -/
import Derived.Test.YtifddipnboifnaaLoad0
import Derived.Test.YtifddipnboifnaaGet4
import Derived.Test.YtifddipnboifnaaSpecPart1
import Derived.Laws.MakeOwn
namespace Go.Proofs.Ytifddipnboifnaa.O1
open Go.ChangeShapes Go.WideShapes Go.ChangeAt Go.RowKit
set_option linter.unusedVariables false
set_option linter.unusedSimpArgs false
set_option maxRecDepth 10000

open I0 (val vals)

theorem wf_recAt (i : Int) : (Lit.int .i64 (L1.recAt i)).wf = true := by
  refine E4.wf_of _ ?_ ?_
  all_goals
    unfold L1.recAt
    split
    · rename_i h
      have := B1.inB_true h
      omega
    · omega

theorem l03Rec (mem : ByteArray) (i : Int) (w : World) (hs : mem.size ≤ 281474976710656) :
    Calls Try.prog 85 #[.string mem, .int .i64 i] w fun e w' => e = .returned (.string (O0.recd mem i)) ∧ w' = w := by
  have hm : mem.size ≤ maxLen := by unfold maxLen; omega
  have e : O0.recd mem i = B2.part mem (L1.recAt i) 16 := rfl
  rw [e]
  go_enter Try.func85, Try.ntmps85
  go_wp2_with (first
    | (go_at_call 30; refine (L1.spec_RecAt _ _).mono ?_; rintro e w' ⟨rfl, rfl⟩)
    | (go_at_call 71; refine (B2.spec_Part _ _ _ _ hm (wf_recAt i) (by decide)).mono ?_; rintro e w' ⟨rfl, rfl⟩))
  go_ret
  exact ⟨rfl, rfl⟩

theorem l03Page (mem : ByteArray) (z : Int) (w : World) (hs : mem.size ≤ 281474976710656) (h0 : 5 ≤ z) (h1 : z ≤ 23) :
    Calls Try.prog 86 #[.string mem, .int .i64 z] w fun e w' => e = .returned (.string (B2.part mem (z * 32) 32)) ∧ w' = w := by
  have hm : mem.size ≤ maxLen := by unfold maxLen; omega
  have hw := E4.wf_of (z * 32) (by omega) (by omega)
  go_enter Try.func86, Try.ntmps86
  go_wp2_with (go_at_call 71; refine (B2.spec_Part _ _ _ _ hm hw (by decide)).mono ?_; rintro e w' ⟨rfl, rfl⟩)
  go_ret
  exact ⟨rfl, rfl⟩

theorem make192 : ∃ C : Array Value, C.size = 192 ∧ ∀ W : World, (Instr.makeSlice 22 (.int .i64 0) (.int .i64 192)).run Try.prog W = .ok (.slice (some ⟨W.heap.size, 0, none⟩) 0 192) (W.alloc (.cells C 5)) := by
  obtain ⟨i0, hi, hz0, hz1, hz2⟩ := info_parts F0.info5
  refine ⟨madeCells (Value.int .u8 0).cells (192 * i0.size), ?_, fun W => ?_⟩
  · have : (madeCells (Value.int .u8 0).cells (192 * i0.size)).toList.length = 192 := by
      rw [show (Value.int .u8 0).cells = #[Value.int .u8 0] from rfl, toList_madeCells_one, hz1]
      simp
    simpa using this
  · exact run_make (P := Try.prog) W 22 5 i0 (.int .u8 0) Try.underlying22 hi hz0 .i64 .i64 0 192 (by omega) (by omega) (by rw [hz2]; omega) (by omega)

set_option maxHeartbeats 2000000 in
theorem dataOf (mem : ByteArray) (k o s : Int) (a : Option Addr) (c : Nat) (zs : List Int) (w : World) (hm : mem.size = 768) (hp : P0.pagesOk zs = true) (hl : zs.length ≤ 6) (hs0 : 0 ≤ s) (hs1 : s ≤ 32 * (zs.length : Int)) (hR : P0.Row w a zs) :
    Calls Try.prog 84 #[.string mem, val k o s a zs.length c] w fun e w' => e = .returned (.string ((O0.joined mem zs zs.length).extract 0 s.toNat)) ∧ Below w.heap.size w w' := by
  obtain ⟨C, hC, hmk⟩ := make192
  have hbox := K0.blk_new (vals k o s a zs.length c) w 26
  have hl0 := K0.below_new w (.cells #[.int .i64 k, .int .i64 o, .int .i64 s, .slice a zs.length c] 26)
  have hR1 := hR.below hl0
  have hbuf0 := F0.buf_none (base := (w.alloc (.cells #[.int .i64 k, .int .i64 o, .int .i64 s, .slice a zs.length c] 26)).heap.size) (w.alloc (.cells #[.int .i64 k, .int .i64 o, .int .i64 s, .slice a zs.length c] 26)) C 192 hC (by unfold maxLen; omega) (Nat.le_refl _)
  have hbuf0 := hbuf0.at (g' := w.heap.size + 1) (by simp)
  have bel0 := K0.below_new (w.alloc (.cells #[.int .i64 k, .int .i64 o, .int .i64 s, .slice a zs.length c] 26)) (.cells C 5)
  have hms : mem.size ≤ 281474976710656 := by omega
  clear hR
  go_enter Try.func84, Try.ntmps84
  go_wp2
  go_loopw [5, 12] (fun r i w' => ∃ (j g cap : Nat), j ≤ zs.length ∧ i = .int .i64 j ∧ r = .slice (some ⟨g, 0, none⟩) (32 * j) cap ∧ F0.Buf (w.alloc (.cells #[.int .i64 k, .int .i64 o, .int .i64 s, .slice a zs.length c] 26)).heap.size w' g (32 * j) cap (O0.joined mem zs j) ∧ Below (w.alloc (.cells #[.int .i64 k, .int .i64 o, .int .i64 s, .slice a zs.length c] 26)).heap.size (w.alloc (.cells #[.int .i64 k, .int .i64 o, .int .i64 s, .slice a zs.length c] 26)) w') (fun _ i _ => zs.length - (intOf i).toNat)
  case atStart => exact ⟨0, w.heap.size + 1, 192, Nat.zero_le _, rfl, rfl, hbuf0, bel0⟩
  case round =>
    obtain ⟨j, g, cap, hj, rfl, rfl, hbuf, hbel⟩ := hrel
    clear hbuf0 bel0 hmk
    by_cases hlt : j < zs.length
    · obtain ⟨b, off, rfl, hb, hc⟩ := (hR1.below hbel).get hlt
      have x1 := hc j hlt
      have hz := R0.pages_bounds hp hlt
      have hu : O0.joined mem zs (j + 1) = O0.joined mem zs j ++ B2.part mem (zs.getD j 0 * 32) 32 := rfl
      obtain ⟨z, ez⟩ : ∃ z, zs.getD j 0 = z := ⟨_, rfl⟩
      rw [ez] at x1 hz hu
      have hps := O0.page_size hm hz.1 hz.2
      have z0 : 0 ≤ z := by omega
      have z1 : z ≤ 23 := hz.2
      have e1 : (0 : Int) ≤ (j : Int) := by omega
      have e2 : (j : Int) < (zs.length : Int) := by omega
      have HU : Hid (O0.joined mem zs (j + 1) = O0.joined mem zs j ++ B2.part mem (z * 32) 32) := hu
      clear hu ez hc hz
      go_wp2_with (first
        | (go_at_call 70; refine (B2.impl_Part _ _ _ _ hms).mono ?_; rintro e w2 ⟨rfl, b2⟩; have hbuf2 := hbuf.below b2; have bel2 := hbel.trans (b2.mono hbel.size))
        | (at_builtin; refine F0.append_text rfl (.tmp 16) (.tmp 20) rfl hbuf2 (B2.part mem (z * 32) 32) (by rfl) (by rfl) (by omega) bel2.size ?_; intro g1 cap1 w3 hbuf3 bel3))
      go_roundw
      case rel =>
        rw [hps] at hbuf3
        exact ⟨j + 1, g1, cap1, by omega, by go_num, rfl, by rw [HU.out]; exact hbuf3, bel2.trans bel3⟩
      case measure => simp [intOf]; omega
    · obtain rfl : j = zs.length := by omega
      have hboxr := hbox.below hbel
      have c2 := hboxr.c2
      have hsz := O0.joined_size hm hp zs.length (Nat.le_refl _)
      have hcp : 32 * zs.length ≤ cap := by
        rcases hbuf.2.2 with ⟨h0, _⟩ | ⟨g', cap', cur, hv, _, _, hle, _⟩
        · cases h0
        · simp at hv; omega
      have hcv : (convert 22 9 (.slice (some ⟨g, 0, none⟩) s.toNat cap)).run Try.prog wr = .ok (.string ((O0.joined mem zs zs.length).extract 0 s.toNat)) wr := by
        have hb2 := hbuf
        rw [← O0.cut (O0.joined mem zs zs.length) s.toNat (by omega)] at hb2
        exact R2.conv_front hb2 s.toNat (by rw [ByteArray.size_extract]; omega)
      have i1 : s ≤ (cap : Int) := by omega
      have hfin : Below w.heap.size w wr := hl0.trans (hbel.mono hl0.size)
      clear hsz hbuf hR1 hbel hbox
      go_wp2
      go_ret
      exact ⟨rfl, hfin⟩
end Go.Proofs.Ytifddipnboifnaa.O1
