/- Contracts of impl.PutDir and spec.PutDir, as the given laws call them. -/
import Derived.Test.YtifddipnboifnaaDir1
import Derived.Test.YtifddipnboifnaaBuf0
import Derived.Laws.MakeOwn
namespace Go.Proofs.Ytifddipnboifnaa.T2
open Go.ChangeShapes Go.WideShapes Go.ChangeAt Go.RowKit
set_option linter.unusedVariables false
set_option linter.unusedSimpArgs false
set_option maxRecDepth 10000

theorem ret_str {a b : ByteArray} (h : a = b) : Ending.returned (.string a) = .returned (.string b) := by rw [h]

theorem makeRoom (n : Nat) (hn : n ≤ 12) : ∃ C : Array Value, C.size = n * 16 ∧ ∀ W : World, (Instr.makeSlice 22 (.int .i64 0) (.int .i64 ((n : Int) * 16))).run Try.prog W = .ok (.slice (some ⟨W.heap.size, 0, none⟩) 0 (n * 16)) (W.alloc (.cells C 5)) := by
  obtain ⟨i0, hi, hz0, hz1, hz2⟩ := info_parts F0.info5
  refine ⟨madeCells (Value.int .u8 0).cells ((n * 16) * i0.size), ?_, fun W => ?_⟩
  · have : (madeCells (Value.int .u8 0).cells ((n * 16) * i0.size)).toList.length = n * 16 := by
      rw [show (Value.int .u8 0).cells = #[Value.int .u8 0] from rfl, toList_madeCells_one, hz1]
      simp
    simpa using this
  · have h := run_make (P := Try.prog) W 22 5 i0 (.int .u8 0) Try.underlying22 hi hz0 .i64 .i64 0 ((n : Int) * 16) (by omega) (by omega) (by rw [hz2]; omega) (by omega)
    rw [show ((n : Int) * 16).toNat = n * 16 by omega] at h
    exact h

theorem dir_lit {a : Option Addr} {c : Nat} {es : List T0.Ent} {W : World} {r : Bool} (hbig : es.length ≤ 1048576) (hcap : es.length ≤ c) (hfit : T0.Fits es) (hR : T0.Row W a es) (hr : T0.dirOk es = r) :
    Calls Try.prog 81 #[.slice a es.length c] W fun e w' => e = .returned (.bool r) ∧ Below W.heap.size W w' := (T1.dirOk a c es W hbig hcap hfit hR).mono fun _ _ h => ⟨by rw [h.1, hr], h.2⟩

set_option maxHeartbeats 2000000 in
theorem impl_PutDir (a : Option Addr) (c : Nat) (es : List T0.Ent) (w : World) (hbig : es.length ≤ 1048576) (hcap : es.length ≤ c) (hfit : T0.Fits es) (hR : T0.Row w a es) :
    Calls Try.prog 32 #[.slice a es.length c] w fun e w' => e = .returned (.string (T0.putD es)) ∧ Below w.heap.size w w' := by
  by_cases hD : T0.dirOk es = true
  · have HP : Hid (T0.putD es = T0.joined es es.length) := by rw [T0.putD, if_pos hD]; rfl
    have hd := hD
    simp only [T0.dirOk, Bool.and_eq_true, decide_eq_true_eq] at hd
    obtain ⟨hl, hok⟩ := hd
    obtain ⟨C, hC, hmk⟩ := makeRoom es.length hl
    have hdl : Hid (∀ W, T0.Row W a es → Calls Try.prog 81 #[.slice a es.length c] W fun e w' => e = .returned (.bool true) ∧ Below W.heap.size W w') := fun W h => dir_lit hbig hcap hfit h hD
    clear hD
    go_enter Try.func32, Try.ntmps32
    go_wp2_with (go_at_call 81; refine (hdl.out _ hR).mono ?_; rintro e w1 ⟨rfl, b1⟩; have hbuf0 := F0.buf_none (base := w1.heap.size) w1 C (es.length * 16) hC (by unfold maxLen; omega) (Nat.le_refl _); have bel0 := K0.below_new w1 (.cells C 5))
    go_loopw [3, 15] (fun r i w' => ∃ (j g cap : Nat), j ≤ es.length ∧ i = .int .i64 j ∧ r = .slice (some ⟨g, 0, none⟩) (16 * j) cap ∧ F0.Buf w1.heap.size w' g (16 * j) cap (T0.joined es j) ∧ Below w1.heap.size w1 w') (fun _ i _ => es.length - (intOf i).toNat)
    case atStart => exact ⟨0, _, _, Nat.zero_le _, rfl, rfl, hbuf0, bel0⟩
    case round =>
      obtain ⟨j, g, cap, hj, rfl, rfl, hbuf, hbel⟩ := hrel
      clear hbuf0 bel0 hmk
      have hfin : Hid (∀ W, Below w1.heap.size w1 W → Below w.heap.size w W) := fun W h => b1.trans (h.mono b1.size)
      by_cases hlt : j < es.length
      · obtain ⟨b, off, rfl, hlt0, hc⟩ := ((hR.below b1).below hbel).get hlt
        have y1 := (hc j hlt).1
        have y2 := (hc j hlt).2
        have hat := T0.okAt_entry (T0.okUpto_at hok hlt)
        have hf := hfit j hlt
        have hu : T0.joined es (j + 1) = T0.joined es j ++ E0.putE (T0.ent es j).1 (T0.ent es j).2 := rfl
        obtain ⟨z, ez⟩ : ∃ z, T0.ent es j = z := ⟨_, rfl⟩
        rw [ez] at y1 y2 hat hf hu
        obtain ⟨u, v⟩ := z
        simp only at y1 y2 hat hf hu
        have hps := T0.putE_size16 hat.1
        have HU : Hid (T0.joined es (j + 1) = T0.joined es j ++ E0.putE u v) := hu
        have e1 : (0 : Int) ≤ (j : Int) := by omega
        have e2 : (j : Int) < (es.length : Int) := by omega
        have hbufa := hbuf.alloc (.cells #[.int .i64 u, .string v] 33)
        have bela := hbel.alloc hbel.size (.cells #[.int .i64 u, .string v] 33)
        clear hu ez hc hat hR hfit hdl hbuf
        go_wp2_with (first
          | (go_at_call 17; refine (E2.impl_PutEntry u v _ hf).mono ?_; rintro e w2 ⟨rfl, b2⟩; have hbuf2 := hbufa.below b2; have bel2 := bela.trans (b2.mono bela.size))
          | (at_builtin; refine F0.append_text rfl (.tmp 19) (.tmp 21) rfl hbuf2 (E0.putE u v) (by rfl) (by rfl) (by omega) bel2.size ?_; intro g1 cap1 w3 hbuf3 bel3))
        go_roundw
        case rel =>
          rw [hps] at hbuf3
          exact ⟨j + 1, g1, cap1, by omega, by go_num, rfl, by rw [HU.out]; exact hbuf3, bel2.trans bel3⟩
        case measure => simp [intOf]; omega
      · obtain rfl : j = es.length := by omega
        have hcv := hbuf.conv
        clear hR hfit hdl hbuf
        go_wp2
        go_ret
        exact ⟨ret_str HP.out.symm, hfin.out _ hbel⟩
  · have hD' : T0.dirOk es = false := by simpa using hD
    have HP : Hid (T0.putD es = ⟨#[]⟩) := by rw [T0.putD, if_neg hD]; rfl
    have hdl : Hid (∀ W, T0.Row W a es → Calls Try.prog 81 #[.slice a es.length c] W fun e w' => e = .returned (.bool false) ∧ Below W.heap.size W w') := fun W h => dir_lit hbig hcap hfit h hD'
    clear hD hD'
    go_enter Try.func32, Try.ntmps32
    go_wp2_with (go_at_call 81; refine (hdl.out _ hR).mono ?_; rintro e w1 ⟨rfl, b1⟩)
    go_ret
    exact ⟨ret_str HP.out.symm, b1⟩
end Go.Proofs.Ytifddipnboifnaa.T2
