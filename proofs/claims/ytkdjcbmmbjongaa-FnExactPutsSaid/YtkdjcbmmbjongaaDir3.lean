/- The contract of spec.PutDir, as the given laws call it. -/
import Derived.Test.YtkdjcbmmbjongaaDir2
namespace Go.Proofs.Ytkdjcbmmbjongaa.T3
open Go.ChangeShapes Go.WideShapes Go.ChangeAt Go.RowKit
set_option linter.unusedVariables false
set_option linter.unusedSimpArgs false
set_option maxRecDepth 10000

open T2 (ret_str)

theorem putE_empty {i : Int} {s : ByteArray} (h : E0.entryOk i s = false) : (E0.putE i s).toList.isEmpty = true := by
  rw [E0.putE, if_neg (by rw [h]; decide), Lib.toList_data]
  rfl
theorem putE_full {i : Int} {s : ByteArray} (h : E0.entryOk i s = true) : (E0.putE i s).toList.isEmpty = false := by
  have := T0.putE_size16 h
  rw [Lib.toList_data]
  cases hl : (E0.putE i s).data.toList with
  | nil => rw [Lib.size_eq, hl] at this; simp at this
  | cons x r => rfl

set_option maxHeartbeats 4000000 in
theorem spec_PutDir (a : Option Addr) (c : Nat) (es : List T0.Ent) (w : World) (hbig : es.length ≤ 1048576) (hcap : es.length ≤ c) (hfit : T0.Fits es) (hR : T0.Row w a es) :
    Calls Try.prog 74 #[.slice a es.length c] w fun e w' => e = .returned (.string (T0.putD es)) ∧ Below w.heap.size w w' := by
  have HB : Hid (∀ k, k < es.length → T0.okAt es k = false → T0.putD es = ⟨#[]⟩) := fun k hk h => by rw [T0.putD, T0.dirOk_bad hk h]; rfl
  have HL : Hid (12 < es.length → T0.putD es = ⟨#[]⟩) := fun h => by rw [T0.putD, T0.dirOk, decide_eq_false (by omega : ¬ es.length ≤ 12)]; rfl
  have HY : Hid (es.length ≤ 12 → T0.okUpto es es.length = true → T0.putD es = T0.joined es es.length) := fun h1 h2 => by rw [T0.putD, T0.dirOk, decide_eq_true h1, h2]; rfl
  go_enter Try.func74, Try.ntmps74
  go_wp2
  go_loopw [3, 4] (fun t i w' => ∃ j : Nat, j ≤ es.length ∧ (j = 0 ∨ es.length ≤ 12) ∧ T0.okUpto es j = true ∧ i = .int .i64 j ∧ t = .string (T0.joined es j) ∧ Below w.heap.size w w') (fun _ i _ => es.length - (intOf i).toNat)
  case atStart => exact ⟨0, Nat.zero_le _, Or.inl rfl, rfl, rfl, rfl, Below.refl _ _⟩
  case round =>
    obtain ⟨j, hj, h12, hok, rfl, rfl, hbel⟩ := hrel
    by_cases hlt : j < es.length
    · obtain ⟨b, off, rfl, hlt0, hc⟩ := (hR.below hbel).get hlt
      have y1 := (hc j hlt).1
      have y2 := (hc j hlt).2
      have hs := T0.okUpto_succ es j
      have hat : T0.okAt es j = (E0.entryOk (T0.ent es j).1 (T0.ent es j).2 && !(T0.taken (es.take j) (T0.ent es j))) := rfl
      have hf := hfit j hlt
      have hu : T0.joined es (j + 1) = T0.joined es j ++ E0.putE (T0.ent es j).1 (T0.ent es j).2 := rfl
      have hjs := T0.joined_size hok j (Nat.le_refl _)
      have hbad := HB.out j hlt
      have hin := fun k (hk : k < j) => T0.taken_of (es := es) (e := T0.ent es j) hk hj
      have hts := fun k (hk : k < es.length) => T0.taken_succ es k (T0.ent es j) hk
      obtain ⟨z, ez⟩ : ∃ z, T0.ent es j = z := ⟨_, rfl⟩
      rw [ez] at y1 y2 hat hf hu hin hts
      obtain ⟨u, v⟩ := z
      simp only at y1 y2 hat hf hu
      have e1 : (0 : Int) ≤ (j : Int) := by omega
      have e2 : (j : Int) < (es.length : Int) := by omega
      clear ez hR hfit HB
      go_wp2
      go_loopw [5] (fun i w' => ∃ k m : Nat, k ≤ j ∧ T0.taken (es.take k) (u, v) = false ∧ i = .int .i64 k ∧ w' = wr.drewN m) (fun i _ => j - (intOf i).toNat)
      case atStart => exact ⟨0, 0, Nat.zero_le _, rfl, rfl, rfl⟩
      case round =>
        obtain ⟨k, m, hk, hno, rfl, hW⟩ := hrel
        have x1 : wr.cell? ⟨b, off + j * 2, none⟩ = some (.int .i64 u) := by rw [hW]; exact y1
        have x2 : wr.cell? ⟨b, off + j * 2 + 1, none⟩ = some (.string v) := by rw [hW]; exact y2
        have HW : Below w.heap.size w wr := by rw [hW]; exact K0.below_drewN hbel m
        have HD : Hid (wr = _) := hW
        by_cases hlk : k < j
        · have x3 : wr.cell? ⟨b, off + k * 2, none⟩ = some (.int .i64 (T0.ent es k).1) := by rw [hW]; exact (hc k (by omega)).1
          have x4 : wr.cell? ⟨b, off + k * 2 + 1, none⟩ = some (.string (T0.ent es k).2) := by rw [hW]; exact (hc k (by omega)).2
          have hin1 := hin k hlk
          have hts1 := hts k (by omega)
          obtain ⟨z, ez⟩ : ∃ z, T0.ent es k = z := ⟨_, rfl⟩
          rw [ez] at x3 x4 hin1 hts1
          obtain ⟨p, q⟩ := z
          simp only at x3 x4
          have f1 : (0 : Int) ≤ (k : Int) := by omega
          have f2 : (k : Int) < (es.length : Int) := by omega
          have f3 : (k : Int) < (j : Int) := by omega
          clear ez hc y1 y2 hW hin hts
          by_cases h1 : (q.toList == v.toList) = true
          · have HR : Hid (T0.putD es = ⟨#[]⟩) := hbad (by rw [hat, hin1 (by rw [T0.clash, h1]; rfl), Bool.not_true, Bool.and_false])
            clear hin1 hts1 hat hbad hs hok hu
            go_wp2
            go_quiet (fail)
            go_wp2
            go_ret
            exact ⟨ret_str HR.out.symm, K0.below_drewN HW _⟩
          · have h1' : (q.toList == v.toList) = false := by simpa using h1
            by_cases h2 : (p == u) = true
            · have HR : Hid (T0.putD es = ⟨#[]⟩) := hbad (by rw [hat, hin1 (by rw [T0.clash, h1', h2]; rfl), Bool.not_true, Bool.and_false])
              clear hin1 hts1 hat hbad hs hok hu h1
              go_wp2
              go_quiet (fail)
              go_wp2
              go_ret
              exact ⟨ret_str HR.out.symm, K0.below_drewN HW _⟩
            · have h2' : (p == u) = false := by simpa using h2
              have HN : Hid (T0.taken (es.take (k + 1)) (u, v) = false) := by rw [hts1, hno, T0.clash, h1', h2']; rfl
              clear hin1 hts1 hat hbad hs hok hu h1 h2 hno
              go_wp2
              go_quiet (fail)
              go_wp2
              go_roundw
              case rel => exact ⟨k + 1, m + nq, by omega, HN.out, by go_num, by rw [HD.out, World.drewN_drewN]⟩
              case measure => simp [intOf]; omega
        · obtain rfl : k = j := by omega
          clear hc y1 y2 hW HD hin hts
          by_cases hE : E0.entryOk u v = true
          · have g1 := putE_full hE
            have hps := T0.putE_size16 hE
            by_cases hl : 12 < es.length
            · have HR : Hid (T0.putD es = ⟨#[]⟩) := HL.out hl
              have hl' : 12 < (es.length : Int) := by omega
              clear hat hbad hs hok hu hno
              go_wp2_with (go_at_call 85; refine (E2.spec_PutEntry u v _ hf).mono ?_; rintro e w2 ⟨rfl, b2⟩)
              go_ret
              exact ⟨ret_str HR.out.symm, HW.trans (b2.mono HW.size)⟩
            · have hl' : ¬ 12 < (es.length : Int) := by omega
              have hl'' : decide (12 < (es.length : Int)) = false := by simpa using hl'
              have HO : Hid (T0.okUpto es (k + 1) = true) := by rw [hs, hok, hat, hE, hno]; rfl
              have HU : Hid (T0.joined es (k + 1) = T0.joined es k ++ E0.putE u v) := hu
              have zz : (T0.joined es k).size + (E0.putE u v).size ≤ 9223372036854775807 := by omega
              have zz2 : 16 * k + 16 ≤ 9223372036854775807 := by omega
              clear hat hbad hs hok hu hno
              go_wp2_with (go_at_call 85; refine (E2.spec_PutEntry u v _ hf).mono ?_; rintro e w2 ⟨rfl, b2⟩)
              go_roundw
              case rel => exact ⟨k + 1, by omega, Or.inr (by omega), HO.out, by go_num, by rw [HU.out], HW.trans (b2.mono HW.size)⟩
              case measure => simp [intOf]; omega
          · have hE' : E0.entryOk u v = false := by simpa using hE
            have g1 := putE_empty hE'
            have HR : Hid (T0.putD es = ⟨#[]⟩) := hbad (by rw [hat, hE']; rfl)
            clear hat hbad hs hok hu hno
            go_wp2_with (go_at_call 85; refine (E2.spec_PutEntry u v _ hf).mono ?_; rintro e w2 ⟨rfl, b2⟩)
            go_ret
            exact ⟨ret_str HR.out.symm, HW.trans (b2.mono HW.size)⟩
    · obtain rfl : j = es.length := by omega
      have HP : Hid (T0.putD es = T0.joined es es.length) := by
        show T0.putD es = T0.joined es es.length
        rcases h12 with h | h
        · exact HY.out (by omega) hok
        · exact HY.out h hok
      clear hok hR hfit h12 HB HL HY
      go_wp2
      go_ret
      exact ⟨ret_str HP.out.symm, hbel⟩
end Go.Proofs.Ytkdjcbmmbjongaa.T3
