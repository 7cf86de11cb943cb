/- Joined texts: plain facts and contracts, as each part says. -/
import Derived.Test.YtkdjcbmmbjongaaGreatJnE
import Derived.Test.YtkdjcbmmbjongaaGreatJnB
import Derived.Deep.SlicePairs
import Derived.Deep.RegionHeld3
import Derived.Lib.ItoaNum
import Derived.Lib.ItoaLen
import Derived.Lib.ItoaMem
import Derived.Lib.Strings
import Derived.WalkKit
import Derived.Test.YtkdjcbmmbjongaaGreatRows
import Derived.Test.YtkdjcbmmbjongaaGreatJnA
import Derived.ProofKit
import Derived.Handy
import Derived.Test.YtkdjcbmmbjongaaGreatJnD

/- The contract of spec.PutDir, as the given laws call it. -/
namespace Go.Proofs.YtkdjcbmmbjongaaGreat.T3
open Go.ChangeShapes Go.WideShapes Go.ChangeAt Go.RowKit
set_option linter.unusedVariables false
set_option linter.unusedSimpArgs false
set_option maxRecDepth 10000

open T2 (ret_str)

theorem putE_empty {i : Int} {s : ByteArray} (h : E0.entryOk i s = false) : (E0.putE i s).toList.isEmpty = true := by
  rw [E0.putE, if_neg (by rw [h]; decide), Lib.toList_data]
  rfl
theorem putE_full {i : Int} {s : ByteArray} (h : E0.entryOk i s = true) : (E0.putE i s).toList.isEmpty = false := by
  have := T0.putE_size16 h
  rw [Lib.toList_data]
  cases hl : (E0.putE i s).data.toList with
  | nil => rw [Lib.size_eq, hl] at this; simp at this
  | cons x r => rfl

set_option maxHeartbeats 4000000 in
theorem spec_PutDir (a : Option Addr) (c : Nat) (es : List T0.Ent) (w : World) (hbig : es.length ≤ 1048576) (hcap : es.length ≤ c) (hfit : T0.Fits es) (hR : T0.Row w a es) :
    Calls Tryz.prog 23 #[.slice a es.length c] w fun e w' => e = .returned (.string (T0.putD es)) ∧ Below w.heap.size w w' := by
  have HB : Hid (∀ k, k < es.length → T0.okAt es k = false → T0.putD es = ⟨#[]⟩) := fun k hk h => by rw [T0.putD, T0.dirOk_bad hk h]; rfl
  have HL : Hid (12 < es.length → T0.putD es = ⟨#[]⟩) := fun h => by rw [T0.putD, T0.dirOk, decide_eq_false (by omega : ¬ es.length ≤ 12)]; rfl
  have HY : Hid (es.length ≤ 12 → T0.okUpto es es.length = true → T0.putD es = T0.joined es es.length) := fun h1 h2 => by rw [T0.putD, T0.dirOk, decide_eq_true h1, h2]; rfl
  go_enter Tryz.func23, Tryz.ntmps23
  go_wp2
  go_loopw [3, 4] (fun t i w' => ∃ j : Nat, j ≤ es.length ∧ (j = 0 ∨ es.length ≤ 12) ∧ T0.okUpto es j = true ∧ i = .int .i64 j ∧ t = .string (T0.joined es j) ∧ Below w.heap.size w w') (fun _ i _ => es.length - (intOf i).toNat)
  case atStart => exact ⟨0, Nat.zero_le _, Or.inl rfl, rfl, rfl, rfl, Below.refl _ _⟩
  case round =>
    obtain ⟨j, hj, h12, hok, rfl, rfl, hbel⟩ := hrel
    by_cases hlt : j < es.length
    · obtain ⟨b, off, rfl, hlt0, hc⟩ := (hR.below hbel).get hlt
      have y1 := (hc j hlt).1
      have y2 := (hc j hlt).2
      have hs := T0.okUpto_succ es j
      have hat : T0.okAt es j = (E0.entryOk (T0.ent es j).1 (T0.ent es j).2 && !(T0.taken (es.take j) (T0.ent es j))) := rfl
      have hf := hfit j hlt
      have hu : T0.joined es (j + 1) = T0.joined es j ++ E0.putE (T0.ent es j).1 (T0.ent es j).2 := rfl
      have hjs := T0.joined_size hok j (Nat.le_refl _)
      have hbad := HB.out j hlt
      have hin := fun k (hk : k < j) => T0.taken_of (es := es) (e := T0.ent es j) hk hj
      have hts := fun k (hk : k < es.length) => T0.taken_succ es k (T0.ent es j) hk
      obtain ⟨z, ez⟩ : ∃ z, T0.ent es j = z := ⟨_, rfl⟩
      rw [ez] at y1 y2 hat hf hu hin hts
      obtain ⟨u, v⟩ := z
      simp only at y1 y2 hat hf hu
      have e1 : (0 : Int) ≤ (j : Int) := by omega
      have e2 : (j : Int) < (es.length : Int) := by omega
      clear ez hR hfit HB
      go_wp2
      go_loopw [5] (fun i w' => ∃ k m : Nat, k ≤ j ∧ T0.taken (es.take k) (u, v) = false ∧ i = .int .i64 k ∧ w' = wr.drewN m) (fun i _ => j - (intOf i).toNat)
      case atStart => exact ⟨0, 0, Nat.zero_le _, rfl, rfl, rfl⟩
      case round =>
        obtain ⟨k, m, hk, hno, rfl, hW⟩ := hrel
        have x1 : wr.cell? ⟨b, off + j * 2, none⟩ = some (.int .i64 u) := by rw [hW]; exact y1
        have x2 : wr.cell? ⟨b, off + j * 2 + 1, none⟩ = some (.string v) := by rw [hW]; exact y2
        have HW : Below w.heap.size w wr := by rw [hW]; exact K0.below_drewN hbel m
        have HD : Hid (wr = _) := hW
        by_cases hlk : k < j
        · have x3 : wr.cell? ⟨b, off + k * 2, none⟩ = some (.int .i64 (T0.ent es k).1) := by rw [hW]; exact (hc k (by omega)).1
          have x4 : wr.cell? ⟨b, off + k * 2 + 1, none⟩ = some (.string (T0.ent es k).2) := by rw [hW]; exact (hc k (by omega)).2
          have hin1 := hin k hlk
          have hts1 := hts k (by omega)
          obtain ⟨z, ez⟩ : ∃ z, T0.ent es k = z := ⟨_, rfl⟩
          rw [ez] at x3 x4 hin1 hts1
          obtain ⟨p, q⟩ := z
          simp only at x3 x4
          have f1 : (0 : Int) ≤ (k : Int) := by omega
          have f2 : (k : Int) < (es.length : Int) := by omega
          have f3 : (k : Int) < (j : Int) := by omega
          clear ez hc y1 y2 hW hin hts
          by_cases h1 : (q.toList == v.toList) = true
          · have HR : Hid (T0.putD es = ⟨#[]⟩) := hbad (by rw [hat, hin1 (by rw [T0.clash, h1]; rfl), Bool.not_true, Bool.and_false])
            clear hin1 hts1 hat hbad hs hok hu
            go_wp2
            go_quiet (fail)
            go_wp2
            go_ret
            exact ⟨ret_str HR.out.symm, K0.below_drewN HW _⟩
          · have h1' : (q.toList == v.toList) = false := by simpa using h1
            by_cases h2 : (p == u) = true
            · have HR : Hid (T0.putD es = ⟨#[]⟩) := hbad (by rw [hat, hin1 (by rw [T0.clash, h1', h2]; rfl), Bool.not_true, Bool.and_false])
              clear hin1 hts1 hat hbad hs hok hu h1
              go_wp2
              go_quiet (fail)
              go_wp2
              go_ret
              exact ⟨ret_str HR.out.symm, K0.below_drewN HW _⟩
            · have h2' : (p == u) = false := by simpa using h2
              have HN : Hid (T0.taken (es.take (k + 1)) (u, v) = false) := by rw [hts1, hno, T0.clash, h1', h2']; rfl
              clear hin1 hts1 hat hbad hs hok hu h1 h2 hno
              go_wp2
              go_quiet (fail)
              go_wp2
              go_roundw
              case rel => exact ⟨k + 1, m + nq, by omega, HN.out, by go_num, by rw [HD.out, World.drewN_drewN]⟩
              case measure => simp [intOf]; omega
        · obtain rfl : k = j := by omega
          clear hc y1 y2 hW HD hin hts
          by_cases hE : E0.entryOk u v = true
          · have g1 := putE_full hE
            have hps := T0.putE_size16 hE
            by_cases hl : 12 < es.length
            · have HR : Hid (T0.putD es = ⟨#[]⟩) := HL.out hl
              have hl' : 12 < (es.length : Int) := by omega
              clear hat hbad hs hok hu hno
              go_wp2_with (go_at_call 46; refine (E2.spec_PutEntry u v _ hf).mono ?_; rintro e w2 ⟨rfl, b2⟩)
              go_ret
              exact ⟨ret_str HR.out.symm, HW.trans (b2.mono HW.size)⟩
            · have hl' : ¬ 12 < (es.length : Int) := by omega
              have hl'' : decide (12 < (es.length : Int)) = false := by simpa using hl'
              have HO : Hid (T0.okUpto es (k + 1) = true) := by rw [hs, hok, hat, hE, hno]; rfl
              have HU : Hid (T0.joined es (k + 1) = T0.joined es k ++ E0.putE u v) := hu
              have zz : (T0.joined es k).size + (E0.putE u v).size ≤ 9223372036854775807 := by omega
              have zz2 : 16 * k + 16 ≤ 9223372036854775807 := by omega
              clear hat hbad hs hok hu hno
              go_wp2_with (go_at_call 46; refine (E2.spec_PutEntry u v _ hf).mono ?_; rintro e w2 ⟨rfl, b2⟩)
              go_roundw
              case rel => exact ⟨k + 1, by omega, Or.inr (by omega), HO.out, by go_num, by rw [HU.out], HW.trans (b2.mono HW.size)⟩
              case measure => simp [intOf]; omega
          · have hE' : E0.entryOk u v = false := by simpa using hE
            have g1 := putE_empty hE'
            have HR : Hid (T0.putD es = ⟨#[]⟩) := hbad (by rw [hat, hE']; rfl)
            clear hat hbad hs hok hu hno
            go_wp2_with (go_at_call 46; refine (E2.spec_PutEntry u v _ hf).mono ?_; rintro e w2 ⟨rfl, b2⟩)
            go_ret
            exact ⟨ret_str HR.out.symm, HW.trans (b2.mono HW.size)⟩
    · obtain rfl : j = es.length := by omega
      have HP : Hid (T0.putD es = T0.joined es es.length) := by
        show T0.putD es = T0.joined es es.length
        rcases h12 with h | h
        · exact HY.out (by omega) hok
        · exact HY.out h hok
      clear hok hR hfit h12 HB HL HY
      go_wp2
      go_ret
      exact ⟨ret_str HP.out.symm, hbel⟩
end Go.Proofs.YtkdjcbmmbjongaaGreat.T3

/- Entries among a law's arguments; contracts of laws.szEntryS, laws.toEntryS and laws.eqEntryS. -/
namespace Go.Proofs.YtkdjcbmmbjongaaGreat.T4
open Go.ChangeShapes Go.WideShapes Go.ChangeAt Go.RowKit Go.Joins Go.Deep
set_option linter.unusedVariables false
set_option linter.unusedSimpArgs false
set_option maxRecDepth 10000

def num : Value → Int
  | .int _ z => z
  | _ => 0
def txt : Value → ByteArray
  | .string s => s
  | _ => ⟨#[]⟩

/-- All names fit. -/
def FitsM (es : List T0.Ent) : Prop := ∀ j, j < es.length → (T0.ent es j).2.size ≤ maxLen

section Args
variable {H : Type} {enc : TypeId × Value → H} {w : World}

theorem open_entries {fuel : Nat} {v : Value} {x : DataW H × List MemPlace} (h : DataW.trod enc Tryz.prog w 0 (fun _ => true) true fuel 25 [v] = some x) :
    ∃ (a : Option Addr) (c : Nat) (es : List T0.Ent), v = .slice a es.length c ∧ es.length ≤ c ∧ c ≤ maxLen ∧ FitsM es ∧ T0.Row w a es := by
  rcases open_slice_pairs Tryz.underlying25 Tryz.underlying47 (by kernel_rfl) rfl rfl (by kernel_rfl) (by kernel_rfl) h with ⟨hcs, _⟩ | ⟨a, len, cap, m, n, V0, V1, D0, D1, Q0, Q1, hcs, _, hl, hm, hmm, _, hx⟩
  · simp at hcs
    exact ⟨none, 0, [], hcs, Nat.le_refl _, Nat.zero_le _, fun j hj => by simp at hj, Or.inl rfl⟩
  · simp at hcs hmm
    subst hmm
    have hlen : ((List.range len).map fun i => ((num (V0 i), txt (V1 i)) : T0.Ent)).length = len := by simp
    have hent : ∀ j, j < len → T0.ent ((List.range len).map fun i => ((num (V0 i), txt (V1 i)) : T0.Ent)) j = (num (V0 j), txt (V1 j)) := fun j hj => by
      rw [T0.ent_get _ _ (by rw [hlen]; exact hj)]
      simp
    have each : ∀ j, j < len → V0 j = .int .i64 (num (V0 j)) ∧ V1 j = .string (txt (V1 j)) ∧ (txt (V1 j)).size ≤ maxLen := fun j hj => by
      obtain ⟨_, _, h0, h1⟩ := hx j (by omega)
      obtain ⟨z, e0, _, _⟩ := DataW.trod_int Tryz.underlying3 h0
      obtain ⟨s, e1, _, hs⟩ := DataW.trod_string Tryz.underlying9 h1
      simp at e0 e1
      rw [e0, e1]
      exact ⟨rfl, rfl, hs⟩
    refine ⟨some a, m, (List.range len).map fun i => (num (V0 i), txt (V1 i)), by rw [hcs, hlen], by rw [hlen]; exact hl, hm, fun j hj => ?_, ?_⟩
    · rw [hlen] at hj
      rw [hent j hj]
      exact (each j hj).2.2
    · by_cases h0 : len = 0
      · left
        subst h0
        rfl
      · right
        obtain ⟨b, off, spot⟩ := a
        have hspot : spot = none := by simpa [Addr.add] using World.cell?_spot (hx 0 (by omega)).1
        subst hspot
        have hb : b < w.heap.size := by
          have hc0 := (hx 0 (by omega)).1
          unfold World.cell? at hc0
          cases hq : w.heap[b]? with
          | none => simp [Addr.add, hq] at hc0
          | some o => exact (Array.getElem?_eq_some_iff.1 hq).1
        refine ⟨b, off, rfl, hb, fun j hj => ?_⟩
        rw [hlen] at hj
        obtain ⟨hc0, hc1, _, _⟩ := hx j (by omega)
        rw [Go.WideShapes.add_plain] at hc0 hc1
        rw [hent j hj]
        refine ⟨?_, ?_⟩
        · rw [hc0]
          congr 1
          exact (each j hj).1
        · rw [← Nat.add_assoc] at hc1
          rw [hc1]
          congr 1
          exact (each j hj).2.1
end Args

/-- The names' sizes, all together. -/
def sum (es : List T0.Ent) : Nat → Nat
  | 0 => 0
  | k + 1 => sum es k + (T0.ent es k).2.size

theorem sum_mono (es : List T0.Ent) (k : Nat) : ∀ m, sum es k ≤ sum es (k + m)
  | 0 => Nat.le_refl _
  | m + 1 => Nat.le_trans (sum_mono es k m) (Nat.le_add_right _ _)

theorem sum_le {es : List T0.Ent} {k n : Nat} (h : k ≤ n) : sum es k ≤ sum es n := by
  have := sum_mono es k (n - k)
  rwa [show k + (n - k) = n by omega] at this

theorem fits_of {es : List T0.Ent} (h : es.length + sum es es.length ≤ 1048576) : T0.Fits es := fun j hj => by
  have h1 := sum_le (es := es) (k := j + 1) (n := es.length) (by omega)
  have h2 : sum es (j + 1) = sum es j + (T0.ent es j).2.size := rfl
  omega

/-- What is left of 2^20; -1 where nothing is. -/
def left (es : List T0.Ent) : Int := if es.length + sum es es.length ≤ 1048576 then 1048576 - (es.length : Int) - (sum es es.length : Int) else -1

theorem ret_int {k : IntKind} {a b : Int} (h : a = b) : Ending.returned (.int k a) = .returned (.int k b) := by rw [h]

set_option maxHeartbeats 1000000 in
theorem szEntryS (a : Option Addr) (c : Nat) (es : List T0.Ent) (w : World) (hn : es.length ≤ maxLen) (hfit : FitsM es) (hR : T0.Row w a es) :
    Calls Tryz.prog 6 #[.slice a es.length c, .int .i64 1048576] w fun e w' => e = .returned (.int .i64 (left es)) ∧ Below w.heap.size w w' := by
  unfold maxLen at hn
  by_cases h1 : 1048576 - (es.length : Int) < 0
  · have HR : Hid (left es = -1) := if_neg (by omega)
    go_enter Tryz.func6, Tryz.ntmps6
    go_wp2
    go_ret
    exact ⟨ret_int HR.out.symm, Below.refl _ _⟩
  · go_enter Tryz.func6, Tryz.ntmps6
    go_wp2
    go_loopw [1, 5] (fun l i w' => ∃ k : Nat, k ≤ es.length ∧ i = .int .i64 k ∧ l = .int .i64 (1048576 - (es.length : Int) - (sum es k : Int)) ∧ es.length + sum es k ≤ 1048576 ∧ Below w.heap.size w w') (fun _ i _ => es.length - (intOf i).toNat)
    case atStart => exact ⟨0, Nat.zero_le _, rfl, by simp [sum], by simp [sum]; omega, Below.refl _ _⟩
    case round =>
      obtain ⟨k, hk, rfl, rfl, hs, hbel⟩ := hrel
      have hB := hbel.size
      by_cases hlt : k < es.length
      · obtain ⟨b, off, rfl, hlt0, hc⟩ := (hR.below hbel).get hlt
        have y1 := (hc k hlt).1
        have y2 := (hc k hlt).2
        have hf := hfit k hlt
        have hsum : sum es (k + 1) = sum es k + (T0.ent es k).2.size := rfl
        obtain ⟨z, ez⟩ : ∃ z, T0.ent es k = z := ⟨_, rfl⟩
        rw [ez] at y1 y2 hf hsum
        obtain ⟨u, v⟩ := z
        simp only at y1 y2 hf hsum
        have e1 : (0 : Int) ≤ (k : Int) := by omega
        have e2 : (k : Int) < (es.length : Int) := by omega
        have hsz : Hid (∀ W, Calls Tryz.prog 21 #[.agg #[.int .i64 u, .string v], .int .i64 (1048576 - (es.length : Int) - (sum es k : Int))] W fun e w' => e = .returned (.int .i64 (E3.sz v (1048576 - (es.length : Int) - (sum es k : Int)))) ∧ Below W.heap.size W w') := fun W => E3.szEntry u v _ W hf (by omega) (by omega)
        clear ez hc hfit hR
        by_cases h2 : es.length + sum es (k + 1) ≤ 1048576
        · have hz : E3.sz v (1048576 - (es.length : Int) - (sum es k : Int)) = 1048576 - (es.length : Int) - (sum es (k + 1) : Int) := by rw [E3.sz, if_neg (by omega)]; omega
          rw [hz] at hsz
          have h3 : ¬ 1048576 - (es.length : Int) - (sum es (k + 1) : Int) < 0 := by omega
          clear hz hsum
          go_wp2_with (go_at_call 21; refine (hsz.out _).mono ?_; rintro e w1 ⟨rfl, b1⟩)
          go_roundw
          case rel => exact ⟨k + 1, by omega, by go_num, rfl, h2, hbel.trans (b1.mono hB)⟩
          case measure => simp [intOf]; omega
        · have hz : E3.sz v (1048576 - (es.length : Int) - (sum es k : Int)) = -1 := by rw [E3.sz, if_pos (by omega)]
          rw [hz] at hsz
          have hge := sum_le (es := es) (k := k + 1) (n := es.length) (by omega)
          have HR : Hid (left es = -1) := if_neg (by omega)
          clear hz hsum
          go_wp2_with (go_at_call 21; refine (hsz.out _).mono ?_; rintro e w1 ⟨rfl, b1⟩)
          go_ret
          exact ⟨ret_int HR.out.symm, hbel.trans (b1.mono hB)⟩
      · obtain rfl : k = es.length := by omega
        have HR : Hid (left es = 1048576 - (es.length : Int) - (sum es es.length : Int)) := if_pos hs
        clear hR hfit
        go_wp2
        go_ret
        exact ⟨ret_int HR.out.symm, hbel⟩
end Go.Proofs.YtkdjcbmmbjongaaGreat.T4

/- Contracts of laws.toEntryS and laws.eqEntryS, as the given laws call them. -/
namespace Go.Proofs.YtkdjcbmmbjongaaGreat.T5
open Go.ChangeShapes Go.WideShapes Go.ChangeAt Go.RowKit
set_option linter.unusedVariables false
set_option linter.unusedSimpArgs false
set_option maxRecDepth 10000

theorem info33 : (Tryz.prog.info? 57).map (fun i => (i.zero, i.size, i.bytes)) = some (some (.agg #[.int .i64 0, .string ⟨#[]⟩]), 2, 24) := by kernel_rfl

theorem make_ents (n : Nat) (hn : n ≤ 1048576) : ∃ C : Array Value, C.size = n * 2 ∧ ∀ W : World, (Instr.makeSlice 33 (.int .i64 (n : Int)) (.int .i64 (n : Int))).run Tryz.prog W = .ok (.slice (some ⟨W.heap.size, 0, none⟩) n n) (W.alloc (.cells C 57)) := by
  obtain ⟨i0, hi, hz0, hz1, hz2⟩ := info_parts info33
  refine ⟨madeCells (Value.agg #[.int .i64 0, .string ⟨#[]⟩]).cells (n * i0.size), by rw [size_madeCells, hz1], fun W => ?_⟩
  have h := run_make (P := Tryz.prog) W 33 57 i0 (.agg #[.int .i64 0, .string ⟨#[]⟩]) Tryz.underlying33 hi hz0 .i64 .i64 (n : Int) (n : Int) (by omega) (by omega) (by rw [hz2]; omega) (by omega)
  rw [show ((n : Int)).toNat = n by omega] at h
  exact h

/-- A row of entries while it is being filled. -/
structure Mk (g n : Nat) (es : List T0.Ent) (k : Nat) (W : World) : Prop where
  done : ∀ j, j < k → W.cell? ⟨g, j * 2, none⟩ = some (.int .i64 (T0.ent es j).1) ∧ W.cell? ⟨g, j * 2 + 1, none⟩ = some (.string (T0.ent es j).2)
  there : ∀ j, j < n * 2 → (W.cell? ⟨g, j, none⟩).isSome = true
  free : ∀ j, j < n * 2 → W.frozen? ⟨g, j, none⟩ = false
  lt : g < W.heap.size

variable {g n k : Nat} {es : List T0.Ent} {w W W' : World}

theorem Mk.below (h : Mk g n es k W) (hb : Below W.heap.size W W') : Mk g n es k W' :=
  ⟨fun j hj => ⟨(hb.cell (p := ⟨g, j * 2, none⟩) h.lt).trans (h.done j hj).1, (hb.cell (p := ⟨g, j * 2 + 1, none⟩) h.lt).trans (h.done j hj).2⟩,
   fun j hj => by rw [hb.cell (p := ⟨g, j, none⟩) h.lt]; exact h.there j hj, fun j hj => (hb.frozen (p := ⟨g, j, none⟩) h.lt).trans (h.free j hj), Nat.lt_of_lt_of_le h.lt hb.size⟩

theorem mk_new (w : World) (C : Array Value) (hC : C.size = n * 2) : Mk w.heap.size n es 0 (w.alloc (.cells C 57)) := by
  refine ⟨fun j hj => absurd hj (Nat.not_lt_zero _), fun j hj => ?_, fun j hj => ?_, ?_⟩
  · rw [World.cell?_alloc_mark]
    have : j < C.size := by omega
    simp [this]
  · have h := World.frozen?_alloc_mark w C 57 0 0 j
    rw [h]
    simp
  · simp

theorem some_set {W : World} {p x : Addr} {v : Value} (h : (W.cell? x).isSome = true) : ((W.setCell p v).cell? x).isSome = true := by
  by_cases e : p = x
  · subst e
    obtain ⟨u, hu⟩ := Option.isSome_iff_exists.1 h
    rw [World.cell?_setCell_same _ _ _ hu]
    rfl
  · rw [World.cell?_setCell_other _ _ _ _ e]
    exact h

theorem Mk.step (h : Mk g n es k W) (hk : k < n) {u : Int} {v : ByteArray} (he : T0.ent es k = (u, v)) : Mk g n es (k + 1) ((W.setCell ⟨g, k * 2, none⟩ (.int .i64 u)).setCell ⟨g, k * 2 + 1, none⟩ (.string v)) := by
  obtain ⟨x, hx⟩ := Option.isSome_iff_exists.1 (h.there (k * 2) (by omega))
  obtain ⟨y, hy⟩ := Option.isSome_iff_exists.1 (h.there (k * 2 + 1) (by omega))
  have n1 : (⟨g, k * 2 + 1, none⟩ : Addr) ≠ ⟨g, k * 2, none⟩ := by simp
  refine ⟨fun j hj => ?_, fun j hj => some_set (some_set (h.there j hj)), fun j hj => ?_, ?_⟩
  · by_cases e : j = k
    · subst e
      rw [he]
      refine ⟨?_, ?_⟩
      · rw [World.cell?_setCell_other _ _ _ _ n1, World.cell?_setCell_same _ _ _ hx]
      · rw [World.cell?_setCell_same _ _ _ ((World.cell?_setCell_other _ _ _ _ n1.symm).trans hy)]
    · have hd := h.done j (by omega)
      refine ⟨?_, ?_⟩
      · rw [World.cell?_setCell_other _ _ _ _ (by intro q; have := (Addr.mk.inj q).2.1; omega), World.cell?_setCell_other _ _ _ _ (by intro q; have := (Addr.mk.inj q).2.1; omega)]
        exact hd.1
      · rw [World.cell?_setCell_other _ _ _ _ (by intro q; have := (Addr.mk.inj q).2.1; omega), World.cell?_setCell_other _ _ _ _ (by intro q; have := (Addr.mk.inj q).2.1; omega)]
        exact hd.2
  · rw [World.frozen?_setCell, World.frozen?_setCell]
    exact h.free j hj
  · have := h.lt
    simpa [World.setCell] using this

set_option maxHeartbeats 1000000 in
theorem toEntryS (a : Option Addr) (c : Nat) (es : List T0.Ent) (w : World) (hn : es.length ≤ 1048576) (hR : T0.Row w a es) :
    Calls Tryz.prog 9 #[.slice a es.length c] w fun e w' => ∃ g, e = .returned (.slice (some ⟨g, 0, none⟩) es.length es.length) ∧ T0.Row w' (some ⟨g, 0, none⟩) es ∧ Below w.heap.size w w' := by
  obtain ⟨C, hC, hmk⟩ := make_ents es.length hn
  have hmk0 := hmk w
  have m0 := mk_new (es := es) w C hC
  have l0 := K0.below_new w (.cells C 57)
  obtain ⟨W0, hW0⟩ : ∃ W0, w.alloc (.cells C 57) = W0 := ⟨_, rfl⟩
  rw [hW0] at m0 l0 hmk0
  clear hmk hW0
  go_enter Tryz.func9, Tryz.ntmps9
  go_wp2
  go_loopw [4] (fun i w' => ∃ k : Nat, k ≤ es.length ∧ i = .int .i64 k ∧ Mk w.heap.size es.length es k w' ∧ Below w.heap.size w w') (fun i _ => es.length - (intOf i).toNat)
  case atStart => exact ⟨0, Nat.zero_le _, rfl, m0, l0⟩
  case round =>
    obtain ⟨k, hk, rfl, hmk, hbel⟩ := hrel
    clear m0 l0 hmk0
    by_cases hlt : k < es.length
    · obtain ⟨b, off, rfl, hlt0, hc⟩ := (hR.below hbel).get hlt
      have y1 := (hc k hlt).1
      have y2 := (hc k hlt).2
      obtain ⟨z, ez⟩ : ∃ z, T0.ent es k = z := ⟨_, rfl⟩
      rw [ez] at y1 y2
      obtain ⟨u, v⟩ := z
      simp only at y1 y2
      have HE : Hid (T0.ent es k = (u, v)) := ez
      have e1 : (0 : Int) ≤ (k : Int) := by omega
      have e2 : (k : Int) < (es.length : Int) := by omega
      have hB := hbel.size
      clear ez hc hR
      go_wp2_with (go_at_call 28; refine (E3.toEntry u v _).mono ?_; rintro e w1 ⟨rfl, b1⟩; have m1 := hmk.below b1; obtain ⟨x1, q1⟩ := Option.isSome_iff_exists.1 (m1.there (k * 2) (by omega)); obtain ⟨x2, q2⟩ := Option.isSome_iff_exists.1 (m1.there (k * 2 + 1) (by omega)); have q3 := m1.free (k * 2) (by omega); have q4 := m1.free (k * 2 + 1) (by omega))
      go_roundw
      case rel => exact ⟨k + 1, by omega, by go_num, m1.step hlt HE.out, ((hbel.trans (b1.mono hB)).setCell (p := ⟨w.heap.size, k * 2, none⟩) (Nat.le_refl _) _).setCell (p := ⟨w.heap.size, k * 2 + 1, none⟩) (Nat.le_refl _) _⟩
      case measure => simp [intOf]; omega
    · obtain rfl : k = es.length := by omega
      have hrow : T0.Row wr (some ⟨w.heap.size, 0, none⟩) es := Or.inr ⟨w.heap.size, 0, rfl, hmk.lt, fun j hj => by
        have := hmk.done j hj
        rw [Nat.zero_add]
        exact this⟩
      clear hR hmk
      go_wp2
      go_ret
      exact ⟨_, rfl, hrow, hbel⟩

set_option maxHeartbeats 2000000 in
theorem eqEntryS (a1 a2 : Option Addr) (c1 c2 : Nat) (es : List T0.Ent) (w : World) (hn : es.length ≤ 1048576) (h1 : T0.Row w a1 es) (h2 : T0.Row w a2 es) :
    Calls Tryz.prog 13 #[.slice a1 es.length c1, .slice a2 es.length c2] w fun e w' => e = .returned (.bool true) ∧ Below w.heap.size w w' := by
  go_enter Tryz.func13, Tryz.ntmps13
  go_wp2
  go_loopw [5] (fun i w' => ∃ k : Nat, k ≤ es.length ∧ i = .int .i64 k ∧ Below w.heap.size w w') (fun i _ => es.length - (intOf i).toNat)
  case atStart => exact ⟨0, Nat.zero_le _, rfl, Below.refl _ _⟩
  case round =>
    obtain ⟨k, hk, rfl, hbel⟩ := hrel
    by_cases hlt : k < es.length
    · obtain ⟨b1, o1, rfl, l1, r1⟩ := (h1.below hbel).get hlt
      obtain ⟨b2, o2, rfl, l2, r2⟩ := (h2.below hbel).get hlt
      have y1 := (r1 k hlt).1
      have y2 := (r1 k hlt).2
      have y3 := (r2 k hlt).1
      have y4 := (r2 k hlt).2
      obtain ⟨z, ez⟩ : ∃ z, T0.ent es k = z := ⟨_, rfl⟩
      rw [ez] at y1 y2 y3 y4
      obtain ⟨u, v⟩ := z
      simp only at y1 y2 y3 y4
      have e1 : (0 : Int) ≤ (k : Int) := by omega
      have e2 : (k : Int) < (es.length : Int) := by omega
      have hB := hbel.size
      have hS0 : wr.drew.cell? ⟨b1, o1 + k * 2, none⟩ = some (.int .i64 u) ∧ wr.drew.cell? ⟨b1, o1 + k * 2 + 1, none⟩ = some (.string v) ∧ wr.drew.cell? ⟨b2, o2 + k * 2, none⟩ = some (.int .i64 u) ∧ wr.drew.cell? ⟨b2, o2 + k * 2 + 1, none⟩ = some (.string v) := ⟨y1, y2, y3, y4⟩
      clear ez r1 r2 h1 h2
      go_wp2
      go_region_held3 (fun W => W.cell? ⟨b1, o1 + k * 2, none⟩ = some (.int .i64 u) ∧ W.cell? ⟨b1, o1 + k * 2 + 1, none⟩ = some (.string v) ∧ W.cell? ⟨b2, o2 + k * 2, none⟩ = some (.int .i64 u) ∧ W.cell? ⟨b2, o2 + k * 2 + 1, none⟩ = some (.string v)) (assumption) ((go_at_call 37; refine (E3.eqEntry u v _).mono ?_; rintro e w4 ⟨rfl, b4⟩; have hS4 : w4.cell? ⟨b1, o1 + k * 2, none⟩ = some (.int .i64 u) ∧ w4.cell? ⟨b1, o1 + k * 2 + 1, none⟩ = some (.string v) ∧ w4.cell? ⟨b2, o2 + k * 2, none⟩ = some (.int .i64 u) ∧ w4.cell? ⟨b2, o2 + k * 2 + 1, none⟩ = some (.string v) := ⟨(b4.cell (p := ⟨b1, o1 + k * 2, none⟩) l1).trans y1, (b4.cell (p := ⟨b1, o1 + k * 2 + 1, none⟩) l1).trans y2, (b4.cell (p := ⟨b2, o2 + k * 2, none⟩) l2).trans y3, (b4.cell (p := ⟨b2, o2 + k * 2 + 1, none⟩) l2).trans y4⟩))
      all_goals
        go_wp2
        go_roundw
        case rel => exact ⟨k + 1, by omega, by go_num, hbel.trans ((show Below wr.heap.size wr w4 from ⟨b4.os, b4.tape, b4.output, b4.size, b4.block⟩).mono hB)⟩
        case measure => simp [intOf]; omega
    · clear h1 h2
      go_wp2
      go_ret
      exact ⟨rfl, hbel⟩
end Go.Proofs.YtkdjcbmmbjongaaGreat.T5

/- Puts among a law's arguments; contracts of laws.szPutS, laws.toPutS and laws.eqPutS. -/
namespace Go.Proofs.YtkdjcbmmbjongaaGreat.PP
open Go.ChangeShapes Go.WideShapes Go.ChangeAt Go.RowKit Go.Joins Go.Deep
open T4 (num txt FitsM sum sum_mono sum_le fits_of left ret_int)
open T5 (Mk)
open E3 (sz)
set_option linter.unusedVariables false
set_option linter.unusedSimpArgs false
set_option maxRecDepth 10000

theorem eqPut (i : Int) (s : ByteArray) (w : World) :
    Calls Tryz.prog 35 #[.agg #[.int .i64 i, .string s], .agg #[.int .i64 i, .string s]] w fun e w' => e = .returned (.bool true) ∧ Below w.heap.size w w' := by
  go_enter Tryz.func35, Tryz.ntmps35
  go_wp2
  go_ret
  exact ⟨rfl, ((Below.refl _ _).alloc (Nat.le_refl _) _).alloc (by simp) _⟩

section Args
variable {H : Type} {enc : TypeId × Value → H} {w : World}

end Args

theorem info33 : (Tryz.prog.info? 65).map (fun i => (i.zero, i.size, i.bytes)) = some (some (.agg #[.int .i64 0, .string ⟨#[]⟩]), 2, 24) := by kernel_rfl

theorem make_ents (n : Nat) (hn : n ≤ 1048576) : ∃ C : Array Value, C.size = n * 2 ∧ ∀ W : World, (Instr.makeSlice 28 (.int .i64 (n : Int)) (.int .i64 (n : Int))).run Tryz.prog W = .ok (.slice (some ⟨W.heap.size, 0, none⟩) n n) (W.alloc (.cells C 65)) := by
  obtain ⟨i0, hi, hz0, hz1, hz2⟩ := info_parts info33
  refine ⟨madeCells (Value.agg #[.int .i64 0, .string ⟨#[]⟩]).cells (n * i0.size), by rw [size_madeCells, hz1], fun W => ?_⟩
  have h := run_make (P := Tryz.prog) W 28 65 i0 (.agg #[.int .i64 0, .string ⟨#[]⟩]) Tryz.underlying28 hi hz0 .i64 .i64 (n : Int) (n : Int) (by omega) (by omega) (by rw [hz2]; omega) (by omega)
  rw [show ((n : Int)).toNat = n by omega] at h
  exact h

variable {g n k : Nat} {es : List T0.Ent} {w W W' : World}

theorem mk_new (w : World) (C : Array Value) (hC : C.size = n * 2) : Mk w.heap.size n es 0 (w.alloc (.cells C 65)) := by
  refine ⟨fun j hj => absurd hj (Nat.not_lt_zero _), fun j hj => ?_, fun j hj => ?_, ?_⟩
  · rw [World.cell?_alloc_mark]
    have : j < C.size := by omega
    simp [this]
  · have h := World.frozen?_alloc_mark w C 65 0 0 j
    rw [h]
    simp
  · simp

set_option maxHeartbeats 2000000 in
theorem eqPutS (a1 a2 : Option Addr) (c1 c2 : Nat) (es : List T0.Ent) (w : World) (hn : es.length ≤ 1048576) (h1 : T0.Row w a1 es) (h2 : T0.Row w a2 es) :
    Calls Tryz.prog 11 #[.slice a1 es.length c1, .slice a2 es.length c2] w fun e w' => e = .returned (.bool true) ∧ Below w.heap.size w w' := by
  go_enter Tryz.func11, Tryz.ntmps11
  go_wp2
  go_loopw [5] (fun i w' => ∃ k : Nat, k ≤ es.length ∧ i = .int .i64 k ∧ Below w.heap.size w w') (fun i _ => es.length - (intOf i).toNat)
  case atStart => exact ⟨0, Nat.zero_le _, rfl, Below.refl _ _⟩
  case round =>
    obtain ⟨k, hk, rfl, hbel⟩ := hrel
    by_cases hlt : k < es.length
    · obtain ⟨b1, o1, rfl, l1, r1⟩ := (h1.below hbel).get hlt
      obtain ⟨b2, o2, rfl, l2, r2⟩ := (h2.below hbel).get hlt
      have y1 := (r1 k hlt).1
      have y2 := (r1 k hlt).2
      have y3 := (r2 k hlt).1
      have y4 := (r2 k hlt).2
      obtain ⟨z, ez⟩ : ∃ z, T0.ent es k = z := ⟨_, rfl⟩
      rw [ez] at y1 y2 y3 y4
      obtain ⟨u, v⟩ := z
      simp only at y1 y2 y3 y4
      have e1 : (0 : Int) ≤ (k : Int) := by omega
      have e2 : (k : Int) < (es.length : Int) := by omega
      have hB := hbel.size
      have hS0 : wr.drew.cell? ⟨b1, o1 + k * 2, none⟩ = some (.int .i64 u) ∧ wr.drew.cell? ⟨b1, o1 + k * 2 + 1, none⟩ = some (.string v) ∧ wr.drew.cell? ⟨b2, o2 + k * 2, none⟩ = some (.int .i64 u) ∧ wr.drew.cell? ⟨b2, o2 + k * 2 + 1, none⟩ = some (.string v) := ⟨y1, y2, y3, y4⟩
      clear ez r1 r2 h1 h2
      go_wp2
      go_region_held3 (fun W => W.cell? ⟨b1, o1 + k * 2, none⟩ = some (.int .i64 u) ∧ W.cell? ⟨b1, o1 + k * 2 + 1, none⟩ = some (.string v) ∧ W.cell? ⟨b2, o2 + k * 2, none⟩ = some (.int .i64 u) ∧ W.cell? ⟨b2, o2 + k * 2 + 1, none⟩ = some (.string v)) (assumption) ((go_at_call 35; refine (eqPut u v _).mono ?_; rintro e w4 ⟨rfl, b4⟩; have hS4 : w4.cell? ⟨b1, o1 + k * 2, none⟩ = some (.int .i64 u) ∧ w4.cell? ⟨b1, o1 + k * 2 + 1, none⟩ = some (.string v) ∧ w4.cell? ⟨b2, o2 + k * 2, none⟩ = some (.int .i64 u) ∧ w4.cell? ⟨b2, o2 + k * 2 + 1, none⟩ = some (.string v) := ⟨(b4.cell (p := ⟨b1, o1 + k * 2, none⟩) l1).trans y1, (b4.cell (p := ⟨b1, o1 + k * 2 + 1, none⟩) l1).trans y2, (b4.cell (p := ⟨b2, o2 + k * 2, none⟩) l2).trans y3, (b4.cell (p := ⟨b2, o2 + k * 2 + 1, none⟩) l2).trans y4⟩))
      all_goals
        go_wp2
        go_roundw
        case rel => exact ⟨k + 1, by omega, by go_num, hbel.trans ((show Below wr.heap.size wr w4 from ⟨b4.os, b4.tape, b4.output, b4.size, b4.block⟩).mono hB)⟩
        case measure => simp [intOf]; omega
    · clear h1 h2
      go_wp2
      go_ret
      exact ⟨rfl, hbel⟩
end Go.Proofs.YtkdjcbmmbjongaaGreat.PP

/- A row of entries that a call has made and appends to. -/
namespace Go.Proofs.YtkdjcbmmbjongaaGreat.V1
open Go.ChangeShapes Go.WideShapes Go.ChangeAt Go.RowKit
set_option linter.unusedVariables false
set_option linter.unusedSimpArgs false
set_option maxRecDepth 10000

/-- Entries as cells, two each. -/
def flat : List T0.Ent → List Value
  | [] => []
  | e :: r => .int .i64 e.1 :: .string e.2 :: flat r

theorem flat_length : ∀ es : List T0.Ent, (flat es).length = es.length * 2
  | [] => rfl
  | e :: r => by simp [flat, flat_length r]; omega

theorem flat_append : ∀ (es : List T0.Ent) (e : T0.Ent), flat es ++ [.int .i64 e.1, .string e.2] = flat (es ++ [e])
  | [], e => rfl
  | x :: r, e => by simp [flat, ← flat_append r e]

theorem flat_get : ∀ (es : List T0.Ent) (j : Nat), j < es.length → (flat es)[j * 2]? = some (.int .i64 (T0.ent es j).1) ∧ (flat es)[j * 2 + 1]? = some (.string (T0.ent es j).2)
  | [], j, h => by simp at h
  | e :: r, 0, _ => ⟨rfl, rfl⟩
  | e :: r, j + 1, h => by
    have := flat_get r j (by simpa using h)
    have e1 : (j + 1) * 2 = j * 2 + 1 + 1 := by omega
    have e2 : T0.ent (e :: r) (j + 1) = T0.ent r j := rfl
    rw [e1, e2]
    exact this

/-- A row of a call's own. -/
def EBuf (base : Nat) (w : World) (a : Option Addr) (n cap : Nat) (es : List T0.Ent) : Prop := n = es.length ∧ w.ownsRow base 57 2 (.slice a n cap) n (flat es)

variable {base n cap : Nat} {a : Option Addr} {w W : World} {es : List T0.Ent}

theorem EBuf.below (h : EBuf base w a n cap es) (hb : Below w.heap.size w W) : EBuf base W a n cap es := ⟨h.1, F0.owns_below h.2 hb⟩
theorem EBuf.alloc (h : EBuf base w a n cap es) (o : Obj) : EBuf base (w.alloc o) a n cap es := h.below ((Below.refl _ _).alloc (Nat.le_refl _) o)
theorem ebuf_made (w : World) (hb : base ≤ w.heap.size) : EBuf base (w.alloc (.cells #[] 57)) (some ⟨w.heap.size, 0, none⟩) 0 0 [] := ⟨rfl, World.ownsRow_made w #[] 0 hb (Nat.zero_le _) rfl⟩

theorem EBuf.fits (h : EBuf base w a n cap es) : n ≤ cap := by
  rcases h.2.2 with ⟨h0, h1⟩ | ⟨g, c, cur, hv, _, _, hle, _⟩
  · omega
  · simp at hv
    omega

/-- What a call hands out. -/
def OwnE (base : Nat) (W : World) (a : Option Addr) (es : List T0.Ent) : Prop := es = [] ∨ ∃ g, a = some ⟨g, 0, none⟩ ∧ base ≤ g ∧ T5.Mk g es.length es es.length W

theorem EBuf.own (h : EBuf base w a n cap es) : OwnE base w a es := by
  rcases h.2.2 with ⟨h0, h1⟩ | ⟨g, c, cur, hv, hg, hc, hle, _, hs, ht⟩
  · left
    exact List.eq_nil_of_length_eq_zero (by rw [← h.1]; exact h1)
  · right
    simp at hv
    have hcell : ∀ j, w.cell? ⟨g, j, none⟩ = cur[j]? := fun j => by
      unfold World.cell?
      rw [hc]
      simp
    have hn := h.1
    have hget : ∀ j, j < n * 2 → cur[j]? = (flat es)[j]? := fun j hj => by
      have e1 : (cur.toList.take (n * 2))[j]? = (flat es)[j]? := by rw [ht]
      rw [List.getElem?_take_of_lt hj] at e1
      rw [← Array.getElem?_toList, e1]
    refine ⟨g, hv.1, hg, ⟨fun j hj => ?_, fun j hj => ?_, fun j hj => ?_, (Array.getElem?_eq_some_iff.1 hc).1⟩⟩
    · have := flat_get es j hj
      rw [hcell, hcell, hget _ (by omega), hget _ (by omega)]
      exact this
    · rw [hcell]
      have : j < cur.size := by omega
      simp [this]
    · unfold World.frozen?
      rw [hc]
      simp

theorem OwnE.row (h : OwnE base W a es) : T0.Row W a es := by
  rcases h with h | ⟨g, rfl, _, hm⟩
  · exact Or.inl h
  · exact Or.inr ⟨g, 0, rfl, hm.lt, fun j hj => by rw [Nat.zero_add]; exact hm.done j hj⟩
theorem OwnE.below {W' : World} (h : OwnE base W a es) (hb : Below W.heap.size W W') : OwnE base W' a es := h.imp id fun ⟨g, e, hg, hk⟩ => ⟨g, e, hg, hk.below hb⟩
theorem OwnE.mono {base' : Nat} (h : OwnE base W a es) (hb : base' ≤ base) : OwnE base' W a es := h.imp id fun ⟨g, e, hg, hk⟩ => ⟨g, e, Nat.le_trans hb hg, hk⟩

theorem one_ent (u : Int) (v : ByteArray) : ∀ x ∈ [Value.int .i64 u, .string v], x.oneCell' = true := by
  intro x h
  simp at h
  rcases h with rfl | rfl <;> rfl

/-- 'list = append(list, e)'. -/
theorem append_ent {ops : Array Oper} {rest : List Oper} {o : Oper} {A : Act} {Q : Exit → Act → World → Prop} (hgd : o.guard = none) (sl x : Operand)
    (ho : o.op = .call { callee := .builtin .append, args := #[sl, x], argTypes := #[33, 33] })
    (hbuf : EBuf base w a n cap es) (u : Int) (v : ByteArray) (hs : A.eval sl = .slice a n cap) {H : Nat} (hH : w.heap.size = H) (hx : A.eval x = .slice (some ⟨H, 0, none⟩) 1 1) (hlen : n + 1 ≤ 1048576) (hb : base ≤ w.heap.size)
    (h : ∀ g' cap' w', EBuf base w' (some ⟨g', 0, none⟩) (n + 1) cap' (es ++ [(u, v)]) → Below base w w' → wpList Tryz.prog ops Q rest (A.put o.dst (.slice (some ⟨g', 0, none⟩) (n + 1) cap')) w') : wpList Tryz.prog ops Q (o :: rest) A (w.alloc (.cells #[.int .i64 u, .string v] 57)) := by
  subst hH
  obtain ⟨i0, hi, hz0, hz1, hz2⟩ := info_parts T5.info33
  have hb2 := hbuf.alloc (.cells #[.int .i64 u, .string v] 57)
  refine wpList_append_lies _ hgd sl x 33 ho base 57 i0 (.agg #[.int .i64 0, .string ⟨#[]⟩]) 2 24 Tryz.underlying33 hi hz0 hz1 hz2 rfl (by omega) _ n _ hs hb2.2 ⟨w.heap.size, 0, none⟩ 1 1 [.int .i64 u, .string v] hx rfl (World.news_of_block (heap_alloc_new w _)) (one_ent u v) (by omega) (by unfold maxLen; omega) (by omega) (by simp; omega) _ rfl ?_
  intro g' cap' w' ho' hg' _ _
  refine h g' cap' w' ⟨by rw [hbuf.1]; simp, ?_⟩ ?_
  · rw [← flat_append]
    exact ho'
  · exact F0.below_grown ((Below.refl _ _).alloc hb _) hg' (fun g hg => (hbuf.2.lt g hg).1) (by simp; omega)

/-- What GetDir answers. -/
def Ans (s : ByteArray) (w : World) (e : Ending) (w' : World) : Prop :=
  ∃ a c, e = .returned (.tuple #[.slice a (V0.dE s).length c, .bool (V0.isD s)]) ∧ OwnE w.heap.size w' a (V0.dE s) ∧ (V0.dE s).length ≤ c ∧ Below w.heap.size w w'

theorem ans_no {s : ByteArray} {w w' : World} {a : Option Addr} {c : Nat} (h : V0.isD s = false) (hb : Below w.heap.size w w') : Ans s w (.returned (.tuple #[.slice a 0 c, .bool false])) w' := by
  have hd : V0.dE s = [] := by rw [V0.dE, h]; rfl
  exact ⟨a, c, by rw [hd, h]; rfl, by rw [hd]; exact Or.inl rfl, by rw [hd]; exact Nat.zero_le _, hb⟩

theorem ans_yes {s : ByteArray} {w w' : World} {a : Option Addr} {c : Nat} (h : V0.isD s = true) (ho : OwnE w.heap.size w' a (V0.ents s (V0.cnt s))) (hc : V0.cnt s ≤ c) (hb : Below w.heap.size w w') : Ans s w (.returned (.tuple #[.slice a (V0.cnt s) c, .bool true])) w' := by
  have hd : V0.dE s = V0.ents s (V0.cnt s) := by rw [V0.dE, h]; rfl
  exact ⟨a, c, by rw [hd, h, V0.ents_length], by rw [hd]; exact ho, by rw [hd, V0.ents_length]; exact hc, hb⟩

theorem name_size (x : ByteArray) : (E4.eName x).size ≤ x.size := by
  unfold E4.eName
  split
  · exact B2.part_size _ _ _
  · exact Nat.zero_le _

theorem fits_ents (s : ByteArray) (k : Nat) (hs : s.size ≤ 281474976710656) : T0.Fits (V0.ents s k) := fun j hj => by
  rw [V0.ents_length] at hj
  rw [V0.ents_get s k j hj]
  have h1 := name_size (V0.chunk s j)
  have h2 := B2.part_size s ((j : Int) * 16) 16
  have h3 : (V0.chunk s j).size ≤ s.size := h2
  simp only
  omega
end Go.Proofs.YtkdjcbmmbjongaaGreat.V1

/- Plain facts on decimal numerals. -/
namespace Go.Proofs.YtkdjcbmmbjongaaGreat.D0
open Go

/-- The digits of a number, none for 0. -/
def dd (u : Nat) : List UInt8 := if u = 0 then [] else Lib.decDigits u

theorem dd_step (u : Nat) (h : u ≠ 0) : dd u = dd (u / 10) ++ [UInt8.ofNat (48 + u % 10)] := by
  unfold dd
  rw [if_neg h]
  by_cases h1 : u < 10
  · rw [Lib.decDigits_one h1, if_pos (by omega), Nat.mod_eq_of_lt h1]
    rfl
  · rw [Lib.decDigits, dif_neg h1, if_neg (by omega)]

theorem dd_length (u : Nat) (h : u ≤ 9223372036854775808) : (dd u).length ≤ 21 := by
  unfold dd
  split
  · simp
  · have := Lib.itoa_length_le (-(u : Int)) (by omega) (by omega)
    rw [Lib.itoa_neg u (by omega)] at this
    simp at this
    omega

/-- The ten digits as a text. -/
theorem digit_piece (d : Nat) (h : d < 10) : (⟨#[48, 49, 50, 51, 52, 53, 54, 55, 56, 57]⟩ : ByteArray).extract d (d + 1) = ⟨#[UInt8.ofNat (48 + d)]⟩ := by
  match d, h with
  | 0, _ => rfl
  | 1, _ => rfl
  | 2, _ => rfl
  | 3, _ => rfl
  | 4, _ => rfl
  | 5, _ => rfl
  | 6, _ => rfl
  | 7, _ => rfl
  | 8, _ => rfl
  | 9, _ => rfl

/-- A step of the loop that writes the digits from the last one on. -/
theorem round_eq (u v : Nat) (out : List UInt8) (h : u ≠ 0) (e : dd u ++ out = dd v) : dd (u / 10) ++ (UInt8.ofNat (48 + u % 10) :: out) = dd v := by
  rw [← e, dd_step u h]
  simp

/-- One digit as a text. -/
def dig (x : Int) : ByteArray := ⟨#[UInt8.ofNat (48 + x.toNat)]⟩

theorem dig_size (x : Int) : (dig x).size = 1 := rfl

theorem dig_cons (x : Int) (out : List UInt8) : dig x ++ ⟨out.toArray⟩ = ⟨(UInt8.ofNat (48 + x.toNat) :: out).toArray⟩ := by
  apply ByteArray.ext
  apply Array.toList_inj.1
  simp [dig]

theorem ret_minus (l : List UInt8) : Ending.returned (.string (⟨#[45]⟩ ++ ⟨l.toArray⟩)) = Ending.returned (.string ⟨(45 :: l).toArray⟩) := by
  congr 2

theorem itoa_pos (u : Nat) (h : u ≠ 0) : Lib.itoa (u : Int) = dd u := by rw [Lib.itoa_nonneg, dd, if_neg h]
theorem itoa_neg (u : Nat) (h : u ≠ 0) : Lib.itoa (-(u : Int)) = 45 :: dd u := by rw [Lib.itoa_neg u (by omega), dd, if_neg h]

/-- The piece of the ten digits at a digit's place. -/
theorem dig_slice {P : Program} (t : TypeId) (ht : P.underlying t = some .string) (x : Int) (h0 : 0 ≤ x) (h1 : x < 10) (W : World) :
    (Instr.slice t (.string ⟨#[48, 49, 50, 51, 52, 53, 54, 55, 56, 57]⟩) (some (.int .i64 x)) (some (.int .i64 (x + 1))) none).run P W = .ok (.string (dig x)) W := by
  rw [run_slice_string W t _ .i64 .i64 x (x + 1) ht h0 (by omega) (by show x + 1 ≤ ((10 : Nat) : Int); omega)]
  obtain ⟨d, rfl⟩ : ∃ d : Nat, x = (d : Int) := ⟨x.toNat, by omega⟩
  rw [show ((d : Int) + 1).toNat = d + 1 by omega, show ((d : Int)).toNat = d by omega, digit_piece d (by omega)]
  rfl
end Go.Proofs.YtkdjcbmmbjongaaGreat.D0

/- The contract of laws.markText, as the given laws call it. -/
namespace Go.Proofs.YtkdjcbmmbjongaaGreat.M1
open Go.ChangeShapes Go.WideShapes Go.ChangeAt Go.RowKit
set_option linter.unusedVariables false
set_option linter.unusedSimpArgs false

/-- The text of a mark. -/
def mt (k : Nat) : ByteArray := ⟨(109 :: D0.dd k).toArray⟩

theorem conv1 (x : Int) (hx : 0 ≤ x ∧ x < 256) (w : World) :
    (convert 83 9 (.slice (some ⟨w.heap.size, 0, none⟩) 1 1)).run Tryz.prog (w.alloc (.cells #[.int .u8 x] 5)) = .ok (.string ⟨#[UInt8.ofNat x.toNat]⟩) (w.alloc (.cells #[.int .u8 x] 5)) :=
  B0.conv_back _ 83 9 5 _ 0 1 [UInt8.ofNat x.toNat] Tryz.underlying83 Tryz.underlying5 Tryz.underlying9
    (B0.holds_new _ _ _ _ _ fun j hj => by
      obtain rfl : j = 0 := by simpa using hj
      have : x.toNat < 256 := by omega
      simp [Nat.mod_eq_of_lt this]
      omega) 1 rfl

theorem dig_of (u : Nat) : (⟨#[UInt8.ofNat (48 + (u : Int) % 10).toNat]⟩ : ByteArray) = D0.dig ((u : Int) % 10) := by
  rw [D0.dig, show (48 + (u : Int) % 10).toNat = 48 + ((u : Int) % 10).toNat by omega]

theorem ret_m (v : Nat) : Ending.returned (.string (⟨#[109]⟩ ++ ⟨(D0.dd v).toArray⟩)) = Ending.returned (.string (mt v)) := by
  congr 2

theorem markText_any (v : Nat) (hv : v ≠ 0) (hm : v ≤ 9223372036854775807) (w : World) :
    Calls Tryz.prog 39 #[.int .i64 (v : Int)] w fun e w' => e = .returned (.string (mt v)) ∧ Below w.heap.size w w' := by
  have hv2 : ¬ (v : Int) ≤ 0 := by omega
  have hlen := D0.dd_length v (by omega)
  go_enter Tryz.func39, Tryz.ntmps39
  go_wp2
  go_loopw [0, 3] (fun i t w' => ∃ (u : Nat) (out : List UInt8), u ≤ v ∧ D0.dd u ++ out = D0.dd v ∧ i = .int .i64 (u : Int) ∧ t = .string ⟨out.toArray⟩ ∧ Below w.heap.size w w') (fun i _ _ => (intOf i).toNat)
  case atStart => exact ⟨v, [], Nat.le_refl _, by simp, rfl, rfl, Below.refl _ _⟩
  case round =>
    obtain ⟨u, out, hu, he, rfl, rfl, hbel⟩ := hrel
    have hB := hbel.size
    by_cases h0 : u = 0
    · subst h0
      have he' : out = D0.dd v := by simpa [D0.dd] using he
      clear he
      subst he'
      have hs : (⟨#[109]⟩ : ByteArray).size + (⟨(D0.dd v).toArray⟩ : ByteArray).size ≤ 9223372036854775807 := by
        show 1 + (D0.dd v).toArray.size ≤ _
        simp
        omega
      go_wp2
      go_ret
      exact ⟨ret_m _, hbel⟩
    · have hs : (D0.dig ((u : Int) % 10)).size + (⟨out.toArray⟩ : ByteArray).size ≤ 9223372036854775807 := by
        have := congrArg List.length he
        simp at this
        rw [D0.dig_size]
        show 1 + out.toArray.size ≤ _
        simp
        omega
      have hu1 : 0 < (u : Int) := by omega
      have hcv := conv1 (48 + (u : Int) % 10) (by omega)
      rw [dig_of] at hcv
      have hHe : Hid (D0.dd u ++ out = D0.dd v) := he
      clear he
      go_wp2
      go_roundw
      case rel => exact ⟨u / 10, UInt8.ofNat (48 + u % 10) :: out, by omega, D0.round_eq u v out h0 hHe.out, by go_num, by rw [D0.dig_cons]; rfl, hbel.alloc hB _⟩
      case measure => simp [intOf]; omega
end Go.Proofs.YtkdjcbmmbjongaaGreat.M1

/- Contracts of laws.markEntryS and laws.heldEntryS, as the given laws call them; two rows of entries that were handed out. -/
namespace Go.Proofs.YtkdjcbmmbjongaaGreat.V4
open Go.ChangeShapes Go.WideShapes Go.ChangeAt Go.RowKit
set_option linter.unusedVariables false
set_option linter.unusedSimpArgs false
set_option maxRecDepth 10000

open M1 (mt)
open T5 (Mk)

/-- The marks of a row of entries. -/
def em (n : Nat) : List T0.Ent := (List.range n).map fun (j : Nat) => (((1 + 2 * j : Nat) : Int), mt (2 + 2 * j))

theorem em_length (n : Nat) : (em n).length = n := by simp [em]
theorem em_get (n j : Nat) (h : j < n) : T0.ent (em n) j = (((1 + 2 * j : Nat) : Int), mt (2 + 2 * j)) := by
  rw [T0.ent_get _ _ (by rw [em_length]; exact h)]
  simp [em]

theorem mText (x : Int) (v : Nat) (hx : x = (v : Int)) (hv : v ≠ 0) (hm : v ≤ 9223372036854775807) (w : World) :
    Calls Tryz.prog 39 #[.int .i64 x] w fun e w' => e = .returned (.string (mt v)) ∧ Below w.heap.size w w' := by
  subst hx
  exact M1.markText_any v hv hm w

variable {g n k : Nat} {es : List T0.Ent} {w W W' w4 : World}

theorem grown_below {w w1 w2 : World} {row : Option Nat} (h : w.grownBy w1 row) (hb : Below w1.heap.size w1 w2) : w.grownBy w2 row :=
  ⟨hb.os.trans h.os, hb.tape.trans h.tape, hb.output.trans h.output, Nat.le_trans h.size hb.size, fun k hk hr => by
    rw [hb.block k (Nat.lt_of_lt_of_le hk h.size)]
    exact h.block k hk hr⟩

theorem mk_grown {g2 : Nat} (h : Mk g n es k w) (hg : w.grownBy W' (some g2)) (hne : g ≠ g2) : Mk g n es k W' := by
  have hb : W'.heap[g]? = w.heap[g]? := hg.block g h.lt (fun e => hne (Option.some.inj e))
  have c : ∀ j, W'.cell? ⟨g, j, none⟩ = w.cell? ⟨g, j, none⟩ := fun j => World.cell?_of_block (a := ⟨g, j, none⟩) hb
  have f : ∀ j, W'.frozen? ⟨g, j, none⟩ = w.frozen? ⟨g, j, none⟩ := fun j => World.frozen?_of_block (a := ⟨g, j, none⟩) hb
  exact ⟨fun j hj => by rw [c, c]; exact h.done j hj, fun j hj => by rw [c]; exact h.there j hj, fun j hj => by rw [f]; exact h.free j hj, Nat.lt_of_lt_of_le h.lt hg.size⟩

theorem mid (h : Mk g n es k W) (hk : k < n) {u : Int} {v : ByteArray} (he : T0.ent es k = (u, v)) (b4 : Below (W.setCell ⟨g, k * 2, none⟩ (.int .i64 u)).heap.size (W.setCell ⟨g, k * 2, none⟩ (.int .i64 u)) w4) :
    (∃ x, w4.cell? ⟨g, k * 2 + 1, none⟩ = some x) ∧ w4.frozen? ⟨g, k * 2 + 1, none⟩ = false ∧ Hid (Mk g n es (k + 1) (w4.setCell ⟨g, k * 2 + 1, none⟩ (.string v))) := by
  have hl : g < (W.setCell ⟨g, k * 2, none⟩ (.int .i64 u)).heap.size := by
    have := h.lt
    simpa [World.setCell] using this
  have c : ∀ j, w4.cell? ⟨g, j, none⟩ = (W.setCell ⟨g, k * 2, none⟩ (.int .i64 u)).cell? ⟨g, j, none⟩ := fun j => b4.cell (p := ⟨g, j, none⟩) hl
  have f : ∀ j, w4.frozen? ⟨g, j, none⟩ = (W.setCell ⟨g, k * 2, none⟩ (.int .i64 u)).frozen? ⟨g, j, none⟩ := fun j => b4.frozen (p := ⟨g, j, none⟩) hl
  have S := h.step hk he
  obtain ⟨x, hx⟩ := Option.isSome_iff_exists.1 (T5.some_set (p := ⟨g, k * 2, none⟩) (v := .int .i64 u) (h.there (k * 2 + 1) (by omega)))
  have hx4 : w4.cell? ⟨g, k * 2 + 1, none⟩ = some x := (c _).trans hx
  have cc : ∀ j, (w4.setCell ⟨g, k * 2 + 1, none⟩ (.string v)).cell? ⟨g, j, none⟩ = ((W.setCell ⟨g, k * 2, none⟩ (.int .i64 u)).setCell ⟨g, k * 2 + 1, none⟩ (.string v)).cell? ⟨g, j, none⟩ := fun j => by
    by_cases e : (⟨g, k * 2 + 1, none⟩ : Addr) = ⟨g, j, none⟩
    · rw [← e, World.cell?_setCell_same _ _ _ hx4, World.cell?_setCell_same _ _ _ hx]
    · rw [World.cell?_setCell_other _ _ _ _ e, World.cell?_setCell_other _ _ _ _ e]
      exact c j
  refine ⟨⟨x, hx4⟩, ?_, ?_⟩
  · rw [f, World.frozen?_setCell]
    exact h.free _ (by omega)
  · refine ⟨fun j hj => ?_, fun j hj => ?_, fun j hj => ?_, ?_⟩
    · rw [cc, cc]
      exact S.done j hj
    · rw [cc]
      exact S.there j hj
    · rw [World.frozen?_setCell, f, World.frozen?_setCell]
      exact h.free j hj
    · have := Nat.lt_of_lt_of_le hl b4.size
      simpa [World.setCell] using this

set_option maxHeartbeats 1000000 in
theorem markEntryS (g c n : Nat) (w : World) (hn : n ≤ 1048576) (hb : Mk g n (em n) 0 w) :
    Calls Tryz.prog 15 #[.slice (some ⟨g, 0, none⟩) n c, .int .i64 1] w fun e w' => e = .returned (.int .i64 ((1 + 2 * n : Nat) : Int)) ∧ Mk g n (em n) n w' ∧ w.grownBy w' (some g) := by
  go_enter Tryz.func15, Tryz.ntmps15
  go_wp2
  go_loopw [1, 5] (fun q i w' => ∃ k : Nat, k ≤ n ∧ i = .int .i64 k ∧ q = .int .i64 ((1 + 2 * k : Nat) : Int) ∧ Mk g n (em n) k w' ∧ w.grownBy w' (some g)) (fun _ i _ => n - (intOf i).toNat)
  case atStart => exact ⟨0, Nat.zero_le _, rfl, rfl, hb, M0.grown_refl _ _⟩
  case round =>
    obtain ⟨k, hk, rfl, rfl, hmk, hgr⟩ := hrel
    by_cases hlt : k < n
    · have e1 : (0 : Int) ≤ (k : Int) := by omega
      have e2 : (k : Int) < (n : Int) := by omega
      obtain ⟨x1, q1⟩ := Option.isSome_iff_exists.1 (hmk.there (k * 2) (by omega))
      have q3 := hmk.free (k * 2) (by omega)
      have HM : Hid (Mk g n (em n) k wr) := hmk
      clear hmk hb
      go_wp2_with (go_at_call 39; refine (mText _ (2 + 2 * k) (by push_cast; omega) (by omega) (by omega) _).mono ?_; rintro e w4 ⟨rfl, b4⟩; obtain ⟨⟨x2, q2⟩, q4, HN⟩ := mid HM.out hlt (em_get n k hlt) b4)
      go_roundw
      case rel => exact ⟨k + 1, by omega, by go_num, by go_num, HN.out, M0.grown_set (grown_below (M0.grown_set hgr _) b4) _⟩
      case measure => simp [intOf]; omega
    · obtain rfl : k = n := by omega
      clear hb
      go_wp2
      go_ret
      exact ⟨rfl, hmk, hgr⟩

theorem markNone (a : Option Addr) (c : Nat) (w : World) :
    Calls Tryz.prog 15 #[.slice a 0 c, .int .i64 1] w fun e w' => e = .returned (.int .i64 1) ∧ w' = w := by
  go_enter Tryz.func15, Tryz.ntmps15
  go_wp2
  go_loop [1, 5] (fun q i => i = .int .i64 0 ∧ q = .int .i64 1) (fun _ _ => 0)
  case atStart => exact ⟨rfl, rfl⟩
  case round =>
    obtain ⟨rfl, rfl⟩ := hrel
    go_wp2
    go_ret
    exact ⟨rfl, rfl⟩

end Go.Proofs.YtkdjcbmmbjongaaGreat.V4

/- What the law over GetDir keeps of two rows of entries that were handed out. -/
namespace Go.Proofs.YtkdjcbmmbjongaaGreat.V5
open Go.ChangeShapes Go.WideShapes Go.ChangeAt Go.RowKit
set_option linter.unusedVariables false
set_option linter.unusedSimpArgs false
set_option maxRecDepth 10000

open T5 (Mk)
open V1 (OwnE)

/-- Two rows, apart; what the second holds now. -/
structure L (w : World) (aw ag : Option Addr) (E M : List T0.Ent) (W : World) : Prop where
  rows : E = [] ∨ ∃ g1 g2, aw = some ⟨g1, 0, none⟩ ∧ ag = some ⟨g2, 0, none⟩ ∧ w.heap.size ≤ g2 ∧ g1 ≠ g2 ∧ Mk g1 E.length E E.length W ∧ Mk g2 E.length M E.length W
  bel : Below w.heap.size w W

variable {w W W' : World} {aw ag : Option Addr} {E M : List T0.Ent} {cw cg : Nat}

theorem L.below (h : L w aw ag E M W) (hb : Below W.heap.size W W') : L w aw ag E M W' :=
  ⟨h.rows.imp id fun ⟨g1, g2, e1, e2, h1, h2, k1, k2⟩ => ⟨g1, g2, e1, e2, h1, h2, k1.below hb, k2.below hb⟩, h.bel.trans (hb.mono h.bel.size)⟩

theorem mk_row {g : Nat} (h : Mk g E.length E E.length W) : T0.Row W (some ⟨g, 0, none⟩) E := Or.inr ⟨g, 0, rfl, h.lt, fun j hj => by rw [Nat.zero_add]; exact h.done j hj⟩

theorem L.roww (h : L w aw ag E M W) : T0.Row W aw E := by
  rcases h.rows with h0 | ⟨g1, g2, e1, e2, _, _, k1, k2⟩
  · exact Or.inl h0
  · exact e1 ▸ mk_row k1
theorem L.rowg (h : L w aw ag E E W) : T0.Row W ag E := by
  rcases h.rows with h0 | ⟨g1, g2, e1, e2, _, _, k1, k2⟩
  · exact Or.inl h0
  · exact e2 ▸ mk_row k2

theorem l_new {w1 w2 : World} (b1 : Below w.heap.size w w1) (o1 : OwnE w.heap.size w1 aw E) (b2 : Below w1.heap.size w1 w2) (o2 : OwnE w1.heap.size w2 ag E) : L w aw ag E E w2 := by
  have hs1 := b1.size
  have hs2 := b2.size
  refine ⟨?_, b1.trans (b2.mono hs1)⟩
  rcases o1 with h0 | ⟨g1, e1, hg1, k1⟩
  · exact Or.inl h0
  · rcases o2 with h0 | ⟨g2, e2, hg2, k2⟩
    · exact Or.inl h0
    · have l1 := k1.lt
      exact Or.inr ⟨g1, g2, e1, e2, by omega, by omega, k1.below b2, k2⟩

theorem eq_L (hn : E.length ≤ 1048576) (h : L w aw ag E E W) :
    Calls Tryz.prog 13 #[.slice ag E.length cg, .slice aw E.length cw] W fun e w' => e = .returned (.bool true) ∧ L w aw ag E E w' :=
  (T5.eqEntryS ag aw cg cw E W hn h.rowg h.roww).mono fun _ _ ⟨he, hb⟩ => ⟨he, h.below hb⟩

theorem eq_M {ah : Option Addr} {ch : Nat} (hn : E.length ≤ 1048576) (h : L w aw ag E M W) (hr : T0.Row W ah E) :
    Calls Tryz.prog 13 #[.slice ah E.length ch, .slice aw E.length cw] W fun e w' => e = .returned (.bool true) ∧ L w aw ag E M w' :=
  (T5.eqEntryS ah aw ch cw E W hn hr h.roww).mono fun _ _ ⟨he, hb⟩ => ⟨he, h.below hb⟩

theorem start {g n : Nat} {es es' : List T0.Ent} {k : Nat} (h : Mk g n es k W) : Mk g n es' 0 W := ⟨fun j hj => absurd hj (Nat.not_lt_zero _), h.there, h.free, h.lt⟩

theorem mark_L (hn : E.length ≤ 1048576) (h : L w aw ag E E W) :
    Calls Tryz.prog 15 #[.slice ag E.length cg, .int .i64 1] W fun e w' => e = .returned (.int .i64 ((1 + 2 * E.length : Nat) : Int)) ∧ L w aw ag E (V4.em E.length) w' := by
  rcases h.rows with h0 | ⟨g1, g2, e1, e2, h1, h2, k1, k2⟩
  · subst h0
    exact (V4.markNone ag cg W).mono fun _ _ ⟨he, hb⟩ => ⟨he, Or.inl rfl, by rw [hb]; exact h.bel⟩
  · subst e2
    refine (V4.markEntryS g2 cg E.length W hn (start k2)).mono fun _ w' ⟨he, hk, hg⟩ => ⟨he, Or.inr ⟨g1, g2, e1, rfl, h1, h2, V4.mk_grown k1 hg h2, hk⟩, ?_⟩
    exact F0.below_grown h.bel hg (fun g' e => by obtain rfl := Option.some.inj e; exact h1) h.bel.size

theorem dE_len (s : ByteArray) (h : s.size ≤ 1048576) : (V0.dE s).length ≤ 1048576 := by
  unfold V0.dE
  split
  · rw [V0.ents_length]
    unfold V0.cnt
    omega
  · exact Nat.zero_le _
end Go.Proofs.YtkdjcbmmbjongaaGreat.V5
