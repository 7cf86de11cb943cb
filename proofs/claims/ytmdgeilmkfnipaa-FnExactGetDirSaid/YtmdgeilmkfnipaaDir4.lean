/- Entries among a law's arguments; contracts of laws.szEntryS, laws.toEntryS and laws.eqEntryS. -/
import Derived.Test.YtmdgeilmkfnipaaDir3
import Derived.Test.YtmdgeilmkfnipaaEnt3
import Derived.Deep.SlicePairs
import Derived.Deep.RegionHeld3
namespace Go.Proofs.Ytmdgeilmkfnipaa.T4
open Go.ChangeShapes Go.WideShapes Go.ChangeAt Go.RowKit Go.Joins Go.Deep
set_option linter.unusedVariables false
set_option linter.unusedSimpArgs false
set_option maxRecDepth 10000

def num : Value → Int
  | .int _ z => z
  | _ => 0
def txt : Value → ByteArray
  | .string s => s
  | _ => ⟨#[]⟩

/-- All names fit. -/
def FitsM (es : List T0.Ent) : Prop := ∀ j, j < es.length → (T0.ent es j).2.size ≤ maxLen

section Args
variable {H : Type} {enc : TypeId × Value → H} {w : World}

theorem open_entries {fuel : Nat} {v : Value} {x : DataW H × List MemPlace} (h : DataW.trod enc Try.prog w 0 (fun _ => true) true fuel 64 [v] = some x) :
    ∃ (a : Option Addr) (c : Nat) (es : List T0.Ent), v = .slice a es.length c ∧ es.length ≤ c ∧ c ≤ maxLen ∧ FitsM es ∧ T0.Row w a es := by
  rcases open_slice_pairs Try.underlying64 Try.underlying59 (by kernel_rfl) rfl rfl (by kernel_rfl) (by kernel_rfl) h with ⟨hcs, _⟩ | ⟨a, len, cap, m, n, V0, V1, D0, D1, Q0, Q1, hcs, _, hl, hm, hmm, _, hx⟩
  · simp at hcs
    exact ⟨none, 0, [], hcs, Nat.le_refl _, Nat.zero_le _, fun j hj => by simp at hj, Or.inl rfl⟩
  · simp at hcs hmm
    subst hmm
    have hlen : ((List.range len).map fun i => ((num (V0 i), txt (V1 i)) : T0.Ent)).length = len := by simp
    have hent : ∀ j, j < len → T0.ent ((List.range len).map fun i => ((num (V0 i), txt (V1 i)) : T0.Ent)) j = (num (V0 j), txt (V1 j)) := fun j hj => by
      rw [T0.ent_get _ _ (by rw [hlen]; exact hj)]
      simp
    have each : ∀ j, j < len → V0 j = .int .i64 (num (V0 j)) ∧ V1 j = .string (txt (V1 j)) ∧ (txt (V1 j)).size ≤ maxLen := fun j hj => by
      obtain ⟨_, _, h0, h1⟩ := hx j (by omega)
      obtain ⟨z, e0, _, _⟩ := DataW.trod_int Try.underlying3 h0
      obtain ⟨s, e1, _, hs⟩ := DataW.trod_string Try.underlying9 h1
      simp at e0 e1
      rw [e0, e1]
      exact ⟨rfl, rfl, hs⟩
    refine ⟨some a, m, (List.range len).map fun i => (num (V0 i), txt (V1 i)), by rw [hcs, hlen], by rw [hlen]; exact hl, hm, fun j hj => ?_, ?_⟩
    · rw [hlen] at hj
      rw [hent j hj]
      exact (each j hj).2.2
    · by_cases h0 : len = 0
      · left
        subst h0
        rfl
      · right
        obtain ⟨b, off, spot⟩ := a
        have hspot : spot = none := by simpa [Addr.add] using World.cell?_spot (hx 0 (by omega)).1
        subst hspot
        have hb : b < w.heap.size := by
          have hc0 := (hx 0 (by omega)).1
          unfold World.cell? at hc0
          cases hq : w.heap[b]? with
          | none => simp [Addr.add, hq] at hc0
          | some o => exact (Array.getElem?_eq_some_iff.1 hq).1
        refine ⟨b, off, rfl, hb, fun j hj => ?_⟩
        rw [hlen] at hj
        obtain ⟨hc0, hc1, _, _⟩ := hx j (by omega)
        rw [Go.WideShapes.add_plain] at hc0 hc1
        rw [hent j hj]
        refine ⟨?_, ?_⟩
        · rw [hc0]
          congr 1
          exact (each j hj).1
        · rw [← Nat.add_assoc] at hc1
          rw [hc1]
          congr 1
          exact (each j hj).2.1
end Args

/-- The names' sizes, all together. -/
def sum (es : List T0.Ent) : Nat → Nat
  | 0 => 0
  | k + 1 => sum es k + (T0.ent es k).2.size

theorem sum_mono (es : List T0.Ent) (k : Nat) : ∀ m, sum es k ≤ sum es (k + m)
  | 0 => Nat.le_refl _
  | m + 1 => Nat.le_trans (sum_mono es k m) (Nat.le_add_right _ _)

theorem sum_le {es : List T0.Ent} {k n : Nat} (h : k ≤ n) : sum es k ≤ sum es n := by
  have := sum_mono es k (n - k)
  rwa [show k + (n - k) = n by omega] at this

theorem fits_of {es : List T0.Ent} (h : es.length + sum es es.length ≤ 1048576) : T0.Fits es := fun j hj => by
  have h1 := sum_le (es := es) (k := j + 1) (n := es.length) (by omega)
  have h2 : sum es (j + 1) = sum es j + (T0.ent es j).2.size := rfl
  omega

/-- What is left of 2^20; -1 where nothing is. -/
def left (es : List T0.Ent) : Int := if es.length + sum es es.length ≤ 1048576 then 1048576 - (es.length : Int) - (sum es es.length : Int) else -1

theorem ret_int {k : IntKind} {a b : Int} (h : a = b) : Ending.returned (.int k a) = .returned (.int k b) := by rw [h]

set_option maxHeartbeats 1000000 in
theorem szEntryS (a : Option Addr) (c : Nat) (es : List T0.Ent) (w : World) (hn : es.length ≤ maxLen) (hfit : FitsM es) (hR : T0.Row w a es) :
    Calls Try.prog 54 #[.slice a es.length c, .int .i64 1048576] w fun e w' => e = .returned (.int .i64 (left es)) ∧ Below w.heap.size w w' := by
  unfold maxLen at hn
  by_cases h1 : 1048576 - (es.length : Int) < 0
  · have HR : Hid (left es = -1) := if_neg (by omega)
    go_enter Try.func54, Try.ntmps54
    go_wp2
    go_ret
    exact ⟨ret_int HR.out.symm, Below.refl _ _⟩
  · go_enter Try.func54, Try.ntmps54
    go_wp2
    go_loopw [1, 5] (fun l i w' => ∃ k : Nat, k ≤ es.length ∧ i = .int .i64 k ∧ l = .int .i64 (1048576 - (es.length : Int) - (sum es k : Int)) ∧ es.length + sum es k ≤ 1048576 ∧ Below w.heap.size w w') (fun _ i _ => es.length - (intOf i).toNat)
    case atStart => exact ⟨0, Nat.zero_le _, rfl, by simp [sum], by simp [sum]; omega, Below.refl _ _⟩
    case round =>
      obtain ⟨k, hk, rfl, rfl, hs, hbel⟩ := hrel
      have hB := hbel.size
      by_cases hlt : k < es.length
      · obtain ⟨b, off, rfl, hlt0, hc⟩ := (hR.below hbel).get hlt
        have y1 := (hc k hlt).1
        have y2 := (hc k hlt).2
        have hf := hfit k hlt
        have hsum : sum es (k + 1) = sum es k + (T0.ent es k).2.size := rfl
        obtain ⟨z, ez⟩ : ∃ z, T0.ent es k = z := ⟨_, rfl⟩
        rw [ez] at y1 y2 hf hsum
        obtain ⟨u, v⟩ := z
        simp only at y1 y2 hf hsum
        have e1 : (0 : Int) ≤ (k : Int) := by omega
        have e2 : (k : Int) < (es.length : Int) := by omega
        have hsz : Hid (∀ W, Calls Try.prog 51 #[.agg #[.int .i64 u, .string v], .int .i64 (1048576 - (es.length : Int) - (sum es k : Int))] W fun e w' => e = .returned (.int .i64 (E3.sz v (1048576 - (es.length : Int) - (sum es k : Int)))) ∧ Below W.heap.size W w') := fun W => E3.szEntry u v _ W hf (by omega) (by omega)
        clear ez hc hfit hR
        by_cases h2 : es.length + sum es (k + 1) ≤ 1048576
        · have hz : E3.sz v (1048576 - (es.length : Int) - (sum es k : Int)) = 1048576 - (es.length : Int) - (sum es (k + 1) : Int) := by rw [E3.sz, if_neg (by omega)]; omega
          rw [hz] at hsz
          have h3 : ¬ 1048576 - (es.length : Int) - (sum es (k + 1) : Int) < 0 := by omega
          clear hz hsum
          go_wp2_with (go_at_call 51; refine (hsz.out _).mono ?_; rintro e w1 ⟨rfl, b1⟩)
          go_roundw
          case rel => exact ⟨k + 1, by omega, by go_num, rfl, h2, hbel.trans (b1.mono hB)⟩
          case measure => simp [intOf]; omega
        · have hz : E3.sz v (1048576 - (es.length : Int) - (sum es k : Int)) = -1 := by rw [E3.sz, if_pos (by omega)]
          rw [hz] at hsz
          have hge := sum_le (es := es) (k := k + 1) (n := es.length) (by omega)
          have HR : Hid (left es = -1) := if_neg (by omega)
          clear hz hsum
          go_wp2_with (go_at_call 51; refine (hsz.out _).mono ?_; rintro e w1 ⟨rfl, b1⟩)
          go_ret
          exact ⟨ret_int HR.out.symm, hbel.trans (b1.mono hB)⟩
      · obtain rfl : k = es.length := by omega
        have HR : Hid (left es = 1048576 - (es.length : Int) - (sum es es.length : Int)) := if_pos hs
        clear hR hfit
        go_wp2
        go_ret
        exact ⟨ret_int HR.out.symm, hbel⟩
end Go.Proofs.Ytmdgeilmkfnipaa.T4
