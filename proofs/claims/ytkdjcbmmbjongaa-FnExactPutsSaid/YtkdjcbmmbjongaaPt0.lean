/- Puts among a law's arguments; contracts of laws.szPutS, laws.toPutS and laws.eqPutS. -/
import Derived.Test.YtkdjcbmmbjongaaDir5
namespace Go.Proofs.Ytkdjcbmmbjongaa.PP
open Go.ChangeShapes Go.WideShapes Go.ChangeAt Go.RowKit Go.Joins Go.Deep
open T4 (num txt FitsM sum sum_mono sum_le fits_of left ret_int)
open T5 (Mk)
open E3 (sz)
set_option linter.unusedVariables false
set_option linter.unusedSimpArgs false
set_option maxRecDepth 10000

theorem szPut (i : Int) (s : ByteArray) (l : Int) (w : World) (hs : s.size ≤ maxLen) (hl : 0 ≤ l) (hl2 : l ≤ 1048576) :
    Calls Try.prog 18 #[.agg #[.int .i64 i, .string s], .int .i64 l] w fun e w' => e = .returned (.int .i64 (sz s l)) ∧ Below w.heap.size w w' := by
  unfold maxLen at hs
  by_cases h : l - (s.size : Int) < 0
  · have e : sz s l = -1 := if_pos h
    rw [e]
    go_enter Try.func18, Try.ntmps18
    go_wp2
    go_ret
    exact ⟨rfl, (Below.refl _ _).alloc (Nat.le_refl _) _⟩
  · have e : sz s l = l - (s.size : Int) := if_neg h
    rw [e]
    go_enter Try.func18, Try.ntmps18
    go_wp2
    go_ret
    exact ⟨rfl, (Below.refl _ _).alloc (Nat.le_refl _) _⟩

theorem toPut (i : Int) (s : ByteArray) (w : World) :
    Calls Try.prog 20 #[.agg #[.int .i64 i, .string s]] w fun e w' => e = .returned (.agg #[.int .i64 i, .string s]) ∧ Below w.heap.size w w' := by
  go_enter Try.func20, Try.ntmps20
  go_wp2
  exact bodyPost_ret (v := .agg #[.int .i64 i, .string s]) (by simp [results, Try.results20, go_sem]) rfl ⟨rfl, (((Below.refl _ _).alloc (Nat.le_refl _) _).alloc (by simp) _).alloc (by simp; omega) _⟩

theorem eqPut (i : Int) (s : ByteArray) (w : World) :
    Calls Try.prog 23 #[.agg #[.int .i64 i, .string s], .agg #[.int .i64 i, .string s]] w fun e w' => e = .returned (.bool true) ∧ Below w.heap.size w w' := by
  go_enter Try.func23, Try.ntmps23
  go_wp2
  go_ret
  exact ⟨rfl, ((Below.refl _ _).alloc (Nat.le_refl _) _).alloc (by simp) _⟩

section Args
variable {H : Type} {enc : TypeId × Value → H} {w : World}

theorem open_puts {fuel : Nat} {v : Value} {x : DataW H × List MemPlace} (h : DataW.trod enc Try.prog w 0 (fun _ => true) true fuel 22 [v] = some x) :
    ∃ (a : Option Addr) (c : Nat) (es : List T0.Ent), v = .slice a es.length c ∧ es.length ≤ c ∧ c ≤ maxLen ∧ FitsM es ∧ T0.Row w a es := by
  rcases open_slice_pairs Try.underlying22 Try.underlying43 (by kernel_rfl) rfl rfl (by kernel_rfl) (by kernel_rfl) h with ⟨hcs, _⟩ | ⟨a, len, cap, m, n, V0, V1, D0, D1, Q0, Q1, hcs, _, hl, hm, hmm, _, hx⟩
  · simp at hcs
    exact ⟨none, 0, [], hcs, Nat.le_refl _, Nat.zero_le _, fun j hj => by simp at hj, Or.inl rfl⟩
  · simp at hcs hmm
    subst hmm
    have hlen : ((List.range len).map fun i => ((num (V0 i), txt (V1 i)) : T0.Ent)).length = len := by simp
    have hent : ∀ j, j < len → T0.ent ((List.range len).map fun i => ((num (V0 i), txt (V1 i)) : T0.Ent)) j = (num (V0 j), txt (V1 j)) := fun j hj => by
      rw [T0.ent_get _ _ (by rw [hlen]; exact hj)]
      simp
    have each : ∀ j, j < len → V0 j = .int .i64 (num (V0 j)) ∧ V1 j = .string (txt (V1 j)) ∧ (txt (V1 j)).size ≤ maxLen := fun j hj => by
      obtain ⟨_, _, h0, h1⟩ := hx j (by omega)
      obtain ⟨z, e0, _, _⟩ := DataW.trod_int Try.underlying3 h0
      obtain ⟨s, e1, _, hs⟩ := DataW.trod_string Try.underlying9 h1
      simp at e0 e1
      rw [e0, e1]
      exact ⟨rfl, rfl, hs⟩
    refine ⟨some a, m, (List.range len).map fun i => (num (V0 i), txt (V1 i)), by rw [hcs, hlen], by rw [hlen]; exact hl, hm, fun j hj => ?_, ?_⟩
    · rw [hlen] at hj
      rw [hent j hj]
      exact (each j hj).2.2
    · by_cases h0 : len = 0
      · left
        subst h0
        rfl
      · right
        obtain ⟨b, off, spot⟩ := a
        have hspot : spot = none := by simpa [Addr.add] using World.cell?_spot (hx 0 (by omega)).1
        subst hspot
        have hb : b < w.heap.size := by
          have hc0 := (hx 0 (by omega)).1
          unfold World.cell? at hc0
          cases hq : w.heap[b]? with
          | none => simp [Addr.add, hq] at hc0
          | some o => exact (Array.getElem?_eq_some_iff.1 hq).1
        refine ⟨b, off, rfl, hb, fun j hj => ?_⟩
        rw [hlen] at hj
        obtain ⟨hc0, hc1, _, _⟩ := hx j (by omega)
        rw [Go.WideShapes.add_plain] at hc0 hc1
        rw [hent j hj]
        refine ⟨?_, ?_⟩
        · rw [hc0]
          congr 1
          exact (each j hj).1
        · rw [← Nat.add_assoc] at hc1
          rw [hc1]
          congr 1
          exact (each j hj).2.1
end Args

set_option maxHeartbeats 1000000 in
theorem szPutS (a : Option Addr) (c : Nat) (es : List T0.Ent) (w : World) (hn : es.length ≤ maxLen) (hfit : FitsM es) (hR : T0.Row w a es) :
    Calls Try.prog 5 #[.slice a es.length c, .int .i64 1048576] w fun e w' => e = .returned (.int .i64 (left es)) ∧ Below w.heap.size w w' := by
  unfold maxLen at hn
  by_cases h1 : 1048576 - (es.length : Int) < 0
  · have HR : Hid (left es = -1) := if_neg (by omega)
    go_enter Try.func5, Try.ntmps5
    go_wp2
    go_ret
    exact ⟨ret_int HR.out.symm, Below.refl _ _⟩
  · go_enter Try.func5, Try.ntmps5
    go_wp2
    go_loopw [1, 5] (fun l i w' => ∃ k : Nat, k ≤ es.length ∧ i = .int .i64 k ∧ l = .int .i64 (1048576 - (es.length : Int) - (sum es k : Int)) ∧ es.length + sum es k ≤ 1048576 ∧ Below w.heap.size w w') (fun _ i _ => es.length - (intOf i).toNat)
    case atStart => exact ⟨0, Nat.zero_le _, rfl, by simp [sum], by simp [sum]; omega, Below.refl _ _⟩
    case round =>
      obtain ⟨k, hk, rfl, rfl, hs, hbel⟩ := hrel
      have hB := hbel.size
      by_cases hlt : k < es.length
      · obtain ⟨b, off, rfl, hlt0, hc⟩ := (hR.below hbel).get hlt
        have y1 := (hc k hlt).1
        have y2 := (hc k hlt).2
        have hf := hfit k hlt
        have hsum : sum es (k + 1) = sum es k + (T0.ent es k).2.size := rfl
        obtain ⟨z, ez⟩ : ∃ z, T0.ent es k = z := ⟨_, rfl⟩
        rw [ez] at y1 y2 hf hsum
        obtain ⟨u, v⟩ := z
        simp only at y1 y2 hf hsum
        have e1 : (0 : Int) ≤ (k : Int) := by omega
        have e2 : (k : Int) < (es.length : Int) := by omega
        have hsz : Hid (∀ W, Calls Try.prog 18 #[.agg #[.int .i64 u, .string v], .int .i64 (1048576 - (es.length : Int) - (sum es k : Int))] W fun e w' => e = .returned (.int .i64 (sz v (1048576 - (es.length : Int) - (sum es k : Int)))) ∧ Below W.heap.size W w') := fun W => szPut u v _ W hf (by omega) (by omega)
        clear ez hc hfit hR
        by_cases h2 : es.length + sum es (k + 1) ≤ 1048576
        · have hz : sz v (1048576 - (es.length : Int) - (sum es k : Int)) = 1048576 - (es.length : Int) - (sum es (k + 1) : Int) := by rw [sz, if_neg (by omega)]; omega
          rw [hz] at hsz
          have h3 : ¬ 1048576 - (es.length : Int) - (sum es (k + 1) : Int) < 0 := by omega
          clear hz hsum
          go_wp2_with (go_at_call 18; refine (hsz.out _).mono ?_; rintro e w1 ⟨rfl, b1⟩)
          go_roundw
          case rel => exact ⟨k + 1, by omega, by go_num, rfl, h2, hbel.trans (b1.mono hB)⟩
          case measure => simp [intOf]; omega
        · have hz : sz v (1048576 - (es.length : Int) - (sum es k : Int)) = -1 := by rw [sz, if_pos (by omega)]
          rw [hz] at hsz
          have hge := sum_le (es := es) (k := k + 1) (n := es.length) (by omega)
          have HR : Hid (left es = -1) := if_neg (by omega)
          clear hz hsum
          go_wp2_with (go_at_call 18; refine (hsz.out _).mono ?_; rintro e w1 ⟨rfl, b1⟩)
          go_ret
          exact ⟨ret_int HR.out.symm, hbel.trans (b1.mono hB)⟩
      · obtain rfl : k = es.length := by omega
        have HR : Hid (left es = 1048576 - (es.length : Int) - (sum es es.length : Int)) := if_pos hs
        clear hR hfit
        go_wp2
        go_ret
        exact ⟨ret_int HR.out.symm, hbel⟩

theorem info33 : (Try.prog.info? 45).map (fun i => (i.zero, i.size, i.bytes)) = some (some (.agg #[.int .i64 0, .string ⟨#[]⟩]), 2, 24) := by kernel_rfl

theorem make_ents (n : Nat) (hn : n ≤ 1048576) : ∃ C : Array Value, C.size = n * 2 ∧ ∀ W : World, (Instr.makeSlice 25 (.int .i64 (n : Int)) (.int .i64 (n : Int))).run Try.prog W = .ok (.slice (some ⟨W.heap.size, 0, none⟩) n n) (W.alloc (.cells C 45)) := by
  obtain ⟨i0, hi, hz0, hz1, hz2⟩ := info_parts info33
  refine ⟨madeCells (Value.agg #[.int .i64 0, .string ⟨#[]⟩]).cells (n * i0.size), by rw [size_madeCells, hz1], fun W => ?_⟩
  have h := run_make (P := Try.prog) W 25 45 i0 (.agg #[.int .i64 0, .string ⟨#[]⟩]) Try.underlying25 hi hz0 .i64 .i64 (n : Int) (n : Int) (by omega) (by omega) (by rw [hz2]; omega) (by omega)
  rw [show ((n : Int)).toNat = n by omega] at h
  exact h

variable {g n k : Nat} {es : List T0.Ent} {w W W' : World}

theorem mk_new (w : World) (C : Array Value) (hC : C.size = n * 2) : Mk w.heap.size n es 0 (w.alloc (.cells C 45)) := by
  refine ⟨fun j hj => absurd hj (Nat.not_lt_zero _), fun j hj => ?_, fun j hj => ?_, ?_⟩
  · rw [World.cell?_alloc_mark]
    have : j < C.size := by omega
    simp [this]
  · have h := World.frozen?_alloc_mark w C 45 0 0 j
    rw [h]
    simp
  · simp

set_option maxHeartbeats 1000000 in
theorem toPutS (a : Option Addr) (c : Nat) (es : List T0.Ent) (w : World) (hn : es.length ≤ 1048576) (hR : T0.Row w a es) :
    Calls Try.prog 7 #[.slice a es.length c] w fun e w' => ∃ g, e = .returned (.slice (some ⟨g, 0, none⟩) es.length es.length) ∧ T0.Row w' (some ⟨g, 0, none⟩) es ∧ Below w.heap.size w w' := by
  obtain ⟨C, hC, hmk⟩ := make_ents es.length hn
  have hmk0 := hmk w
  have m0 := mk_new (es := es) w C hC
  have l0 := K0.below_new w (.cells C 45)
  obtain ⟨W0, hW0⟩ : ∃ W0, w.alloc (.cells C 45) = W0 := ⟨_, rfl⟩
  rw [hW0] at m0 l0 hmk0
  clear hmk hW0
  go_enter Try.func7, Try.ntmps7
  go_wp2
  go_loopw [4] (fun i w' => ∃ k : Nat, k ≤ es.length ∧ i = .int .i64 k ∧ Mk w.heap.size es.length es k w' ∧ Below w.heap.size w w') (fun i _ => es.length - (intOf i).toNat)
  case atStart => exact ⟨0, Nat.zero_le _, rfl, m0, l0⟩
  case round =>
    obtain ⟨k, hk, rfl, hmk, hbel⟩ := hrel
    clear m0 l0 hmk0
    by_cases hlt : k < es.length
    · obtain ⟨b, off, rfl, hlt0, hc⟩ := (hR.below hbel).get hlt
      have y1 := (hc k hlt).1
      have y2 := (hc k hlt).2
      obtain ⟨z, ez⟩ : ∃ z, T0.ent es k = z := ⟨_, rfl⟩
      rw [ez] at y1 y2
      obtain ⟨u, v⟩ := z
      simp only at y1 y2
      have HE : Hid (T0.ent es k = (u, v)) := ez
      have e1 : (0 : Int) ≤ (k : Int) := by omega
      have e2 : (k : Int) < (es.length : Int) := by omega
      have hB := hbel.size
      clear ez hc hR
      go_wp2_with (go_at_call 20; refine (toPut u v _).mono ?_; rintro e w1 ⟨rfl, b1⟩; have m1 := hmk.below b1; obtain ⟨x1, q1⟩ := Option.isSome_iff_exists.1 (m1.there (k * 2) (by omega)); obtain ⟨x2, q2⟩ := Option.isSome_iff_exists.1 (m1.there (k * 2 + 1) (by omega)); have q3 := m1.free (k * 2) (by omega); have q4 := m1.free (k * 2 + 1) (by omega))
      go_roundw
      case rel => exact ⟨k + 1, by omega, by go_num, m1.step hlt HE.out, ((hbel.trans (b1.mono hB)).setCell (p := ⟨w.heap.size, k * 2, none⟩) (Nat.le_refl _) _).setCell (p := ⟨w.heap.size, k * 2 + 1, none⟩) (Nat.le_refl _) _⟩
      case measure => simp [intOf]; omega
    · obtain rfl : k = es.length := by omega
      have hrow : T0.Row wr (some ⟨w.heap.size, 0, none⟩) es := Or.inr ⟨w.heap.size, 0, rfl, hmk.lt, fun j hj => by
        have := hmk.done j hj
        rw [Nat.zero_add]
        exact this⟩
      clear hR hmk
      go_wp2
      go_ret
      exact ⟨_, rfl, hrow, hbel⟩

set_option maxHeartbeats 2000000 in
theorem eqPutS (a1 a2 : Option Addr) (c1 c2 : Nat) (es : List T0.Ent) (w : World) (hn : es.length ≤ 1048576) (h1 : T0.Row w a1 es) (h2 : T0.Row w a2 es) :
    Calls Try.prog 9 #[.slice a1 es.length c1, .slice a2 es.length c2] w fun e w' => e = .returned (.bool true) ∧ Below w.heap.size w w' := by
  go_enter Try.func9, Try.ntmps9
  go_wp2
  go_loopw [5] (fun i w' => ∃ k : Nat, k ≤ es.length ∧ i = .int .i64 k ∧ Below w.heap.size w w') (fun i _ => es.length - (intOf i).toNat)
  case atStart => exact ⟨0, Nat.zero_le _, rfl, Below.refl _ _⟩
  case round =>
    obtain ⟨k, hk, rfl, hbel⟩ := hrel
    by_cases hlt : k < es.length
    · obtain ⟨b1, o1, rfl, l1, r1⟩ := (h1.below hbel).get hlt
      obtain ⟨b2, o2, rfl, l2, r2⟩ := (h2.below hbel).get hlt
      have y1 := (r1 k hlt).1
      have y2 := (r1 k hlt).2
      have y3 := (r2 k hlt).1
      have y4 := (r2 k hlt).2
      obtain ⟨z, ez⟩ : ∃ z, T0.ent es k = z := ⟨_, rfl⟩
      rw [ez] at y1 y2 y3 y4
      obtain ⟨u, v⟩ := z
      simp only at y1 y2 y3 y4
      have e1 : (0 : Int) ≤ (k : Int) := by omega
      have e2 : (k : Int) < (es.length : Int) := by omega
      have hB := hbel.size
      have hS0 : wr.drew.cell? ⟨b1, o1 + k * 2, none⟩ = some (.int .i64 u) ∧ wr.drew.cell? ⟨b1, o1 + k * 2 + 1, none⟩ = some (.string v) ∧ wr.drew.cell? ⟨b2, o2 + k * 2, none⟩ = some (.int .i64 u) ∧ wr.drew.cell? ⟨b2, o2 + k * 2 + 1, none⟩ = some (.string v) := ⟨y1, y2, y3, y4⟩
      clear ez r1 r2 h1 h2
      go_wp2
      go_region_held3 (fun W => W.cell? ⟨b1, o1 + k * 2, none⟩ = some (.int .i64 u) ∧ W.cell? ⟨b1, o1 + k * 2 + 1, none⟩ = some (.string v) ∧ W.cell? ⟨b2, o2 + k * 2, none⟩ = some (.int .i64 u) ∧ W.cell? ⟨b2, o2 + k * 2 + 1, none⟩ = some (.string v)) (assumption) ((go_at_call 23; refine (eqPut u v _).mono ?_; rintro e w4 ⟨rfl, b4⟩; have hS4 : w4.cell? ⟨b1, o1 + k * 2, none⟩ = some (.int .i64 u) ∧ w4.cell? ⟨b1, o1 + k * 2 + 1, none⟩ = some (.string v) ∧ w4.cell? ⟨b2, o2 + k * 2, none⟩ = some (.int .i64 u) ∧ w4.cell? ⟨b2, o2 + k * 2 + 1, none⟩ = some (.string v) := ⟨(b4.cell (p := ⟨b1, o1 + k * 2, none⟩) l1).trans y1, (b4.cell (p := ⟨b1, o1 + k * 2 + 1, none⟩) l1).trans y2, (b4.cell (p := ⟨b2, o2 + k * 2, none⟩) l2).trans y3, (b4.cell (p := ⟨b2, o2 + k * 2 + 1, none⟩) l2).trans y4⟩))
      all_goals
        go_wp2
        go_roundw
        case rel => exact ⟨k + 1, by omega, by go_num, hbel.trans ((show Below wr.heap.size wr w4 from ⟨b4.os, b4.tape, b4.output, b4.size, b4.block⟩).mono hB)⟩
        case measure => simp [intOf]; omega
    · clear h1 h2
      go_wp2
      go_ret
      exact ⟨rfl, hbel⟩
end Go.Proofs.Ytkdjcbmmbjongaa.PP
