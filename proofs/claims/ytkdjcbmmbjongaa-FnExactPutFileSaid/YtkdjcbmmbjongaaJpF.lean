/- Joined texts: plain facts and contracts, as each part says. -/
import Derived.Test.YtkdjcbmmbjongaaJpE
import Derived.Test.YtkdjcbmmbjongaaJpC
import Derived.Test.YtkdjcbmmbjongaaJpB
import Derived.Test.YtkdjcbmmbjongaaJpD
import Derived.Lib.ItoaNum
import Derived.Lib.ItoaLen
import Derived.Lib.ItoaMem
import Derived.Lib.Strings
import Derived.WalkKit
import Derived.Test.YtkdjcbmmbjongaaRows
import Derived.Test.YtkdjcbmmbjongaaJpA
import Derived.ProofKit
import Derived.Handy
import Derived.Deep.RegionWith

/- Puts among a law's arguments; contracts of laws.szPutS, laws.toPutS and laws.eqPutS. -/
namespace Go.Proofs.Ytkdjcbmmbjongaa.PP
open Go.ChangeShapes Go.WideShapes Go.ChangeAt Go.RowKit Go.Joins Go.Deep
open T4 (num txt FitsM sum sum_mono sum_le fits_of left ret_int)
open T5 (Mk)
open E3 (sz)
set_option linter.unusedVariables false
set_option linter.unusedSimpArgs false
set_option maxRecDepth 10000

theorem szPut (i : Int) (s : ByteArray) (l : Int) (w : World) (hs : s.size ≤ maxLen) (hl : 0 ≤ l) (hl2 : l ≤ 1048576) :
    Calls Try.prog 18 #[.agg #[.int .i64 i, .string s], .int .i64 l] w fun e w' => e = .returned (.int .i64 (sz s l)) ∧ Below w.heap.size w w' := by
  unfold maxLen at hs
  by_cases h : l - (s.size : Int) < 0
  · have e : sz s l = -1 := if_pos h
    rw [e]
    go_enter Try.func18, Try.ntmps18
    go_wp2
    go_ret
    exact ⟨rfl, (Below.refl _ _).alloc (Nat.le_refl _) _⟩
  · have e : sz s l = l - (s.size : Int) := if_neg h
    rw [e]
    go_enter Try.func18, Try.ntmps18
    go_wp2
    go_ret
    exact ⟨rfl, (Below.refl _ _).alloc (Nat.le_refl _) _⟩

theorem toPut (i : Int) (s : ByteArray) (w : World) :
    Calls Try.prog 20 #[.agg #[.int .i64 i, .string s]] w fun e w' => e = .returned (.agg #[.int .i64 i, .string s]) ∧ Below w.heap.size w w' := by
  go_enter Try.func20, Try.ntmps20
  go_wp2
  exact bodyPost_ret (v := .agg #[.int .i64 i, .string s]) (by simp [results, Try.results20, go_sem]) rfl ⟨rfl, (((Below.refl _ _).alloc (Nat.le_refl _) _).alloc (by simp) _).alloc (by simp; omega) _⟩

theorem eqPut (i : Int) (s : ByteArray) (w : World) :
    Calls Try.prog 23 #[.agg #[.int .i64 i, .string s], .agg #[.int .i64 i, .string s]] w fun e w' => e = .returned (.bool true) ∧ Below w.heap.size w w' := by
  go_enter Try.func23, Try.ntmps23
  go_wp2
  go_ret
  exact ⟨rfl, ((Below.refl _ _).alloc (Nat.le_refl _) _).alloc (by simp) _⟩

section Args
variable {H : Type} {enc : TypeId × Value → H} {w : World}

theorem open_puts {fuel : Nat} {v : Value} {x : DataW H × List MemPlace} (h : DataW.trod enc Try.prog w 0 (fun _ => true) true fuel 22 [v] = some x) :
    ∃ (a : Option Addr) (c : Nat) (es : List T0.Ent), v = .slice a es.length c ∧ es.length ≤ c ∧ c ≤ maxLen ∧ FitsM es ∧ T0.Row w a es := by
  rcases open_slice_pairs Try.underlying22 Try.underlying43 (by kernel_rfl) rfl rfl (by kernel_rfl) (by kernel_rfl) h with ⟨hcs, _⟩ | ⟨a, len, cap, m, n, V0, V1, D0, D1, Q0, Q1, hcs, _, hl, hm, hmm, _, hx⟩
  · simp at hcs
    exact ⟨none, 0, [], hcs, Nat.le_refl _, Nat.zero_le _, fun j hj => by simp at hj, Or.inl rfl⟩
  · simp at hcs hmm
    subst hmm
    have hlen : ((List.range len).map fun i => ((num (V0 i), txt (V1 i)) : T0.Ent)).length = len := by simp
    have hent : ∀ j, j < len → T0.ent ((List.range len).map fun i => ((num (V0 i), txt (V1 i)) : T0.Ent)) j = (num (V0 j), txt (V1 j)) := fun j hj => by
      rw [T0.ent_get _ _ (by rw [hlen]; exact hj)]
      simp
    have each : ∀ j, j < len → V0 j = .int .i64 (num (V0 j)) ∧ V1 j = .string (txt (V1 j)) ∧ (txt (V1 j)).size ≤ maxLen := fun j hj => by
      obtain ⟨_, _, h0, h1⟩ := hx j (by omega)
      obtain ⟨z, e0, _, _⟩ := DataW.trod_int Try.underlying3 h0
      obtain ⟨s, e1, _, hs⟩ := DataW.trod_string Try.underlying9 h1
      simp at e0 e1
      rw [e0, e1]
      exact ⟨rfl, rfl, hs⟩
    refine ⟨some a, m, (List.range len).map fun i => (num (V0 i), txt (V1 i)), by rw [hcs, hlen], by rw [hlen]; exact hl, hm, fun j hj => ?_, ?_⟩
    · rw [hlen] at hj
      rw [hent j hj]
      exact (each j hj).2.2
    · by_cases h0 : len = 0
      · left
        subst h0
        rfl
      · right
        obtain ⟨b, off, spot⟩ := a
        have hspot : spot = none := by simpa [Addr.add] using World.cell?_spot (hx 0 (by omega)).1
        subst hspot
        have hb : b < w.heap.size := by
          have hc0 := (hx 0 (by omega)).1
          unfold World.cell? at hc0
          cases hq : w.heap[b]? with
          | none => simp [Addr.add, hq] at hc0
          | some o => exact (Array.getElem?_eq_some_iff.1 hq).1
        refine ⟨b, off, rfl, hb, fun j hj => ?_⟩
        rw [hlen] at hj
        obtain ⟨hc0, hc1, _, _⟩ := hx j (by omega)
        rw [Go.WideShapes.add_plain] at hc0 hc1
        rw [hent j hj]
        refine ⟨?_, ?_⟩
        · rw [hc0]
          congr 1
          exact (each j hj).1
        · rw [← Nat.add_assoc] at hc1
          rw [hc1]
          congr 1
          exact (each j hj).2.1
end Args

set_option maxHeartbeats 1000000 in
theorem szPutS (a : Option Addr) (c : Nat) (es : List T0.Ent) (w : World) (hn : es.length ≤ maxLen) (hfit : FitsM es) (hR : T0.Row w a es) :
    Calls Try.prog 5 #[.slice a es.length c, .int .i64 1048576] w fun e w' => e = .returned (.int .i64 (left es)) ∧ Below w.heap.size w w' := by
  unfold maxLen at hn
  by_cases h1 : 1048576 - (es.length : Int) < 0
  · have HR : Hid (left es = -1) := if_neg (by omega)
    go_enter Try.func5, Try.ntmps5
    go_wp2
    go_ret
    exact ⟨ret_int HR.out.symm, Below.refl _ _⟩
  · go_enter Try.func5, Try.ntmps5
    go_wp2
    go_loopw [1, 5] (fun l i w' => ∃ k : Nat, k ≤ es.length ∧ i = .int .i64 k ∧ l = .int .i64 (1048576 - (es.length : Int) - (sum es k : Int)) ∧ es.length + sum es k ≤ 1048576 ∧ Below w.heap.size w w') (fun _ i _ => es.length - (intOf i).toNat)
    case atStart => exact ⟨0, Nat.zero_le _, rfl, by simp [sum], by simp [sum]; omega, Below.refl _ _⟩
    case round =>
      obtain ⟨k, hk, rfl, rfl, hs, hbel⟩ := hrel
      have hB := hbel.size
      by_cases hlt : k < es.length
      · obtain ⟨b, off, rfl, hlt0, hc⟩ := (hR.below hbel).get hlt
        have y1 := (hc k hlt).1
        have y2 := (hc k hlt).2
        have hf := hfit k hlt
        have hsum : sum es (k + 1) = sum es k + (T0.ent es k).2.size := rfl
        obtain ⟨z, ez⟩ : ∃ z, T0.ent es k = z := ⟨_, rfl⟩
        rw [ez] at y1 y2 hf hsum
        obtain ⟨u, v⟩ := z
        simp only at y1 y2 hf hsum
        have e1 : (0 : Int) ≤ (k : Int) := by omega
        have e2 : (k : Int) < (es.length : Int) := by omega
        have hsz : Hid (∀ W, Calls Try.prog 18 #[.agg #[.int .i64 u, .string v], .int .i64 (1048576 - (es.length : Int) - (sum es k : Int))] W fun e w' => e = .returned (.int .i64 (sz v (1048576 - (es.length : Int) - (sum es k : Int)))) ∧ Below W.heap.size W w') := fun W => szPut u v _ W hf (by omega) (by omega)
        clear ez hc hfit hR
        by_cases h2 : es.length + sum es (k + 1) ≤ 1048576
        · have hz : sz v (1048576 - (es.length : Int) - (sum es k : Int)) = 1048576 - (es.length : Int) - (sum es (k + 1) : Int) := by rw [sz, if_neg (by omega)]; omega
          rw [hz] at hsz
          have h3 : ¬ 1048576 - (es.length : Int) - (sum es (k + 1) : Int) < 0 := by omega
          clear hz hsum
          go_wp2_with (go_at_call 18; refine (hsz.out _).mono ?_; rintro e w1 ⟨rfl, b1⟩)
          go_roundw
          case rel => exact ⟨k + 1, by omega, by go_num, rfl, h2, hbel.trans (b1.mono hB)⟩
          case measure => simp [intOf]; omega
        · have hz : sz v (1048576 - (es.length : Int) - (sum es k : Int)) = -1 := by rw [sz, if_pos (by omega)]
          rw [hz] at hsz
          have hge := sum_le (es := es) (k := k + 1) (n := es.length) (by omega)
          have HR : Hid (left es = -1) := if_neg (by omega)
          clear hz hsum
          go_wp2_with (go_at_call 18; refine (hsz.out _).mono ?_; rintro e w1 ⟨rfl, b1⟩)
          go_ret
          exact ⟨ret_int HR.out.symm, hbel.trans (b1.mono hB)⟩
      · obtain rfl : k = es.length := by omega
        have HR : Hid (left es = 1048576 - (es.length : Int) - (sum es es.length : Int)) := if_pos hs
        clear hR hfit
        go_wp2
        go_ret
        exact ⟨ret_int HR.out.symm, hbel⟩

theorem info33 : (Try.prog.info? 45).map (fun i => (i.zero, i.size, i.bytes)) = some (some (.agg #[.int .i64 0, .string ⟨#[]⟩]), 2, 24) := by kernel_rfl

theorem make_ents (n : Nat) (hn : n ≤ 1048576) : ∃ C : Array Value, C.size = n * 2 ∧ ∀ W : World, (Instr.makeSlice 25 (.int .i64 (n : Int)) (.int .i64 (n : Int))).run Try.prog W = .ok (.slice (some ⟨W.heap.size, 0, none⟩) n n) (W.alloc (.cells C 45)) := by
  obtain ⟨i0, hi, hz0, hz1, hz2⟩ := info_parts info33
  refine ⟨madeCells (Value.agg #[.int .i64 0, .string ⟨#[]⟩]).cells (n * i0.size), by rw [size_madeCells, hz1], fun W => ?_⟩
  have h := run_make (P := Try.prog) W 25 45 i0 (.agg #[.int .i64 0, .string ⟨#[]⟩]) Try.underlying25 hi hz0 .i64 .i64 (n : Int) (n : Int) (by omega) (by omega) (by rw [hz2]; omega) (by omega)
  rw [show ((n : Int)).toNat = n by omega] at h
  exact h

variable {g n k : Nat} {es : List T0.Ent} {w W W' : World}

theorem mk_new (w : World) (C : Array Value) (hC : C.size = n * 2) : Mk w.heap.size n es 0 (w.alloc (.cells C 45)) := by
  refine ⟨fun j hj => absurd hj (Nat.not_lt_zero _), fun j hj => ?_, fun j hj => ?_, ?_⟩
  · rw [World.cell?_alloc_mark]
    have : j < C.size := by omega
    simp [this]
  · have h := World.frozen?_alloc_mark w C 45 0 0 j
    rw [h]
    simp
  · simp

set_option maxHeartbeats 1000000 in
theorem toPutS (a : Option Addr) (c : Nat) (es : List T0.Ent) (w : World) (hn : es.length ≤ 1048576) (hR : T0.Row w a es) :
    Calls Try.prog 7 #[.slice a es.length c] w fun e w' => ∃ g, e = .returned (.slice (some ⟨g, 0, none⟩) es.length es.length) ∧ T0.Row w' (some ⟨g, 0, none⟩) es ∧ Below w.heap.size w w' := by
  obtain ⟨C, hC, hmk⟩ := make_ents es.length hn
  have hmk0 := hmk w
  have m0 := mk_new (es := es) w C hC
  have l0 := K0.below_new w (.cells C 45)
  obtain ⟨W0, hW0⟩ : ∃ W0, w.alloc (.cells C 45) = W0 := ⟨_, rfl⟩
  rw [hW0] at m0 l0 hmk0
  clear hmk hW0
  go_enter Try.func7, Try.ntmps7
  go_wp2
  go_loopw [4] (fun i w' => ∃ k : Nat, k ≤ es.length ∧ i = .int .i64 k ∧ Mk w.heap.size es.length es k w' ∧ Below w.heap.size w w') (fun i _ => es.length - (intOf i).toNat)
  case atStart => exact ⟨0, Nat.zero_le _, rfl, m0, l0⟩
  case round =>
    obtain ⟨k, hk, rfl, hmk, hbel⟩ := hrel
    clear m0 l0 hmk0
    by_cases hlt : k < es.length
    · obtain ⟨b, off, rfl, hlt0, hc⟩ := (hR.below hbel).get hlt
      have y1 := (hc k hlt).1
      have y2 := (hc k hlt).2
      obtain ⟨z, ez⟩ : ∃ z, T0.ent es k = z := ⟨_, rfl⟩
      rw [ez] at y1 y2
      obtain ⟨u, v⟩ := z
      simp only at y1 y2
      have HE : Hid (T0.ent es k = (u, v)) := ez
      have e1 : (0 : Int) ≤ (k : Int) := by omega
      have e2 : (k : Int) < (es.length : Int) := by omega
      have hB := hbel.size
      clear ez hc hR
      go_wp2_with (go_at_call 20; refine (toPut u v _).mono ?_; rintro e w1 ⟨rfl, b1⟩; have m1 := hmk.below b1; obtain ⟨x1, q1⟩ := Option.isSome_iff_exists.1 (m1.there (k * 2) (by omega)); obtain ⟨x2, q2⟩ := Option.isSome_iff_exists.1 (m1.there (k * 2 + 1) (by omega)); have q3 := m1.free (k * 2) (by omega); have q4 := m1.free (k * 2 + 1) (by omega))
      go_roundw
      case rel => exact ⟨k + 1, by omega, by go_num, m1.step hlt HE.out, ((hbel.trans (b1.mono hB)).setCell (p := ⟨w.heap.size, k * 2, none⟩) (Nat.le_refl _) _).setCell (p := ⟨w.heap.size, k * 2 + 1, none⟩) (Nat.le_refl _) _⟩
      case measure => simp [intOf]; omega
    · obtain rfl : k = es.length := by omega
      have hrow : T0.Row wr (some ⟨w.heap.size, 0, none⟩) es := Or.inr ⟨w.heap.size, 0, rfl, hmk.lt, fun j hj => by
        have := hmk.done j hj
        rw [Nat.zero_add]
        exact this⟩
      clear hR hmk
      go_wp2
      go_ret
      exact ⟨_, rfl, hrow, hbel⟩

set_option maxHeartbeats 2000000 in
theorem eqPutS (a1 a2 : Option Addr) (c1 c2 : Nat) (es : List T0.Ent) (w : World) (hn : es.length ≤ 1048576) (h1 : T0.Row w a1 es) (h2 : T0.Row w a2 es) :
    Calls Try.prog 9 #[.slice a1 es.length c1, .slice a2 es.length c2] w fun e w' => e = .returned (.bool true) ∧ Below w.heap.size w w' := by
  go_enter Try.func9, Try.ntmps9
  go_wp2
  go_loopw [5] (fun i w' => ∃ k : Nat, k ≤ es.length ∧ i = .int .i64 k ∧ Below w.heap.size w w') (fun i _ => es.length - (intOf i).toNat)
  case atStart => exact ⟨0, Nat.zero_le _, rfl, Below.refl _ _⟩
  case round =>
    obtain ⟨k, hk, rfl, hbel⟩ := hrel
    by_cases hlt : k < es.length
    · obtain ⟨b1, o1, rfl, l1, r1⟩ := (h1.below hbel).get hlt
      obtain ⟨b2, o2, rfl, l2, r2⟩ := (h2.below hbel).get hlt
      have y1 := (r1 k hlt).1
      have y2 := (r1 k hlt).2
      have y3 := (r2 k hlt).1
      have y4 := (r2 k hlt).2
      obtain ⟨z, ez⟩ : ∃ z, T0.ent es k = z := ⟨_, rfl⟩
      rw [ez] at y1 y2 y3 y4
      obtain ⟨u, v⟩ := z
      simp only at y1 y2 y3 y4
      have e1 : (0 : Int) ≤ (k : Int) := by omega
      have e2 : (k : Int) < (es.length : Int) := by omega
      have hB := hbel.size
      have hS0 : wr.drew.cell? ⟨b1, o1 + k * 2, none⟩ = some (.int .i64 u) ∧ wr.drew.cell? ⟨b1, o1 + k * 2 + 1, none⟩ = some (.string v) ∧ wr.drew.cell? ⟨b2, o2 + k * 2, none⟩ = some (.int .i64 u) ∧ wr.drew.cell? ⟨b2, o2 + k * 2 + 1, none⟩ = some (.string v) := ⟨y1, y2, y3, y4⟩
      clear ez r1 r2 h1 h2
      go_wp2
      go_region_held3 (fun W => W.cell? ⟨b1, o1 + k * 2, none⟩ = some (.int .i64 u) ∧ W.cell? ⟨b1, o1 + k * 2 + 1, none⟩ = some (.string v) ∧ W.cell? ⟨b2, o2 + k * 2, none⟩ = some (.int .i64 u) ∧ W.cell? ⟨b2, o2 + k * 2 + 1, none⟩ = some (.string v)) (assumption) ((go_at_call 23; refine (eqPut u v _).mono ?_; rintro e w4 ⟨rfl, b4⟩; have hS4 : w4.cell? ⟨b1, o1 + k * 2, none⟩ = some (.int .i64 u) ∧ w4.cell? ⟨b1, o1 + k * 2 + 1, none⟩ = some (.string v) ∧ w4.cell? ⟨b2, o2 + k * 2, none⟩ = some (.int .i64 u) ∧ w4.cell? ⟨b2, o2 + k * 2 + 1, none⟩ = some (.string v) := ⟨(b4.cell (p := ⟨b1, o1 + k * 2, none⟩) l1).trans y1, (b4.cell (p := ⟨b1, o1 + k * 2 + 1, none⟩) l1).trans y2, (b4.cell (p := ⟨b2, o2 + k * 2, none⟩) l2).trans y3, (b4.cell (p := ⟨b2, o2 + k * 2 + 1, none⟩) l2).trans y4⟩))
      all_goals
        go_wp2
        go_roundw
        case rel => exact ⟨k + 1, by omega, by go_num, hbel.trans ((show Below wr.heap.size wr w4 from ⟨b4.os, b4.tape, b4.output, b4.size, b4.block⟩).mono hB)⟩
        case measure => simp [intOf]; omega
    · clear h1 h2
      go_wp2
      go_ret
      exact ⟨rfl, hbel⟩
end Go.Proofs.Ytkdjcbmmbjongaa.PP

/- A row of entries that a call has made and appends to. -/
namespace Go.Proofs.Ytkdjcbmmbjongaa.V1
open Go.ChangeShapes Go.WideShapes Go.ChangeAt Go.RowKit
set_option linter.unusedVariables false
set_option linter.unusedSimpArgs false
set_option maxRecDepth 10000

/-- Entries as cells, two each. -/
def flat : List T0.Ent → List Value
  | [] => []
  | e :: r => .int .i64 e.1 :: .string e.2 :: flat r

theorem flat_length : ∀ es : List T0.Ent, (flat es).length = es.length * 2
  | [] => rfl
  | e :: r => by simp [flat, flat_length r]; omega

theorem flat_append : ∀ (es : List T0.Ent) (e : T0.Ent), flat es ++ [.int .i64 e.1, .string e.2] = flat (es ++ [e])
  | [], e => rfl
  | x :: r, e => by simp [flat, ← flat_append r e]

theorem flat_get : ∀ (es : List T0.Ent) (j : Nat), j < es.length → (flat es)[j * 2]? = some (.int .i64 (T0.ent es j).1) ∧ (flat es)[j * 2 + 1]? = some (.string (T0.ent es j).2)
  | [], j, h => by simp at h
  | e :: r, 0, _ => ⟨rfl, rfl⟩
  | e :: r, j + 1, h => by
    have := flat_get r j (by simpa using h)
    have e1 : (j + 1) * 2 = j * 2 + 1 + 1 := by omega
    have e2 : T0.ent (e :: r) (j + 1) = T0.ent r j := rfl
    rw [e1, e2]
    exact this

/-- A row of a call's own. -/
def EBuf (base : Nat) (w : World) (a : Option Addr) (n cap : Nat) (es : List T0.Ent) : Prop := n = es.length ∧ w.ownsRow base 98 2 (.slice a n cap) n (flat es)

variable {base n cap : Nat} {a : Option Addr} {w W : World} {es : List T0.Ent}

theorem EBuf.below (h : EBuf base w a n cap es) (hb : Below w.heap.size w W) : EBuf base W a n cap es := ⟨h.1, F0.owns_below h.2 hb⟩
theorem EBuf.alloc (h : EBuf base w a n cap es) (o : Obj) : EBuf base (w.alloc o) a n cap es := h.below ((Below.refl _ _).alloc (Nat.le_refl _) o)
theorem ebuf_made (w : World) (hb : base ≤ w.heap.size) : EBuf base (w.alloc (.cells #[] 98)) (some ⟨w.heap.size, 0, none⟩) 0 0 [] := ⟨rfl, World.ownsRow_made w #[] 0 hb (Nat.zero_le _) rfl⟩

theorem EBuf.fits (h : EBuf base w a n cap es) : n ≤ cap := by
  rcases h.2.2 with ⟨h0, h1⟩ | ⟨g, c, cur, hv, _, _, hle, _⟩
  · omega
  · simp at hv
    omega

/-- What a call hands out. -/
def OwnE (base : Nat) (W : World) (a : Option Addr) (es : List T0.Ent) : Prop := es = [] ∨ ∃ g, a = some ⟨g, 0, none⟩ ∧ base ≤ g ∧ T5.Mk g es.length es es.length W

theorem EBuf.own (h : EBuf base w a n cap es) : OwnE base w a es := by
  rcases h.2.2 with ⟨h0, h1⟩ | ⟨g, c, cur, hv, hg, hc, hle, _, hs, ht⟩
  · left
    exact List.eq_nil_of_length_eq_zero (by rw [← h.1]; exact h1)
  · right
    simp at hv
    have hcell : ∀ j, w.cell? ⟨g, j, none⟩ = cur[j]? := fun j => by
      unfold World.cell?
      rw [hc]
      simp
    have hn := h.1
    have hget : ∀ j, j < n * 2 → cur[j]? = (flat es)[j]? := fun j hj => by
      have e1 : (cur.toList.take (n * 2))[j]? = (flat es)[j]? := by rw [ht]
      rw [List.getElem?_take_of_lt hj] at e1
      rw [← Array.getElem?_toList, e1]
    refine ⟨g, hv.1, hg, ⟨fun j hj => ?_, fun j hj => ?_, fun j hj => ?_, (Array.getElem?_eq_some_iff.1 hc).1⟩⟩
    · have := flat_get es j hj
      rw [hcell, hcell, hget _ (by omega), hget _ (by omega)]
      exact this
    · rw [hcell]
      have : j < cur.size := by omega
      simp [this]
    · unfold World.frozen?
      rw [hc]
      simp

theorem OwnE.row (h : OwnE base W a es) : T0.Row W a es := by
  rcases h with h | ⟨g, rfl, _, hm⟩
  · exact Or.inl h
  · exact Or.inr ⟨g, 0, rfl, hm.lt, fun j hj => by rw [Nat.zero_add]; exact hm.done j hj⟩
theorem OwnE.below {W' : World} (h : OwnE base W a es) (hb : Below W.heap.size W W') : OwnE base W' a es := h.imp id fun ⟨g, e, hg, hk⟩ => ⟨g, e, hg, hk.below hb⟩
theorem OwnE.mono {base' : Nat} (h : OwnE base W a es) (hb : base' ≤ base) : OwnE base' W a es := h.imp id fun ⟨g, e, hg, hk⟩ => ⟨g, e, Nat.le_trans hb hg, hk⟩

theorem one_ent (u : Int) (v : ByteArray) : ∀ x ∈ [Value.int .i64 u, .string v], x.oneCell' = true := by
  intro x h
  simp at h
  rcases h with rfl | rfl <;> rfl

/-- 'list = append(list, e)'. -/
theorem append_ent {ops : Array Oper} {rest : List Oper} {o : Oper} {A : Act} {Q : Exit → Act → World → Prop} (hgd : o.guard = none) (sl x : Operand)
    (ho : o.op = .call { callee := .builtin .append, args := #[sl, x], argTypes := #[84, 84] })
    (hbuf : EBuf base w a n cap es) (u : Int) (v : ByteArray) (hs : A.eval sl = .slice a n cap) {H : Nat} (hH : w.heap.size = H) (hx : A.eval x = .slice (some ⟨H, 0, none⟩) 1 1) (hlen : n + 1 ≤ 1048576) (hb : base ≤ w.heap.size)
    (h : ∀ g' cap' w', EBuf base w' (some ⟨g', 0, none⟩) (n + 1) cap' (es ++ [(u, v)]) → Below base w w' → wpList Try.prog ops Q rest (A.put o.dst (.slice (some ⟨g', 0, none⟩) (n + 1) cap')) w') : wpList Try.prog ops Q (o :: rest) A (w.alloc (.cells #[.int .i64 u, .string v] 98)) := by
  subst hH
  obtain ⟨i0, hi, hz0, hz1, hz2⟩ := info_parts T5.info33
  have hb2 := hbuf.alloc (.cells #[.int .i64 u, .string v] 98)
  refine wpList_append_lies _ hgd sl x 84 ho base 98 i0 (.agg #[.int .i64 0, .string ⟨#[]⟩]) 2 24 Try.underlying84 hi hz0 hz1 hz2 rfl (by omega) _ n _ hs hb2.2 ⟨w.heap.size, 0, none⟩ 1 1 [.int .i64 u, .string v] hx rfl (World.news_of_block (heap_alloc_new w _)) (one_ent u v) (by omega) (by unfold maxLen; omega) (by omega) (by simp; omega) _ rfl ?_
  intro g' cap' w' ho' hg' _ _
  refine h g' cap' w' ⟨by rw [hbuf.1]; simp, ?_⟩ ?_
  · rw [← flat_append]
    exact ho'
  · exact F0.below_grown ((Below.refl _ _).alloc hb _) hg' (fun g hg => (hbuf.2.lt g hg).1) (by simp; omega)

/-- What GetDir answers. -/
def Ans (s : ByteArray) (w : World) (e : Ending) (w' : World) : Prop :=
  ∃ a c, e = .returned (.tuple #[.slice a (V0.dE s).length c, .bool (V0.isD s)]) ∧ OwnE w.heap.size w' a (V0.dE s) ∧ (V0.dE s).length ≤ c ∧ Below w.heap.size w w'

theorem ans_no {s : ByteArray} {w w' : World} {a : Option Addr} {c : Nat} (h : V0.isD s = false) (hb : Below w.heap.size w w') : Ans s w (.returned (.tuple #[.slice a 0 c, .bool false])) w' := by
  have hd : V0.dE s = [] := by rw [V0.dE, h]; rfl
  exact ⟨a, c, by rw [hd, h]; rfl, by rw [hd]; exact Or.inl rfl, by rw [hd]; exact Nat.zero_le _, hb⟩

theorem ans_yes {s : ByteArray} {w w' : World} {a : Option Addr} {c : Nat} (h : V0.isD s = true) (ho : OwnE w.heap.size w' a (V0.ents s (V0.cnt s))) (hc : V0.cnt s ≤ c) (hb : Below w.heap.size w w') : Ans s w (.returned (.tuple #[.slice a (V0.cnt s) c, .bool true])) w' := by
  have hd : V0.dE s = V0.ents s (V0.cnt s) := by rw [V0.dE, h]; rfl
  exact ⟨a, c, by rw [hd, h, V0.ents_length], by rw [hd]; exact ho, by rw [hd, V0.ents_length]; exact hc, hb⟩

theorem name_size (x : ByteArray) : (E4.eName x).size ≤ x.size := by
  unfold E4.eName
  split
  · exact B2.part_size _ _ _
  · exact Nat.zero_le _

theorem fits_ents (s : ByteArray) (k : Nat) (hs : s.size ≤ 281474976710656) : T0.Fits (V0.ents s k) := fun j hj => by
  rw [V0.ents_length] at hj
  rw [V0.ents_get s k j hj]
  have h1 := name_size (V0.chunk s j)
  have h2 := B2.part_size s ((j : Int) * 16) 16
  have h3 : (V0.chunk s j).size ≤ s.size := h2
  simp only
  omega
end Go.Proofs.Ytkdjcbmmbjongaa.V1

/- Contracts of laws.markIntS, laws.heldIntS, laws.markInode and laws.heldInode, as the given laws call them. -/
namespace Go.Proofs.Ytkdjcbmmbjongaa.M0
open Go.ChangeShapes Go.WideShapes Go.ChangeAt Go.RowKit
set_option linter.unusedVariables false
set_option linter.unusedSimpArgs false
set_option maxRecDepth 10000

open I0 (val vals)
open I2 (ints)

/-- The marks 1, 2, .. -/
def marks (n : Nat) : List Int := (List.range n).map fun (j : Nat) => ((1 + j : Nat) : Int)

theorem marks_length (n : Nat) : (marks n).length = n := by simp [marks]

/-- The row while it is being marked. -/
def part (vs : List Value) (k : Nat) : List Value := ints (marks k) ++ vs.drop k

theorem part_zero (vs : List Value) : part vs 0 = vs := by simp [part, marks]
theorem part_all (vs : List Value) : part vs vs.length = ints (marks vs.length) := by simp [part]
theorem part_length (vs : List Value) (k : Nat) (h : k ≤ vs.length) : (part vs k).length = vs.length := by simp [part, marks]; omega
theorem part_succ (vs : List Value) (k : Nat) (h : k < vs.length) : (part vs k).set k (.int .i64 ((1 + k : Nat) : Int)) = part vs (k + 1) := by
  unfold part
  have e : vs.drop k = vs[k] :: vs.drop (k + 1) := List.drop_eq_getElem_cons h
  have hl : (ints (marks k)).length = k := by simp [marks]
  rw [e, List.set_append_right _ _ (by omega), hl, Nat.sub_self, List.set_cons_zero]
  simp [marks, List.range_succ]

theorem marks_get (n k : Nat) (h : k < n) : (ints (marks n))[k]'(by simp [marks]; exact h) = .int .i64 ((1 + k : Nat) : Int) := by simp [marks]

theorem grown_refl (w : World) (row : Option Nat) : w.grownBy w row := ⟨rfl, rfl, rfl, Nat.le_refl _, fun _ _ _ => rfl⟩
theorem grown_set {w w1 : World} {g j : Nat} (h : w.grownBy w1 (some g)) (v : Value) : w.grownBy (w1.setCell ⟨g, j, none⟩ v) (some g) := by
  refine ⟨h.os, h.tape, h.output, ?_, fun k hk hr => ?_⟩
  · simpa using h.size
  · have hne : k ≠ g := fun e => hr (by rw [e])
    rw [← h.block k hk hr]
    exact Below.heap_setCell w1 ⟨g, j, none⟩ v k hne
theorem grown_alloc {w w' : World} {o : Obj} {row : Option Nat} (h : (w.alloc o).grownBy w' row) : w.grownBy w' row :=
  ⟨h.os, h.tape, h.output, Nat.le_trans (by simp) h.size, fun k hk hr => by
    rw [h.block k (by simp; omega) hr]
    exact ((Below.refl w.heap.size w).alloc (Nat.le_refl _) o).block k hk⟩

theorem blk_grown {B g : Nat} {vs : List Value} {w w' : World} (h : K0.Blk B vs w) (hg : w.grownBy w' (some g)) (hne : B ≠ g) : K0.Blk B vs w' := by
  have hb : w'.heap[B]? = w.heap[B]? := hg.block B h.lt (fun e => hne (Option.some.inj e))
  refine ⟨fun j hj => ?_, fun j hj => ?_, Nat.lt_of_lt_of_le h.lt hg.size⟩
  · rw [World.cell?_of_block (a := ⟨B, j, none⟩) hb]
    exact h.cell j hj
  · rw [World.frozen?_of_block (a := ⟨B, j, none⟩) hb]
    exact h.free j hj

theorem markIntS (g c : Nat) (vs : List Value) (w : World) (hn : vs.length ≤ 1048576) (hb : K0.Blk g vs w) :
    Calls Try.prog 33 #[.slice (some ⟨g, 0, none⟩) vs.length c, .int .i64 1] w fun e w' => e = .returned (.int .i64 ((1 + vs.length : Nat) : Int)) ∧ K0.Blk g (ints (marks vs.length)) w' ∧ w.grownBy w' (some g) := by
  go_enter Try.func33, Try.ntmps33
  go_wp2
  go_loopw [1, 5] (fun q i w' => ∃ k : Nat, k ≤ vs.length ∧ i = .int .i64 k ∧ q = .int .i64 ((1 + k : Nat) : Int) ∧ K0.Blk g (part vs k) w' ∧ w.grownBy w' (some g)) (fun _ i _ => vs.length - (intOf i).toNat)
  case atStart => exact ⟨0, Nat.zero_le _, rfl, rfl, by rw [part_zero]; exact hb, grown_refl _ _⟩
  case round =>
    obtain ⟨k, hk, rfl, rfl, hblk, hgr⟩ := hrel
    by_cases hlt : k < vs.length
    · have e1 : (0 : Int) ≤ (k : Int) := by omega
      have e2 : (k : Int) < (vs.length : Int) := by omega
      have x2 := hblk.cell k (by rw [part_length _ _ hk]; exact hlt)
      have x3 := hblk.free k (by rw [part_length _ _ hk]; exact hlt)
      obtain ⟨u, x4⟩ : ∃ u, wr.cell? ⟨g, k, none⟩ = some u := ⟨_, x2⟩
      have HB : Hid (K0.Blk g (part vs (k + 1)) (wr.setCell ⟨g, k, none⟩ (.int .i64 ((1 + k : Nat) : Int)))) := by rw [← part_succ vs k hlt]; exact hblk.set k _
      clear x2 hblk hb
      go_wp2
      go_roundw
      case rel => exact ⟨k + 1, by omega, by go_num, by go_num, HB.out, grown_set hgr _⟩
      case measure => simp [intOf]; omega
    · obtain rfl : k = vs.length := by omega
      rw [part_all] at hblk
      clear hb
      go_wp2
      go_ret
      exact ⟨rfl, hblk, hgr⟩

theorem markNone (a : Option Addr) (c : Nat) (w : World) :
    Calls Try.prog 33 #[.slice a 0 c, .int .i64 1] w fun e w' => e = .returned (.int .i64 1) ∧ w' = w := by
  go_enter Try.func33, Try.ntmps33
  go_wp2
  go_loop [1, 5] (fun q i => i = .int .i64 0 ∧ q = .int .i64 1) (fun _ _ => 0)
  case atStart => exact ⟨rfl, rfl⟩
  case round =>
    obtain ⟨rfl, rfl⟩ := hrel
    go_wp2
    go_ret
    exact ⟨rfl, rfl⟩

end Go.Proofs.Ytkdjcbmmbjongaa.M0

/- Plain facts on decimal numerals. -/
namespace Go.Proofs.Ytkdjcbmmbjongaa.D0
open Go

/-- The digits of a number, none for 0. -/
def dd (u : Nat) : List UInt8 := if u = 0 then [] else Lib.decDigits u

theorem dd_step (u : Nat) (h : u ≠ 0) : dd u = dd (u / 10) ++ [UInt8.ofNat (48 + u % 10)] := by
  unfold dd
  rw [if_neg h]
  by_cases h1 : u < 10
  · rw [Lib.decDigits_one h1, if_pos (by omega), Nat.mod_eq_of_lt h1]
    rfl
  · rw [Lib.decDigits, dif_neg h1, if_neg (by omega)]

theorem dd_length (u : Nat) (h : u ≤ 9223372036854775808) : (dd u).length ≤ 21 := by
  unfold dd
  split
  · simp
  · have := Lib.itoa_length_le (-(u : Int)) (by omega) (by omega)
    rw [Lib.itoa_neg u (by omega)] at this
    simp at this
    omega

/-- The ten digits as a text. -/
theorem digit_piece (d : Nat) (h : d < 10) : (⟨#[48, 49, 50, 51, 52, 53, 54, 55, 56, 57]⟩ : ByteArray).extract d (d + 1) = ⟨#[UInt8.ofNat (48 + d)]⟩ := by
  match d, h with
  | 0, _ => rfl
  | 1, _ => rfl
  | 2, _ => rfl
  | 3, _ => rfl
  | 4, _ => rfl
  | 5, _ => rfl
  | 6, _ => rfl
  | 7, _ => rfl
  | 8, _ => rfl
  | 9, _ => rfl

/-- A step of the loop that writes the digits from the last one on. -/
theorem round_eq (u v : Nat) (out : List UInt8) (h : u ≠ 0) (e : dd u ++ out = dd v) : dd (u / 10) ++ (UInt8.ofNat (48 + u % 10) :: out) = dd v := by
  rw [← e, dd_step u h]
  simp

/-- One digit as a text. -/
def dig (x : Int) : ByteArray := ⟨#[UInt8.ofNat (48 + x.toNat)]⟩

theorem dig_size (x : Int) : (dig x).size = 1 := rfl

theorem dig_cons (x : Int) (out : List UInt8) : dig x ++ ⟨out.toArray⟩ = ⟨(UInt8.ofNat (48 + x.toNat) :: out).toArray⟩ := by
  apply ByteArray.ext
  apply Array.toList_inj.1
  simp [dig]

theorem ret_minus (l : List UInt8) : Ending.returned (.string (⟨#[45]⟩ ++ ⟨l.toArray⟩)) = Ending.returned (.string ⟨(45 :: l).toArray⟩) := by
  congr 2

theorem itoa_pos (u : Nat) (h : u ≠ 0) : Lib.itoa (u : Int) = dd u := by rw [Lib.itoa_nonneg, dd, if_neg h]
theorem itoa_neg (u : Nat) (h : u ≠ 0) : Lib.itoa (-(u : Int)) = 45 :: dd u := by rw [Lib.itoa_neg u (by omega), dd, if_neg h]

/-- The piece of the ten digits at a digit's place. -/
theorem dig_slice {P : Program} (t : TypeId) (ht : P.underlying t = some .string) (x : Int) (h0 : 0 ≤ x) (h1 : x < 10) (W : World) :
    (Instr.slice t (.string ⟨#[48, 49, 50, 51, 52, 53, 54, 55, 56, 57]⟩) (some (.int .i64 x)) (some (.int .i64 (x + 1))) none).run P W = .ok (.string (dig x)) W := by
  rw [run_slice_string W t _ .i64 .i64 x (x + 1) ht h0 (by omega) (by show x + 1 ≤ ((10 : Nat) : Int); omega)]
  obtain ⟨d, rfl⟩ : ∃ d : Nat, x = (d : Int) := ⟨x.toNat, by omega⟩
  rw [show ((d : Int) + 1).toNat = d + 1 by omega, show ((d : Int)).toNat = d by omega, digit_piece d (by omega)]
  rfl
end Go.Proofs.Ytkdjcbmmbjongaa.D0

/- The contract of laws.markText, as the given laws call it. -/
namespace Go.Proofs.Ytkdjcbmmbjongaa.M1
open Go.ChangeShapes Go.WideShapes Go.ChangeAt Go.RowKit
set_option linter.unusedVariables false
set_option linter.unusedSimpArgs false

/-- The text of a mark. -/
def mt (k : Nat) : ByteArray := ⟨(109 :: D0.dd k).toArray⟩

theorem conv1 (x : Int) (hx : 0 ≤ x ∧ x < 256) (w : World) :
    (convert 61 9 (.slice (some ⟨w.heap.size, 0, none⟩) 1 1)).run Try.prog (w.alloc (.cells #[.int .u8 x] 5)) = .ok (.string ⟨#[UInt8.ofNat x.toNat]⟩) (w.alloc (.cells #[.int .u8 x] 5)) :=
  B0.conv_back _ 61 9 5 _ 0 1 [UInt8.ofNat x.toNat] Try.underlying61 Try.underlying5 Try.underlying9
    (B0.holds_new _ _ _ _ _ fun j hj => by
      obtain rfl : j = 0 := by simpa using hj
      have : x.toNat < 256 := by omega
      simp [Nat.mod_eq_of_lt this]
      omega) 1 rfl

theorem dig_of (u : Nat) : (⟨#[UInt8.ofNat (48 + (u : Int) % 10).toNat]⟩ : ByteArray) = D0.dig ((u : Int) % 10) := by
  rw [D0.dig, show (48 + (u : Int) % 10).toNat = 48 + ((u : Int) % 10).toNat by omega]

theorem ret_m (v : Nat) : Ending.returned (.string (⟨#[109]⟩ ++ ⟨(D0.dd v).toArray⟩)) = Ending.returned (.string (mt v)) := by
  congr 2

theorem markText_any (v : Nat) (hv : v ≠ 0) (hm : v ≤ 9223372036854775807) (w : World) :
    Calls Try.prog 34 #[.int .i64 (v : Int)] w fun e w' => e = .returned (.string (mt v)) ∧ Below w.heap.size w w' := by
  have hv2 : ¬ (v : Int) ≤ 0 := by omega
  have hlen := D0.dd_length v (by omega)
  go_enter Try.func34, Try.ntmps34
  go_wp2
  go_loopw [0, 3] (fun i t w' => ∃ (u : Nat) (out : List UInt8), u ≤ v ∧ D0.dd u ++ out = D0.dd v ∧ i = .int .i64 (u : Int) ∧ t = .string ⟨out.toArray⟩ ∧ Below w.heap.size w w') (fun i _ _ => (intOf i).toNat)
  case atStart => exact ⟨v, [], Nat.le_refl _, by simp, rfl, rfl, Below.refl _ _⟩
  case round =>
    obtain ⟨u, out, hu, he, rfl, rfl, hbel⟩ := hrel
    have hB := hbel.size
    by_cases h0 : u = 0
    · subst h0
      have he' : out = D0.dd v := by simpa [D0.dd] using he
      clear he
      subst he'
      have hs : (⟨#[109]⟩ : ByteArray).size + (⟨(D0.dd v).toArray⟩ : ByteArray).size ≤ 9223372036854775807 := by
        show 1 + (D0.dd v).toArray.size ≤ _
        simp
        omega
      go_wp2
      go_ret
      exact ⟨ret_m _, hbel⟩
    · have hs : (D0.dig ((u : Int) % 10)).size + (⟨out.toArray⟩ : ByteArray).size ≤ 9223372036854775807 := by
        have := congrArg List.length he
        simp at this
        rw [D0.dig_size]
        show 1 + out.toArray.size ≤ _
        simp
        omega
      have hu1 : 0 < (u : Int) := by omega
      have hcv := conv1 (48 + (u : Int) % 10) (by omega)
      rw [dig_of] at hcv
      have hHe : Hid (D0.dd u ++ out = D0.dd v) := he
      clear he
      go_wp2
      go_roundw
      case rel => exact ⟨u / 10, UInt8.ofNat (48 + u % 10) :: out, by omega, D0.round_eq u v out h0 hHe.out, by go_num, by rw [D0.dig_cons]; rfl, hbel.alloc hB _⟩
      case measure => simp [intOf]; omega
end Go.Proofs.Ytkdjcbmmbjongaa.M1

/- Contracts of laws.markEntryS and laws.heldEntryS, as the given laws call them; two rows of entries that were handed out. -/
namespace Go.Proofs.Ytkdjcbmmbjongaa.V4
open Go.ChangeShapes Go.WideShapes Go.ChangeAt Go.RowKit
set_option linter.unusedVariables false
set_option linter.unusedSimpArgs false
set_option maxRecDepth 10000

open M1 (mt)
open T5 (Mk)

/-- The marks of a row of entries. -/
def em (n : Nat) : List T0.Ent := (List.range n).map fun (j : Nat) => (((1 + 2 * j : Nat) : Int), mt (2 + 2 * j))

theorem em_length (n : Nat) : (em n).length = n := by simp [em]
theorem em_get (n j : Nat) (h : j < n) : T0.ent (em n) j = (((1 + 2 * j : Nat) : Int), mt (2 + 2 * j)) := by
  rw [T0.ent_get _ _ (by rw [em_length]; exact h)]
  simp [em]

theorem mText (x : Int) (v : Nat) (hx : x = (v : Int)) (hv : v ≠ 0) (hm : v ≤ 9223372036854775807) (w : World) :
    Calls Try.prog 34 #[.int .i64 x] w fun e w' => e = .returned (.string (mt v)) ∧ Below w.heap.size w w' := by
  subst hx
  exact M1.markText_any v hv hm w

variable {g n k : Nat} {es : List T0.Ent} {w W W' w4 : World}

theorem grown_below {w w1 w2 : World} {row : Option Nat} (h : w.grownBy w1 row) (hb : Below w1.heap.size w1 w2) : w.grownBy w2 row :=
  ⟨hb.os.trans h.os, hb.tape.trans h.tape, hb.output.trans h.output, Nat.le_trans h.size hb.size, fun k hk hr => by
    rw [hb.block k (Nat.lt_of_lt_of_le hk h.size)]
    exact h.block k hk hr⟩

theorem mk_grown {g2 : Nat} (h : Mk g n es k w) (hg : w.grownBy W' (some g2)) (hne : g ≠ g2) : Mk g n es k W' := by
  have hb : W'.heap[g]? = w.heap[g]? := hg.block g h.lt (fun e => hne (Option.some.inj e))
  have c : ∀ j, W'.cell? ⟨g, j, none⟩ = w.cell? ⟨g, j, none⟩ := fun j => World.cell?_of_block (a := ⟨g, j, none⟩) hb
  have f : ∀ j, W'.frozen? ⟨g, j, none⟩ = w.frozen? ⟨g, j, none⟩ := fun j => World.frozen?_of_block (a := ⟨g, j, none⟩) hb
  exact ⟨fun j hj => by rw [c, c]; exact h.done j hj, fun j hj => by rw [c]; exact h.there j hj, fun j hj => by rw [f]; exact h.free j hj, Nat.lt_of_lt_of_le h.lt hg.size⟩

theorem mid (h : Mk g n es k W) (hk : k < n) {u : Int} {v : ByteArray} (he : T0.ent es k = (u, v)) (b4 : Below (W.setCell ⟨g, k * 2, none⟩ (.int .i64 u)).heap.size (W.setCell ⟨g, k * 2, none⟩ (.int .i64 u)) w4) :
    (∃ x, w4.cell? ⟨g, k * 2 + 1, none⟩ = some x) ∧ w4.frozen? ⟨g, k * 2 + 1, none⟩ = false ∧ Hid (Mk g n es (k + 1) (w4.setCell ⟨g, k * 2 + 1, none⟩ (.string v))) := by
  have hl : g < (W.setCell ⟨g, k * 2, none⟩ (.int .i64 u)).heap.size := by
    have := h.lt
    simpa [World.setCell] using this
  have c : ∀ j, w4.cell? ⟨g, j, none⟩ = (W.setCell ⟨g, k * 2, none⟩ (.int .i64 u)).cell? ⟨g, j, none⟩ := fun j => b4.cell (p := ⟨g, j, none⟩) hl
  have f : ∀ j, w4.frozen? ⟨g, j, none⟩ = (W.setCell ⟨g, k * 2, none⟩ (.int .i64 u)).frozen? ⟨g, j, none⟩ := fun j => b4.frozen (p := ⟨g, j, none⟩) hl
  have S := h.step hk he
  obtain ⟨x, hx⟩ := Option.isSome_iff_exists.1 (T5.some_set (p := ⟨g, k * 2, none⟩) (v := .int .i64 u) (h.there (k * 2 + 1) (by omega)))
  have hx4 : w4.cell? ⟨g, k * 2 + 1, none⟩ = some x := (c _).trans hx
  have cc : ∀ j, (w4.setCell ⟨g, k * 2 + 1, none⟩ (.string v)).cell? ⟨g, j, none⟩ = ((W.setCell ⟨g, k * 2, none⟩ (.int .i64 u)).setCell ⟨g, k * 2 + 1, none⟩ (.string v)).cell? ⟨g, j, none⟩ := fun j => by
    by_cases e : (⟨g, k * 2 + 1, none⟩ : Addr) = ⟨g, j, none⟩
    · rw [← e, World.cell?_setCell_same _ _ _ hx4, World.cell?_setCell_same _ _ _ hx]
    · rw [World.cell?_setCell_other _ _ _ _ e, World.cell?_setCell_other _ _ _ _ e]
      exact c j
  refine ⟨⟨x, hx4⟩, ?_, ?_⟩
  · rw [f, World.frozen?_setCell]
    exact h.free _ (by omega)
  · refine ⟨fun j hj => ?_, fun j hj => ?_, fun j hj => ?_, ?_⟩
    · rw [cc, cc]
      exact S.done j hj
    · rw [cc]
      exact S.there j hj
    · rw [World.frozen?_setCell, f, World.frozen?_setCell]
      exact h.free j hj
    · have := Nat.lt_of_lt_of_le hl b4.size
      simpa [World.setCell] using this

end Go.Proofs.Ytkdjcbmmbjongaa.V4

/- What the law over GetDir keeps of two rows of entries that were handed out. -/
namespace Go.Proofs.Ytkdjcbmmbjongaa.V5
open Go.ChangeShapes Go.WideShapes Go.ChangeAt Go.RowKit
set_option linter.unusedVariables false
set_option linter.unusedSimpArgs false
set_option maxRecDepth 10000

open T5 (Mk)
open V1 (OwnE)

/-- Two rows, apart; what the second holds now. -/
structure L (w : World) (aw ag : Option Addr) (E M : List T0.Ent) (W : World) : Prop where
  rows : E = [] ∨ ∃ g1 g2, aw = some ⟨g1, 0, none⟩ ∧ ag = some ⟨g2, 0, none⟩ ∧ w.heap.size ≤ g2 ∧ g1 ≠ g2 ∧ Mk g1 E.length E E.length W ∧ Mk g2 E.length M E.length W
  bel : Below w.heap.size w W

variable {w W W' : World} {aw ag : Option Addr} {E M : List T0.Ent} {cw cg : Nat}

theorem L.below (h : L w aw ag E M W) (hb : Below W.heap.size W W') : L w aw ag E M W' :=
  ⟨h.rows.imp id fun ⟨g1, g2, e1, e2, h1, h2, k1, k2⟩ => ⟨g1, g2, e1, e2, h1, h2, k1.below hb, k2.below hb⟩, h.bel.trans (hb.mono h.bel.size)⟩

theorem mk_row {g : Nat} (h : Mk g E.length E E.length W) : T0.Row W (some ⟨g, 0, none⟩) E := Or.inr ⟨g, 0, rfl, h.lt, fun j hj => by rw [Nat.zero_add]; exact h.done j hj⟩

theorem L.roww (h : L w aw ag E M W) : T0.Row W aw E := by
  rcases h.rows with h0 | ⟨g1, g2, e1, e2, _, _, k1, k2⟩
  · exact Or.inl h0
  · exact e1 ▸ mk_row k1
theorem L.rowg (h : L w aw ag E E W) : T0.Row W ag E := by
  rcases h.rows with h0 | ⟨g1, g2, e1, e2, _, _, k1, k2⟩
  · exact Or.inl h0
  · exact e2 ▸ mk_row k2

theorem l_new {w1 w2 : World} (b1 : Below w.heap.size w w1) (o1 : OwnE w.heap.size w1 aw E) (b2 : Below w1.heap.size w1 w2) (o2 : OwnE w1.heap.size w2 ag E) : L w aw ag E E w2 := by
  have hs1 := b1.size
  have hs2 := b2.size
  refine ⟨?_, b1.trans (b2.mono hs1)⟩
  rcases o1 with h0 | ⟨g1, e1, hg1, k1⟩
  · exact Or.inl h0
  · rcases o2 with h0 | ⟨g2, e2, hg2, k2⟩
    · exact Or.inl h0
    · have l1 := k1.lt
      exact Or.inr ⟨g1, g2, e1, e2, by omega, by omega, k1.below b2, k2⟩

theorem start {g n : Nat} {es es' : List T0.Ent} {k : Nat} (h : Mk g n es k W) : Mk g n es' 0 W := ⟨fun j hj => absurd hj (Nat.not_lt_zero _), h.there, h.free, h.lt⟩

theorem dE_len (s : ByteArray) (h : s.size ≤ 1048576) : (V0.dE s).length ≤ 1048576 := by
  unfold V0.dE
  split
  · rw [V0.ents_length]
    unfold V0.cnt
    omega
  · exact Nat.zero_le _
end Go.Proofs.Ytkdjcbmmbjongaa.V5

/- A row of puts that a call has made and appends to; contracts of laws.markPutS and laws.heldPutS; two rows of puts that were handed out. -/
namespace Go.Proofs.Ytkdjcbmmbjongaa.PQ
open Go.ChangeShapes Go.WideShapes Go.ChangeAt Go.RowKit
set_option linter.unusedVariables false
set_option linter.unusedSimpArgs false
set_option maxRecDepth 10000
open M1 (mt)
open T5 (Mk)
open V1 (flat flat_length flat_append flat_get OwnE one_ent)
open V4 (em em_length em_get mText grown_below mk_grown mid)
open V5 (L start)

/-- A row of a call's own. -/
def PBuf (base : Nat) (w : World) (a : Option Addr) (n cap : Nat) (es : List T0.Ent) : Prop := n = es.length ∧ w.ownsRow base 45 2 (.slice a n cap) n (flat es)

variable {base n cap : Nat} {a : Option Addr} {w W : World} {es : List T0.Ent}

theorem PBuf.below (h : PBuf base w a n cap es) (hb : Below w.heap.size w W) : PBuf base W a n cap es := ⟨h.1, F0.owns_below h.2 hb⟩
theorem PBuf.alloc (h : PBuf base w a n cap es) (o : Obj) : PBuf base (w.alloc o) a n cap es := h.below ((Below.refl _ _).alloc (Nat.le_refl _) o)
theorem pbuf_made (w : World) (hb : base ≤ w.heap.size) : PBuf base (w.alloc (.cells #[] 45)) (some ⟨w.heap.size, 0, none⟩) 0 0 [] := ⟨rfl, World.ownsRow_made w #[] 0 hb (Nat.zero_le _) rfl⟩

theorem PBuf.fits (h : PBuf base w a n cap es) : n ≤ cap := by
  rcases h.2.2 with ⟨h0, h1⟩ | ⟨g, c, cur, hv, _, _, hle, _⟩
  · omega
  · simp at hv
    omega

theorem PBuf.own (h : PBuf base w a n cap es) : OwnE base w a es := by
  rcases h.2.2 with ⟨h0, h1⟩ | ⟨g, c, cur, hv, hg, hc, hle, _, hs, ht⟩
  · left
    exact List.eq_nil_of_length_eq_zero (by rw [← h.1]; exact h1)
  · right
    simp at hv
    have hcell : ∀ j, w.cell? ⟨g, j, none⟩ = cur[j]? := fun j => by
      unfold World.cell?
      rw [hc]
      simp
    have hn := h.1
    have hget : ∀ j, j < n * 2 → cur[j]? = (flat es)[j]? := fun j hj => by
      have e1 : (cur.toList.take (n * 2))[j]? = (flat es)[j]? := by rw [ht]
      rw [List.getElem?_take_of_lt hj] at e1
      rw [← Array.getElem?_toList, e1]
    refine ⟨g, hv.1, hg, ⟨fun j hj => ?_, fun j hj => ?_, fun j hj => ?_, (Array.getElem?_eq_some_iff.1 hc).1⟩⟩
    · have := flat_get es j hj
      rw [hcell, hcell, hget _ (by omega), hget _ (by omega)]
      exact this
    · rw [hcell]
      have : j < cur.size := by omega
      simp [this]
    · unfold World.frozen?
      rw [hc]
      simp

/-- 'list = append(list, e)'. -/
theorem append_put {ops : Array Oper} {rest : List Oper} {o : Oper} {A : Act} {Q : Exit → Act → World → Prop} (hgd : o.guard = none) (sl x : Operand)
    (ho : o.op = .call { callee := .builtin .append, args := #[sl, x], argTypes := #[25, 25] })
    (hbuf : PBuf base w a n cap es) (u : Int) (v : ByteArray) (hs : A.eval sl = .slice a n cap) {H : Nat} (hH : w.heap.size = H) (hx : A.eval x = .slice (some ⟨H, 0, none⟩) 1 1) (hlen : n + 1 ≤ 1048576) (hb : base ≤ w.heap.size)
    (h : ∀ g' cap' w', PBuf base w' (some ⟨g', 0, none⟩) (n + 1) cap' (es ++ [(u, v)]) → Below base w w' → wpList Try.prog ops Q rest (A.put o.dst (.slice (some ⟨g', 0, none⟩) (n + 1) cap')) w') : wpList Try.prog ops Q (o :: rest) A (w.alloc (.cells #[.int .i64 u, .string v] 45)) := by
  subst hH
  obtain ⟨i0, hi, hz0, hz1, hz2⟩ := info_parts PP.info33
  have hb2 := hbuf.alloc (.cells #[.int .i64 u, .string v] 45)
  refine wpList_append_lies _ hgd sl x 25 ho base 45 i0 (.agg #[.int .i64 0, .string ⟨#[]⟩]) 2 24 Try.underlying25 hi hz0 hz1 hz2 rfl (by omega) _ n _ hs hb2.2 ⟨w.heap.size, 0, none⟩ 1 1 [.int .i64 u, .string v] hx rfl (World.news_of_block (heap_alloc_new w _)) (one_ent u v) (by omega) (by unfold maxLen; omega) (by omega) (by simp; omega) _ rfl ?_
  intro g' cap' w' ho' hg' _ _
  refine h g' cap' w' ⟨by rw [hbuf.1]; simp, ?_⟩ ?_
  · rw [← flat_append]
    exact ho'
  · exact F0.below_grown ((Below.refl _ _).alloc hb _) hg' (fun g hg => (hbuf.2.lt g hg).1) (by simp; omega)

section Marks
variable {g n k : Nat} {es : List T0.Ent} {w W W' w4 : World}

set_option maxHeartbeats 1000000 in
theorem markPutS (g c n : Nat) (w : World) (hn : n ≤ 1048576) (hb : Mk g n (em n) 0 w) :
    Calls Try.prog 16 #[.slice (some ⟨g, 0, none⟩) n c, .int .i64 1] w fun e w' => e = .returned (.int .i64 ((1 + 2 * n : Nat) : Int)) ∧ Mk g n (em n) n w' ∧ w.grownBy w' (some g) := by
  go_enter Try.func16, Try.ntmps16
  go_wp2
  go_loopw [1, 5] (fun q i w' => ∃ k : Nat, k ≤ n ∧ i = .int .i64 k ∧ q = .int .i64 ((1 + 2 * k : Nat) : Int) ∧ Mk g n (em n) k w' ∧ w.grownBy w' (some g)) (fun _ i _ => n - (intOf i).toNat)
  case atStart => exact ⟨0, Nat.zero_le _, rfl, rfl, hb, M0.grown_refl _ _⟩
  case round =>
    obtain ⟨k, hk, rfl, rfl, hmk, hgr⟩ := hrel
    by_cases hlt : k < n
    · have e1 : (0 : Int) ≤ (k : Int) := by omega
      have e2 : (k : Int) < (n : Int) := by omega
      obtain ⟨x1, q1⟩ := Option.isSome_iff_exists.1 (hmk.there (k * 2) (by omega))
      have q3 := hmk.free (k * 2) (by omega)
      have HM : Hid (Mk g n (em n) k wr) := hmk
      clear hmk hb
      go_wp2_with (go_at_call 34; refine (mText _ (2 + 2 * k) (by push_cast; omega) (by omega) (by omega) _).mono ?_; rintro e w4 ⟨rfl, b4⟩; obtain ⟨⟨x2, q2⟩, q4, HN⟩ := mid HM.out hlt (em_get n k hlt) b4)
      go_roundw
      case rel => exact ⟨k + 1, by omega, by go_num, by go_num, HN.out, M0.grown_set (grown_below (M0.grown_set hgr _) b4) _⟩
      case measure => simp [intOf]; omega
    · obtain rfl : k = n := by omega
      clear hb
      go_wp2
      go_ret
      exact ⟨rfl, hmk, hgr⟩

theorem markNone (a : Option Addr) (c : Nat) (w : World) :
    Calls Try.prog 16 #[.slice a 0 c, .int .i64 1] w fun e w' => e = .returned (.int .i64 1) ∧ w' = w := by
  go_enter Try.func16, Try.ntmps16
  go_wp2
  go_loop [1, 5] (fun q i => i = .int .i64 0 ∧ q = .int .i64 1) (fun _ _ => 0)
  case atStart => exact ⟨rfl, rfl⟩
  case round =>
    obtain ⟨rfl, rfl⟩ := hrel
    go_wp2
    go_ret
    exact ⟨rfl, rfl⟩

set_option maxHeartbeats 2000000 in
theorem heldPutS (g c n : Nat) (w : World) (hn : n ≤ 1048576) (hb : Mk g n (em n) n w) :
    Calls Try.prog 17 #[.slice (some ⟨g, 0, none⟩) n c, .int .i64 1] w fun e w' => e = .returned (.int .i64 ((1 + 2 * n : Nat) : Int)) ∧ Below w.heap.size w w' := by
  go_enter Try.func17, Try.ntmps17
  go_wp2
  go_loopw [1, 5] (fun q i w' => ∃ k : Nat, k ≤ n ∧ i = .int .i64 k ∧ q = .int .i64 ((1 + 2 * k : Nat) : Int) ∧ Below w.heap.size w w') (fun _ i _ => n - (intOf i).toNat)
  case atStart => exact ⟨0, Nat.zero_le _, rfl, rfl, Below.refl _ _⟩
  case round =>
    obtain ⟨k, hk, rfl, rfl, hbel⟩ := hrel
    have hB := hbel.size
    by_cases hlt : k < n
    · have e1 : (0 : Int) ≤ (k : Int) := by omega
      have e2 : (k : Int) < (n : Int) := by omega
      have hg := hb.lt
      have hd := hb.done k hlt
      rw [em_get n k hlt] at hd
      have y1 : wr.cell? ⟨g, k * 2, none⟩ = some (.int .i64 ((1 + 2 * k : Nat) : Int)) := (hbel.cell (p := ⟨g, k * 2, none⟩) hg).trans hd.1
      have y2 : wr.cell? ⟨g, k * 2 + 1, none⟩ = some (.string (mt (2 + 2 * k))) := (hbel.cell (p := ⟨g, k * 2 + 1, none⟩) hg).trans hd.2
      have hgl : g < wr.heap.size := Nat.lt_of_lt_of_le hg hB
      have hS0 : wr.drew.cell? ⟨g, k * 2 + 1, none⟩ = some (.string (mt (2 + 2 * k))) := y2
      clear hd hb
      go_wp2
      go_region_held3 (fun W => W.cell? ⟨g, k * 2 + 1, none⟩ = some (.string (mt (2 + 2 * k)))) (assumption) ((go_at_call 34; refine (mText _ (2 + 2 * k) (by push_cast; omega) (by omega) (by omega) _).mono ?_; rintro e w4 ⟨rfl, b4⟩; have hS4 : w4.cell? ⟨g, k * 2 + 1, none⟩ = some (.string (mt (2 + 2 * k))) := (b4.cell (p := ⟨g, k * 2 + 1, none⟩) hgl).trans y2))
      all_goals
        go_wp2
        go_roundw
        case rel => exact ⟨k + 1, by omega, by go_num, by go_num, hbel.trans ((show Below wr.heap.size wr w4 from ⟨b4.os, b4.tape, b4.output, b4.size, b4.block⟩).mono hB)⟩
        case measure => simp [intOf]; omega
    · obtain rfl : k = n := by omega
      clear hb
      go_wp2
      go_ret
      exact ⟨rfl, hbel⟩

theorem heldNone (a : Option Addr) (c : Nat) (w : World) :
    Calls Try.prog 17 #[.slice a 0 c, .int .i64 1] w fun e w' => e = .returned (.int .i64 1) ∧ w' = w := by
  go_enter Try.func17, Try.ntmps17
  go_wp2
  go_loop [1, 5] (fun q i => i = .int .i64 0 ∧ q = .int .i64 1) (fun _ _ => 0)
  case atStart => exact ⟨rfl, rfl⟩
  case round =>
    obtain ⟨rfl, rfl⟩ := hrel
    go_wp2
    go_ret
    exact ⟨rfl, rfl⟩
end Marks
end Go.Proofs.Ytkdjcbmmbjongaa.PQ

/- Contracts of impl.recordText and impl.PutInode, as the given laws call them. -/
namespace Go.Proofs.Ytkdjcbmmbjongaa.R1
open Go.ChangeShapes Go.WideShapes Go.ChangeAt Go.RowKit
set_option linter.unusedVariables false
set_option linter.unusedSimpArgs false
set_option maxRecDepth 10000

open I0 (val vals)

theorem ret_str {a b : ByteArray} (h : a = b) : Ending.returned (.string a) = .returned (.string b) := by rw [h]

/-- The record's text so far: kind, owner, size, and the first pages. -/
def upto (k o s : Int) (zs : List Int) (j : Nat) : ByteArray := R0.two k o ++ B3.pair s ++ R0.pg (zs.take j)

theorem upto_zero (k o s : Int) (zs : List Int) : upto k o s zs 0 = R0.two k o ++ B3.pair s := by
  apply ByteArray.ext
  simp [upto, R0.pg]
theorem upto_succ (k o s : Int) (zs : List Int) (j : Nat) (h : j < zs.length) : upto k o s zs j ++ ⟨#[UInt8.ofNat (zs.getD j 0).toNat]⟩ = upto k o s zs (j + 1) := by
  rw [upto, upto, ByteArray.append_assoc, R0.pg_snoc zs j h]
theorem upto_all (k o s : Int) (zs : List Int) : upto k o s zs zs.length = R0.head k o s zs := by rw [upto, List.take_length, R0.head]

theorem zeros_buf {base g n cap : Nat} {W : World} {t : ByteArray} (m : Int) (h : F0.Buf base W g n cap t) :
    Calls Try.prog 69 #[.int .i64 m] W fun e w' => e = .returned (.string (B4.zeros m)) ∧ F0.Buf base w' g n cap t ∧ Below W.heap.size W w' :=
  (B4.impl_Zeros m W).mono fun _ _ ⟨he, hb⟩ => ⟨he, h.below hb, hb⟩

/-- A world behind the call's own box, with the row. -/
structure St (w : World) (W1 : World) (g n cap : Nat) (t : ByteArray) (W : World) : Prop where
  buf : F0.Buf W1.heap.size W g n cap t
  bel : Below W1.heap.size W1 W

variable {w W1 W W' : World} {g n cap : Nat} {t : ByteArray}

theorem St.below (h : St w W1 g n cap t W) (hb : Below W.heap.size W W') : St w W1 g n cap t W' := ⟨h.buf.below hb, h.bel.trans (hb.mono h.bel.size)⟩
theorem St.drew (h : St w W1 g n cap t W) : St w W1 g n cap t W.drew := ⟨h.buf.drew, h.bel.drew⟩

theorem zeros_st (m : Int) (h : St w W1 g n cap t W) :
    Calls Try.prog 69 #[.int .i64 m] W fun e w' => e = .returned (.string (B4.zeros m)) ∧ St w W1 g n cap t w' :=
  (B4.impl_Zeros m W).mono fun _ _ ⟨he, hb⟩ => ⟨he, h.below hb⟩

theorem with_st (a : ByteArray) (k : Int) (u : ByteArray) (hs : a.size ≤ 281474976710656) (ht : u.size ≤ 281474976710656) (h : St w W1 g n cap t W) :
    Calls Try.prog 22 #[.string a, .int .i64 k, .string u] W fun e w' => e = .returned (.string (B5.laid a k u)) ∧ St w W1 g n cap t w' :=
  (B5.impl_With a k u W hs ht).mono fun _ _ ⟨he, hb⟩ => ⟨he, h.below hb⟩

set_option maxHeartbeats 2000000 in
theorem recordText (k o s : Int) (a : Option Addr) (c : Nat) (zs : List Int) (w : World) (hok : I0.ok k o s zs = true) (hR : P0.Row w a zs) :
    Calls Try.prog 71 #[val k o s a zs.length c] w fun e w' => e = .returned (.string (R0.putI k o s zs)) ∧ Below w.heap.size w w' := by
  obtain ⟨hk, ho, hs, hl, -, hp⟩ := R0.ok_bounds hok
  have hP2 := R0.pair_size s (by omega) (by omega)
  have hbox := K0.blk_new (vals k o s a zs.length c) w 51
  have hl0 := K0.below_new w (.cells #[.int .i64 k, .int .i64 o, .int .i64 s, .slice a zs.length c] 51)
  have hR1 := hR.below hl0
  have hbuf0 := F0.buf_two (base := (w.alloc (.cells #[.int .i64 k, .int .i64 o, .int .i64 s, .slice a zs.length c] 51)).heap.size) (w.alloc (.cells #[.int .i64 k, .int .i64 o, .int .i64 s, .slice a zs.length c] 51)) k o (by omega) (by omega) (Nat.le_refl _)
  have hbuf0 := hbuf0.at (g' := w.heap.size + 1) (by simp)
  have hbl0 := K0.below_new (w.alloc (.cells #[.int .i64 k, .int .i64 o, .int .i64 s, .slice a zs.length c] 51)) (.cells #[.int .u8 k, .int .u8 o] 5)
  have hbox0 := hbox.below hbl0
  have HT : Hid (R0.putI k o s zs = B5.laid (B4.zeros 16) 0 (R0.head k o s zs)) := by
    have hz := R0.head_size k o s zs (by omega) (by omega)
    rw [R0.putI, if_pos hok, B4.zeros, if_pos (by decide), show ((16 : Int)).toNat = 16 from rfl, E0.laid_front _ 16 (by omega), hz, show 16 - (4 + zs.length) = 12 - zs.length by omega]
    rfl
  have hz4 : (R0.head k o s zs).size ≤ 281474976710656 := by rw [R0.head_size k o s zs (by omega) (by omega)]; omega
  have hz5 : (B4.zeros 16).size ≤ 281474976710656 := by decide
  clear hR hok
  have hs0 : 0 ≤ s := hs.1
  have hk0 : 0 ≤ k := hk.1
  have hk1 : k ≤ 2 := hk.2
  have ho0 : 0 ≤ o := ho.1
  have ho1 : o ≤ 9 := ho.2
  go_enter Try.func71, Try.ntmps71
  go_wp2_with (first
    | (go_at_call 83; refine (B3.impl_Pair _ _).mono ?_; rintro e w2 ⟨rfl, b2⟩; have hbuf2 := hbuf0.below b2; have bel2 := hbl0.trans (b2.mono hbl0.size); have hbox2 := hbox.below bel2; have c3 := hbox2.c3)
    | (at_builtin; refine F0.append_text rfl (.tmp 13) (.tmp 16) rfl hbuf2 (B3.pair s) (by rfl) (by rfl) (by omega) bel2.size ?_; intro g3 cap3 w3 hbuf3 bel3'; have bel3 := bel2.trans bel3'; have hbox3 := hbox.below bel3; have d3 := hbox3.c3))
  go_loopw [3, 21] (fun r i w' => ∃ (j g cap : Nat), j ≤ zs.length ∧ i = .int .i64 j ∧ r = .slice (some ⟨g, 0, none⟩) (4 + j) cap ∧ F0.Buf (w.alloc (.cells #[.int .i64 k, .int .i64 o, .int .i64 s, .slice a zs.length c] 51)).heap.size w' g (4 + j) cap (upto k o s zs j) ∧ Below (w.alloc (.cells #[.int .i64 k, .int .i64 o, .int .i64 s, .slice a zs.length c] 51)).heap.size (w.alloc (.cells #[.int .i64 k, .int .i64 o, .int .i64 s, .slice a zs.length c] 51)) w') (fun _ i _ => zs.length - (intOf i).toNat)
  case atStart =>
    rw [hP2] at hbuf3
    exact ⟨0, g3, cap3, Nat.zero_le _, rfl, rfl, by rw [upto_zero]; exact hbuf3, bel3⟩
  case round =>
    obtain ⟨j, g, cap, hj, rfl, rfl, hbuf, hbel⟩ := hrel
    clear hbuf0 hbl0 hbox0 hbuf2 bel2 hbox2 c3 hbuf3 bel3 bel3' hbox3 d3 b2
    by_cases hlt : j < zs.length
    · obtain ⟨b, off, rfl, hb, hc⟩ := (hR1.below hbel).get hlt
      have x1 := hc j hlt
      have hz := R0.pages_bounds hp hlt
      have hu := upto_succ k o s zs j hlt
      obtain ⟨z, ez⟩ : ∃ z, zs.getD j 0 = z := ⟨_, rfl⟩
      rw [ez] at x1 hz hu
      have z0 : 0 ≤ z := by omega
      have z1 : z ≤ 23 := hz.2
      have e1 : (0 : Int) ≤ (j : Int) := by omega
      have e2 : (j : Int) < (zs.length : Int) := by omega
      have HU : Hid (upto k o s zs j ++ ⟨#[UInt8.ofNat z.toNat]⟩ = upto k o s zs (j + 1)) := hu
      clear hu ez hc hz
      go_wp2_with (at_builtin; refine F0.append_byte rfl (.tmp 25) (.tmp 28) rfl hbuf z (by omega) (by rfl) (by rfl) (by omega) hbel.size ?_; intro g1 cap1 w1 hbuf1 bel1)
      go_roundw
      case rel => exact ⟨j + 1, g1, cap1, by omega, by go_num, rfl, by rw [← HU.out]; exact hbuf1, hbel.trans bel1⟩
      case measure => simp [intOf]; omega
    · obtain rfl : j = zs.length := by omega
      rw [upto_all] at hbuf
      have st : St w (w.alloc (.cells #[.int .i64 k, .int .i64 o, .int .i64 s, .slice a zs.length c] 51)) g (4 + zs.length) cap (R0.head k o s zs) wr := ⟨hbuf, hbel⟩
      have hfin : Hid (∀ W, St w (w.alloc (.cells #[.int .i64 k, .int .i64 o, .int .i64 s, .slice a zs.length c] 51)) g (4 + zs.length) cap (R0.head k o s zs) W → Below w.heap.size w W) := fun W h => hl0.trans (h.bel.mono hl0.size)
      clear hR1 hbuf hbel hbox hl0
      go_wp2
      have st1 := st.drew
      have cv0 := st.buf.conv
      have cv1 := st1.buf.conv
      go_region_with (first
        | (go_at_call 69; refine (zeros_st _ (by assumption)).mono ?_; rintro e w4 ⟨rfl, h4⟩; have cv4 := h4.buf.conv)
        | (go_at_call 22; refine (with_st _ _ _ hz5 hz4 (by assumption)).mono ?_; rintro e w5 ⟨rfl, h5⟩))
      all_goals
        go_wp2
        go_ret
        exact ⟨ret_str HT.out.symm, hfin.out _ h5⟩

theorem impl_PutInode (k o s : Int) (a : Option Addr) (c : Nat) (zs : List Int) (w : World) (hbig : zs.length ≤ 281474976710656) (hcap : zs.length ≤ c) (hR : P0.Row w a zs) :
    Calls Try.prog 53 #[val k o s a zs.length c] w fun e w' => e = .returned (.string (R0.putI k o s zs)) ∧ Below w.heap.size w w' := by
  have hbox := K0.blk_new (vals k o s a zs.length c) w 51
  have hl0 := K0.below_new w (.cells #[.int .i64 k, .int .i64 o, .int .i64 s, .slice a zs.length c] 51)
  have hR0 := hR.below hl0
  clear hR
  by_cases hok : I0.ok k o s zs = true
  · go_enter Try.func53, Try.ntmps53
    go_wp2_with (first
      | (go_at_call 70; refine (I1.impl_InodeOk k o s a c zs _ hbig hcap hR0).mono ?_; rintro e w1 ⟨rfl, b1⟩; have hbox1 := hbox.below b1; have c0 := hbox1.c0; have c1 := hbox1.c1; have c2 := hbox1.c2; have c3 := hbox1.c3; have hR1 := hR0.below b1; have l1 := hl0.trans (b1.mono hl0.size))
      | (go_at_call 71; refine (recordText k o s a c zs _ hok hR1).mono ?_; rintro e w2 ⟨rfl, b2⟩; have l2 := l1.trans (b2.mono l1.size)))
    go_ret
    exact ⟨rfl, l2⟩
  · have hok' : I0.ok k o s zs = false := by simpa using hok
    have HR : Hid (R0.putI k o s zs = ⟨#[]⟩) := by rw [R0.putI, if_neg hok]; rfl
    go_enter Try.func53, Try.ntmps53
    go_wp2_with (go_at_call 70; refine (I1.impl_InodeOk k o s a c zs _ hbig hcap hR0).mono ?_; rintro e w1 ⟨rfl, b1⟩; have l1 := hl0.trans (b1.mono hl0.size))
    go_ret
    exact ⟨ret_str HR.out.symm, l1⟩
end Go.Proofs.Ytkdjcbmmbjongaa.R1
