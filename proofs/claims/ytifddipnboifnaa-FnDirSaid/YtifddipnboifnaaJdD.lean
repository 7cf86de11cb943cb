/- Joined texts: plain facts and contracts, as each part says. -/
import Derived.Test.YtifddipnboifnaaJdC
import Derived.Deep.SlicePairs
import Derived.Deep.RegionHeld3
import Derived.Test.YtifddipnboifnaaJdB
import Derived.Test.YtifddipnboifnaaJdA
import Derived.Deep.QuietTactic
import Derived.BigQuiet

/- The contract of spec.PutDir, as the given laws call it. -/
namespace Go.Proofs.Ytifddipnboifnaa.T3
open Go.ChangeShapes Go.WideShapes Go.ChangeAt Go.RowKit
set_option linter.unusedVariables false
set_option linter.unusedSimpArgs false
set_option maxRecDepth 10000

open T2 (ret_str)

theorem putE_empty {i : Int} {s : ByteArray} (h : E0.entryOk i s = false) : (E0.putE i s).toList.isEmpty = true := by
  rw [E0.putE, if_neg (by rw [h]; decide), Lib.toList_data]
  rfl
theorem putE_full {i : Int} {s : ByteArray} (h : E0.entryOk i s = true) : (E0.putE i s).toList.isEmpty = false := by
  have := T0.putE_size16 h
  rw [Lib.toList_data]
  cases hl : (E0.putE i s).data.toList with
  | nil => rw [Lib.size_eq, hl] at this; simp at this
  | cons x r => rfl

set_option maxHeartbeats 4000000 in
theorem spec_PutDir (a : Option Addr) (c : Nat) (es : List T0.Ent) (w : World) (hbig : es.length ≤ 1048576) (hcap : es.length ≤ c) (hfit : T0.Fits es) (hR : T0.Row w a es) :
    Calls Try.prog 39 #[.slice a es.length c] w fun e w' => e = .returned (.string (T0.putD es)) ∧ Below w.heap.size w w' := by
  have HB : Hid (∀ k, k < es.length → T0.okAt es k = false → T0.putD es = ⟨#[]⟩) := fun k hk h => by rw [T0.putD, T0.dirOk_bad hk h]; rfl
  have HL : Hid (12 < es.length → T0.putD es = ⟨#[]⟩) := fun h => by rw [T0.putD, T0.dirOk, decide_eq_false (by omega : ¬ es.length ≤ 12)]; rfl
  have HY : Hid (es.length ≤ 12 → T0.okUpto es es.length = true → T0.putD es = T0.joined es es.length) := fun h1 h2 => by rw [T0.putD, T0.dirOk, decide_eq_true h1, h2]; rfl
  go_enter Try.func39, Try.ntmps39
  go_wp2
  go_loopw [3, 4] (fun t i w' => ∃ j : Nat, j ≤ es.length ∧ (j = 0 ∨ es.length ≤ 12) ∧ T0.okUpto es j = true ∧ i = .int .i64 j ∧ t = .string (T0.joined es j) ∧ Below w.heap.size w w') (fun _ i _ => es.length - (intOf i).toNat)
  case atStart => exact ⟨0, Nat.zero_le _, Or.inl rfl, rfl, rfl, rfl, Below.refl _ _⟩
  case round =>
    obtain ⟨j, hj, h12, hok, rfl, rfl, hbel⟩ := hrel
    by_cases hlt : j < es.length
    · obtain ⟨b, off, rfl, hlt0, hc⟩ := (hR.below hbel).get hlt
      have y1 := (hc j hlt).1
      have y2 := (hc j hlt).2
      have hs := T0.okUpto_succ es j
      have hat : T0.okAt es j = (E0.entryOk (T0.ent es j).1 (T0.ent es j).2 && !(T0.taken (es.take j) (T0.ent es j))) := rfl
      have hf := hfit j hlt
      have hu : T0.joined es (j + 1) = T0.joined es j ++ E0.putE (T0.ent es j).1 (T0.ent es j).2 := rfl
      have hjs := T0.joined_size hok j (Nat.le_refl _)
      have hbad := HB.out j hlt
      have hin := fun k (hk : k < j) => T0.taken_of (es := es) (e := T0.ent es j) hk hj
      have hts := fun k (hk : k < es.length) => T0.taken_succ es k (T0.ent es j) hk
      obtain ⟨z, ez⟩ : ∃ z, T0.ent es j = z := ⟨_, rfl⟩
      rw [ez] at y1 y2 hat hf hu hin hts
      obtain ⟨u, v⟩ := z
      simp only at y1 y2 hat hf hu
      have e1 : (0 : Int) ≤ (j : Int) := by omega
      have e2 : (j : Int) < (es.length : Int) := by omega
      clear ez hR hfit HB
      go_wp2
      go_loopw [5] (fun i w' => ∃ k m : Nat, k ≤ j ∧ T0.taken (es.take k) (u, v) = false ∧ i = .int .i64 k ∧ w' = wr.drewN m) (fun i _ => j - (intOf i).toNat)
      case atStart => exact ⟨0, 0, Nat.zero_le _, rfl, rfl, rfl⟩
      case round =>
        obtain ⟨k, m, hk, hno, rfl, hW⟩ := hrel
        have x1 : wr.cell? ⟨b, off + j * 2, none⟩ = some (.int .i64 u) := by rw [hW]; exact y1
        have x2 : wr.cell? ⟨b, off + j * 2 + 1, none⟩ = some (.string v) := by rw [hW]; exact y2
        have HW : Below w.heap.size w wr := by rw [hW]; exact K0.below_drewN hbel m
        have HD : Hid (wr = _) := hW
        by_cases hlk : k < j
        · have x3 : wr.cell? ⟨b, off + k * 2, none⟩ = some (.int .i64 (T0.ent es k).1) := by rw [hW]; exact (hc k (by omega)).1
          have x4 : wr.cell? ⟨b, off + k * 2 + 1, none⟩ = some (.string (T0.ent es k).2) := by rw [hW]; exact (hc k (by omega)).2
          have hin1 := hin k hlk
          have hts1 := hts k (by omega)
          obtain ⟨z, ez⟩ : ∃ z, T0.ent es k = z := ⟨_, rfl⟩
          rw [ez] at x3 x4 hin1 hts1
          obtain ⟨p, q⟩ := z
          simp only at x3 x4
          have f1 : (0 : Int) ≤ (k : Int) := by omega
          have f2 : (k : Int) < (es.length : Int) := by omega
          have f3 : (k : Int) < (j : Int) := by omega
          clear ez hc y1 y2 hW hin hts
          by_cases h1 : (q.toList == v.toList) = true
          · have HR : Hid (T0.putD es = ⟨#[]⟩) := hbad (by rw [hat, hin1 (by rw [T0.clash, h1]; rfl), Bool.not_true, Bool.and_false])
            clear hin1 hts1 hat hbad hs hok hu
            go_wp2
            go_quiet (fail)
            go_wp2
            go_ret
            exact ⟨ret_str HR.out.symm, K0.below_drewN HW _⟩
          · have h1' : (q.toList == v.toList) = false := by simpa using h1
            by_cases h2 : (p == u) = true
            · have HR : Hid (T0.putD es = ⟨#[]⟩) := hbad (by rw [hat, hin1 (by rw [T0.clash, h1', h2]; rfl), Bool.not_true, Bool.and_false])
              clear hin1 hts1 hat hbad hs hok hu h1
              go_wp2
              go_quiet (fail)
              go_wp2
              go_ret
              exact ⟨ret_str HR.out.symm, K0.below_drewN HW _⟩
            · have h2' : (p == u) = false := by simpa using h2
              have HN : Hid (T0.taken (es.take (k + 1)) (u, v) = false) := by rw [hts1, hno, T0.clash, h1', h2']; rfl
              clear hin1 hts1 hat hbad hs hok hu h1 h2 hno
              go_wp2
              go_quiet (fail)
              go_wp2
              go_roundw
              case rel => exact ⟨k + 1, m + nq, by omega, HN.out, by go_num, by rw [HD.out, World.drewN_drewN]⟩
              case measure => simp [intOf]; omega
        · obtain rfl : k = j := by omega
          clear hc y1 y2 hW HD hin hts
          by_cases hE : E0.entryOk u v = true
          · have g1 := putE_full hE
            have hps := T0.putE_size16 hE
            by_cases hl : 12 < es.length
            · have HR : Hid (T0.putD es = ⟨#[]⟩) := HL.out hl
              have hl' : 12 < (es.length : Int) := by omega
              clear hat hbad hs hok hu hno
              go_wp2_with (go_at_call 24; refine (E2.spec_PutEntry u v _ hf).mono ?_; rintro e w2 ⟨rfl, b2⟩)
              go_ret
              exact ⟨ret_str HR.out.symm, HW.trans (b2.mono HW.size)⟩
            · have hl' : ¬ 12 < (es.length : Int) := by omega
              have hl'' : decide (12 < (es.length : Int)) = false := by simpa using hl'
              have HO : Hid (T0.okUpto es (k + 1) = true) := by rw [hs, hok, hat, hE, hno]; rfl
              have HU : Hid (T0.joined es (k + 1) = T0.joined es k ++ E0.putE u v) := hu
              have zz : (T0.joined es k).size + (E0.putE u v).size ≤ 9223372036854775807 := by omega
              have zz2 : 16 * k + 16 ≤ 9223372036854775807 := by omega
              clear hat hbad hs hok hu hno
              go_wp2_with (go_at_call 24; refine (E2.spec_PutEntry u v _ hf).mono ?_; rintro e w2 ⟨rfl, b2⟩)
              go_roundw
              case rel => exact ⟨k + 1, by omega, Or.inr (by omega), HO.out, by go_num, by rw [HU.out], HW.trans (b2.mono HW.size)⟩
              case measure => simp [intOf]; omega
          · have hE' : E0.entryOk u v = false := by simpa using hE
            have g1 := putE_empty hE'
            have HR : Hid (T0.putD es = ⟨#[]⟩) := hbad (by rw [hat, hE']; rfl)
            clear hat hbad hs hok hu hno
            go_wp2_with (go_at_call 24; refine (E2.spec_PutEntry u v _ hf).mono ?_; rintro e w2 ⟨rfl, b2⟩)
            go_ret
            exact ⟨ret_str HR.out.symm, HW.trans (b2.mono HW.size)⟩
    · obtain rfl : j = es.length := by omega
      have HP : Hid (T0.putD es = T0.joined es es.length) := by
        show T0.putD es = T0.joined es es.length
        rcases h12 with h | h
        · exact HY.out (by omega) hok
        · exact HY.out h hok
      clear hok hR hfit h12 HB HL HY
      go_wp2
      go_ret
      exact ⟨ret_str HP.out.symm, hbel⟩
end Go.Proofs.Ytifddipnboifnaa.T3

/- Entries among a law's arguments; contracts of laws.szEntryS, laws.toEntryS and laws.eqEntryS. -/
namespace Go.Proofs.Ytifddipnboifnaa.T4
open Go.ChangeShapes Go.WideShapes Go.ChangeAt Go.RowKit Go.Joins Go.Deep
set_option linter.unusedVariables false
set_option linter.unusedSimpArgs false
set_option maxRecDepth 10000

def num : Value → Int
  | .int _ z => z
  | _ => 0
def txt : Value → ByteArray
  | .string s => s
  | _ => ⟨#[]⟩

/-- All names fit. -/
def FitsM (es : List T0.Ent) : Prop := ∀ j, j < es.length → (T0.ent es j).2.size ≤ maxLen

section Args
variable {H : Type} {enc : TypeId × Value → H} {w : World}

end Args

/-- The names' sizes, all together. -/
def sum (es : List T0.Ent) : Nat → Nat
  | 0 => 0
  | k + 1 => sum es k + (T0.ent es k).2.size

theorem sum_mono (es : List T0.Ent) (k : Nat) : ∀ m, sum es k ≤ sum es (k + m)
  | 0 => Nat.le_refl _
  | m + 1 => Nat.le_trans (sum_mono es k m) (Nat.le_add_right _ _)

theorem sum_le {es : List T0.Ent} {k n : Nat} (h : k ≤ n) : sum es k ≤ sum es n := by
  have := sum_mono es k (n - k)
  rwa [show k + (n - k) = n by omega] at this

theorem fits_of {es : List T0.Ent} (h : es.length + sum es es.length ≤ 1048576) : T0.Fits es := fun j hj => by
  have h1 := sum_le (es := es) (k := j + 1) (n := es.length) (by omega)
  have h2 : sum es (j + 1) = sum es j + (T0.ent es j).2.size := rfl
  omega

/-- What is left of 2^20; -1 where nothing is. -/
def left (es : List T0.Ent) : Int := if es.length + sum es es.length ≤ 1048576 then 1048576 - (es.length : Int) - (sum es es.length : Int) else -1

theorem ret_int {k : IntKind} {a b : Int} (h : a = b) : Ending.returned (.int k a) = .returned (.int k b) := by rw [h]

end Go.Proofs.Ytifddipnboifnaa.T4

/- Contracts of laws.toEntryS and laws.eqEntryS, as the given laws call them. -/
namespace Go.Proofs.Ytifddipnboifnaa.T5
open Go.ChangeShapes Go.WideShapes Go.ChangeAt Go.RowKit
set_option linter.unusedVariables false
set_option linter.unusedSimpArgs false
set_option maxRecDepth 10000

theorem info33 : (Try.prog.info? 33).map (fun i => (i.zero, i.size, i.bytes)) = some (some (.agg #[.int .i64 0, .string ⟨#[]⟩]), 2, 24) := by kernel_rfl

theorem make_ents (n : Nat) (hn : n ≤ 1048576) : ∃ C : Array Value, C.size = n * 2 ∧ ∀ W : World, (Instr.makeSlice 43 (.int .i64 (n : Int)) (.int .i64 (n : Int))).run Try.prog W = .ok (.slice (some ⟨W.heap.size, 0, none⟩) n n) (W.alloc (.cells C 33)) := by
  obtain ⟨i0, hi, hz0, hz1, hz2⟩ := info_parts info33
  refine ⟨madeCells (Value.agg #[.int .i64 0, .string ⟨#[]⟩]).cells (n * i0.size), by rw [size_madeCells, hz1], fun W => ?_⟩
  have h := run_make (P := Try.prog) W 43 33 i0 (.agg #[.int .i64 0, .string ⟨#[]⟩]) Try.underlying43 hi hz0 .i64 .i64 (n : Int) (n : Int) (by omega) (by omega) (by rw [hz2]; omega) (by omega)
  rw [show ((n : Int)).toNat = n by omega] at h
  exact h

/-- A row of entries while it is being filled. -/
structure Mk (g n : Nat) (es : List T0.Ent) (k : Nat) (W : World) : Prop where
  done : ∀ j, j < k → W.cell? ⟨g, j * 2, none⟩ = some (.int .i64 (T0.ent es j).1) ∧ W.cell? ⟨g, j * 2 + 1, none⟩ = some (.string (T0.ent es j).2)
  there : ∀ j, j < n * 2 → (W.cell? ⟨g, j, none⟩).isSome = true
  free : ∀ j, j < n * 2 → W.frozen? ⟨g, j, none⟩ = false
  lt : g < W.heap.size

variable {g n k : Nat} {es : List T0.Ent} {w W W' : World}

theorem Mk.below (h : Mk g n es k W) (hb : Below W.heap.size W W') : Mk g n es k W' :=
  ⟨fun j hj => ⟨(hb.cell (p := ⟨g, j * 2, none⟩) h.lt).trans (h.done j hj).1, (hb.cell (p := ⟨g, j * 2 + 1, none⟩) h.lt).trans (h.done j hj).2⟩,
   fun j hj => by rw [hb.cell (p := ⟨g, j, none⟩) h.lt]; exact h.there j hj, fun j hj => (hb.frozen (p := ⟨g, j, none⟩) h.lt).trans (h.free j hj), Nat.lt_of_lt_of_le h.lt hb.size⟩

theorem mk_new (w : World) (C : Array Value) (hC : C.size = n * 2) : Mk w.heap.size n es 0 (w.alloc (.cells C 33)) := by
  refine ⟨fun j hj => absurd hj (Nat.not_lt_zero _), fun j hj => ?_, fun j hj => ?_, ?_⟩
  · rw [World.cell?_alloc_mark]
    have : j < C.size := by omega
    simp [this]
  · have h := World.frozen?_alloc_mark w C 33 0 0 j
    rw [h]
    simp
  · simp

theorem some_set {W : World} {p x : Addr} {v : Value} (h : (W.cell? x).isSome = true) : ((W.setCell p v).cell? x).isSome = true := by
  by_cases e : p = x
  · subst e
    obtain ⟨u, hu⟩ := Option.isSome_iff_exists.1 h
    rw [World.cell?_setCell_same _ _ _ hu]
    rfl
  · rw [World.cell?_setCell_other _ _ _ _ e]
    exact h

theorem Mk.step (h : Mk g n es k W) (hk : k < n) {u : Int} {v : ByteArray} (he : T0.ent es k = (u, v)) : Mk g n es (k + 1) ((W.setCell ⟨g, k * 2, none⟩ (.int .i64 u)).setCell ⟨g, k * 2 + 1, none⟩ (.string v)) := by
  obtain ⟨x, hx⟩ := Option.isSome_iff_exists.1 (h.there (k * 2) (by omega))
  obtain ⟨y, hy⟩ := Option.isSome_iff_exists.1 (h.there (k * 2 + 1) (by omega))
  have n1 : (⟨g, k * 2 + 1, none⟩ : Addr) ≠ ⟨g, k * 2, none⟩ := by simp
  refine ⟨fun j hj => ?_, fun j hj => some_set (some_set (h.there j hj)), fun j hj => ?_, ?_⟩
  · by_cases e : j = k
    · subst e
      rw [he]
      refine ⟨?_, ?_⟩
      · rw [World.cell?_setCell_other _ _ _ _ n1, World.cell?_setCell_same _ _ _ hx]
      · rw [World.cell?_setCell_same _ _ _ ((World.cell?_setCell_other _ _ _ _ n1.symm).trans hy)]
    · have hd := h.done j (by omega)
      refine ⟨?_, ?_⟩
      · rw [World.cell?_setCell_other _ _ _ _ (by intro q; have := (Addr.mk.inj q).2.1; omega), World.cell?_setCell_other _ _ _ _ (by intro q; have := (Addr.mk.inj q).2.1; omega)]
        exact hd.1
      · rw [World.cell?_setCell_other _ _ _ _ (by intro q; have := (Addr.mk.inj q).2.1; omega), World.cell?_setCell_other _ _ _ _ (by intro q; have := (Addr.mk.inj q).2.1; omega)]
        exact hd.2
  · rw [World.frozen?_setCell, World.frozen?_setCell]
    exact h.free j hj
  · have := h.lt
    simpa [World.setCell] using this

end Go.Proofs.Ytifddipnboifnaa.T5

/- A row of entries that a call has made and appends to. -/
namespace Go.Proofs.Ytifddipnboifnaa.V1
open Go.ChangeShapes Go.WideShapes Go.ChangeAt Go.RowKit
set_option linter.unusedVariables false
set_option linter.unusedSimpArgs false
set_option maxRecDepth 10000

/-- Entries as cells, two each. -/
def flat : List T0.Ent → List Value
  | [] => []
  | e :: r => .int .i64 e.1 :: .string e.2 :: flat r

theorem flat_length : ∀ es : List T0.Ent, (flat es).length = es.length * 2
  | [] => rfl
  | e :: r => by simp [flat, flat_length r]; omega

theorem flat_append : ∀ (es : List T0.Ent) (e : T0.Ent), flat es ++ [.int .i64 e.1, .string e.2] = flat (es ++ [e])
  | [], e => rfl
  | x :: r, e => by simp [flat, ← flat_append r e]

theorem flat_get : ∀ (es : List T0.Ent) (j : Nat), j < es.length → (flat es)[j * 2]? = some (.int .i64 (T0.ent es j).1) ∧ (flat es)[j * 2 + 1]? = some (.string (T0.ent es j).2)
  | [], j, h => by simp at h
  | e :: r, 0, _ => ⟨rfl, rfl⟩
  | e :: r, j + 1, h => by
    have := flat_get r j (by simpa using h)
    have e1 : (j + 1) * 2 = j * 2 + 1 + 1 := by omega
    have e2 : T0.ent (e :: r) (j + 1) = T0.ent r j := rfl
    rw [e1, e2]
    exact this

/-- A row of a call's own. -/
def EBuf (base : Nat) (w : World) (a : Option Addr) (n cap : Nat) (es : List T0.Ent) : Prop := n = es.length ∧ w.ownsRow base 33 2 (.slice a n cap) n (flat es)

variable {base n cap : Nat} {a : Option Addr} {w W : World} {es : List T0.Ent}

theorem EBuf.below (h : EBuf base w a n cap es) (hb : Below w.heap.size w W) : EBuf base W a n cap es := ⟨h.1, F0.owns_below h.2 hb⟩
theorem EBuf.alloc (h : EBuf base w a n cap es) (o : Obj) : EBuf base (w.alloc o) a n cap es := h.below ((Below.refl _ _).alloc (Nat.le_refl _) o)
theorem ebuf_made (w : World) (hb : base ≤ w.heap.size) : EBuf base (w.alloc (.cells #[] 33)) (some ⟨w.heap.size, 0, none⟩) 0 0 [] := ⟨rfl, World.ownsRow_made w #[] 0 hb (Nat.zero_le _) rfl⟩

theorem EBuf.fits (h : EBuf base w a n cap es) : n ≤ cap := by
  rcases h.2.2 with ⟨h0, h1⟩ | ⟨g, c, cur, hv, _, _, hle, _⟩
  · omega
  · simp at hv
    omega

/-- What a call hands out. -/
def OwnE (base : Nat) (W : World) (a : Option Addr) (es : List T0.Ent) : Prop := es = [] ∨ ∃ g, a = some ⟨g, 0, none⟩ ∧ base ≤ g ∧ T5.Mk g es.length es es.length W

theorem EBuf.own (h : EBuf base w a n cap es) : OwnE base w a es := by
  rcases h.2.2 with ⟨h0, h1⟩ | ⟨g, c, cur, hv, hg, hc, hle, _, hs, ht⟩
  · left
    exact List.eq_nil_of_length_eq_zero (by rw [← h.1]; exact h1)
  · right
    simp at hv
    have hcell : ∀ j, w.cell? ⟨g, j, none⟩ = cur[j]? := fun j => by
      unfold World.cell?
      rw [hc]
      simp
    have hn := h.1
    have hget : ∀ j, j < n * 2 → cur[j]? = (flat es)[j]? := fun j hj => by
      have e1 : (cur.toList.take (n * 2))[j]? = (flat es)[j]? := by rw [ht]
      rw [List.getElem?_take_of_lt hj] at e1
      rw [← Array.getElem?_toList, e1]
    refine ⟨g, hv.1, hg, ⟨fun j hj => ?_, fun j hj => ?_, fun j hj => ?_, (Array.getElem?_eq_some_iff.1 hc).1⟩⟩
    · have := flat_get es j hj
      rw [hcell, hcell, hget _ (by omega), hget _ (by omega)]
      exact this
    · rw [hcell]
      have : j < cur.size := by omega
      simp [this]
    · unfold World.frozen?
      rw [hc]
      simp

theorem OwnE.row (h : OwnE base W a es) : T0.Row W a es := by
  rcases h with h | ⟨g, rfl, _, hm⟩
  · exact Or.inl h
  · exact Or.inr ⟨g, 0, rfl, hm.lt, fun j hj => by rw [Nat.zero_add]; exact hm.done j hj⟩
theorem OwnE.below {W' : World} (h : OwnE base W a es) (hb : Below W.heap.size W W') : OwnE base W' a es := h.imp id fun ⟨g, e, hg, hk⟩ => ⟨g, e, hg, hk.below hb⟩
theorem OwnE.mono {base' : Nat} (h : OwnE base W a es) (hb : base' ≤ base) : OwnE base' W a es := h.imp id fun ⟨g, e, hg, hk⟩ => ⟨g, e, Nat.le_trans hb hg, hk⟩

theorem one_ent (u : Int) (v : ByteArray) : ∀ x ∈ [Value.int .i64 u, .string v], x.oneCell' = true := by
  intro x h
  simp at h
  rcases h with rfl | rfl <;> rfl

/-- 'list = append(list, e)'. -/
theorem append_ent {ops : Array Oper} {rest : List Oper} {o : Oper} {A : Act} {Q : Exit → Act → World → Prop} (hgd : o.guard = none) (sl x : Operand)
    (ho : o.op = .call { callee := .builtin .append, args := #[sl, x], argTypes := #[43, 43] })
    (hbuf : EBuf base w a n cap es) (u : Int) (v : ByteArray) (hs : A.eval sl = .slice a n cap) {H : Nat} (hH : w.heap.size = H) (hx : A.eval x = .slice (some ⟨H, 0, none⟩) 1 1) (hlen : n + 1 ≤ 1048576) (hb : base ≤ w.heap.size)
    (h : ∀ g' cap' w', EBuf base w' (some ⟨g', 0, none⟩) (n + 1) cap' (es ++ [(u, v)]) → Below base w w' → wpList Try.prog ops Q rest (A.put o.dst (.slice (some ⟨g', 0, none⟩) (n + 1) cap')) w') : wpList Try.prog ops Q (o :: rest) A (w.alloc (.cells #[.int .i64 u, .string v] 33)) := by
  subst hH
  obtain ⟨i0, hi, hz0, hz1, hz2⟩ := info_parts T5.info33
  have hb2 := hbuf.alloc (.cells #[.int .i64 u, .string v] 33)
  refine wpList_append_lies _ hgd sl x 43 ho base 33 i0 (.agg #[.int .i64 0, .string ⟨#[]⟩]) 2 24 Try.underlying43 hi hz0 hz1 hz2 rfl (by omega) _ n _ hs hb2.2 ⟨w.heap.size, 0, none⟩ 1 1 [.int .i64 u, .string v] hx rfl (World.news_of_block (heap_alloc_new w _)) (one_ent u v) (by omega) (by unfold maxLen; omega) (by omega) (by simp; omega) _ rfl ?_
  intro g' cap' w' ho' hg' _ _
  refine h g' cap' w' ⟨by rw [hbuf.1]; simp, ?_⟩ ?_
  · rw [← flat_append]
    exact ho'
  · exact F0.below_grown ((Below.refl _ _).alloc hb _) hg' (fun g hg => (hbuf.2.lt g hg).1) (by simp; omega)

/-- What GetDir answers. -/
def Ans (s : ByteArray) (w : World) (e : Ending) (w' : World) : Prop :=
  ∃ a c, e = .returned (.tuple #[.slice a (V0.dE s).length c, .bool (V0.isD s)]) ∧ OwnE w.heap.size w' a (V0.dE s) ∧ (V0.dE s).length ≤ c ∧ Below w.heap.size w w'

theorem ans_no {s : ByteArray} {w w' : World} {a : Option Addr} {c : Nat} (h : V0.isD s = false) (hb : Below w.heap.size w w') : Ans s w (.returned (.tuple #[.slice a 0 c, .bool false])) w' := by
  have hd : V0.dE s = [] := by rw [V0.dE, h]; rfl
  exact ⟨a, c, by rw [hd, h]; rfl, by rw [hd]; exact Or.inl rfl, by rw [hd]; exact Nat.zero_le _, hb⟩

theorem ans_yes {s : ByteArray} {w w' : World} {a : Option Addr} {c : Nat} (h : V0.isD s = true) (ho : OwnE w.heap.size w' a (V0.ents s (V0.cnt s))) (hc : V0.cnt s ≤ c) (hb : Below w.heap.size w w') : Ans s w (.returned (.tuple #[.slice a (V0.cnt s) c, .bool true])) w' := by
  have hd : V0.dE s = V0.ents s (V0.cnt s) := by rw [V0.dE, h]; rfl
  exact ⟨a, c, by rw [hd, h, V0.ents_length], by rw [hd]; exact ho, by rw [hd, V0.ents_length]; exact hc, hb⟩

theorem name_size (x : ByteArray) : (E4.eName x).size ≤ x.size := by
  unfold E4.eName
  split
  · exact B2.part_size _ _ _
  · exact Nat.zero_le _

theorem fits_ents (s : ByteArray) (k : Nat) (hs : s.size ≤ 281474976710656) : T0.Fits (V0.ents s k) := fun j hj => by
  rw [V0.ents_length] at hj
  rw [V0.ents_get s k j hj]
  have h1 := name_size (V0.chunk s j)
  have h2 := B2.part_size s ((j : Int) * 16) 16
  have h3 : (V0.chunk s j).size ≤ s.size := h2
  simp only
  omega
end Go.Proofs.Ytifddipnboifnaa.V1

/- The contract of spec.l03Dir: some entries; the cursor stays one. -/
namespace Go.Proofs.Ytifddipnboifnaa.C1
open Go.ChangeShapes Go.WideShapes Go.ChangeAt Go.RowKit C0
set_option linter.unusedVariables false
set_option linter.unusedSimpArgs false
set_option maxRecDepth 10000

/-- 'list = append(list, e)', the cursor beside it. -/
theorem append_ent2 {base n cp : Nat} {p : Option Addr} {W : World} {es : List T0.Ent} {ops : Array Oper} {rest : List Oper} {o : Oper} {A : Act} {Q : Exit → Act → World → Prop} (hgd : o.guard = none) (sl x : Operand)
    (ho : o.op = .call { callee := .builtin .append, args := #[sl, x], argTypes := #[43, 43] })
    (hbuf : V1.EBuf base W p n cp es) (u : Int) (v : ByteArray) (hs : A.eval sl = .slice p n cp) {H : Nat} (hH : W.heap.size = H) (hx : A.eval x = .slice (some ⟨H, 0, none⟩) 1 1) (hlen : n + 1 ≤ 1048576) (hb : base ≤ W.heap.size)
    (h : ∀ g' cap' w', V1.EBuf base w' (some ⟨g', 0, none⟩) (n + 1) cap' (es ++ [(u, v)]) → (W.alloc (.cells #[.int .i64 u, .string v] 33)).grownBy w' (Value.slice p n cp).ownBlock → ((Value.slice p n cp).ownBlock = some g' ∨ g' = W.heap.size + 1) → wpList Try.prog ops Q rest (A.put o.dst (.slice (some ⟨g', 0, none⟩) (n + 1) cap')) w') : wpList Try.prog ops Q (o :: rest) A (W.alloc (.cells #[.int .i64 u, .string v] 33)) := by
  subst hH
  obtain ⟨i0, hi, hz0, hz1, hz2⟩ := info_parts T5.info33
  have hb2 := hbuf.alloc (.cells #[.int .i64 u, .string v] 33)
  refine wpList_append_lies _ hgd sl x 43 ho base 33 i0 (.agg #[.int .i64 0, .string ⟨#[]⟩]) 2 24 Try.underlying43 hi hz0 hz1 hz2 rfl (by omega) _ n _ hs hb2.2 ⟨W.heap.size, 0, none⟩ 1 1 [.int .i64 u, .string v] hx rfl (World.news_of_block (heap_alloc_new W _)) (V1.one_ent u v) (by omega) (by unfold maxLen; omega) (by omega) (by simp; omega) _ rfl ?_
  intro g' cap' w' ho' hg' hat _
  refine h g' cap' w' ⟨by rw [hbuf.1]; simp, ?_⟩ hg' (by simpa using hat)
  rw [← V1.flat_append]
  exact ho'

theorem ebuf_block {base n cp : Nat} {p : Option Addr} {W V : World} {es : List T0.Ent} (h : V1.EBuf base W p n cp es) (hk : ∀ g, (Value.slice p n cp).ownBlock = some g → V.heap[g]? = W.heap[g]?) : V1.EBuf base V p n cp es := by
  refine ⟨h.1, h.2.1, ?_⟩
  rcases h.2.2 with h0 | ⟨g, c, cur, hv, hbase, hc, hrest⟩
  · exact Or.inl h0
  · refine Or.inr ⟨g, c, cur, hv, hbase, ?_, hrest⟩
    rw [hk g (by rw [hv]; rfl)]
    exact hc

theorem ebuf_grown {base n cp c : Nat} {p : Option Addr} {W V : World} {es : List T0.Ent} (h : V1.EBuf base W p n cp es) (hg : W.grownBy V (some c)) (hc : c < base) : V1.EBuf base V p n cp es := by
  refine ⟨h.1, h.2.1, ?_⟩
  rcases h.2.2 with h0 | ⟨g, cc, cur, hv, hbase, hcur, hrest⟩
  · exact Or.inl h0
  · refine Or.inr ⟨g, cc, cur, hv, hbase, ?_, hrest⟩
    rw [hg.block g (Array.getElem?_eq_some_iff.1 hcur).1 (fun e => by have := Option.some.inj e; omega)]
    exact hcur

theorem ebuf_lt {base n cp g : Nat} {W : World} {es : List T0.Ent} (h : V1.EBuf base W (some ⟨g, 0, none⟩) n cp es) : base ≤ g ∧ g < W.heap.size := by
  have := h.2.lt g rfl
  exact ⟨this.1, by
    rcases h.2.2 with ⟨h0, _⟩ | ⟨g', c, cur, hv, hbase, hc, hrest⟩
    · cases h0
    · cases hv
      exact (Array.getElem?_eq_some_iff.1 hc).1⟩

/-- The entries so far, the names, an entry in its cells. -/
structure Ld (w0 w : World) (c : Nat) (a : Option Addr) (len cap N g n cp : Nat) (es : List T0.Ent) (W : World) : Prop where
  st : St w0 W c a len cap
  gr : w.grownBy W (some c)
  buf : V1.EBuf w.heap.size W (some ⟨g, 0, none⟩) n cp es
  nm : Of W N 6 IsTxt
  ne : N ≠ c ∧ N ≠ g ∧ c < w.heap.size

section
variable {w0 w W W' : World} {c : Nat} {a : Option Addr} {len cap N g n cp : Nat} {es : List T0.Ent}
theorem Of.below {w W : World} {l n : Nat} {Q : Value → Prop} (h : Of w l n Q) (hb : Below w.heap.size w W) : Of W l n Q :=
  ⟨Nat.lt_of_lt_of_le h.lt hb.size, fun j hj => by
    obtain ⟨v, hv, hc⟩ := h.cell j hj
    exact ⟨v, hv, (hb.cell (p := ⟨l, j, none⟩) h.lt).trans hc⟩⟩
theorem Ld.below (h : Ld w0 w c a len cap N g n cp es W) (hb : Below W.heap.size W W') : Ld w0 w c a len cap N g n cp es W' :=
  ⟨h.st.below hb, grown_below h.gr hb, h.buf.below hb, h.nm.below hb, h.ne⟩
theorem Ld.grown (h : Ld w0 w c a len cap N g n cp es W) (s : St w0 W' c a len cap) (hg : W.grownBy W' (some c)) : Ld w0 w c a len cap N g n cp es W' := by
  have hl := ebuf_lt h.buf
  have := h.ne.2.2
  exact ⟨s, grown_trans h.gr hg, ebuf_block h.buf (fun g' e => by cases e; exact hg.block g hl.2 (fun e => by have := Option.some.inj e; omega)), h.nm.grown hg h.ne.1, h.ne⟩
theorem Ld.set (h : Ld w0 w c a len cap N g n cp es W) {E j : Nat} {v : Value} (h1 : E ≠ c) (h2 : E ≠ g) (h3 : E ≠ N) (h4 : w.heap.size ≤ E) (h5 : w0.heap.size ≤ E) : Ld w0 w c a len cap N g n cp es (W.setCell ⟨E, j, none⟩ v) := by
  refine ⟨st_other h.st h1 h5 _, grown_setNew h.gr h4, ebuf_block h.buf (fun g' e => by cases e; exact Below.heap_setCell _ _ _ _ (Ne.symm h2)), ⟨by simpa using h.nm.lt, fun i hi => ?_⟩, h.ne⟩
  obtain ⟨x, hx, hc⟩ := h.nm.cell i hi
  exact ⟨x, hx, (World.cell?_setCell_other _ _ _ _ (fun e => h3 (Addr.mk.inj e).1)).trans hc⟩
theorem Ld.step (h : Ld w0 w c a len cap N g n cp es W) {u : Int} {v : ByteArray} {g' cap' : Nat} {w' : World} (hb : V1.EBuf w.heap.size w' (some ⟨g', 0, none⟩) (n + 1) cap' (es ++ [(u, v)])) (hg : (W.alloc (.cells #[.int .i64 u, .string v] 33)).grownBy w' (Value.slice (some ⟨g, 0, none⟩) n cp).ownBlock)
    (hw : (Value.slice (some ⟨g, 0, none⟩) n cp).ownBlock = some g' ∨ g' = W.heap.size + 1) (hn0 : w0.heap.size ≤ c) : Ld w0 w c a len cap N g' (n + 1) cap' (es ++ [(u, v)]) w' := by
  have hl := ebuf_lt h.buf
  have h2 := h.below (K0.below_new W (.cells #[.int .i64 u, .string v] 33))
  have hnl := h.nm.lt
  have hg2 : (W.alloc (.cells #[.int .i64 u, .string v] 33)).grownBy w' (some g) := hg
  have hne := h.ne
  refine ⟨h2.st.grown (g := g) hg2 (by omega) (by omega), grown_new h2.gr hg2 hl.1, hb, h2.nm.grown hg2 h.ne.2.1, h.ne.1, ?_, h.ne.2.2⟩
  rcases hw with e | e
  · cases e
    exact h.ne.2.1
  · omega
end

theorem names6 : ∀ v ∈ (#[Value.string ⟨#[97]⟩, Value.string ⟨#[98]⟩, Value.string ⟨#[99]⟩, Value.string ⟨#[100, 100]⟩, Value.string ⟨#[101, 46, 120]⟩, Value.string ⟨#[102]⟩] : Array Value).toList, IsTxt v := all_short (by rfl)

/-- Names that are short. -/
def Short (es : List T0.Ent) : Prop := ∀ e ∈ es, e.2.size ≤ 100

theorem short_snoc {es : List T0.Ent} {i : Int} {n : ByteArray} (h : Short es) (hn : n.size ≤ 100) : Short (es ++ [(i, n)]) := fun e he => by
  rcases List.mem_append.1 he with h1 | h1
  · exact h e h1
  · simp at h1
    subst h1
    exact hn

variable {w0 w : World} {c : Nat} {a : Option Addr} {len cap : Nat}

set_option maxHeartbeats 4000000 in
theorem l03Dir (hcode : Given w0 a len) (h : St w0 w c a len cap) (hlen : len ≤ 1048576) :
    Calls Try.prog 80 #[.pointer (some ⟨c, 0, none⟩)] w fun e w' => ∃ (p : Option Addr) (cp : Nat) (es : List T0.Ent), es.length ≤ 13 ∧ e = .returned (.slice p es.length cp) ∧ V1.OwnE w.heap.size w' p es ∧ es.length ≤ cp ∧ Short es ∧ St w0 w' c a len cap ∧ w.grownBy w' (some c) := by
  have hcl := h.cur.lt
  have hn0 := h.new
  have b0 := V1.ebuf_made (base := w.heap.size) w (Nat.le_refl _)
  have s0 := h.below (K0.below_new w (.cells #[] 33))
  have g0 : w.grownBy (w.alloc (.cells #[] 33)) (some c) := grown_of_below (K0.below_new w _)
  go_enter Try.func80, Try.ntmps80
  go_upto_if 12 with (first
    | (go_at_call 72; refine (below_any hcode s0 hlen 4 (by omega) (by omega)).mono ?_; rintro e w1 ⟨⟨m, m0, m1, rfl⟩, s1, g1⟩; have b1 := ebuf_grown b0 g1 hcl; have gr1 := grown_trans g0 g1)
    | (go_at_call 109; refine (once_any hcode s1 hlen 20 (by omega) (by omega)).mono ?_; rintro e w2 ⟨⟨b2, rfl⟩, s2, g2⟩; have b3 := ebuf_grown b1 g2 hcl; have gr2 := grown_trans gr1 g2))
  go_cut [4] (fun v wx => ∃ m2 : Int, 0 ≤ m2 ∧ m2 ≤ 13 ∧ v = .int .i64 m2 ∧ wx = w2)
  case first =>
    go_wp2
    · go_meet
      exact ⟨13, by omega, by omega, rfl, rfl⟩
    · go_meet
      exact ⟨m, m0, by omega, rfl, rfl⟩
  case rest =>
    obtain ⟨m2, m20, m21, rfl, rfl⟩ := hcut
    have hlt2 : w.heap.size < wc.heap.size := Nat.lt_of_lt_of_le (by simp) (Nat.le_trans g1.size g2.size)
    have ld0 : Ld w0 w c a len cap wc.heap.size w.heap.size 0 0 [] (wc.alloc (.cells #[.string ⟨#[97]⟩, .string ⟨#[98]⟩, .string ⟨#[99]⟩, .string ⟨#[100, 100]⟩, .string ⟨#[101, 46, 120]⟩, .string ⟨#[102]⟩] 9)) := ⟨s2.below (K0.below_new _ _), grown_below gr2 (K0.below_new _ _), b3.alloc _, Of.new wc _ 9 IsTxt (of_all names6), by omega, by omega, hcl⟩
    clear b0 s0 g0 s1 g1 b1 gr1 s2 g2 b3 gr2
    obtain ⟨N, hN⟩ : ∃ N, wc.heap.size = N := ⟨_, rfl⟩
    rw [hN] at ld0
    go_wp2
    try simp only [hN]
    clear hN hlt2
    go_loopw [3, 6] (fun v i W => ∃ (k g cp : Nat) (es : List T0.Ent), (k : Int) ≤ m2 ∧ es.length = k ∧ i = .int .i64 k ∧ v = .slice (some ⟨g, 0, none⟩) k cp ∧ Short es ∧ Ld w0 w c a len cap N g k cp es W) (fun _ i _ => m2.toNat - (intOf i).toNat)
    case atStart => exact ⟨0, w.heap.size, 0, [], m20, rfl, rfl, rfl, (fun e he => by cases he), ld0⟩
    case round =>
      obtain ⟨k, g, cp, es, hk, hel, rfl, rfl, hsh, hld⟩ := hrel
      clear ld0
      have hgl := ebuf_lt hld.buf
      have hNl := hld.nm.lt
      have hws := hld.gr.size
      by_cases hlt : (k : Int) < m2
      · obtain ⟨v, ⟨nm, hnm, rfl⟩, hcell⟩ := hld.nm.cell (k % 6) (by omega)
        obtain ⟨j, hj⟩ : ∃ j, k % 6 = j := ⟨_, rfl⟩
        obtain ⟨r, hr⟩ : ∃ r, k % 7 = r := ⟨_, rfl⟩
        rw [hj] at hcell
        have mA : Int.tmod (k : Int) 6 = (j : Int) := by rw [Int.tmod_eq_emod_of_nonneg (by omega)]; omega
        have mB : (k : Int) % 6 = (j : Int) := by omega
        have mC : Int.tmod (k : Int) 7 = (r : Int) := by rw [Int.tmod_eq_emod_of_nonneg (by omega)]; omega
        have mD : (k : Int) % 7 = (r : Int) := by omega
        have j0 : (0 : Int) ≤ (j : Int) := by omega
        have j6 : (j : Int) < 6 := by omega
        have r7 : (r : Int) < 7 := by omega
        have hwr : IntKind.i64.wrap (1 + (r : Int)) = 1 + (r : Int) := wrap_of _ (by omega) (by omega)
        have ld1 := hld.below (K0.below_new wr (.cells #[.int .i64 (1 + (r : Int)), .string nm] 33))
        have ke := K0.blk_new [.int .i64 (1 + (r : Int)), .string nm] wr 33
        clear hj hr
        go_wp2_with (first
          | (go_at_call 109; refine (once_any hcode ld1.st hlen 8 (by omega) (by omega)).mono ?_; rintro e w3 ⟨⟨b3, rfl⟩, s3, g3⟩; have ld3 := ld1.grown s3 g3; have ke3 := blk_grown ke g3 (by omega); have c0 := ke3.c0; have c1 := ke3.c1; have f0 := ke3.f0; have f1 := ke3.f1; have l3 := ld3.gr.size)
          | (go_at_call 66; refine (l03Entry hcode ld3.st hlen).mono ?_; rintro e w4 ⟨⟨i4, n4, wi4, hn4, rfl⟩, s4, g4⟩; have ld4 := ld3.grown s4 g4; have ke4 := blk_grown ke3 g4 (by omega); have d0 := ke4.c0; have d1 := ke4.c1; have d2 := ke4.f0; have d3 := ke4.f1; have ke5 := ke4.put2 (.int .i64 i4) (.string n4); have d4 := ke5.c0; have d5 := ke5.c1; have ld5 := (ld4.set (E := wr.heap.size) (j := 0) (v := .int .i64 i4) (by omega) (by omega) (by omega) (by omega) (by omega)).set (E := wr.heap.size) (j := 1) (v := .string n4) (by omega) (by omega) (by omega) (by omega) (by omega))
          | (at_builtin; have ld5' := ld5; refine append_ent2 rfl (.tmp 32) (.tmp 34) rfl ld5.buf i4 n4 rfl (H := w4.heap.size) (by simp) (by rfl) (by omega) ld5.gr.size ?_; intro g6 cap6 w6 b6 hg6 hw6; have ld6 := ld5.step b6 hg6 hw6 hn0)
          | (at_builtin; refine append_ent2 rfl (.tmp 32) (.tmp 34) rfl ld3.buf (1 + (r : Int)) nm rfl (H := w3.heap.size) rfl (by rfl) (by omega) ld3.gr.size ?_; intro g6 cap6 w6 b6 hg6 hw6; have ld6 := ld3.step b6 hg6 hw6 hn0))
        · go_roundw
          case rel => exact ⟨k + 1, g6, cap6, es ++ [(i4, n4)], by omega, by simp [hel], by go_num, rfl, short_snoc hsh hn4, ld6⟩
          case measure => simp [intOf]; omega
        · go_roundw
          case rel => exact ⟨k + 1, g6, cap6, es ++ [(1 + (r : Int), nm)], by omega, by simp [hel], by go_num, rfl, short_snoc hsh hnm, ld6⟩
          case measure => simp [intOf]; omega
      · go_wp2
        go_ret
        have hfit := hld.buf.fits
        exact ⟨some ⟨g, 0, none⟩, cp, es, by omega, by rw [hel]; rfl, hld.buf.own, by omega, hsh, hld.st, hld.gr⟩
end Go.Proofs.Ytifddipnboifnaa.C1

/- Plain facts on lists of pages; rows of integers in memory. -/
namespace Go.Proofs.Ytifddipnboifnaa.P0
open Go.RowKit
set_option linter.unusedVariables false
set_option linter.unusedSimpArgs false

/-- Whether a number is among some. -/
def has (l : List Int) (x : Int) : Bool := l.contains x

/-- The number at a place is a data page that does not stand ahead of it. -/
def okAt (zs : List Int) (i : Nat) : Bool := B1.inB (zs.getD i 0) 5 23 && !(has (zs.take i) (zs.getD i 0))

/-- The first numbers are data pages, no two alike. -/
def okUpto (zs : List Int) (k : Nat) : Bool := (List.range k).all (okAt zs)

def pagesOk (zs : List Int) : Bool := okUpto zs zs.length

theorem okUpto_succ (zs : List Int) (k : Nat) : okUpto zs (k + 1) = (okUpto zs k && okAt zs k) := by
  simp [okUpto, List.range_succ]

theorem okUpto_bad {zs : List Int} {k n : Nat} (hk : k < n) (h : okAt zs k = false) : okUpto zs n = false := by
  rw [okUpto, List.all_eq_false]
  exact ⟨k, List.mem_range.2 hk, by rw [h]; decide⟩

theorem getD_get (zs : List Int) (k : Nat) (h : k < zs.length) : zs.getD k 0 = zs[k] := by simp [List.getD, h]

theorem contains_succ (zs : List Int) (k : Nat) (x : Int) (h : k < zs.length) : has (zs.take (k + 1)) x = (has (zs.take k) x || x == zs.getD k 0) := by
  unfold has
  rw [List.take_succ_eq_append_getElem h, List.contains_eq_any_beq, List.contains_eq_any_beq, List.any_append, getD_get _ _ h]
  simp

theorem contains_of {zs : List Int} {k n : Nat} (hk : k < n) (hn : n ≤ zs.length) : has (zs.take n) (zs.getD k 0) = true := by
  unfold has
  rw [List.contains_iff_mem]
  rw [getD_get _ _ (by omega)]
  exact List.mem_iff_getElem.2 ⟨k, by simp; omega, by simp⟩

/-- How many pages hold so many bytes. -/
def need (s : Int) : Int := (s + 31) / 32

/-- A slice's place holds these numbers; nothing is said of it where there are none. -/
def Row (W : World) (a : Option Addr) (zs : List Int) : Prop := zs = [] ∨ ∃ b off, a = some ⟨b, off, none⟩ ∧ b < W.heap.size ∧ ∀ j, j < zs.length → W.cell? ⟨b, off + j, none⟩ = some (.int .i64 (zs.getD j 0))

theorem Row.below {W W' : World} {a : Option Addr} {zs : List Int} (h : Row W a zs) (hb : Below W.heap.size W W') : Row W' a zs := by
  rcases h with h | ⟨b, off, ha, hlt, hc⟩
  · exact Or.inl h
  · exact Or.inr ⟨b, off, ha, Nat.lt_of_lt_of_le hlt hb.size, fun j hj => (hb.cell (p := ⟨b, off + j, none⟩) hlt).trans (hc j hj)⟩

theorem Row.alloc {W : World} {a : Option Addr} {zs : List Int} (h : Row W a zs) (o : Obj) : Row (W.alloc o) a zs := h.below ((Below.refl _ _).alloc (Nat.le_refl _) o)
theorem Row.drew {W : World} {a : Option Addr} {zs : List Int} (h : Row W a zs) : Row W.drew a zs := h
theorem Row.drewN {W : World} {a : Option Addr} {zs : List Int} (h : Row W a zs) (n : Nat) : Row (W.drewN n) a zs := h

theorem Row.get {W : World} {a : Option Addr} {zs : List Int} {k : Nat} (h : Row W a zs) (hk : k < zs.length) : ∃ b off, a = some ⟨b, off, none⟩ ∧ b < W.heap.size ∧ ∀ j, j < zs.length → W.cell? ⟨b, off + j, none⟩ = some (.int .i64 (zs.getD j 0)) := by
  rcases h with h | h
  · subst h
    simp at hk
  · exact h
end Go.Proofs.Ytifddipnboifnaa.P0

/- Contracts of spec.l02Has, spec.l03Pages, spec.l03Need, impl.pagesOk and impl.pagesFor, as the given laws call them. -/
namespace Go.Proofs.Ytifddipnboifnaa.P1
open Go.ChangeShapes Go.WideShapes Go.ChangeAt Go.RowKit
set_option linter.unusedVariables false
set_option linter.unusedSimpArgs false
set_option maxRecDepth 10000

theorem ret_bool {a b : Bool} (h : a = b) : Ending.returned (.bool a) = .returned (.bool b) := by rw [h]

theorem l02Has (b off n c : Nat) (zs : List Int) (x : Int) (w : World) (hz : n ≤ zs.length) (hbig : n ≤ 281474976710656) (hc : ∀ j, j < zs.length → w.cell? ⟨b, off + j, none⟩ = some (.int .i64 (zs.getD j 0))) :
    Calls Try.prog 108 #[.slice (some ⟨b, off, none⟩) n c, .int .i64 x] w fun e w' => e = .returned (.bool (P0.has (zs.take n) x)) ∧ w' = w := by
  go_enter Try.func108, Try.ntmps108
  go_wp2
  go_loop [5] (fun i => ∃ k : Nat, k ≤ n ∧ P0.has (zs.take k) x = false ∧ i = .int .i64 k) (fun i => n - (intOf i).toNat)
  case atStart => exact ⟨0, Nat.zero_le _, rfl, rfl⟩
  case round =>
    obtain ⟨k, hk, hno, rfl⟩ := hrel
    by_cases hlt : k < n
    · have x1 := hc k (by omega)
      have hs := P0.contains_succ zs k x (by omega)
      have hin := fun h : x = zs.getD k 0 => h ▸ P0.contains_of (zs := zs) hlt hz
      obtain ⟨z, ez⟩ : ∃ z, zs.getD k 0 = z := ⟨_, rfl⟩
      rw [ez] at x1 hs hin
      have e1 : (0 : Int) ≤ (k : Int) := by omega
      have e2 : (k : Int) < (n : Int) := by omega
      by_cases h : z = x
      · have h' : (z == x) = true := by simpa using h
        have HR : Hid (P0.has (zs.take n) x = true) := hin h.symm
        clear h hs hin hno ez hc
        go_wp2
        go_ret
        exact ⟨ret_bool HR.out.symm, rfl⟩
      · have h' : (z == x) = false := by simpa using h
        have HN : Hid (P0.has (zs.take (k + 1)) x = false) := by
          rw [hs, hno, show (x == z) = false by simpa using fun q : x = z => h q.symm]
          rfl
        clear h hs hin hno ez hc
        go_wp2
        go_round
        case rel => exact ⟨k + 1, by omega, HN.out, by go_num⟩
        case measure => simp [intOf]; omega
    · obtain rfl : k = n := by omega
      have HN : Hid (P0.has (zs.take k) x = false) := hno
      clear hno hc
      go_wp2
      go_ret
      exact ⟨ret_bool HN.out.symm, rfl⟩

theorem quiet_bool {P : Program} {f : FuncId} {args : Array Value} {w : World} {n : Nat} {a b : Bool} (h : Calls P f args (w.drewN n) fun e w' => e = .returned (.bool a) ∧ w' = w.drewN n) (hab : a = b) :
    Calls P f args (w.drewN n) fun e w'' => e = .returned (.bool b) ∧ ∃ m, w'' = w.drewN m := hab ▸ Calls.quiet_of_same h

set_option maxHeartbeats 1000000 in
theorem l03Pages (a : Option Addr) (c : Nat) (zs : List Int) (w : World) (hbig : zs.length ≤ 281474976710656) (hcap : zs.length ≤ c) (hR : P0.Row w a zs) :
    Calls Try.prog 78 #[.slice a zs.length c] w fun e w' => e = .returned (.bool (P0.pagesOk zs)) ∧ ∃ n, w' = w.drewN n := by
  go_enter Try.func78, Try.ntmps78
  go_wp2
  go_loopw [3] (fun i w' => ∃ k n : Nat, k ≤ zs.length ∧ P0.okUpto zs k = true ∧ i = .int .i64 k ∧ w' = w.drewN n) (fun i _ => zs.length - (intOf i).toNat)
  case atStart => exact ⟨0, 0, Nat.zero_le _, rfl, rfl, rfl⟩
  case round =>
    obtain ⟨k, n, hk, hok, rfl, hW⟩ := hrel
    have HW : Hid (∀ m, ∃ m', wr.drewN m = w.drewN m') := fun m => ⟨n + m, by rw [hW, World.drewN_drewN]⟩
    by_cases hlt : k < zs.length
    · have hR' : P0.Row wr a zs := by rw [hW]; exact hR.drewN n
      obtain ⟨b, off, rfl, hb, hc⟩ := hR'.get hlt
      have hH : Hid (∀ m x, Calls Try.prog 108 #[.slice (some ⟨b, off, none⟩) k c, .int .i64 x] (wr.drewN m) fun e w' => e = .returned (.bool (P0.has (zs.take k) x)) ∧ w' = wr.drewN m) := fun m x => l02Has b off k c zs x _ (by omega) (by omega) hc
      have x1 := hc k hlt
      have hs := P0.okUpto_succ zs k
      have hat : P0.okAt zs k = (B1.inB (zs.getD k 0) 5 23 && !(P0.has (zs.take k) (zs.getD k 0))) := rfl
      obtain ⟨z, ez⟩ : ∃ z, zs.getD k 0 = z := ⟨_, rfl⟩
      rw [ez] at x1 hat
      have e1 : (0 : Int) ≤ (k : Int) := by omega
      have e2 : (k : Int) < (zs.length : Int) := by omega
      have e3 : (k : Int) ≤ (c : Int) := by omega
      by_cases h1 : B1.inB z 5 23 = true
      · by_cases h2 : P0.has (zs.take k) z = true
        · have HR : Hid (P0.pagesOk zs = false) := P0.okUpto_bad hlt (by rw [hat, h1, h2]; rfl)
          clear hs hat hok ez hc hR hR' hW
          go_wp2
          go_quiet ((first | (go_at_call 77; exact quiet_bool (B1.l01In_any _ _ _ _) h1) | (go_at_call 108; exact quiet_bool (hH.out _ _) h2)))
          go_wp2
          go_ret
          exact ⟨ret_bool HR.out.symm, HW.out _⟩
        · have h2' : P0.has (zs.take k) z = false := by simpa using h2
          have HO : Hid (P0.okUpto zs (k + 1) = true) := by rw [hs, hok, hat, h1, h2']; rfl
          clear hs hat hok ez hc hR hR' hW h2
          go_wp2
          go_quiet ((first | (go_at_call 77; exact quiet_bool (B1.l01In_any _ _ _ _) h1) | (go_at_call 108; exact quiet_bool (hH.out _ _) h2')))
          go_wp2
          obtain ⟨m', hm'⟩ := HW.out nq
          go_roundw
          case rel => exact ⟨k + 1, m', by omega, HO.out, by go_num, hm'⟩
          case measure => simp [intOf]; omega
      · have h1' : B1.inB z 5 23 = false := by simpa using h1
        have HR : Hid (P0.pagesOk zs = false) := P0.okUpto_bad hlt (by rw [hat, h1']; rfl)
        clear hs hat hok ez hc hR hR' hW h1
        go_wp2
        go_quiet ((go_at_call 77; exact quiet_bool (B1.l01In_any _ _ _ _) h1'))
        go_wp2
        go_ret
        exact ⟨ret_bool HR.out.symm, HW.out _⟩
    · obtain rfl : k = zs.length := by omega
      have HR : Hid (P0.pagesOk zs = true) := hok
      have HW0 : Hid (wr = w.drewN n) := hW
      clear hok hR hW
      go_wp2
      go_ret
      exact ⟨ret_bool HR.out.symm, n, HW0.out⟩

theorem impl_Contains (b off n c : Nat) (zs : List Int) (x : Int) (w : World) (hz : n ≤ zs.length) (hbig : n ≤ 281474976710656) (hc : ∀ j, j < zs.length → w.cell? ⟨b, off + j, none⟩ = some (.int .i64 (zs.getD j 0))) :
    Calls Try.prog 159 #[.slice (some ⟨b, off, none⟩) n c, .int .i64 x] w fun e w' => e = .returned (.bool (P0.has (zs.take n) x)) ∧ w' = w :=
  Try.slices_Contains_int b off n c zs x w hz (by omega) hc

set_option maxHeartbeats 1000000 in
theorem pagesOk (a : Option Addr) (c : Nat) (zs : List Int) (w : World) (hbig : zs.length ≤ 281474976710656) (hcap : zs.length ≤ c) (hR : P0.Row w a zs) :
    Calls Try.prog 158 #[.slice a zs.length c] w fun e w' => e = .returned (.bool (P0.pagesOk zs)) ∧ w' = w := by
  go_enter Try.func158, Try.ntmps158
  go_wp2
  go_loop [7] (fun i => ∃ k : Nat, k ≤ zs.length ∧ P0.okUpto zs k = true ∧ i = .int .i64 k) (fun i => zs.length - (intOf i).toNat)
  case atStart => exact ⟨0, Nat.zero_le _, rfl, rfl⟩
  case round =>
    obtain ⟨k, hk, hok, rfl⟩ := hrel
    by_cases hlt : k < zs.length
    · obtain ⟨b, off, rfl, hb, hc⟩ := hR.get hlt
      have hH : Hid (∀ x, Calls Try.prog 159 #[.slice (some ⟨b, off, none⟩) k c, .int .i64 x] w fun e w' => e = .returned (.bool (P0.has (zs.take k) x)) ∧ w' = w) := fun x => impl_Contains b off k c zs x _ (by omega) (by omega) hc
      have x1 := hc k hlt
      have hs := P0.okUpto_succ zs k
      have hat : P0.okAt zs k = (B1.inB (zs.getD k 0) 5 23 && !(P0.has (zs.take k) (zs.getD k 0))) := rfl
      obtain ⟨z, ez⟩ : ∃ z, zs.getD k 0 = z := ⟨_, rfl⟩
      rw [ez] at x1 hat
      have e1 : (0 : Int) ≤ (k : Int) := by omega
      have e2 : (k : Int) < (zs.length : Int) := by omega
      have e3 : (k : Int) ≤ (c : Int) := by omega
      by_cases g1 : z < 5
      · have HR : Hid (P0.pagesOk zs = false) := P0.okUpto_bad hlt (by rw [hat, show B1.inB z 5 23 = false from decide_eq_false (by omega)]; rfl)
        clear hs hat hok ez hc hR
        go_wp2
        go_ret
        exact ⟨ret_bool HR.out.symm, rfl⟩
      · by_cases g2 : 24 ≤ z
        · have HR : Hid (P0.pagesOk zs = false) := P0.okUpto_bad hlt (by rw [hat, show B1.inB z 5 23 = false from decide_eq_false (by omega)]; rfl)
          clear hs hat hok ez hc hR
          go_wp2
          go_ret
          exact ⟨ret_bool HR.out.symm, rfl⟩
        · have h1 : B1.inB z 5 23 = true := decide_eq_true (by omega)
          by_cases h2 : P0.has (zs.take k) z = true
          · have HR : Hid (P0.pagesOk zs = false) := P0.okUpto_bad hlt (by rw [hat, h1, h2]; rfl)
            clear hs hat hok ez hc hR
            go_wp2_with (go_at_call 159; refine (hH.out _).mono ?_; rintro e w' ⟨rfl, rfl⟩)
            go_ret
            exact ⟨ret_bool HR.out.symm, rfl⟩
          · have h2' : P0.has (zs.take k) z = false := by simpa using h2
            have HO : Hid (P0.okUpto zs (k + 1) = true) := by rw [hs, hok, hat, h1, h2']; rfl
            clear hs hat hok ez hc hR h2
            go_wp2_with (go_at_call 159; refine (hH.out _).mono ?_; rintro e w' ⟨rfl, rfl⟩)
            go_round
            case rel => exact ⟨k + 1, by omega, HO.out, by go_num⟩
            case measure => simp [intOf]; omega
    · obtain rfl : k = zs.length := by omega
      have HR : Hid (P0.pagesOk zs = true) := hok
      clear hok hR
      go_wp2
      go_ret
      exact ⟨ret_bool HR.out.symm, rfl⟩

theorem l03Need (s : Int) (w : World) (h0 : 0 ≤ s) (h1 : s ≤ 65535) :
    Calls Try.prog 65 #[.int .i64 s] w fun e w' => e = .returned (.int .i64 (P0.need s)) ∧ w' = w := by
  have e : P0.need s = (s + 32 - 1) / 32 := by unfold P0.need; omega
  rw [e]
  go_enter Try.func65, Try.ntmps65
  go_wp2
  go_ret
  exact ⟨rfl, rfl⟩

theorem pagesFor (s : Int) (w : World) (h0 : 0 ≤ s) (h1 : s ≤ 65535) :
    Calls Try.prog 104 #[.int .i64 s] w fun e w' => e = .returned (.int .i64 (P0.need s)) ∧ w' = w := by
  have e : P0.need s = (s + 32 - 1) / 32 := by unfold P0.need; omega
  rw [e]
  go_enter Try.func104, Try.ntmps104
  go_wp2
  go_ret
  exact ⟨rfl, rfl⟩
end Go.Proofs.Ytifddipnboifnaa.P1

/- Plain facts on inodes; contracts of the program's checks of an inode's parts. -/
namespace Go.Proofs.Ytifddipnboifnaa.I0
open Go.ChangeShapes Go.WideShapes Go.ChangeAt Go.RowKit
set_option linter.unusedVariables false
set_option linter.unusedSimpArgs false
set_option maxRecDepth 10000

open P1 (ret_bool quiet_bool)

/-- What a file's or a directory's inode must be. -/
def holds (o s : Int) (zs : List Int) : Bool := B1.inB o 0 9 && (B1.inB s 0 192 && (decide ((zs.length : Int) = P0.need s) && P0.pagesOk zs))

/-- What a free inode must be. -/
def free (o s : Int) (zs : List Int) : Bool := decide (o = 0) && (decide (s = 0) && decide (zs.length = 0))

/-- What an inode must be. -/
def ok (k o s : Int) (zs : List Int) : Bool := if k = 0 then free o s zs else if k = 1 then holds o s zs else if k = 2 then holds o s zs && decide (s % 16 = 0) else false

abbrev val (k o s : Int) (a : Option Addr) (n c : Nat) : Value := .agg #[.int .i64 k, .int .i64 o, .int .i64 s, .slice a n c]
abbrev vals (k o s : Int) (a : Option Addr) (n c : Nat) : List Value := [.int .i64 k, .int .i64 o, .int .i64 s, .slice a n c]

theorem ownerOk (o : Int) (w : World) : Calls Try.prog 157 #[.int .i64 o] w fun e w' => e = .returned (.bool (B1.inB o 0 9)) ∧ w' = w := by
  by_cases h1 : 0 ≤ o
  · by_cases h2 : o ≤ 8
    · have HR : Hid (B1.inB o 0 9 = true) := decide_eq_true (by omega)
      go_enter Try.func157, Try.ntmps157
      go_wp2
      go_ret
      exact ⟨ret_bool HR.out.symm, rfl⟩
    · have h2' : decide (o ≤ 8) = false := by simpa using h2
      by_cases h3 : o = 9
      · have HR : Hid (B1.inB o 0 9 = true) := decide_eq_true (by omega)
        have h3' : (o == 9) = true := by simpa using h3
        clear h3
        go_enter Try.func157, Try.ntmps157
        go_wp2
        go_ret
        exact ⟨ret_bool HR.out.symm, rfl⟩
      · have HR : Hid (B1.inB o 0 9 = false) := decide_eq_false (by omega)
        have h3' : (o == 9) = false := by simpa using h3
        go_enter Try.func157, Try.ntmps157
        go_wp2
        go_ret
        exact ⟨ret_bool HR.out.symm, rfl⟩
  · have HR : Hid (B1.inB o 0 9 = false) := decide_eq_false (by omega)
    have h1' : decide (0 ≤ o) = false := by simpa using h1
    have h3' : (o == 9) = false := by simp; omega
    go_enter Try.func157, Try.ntmps157
    go_wp2
    go_ret
    exact ⟨ret_bool HR.out.symm, rfl⟩

theorem below_alloc_drew (w : World) (o : Obj) (n : Nat) : Below w.heap.size w ((w.alloc o).drewN n) := K0.below_drewN (K0.below_new w o) n

set_option maxHeartbeats 1000000 in
theorem holdsOk (k o s : Int) (a : Option Addr) (c : Nat) (zs : List Int) (w : World) (hbig : zs.length ≤ 281474976710656) (hcap : zs.length ≤ c) (hR : P0.Row w a zs) :
    Calls Try.prog 156 #[val k o s a zs.length c] w fun e w' => e = .returned (.bool (holds o s zs)) ∧ Below w.heap.size w w' := by
  have hB := K0.below_new w (.cells #[.int .i64 k, .int .i64 o, .int .i64 s, .slice a zs.length c] 26)
  have hR' := hR.alloc (.cells #[.int .i64 k, .int .i64 o, .int .i64 s, .slice a zs.length c] 26)
  have hP : Hid (∀ m, Calls Try.prog 158 #[.slice a zs.length c] ((w.alloc (.cells #[.int .i64 k, .int .i64 o, .int .i64 s, .slice a zs.length c] 26)).drewN m) fun e w' => e = .returned (.bool (P0.pagesOk zs)) ∧ w' = (w.alloc (.cells #[.int .i64 k, .int .i64 o, .int .i64 s, .slice a zs.length c] 26)).drewN m) := fun m => P1.pagesOk a c zs _ hbig hcap hR'
  by_cases h1 : s < 0
  · have HR : Hid (holds o s zs = false) := by rw [holds, show B1.inB s 0 192 = false from decide_eq_false (by omega), Bool.false_and, Bool.and_false]; rfl
    go_enter Try.func156, Try.ntmps156
    go_wp2
    go_ret
    exact ⟨ret_bool HR.out.symm, hB⟩
  · by_cases h2 : 192 < s
    · have HR : Hid (holds o s zs = false) := by rw [holds, show B1.inB s 0 192 = false from decide_eq_false (by omega), Bool.false_and, Bool.and_false]; rfl
      go_enter Try.func156, Try.ntmps156
      go_wp2
      go_ret
      exact ⟨ret_bool HR.out.symm, hB⟩
    · have HS : Hid (holds o s zs = (B1.inB o 0 9 && (decide ((zs.length : Int) = P0.need s) && P0.pagesOk zs))) := by rw [holds, show B1.inB s 0 192 = true from decide_eq_true (by omega), Bool.true_and]; rfl
      clear hB
      by_cases g1 : B1.inB o 0 9 = true
      · by_cases g2 : (zs.length : Int) = P0.need s
        · have g2' : ((zs.length : Int) == P0.need s) = true := by simpa using g2
          have HR : Hid (holds o s zs = P0.pagesOk zs) := by rw [HS.out, g1, decide_eq_true g2]; rfl
          clear g2 hR hR'
          go_enter Try.func156, Try.ntmps156
          go_wp2
          go_quiet ((first | (go_at_call 157; exact quiet_bool (ownerOk _ _) g1) | (go_at_call 104; exact Calls.quiet_of_same (P1.pagesFor _ _ (by omega) (by omega))) | (go_at_call 158; exact Calls.quiet_of_same (hP.out _))))
          go_wp2
          go_ret
          exact ⟨ret_bool HR.out.symm, below_alloc_drew _ _ _⟩
        · have g2' : ((zs.length : Int) == P0.need s) = false := by simpa using g2
          have HR : Hid (holds o s zs = false) := by rw [HS.out, decide_eq_false g2, Bool.false_and, Bool.and_false]; rfl
          clear g2 hR hR'
          go_enter Try.func156, Try.ntmps156
          go_wp2
          go_quiet ((first | (go_at_call 157; exact quiet_bool (ownerOk _ _) g1) | (go_at_call 104; exact Calls.quiet_of_same (P1.pagesFor _ _ (by omega) (by omega)))))
          go_wp2
          go_ret
          exact ⟨ret_bool HR.out.symm, below_alloc_drew _ _ _⟩
      · have g1' : B1.inB o 0 9 = false := by simpa using g1
        have HR : Hid (holds o s zs = false) := by rw [HS.out, g1', Bool.false_and]; rfl
        clear hR hR'
        go_enter Try.func156, Try.ntmps156
        go_wp2
        go_quiet ((go_at_call 157; exact quiet_bool (ownerOk _ _) g1'))
        go_wp2
        go_ret
        exact ⟨ret_bool HR.out.symm, below_alloc_drew _ _ _⟩

theorem freeSound (k o s : Int) (a : Option Addr) (c n : Nat) (zs : List Int) (w : World) (hn : n = zs.length) :
    Calls Try.prog 162 #[val k o s a n c] w fun e w' => e = .returned (.bool (free o s zs)) ∧ Below w.heap.size w w' := by
  have hB := K0.below_new w (.cells #[.int .i64 k, .int .i64 o, .int .i64 s, .slice a n c] 114)
  by_cases h1 : o = 0
  · subst h1
    by_cases h2 : s = 0
    · subst h2
      by_cases h3 : n = 0
      · have HR : Hid (free 0 0 zs = true) := by rw [free, ← hn, h3]; rfl
        subst h3
        clear hn
        go_enter Try.func162, Try.ntmps162
        go_wp2
        go_ret
        exact ⟨ret_bool HR.out.symm, hB⟩
      · have HR : Hid (free 0 0 zs = false) := by rw [free, ← hn, decide_eq_false h3]; rfl
        have h3' : ((n : Int) == 0) = false := by simp; omega
        clear hn
        go_enter Try.func162, Try.ntmps162
        go_wp2
        go_ret
        exact ⟨ret_bool HR.out.symm, hB⟩
    · have HR : Hid (free 0 s zs = false) := by rw [free, decide_eq_false h2, Bool.false_and, Bool.and_false]; rfl
      have h2' : (s == 0) = false := by simpa using h2
      clear hn
      go_enter Try.func162, Try.ntmps162
      go_wp2
      go_ret
      exact ⟨ret_bool HR.out.symm, hB⟩
  · have HR : Hid (free o s zs = false) := by rw [free, decide_eq_false h1, Bool.false_and]; rfl
    have h1' : (o == 0) = false := by simpa using h1
    clear hn
    go_enter Try.func162, Try.ntmps162
    go_wp2
    go_ret
    exact ⟨ret_bool HR.out.symm, hB⟩

theorem fileSound (k o s : Int) (a : Option Addr) (c : Nat) (zs : List Int) (w : World) (hbig : zs.length ≤ 281474976710656) (hcap : zs.length ≤ c) (hR : P0.Row w a zs) :
    Calls Try.prog 155 #[val k o s a zs.length c] w fun e w' => e = .returned (.bool (holds o s zs)) ∧ Below w.heap.size w w' := by
  have hB := K0.below_new w (.cells #[.int .i64 k, .int .i64 o, .int .i64 s, .slice a zs.length c] 108)
  have hR' := hR.alloc (.cells #[.int .i64 k, .int .i64 o, .int .i64 s, .slice a zs.length c] 108)
  go_enter Try.func155, Try.ntmps155
  go_wp2_with (go_at_call 156; refine (holdsOk k o s a c zs _ hbig hcap hR').mono ?_; rintro e w' ⟨rfl, hb⟩)
  go_ret
  exact ⟨rfl, hB.trans (hb.mono hB.size)⟩

theorem dirSound (k o s : Int) (a : Option Addr) (c : Nat) (zs : List Int) (w : World) (hbig : zs.length ≤ 281474976710656) (hcap : zs.length ≤ c) (hR : P0.Row w a zs) :
    Calls Try.prog 161 #[val k o s a zs.length c] w fun e w' => e = .returned (.bool (holds o s zs && decide (s % 16 = 0))) ∧ Below w.heap.size w w' := by
  have hB := K0.below_new w (.cells #[.int .i64 k, .int .i64 o, .int .i64 s, .slice a zs.length c] 110)
  have hR' := hR.alloc (.cells #[.int .i64 k, .int .i64 o, .int .i64 s, .slice a zs.length c] 110)
  have hK := K0.blk_new (vals k o s a zs.length c) w 110
  by_cases hh : holds o s zs = true
  · have hs := hh
    simp only [holds, Bool.and_eq_true] at hs
    obtain ⟨hs1, hs2⟩ := B1.inB_true hs.2.1
    clear hs
    by_cases h16 : s % 16 = 0
    · have h16' : (s % 16 == 0) = true := by simpa using h16
      have HR : Hid ((holds o s zs && decide (s % 16 = 0)) = true) := by rw [hh, decide_eq_true h16]; rfl
      clear h16
      go_enter Try.func161, Try.ntmps161
      go_wp2_with (go_at_call 156; refine (holdsOk k o s a c zs _ hbig hcap hR').mono ?_; rintro e w' ⟨rfl, hb⟩; have hK' := hK.below hb; have c2 := hK'.c2)
      go_ret
      exact ⟨ret_bool HR.out.symm, hB.trans (hb.mono hB.size)⟩
    · have h16' : (s % 16 == 0) = false := by simpa using h16
      have HR : Hid ((holds o s zs && decide (s % 16 = 0)) = false) := by rw [decide_eq_false h16, Bool.and_false]; rfl
      clear h16
      go_enter Try.func161, Try.ntmps161
      go_wp2_with (go_at_call 156; refine (holdsOk k o s a c zs _ hbig hcap hR').mono ?_; rintro e w' ⟨rfl, hb⟩; have hK' := hK.below hb; have c2 := hK'.c2)
      go_ret
      exact ⟨ret_bool HR.out.symm, hB.trans (hb.mono hB.size)⟩
  · have hh' : holds o s zs = false := by simpa using hh
    have HR : Hid ((holds o s zs && decide (s % 16 = 0)) = false) := by rw [hh', Bool.false_and]; rfl
    go_enter Try.func161, Try.ntmps161
    go_wp2_with (go_at_call 156; refine (holdsOk k o s a c zs _ hbig hcap hR').mono ?_; rintro e w' ⟨rfl, hb⟩)
    go_ret
    exact ⟨ret_bool HR.out.symm, hB.trans (hb.mono hB.size)⟩
end Go.Proofs.Ytifddipnboifnaa.I0
