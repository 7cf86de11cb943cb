/- The lines that differ; the contract of spec.Dirty, as the given laws call it. -/
import Derived.Test.YtkpcpffpiilcpaaInt1
import Derived.Test.YtkpcpffpiilcpaaFls2
import Derived.Test.YtkpcpffpiilcpaaSpecPart1
import Derived.Deep.RegionHeld3
namespace Go.Proofs.Ytkpcpffpiilcpaa.Y0
open Go.ChangeShapes Go.WideShapes Go.ChangeAt Go.RowKit
set_option linter.unusedVariables false
set_option linter.unusedSimpArgs false
set_option maxRecDepth 10000

/-- Whether a line is the same in both. -/
def same (a b : ByteArray) (k : Nat) : Bool := (B2.part a ((k : Int) * 8) 8).toList == (B2.part b ((k : Int) * 8) 8).toList

/-- The first lines that are not. -/
def drt (a b : ByteArray) (k : Nat) : List Int := ((List.range k).filter fun j => !same a b j).map fun (j : Nat) => (j : Int)

def dirty (a b : ByteArray) : List Int := if D1.ok a b then drt a b 96 else []

theorem drt_yes {a b : ByteArray} {k : Nat} (h : same a b k = true) : drt a b (k + 1) = drt a b k := by simp [drt, List.range_succ, List.filter_append, h]
theorem drt_no {a b : ByteArray} {k : Nat} (h : same a b k = false) : drt a b k ++ [(k : Int)] = drt a b (k + 1) := by simp [drt, List.range_succ, List.filter_append, h]
theorem drt_len (a b : ByteArray) (k : Nat) : (drt a b k).length ≤ k := by
  have := List.length_filter_le (fun j => !same a b j) (List.range k)
  simpa [drt] using this
theorem dirty_len (a b : ByteArray) : (dirty a b).length ≤ 96 := by
  unfold dirty
  split
  · exact drt_len a b 96
  · exact Nat.zero_le _

/-- What Dirty answers. -/
def Ans (a b : ByteArray) (w : World) (e : Ending) (w' : World) : Prop :=
  ∃ p c, e = .returned (.slice p (dirty a b).length c) ∧ J0.Own w.heap.size w' p (dirty a b) ∧ (dirty a b).length ≤ c ∧ Below w.heap.size w w'

theorem ans_no {a b : ByteArray} {w w' : World} {p : Option Addr} {c : Nat} (h : D1.ok a b = false) (hb : Below w.heap.size w w') : Ans a b w (.returned (.slice p 0 c)) w' := by
  have hd : dirty a b = [] := by rw [dirty, h]; rfl
  exact ⟨p, c, by rw [hd]; rfl, by rw [hd]; exact Or.inl rfl, by rw [hd]; exact Nat.zero_le _, hb⟩

theorem ans_yes {a b : ByteArray} {w w' : World} {p : Option Addr} {n c : Nat} (h : D1.ok a b = true) (hn : n = (drt a b 96).length) (ho : J0.Own w.heap.size w' p (drt a b 96)) (hc : n ≤ c) (hb : Below w.heap.size w w') : Ans a b w (.returned (.slice p n c)) w' := by
  have hd : dirty a b = drt a b 96 := by rw [dirty, h]; rfl
  subst hn
  exact ⟨p, c, by rw [hd], by rw [hd]; exact ho, by rw [hd]; exact hc, hb⟩

set_option maxHeartbeats 4000000 in
theorem spec_Dirty (a b : ByteArray) (w : World) (ha : a.size ≤ 281474976710656) (hb : b.size ≤ 281474976710656) : Calls Try.prog 19 #[.agg #[.string a, .string b]] w (Ans a b w) := by
  have hma : a.size ≤ maxLen := by unfold maxLen; omega
  have hmb : b.size ≤ maxLen := by unfold maxLen; omega
  have HN : Hid (∀ p c w', D1.ok a b = false → Below w.heap.size w w' → Ans a b w (.returned (.slice p 0 c)) w') := fun p c w' h hb => ans_no h hb
  have HY : Hid (∀ p n c w', D1.ok a b = true → n = (drt a b 96).length → J0.Own w.heap.size w' p (drt a b 96) → n ≤ c → Below w.heap.size w w' → Ans a b w (.returned (.slice p n c)) w') := fun p n c w' h1 hn ho hc hb => ans_yes h1 hn ho hc hb
  obtain ⟨R, hR⟩ : ∃ R, Ans a b w = R := ⟨_, rfl⟩
  rw [hR] at HN HY ⊢
  clear hR
  have k0 := (K0.blk_new [.string a, .string b] w 25).alloc (.cells #[] 3)
  have b0 := J0.ibuf_made (base := w.heap.size + 1) (w.alloc (.cells #[.string a, .string b] 25)) (by simp)
  have l0 := (K0.below_new w (.cells #[.string a, .string b] 25)).alloc (by simp) (.cells #[] 3)
  have hdv : Hid (∀ W, Calls Try.prog 21 #[.agg #[.string a, .string b]] W fun e w' => e = .returned (.bool (D1.ok a b)) ∧ w' = W.alloc (.cells #[.string a, .string b] 25)) := fun W => D1.spec_DevOk a b W hma hmb
  by_cases hok : D1.ok a b = true
  · rw [hok] at hdv
    go_enter Try.func19, Try.ntmps19
    go_wp2
    go_loopw [3, 4] (fun v i w' => ∃ (k n c : Nat) (p : Option Addr), k ≤ 96 ∧ i = .int .i64 (k : Int) ∧ v = .slice p n c ∧ J0.IBuf (w.heap.size + 1) w' p n c (drt a b k) ∧ K0.Blk w.heap.size [.string a, .string b] w' ∧ Below w.heap.size w w') (fun _ i _ => 96 - (intOf i).toNat)
    case atStart => exact ⟨0, 0, 0, _, Nat.zero_le _, rfl, rfl, by simpa [drt] using b0, k0, l0⟩
    case round =>
      obtain ⟨k, n, c, p, hk, rfl, rfl, hbuf, hblk, hbel⟩ := hrel
      clear b0 k0 l0
      by_cases hlt : k < 96
      · have e1 : (k : Int) < 96 := by omega
        have x0 := hblk.cell 0 (by simp)
        have x1 := hblk.cell 1 (by simp)
        simp only [List.getElem_cons_zero, List.getElem_cons_succ] at x0 x1
        have hwr : IntKind.i64.wrap ((k : Int) * 8) = (k : Int) * 8 := by rw [IntKind.wrap_i64]; omega
        have wk : (Lit.int .i64 ((k : Int) * 8)).wf = true := F2.wf_of _ (by omega) (by omega)
        have hn : n ≤ 96 := by rw [hbuf.1]; have := drt_len a b k; omega
        obtain ⟨W1, hW1⟩ : ∃ W1, wr.alloc (.cells #[.string a, .string b] 25) = W1 := ⟨_, rfl⟩
        have u1 := hbuf.alloc (.cells #[.string a, .string b] 25)
        have k1 := hblk.alloc (.cells #[.string a, .string b] 25)
        have f1 := hbel.alloc hbel.size (.cells #[.string a, .string b] 25)
        have s1 : w.heap.size + 1 ≤ W1.heap.size := by rw [← hW1]; have := hbel.size; simp; omega
        have hdk : Hid (Calls Try.prog 21 #[.agg #[.string a, .string b]] wr fun e w' => e = .returned (.bool true) ∧ w' = W1) := by have := hdv.out wr; rw [hW1] at this; exact this
        rw [hW1] at u1 k1 f1
        have y0 := k1.cell 0 (by simp)
        have y1 := k1.cell 1 (by simp)
        simp only [List.getElem_cons_zero, List.getElem_cons_succ] at y0 y1
        have hpt : Hid (∀ (s : ByteArray) W, s.size ≤ maxLen → Calls Try.prog 48 #[.string s, .int .i64 ((k : Int) * 8), .int .i64 8] W fun e w' => e = .returned (.string (B2.part s ((k : Int) * 8) 8)) ∧ W = w') := fun s W hs => (B2.spec_Part _ _ _ _ hs wk rfl).mono fun _ _ h => ⟨h.1, h.2.symm⟩
        have HQ : Hid (same a b k = ((B2.part a ((k : Int) * 8) 8).toList == (B2.part b ((k : Int) * 8) 8).toList)) := rfl
        have hS0 : W1.drew.cell? ⟨w.heap.size, 0, none⟩ = some (.string a) ∧ W1.drew.cell? ⟨w.heap.size, 1, none⟩ = some (.string b) := ⟨y0, y1⟩
        clear hdv hW1 hbuf hblk
        by_cases hs : ((B2.part a ((k : Int) * 8) 8).toList == (B2.part b ((k : Int) * 8) 8).toList) = true
        · have HS : Hid (drt a b (k + 1) = drt a b k) := drt_yes (by rw [HQ.out]; exact hs)
          go_wp2_with (go_at_call 21; refine hdk.out.mono ?_; rintro e w1 ⟨rfl, rfl⟩)
          go_region_held3 (fun W => W.cell? ⟨w.heap.size, 0, none⟩ = some (.string a) ∧ W.cell? ⟨w.heap.size, 1, none⟩ = some (.string b)) (assumption) ((go_at_call 48; refine (hpt.out _ _ (by assumption)).mono ?_; rintro e w3 ⟨rfl, rfl⟩))
          all_goals
            go_wp2
            go_roundw
            case rel => exact ⟨k + 1, n, c, p, by omega, by go_num, rfl, by rw [HS.out]; exact u1.drewN 1, k1.drewN 1, K0.below_drewN f1 1⟩
            case measure => simp [intOf]; omega
        · have hs' : ((B2.part a ((k : Int) * 8) 8).toList == (B2.part b ((k : Int) * 8) 8).toList) = false := by simpa using hs
          have HS : Hid (drt a b k ++ [(k : Int)] = drt a b (k + 1)) := drt_no (by rw [HQ.out]; exact hs')
          clear hs
          go_wp2_with (go_at_call 21; refine hdk.out.mono ?_; rintro e w1 ⟨rfl, rfl⟩)
          go_region_held3 (fun W => W.cell? ⟨w.heap.size, 0, none⟩ = some (.string a) ∧ W.cell? ⟨w.heap.size, 1, none⟩ = some (.string b)) (assumption) ((go_at_call 48; refine (hpt.out _ _ (by assumption)).mono ?_; rintro e w3 ⟨rfl, rfl⟩))
          all_goals
            go_wp2_with (at_builtin; refine J0.append_int rfl (.tmp 25) (.tmp 27) rfl (u1.drewN 1) _ (by rfl) (by rfl) (by omega) s1 ?_; intro g1 cap1 w4 hbuf4 bel4)
            go_roundw
            case rel => exact ⟨k + 1, n + 1, cap1, _, by omega, by go_num, rfl, by rw [← HS.out]; exact hbuf4, J0.blk_keep (k1.drewN 1) bel4 (by omega), (K0.below_drewN f1 1).trans (bel4.mono (by omega))⟩
            case measure => simp [intOf]; omega
      · obtain rfl : k = 96 := by omega
        clear hdv
        go_wp2
        exact HY.out _ _ _ _ hok hbuf.1 (hbuf.own.mono (by omega)) hbuf.fits hbel
  · have hok' : D1.ok a b = false := by simpa using hok
    rw [hok'] at hdv
    go_enter Try.func19, Try.ntmps19
    go_wp2
    have x0 := k0.cell 0 (by simp)
    have x1 := k0.cell 1 (by simp)
    simp only [List.getElem_cons_zero, List.getElem_cons_succ] at x0 x1
    obtain ⟨W0, hW0⟩ : ∃ W0, (w.alloc (.cells #[.string a, .string b] 25)).alloc (.cells #[] 3) = W0 := ⟨_, rfl⟩
    rw [hW0] at x0 x1 l0 ⊢
    clear hW0 k0 b0
    go_loopw [3, 4] (fun v i w' => i = .int .i64 0 ∧ (∃ p, v = .slice p 0 0) ∧ w' = W0) (fun _ _ _ => 0)
    case atStart => exact ⟨rfl, ⟨_, rfl⟩, rfl⟩
    case round =>
      obtain ⟨rfl, ⟨p, rfl⟩, rfl⟩ := hrel
      have f1 := l0.alloc l0.size (.cells #[.string a, .string b] 25)
      go_wp2_with (go_at_call 21; refine (hdv.out _).mono ?_; rintro e w1 ⟨rfl, rfl⟩)
      exact HN.out _ _ _ hok' f1
end Go.Proofs.Ytkpcpffpiilcpaa.Y0
