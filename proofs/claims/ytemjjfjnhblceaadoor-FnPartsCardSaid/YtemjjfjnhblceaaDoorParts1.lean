/- The contracts of chapter 1 and of its draws, told of the world that a law began in; and what laws.FnParts asks of what is drawn. -/
import Derived.Test.YtemjjfjnhblceaaDoorDraw2
import Derived.Test.YtemjjfjnhblceaaDoorByteAt1
import Derived.Test.YtemjjfjnhblceaaDoorSpecPart1
import Derived.Test.YtemjjfjnhblceaaDoorImplPart1
import Derived.Test.YtemjjfjnhblceaaDoorWith1
import Derived.Test.YtemjjfjnhblceaaDoorPair1
import Derived.Test.YtemjjfjnhblceaaDoorPairAt1
import Derived.Test.YtemjjfjnhblceaaDoorZeros1
import Derived.Test.YtemjjfjnhblceaaDoorRead2
import Derived.Test.YtemjjfjnhblceaaDoorHex2
import Derived.Test.YtemjjfjnhblceaaDoorWords2
import Derived.Test.YtemjjfjnhblceaaDoorSame1
namespace Go.Proofs.YtemjjfjnhblceaaDoor.P1
open Go.ChangeShapes Go.WideShapes Go.ChangeAt Go.RowKit C0
set_option linter.unusedVariables false

theorem tr {w wk w' : World} (f : Below w.heap.size w wk) (b : Below wk.heap.size wk w') : Below w.heap.size w w' := f.trans (b.mono f.size)
theorem trN {w wk : World} (f : Below w.heap.size w wk) (n : Nat) : Below w.heap.size w (wk.drewN n) := ⟨f.os, f.tape, f.output, f.size, f.block⟩

section
variable {w wk : World} {a : Option Addr} {len cap : Nat}

theorem dWith (hc : Given w a len) (hl : len ≤ 1048576) (f : Below w.heap.size w wk) :
    Calls Tryd.prog 5 #[.slice a len cap] wk fun e w' => ∃ (s : ByteArray) (i : Int) (t : ByteArray), s.size ≤ 8 ∧ (Lit.int .i64 i).wf = true ∧ t.size ≤ 4 ∧ e = .returned (.tuple #[.string s, .int .i64 i, .string t]) ∧ Below w.heap.size w w' :=
  (C1.draw_With (hc.below f) hl).mono fun e w' ⟨s, i, t, h1, h2, h3, h4, b⟩ => ⟨s, i, t, h1, h2, h3, h4, tr f b⟩
theorem dPart (hc : Given w a len) (hl : len ≤ 1048576) (f : Below w.heap.size w wk) :
    Calls Tryd.prog 7 #[.slice a len cap] wk fun e w' => ∃ (s : ByteArray) (i n : Int), s.size ≤ 8 ∧ (Lit.int .i64 i).wf = true ∧ (Lit.int .i64 n).wf = true ∧ e = .returned (.tuple #[.string s, .int .i64 i, .int .i64 n]) ∧ Below w.heap.size w w' :=
  (C1.draw_Part (hc.below f) hl).mono fun e w' ⟨s, i, t, h1, h2, h3, h4, b⟩ => ⟨s, i, t, h1, h2, h3, h4, tr f b⟩
theorem dByteAt (hc : Given w a len) (hl : len ≤ 1048576) (f : Below w.heap.size w wk) :
    Calls Tryd.prog 15 #[.slice a len cap] wk fun e w' => ∃ (s : ByteArray) (i : Int), s.size ≤ 8 ∧ (Lit.int .i64 i).wf = true ∧ e = .returned (.tuple #[.string s, .int .i64 i]) ∧ Below w.heap.size w w' :=
  (C1.draw_two (hc.below f) hl _ (Or.inl rfl)).mono fun e w' ⟨s, i, h1, h2, h4, b⟩ => ⟨s, i, h1, h2, h4, tr f b⟩
theorem dPairAt (hc : Given w a len) (hl : len ≤ 1048576) (f : Below w.heap.size w wk) :
    Calls Tryd.prog 9 #[.slice a len cap] wk fun e w' => ∃ (s : ByteArray) (i : Int), s.size ≤ 8 ∧ (Lit.int .i64 i).wf = true ∧ e = .returned (.tuple #[.string s, .int .i64 i]) ∧ Below w.heap.size w w' :=
  (C1.draw_two (hc.below f) hl _ (Or.inr rfl)).mono fun e w' ⟨s, i, h1, h2, h4, b⟩ => ⟨s, i, h1, h2, h4, tr f b⟩
theorem dPair (hc : Given w a len) (hl : len ≤ 1048576) (f : Below w.heap.size w wk) :
    Calls Tryd.prog 8 #[.slice a len cap] wk fun e w' => ∃ (n : Int), (Lit.int .i64 n).wf = true ∧ e = .returned (.int .i64 n) ∧ Below w.heap.size w w' :=
  (C1.draw_Pair (hc.below f) hl).mono fun e w' ⟨n, h1, h4, b⟩ => ⟨n, h1, h4, tr f b⟩
theorem dZeros (hc : Given w a len) (hl : len ≤ 1048576) (f : Below w.heap.size w wk) :
    Calls Tryd.prog 10 #[.slice a len cap] wk fun e w' => ∃ (n : Int), (Lit.int .i64 n).wf = true ∧ e = .returned (.int .i64 n) ∧ Below w.heap.size w w' :=
  (C1.draw_Zeros (hc.below f) hl).mono fun e w' ⟨n, h1, h4, b⟩ => ⟨n, h1, h4, tr f b⟩
theorem dDecText (hc : Given w a len) (hl : len ≤ 1048576) (f : Below w.heap.size w wk) :
    Calls Tryd.prog 12 #[.slice a len cap] wk fun e w' => ∃ (n : Int), (Lit.int .i64 n).wf = true ∧ e = .returned (.int .i64 n) ∧ Below w.heap.size w w' :=
  (C1.draw_DecText (hc.below f) hl).mono fun e w' ⟨n, h1, h4, b⟩ => ⟨n, h1, h4, tr f b⟩
theorem dReadDec (hc : Given w a len) (hl : len ≤ 1048576) (f : Below w.heap.size w wk) :
    Calls Tryd.prog 11 #[.slice a len cap] wk fun e w' => ∃ (s : ByteArray), s.size ≤ 48 ∧ e = .returned (.string s) ∧ Below w.heap.size w w' :=
  (C1.draw_ReadDec (hc.below f) hl).mono fun e w' ⟨n, h1, h4, b⟩ => ⟨n, h1, h4, tr f b⟩
theorem dHex (hc : Given w a len) (hl : len ≤ 1048576) (f : Below w.heap.size w wk) :
    Calls Tryd.prog 13 #[.slice a len cap] wk fun e w' => ∃ (s : ByteArray), s.size ≤ 48 ∧ e = .returned (.string s) ∧ Below w.heap.size w w' :=
  (C1.draw_Hex (hc.below f) hl).mono fun e w' ⟨n, h1, h4, b⟩ => ⟨n, h1, h4, tr f b⟩
theorem dWords (hc : Given w a len) (hl : len ≤ 1048576) (f : Below w.heap.size w wk) :
    Calls Tryd.prog 14 #[.slice a len cap] wk fun e w' => ∃ (s : ByteArray), s.size ≤ 48 ∧ e = .returned (.string s) ∧ Below w.heap.size w w' :=
  (C1.draw_Words (hc.below f) hl).mono fun e w' ⟨n, h1, h4, b⟩ => ⟨n, h1, h4, tr f b⟩
end

section
variable {w wk : World}

theorem iWith (s : ByteArray) (i : Int) (t : ByteArray) (hs : s.size ≤ 8) (ht : t.size ≤ 4) (f : Below w.heap.size w wk) :
    Calls Tryd.prog 6 #[.string s, .int .i64 i, .string t] wk fun e w' => ∃ W, Hid (B5.laid s i t = W) ∧ e = .returned (.string W) ∧ Below w.heap.size w w' :=
  (B5.impl_With s i t wk (by omega) (by omega)).mono fun e w' ⟨h, b⟩ => ⟨_, rfl, h, tr f b⟩
theorem sWith (s : ByteArray) (i : Int) (t W : ByteArray) (hs : s.size ≤ 8) (ht : t.size ≤ 4) (hW : Hid (B5.laid s i t = W)) (f : Below w.heap.size w wk) :
    Calls Tryd.prog 16 #[.string s, .int .i64 i, .string t] wk fun e w' => e = .returned (.string W) ∧ Below w.heap.size w w' :=
  (B5.spec_With s i t wk (by omega) (by omega)).mono fun e w' ⟨h, n, b⟩ => ⟨by rw [← hW.out]; exact h, by rw [b]; exact trN f n⟩
theorem iPart (s : ByteArray) (i n : Int) (hs : s.size ≤ 8) (f : Below w.heap.size w wk) :
    Calls Tryd.prog 17 #[.string s, .int .i64 i, .int .i64 n] wk fun e w' => e = .returned (.string (B2.part s i n)) ∧ Below w.heap.size w w' :=
  (B2.impl_Part s i n wk (by omega)).mono fun e w' ⟨h, b⟩ => ⟨h, tr f b⟩
theorem sPart (s : ByteArray) (i n : Int) (hs : s.size ≤ 8) (wi : (Lit.int .i64 i).wf = true) (wn : (Lit.int .i64 n).wf = true) (f : Below w.heap.size w wk) :
    Calls Tryd.prog 18 #[.string s, .int .i64 i, .int .i64 n] wk fun e w' => e = .returned (.string (B2.part s i n)) ∧ Below w.heap.size w w' :=
  (B2.spec_Part s i n wk (by unfold maxLen; omega) wi wn).mono fun e w' ⟨h, b⟩ => ⟨h, by rw [b]; exact f⟩
theorem iPair (n : Int) (f : Below w.heap.size w wk) :
    Calls Tryd.prog 19 #[.int .i64 n] wk fun e w' => e = .returned (.string (B3.pair n)) ∧ Below w.heap.size w w' :=
  (B3.impl_Pair n wk).mono fun e w' ⟨h, b⟩ => ⟨h, tr f b⟩
theorem sPair (n : Int) (f : Below w.heap.size w wk) :
    Calls Tryd.prog 20 #[.int .i64 n] wk fun e w' => e = .returned (.string (B3.pair n)) ∧ Below w.heap.size w w' :=
  (B3.spec_Pair n wk).mono fun e w' ⟨h, b⟩ => ⟨h, tr f b⟩
theorem iPairAt (s : ByteArray) (i : Int) (hs : s.size ≤ 8) (f : Below w.heap.size w wk) :
    Calls Tryd.prog 21 #[.string s, .int .i64 i] wk fun e w' => e = .returned (.int .i64 (B6.pairAt s i)) ∧ Below w.heap.size w w' :=
  (B6.impl_PairAt s i wk (by omega)).mono fun e w' ⟨h, n, b⟩ => ⟨h, by rw [b]; exact trN f n⟩
theorem sPairAt (s : ByteArray) (i : Int) (hs : s.size ≤ 8) (f : Below w.heap.size w wk) :
    Calls Tryd.prog 22 #[.string s, .int .i64 i] wk fun e w' => e = .returned (.int .i64 (B6.pairAt s i)) ∧ Below w.heap.size w w' :=
  (B6.spec_PairAt s i wk (by omega)).mono fun e w' ⟨h, n, b⟩ => ⟨h, by rw [b]; exact trN f n⟩
theorem iZeros (n : Int) (f : Below w.heap.size w wk) :
    Calls Tryd.prog 23 #[.int .i64 n] wk fun e w' => e = .returned (.string (B4.zeros n)) ∧ Below w.heap.size w w' :=
  (B4.impl_Zeros n wk).mono fun e w' ⟨h, b⟩ => ⟨h, tr f b⟩
theorem sZeros (n : Int) (f : Below w.heap.size w wk) :
    Calls Tryd.prog 24 #[.int .i64 n] wk fun e w' => e = .returned (.string (B4.zeros n)) ∧ Below w.heap.size w w' :=
  (B4.spec_Zeros n wk).mono fun e w' ⟨h, b⟩ => ⟨h, by rw [b]; exact f⟩
theorem iReadDec (s : ByteArray) (hs : s.size ≤ 48) (ht : Lib.TabIs Tryd.prog w "internal/strconv.uint64pow10" .u64 Lib.pow10Tab) (f : Below w.heap.size w wk) :
    Calls Tryd.prog 25 #[.string s] wk fun e w' => e = .returned (.int .i64 (R0.rd s)) ∧ Below w.heap.size w w' :=
  (R1.impl_ReadDec s wk (by omega) (L0.tab_below ht f)).mono fun e w' ⟨h, b⟩ => ⟨h, tr f b⟩
theorem sReadDec (s : ByteArray) (hs : s.size ≤ 48) (f : Below w.heap.size w wk) :
    Calls Tryd.prog 26 #[.string s] wk fun e w' => e = .returned (.int .i64 (R0.rd s)) ∧ Below w.heap.size w w' :=
  (R1.spec_ReadDec s wk (by omega)).mono fun e w' ⟨h, b⟩ => ⟨h, by rw [b]; exact f⟩
theorem iDecText (n : Int) (hn : (Lit.int .i64 n).wf = true) (ht : Lib.TabIs Tryd.prog w "internal/strconv.uint64pow10" .u64 Lib.pow10Tab) (f : Below w.heap.size w wk) :
    Calls Tryd.prog 27 #[.int .i64 n] wk fun e w' => e = .returned (.string ⟨(Lib.itoa n).toArray⟩) ∧ Below w.heap.size w w' :=
  (D1.impl_DecText n hn wk (L0.tab_below ht f)).mono fun e w' ⟨h, b⟩ => ⟨h, tr f b⟩
theorem sDecText (n : Int) (hn : (Lit.int .i64 n).wf = true) (f : Below w.heap.size w wk) :
    Calls Tryd.prog 28 #[.int .i64 n] wk fun e w' => e = .returned (.string ⟨(Lib.itoa n).toArray⟩) ∧ Below w.heap.size w w' :=
  (D1.spec_DecText n hn wk).mono fun e w' ⟨h, b⟩ => ⟨h, by rw [b]; exact f⟩
theorem iHex (s : ByteArray) (hs : s.size ≤ 48) (ht : Lib.TabIs Tryd.prog w "loop.example/g00278/impl.hexDigits" .u8 H1.tab) (f : Below w.heap.size w wk) :
    Calls Tryd.prog 29 #[.string s] wk fun e w' => e = .returned (.string (H1.hex s)) ∧ Below w.heap.size w w' :=
  (H1.impl_Hex s wk (by omega) (L0.tab_below ht f)).mono fun e w' ⟨h, b⟩ => ⟨h, tr f b⟩
theorem sHex (s : ByteArray) (hs : s.size ≤ 48) (f : Below w.heap.size w wk) :
    Calls Tryd.prog 30 #[.string s] wk fun e w' => e = .returned (.string (H1.hex s)) ∧ Below w.heap.size w w' :=
  (H1.spec_Hex s wk (by omega)).mono fun e w' ⟨h, n, b⟩ => ⟨h, by rw [b]; exact trN f n⟩
theorem iWords (s : ByteArray) (hs : s.size ≤ 48) (f : Below w.heap.size w wk) :
    Calls Tryd.prog 32 #[.string s] wk fun e w' => ∃ g cap, e = .returned (.slice (some ⟨g, 0, none⟩) (W0.words s).length cap) ∧ W0.Row w' g (W0.words s) ∧ Below w.heap.size w w' :=
  (W1.impl_Words s wk (by omega)).mono fun e w' ⟨g, cap, h, o, b⟩ => ⟨g, cap, h, (W0.row_of_owns o (by rw [W0.words_len]; omega)).1, tr f b⟩
theorem sWords (s : ByteArray) (g2 : Nat) (hs : s.size ≤ 48) (r : W0.Row wk g2 (W0.words s)) (f : Below w.heap.size w wk) :
    Calls Tryd.prog 33 #[.string s] wk fun e w' => ∃ g cap, e = .returned (.slice (some ⟨g, 0, none⟩) (W0.words s).length cap) ∧ W0.Row w' g (W0.words s) ∧ W0.Row w' g2 (W0.words s) ∧ Below w.heap.size w w' :=
  (W1.spec_Words s wk (by omega)).mono fun e w' ⟨g, cap, h, o, b⟩ => ⟨g, cap, h, (W0.row_of_owns o (by rw [W0.words_len]; omega)).1, r.below b, tr f b⟩
theorem same (s : ByteArray) (g1 c1 g2 c2 : Nat) (hs : s.size ≤ 48) (r1 : W0.Row wk g1 (W0.words s)) (r2 : W0.Row wk g2 (W0.words s)) (f : Below w.heap.size w wk) :
    Calls Tryd.prog 31 #[.slice (some ⟨g1, 0, none⟩) (W0.words s).length c1, .slice (some ⟨g2, 0, none⟩) (W0.words s).length c2] wk fun e w' => e = .returned (.bool true) ∧ Below w.heap.size w w' :=
  (M1.sameS (W0.words s) g1 c1 g2 c2 wk r1 r2 (by have := W0.words_len s; have := W0.st_le s s.size; omega)).mono fun e w' ⟨h, n, b⟩ => ⟨h, by rw [b]; exact trN f n⟩
theorem iByteAt (s : ByteArray) (i : Int) (hs : s.size ≤ 8) (f : Below w.heap.size w wk) :
    Calls Tryd.prog 34 #[.string s, .int .i64 i] wk fun e w' => e = .returned (.int .i64 (B1.byteAt s i)) ∧ Below w.heap.size w w' :=
  (B1.impl_ByteAt s i wk (by unfold maxLen; omega)).mono fun e w' ⟨h, b⟩ => ⟨h, by rw [b]; exact f⟩
theorem sByteAt (s : ByteArray) (i : Int) (hs : s.size ≤ 8) (f : Below w.heap.size w wk) :
    Calls Tryd.prog 35 #[.string s, .int .i64 i] wk fun e w' => e = .returned (.int .i64 (B1.byteAt s i)) ∧ Below w.heap.size w w' :=
  (B1.spec_ByteAt s i wk (by unfold maxLen; omega)).mono fun e w' ⟨h, b⟩ => ⟨h, by rw [b]; exact f⟩
end

theorem laid_size (s : ByteArray) (i : Int) (t : ByteArray) : (B5.laid s i t).size = s.size := by
  unfold B5.laid
  split
  · rename_i h
    obtain ⟨h1, h2, h3⟩ := B2.lies_true h
    simp only [ByteArray.size_append, ByteArray.size_extract]
    omega
  · rfl

theorem get_data (s : ByteArray) (k : Nat) (h : k < s.size) : s.data.toList[k]'(by rw [← Lib.size_eq]; exact h) = s[k] := rfl

theorem laid_list (s : ByteArray) (i : Int) (t : ByteArray) (h : B2.lies s.size i t.size = true) : (B5.laid s i t).data.toList = s.data.toList.take i.toNat ++ t.data.toList ++ s.data.toList.drop (i.toNat + t.data.toList.length) := by
  obtain ⟨h1, h2, h3⟩ := B2.lies_true h
  have e : B5.laid s i t = s.extract 0 i.toNat ++ t ++ s.extract (i + t.size).toNat s.size := by rw [B5.laid, h]; rfl
  rw [e, show (i + (t.size : Int)).toNat = i.toNat + t.size by omega, B5.laid_eq s i.toNat t (by omega)]

/-- Where a byte is another than it was, it lies among those that were put in. -/
theorem laid_other (s : ByteArray) (i : Int) (t : ByteArray) (k : Nat) (h1 : k < (B5.laid s i t).size) (h2 : k < s.size) (hne : (B5.laid s i t)[k] ≠ s[k]) : i ≤ k ∧ (k : Int) < i + t.size ∧ i + t.size ≤ s.size := by
  by_cases h : B2.lies s.size i t.size = true
  · obtain ⟨a1, a2, a3⟩ := B2.lies_true h
    have hl := laid_list s i t h
    have hs := Lib.size_eq s
    have ht := Lib.size_eq t
    by_cases c1 : k < i.toNat
    · exfalso
      apply hne
      rw [← get_data _ k h1, ← get_data s k h2]
      simp only [hl]
      rw [List.getElem_append_left (by simp; omega), List.getElem_append_left (by simp; omega), List.getElem_take]
    · by_cases c2 : k < i.toNat + t.size
      · exact ⟨by omega, by omega, by omega⟩
      · exfalso
        apply hne
        rw [← get_data _ k h1, ← get_data s k h2]
        simp only [hl]
        have e : i.toNat + t.data.toList.length + (k - (s.data.toList.take i.toNat ++ t.data.toList).length) = k := by rw [List.length_append, List.length_take]; omega
        rw [List.getElem_append_right (by simp; omega), List.getElem_drop]
        simp only [e]
  · exfalso
    apply hne
    have e : B5.laid s i t = s := by rw [B5.laid, if_neg h]
    simp only [e]

theorem part_laid (s : ByteArray) (i : Int) (t : ByteArray) (h0 : 0 ≤ i) (h1 : i ≤ (s.size : Int) - (t.size : Int)) : B2.part (B5.laid s i t) i (t.size : Int) = t := by
  have h : B2.lies s.size i t.size = true := decide_eq_true ⟨h0, by omega, by omega⟩
  have hl := laid_list s i t h
  have hs := Lib.size_eq s
  have ht := Lib.size_eq t
  rw [B2.part, show B2.lies (B5.laid s i t).size i t.size = true by rw [laid_size]; exact h, if_pos rfl]
  apply ByteArray.ext
  apply Array.toList_inj.1
  rw [Lib.extract_data, hl, show (i + (t.size : Int)).toNat - i.toNat = t.data.toList.length by omega]
  rw [List.append_assoc, List.drop_left' (by rw [List.length_take]; omega), List.take_left' rfl]

theorem hex_size (s : ByteArray) : (H1.hex s).size = 2 * s.size := by
  show (H0.hexL s.data.toList).toArray.size = _
  rw [List.size_toArray, H0.hexL_length, ← Lib.size_eq]

theorem rd_bounds (s : ByteArray) : -1 ≤ R0.rd s ∧ R0.rd s ≤ 999999 := by
  unfold R0.rd
  split
  · rename_i h
    have := R0.val_take_le s s.size (by rw [R0.take_all]; exact h.1) h.2.1
    rw [R0.take_all] at this
    omega
  · omega

theorem rd_text (s : ByteArray) (h0 : 0 ≤ R0.rd s) : Lib.itoa (R0.rd s) = s.data.toList := by
  unfold R0.rd at h0 ⊢
  split
  · rename_i h
    exact h.2.2
  · rename_i h
    rw [if_neg h] at h0
    omega

theorem pair_size (m : Int) : (B3.pair m).size ≤ 2 := by
  unfold B3.pair
  split
  · exact Nat.le_refl _
  · exact Nat.zero_le _

theorem pair_back (m : Int) (h : (B3.pair m).toList ≠ []) : B6.pairAt (⟨#[120]⟩ ++ B3.pair m) 1 = m := by
  unfold B3.pair at h ⊢
  split
  · rename_i hin
    obtain ⟨h1, h2⟩ := B1.inB_true hin
    have e : (⟨#[120]⟩ ++ ⟨#[UInt8.ofNat (m % 256).toNat, UInt8.ofNat (m / 256).toNat]⟩ : ByteArray) = ⟨#[120, UInt8.ofNat (m % 256).toNat, UInt8.ofNat (m / 256).toNat]⟩ := rfl
    rw [e, B6.pairAt, dif_pos ⟨by omega, by show (1 : Int) + 1 < ((3 : Nat) : Int); omega⟩]
    have a1 := B3.ofNat_int (m % 256) (by omega) (by omega)
    have a2 := B3.ofNat_int (m / 256) (by omega) (by omega)
    show ((UInt8.ofNat (m % 256).toNat).toNat : Int) + 256 * ((UInt8.ofNat (m / 256).toNat).toNat : Int) = m
    rw [a1, a2]
    omega
  · rename_i hin
    rw [if_neg hin] at h
    exact absurd (Lib.toList_data _) h
end Go.Proofs.YtemjjfjnhblceaaDoor.P1
