/- Joined texts: plain facts and contracts, as each part says. -/
import Derived.Test.YtifddipnboifnaaJdD
import Derived.Test.YtifddipnboifnaaJdA
import Derived.Deep.QuietTactic
import Derived.BigQuiet
import Derived.Test.YtifddipnboifnaaJdE
import Derived.Test.YtifddipnboifnaaJdC
import Derived.Lib.SmallJoins
import Derived.OpenShut
import Derived.ShutString
import Derived.Laws.MakeOwn

/- The contract of spec.GetDir, as the given laws call it. -/
namespace Go.Proofs.Ytifddipnboifnaa.V3
open Go.ChangeShapes Go.WideShapes Go.ChangeAt Go.RowKit
set_option linter.unusedVariables false
set_option linter.unusedSimpArgs false
set_option maxRecDepth 10000

open V1 (Ans ans_no ans_yes EBuf OwnE)

theorem wf_of (n : Int) (h0 : -9223372036854775808 ≤ n) (h1 : n ≤ 9223372036854775807) : (Lit.int .i64 n).wf = true := by
  simp [Lit.wf, IntKind.min, IntKind.max, IntKind.signed, IntKind.bits]
  omega

theorem get_any {s : ByteArray} {W : World} (hs : s.size ≤ 281474976710656) :
    Calls Try.prog 20 #[.string s] W fun e w' => e = .returned (.tuple #[.agg #[.int .i64 (E4.eIno s), .string (E4.eName s)], .bool (E4.isE s)]) ∧ Below W.heap.size W w' := E4.spec_GetEntry s W hs

theorem cnt_lt (s : ByteArray) (k : Nat) : k < V0.cnt s ↔ k * 16 < s.size ∧ k < 13 := by
  unfold V0.cnt
  omega

set_option maxHeartbeats 2000000 in
theorem spec_GetDir (s : ByteArray) (w : World) (hs : s.size ≤ 281474976710656) : Calls Try.prog 35 #[.string s] w (Ans s w) := by
  have hm : s.size ≤ maxLen := by unfold maxLen; omega
  have HN : Hid (∀ a c w', V0.isD s = false → Below w.heap.size w w' → Ans s w (.returned (.tuple #[.slice a 0 c, .bool false])) w') := fun a c w' h hb => ans_no h hb
  have HY : Hid (∀ a c w', V0.isD s = true → OwnE w.heap.size w' a (V0.ents s (V0.cnt s)) → V0.cnt s ≤ c → Below w.heap.size w w' → Ans s w (.returned (.tuple #[.slice a (V0.cnt s) c, .bool true])) w') := fun a c w' h1 ho hc hb => ans_yes h1 ho hc hb
  obtain ⟨R, hR⟩ : ∃ R, Ans s w = R := ⟨_, rfl⟩
  rw [hR] at HN HY ⊢
  clear hR
  have hct := cnt_lt s
  have b0 := V1.ebuf_made w (Nat.le_refl _)
  have l0 := K0.below_new w (.cells #[] 33)
  go_enter Try.func35, Try.ntmps35
  go_wp2
  go_loopw [4, 5] (fun v i w' => ∃ (k c : Nat) (a : Option Addr), k ≤ V0.cnt s ∧ i = .int .i64 ((k : Int) * 16) ∧ v = .slice a k c ∧ EBuf w.heap.size w' a k c (V0.ents s k) ∧ Below w.heap.size w w') (fun _ i _ => 208 - (intOf i).toNat)
  case atStart => exact ⟨0, 0, _, Nat.zero_le _, rfl, rfl, b0, l0⟩
  case round =>
    obtain ⟨k, c, a, hk, rfl, rfl, hbuf, hbel⟩ := hrel
    clear b0 l0
    by_cases hlt : k < V0.cnt s
    · obtain ⟨h1, h2⟩ := (hct k).1 hlt
      have e1 : (k : Int) * 16 < (s.size : Int) := by omega
      have e2 : (k : Int) * 16 < 208 := by omega
      have hcs : (V0.chunk s k).size ≤ 281474976710656 := by have := B2.part_size s ((k : Int) * 16) 16; unfold V0.chunk; omega
      have hpt : Hid (∀ W, Calls Try.prog 71 #[.string s, .int .i64 ((k : Int) * 16), .int .i64 16] W fun e w' => e = .returned (.string (V0.chunk s k)) ∧ W = w') := fun W => (B2.spec_Part _ _ _ _ hm (wf_of _ (by omega) (by omega)) (by decide)).mono fun _ _ h => ⟨h.1, h.2.symm⟩
      have HS : Hid (V0.ents s k ++ [(E4.eIno (V0.chunk s k), E4.eName (V0.chunk s k))] = V0.ents s (k + 1)) := V0.ents_succ s k
      clear hct
      go_wp2_with (first
        | (go_at_call 71; refine (hpt.out _).mono ?_; rintro e w1 ⟨rfl, rfl⟩)
        | (go_at_call 20; refine (get_any hcs).mono ?_; rintro e w2 ⟨rfl, b2⟩; have f2 := hbel.trans (b2.mono hbel.size); have u2 := (hbuf.below b2).alloc (.cells #[.int .i64 (E4.eIno (V0.chunk s k)), .string (E4.eName (V0.chunk s k))] 33); have f3 := f2.alloc f2.size (.cells #[.int .i64 (E4.eIno (V0.chunk s k)), .string (E4.eName (V0.chunk s k))] 33))
        | (at_builtin; refine V1.append_ent rfl (.tmp 26) (.tmp 28) rfl u2 _ _ (by rfl) (H := w2.heap.size + 1) (by simp) (by rfl) (by omega) f3.size ?_; intro g1 cap1 w4 hbuf4 bel4))
      go_roundw
      case rel => exact ⟨k + 1, cap1, _, by omega, by go_num, rfl, by rw [← HS.out]; exact hbuf4, f3.trans bel4⟩
      case measure => simp [intOf]; omega
    · obtain rfl : k = V0.cnt s := by omega
      have hfit := hbuf.fits
      have hpd : Hid (Calls Try.prog 39 #[.slice a (V0.cnt s) c] wr fun e w' => e = .returned (.string (T0.putD (V0.ents s (V0.cnt s)))) ∧ Below wr.heap.size wr w') := by
        have hc13 : V0.cnt s ≤ 13 := Nat.min_le_right _ _
        have := T3.spec_PutDir a c (V0.ents s (V0.cnt s)) wr (by rw [V0.ents_length]; omega) (by rw [V0.ents_length]; exact hfit) (V1.fits_ents s _ hs) hbuf.own.row
        rw [V0.ents_length] at this
        exact this
      have hex : decide ((V0.cnt s : Int) * 16 < (s.size : Int)) = false ∨ ((V0.cnt s : Int) * 16 < (s.size : Int) ∧ decide ((V0.cnt s : Int) * 16 < 208) = false) := by
        by_cases h : (V0.cnt s : Int) * 16 < (s.size : Int)
        · right
          refine ⟨h, ?_⟩
          simp
          by_cases h13 : V0.cnt s < 13
          · exact absurd ((hct _).2 ⟨by omega, h13⟩) hlt
          · omega
        · left
          simpa using h
      clear hct hlt hk
      by_cases h0 : s.size = 0
      · have hI : V0.isD s = true := by rw [V0.isD, decide_eq_true h0]; rfl
        have hemp : s.toList.isEmpty = true := by
          rw [Lib.toList_data]
          have : s.data.toList = [] := List.eq_nil_of_length_eq_zero (by rw [← Lib.size_eq]; exact h0)
          rw [this]
          rfl
        rcases hex with e3 | ⟨e4, e3⟩
        · go_wp2
          exact HY.out _ _ _ hI hbuf.own hfit hbel
        · exfalso
          omega
      · have hemp : s.toList.isEmpty = false := by
          rw [Lib.toList_data]
          cases hl : s.data.toList with
          | nil => rw [Lib.size_eq, hl] at h0; exact absurd rfl h0
          | cons x r => rfl
        by_cases hP : ((T0.putD (V0.ents s (V0.cnt s))).toList == s.toList) = true
        · have hI : V0.isD s = true := by rw [V0.isD, hP, Bool.or_true]
          rcases hex with e3 | ⟨e4, e3⟩
          all_goals
            go_wp2_with (go_at_call 39; refine hpd.out.mono ?_; rintro e w2 ⟨rfl, b2⟩)
            exact HY.out _ _ _ hI (hbuf.own.below b2) hfit (hbel.trans (b2.mono hbel.size))
        · have hP' : ((T0.putD (V0.ents s (V0.cnt s))).toList == s.toList) = false := by simpa using hP
          have hI : V0.isD s = false := by rw [V0.isD, hP', decide_eq_false h0]; rfl
          rcases hex with e3 | ⟨e4, e3⟩
          all_goals
            go_wp2_with (go_at_call 39; refine hpd.out.mono ?_; rintro e w2 ⟨rfl, b2⟩; have f2 := hbel.trans (b2.mono hbel.size); have f3 := f2.alloc f2.size (.cells #[] 33))
            exact HN.out _ _ _ hI f3
end Go.Proofs.Ytifddipnboifnaa.V3

/- Contracts of spec.PairAt and impl.PairAt, as the given laws call them. -/
namespace Go.Proofs.Ytifddipnboifnaa.B6
open Go.ChangeShapes Go.WideShapes Go.ChangeAt Go.RowKit
set_option linter.unusedVariables false

/-- The number whose two bytes stand from a place on, the low one first; 0 where there are not two. -/
def pairAt (s : ByteArray) (i : Int) : Int := if h : 0 ≤ i ∧ i + 1 < s.size then (s[i.toNat]'(by omega)).toNat + 256 * (s[(i + 1).toNat]'(by omega)).toNat else 0

theorem spec_PairAt (s : ByteArray) (i : Int) (w : World) (hs : s.size ≤ 281474976710656) :
    Calls Try.prog 64 #[.string s, .int .i64 i] w fun e w' => e = .returned (.int .i64 (pairAt s i)) ∧ ∃ n, w' = w.drewN n := by
  by_cases h1 : i < 0
  · have e : pairAt s i = 0 := by rw [pairAt, dif_neg (by omega)]
    rw [e]
    go_enter Try.func64, Try.ntmps64
    go_wp2
    go_ret
    exact ⟨rfl, 0, rfl⟩
  · by_cases h2 : (s.size : Int) - 2 < i
    · have e : pairAt s i = 0 := by rw [pairAt, dif_neg (by omega)]
      rw [e]
      go_enter Try.func64, Try.ntmps64
      go_wp2
      go_ret
      exact ⟨rfl, 0, rfl⟩
    · have e : pairAt s i = (s[i.toNat]'(by omega)).toNat + 256 * (s[(i + 1).toNat]'(by omega)).toNat := by rw [pairAt, dif_pos (by omega)]
      rw [e]
      have h3 : i < (s.size : Int) := by omega
      have h4 : i + 1 < (s.size : Int) := by omega
      have h6 : 0 ≤ i := by omega
      have h7 : 0 ≤ i + 1 := by omega
      have b1 := (s[i.toNat]'(by omega)).toNat_lt
      have b2 := (s[(i + 1).toNat]'(by omega)).toNat_lt
      go_enter Try.func64, Try.ntmps64
      go_wp2
      go_quiet (fail)
      go_wp2
      go_ret
      exact ⟨rfl, _, rfl⟩

theorem impl_PairAt (s : ByteArray) (i : Int) (w : World) (hs : s.size ≤ 281474976710656) :
    Calls Try.prog 102 #[.string s, .int .i64 i] w fun e w' => e = .returned (.int .i64 (pairAt s i)) ∧ ∃ n, w' = w.drewN n := by
  have hs' : s.size ≤ maxLen := by unfold maxLen; omega
  by_cases h : B2.lies s.size i 2 = true
  · obtain ⟨h1, h2, h5⟩ := B2.lies_true h
    have e : pairAt s i = (s[i.toNat]'(by omega)).toNat + (s[(i + 1).toNat]'(by omega)).toNat * 256 := by rw [pairAt, dif_pos (by omega), Int.mul_comm]
    rw [e]
    have h3 : i < (s.size : Int) := by omega
    have h4 : i + 1 < (s.size : Int) := by omega
    have h6 : 0 ≤ i := by omega
    have h7 : 0 ≤ i + 1 := by omega
    have b1 := (s[i.toNat]'(by omega)).toNat_lt
    have b2 := (s[(i + 1).toNat]'(by omega)).toNat_lt
    go_enter Try.func102, Try.ntmps102
    go_wp2_with (go_at_call 105; refine (B2.liesIn_any _ _ _ _ hs').mono ?_; rintro e w' ⟨rfl, rfl⟩)
    go_quiet (fail)
    go_wp2
    go_ret
    exact ⟨rfl, _, rfl⟩
  · have h' : B2.lies s.size i 2 = false := by simpa using h
    have e : pairAt s i = 0 := by rw [pairAt, dif_neg (fun h9 => B2.lies_false h' (by omega))]
    rw [e]
    go_enter Try.func102, Try.ntmps102
    go_wp2_with (go_at_call 105; refine (B2.liesIn_any _ _ _ _ hs').mono ?_; rintro e w' ⟨rfl, rfl⟩)
    go_ret
    exact ⟨rfl, 0, rfl⟩
end Go.Proofs.Ytifddipnboifnaa.B6

/- Plain facts on reading an inode out of bytes. -/
namespace Go.Proofs.Ytifddipnboifnaa.G0
open Go
set_option linter.unusedVariables false
set_option linter.unusedSimpArgs false

/-- How many pages are read: as many as the size asks for, no more than twelve. -/
def cnt (s : ByteArray) : Nat := min (P0.need (B6.pairAt s 2)).toNat 12

/-- The first pages that stand in a record. -/
def pgs (s : ByteArray) (k : Nat) : List Int := (List.range k).map fun (j : Nat) => B1.byteAt s (4 + (j : Int))

theorem pgs_length (s : ByteArray) (k : Nat) : (pgs s k).length = k := by simp [pgs]
theorem pgs_succ (s : ByteArray) (k : Nat) : pgs s k ++ [B1.byteAt s (4 + (k : Int))] = pgs s (k + 1) := by simp [pgs, List.range_succ]

/-- The bytes of the inode that a text would tell. -/
def txt (s : ByteArray) : ByteArray := R0.putI (B1.byteAt s 0) (B1.byteAt s 1) (B6.pairAt s 2) (pgs s (cnt s))

/-- Whether a text is that of an inode. -/
def isI (s : ByteArray) : Bool := decide (s.size = 16) && ((txt s).toList == s.toList)

def gK (s : ByteArray) : Int := if isI s then B1.byteAt s 0 else 0
def gO (s : ByteArray) : Int := if isI s then B1.byteAt s 1 else 0
def gS (s : ByteArray) : Int := if isI s then B6.pairAt s 2 else 0
def gZ (s : ByteArray) : List Int := if isI s then pgs s (cnt s) else []

theorem pairAt_lt (s : ByteArray) (i : Int) : 0 ≤ B6.pairAt s i ∧ B6.pairAt s i ≤ 65535 := by
  unfold B6.pairAt
  split
  · rename_i h
    have h1 := (s[i.toNat]'(by omega)).toNat_lt
    have h2 := (s[(i + 1).toNat]'(by omega)).toNat_lt
    omega
  · omega

theorem need_nonneg {x : Int} (h : 0 ≤ x) : 0 ≤ P0.need x := by unfold P0.need; omega

theorem cnt_le (s : ByteArray) : cnt s ≤ 12 := Nat.min_le_right _ _

theorem cnt_lt (s : ByteArray) (k : Nat) : k < cnt s ↔ (k : Int) < P0.need (B6.pairAt s 2) ∧ k < 12 := by
  have := need_nonneg (pairAt_lt s 2).1
  unfold cnt
  omega

/-- Where the text is an inode's the inode is right. -/
theorem isI_ok {s : ByteArray} (h : isI s = true) : s.size = 16 ∧ (txt s).toList = s.toList ∧ I0.ok (B1.byteAt s 0) (B1.byteAt s 1) (B6.pairAt s 2) (pgs s (cnt s)) = true := by
  simp only [isI, Bool.and_eq_true, decide_eq_true_eq, beq_iff_eq] at h
  refine ⟨h.1, h.2, ?_⟩
  cases hok : I0.ok (B1.byteAt s 0) (B1.byteAt s 1) (B6.pairAt s 2) (pgs s (cnt s)) with
  | true => rfl
  | false =>
    have h2 := h.2
    rw [txt, R0.putI, hok, if_neg (by decide)] at h2
    have h3 := congrArg List.length h2
    rw [Lib.toList_data, Lib.toList_data, ← Lib.size_eq, ← Lib.size_eq] at h3
    rw [h.1] at h3
    exact absurd h3 (by decide)

theorem isI_of {s : ByteArray} (h16 : s.size = 16) (h : ((txt s).toList == s.toList) = true) : isI s = true := by rw [isI, decide_eq_true h16, h]; rfl
theorem isI_not {s : ByteArray} (h : ((txt s).toList == s.toList) = false) : isI s = false := by rw [isI, h, Bool.and_false]
theorem isI_no {s : ByteArray} (h : ¬ s.size = 16) : isI s = false := by rw [isI, decide_eq_false h, Bool.false_and]
theorem isI_bad {s : ByteArray} (h : I0.ok (B1.byteAt s 0) (B1.byteAt s 1) (B6.pairAt s 2) (pgs s (cnt s)) = false) : isI s = false := by
  cases hi : isI s with
  | false => rfl
  | true => rw [(isI_ok hi).2.2] at h; cases h

theorem g_no {s : ByteArray} (h : isI s = false) : gK s = 0 ∧ gO s = 0 ∧ gS s = 0 ∧ gZ s = [] := by simp [gK, gO, gS, gZ, h]
theorem g_yes {s : ByteArray} (h : isI s = true) : gK s = B1.byteAt s 0 ∧ gO s = B1.byteAt s 1 ∧ gS s = B6.pairAt s 2 ∧ gZ s = pgs s (cnt s) := by simp [gK, gO, gS, gZ, h]
end Go.Proofs.Ytifddipnboifnaa.G0

/- Plain facts on what Load tells. -/
namespace Go.Proofs.Ytifddipnboifnaa.O0
open Go
set_option linter.unusedVariables false
set_option linter.unusedSimpArgs false

/-- The record of an inode in a memory. -/
def recd (mem : ByteArray) (i : Int) : ByteArray := B2.part mem (L1.recAt i) 16

/-- The first pages' bytes. -/
def joined (mem : ByteArray) (zs : List Int) : Nat → ByteArray
  | 0 => ⟨#[]⟩
  | k + 1 => joined mem zs k ++ B2.part mem (zs.getD k 0 * 32) 32

theorem page_size {mem : ByteArray} (hm : mem.size = 768) {z : Int} (h0 : 5 ≤ z) (h1 : z ≤ 23) : (B2.part mem (z * 32) 32).size = 32 := by
  rw [B2.part, show B2.lies mem.size (z * 32) 32 = true from decide_eq_true (by omega), if_pos rfl, ByteArray.size_extract]
  omega

theorem joined_size {mem : ByteArray} (hm : mem.size = 768) {zs : List Int} (hp : P0.pagesOk zs = true) : ∀ k, k ≤ zs.length → (joined mem zs k).size = 32 * k
  | 0, _ => rfl
  | k + 1, h => by
    have hz := R0.pages_bounds hp (k := k) (by omega)
    rw [joined, ByteArray.size_append, joined_size hm hp k (by omega), page_size hm hz.1 hz.2]
    omega

/-- Whether there is an inode to load. -/
def isL (mem : ByteArray) (i : Int) : Bool := decide (mem.size = 768) && (G0.isI (recd mem i) && !decide (B1.byteAt (recd mem i) 0 = 0))

def lK (mem : ByteArray) (i : Int) : Int := if isL mem i then G0.gK (recd mem i) else 0
def lO (mem : ByteArray) (i : Int) : Int := if isL mem i then G0.gO (recd mem i) else 0
def lS (mem : ByteArray) (i : Int) : Int := if isL mem i then G0.gS (recd mem i) else 0
def lZ (mem : ByteArray) (i : Int) : List Int := if isL mem i then G0.gZ (recd mem i) else []
def lD (mem : ByteArray) (i : Int) : ByteArray := if isL mem i then (joined mem (G0.gZ (recd mem i)) (G0.gZ (recd mem i)).length).extract 0 (G0.gS (recd mem i)).toNat else ⟨#[]⟩

theorem l_no {mem : ByteArray} {i : Int} (h : isL mem i = false) : lK mem i = 0 ∧ lO mem i = 0 ∧ lS mem i = 0 ∧ lZ mem i = [] ∧ lD mem i = ⟨#[]⟩ := by simp [lK, lO, lS, lZ, lD, h]
theorem l_yes {mem : ByteArray} {i : Int} (h : isL mem i = true) : lK mem i = G0.gK (recd mem i) ∧ lO mem i = G0.gO (recd mem i) ∧ lS mem i = G0.gS (recd mem i) ∧ lZ mem i = G0.gZ (recd mem i) ∧ lD mem i = (joined mem (G0.gZ (recd mem i)) (G0.gZ (recd mem i)).length).extract 0 (G0.gS (recd mem i)).toNat := by simp [lK, lO, lS, lZ, lD, h]

theorem isL_size {mem : ByteArray} {i : Int} (h : ¬ mem.size = 768) : isL mem i = false := by rw [isL, decide_eq_false h, Bool.false_and]
theorem isL_rec {mem : ByteArray} {i : Int} (h : G0.isI (recd mem i) = false) : isL mem i = false := by rw [isL, h, Bool.false_and, Bool.and_false]
theorem isL_free {mem : ByteArray} {i : Int} (h : B1.byteAt (recd mem i) 0 = 0) : isL mem i = false := by rw [isL, decide_eq_true h, Bool.not_true, Bool.and_false, Bool.and_false]
theorem isL_of {mem : ByteArray} {i : Int} (h1 : mem.size = 768) (h2 : G0.isI (recd mem i) = true) (h3 : ¬ B1.byteAt (recd mem i) 0 = 0) : isL mem i = true := by rw [isL, decide_eq_true h1, h2, decide_eq_false h3]; rfl

theorem recd_size (mem : ByteArray) (i : Int) (h : mem.size ≤ 281474976710656) : (recd mem i).size ≤ 281474976710656 := by
  have := B2.part_size mem (L1.recAt i) 16
  unfold recd
  omega

/-- The inode that is loaded: its numbers. -/
theorem got {s : ByteArray} (h : G0.isI s = true) : (0 ≤ G0.gS s ∧ G0.gS s ≤ 192) ∧ (G0.gZ s).length ≤ 6 ∧ G0.gS s ≤ 32 * ((G0.gZ s).length : Int) ∧ P0.pagesOk (G0.gZ s) = true ∧ (0 ≤ G0.gK s ∧ G0.gK s ≤ 2) := by
  have hb := R0.ok_bounds (G0.isI_ok h).2.2
  obtain ⟨e1, e2, e3, e4⟩ := G0.g_yes h
  rw [e1, e3, e4]
  refine ⟨hb.2.2.1, hb.2.2.2.1, ?_, hb.2.2.2.2.2, hb.1⟩
  rw [hb.2.2.2.2.1]
  unfold P0.need
  omega

theorem cut (t : ByteArray) (m : Nat) (h : m ≤ t.size) : t.extract 0 m ++ t.extract m t.size = t := by
  apply ByteArray.ext
  apply Array.toList_inj.1
  simp only [ByteArray.data_append, Array.toList_append, Lib.extract_data, List.drop_zero, Nat.sub_zero]
  have : (t.data.toList.drop m).take (t.size - m) = t.data.toList.drop m := List.take_of_length_le (by rw [List.length_drop, ← Lib.size_eq]; exact Nat.le_refl _)
  rw [this, List.take_append_drop]
end Go.Proofs.Ytifddipnboifnaa.O0

/- An inode among a law's arguments; contracts of the laws' own functions over inodes and lists of numbers. -/
namespace Go.Proofs.Ytifddipnboifnaa.I2
open Go.ChangeShapes Go.WideShapes Go.ChangeAt Go.RowKit Go.Joins
set_option linter.unusedVariables false
set_option linter.unusedSimpArgs false
set_option maxRecDepth 10000

open P1 (ret_bool quiet_bool)
open I0 (val vals)

section Args
variable {H : Type} {enc : TypeId × Value → H} {w : World}

theorem take_row {w : World} {b off : Nat} {zs : List Int} {n : Nat} (hb : b < w.heap.size) (hn : n ≤ zs.length) (hc : ∀ j, j < zs.length → w.cell? ⟨b, off + j, none⟩ = some (.int .i64 (zs.getD j 0))) : P0.Row w (some ⟨b, off, none⟩) (zs.take n) := by
  refine Or.inr ⟨b, off, rfl, hb, fun j hj => ?_⟩
  have hj' : j < n := by simp at hj; omega
  rw [hc j (by omega)]
  congr 2
  simp [List.getD, hj']

theorem cell_lt {w : World} {a : Addr} {v : Value} (h : w.cell? a = some v) : a.block < w.heap.size := by
  unfold World.cell? at h
  cases hb : w.heap[a.block]? with
  | none => simp [hb] at h
  | some o => exact (Array.getElem?_eq_some_iff.1 hb).1

theorem open_row {fuel : Nat} {v : Value} {x : DataW H × List MemPlace} (h : DataW.trod enc Try.prog w 0 (fun _ => true) true fuel 24 [v] = some x) :
    ∃ (a : Option Addr) (c : Nat) (zs : List Int), v = .slice a zs.length c ∧ zs.length ≤ c ∧ c ≤ maxLen ∧ P0.Row w a zs := by
  rcases open_ints Try.underlying24 Try.underlying3 (by kernel_rfl) h with ⟨hcs, _⟩ | ⟨a, len, cap, zs, hcs, _, hl, hm, hz, _, hcell, _⟩
  · simp at hcs
    exact ⟨none, 0, [], hcs, Nat.le_refl _, Nat.zero_le _, Or.inl rfl⟩
  · simp at hcs hz
    have hlen : (zs.take len).length = len := by simp; omega
    by_cases h0 : zs.length = 0
    · have hl0 : len = 0 := by omega
      refine ⟨some a, cap, [], ?_, Nat.zero_le _, hm, Or.inl rfl⟩
      rw [hcs, hl0]
      rfl
    · obtain ⟨b, off, rfl, hc⟩ := ints_at hcell (by omega)
      have hb : b < w.heap.size := cell_lt (hc 0 (by omega))
      exact ⟨some ⟨b, off, none⟩, cap, zs.take len, by rw [hcs, hlen], by omega, hm, take_row hb (by omega) hc⟩

end Args

/-- What is left behind so many; -1 where nothing is. -/
def left (l : Int) (n : Nat) : Int := if l - n < 0 then -1 else l - n

theorem ret_int {k : IntKind} {a b : Int} (h : a = b) : Ending.returned (.int k a) = .returned (.int k b) := by rw [h]

abbrev ints (zs : List Int) : List Value := zs.map fun z => .int .i64 z

theorem row_of_blk {W : World} {g : Nat} {zs : List Int} (h : K0.Blk g (ints zs) W) : P0.Row W (some ⟨g, 0, none⟩) zs := by
  refine Or.inr ⟨g, 0, rfl, h.lt, fun j hj => ?_⟩
  rw [Nat.zero_add, h.cell j (by simpa using hj)]
  simp [List.getD, hj]

/-- The row while it is being filled. -/
def fill (zs : List Int) (k : Nat) : List Value := ints (zs.take k) ++ List.replicate (zs.length - k) (.int .i64 0)

theorem fill_zero (zs : List Int) : fill zs 0 = List.replicate zs.length (.int .i64 0) := by simp [fill]
theorem fill_all (zs : List Int) : fill zs zs.length = ints zs := by simp [fill]
theorem fill_length (zs : List Int) (k : Nat) (h : k ≤ zs.length) : (fill zs k).length = zs.length := by simp [fill]; omega
theorem fill_succ (zs : List Int) (k : Nat) (h : k < zs.length) : (fill zs k).set k (.int .i64 (zs.getD k 0)) = fill zs (k + 1) := by
  unfold fill
  have e : zs.length - k = (zs.length - (k + 1)) + 1 := by omega
  rw [e, List.replicate_succ, List.take_succ_eq_append_getElem h, ints, ints, List.map_append, List.set_append_right _ _ (by simp; omega)]
  have hm : min k zs.length = k := by omega
  simp [hm, List.getD, h]

theorem info3 : (Try.prog.info? 3).map (fun i => (i.zero, i.size, i.bytes)) = some (some (.int .i64 0), 1, 8) := by kernel_rfl

theorem make_ints (n : Nat) (hn : n ≤ 1048576) (W : World) : (Instr.makeSlice 24 (.int .i64 (n : Int)) (.int .i64 (n : Int))).run Try.prog W = .ok (.slice (some ⟨W.heap.size, 0, none⟩) n n) (W.alloc (.cells (List.replicate n (Value.int .i64 0)).toArray 3)) := by
  obtain ⟨i0, hi, hz0, hz1, hz2⟩ := info_parts info3
  have h := run_make (P := Try.prog) W 24 3 i0 (.int .i64 0) Try.underlying24 hi hz0 .i64 .i64 (n : Int) (n : Int) (by omega) (by omega) (by rw [hz2]; omega) (by omega)
  have e : madeCells (Value.int .i64 0).cells (n * i0.size) = (List.replicate n (Value.int .i64 0)).toArray := by
    apply Array.toList_inj.1
    rw [show (Value.int .i64 0).cells = #[Value.int .i64 0] from rfl, toList_madeCells_one, hz1]
    simp
  rw [show ((n : Int)).toNat = n by omega, e] at h
  exact h

theorem eqIntS (a1 a2 : Option Addr) (c1 c2 : Nat) (zs : List Int) (w : World) (hn : zs.length ≤ 281474976710656) (h1 : P0.Row w a1 zs) (h2 : P0.Row w a2 zs) :
    Calls Try.prog 54 #[.slice a1 zs.length c1, .slice a2 zs.length c2] w fun e w' => e = .returned (.bool true) ∧ ∃ n, w' = w.drewN n := by
  go_enter Try.func54, Try.ntmps54
  go_wp2
  go_loopw [5] (fun i w' => ∃ k n : Nat, k ≤ zs.length ∧ w' = w.drewN n ∧ i = .int .i64 k) (fun i _ => zs.length - (intOf i).toNat)
  case atStart => exact ⟨0, 0, Nat.zero_le _, rfl, rfl⟩
  case round =>
    obtain ⟨k, n, hk, rfl, rfl⟩ := hrel
    by_cases hlt : k < zs.length
    · have e1 : (0 : Int) ≤ (k : Int) := by omega
      have e2 : (k : Int) < (zs.length : Int) := by omega
      obtain ⟨b1, off1, rfl, hb1, hc1⟩ := h1.get hlt
      obtain ⟨b2, off2, rfl, hb2, hc2⟩ := h2.get hlt
      have x1 := hc1 k hlt
      have x2 := hc2 k hlt
      obtain ⟨z, ez⟩ : ∃ z, zs.getD k 0 = z := ⟨_, rfl⟩
      rw [ez] at x1 x2
      clear ez hc1 hc2 h1 h2
      go_wp2
      go_quiet (fail)
      go_wp2
      go_roundw
      case rel => exact ⟨k + 1, _, by omega, rfl, by go_num⟩
      case measure => simp [intOf]; omega
    · clear h1 h2
      go_wp2
      go_ret
      exact ⟨rfl, _, rfl⟩

/-- The three blocks of toInode. -/
structure Three (w : World) (k o s : Int) (a : Option Addr) (n c : Nat) (W : World) : Prop where
  arg : K0.Blk w.heap.size (vals k o s a n c) W
  res : K0.Blk (w.heap.size + 1) (vals 0 0 0 none 0 0) W
  tmp : K0.Blk (w.heap.size + 2) (vals k o s none 0 0) W
  bel : Below w.heap.size w W

theorem Three.below {w W W' : World} {k o s : Int} {a : Option Addr} {n c : Nat} (h : Three w k o s a n c W) (hb : Below W.heap.size W W') : Three w k o s a n c W' :=
  ⟨h.arg.below hb, h.res.below hb, h.tmp.below hb, h.bel.trans (hb.mono (Nat.le_of_lt h.arg.lt))⟩

end Go.Proofs.Ytifddipnboifnaa.I2

/- A row of numbers that a call has made and appends to. -/
namespace Go.Proofs.Ytifddipnboifnaa.J0
open Go.ChangeShapes Go.WideShapes Go.ChangeAt Go.RowKit
set_option linter.unusedVariables false
set_option linter.unusedSimpArgs false
set_option maxRecDepth 10000

open I2 (ints)

/-- A row of a call's own: so many numbers, these; nil where there are none yet. -/
def IBuf (base : Nat) (w : World) (a : Option Addr) (n cap : Nat) (zs : List Int) : Prop := n = zs.length ∧ w.ownsRow base 3 1 (.slice a n cap) n (ints zs)

variable {base n cap : Nat} {a : Option Addr} {w W : World} {zs : List Int}

theorem blk_keep {B B0 : Nat} {vs : List Value} (h : K0.Blk B vs w) (hb : Below B0 w W) (hlt : B < B0) : K0.Blk B vs W :=
  ⟨fun j hj => (hb.cell (p := ⟨B, j, none⟩) hlt).trans (h.cell j hj), fun j hj => (hb.frozen (p := ⟨B, j, none⟩) hlt).trans (h.free j hj), Nat.lt_of_lt_of_le h.lt hb.size⟩

theorem IBuf.below (h : IBuf base w a n cap zs) (hb : Below w.heap.size w W) : IBuf base W a n cap zs := ⟨h.1, F0.owns_below h.2 hb⟩
theorem IBuf.alloc (h : IBuf base w a n cap zs) (o : Obj) : IBuf base (w.alloc o) a n cap zs := h.below ((Below.refl _ _).alloc (Nat.le_refl _) o)
theorem IBuf.drew (h : IBuf base w a n cap zs) : IBuf base w.drew a n cap zs := h
theorem IBuf.drewN (h : IBuf base w a n cap zs) (m : Nat) : IBuf base (w.drewN m) a n cap zs := h
theorem ibuf_nil (w : World) : IBuf base w none 0 0 [] := ⟨rfl, rfl, Or.inl ⟨rfl, rfl⟩⟩
theorem ibuf_made (w : World) (hb : base ≤ w.heap.size) : IBuf base (w.alloc (.cells #[] 3)) (some ⟨w.heap.size, 0, none⟩) 0 0 [] := ⟨rfl, World.ownsRow_made w #[] 0 hb (Nat.zero_le _) rfl⟩

theorem IBuf.fits (h : IBuf base w a n cap zs) : n ≤ cap := by
  rcases h.2.2 with ⟨h0, h1⟩ | ⟨g, c, cur, hv, _, _, hle, _⟩
  · omega
  · simp at hv
    omega

/-- What a call hands out: a row of its own, which may be written. -/
def Own (base : Nat) (W : World) (a : Option Addr) (zs : List Int) : Prop := zs = [] ∨ ∃ g, a = some ⟨g, 0, none⟩ ∧ base ≤ g ∧ K0.Blk g (ints zs) W

theorem IBuf.own (h : IBuf base w a n cap zs) : Own base w a zs := by
  rcases h.2.2 with ⟨h0, h1⟩ | ⟨g, c, cur, hv, hg, hc, hle, _, hs, ht⟩
  · left
    exact List.eq_nil_of_length_eq_zero (by rw [← h.1]; exact h1)
  · right
    simp at hv
    refine ⟨g, hv.1, hg, ⟨fun j hj => ?_, fun j hj => ?_, (Array.getElem?_eq_some_iff.1 hc).1⟩⟩
    · have hcell : w.cell? ⟨g, j, none⟩ = cur[j]? := by
        unfold World.cell?
        rw [hc]
        simp
      have hj' : j < zs.length := by simpa using hj
      have e1 : (cur.toList.take (n * 1))[j]? = (ints zs)[j]? := by rw [ht]
      rw [List.getElem?_take_of_lt (by have := h.1; omega)] at e1
      rw [hcell, ← Array.getElem?_toList, e1]
      simp [hj']
    · unfold World.frozen?
      rw [hc]
      simp

theorem Own.row (h : Own base W a zs) : P0.Row W a zs := by
  rcases h with h | ⟨g, rfl, _, hb⟩
  · exact Or.inl h
  · exact I2.row_of_blk hb

theorem Own.below {W' : World} (h : Own base W a zs) (hb : Below W.heap.size W W') : Own base W' a zs := by
  rcases h with h | ⟨g, e, hg, hk⟩
  · exact Or.inl h
  · exact Or.inr ⟨g, e, hg, hk.below hb⟩
theorem Own.alloc (h : Own base W a zs) (o : Obj) : Own base (W.alloc o) a zs := h.below ((Below.refl _ _).alloc (Nat.le_refl _) o)
theorem Own.drew (h : Own base W a zs) : Own base W.drew a zs := h.imp id fun ⟨g, e, hg, hk⟩ => ⟨g, e, hg, hk.drew⟩
theorem Own.drewN (h : Own base W a zs) (m : Nat) : Own base (W.drewN m) a zs := h.imp id fun ⟨g, e, hg, hk⟩ => ⟨g, e, hg, hk.drewN m⟩
theorem Own.mono {base' : Nat} (h : Own base W a zs) (hb : base' ≤ base) : Own base' W a zs := by
  rcases h with h | ⟨g, e, hg, hk⟩
  · exact Or.inl h
  · exact Or.inr ⟨g, e, Nat.le_trans hb hg, hk⟩
theorem Own.set (h : Own base W a zs) {B : Nat} (hB : B < base) (j : Nat) (v : Value) : Own base (W.setCell ⟨B, j, none⟩ v) a zs := by
  rcases h with h | ⟨g, e, hg, hk⟩
  · exact Or.inl h
  · exact Or.inr ⟨g, e, hg, hk.setOther (by omega) j v⟩

theorem one_int (c : Int) : ∀ u ∈ [Value.int .i64 c], u.oneCell' = true := by
  intro u h
  simp at h
  subst h
  rfl

theorem own_block (h : IBuf base w a n cap zs) : ∀ g, (Value.slice a n cap).ownBlock = some g → base ≤ g := fun g hg => (h.2.lt g hg).1

theorem ints_snoc (zs : List Int) (z : Int) : ints zs ++ [.int .i64 z] = ints (zs ++ [z]) := by simp

/-- 'list = append(list, z)'. -/
theorem append_int {ops : Array Oper} {rest : List Oper} {o : Oper} {A : Act} {Q : Exit → Act → World → Prop} (hgd : o.guard = none) (sl x : Operand)
    (ho : o.op = .call { callee := .builtin .append, args := #[sl, x], argTypes := #[24, 24] })
    (hbuf : IBuf base w a n cap zs) (z : Int) (hs : A.eval sl = .slice a n cap) (hx : A.eval x = .slice (some ⟨w.heap.size, 0, none⟩) 1 1) (hlen : n + 1 ≤ 1048576) (hb : base ≤ w.heap.size)
    (h : ∀ g' cap' w', IBuf base w' (some ⟨g', 0, none⟩) (n + 1) cap' (zs ++ [z]) → Below base w w' → wpList Try.prog ops Q rest (A.put o.dst (.slice (some ⟨g', 0, none⟩) (n + 1) cap')) w') : wpList Try.prog ops Q (o :: rest) A (w.alloc (.cells #[.int .i64 z] 3)) := by
  obtain ⟨i0, hi, hz0, hz1, hz2⟩ := info_parts I2.info3
  have hb2 := hbuf.alloc (.cells #[.int .i64 z] 3)
  refine wpList_append_lies _ hgd sl x 24 ho base 3 i0 (.int .i64 0) 1 8 Try.underlying24 hi hz0 hz1 hz2 rfl (by omega) _ n _ hs hb2.2 ⟨w.heap.size, 0, none⟩ 1 1 [.int .i64 z] hx rfl (World.news_of_block (heap_alloc_new w _)) (one_int z) (by omega) (by unfold maxLen; omega) (by omega) (by simp; omega) _ rfl ?_
  intro g' cap' w' ho' hg' _ _
  refine h g' cap' w' ⟨by rw [hbuf.1]; simp, ?_⟩ ?_
  · rw [← ints_snoc]
    exact ho'
  · exact F0.below_grown ((Below.refl _ _).alloc hb _) hg' (own_block hbuf) (by simp; omega)

/-- .. as a step of a region that draws its order. -/
theorem step_int {ops : Array Oper} {o : Oper} {A : Act} {K : Act → World → Prop} {Q : Exit → Act → World → Prop} {E : Prop} (hgd : o.guard = none) (sl x : Operand)
    (ho : o.op = .call { callee := .builtin .append, args := #[sl, x], argTypes := #[24, 24] })
    (hbuf : IBuf base w a n cap zs) (z : Int) (hs : A.eval sl = .slice a n cap) (hx : A.eval x = .slice (some ⟨w.heap.size, 0, none⟩) 1 1) (hlen : n + 1 ≤ 1048576) (hb : base ≤ w.heap.size)
    (h : ∀ g' cap' w', IBuf base w' (some ⟨g', 0, none⟩) (n + 1) cap' (zs ++ [z]) → Below base w w' → K (A.put o.dst (.slice (some ⟨g', 0, none⟩) (n + 1) cap')) w') :
    if Region.wanted o (yielded ops A.tmps) = true then Oper.wp Try.prog o A (w.alloc (.cells #[.int .i64 z] 3)) K Q else E := by
  obtain ⟨i0, hi, hz0, hz1, hz2⟩ := info_parts I2.info3
  have hb2 := hbuf.alloc (.cells #[.int .i64 z] 3)
  refine step_append_lies _ hgd sl x 24 ho base 3 i0 (.int .i64 0) 1 8 Try.underlying24 hi hz0 hz1 hz2 rfl (by omega) _ n _ hs hb2.2 ⟨w.heap.size, 0, none⟩ 1 1 [.int .i64 z] hx rfl (World.news_of_block (heap_alloc_new w _)) (one_int z) (by omega) (by unfold maxLen; omega) (by omega) (by simp; omega) _ rfl ?_
  intro g' cap' w' ho' hg' _ _
  refine h g' cap' w' ⟨by rw [hbuf.1]; simp, ?_⟩ ?_
  · rw [← ints_snoc]
    exact ho'
  · exact F0.below_grown ((Below.refl _ _).alloc hb _) hg' (own_block hbuf) (by simp; omega)
end Go.Proofs.Ytifddipnboifnaa.J0

/- Contracts of impl.readPages, impl.readRecord, impl.isFree, impl.inodeOf and impl.GetInode, as the given laws call them. -/
namespace Go.Proofs.Ytifddipnboifnaa.G1
open Go.ChangeShapes Go.WideShapes Go.ChangeAt Go.RowKit
set_option linter.unusedVariables false
set_option linter.unusedSimpArgs false
set_option maxRecDepth 10000

open I0 (val vals)

set_option maxHeartbeats 1000000 in
theorem readPages (s : ByteArray) (w : World) (h16 : s.size = 16) :
    Calls Try.prog 103 #[.string s, .int .i64 (P0.need (B6.pairAt s 2))] w fun e w' => ∃ a c, e = .returned (.slice a (G0.pgs s (G0.cnt s)).length c) ∧ J0.IBuf w.heap.size w' a (G0.pgs s (G0.cnt s)).length c (G0.pgs s (G0.cnt s)) ∧ Below w.heap.size w w' := by
  rw [G0.pgs_length]
  have hm : s.size ≤ maxLen := by unfold maxLen; omega
  have hz : (s.size : Int) = 16 := by omega
  have b0 := J0.ibuf_made w (Nat.le_refl _)
  have l0 := K0.below_new w (.cells #[] 3)
  have hcl := G0.cnt_le s
  have hct := G0.cnt_lt s
  obtain ⟨N, hN⟩ : ∃ N, P0.need (B6.pairAt s 2) = N := ⟨_, rfl⟩
  rw [hN] at hct ⊢
  obtain ⟨C, hC⟩ : ∃ C, G0.cnt s = C := ⟨_, rfl⟩
  rw [hC] at hct hcl ⊢
  clear hN hC
  go_enter Try.func103, Try.ntmps103
  go_wp2
  go_loopw [5, 6] (fun v i w' => ∃ (k c : Nat) (a : Option Addr), k ≤ C ∧ i = .int .i64 (4 + (k : Int)) ∧ v = .slice a k c ∧ J0.IBuf w.heap.size w' a k c (G0.pgs s k) ∧ Below w.heap.size w w') (fun _ i _ => 16 - (intOf i).toNat)
  case atStart => exact ⟨0, 0, _, Nat.zero_le _, rfl, rfl, b0, l0⟩
  case round =>
    obtain ⟨k, c, a, hk, rfl, rfl, hbuf, hbel⟩ := hrel
    clear b0 l0
    by_cases hlt : k < C
    · obtain ⟨h1, h2⟩ := (hct k).1 hlt
      have e1 : 4 + (k : Int) < 16 := by omega
      have HS : Hid (G0.pgs s k ++ [B1.byteAt s (4 + (k : Int))] = G0.pgs s (k + 1)) := G0.pgs_succ s k
      go_wp2_with (first
        | (go_at_call 69; refine (B1.impl_ByteAt _ _ _ hm).mono ?_; rintro e w' ⟨rfl, rfl⟩)
        | (at_builtin; refine J0.append_int rfl (.tmp 20) (.tmp 24) rfl hbuf _ (by rfl) (by rfl) (by omega) hbel.size ?_; intro g1 cap1 w1 hbuf1 bel1))
      go_roundw
      case rel => exact ⟨k + 1, cap1, _, by omega, by go_num, rfl, by rw [← HS.out]; exact hbuf1, hbel.trans bel1⟩
      case measure => simp [intOf]; omega
    · obtain rfl : k = C := by omega
      by_cases h12 : k < 12
      · have e1 : 4 + (k : Int) < 16 := by omega
        have e2 : ¬ (k : Int) < N := fun h => hlt ((hct k).2 ⟨h, h12⟩)
        have e3 : decide ((k : Int) < N) = false := by simpa using e2
        go_wp2
        go_ret
        exact ⟨a, c, rfl, hbuf, hbel⟩
      · have e1 : ¬ 4 + (k : Int) < 16 := by omega
        have e3 : decide (4 + (k : Int) < 16) = false := by simpa using e1
        go_wp2
        go_ret
        exact ⟨a, c, rfl, hbuf, hbel⟩

theorem as00 (v : Value) (w : World) : (Instr.typeAssert (.iface 114 v) 70 114 true).run Try.prog w = .ok (.tuple #[v, .bool true]) w := by kernel_rfl
theorem as10 (v : Value) (w : World) : (Instr.typeAssert (.iface 108 v) 70 114 true).run Try.prog w = .ok (.tuple #[val 0 0 0 none 0 0, .bool false]) w := by kernel_rfl
theorem as20 (v : Value) (w : World) : (Instr.typeAssert (.iface 110 v) 70 114 true).run Try.prog w = .ok (.tuple #[val 0 0 0 none 0 0, .bool false]) w := by kernel_rfl
theorem as11 (v : Value) (w : World) : (Instr.typeAssert (.iface 108 v) 70 108 true).run Try.prog w = .ok (.tuple #[v, .bool true]) w := by kernel_rfl
theorem as21 (v : Value) (w : World) : (Instr.typeAssert (.iface 110 v) 70 108 true).run Try.prog w = .ok (.tuple #[val 0 0 0 none 0 0, .bool false]) w := by kernel_rfl
theorem as22 (v : Value) (w : World) : (Instr.typeAssert (.iface 110 v) 70 110 false).run Try.prog w = .ok v w := by kernel_rfl

theorem isFree0 (v : Value) (k o s : Int) (a : Option Addr) (n c : Nat) (hv : v = val k o s a n c) (w : World) :
    Calls Try.prog 83 #[.iface 114 v] w fun e w' => e = .returned (.bool true) ∧ Below w.heap.size w w' := by
  have ha := as00
  subst hv
  go_enter Try.func83, Try.ntmps83
  go_wp2
  go_ret
  exact ⟨rfl, K0.below_new _ _⟩

theorem isFree1 (v : Value) (k o s : Int) (a : Option Addr) (n c : Nat) (hv : v = val k o s a n c) (w : World) :
    Calls Try.prog 83 #[.iface 108 v] w fun e w' => e = .returned (.bool false) ∧ Below w.heap.size w w' := by
  have ha := as10
  subst hv
  go_enter Try.func83, Try.ntmps83
  go_wp2
  go_ret
  exact ⟨rfl, K0.below_new _ _⟩

theorem isFree2 (v : Value) (k o s : Int) (a : Option Addr) (n c : Nat) (hv : v = val k o s a n c) (w : World) :
    Calls Try.prog 83 #[.iface 110 v] w fun e w' => e = .returned (.bool false) ∧ Below w.heap.size w w' := by
  have ha := as20
  subst hv
  go_enter Try.func83, Try.ntmps83
  go_wp2
  go_ret
  exact ⟨rfl, K0.below_new _ _⟩

theorem inodeOf0 (k o s : Int) (a : Option Addr) (n c : Nat) (w : World) :
    Calls Try.prog 62 #[.iface 114 (val k o s a n c)] w fun e w' => e = .returned (val 0 0 0 none 0 0) ∧ Below w.heap.size w w' := by
  have n0 := K0.blk_new (vals 0 0 0 none 0 0) w 26
  have l0 := K0.below_new w (.cells #[.int .i64 0, .int .i64 0, .int .i64 0, .slice none 0 0] 26)
  go_enter Try.func62, Try.ntmps62
  go_wp2_with (go_at_call 83; refine (isFree0 _ k o s a n c rfl _).mono ?_; rintro e w1 ⟨rfl, b1⟩; have n1 := n0.below b1; have l1 := l0.trans (b1.mono l0.size); have c0 := n1.c0; have c1 := n1.c1; have c2 := n1.c2; have c3 := n1.c3; have f0 := n1.f0; have f1 := n1.f1; have f2 := n1.f2; have f3 := n1.f3)
  have q := n1.put4 (.int .i64 0) (.int .i64 0) (.int .i64 0) (.slice none 0 0)
  refine bodyPost_ret (v := val 0 0 0 none 0 0) (by simp [results, Try.results62, go_sem, q.c0, q.c1, q.c2, q.c3]) rfl ⟨rfl, ?_⟩
  exact (((l1.setCell (p := ⟨w.heap.size, 0, none⟩) (Nat.le_refl _) _).setCell (p := ⟨w.heap.size, 1, none⟩) (Nat.le_refl _) _).setCell (p := ⟨w.heap.size, 2, none⟩) (Nat.le_refl _) _).setCell (p := ⟨w.heap.size, 3, none⟩) (Nat.le_refl _) _

set_option maxHeartbeats 1000000 in
theorem inodeOf1 (k o s : Int) (a : Option Addr) (n c : Nat) (w : World) :
    Calls Try.prog 62 #[.iface 108 (val k o s a n c)] w fun e w' => e = .returned (val k o s a n c) ∧ Below w.heap.size w w' := by
  have ha := as11
  have n0 := K0.blk_new (vals 0 0 0 none 0 0) w 26
  have l0 := K0.below_new w (.cells #[.int .i64 0, .int .i64 0, .int .i64 0, .slice none 0 0] 26)
  go_enter Try.func62, Try.ntmps62
  go_wp2_with (go_at_call 83; refine (isFree1 _ k o s a n c rfl _).mono ?_; rintro e w1 ⟨rfl, b1⟩; have n1 := (n0.below b1).alloc (.cells #[.int .i64 k, .int .i64 o, .int .i64 s, .slice a n c] 108); have l1 := (l0.trans (b1.mono l0.size)).alloc (Nat.le_trans l0.size b1.size) (.cells #[.int .i64 k, .int .i64 o, .int .i64 s, .slice a n c] 108); have c0 := n1.c0; have c1 := n1.c1; have c2 := n1.c2; have c3 := n1.c3; have f0 := n1.f0; have f1 := n1.f1; have f2 := n1.f2; have f3 := n1.f3)
  have q := n1.put4 (.int .i64 k) (.int .i64 o) (.int .i64 s) (.slice a n c)
  refine bodyPost_ret (v := val k o s a n c) (by simp [results, Try.results62, go_sem, q.c0, q.c1, q.c2, q.c3]) rfl ⟨rfl, ?_⟩
  exact (((l1.setCell (p := ⟨w.heap.size, 0, none⟩) (Nat.le_refl _) _).setCell (p := ⟨w.heap.size, 1, none⟩) (Nat.le_refl _) _).setCell (p := ⟨w.heap.size, 2, none⟩) (Nat.le_refl _) _).setCell (p := ⟨w.heap.size, 3, none⟩) (Nat.le_refl _) _

set_option maxHeartbeats 1000000 in
theorem inodeOf2 (k o s : Int) (a : Option Addr) (n c : Nat) (w : World) :
    Calls Try.prog 62 #[.iface 110 (val k o s a n c)] w fun e w' => e = .returned (val k o s a n c) ∧ Below w.heap.size w w' := by
  have ha := as21
  have hb := as22
  have n0 := K0.blk_new (vals 0 0 0 none 0 0) w 26
  have l0 := K0.below_new w (.cells #[.int .i64 0, .int .i64 0, .int .i64 0, .slice none 0 0] 26)
  go_enter Try.func62, Try.ntmps62
  go_wp2_with (go_at_call 83; refine (isFree2 _ k o s a n c rfl _).mono ?_; rintro e w1 ⟨rfl, b1⟩; have n1 := (n0.below b1).alloc (.cells #[.int .i64 0, .int .i64 0, .int .i64 0, .slice none 0 0] 108); have l1 := (l0.trans (b1.mono l0.size)).alloc (Nat.le_trans l0.size b1.size) (.cells #[.int .i64 0, .int .i64 0, .int .i64 0, .slice none 0 0] 108); have c0 := n1.c0; have c1 := n1.c1; have c2 := n1.c2; have c3 := n1.c3; have f0 := n1.f0; have f1 := n1.f1; have f2 := n1.f2; have f3 := n1.f3)
  have q := n1.put4 (.int .i64 k) (.int .i64 o) (.int .i64 s) (.slice a n c)
  refine bodyPost_ret (v := val k o s a n c) (by simp [results, Try.results62, go_sem, q.c0, q.c1, q.c2, q.c3]) rfl ⟨rfl, ?_⟩
  exact (((l1.setCell (p := ⟨w.heap.size, 0, none⟩) (Nat.le_refl _) _).setCell (p := ⟨w.heap.size, 1, none⟩) (Nat.le_refl _) _).setCell (p := ⟨w.heap.size, 2, none⟩) (Nat.le_refl _) _).setCell (p := ⟨w.heap.size, 3, none⟩) (Nat.le_refl _) _
end Go.Proofs.Ytifddipnboifnaa.G1

/- The contract of impl.readRecord, as the given laws call it. -/
namespace Go.Proofs.Ytifddipnboifnaa.G2
open Go.ChangeShapes Go.WideShapes Go.ChangeAt Go.RowKit
set_option linter.unusedVariables false
set_option linter.unusedSimpArgs false
set_option maxRecDepth 10000

open I0 (val vals)

theorem below_of_drew {w w1 : World} {n : Nat} (h : Below (w.drewN n).heap.size (w.drewN n) w1) : Below w.heap.size w w1 := ⟨h.os, h.tape, h.output, h.size, h.block⟩

/-- The record's inode in its box, with its pages. -/
structure Nd (w : World) (B : Nat) (k o s : Int) (a : Option Addr) (zs : List Int) (c : Nat) (W : World) : Prop where
  box : K0.Blk B (vals k o s a zs.length c) W
  own : J0.Own w.heap.size W a zs
  fits : zs.length ≤ c
  bel : Below w.heap.size w W

variable {w W W' : World} {B : Nat} {k o s : Int} {a : Option Addr} {zs : List Int} {c : Nat}

theorem Nd.below (h : Nd w B k o s a zs c W) (hb : Below W.heap.size W W') : Nd w B k o s a zs c W' := ⟨h.box.below hb, h.own.below hb, h.fits, h.bel.trans (hb.mono h.bel.size)⟩

theorem nd_new (hb : Below w.heap.size w W) (hi : J0.IBuf w.heap.size W a zs.length c zs) : Nd w W.heap.size k o s a zs c (W.alloc (.cells #[.int .i64 k, .int .i64 o, .int .i64 s, .slice a zs.length c] 26)) :=
  ⟨K0.blk_new (vals k o s a zs.length c) W 26, hi.own.alloc _, hi.fits, hb.alloc hb.size _⟩

/-- What readRecord answers. -/
def Ans (s : ByteArray) (w : World) (e : Ending) (w' : World) : Prop :=
  Below w.heap.size w w' ∧ ((G0.isI s = false ∧ e = .returned (.tuple #[.nilIface, .bool false])) ∨
    (G0.isI s = true ∧ ∃ a c, e = .returned (.tuple #[I1.rec (B1.byteAt s 0) (val (B1.byteAt s 0) (B1.byteAt s 1) (B6.pairAt s 2) a (G0.pgs s (G0.cnt s)).length c), .bool true]) ∧ J0.Own w.heap.size w' a (G0.pgs s (G0.cnt s)) ∧ (G0.pgs s (G0.cnt s)).length ≤ c))

theorem ans_no {s : ByteArray} {w w' : World} (h : G0.isI s = false) (hb : Below w.heap.size w w') : Ans s w (.returned (.tuple #[.nilIface, .bool false])) w' := ⟨hb, Or.inl ⟨h, rfl⟩⟩

set_option maxHeartbeats 2000000 in
theorem readRecord (s : ByteArray) (w : World) (hs : s.size ≤ 281474976710656) :
    Calls Try.prog 61 #[.string s] w (Ans s w) := by
  have hm : s.size ≤ maxLen := by unfold maxLen; omega
  by_cases h16 : s.size = 16
  · have g16 : ((s.size : Int) != 16) = false := by simp; omega
    have hpa := G0.pairAt_lt s 2
    have hbad := @G0.isI_bad s
    have hof := @G0.isI_of s h16
    have hnot := @G0.isI_not s
    have hans : Ans s w = fun e w' => Below w.heap.size w w' ∧ ((G0.isI s = false ∧ e = .returned (.tuple #[.nilIface, .bool false])) ∨
      (G0.isI s = true ∧ ∃ a c, e = .returned (.tuple #[I1.rec (B1.byteAt s 0) (val (B1.byteAt s 0) (B1.byteAt s 1) (B6.pairAt s 2) a (G0.pgs s (G0.cnt s)).length c), .bool true]) ∧ J0.Own w.heap.size w' a (G0.pgs s (G0.cnt s)) ∧ (G0.pgs s (G0.cnt s)).length ≤ c)) := rfl
    rw [hans]
    clear hans
    have hrp : Hid (∀ W, Calls Try.prog 103 #[.string s, .int .i64 (P0.need (B6.pairAt s 2))] W fun e w' => ∃ a c, e = .returned (.slice a (G0.pgs s (G0.cnt s)).length c) ∧ J0.IBuf W.heap.size w' a (G0.pgs s (G0.cnt s)).length c (G0.pgs s (G0.cnt s)) ∧ Below W.heap.size W w') := fun W => G1.readPages s W h16
    have hlen : (G0.pgs s (G0.cnt s)).length ≤ 281474976710656 := by rw [G0.pgs_length]; have := G0.cnt_le s; omega
    unfold G0.txt at hof hnot
    obtain ⟨Z, hZ⟩ : ∃ Z, G0.pgs s (G0.cnt s) = Z := ⟨_, rfl⟩
    rw [hZ] at hbad hof hnot hrp hlen ⊢
    clear hZ
    by_cases hok : I0.ok (B1.byteAt s 0) (B1.byteAt s 1) (B6.pairAt s 2) Z = true
    · by_cases htx : ((R0.putI (B1.byteAt s 0) (B1.byteAt s 1) (B6.pairAt s 2) Z).toList == s.toList) = true
      · have HI : Hid (G0.isI s = true) := hof htx
        clear hbad hof hnot
        go_enter Try.func61, Try.ntmps61
        go_wp2_with (first
          | (go_at_call 102; refine (B6.impl_PairAt _ _ _ hs).mono ?_; rintro e w0 ⟨rfl, m0, rfl⟩)
          | (go_at_call 69; refine (B1.impl_ByteAt _ _ _ hm).mono ?_; rintro e w' ⟨rfl, rfl⟩)
          | (go_at_call 104; refine (P1.pagesFor _ _ hpa.1 hpa.2).mono ?_; rintro e w' ⟨rfl, rfl⟩)
          | (go_at_call 103; refine (hrp.out _).mono ?_; rintro e w1 ⟨a, c, rfl, hib, b1⟩; have n1 := nd_new (w := w) (k := B1.byteAt s 0) (o := B1.byteAt s 1) (s := B6.pairAt s 2) (below_of_drew b1) hib)
          | (go_at_call 76; refine (I1.recordOf _ _ _ _ _ Z _ hlen n1.fits n1.own.row).mono ?_; rintro e w2 ⟨rfl, b2⟩; have n2 := n1.below b2; have c0 := n2.box.c0; have c1 := n2.box.c1; have c2 := n2.box.c2; have c3 := n2.box.c3)
          | (go_at_call 59; refine (R1.recordText _ _ _ _ _ Z _ hok n2.own.row).mono ?_; rintro e w3 ⟨rfl, b3⟩; have n3 := n2.below b3))
        go_ret2
        exact ⟨n3.bel, Or.inr ⟨HI.out, a, c, rfl, n3.own, n3.fits⟩⟩
      · have htx' : ((R0.putI (B1.byteAt s 0) (B1.byteAt s 1) (B6.pairAt s 2) Z).toList == s.toList) = false := by simpa using htx
        have HI : Hid (G0.isI s = false) := hnot htx'
        clear hbad hof hnot htx
        go_enter Try.func61, Try.ntmps61
        go_wp2_with (first
          | (go_at_call 102; refine (B6.impl_PairAt _ _ _ hs).mono ?_; rintro e w0 ⟨rfl, m0, rfl⟩)
          | (go_at_call 69; refine (B1.impl_ByteAt _ _ _ hm).mono ?_; rintro e w' ⟨rfl, rfl⟩)
          | (go_at_call 104; refine (P1.pagesFor _ _ hpa.1 hpa.2).mono ?_; rintro e w' ⟨rfl, rfl⟩)
          | (go_at_call 103; refine (hrp.out _).mono ?_; rintro e w1 ⟨a, c, rfl, hib, b1⟩; have n1 := nd_new (w := w) (k := B1.byteAt s 0) (o := B1.byteAt s 1) (s := B6.pairAt s 2) (below_of_drew b1) hib)
          | (go_at_call 76; refine (I1.recordOf _ _ _ _ _ Z _ hlen n1.fits n1.own.row).mono ?_; rintro e w2 ⟨rfl, b2⟩; have n2 := n1.below b2; have c0 := n2.box.c0; have c1 := n2.box.c1; have c2 := n2.box.c2; have c3 := n2.box.c3)
          | (go_at_call 59; refine (R1.recordText _ _ _ _ _ Z _ hok n2.own.row).mono ?_; rintro e w3 ⟨rfl, b3⟩; have n3 := n2.below b3))
        go_ret2
        exact ⟨n3.bel, Or.inl ⟨HI.out, rfl⟩⟩
    · have hok' : I0.ok (B1.byteAt s 0) (B1.byteAt s 1) (B6.pairAt s 2) Z = false := by simpa using hok
      have HI : Hid (G0.isI s = false) := hbad hok'
      clear hbad hof hnot hok
      go_enter Try.func61, Try.ntmps61
      go_wp2_with (first
        | (go_at_call 102; refine (B6.impl_PairAt _ _ _ hs).mono ?_; rintro e w0 ⟨rfl, m0, rfl⟩)
        | (go_at_call 69; refine (B1.impl_ByteAt _ _ _ hm).mono ?_; rintro e w' ⟨rfl, rfl⟩)
        | (go_at_call 104; refine (P1.pagesFor _ _ hpa.1 hpa.2).mono ?_; rintro e w' ⟨rfl, rfl⟩)
        | (go_at_call 103; refine (hrp.out _).mono ?_; rintro e w1 ⟨a, c, rfl, hib, b1⟩; have n1 := nd_new (w := w) (k := B1.byteAt s 0) (o := B1.byteAt s 1) (s := B6.pairAt s 2) (below_of_drew b1) hib)
        | (go_at_call 76; refine (I1.recordOf _ _ _ _ _ Z _ hlen n1.fits n1.own.row).mono ?_; rintro e w2 ⟨rfl, b2⟩; have n2 := n1.below b2))
      go_ret2
      exact ⟨n2.bel, Or.inl ⟨HI.out, rfl⟩⟩
  · have g16 : ((s.size : Int) != 16) = true := by simp; omega
    have HI : Hid (G0.isI s = false) := G0.isI_no h16
    go_enter Try.func61, Try.ntmps61
    go_wp2
    go_ret2
    exact ans_no HI.out (Below.refl _ _)
end Go.Proofs.Ytifddipnboifnaa.G2

/- The contract of impl.GetInode, as the given laws call it. -/
namespace Go.Proofs.Ytifddipnboifnaa.G3
open Go.ChangeShapes Go.WideShapes Go.ChangeAt Go.RowKit
set_option linter.unusedVariables false
set_option linter.unusedSimpArgs false
set_option maxRecDepth 10000

open I0 (val vals)

/-- What GetInode answers. -/
def Ans (s : ByteArray) (w : World) (e : Ending) (w' : World) : Prop :=
  ∃ a c, e = .returned (.tuple #[val (G0.gK s) (G0.gO s) (G0.gS s) a (G0.gZ s).length c, .bool (G0.isI s)]) ∧ J0.Own w.heap.size w' a (G0.gZ s) ∧ (G0.gZ s).length ≤ c ∧ Below w.heap.size w w'

theorem ans_no {s : ByteArray} {w w' : World} (h : G0.isI s = false) (hb : Below w.heap.size w w') : Ans s w (.returned (.tuple #[val 0 0 0 none 0 0, .bool false])) w' := by
  obtain ⟨h1, h2, h3, h4⟩ := G0.g_no h
  exact ⟨none, 0, by rw [h1, h2, h3, h4, h]; rfl, by rw [h4]; exact Or.inl rfl, by rw [h4]; exact Nat.le_refl _, hb⟩

theorem ans_yes {s : ByteArray} {w w' : World} {a : Option Addr} {c : Nat} (h : G0.isI s = true) (ho : J0.Own w.heap.size w' a (G0.pgs s (G0.cnt s))) (hc : (G0.pgs s (G0.cnt s)).length ≤ c) (hb : Below w.heap.size w w') :
    Ans s w (.returned (.tuple #[val (B1.byteAt s 0) (B1.byteAt s 1) (B6.pairAt s 2) a (G0.pgs s (G0.cnt s)).length c, .bool true])) w' := by
  obtain ⟨h1, h2, h3, h4⟩ := G0.g_yes h
  exact ⟨a, c, by rw [h1, h2, h3, h4, h], by rw [h4]; exact ho, by rw [h4]; exact hc, hb⟩

/-- A free inode. -/
theorem ans_free {s : ByteArray} {w w' : World} (h : G0.isI s = true) (hk : B1.byteAt s 0 = 0) (hb : Below w.heap.size w w') : Ans s w (.returned (.tuple #[val 0 0 0 none 0 0, .bool true])) w' := by
  have hok := (G0.isI_ok h).2.2
  rw [I0.ok, if_pos hk] at hok
  simp only [I0.free, Bool.and_eq_true, decide_eq_true_eq] at hok
  have hz : G0.pgs s (G0.cnt s) = [] := List.eq_nil_of_length_eq_zero hok.2.2
  have := ans_yes (a := none) (c := 0) h (by rw [hz]; exact Or.inl rfl) (by rw [hz]; exact Nat.le_refl _) hb
  rwa [hk, hok.1, hok.2.1, hz] at this

variable {w W W' : World}

theorem read_no {s : ByteArray} (hs : s.size ≤ 281474976710656) (h : G0.isI s = false) :
    Calls Try.prog 61 #[.string s] W fun e w' => e = .returned (.tuple #[.nilIface, .bool false]) ∧ Below W.heap.size W w' :=
  (G2.readRecord s W hs).mono fun e w' ⟨hb, hc⟩ => by
    rcases hc with ⟨_, he⟩ | ⟨h2, _⟩
    · exact ⟨he, hb⟩
    · rw [h] at h2; cases h2

theorem read_yes {s : ByteArray} (hs : s.size ≤ 281474976710656) (h : G0.isI s = true) {v : Value → Value} (hv : ∀ x, I1.rec (B1.byteAt s 0) x = v x) :
    Calls Try.prog 61 #[.string s] W fun e w' => ∃ a c, e = .returned (.tuple #[v (val (B1.byteAt s 0) (B1.byteAt s 1) (B6.pairAt s 2) a (G0.pgs s (G0.cnt s)).length c), .bool true]) ∧ J0.Own W.heap.size w' a (G0.pgs s (G0.cnt s)) ∧ (G0.pgs s (G0.cnt s)).length ≤ c ∧ Below W.heap.size W w' :=
  (G2.readRecord s W hs).mono fun e w' ⟨hb, hc⟩ => by
    rcases hc with ⟨h2, _⟩ | ⟨_, a, c, he, ho, hl⟩
    · rw [h] at h2; cases h2
    · exact ⟨a, c, by rw [he, hv], ho, hl, hb⟩

/-- The answer's block, with the pages. -/
structure Rs (w : World) (a : Option Addr) (zs : List Int) (W : World) : Prop where
  res : K0.Blk w.heap.size (vals 0 0 0 none 0 0) W
  own : J0.Own (w.heap.size + 1) W a zs
  bel : Below w.heap.size w W

theorem Rs.below {a : Option Addr} {zs : List Int} (h : Rs w a zs W) (hb : Below W.heap.size W W') : Rs w a zs W' := ⟨h.res.below hb, h.own.below hb, h.bel.trans (hb.mono h.bel.size)⟩

theorem rs_new {a : Option Addr} {zs : List Int} (hb : Below (w.alloc (.cells #[.int .i64 0, .int .i64 0, .int .i64 0, .slice none 0 0] 26)).heap.size (w.alloc (.cells #[.int .i64 0, .int .i64 0, .int .i64 0, .slice none 0 0] 26)) W)
    (ho : J0.Own (w.alloc (.cells #[.int .i64 0, .int .i64 0, .int .i64 0, .slice none 0 0] 26)).heap.size W a zs) : Rs w a zs W :=
  ⟨(K0.blk_new (vals 0 0 0 none 0 0) w 26).below hb, ho.mono (by simp), (K0.below_new w _).trans (hb.mono (by simp))⟩

theorem Rs.done {a : Option Addr} {zs : List Int} (h : Rs w a zs W) (x y z u : Value) : J0.Own w.heap.size ((((W.setCell ⟨w.heap.size, 0, none⟩ x).setCell ⟨w.heap.size, 1, none⟩ y).setCell ⟨w.heap.size, 2, none⟩ z).setCell ⟨w.heap.size, 3, none⟩ u) a zs ∧
    Below w.heap.size w ((((W.setCell ⟨w.heap.size, 0, none⟩ x).setCell ⟨w.heap.size, 1, none⟩ y).setCell ⟨w.heap.size, 2, none⟩ z).setCell ⟨w.heap.size, 3, none⟩ u) :=
  ⟨((((h.own.set (Nat.lt_succ_self _) 0 x).set (Nat.lt_succ_self _) 1 y).set (Nat.lt_succ_self _) 2 z).set (Nat.lt_succ_self _) 3 u).mono (Nat.le_succ _),
   (((h.bel.setCell (p := ⟨w.heap.size, 0, none⟩) (Nat.le_refl _) _).setCell (p := ⟨w.heap.size, 1, none⟩) (Nat.le_refl _) _).setCell (p := ⟨w.heap.size, 2, none⟩) (Nat.le_refl _) _).setCell (p := ⟨w.heap.size, 3, none⟩) (Nat.le_refl _) _⟩

set_option maxHeartbeats 2000000 in
theorem impl_GetInode (s : ByteArray) (w : World) (hs : s.size ≤ 281474976710656) : Calls Try.prog 14 #[.string s] w (Ans s w) := by
  by_cases hI : G0.isI s = true
  · have hok := R0.ok_bounds (G0.isI_ok hI).2.2
    by_cases h0 : B1.byteAt s 0 = 0
    · have hv : ∀ x, I1.rec (B1.byteAt s 0) x = .iface 114 x := fun x => by rw [I1.rec, if_pos h0]
      have HF : Hid (∀ w', Below w.heap.size w w' → Ans s w (.returned (.tuple #[val 0 0 0 none 0 0, .bool true])) w') := fun w' hb => ans_free hI h0 hb
      have hr : Hid (∀ W, Calls Try.prog 61 #[.string s] W fun e w' => ∃ a c, e = .returned (.tuple #[.iface 114 (val (B1.byteAt s 0) (B1.byteAt s 1) (B6.pairAt s 2) a (G0.pgs s (G0.cnt s)).length c), .bool true]) ∧ J0.Own W.heap.size w' a (G0.pgs s (G0.cnt s)) ∧ (G0.pgs s (G0.cnt s)).length ≤ c ∧ Below W.heap.size W w') := fun W => read_yes hs hI hv
      clear hok hv h0 hI
      go_enter Try.func14, Try.ntmps14
      go_wp2_with (first
        | (go_at_call 61; refine (hr.out _).mono ?_; rintro e w1 ⟨a, c, rfl, ho, hl, b1⟩; have r1 := rs_new b1 ho)
        | (go_at_call 62; refine (G1.inodeOf0 _ _ _ _ _ _ _).mono ?_; rintro e w2 ⟨rfl, b2⟩; have r2 := r1.below b2; have c0 := r2.res.c0; have c1 := r2.res.c1; have c2 := r2.res.c2; have c3 := r2.res.c3; have f0 := r2.res.f0; have f1 := r2.res.f1; have f2 := r2.res.f2; have f3 := r2.res.f3))
      have q := r2.res.put4 (.int .i64 0) (.int .i64 0) (.int .i64 0) (.slice none 0 0)
      have d := r2.done (.int .i64 0) (.int .i64 0) (.int .i64 0) (.slice none 0 0)
      exact bodyPost_ret (v := .tuple #[val 0 0 0 none 0 0, .bool true]) (by simp [results, Try.results14, go_sem, q.c0, q.c1, q.c2, q.c3]) rfl (HF.out _ d.2)
    · have HF : Hid (∀ a c w', J0.Own w.heap.size w' a (G0.pgs s (G0.cnt s)) → (G0.pgs s (G0.cnt s)).length ≤ c → Below w.heap.size w w' → Ans s w (.returned (.tuple #[val (B1.byteAt s 0) (B1.byteAt s 1) (B6.pairAt s 2) a (G0.pgs s (G0.cnt s)).length c, .bool true])) w') := fun a c w' ho hl hb => ans_yes hI ho hl hb
      by_cases h1 : B1.byteAt s 0 = 1
      · have hv : ∀ x, I1.rec (B1.byteAt s 0) x = .iface 108 x := fun x => by rw [I1.rec, if_neg h0, if_pos h1]
        have hr : Hid (∀ W, Calls Try.prog 61 #[.string s] W fun e w' => ∃ a c, e = .returned (.tuple #[.iface 108 (val (B1.byteAt s 0) (B1.byteAt s 1) (B6.pairAt s 2) a (G0.pgs s (G0.cnt s)).length c), .bool true]) ∧ J0.Own W.heap.size w' a (G0.pgs s (G0.cnt s)) ∧ (G0.pgs s (G0.cnt s)).length ≤ c ∧ Below W.heap.size W w') := fun W => read_yes hs hI hv
        clear hok hv h0 h1 hI
        go_enter Try.func14, Try.ntmps14
        go_wp2_with (first
          | (go_at_call 61; refine (hr.out _).mono ?_; rintro e w1 ⟨a, c, rfl, ho, hl, b1⟩; have r1 := rs_new b1 ho)
          | (go_at_call 62; refine (G1.inodeOf1 _ _ _ _ _ _ _).mono ?_; rintro e w2 ⟨rfl, b2⟩; have r2 := r1.below b2; have c0 := r2.res.c0; have c1 := r2.res.c1; have c2 := r2.res.c2; have c3 := r2.res.c3; have f0 := r2.res.f0; have f1 := r2.res.f1; have f2 := r2.res.f2; have f3 := r2.res.f3))
        have q := r2.res.put4 (.int .i64 (B1.byteAt s 0)) (.int .i64 (B1.byteAt s 1)) (.int .i64 (B6.pairAt s 2)) (.slice a (G0.pgs s (G0.cnt s)).length c)
        have d := r2.done (.int .i64 (B1.byteAt s 0)) (.int .i64 (B1.byteAt s 1)) (.int .i64 (B6.pairAt s 2)) (.slice a (G0.pgs s (G0.cnt s)).length c)
        exact bodyPost_ret (v := .tuple #[val (B1.byteAt s 0) (B1.byteAt s 1) (B6.pairAt s 2) a (G0.pgs s (G0.cnt s)).length c, .bool true]) (by simp [results, Try.results14, go_sem, q.c0, q.c1, q.c2, q.c3]) rfl (HF.out _ _ _ d.1 hl d.2)
      · have h2 : B1.byteAt s 0 = 2 := by omega
        have hv : ∀ x, I1.rec (B1.byteAt s 0) x = .iface 110 x := fun x => by rw [I1.rec, if_neg h0, if_neg h1, if_pos h2]
        have hr : Hid (∀ W, Calls Try.prog 61 #[.string s] W fun e w' => ∃ a c, e = .returned (.tuple #[.iface 110 (val (B1.byteAt s 0) (B1.byteAt s 1) (B6.pairAt s 2) a (G0.pgs s (G0.cnt s)).length c), .bool true]) ∧ J0.Own W.heap.size w' a (G0.pgs s (G0.cnt s)) ∧ (G0.pgs s (G0.cnt s)).length ≤ c ∧ Below W.heap.size W w') := fun W => read_yes hs hI hv
        clear hok hv h0 h1 h2 hI
        go_enter Try.func14, Try.ntmps14
        go_wp2_with (first
          | (go_at_call 61; refine (hr.out _).mono ?_; rintro e w1 ⟨a, c, rfl, ho, hl, b1⟩; have r1 := rs_new b1 ho)
          | (go_at_call 62; refine (G1.inodeOf2 _ _ _ _ _ _ _).mono ?_; rintro e w2 ⟨rfl, b2⟩; have r2 := r1.below b2; have c0 := r2.res.c0; have c1 := r2.res.c1; have c2 := r2.res.c2; have c3 := r2.res.c3; have f0 := r2.res.f0; have f1 := r2.res.f1; have f2 := r2.res.f2; have f3 := r2.res.f3))
        have q := r2.res.put4 (.int .i64 (B1.byteAt s 0)) (.int .i64 (B1.byteAt s 1)) (.int .i64 (B6.pairAt s 2)) (.slice a (G0.pgs s (G0.cnt s)).length c)
        have d := r2.done (.int .i64 (B1.byteAt s 0)) (.int .i64 (B1.byteAt s 1)) (.int .i64 (B6.pairAt s 2)) (.slice a (G0.pgs s (G0.cnt s)).length c)
        exact bodyPost_ret (v := .tuple #[val (B1.byteAt s 0) (B1.byteAt s 1) (B6.pairAt s 2) a (G0.pgs s (G0.cnt s)).length c, .bool true]) (by simp [results, Try.results14, go_sem, q.c0, q.c1, q.c2, q.c3]) rfl (HF.out _ _ _ d.1 hl d.2)
  · have hI' : G0.isI s = false := by simpa using hI
    have HF : Hid (∀ w', Below w.heap.size w w' → Ans s w (.returned (.tuple #[val 0 0 0 none 0 0, .bool false])) w') := fun w' hb => ans_no hI' hb
    have hr : Hid (∀ W, Calls Try.prog 61 #[.string s] W fun e w' => e = .returned (.tuple #[.nilIface, .bool false]) ∧ Below W.heap.size W w') := fun W => read_no hs hI'
    clear hI hI'
    go_enter Try.func14, Try.ntmps14
    go_wp2_with (go_at_call 61; refine (hr.out _).mono ?_; rintro e w1 ⟨rfl, b1⟩; have r1 := rs_new (a := none) (zs := []) b1 (Or.inl rfl); have c0 := r1.res.c0; have c1 := r1.res.c1; have c2 := r1.res.c2; have c3 := r1.res.c3; have f0 := r1.res.f0; have f1 := r1.res.f1; have f2 := r1.res.f2; have f3 := r1.res.f3)
    have q := r1.res.put4 (.int .i64 0) (.int .i64 0) (.int .i64 0) (.slice none 0 0)
    have d := r1.done (.int .i64 0) (.int .i64 0) (.int .i64 0) (.slice none 0 0)
    exact bodyPost_ret (v := .tuple #[val 0 0 0 none 0 0, .bool false]) (by simp [results, Try.results14, go_sem, q.c0, q.c1, q.c2, q.c3]) rfl (HF.out _ d.2)
end Go.Proofs.Ytifddipnboifnaa.G3
