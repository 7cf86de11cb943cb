/- Joined texts: plain facts and contracts, as each part says. -/
import Derived.Test.YtkdjcbmmbjongaaJpB
import Derived.Test.YtkdjcbmmbjongaaJpA
import Derived.Test.YtkdjcbmmbjongaaRows
import Derived.Lib.AppendStr
import Derived.Deep.AppendLies
import Derived.ProofKit
import Derived.Deep.RegionWith

/- Plain facts on reading an inode out of bytes. -/
namespace Go.Proofs.Ytkdjcbmmbjongaa.G0
open Go
set_option linter.unusedVariables false
set_option linter.unusedSimpArgs false

/-- How many pages are read: as many as the size asks for, no more than twelve. -/
def cnt (s : ByteArray) : Nat := min (P0.need (B6.pairAt s 2)).toNat 12

/-- The first pages that stand in a record. -/
def pgs (s : ByteArray) (k : Nat) : List Int := (List.range k).map fun (j : Nat) => B1.byteAt s (4 + (j : Int))

theorem pgs_length (s : ByteArray) (k : Nat) : (pgs s k).length = k := by simp [pgs]
theorem pgs_succ (s : ByteArray) (k : Nat) : pgs s k ++ [B1.byteAt s (4 + (k : Int))] = pgs s (k + 1) := by simp [pgs, List.range_succ]

/-- The bytes of the inode that a text would tell. -/
def txt (s : ByteArray) : ByteArray := R0.putI (B1.byteAt s 0) (B1.byteAt s 1) (B6.pairAt s 2) (pgs s (cnt s))

/-- Whether a text is that of an inode. -/
def isI (s : ByteArray) : Bool := decide (s.size = 16) && ((txt s).toList == s.toList)

def gK (s : ByteArray) : Int := if isI s then B1.byteAt s 0 else 0
def gO (s : ByteArray) : Int := if isI s then B1.byteAt s 1 else 0
def gS (s : ByteArray) : Int := if isI s then B6.pairAt s 2 else 0
def gZ (s : ByteArray) : List Int := if isI s then pgs s (cnt s) else []

theorem pairAt_lt (s : ByteArray) (i : Int) : 0 ≤ B6.pairAt s i ∧ B6.pairAt s i ≤ 65535 := by
  unfold B6.pairAt
  split
  · rename_i h
    have h1 := (s[i.toNat]'(by omega)).toNat_lt
    have h2 := (s[(i + 1).toNat]'(by omega)).toNat_lt
    omega
  · omega

theorem need_nonneg {x : Int} (h : 0 ≤ x) : 0 ≤ P0.need x := by unfold P0.need; omega

theorem cnt_le (s : ByteArray) : cnt s ≤ 12 := Nat.min_le_right _ _

theorem cnt_lt (s : ByteArray) (k : Nat) : k < cnt s ↔ (k : Int) < P0.need (B6.pairAt s 2) ∧ k < 12 := by
  have := need_nonneg (pairAt_lt s 2).1
  unfold cnt
  omega

/-- Where the text is an inode's the inode is right. -/
theorem isI_ok {s : ByteArray} (h : isI s = true) : s.size = 16 ∧ (txt s).toList = s.toList ∧ I0.ok (B1.byteAt s 0) (B1.byteAt s 1) (B6.pairAt s 2) (pgs s (cnt s)) = true := by
  simp only [isI, Bool.and_eq_true, decide_eq_true_eq, beq_iff_eq] at h
  refine ⟨h.1, h.2, ?_⟩
  cases hok : I0.ok (B1.byteAt s 0) (B1.byteAt s 1) (B6.pairAt s 2) (pgs s (cnt s)) with
  | true => rfl
  | false =>
    have h2 := h.2
    rw [txt, R0.putI, hok, if_neg (by decide)] at h2
    have h3 := congrArg List.length h2
    rw [Lib.toList_data, Lib.toList_data, ← Lib.size_eq, ← Lib.size_eq] at h3
    rw [h.1] at h3
    exact absurd h3 (by decide)

theorem isI_of {s : ByteArray} (h16 : s.size = 16) (h : ((txt s).toList == s.toList) = true) : isI s = true := by rw [isI, decide_eq_true h16, h]; rfl
theorem isI_not {s : ByteArray} (h : ((txt s).toList == s.toList) = false) : isI s = false := by rw [isI, h, Bool.and_false]
theorem isI_no {s : ByteArray} (h : ¬ s.size = 16) : isI s = false := by rw [isI, decide_eq_false h, Bool.false_and]
theorem isI_bad {s : ByteArray} (h : I0.ok (B1.byteAt s 0) (B1.byteAt s 1) (B6.pairAt s 2) (pgs s (cnt s)) = false) : isI s = false := by
  cases hi : isI s with
  | false => rfl
  | true => rw [(isI_ok hi).2.2] at h; cases h

theorem g_no {s : ByteArray} (h : isI s = false) : gK s = 0 ∧ gO s = 0 ∧ gS s = 0 ∧ gZ s = [] := by simp [gK, gO, gS, gZ, h]
theorem g_yes {s : ByteArray} (h : isI s = true) : gK s = B1.byteAt s 0 ∧ gO s = B1.byteAt s 1 ∧ gS s = B6.pairAt s 2 ∧ gZ s = pgs s (cnt s) := by simp [gK, gO, gS, gZ, h]
end Go.Proofs.Ytkdjcbmmbjongaa.G0

/- Contracts of spec.RecAt and impl.RecAt, as the given laws call them. -/
namespace Go.Proofs.Ytkdjcbmmbjongaa.L1
open Go.ChangeShapes Go.WideShapes Go.ChangeAt Go.RowKit
set_option linter.unusedVariables false

/-- The place of the record of an inode; -1 where there is none. -/
def recAt (i : Int) : Int := if B1.inB i 0 7 then 32 + i * 16 else -1

theorem spec_RecAt (i : Int) (w : World) :
    Calls Try.prog 44 #[.int .i64 i] w fun e w' => e = .returned (.int .i64 (recAt i)) ∧ w' = w := by
  by_cases h : B1.inB i 0 7 = true
  · have e : recAt i = 32 + i * 16 := by rw [recAt, if_pos h]
    obtain ⟨h1, h2⟩ := B1.inB_true h
    rw [e]
    go_enter Try.func44, Try.ntmps44
    go_wp2_with (go_at_call 60; refine (B1.l01In_any _ _ _ _).mono ?_; rintro e w' ⟨rfl, rfl⟩)
    go_ret
    exact ⟨rfl, rfl⟩
  · have h' : B1.inB i 0 7 = false := by simpa using h
    have e : recAt i = -1 := by rw [recAt, if_neg h]
    rw [e]
    go_enter Try.func44, Try.ntmps44
    go_wp2_with (go_at_call 60; refine (B1.l01In_any _ _ _ _).mono ?_; rintro e w' ⟨rfl, rfl⟩)
    go_ret
    exact ⟨rfl, rfl⟩

theorem impl_RecAt (i : Int) (w : World) :
    Calls Try.prog 52 #[.int .i64 i] w fun e w' => e = .returned (.int .i64 (recAt i)) ∧ w' = w := by
  by_cases h1 : i < 0
  · have e : recAt i = -1 := by rw [recAt, show B1.inB i 0 7 = false from decide_eq_false (by omega)]; rfl
    rw [e]
    go_enter Try.func52, Try.ntmps52
    go_wp2
    go_ret
    exact ⟨rfl, rfl⟩
  · by_cases h2 : 8 ≤ i
    · have e : recAt i = -1 := by rw [recAt, show B1.inB i 0 7 = false from decide_eq_false (by omega)]; rfl
      rw [e]
      go_enter Try.func52, Try.ntmps52
      go_wp2
      go_ret
      exact ⟨rfl, rfl⟩
    · have e : recAt i = 32 + i * 16 := by rw [recAt, show B1.inB i 0 7 = true from decide_eq_true (by omega)]; rfl
      rw [e]
      go_enter Try.func52, Try.ntmps52
      go_wp2
      go_ret
      exact ⟨rfl, rfl⟩
end Go.Proofs.Ytkdjcbmmbjongaa.L1

/- Plain facts on what Load tells. -/
namespace Go.Proofs.Ytkdjcbmmbjongaa.O0
open Go
set_option linter.unusedVariables false
set_option linter.unusedSimpArgs false

/-- The record of an inode in a memory. -/
def recd (mem : ByteArray) (i : Int) : ByteArray := B2.part mem (L1.recAt i) 16

/-- The first pages' bytes. -/
def joined (mem : ByteArray) (zs : List Int) : Nat → ByteArray
  | 0 => ⟨#[]⟩
  | k + 1 => joined mem zs k ++ B2.part mem (zs.getD k 0 * 32) 32

theorem page_size {mem : ByteArray} (hm : mem.size = 768) {z : Int} (h0 : 5 ≤ z) (h1 : z ≤ 23) : (B2.part mem (z * 32) 32).size = 32 := by
  rw [B2.part, show B2.lies mem.size (z * 32) 32 = true from decide_eq_true (by omega), if_pos rfl, ByteArray.size_extract]
  omega

theorem joined_size {mem : ByteArray} (hm : mem.size = 768) {zs : List Int} (hp : P0.pagesOk zs = true) : ∀ k, k ≤ zs.length → (joined mem zs k).size = 32 * k
  | 0, _ => rfl
  | k + 1, h => by
    have hz := R0.pages_bounds hp (k := k) (by omega)
    rw [joined, ByteArray.size_append, joined_size hm hp k (by omega), page_size hm hz.1 hz.2]
    omega

/-- Whether there is an inode to load. -/
def isL (mem : ByteArray) (i : Int) : Bool := decide (mem.size = 768) && (G0.isI (recd mem i) && !decide (B1.byteAt (recd mem i) 0 = 0))

def lK (mem : ByteArray) (i : Int) : Int := if isL mem i then G0.gK (recd mem i) else 0
def lO (mem : ByteArray) (i : Int) : Int := if isL mem i then G0.gO (recd mem i) else 0
def lS (mem : ByteArray) (i : Int) : Int := if isL mem i then G0.gS (recd mem i) else 0
def lZ (mem : ByteArray) (i : Int) : List Int := if isL mem i then G0.gZ (recd mem i) else []
def lD (mem : ByteArray) (i : Int) : ByteArray := if isL mem i then (joined mem (G0.gZ (recd mem i)) (G0.gZ (recd mem i)).length).extract 0 (G0.gS (recd mem i)).toNat else ⟨#[]⟩

theorem l_no {mem : ByteArray} {i : Int} (h : isL mem i = false) : lK mem i = 0 ∧ lO mem i = 0 ∧ lS mem i = 0 ∧ lZ mem i = [] ∧ lD mem i = ⟨#[]⟩ := by simp [lK, lO, lS, lZ, lD, h]
theorem l_yes {mem : ByteArray} {i : Int} (h : isL mem i = true) : lK mem i = G0.gK (recd mem i) ∧ lO mem i = G0.gO (recd mem i) ∧ lS mem i = G0.gS (recd mem i) ∧ lZ mem i = G0.gZ (recd mem i) ∧ lD mem i = (joined mem (G0.gZ (recd mem i)) (G0.gZ (recd mem i)).length).extract 0 (G0.gS (recd mem i)).toNat := by simp [lK, lO, lS, lZ, lD, h]

theorem isL_size {mem : ByteArray} {i : Int} (h : ¬ mem.size = 768) : isL mem i = false := by rw [isL, decide_eq_false h, Bool.false_and]
theorem isL_rec {mem : ByteArray} {i : Int} (h : G0.isI (recd mem i) = false) : isL mem i = false := by rw [isL, h, Bool.false_and, Bool.and_false]
theorem isL_free {mem : ByteArray} {i : Int} (h : B1.byteAt (recd mem i) 0 = 0) : isL mem i = false := by rw [isL, decide_eq_true h, Bool.not_true, Bool.and_false, Bool.and_false]
theorem isL_of {mem : ByteArray} {i : Int} (h1 : mem.size = 768) (h2 : G0.isI (recd mem i) = true) (h3 : ¬ B1.byteAt (recd mem i) 0 = 0) : isL mem i = true := by rw [isL, decide_eq_true h1, h2, decide_eq_false h3]; rfl

theorem recd_size (mem : ByteArray) (i : Int) (h : mem.size ≤ 281474976710656) : (recd mem i).size ≤ 281474976710656 := by
  have := B2.part_size mem (L1.recAt i) 16
  unfold recd
  omega

/-- The inode that is loaded: its numbers. -/
theorem got {s : ByteArray} (h : G0.isI s = true) : (0 ≤ G0.gS s ∧ G0.gS s ≤ 192) ∧ (G0.gZ s).length ≤ 6 ∧ G0.gS s ≤ 32 * ((G0.gZ s).length : Int) ∧ P0.pagesOk (G0.gZ s) = true ∧ (0 ≤ G0.gK s ∧ G0.gK s ≤ 2) := by
  have hb := R0.ok_bounds (G0.isI_ok h).2.2
  obtain ⟨e1, e2, e3, e4⟩ := G0.g_yes h
  rw [e1, e3, e4]
  refine ⟨hb.2.2.1, hb.2.2.2.1, ?_, hb.2.2.2.2.2, hb.1⟩
  rw [hb.2.2.2.2.1]
  unfold P0.need
  omega

theorem cut (t : ByteArray) (m : Nat) (h : m ≤ t.size) : t.extract 0 m ++ t.extract m t.size = t := by
  apply ByteArray.ext
  apply Array.toList_inj.1
  simp only [ByteArray.data_append, Array.toList_append, Lib.extract_data, List.drop_zero, Nat.sub_zero]
  have : (t.data.toList.drop m).take (t.size - m) = t.data.toList.drop m := List.take_of_length_le (by rw [List.length_drop, ← Lib.size_eq]; exact Nat.le_refl _)
  rw [this, List.take_append_drop]
end Go.Proofs.Ytkdjcbmmbjongaa.O0

/- Plain facts on reading a directory out of bytes. -/
namespace Go.Proofs.Ytkdjcbmmbjongaa.V0
open Go
set_option linter.unusedVariables false
set_option linter.unusedSimpArgs false

/-- The bytes of the entry at a place. -/
def chunk (s : ByteArray) (j : Nat) : ByteArray := B2.part s ((j : Int) * 16) 16

/-- The first entries that a text tells. -/
def ents (s : ByteArray) (k : Nat) : List T0.Ent := (List.range k).map fun (j : Nat) => (E4.eIno (chunk s j), E4.eName (chunk s j))

theorem ents_length (s : ByteArray) (k : Nat) : (ents s k).length = k := by simp [ents]
theorem ents_succ (s : ByteArray) (k : Nat) : ents s k ++ [(E4.eIno (chunk s k), E4.eName (chunk s k))] = ents s (k + 1) := by simp [ents, List.range_succ]
theorem ents_get (s : ByteArray) (k j : Nat) (h : j < k) : T0.ent (ents s k) j = (E4.eIno (chunk s j), E4.eName (chunk s j)) := by
  rw [T0.ent_get _ _ (by rw [ents_length]; exact h)]
  simp [ents]

/-- How many are read. -/
def cnt (s : ByteArray) : Nat := min ((s.size + 15) / 16) 13

/-- Whether a text is that of a directory. -/
def isD (s : ByteArray) : Bool := decide (s.size = 0) || ((T0.putD (ents s (cnt s))).toList == s.toList)

def dE (s : ByteArray) : List T0.Ent := if isD s then ents s (cnt s) else []

theorem toList_eq {a b : ByteArray} (h : a.toList = b.toList) : a = b := by
  rw [Lib.toList_data, Lib.toList_data] at h
  exact ByteArray.ext (Array.toList_inj.1 h)

theorem chunk_eq (s : ByteArray) (j : Nat) (h : (j + 1) * 16 ≤ s.size) : chunk s j = s.extract (j * 16) (j * 16 + 16) := by
  rw [chunk, B2.part, show B2.lies s.size ((j : Int) * 16) 16 = true from decide_eq_true (by omega), if_pos rfl, show ((j : Int) * 16).toNat = j * 16 by omega, show ((j : Int) * 16 + 16).toNat = j * 16 + 16 by omega]

theorem isE_eq {x : ByteArray} (h : E4.isE x = true) : E0.putE (E4.eIno x) (E4.eName x) = x := by
  have h2 := h
  simp only [E4.isE, Bool.and_eq_true, beq_iff_eq] at h2
  rw [E4.eIno, E4.eName, if_pos h, if_pos h]
  exact toList_eq h2.2

theorem not_isE {x : ByteArray} (h : E4.isE x = false) : E4.eIno x = 0 ∧ E4.eName x = ⟨#[]⟩ := by simp [E4.eIno, E4.eName, h]

theorem entryOk_zero : E0.entryOk 0 ⟨#[]⟩ = false := by
  rw [E0.entryOk, show B1.inB 0 1 7 = false from by decide, Bool.and_false]

theorem ext_join (s : ByteArray) (a b : Nat) (h1 : a ≤ b) (h2 : b ≤ s.size) : s.extract 0 a ++ s.extract a b = s.extract 0 b := by
  apply ByteArray.ext
  apply Array.toList_inj.1
  simp only [ByteArray.data_append, Array.toList_append, Lib.extract_data, List.drop_zero, Nat.sub_zero]
  rw [← List.take_add, show a + (b - a) = b by omega]

/-- Where all chunks are entries' the entries' bytes are the text's. -/
theorem joined_ext (s : ByteArray) (n : Nat) (hE : ∀ j, j < n → E4.isE (chunk s j) = true) : ∀ k, k ≤ n → k * 16 ≤ s.size → T0.joined (ents s n) k = s.extract 0 (k * 16)
  | 0, _, _ => by
    apply ByteArray.ext
    simp [T0.joined]
  | k + 1, hk, hs => by
    rw [T0.joined, joined_ext s n hE k (by omega) (by omega), ents_get s n k (by omega), isE_eq (hE k (by omega)), chunk_eq s k (by omega), ext_join s _ _ (by omega) (by omega), show k * 16 + 16 = (k + 1) * 16 by omega]

theorem ext_all (s : ByteArray) : s.extract 0 s.size = s := by
  apply ByteArray.ext
  apply Array.toList_inj.1
  rw [Lib.extract_data]
  simp only [List.drop_zero, Nat.sub_zero]
  exact List.take_of_length_le (by rw [← Lib.size_eq]; exact Nat.le_refl _)

/-- What the program asks for is what the specification asks for. -/
theorem isD_of {s : ByteArray} (h1 : s.size ≤ 192) (h2 : s.size % 16 = 0) (hE : ∀ j, j < s.size / 16 → E4.isE (chunk s j) = true) (hD : T0.dirOk (ents s (s.size / 16)) = true) : isD s = true ∧ cnt s = s.size / 16 := by
  have hc : cnt s = s.size / 16 := by unfold cnt; omega
  refine ⟨?_, hc⟩
  rw [isD, hc]
  have : T0.putD (ents s (s.size / 16)) = s := by
    rw [T0.putD, if_pos hD, ents_length, joined_ext s _ hE _ (Nat.le_refl _) (by omega), show s.size / 16 * 16 = s.size by omega]
    exact ext_all s
  rw [this]
  simp

theorem of_isD {s : ByteArray} (h : isD s = true) : s.size ≤ 192 ∧ s.size % 16 = 0 ∧ cnt s = s.size / 16 ∧ (∀ j, j < s.size / 16 → E4.isE (chunk s j) = true) ∧ T0.dirOk (ents s (s.size / 16)) = true := by
  by_cases h0 : s.size = 0
  · refine ⟨by omega, by omega, by unfold cnt; omega, fun j hj => by omega, ?_⟩
    rw [h0]
    rfl
  · rw [isD, decide_eq_false h0, Bool.false_or] at h
    have he : T0.putD (ents s (cnt s)) = s := toList_eq (by simpa using h)
    have hD : T0.dirOk (ents s (cnt s)) = true := by
      cases hb : T0.dirOk (ents s (cnt s)) with
      | true => rfl
      | false =>
        rw [T0.putD, hb] at he
        have := congrArg ByteArray.size he
        exact absurd this.symm h0
    have hd := hD
    simp only [T0.dirOk, Bool.and_eq_true, decide_eq_true_eq] at hd
    rw [ents_length] at hd
    have hsz : s.size = 16 * cnt s := by
      have := T0.joined_size hd.2 (cnt s) (Nat.le_refl _)
      rw [T0.putD, if_pos hD, ents_length] at he
      rw [he] at this
      exact this
    have hc : cnt s = s.size / 16 := by omega
    rw [← hc]
    refine ⟨by omega, by omega, rfl, fun j hj => ?_, hD⟩
    cases hb : E4.isE (chunk s j) with
    | true => rfl
    | false =>
      have h1 := (T0.okAt_entry (T0.okUpto_at hd.2 hj)).1
      rw [ents_get s _ j hj, (not_isE hb).1, (not_isE hb).2, entryOk_zero] at h1
      cases h1
end Go.Proofs.Ytkdjcbmmbjongaa.V0

/- Plain facts on loans: what a loan must be, as the program asks it and as its specification does. -/
namespace Go.Proofs.Ytkdjcbmmbjongaa.N0
open Go
set_option linter.unusedVariables false
set_option linter.unusedSimpArgs false

/-- A loan's numbers, texts and lists. -/
structure Ln where
  ino : Int
  cl : Int
  un : Int
  rc : ByteArray
  pg : List Int
  sav : ByteArray
  po : List Int
  fr : List Int

/-- A test that holds at the first places. -/
def to (f : Nat → Bool) (k : Nat) : Bool := (List.range k).all f

theorem to_zero (f : Nat → Bool) : to f 0 = true := rfl
theorem to_succ (f : Nat → Bool) (k : Nat) : to f (k + 1) = (to f k && f k) := by simp [to, List.range_succ]
theorem to_iff {f : Nat → Bool} {k : Nat} : to f k = true ↔ ∀ i, i < k → f i = true := by simp [to, List.all_eq_true]
theorem to_bad {f : Nat → Bool} {k n : Nat} (hk : k < n) (h : f k = false) : to f n = false := by
  cases e : to f n with
  | false => rfl
  | true => rw [to_iff.1 e k hk] at h; cases h
theorem to_step {f : Nat → Bool} {k : Nat} (h : to f k = true) (hf : f k = true) : to f (k + 1) = true := by rw [to_succ, h, hf]; rfl

def ascAt (zs : List Int) (i : Nat) : Bool := decide (i = 0) || decide (zs.getD (i - 1) 0 < zs.getD i 0)
def asc (zs : List Int) : Bool := to (ascAt zs) zs.length
def upAt (zs : List Int) (a b : Int) (i : Nat) : Bool := B1.inB (zs.getD i 0) a b && ascAt zs i
def up (zs : List Int) (a b : Int) : Bool := to (upAt zs a b) zs.length
def apAt (pg po : List Int) (i : Nat) : Bool := !(P0.has pg (po.getD i 0))
def apart (pg po : List Int) : Bool := to (apAt pg po) po.length
def amAt (zs al : List Int) (i : Nat) : Bool := P0.has al (zs.getD i 0)
def among (zs al : List Int) : Bool := to (amAt zs al) zs.length
def frAt (fr : List Int) (ino : Int) (i : Nat) : Bool := B1.inB (fr.getD i 0) 1 7 && !decide (fr.getD i 0 = ino)

/-- What a lent inode was is there. -/
def past (d : Ln) : Bool := G0.isI d.rc && (!decide (G0.gK d.rc = 0) && (decide (G0.gZ d.rc = d.pg) && (decide (d.sav.size = d.pg.length * 32) && (!decide (G0.gK d.rc = 2) || V0.isD (B2.part d.sav 0 (G0.gS d.rc))))))
def nums (d : Ln) : Bool := decide (0 ≤ d.ino) && (decide (d.ino < 8) && (decide (0 ≤ d.cl) && (decide (d.cl ≤ 8) && decide (0 ≤ d.un))))
def poolOk (d : Ln) : Bool := decide (d.po.length ≤ 4) && (asc d.po && P0.pagesOk (G0.gZ d.rc ++ d.po))
def freshOk (d : Ln) : Bool := if G0.gK d.rc = 2 then decide (d.fr.length ≤ 2) && (asc d.fr && to (frAt d.fr d.ino) d.fr.length) else decide (d.fr.length = 0)

/-- What a loan must be, as the program asks. -/
def loanOk (d : Ln) : Bool := past d && (nums d && (poolOk d && freshOk d))

/-- .. as the specification asks: what is asked first. -/
def sFirst (d : Ln) : Bool := G0.isI d.rc && (!decide (G0.gK d.rc = 0) && (B1.inB d.ino 0 7 && (B1.inB d.cl 0 8 && (!decide (d.un < 0) && (decide (G0.gZ d.rc = d.pg) && decide (d.sav.size = d.pg.length * 32))))))
def sDir (d : Ln) : Bool := !decide (G0.gK d.rc = 2) || V0.isD (B2.part d.sav 0 (G0.gS d.rc))
def sLast (d : Ln) : Bool := up d.po 5 23 && (decide (d.po.length ≤ 4) && (up d.fr 1 7 && (decide (d.fr.length ≤ 2) && (!(P0.has d.fr d.ino) && (decide (G0.gK d.rc = 2) || decide (d.fr.length = 0))))))
def sOk (d : Ln) : Bool := sFirst d && (apart d.pg d.po && (sDir d && sLast d))

theorem getD_mem {zs : List Int} {i : Nat} (h : i < zs.length) : zs.getD i 0 ∈ zs := by
  rw [P0.getD_get _ _ h]
  exact List.getElem_mem h
theorem mem_getD {zs : List Int} {z : Int} (h : z ∈ zs) : ∃ i, i < zs.length ∧ zs.getD i 0 = z := by
  obtain ⟨i, hi, e⟩ := List.mem_iff_getElem.1 h
  exact ⟨i, hi, by rw [P0.getD_get _ _ hi]; exact e⟩

theorem has_iff {l : List Int} {x : Int} : P0.has l x = true ↔ x ∈ l := by unfold P0.has; exact List.contains_iff_mem
theorem has_not {l : List Int} {x : Int} : P0.has l x = false ↔ ¬ x ∈ l := by
  rw [← has_iff]
  cases P0.has l x <;> simp

theorem inB_iff {z a b : Int} : B1.inB z a b = true ↔ a ≤ z ∧ z ≤ b := by unfold B1.inB; simp

theorem pagesOk_iff {zs : List Int} : P0.pagesOk zs = true ↔ (∀ z ∈ zs, 5 ≤ z ∧ z ≤ 23) ∧ zs.Nodup := by
  have h0 : P0.pagesOk zs = to (P0.okAt zs) zs.length := rfl
  rw [h0, to_iff]
  constructor
  · intro h
    refine ⟨fun z hz => ?_, ?_⟩
    · obtain ⟨i, hi, rfl⟩ := mem_getD hz
      have := h i hi
      simp only [P0.okAt, Bool.and_eq_true] at this
      exact inB_iff.1 this.1
    · rw [List.Nodup, List.pairwise_iff_getElem]
      intro i j hi hj hij e
      have := h j hj
      simp only [P0.okAt, Bool.and_eq_true, Bool.not_eq_true'] at this
      have h2 := P0.contains_of (zs := zs) hij (Nat.le_of_lt hj)
      rw [P0.getD_get _ _ hi, e, ← P0.getD_get _ _ hj, this.2] at h2
      cases h2
  · rintro ⟨h1, h2⟩ i hi
    simp only [P0.okAt, Bool.and_eq_true, Bool.not_eq_true']
    refine ⟨inB_iff.2 (h1 _ (getD_mem hi)), has_not.2 fun hm => ?_⟩
    obtain ⟨j, hj, e⟩ := List.mem_iff_getElem.1 hm
    have hj' : j < i := by simp at hj; omega
    rw [List.getElem_take, P0.getD_get _ _ hi] at e
    rw [List.Nodup, List.pairwise_iff_getElem] at h2
    exact h2 j i (by omega) hi hj' e

theorem asc_iff {zs : List Int} : asc zs = true ↔ zs.Pairwise (· < ·) := by
  unfold asc
  rw [to_iff, List.pairwise_iff_getElem]
  constructor
  · intro h i j hi hj hij
    induction j with
    | zero => omega
    | succ j ih =>
      have hs := h (j + 1) hj
      simp only [ascAt, Bool.or_eq_true, decide_eq_true_eq, Nat.add_sub_cancel] at hs
      have hs' : zs[j] < zs[j + 1] := by
        rcases hs with hs | hs
        · omega
        · rw [P0.getD_get _ _ (by omega), P0.getD_get _ _ hj] at hs
          exact hs
      by_cases e : i = j
      · subst e
        exact hs'
      · exact Int.lt_trans (ih (by omega) (by omega)) hs'
  · intro h i hi
    simp only [ascAt, Bool.or_eq_true, decide_eq_true_eq]
    by_cases e : i = 0
    · exact Or.inl e
    · right
      rw [P0.getD_get _ _ (by omega), P0.getD_get _ _ hi]
      exact h (i - 1) i (by omega) hi (by omega)

theorem asc_nodup {zs : List Int} (h : asc zs = true) : zs.Nodup := (asc_iff.1 h).imp fun h e => by omega

theorem up_iff {zs : List Int} {a b : Int} : up zs a b = true ↔ (∀ z ∈ zs, a ≤ z ∧ z ≤ b) ∧ asc zs = true := by
  unfold up asc
  rw [to_iff, to_iff]
  constructor
  · intro h
    refine ⟨fun z hz => ?_, fun i hi => ?_⟩
    · obtain ⟨i, hi, rfl⟩ := mem_getD hz
      have := h i hi
      simp only [upAt, Bool.and_eq_true] at this
      exact inB_iff.1 this.1
    · have := h i hi
      simp only [upAt, Bool.and_eq_true] at this
      exact this.2
  · rintro ⟨h1, h2⟩ i hi
    simp only [upAt, Bool.and_eq_true]
    exact ⟨inB_iff.2 (h1 _ (getD_mem hi)), h2 i hi⟩

theorem apart_iff {pg po : List Int} : apart pg po = true ↔ ∀ z ∈ po, ¬ z ∈ pg := by
  unfold apart
  rw [to_iff]
  constructor
  · intro h z hz
    obtain ⟨i, hi, rfl⟩ := mem_getD hz
    have := h i hi
    simp only [apAt, Bool.not_eq_true'] at this
    exact has_not.1 this
  · intro h i hi
    simp only [apAt, Bool.not_eq_true']
    exact has_not.2 (h _ (getD_mem hi))

theorem among_iff {zs al : List Int} : among zs al = true ↔ ∀ z ∈ zs, z ∈ al := by
  unfold among
  rw [to_iff]
  constructor
  · intro h z hz
    obtain ⟨i, hi, rfl⟩ := mem_getD hz
    exact has_iff.1 (h i hi)
  · intro h i hi
    exact has_iff.2 (h _ (getD_mem hi))

theorem frTo_iff {fr : List Int} {ino : Int} : to (frAt fr ino) fr.length = true ↔ (∀ z ∈ fr, 1 ≤ z ∧ z ≤ 7) ∧ ¬ ino ∈ fr := by
  rw [to_iff]
  constructor
  · intro h
    refine ⟨fun z hz => ?_, fun hm => ?_⟩
    · obtain ⟨i, hi, rfl⟩ := mem_getD hz
      have := h i hi
      simp only [frAt, Bool.and_eq_true] at this
      exact inB_iff.1 this.1
    · obtain ⟨i, hi, e⟩ := mem_getD hm
      have := h i hi
      simp only [frAt, Bool.and_eq_true, Bool.not_eq_true', decide_eq_false_iff_not] at this
      exact this.2 e
  · rintro ⟨h1, h2⟩ i hi
    simp only [frAt, Bool.and_eq_true, Bool.not_eq_true', decide_eq_false_iff_not]
    exact ⟨inB_iff.2 (h1 _ (getD_mem hi)), fun e => h2 (e ▸ getD_mem hi)⟩

/-- Both ask for the same. -/
theorem sOk_eq (d : Ln) : sOk d = loanOk d := by
  rw [Bool.eq_iff_iff]
  by_cases hP : sFirst d = true
  · have h := hP
    simp only [sFirst, Bool.and_eq_true, Bool.not_eq_true', decide_eq_true_eq, decide_eq_false_iff_not, inB_iff] at h
    obtain ⟨hI, hk, hi, hc, hu, hz, hs⟩ := h
    have hg := O0.got hI
    have hpg := pagesOk_iff.1 hg.2.2.2.1
    rw [hz] at hpg
    simp only [sOk, loanOk, hP, past, nums, poolOk, hI, hk, hz, hs, Bool.and_eq_true, Bool.true_and, decide_true, decide_false, Bool.not_false, decide_eq_true_eq, sDir, sLast]
    rw [apart_iff, up_iff, up_iff, pagesOk_iff]
    constructor
    · rintro ⟨h1, h2, ⟨h3, h4⟩, h5, ⟨h6, h7⟩, h8, h9, h10⟩
      refine ⟨h2, ⟨by omega, by omega, by omega, by omega, by omega⟩, ⟨h5, h4, ?_, ?_⟩, ?_⟩
      · intro z hz'
        rcases List.mem_append.1 hz' with h | h
        · exact hpg.1 z h
        · exact h3 z h
      · exact List.nodup_append.2 ⟨hpg.2, asc_nodup h4, fun a ha b hb e => h1 b hb (e ▸ ha)⟩
      · unfold freshOk
        by_cases k2 : G0.gK d.rc = 2
        · rw [if_pos k2]
          simp only [Bool.and_eq_true, decide_eq_true_eq]
          exact ⟨h8, h7, frTo_iff.2 ⟨h6, has_not.1 (by simpa using h9)⟩⟩
        · rw [if_neg k2]
          simp only [k2, decide_false, Bool.false_or, decide_eq_true_eq, Bool.or_eq_true, false_or] at h10
          simpa using h10
    · rintro ⟨h2, ⟨n1, n2, n3, n4, n5⟩, ⟨h5, h4, h3, hnd⟩, hf⟩
      have hnd' := List.nodup_append.1 hnd
      have hfr : up d.fr 1 7 = true ∧ d.fr.length ≤ 2 ∧ (!P0.has d.fr d.ino) = true ∧ (decide (G0.gK d.rc = 2) || decide (d.fr.length = 0)) = true := by
        unfold freshOk at hf
        by_cases k2 : G0.gK d.rc = 2
        · rw [if_pos k2] at hf
          simp only [Bool.and_eq_true, decide_eq_true_eq] at hf
          obtain ⟨f1, f2, f3⟩ := hf
          obtain ⟨f4, f5⟩ := frTo_iff.1 f3
          exact ⟨up_iff.2 ⟨f4, f2⟩, f1, by simpa using has_not.2 f5, by simp [k2]⟩
        · rw [if_neg k2] at hf
          have h0 : d.fr = [] := List.eq_nil_of_length_eq_zero (by simpa using hf)
          rw [h0]
          exact ⟨rfl, by decide, rfl, by simp⟩
      obtain ⟨q1, q2, q3, q4⟩ := hfr
      exact ⟨fun z hz' hz2 => hnd'.2.2 z hz2 z hz' rfl, h2, ⟨fun z hz' => h3 z (List.mem_append.2 (Or.inr hz')), h4⟩, h5, up_iff.1 q1, q2, q3, q4⟩
  · have h1 : sFirst d = false := by simpa using hP
    simp only [sOk, h1, Bool.false_and, Bool.false_eq_true, false_iff]
    intro hl
    apply hP
    simp only [loanOk, past, nums, Bool.and_eq_true, decide_eq_true_eq] at hl
    obtain ⟨⟨a1, a2, a3, a4, a5⟩, ⟨b1, b2, b3, b4, b5⟩, -⟩ := hl
    simp only [sFirst, Bool.and_eq_true, decide_eq_true_eq, inB_iff]
    exact ⟨a1, a2, ⟨b1, by omega⟩, ⟨b3, b4⟩, by simp; omega, a3, a4⟩

theorem loanOk_past {d : Ln} (h : loanOk d = true) : past d = true := by simp only [loanOk, Bool.and_eq_true] at h; exact h.1

/-- What is known of a right loan. -/
theorem loanOk_is {d : Ln} (h : loanOk d = true) : G0.isI d.rc = true ∧ G0.gK d.rc ≠ 0 ∧ G0.gZ d.rc = d.pg ∧ d.sav.size = d.pg.length * 32 ∧ (0 ≤ d.ino ∧ d.ino ≤ 7) ∧ (0 ≤ d.cl ∧ d.cl ≤ 8) ∧ d.pg.length ≤ 6 ∧ d.po.length ≤ 4 ∧ d.fr.length ≤ 2 ∧ P0.pagesOk (d.pg ++ d.po) = true ∧ (∀ z ∈ d.fr, 1 ≤ z ∧ z ≤ 7) ∧ asc d.po = true ∧ asc d.fr = true := by
  have h' := h
  rw [← sOk_eq] at h'
  simp only [sOk, sFirst, sLast, Bool.and_eq_true, decide_eq_true_eq, inB_iff, Bool.not_eq_true', decide_eq_false_iff_not] at h'
  obtain ⟨⟨a1, a2, a3, a4, a5, a6, a7⟩, -, -, b1, b2, b3, b4, -⟩ := h'
  simp only [loanOk, poolOk, Bool.and_eq_true] at h
  have hp := h.2.2.1.2.2
  rw [a6] at hp
  have := (O0.got a1).2.1
  rw [a6] at this
  exact ⟨a1, a2, a6, a7, a3, a4, this, b2, b4, hp, (up_iff.1 b3).1, (up_iff.1 b1).2, (up_iff.1 b3).2⟩
end Go.Proofs.Ytkdjcbmmbjongaa.N0

/- Plain facts on what an honest client puts: its pages, its texts. -/
namespace Go.Proofs.Ytkdjcbmmbjongaa.PF
open Go
set_option linter.unusedVariables false
set_option linter.unusedSimpArgs false

open P0 (has)

/-- Some pages, and behind them those of others that are neither barred nor there. -/
def add1 (barred acc : List Int) (x : Int) : List Int := if has barred x || has acc x then acc else acc ++ [x]
def grow (acc lent barred : List Int) : List Int := lent.foldl (add1 barred) acc

theorem grow_nil (acc barred : List Int) : grow acc [] barred = acc := rfl
theorem grow_succ (acc lent barred : List Int) (k : Nat) (h : k < lent.length) : grow acc (lent.take (k + 1)) barred = add1 barred (grow acc (lent.take k) barred) (lent.getD k 0) := by
  rw [grow, List.take_succ_eq_append_getElem h, List.foldl_append, P0.getD_get _ _ h]
  rfl

theorem add1_len (barred acc : List Int) (x : Int) : (add1 barred acc x).length ≤ acc.length + 1 := by
  unfold add1
  split
  · omega
  · simp

theorem grow_len (lent barred : List Int) : ∀ acc : List Int, (grow acc lent barred).length ≤ acc.length + lent.length := by
  induction lent with
  | nil => intro acc; simp [grow]
  | cons x r ih =>
    intro acc
    have h1 := ih (add1 barred acc x)
    have h2 := add1_len barred acc x
    show (grow (add1 barred acc x) r barred).length ≤ _
    simp only [List.length_cons]
    omega

/-- Those of some numbers that are not among others. -/
def rest (list taken : List Int) : List Int := list.filter fun x => !(has taken x)

theorem rest_succ (list taken : List Int) (k : Nat) (h : k < list.length) : rest (list.take (k + 1)) taken = if has taken (list.getD k 0) then rest (list.take k) taken else rest (list.take k) taken ++ [list.getD k 0] := by
  rw [rest, List.take_succ_eq_append_getElem h, List.filter_append, P0.getD_get _ _ h]
  cases hb : has taken list[k] <;> simp [rest, hb]

theorem rest_len (list taken : List Int) : (rest list taken).length ≤ list.length := List.length_filter_le _ _

theorem grow_rest (taken : List Int) : ∀ (lent acc : List Int), grow acc (rest lent taken) [] = grow acc lent taken
  | [], acc => rfl
  | x :: r, acc => by
    by_cases hb : has taken x = true
    · have e1 : rest (x :: r) taken = rest r taken := by simp [rest, hb]
      have e2 : grow acc (x :: r) taken = grow acc r taken := by
        show grow (add1 taken acc x) r taken = _
        rw [add1, hb, Bool.true_or, if_pos rfl]
      rw [e1, e2]
      exact grow_rest taken r acc
    · have hb' : has taken x = false := by simpa using hb
      have e1 : rest (x :: r) taken = x :: rest r taken := by simp [rest, hb']
      rw [e1]
      show grow (add1 [] acc x) (rest r taken) [] = grow (add1 taken acc x) r taken
      have e3 : add1 [] acc x = add1 taken acc x := by
        rw [add1, add1, hb']
        rfl
      rw [e3]
      exact grow_rest taken r _

theorem grow_none (acc lent : List Int) : grow acc lent [] = grow acc (rest lent []) [] := by rw [grow_rest]

/-- All are data pages. -/
theorem grow_mem (barred : List Int) : ∀ (lent acc : List Int) (z : Int), z ∈ grow acc lent barred → z ∈ acc ∨ z ∈ lent
  | [], acc, z, h => Or.inl h
  | x :: r, acc, z, h => by
    rcases grow_mem barred r (add1 barred acc x) z h with h1 | h1
    · unfold add1 at h1
      split at h1
      · exact Or.inl h1
      · simp at h1
        rcases h1 with h1 | h1
        · exact Or.inl h1
        · exact Or.inr (by simp [h1])
    · exact Or.inr (by simp [h1])

/-- The bytes of a page of a text, with zeros behind. -/
def pageText (data : ByteArray) (i : Nat) : ByteArray := B5.laid (B4.nulls 32) 0 (B2.part data ((i : Int) * 32) (min 32 ((data.size : Int) - (i : Int) * 32)))

/-- The puts of the first pages. -/
def pagePuts (pages : List Int) (data : ByteArray) (k : Nat) : List T0.Ent := (List.range k).map fun (i : Nat) => (pages.getD i 0 * 32, pageText data i)

theorem pagePuts_length (pages : List Int) (data : ByteArray) (k : Nat) : (pagePuts pages data k).length = k := by simp [pagePuts]
theorem pagePuts_succ (pages : List Int) (data : ByteArray) (k : Nat) : pagePuts pages data (k + 1) = pagePuts pages data k ++ [(pages.getD k 0 * 32, pageText data k)] := by simp [pagePuts, List.range_succ]

/-- Whether a text has room. -/
def fitsIn (pages : List Int) (data : ByteArray) : Bool := decide (data.size ≤ 192) && decide ((P0.need data.size).toNat ≤ pages.length)

/-- All that is put: the pages, and the record behind them. -/
def allPuts (ino k o : Int) (pages : List Int) (data : ByteArray) : List T0.Ent := pagePuts pages data (P0.need data.size).toNat ++ [(L1.recAt ino, R0.putI k o data.size (pages.take (P0.need data.size).toNat))]

def puts (ino k o : Int) (pages : List Int) (data : ByteArray) : List T0.Ent := if fitsIn pages data then allPuts ino k o pages data else []

theorem fits_no1 {pages : List Int} {data : ByteArray} (h : ¬ data.size ≤ 192) : fitsIn pages data = false := by rw [fitsIn, decide_eq_false h, Bool.false_and]
theorem fits_no2 {pages : List Int} {data : ByteArray} (h : ¬ (P0.need data.size).toNat ≤ pages.length) : fitsIn pages data = false := by rw [fitsIn, decide_eq_false h, Bool.and_false]
theorem fits_yes {pages : List Int} {data : ByteArray} (h1 : data.size ≤ 192) (h2 : (P0.need data.size).toNat ≤ pages.length) : fitsIn pages data = true := by rw [fitsIn, decide_eq_true h1, decide_eq_true h2]; rfl
theorem puts_no {ino k o : Int} {pages : List Int} {data : ByteArray} (h : fitsIn pages data = false) : puts ino k o pages data = [] := by simp [puts, h]
theorem puts_yes {ino k o : Int} {pages : List Int} {data : ByteArray} (h : fitsIn pages data = true) : puts ino k o pages data = allPuts ino k o pages data := by simp [puts, h]
theorem allPuts_length (ino k o : Int) (pages : List Int) (data : ByteArray) : (allPuts ino k o pages data).length = (P0.need data.size).toNat + 1 := by simp [allPuts, pagePuts_length]
theorem puts_len (ino k o : Int) (pages : List Int) (data : ByteArray) : (puts ino k o pages data).length ≤ 8 := by
  cases h : fitsIn pages data with
  | false => rw [puts_no h]; exact Nat.zero_le _
  | true =>
    rw [puts_yes h, allPuts_length]
    simp only [fitsIn, Bool.and_eq_true, decide_eq_true_eq] at h
    unfold P0.need
    omega

theorem bytes_ext {a b : ByteArray} (h : a.data.toList = b.data.toList) : a = b := ByteArray.ext (Array.toList_inj.1 h)

/-- What the specification puts into a page. -/
theorem page_eq (data : ByteArray) (i n : Nat) (hn : (i + 1) * 32 ≤ n * 32) (hi : i * 32 < data.size) (hN : data.size ≤ n * 32) : B2.part (data ++ B4.nulls (n * 32 - data.size)) ((i : Int) * 32) 32 = pageText data i := by
  have hz : (data ++ B4.nulls (n * 32 - data.size)).size = n * 32 := by rw [ByteArray.size_append, B4.nulls_size]; omega
  have l1 : B2.lies (data ++ B4.nulls (n * 32 - data.size)).size ((i : Int) * 32) 32 = true := decide_eq_true (by rw [hz]; omega)
  have l2 : B2.lies data.size ((i : Int) * 32) (min 32 ((data.size : Int) - (i : Int) * 32)) = true := decide_eq_true (by omega)
  have hp : B2.part data ((i : Int) * 32) (min 32 ((data.size : Int) - (i : Int) * 32)) = data.extract (i * 32) (i * 32 + min 32 (data.size - i * 32)) := by
    rw [B2.part, l2, if_pos rfl, show ((i : Int) * 32).toNat = i * 32 by omega, show ((i : Int) * 32 + min 32 ((data.size : Int) - (i : Int) * 32)).toNat = i * 32 + min 32 (data.size - i * 32) by omega]
  have hs : (data.extract (i * 32) (i * 32 + min 32 (data.size - i * 32))).size = min 32 (data.size - i * 32) := by rw [ByteArray.size_extract]; omega
  have l3 : B2.lies (B4.nulls 32).size 0 (data.extract (i * 32) (i * 32 + min 32 (data.size - i * 32))).size = true := decide_eq_true (by rw [hs, B4.nulls_size]; omega)
  rw [pageText, hp, B2.part, l1, if_pos rfl, B5.laid, l3, if_pos rfl, hs]
  apply bytes_ext
  simp only [ByteArray.data_append, Array.toList_append, Lib.extract_data, B4.nulls, Array.toList_replicate, B4.nulls_size]
  rw [show ((i : Int) * 32).toNat = i * 32 by omega, show ((i : Int) * 32 + 32).toNat = i * 32 + 32 by omega, show ((0 : Int) + ((min 32 (data.size - i * 32) : Nat) : Int)).toNat = min 32 (data.size - i * 32) by omega]
  have hl : data.data.toList.length = data.size := (Lib.size_eq data).symm
  have hr : (⟨Array.replicate 32 0⟩ : ByteArray).size = 32 := B4.nulls_size 32
  rw [hr]
  apply List.ext_getElem?
  intro j
  simp only [List.getElem?_take, List.getElem?_drop, List.getElem?_append, List.getElem?_replicate, List.length_take, List.length_drop, List.length_replicate, List.length_append, hl, Int.toNat_zero, Nat.sub_zero, List.drop_zero]
  grind
end Go.Proofs.Ytkdjcbmmbjongaa.PF

/- A row of bytes that a call has made and appends to: what it holds, and the two appends. -/
namespace Go.Proofs.Ytkdjcbmmbjongaa.F0
open Go.ChangeShapes Go.WideShapes Go.ChangeAt Go.RowKit
set_option linter.unusedVariables false
set_option linter.unusedSimpArgs false
set_option maxRecDepth 10000

/-- A row of a call's own: so many bytes, these. -/
def Buf (base : Nat) (w : World) (g n cap : Nat) (t : ByteArray) : Prop := n = t.size ∧ w.ownsRow base 5 1 (.slice (some ⟨g, 0, none⟩) n cap) n (Lib.strCells t)

theorem info5 : (Try.prog.info? 5).map (fun i => (i.zero, i.size, i.bytes)) = some (some (.int .u8 0), 1, 1) := by kernel_rfl

variable {base g n cap : Nat} {w W : World} {t : ByteArray}

theorem owns_below {e : TypeId} {size : Nat} {v : Value} {xs : List Value} (h : w.ownsRow base e size v n xs) (hb : Below w.heap.size w W) : W.ownsRow base e size v n xs := by
  refine ⟨h.1, ?_⟩
  rcases h.2 with h0 | ⟨g, cap, cur, hv, hg, hc, r⟩
  · exact Or.inl h0
  · refine Or.inr ⟨g, cap, cur, hv, hg, ?_, r⟩
    rw [hb.block g (Array.getElem?_eq_some_iff.1 hc).1]
    exact hc

theorem below_grown {B : Nat} {w W W' : World} {row : Option Nat} (h : Below B w W) (hg : W.grownBy W' row) (hr : ∀ g, row = some g → B ≤ g) (hB : B ≤ W.heap.size) : Below B w W' :=
  ⟨hg.os.trans h.os, hg.tape.trans h.tape, hg.output.trans h.output, Nat.le_trans h.size hg.size, fun k hk => by
    rw [hg.block k (by omega) (fun e => by have := hr k e.symm; omega)]
    exact h.block k hk⟩

theorem Buf.below (h : Buf base w g n cap t) (hb : Below w.heap.size w W) : Buf base W g n cap t := ⟨h.1, owns_below h.2 hb⟩
theorem Buf.alloc (h : Buf base w g n cap t) (o : Obj) : Buf base (w.alloc o) g n cap t := h.below ((Below.refl _ _).alloc (Nat.le_refl _) o)
theorem Buf.drew (h : Buf base w g n cap t) : Buf base w.drew g n cap t := h
theorem Buf.drewN (h : Buf base w g n cap t) (m : Nat) : Buf base (w.drewN m) g n cap t := h

theorem Buf.lt (h : Buf base w g n cap t) : base ≤ g ∧ g < w.heap.size := h.2.lt g rfl

theorem Buf.holds (h : Buf base w g n cap t) : B0.Holds w g 0 t.data.toList := by
  intro j hj
  have hj' : j < t.size := by rw [Lib.size_eq]; exact hj
  have := h.2.cells (g := g) rfl j (.int .u8 (t.data.toList[j].toNat : Int)) (by
    have hj2 : j < t.data.size := by simpa using hj
    simp [Lib.strCells]
    exact ⟨_, Array.getElem?_eq_getElem hj2, rfl⟩)
  rw [B0.add_off] at this
  exact this

/-- The row as a string. -/
theorem Buf.conv (h : Buf base w g n cap t) : (convert 61 9 (.slice (some ⟨g, 0, none⟩) n cap)).run Try.prog w = .ok (.string t) w := by
  have := B0.conv_back (P := Try.prog) w 61 9 5 g 0 cap t.data.toList Try.underlying61 Try.underlying5 Try.underlying9 h.holds n (by rw [h.1, Lib.size_eq])
  rwa [Lib.mk_data] at this

/-- A new row of two bytes. -/
theorem buf_two (w : World) (x y : Int) (hx : 0 ≤ x ∧ x < 256) (hy : 0 ≤ y ∧ y < 256) (hb : base ≤ w.heap.size) :
    Buf base (w.alloc (.cells #[.int .u8 x, .int .u8 y] 5)) w.heap.size 2 2 ⟨#[UInt8.ofNat x.toNat, UInt8.ofNat y.toNat]⟩ := by
  have e1 : x.toNat < 256 := by omega
  have e2 : y.toNat < 256 := by omega
  refine ⟨rfl, by simp [Lib.strCells], Or.inr ⟨w.heap.size, 2, #[.int .u8 x, .int .u8 y], rfl, hb, heap_alloc_new w _, Nat.le_refl _, by unfold maxLen; omega, rfl, ?_⟩⟩
  simp [Lib.strCells, Nat.mod_eq_of_lt e1, Nat.mod_eq_of_lt e2]
  omega

theorem Buf.at (h : Buf base w g n cap t) {g' : Nat} (e : g = g') : Buf base w g' n cap t := e ▸ h

/-- A new row without bytes, with room. -/
theorem buf_none (w : World) (C : Array Value) (cap : Nat) (hc : C.size = cap) (hm : cap ≤ maxLen) (hb : base ≤ w.heap.size) : Buf base (w.alloc (.cells C 5)) w.heap.size 0 cap ⟨#[]⟩ :=
  ⟨rfl, World.ownsRow_made w C cap hb hm (by omega)⟩

theorem cells_append (t s : ByteArray) : Lib.strCells t ++ Lib.strCells s = Lib.strCells (t ++ s) := by simp [Lib.strCells, ByteArray.data_append]

/-- 'room = append(room, s...)', s a string. -/
theorem append_text {ops : Array Oper} {rest : List Oper} {o : Oper} {a : Act} {Q : Exit → Act → World → Prop} (hgd : o.guard = none) (sl x : Operand)
    (ho : o.op = .call { callee := .builtin .append, args := #[sl, x], argTypes := #[61, 9] })
    (hbuf : Buf base w g n cap t) (s : ByteArray) (hs : a.eval sl = .slice (some ⟨g, 0, none⟩) n cap) (hx : a.eval x = .string s) (hlen : n + s.size ≤ 140737488355328) (hb : base ≤ w.heap.size)
    (h : ∀ g' cap' w', Buf base w' g' (n + s.size) cap' (t ++ s) → Below base w w' → wpList Try.prog ops Q rest (a.put o.dst (.slice (some ⟨g', 0, none⟩) (n + s.size) cap')) w') : wpList Try.prog ops Q (o :: rest) a w := by
  obtain ⟨i0, hi, hz0, hz1, hz2⟩ := info_parts info5
  refine Lib.wpList_append_own_string w hgd sl x 61 9 ho base 5 i0 Try.underlying61 Try.underlying9 hi hz0 hz1 hz2 _ n _ hs hbuf.2 s hx (by unfold maxLen; omega) hlen hb ?_
  intro v' w' ho' hg' hnil
  rcases ho'.2 with ⟨h0, _⟩ | ⟨g', cap', cur, hv, r⟩
  · exact absurd ((hnil.1 h0).1) (by simp)
  · subst hv
    refine h g' cap' w' ⟨by rw [hbuf.1, ByteArray.size_append], ?_⟩ ?_
    · rw [← cells_append]
      exact ho'
    · exact below_grown (Below.refl _ _) hg' (fun k hk => by
        have hk' : g = k := by simpa [Value.ownBlock] using hk
        exact hk' ▸ hbuf.lt.1) hb

theorem one_byte (c : Int) : ∀ u ∈ [Value.int .u8 c], u.oneCell' = true := by
  intro u h
  simp at h
  subst h
  rfl

/-- 'room = append(room, c)'. -/
theorem append_byte {ops : Array Oper} {rest : List Oper} {o : Oper} {a : Act} {Q : Exit → Act → World → Prop} (hgd : o.guard = none) (sl x : Operand)
    (ho : o.op = .call { callee := .builtin .append, args := #[sl, x], argTypes := #[61, 61] })
    (hbuf : Buf base w g n cap t) (c : Int) (hc : 0 ≤ c ∧ c < 256) (hs : a.eval sl = .slice (some ⟨g, 0, none⟩) n cap) (hx : a.eval x = .slice (some ⟨w.heap.size, 0, none⟩) 1 1) (hlen : n + 1 ≤ 140737488355328) (hb : base ≤ w.heap.size)
    (h : ∀ g' cap' w', Buf base w' g' (n + 1) cap' (t ++ ⟨#[UInt8.ofNat c.toNat]⟩) → Below base w w' → wpList Try.prog ops Q rest (a.put o.dst (.slice (some ⟨g', 0, none⟩) (n + 1) cap')) w') : wpList Try.prog ops Q (o :: rest) a (w.alloc (.cells #[.int .u8 c] 5)) := by
  obtain ⟨i0, hi, hz0, hz1, hz2⟩ := info_parts info5
  have hb2 := hbuf.alloc (.cells #[.int .u8 c] 5)
  refine wpList_append_lies _ hgd sl x 61 ho base 5 i0 (.int .u8 0) 1 1 Try.underlying61 hi hz0 hz1 hz2 rfl (by omega) _ n _ hs hb2.2 ⟨w.heap.size, 0, none⟩ 1 1 [.int .u8 c] hx rfl (World.news_of_block (heap_alloc_new w _)) (one_byte c) (by omega) (by unfold maxLen; omega) (by omega) (by simp; omega) _ rfl ?_
  intro g' cap' w' ho' hg' _ _
  have e1 : c.toNat < 256 := by omega
  refine h g' cap' w' ⟨by rw [hbuf.1, ByteArray.size_append]; rfl, ?_⟩ ?_
  · rw [← cells_append]
    have e : Lib.strCells ⟨#[UInt8.ofNat c.toNat]⟩ = [.int .u8 c] := by
      simp [Lib.strCells, Nat.mod_eq_of_lt e1]
      omega
    rw [e]
    exact ho'
  · exact below_grown ((Below.refl _ _).alloc hb _) hg' (fun k hk => by
      have hk' : g = k := by simpa [Value.ownBlock] using hk
      exact hk' ▸ hbuf.lt.1) (by simp; omega)
end Go.Proofs.Ytkdjcbmmbjongaa.F0

/- Contracts of impl.recordOf, impl.InodeOk and spec.InodeOk, as the given laws call them. -/
namespace Go.Proofs.Ytkdjcbmmbjongaa.I1
open Go.ChangeShapes Go.WideShapes Go.ChangeAt Go.RowKit
set_option linter.unusedVariables false
set_option linter.unusedSimpArgs false
set_option maxRecDepth 10000

open P1 (ret_bool quiet_bool)
open I0 (val vals)

/-- An inode as one of its kinds. -/
def rec (k : Int) (v : Value) : Value := if k = 0 then .iface 119 v else if k = 1 then .iface 116 v else if k = 2 then .iface 118 v else .nilIface

set_option maxHeartbeats 1000000 in
theorem recordOf0 (o s : Int) (a : Option Addr) (c : Nat) (zs : List Int) (w : World) (hbig : zs.length ≤ 281474976710656) (hcap : zs.length ≤ c) (hR : P0.Row w a zs) :
    Calls Try.prog 82 #[val 0 o s a zs.length c] w fun e w' => e = .returned (.tuple #[.iface 119 (val 0 o s a zs.length c), .bool (I0.free o s zs)]) ∧ Below w.heap.size w w' := by
  have hB := K0.below_new w (.cells #[.int .i64 0, .int .i64 o, .int .i64 s, .slice a zs.length c] 51)
  have hR' := hR.alloc (.cells #[.int .i64 0, .int .i64 o, .int .i64 s, .slice a zs.length c] 51)
  go_enter Try.func82, Try.ntmps82
  go_wp2_with (go_at_call 123; refine (I0.freeSound 0 o s a c zs.length zs _ rfl).mono ?_; rintro e w' ⟨rfl, hb⟩)
  go_ret2
  exact ⟨rfl, hB.trans (hb.mono hB.size)⟩

set_option maxHeartbeats 1000000 in
theorem recordOf1 (o s : Int) (a : Option Addr) (c : Nat) (zs : List Int) (w : World) (hbig : zs.length ≤ 281474976710656) (hcap : zs.length ≤ c) (hR : P0.Row w a zs) :
    Calls Try.prog 82 #[val 1 o s a zs.length c] w fun e w' => e = .returned (.tuple #[.iface 116 (val 1 o s a zs.length c), .bool (I0.holds o s zs)]) ∧ Below w.heap.size w w' := by
  have hB := K0.below_new w (.cells #[.int .i64 1, .int .i64 o, .int .i64 s, .slice a zs.length c] 51)
  have hR' := hR.alloc (.cells #[.int .i64 1, .int .i64 o, .int .i64 s, .slice a zs.length c] 51)
  go_enter Try.func82, Try.ntmps82
  go_wp2_with (go_at_call 119; refine (I0.fileSound 1 o s a c zs _ hbig hcap hR').mono ?_; rintro e w' ⟨rfl, hb⟩)
  go_ret2
  exact ⟨rfl, hB.trans (hb.mono hB.size)⟩

set_option maxHeartbeats 1000000 in
theorem recordOf2 (o s : Int) (a : Option Addr) (c : Nat) (zs : List Int) (w : World) (hbig : zs.length ≤ 281474976710656) (hcap : zs.length ≤ c) (hR : P0.Row w a zs) :
    Calls Try.prog 82 #[val 2 o s a zs.length c] w fun e w' => e = .returned (.tuple #[.iface 118 (val 2 o s a zs.length c), .bool (I0.holds o s zs && decide (s % 16 = 0))]) ∧ Below w.heap.size w w' := by
  have hB := K0.below_new w (.cells #[.int .i64 2, .int .i64 o, .int .i64 s, .slice a zs.length c] 51)
  have hR' := hR.alloc (.cells #[.int .i64 2, .int .i64 o, .int .i64 s, .slice a zs.length c] 51)
  go_enter Try.func82, Try.ntmps82
  go_wp2_with (go_at_call 122; refine (I0.dirSound 2 o s a c zs _ hbig hcap hR').mono ?_; rintro e w' ⟨rfl, hb⟩)
  go_ret2
  exact ⟨rfl, hB.trans (hb.mono hB.size)⟩

theorem recordOfN (k o s : Int) (a : Option Addr) (c n : Nat) (w : World) (h0 : k ≠ 0) (h1 : k ≠ 1) (h2 : k ≠ 2) :
    Calls Try.prog 82 #[val k o s a n c] w fun e w' => e = .returned (.tuple #[.nilIface, .bool false]) ∧ Below w.heap.size w w' := by
  have hB := K0.below_new w (.cells #[.int .i64 k, .int .i64 o, .int .i64 s, .slice a n c] 51)
  have g0 : (k == 0) = false := by simpa using h0
  have g1 : (k == 1) = false := by simpa using h1
  have g2 : (k == 2) = false := by simpa using h2
  go_enter Try.func82, Try.ntmps82
  go_wp2
  go_ret2
  exact ⟨rfl, hB⟩

theorem recordOf (k o s : Int) (a : Option Addr) (c : Nat) (zs : List Int) (w : World) (hbig : zs.length ≤ 281474976710656) (hcap : zs.length ≤ c) (hR : P0.Row w a zs) :
    Calls Try.prog 82 #[val k o s a zs.length c] w fun e w' => e = .returned (.tuple #[rec k (val k o s a zs.length c), .bool (I0.ok k o s zs)]) ∧ Below w.heap.size w w' := by
  by_cases h0 : k = 0
  · subst h0
    exact recordOf0 o s a c zs w hbig hcap hR
  · by_cases h1 : k = 1
    · subst h1
      exact recordOf1 o s a c zs w hbig hcap hR
    · by_cases h2 : k = 2
      · subst h2
        exact recordOf2 o s a c zs w hbig hcap hR
      · have e1 : rec k (val k o s a zs.length c) = .nilIface := by rw [rec, if_neg h0, if_neg h1, if_neg h2]
        have e2 : I0.ok k o s zs = false := by rw [I0.ok, if_neg h0, if_neg h1, if_neg h2]
        rw [e1, e2]
        exact recordOfN k o s a c zs.length w h0 h1 h2

theorem impl_InodeOk (k o s : Int) (a : Option Addr) (c : Nat) (zs : List Int) (w : World) (hbig : zs.length ≤ 281474976710656) (hcap : zs.length ≤ c) (hR : P0.Row w a zs) :
    Calls Try.prog 70 #[val k o s a zs.length c] w fun e w' => e = .returned (.bool (I0.ok k o s zs)) ∧ Below w.heap.size w w' := by
  have hB := K0.below_new w (.cells #[.int .i64 k, .int .i64 o, .int .i64 s, .slice a zs.length c] 51)
  have hR' := hR.alloc (.cells #[.int .i64 k, .int .i64 o, .int .i64 s, .slice a zs.length c] 51)
  go_enter Try.func70, Try.ntmps70
  go_wp2_with (go_at_call 82; refine (recordOf k o s a c zs _ hbig hcap hR').mono ?_; rintro e w' ⟨rfl, hb⟩)
  go_ret
  exact ⟨rfl, hB.trans (hb.mono hB.size)⟩

theorem specFree (o s : Int) (a : Option Addr) (c n : Nat) (zs : List Int) (w : World) (hn : n = zs.length) :
    Calls Try.prog 64 #[val 0 o s a n c] w fun e w' => e = .returned (.bool (I0.free o s zs)) ∧ Below w.heap.size w w' := by
  have hB := K0.below_new w (.cells #[.int .i64 0, .int .i64 o, .int .i64 s, .slice a n c] 51)
  by_cases h1 : o = 0
  · subst h1
    by_cases h2 : s = 0
    · subst h2
      by_cases h3 : n = 0
      · have HR : Hid (I0.free 0 0 zs = true) := by rw [I0.free, ← hn, h3]; rfl
        subst h3
        clear hn
        go_enter Try.func64, Try.ntmps64
        go_wp2
        go_ret
        exact ⟨ret_bool HR.out.symm, hB⟩
      · have HR : Hid (I0.free 0 0 zs = false) := by rw [I0.free, ← hn, decide_eq_false h3]; rfl
        have h3' : ((n : Int) == 0) = false := by simp; omega
        clear hn
        go_enter Try.func64, Try.ntmps64
        go_wp2
        go_ret
        exact ⟨ret_bool HR.out.symm, hB⟩
    · have HR : Hid (I0.free 0 s zs = false) := by rw [I0.free, decide_eq_false h2, Bool.false_and, Bool.and_false]; rfl
      have h2' : (s == 0) = false := by simpa using h2
      clear hn
      go_enter Try.func64, Try.ntmps64
      go_wp2
      go_ret
      exact ⟨ret_bool HR.out.symm, hB⟩
  · have HR : Hid (I0.free o s zs = false) := by rw [I0.free, decide_eq_false h1, Bool.false_and]; rfl
    have h1' : (o == 0) = false := by simpa using h1
    clear hn
    go_enter Try.func64, Try.ntmps64
    go_wp2
    go_ret
    exact ⟨ret_bool HR.out.symm, hB⟩

set_option maxHeartbeats 2000000 in
theorem specHolds (k o s : Int) (a : Option Addr) (c : Nat) (zs : List Int) (w : World) (hbig : zs.length ≤ 281474976710656) (hcap : zs.length ≤ c) (hR : P0.Row w a zs) (h0 : k ≠ 0) :
    Calls Try.prog 64 #[val k o s a zs.length c] w fun e w' => e = .returned (.bool (I0.ok k o s zs)) ∧ Below w.heap.size w w' := by
  have hB := K0.below_new w (.cells #[.int .i64 k, .int .i64 o, .int .i64 s, .slice a zs.length c] 51)
  have hR' := hR.alloc (.cells #[.int .i64 k, .int .i64 o, .int .i64 s, .slice a zs.length c] 51)
  have hP : Hid (∀ m, Calls Try.prog 75 #[.slice a zs.length c] ((w.alloc (.cells #[.int .i64 k, .int .i64 o, .int .i64 s, .slice a zs.length c] 51)).drewN m) fun e w' => e = .returned (.bool (P0.pagesOk zs)) ∧ ∃ n, w' = ((w.alloc (.cells #[.int .i64 k, .int .i64 o, .int .i64 s, .slice a zs.length c] 51)).drewN m).drewN n) := fun m => P1.l03Pages a c zs _ hbig hcap (hR'.drewN m)
  clear hR hR'
  have z0 : (k == 0) = false := by simpa using h0
  by_cases hS : B1.inB s 0 192 = true
  · obtain ⟨hs1, hs2⟩ := B1.inB_true hS
    by_cases hd : k = 2 ∧ ¬ s % 16 = 0
    · obtain ⟨rfl, h16⟩ := hd
      have h16' : (s % 16 != 0) = true := by simpa using h16
      have HR : Hid (I0.ok 2 o s zs = false) := by
        show (I0.holds o s zs && decide (s % 16 = 0)) = false
        rw [decide_eq_false h16, Bool.and_false]
      clear h16
      go_enter Try.func64, Try.ntmps64
      go_wp2
      go_ret
      exact ⟨ret_bool HR.out.symm, hB⟩
    · have HK : Hid (B1.inB k 1 2 = true → I0.ok k o s zs = I0.holds o s zs) := fun h => by
        obtain ⟨k1, k2⟩ := B1.inB_true h
        by_cases e1 : k = 1
        · subst e1; rfl
        · have e2 : k = 2 := by omega
          have h16 : s % 16 = 0 := Decidable.byContradiction fun h => hd ⟨e2, h⟩
          subst e2
          show (I0.holds o s zs && decide (s % 16 = 0)) = I0.holds o s zs
          rw [decide_eq_true h16, Bool.and_true]
      have HN : Hid (B1.inB k 1 2 = false → I0.ok k o s zs = false) := fun h => by
        have := B1.inB_false h
        rw [I0.ok, if_neg h0, if_neg (by omega), if_neg (by omega)]
      have hg : (k == 2) = false ∨ ((k == 2) = true ∧ (s % 16 != 0) = false) := by
        by_cases e2 : k = 2
        · right
          refine ⟨by simpa using e2, ?_⟩
          have h16 : s % 16 = 0 := Decidable.byContradiction fun h => hd ⟨e2, h⟩
          simpa using h16
        · left
          simpa using e2
      have HH : Hid (I0.holds o s zs = (B1.inB o 0 9 && (decide ((zs.length : Int) = P0.need s) && P0.pagesOk zs))) := by rw [I0.holds, hS, Bool.true_and]; rfl
      clear hd h0
      by_cases g0 : B1.inB k 1 2 = true
      · by_cases g1 : B1.inB o 0 9 = true
        · by_cases g2 : (zs.length : Int) = P0.need s
          · have g2' : ((zs.length : Int) == P0.need s) = true := by simpa using g2
            have HR : Hid (I0.ok k o s zs = P0.pagesOk zs) := by rw [HK.out g0, HH.out, g1, decide_eq_true g2]; rfl
            clear g2
            rcases hg with hg | ⟨hg, hg2⟩
            all_goals
              go_enter Try.func64, Try.ntmps64
              go_wp2
              go_quiet ((first | (go_at_call 60; first | exact quiet_bool (B1.l01In_any _ _ _ _) g0 | exact quiet_bool (B1.l01In_any _ _ _ _) g1 | exact quiet_bool (B1.l01In_any _ _ _ _) hS) | (go_at_call 41; exact Calls.quiet_of_same (P1.l03Need _ _ (by omega) (by omega))) | (go_at_call 75; exact Calls.quiet_of (hP.out _))))
              go_wp2
              go_ret
              exact ⟨ret_bool HR.out.symm, I0.below_alloc_drew _ _ _⟩
          · have g2' : ((zs.length : Int) == P0.need s) = false := by simpa using g2
            have HR : Hid (I0.ok k o s zs = false) := by rw [HK.out g0, HH.out, decide_eq_false g2, Bool.false_and, Bool.and_false]; rfl
            clear g2
            rcases hg with hg | ⟨hg, hg2⟩
            all_goals
              go_enter Try.func64, Try.ntmps64
              go_wp2
              go_quiet ((first | (go_at_call 60; first | exact quiet_bool (B1.l01In_any _ _ _ _) g0 | exact quiet_bool (B1.l01In_any _ _ _ _) g1 | exact quiet_bool (B1.l01In_any _ _ _ _) hS) | (go_at_call 41; exact Calls.quiet_of_same (P1.l03Need _ _ (by omega) (by omega)))))
              go_wp2
              go_ret
              exact ⟨ret_bool HR.out.symm, I0.below_alloc_drew _ _ _⟩
        · have g1' : B1.inB o 0 9 = false := by simpa using g1
          have HR : Hid (I0.ok k o s zs = false) := by rw [HK.out g0, HH.out, g1', Bool.false_and]; rfl
          rcases hg with hg | ⟨hg, hg2⟩
          all_goals
            go_enter Try.func64, Try.ntmps64
            go_wp2
            go_quiet ((go_at_call 60; first | exact quiet_bool (B1.l01In_any _ _ _ _) g0 | exact quiet_bool (B1.l01In_any _ _ _ _) g1'))
            go_wp2
            go_ret
            exact ⟨ret_bool HR.out.symm, I0.below_alloc_drew _ _ _⟩
      · have g0' : B1.inB k 1 2 = false := by simpa using g0
        have HR : Hid (I0.ok k o s zs = false) := HN.out g0'
        rcases hg with hg | ⟨hg, hg2⟩
        all_goals
          go_enter Try.func64, Try.ntmps64
          go_wp2
          go_quiet ((go_at_call 60; exact quiet_bool (B1.l01In_any _ _ _ _) g0'))
          go_wp2
          go_ret
          exact ⟨ret_bool HR.out.symm, I0.below_alloc_drew _ _ _⟩
  · have hS' : B1.inB s 0 192 = false := by simpa using hS
    have HR : Hid (I0.ok k o s zs = false) := by
      show I0.ok k o s zs = false
      have hf : I0.holds o s zs = false := by rw [I0.holds, hS', Bool.false_and, Bool.and_false]
      rw [I0.ok, if_neg h0]
      split
      · exact hf
      · split
        · rw [hf]; rfl
        · rfl
    clear hS
    have hg : (k == 2) = false ∨ (k == 2) = true := by cases (k == 2) <;> simp
    by_cases g0 : B1.inB k 1 2 = true
    · by_cases g1 : B1.inB o 0 9 = true
      · rcases hg with hg | hg
        all_goals
          go_enter Try.func64, Try.ntmps64
          go_wp2
          all_goals first
            | (go_ret
               exact ⟨ret_bool HR.out.symm, hB⟩)
            | (go_quiet ((go_at_call 60; first | exact quiet_bool (B1.l01In_any _ _ _ _) g0 | exact quiet_bool (B1.l01In_any _ _ _ _) g1 | exact quiet_bool (B1.l01In_any _ _ _ _) hS'))
               go_wp2
               go_ret
               exact ⟨ret_bool HR.out.symm, I0.below_alloc_drew _ _ _⟩)
      · have g1' : B1.inB o 0 9 = false := by simpa using g1
        rcases hg with hg | hg
        all_goals
          go_enter Try.func64, Try.ntmps64
          go_wp2
          all_goals first
            | (go_ret
               exact ⟨ret_bool HR.out.symm, hB⟩)
            | (go_quiet ((go_at_call 60; first | exact quiet_bool (B1.l01In_any _ _ _ _) g0 | exact quiet_bool (B1.l01In_any _ _ _ _) g1'))
               go_wp2
               go_ret
               exact ⟨ret_bool HR.out.symm, I0.below_alloc_drew _ _ _⟩)
    · have g0' : B1.inB k 1 2 = false := by simpa using g0
      rcases hg with hg | hg
      all_goals
        go_enter Try.func64, Try.ntmps64
        go_wp2
        all_goals first
          | (go_ret
             exact ⟨ret_bool HR.out.symm, hB⟩)
          | (go_quiet ((go_at_call 60; exact quiet_bool (B1.l01In_any _ _ _ _) g0'))
             go_wp2
             go_ret
             exact ⟨ret_bool HR.out.symm, I0.below_alloc_drew _ _ _⟩)

theorem spec_InodeOk (k o s : Int) (a : Option Addr) (c : Nat) (zs : List Int) (w : World) (hbig : zs.length ≤ 281474976710656) (hcap : zs.length ≤ c) (hR : P0.Row w a zs) :
    Calls Try.prog 64 #[val k o s a zs.length c] w fun e w' => e = .returned (.bool (I0.ok k o s zs)) ∧ Below w.heap.size w w' := by
  by_cases h0 : k = 0
  · subst h0
    exact specFree o s a c zs.length zs w rfl
  · exact specHolds k o s a c zs w hbig hcap hR h0
end Go.Proofs.Ytkdjcbmmbjongaa.I1
