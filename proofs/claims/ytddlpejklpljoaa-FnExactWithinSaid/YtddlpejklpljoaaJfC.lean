/- Joined texts: plain facts and contracts, as each part says. -/
import Derived.Test.YtddlpejklpljoaaJfB
import Derived.Test.YtddlpejklpljoaaJfA
import Derived.OrdersHeld
import Derived.WalkKit
import Derived.Handy
import Derived.Shelf.Abstract
import Derived.Deep.QuietTactic
import Derived.BigQuiet
import Derived.Deep.RegionHeld3
import Derived.Test.YtddlpejklpljoaaRows
import Derived.Lib.AppendStr
import Derived.Deep.AppendLies
import Derived.ProofKit
import Derived.Laws.MakeOwn
import Derived.Deep.SlicePairs

/- Contracts of spec.GetEntry and impl.GetEntry, as the given laws call them. -/
namespace Go.Proofs.Ytddlpejklpljoaa.E4
open Go.ChangeShapes Go.WideShapes Go.ChangeAt Go.RowKit
set_option linter.unusedVariables false
set_option linter.unusedSimpArgs false
set_option maxRecDepth 10000

/-- What stands in the bytes of an entry. -/
def ino (s : ByteArray) : Int := B1.byteAt s 0
def name (s : ByteArray) : ByteArray := B2.part s 2 (B1.byteAt s 1)

/-- Whether a text is that of an entry. -/
def isE (s : ByteArray) : Bool := decide (s.size = 16) && ((E0.putE (ino s) (name s)).toList == s.toList)

/-- What GetEntry tells. -/
def eIno (s : ByteArray) : Int := if isE s then ino s else 0
def eName (s : ByteArray) : ByteArray := if isE s then name s else ⟨#[]⟩

def getE (s : ByteArray) : Value := .tuple #[.agg #[.int .i64 (eIno s), .string (eName s)], .bool (isE s)]

theorem wf_of (n : Int) (h0 : -9223372036854775808 ≤ n) (h1 : n ≤ 9223372036854775807) : (Lit.int .i64 n).wf = true := by
  simp [Lit.wf, IntKind.min, IntKind.max, IntKind.signed, IntKind.bits]
  omega

theorem byteAt_lt (s : ByteArray) (i : Int) : 0 ≤ B1.byteAt s i ∧ B1.byteAt s i < 256 := by
  unfold B1.byteAt
  split
  · rename_i h
    have := (s[i.toNat]'(by omega)).toNat_lt
    omega
  · omega

theorem getE_no {s : ByteArray} (h : isE s = false) : getE s = .tuple #[.agg #[.int .i64 0, .string ⟨#[]⟩], .bool false] := by simp [getE, eIno, eName, h]
theorem getE_yes {s : ByteArray} (h : isE s = true) : getE s = .tuple #[.agg #[.int .i64 (ino s), .string (name s)], .bool true] := by simp [getE, eIno, eName, h]

/-- The two blocks of GetEntry: the answer's and the entry's own. -/
structure Two (w : World) (B : Nat) (a : Int) (b : ByteArray) (W : World) : Prop where
  n : K0.Blk w.heap.size [.int .i64 0, .string ⟨#[]⟩] W
  m : K0.Blk B [.int .i64 a, .string b] W
  ne : w.heap.size < B
  bel : Below w.heap.size w W

theorem Two.below {w W W' : World} {B : Nat} {a : Int} {b : ByteArray} (h : Two w B a b W) (hb : Below W.heap.size W W') : Two w B a b W' := ⟨h.n.below hb, h.m.below hb, h.ne, h.bel.trans (hb.mono (Nat.le_of_lt h.n.lt))⟩

theorem two_new (w w1 : World) (a : Int) (b : ByteArray) (h : Below (w.alloc (.cells #[.int .i64 0, .string ⟨#[]⟩] 80)).heap.size (w.alloc (.cells #[.int .i64 0, .string ⟨#[]⟩] 80)) w1) :
    Two w w1.heap.size a b (w1.alloc (.cells #[.int .i64 a, .string b] 80)) := by
  have hs := h.size
  simp at hs
  exact ⟨((K0.blk_new [.int .i64 0, .string ⟨#[]⟩] w 80).below h).alloc _, K0.blk_new [.int .i64 a, .string b] w1 80, by omega, (((Below.refl _ _).alloc (Nat.le_refl _) _).trans (h.mono (by simp))).alloc (by omega) _⟩

theorem two_first (w : World) (a : Int) (b : ByteArray) : Two w (w.heap.size + 1) a b ((w.alloc (.cells #[.int .i64 0, .string ⟨#[]⟩] 80)).alloc (.cells #[.int .i64 a, .string b] 80)) := by
  have h := two_new w _ a b (Below.refl _ _)
  simpa using h

theorem ret_val {v u : Value} (h : v = u) : Ending.returned v = .returned u := by rw [h]

set_option maxHeartbeats 1000000 in
theorem spec_GetEntry (s : ByteArray) (w : World) (hs : s.size ≤ 281474976710656) :
    Calls Try.prog 72 #[.string s] w fun e w' => e = .returned (getE s) ∧ Below w.heap.size w w' := by
  have hm : s.size ≤ maxLen := by unfold maxLen; omega
  have k0 := byteAt_lt s 0
  have k1 := byteAt_lt s 1
  have hn : (B2.part s 2 (B1.byteAt s 1)).size ≤ 281474976710656 := by have := B2.part_size s 2 (B1.byteAt s 1); omega
  have v2 : (Lit.int .i64 2).wf = true := by decide
  have v1 := wf_of (B1.byteAt s 1) (by omega) (by omega)
  have t1 := two_first w (B1.byteAt s 0) (B2.part s 2 (B1.byteAt s 1))
  by_cases h16 : s.size = 16
  · have g16 : ((s.size : Int) != 16) = false := by simp; omega
    by_cases hP : ((E0.putE (B1.byteAt s 0) (B2.part s 2 (B1.byteAt s 1))).toList == s.toList) = true
    · have HR : Hid (getE s = .tuple #[.agg #[.int .i64 (B1.byteAt s 0), .string (B2.part s 2 (B1.byteAt s 1))], .bool true]) := getE_yes (by rw [isE, ino, name, hP, decide_eq_true h16]; rfl)
      go_enter Try.func72, Try.ntmps72
      go_wp2_with (first
        | (go_at_call 68; refine (B1.spec_ByteAt _ _ _ hm).mono ?_; rintro e w' ⟨rfl, rfl⟩)
        | (go_at_call 27; refine (B2.spec_Part _ _ _ _ hm v2 v1).mono ?_; rintro e w' ⟨rfl, rfl⟩)
        | (go_at_call 90; refine (E2.spec_PutEntry _ _ _ hn).mono ?_; rintro e w2 ⟨rfl, b2⟩; have t2 := t1.below b2; have c0 := t2.n.c0; have c1 := t2.n.c1; have f0 := t2.n.f0; have f1 := t2.n.f1; have d0 := t2.m.c0; have d1 := t2.m.c1))
      have q := t2.n.put2 (.int .i64 (B1.byteAt s 0)) (.string (B2.part s 2 (B1.byteAt s 1)))
      exact bodyPost_ret (v := .tuple #[.agg #[.int .i64 (B1.byteAt s 0), .string (B2.part s 2 (B1.byteAt s 1))], .bool true]) (by simp [results, Try.results72, go_sem, q.c0, q.c1]) rfl
        ⟨ret_val HR.out.symm, (t2.bel.setCell (p := ⟨w.heap.size, 0, none⟩) (Nat.le_refl _) _).setCell (p := ⟨w.heap.size, 1, none⟩) (Nat.le_refl _) _⟩
    · have hP' : ((E0.putE (B1.byteAt s 0) (B2.part s 2 (B1.byteAt s 1))).toList == s.toList) = false := by simpa using hP
      have HR : Hid (getE s = .tuple #[.agg #[.int .i64 0, .string ⟨#[]⟩], .bool false]) := getE_no (by rw [isE, ino, name, hP', Bool.and_false])
      clear hP
      go_enter Try.func72, Try.ntmps72
      go_wp2_with (first
        | (go_at_call 68; refine (B1.spec_ByteAt _ _ _ hm).mono ?_; rintro e w' ⟨rfl, rfl⟩)
        | (go_at_call 27; refine (B2.spec_Part _ _ _ _ hm v2 v1).mono ?_; rintro e w' ⟨rfl, rfl⟩)
        | (go_at_call 90; refine (E2.spec_PutEntry _ _ _ hn).mono ?_; rintro e w2 ⟨rfl, b2⟩; have t2 := t1.below b2; have c0 := t2.n.c0; have c1 := t2.n.c1; have f0 := t2.n.f0; have f1 := t2.n.f1; have d0 := t2.m.c0; have d1 := t2.m.c1))
      have q := t2.n.put2 (.int .i64 0) (.string ⟨#[]⟩)
      exact bodyPost_ret (v := .tuple #[.agg #[.int .i64 0, .string ⟨#[]⟩], .bool false]) (by simp [results, Try.results72, go_sem, q.c0, q.c1]) rfl
        ⟨ret_val HR.out.symm, (t2.bel.setCell (p := ⟨w.heap.size, 0, none⟩) (Nat.le_refl _) _).setCell (p := ⟨w.heap.size, 1, none⟩) (Nat.le_refl _) _⟩
  · have g16 : ((s.size : Int) != 16) = true := by simp; omega
    have HR : Hid (getE s = .tuple #[.agg #[.int .i64 0, .string ⟨#[]⟩], .bool false]) := getE_no (by rw [isE, decide_eq_false h16, Bool.false_and])
    have c0 := t1.n.c0
    have c1 := t1.n.c1
    have q := t1.n.put2 (.int .i64 0) (.string ⟨#[]⟩)
    go_enter Try.func72, Try.ntmps72
    go_wp2_with (first
      | (go_at_call 68; refine (B1.spec_ByteAt _ _ _ hm).mono ?_; rintro e w' ⟨rfl, rfl⟩)
      | (go_at_call 27; refine (B2.spec_Part _ _ _ _ hm v2 v1).mono ?_; rintro e w' ⟨rfl, rfl⟩))
    refine bodyPost_ret (v := .tuple #[.agg #[.int .i64 0, .string ⟨#[]⟩], .bool false]) (by simp [results, Try.results72, go_sem, q.c0, q.c1]) rfl
      ⟨ret_val HR.out.symm, ?_⟩
    go_grown

set_option maxHeartbeats 1000000 in
theorem impl_GetEntry (s : ByteArray) (w : World) (hs : s.size ≤ 281474976710656) :
    Calls Try.prog 95 #[.string s] w fun e w' => e = .returned (getE s) ∧ Below w.heap.size w w' := by
  have hm : s.size ≤ maxLen := by unfold maxLen; omega
  have hn : (B2.part s 2 (B1.byteAt s 1)).size ≤ 281474976710656 := by have := B2.part_size s 2 (B1.byteAt s 1); omega
  by_cases h16 : s.size = 16
  · have g16 : ((s.size : Int) != 16) = false := by simp; omega
    by_cases hP : ((E0.putE (B1.byteAt s 0) (B2.part s 2 (B1.byteAt s 1))).toList == s.toList) = true
    · have HR : Hid (getE s = .tuple #[.agg #[.int .i64 (B1.byteAt s 0), .string (B2.part s 2 (B1.byteAt s 1))], .bool true]) := getE_yes (by rw [isE, ino, name, hP, decide_eq_true h16]; rfl)
      go_enter Try.func95, Try.ntmps95
      go_wp2_with (first
        | (go_at_call 114; refine (B1.impl_ByteAt _ _ _ hm).mono ?_; rintro e w' ⟨rfl, rfl⟩)
        | (go_at_call 54; refine (B2.impl_Part _ _ _ _ hs).mono ?_; rintro e w1 ⟨rfl, b1⟩; have t1 := two_new w w1 (B1.byteAt s 0) (B2.part s 2 (B1.byteAt s 1)) b1)
        | (go_at_call 120; refine (E2.impl_PutEntry _ _ _ hn).mono ?_; rintro e w2 ⟨rfl, b2⟩; have t2 := t1.below b2; have c0 := t2.n.c0; have c1 := t2.n.c1; have f0 := t2.n.f0; have f1 := t2.n.f1; have d0 := t2.m.c0; have d1 := t2.m.c1))
      have q := t2.n.put2 (.int .i64 (B1.byteAt s 0)) (.string (B2.part s 2 (B1.byteAt s 1)))
      exact bodyPost_ret (v := .tuple #[.agg #[.int .i64 (B1.byteAt s 0), .string (B2.part s 2 (B1.byteAt s 1))], .bool true]) (by simp [results, Try.results95, go_sem, q.c0, q.c1]) rfl
        ⟨ret_val HR.out.symm, (t2.bel.setCell (p := ⟨w.heap.size, 0, none⟩) (Nat.le_refl _) _).setCell (p := ⟨w.heap.size, 1, none⟩) (Nat.le_refl _) _⟩
    · have hP' : ((E0.putE (B1.byteAt s 0) (B2.part s 2 (B1.byteAt s 1))).toList == s.toList) = false := by simpa using hP
      have HR : Hid (getE s = .tuple #[.agg #[.int .i64 0, .string ⟨#[]⟩], .bool false]) := getE_no (by rw [isE, ino, name, hP', Bool.and_false])
      clear hP
      go_enter Try.func95, Try.ntmps95
      go_wp2_with (first
        | (go_at_call 114; refine (B1.impl_ByteAt _ _ _ hm).mono ?_; rintro e w' ⟨rfl, rfl⟩)
        | (go_at_call 54; refine (B2.impl_Part _ _ _ _ hs).mono ?_; rintro e w1 ⟨rfl, b1⟩; have t1 := two_new w w1 (B1.byteAt s 0) (B2.part s 2 (B1.byteAt s 1)) b1)
        | (go_at_call 120; refine (E2.impl_PutEntry _ _ _ hn).mono ?_; rintro e w2 ⟨rfl, b2⟩; have t2 := t1.below b2; have c0 := t2.n.c0; have c1 := t2.n.c1; have f0 := t2.n.f0; have f1 := t2.n.f1; have d0 := t2.m.c0; have d1 := t2.m.c1))
      have q := t2.n.put2 (.int .i64 0) (.string ⟨#[]⟩)
      exact bodyPost_ret (v := .tuple #[.agg #[.int .i64 0, .string ⟨#[]⟩], .bool false]) (by simp [results, Try.results95, go_sem, q.c0, q.c1]) rfl
        ⟨ret_val HR.out.symm, (t2.bel.setCell (p := ⟨w.heap.size, 0, none⟩) (Nat.le_refl _) _).setCell (p := ⟨w.heap.size, 1, none⟩) (Nat.le_refl _) _⟩
  · have g16 : ((s.size : Int) != 16) = true := by simp; omega
    have HR : Hid (getE s = .tuple #[.agg #[.int .i64 0, .string ⟨#[]⟩], .bool false]) := getE_no (by rw [isE, decide_eq_false h16, Bool.false_and])
    go_enter Try.func95, Try.ntmps95
    go_wp2
    refine bodyPost_ret (v := .tuple #[.agg #[.int .i64 0, .string ⟨#[]⟩], .bool false]) (by simp [results, Try.results95, go_sem]) rfl
      ⟨ret_val HR.out.symm, ?_⟩
    go_grown
end Go.Proofs.Ytddlpejklpljoaa.E4

/- Plain facts on reading a directory out of bytes. -/
namespace Go.Proofs.Ytddlpejklpljoaa.V0
open Go
set_option linter.unusedVariables false
set_option linter.unusedSimpArgs false

/-- The bytes of the entry at a place. -/
def chunk (s : ByteArray) (j : Nat) : ByteArray := B2.part s ((j : Int) * 16) 16

/-- The first entries that a text tells. -/
def ents (s : ByteArray) (k : Nat) : List T0.Ent := (List.range k).map fun (j : Nat) => (E4.eIno (chunk s j), E4.eName (chunk s j))

theorem ents_length (s : ByteArray) (k : Nat) : (ents s k).length = k := by simp [ents]
theorem ents_succ (s : ByteArray) (k : Nat) : ents s k ++ [(E4.eIno (chunk s k), E4.eName (chunk s k))] = ents s (k + 1) := by simp [ents, List.range_succ]
theorem ents_get (s : ByteArray) (k j : Nat) (h : j < k) : T0.ent (ents s k) j = (E4.eIno (chunk s j), E4.eName (chunk s j)) := by
  rw [T0.ent_get _ _ (by rw [ents_length]; exact h)]
  simp [ents]

/-- How many are read. -/
def cnt (s : ByteArray) : Nat := min ((s.size + 15) / 16) 13

/-- Whether a text is that of a directory. -/
def isD (s : ByteArray) : Bool := decide (s.size = 0) || ((T0.putD (ents s (cnt s))).toList == s.toList)

def dE (s : ByteArray) : List T0.Ent := if isD s then ents s (cnt s) else []

theorem toList_eq {a b : ByteArray} (h : a.toList = b.toList) : a = b := by
  rw [Lib.toList_data, Lib.toList_data] at h
  exact ByteArray.ext (Array.toList_inj.1 h)

theorem chunk_eq (s : ByteArray) (j : Nat) (h : (j + 1) * 16 ≤ s.size) : chunk s j = s.extract (j * 16) (j * 16 + 16) := by
  rw [chunk, B2.part, show B2.lies s.size ((j : Int) * 16) 16 = true from decide_eq_true (by omega), if_pos rfl, show ((j : Int) * 16).toNat = j * 16 by omega, show ((j : Int) * 16 + 16).toNat = j * 16 + 16 by omega]

theorem isE_eq {x : ByteArray} (h : E4.isE x = true) : E0.putE (E4.eIno x) (E4.eName x) = x := by
  have h2 := h
  simp only [E4.isE, Bool.and_eq_true, beq_iff_eq] at h2
  rw [E4.eIno, E4.eName, if_pos h, if_pos h]
  exact toList_eq h2.2

theorem not_isE {x : ByteArray} (h : E4.isE x = false) : E4.eIno x = 0 ∧ E4.eName x = ⟨#[]⟩ := by simp [E4.eIno, E4.eName, h]

theorem entryOk_zero : E0.entryOk 0 ⟨#[]⟩ = false := by
  rw [E0.entryOk, show B1.inB 0 1 7 = false from by decide, Bool.and_false]

theorem ext_join (s : ByteArray) (a b : Nat) (h1 : a ≤ b) (h2 : b ≤ s.size) : s.extract 0 a ++ s.extract a b = s.extract 0 b := by
  apply ByteArray.ext
  apply Array.toList_inj.1
  simp only [ByteArray.data_append, Array.toList_append, Lib.extract_data, List.drop_zero, Nat.sub_zero]
  rw [← List.take_add, show a + (b - a) = b by omega]

/-- Where all chunks are entries' the entries' bytes are the text's. -/
theorem joined_ext (s : ByteArray) (n : Nat) (hE : ∀ j, j < n → E4.isE (chunk s j) = true) : ∀ k, k ≤ n → k * 16 ≤ s.size → T0.joined (ents s n) k = s.extract 0 (k * 16)
  | 0, _, _ => by
    apply ByteArray.ext
    simp [T0.joined]
  | k + 1, hk, hs => by
    rw [T0.joined, joined_ext s n hE k (by omega) (by omega), ents_get s n k (by omega), isE_eq (hE k (by omega)), chunk_eq s k (by omega), ext_join s _ _ (by omega) (by omega), show k * 16 + 16 = (k + 1) * 16 by omega]

theorem ext_all (s : ByteArray) : s.extract 0 s.size = s := by
  apply ByteArray.ext
  apply Array.toList_inj.1
  rw [Lib.extract_data]
  simp only [List.drop_zero, Nat.sub_zero]
  exact List.take_of_length_le (by rw [← Lib.size_eq]; exact Nat.le_refl _)

/-- What the program asks for is what the specification asks for. -/
theorem isD_of {s : ByteArray} (h1 : s.size ≤ 192) (h2 : s.size % 16 = 0) (hE : ∀ j, j < s.size / 16 → E4.isE (chunk s j) = true) (hD : T0.dirOk (ents s (s.size / 16)) = true) : isD s = true ∧ cnt s = s.size / 16 := by
  have hc : cnt s = s.size / 16 := by unfold cnt; omega
  refine ⟨?_, hc⟩
  rw [isD, hc]
  have : T0.putD (ents s (s.size / 16)) = s := by
    rw [T0.putD, if_pos hD, ents_length, joined_ext s _ hE _ (Nat.le_refl _) (by omega), show s.size / 16 * 16 = s.size by omega]
    exact ext_all s
  rw [this]
  simp

theorem of_isD {s : ByteArray} (h : isD s = true) : s.size ≤ 192 ∧ s.size % 16 = 0 ∧ cnt s = s.size / 16 ∧ (∀ j, j < s.size / 16 → E4.isE (chunk s j) = true) ∧ T0.dirOk (ents s (s.size / 16)) = true := by
  by_cases h0 : s.size = 0
  · refine ⟨by omega, by omega, by unfold cnt; omega, fun j hj => by omega, ?_⟩
    rw [h0]
    rfl
  · rw [isD, decide_eq_false h0, Bool.false_or] at h
    have he : T0.putD (ents s (cnt s)) = s := toList_eq (by simpa using h)
    have hD : T0.dirOk (ents s (cnt s)) = true := by
      cases hb : T0.dirOk (ents s (cnt s)) with
      | true => rfl
      | false =>
        rw [T0.putD, hb] at he
        have := congrArg ByteArray.size he
        exact absurd this.symm h0
    have hd := hD
    simp only [T0.dirOk, Bool.and_eq_true, decide_eq_true_eq] at hd
    rw [ents_length] at hd
    have hsz : s.size = 16 * cnt s := by
      have := T0.joined_size hd.2 (cnt s) (Nat.le_refl _)
      rw [T0.putD, if_pos hD, ents_length] at he
      rw [he] at this
      exact this
    have hc : cnt s = s.size / 16 := by omega
    rw [← hc]
    refine ⟨by omega, by omega, rfl, fun j hj => ?_, hD⟩
    cases hb : E4.isE (chunk s j) with
    | true => rfl
    | false =>
      have h1 := (T0.okAt_entry (T0.okUpto_at hd.2 hj)).1
      rw [ents_get s _ j hj, (not_isE hb).1, (not_isE hb).2, entryOk_zero] at h1
      cases h1
end Go.Proofs.Ytddlpejklpljoaa.V0

/- A call that alone may come up in a region that draws its order. -/
namespace Go.Proofs.Ytddlpejklpljoaa.Y0
open Go.RowKit
set_option linter.unusedVariables false
set_option linter.unusedSimpArgs false
variable {P : Program} {Q : Exit → Act → World → Prop} {ops : Array Oper}

theorem of_if {c : Prop} [Decidable c] {p q : Prop} (hc : c) (hp : p) : if c then p else q := by rw [if_pos hc]; exact hp

/-- A call of one argument that alone may come up. -/
theorem one_call {S : World → Prop} {a : Act} {w : World} {i f : Nat} {o : Oper} {listed : Array Bool} {fuel : Nat} {md : Region.Mode} (hr : Region.ready md ops listed = [i]) (ho : ops[i]? = some o) (hg : o.guard = none)
    (x : Operand) (ts : Array TypeId) (hop : o.op = .call { callee := .value (.func f), args := #[x], argTypes := ts }) (v : Value) (hx : a.eval x = v) (eg : ∀ args w, (callFunc f args).run P w = .ok (.enter f args) w)
    (hc : Calls P f #[v] w fun e w' => ∃ u, e = .returned u ∧ S w' ∧ wpAnyH P md ops Q S fuel (listed.setIfInBounds i true) (a.put o.dst u) w') : wpAnyH P md ops Q S (fuel + 1) listed a w := by
  refine wpAnyH_all hr (by simp) ?_
  intro j hj
  obtain rfl : j = i := by simpa using hj
  unfold wpOp
  rw [ho]
  refine of_if (by rw [Region.wanted, hg]) (.inl ?_)
  have he : (execOp a.eval o).run P w = .ok (.enter f #[v]) w := by
    subst hx
    simp [execOp, hop, resolve, go_sem, invoke, eg]
  unfold Oper.wp
  rw [he]
  refine Calls.mono hc ?_
  rintro e w' ⟨u, rfl, h⟩
  exact h

/-- .. where it is guarded, and the guard holds. -/
theorem one_callw {S : World → Prop} {a : Act} {w : World} {i f : Nat} {o : Oper} {listed : Array Bool} {fuel : Nat} {md : Region.Mode} (hr : Region.ready md ops listed = [i]) (ho : ops[i]? = some o) (hw : Region.wanted o (yielded ops a.tmps) = true)
    (x : Operand) (ts : Array TypeId) (hop : o.op = .call { callee := .value (.func f), args := #[x], argTypes := ts }) (v : Value) (hx : a.eval x = v) (eg : ∀ args w, (callFunc f args).run P w = .ok (.enter f args) w)
    (hc : Calls P f #[v] w fun e w' => ∃ u, e = .returned u ∧ S w' ∧ wpAnyH P md ops Q S fuel (listed.setIfInBounds i true) (a.put o.dst u) w') : wpAnyH P md ops Q S (fuel + 1) listed a w := by
  refine wpAnyH_all hr (by simp) ?_
  intro j hj
  obtain rfl : j = i := by simpa using hj
  unfold wpOp
  rw [ho]
  refine of_if hw (.inl ?_)
  have he : (execOp a.eval o).run P w = .ok (.enter f #[v]) w := by
    subst hx
    simp [execOp, hop, resolve, go_sem, invoke, eg]
  unfold Oper.wp
  rw [he]
  refine Calls.mono hc ?_
  rintro e w' ⟨u, rfl, h⟩
  exact h

theorem one_call2w {S : World → Prop} {a : Act} {w : World} {i f : Nat} {o : Oper} {listed : Array Bool} {fuel : Nat} {md : Region.Mode} (hr : Region.ready md ops listed = [i]) (ho : ops[i]? = some o) (hw : Region.wanted o (yielded ops a.tmps) = true)
    (x y : Operand) (ts : Array TypeId) (hop : o.op = .call { callee := .value (.func f), args := #[x, y], argTypes := ts }) (v u1 : Value) (hx0 : a.eval x = v) (hx1 : a.eval y = u1) (eg : ∀ args w, (callFunc f args).run P w = .ok (.enter f args) w)
    (hc : Calls P f #[v, u1] w fun e w' => ∃ u, e = .returned u ∧ S w' ∧ wpAnyH P md ops Q S fuel (listed.setIfInBounds i true) (a.put o.dst u) w') : wpAnyH P md ops Q S (fuel + 1) listed a w := by
  refine wpAnyH_all hr (by simp) ?_
  intro j hj
  obtain rfl : j = i := by simpa using hj
  unfold wpOp
  rw [ho]
  refine of_if hw (.inl ?_)
  have he : (execOp a.eval o).run P w = .ok (.enter f #[v, u1]) w := by
    subst hx0 hx1
    simp [execOp, hop, resolve, go_sem, invoke, eg]
  unfold Oper.wp
  rw [he]
  refine Calls.mono hc ?_
  rintro e w' ⟨u, rfl, h⟩
  exact h

theorem one_call3w {S : World → Prop} {a : Act} {w : World} {i f : Nat} {o : Oper} {listed : Array Bool} {fuel : Nat} {md : Region.Mode} (hr : Region.ready md ops listed = [i]) (ho : ops[i]? = some o) (hw : Region.wanted o (yielded ops a.tmps) = true)
    (x y z : Operand) (ts : Array TypeId) (hop : o.op = .call { callee := .value (.func f), args := #[x, y, z], argTypes := ts }) (v u1 u2 : Value) (hx0 : a.eval x = v) (hx1 : a.eval y = u1) (hx2 : a.eval z = u2) (eg : ∀ args w, (callFunc f args).run P w = .ok (.enter f args) w)
    (hc : Calls P f #[v, u1, u2] w fun e w' => ∃ u, e = .returned u ∧ S w' ∧ wpAnyH P md ops Q S fuel (listed.setIfInBounds i true) (a.put o.dst u) w') : wpAnyH P md ops Q S (fuel + 1) listed a w := by
  refine wpAnyH_all hr (by simp) ?_
  intro j hj
  obtain rfl : j = i := by simpa using hj
  unfold wpOp
  rw [ho]
  refine of_if hw (.inl ?_)
  have he : (execOp a.eval o).run P w = .ok (.enter f #[v, u1, u2]) w := by
    subst hx0 hx1 hx2
    simp [execOp, hop, resolve, go_sem, invoke, eg]
  unfold Oper.wp
  rw [he]
  refine Calls.mono hc ?_
  rintro e w' ⟨u, rfl, h⟩
  exact h

/-- Another operation that alone may come up. -/
theorem one_plain {S : World → Prop} {a : Act} {w w' : World} {u : Value} {i : Nat} {o : Oper} {listed : Array Bool} {fuel : Nat} {md : Region.Mode} (hr : Region.ready md ops listed = [i]) (ho : ops[i]? = some o) (hw : Region.wanted o (yielded ops a.tmps) = true)
    (he : (execOp a.eval o).run P w = .ok (.value u) w') (hS : S w') (h : wpAnyH P md ops Q S fuel (listed.setIfInBounds i true) (a.put o.dst u) w') : wpAnyH P md ops Q S (fuel + 1) listed a w := by
  refine wpAnyH_all hr (by simp) ?_
  intro j hj
  obtain rfl : j = i := by simpa using hj
  unfold wpOp
  rw [ho]
  refine of_if hw (.inl ?_)
  unfold Oper.wp
  rw [he]
  exact ⟨hS, h⟩

/-- .. a store. -/
theorem one_skip {S : World → Prop} {a : Act} {w w' : World} {i : Nat} {o : Oper} {listed : Array Bool} {fuel : Nat} {md : Region.Mode} (hr : Region.ready md ops listed = [i]) (ho : ops[i]? = some o) (hw : Region.wanted o (yielded ops a.tmps) = true)
    (he : (execOp a.eval o).run P w = .ok .skip w') (hS : S w') (h : wpAnyH P md ops Q S fuel (listed.setIfInBounds i true) (a.put o.dst undef) w') : wpAnyH P md ops Q S (fuel + 1) listed a w := by
  refine wpAnyH_all hr (by simp) ?_
  intro j hj
  obtain rfl : j = i := by simpa using hj
  unfold wpOp
  rw [ho]
  refine of_if hw (.inl ?_)
  unfold Oper.wp
  rw [he]
  exact ⟨hS, h⟩
end Go.Proofs.Ytddlpejklpljoaa.Y0

/- Contracts of impl.isTaken and impl.dirOk, as the given laws call them. -/
namespace Go.Proofs.Ytddlpejklpljoaa.T1
open Go.ChangeShapes Go.WideShapes Go.ChangeAt Go.RowKit
set_option linter.unusedVariables false
set_option linter.unusedSimpArgs false
set_option maxRecDepth 10000

theorem ret_bool {a b : Bool} (h : a = b) : Ending.returned (.bool a) = .returned (.bool b) := by rw [h]

set_option maxHeartbeats 1000000 in
theorem isTaken (b off n c : Nat) (es : List T0.Ent) (x : Int) (s : ByteArray) (w : World) (hn : n ≤ es.length) (hbig : n ≤ 1048576) (hlt0 : b < w.heap.size)
    (hc : ∀ j, j < es.length → w.cell? ⟨b, off + j * 2, none⟩ = some (.int .i64 (T0.ent es j).1) ∧ w.cell? ⟨b, off + j * 2 + 1, none⟩ = some (.string (T0.ent es j).2)) :
    Calls Try.prog 122 #[.slice (some ⟨b, off, none⟩) n c, .agg #[.int .i64 x, .string s]] w fun e w' => e = .returned (.bool (T0.taken (es.take n) (x, s))) ∧ Below w.heap.size w w' := by
  have h0 := E2.bx_new x s w 80
  go_enter Try.func122, Try.ntmps122
  go_wp2
  go_loopw [9] (fun i w' => ∃ k : Nat, k ≤ n ∧ T0.taken (es.take k) (x, s) = false ∧ i = .int .i64 k ∧ E2.Bx w.heap.size w x s w') (fun i _ => n - (intOf i).toNat)
  case atStart => exact ⟨0, Nat.zero_le _, rfl, rfl, h0⟩
  case round =>
    obtain ⟨k, hk, hno, rfl, hbx⟩ := hrel
    clear h0
    by_cases hlt : k < n
    · have y1 := (hbx.bel.cell (p := ⟨b, off + k * 2, none⟩) hlt0).trans (hc k (by omega)).1
      have y2 := (hbx.bel.cell (p := ⟨b, off + k * 2 + 1, none⟩) hlt0).trans (hc k (by omega)).2
      have hs := T0.taken_succ es k (x, s) (by omega)
      have hin := T0.taken_of (es := es) (e := (x, s)) hlt hn
      obtain ⟨z, ez⟩ : ∃ z, T0.ent es k = z := ⟨_, rfl⟩
      rw [ez] at y1 y2 hs hin
      obtain ⟨u, v⟩ := z
      have e1 : (0 : Int) ≤ (k : Int) := by omega
      have e2 : (k : Int) < (n : Int) := by omega
      have hb2 := hbx.alloc (.cells #[.int .i64 u, .string v] 80)
      have d0 := hb2.c0
      have d1 := hb2.c1
      clear ez hc
      by_cases h1 : (v.toList == s.toList) = true
      · have HR : Hid (T0.taken (es.take n) (x, s) = true) := hin (by rw [T0.clash, h1]; rfl)
        clear hin hs hno
        go_wp2
        go_ret
        exact ⟨ret_bool HR.out.symm, hb2.bel⟩
      · have h1' : (v.toList == s.toList) = false := by simpa using h1
        by_cases h2 : (u == x) = true
        · have HR : Hid (T0.taken (es.take n) (x, s) = true) := hin (by rw [T0.clash, h1', h2]; rfl)
          clear hin hs hno h1
          go_wp2
          go_ret
          exact ⟨ret_bool HR.out.symm, hb2.bel⟩
        · have h2' : (u == x) = false := by simpa using h2
          have HN : Hid (T0.taken (es.take (k + 1)) (x, s) = false) := by rw [hs, hno, T0.clash, h1', h2']; rfl
          clear hin hs hno h1 h2
          go_wp2
          go_roundw
          case rel => exact ⟨k + 1, by omega, HN.out, by go_num, hb2⟩
          case measure => simp [intOf]; omega
    · obtain rfl : k = n := by omega
      have HN : Hid (T0.taken (es.take k) (x, s) = false) := hno
      clear hno hc
      go_wp2
      go_ret
      exact ⟨ret_bool HN.out.symm, hbx.bel⟩

theorem ok_lit {i : Int} {s : ByteArray} {B : Nat} {w W : World} {r : Bool} (hs : s.size ≤ 281474976710656) (hr : E0.entryOk i s = r) (h : E2.Bx B w i s W) :
    Calls Try.prog 121 #[.agg #[.int .i64 i, .string s]] W fun e w' => e = .returned (.bool r) ∧ E2.Bx B w i s w' :=
  (E2.impl_EntryOk_bx hs h).mono fun _ _ ⟨he, hb⟩ => ⟨by rw [he, hr], hb⟩

theorem row_at {w W : World} {b off : Nat} {es : List T0.Ent} (hlt : b < w.heap.size) (hb : Below w.heap.size w W) (hc : ∀ j, j < es.length → w.cell? ⟨b, off + j * 2, none⟩ = some (.int .i64 (T0.ent es j).1) ∧ w.cell? ⟨b, off + j * 2 + 1, none⟩ = some (.string (T0.ent es j).2)) :
    ∀ j, j < es.length → W.cell? ⟨b, off + j * 2, none⟩ = some (.int .i64 (T0.ent es j).1) ∧ W.cell? ⟨b, off + j * 2 + 1, none⟩ = some (.string (T0.ent es j).2) := fun j hj =>
  ⟨(hb.cell (p := ⟨b, off + j * 2, none⟩) hlt).trans (hc j hj).1, (hb.cell (p := ⟨b, off + j * 2 + 1, none⟩) hlt).trans (hc j hj).2⟩

theorem taken_lit (b off n c : Nat) (es : List T0.Ent) (x : Int) (s : ByteArray) (w W : World) (r : Bool) (hn : n ≤ es.length) (hbig : n ≤ 1048576) (hlt0 : b < w.heap.size) (hb : Below w.heap.size w W) (hr : T0.taken (es.take n) (x, s) = r)
    (hc : ∀ j, j < es.length → w.cell? ⟨b, off + j * 2, none⟩ = some (.int .i64 (T0.ent es j).1) ∧ w.cell? ⟨b, off + j * 2 + 1, none⟩ = some (.string (T0.ent es j).2)) :
    Calls Try.prog 122 #[.slice (some ⟨b, off, none⟩) n c, .agg #[.int .i64 x, .string s]] W fun e w' => e = .returned (.bool r) ∧ Below w.heap.size w w' :=
  (isTaken b off n c es x s W hn hbig (Nat.lt_of_lt_of_le hlt0 hb.size) (row_at hlt0 hb hc)).mono fun _ _ ⟨he, h2⟩ => ⟨by rw [he, hr], hb.trans (h2.mono hb.size)⟩

set_option maxHeartbeats 800000 in
theorem dirOk (a : Option Addr) (c : Nat) (es : List T0.Ent) (w : World) (hbig : es.length ≤ 1048576) (hcap : es.length ≤ c) (hfit : T0.Fits es) (hR : T0.Row w a es) :
    Calls Try.prog 96 #[.slice a es.length c] w fun e w' => e = .returned (.bool (T0.dirOk es)) ∧ Below w.heap.size w w' := by
  by_cases h12 : 12 < (es.length : Int)
  · have HR : Hid (T0.dirOk es = false) := by rw [T0.dirOk, decide_eq_false (by omega : ¬ es.length ≤ 12)]; rfl
    go_enter Try.func96, Try.ntmps96
    go_wp2
    go_ret
    exact ⟨ret_bool HR.out.symm, Below.refl _ _⟩
  · have hD : T0.dirOk es = T0.okUpto es es.length := by rw [T0.dirOk, decide_eq_true (by omega : es.length ≤ 12), Bool.true_and]
    go_enter Try.func96, Try.ntmps96
    go_wp2
    go_loopw [10] (fun i w' => ∃ k : Nat, k ≤ es.length ∧ T0.okUpto es k = true ∧ i = .int .i64 k ∧ Below w.heap.size w w') (fun i _ => es.length - (intOf i).toNat)
    case atStart => exact ⟨0, Nat.zero_le _, rfl, rfl, Below.refl _ _⟩
    case round =>
      obtain ⟨k, hk, hok, rfl, hbel⟩ := hrel
      by_cases hlt : k < es.length
      · obtain ⟨b, off, rfl, hlt0, hc⟩ := hR.get hlt
        have y1 := (hbel.cell (p := ⟨b, off + k * 2, none⟩) hlt0).trans (hc k hlt).1
        have y2 := (hbel.cell (p := ⟨b, off + k * 2 + 1, none⟩) hlt0).trans (hc k hlt).2
        have hs := T0.okUpto_succ es k
        have hat : T0.okAt es k = (E0.entryOk (T0.ent es k).1 (T0.ent es k).2 && !(T0.taken (es.take k) (T0.ent es k))) := rfl
        have hf := hfit k hlt
        obtain ⟨z, ez⟩ : ∃ z, T0.ent es k = z := ⟨_, rfl⟩
        rw [ez] at y1 y2 hat hf
        obtain ⟨u, v⟩ := z
        simp only at y1 y2 hat hf
        have e1 : (0 : Int) ≤ (k : Int) := by omega
        have e2 : (k : Int) < (es.length : Int) := by omega
        have e3 : (k : Int) ≤ (c : Int) := by omega
        have hb1 := E2.bx_new u v wr 80
        have hbd := hb1.drew
        have hB := hbel.size
        clear ez hR hfit
        by_cases hE : E0.entryOk u v = true
        · have hiT : Hid (∀ r W, T0.taken (es.take k) (u, v) = r → Below wr.heap.size wr W → Calls Try.prog 122 #[.slice (some ⟨b, off, none⟩) k c, .agg #[.int .i64 u, .string v]] W fun e w' => e = .returned (.bool r) ∧ Below w.heap.size w w') := fun r W hr hb => taken_lit b off k c es u v w W r (by omega) (by omega) hlt0 (hbel.trans (hb.mono hB)) hr hc
          by_cases hT : T0.taken (es.take k) (u, v) = true
          · have HR : Hid (T0.dirOk es = false) := T0.dirOk_bad hlt (by rw [hat, hT, Bool.not_true, Bool.and_false])
            clear hs hat hok hc hD
            go_wp2
            go_region_with (first
              | (go_at_call 121; refine (ok_lit (by omega) hE hbd).mono ?_; rintro e w4 ⟨rfl, h4⟩; have x0 := h4.c0; have x1 := h4.c1)
              | (go_at_call 122; refine (hiT.out _ _ hT h4.bel).mono ?_; rintro e w5 ⟨rfl, b5⟩))
            all_goals
              go_wp2
              go_ret
              exact ⟨ret_bool HR.out.symm, b5⟩
          · have hT' : T0.taken (es.take k) (u, v) = false := by simpa using hT
            have HO : Hid (T0.okUpto es (k + 1) = true) := by rw [hs, hok, hat, hE, hT']; rfl
            clear hs hat hok hc hD hT
            go_wp2
            go_region_with (first
              | (go_at_call 121; refine (ok_lit (by omega) hE hbd).mono ?_; rintro e w4 ⟨rfl, h4⟩; have x0 := h4.c0; have x1 := h4.c1)
              | (go_at_call 122; refine (hiT.out _ _ hT' h4.bel).mono ?_; rintro e w5 ⟨rfl, b5⟩))
            all_goals
              go_wp2
              go_roundw
              case rel => exact ⟨k + 1, by omega, HO.out, by go_num, b5⟩
              case measure => simp [intOf]; omega
        · have hE' : E0.entryOk u v = false := by simpa using hE
          have HR : Hid (T0.dirOk es = false) := T0.dirOk_bad hlt (by rw [hat, hE']; rfl)
          clear hs hat hok hc hD hE
          go_wp2
          have hS0 : (wr.alloc (.cells #[.int .i64 u, .string v] 80)).drew.cell? ⟨wr.heap.size, 0, none⟩ = some (.int .i64 u) ∧ (wr.alloc (.cells #[.int .i64 u, .string v] 80)).drew.cell? ⟨wr.heap.size, 1, none⟩ = some (.string v) := ⟨hbd.c0, hbd.c1⟩
          refine wp_region_held (S := fun W => W.cell? ⟨wr.heap.size, 0, none⟩ = some (.int .i64 u) ∧ W.cell? ⟨wr.heap.size, 1, none⟩ = some (.string v)) (by kernel_rfl) ?_
          refine wpAnyH_take (i := 0) (v := .agg #[.int .i64 u, .string v]) rfl (by kernel_rfl) (by kernel_rfl) (by kernel_rfl) (fun _ _ _ h => h) (Or.inl ⟨by rfl, fun w' hS' => ?_⟩) hS0 ?_
          · obtain ⟨s0, s1⟩ := hS'
            go_simp
          simp only [List.getElem_toArray, List.getElem_cons_succ, List.getElem_cons_zero, Act.put, List.setIfInBounds_toArray, List.set_cons_succ, List.set_cons_zero, Nat.reduceAdd]
          refine Y0.one_call (i := 1) (by kernel_rfl) rfl rfl (.tmp 15) _ rfl (.agg #[.int .i64 u, .string v]) (by rfl) (enters_of Try.func121 (by kernel_rfl) rfl) ((ok_lit (by omega) hE' hbd).mono ?_)
          rintro e w4 ⟨rfl, h4⟩
          have hS4 : w4.cell? ⟨wr.heap.size, 0, none⟩ = some (.int .i64 u) ∧ w4.cell? ⟨wr.heap.size, 1, none⟩ = some (.string v) := ⟨h4.c0, h4.c1⟩
          refine ⟨_, rfl, hS4, ?_⟩
          simp only [List.getElem_toArray, List.getElem_cons_succ, List.getElem_cons_zero, Act.put, List.setIfInBounds_toArray, List.set_cons_succ, List.set_cons_zero, Nat.reduceAdd]
          refine wpAnyH_take (i := 2) (v := .bool true) rfl (by kernel_rfl) (by kernel_rfl) (by kernel_rfl) (fun _ _ _ h => h) (Or.inl ⟨by rfl, fun w' hS' => by rfl⟩) hS4 ?_
          simp only [List.getElem_toArray, List.getElem_cons_succ, List.getElem_cons_zero, Act.put, List.setIfInBounds_toArray, List.set_cons_succ, List.set_cons_zero, Nat.reduceAdd]
          refine wpAnyH_take (i := 3) (v := .bool true) rfl (by kernel_rfl) (by kernel_rfl) (by kernel_rfl) (fun _ _ _ h => h) (Or.inl ⟨by rfl, fun w' hS' => by rfl⟩) hS4 ?_
          simp only [List.getElem_toArray, List.getElem_cons_succ, List.getElem_cons_zero, Act.put, List.setIfInBounds_toArray, List.set_cons_succ, List.set_cons_zero, Nat.reduceAdd]
          refine wpAnyH_take (i := 4) (v := undef) rfl (by kernel_rfl) (by kernel_rfl) (by kernel_rfl) (fun _ _ _ h => h) (Or.inr ⟨by rfl, rfl⟩) hS4 ?_
          simp only [List.getElem_toArray, List.getElem_cons_succ, List.getElem_cons_zero, Act.put, List.setIfInBounds_toArray, List.set_cons_succ, List.set_cons_zero, Nat.reduceAdd]
          refine wpAnyH_take (i := 5) (v := undef) rfl (by kernel_rfl) (by kernel_rfl) (by kernel_rfl) (fun _ _ _ h => h) (Or.inr ⟨by rfl, rfl⟩) hS4 ?_
          simp only [List.getElem_toArray, List.getElem_cons_succ, List.getElem_cons_zero, Act.put, List.setIfInBounds_toArray, List.set_cons_succ, List.set_cons_zero, Nat.reduceAdd]
          refine wpAnyH_take (i := 6) (v := undef) rfl (by kernel_rfl) (by kernel_rfl) (by kernel_rfl) (fun _ _ _ h => h) (Or.inr ⟨by rfl, rfl⟩) hS4 ?_
          simp only [List.getElem_toArray, List.getElem_cons_succ, List.getElem_cons_zero, Act.put, List.setIfInBounds_toArray, List.set_cons_succ, List.set_cons_zero, Nat.reduceAdd]
          refine wpAnyH_take (i := 7) (v := undef) rfl (by kernel_rfl) (by kernel_rfl) (by kernel_rfl) (fun _ _ _ h => h) (Or.inr ⟨by rfl, rfl⟩) hS4 ?_
          simp only [List.getElem_toArray, List.getElem_cons_succ, List.getElem_cons_zero, Act.put, List.setIfInBounds_toArray, List.set_cons_succ, List.set_cons_zero, Nat.reduceAdd]
          refine wpAnyH_take (i := 8) (v := undef) rfl (by kernel_rfl) (by kernel_rfl) (by kernel_rfl) (fun _ _ _ h => h) (Or.inr ⟨by rfl, rfl⟩) hS4 ?_
          simp only [List.getElem_toArray, List.getElem_cons_succ, List.getElem_cons_zero, Act.put, List.setIfInBounds_toArray, List.set_cons_succ, List.set_cons_zero, Nat.reduceAdd]
          refine wpAnyH_take (i := 9) (v := .bool true) rfl (by kernel_rfl) (by kernel_rfl) (by kernel_rfl) (fun _ _ _ h => h) (Or.inl ⟨by rfl, fun w' hS' => by rfl⟩) hS4 ?_
          simp only [List.getElem_toArray, List.getElem_cons_succ, List.getElem_cons_zero, Act.put, List.setIfInBounds_toArray, List.set_cons_succ, List.set_cons_zero, Nat.reduceAdd]
          refine wpAnyH_done (by kernel_rfl) ?_ _
          all_goals
            go_wp2
            go_ret
            exact ⟨ret_bool HR.out.symm, hbel.trans (h4.bel.mono hB)⟩
      · obtain rfl : k = es.length := by omega
        have HR : Hid (T0.dirOk es = true) := by rw [hD, hok]; rfl
        clear hok hD hR
        go_wp2
        go_ret
        exact ⟨ret_bool HR.out.symm, hbel⟩
end Go.Proofs.Ytddlpejklpljoaa.T1

/- A row of bytes that a call has made and appends to: what it holds, and the two appends. -/
namespace Go.Proofs.Ytddlpejklpljoaa.F0
open Go.ChangeShapes Go.WideShapes Go.ChangeAt Go.RowKit
set_option linter.unusedVariables false
set_option linter.unusedSimpArgs false
set_option maxRecDepth 10000

/-- A row of a call's own: so many bytes, these. -/
def Buf (base : Nat) (w : World) (g n cap : Nat) (t : ByteArray) : Prop := n = t.size ∧ w.ownsRow base 5 1 (.slice (some ⟨g, 0, none⟩) n cap) n (Lib.strCells t)

theorem info5 : (Try.prog.info? 5).map (fun i => (i.zero, i.size, i.bytes)) = some (some (.int .u8 0), 1, 1) := by kernel_rfl

variable {base g n cap : Nat} {w W : World} {t : ByteArray}

theorem owns_below {e : TypeId} {size : Nat} {v : Value} {xs : List Value} (h : w.ownsRow base e size v n xs) (hb : Below w.heap.size w W) : W.ownsRow base e size v n xs := by
  refine ⟨h.1, ?_⟩
  rcases h.2 with h0 | ⟨g, cap, cur, hv, hg, hc, r⟩
  · exact Or.inl h0
  · refine Or.inr ⟨g, cap, cur, hv, hg, ?_, r⟩
    rw [hb.block g (Array.getElem?_eq_some_iff.1 hc).1]
    exact hc

theorem below_grown {B : Nat} {w W W' : World} {row : Option Nat} (h : Below B w W) (hg : W.grownBy W' row) (hr : ∀ g, row = some g → B ≤ g) (hB : B ≤ W.heap.size) : Below B w W' :=
  ⟨hg.os.trans h.os, hg.tape.trans h.tape, hg.output.trans h.output, Nat.le_trans h.size hg.size, fun k hk => by
    rw [hg.block k (by omega) (fun e => by have := hr k e.symm; omega)]
    exact h.block k hk⟩

theorem Buf.below (h : Buf base w g n cap t) (hb : Below w.heap.size w W) : Buf base W g n cap t := ⟨h.1, owns_below h.2 hb⟩
theorem Buf.alloc (h : Buf base w g n cap t) (o : Obj) : Buf base (w.alloc o) g n cap t := h.below ((Below.refl _ _).alloc (Nat.le_refl _) o)
theorem Buf.drew (h : Buf base w g n cap t) : Buf base w.drew g n cap t := h
theorem Buf.drewN (h : Buf base w g n cap t) (m : Nat) : Buf base (w.drewN m) g n cap t := h

theorem Buf.lt (h : Buf base w g n cap t) : base ≤ g ∧ g < w.heap.size := h.2.lt g rfl

theorem Buf.holds (h : Buf base w g n cap t) : B0.Holds w g 0 t.data.toList := by
  intro j hj
  have hj' : j < t.size := by rw [Lib.size_eq]; exact hj
  have := h.2.cells (g := g) rfl j (.int .u8 (t.data.toList[j].toNat : Int)) (by
    have hj2 : j < t.data.size := by simpa using hj
    simp [Lib.strCells]
    exact ⟨_, Array.getElem?_eq_getElem hj2, rfl⟩)
  rw [B0.add_off] at this
  exact this

/-- The row as a string. -/
theorem Buf.conv (h : Buf base w g n cap t) : (convert 92 9 (.slice (some ⟨g, 0, none⟩) n cap)).run Try.prog w = .ok (.string t) w := by
  have := B0.conv_back (P := Try.prog) w 92 9 5 g 0 cap t.data.toList Try.underlying92 Try.underlying5 Try.underlying9 h.holds n (by rw [h.1, Lib.size_eq])
  rwa [Lib.mk_data] at this

/-- A new row of two bytes. -/
theorem buf_two (w : World) (x y : Int) (hx : 0 ≤ x ∧ x < 256) (hy : 0 ≤ y ∧ y < 256) (hb : base ≤ w.heap.size) :
    Buf base (w.alloc (.cells #[.int .u8 x, .int .u8 y] 5)) w.heap.size 2 2 ⟨#[UInt8.ofNat x.toNat, UInt8.ofNat y.toNat]⟩ := by
  have e1 : x.toNat < 256 := by omega
  have e2 : y.toNat < 256 := by omega
  refine ⟨rfl, by simp [Lib.strCells], Or.inr ⟨w.heap.size, 2, #[.int .u8 x, .int .u8 y], rfl, hb, heap_alloc_new w _, Nat.le_refl _, by unfold maxLen; omega, rfl, ?_⟩⟩
  simp [Lib.strCells, Nat.mod_eq_of_lt e1, Nat.mod_eq_of_lt e2]
  omega

theorem Buf.at (h : Buf base w g n cap t) {g' : Nat} (e : g = g') : Buf base w g' n cap t := e ▸ h

/-- A new row without bytes, with room. -/
theorem buf_none (w : World) (C : Array Value) (cap : Nat) (hc : C.size = cap) (hm : cap ≤ maxLen) (hb : base ≤ w.heap.size) : Buf base (w.alloc (.cells C 5)) w.heap.size 0 cap ⟨#[]⟩ :=
  ⟨rfl, World.ownsRow_made w C cap hb hm (by omega)⟩

theorem cells_append (t s : ByteArray) : Lib.strCells t ++ Lib.strCells s = Lib.strCells (t ++ s) := by simp [Lib.strCells, ByteArray.data_append]

/-- 'room = append(room, s...)', s a string. -/
theorem append_text {ops : Array Oper} {rest : List Oper} {o : Oper} {a : Act} {Q : Exit → Act → World → Prop} (hgd : o.guard = none) (sl x : Operand)
    (ho : o.op = .call { callee := .builtin .append, args := #[sl, x], argTypes := #[92, 9] })
    (hbuf : Buf base w g n cap t) (s : ByteArray) (hs : a.eval sl = .slice (some ⟨g, 0, none⟩) n cap) (hx : a.eval x = .string s) (hlen : n + s.size ≤ 140737488355328) (hb : base ≤ w.heap.size)
    (h : ∀ g' cap' w', Buf base w' g' (n + s.size) cap' (t ++ s) → Below base w w' → wpList Try.prog ops Q rest (a.put o.dst (.slice (some ⟨g', 0, none⟩) (n + s.size) cap')) w') : wpList Try.prog ops Q (o :: rest) a w := by
  obtain ⟨i0, hi, hz0, hz1, hz2⟩ := info_parts info5
  refine Lib.wpList_append_own_string w hgd sl x 92 9 ho base 5 i0 Try.underlying92 Try.underlying9 hi hz0 hz1 hz2 _ n _ hs hbuf.2 s hx (by unfold maxLen; omega) hlen hb ?_
  intro v' w' ho' hg' hnil
  rcases ho'.2 with ⟨h0, _⟩ | ⟨g', cap', cur, hv, r⟩
  · exact absurd ((hnil.1 h0).1) (by simp)
  · subst hv
    refine h g' cap' w' ⟨by rw [hbuf.1, ByteArray.size_append], ?_⟩ ?_
    · rw [← cells_append]
      exact ho'
    · exact below_grown (Below.refl _ _) hg' (fun k hk => by
        have hk' : g = k := by simpa [Value.ownBlock] using hk
        exact hk' ▸ hbuf.lt.1) hb

theorem one_byte (c : Int) : ∀ u ∈ [Value.int .u8 c], u.oneCell' = true := by
  intro u h
  simp at h
  subst h
  rfl

/-- 'room = append(room, c)'. -/
theorem append_byte {ops : Array Oper} {rest : List Oper} {o : Oper} {a : Act} {Q : Exit → Act → World → Prop} (hgd : o.guard = none) (sl x : Operand)
    (ho : o.op = .call { callee := .builtin .append, args := #[sl, x], argTypes := #[92, 92] })
    (hbuf : Buf base w g n cap t) (c : Int) (hc : 0 ≤ c ∧ c < 256) (hs : a.eval sl = .slice (some ⟨g, 0, none⟩) n cap) (hx : a.eval x = .slice (some ⟨w.heap.size, 0, none⟩) 1 1) (hlen : n + 1 ≤ 140737488355328) (hb : base ≤ w.heap.size)
    (h : ∀ g' cap' w', Buf base w' g' (n + 1) cap' (t ++ ⟨#[UInt8.ofNat c.toNat]⟩) → Below base w w' → wpList Try.prog ops Q rest (a.put o.dst (.slice (some ⟨g', 0, none⟩) (n + 1) cap')) w') : wpList Try.prog ops Q (o :: rest) a (w.alloc (.cells #[.int .u8 c] 5)) := by
  obtain ⟨i0, hi, hz0, hz1, hz2⟩ := info_parts info5
  have hb2 := hbuf.alloc (.cells #[.int .u8 c] 5)
  refine wpList_append_lies _ hgd sl x 92 ho base 5 i0 (.int .u8 0) 1 1 Try.underlying92 hi hz0 hz1 hz2 rfl (by omega) _ n _ hs hb2.2 ⟨w.heap.size, 0, none⟩ 1 1 [.int .u8 c] hx rfl (World.news_of_block (heap_alloc_new w _)) (one_byte c) (by omega) (by unfold maxLen; omega) (by omega) (by simp; omega) _ rfl ?_
  intro g' cap' w' ho' hg' _ _
  have e1 : c.toNat < 256 := by omega
  refine h g' cap' w' ⟨by rw [hbuf.1, ByteArray.size_append]; rfl, ?_⟩ ?_
  · rw [← cells_append]
    have e : Lib.strCells ⟨#[UInt8.ofNat c.toNat]⟩ = [.int .u8 c] := by
      simp [Lib.strCells, Nat.mod_eq_of_lt e1]
      omega
    rw [e]
    exact ho'
  · exact below_grown ((Below.refl _ _).alloc hb _) hg' (fun k hk => by
      have hk' : g = k := by simpa [Value.ownBlock] using hk
      exact hk' ▸ hbuf.lt.1) (by simp; omega)
end Go.Proofs.Ytddlpejklpljoaa.F0

/- Contracts of impl.PutDir and spec.PutDir, as the given laws call them. -/
namespace Go.Proofs.Ytddlpejklpljoaa.T2
open Go.ChangeShapes Go.WideShapes Go.ChangeAt Go.RowKit
set_option linter.unusedVariables false
set_option linter.unusedSimpArgs false
set_option maxRecDepth 10000

theorem ret_str {a b : ByteArray} (h : a = b) : Ending.returned (.string a) = .returned (.string b) := by rw [h]

theorem makeRoom (n : Nat) (hn : n ≤ 12) : ∃ C : Array Value, C.size = n * 16 ∧ ∀ W : World, (Instr.makeSlice 92 (.int .i64 0) (.int .i64 ((n : Int) * 16))).run Try.prog W = .ok (.slice (some ⟨W.heap.size, 0, none⟩) 0 (n * 16)) (W.alloc (.cells C 5)) := by
  obtain ⟨i0, hi, hz0, hz1, hz2⟩ := info_parts F0.info5
  refine ⟨madeCells (Value.int .u8 0).cells ((n * 16) * i0.size), ?_, fun W => ?_⟩
  · have : (madeCells (Value.int .u8 0).cells ((n * 16) * i0.size)).toList.length = n * 16 := by
      rw [show (Value.int .u8 0).cells = #[Value.int .u8 0] from rfl, toList_madeCells_one, hz1]
      simp
    simpa using this
  · have h := run_make (P := Try.prog) W 92 5 i0 (.int .u8 0) Try.underlying92 hi hz0 .i64 .i64 0 ((n : Int) * 16) (by omega) (by omega) (by rw [hz2]; omega) (by omega)
    rw [show ((n : Int) * 16).toNat = n * 16 by omega] at h
    exact h

theorem dir_lit {a : Option Addr} {c : Nat} {es : List T0.Ent} {W : World} {r : Bool} (hbig : es.length ≤ 1048576) (hcap : es.length ≤ c) (hfit : T0.Fits es) (hR : T0.Row W a es) (hr : T0.dirOk es = r) :
    Calls Try.prog 96 #[.slice a es.length c] W fun e w' => e = .returned (.bool r) ∧ Below W.heap.size W w' := (T1.dirOk a c es W hbig hcap hfit hR).mono fun _ _ h => ⟨by rw [h.1, hr], h.2⟩

end Go.Proofs.Ytddlpejklpljoaa.T2

/- The contract of spec.PutDir, as the given laws call it. -/
namespace Go.Proofs.Ytddlpejklpljoaa.T3
open Go.ChangeShapes Go.WideShapes Go.ChangeAt Go.RowKit
set_option linter.unusedVariables false
set_option linter.unusedSimpArgs false
set_option maxRecDepth 10000

open T2 (ret_str)

theorem putE_empty {i : Int} {s : ByteArray} (h : E0.entryOk i s = false) : (E0.putE i s).toList.isEmpty = true := by
  rw [E0.putE, if_neg (by rw [h]; decide), Lib.toList_data]
  rfl
theorem putE_full {i : Int} {s : ByteArray} (h : E0.entryOk i s = true) : (E0.putE i s).toList.isEmpty = false := by
  have := T0.putE_size16 h
  rw [Lib.toList_data]
  cases hl : (E0.putE i s).data.toList with
  | nil => rw [Lib.size_eq, hl] at this; simp at this
  | cons x r => rfl

set_option maxHeartbeats 4000000 in
theorem spec_PutDir (a : Option Addr) (c : Nat) (es : List T0.Ent) (w : World) (hbig : es.length ≤ 1048576) (hcap : es.length ≤ c) (hfit : T0.Fits es) (hR : T0.Row w a es) :
    Calls Try.prog 73 #[.slice a es.length c] w fun e w' => e = .returned (.string (T0.putD es)) ∧ Below w.heap.size w w' := by
  have HB : Hid (∀ k, k < es.length → T0.okAt es k = false → T0.putD es = ⟨#[]⟩) := fun k hk h => by rw [T0.putD, T0.dirOk_bad hk h]; rfl
  have HL : Hid (12 < es.length → T0.putD es = ⟨#[]⟩) := fun h => by rw [T0.putD, T0.dirOk, decide_eq_false (by omega : ¬ es.length ≤ 12)]; rfl
  have HY : Hid (es.length ≤ 12 → T0.okUpto es es.length = true → T0.putD es = T0.joined es es.length) := fun h1 h2 => by rw [T0.putD, T0.dirOk, decide_eq_true h1, h2]; rfl
  go_enter Try.func73, Try.ntmps73
  go_wp2
  go_loopw [3, 4] (fun t i w' => ∃ j : Nat, j ≤ es.length ∧ (j = 0 ∨ es.length ≤ 12) ∧ T0.okUpto es j = true ∧ i = .int .i64 j ∧ t = .string (T0.joined es j) ∧ Below w.heap.size w w') (fun _ i _ => es.length - (intOf i).toNat)
  case atStart => exact ⟨0, Nat.zero_le _, Or.inl rfl, rfl, rfl, rfl, Below.refl _ _⟩
  case round =>
    obtain ⟨j, hj, h12, hok, rfl, rfl, hbel⟩ := hrel
    by_cases hlt : j < es.length
    · obtain ⟨b, off, rfl, hlt0, hc⟩ := (hR.below hbel).get hlt
      have y1 := (hc j hlt).1
      have y2 := (hc j hlt).2
      have hs := T0.okUpto_succ es j
      have hat : T0.okAt es j = (E0.entryOk (T0.ent es j).1 (T0.ent es j).2 && !(T0.taken (es.take j) (T0.ent es j))) := rfl
      have hf := hfit j hlt
      have hu : T0.joined es (j + 1) = T0.joined es j ++ E0.putE (T0.ent es j).1 (T0.ent es j).2 := rfl
      have hjs := T0.joined_size hok j (Nat.le_refl _)
      have hbad := HB.out j hlt
      have hin := fun k (hk : k < j) => T0.taken_of (es := es) (e := T0.ent es j) hk hj
      have hts := fun k (hk : k < es.length) => T0.taken_succ es k (T0.ent es j) hk
      obtain ⟨z, ez⟩ : ∃ z, T0.ent es j = z := ⟨_, rfl⟩
      rw [ez] at y1 y2 hat hf hu hin hts
      obtain ⟨u, v⟩ := z
      simp only at y1 y2 hat hf hu
      have e1 : (0 : Int) ≤ (j : Int) := by omega
      have e2 : (j : Int) < (es.length : Int) := by omega
      clear ez hR hfit HB
      go_wp2
      go_loopw [5] (fun i w' => ∃ k m : Nat, k ≤ j ∧ T0.taken (es.take k) (u, v) = false ∧ i = .int .i64 k ∧ w' = wr.drewN m) (fun i _ => j - (intOf i).toNat)
      case atStart => exact ⟨0, 0, Nat.zero_le _, rfl, rfl, rfl⟩
      case round =>
        obtain ⟨k, m, hk, hno, rfl, hW⟩ := hrel
        have x1 : wr.cell? ⟨b, off + j * 2, none⟩ = some (.int .i64 u) := by rw [hW]; exact y1
        have x2 : wr.cell? ⟨b, off + j * 2 + 1, none⟩ = some (.string v) := by rw [hW]; exact y2
        have HW : Below w.heap.size w wr := by rw [hW]; exact K0.below_drewN hbel m
        have HD : Hid (wr = _) := hW
        by_cases hlk : k < j
        · have x3 : wr.cell? ⟨b, off + k * 2, none⟩ = some (.int .i64 (T0.ent es k).1) := by rw [hW]; exact (hc k (by omega)).1
          have x4 : wr.cell? ⟨b, off + k * 2 + 1, none⟩ = some (.string (T0.ent es k).2) := by rw [hW]; exact (hc k (by omega)).2
          have hin1 := hin k hlk
          have hts1 := hts k (by omega)
          obtain ⟨z, ez⟩ : ∃ z, T0.ent es k = z := ⟨_, rfl⟩
          rw [ez] at x3 x4 hin1 hts1
          obtain ⟨p, q⟩ := z
          simp only at x3 x4
          have f1 : (0 : Int) ≤ (k : Int) := by omega
          have f2 : (k : Int) < (es.length : Int) := by omega
          have f3 : (k : Int) < (j : Int) := by omega
          clear ez hc y1 y2 hW hin hts
          by_cases h1 : (q.toList == v.toList) = true
          · have HR : Hid (T0.putD es = ⟨#[]⟩) := hbad (by rw [hat, hin1 (by rw [T0.clash, h1]; rfl), Bool.not_true, Bool.and_false])
            clear hin1 hts1 hat hbad hs hok hu
            go_wp2
            go_quiet (fail)
            go_wp2
            go_ret
            exact ⟨ret_str HR.out.symm, K0.below_drewN HW _⟩
          · have h1' : (q.toList == v.toList) = false := by simpa using h1
            by_cases h2 : (p == u) = true
            · have HR : Hid (T0.putD es = ⟨#[]⟩) := hbad (by rw [hat, hin1 (by rw [T0.clash, h1', h2]; rfl), Bool.not_true, Bool.and_false])
              clear hin1 hts1 hat hbad hs hok hu h1
              go_wp2
              go_quiet (fail)
              go_wp2
              go_ret
              exact ⟨ret_str HR.out.symm, K0.below_drewN HW _⟩
            · have h2' : (p == u) = false := by simpa using h2
              have HN : Hid (T0.taken (es.take (k + 1)) (u, v) = false) := by rw [hts1, hno, T0.clash, h1', h2']; rfl
              clear hin1 hts1 hat hbad hs hok hu h1 h2 hno
              go_wp2
              go_quiet (fail)
              go_wp2
              go_roundw
              case rel => exact ⟨k + 1, m + nq, by omega, HN.out, by go_num, by rw [HD.out, World.drewN_drewN]⟩
              case measure => simp [intOf]; omega
        · obtain rfl : k = j := by omega
          clear hc y1 y2 hW HD hin hts
          by_cases hE : E0.entryOk u v = true
          · have g1 := putE_full hE
            have hps := T0.putE_size16 hE
            by_cases hl : 12 < es.length
            · have HR : Hid (T0.putD es = ⟨#[]⟩) := HL.out hl
              have hl' : 12 < (es.length : Int) := by omega
              clear hat hbad hs hok hu hno
              go_wp2_with (go_at_call 90; refine (E2.spec_PutEntry u v _ hf).mono ?_; rintro e w2 ⟨rfl, b2⟩)
              go_ret
              exact ⟨ret_str HR.out.symm, HW.trans (b2.mono HW.size)⟩
            · have hl' : ¬ 12 < (es.length : Int) := by omega
              have hl'' : decide (12 < (es.length : Int)) = false := by simpa using hl'
              have HO : Hid (T0.okUpto es (k + 1) = true) := by rw [hs, hok, hat, hE, hno]; rfl
              have HU : Hid (T0.joined es (k + 1) = T0.joined es k ++ E0.putE u v) := hu
              have zz : (T0.joined es k).size + (E0.putE u v).size ≤ 9223372036854775807 := by omega
              have zz2 : 16 * k + 16 ≤ 9223372036854775807 := by omega
              clear hat hbad hs hok hu hno
              go_wp2_with (go_at_call 90; refine (E2.spec_PutEntry u v _ hf).mono ?_; rintro e w2 ⟨rfl, b2⟩)
              go_roundw
              case rel => exact ⟨k + 1, by omega, Or.inr (by omega), HO.out, by go_num, by rw [HU.out], HW.trans (b2.mono HW.size)⟩
              case measure => simp [intOf]; omega
          · have hE' : E0.entryOk u v = false := by simpa using hE
            have g1 := putE_empty hE'
            have HR : Hid (T0.putD es = ⟨#[]⟩) := hbad (by rw [hat, hE']; rfl)
            clear hat hbad hs hok hu hno
            go_wp2_with (go_at_call 90; refine (E2.spec_PutEntry u v _ hf).mono ?_; rintro e w2 ⟨rfl, b2⟩)
            go_ret
            exact ⟨ret_str HR.out.symm, HW.trans (b2.mono HW.size)⟩
    · obtain rfl : j = es.length := by omega
      have HP : Hid (T0.putD es = T0.joined es es.length) := by
        show T0.putD es = T0.joined es es.length
        rcases h12 with h | h
        · exact HY.out (by omega) hok
        · exact HY.out h hok
      clear hok hR hfit h12 HB HL HY
      go_wp2
      go_ret
      exact ⟨ret_str HP.out.symm, hbel⟩
end Go.Proofs.Ytddlpejklpljoaa.T3

/- Entries among a law's arguments; contracts of laws.szEntryS, laws.toEntryS and laws.eqEntryS. -/
namespace Go.Proofs.Ytddlpejklpljoaa.T4
open Go.ChangeShapes Go.WideShapes Go.ChangeAt Go.RowKit Go.Joins Go.Deep
set_option linter.unusedVariables false
set_option linter.unusedSimpArgs false
set_option maxRecDepth 10000

def num : Value → Int
  | .int _ z => z
  | _ => 0
def txt : Value → ByteArray
  | .string s => s
  | _ => ⟨#[]⟩

/-- All names fit. -/
def FitsM (es : List T0.Ent) : Prop := ∀ j, j < es.length → (T0.ent es j).2.size ≤ maxLen

section Args
variable {H : Type} {enc : TypeId × Value → H} {w : World}

end Args

/-- The names' sizes, all together. -/
def sum (es : List T0.Ent) : Nat → Nat
  | 0 => 0
  | k + 1 => sum es k + (T0.ent es k).2.size

theorem sum_mono (es : List T0.Ent) (k : Nat) : ∀ m, sum es k ≤ sum es (k + m)
  | 0 => Nat.le_refl _
  | m + 1 => Nat.le_trans (sum_mono es k m) (Nat.le_add_right _ _)

theorem sum_le {es : List T0.Ent} {k n : Nat} (h : k ≤ n) : sum es k ≤ sum es n := by
  have := sum_mono es k (n - k)
  rwa [show k + (n - k) = n by omega] at this

theorem fits_of {es : List T0.Ent} (h : es.length + sum es es.length ≤ 1048576) : T0.Fits es := fun j hj => by
  have h1 := sum_le (es := es) (k := j + 1) (n := es.length) (by omega)
  have h2 : sum es (j + 1) = sum es j + (T0.ent es j).2.size := rfl
  omega

/-- What is left of 2^20; -1 where nothing is. -/
def left (es : List T0.Ent) : Int := if es.length + sum es es.length ≤ 1048576 then 1048576 - (es.length : Int) - (sum es es.length : Int) else -1

theorem ret_int {k : IntKind} {a b : Int} (h : a = b) : Ending.returned (.int k a) = .returned (.int k b) := by rw [h]

end Go.Proofs.Ytddlpejklpljoaa.T4
