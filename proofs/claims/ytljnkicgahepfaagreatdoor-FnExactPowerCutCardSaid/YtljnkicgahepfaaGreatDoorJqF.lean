/- Joined texts: plain facts and contracts. -/
import Derived.Test.YtljnkicgahepfaaGreatDoorJqE
import Derived.Test.YtljnkicgahepfaaGreatDoorJqA
import Derived.Test.YtljnkicgahepfaaGreatDoorJqB
import Derived.Test.YtljnkicgahepfaaGreatDoorJqD
import Derived.Deep.QuietTactic
import Derived.BigQuiet
set_option linter.unusedVariables false
set_option linter.unusedSimpArgs false
set_option maxRecDepth 10000
namespace Go.Proofs.YtljnkicgahepfaaGreatDoor.E4
open Go.ChangeShapes Go.WideShapes Go.ChangeAt Go.RowKit
def ino (s : ByteArray) : Int := B1.byteAt s 0
def name (s : ByteArray) : ByteArray := B2.part s 2 (B1.byteAt s 1)
def isE (s : ByteArray) : Bool := decide (s.size = 16) && ((E0.putE (ino s) (name s)).toList == s.toList)
def eIno (s : ByteArray) : Int := if isE s then ino s else 0
def eName (s : ByteArray) : ByteArray := if isE s then name s else ⟨#[]⟩
def getE (s : ByteArray) : Value := .tuple #[.agg #[.int .i64 (eIno s), .string (eName s)], .bool (isE s)]
theorem wf_of (n : Int) (h0 : -9223372036854775808 ≤ n) (h1 : n ≤ 9223372036854775807) : (Lit.int .i64 n).wf = true := by
 simp [Lit.wf, IntKind.min, IntKind.max, IntKind.signed, IntKind.bits]
 omega
theorem byteAt_lt (s : ByteArray) (i : Int) : 0 ≤ B1.byteAt s i ∧ B1.byteAt s i < 256 := by
 unfold B1.byteAt
 split
 ·rename_i h
  have := (s[i.toNat]'(by omega)).toNat_lt
  omega
 ·omega
theorem getE_no {s : ByteArray} (h : isE s = false) : getE s = .tuple #[.agg #[.int .i64 0, .string ⟨#[]⟩], .bool false] := by simp [getE, eIno, eName, h]
theorem getE_yes {s : ByteArray} (h : isE s = true) : getE s = .tuple #[.agg #[.int .i64 (ino s), .string (name s)], .bool true] := by simp [getE, eIno, eName, h]
structure Two (w : World) (B : Nat) (a : Int) (b : ByteArray) (W : World) : Prop where
 n : K0.Blk w.heap.size [.int .i64 0, .string ⟨#[]⟩] W
 m : K0.Blk B [.int .i64 a, .string b] W
 ne : w.heap.size < B
 bel : Below w.heap.size w W
theorem Two.below {w W W' : World} {B : Nat} {a : Int} {b : ByteArray} (h : Two w B a b W) (hb : Below W.heap.size W W') : Two w B a b W' := ⟨h.n.below hb, h.m.below hb, h.ne, h.bel.trans (hb.mono (Nat.le_of_lt h.n.lt))⟩
theorem two_new (w w1 : World) (a : Int) (b : ByteArray) (h : Below (w.alloc (.cells #[.int .i64 0, .string ⟨#[]⟩] 188)).heap.size (w.alloc (.cells #[.int .i64 0, .string ⟨#[]⟩] 188)) w1) :
  Two w w1.heap.size a b (w1.alloc (.cells #[.int .i64 a, .string b] 188)) := by
 have hs := h.size
 simp at hs
 exact ⟨((K0.blk_new [.int .i64 0, .string ⟨#[]⟩] w 188).below h).alloc _, K0.blk_new [.int .i64 a, .string b] w1 188, by omega, (((Below.refl _ _).alloc (Nat.le_refl _) _).trans (h.mono (by simp))).alloc (by omega) _⟩
theorem two_first (w : World) (a : Int) (b : ByteArray) : Two w (w.heap.size + 1) a b ((w.alloc (.cells #[.int .i64 0, .string ⟨#[]⟩] 188)).alloc (.cells #[.int .i64 a, .string b] 188)) := by
 have h := two_new w _ a b (Below.refl _ _)
 simpa using h
theorem ret_val {v u : Value} (h : v = u) : Ending.returned v = .returned u := by rw [h]
set_option maxHeartbeats 1000000 in
theorem spec_GetEntry (s : ByteArray) (w : World) (hs : s.size ≤ 281474976710656) :
  Calls Tryz.prog 232 #[.string s] w fun e w' => e = .returned (getE s) ∧ Below w.heap.size w w' := by
 have hm : s.size ≤ maxLen := by unfold maxLen; omega
 have k0 := byteAt_lt s 0
 have k1 := byteAt_lt s 1
 have hn : (B2.part s 2 (B1.byteAt s 1)).size ≤ 281474976710656 := by have := B2.part_size s 2 (B1.byteAt s 1); omega
 have v2 : (Lit.int .i64 2).wf = true := by decide
 have v1 := wf_of (B1.byteAt s 1) (by omega) (by omega)
 have t1 := two_first w (B1.byteAt s 0) (B2.part s 2 (B1.byteAt s 1))
 by_cases h16 : s.size = 16
 ·have g16 : ((s.size : Int) != 16) = false := by simp; omega
  by_cases hP : ((E0.putE (B1.byteAt s 0) (B2.part s 2 (B1.byteAt s 1))).toList == s.toList) = true
  ·have HR : Hid (getE s = .tuple #[.agg #[.int .i64 (B1.byteAt s 0), .string (B2.part s 2 (B1.byteAt s 1))], .bool true]) := getE_yes (by rw [isE, ino, name, hP, decide_eq_true h16]; rfl)
   go_enter Tryz.func232, Tryz.ntmps232
   go_wp2_with (first
    | (go_at_call 229; refine (B1.spec_ByteAt _ _ _ hm).mono ?_; rintro e w' ⟨rfl, rfl⟩)
    | (go_at_call 76; refine (B2.spec_Part _ _ _ _ hm v2 v1).mono ?_; rintro e w' ⟨rfl, rfl⟩)
    | (go_at_call 226; refine (E2.spec_PutEntry _ _ _ hn).mono ?_; rintro e w2 ⟨rfl, b2⟩; have t2 := t1.below b2; have c0 := t2.n.c0; have c1 := t2.n.c1; have f0 := t2.n.f0; have f1 := t2.n.f1; have d0 := t2.m.c0; have d1 := t2.m.c1))
   have q := t2.n.put2 (.int .i64 (B1.byteAt s 0)) (.string (B2.part s 2 (B1.byteAt s 1)))
   exact bodyPost_ret (v := .tuple #[.agg #[.int .i64 (B1.byteAt s 0), .string (B2.part s 2 (B1.byteAt s 1))], .bool true]) (by simp [results, Tryz.results232, go_sem, q.c0, q.c1]) rfl
    ⟨ret_val HR.out.symm, (t2.bel.setCell (p := ⟨w.heap.size, 0, none⟩) (Nat.le_refl _) _).setCell (p := ⟨w.heap.size, 1, none⟩) (Nat.le_refl _) _⟩
  ·have hP' : ((E0.putE (B1.byteAt s 0) (B2.part s 2 (B1.byteAt s 1))).toList == s.toList) = false := by simpa using hP
   have HR : Hid (getE s = .tuple #[.agg #[.int .i64 0, .string ⟨#[]⟩], .bool false]) := getE_no (by rw [isE, ino, name, hP', Bool.and_false])
   clear hP
   go_enter Tryz.func232, Tryz.ntmps232
   go_wp2_with (first
    | (go_at_call 229; refine (B1.spec_ByteAt _ _ _ hm).mono ?_; rintro e w' ⟨rfl, rfl⟩)
    | (go_at_call 76; refine (B2.spec_Part _ _ _ _ hm v2 v1).mono ?_; rintro e w' ⟨rfl, rfl⟩)
    | (go_at_call 226; refine (E2.spec_PutEntry _ _ _ hn).mono ?_; rintro e w2 ⟨rfl, b2⟩; have t2 := t1.below b2; have c0 := t2.n.c0; have c1 := t2.n.c1; have f0 := t2.n.f0; have f1 := t2.n.f1; have d0 := t2.m.c0; have d1 := t2.m.c1))
   have q := t2.n.put2 (.int .i64 0) (.string ⟨#[]⟩)
   exact bodyPost_ret (v := .tuple #[.agg #[.int .i64 0, .string ⟨#[]⟩], .bool false]) (by simp [results, Tryz.results232, go_sem, q.c0, q.c1]) rfl
    ⟨ret_val HR.out.symm, (t2.bel.setCell (p := ⟨w.heap.size, 0, none⟩) (Nat.le_refl _) _).setCell (p := ⟨w.heap.size, 1, none⟩) (Nat.le_refl _) _⟩
 ·have g16 : ((s.size : Int) != 16) = true := by simp; omega
  have HR : Hid (getE s = .tuple #[.agg #[.int .i64 0, .string ⟨#[]⟩], .bool false]) := getE_no (by rw [isE, decide_eq_false h16, Bool.false_and])
  have c0 := t1.n.c0
  have c1 := t1.n.c1
  have q := t1.n.put2 (.int .i64 0) (.string ⟨#[]⟩)
  go_enter Tryz.func232, Tryz.ntmps232
  go_wp2_with (first
   | (go_at_call 229; refine (B1.spec_ByteAt _ _ _ hm).mono ?_; rintro e w' ⟨rfl, rfl⟩)
   | (go_at_call 76; refine (B2.spec_Part _ _ _ _ hm v2 v1).mono ?_; rintro e w' ⟨rfl, rfl⟩))
  refine bodyPost_ret (v := .tuple #[.agg #[.int .i64 0, .string ⟨#[]⟩], .bool false]) (by simp [results, Tryz.results232, go_sem, q.c0, q.c1]) rfl
   ⟨ret_val HR.out.symm, ?_⟩
  go_grown
set_option maxHeartbeats 1000000 in
theorem impl_GetEntry (s : ByteArray) (w : World) (hs : s.size ≤ 281474976710656) :
  Calls Tryz.prog 248 #[.string s] w fun e w' => e = .returned (getE s) ∧ Below w.heap.size w w' := by
 have hm : s.size ≤ maxLen := by unfold maxLen; omega
 have hn : (B2.part s 2 (B1.byteAt s 1)).size ≤ 281474976710656 := by have := B2.part_size s 2 (B1.byteAt s 1); omega
 by_cases h16 : s.size = 16
 ·have g16 : ((s.size : Int) != 16) = false := by simp; omega
  by_cases hP : ((E0.putE (B1.byteAt s 0) (B2.part s 2 (B1.byteAt s 1))).toList == s.toList) = true
  ·have HR : Hid (getE s = .tuple #[.agg #[.int .i64 (B1.byteAt s 0), .string (B2.part s 2 (B1.byteAt s 1))], .bool true]) := getE_yes (by rw [isE, ino, name, hP, decide_eq_true h16]; rfl)
   go_enter Tryz.func248, Tryz.ntmps248
   go_wp2_with (first
    | (go_at_call 289; refine (B1.impl_ByteAt _ _ _ hm).mono ?_; rintro e w' ⟨rfl, rfl⟩)
    | (go_at_call 82; refine (B2.impl_Part _ _ _ _ hs).mono ?_; rintro e w1 ⟨rfl, b1⟩; have t1 := two_new w w1 (B1.byteAt s 0) (B2.part s 2 (B1.byteAt s 1)) b1)
    | (go_at_call 295; refine (E2.impl_PutEntry _ _ _ hn).mono ?_; rintro e w2 ⟨rfl, b2⟩; have t2 := t1.below b2; have c0 := t2.n.c0; have c1 := t2.n.c1; have f0 := t2.n.f0; have f1 := t2.n.f1; have d0 := t2.m.c0; have d1 := t2.m.c1))
   have q := t2.n.put2 (.int .i64 (B1.byteAt s 0)) (.string (B2.part s 2 (B1.byteAt s 1)))
   exact bodyPost_ret (v := .tuple #[.agg #[.int .i64 (B1.byteAt s 0), .string (B2.part s 2 (B1.byteAt s 1))], .bool true]) (by simp [results, Tryz.results248, go_sem, q.c0, q.c1]) rfl
    ⟨ret_val HR.out.symm, (t2.bel.setCell (p := ⟨w.heap.size, 0, none⟩) (Nat.le_refl _) _).setCell (p := ⟨w.heap.size, 1, none⟩) (Nat.le_refl _) _⟩
  ·have hP' : ((E0.putE (B1.byteAt s 0) (B2.part s 2 (B1.byteAt s 1))).toList == s.toList) = false := by simpa using hP
   have HR : Hid (getE s = .tuple #[.agg #[.int .i64 0, .string ⟨#[]⟩], .bool false]) := getE_no (by rw [isE, ino, name, hP', Bool.and_false])
   clear hP
   go_enter Tryz.func248, Tryz.ntmps248
   go_wp2_with (first
    | (go_at_call 289; refine (B1.impl_ByteAt _ _ _ hm).mono ?_; rintro e w' ⟨rfl, rfl⟩)
    | (go_at_call 82; refine (B2.impl_Part _ _ _ _ hs).mono ?_; rintro e w1 ⟨rfl, b1⟩; have t1 := two_new w w1 (B1.byteAt s 0) (B2.part s 2 (B1.byteAt s 1)) b1)
    | (go_at_call 295; refine (E2.impl_PutEntry _ _ _ hn).mono ?_; rintro e w2 ⟨rfl, b2⟩; have t2 := t1.below b2; have c0 := t2.n.c0; have c1 := t2.n.c1; have f0 := t2.n.f0; have f1 := t2.n.f1; have d0 := t2.m.c0; have d1 := t2.m.c1))
   have q := t2.n.put2 (.int .i64 0) (.string ⟨#[]⟩)
   exact bodyPost_ret (v := .tuple #[.agg #[.int .i64 0, .string ⟨#[]⟩], .bool false]) (by simp [results, Tryz.results248, go_sem, q.c0, q.c1]) rfl
    ⟨ret_val HR.out.symm, (t2.bel.setCell (p := ⟨w.heap.size, 0, none⟩) (Nat.le_refl _) _).setCell (p := ⟨w.heap.size, 1, none⟩) (Nat.le_refl _) _⟩
 ·have g16 : ((s.size : Int) != 16) = true := by simp; omega
  have HR : Hid (getE s = .tuple #[.agg #[.int .i64 0, .string ⟨#[]⟩], .bool false]) := getE_no (by rw [isE, decide_eq_false h16, Bool.false_and])
  go_enter Tryz.func248, Tryz.ntmps248
  go_wp2
  refine bodyPost_ret (v := .tuple #[.agg #[.int .i64 0, .string ⟨#[]⟩], .bool false]) (by simp [results, Tryz.results248, go_sem]) rfl
   ⟨ret_val HR.out.symm, ?_⟩
  go_grown
end Go.Proofs.YtljnkicgahepfaaGreatDoor.E4
namespace Go.Proofs.YtljnkicgahepfaaGreatDoor.V0
open Go
def chunk (s : ByteArray) (j : Nat) : ByteArray := B2.part s ((j : Int) * 16) 16
def ents (s : ByteArray) (k : Nat) : List T0.Ent := (List.range k).map fun (j : Nat) => (E4.eIno (chunk s j), E4.eName (chunk s j))
theorem ents_length (s : ByteArray) (k : Nat) : (ents s k).length = k := by simp [ents]
theorem ents_succ (s : ByteArray) (k : Nat) : ents s k ++ [(E4.eIno (chunk s k), E4.eName (chunk s k))] = ents s (k + 1) := by simp [ents, List.range_succ]
theorem ents_get (s : ByteArray) (k j : Nat) (h : j < k) : T0.ent (ents s k) j = (E4.eIno (chunk s j), E4.eName (chunk s j)) := by
 rw [T0.ent_get _ _ (by rw [ents_length]; exact h)]
 simp [ents]
def cnt (s : ByteArray) : Nat := min ((s.size + 15) / 16) 13
def isD (s : ByteArray) : Bool := decide (s.size = 0) || ((T0.putD (ents s (cnt s))).toList == s.toList)
def dE (s : ByteArray) : List T0.Ent := if isD s then ents s (cnt s) else []
theorem toList_eq {a b : ByteArray} (h : a.toList = b.toList) : a = b := by
 rw [Lib.toList_data, Lib.toList_data] at h
 exact ByteArray.ext (Array.toList_inj.1 h)
theorem chunk_eq (s : ByteArray) (j : Nat) (h : (j + 1) * 16 ≤ s.size) : chunk s j = s.extract (j * 16) (j * 16 + 16) := by
 rw [chunk, B2.part, show B2.lies s.size ((j : Int) * 16) 16 = true from decide_eq_true (by omega), if_pos rfl, show ((j : Int) * 16).toNat = j * 16 by omega, show ((j : Int) * 16 + 16).toNat = j * 16 + 16 by omega]
theorem isE_eq {x : ByteArray} (h : E4.isE x = true) : E0.putE (E4.eIno x) (E4.eName x) = x := by
 have h2 := h
 simp only [E4.isE, Bool.and_eq_true, beq_iff_eq] at h2
 rw [E4.eIno, E4.eName, if_pos h, if_pos h]
 exact toList_eq h2.2
theorem not_isE {x : ByteArray} (h : E4.isE x = false) : E4.eIno x = 0 ∧ E4.eName x = ⟨#[]⟩ := by simp [E4.eIno, E4.eName, h]
theorem entryOk_zero : E0.entryOk 0 ⟨#[]⟩ = false := by
 rw [E0.entryOk, show B1.inB 0 1 7 = false from by decide, Bool.and_false]
theorem ext_join (s : ByteArray) (a b : Nat) (h1 : a ≤ b) (h2 : b ≤ s.size) : s.extract 0 a ++ s.extract a b = s.extract 0 b := by
 apply ByteArray.ext
 apply Array.toList_inj.1
 simp only [ByteArray.data_append, Array.toList_append, Lib.extract_data, List.drop_zero, Nat.sub_zero]
 rw [← List.take_add, show a + (b - a) = b by omega]
theorem joined_ext (s : ByteArray) (n : Nat) (hE : ∀ j, j < n → E4.isE (chunk s j) = true) : ∀ k, k ≤ n → k * 16 ≤ s.size → T0.joined (ents s n) k = s.extract 0 (k * 16)
 | 0, _, _ => by
  apply ByteArray.ext
  simp [T0.joined]
 | k + 1, hk, hs => by
  rw [T0.joined, joined_ext s n hE k (by omega) (by omega), ents_get s n k (by omega), isE_eq (hE k (by omega)), chunk_eq s k (by omega), ext_join s _ _ (by omega) (by omega), show k * 16 + 16 = (k + 1) * 16 by omega]
theorem ext_all (s : ByteArray) : s.extract 0 s.size = s := by
 apply ByteArray.ext
 apply Array.toList_inj.1
 rw [Lib.extract_data]
 simp only [List.drop_zero, Nat.sub_zero]
 exact List.take_of_length_le (by rw [← Lib.size_eq]; exact Nat.le_refl _)
theorem isD_of {s : ByteArray} (h1 : s.size ≤ 192) (h2 : s.size % 16 = 0) (hE : ∀ j, j < s.size / 16 → E4.isE (chunk s j) = true) (hD : T0.dirOk (ents s (s.size / 16)) = true) : isD s = true ∧ cnt s = s.size / 16 := by
 have hc : cnt s = s.size / 16 := by unfold cnt; omega
 refine ⟨?_, hc⟩
 rw [isD, hc]
 have : T0.putD (ents s (s.size / 16)) = s := by
  rw [T0.putD, if_pos hD, ents_length, joined_ext s _ hE _ (Nat.le_refl _) (by omega), show s.size / 16 * 16 = s.size by omega]
  exact ext_all s
 rw [this]
 simp
theorem of_isD {s : ByteArray} (h : isD s = true) : s.size ≤ 192 ∧ s.size % 16 = 0 ∧ cnt s = s.size / 16 ∧ (∀ j, j < s.size / 16 → E4.isE (chunk s j) = true) ∧ T0.dirOk (ents s (s.size / 16)) = true := by
 by_cases h0 : s.size = 0
 ·refine ⟨by omega, by omega, by unfold cnt; omega, fun j hj => by omega, ?_⟩
  rw [h0]
  rfl
 ·rw [isD, decide_eq_false h0, Bool.false_or] at h
  have he : T0.putD (ents s (cnt s)) = s := toList_eq (by simpa using h)
  have hD : T0.dirOk (ents s (cnt s)) = true := by
   cases hb : T0.dirOk (ents s (cnt s)) with
   | true => rfl
   | false =>
    rw [T0.putD, hb] at he
    have := congrArg ByteArray.size he
    exact absurd this.symm h0
  have hd := hD
  simp only [T0.dirOk, Bool.and_eq_true, decide_eq_true_eq] at hd
  rw [ents_length] at hd
  have hsz : s.size = 16 * cnt s := by
   have := T0.joined_size hd.2 (cnt s) (Nat.le_refl _)
   rw [T0.putD, if_pos hD, ents_length] at he
   rw [he] at this
   exact this
  have hc : cnt s = s.size / 16 := by omega
  rw [← hc]
  refine ⟨by omega, by omega, rfl, fun j hj => ?_, hD⟩
  cases hb : E4.isE (chunk s j) with
  | true => rfl
  | false =>
   have h1 := (T0.okAt_entry (T0.okUpto_at hd.2 hj)).1
   rw [ents_get s _ j hj, (not_isE hb).1, (not_isE hb).2, entryOk_zero] at h1
   cases h1
end Go.Proofs.YtljnkicgahepfaaGreatDoor.V0
namespace Go.Proofs.YtljnkicgahepfaaGreatDoor.R0
open Go
def pg (zs : List Int) : ByteArray := ⟨(zs.map fun z => UInt8.ofNat z.toNat).toArray⟩
theorem pg_size (zs : List Int) : (pg zs).size = zs.length := by simp [pg, ByteArray.size]
theorem pg_snoc (zs : List Int) (k : Nat) (h : k < zs.length) : pg (zs.take k) ++ ⟨#[UInt8.ofNat (zs.getD k 0).toNat]⟩ = pg (zs.take (k + 1)) := by
 apply ByteArray.ext
 rw [ByteArray.data_append]
 apply Array.toList_inj.1
 simp only [pg, Array.toList_append, List.take_succ_eq_append_getElem h, List.map_append, List.map_cons, List.map_nil, P0.getD_get zs k h]
def two (k o : Int) : ByteArray := ⟨#[UInt8.ofNat k.toNat, UInt8.ofNat o.toNat]⟩
theorem two_size (k o : Int) : (two k o).size = 2 := rfl
def head (k o s : Int) (zs : List Int) : ByteArray := two k o ++ B3.pair s ++ pg zs
def putI (k o s : Int) (zs : List Int) : ByteArray := if I0.ok k o s zs then head k o s zs ++ B4.nulls (12 - zs.length) else ⟨#[]⟩
theorem pair_size (s : Int) (h0 : 0 ≤ s) (h1 : s ≤ 65535) : (B3.pair s).size = 2 := by
 rw [B3.pair, show B1.inB s 0 65535 = true from decide_eq_true ⟨h0, h1⟩]
 rfl
theorem ok_bounds {k o s : Int} {zs : List Int} (h : I0.ok k o s zs = true) : (0 ≤ k ∧ k ≤ 2) ∧ (0 ≤ o ∧ o ≤ 9) ∧ (0 ≤ s ∧ s ≤ 192) ∧ zs.length ≤ 6 ∧ (zs.length : Int) = P0.need s ∧ P0.pagesOk zs = true := by
 have hh : ∀ {o s : Int} {zs : List Int}, I0.holds o s zs = true → (0 ≤ o ∧ o ≤ 9) ∧ (0 ≤ s ∧ s ≤ 192) ∧ zs.length ≤ 6 ∧ (zs.length : Int) = P0.need s ∧ P0.pagesOk zs = true := by
  intro o s zs h
  simp only [I0.holds, Bool.and_eq_true, decide_eq_true_eq] at h
  have h1 := B1.inB_true h.1
  have h2 := B1.inB_true h.2.1
  have h3 := h.2.2.1
  refine ⟨h1, h2, ?_, h3, h.2.2.2⟩
  unfold P0.need at h3
  omega
 unfold I0.ok at h
 split at h
 ·rename_i e
  simp only [I0.free, Bool.and_eq_true, decide_eq_true_eq] at h
  have hz : zs = [] := List.eq_nil_of_length_eq_zero h.2.2
  refine ⟨by omega, by omega, by omega, by omega, ?_, ?_⟩
  ·rw [h.2.1, h.2.2]; decide
  ·rw [hz]; rfl
 ·split at h
  ·rename_i e
   exact ⟨by omega, hh h⟩
  ·split at h
   ·rename_i e
    simp only [Bool.and_eq_true] at h
    exact ⟨by omega, hh h.1⟩
   ·cases h
theorem pages_bounds {zs : List Int} (h : P0.pagesOk zs = true) {k : Nat} (hk : k < zs.length) : 5 ≤ zs.getD k 0 ∧ zs.getD k 0 ≤ 23 := by
 have h1 : P0.okAt zs k = true := by
  cases hb : P0.okAt zs k with
  | true => rfl
  | false => rw [P0.pagesOk, P0.okUpto_bad hk hb] at h; cases h
 simp only [P0.okAt, Bool.and_eq_true] at h1
 exact B1.inB_true h1.1
theorem head_size (k o s : Int) (zs : List Int) (h0 : 0 ≤ s) (h1 : s ≤ 65535) : (head k o s zs).size = 4 + zs.length := by
 rw [head, ByteArray.size_append, ByteArray.size_append, two_size, pair_size s h0 h1, pg_size]
end Go.Proofs.YtljnkicgahepfaaGreatDoor.R0
namespace Go.Proofs.YtljnkicgahepfaaGreatDoor.B6
open Go.ChangeShapes Go.WideShapes Go.ChangeAt Go.RowKit
def pairAt (s : ByteArray) (i : Int) : Int := if h : 0 ≤ i ∧ i + 1 < s.size then (s[i.toNat]'(by omega)).toNat + 256 * (s[(i + 1).toNat]'(by omega)).toNat else 0
theorem spec_PairAt (s : ByteArray) (i : Int) (w : World) (hs : s.size ≤ 281474976710656) :
  Calls Tryz.prog 230 #[.string s, .int .i64 i] w fun e w' => e = .returned (.int .i64 (pairAt s i)) ∧ ∃ n, w' = w.drewN n := by
 by_cases h1 : i < 0
 ·have e : pairAt s i = 0 := by rw [pairAt, dif_neg (by omega)]
  rw [e]
  go_enter Tryz.func230, Tryz.ntmps230
  go_wp2
  go_ret
  exact ⟨rfl, 0, rfl⟩
 ·by_cases h2 : (s.size : Int) - 2 < i
  ·have e : pairAt s i = 0 := by rw [pairAt, dif_neg (by omega)]
   rw [e]
   go_enter Tryz.func230, Tryz.ntmps230
   go_wp2
   go_ret
   exact ⟨rfl, 0, rfl⟩
  ·have e : pairAt s i = (s[i.toNat]'(by omega)).toNat + 256 * (s[(i + 1).toNat]'(by omega)).toNat := by rw [pairAt, dif_pos (by omega)]
   rw [e]
   have h3 : i < (s.size : Int) := by omega
   have h4 : i + 1 < (s.size : Int) := by omega
   have h6 : 0 ≤ i := by omega
   have h7 : 0 ≤ i + 1 := by omega
   have b1 := (s[i.toNat]'(by omega)).toNat_lt
   have b2 := (s[(i + 1).toNat]'(by omega)).toNat_lt
   go_enter Tryz.func230, Tryz.ntmps230
   go_wp2
   go_quiet (fail)
   go_wp2
   go_ret
   exact ⟨rfl, _, rfl⟩
theorem impl_PairAt (s : ByteArray) (i : Int) (w : World) (hs : s.size ≤ 281474976710656) :
  Calls Tryz.prog 288 #[.string s, .int .i64 i] w fun e w' => e = .returned (.int .i64 (pairAt s i)) ∧ ∃ n, w' = w.drewN n := by
 have hs' : s.size ≤ maxLen := by unfold maxLen; omega
 by_cases h : B2.lies s.size i 2 = true
 ·obtain ⟨h1, h2, h5⟩ := B2.lies_true h
  have e : pairAt s i = (s[i.toNat]'(by omega)).toNat + (s[(i + 1).toNat]'(by omega)).toNat * 256 := by rw [pairAt, dif_pos (by omega), Int.mul_comm]
  rw [e]
  have h3 : i < (s.size : Int) := by omega
  have h4 : i + 1 < (s.size : Int) := by omega
  have h6 : 0 ≤ i := by omega
  have h7 : 0 ≤ i + 1 := by omega
  have b1 := (s[i.toNat]'(by omega)).toNat_lt
  have b2 := (s[(i + 1).toNat]'(by omega)).toNat_lt
  go_enter Tryz.func288, Tryz.ntmps288
  go_wp2_with (go_at_call 156; refine (B2.liesIn_any _ _ _ _ hs').mono ?_; rintro e w' ⟨rfl, rfl⟩)
  go_quiet (fail)
  go_wp2
  go_ret
  exact ⟨rfl, _, rfl⟩
 ·have h' : B2.lies s.size i 2 = false := by simpa using h
  have e : pairAt s i = 0 := by rw [pairAt, dif_neg (fun h9 => B2.lies_false h' (by omega))]
  rw [e]
  go_enter Tryz.func288, Tryz.ntmps288
  go_wp2_with (go_at_call 156; refine (B2.liesIn_any _ _ _ _ hs').mono ?_; rintro e w' ⟨rfl, rfl⟩)
  go_ret
  exact ⟨rfl, 0, rfl⟩
end Go.Proofs.YtljnkicgahepfaaGreatDoor.B6
namespace Go.Proofs.YtljnkicgahepfaaGreatDoor.G0
open Go
def cnt (s : ByteArray) : Nat := min (P0.need (B6.pairAt s 2)).toNat 12
def pgs (s : ByteArray) (k : Nat) : List Int := (List.range k).map fun (j : Nat) => B1.byteAt s (4 + (j : Int))
theorem pgs_length (s : ByteArray) (k : Nat) : (pgs s k).length = k := by simp [pgs]
theorem pgs_succ (s : ByteArray) (k : Nat) : pgs s k ++ [B1.byteAt s (4 + (k : Int))] = pgs s (k + 1) := by simp [pgs, List.range_succ]
def txt (s : ByteArray) : ByteArray := R0.putI (B1.byteAt s 0) (B1.byteAt s 1) (B6.pairAt s 2) (pgs s (cnt s))
def isI (s : ByteArray) : Bool := decide (s.size = 16) && ((txt s).toList == s.toList)
def gK (s : ByteArray) : Int := if isI s then B1.byteAt s 0 else 0
def gO (s : ByteArray) : Int := if isI s then B1.byteAt s 1 else 0
def gS (s : ByteArray) : Int := if isI s then B6.pairAt s 2 else 0
def gZ (s : ByteArray) : List Int := if isI s then pgs s (cnt s) else []
theorem pairAt_lt (s : ByteArray) (i : Int) : 0 ≤ B6.pairAt s i ∧ B6.pairAt s i ≤ 65535 := by
 unfold B6.pairAt
 split
 ·rename_i h
  have h1 := (s[i.toNat]'(by omega)).toNat_lt
  have h2 := (s[(i + 1).toNat]'(by omega)).toNat_lt
  omega
 ·omega
theorem need_nonneg {x : Int} (h : 0 ≤ x) : 0 ≤ P0.need x := by unfold P0.need; omega
theorem cnt_le (s : ByteArray) : cnt s ≤ 12 := Nat.min_le_right _ _
theorem cnt_lt (s : ByteArray) (k : Nat) : k < cnt s ↔ (k : Int) < P0.need (B6.pairAt s 2) ∧ k < 12 := by
 have := need_nonneg (pairAt_lt s 2).1
 unfold cnt
 omega
theorem isI_ok {s : ByteArray} (h : isI s = true) : s.size = 16 ∧ (txt s).toList = s.toList ∧ I0.ok (B1.byteAt s 0) (B1.byteAt s 1) (B6.pairAt s 2) (pgs s (cnt s)) = true := by
 simp only [isI, Bool.and_eq_true, decide_eq_true_eq, beq_iff_eq] at h
 refine ⟨h.1, h.2, ?_⟩
 cases hok : I0.ok (B1.byteAt s 0) (B1.byteAt s 1) (B6.pairAt s 2) (pgs s (cnt s)) with
 | true => rfl
 | false =>
  have h2 := h.2
  rw [txt, R0.putI, hok, if_neg (by decide)] at h2
  have h3 := congrArg List.length h2
  rw [Lib.toList_data, Lib.toList_data, ← Lib.size_eq, ← Lib.size_eq] at h3
  rw [h.1] at h3
  exact absurd h3 (by decide)
theorem isI_of {s : ByteArray} (h16 : s.size = 16) (h : ((txt s).toList == s.toList) = true) : isI s = true := by rw [isI, decide_eq_true h16, h]; rfl
theorem isI_not {s : ByteArray} (h : ((txt s).toList == s.toList) = false) : isI s = false := by rw [isI, h, Bool.and_false]
theorem isI_no {s : ByteArray} (h : ¬ s.size = 16) : isI s = false := by rw [isI, decide_eq_false h, Bool.false_and]
theorem isI_bad {s : ByteArray} (h : I0.ok (B1.byteAt s 0) (B1.byteAt s 1) (B6.pairAt s 2) (pgs s (cnt s)) = false) : isI s = false := by
 cases hi : isI s with
 | false => rfl
 | true => rw [(isI_ok hi).2.2] at h; cases h
theorem g_no {s : ByteArray} (h : isI s = false) : gK s = 0 ∧ gO s = 0 ∧ gS s = 0 ∧ gZ s = [] := by simp [gK, gO, gS, gZ, h]
theorem g_yes {s : ByteArray} (h : isI s = true) : gK s = B1.byteAt s 0 ∧ gO s = B1.byteAt s 1 ∧ gS s = B6.pairAt s 2 ∧ gZ s = pgs s (cnt s) := by simp [gK, gO, gS, gZ, h]
end Go.Proofs.YtljnkicgahepfaaGreatDoor.G0
namespace Go.Proofs.YtljnkicgahepfaaGreatDoor.L1
open Go.ChangeShapes Go.WideShapes Go.ChangeAt Go.RowKit
def recAt (i : Int) : Int := if B1.inB i 0 7 then 32 + i * 16 else -1
theorem spec_RecAt (i : Int) (w : World) :
  Calls Tryz.prog 109 #[.int .i64 i] w fun e w' => e = .returned (.int .i64 (recAt i)) ∧ w' = w := by
 by_cases h : B1.inB i 0 7 = true
 ·have e : recAt i = 32 + i * 16 := by rw [recAt, if_pos h]
  obtain ⟨h1, h2⟩ := B1.inB_true h
  rw [e]
  go_enter Tryz.func109, Tryz.ntmps109
  go_wp2_with (go_at_call 44; refine (B1.l01In_any _ _ _ _).mono ?_; rintro e w' ⟨rfl, rfl⟩)
  go_ret
  exact ⟨rfl, rfl⟩
 ·have h' : B1.inB i 0 7 = false := by simpa using h
  have e : recAt i = -1 := by rw [recAt, if_neg h]
  rw [e]
  go_enter Tryz.func109, Tryz.ntmps109
  go_wp2_with (go_at_call 44; refine (B1.l01In_any _ _ _ _).mono ?_; rintro e w' ⟨rfl, rfl⟩)
  go_ret
  exact ⟨rfl, rfl⟩
theorem impl_RecAt (i : Int) (w : World) :
  Calls Tryz.prog 125 #[.int .i64 i] w fun e w' => e = .returned (.int .i64 (recAt i)) ∧ w' = w := by
 by_cases h1 : i < 0
 ·have e : recAt i = -1 := by rw [recAt, show B1.inB i 0 7 = false from decide_eq_false (by omega)]; rfl
  rw [e]
  go_enter Tryz.func125, Tryz.ntmps125
  go_wp2
  go_ret
  exact ⟨rfl, rfl⟩
 ·by_cases h2 : 8 ≤ i
  ·have e : recAt i = -1 := by rw [recAt, show B1.inB i 0 7 = false from decide_eq_false (by omega)]; rfl
   rw [e]
   go_enter Tryz.func125, Tryz.ntmps125
   go_wp2
   go_ret
   exact ⟨rfl, rfl⟩
  ·have e : recAt i = 32 + i * 16 := by rw [recAt, show B1.inB i 0 7 = true from decide_eq_true (by omega)]; rfl
   rw [e]
   go_enter Tryz.func125, Tryz.ntmps125
   go_wp2
   go_ret
   exact ⟨rfl, rfl⟩
end Go.Proofs.YtljnkicgahepfaaGreatDoor.L1
namespace Go.Proofs.YtljnkicgahepfaaGreatDoor.O0
open Go
def recd (mem : ByteArray) (i : Int) : ByteArray := B2.part mem (L1.recAt i) 16
def joined (mem : ByteArray) (zs : List Int) : Nat → ByteArray
 | 0 => ⟨#[]⟩
 | k + 1 => joined mem zs k ++ B2.part mem (zs.getD k 0 * 32) 32
theorem page_size {mem : ByteArray} (hm : mem.size = 768) {z : Int} (h0 : 5 ≤ z) (h1 : z ≤ 23) : (B2.part mem (z * 32) 32).size = 32 := by
 rw [B2.part, show B2.lies mem.size (z * 32) 32 = true from decide_eq_true (by omega), if_pos rfl, ByteArray.size_extract]
 omega
theorem joined_size {mem : ByteArray} (hm : mem.size = 768) {zs : List Int} (hp : P0.pagesOk zs = true) : ∀ k, k ≤ zs.length → (joined mem zs k).size = 32 * k
 | 0, _ => rfl
 | k + 1, h => by
  have hz := R0.pages_bounds hp (k := k) (by omega)
  rw [joined, ByteArray.size_append, joined_size hm hp k (by omega), page_size hm hz.1 hz.2]
  omega
def isL (mem : ByteArray) (i : Int) : Bool := decide (mem.size = 768) && (G0.isI (recd mem i) && !decide (B1.byteAt (recd mem i) 0 = 0))
def lK (mem : ByteArray) (i : Int) : Int := if isL mem i then G0.gK (recd mem i) else 0
def lO (mem : ByteArray) (i : Int) : Int := if isL mem i then G0.gO (recd mem i) else 0
def lS (mem : ByteArray) (i : Int) : Int := if isL mem i then G0.gS (recd mem i) else 0
def lZ (mem : ByteArray) (i : Int) : List Int := if isL mem i then G0.gZ (recd mem i) else []
def lD (mem : ByteArray) (i : Int) : ByteArray := if isL mem i then (joined mem (G0.gZ (recd mem i)) (G0.gZ (recd mem i)).length).extract 0 (G0.gS (recd mem i)).toNat else ⟨#[]⟩
theorem l_no {mem : ByteArray} {i : Int} (h : isL mem i = false) : lK mem i = 0 ∧ lO mem i = 0 ∧ lS mem i = 0 ∧ lZ mem i = [] ∧ lD mem i = ⟨#[]⟩ := by simp [lK, lO, lS, lZ, lD, h]
theorem l_yes {mem : ByteArray} {i : Int} (h : isL mem i = true) : lK mem i = G0.gK (recd mem i) ∧ lO mem i = G0.gO (recd mem i) ∧ lS mem i = G0.gS (recd mem i) ∧ lZ mem i = G0.gZ (recd mem i) ∧ lD mem i = (joined mem (G0.gZ (recd mem i)) (G0.gZ (recd mem i)).length).extract 0 (G0.gS (recd mem i)).toNat := by simp [lK, lO, lS, lZ, lD, h]
theorem isL_of {mem : ByteArray} {i : Int} (h1 : mem.size = 768) (h2 : G0.isI (recd mem i) = true) (h3 : ¬ B1.byteAt (recd mem i) 0 = 0) : isL mem i = true := by rw [isL, decide_eq_true h1, h2, decide_eq_false h3]; rfl
theorem recd_size (mem : ByteArray) (i : Int) (h : mem.size ≤ 281474976710656) : (recd mem i).size ≤ 281474976710656 := by
 have := B2.part_size mem (L1.recAt i) 16
 unfold recd
 omega
theorem got {s : ByteArray} (h : G0.isI s = true) : (0 ≤ G0.gS s ∧ G0.gS s ≤ 192) ∧ (G0.gZ s).length ≤ 6 ∧ G0.gS s ≤ 32 * ((G0.gZ s).length : Int) ∧ P0.pagesOk (G0.gZ s) = true ∧ (0 ≤ G0.gK s ∧ G0.gK s ≤ 2) := by
 have hb := R0.ok_bounds (G0.isI_ok h).2.2
 obtain ⟨e1, e2, e3, e4⟩ := G0.g_yes h
 rw [e1, e3, e4]
 refine ⟨hb.2.2.1, hb.2.2.2.1, ?_, hb.2.2.2.2.2, hb.1⟩
 rw [hb.2.2.2.2.1]
 unfold P0.need
 omega
end Go.Proofs.YtljnkicgahepfaaGreatDoor.O0
