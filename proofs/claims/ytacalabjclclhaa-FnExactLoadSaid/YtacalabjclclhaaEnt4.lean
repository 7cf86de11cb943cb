/- Contracts of spec.GetEntry and impl.GetEntry, as the given laws call them. -/
import Derived.Test.YtacalabjclclhaaEnt3
import Derived.Test.YtacalabjclclhaaBlk0
import Derived.Test.YtacalabjclclhaaImplPart1
import Derived.Test.YtacalabjclclhaaSpecPart1
namespace Go.Proofs.Ytacalabjclclhaa.E4
open Go.ChangeShapes Go.WideShapes Go.ChangeAt Go.RowKit
set_option linter.unusedVariables false
set_option linter.unusedSimpArgs false
set_option maxRecDepth 10000

/-- What stands in the bytes of an entry. -/
def ino (s : ByteArray) : Int := B1.byteAt s 0
def name (s : ByteArray) : ByteArray := B2.part s 2 (B1.byteAt s 1)

/-- Whether a text is that of an entry. -/
def isE (s : ByteArray) : Bool := decide (s.size = 16) && ((E0.putE (ino s) (name s)).toList == s.toList)

/-- What GetEntry tells. -/
def eIno (s : ByteArray) : Int := if isE s then ino s else 0
def eName (s : ByteArray) : ByteArray := if isE s then name s else ⟨#[]⟩

def getE (s : ByteArray) : Value := .tuple #[.agg #[.int .i64 (eIno s), .string (eName s)], .bool (isE s)]

theorem wf_of (n : Int) (h0 : -9223372036854775808 ≤ n) (h1 : n ≤ 9223372036854775807) : (Lit.int .i64 n).wf = true := by
  simp [Lit.wf, IntKind.min, IntKind.max, IntKind.signed, IntKind.bits]
  omega

theorem byteAt_lt (s : ByteArray) (i : Int) : 0 ≤ B1.byteAt s i ∧ B1.byteAt s i < 256 := by
  unfold B1.byteAt
  split
  · rename_i h
    have := (s[i.toNat]'(by omega)).toNat_lt
    omega
  · omega

theorem getE_no {s : ByteArray} (h : isE s = false) : getE s = .tuple #[.agg #[.int .i64 0, .string ⟨#[]⟩], .bool false] := by simp [getE, eIno, eName, h]
theorem getE_yes {s : ByteArray} (h : isE s = true) : getE s = .tuple #[.agg #[.int .i64 (ino s), .string (name s)], .bool true] := by simp [getE, eIno, eName, h]

/-- The two blocks of GetEntry: the answer's and the entry's own. -/
structure Two (w : World) (B : Nat) (a : Int) (b : ByteArray) (W : World) : Prop where
  n : K0.Blk w.heap.size [.int .i64 0, .string ⟨#[]⟩] W
  m : K0.Blk B [.int .i64 a, .string b] W
  ne : w.heap.size < B
  bel : Below w.heap.size w W

theorem Two.below {w W W' : World} {B : Nat} {a : Int} {b : ByteArray} (h : Two w B a b W) (hb : Below W.heap.size W W') : Two w B a b W' := ⟨h.n.below hb, h.m.below hb, h.ne, h.bel.trans (hb.mono (Nat.le_of_lt h.n.lt))⟩

theorem two_new (w w1 : World) (a : Int) (b : ByteArray) (h : Below (w.alloc (.cells #[.int .i64 0, .string ⟨#[]⟩] 33)).heap.size (w.alloc (.cells #[.int .i64 0, .string ⟨#[]⟩] 33)) w1) :
    Two w w1.heap.size a b (w1.alloc (.cells #[.int .i64 a, .string b] 33)) := by
  have hs := h.size
  simp at hs
  exact ⟨((K0.blk_new [.int .i64 0, .string ⟨#[]⟩] w 33).below h).alloc _, K0.blk_new [.int .i64 a, .string b] w1 33, by omega, (((Below.refl _ _).alloc (Nat.le_refl _) _).trans (h.mono (by simp))).alloc (by omega) _⟩

theorem two_first (w : World) (a : Int) (b : ByteArray) : Two w (w.heap.size + 1) a b ((w.alloc (.cells #[.int .i64 0, .string ⟨#[]⟩] 33)).alloc (.cells #[.int .i64 a, .string b] 33)) := by
  have h := two_new w _ a b (Below.refl _ _)
  simpa using h

theorem ret_val {v u : Value} (h : v = u) : Ending.returned v = .returned u := by rw [h]

set_option maxHeartbeats 1000000 in
theorem spec_GetEntry (s : ByteArray) (w : World) (hs : s.size ≤ 281474976710656) :
    Calls Try.prog 27 #[.string s] w fun e w' => e = .returned (getE s) ∧ Below w.heap.size w w' := by
  have hm : s.size ≤ maxLen := by unfold maxLen; omega
  have k0 := byteAt_lt s 0
  have k1 := byteAt_lt s 1
  have hn : (B2.part s 2 (B1.byteAt s 1)).size ≤ 281474976710656 := by have := B2.part_size s 2 (B1.byteAt s 1); omega
  have v2 : (Lit.int .i64 2).wf = true := by decide
  have v1 := wf_of (B1.byteAt s 1) (by omega) (by omega)
  have t1 := two_first w (B1.byteAt s 0) (B2.part s 2 (B1.byteAt s 1))
  by_cases h16 : s.size = 16
  · have g16 : ((s.size : Int) != 16) = false := by simp; omega
    by_cases hP : ((E0.putE (B1.byteAt s 0) (B2.part s 2 (B1.byteAt s 1))).toList == s.toList) = true
    · have HR : Hid (getE s = .tuple #[.agg #[.int .i64 (B1.byteAt s 0), .string (B2.part s 2 (B1.byteAt s 1))], .bool true]) := getE_yes (by rw [isE, ino, name, hP, decide_eq_true h16]; rfl)
      go_enter Try.func27, Try.ntmps27
      go_wp2_with (first
        | (go_at_call 90; refine (B1.spec_ByteAt _ _ _ hm).mono ?_; rintro e w' ⟨rfl, rfl⟩)
        | (go_at_call 98; refine (B2.spec_Part _ _ _ _ hm v2 v1).mono ?_; rintro e w' ⟨rfl, rfl⟩)
        | (go_at_call 31; refine (E2.spec_PutEntry _ _ _ hn).mono ?_; rintro e w2 ⟨rfl, b2⟩; have t2 := t1.below b2; have c0 := t2.n.c0; have c1 := t2.n.c1; have f0 := t2.n.f0; have f1 := t2.n.f1; have d0 := t2.m.c0; have d1 := t2.m.c1))
      have q := t2.n.put2 (.int .i64 (B1.byteAt s 0)) (.string (B2.part s 2 (B1.byteAt s 1)))
      exact bodyPost_ret (v := .tuple #[.agg #[.int .i64 (B1.byteAt s 0), .string (B2.part s 2 (B1.byteAt s 1))], .bool true]) (by simp [results, Try.results27, go_sem, q.c0, q.c1]) rfl
        ⟨ret_val HR.out.symm, (t2.bel.setCell (p := ⟨w.heap.size, 0, none⟩) (Nat.le_refl _) _).setCell (p := ⟨w.heap.size, 1, none⟩) (Nat.le_refl _) _⟩
    · have hP' : ((E0.putE (B1.byteAt s 0) (B2.part s 2 (B1.byteAt s 1))).toList == s.toList) = false := by simpa using hP
      have HR : Hid (getE s = .tuple #[.agg #[.int .i64 0, .string ⟨#[]⟩], .bool false]) := getE_no (by rw [isE, ino, name, hP', Bool.and_false])
      clear hP
      go_enter Try.func27, Try.ntmps27
      go_wp2_with (first
        | (go_at_call 90; refine (B1.spec_ByteAt _ _ _ hm).mono ?_; rintro e w' ⟨rfl, rfl⟩)
        | (go_at_call 98; refine (B2.spec_Part _ _ _ _ hm v2 v1).mono ?_; rintro e w' ⟨rfl, rfl⟩)
        | (go_at_call 31; refine (E2.spec_PutEntry _ _ _ hn).mono ?_; rintro e w2 ⟨rfl, b2⟩; have t2 := t1.below b2; have c0 := t2.n.c0; have c1 := t2.n.c1; have f0 := t2.n.f0; have f1 := t2.n.f1; have d0 := t2.m.c0; have d1 := t2.m.c1))
      have q := t2.n.put2 (.int .i64 0) (.string ⟨#[]⟩)
      exact bodyPost_ret (v := .tuple #[.agg #[.int .i64 0, .string ⟨#[]⟩], .bool false]) (by simp [results, Try.results27, go_sem, q.c0, q.c1]) rfl
        ⟨ret_val HR.out.symm, (t2.bel.setCell (p := ⟨w.heap.size, 0, none⟩) (Nat.le_refl _) _).setCell (p := ⟨w.heap.size, 1, none⟩) (Nat.le_refl _) _⟩
  · have g16 : ((s.size : Int) != 16) = true := by simp; omega
    have HR : Hid (getE s = .tuple #[.agg #[.int .i64 0, .string ⟨#[]⟩], .bool false]) := getE_no (by rw [isE, decide_eq_false h16, Bool.false_and])
    have c0 := t1.n.c0
    have c1 := t1.n.c1
    have q := t1.n.put2 (.int .i64 0) (.string ⟨#[]⟩)
    go_enter Try.func27, Try.ntmps27
    go_wp2_with (first
      | (go_at_call 90; refine (B1.spec_ByteAt _ _ _ hm).mono ?_; rintro e w' ⟨rfl, rfl⟩)
      | (go_at_call 98; refine (B2.spec_Part _ _ _ _ hm v2 v1).mono ?_; rintro e w' ⟨rfl, rfl⟩))
    refine bodyPost_ret (v := .tuple #[.agg #[.int .i64 0, .string ⟨#[]⟩], .bool false]) (by simp [results, Try.results27, go_sem, q.c0, q.c1]) rfl
      ⟨ret_val HR.out.symm, ?_⟩
    go_grown

set_option maxHeartbeats 1000000 in
theorem impl_GetEntry (s : ByteArray) (w : World) (hs : s.size ≤ 281474976710656) :
    Calls Try.prog 26 #[.string s] w fun e w' => e = .returned (getE s) ∧ Below w.heap.size w w' := by
  have hm : s.size ≤ maxLen := by unfold maxLen; omega
  have hn : (B2.part s 2 (B1.byteAt s 1)).size ≤ 281474976710656 := by have := B2.part_size s 2 (B1.byteAt s 1); omega
  by_cases h16 : s.size = 16
  · have g16 : ((s.size : Int) != 16) = false := by simp; omega
    by_cases hP : ((E0.putE (B1.byteAt s 0) (B2.part s 2 (B1.byteAt s 1))).toList == s.toList) = true
    · have HR : Hid (getE s = .tuple #[.agg #[.int .i64 (B1.byteAt s 0), .string (B2.part s 2 (B1.byteAt s 1))], .bool true]) := getE_yes (by rw [isE, ino, name, hP, decide_eq_true h16]; rfl)
      go_enter Try.func26, Try.ntmps26
      go_wp2_with (first
        | (go_at_call 96; refine (B1.impl_ByteAt _ _ _ hm).mono ?_; rintro e w' ⟨rfl, rfl⟩)
        | (go_at_call 97; refine (B2.impl_Part _ _ _ _ hs).mono ?_; rintro e w1 ⟨rfl, b1⟩; have t1 := two_new w w1 (B1.byteAt s 0) (B2.part s 2 (B1.byteAt s 1)) b1)
        | (go_at_call 24; refine (E2.impl_PutEntry _ _ _ hn).mono ?_; rintro e w2 ⟨rfl, b2⟩; have t2 := t1.below b2; have c0 := t2.n.c0; have c1 := t2.n.c1; have f0 := t2.n.f0; have f1 := t2.n.f1; have d0 := t2.m.c0; have d1 := t2.m.c1))
      have q := t2.n.put2 (.int .i64 (B1.byteAt s 0)) (.string (B2.part s 2 (B1.byteAt s 1)))
      exact bodyPost_ret (v := .tuple #[.agg #[.int .i64 (B1.byteAt s 0), .string (B2.part s 2 (B1.byteAt s 1))], .bool true]) (by simp [results, Try.results26, go_sem, q.c0, q.c1]) rfl
        ⟨ret_val HR.out.symm, (t2.bel.setCell (p := ⟨w.heap.size, 0, none⟩) (Nat.le_refl _) _).setCell (p := ⟨w.heap.size, 1, none⟩) (Nat.le_refl _) _⟩
    · have hP' : ((E0.putE (B1.byteAt s 0) (B2.part s 2 (B1.byteAt s 1))).toList == s.toList) = false := by simpa using hP
      have HR : Hid (getE s = .tuple #[.agg #[.int .i64 0, .string ⟨#[]⟩], .bool false]) := getE_no (by rw [isE, ino, name, hP', Bool.and_false])
      clear hP
      go_enter Try.func26, Try.ntmps26
      go_wp2_with (first
        | (go_at_call 96; refine (B1.impl_ByteAt _ _ _ hm).mono ?_; rintro e w' ⟨rfl, rfl⟩)
        | (go_at_call 97; refine (B2.impl_Part _ _ _ _ hs).mono ?_; rintro e w1 ⟨rfl, b1⟩; have t1 := two_new w w1 (B1.byteAt s 0) (B2.part s 2 (B1.byteAt s 1)) b1)
        | (go_at_call 24; refine (E2.impl_PutEntry _ _ _ hn).mono ?_; rintro e w2 ⟨rfl, b2⟩; have t2 := t1.below b2; have c0 := t2.n.c0; have c1 := t2.n.c1; have f0 := t2.n.f0; have f1 := t2.n.f1; have d0 := t2.m.c0; have d1 := t2.m.c1))
      have q := t2.n.put2 (.int .i64 0) (.string ⟨#[]⟩)
      exact bodyPost_ret (v := .tuple #[.agg #[.int .i64 0, .string ⟨#[]⟩], .bool false]) (by simp [results, Try.results26, go_sem, q.c0, q.c1]) rfl
        ⟨ret_val HR.out.symm, (t2.bel.setCell (p := ⟨w.heap.size, 0, none⟩) (Nat.le_refl _) _).setCell (p := ⟨w.heap.size, 1, none⟩) (Nat.le_refl _) _⟩
  · have g16 : ((s.size : Int) != 16) = true := by simp; omega
    have HR : Hid (getE s = .tuple #[.agg #[.int .i64 0, .string ⟨#[]⟩], .bool false]) := getE_no (by rw [isE, decide_eq_false h16, Bool.false_and])
    go_enter Try.func26, Try.ntmps26
    go_wp2
    refine bodyPost_ret (v := .tuple #[.agg #[.int .i64 0, .string ⟨#[]⟩], .bool false]) (by simp [results, Try.results26, go_sem]) rfl
      ⟨ret_val HR.out.symm, ?_⟩
    go_grown
end Go.Proofs.Ytacalabjclclhaa.E4
