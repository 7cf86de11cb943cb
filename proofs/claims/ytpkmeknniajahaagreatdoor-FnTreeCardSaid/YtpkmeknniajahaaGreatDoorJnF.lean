/- Joined texts: plain facts and contracts. -/
import Derived.Test.YtpkmeknniajahaaGreatDoorJnE
import Derived.Lib.BufferWrite
import Derived.Maps.AppendAt
import Derived.Test.YtpkmeknniajahaaGreatDoorJnC
import Derived.Lib.SmallJoins
import Derived.OpenShut
import Derived.ShutString
import Derived.Test.YtpkmeknniajahaaGreatDoorJnB
import Derived.Test.YtpkmeknniajahaaGreatDoorJnD
import Derived.Test.YtpkmeknniajahaaGreatDoorRows
import Derived.OrdersHeld
import Derived.WalkKit
import Derived.Handy
set_option linter.unusedVariables false
set_option linter.unusedSimpArgs false
set_option maxRecDepth 10000
namespace Go.Proofs.YtpkmeknniajahaaGreatDoor.TW
open Go.ChangeShapes Go.WideShapes Go.ChangeAt Go.RowKit
variable {B : Nat} {N : Nat → Nd} {F : Nat → Nat} {P : Nat → ByteArray} {w W W' : World}
theorem grown_drew {a b : World} {row : Option Nat} (h : a.grownBy b row) : a.grownBy b.drew row := ⟨h.os, h.tape, h.output, h.size, h.block⟩
set_option maxHeartbeats 1000000 in
theorem find (d x : Nat) (nm : ByteArray) (w : World) (hT : Tb B N F P w) (hd : d < 8) (hx : x < 8) (hF : F x < 281474976710656) (hpz : (P d).size ≤ 281474976710656) (hnz : nm.size ≤ 281474976710656) :
  Calls Tryz.prog 88 #[.pointer (some ⟨B, 0, none⟩), .int .i64 (d : Int), .agg #[.int .i64 (x : Int), .string nm]] w fun e w' => e = .returned (.tuple #[]) ∧ Tb B N (TR.upF F x) (TR.upP P x (P d ++ TR.sep d ++ nm)) w' ∧ w.grownBy w' (some B) := by
 have e1 : (0 : Int) ≤ (x : Int) := by omega
 have e2 : (x : Int) < 8 := by omega
 have e3 : (0 : Int) ≤ (d : Int) := by omega
 have e4 : (d : Int) < 8 := by omega
 have hn := K0.below_new w (.cells #[.int .i64 (x : Int), .string nm] 71)
 have b0 := K0.blk_new [.int .i64 (x : Int), .string nm] w 71
 have t0 := hT.below hn hT.lt
 have c0 := b0.c0
 have c1 := b0.c1
 have x0 := t0.fnd x hx
 have y0 := t0.free (48 + x) (by omega)
 have z0 := t0.pth x hx
 have g0 : w.grownBy (w.alloc (.cells #[.int .i64 (x : Int), .string nm] 71)) (some B) := World.grownBy_alloc _ _ _
 have hw : IntKind.i64.wrap ((F x : Int) + 1) = (F x : Int) + 1 := by rw [IntKind.wrap_i64]; omega
 have t1 := t0.setF hx (F x + 1)
 have eF : (fun y => if y = x then F x + 1 else F y) = TR.upF F x := by
  funext y
  unfold TR.upF
  by_cases e : y = x
  ·rw [if_pos e, if_pos e, e]
  ·rw [if_neg e, if_neg e]
 rw [eF] at t1
 have eC : (((F x + 1 : Nat)) : Int) = (F x : Int) + 1 := by omega
 rw [eC] at t1
 have g1 := g0.trans (Lib.grownBy_setCell _ B (48 + x) (.int .i64 ((F x : Int) + 1)))
 have b1 := b0.setOther (B' := B) (by have := hT.lt; omega) (48 + x) (.int .i64 ((F x : Int) + 1))
 have d0 := b1.c0
 have d1 := b1.c1
 have x1 := t1.pth d hd
 have y1 := t1.free (56 + x) (by omega)
 have t2 := t1.setP hx (P d ++ TR.sep d ++ nm)
 have g2 := g1.trans (Lib.grownBy_setCell _ B (56 + x) (.string (P d ++ TR.sep d ++ nm)))
 have HD : Hid (Tb B N (TR.upF F x) (TR.upP P x (P d ++ TR.sep d ++ nm)) ((((w.alloc (.cells #[.int .i64 (x : Int), .string nm] 71)).setCell ⟨B, 48 + x, none⟩ (.int .i64 ((F x : Int) + 1)))).setCell ⟨B, 56 + x, none⟩ (.string (P d ++ TR.sep d ++ nm))) ∧ w.grownBy ((((w.alloc (.cells #[.int .i64 (x : Int), .string nm] 71)).setCell ⟨B, 48 + x, none⟩ (.int .i64 ((F x : Int) + 1)))).setCell ⟨B, 56 + x, none⟩ (.string (P d ++ TR.sep d ++ nm))) (some B)) := ⟨t2, g2⟩
 clear t2 g2 t1 g1 b1 t0 g0 b0 hT hn eF eC
 obtain ⟨f, hf⟩ : ∃ f, F x = f := ⟨_, rfl⟩
 obtain ⟨p, hp⟩ : ∃ p, P d = p := ⟨_, rfl⟩
 have HF : Hid (F x = f) := hf
 have HP : Hid (P d = p) := hp
 rw [hf] at x0 hw d0 d1 x1 y1 HD hF
 rw [hp] at x1 HD hpz ⊢
 have s1 : ¬ (9223372036854775807 < p.size) := by omega
 have s2 : ¬ (9223372036854775807 < p.size + 1) := by omega
 have s3 : ¬ (9223372036854775807 < p.size + nm.size) := by omega
 have s4 : ¬ (9223372036854775807 < p.size + 1 + nm.size) := by omega
 clear hf hp
 by_cases h0 : d = 0
 ·subst h0
  rw [show TR.sep 0 = ⟨#[]⟩ from rfl] at HD ⊢
  go_enter Tryz.func88, Tryz.ntmps88
  go_wp2
  go_region
  go_wp2
  go_region
  go_wp2
  refine bodyPost_end (v := .tuple #[]) (by simp [results, Tryz.results88, go_sem]) rfl ?_
  exact ⟨rfl, HD.out.1.drew.drew, grown_drew (grown_drew HD.out.2)⟩
 ·have h0' : ((d : Int) == 0) = false := by simpa using h0
  rw [show TR.sep d = ⟨#[47]⟩ from if_neg h0] at HD ⊢
  go_enter Tryz.func88, Tryz.ntmps88
  go_wp2
  go_region
  go_wp2
  go_region
  go_wp2
  refine bodyPost_end (v := .tuple #[]) (by simp [results, Tryz.results88, go_sem]) rfl ?_
  exact ⟨rfl, HD.out.1.drew.drew, grown_drew (grown_drew HD.out.2)⟩
end Go.Proofs.YtpkmeknniajahaaGreatDoor.TW
namespace Go.Proofs.YtpkmeknniajahaaGreatDoor.B2
open Go.ChangeShapes Go.WideShapes Go.ChangeAt Go.RowKit
theorem clone_any (s : ByteArray) (w : World) (hs : s.size ≤ 281474976710656) :
  Calls Tryz.prog 82 #[.string s] w fun e w' => e = .returned (.string s) ∧ Below w.heap.size w w' := by
 go_enter Tryz.func82, Tryz.ntmps82
 go_wp2_with (go_at_call 112; refine (Tryz.stringslite_Clone _ _ hs).mono ?_; rintro e w' ⟨rfl, hb⟩)
 go_ret
 exact ⟨rfl, hb⟩
theorem part_size (s : ByteArray) (i n : Int) : (part s i n).size ≤ s.size := by
 unfold part
 split
 ·simp only [ByteArray.size_extract]; omega
 ·exact Nat.zero_le _
theorem impl_Part (s : ByteArray) (i n : Int) (w : World) (hs : s.size ≤ 281474976710656) :
  Calls Tryz.prog 57 #[.string s, .int .i64 i, .int .i64 n] w fun e w' => e = .returned (.string (part s i n)) ∧ Below w.heap.size w w' := by
 have hs' : s.size ≤ maxLen := by unfold maxLen; omega
 have hz := part_size s i n
 by_cases h : lies s.size i n = true
 ·have e : part s i n = s.extract i.toNat (i + n).toNat := by rw [part, h]; rfl
  rw [e] at hz ⊢
  obtain ⟨h1, h2, h3⟩ := lies_true h
  have h5 : i ≤ i + n := by omega
  have h6 : i + n ≤ (s.size : Int) := by omega
  go_enter Tryz.func57, Tryz.ntmps57
  go_wp2_with (first | (go_at_call 65; refine (liesIn_any _ _ _ _ hs').mono ?_; rintro e w' ⟨rfl, rfl⟩) | (go_at_call 82; refine (clone_any _ _ (by omega)).mono ?_; rintro e w' ⟨rfl, hb⟩))
  go_ret
  exact ⟨rfl, hb⟩
 ·have h' : lies s.size i n = false := by simpa using h
  have e : part s i n = ⟨#[]⟩ := by rw [part, h']; rfl
  rw [e]
  go_enter Tryz.func57, Tryz.ntmps57
  go_wp2_with (go_at_call 65; refine (liesIn_any _ _ _ _ hs').mono ?_; rintro e w' ⟨rfl, rfl⟩)
  go_ret
  exact ⟨rfl, Below.refl _ _⟩
end Go.Proofs.YtpkmeknniajahaaGreatDoor.B2
namespace Go.Proofs.YtpkmeknniajahaaGreatDoor.B2
open Go.ChangeShapes Go.WideShapes Go.ChangeAt Go.RowKit
set_option maxRecDepth 4000 in
theorem spec_Part (s : ByteArray) (i n : Int) (w : World) (hs : s.size ≤ maxLen) (wi : (Lit.int .i64 i).wf = true) (wn : (Lit.int .i64 n).wf = true) :
  Calls Tryz.prog 49 #[.string s, .int .i64 i, .int .i64 n] w fun e w' => e = .returned (.string (part s i n)) ∧ w' = w := by
 unfold maxLen at hs
 by_cases h1 : i < 0
 ·have e : part s i n = ⟨#[]⟩ := by rw [part, show lies s.size i n = false from decide_eq_false fun h => by omega]; rfl
  rw [e]
  go_enter Tryz.func49, Tryz.ntmps49
  go_wp2
  go_ret
  exact ⟨rfl, rfl⟩
 ·by_cases h2 : n < 0
  ·have e : part s i n = ⟨#[]⟩ := by rw [part, show lies s.size i n = false from decide_eq_false fun h => by omega]; rfl
   rw [e]
   go_enter Tryz.func49, Tryz.ntmps49
   go_wp2
   go_ret
   exact ⟨rfl, rfl⟩
  ·by_cases h3 : (s.size : Int) < n
   ·have e : part s i n = ⟨#[]⟩ := by rw [part, show lies s.size i n = false from decide_eq_false fun h => by omega]; rfl
    rw [e]
    go_enter Tryz.func49, Tryz.ntmps49
    go_wp2
    go_ret
    exact ⟨rfl, rfl⟩
   ·by_cases h4 : (s.size : Int) - n < i
    ·have e : part s i n = ⟨#[]⟩ := by rw [part, show lies s.size i n = false from decide_eq_false fun h => by omega]; rfl
     rw [e]
     go_enter Tryz.func49, Tryz.ntmps49
     go_wp2
     go_ret
     exact ⟨rfl, rfl⟩
    ·have e : part s i n = s.extract i.toNat (i + n).toNat := by rw [part, show lies s.size i n = true from decide_eq_true (by omega)]; rfl
     rw [e]
     have h5 : i ≤ i + n := by omega
     have h6 : i + n ≤ (s.size : Int) := by omega
     go_enter Tryz.func49, Tryz.ntmps49
     go_wp2
     go_ret
     exact ⟨rfl, rfl⟩
end Go.Proofs.YtpkmeknniajahaaGreatDoor.B2
namespace Go.Proofs.YtpkmeknniajahaaGreatDoor.E4
open Go.ChangeShapes Go.WideShapes Go.ChangeAt Go.RowKit
def ino (s : ByteArray) : Int := B1.byteAt s 0
def name (s : ByteArray) : ByteArray := B2.part s 2 (B1.byteAt s 1)
def isE (s : ByteArray) : Bool := decide (s.size = 16) && ((E0.putE (ino s) (name s)).toList == s.toList)
def eIno (s : ByteArray) : Int := if isE s then ino s else 0
def eName (s : ByteArray) : ByteArray := if isE s then name s else ⟨#[]⟩
def getE (s : ByteArray) : Value := .tuple #[.agg #[.int .i64 (eIno s), .string (eName s)], .bool (isE s)]
theorem wf_of (n : Int) (h0 : -9223372036854775808 ≤ n) (h1 : n ≤ 9223372036854775807) : (Lit.int .i64 n).wf = true := by
 simp [Lit.wf, IntKind.min, IntKind.max, IntKind.signed, IntKind.bits]
 omega
theorem byteAt_lt (s : ByteArray) (i : Int) : 0 ≤ B1.byteAt s i ∧ B1.byteAt s i < 256 := by
 unfold B1.byteAt
 split
 ·rename_i h
  have := (s[i.toNat]'(by omega)).toNat_lt
  omega
 ·omega
theorem getE_no {s : ByteArray} (h : isE s = false) : getE s = .tuple #[.agg #[.int .i64 0, .string ⟨#[]⟩], .bool false] := by simp [getE, eIno, eName, h]
theorem getE_yes {s : ByteArray} (h : isE s = true) : getE s = .tuple #[.agg #[.int .i64 (ino s), .string (name s)], .bool true] := by simp [getE, eIno, eName, h]
structure Two (w : World) (B : Nat) (a : Int) (b : ByteArray) (W : World) : Prop where
 n : K0.Blk w.heap.size [.int .i64 0, .string ⟨#[]⟩] W
 m : K0.Blk B [.int .i64 a, .string b] W
 ne : w.heap.size < B
 bel : Below w.heap.size w W
theorem Two.below {w W W' : World} {B : Nat} {a : Int} {b : ByteArray} (h : Two w B a b W) (hb : Below W.heap.size W W') : Two w B a b W' := ⟨h.n.below hb, h.m.below hb, h.ne, h.bel.trans (hb.mono (Nat.le_of_lt h.n.lt))⟩
theorem two_new (w w1 : World) (a : Int) (b : ByteArray) (h : Below (w.alloc (.cells #[.int .i64 0, .string ⟨#[]⟩] 71)).heap.size (w.alloc (.cells #[.int .i64 0, .string ⟨#[]⟩] 71)) w1) :
  Two w w1.heap.size a b (w1.alloc (.cells #[.int .i64 a, .string b] 71)) := by
 have hs := h.size
 simp at hs
 exact ⟨((K0.blk_new [.int .i64 0, .string ⟨#[]⟩] w 71).below h).alloc _, K0.blk_new [.int .i64 a, .string b] w1 71, by omega, (((Below.refl _ _).alloc (Nat.le_refl _) _).trans (h.mono (by simp))).alloc (by omega) _⟩
theorem two_first (w : World) (a : Int) (b : ByteArray) : Two w (w.heap.size + 1) a b ((w.alloc (.cells #[.int .i64 0, .string ⟨#[]⟩] 71)).alloc (.cells #[.int .i64 a, .string b] 71)) := by
 have h := two_new w _ a b (Below.refl _ _)
 simpa using h
theorem ret_val {v u : Value} (h : v = u) : Ending.returned v = .returned u := by rw [h]
set_option maxHeartbeats 1000000 in
theorem spec_GetEntry (s : ByteArray) (w : World) (hs : s.size ≤ 281474976710656) :
  Calls Tryz.prog 94 #[.string s] w fun e w' => e = .returned (getE s) ∧ Below w.heap.size w w' := by
 have hm : s.size ≤ maxLen := by unfold maxLen; omega
 have k0 := byteAt_lt s 0
 have k1 := byteAt_lt s 1
 have hn : (B2.part s 2 (B1.byteAt s 1)).size ≤ 281474976710656 := by have := B2.part_size s 2 (B1.byteAt s 1); omega
 have v2 : (Lit.int .i64 2).wf = true := by decide
 have v1 := wf_of (B1.byteAt s 1) (by omega) (by omega)
 have t1 := two_first w (B1.byteAt s 0) (B2.part s 2 (B1.byteAt s 1))
 by_cases h16 : s.size = 16
 ·have g16 : ((s.size : Int) != 16) = false := by simp; omega
  by_cases hP : ((E0.putE (B1.byteAt s 0) (B2.part s 2 (B1.byteAt s 1))).toList == s.toList) = true
  ·have HR : Hid (getE s = .tuple #[.agg #[.int .i64 (B1.byteAt s 0), .string (B2.part s 2 (B1.byteAt s 1))], .bool true]) := getE_yes (by rw [isE, ino, name, hP, decide_eq_true h16]; rfl)
   go_enter Tryz.func94, Tryz.ntmps94
   go_wp2_with (first
    | (go_at_call 92; refine (B1.spec_ByteAt _ _ _ hm).mono ?_; rintro e w' ⟨rfl, rfl⟩)
    | (go_at_call 49; refine (B2.spec_Part _ _ _ _ hm v2 v1).mono ?_; rintro e w' ⟨rfl, rfl⟩)
    | (go_at_call 80; refine (E2.spec_PutEntry _ _ _ hn).mono ?_; rintro e w2 ⟨rfl, b2⟩; have t2 := t1.below b2; have c0 := t2.n.c0; have c1 := t2.n.c1; have f0 := t2.n.f0; have f1 := t2.n.f1; have d0 := t2.m.c0; have d1 := t2.m.c1))
   have q := t2.n.put2 (.int .i64 (B1.byteAt s 0)) (.string (B2.part s 2 (B1.byteAt s 1)))
   exact bodyPost_ret (v := .tuple #[.agg #[.int .i64 (B1.byteAt s 0), .string (B2.part s 2 (B1.byteAt s 1))], .bool true]) (by simp [results, Tryz.results94, go_sem, q.c0, q.c1]) rfl
    ⟨ret_val HR.out.symm, (t2.bel.setCell (p := ⟨w.heap.size, 0, none⟩) (Nat.le_refl _) _).setCell (p := ⟨w.heap.size, 1, none⟩) (Nat.le_refl _) _⟩
  ·have hP' : ((E0.putE (B1.byteAt s 0) (B2.part s 2 (B1.byteAt s 1))).toList == s.toList) = false := by simpa using hP
   have HR : Hid (getE s = .tuple #[.agg #[.int .i64 0, .string ⟨#[]⟩], .bool false]) := getE_no (by rw [isE, ino, name, hP', Bool.and_false])
   clear hP
   go_enter Tryz.func94, Tryz.ntmps94
   go_wp2_with (first
    | (go_at_call 92; refine (B1.spec_ByteAt _ _ _ hm).mono ?_; rintro e w' ⟨rfl, rfl⟩)
    | (go_at_call 49; refine (B2.spec_Part _ _ _ _ hm v2 v1).mono ?_; rintro e w' ⟨rfl, rfl⟩)
    | (go_at_call 80; refine (E2.spec_PutEntry _ _ _ hn).mono ?_; rintro e w2 ⟨rfl, b2⟩; have t2 := t1.below b2; have c0 := t2.n.c0; have c1 := t2.n.c1; have f0 := t2.n.f0; have f1 := t2.n.f1; have d0 := t2.m.c0; have d1 := t2.m.c1))
   have q := t2.n.put2 (.int .i64 0) (.string ⟨#[]⟩)
   exact bodyPost_ret (v := .tuple #[.agg #[.int .i64 0, .string ⟨#[]⟩], .bool false]) (by simp [results, Tryz.results94, go_sem, q.c0, q.c1]) rfl
    ⟨ret_val HR.out.symm, (t2.bel.setCell (p := ⟨w.heap.size, 0, none⟩) (Nat.le_refl _) _).setCell (p := ⟨w.heap.size, 1, none⟩) (Nat.le_refl _) _⟩
 ·have g16 : ((s.size : Int) != 16) = true := by simp; omega
  have HR : Hid (getE s = .tuple #[.agg #[.int .i64 0, .string ⟨#[]⟩], .bool false]) := getE_no (by rw [isE, decide_eq_false h16, Bool.false_and])
  have c0 := t1.n.c0
  have c1 := t1.n.c1
  have q := t1.n.put2 (.int .i64 0) (.string ⟨#[]⟩)
  go_enter Tryz.func94, Tryz.ntmps94
  go_wp2_with (first
   | (go_at_call 92; refine (B1.spec_ByteAt _ _ _ hm).mono ?_; rintro e w' ⟨rfl, rfl⟩)
   | (go_at_call 49; refine (B2.spec_Part _ _ _ _ hm v2 v1).mono ?_; rintro e w' ⟨rfl, rfl⟩))
  refine bodyPost_ret (v := .tuple #[.agg #[.int .i64 0, .string ⟨#[]⟩], .bool false]) (by simp [results, Tryz.results94, go_sem, q.c0, q.c1]) rfl
   ⟨ret_val HR.out.symm, ?_⟩
  go_grown
set_option maxHeartbeats 1000000 in
theorem impl_GetEntry (s : ByteArray) (w : World) (hs : s.size ≤ 281474976710656) :
  Calls Tryz.prog 116 #[.string s] w fun e w' => e = .returned (getE s) ∧ Below w.heap.size w w' := by
 have hm : s.size ≤ maxLen := by unfold maxLen; omega
 have hn : (B2.part s 2 (B1.byteAt s 1)).size ≤ 281474976710656 := by have := B2.part_size s 2 (B1.byteAt s 1); omega
 by_cases h16 : s.size = 16
 ·have g16 : ((s.size : Int) != 16) = false := by simp; omega
  by_cases hP : ((E0.putE (B1.byteAt s 0) (B2.part s 2 (B1.byteAt s 1))).toList == s.toList) = true
  ·have HR : Hid (getE s = .tuple #[.agg #[.int .i64 (B1.byteAt s 0), .string (B2.part s 2 (B1.byteAt s 1))], .bool true]) := getE_yes (by rw [isE, ino, name, hP, decide_eq_true h16]; rfl)
   go_enter Tryz.func116, Tryz.ntmps116
   go_wp2_with (first
    | (go_at_call 136; refine (B1.impl_ByteAt _ _ _ hm).mono ?_; rintro e w' ⟨rfl, rfl⟩)
    | (go_at_call 57; refine (B2.impl_Part _ _ _ _ hs).mono ?_; rintro e w1 ⟨rfl, b1⟩; have t1 := two_new w w1 (B1.byteAt s 0) (B2.part s 2 (B1.byteAt s 1)) b1)
    | (go_at_call 140; refine (E2.impl_PutEntry _ _ _ hn).mono ?_; rintro e w2 ⟨rfl, b2⟩; have t2 := t1.below b2; have c0 := t2.n.c0; have c1 := t2.n.c1; have f0 := t2.n.f0; have f1 := t2.n.f1; have d0 := t2.m.c0; have d1 := t2.m.c1))
   have q := t2.n.put2 (.int .i64 (B1.byteAt s 0)) (.string (B2.part s 2 (B1.byteAt s 1)))
   exact bodyPost_ret (v := .tuple #[.agg #[.int .i64 (B1.byteAt s 0), .string (B2.part s 2 (B1.byteAt s 1))], .bool true]) (by simp [results, Tryz.results116, go_sem, q.c0, q.c1]) rfl
    ⟨ret_val HR.out.symm, (t2.bel.setCell (p := ⟨w.heap.size, 0, none⟩) (Nat.le_refl _) _).setCell (p := ⟨w.heap.size, 1, none⟩) (Nat.le_refl _) _⟩
  ·have hP' : ((E0.putE (B1.byteAt s 0) (B2.part s 2 (B1.byteAt s 1))).toList == s.toList) = false := by simpa using hP
   have HR : Hid (getE s = .tuple #[.agg #[.int .i64 0, .string ⟨#[]⟩], .bool false]) := getE_no (by rw [isE, ino, name, hP', Bool.and_false])
   clear hP
   go_enter Tryz.func116, Tryz.ntmps116
   go_wp2_with (first
    | (go_at_call 136; refine (B1.impl_ByteAt _ _ _ hm).mono ?_; rintro e w' ⟨rfl, rfl⟩)
    | (go_at_call 57; refine (B2.impl_Part _ _ _ _ hs).mono ?_; rintro e w1 ⟨rfl, b1⟩; have t1 := two_new w w1 (B1.byteAt s 0) (B2.part s 2 (B1.byteAt s 1)) b1)
    | (go_at_call 140; refine (E2.impl_PutEntry _ _ _ hn).mono ?_; rintro e w2 ⟨rfl, b2⟩; have t2 := t1.below b2; have c0 := t2.n.c0; have c1 := t2.n.c1; have f0 := t2.n.f0; have f1 := t2.n.f1; have d0 := t2.m.c0; have d1 := t2.m.c1))
   have q := t2.n.put2 (.int .i64 0) (.string ⟨#[]⟩)
   exact bodyPost_ret (v := .tuple #[.agg #[.int .i64 0, .string ⟨#[]⟩], .bool false]) (by simp [results, Tryz.results116, go_sem, q.c0, q.c1]) rfl
    ⟨ret_val HR.out.symm, (t2.bel.setCell (p := ⟨w.heap.size, 0, none⟩) (Nat.le_refl _) _).setCell (p := ⟨w.heap.size, 1, none⟩) (Nat.le_refl _) _⟩
 ·have g16 : ((s.size : Int) != 16) = true := by simp; omega
  have HR : Hid (getE s = .tuple #[.agg #[.int .i64 0, .string ⟨#[]⟩], .bool false]) := getE_no (by rw [isE, decide_eq_false h16, Bool.false_and])
  go_enter Tryz.func116, Tryz.ntmps116
  go_wp2
  refine bodyPost_ret (v := .tuple #[.agg #[.int .i64 0, .string ⟨#[]⟩], .bool false]) (by simp [results, Tryz.results116, go_sem]) rfl
   ⟨ret_val HR.out.symm, ?_⟩
  go_grown
end Go.Proofs.YtpkmeknniajahaaGreatDoor.E4
namespace Go.Proofs.YtpkmeknniajahaaGreatDoor.V0
open Go
def chunk (s : ByteArray) (j : Nat) : ByteArray := B2.part s ((j : Int) * 16) 16
def ents (s : ByteArray) (k : Nat) : List T0.Ent := (List.range k).map fun (j : Nat) => (E4.eIno (chunk s j), E4.eName (chunk s j))
theorem ents_length (s : ByteArray) (k : Nat) : (ents s k).length = k := by simp [ents]
theorem ents_succ (s : ByteArray) (k : Nat) : ents s k ++ [(E4.eIno (chunk s k), E4.eName (chunk s k))] = ents s (k + 1) := by simp [ents, List.range_succ]
theorem ents_get (s : ByteArray) (k j : Nat) (h : j < k) : T0.ent (ents s k) j = (E4.eIno (chunk s j), E4.eName (chunk s j)) := by
 rw [T0.ent_get _ _ (by rw [ents_length]; exact h)]
 simp [ents]
def cnt (s : ByteArray) : Nat := min ((s.size + 15) / 16) 13
def isD (s : ByteArray) : Bool := decide (s.size = 0) || ((T0.putD (ents s (cnt s))).toList == s.toList)
def dE (s : ByteArray) : List T0.Ent := if isD s then ents s (cnt s) else []
theorem toList_eq {a b : ByteArray} (h : a.toList = b.toList) : a = b := by
 rw [Lib.toList_data, Lib.toList_data] at h
 exact ByteArray.ext (Array.toList_inj.1 h)
theorem chunk_eq (s : ByteArray) (j : Nat) (h : (j + 1) * 16 ≤ s.size) : chunk s j = s.extract (j * 16) (j * 16 + 16) := by
 rw [chunk, B2.part, show B2.lies s.size ((j : Int) * 16) 16 = true from decide_eq_true (by omega), if_pos rfl, show ((j : Int) * 16).toNat = j * 16 by omega, show ((j : Int) * 16 + 16).toNat = j * 16 + 16 by omega]
theorem isE_eq {x : ByteArray} (h : E4.isE x = true) : E0.putE (E4.eIno x) (E4.eName x) = x := by
 have h2 := h
 simp only [E4.isE, Bool.and_eq_true, beq_iff_eq] at h2
 rw [E4.eIno, E4.eName, if_pos h, if_pos h]
 exact toList_eq h2.2
theorem not_isE {x : ByteArray} (h : E4.isE x = false) : E4.eIno x = 0 ∧ E4.eName x = ⟨#[]⟩ := by simp [E4.eIno, E4.eName, h]
theorem entryOk_zero : E0.entryOk 0 ⟨#[]⟩ = false := by
 rw [E0.entryOk, show B1.inB 0 1 7 = false from by decide, Bool.and_false]
theorem ext_join (s : ByteArray) (a b : Nat) (h1 : a ≤ b) (h2 : b ≤ s.size) : s.extract 0 a ++ s.extract a b = s.extract 0 b := by
 apply ByteArray.ext
 apply Array.toList_inj.1
 simp only [ByteArray.data_append, Array.toList_append, Lib.extract_data, List.drop_zero, Nat.sub_zero]
 rw [← List.take_add, show a + (b - a) = b by omega]
theorem joined_ext (s : ByteArray) (n : Nat) (hE : ∀ j, j < n → E4.isE (chunk s j) = true) : ∀ k, k ≤ n → k * 16 ≤ s.size → T0.joined (ents s n) k = s.extract 0 (k * 16)
 | 0, _, _ => by
  apply ByteArray.ext
  simp [T0.joined]
 | k + 1, hk, hs => by
  rw [T0.joined, joined_ext s n hE k (by omega) (by omega), ents_get s n k (by omega), isE_eq (hE k (by omega)), chunk_eq s k (by omega), ext_join s _ _ (by omega) (by omega), show k * 16 + 16 = (k + 1) * 16 by omega]
theorem ext_all (s : ByteArray) : s.extract 0 s.size = s := by
 apply ByteArray.ext
 apply Array.toList_inj.1
 rw [Lib.extract_data]
 simp only [List.drop_zero, Nat.sub_zero]
 exact List.take_of_length_le (by rw [← Lib.size_eq]; exact Nat.le_refl _)
theorem isD_of {s : ByteArray} (h1 : s.size ≤ 192) (h2 : s.size % 16 = 0) (hE : ∀ j, j < s.size / 16 → E4.isE (chunk s j) = true) (hD : T0.dirOk (ents s (s.size / 16)) = true) : isD s = true ∧ cnt s = s.size / 16 := by
 have hc : cnt s = s.size / 16 := by unfold cnt; omega
 refine ⟨?_, hc⟩
 rw [isD, hc]
 have : T0.putD (ents s (s.size / 16)) = s := by
  rw [T0.putD, if_pos hD, ents_length, joined_ext s _ hE _ (Nat.le_refl _) (by omega), show s.size / 16 * 16 = s.size by omega]
  exact ext_all s
 rw [this]
 simp
theorem of_isD {s : ByteArray} (h : isD s = true) : s.size ≤ 192 ∧ s.size % 16 = 0 ∧ cnt s = s.size / 16 ∧ (∀ j, j < s.size / 16 → E4.isE (chunk s j) = true) ∧ T0.dirOk (ents s (s.size / 16)) = true := by
 by_cases h0 : s.size = 0
 ·refine ⟨by omega, by omega, by unfold cnt; omega, fun j hj => by omega, ?_⟩
  rw [h0]
  rfl
 ·rw [isD, decide_eq_false h0, Bool.false_or] at h
  have he : T0.putD (ents s (cnt s)) = s := toList_eq (by simpa using h)
  have hD : T0.dirOk (ents s (cnt s)) = true := by
   cases hb : T0.dirOk (ents s (cnt s)) with
   | true => rfl
   | false =>
    rw [T0.putD, hb] at he
    have := congrArg ByteArray.size he
    exact absurd this.symm h0
  have hd := hD
  simp only [T0.dirOk, Bool.and_eq_true, decide_eq_true_eq] at hd
  rw [ents_length] at hd
  have hsz : s.size = 16 * cnt s := by
   have := T0.joined_size hd.2 (cnt s) (Nat.le_refl _)
   rw [T0.putD, if_pos hD, ents_length] at he
   rw [he] at this
   exact this
  have hc : cnt s = s.size / 16 := by omega
  rw [← hc]
  refine ⟨by omega, by omega, rfl, fun j hj => ?_, hD⟩
  cases hb : E4.isE (chunk s j) with
  | true => rfl
  | false =>
   have h1 := (T0.okAt_entry (T0.okUpto_at hd.2 hj)).1
   rw [ents_get s _ j hj, (not_isE hb).1, (not_isE hb).2, entryOk_zero] at h1
   cases h1
end Go.Proofs.YtpkmeknniajahaaGreatDoor.V0
namespace Go.Proofs.YtpkmeknniajahaaGreatDoor.BZ
open List
theorem z : (∀ {α : Type} {xs : List α} {i : Nat} (h : i < xs.toArray.size), xs.toArray[i]'h = xs[i]'(by simpa using h)) ∧ (∀ {α : Type} {a : α} {zs : List α} {i : Nat} {h : i + 1 < (a :: zs).length}, getElem (a :: zs) (i + 1) h = getElem zs i (Nat.lt_of_succ_lt_succ h)) ∧ (∀ {α : Type} {a : α} {zs : List α} {h : 0 < (a :: zs).length}, getElem (a :: zs) 0 h = a) ∧ (∀ {α : Type} (l : List α) (i : Nat) (a : α), l.toArray.setIfInBounds i a = (l.set i a).toArray) ∧ (∀ {α : Type} {x y : α} {xs : List α} {i : Nat}, (x :: xs).set (i + 1) y = x :: xs.set i y) ∧ (∀ {α : Type} {x y : α} {xs : List α}, (x :: xs).set 0 y = y :: xs) :=
 ⟨getElem_toArray, getElem_cons_succ _ _ _ _, getElem_cons_zero _ _ _, fun _ _ _ => setIfInBounds_toArray .., set_cons_succ, set_cons_zero⟩
end Go.Proofs.YtpkmeknniajahaaGreatDoor.BZ
namespace Go.Proofs.YtpkmeknniajahaaGreatDoor.Y0
open Go.RowKit
variable {P : Program} {Q : Exit → Act → World → Prop} {ops : Array Oper}
theorem of_if {c : Prop} [Decidable c] {p q : Prop} (hc : c) (hp : p) : if c then p else q := by rw [if_pos hc]; exact hp
theorem one_call {S : World → Prop} {a : Act} {w : World} {i f : Nat} {o : Oper} {listed : Array Bool} {fuel : Nat} {md : Region.Mode} (hr : Region.ready md ops listed = [i]) (ho : ops[i]? = some o) (hg : o.guard = none)
  (x : Operand) (ts : Array TypeId) (hop : o.op = .call { callee := .value (.func f), args := #[x], argTypes := ts }) (v : Value) (hx : a.eval x = v) (eg : ∀ args w, (callFunc f args).run P w = .ok (.enter f args) w)
  (hc : Calls P f #[v] w fun e w' => ∃ u, e = .returned u ∧ S w' ∧ wpAnyH P md ops Q S fuel (listed.setIfInBounds i true) (a.put o.dst u) w') : wpAnyH P md ops Q S (fuel + 1) listed a w := by
 refine wpAnyH_all hr (by simp) ?_
 intro j hj
 obtain rfl : j = i := by simpa using hj
 unfold wpOp
 rw [ho]
 refine of_if (by rw [Region.wanted, hg]) (.inl ?_)
 have he : (execOp a.eval o).run P w = .ok (.enter f #[v]) w := by
  subst hx
  simp [execOp, hop, resolve, go_sem, invoke, eg]
 unfold Oper.wp
 rw [he]
 refine Calls.mono hc ?_
 rintro e w' ⟨u, rfl, h⟩
 exact h
theorem one_callw {S : World → Prop} {a : Act} {w : World} {i f : Nat} {o : Oper} {listed : Array Bool} {fuel : Nat} {md : Region.Mode} (hr : Region.ready md ops listed = [i]) (ho : ops[i]? = some o) (hw : Region.wanted o (yielded ops a.tmps) = true)
  (x : Operand) (ts : Array TypeId) (hop : o.op = .call { callee := .value (.func f), args := #[x], argTypes := ts }) (v : Value) (hx : a.eval x = v) (eg : ∀ args w, (callFunc f args).run P w = .ok (.enter f args) w)
  (hc : Calls P f #[v] w fun e w' => ∃ u, e = .returned u ∧ S w' ∧ wpAnyH P md ops Q S fuel (listed.setIfInBounds i true) (a.put o.dst u) w') : wpAnyH P md ops Q S (fuel + 1) listed a w := by
 refine wpAnyH_all hr (by simp) ?_
 intro j hj
 obtain rfl : j = i := by simpa using hj
 unfold wpOp
 rw [ho]
 refine of_if hw (.inl ?_)
 have he : (execOp a.eval o).run P w = .ok (.enter f #[v]) w := by
  subst hx
  simp [execOp, hop, resolve, go_sem, invoke, eg]
 unfold Oper.wp
 rw [he]
 refine Calls.mono hc ?_
 rintro e w' ⟨u, rfl, h⟩
 exact h
theorem one_call2w {S : World → Prop} {a : Act} {w : World} {i f : Nat} {o : Oper} {listed : Array Bool} {fuel : Nat} {md : Region.Mode} (hr : Region.ready md ops listed = [i]) (ho : ops[i]? = some o) (hw : Region.wanted o (yielded ops a.tmps) = true)
  (x y : Operand) (ts : Array TypeId) (hop : o.op = .call { callee := .value (.func f), args := #[x, y], argTypes := ts }) (v u1 : Value) (hx0 : a.eval x = v) (hx1 : a.eval y = u1) (eg : ∀ args w, (callFunc f args).run P w = .ok (.enter f args) w)
  (hc : Calls P f #[v, u1] w fun e w' => ∃ u, e = .returned u ∧ S w' ∧ wpAnyH P md ops Q S fuel (listed.setIfInBounds i true) (a.put o.dst u) w') : wpAnyH P md ops Q S (fuel + 1) listed a w := by
 refine wpAnyH_all hr (by simp) ?_
 intro j hj
 obtain rfl : j = i := by simpa using hj
 unfold wpOp
 rw [ho]
 refine of_if hw (.inl ?_)
 have he : (execOp a.eval o).run P w = .ok (.enter f #[v, u1]) w := by
  subst hx0 hx1
  simp [execOp, hop, resolve, go_sem, invoke, eg]
 unfold Oper.wp
 rw [he]
 refine Calls.mono hc ?_
 rintro e w' ⟨u, rfl, h⟩
 exact h
theorem one_plain {S : World → Prop} {a : Act} {w w' : World} {u : Value} {i : Nat} {o : Oper} {listed : Array Bool} {fuel : Nat} {md : Region.Mode} (hr : Region.ready md ops listed = [i]) (ho : ops[i]? = some o) (hw : Region.wanted o (yielded ops a.tmps) = true)
  (he : (execOp a.eval o).run P w = .ok (.value u) w') (hS : S w') (h : wpAnyH P md ops Q S fuel (listed.setIfInBounds i true) (a.put o.dst u) w') : wpAnyH P md ops Q S (fuel + 1) listed a w := by
 refine wpAnyH_all hr (by simp) ?_
 intro j hj
 obtain rfl : j = i := by simpa using hj
 unfold wpOp
 rw [ho]
 refine of_if hw (.inl ?_)
 unfold Oper.wp
 rw [he]
 exact ⟨hS, h⟩
end Go.Proofs.YtpkmeknniajahaaGreatDoor.Y0
