/- Joined texts: plain facts and contracts. -/
import Derived.Test.YtpkmeknniajahaaGreatDoorJnV
import Derived.Test.YtpkmeknniajahaaGreatDoorJnA
import Derived.Laws.IdiomStrings
import Derived.Test.YtpkmeknniajahaaGreatDoorJnB
import Derived.OwnWalk
import Derived.Test.YtpkmeknniajahaaGreatDoorJnD
import Derived.Test.YtpkmeknniajahaaGreatDoorJnC
import Derived.Deep.DeepCutAuto
import Derived.Test.YtpkmeknniajahaaGreatDoorJnH
import Derived.Test.YtpkmeknniajahaaGreatDoorJnG
import Derived.Test.YtpkmeknniajahaaGreatDoorJnM
import Derived.Test.YtpkmeknniajahaaGreatDoorJnK
import Derived.Test.YtpkmeknniajahaaGreatDoorJnN
import Derived.Test.YtpkmeknniajahaaGreatDoorJnP
import Derived.Deep.QuietTactic
import Derived.BigQuiet
import Derived.Test.YtpkmeknniajahaaGreatDoorJnQ
import Derived.Deep.LoopGhost
set_option linter.unusedVariables false
set_option linter.unusedSimpArgs false
set_option maxRecDepth 10000
namespace Go.Proofs.YtpkmeknniajahaaGreatDoor.C1
open Go.ChangeShapes Go.WideShapes Go.ChangeAt Go.RowKit C0
set_option maxHeartbeats 2000000 in
theorem below_any {w0 w : World} {c : Nat} {a : Option Addr} {len cap : Nat} (hcode : Given w0 a len) (h : St w0 w c a len cap) (hlen : len ≤ 1048576) (n : Int) (h0 : 0 < n) (h1 : n ≤ 2147483648) :
  Calls Tryz.prog 55 #[.pointer (some ⟨c, 0, none⟩), .int .i64 n] w fun e w' => (∃ x : Int, 0 ≤ x ∧ x < n ∧ e = .returned (.int .i64 x)) ∧ St w0 w' c a len cap ∧ w.grownBy w' (some c) := by
 have h0' : ¬ n ≤ 0 := by omega
 by_cases h2 : n ≤ 256
 ·go_enter Tryz.func55, Tryz.ntmps55
  go_wp2_with (go_at_call 81; refine (byte_any hcode h hlen).mono ?_; rintro e w1 ⟨⟨x, x0, x1, rfl⟩, s1, g1⟩)
  go_ret
  exact ⟨⟨_, Int.emod_nonneg _ (by omega), Int.emod_lt_of_pos _ h0, rfl⟩, s1, g1⟩
 ·go_enter Tryz.func55, Tryz.ntmps55
  go_wp2_with (first
   | (go_at_call 81; refine (byte_any hcode s3 hlen).mono ?_; rintro e w4 ⟨⟨x4, x40, x41, rfl⟩, s4, g4⟩)
   | (go_at_call 81; refine (byte_any hcode s2 hlen).mono ?_; rintro e w3 ⟨⟨x3, x30, x31, rfl⟩, s3, g3⟩)
   | (go_at_call 81; refine (byte_any hcode s1 hlen).mono ?_; rintro e w2 ⟨⟨x2, x20, x21, rfl⟩, s2, g2⟩)
   | (go_at_call 81; refine (byte_any hcode h hlen).mono ?_; rintro e w1 ⟨⟨x1, x10, x11, rfl⟩, s1, g1⟩))
  go_ret
  exact ⟨⟨_, Int.emod_nonneg _ (by omega), Int.emod_lt_of_pos _ h0, rfl⟩, s4, grown_trans (grown_trans (grown_trans g1 g2) g3) g4⟩
theorem once_any {w0 w : World} {c : Nat} {a : Option Addr} {len cap : Nat} (hcode : Given w0 a len) (h : St w0 w c a len cap) (hlen : len ≤ 1048576) (n : Int) (h0 : 0 < n) (h1 : n ≤ 2147483648) :
  Calls Tryz.prog 54 #[.pointer (some ⟨c, 0, none⟩), .int .i64 n] w fun e w' => (∃ x : Bool, e = .returned (.bool x)) ∧ St w0 w' c a len cap ∧ w.grownBy w' (some c) := by
 go_enter Tryz.func54, Tryz.ntmps54
 go_wp2_with (go_at_call 55; refine (below_any hcode h hlen n h0 h1).mono ?_; rintro e w1 ⟨⟨x, x0, x1, rfl⟩, s1, g1⟩)
 go_ret
 exact ⟨⟨_, rfl⟩, s1, g1⟩
structure Of (w : World) (l n : Nat) (Q : Value → Prop) : Prop where
 lt : l < w.heap.size
 cell : ∀ j, j < n → ∃ v, Q v ∧ w.cell? ⟨l, j, none⟩ = some v
theorem Of.grown {w w' : World} {l n c : Nat} {Q : Value → Prop} (h : Of w l n Q) (hg : w.grownBy w' (some c)) (hne : l ≠ c) : Of w' l n Q :=
 ⟨Nat.lt_of_lt_of_le h.lt hg.size, fun j hj => by
  obtain ⟨v, hv, hc⟩ := h.cell j hj
  refine ⟨v, hv, ?_⟩
  rw [World.cell?_of_block (a := ⟨l, j, none⟩) (hg.block l h.lt (fun e => hne (Option.some.inj e)))]
  exact hc⟩
theorem Of.new (w : World) (C : Array Value) (T : TypeId) (Q : Value → Prop) (h : ∀ j (hj : j < C.size), Q C[j]) : Of (w.alloc (.cells C T)) w.heap.size C.size Q :=
 ⟨by show _ < (w.heap.push _).size; simp, fun j hj => ⟨C[j], h j hj, by rw [World.cell?_alloc_mark, Array.getElem?_eq_getElem hj]⟩⟩
def IsInt (v : Value) : Prop := ∃ z : Int, (Lit.int .i64 z).wf = true ∧ v = .int .i64 z
theorem pickInt_any {w0 w : World} {c l n cp : Nat} {a : Option Addr} {len cap : Nat} (hcode : Given w0 a len) (h : St w0 w c a len cap) (hlen : len ≤ 1048576) (hof : Of w l n IsInt) (hne : l ≠ c) (h0 : 0 < n) (h1 : n ≤ 100) :
  Calls Tryz.prog 28 #[.pointer (some ⟨c, 0, none⟩), .slice (some ⟨l, 0, none⟩) n cp] w fun e w' => (∃ z : Int, (Lit.int .i64 z).wf = true ∧ e = .returned (.int .i64 z)) ∧ St w0 w' c a len cap ∧ w.grownBy w' (some c) := by
 go_enter Tryz.func28, Tryz.ntmps28
 go_wp2_with (go_at_call 55; refine (below_any hcode h hlen (n : Int) (by omega) (by omega)).mono ?_; rintro e w1 ⟨⟨x, x0, x1, rfl⟩, s1, g1⟩; obtain ⟨j, rfl⟩ : ∃ j : Nat, x = (j : Int) := ⟨x.toNat, by omega⟩; obtain ⟨v, ⟨z, wz, rfl⟩, hc⟩ := (hof.grown g1 hne).cell j (by omega))
 go_ret
 exact ⟨⟨z, wz, rfl⟩, s1, g1⟩
end Go.Proofs.YtpkmeknniajahaaGreatDoor.C1
namespace Go.Proofs.YtpkmeknniajahaaGreatDoor.C1
open Go.ChangeShapes Go.WideShapes Go.ChangeAt Go.RowKit C0
theorem info8 : (Tryz.prog.info? 5).map (fun i => (i.zero, i.size, i.bytes)) = some (some (.int .u8 0), 1, 1) := by kernel_rfl
abbrev bcells (l : List UInt8) : List Value := l.map fun b => Value.int .u8 (b.toNat : Int)
theorem one_byte (x : Int) : ∀ u ∈ [Value.int .u8 x], u.oneCell' = true := by
 intro u h
 simp at h
 subst h
 rfl
theorem holds_of_owns {w : World} {base : Nat} {e : TypeId} {g n cap : Nat} {l : List UInt8} (h : w.ownsRow base e 1 (.slice (some ⟨g, 0, none⟩) n cap) n (bcells l)) : B0.Holds w g 0 l := by
 intro j hj
 have := h.cells (g := g) rfl j (.int .u8 (l[j].toNat : Int)) (by simp [hj])
 rwa [B0.add_off] at this
end Go.Proofs.YtpkmeknniajahaaGreatDoor.C1
namespace Go.Proofs.YtpkmeknniajahaaGreatDoor.C1
open Go.ChangeShapes Go.WideShapes Go.ChangeAt Go.RowKit C0
theorem st_new {w : World} {a : Option Addr} {len cap : Nat} (x : Int) (T : TypeId) : St w (w.alloc (.cells #[.slice a len cap, .int .i64 0, .int .i64 x] T)) w.heap.size a len cap := by
 refine ⟨(Below.refl _ _).alloc (Nat.le_refl _) _, Nat.le_refl _, ⟨by show _ < (w.heap.push _).size; simp, ⟨0, x, Nat.zero_le _, ?_, ?_, ?_⟩, ?_, ?_⟩⟩
 ·rw [World.cell?_alloc_mark]; rfl
 ·rw [World.cell?_alloc_mark]; rfl
 ·rw [World.cell?_alloc_mark]; rfl
 ·have := World.frozen?_alloc_mark w #[.slice a len cap, .int .i64 0, .int .i64 x] T 0 0 1
  rw [this]; simp
 ·have := World.frozen?_alloc_mark w #[.slice a len cap, .int .i64 0, .int .i64 x] T 0 0 2
  rw [this]; simp
set_option maxHeartbeats 2000000 in
theorem new_any {w : World} {a : Option Addr} {len cap : Nat} (hcode : Given w a len) (hlen : len ≤ 1048576) :
  Calls Tryz.prog 22 #[.slice a len cap] w fun e w' => ∃ c, e = .returned (.pointer (some ⟨c, 0, none⟩)) ∧ St w w' c a len cap := by
 go_enter Tryz.func22, Tryz.ntmps22
 go_wp2
 go_loop [3, 4] (fun t i => ∃ (k : Nat) (x : Int), k ≤ len ∧ i = .int .i64 k ∧ t = .int .i64 x) (fun _ i => len - (intOf i).toNat)
 case atStart => exact ⟨0, _, Nat.zero_le _, rfl, rfl⟩
 case round =>
  obtain ⟨k, x, hk, rfl, rfl⟩ := hrel
  by_cases hlt : k < len
  ·have e1 : (0 : Int) ≤ (k : Int) := by omega
   have e2 : (k : Int) < (len : Int) := by omega
   obtain ⟨b, off, z, rfl, hb, z0, z1, hz⟩ := hcode k hlt
   by_cases h4 : (k : Int) < 4000
   ·go_wp2
    go_round
    case rel => exact ⟨k + 1, _, by omega, by go_num, rfl⟩
    case measure => simp [intOf]; omega
   ·have h4' : decide ((k : Int) < 4000) = false := by simpa using h4
    go_wp2
    go_ret
    exact ⟨_, rfl, st_new _ _⟩
  ·have hf : decide ((k : Int) < (len : Int)) = false := by simp; omega
   go_wp2
   go_ret
   exact ⟨_, rfl, st_new _ _⟩
end Go.Proofs.YtpkmeknniajahaaGreatDoor.C1
namespace Go.Proofs.YtpkmeknniajahaaGreatDoor.C1
open Go.ChangeShapes Go.WideShapes Go.ChangeAt Go.RowKit C0
theorem grown_new {w W1 W2 : World} {c g : Nat} (h : w.grownBy W1 (some c)) (h' : W1.grownBy W2 (some g)) (hg : w.heap.size ≤ g) : w.grownBy W2 (some c) :=
 ⟨h'.os.trans h.os, h'.tape.trans h.tape, h'.output.trans h.output, Nat.le_trans h.size h'.size, fun k hk hr => by
  rw [h'.block k (Nat.lt_of_lt_of_le hk h.size) (fun e => by have := Option.some.inj e; omega)]
  exact h.block k hk hr⟩
theorem grown_of_below {w W : World} {c : Nat} (h : Below w.heap.size w W) : w.grownBy W (some c) := ⟨h.os, h.tape, h.output, h.size, fun k hk _ => h.block k hk⟩
set_option maxHeartbeats 2000000 in
theorem bytes_grown {w0 w : World} {c : Nat} {a : Option Addr} {len cap : Nat} (hcode : Given w0 a len) (h : St w0 w c a len cap) (hlen : len ≤ 1048576) (n : Nat) (h1 : n ≤ 1048576) :
  Calls Tryz.prog 53 #[.pointer (some ⟨c, 0, none⟩), .int .i64 (n : Int)] w fun e w' => (∃ s : ByteArray, s.size = n ∧ e = .returned (.string s)) ∧ St w0 w' c a len cap ∧ w.grownBy w' (some c) := by
 obtain ⟨i0, hi, hz0, hz1, hz2⟩ := info_parts info8
 have hcl := h.cur.lt
 have hn0 := h.new
 go_enter Tryz.func53, Tryz.ntmps53
 go_wp2
 go_loopw [5, 6] (fun v i w' => ∃ (k : Nat) (l : List UInt8) (g cp : Nat), k ≤ n ∧ l.length = k ∧ i = .int .i64 k ∧ v = .slice (some ⟨g, 0, none⟩) k cp ∧ w.heap.size ≤ w'.heap.size ∧ w'.ownsRow w.heap.size 5 1 (.slice (some ⟨g, 0, none⟩) k cp) k (bcells l) ∧ St w0 w' c a len cap ∧ w.grownBy w' (some c)) (fun _ i _ => n - (intOf i).toNat)
 case atStart => exact ⟨0, [], _, _, Nat.zero_le _, rfl, rfl, rfl, by simp, World.ownsRow_made w #[] 0 (Nat.le_refl _) (Nat.zero_le _) rfl, h.below ((Below.refl _ _).alloc (Nat.le_refl _) _), grown_of_below ((Below.refl _ _).alloc (Nat.le_refl _) _)⟩
 case round =>
  obtain ⟨k, l, g, cp, hk, hl, rfl, rfl, hB, hown, hst, hgr⟩ := hrel
  have hg : w.heap.size ≤ g := (hown.lt g rfl).1
  by_cases hlt : k < n
  ·have hlt' : (k : Int) < (n : Int) := by omega
   go_wp2_with (first
    | (go_at_call 55; refine (below_any hcode hst hlen 256 (by omega) (by omega)).mono ?_; rintro e w1 ⟨⟨x, x0, x1, rfl⟩, s1, g1⟩; have hown1 := hown.kept g1 (Or.inr (by simp [Value.ownBlock]; omega)); have hB1 := Nat.le_trans hB g1.size)
    | (at_builtin; refine wpList_append_lies _ rfl (.tmp 13) (.tmp 17) 22 rfl w.heap.size 5 i0 (.int .u8 0) 1 1 Tryz.underlying22 hi hz0 hz1 hz2 rfl (by omega) _ _ _ (by rfl) (hown1.alloc _) ⟨w1.heap.size, 0, none⟩ 1 1 [.int .u8 x] (by rfl) rfl (World.news_of_block (heap_alloc_new w1 _)) (one_byte _) (by omega) (by unfold maxLen; omega) (by omega) (by simp; omega) _ rfl ?_; intro g2 cap2 w2 hown2 hgrow hat hlt2))
   go_roundw
   case rel =>
    refine ⟨k + 1, l ++ [UInt8.ofNat x.toNat], g2, cap2, by omega, by simp [hl], by go_num, rfl, ?_, ?_, ?_, ?_⟩
    ·exact Nat.le_trans (by simp; omega) hgrow.size
    ·have e : bcells (l ++ [UInt8.ofNat x.toNat]) = bcells l ++ [.int .u8 x] := by
      have : x.toNat < 256 := by omega
      simp [Nat.mod_eq_of_lt this]
      omega
     rw [e]
     exact hown2
    ·exact (s1.below ((Below.refl _ _).alloc (Nat.le_refl _) _)).grown (g := g) hgrow (by omega) (by omega)
    ·exact grown_new (grown_below (grown_trans hgr g1) ((Below.refl _ _).alloc (Nat.le_refl _) _)) hgrow hg
   case measure => simp [intOf]; omega
  ·obtain rfl : k = n := by omega
   have hcv := B0.conv_back (P := Tryz.prog) wr 22 9 5 g 0 cp l Tryz.underlying22 Tryz.underlying5 Tryz.underlying9 (holds_of_owns hown) k hl.symm
   go_wp2
   go_ret
   exact ⟨⟨⟨l.toArray⟩, by show l.toArray.size = _; simp [hl], rfl⟩, hst, hgr⟩
theorem st_other {w0 w : World} {c : Nat} {a : Option Addr} {len cap : Nat} (h : St w0 w c a len cap) {B j : Nat} (hne : B ≠ c) (hB : w0.heap.size ≤ B) (v : Value) : St w0 (w.setCell ⟨B, j, none⟩ v) c a len cap :=
 ⟨h.bel.setCell (p := ⟨B, j, none⟩) hB _, h.new, h.cur.of_block (by simpa using h.cur.lt) (Below.heap_setCell _ _ _ _ (Ne.symm hne))⟩
theorem blk_grown {B g : Nat} {vs : List Value} {w w' : World} (h : K0.Blk B vs w) (hg : w.grownBy w' (some g)) (hne : B ≠ g) : K0.Blk B vs w' := by
 have hb : w'.heap[B]? = w.heap[B]? := hg.block B h.lt (fun e => hne (Option.some.inj e))
 refine ⟨fun j hj => ?_, fun j hj => ?_, Nat.lt_of_lt_of_le h.lt hg.size⟩
 ·rw [World.cell?_of_block (a := ⟨B, j, none⟩) hb]
  exact h.cell j hj
 ·rw [World.frozen?_of_block (a := ⟨B, j, none⟩) hb]
  exact h.free j hj
theorem bytes_int {w0 w : World} {c : Nat} {a : Option Addr} {len cap : Nat} (hcode : Given w0 a len) (h : St w0 w c a len cap) (hlen : len ≤ 1048576) (n : Int) (h0 : 0 ≤ n) (h1 : n ≤ 1048576) :
  Calls Tryz.prog 53 #[.pointer (some ⟨c, 0, none⟩), .int .i64 n] w fun e w' => (∃ s : ByteArray, (s.size : Int) = n ∧ e = .returned (.string s)) ∧ St w0 w' c a len cap ∧ w.grownBy w' (some c) := by
 obtain ⟨m, rfl⟩ : ∃ m : Nat, n = (m : Int) := ⟨n.toNat, by omega⟩
 exact (bytes_grown hcode h hlen m (by omega)).mono fun e w' ⟨⟨s, hs, he⟩, h2⟩ => ⟨⟨s, by omega, he⟩, h2⟩
theorem wf_of (n : Int) (h0 : -9223372036854775808 ≤ n) (h1 : n ≤ 9223372036854775807) : (Lit.int .i64 n).wf = true := by
 simp [Lit.wf, IntKind.min, IntKind.max, IntKind.signed, IntKind.bits]
 omega
theorem wrap_of (n : Int) (h0 : -9223372036854775808 ≤ n) (h1 : n ≤ 9223372036854775807) : IntKind.i64.wrap n = n := by rw [IntKind.wrap_i64]; omega
theorem grown_setNew {w W : World} {c B j : Nat} {v : Value} (h : w.grownBy W (some c)) (hB : w.heap.size ≤ B) : w.grownBy (W.setCell ⟨B, j, none⟩ v) (some c) :=
 grown_new h (grown_set (grown_refl _ _) v) hB
theorem isInt {z : Int} (h0 : -9223372036854775808 ≤ z) (h1 : z ≤ 9223372036854775807) : IsInt (.int .i64 z) := ⟨z, wf_of z h0 h1, rfl⟩
theorem of_all {C : Array Value} {Q : Value → Prop} (h : ∀ v ∈ C.toList, Q v) : ∀ j (hj : j < C.size), Q C[j] := fun j hj => h _ (by simp)
def IsTxt (v : Value) : Prop := ∃ s : ByteArray, s.size ≤ 100 ∧ v = .string s
variable {a : Option Addr} {len cap : Nat}
theorem pickTxt {w0 w : World} {c l n cp : Nat} (hcode : Given w0 a len) (h : St w0 w c a len cap) (hlen : len ≤ 1048576) (hof : Of w l n IsTxt) (hne : l ≠ c) (h0 : 0 < n) (h1 : n ≤ 100) :
  Calls Tryz.prog 56 #[.pointer (some ⟨c, 0, none⟩), .slice (some ⟨l, 0, none⟩) n cp] w fun e w' => (∃ s : ByteArray, s.size ≤ 100 ∧ e = .returned (.string s)) ∧ St w0 w' c a len cap ∧ w.grownBy w' (some c) := by
 go_enter Tryz.func56, Tryz.ntmps56
 go_wp2_with (go_at_call 55; refine (below_any hcode h hlen (n : Int) (by omega) (by omega)).mono ?_; rintro e w1 ⟨⟨x, x0, x1, rfl⟩, s1, g1⟩; obtain ⟨j, rfl⟩ : ∃ j : Nat, x = (j : Int) := ⟨x.toNat, by omega⟩; obtain ⟨v, ⟨z, wz, rfl⟩, hc⟩ := (hof.grown g1 hne).cell j (by omega))
 go_ret
 exact ⟨⟨z, wz, rfl⟩, s1, g1⟩
theorem pickTxtNew {w0 W : World} {c : Nat} {C : Array Value} {cp : Nat} {T : TypeId} (hcode : Given w0 a len) (h : St w0 W c a len cap) (hlen : len ≤ 1048576) (hC : ∀ v ∈ C.toList, IsTxt v) (h0 : 0 < C.size) (h1 : C.size ≤ 100) :
  Calls Tryz.prog 56 #[.pointer (some ⟨c, 0, none⟩), .slice (some ⟨W.heap.size, 0, none⟩) C.size cp] (W.alloc (.cells C T)) fun e w' => (∃ s : ByteArray, s.size ≤ 100 ∧ e = .returned (.string s)) ∧ St w0 w' c a len cap ∧ (W.alloc (.cells C T)).grownBy w' (some c) :=
 pickTxt hcode (h.below (K0.below_new _ _)) hlen (Of.new W C T IsTxt (of_all hC)) (by have := h.cur.lt; omega) h0 h1
theorem pickNew {w0 W : World} {c : Nat} {C : Array Value} {cp : Nat} (hcode : Given w0 a len) (h : St w0 W c a len cap) (hlen : len ≤ 1048576) (hC : ∀ v ∈ C.toList, IsInt v) (h0 : 0 < C.size) (h1 : C.size ≤ 100) :
  Calls Tryz.prog 28 #[.pointer (some ⟨c, 0, none⟩), .slice (some ⟨W.heap.size, 0, none⟩) C.size cp] (W.alloc (.cells C 3)) fun e w' => (∃ z : Int, (Lit.int .i64 z).wf = true ∧ e = .returned (.int .i64 z)) ∧ St w0 w' c a len cap ∧ (W.alloc (.cells C 3)).grownBy w' (some c) :=
 pickInt_any hcode (h.below (K0.below_new _ _)) hlen (Of.new W C 3 IsInt (of_all hC)) (by have := h.cur.lt; omega) h0 h1
def shortV (v : Value) : Bool := match v with | .string s => decide (s.data.toList.length ≤ 100) | _ => false
theorem short_txt {v : Value} (h : shortV v = true) : IsTxt v := by
 cases v <;> simp [shortV] at h
 exact ⟨_, by show _ ≤ 100; rw [Lib.size_eq]; exact h, rfl⟩
theorem all_short {l : List Value} (h : l.all shortV = true) : ∀ v ∈ l, IsTxt v := fun v hv => short_txt (List.all_eq_true.1 h v hv)
end Go.Proofs.YtpkmeknniajahaaGreatDoor.C1
namespace Go.Proofs.YtpkmeknniajahaaGreatDoor.C1
open Go.ChangeShapes Go.WideShapes Go.ChangeAt Go.RowKit C0
structure Dv (w0 w : World) (c : Nat) (a : Option Addr) (len cap R B : Nat) (rs vs : List Value) (W : World) : Prop where
 st : St w0 W c a len cap
 res : K0.Blk R rs W
 dev : K0.Blk B vs W
 ne : R ≠ c ∧ B ≠ c ∧ R ≠ B
 old : w.heap.size ≤ R ∧ w.heap.size ≤ B ∧ w0.heap.size ≤ R ∧ w0.heap.size ≤ B
 gr : w.grownBy W (some c)
section
variable {w0 w W W' : World} {c : Nat} {a : Option Addr} {len cap R B : Nat} {rs vs : List Value}
theorem Dv.grown (h : Dv w0 w c a len cap R B rs vs W) (s : St w0 W' c a len cap) (g : W.grownBy W' (some c)) : Dv w0 w c a len cap R B rs vs W' :=
 ⟨s, blk_grown h.res g h.ne.1, blk_grown h.dev g h.ne.2.1, h.ne, h.old, grown_trans h.gr g⟩
theorem Dv.below (h : Dv w0 w c a len cap R B rs vs W) (hb : Below W.heap.size W W') : Dv w0 w c a len cap R B rs vs W' :=
 ⟨h.st.below hb, h.res.below hb, h.dev.below hb, h.ne, h.old, grown_below h.gr hb⟩
theorem Dv.drew (h : Dv w0 w c a len cap R B rs vs W) : Dv w0 w c a len cap R B rs vs W.drew := h.below (K0.below_drewN (Below.refl _ _) 1)
theorem Dv.alloc (h : Dv w0 w c a len cap R B rs vs W) (o : Obj) : Dv w0 w c a len cap R B rs vs (W.alloc o) := h.below (K0.below_new _ _)
theorem Dv.put (h : Dv w0 w c a len cap R B rs vs W) (j : Nat) (v : Value) : Dv w0 w c a len cap R B rs (vs.set j v) (W.setCell ⟨B, j, none⟩ v) :=
 ⟨st_other h.st h.ne.2.1 h.old.2.2.2 _, h.res.setOther (Ne.symm h.ne.2.2) _ _, h.dev.set j v, h.ne, h.old, grown_setNew h.gr h.old.2.1⟩
end
variable {w0 w : World} {c : Nat} {a : Option Addr} {len cap : Nat}
theorem laid_size (s : ByteArray) (i : Int) (t : ByteArray) : (B5.laid s i t).size = s.size := by
 unfold B5.laid
 split
 ·rename_i h
  obtain ⟨h0, h1, h2⟩ := B2.lies_true h
  rw [ByteArray.size_append, ByteArray.size_append, ByteArray.size_extract, ByteArray.size_extract]
  omega
 ·rfl
end Go.Proofs.YtpkmeknniajahaaGreatDoor.C1
namespace Go.Proofs.YtpkmeknniajahaaGreatDoor.C1
open Go.ChangeShapes Go.WideShapes Go.ChangeAt Go.RowKit C0
theorem ebuf_block {base n cp : Nat} {p : Option Addr} {W V : World} {es : List T0.Ent} (h : V1.EBuf base W p n cp es) (hk : ∀ g, (Value.slice p n cp).ownBlock = some g → V.heap[g]? = W.heap[g]?) : V1.EBuf base V p n cp es := by
 refine ⟨h.1, h.2.1, ?_⟩
 rcases h.2.2 with h0 | ⟨g, c, cur, hv, hbase, hc, hrest⟩
 ·exact Or.inl h0
 ·refine Or.inr ⟨g, c, cur, hv, hbase, ?_, hrest⟩
  rw [hk g (by rw [hv]; rfl)]
  exact hc
theorem ebuf_lt {base n cp g : Nat} {W : World} {es : List T0.Ent} (h : V1.EBuf base W (some ⟨g, 0, none⟩) n cp es) : base ≤ g ∧ g < W.heap.size := by
 have := h.2.lt g rfl
 exact ⟨this.1, by
  rcases h.2.2 with ⟨h0, _⟩ | ⟨g', c, cur, hv, hbase, hc, hrest⟩
  ·cases h0
  ·cases hv
   exact (Array.getElem?_eq_some_iff.1 hc).1⟩
structure Ld (w0 w : World) (c : Nat) (a : Option Addr) (len cap N g n cp : Nat) (es : List T0.Ent) (W : World) : Prop where
 st : St w0 W c a len cap
 gr : w.grownBy W (some c)
 buf : V1.EBuf w.heap.size W (some ⟨g, 0, none⟩) n cp es
 nm : Of W N 6 IsTxt
 ne : N ≠ c ∧ N ≠ g ∧ c < w.heap.size
section
variable {w0 w W W' : World} {c : Nat} {a : Option Addr} {len cap N g n cp : Nat} {es : List T0.Ent}
theorem Of.below {w W : World} {l n : Nat} {Q : Value → Prop} (h : Of w l n Q) (hb : Below w.heap.size w W) : Of W l n Q :=
 ⟨Nat.lt_of_lt_of_le h.lt hb.size, fun j hj => by
  obtain ⟨v, hv, hc⟩ := h.cell j hj
  exact ⟨v, hv, (hb.cell (p := ⟨l, j, none⟩) h.lt).trans hc⟩⟩
theorem Ld.below (h : Ld w0 w c a len cap N g n cp es W) (hb : Below W.heap.size W W') : Ld w0 w c a len cap N g n cp es W' :=
 ⟨h.st.below hb, grown_below h.gr hb, h.buf.below hb, h.nm.below hb, h.ne⟩
theorem Ld.grown (h : Ld w0 w c a len cap N g n cp es W) (s : St w0 W' c a len cap) (hg : W.grownBy W' (some c)) : Ld w0 w c a len cap N g n cp es W' := by
 have hl := ebuf_lt h.buf
 have := h.ne.2.2
 exact ⟨s, grown_trans h.gr hg, ebuf_block h.buf (fun g' e => by cases e; exact hg.block g hl.2 (fun e => by have := Option.some.inj e; omega)), h.nm.grown hg h.ne.1, h.ne⟩
theorem Ld.set (h : Ld w0 w c a len cap N g n cp es W) {E j : Nat} {v : Value} (h1 : E ≠ c) (h2 : E ≠ g) (h3 : E ≠ N) (h4 : w.heap.size ≤ E) (h5 : w0.heap.size ≤ E) : Ld w0 w c a len cap N g n cp es (W.setCell ⟨E, j, none⟩ v) := by
 refine ⟨st_other h.st h1 h5 _, grown_setNew h.gr h4, ebuf_block h.buf (fun g' e => by cases e; exact Below.heap_setCell _ _ _ _ (Ne.symm h2)), ⟨by simpa using h.nm.lt, fun i hi => ?_⟩, h.ne⟩
 obtain ⟨x, hx, hc⟩ := h.nm.cell i hi
 exact ⟨x, hx, (World.cell?_setCell_other _ _ _ _ (fun e => h3 (Addr.mk.inj e).1)).trans hc⟩
theorem Ld.step (h : Ld w0 w c a len cap N g n cp es W) {u : Int} {v : ByteArray} {g' cap' : Nat} {w' : World} (hb : V1.EBuf w.heap.size w' (some ⟨g', 0, none⟩) (n + 1) cap' (es ++ [(u, v)])) (hg : (W.alloc (.cells #[.int .i64 u, .string v] 71)).grownBy w' (Value.slice (some ⟨g, 0, none⟩) n cp).ownBlock)
  (hw : (Value.slice (some ⟨g, 0, none⟩) n cp).ownBlock = some g' ∨ g' = W.heap.size + 1) (hn0 : w0.heap.size ≤ c) : Ld w0 w c a len cap N g' (n + 1) cap' (es ++ [(u, v)]) w' := by
 have hl := ebuf_lt h.buf
 have h2 := h.below (K0.below_new W (.cells #[.int .i64 u, .string v] 71))
 have hnl := h.nm.lt
 have hg2 : (W.alloc (.cells #[.int .i64 u, .string v] 71)).grownBy w' (some g) := hg
 have hne := h.ne
 refine ⟨h2.st.grown (g := g) hg2 (by omega) (by omega), grown_new h2.gr hg2 hl.1, hb, h2.nm.grown hg2 h.ne.2.1, h.ne.1, ?_, h.ne.2.2⟩
 rcases hw with e | e
 ·cases e
  exact h.ne.2.1
 ·omega
end
variable {w0 w : World} {c : Nat} {a : Option Addr} {len cap : Nat}
end Go.Proofs.YtpkmeknniajahaaGreatDoor.C1
namespace Go.Proofs.YtpkmeknniajahaaGreatDoor.C1
open Go.ChangeShapes Go.WideShapes Go.ChangeAt Go.RowKit C0
variable {w0 w : World} {c : Nat} {a : Option Addr} {len cap : Nat}
theorem putD_size (es : List T0.Ent) : (T0.putD es).size ≤ 192 := by
 unfold T0.putD
 split
 ·rename_i h
  simp only [T0.dirOk, Bool.and_eq_true, decide_eq_true_eq] at h
  rw [T0.joined_size h.2 _ (Nat.le_refl _)]
  omega
 ·exact Nat.zero_le _
theorem mWith {W : World} (s : ByteArray) (i : Int) (t : ByteArray) (hs : s.size = 768) (ht : t.size ≤ 1000) (h : St w0 W c a len cap) (g : w.grownBy W (some c)) :
  Calls Tryz.prog 39 #[.string s, .int .i64 i, .string t] W fun e w' => (∃ u : ByteArray, u.size = 768 ∧ e = .returned (.string u)) ∧ St w0 w' c a len cap ∧ w.grownBy w' (some c) :=
 (B5.spec_With s i t W (by omega) (by omega)).mono fun e w' ⟨he, n, hw⟩ => ⟨⟨_, (laid_size s i t).trans hs, he⟩, by rw [hw]; exact h.drewN n, by rw [hw]; exact grown_drewN g n⟩
theorem mPut {W : World} (k o s : Int) (p : Option Addr) (cp : Nat) (zs : List Int) (hn : zs.length ≤ 100) (hcp : zs.length ≤ cp) (hR : P0.Row W p zs) (h : St w0 W c a len cap) (g : w.grownBy W (some c)) :
  Calls Tryz.prog 42 #[I0.val k o s p zs.length cp] W fun e w' => (∃ u : ByteArray, u.size ≤ 1000 ∧ e = .returned (.string u)) ∧ St w0 w' c a len cap ∧ w.grownBy w' (some c) :=
 (R2.spec_PutInode k o s p cp zs W (by omega) hcp hR).mono fun e w' ⟨he, hb⟩ => ⟨⟨_, Nat.le_trans (R0.putI_size _ _ _ _) (by omega), he⟩, h.below hb, grown_below g hb⟩
theorem mRec {W : World} (i : Int) (h : St w0 W c a len cap) (g : w.grownBy W (some c)) :
  Calls Tryz.prog 41 #[.int .i64 i] W fun e w' => (∃ x : Int, e = .returned (.int .i64 x)) ∧ St w0 w' c a len cap ∧ w.grownBy w' (some c) :=
 (L1.spec_RecAt i W).mono fun e w' ⟨he, hb⟩ => ⟨⟨_, he⟩, by rw [hb]; exact h, by rw [hb]; exact g⟩
theorem row_new (W : World) (zs : List Int) (C : Array Value) (hC : C = (zs.map fun z => Value.int .i64 z).toArray) : P0.Row (W.alloc (.cells C 3)) (some ⟨W.heap.size, 0, none⟩) zs := by
 subst hC
 refine Or.inr ⟨W.heap.size, 0, rfl, by simp, fun j hj => ?_⟩
 rw [World.cell?_alloc_mark]
 simp [hj]
set_option maxHeartbeats 4000000 in
theorem l03Mem (hcode : Given w0 a len) (h : St w0 w c a len cap) (hlen : len ≤ 1048576) :
  Calls Tryz.prog 23 #[.pointer (some ⟨c, 0, none⟩)] w fun e w' => (∃ u : ByteArray, u.size ≤ 768 ∧ e = .returned (.string u)) ∧ St w0 w' c a len cap ∧ w.grownBy w' (some c) := by
 have hg0 : w.grownBy w (some c) := grown_refl _ _
 obtain ⟨z, hz⟩ : ∃ z, B4.zeros 768 = z := ⟨_, rfl⟩
 have hzs : z.size = 768 := by rw [← hz, B4.zeros, if_pos (by omega), B4.nulls_size]; rfl
 have HZ : Hid (∀ W, Calls Tryz.prog 40 #[.int .i64 768] W fun e w' => e = .returned (.string z) ∧ W = w') := fun W => (B4.spec_Zeros 768 W).mono fun _ _ ⟨he, hb⟩ => ⟨by rw [he, hz], hb.symm⟩
 have hlit : (⟨#[84, 78, 82, 49]⟩ : ByteArray).size ≤ 1000 := show 4 ≤ 1000 by omega
 have HP : Hid (Calls Tryz.prog 52 #[.slice (some ⟨w.heap.size, 0, none⟩) 2 2] (w.alloc (.cells #[.int .i64 1, .string ⟨#[97]⟩, .int .i64 2, .string ⟨#[98]⟩] 71)) fun e w' => (∃ u : ByteArray, u.size ≤ 1000 ∧ e = .returned (.string u)) ∧ St w0 w' c a len cap ∧ w.grownBy w' (some c)) :=
  (T3.spec_PutDir (some ⟨w.heap.size, 0, none⟩) 2 [(1, ⟨#[97]⟩), (2, ⟨#[98]⟩)] _ (by simp) (by simp) (fun j hj => by match j, hj with | 0, _ => exact (show 1 ≤ 281474976710656 by omega) | 1, _ => exact (show 1 ≤ 281474976710656 by omega)) (Or.inr ⟨w.heap.size, 0, rfl, by simp, fun j hj => by
   match j, hj with
   | 0, _ => exact ⟨by rw [World.cell?_alloc_mark]; rfl, by rw [World.cell?_alloc_mark]; rfl⟩
   | 1, _ => exact ⟨by rw [World.cell?_alloc_mark]; rfl, by rw [World.cell?_alloc_mark]; rfl⟩⟩)).mono fun e w' ⟨he, hb⟩ => ⟨⟨_, Nat.le_trans (putD_size _) (by omega), he⟩, (h.below (K0.below_new w _)).below hb, grown_below (grown_of_below (K0.below_new w _)) hb⟩
 clear hz
 go_enter Tryz.func23, Tryz.ntmps23
 go_wp2_with (first
  | (go_at_call 40; refine (HZ.out _).mono ?_; rintro e v1 ⟨rfl, rfl⟩)
  | (go_at_call 52; refine HP.out.mono ?_; rintro e vd ⟨⟨ud, hud, rfl⟩, sd, gd⟩)
  | (go_at_call 41; refine (mRec (w0 := w0) (w := w) _ (by assumption) (by assumption)).mono ?_; rintro e vr ⟨⟨xr, rfl⟩, sr, gr⟩)
  | (go_at_call 42; have i3 := i2; refine (mPut (w0 := w0) (w := w) _ _ _ none 0 [] (by simp) (by simp) (Or.inl rfl) sr gr).mono ?_; rintro e vp ⟨⟨up, hup, rfl⟩, sp, gp⟩)
  | (go_at_call 42; have i2 := i1; refine (mPut (w0 := w0) (w := w) _ _ _ _ _ [7, 6] (by simp) (by simp) (row_new vr [7, 6] _ rfl) (sr.below (K0.below_new _ _)) (grown_below gr (K0.below_new _ _))).mono ?_; rintro e vp ⟨⟨up, hup, rfl⟩, sp, gp⟩)
  | (go_at_call 42; have i1 : True := trivial; refine (mPut (w0 := w0) (w := w) _ _ _ _ _ [5] (by simp) (by simp) (row_new vr [5] _ rfl) (sr.below (K0.below_new _ _)) (grown_below gr (K0.below_new _ _))).mono ?_; rintro e vp ⟨⟨up, hup, rfl⟩, sp, gp⟩)
  | (go_at_call 39; refine (mWith (w0 := w0) (w := w) _ _ _ (by assumption) (by assumption) (by assumption) (by assumption)).mono ?_; rintro e vm ⟨⟨um, hum, rfl⟩, sm, gm⟩; have hum1 : (1 : Int) ≤ (um.size : Int) := (by omega))
  | (go_at_call 53; have bl' := bl; refine (bytes_int hcode sbl hlen 1 (by omega) (by omega)).mono ?_; rintro e vb ⟨⟨ub, hub, rfl⟩, sb, gb0⟩; have gb := grown_trans gbl gb0; have hub2 : ub.size ≤ 1000 := (by omega))
  | (go_at_call 53; refine (bytes_int hcode sm hlen 64 (by omega) (by omega)).mono ?_; rintro e vb ⟨⟨ub, hub, rfl⟩, sb, gb0⟩; have gb := grown_trans gm gb0; have hub2 : ub.size ≤ 1000 := (by omega))
  | (go_at_call 54; have o2 := o1; refine (once_any hcode (by assumption) hlen 20 (by omega) (by omega)).mono ?_; rintro e vo ⟨⟨bo2, rfl⟩, so2, go20⟩; have go2 : w.grownBy vo (some c) := (by first | exact grown_trans gm go20 | exact grown_trans go1 go20))
  | (go_at_call 54; have o1 : True := trivial; refine (once_any hcode sm hlen 4 (by omega) (by omega)).mono ?_; rintro e vo ⟨⟨bo, rfl⟩, so, go0⟩; have go1 := grown_trans gm go0)
  | (go_at_call 55; have bl : True := trivial; refine (below_any hcode so hlen 200 (by omega) (by omega)).mono ?_; rintro e vl ⟨⟨xl, xl0, xl1, rfl⟩, sbl, gl0⟩; have gbl := grown_trans go1 gl0))
 all_goals go_ret
 all_goals first
  | exact ⟨⟨_, by rw [ByteArray.size_extract]; omega, rfl⟩, so2, go2⟩
  | exact ⟨⟨_, by omega, rfl⟩, so2, go2⟩
end Go.Proofs.YtpkmeknniajahaaGreatDoor.C1
namespace Go.Proofs.YtpkmeknniajahaaGreatDoor.C1
open Go.ChangeShapes Go.WideShapes Go.ChangeAt Go.RowKit C0
variable {w : World} {a : Option Addr} {len cap : Nat}
end Go.Proofs.YtpkmeknniajahaaGreatDoor.C1
namespace Go.Proofs.YtpkmeknniajahaaGreatDoor.S0
open Go.ChangeShapes Go.WideShapes Go.ChangeAt Go.RowKit
theorem sameInts (a1 a2 : Option Addr) (c1 c2 : Nat) (zs : List Int) (w : World) (hn : zs.length ≤ 281474976710656) (h1 : P0.Row w a1 zs) (h2 : P0.Row w a2 zs) :
  Calls Tryz.prog 15 #[.slice a1 zs.length c1, .slice a2 zs.length c2] w fun e w' => e = .returned (.bool true) ∧ ∃ n, w' = w.drewN n := by
 go_enter Tryz.func15, Tryz.ntmps15
 go_wp2
 go_loopw [5] (fun i w' => ∃ k n : Nat, k ≤ zs.length ∧ w' = w.drewN n ∧ i = .int .i64 k) (fun i _ => zs.length - (intOf i).toNat)
 case atStart => exact ⟨0, 0, Nat.zero_le _, rfl, rfl⟩
 case round =>
  obtain ⟨k, n, hk, rfl, rfl⟩ := hrel
  by_cases hlt : k < zs.length
  ·have e1 : (0 : Int) ≤ (k : Int) := by omega
   have e2 : (k : Int) < (zs.length : Int) := by omega
   obtain ⟨b1, off1, rfl, hb1, hc1⟩ := h1.get hlt
   obtain ⟨b2, off2, rfl, hb2, hc2⟩ := h2.get hlt
   have x1 := hc1 k hlt
   have x2 := hc2 k hlt
   obtain ⟨z, ez⟩ : ∃ z, zs.getD k 0 = z := ⟨_, rfl⟩
   rw [ez] at x1 x2
   clear ez hc1 hc2 h1 h2
   go_wp2
   go_quiet (fail)
   go_wp2
   go_roundw
   case rel => exact ⟨k + 1, _, by omega, rfl, by go_num⟩
   case measure => simp [intOf]; omega
  ·clear h1 h2
   go_wp2
   go_ret
   exact ⟨rfl, _, rfl⟩
end Go.Proofs.YtpkmeknniajahaaGreatDoor.S0
namespace Go.Proofs.YtpkmeknniajahaaGreatDoor.C1
open Go.ChangeShapes Go.WideShapes Go.ChangeAt Go.RowKit C0
variable {w w0 : World} {a : Option Addr} {len cap c : Nat}
theorem paths8 : ∀ v ∈ (#[Value.string ⟨#[47]⟩, Value.string ⟨#[47, 97]⟩, Value.string ⟨#[47, 98]⟩, Value.string ⟨#[47, 98, 47, 99]⟩, Value.string ⟨#[47, 98, 47, 100]⟩, Value.string ⟨#[47, 110, 111, 110, 101]⟩, Value.string ⟨#[]⟩, Value.string ⟨#[97]⟩] : Array Value).toList, IsTxt v := all_short (by kernel_rfl)
theorem owners6 : ∀ v ∈ (#[Value.int .i64 0, Value.int .i64 8, Value.int .i64 9, Value.int .i64 10, Value.int .i64 (-1), Value.int .i64 3] : Array Value).toList, IsInt v := by
 intro v hv
 simp at hv
 rcases hv with rfl | rfl | rfl | rfl | rfl | rfl <;> exact isInt (by omega) (by omega)
theorem l04PathOf (hcode : Given w0 a len) (h : St w0 w c a len cap) (hlen : len ≤ 1048576) :
  Calls Tryz.prog 24 #[.pointer (some ⟨c, 0, none⟩)] w fun e w' => (∃ s : ByteArray, s.size ≤ 100 ∧ e = .returned (.string s)) ∧ St w0 w' c a len cap := by
 go_enter Tryz.func24, Tryz.ntmps24
 go_wp2_with (go_at_call 56; refine (pickTxtNew hcode h hlen paths8 (show 0 < 8 by decide) (show 8 ≤ 100 by decide)).mono ?_; rintro e w1 ⟨⟨u, hu, rfl⟩, s1, g1⟩)
 go_ret
 exact ⟨⟨u, hu, rfl⟩, s1⟩
theorem draw_Find (hcode : Given w a len) (hlen : len ≤ 1048576) :
  Calls Tryz.prog 6 #[.slice a len cap] w fun e w' => ∃ (m p : ByteArray), m.size ≤ 768 ∧ p.size ≤ 100 ∧ e = .returned (.tuple #[.string m, .string p]) ∧ Below w.heap.size w w' := by
 go_enter Tryz.func6, Tryz.ntmps6
 go_wp2_with (first
  | (go_at_call 22; refine (new_any hcode hlen).mono ?_; rintro e w1 ⟨c, rfl, s1⟩)
  | (go_at_call 23; refine (l03Mem hcode s1 hlen).mono ?_; rintro e w2 ⟨⟨u, hu, rfl⟩, s2, g2⟩)
  | (go_at_call 24; refine (l04PathOf hcode s2 hlen).mono ?_; rintro e w3 ⟨⟨x, hx, rfl⟩, s3⟩))
 go_ret2
 exact ⟨u, x, hu, hx, rfl, s3.bel⟩
theorem draw_Format (hcode : Given w a len) (hlen : len ≤ 1048576) :
  Calls Tryz.prog 9 #[.slice a len cap] w fun e w' => ∃ z : Int, e = .returned (.int .i64 z) ∧ Below w.heap.size w w' := by
 go_enter Tryz.func9, Tryz.ntmps9
 go_wp2_with (first
  | (go_at_call 22; refine (new_any hcode hlen).mono ?_; rintro e w1 ⟨c, rfl, s1⟩)
  | (go_at_call 28; refine (pickNew hcode s1 hlen owners6 (show 0 < 6 by decide) (show 6 ≤ 100 by decide)).mono ?_; rintro e w2 ⟨⟨z, wz, rfl⟩, s2, g2⟩))
 go_ret
 exact ⟨z, rfl, s2.bel⟩
end Go.Proofs.YtpkmeknniajahaaGreatDoor.C1
namespace Go.Proofs.YtpkmeknniajahaaGreatDoor.S0
open Go.ChangeShapes Go.WideShapes Go.ChangeAt Go.RowKit
open FI (Fl ffl file_cells zf)
set_option maxHeartbeats 2000000 in
theorem sameFiles (g1 c1 g2 c2 : Nat) (l : List Fl) (w : World) (hl : l.length ≤ 8) (h1 : K0.Blk g1 (ffl l) w) (h2 : K0.Blk g2 (ffl l) w) :
  Calls Tryz.prog 11 #[.slice (some ⟨g1, 0, none⟩) l.length c1, .slice (some ⟨g2, 0, none⟩) l.length c2] w fun e w' => e = .returned (.bool true) ∧ ∃ n, w' = w.drewN n := by
 go_enter Tryz.func11, Tryz.ntmps11
 go_wp2
 go_loopw [5] (fun i w' => ∃ k n : Nat, k ≤ l.length ∧ w' = w.drewN n ∧ i = .int .i64 k) (fun i _ => l.length - (intOf i).toNat)
 case atStart => exact ⟨0, 0, Nat.zero_le _, rfl, rfl⟩
 case round =>
  obtain ⟨k, n, hk, rfl, rfl⟩ := hrel
  by_cases hlt : k < l.length
  ·obtain ⟨x0, x1, x2, x3, x4⟩ := file_cells h1 hlt
   obtain ⟨y0, y1, y2, y3, y4⟩ := file_cells h2 hlt
   obtain ⟨f, hf⟩ : ∃ f, l.getD k zf = f := ⟨_, rfl⟩
   rw [hf] at x0 x1 x2 x3 x4 y0 y1 y2 y3 y4
   have e1 : (0 : Int) ≤ (k : Int) := by omega
   have e2 : (k : Int) < (l.length : Int) := by omega
   clear hf h1 h2
   go_wp2
   go_quiet (fail)
   go_wp2
   go_roundw
   case rel => exact ⟨k + 1, _, by omega, rfl, by go_num⟩
   case measure => simp [intOf]; omega
  ·clear h1 h2
   go_wp2
   go_ret
   exact ⟨rfl, _, rfl⟩
end Go.Proofs.YtpkmeknniajahaaGreatDoor.S0
