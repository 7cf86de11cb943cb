/- Joined texts: plain facts and contracts. -/
import Derived.Test.YthbcefopbmkppaaGreatJlQ
import Derived.Test.YthbcefopbmkppaaGreatJlI
import Derived.Test.YthbcefopbmkppaaGreatJlF
import Derived.Test.YthbcefopbmkppaaGreatJlD
import Derived.Test.YthbcefopbmkppaaGreatJlG
import Derived.Test.YthbcefopbmkppaaGreatJlJ
import Derived.Deep.QuietTactic
import Derived.BigQuiet
set_option linter.unusedVariables false
set_option linter.unusedSimpArgs false
set_option maxRecDepth 10000
namespace Go.Proofs.YthbcefopbmkppaaGreat.C1
open Go.ChangeShapes Go.WideShapes Go.ChangeAt Go.RowKit C0
variable {w0 w : World} {c : Nat} {a : Option Addr} {len cap : Nat}
theorem putD_size (es : List T0.Ent) : (T0.putD es).size ≤ 192 := by
 unfold T0.putD
 split
 ·rename_i h
  simp only [T0.dirOk, Bool.and_eq_true, decide_eq_true_eq] at h
  rw [T0.joined_size h.2 _ (Nat.le_refl _)]
  omega
 ·exact Nat.zero_le _
theorem mWith {W : World} (s : ByteArray) (i : Int) (t : ByteArray) (hs : s.size = 768) (ht : t.size ≤ 1000) (h : St w0 W c a len cap) (g : w.grownBy W (some c)) :
  Calls Tryz.prog 24 #[.string s, .int .i64 i, .string t] W fun e w' => (∃ u : ByteArray, u.size = 768 ∧ e = .returned (.string u)) ∧ St w0 w' c a len cap ∧ w.grownBy w' (some c) :=
 (B5.spec_With s i t W (by omega) (by omega)).mono fun e w' ⟨he, n, hw⟩ => ⟨⟨_, (laid_size s i t).trans hs, he⟩, by rw [hw]; exact h.drewN n, by rw [hw]; exact grown_drewN g n⟩
theorem mPut {W : World} (k o s : Int) (p : Option Addr) (cp : Nat) (zs : List Int) (hn : zs.length ≤ 100) (hcp : zs.length ≤ cp) (hR : P0.Row W p zs) (h : St w0 W c a len cap) (g : w.grownBy W (some c)) :
  Calls Tryz.prog 54 #[I0.val k o s p zs.length cp] W fun e w' => (∃ u : ByteArray, u.size ≤ 1000 ∧ e = .returned (.string u)) ∧ St w0 w' c a len cap ∧ w.grownBy w' (some c) :=
 (R2.spec_PutInode k o s p cp zs W (by omega) hcp hR).mono fun e w' ⟨he, hb⟩ => ⟨⟨_, Nat.le_trans (R0.putI_size _ _ _ _) (by omega), he⟩, h.below hb, grown_below g hb⟩
theorem mRec {W : World} (i : Int) (h : St w0 W c a len cap) (g : w.grownBy W (some c)) :
  Calls Tryz.prog 25 #[.int .i64 i] W fun e w' => (∃ x : Int, e = .returned (.int .i64 x)) ∧ St w0 w' c a len cap ∧ w.grownBy w' (some c) :=
 (L1.spec_RecAt i W).mono fun e w' ⟨he, hb⟩ => ⟨⟨_, he⟩, by rw [hb]; exact h, by rw [hb]; exact g⟩
theorem row_new (W : World) (zs : List Int) (C : Array Value) (hC : C = (zs.map fun z => Value.int .i64 z).toArray) : P0.Row (W.alloc (.cells C 3)) (some ⟨W.heap.size, 0, none⟩) zs := by
 subst hC
 refine Or.inr ⟨W.heap.size, 0, rfl, by simp, fun j hj => ?_⟩
 rw [World.cell?_alloc_mark]
 simp [hj]
set_option maxHeartbeats 4000000 in
theorem l03Mem (hcode : Given w0 a len) (h : St w0 w c a len cap) (hlen : len ≤ 1048576) :
  Calls Tryz.prog 40 #[.pointer (some ⟨c, 0, none⟩)] w fun e w' => (∃ u : ByteArray, u.size ≤ 768 ∧ e = .returned (.string u)) ∧ St w0 w' c a len cap ∧ w.grownBy w' (some c) := by
 have hg0 : w.grownBy w (some c) := grown_refl _ _
 obtain ⟨z, hz⟩ : ∃ z, B4.zeros 768 = z := ⟨_, rfl⟩
 have hzs : z.size = 768 := by rw [← hz, B4.zeros, if_pos (by omega), B4.nulls_size]; rfl
 have HZ : Hid (∀ W, Calls Tryz.prog 27 #[.int .i64 768] W fun e w' => e = .returned (.string z) ∧ W = w') := fun W => (B4.spec_Zeros 768 W).mono fun _ _ ⟨he, hb⟩ => ⟨by rw [he, hz], hb.symm⟩
 have hlit : (⟨#[84, 78, 82, 49]⟩ : ByteArray).size ≤ 1000 := show 4 ≤ 1000 by omega
 have HP : Hid (Calls Tryz.prog 56 #[.slice (some ⟨w.heap.size, 0, none⟩) 2 2] (w.alloc (.cells #[.int .i64 1, .string ⟨#[97]⟩, .int .i64 2, .string ⟨#[98]⟩] 88)) fun e w' => (∃ u : ByteArray, u.size ≤ 1000 ∧ e = .returned (.string u)) ∧ St w0 w' c a len cap ∧ w.grownBy w' (some c)) :=
  (T3.spec_PutDir (some ⟨w.heap.size, 0, none⟩) 2 [(1, ⟨#[97]⟩), (2, ⟨#[98]⟩)] _ (by simp) (by simp) (fun j hj => by match j, hj with | 0, _ => exact (show 1 ≤ 281474976710656 by omega) | 1, _ => exact (show 1 ≤ 281474976710656 by omega)) (Or.inr ⟨w.heap.size, 0, rfl, by simp, fun j hj => by
   match j, hj with
   | 0, _ => exact ⟨by rw [World.cell?_alloc_mark]; rfl, by rw [World.cell?_alloc_mark]; rfl⟩
   | 1, _ => exact ⟨by rw [World.cell?_alloc_mark]; rfl, by rw [World.cell?_alloc_mark]; rfl⟩⟩)).mono fun e w' ⟨he, hb⟩ => ⟨⟨_, Nat.le_trans (putD_size _) (by omega), he⟩, (h.below (K0.below_new w _)).below hb, grown_below (grown_of_below (K0.below_new w _)) hb⟩
 clear hz
 go_enter Tryz.func40, Tryz.ntmps40
 go_wp2_with (first
  | (go_at_call 27; refine (HZ.out _).mono ?_; rintro e v1 ⟨rfl, rfl⟩)
  | (go_at_call 56; refine HP.out.mono ?_; rintro e vd ⟨⟨ud, hud, rfl⟩, sd, gd⟩)
  | (go_at_call 25; refine (mRec (w0 := w0) (w := w) _ (by assumption) (by assumption)).mono ?_; rintro e vr ⟨⟨xr, rfl⟩, sr, gr⟩)
  | (go_at_call 54; have i3 := i2; refine (mPut (w0 := w0) (w := w) _ _ _ none 0 [] (by simp) (by simp) (Or.inl rfl) sr gr).mono ?_; rintro e vp ⟨⟨up, hup, rfl⟩, sp, gp⟩)
  | (go_at_call 54; have i2 := i1; refine (mPut (w0 := w0) (w := w) _ _ _ _ _ [7, 6] (by simp) (by simp) (row_new vr [7, 6] _ rfl) (sr.below (K0.below_new _ _)) (grown_below gr (K0.below_new _ _))).mono ?_; rintro e vp ⟨⟨up, hup, rfl⟩, sp, gp⟩)
  | (go_at_call 54; have i1 : True := trivial; refine (mPut (w0 := w0) (w := w) _ _ _ _ _ [5] (by simp) (by simp) (row_new vr [5] _ rfl) (sr.below (K0.below_new _ _)) (grown_below gr (K0.below_new _ _))).mono ?_; rintro e vp ⟨⟨up, hup, rfl⟩, sp, gp⟩)
  | (go_at_call 24; refine (mWith (w0 := w0) (w := w) _ _ _ (by assumption) (by assumption) (by assumption) (by assumption)).mono ?_; rintro e vm ⟨⟨um, hum, rfl⟩, sm, gm⟩; have hum1 : (1 : Int) ≤ (um.size : Int) := (by omega))
  | (go_at_call 57; have bl' := bl; refine (bytes_int hcode sbl hlen 1 (by omega) (by omega)).mono ?_; rintro e vb ⟨⟨ub, hub, rfl⟩, sb, gb0⟩; have gb := grown_trans gbl gb0; have hub2 : ub.size ≤ 1000 := (by omega))
  | (go_at_call 57; refine (bytes_int hcode sm hlen 64 (by omega) (by omega)).mono ?_; rintro e vb ⟨⟨ub, hub, rfl⟩, sb, gb0⟩; have gb := grown_trans gm gb0; have hub2 : ub.size ≤ 1000 := (by omega))
  | (go_at_call 58; have o2 := o1; refine (once_any hcode (by assumption) hlen 20 (by omega) (by omega)).mono ?_; rintro e vo ⟨⟨bo2, rfl⟩, so2, go20⟩; have go2 : w.grownBy vo (some c) := (by first | exact grown_trans gm go20 | exact grown_trans go1 go20))
  | (go_at_call 58; have o1 : True := trivial; refine (once_any hcode sm hlen 4 (by omega) (by omega)).mono ?_; rintro e vo ⟨⟨bo, rfl⟩, so, go0⟩; have go1 := grown_trans gm go0)
  | (go_at_call 44; have bl : True := trivial; refine (below_any hcode so hlen 200 (by omega) (by omega)).mono ?_; rintro e vl ⟨⟨xl, xl0, xl1, rfl⟩, sbl, gl0⟩; have gbl := grown_trans go1 gl0))
 all_goals go_ret
 all_goals first
  | exact ⟨⟨_, by rw [ByteArray.size_extract]; omega, rfl⟩, so2, go2⟩
  | exact ⟨⟨_, by omega, rfl⟩, so2, go2⟩
end Go.Proofs.YthbcefopbmkppaaGreat.C1
namespace Go.Proofs.YthbcefopbmkppaaGreat.C1
open Go.ChangeShapes Go.WideShapes Go.ChangeAt Go.RowKit C0
variable {w : World} {a : Option Addr} {len cap : Nat}
end Go.Proofs.YthbcefopbmkppaaGreat.C1
namespace Go.Proofs.YthbcefopbmkppaaGreat.S0
open Go.ChangeShapes Go.WideShapes Go.ChangeAt Go.RowKit
theorem load_size {mem : ByteArray} {i : Int} (h : O0.isL mem i = true) : ((O0.lD mem i).size : Int) = O0.lS mem i := by
 have hl := h
 simp only [O0.isL, Bool.and_eq_true, decide_eq_true_eq] at hl
 obtain ⟨_, _, h3, _, h5⟩ := O0.l_yes h
 obtain ⟨⟨g0, g1⟩, g2, g3, g4, _⟩ := O0.got hl.2.1
 have hj := O0.joined_size hl.1 g4 _ (Nat.le_refl _)
 rw [h3, h5, ByteArray.size_extract, hj]
 omega
end Go.Proofs.YthbcefopbmkppaaGreat.S0
namespace Go.Proofs.YthbcefopbmkppaaGreat.V3b
open Go.ChangeShapes Go.WideShapes Go.ChangeAt Go.RowKit
open V1 (EBuf OwnE)
theorem wf_of (n : Int) (h0 : -9223372036854775808 ≤ n) (h1 : n ≤ 9223372036854775807) : (Lit.int .i64 n).wf = true := by
 simp [Lit.wf, IntKind.min, IntKind.max, IntKind.signed, IntKind.bits]
 omega
theorem get_any {s : ByteArray} {W : World} (hs : s.size ≤ 281474976710656) :
  Calls Tryz.prog 55 #[.string s] W fun e w' => e = .returned (.tuple #[.agg #[.int .i64 (E4.eIno s), .string (E4.eName s)], .bool (E4.isE s)]) ∧ Below W.heap.size W w' := E4.spec_GetEntry s W hs
theorem cnt_lt (s : ByteArray) (k : Nat) : k < V0.cnt s ↔ k * 16 < s.size ∧ k < 13 := by
 unfold V0.cnt
 omega
def Ans2 (w : World) (e : Ending) (w' : World) : Prop := ∃ a c es b, e = .returned (.tuple #[.slice a es.length c, .bool b]) ∧ EBuf w.heap.size w' a es.length c es ∧ es.length ≤ 13 ∧ T0.Fits es ∧ Below w.heap.size w w'
theorem fits_nil : T0.Fits [] := fun j hj => absurd hj (Nat.not_lt_zero _)
theorem yes2 {s : ByteArray} {w w' : World} {a : Option Addr} {c : Nat} (hs : s.size ≤ 281474976710656) (b : Bool) (h : EBuf w.heap.size w' a (V0.cnt s) c (V0.ents s (V0.cnt s))) (hb : Below w.heap.size w w') : Ans2 w (.returned (.tuple #[.slice a (V0.cnt s) c, .bool b])) w' := by
 have hl := V0.ents_length s (V0.cnt s)
 have hc13 : V0.cnt s ≤ 13 := Nat.min_le_right _ _
 refine ⟨a, c, V0.ents s (V0.cnt s), b, by rw [hl], by rw [hl]; exact h, by omega, V1.fits_ents s _ hs, hb⟩
theorem no2 {w w' : World} {a : Option Addr} {c : Nat} (b : Bool) (h : EBuf w.heap.size w' a 0 c []) (hb : Below w.heap.size w w') : Ans2 w (.returned (.tuple #[.slice a 0 c, .bool b])) w' := ⟨a, c, [], b, rfl, h, Nat.zero_le _, fits_nil, hb⟩
set_option maxHeartbeats 2000000 in
theorem spec_GetDir (s : ByteArray) (w : World) (hs : s.size ≤ 281474976710656) : Calls Tryz.prog 36 #[.string s] w (Ans2 w) := by
 have hm : s.size ≤ maxLen := by unfold maxLen; omega
 have HN : Hid (∀ a c w', EBuf w.heap.size w' a 0 c [] → Below w.heap.size w w' → Ans2 w (.returned (.tuple #[.slice a 0 c, .bool false])) w') := fun a c w' h hb => no2 _ h hb
 have HY : Hid (∀ a c w', EBuf w.heap.size w' a (V0.cnt s) c (V0.ents s (V0.cnt s)) → Below w.heap.size w w' → Ans2 w (.returned (.tuple #[.slice a (V0.cnt s) c, .bool true])) w') := fun a c w' h hb => yes2 hs _ h hb
 obtain ⟨R, hR⟩ : ∃ R, Ans2 w = R := ⟨_, rfl⟩
 rw [hR] at HN HY ⊢
 clear hR
 have hct := cnt_lt s
 have b0 := V1.ebuf_made w (Nat.le_refl _)
 have l0 := K0.below_new w (.cells #[] 88)
 go_enter Tryz.func36, Tryz.ntmps36
 go_wp2
 go_loopw [4, 5] (fun v i w' => ∃ (k c : Nat) (a : Option Addr), k ≤ V0.cnt s ∧ i = .int .i64 ((k : Int) * 16) ∧ v = .slice a k c ∧ EBuf w.heap.size w' a k c (V0.ents s k) ∧ Below w.heap.size w w') (fun _ i _ => 208 - (intOf i).toNat)
 case atStart => exact ⟨0, 0, _, Nat.zero_le _, rfl, rfl, b0, l0⟩
 case round =>
  obtain ⟨k, c, a, hk, rfl, rfl, hbuf, hbel⟩ := hrel
  clear b0 l0
  by_cases hlt : k < V0.cnt s
  ·obtain ⟨h1, h2⟩ := (hct k).1 hlt
   have e1 : (k : Int) * 16 < (s.size : Int) := by omega
   have e2 : (k : Int) * 16 < 208 := by omega
   have hcs : (V0.chunk s k).size ≤ 281474976710656 := by have := B2.part_size s ((k : Int) * 16) 16; unfold V0.chunk; omega
   have hpt : Hid (∀ W, Calls Tryz.prog 37 #[.string s, .int .i64 ((k : Int) * 16), .int .i64 16] W fun e w' => e = .returned (.string (V0.chunk s k)) ∧ W = w') := fun W => (B2.spec_Part _ _ _ _ hm (wf_of _ (by omega) (by omega)) (by decide)).mono fun _ _ h => ⟨h.1, h.2.symm⟩
   have HS : Hid (V0.ents s k ++ [(E4.eIno (V0.chunk s k), E4.eName (V0.chunk s k))] = V0.ents s (k + 1)) := V0.ents_succ s k
   clear hct
   go_wp2_with (first
    | (go_at_call 37; refine (hpt.out _).mono ?_; rintro e w1 ⟨rfl, rfl⟩)
    | (go_at_call 55; refine (get_any hcs).mono ?_; rintro e w2 ⟨rfl, b2⟩; have f2 := hbel.trans (b2.mono hbel.size); have u2 := (hbuf.below b2).alloc (.cells #[.int .i64 (E4.eIno (V0.chunk s k)), .string (E4.eName (V0.chunk s k))] 88); have f3 := f2.alloc f2.size (.cells #[.int .i64 (E4.eIno (V0.chunk s k)), .string (E4.eName (V0.chunk s k))] 88))
    | (at_builtin; refine V1.append_ent rfl (.tmp 26) (.tmp 28) rfl u2 _ _ (by rfl) (H := w2.heap.size + 1) (by simp) (by rfl) (by omega) f3.size ?_; intro g1 cap1 w4 hbuf4 bel4))
   go_roundw
   case rel => exact ⟨k + 1, cap1, _, by omega, by go_num, rfl, by rw [← HS.out]; exact hbuf4, f3.trans bel4⟩
   case measure => simp [intOf]; omega
  ·obtain rfl : k = V0.cnt s := by omega
   have hfit := hbuf.fits
   have hpd : Hid (Calls Tryz.prog 56 #[.slice a (V0.cnt s) c] wr fun e w' => e = .returned (.string (T0.putD (V0.ents s (V0.cnt s)))) ∧ Below wr.heap.size wr w') := by
    have hc13 : V0.cnt s ≤ 13 := Nat.min_le_right _ _
    have := T3.spec_PutDir a c (V0.ents s (V0.cnt s)) wr (by rw [V0.ents_length]; omega) (by rw [V0.ents_length]; exact hfit) (V1.fits_ents s _ hs) hbuf.own.row
    rw [V0.ents_length] at this
    exact this
   have hex : decide ((V0.cnt s : Int) * 16 < (s.size : Int)) = false ∨ ((V0.cnt s : Int) * 16 < (s.size : Int) ∧ decide ((V0.cnt s : Int) * 16 < 208) = false) := by
    by_cases h : (V0.cnt s : Int) * 16 < (s.size : Int)
    ·right
     refine ⟨h, ?_⟩
     simp
     by_cases h13 : V0.cnt s < 13
     ·exact absurd ((hct _).2 ⟨by omega, h13⟩) hlt
     ·omega
    ·left
     simpa using h
   clear hct hlt hk
   by_cases h0 : s.size = 0
   ·have hI : V0.isD s = true := by rw [V0.isD, decide_eq_true h0]; rfl
    have hemp : s.toList.isEmpty = true := by
     rw [Lib.toList_data]
     have : s.data.toList = [] := List.eq_nil_of_length_eq_zero (by rw [← Lib.size_eq]; exact h0)
     rw [this]
     rfl
    rcases hex with e3 | ⟨e4, e3⟩
    ·go_wp2
     exact HY.out _ _ _ hbuf hbel
    ·exfalso
     omega
   ·have hemp : s.toList.isEmpty = false := by
     rw [Lib.toList_data]
     cases hl : s.data.toList with
     | nil => rw [Lib.size_eq, hl] at h0; exact absurd rfl h0
     | cons x r => rfl
    by_cases hP : ((T0.putD (V0.ents s (V0.cnt s))).toList == s.toList) = true
    ·have hI : V0.isD s = true := by rw [V0.isD, hP, Bool.or_true]
     rcases hex with e3 | ⟨e4, e3⟩
     all_goals
      go_wp2_with (go_at_call 56; refine hpd.out.mono ?_; rintro e w2 ⟨rfl, b2⟩)
      exact HY.out _ _ _ (hbuf.below b2) (hbel.trans (b2.mono hbel.size))
    ·have hP' : ((T0.putD (V0.ents s (V0.cnt s))).toList == s.toList) = false := by simpa using hP
     have hI : V0.isD s = false := by rw [V0.isD, hP', decide_eq_false h0]; rfl
     rcases hex with e3 | ⟨e4, e3⟩
     all_goals
      go_wp2_with (go_at_call 56; refine hpd.out.mono ?_; rintro e w2 ⟨rfl, b2⟩; have f2 := hbel.trans (b2.mono hbel.size); have f3 := f2.alloc f2.size (.cells #[] 88))
      exact HN.out _ _ _ (V1.ebuf_made w2 f2.size) f3
end Go.Proofs.YthbcefopbmkppaaGreat.V3b
