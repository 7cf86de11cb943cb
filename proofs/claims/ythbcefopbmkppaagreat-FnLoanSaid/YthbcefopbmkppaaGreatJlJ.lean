/- Joined texts: plain facts and contracts. -/
import Derived.Test.YthbcefopbmkppaaGreatJlI
import Derived.Test.YthbcefopbmkppaaGreatJlH
import Derived.Test.YthbcefopbmkppaaGreatJlF
set_option linter.unusedVariables false
set_option linter.unusedSimpArgs false
set_option maxRecDepth 10000
namespace Go.Proofs.YthbcefopbmkppaaGreat.V2
open Go.ChangeShapes Go.WideShapes Go.ChangeAt Go.RowKit
open V1 (Ans ans_no ans_yes EBuf OwnE)
theorem get_lit {s : ByteArray} {W : World} {r : Bool} (hs : s.size ≤ 281474976710656) (hr : E4.isE s = r) :
  Calls Tryz.prog 78 #[.string s] W fun e w' => e = .returned (.tuple #[.agg #[.int .i64 (E4.eIno s), .string (E4.eName s)], .bool r]) ∧ Below W.heap.size W w' :=
 (E4.impl_GetEntry s W hs).mono fun _ _ ⟨he, hb⟩ => ⟨by rw [he, E4.getE, hr], hb⟩
set_option maxHeartbeats 2000000 in
theorem impl_GetDir (s : ByteArray) (w : World) (hs : s.size ≤ 281474976710656) : Calls Tryz.prog 66 #[.string s] w (Ans s w) := by
 have HN : Hid (∀ a c w', V0.isD s = false → Below w.heap.size w w' → Ans s w (.returned (.tuple #[.slice a 0 c, .bool false])) w') := fun a c w' h hb => ans_no h hb
 have HF : Hid (∀ k, V0.isD s = true → k < s.size / 16 → E4.isE (V0.chunk s k) = true) := fun k h hk => (V0.of_isD h).2.2.2.1 k hk
 have HD : Hid (V0.isD s = true → T0.dirOk (V0.ents s (s.size / 16)) = true) := fun h => (V0.of_isD h).2.2.2.2
 have HY : Hid (∀ a c w', s.size ≤ 192 → s.size % 16 = 0 → (∀ j, j < s.size / 16 → E4.isE (V0.chunk s j) = true) → T0.dirOk (V0.ents s (s.size / 16)) = true → OwnE w.heap.size w' a (V0.ents s (s.size / 16)) → s.size / 16 ≤ c → Below w.heap.size w w' → Ans s w (.returned (.tuple #[.slice a (s.size / 16) c, .bool true])) w') := fun a c w' h1 h2 h3 h4 ho hc hb => by
  obtain ⟨hi, hk⟩ := V0.isD_of h1 h2 h3 h4
  rw [← hk] at ho hc ⊢
  exact ans_yes hi ho hc hb
 obtain ⟨R, hR⟩ : ∃ R, Ans s w = R := ⟨_, rfl⟩
 by_cases h1 : 192 < (s.size : Int)
 ·have hi : V0.isD s = false := by
   cases h : V0.isD s with
   | false => rfl
   | true => have := (V0.of_isD h).1; omega
  rw [hR] at HN ⊢
  go_enter Tryz.func66, Tryz.ntmps66
  go_wp2
  exact HN.out _ _ _ hi (K0.below_new _ _)
 ·by_cases h2 : s.size % 16 = 0
  ·have h2' : ((s.size : Int) % 16 != 0) = false := by simp; omega
   have b0 := V1.ebuf_made w (Nat.le_refl _)
   have l0 := K0.below_new w (.cells #[] 88)
   rw [hR] at HN HY ⊢
   clear hR
   go_enter Tryz.func66, Tryz.ntmps66
   go_wp2
   go_loopw [4, 5] (fun v i w' => ∃ (k c : Nat) (a : Option Addr), k ≤ s.size / 16 ∧ (∀ j, j < k → E4.isE (V0.chunk s j) = true) ∧ i = .int .i64 ((k : Int) * 16) ∧ v = .slice a k c ∧ EBuf w.heap.size w' a k c (V0.ents s k) ∧ Below w.heap.size w w') (fun _ i _ => s.size - (intOf i).toNat)
   case atStart => exact ⟨0, 0, _, Nat.zero_le _, fun j hj => absurd hj (Nat.not_lt_zero _), rfl, rfl, b0, l0⟩
   case round =>
    obtain ⟨k, c, a, hk, hE, rfl, rfl, hbuf, hbel⟩ := hrel
    clear b0 l0
    by_cases hlt : k < s.size / 16
    ·have e1 : (k : Int) * 16 < (s.size : Int) := by omega
     have hcs : (V0.chunk s k).size ≤ 281474976710656 := by have := B2.part_size s ((k : Int) * 16) 16; unfold V0.chunk; omega
     have hpt : Hid (∀ W, Calls Tryz.prog 16 #[.string s, .int .i64 ((k : Int) * 16), .int .i64 16] W fun e w' => e = .returned (.string (V0.chunk s k)) ∧ Below W.heap.size W w') := fun W => B2.impl_Part _ _ _ _ hs
     have HS : Hid (V0.ents s k ++ [(E4.eIno (V0.chunk s k), E4.eName (V0.chunk s k))] = V0.ents s (k + 1)) := V0.ents_succ s k
     by_cases hi : E4.isE (V0.chunk s k) = true
     ·have HE : Hid (∀ j, j < k + 1 → E4.isE (V0.chunk s j) = true) := fun j hj => by
       by_cases e : j = k
       ·rw [e]; exact hi
       ·exact hE j (by omega)
      clear hE
      go_wp2_with (first
       | (go_at_call 16; refine (hpt.out _).mono ?_; rintro e w1 ⟨rfl, b1⟩; have f1 := hbel.trans (b1.mono hbel.size))
       | (go_at_call 78; refine (get_lit hcs hi).mono ?_; rintro e w2 ⟨rfl, b2⟩; have f2 := f1.trans (b2.mono f1.size); have u2 := ((hbuf.below b1).below b2).alloc (.cells #[.int .i64 (E4.eIno (V0.chunk s k)), .string (E4.eName (V0.chunk s k))] 88); have f3 := f2.alloc f2.size (.cells #[.int .i64 (E4.eIno (V0.chunk s k)), .string (E4.eName (V0.chunk s k))] 88))
       | (at_builtin; refine V1.append_ent rfl (.tmp 35) (.tmp 37) rfl u2 _ _ (by rfl) (H := w2.heap.size + 1) (by simp) (by rfl) (by omega) f3.size ?_; intro g1 cap1 w4 hbuf4 bel4))
      go_roundw
      case rel => exact ⟨k + 1, cap1, _, by omega, HE.out, by go_num, rfl, by rw [← HS.out]; exact hbuf4, f3.trans bel4⟩
      case measure => simp [intOf]; omega
     ·have hi' : E4.isE (V0.chunk s k) = false := by simpa using hi
      have hn : V0.isD s = false := by
       cases h : V0.isD s with
       | false => rfl
       | true => exact absurd (HF.out k h hlt) hi
      clear hE
      go_wp2_with (first
       | (go_at_call 16; refine (hpt.out _).mono ?_; rintro e w1 ⟨rfl, b1⟩; have f1 := hbel.trans (b1.mono hbel.size))
       | (go_at_call 78; refine (get_lit hcs hi').mono ?_; rintro e w2 ⟨rfl, b2⟩; have f2 := f1.trans (b2.mono f1.size); have f3 := f2.alloc f2.size (.cells #[.int .i64 (E4.eIno (V0.chunk s k)), .string (E4.eName (V0.chunk s k))] 88); have f4 := f3.alloc f3.size (.cells #[] 88)))
      exact HN.out _ _ _ hn f4
    ·obtain rfl : k = s.size / 16 := by omega
     have e1 : ¬ ((s.size / 16 : Nat) : Int) * 16 < (s.size : Int) := by omega
     have hfit := hbuf.fits
     have hdl : Hid (∀ r, T0.dirOk (V0.ents s (s.size / 16)) = r → Calls Tryz.prog 79 #[.slice a (s.size / 16) c] wr fun e w' => e = .returned (.bool r) ∧ Below wr.heap.size wr w') := fun r hr => by
      have := T2.dir_lit (a := a) (c := c) (W := wr) (es := V0.ents s (s.size / 16)) (by rw [V0.ents_length]; omega) (by rw [V0.ents_length]; exact hfit) (V1.fits_ents s _ hs) hbuf.own.row hr
      rw [V0.ents_length] at this
      exact this
     by_cases hd : T0.dirOk (V0.ents s (s.size / 16)) = true
     ·go_wp2_with (go_at_call 79; refine (hdl.out true hd).mono ?_; rintro e w1 ⟨rfl, b1⟩)
      exact HY.out _ _ _ (by omega) h2 hE hd (hbuf.own.below b1) hfit (hbel.trans (b1.mono hbel.size))
     ·have hd' : T0.dirOk (V0.ents s (s.size / 16)) = false := by simpa using hd
      have hn : V0.isD s = false := by
       cases h : V0.isD s with
       | false => rfl
       | true => exact absurd (HD.out h) hd
      go_wp2_with (go_at_call 79; refine (hdl.out false hd').mono ?_; rintro e w1 ⟨rfl, b1⟩; have f1 := hbel.trans (b1.mono hbel.size); have f2 := f1.alloc f1.size (.cells #[] 88))
      exact HN.out _ _ _ hn f2
  ·have h2' : ((s.size : Int) % 16 != 0) = true := by simp; omega
   have hi : V0.isD s = false := by
    cases h : V0.isD s with
    | false => rfl
    | true => exact absurd (V0.of_isD h).2.1 h2
   rw [hR] at HN ⊢
   go_enter Tryz.func66, Tryz.ntmps66
   go_wp2
   exact HN.out _ _ _ hi (K0.below_new _ _)
end Go.Proofs.YthbcefopbmkppaaGreat.V2
namespace Go.Proofs.YthbcefopbmkppaaGreat.V3
open Go.ChangeShapes Go.WideShapes Go.ChangeAt Go.RowKit
open V1 (Ans ans_no ans_yes EBuf OwnE)
theorem wf_of (n : Int) (h0 : -9223372036854775808 ≤ n) (h1 : n ≤ 9223372036854775807) : (Lit.int .i64 n).wf = true := by
 simp [Lit.wf, IntKind.min, IntKind.max, IntKind.signed, IntKind.bits]
 omega
theorem get_any {s : ByteArray} {W : World} (hs : s.size ≤ 281474976710656) :
  Calls Tryz.prog 55 #[.string s] W fun e w' => e = .returned (.tuple #[.agg #[.int .i64 (E4.eIno s), .string (E4.eName s)], .bool (E4.isE s)]) ∧ Below W.heap.size W w' := E4.spec_GetEntry s W hs
theorem cnt_lt (s : ByteArray) (k : Nat) : k < V0.cnt s ↔ k * 16 < s.size ∧ k < 13 := by
 unfold V0.cnt
 omega
set_option maxHeartbeats 2000000 in
theorem spec_GetDir (s : ByteArray) (w : World) (hs : s.size ≤ 281474976710656) : Calls Tryz.prog 36 #[.string s] w (Ans s w) := by
 have hm : s.size ≤ maxLen := by unfold maxLen; omega
 have HN : Hid (∀ a c w', V0.isD s = false → Below w.heap.size w w' → Ans s w (.returned (.tuple #[.slice a 0 c, .bool false])) w') := fun a c w' h hb => ans_no h hb
 have HY : Hid (∀ a c w', V0.isD s = true → OwnE w.heap.size w' a (V0.ents s (V0.cnt s)) → V0.cnt s ≤ c → Below w.heap.size w w' → Ans s w (.returned (.tuple #[.slice a (V0.cnt s) c, .bool true])) w') := fun a c w' h1 ho hc hb => ans_yes h1 ho hc hb
 obtain ⟨R, hR⟩ : ∃ R, Ans s w = R := ⟨_, rfl⟩
 rw [hR] at HN HY ⊢
 clear hR
 have hct := cnt_lt s
 have b0 := V1.ebuf_made w (Nat.le_refl _)
 have l0 := K0.below_new w (.cells #[] 88)
 go_enter Tryz.func36, Tryz.ntmps36
 go_wp2
 go_loopw [4, 5] (fun v i w' => ∃ (k c : Nat) (a : Option Addr), k ≤ V0.cnt s ∧ i = .int .i64 ((k : Int) * 16) ∧ v = .slice a k c ∧ EBuf w.heap.size w' a k c (V0.ents s k) ∧ Below w.heap.size w w') (fun _ i _ => 208 - (intOf i).toNat)
 case atStart => exact ⟨0, 0, _, Nat.zero_le _, rfl, rfl, b0, l0⟩
 case round =>
  obtain ⟨k, c, a, hk, rfl, rfl, hbuf, hbel⟩ := hrel
  clear b0 l0
  by_cases hlt : k < V0.cnt s
  ·obtain ⟨h1, h2⟩ := (hct k).1 hlt
   have e1 : (k : Int) * 16 < (s.size : Int) := by omega
   have e2 : (k : Int) * 16 < 208 := by omega
   have hcs : (V0.chunk s k).size ≤ 281474976710656 := by have := B2.part_size s ((k : Int) * 16) 16; unfold V0.chunk; omega
   have hpt : Hid (∀ W, Calls Tryz.prog 37 #[.string s, .int .i64 ((k : Int) * 16), .int .i64 16] W fun e w' => e = .returned (.string (V0.chunk s k)) ∧ W = w') := fun W => (B2.spec_Part _ _ _ _ hm (wf_of _ (by omega) (by omega)) (by decide)).mono fun _ _ h => ⟨h.1, h.2.symm⟩
   have HS : Hid (V0.ents s k ++ [(E4.eIno (V0.chunk s k), E4.eName (V0.chunk s k))] = V0.ents s (k + 1)) := V0.ents_succ s k
   clear hct
   go_wp2_with (first
    | (go_at_call 37; refine (hpt.out _).mono ?_; rintro e w1 ⟨rfl, rfl⟩)
    | (go_at_call 55; refine (get_any hcs).mono ?_; rintro e w2 ⟨rfl, b2⟩; have f2 := hbel.trans (b2.mono hbel.size); have u2 := (hbuf.below b2).alloc (.cells #[.int .i64 (E4.eIno (V0.chunk s k)), .string (E4.eName (V0.chunk s k))] 88); have f3 := f2.alloc f2.size (.cells #[.int .i64 (E4.eIno (V0.chunk s k)), .string (E4.eName (V0.chunk s k))] 88))
    | (at_builtin; refine V1.append_ent rfl (.tmp 26) (.tmp 28) rfl u2 _ _ (by rfl) (H := w2.heap.size + 1) (by simp) (by rfl) (by omega) f3.size ?_; intro g1 cap1 w4 hbuf4 bel4))
   go_roundw
   case rel => exact ⟨k + 1, cap1, _, by omega, by go_num, rfl, by rw [← HS.out]; exact hbuf4, f3.trans bel4⟩
   case measure => simp [intOf]; omega
  ·obtain rfl : k = V0.cnt s := by omega
   have hfit := hbuf.fits
   have hpd : Hid (Calls Tryz.prog 56 #[.slice a (V0.cnt s) c] wr fun e w' => e = .returned (.string (T0.putD (V0.ents s (V0.cnt s)))) ∧ Below wr.heap.size wr w') := by
    have hc13 : V0.cnt s ≤ 13 := Nat.min_le_right _ _
    have := T3.spec_PutDir a c (V0.ents s (V0.cnt s)) wr (by rw [V0.ents_length]; omega) (by rw [V0.ents_length]; exact hfit) (V1.fits_ents s _ hs) hbuf.own.row
    rw [V0.ents_length] at this
    exact this
   have hex : decide ((V0.cnt s : Int) * 16 < (s.size : Int)) = false ∨ ((V0.cnt s : Int) * 16 < (s.size : Int) ∧ decide ((V0.cnt s : Int) * 16 < 208) = false) := by
    by_cases h : (V0.cnt s : Int) * 16 < (s.size : Int)
    ·right
     refine ⟨h, ?_⟩
     simp
     by_cases h13 : V0.cnt s < 13
     ·exact absurd ((hct _).2 ⟨by omega, h13⟩) hlt
     ·omega
    ·left
     simpa using h
   clear hct hlt hk
   by_cases h0 : s.size = 0
   ·have hI : V0.isD s = true := by rw [V0.isD, decide_eq_true h0]; rfl
    have hemp : s.toList.isEmpty = true := by
     rw [Lib.toList_data]
     have : s.data.toList = [] := List.eq_nil_of_length_eq_zero (by rw [← Lib.size_eq]; exact h0)
     rw [this]
     rfl
    rcases hex with e3 | ⟨e4, e3⟩
    ·go_wp2
     exact HY.out _ _ _ hI hbuf.own hfit hbel
    ·exfalso
     omega
   ·have hemp : s.toList.isEmpty = false := by
     rw [Lib.toList_data]
     cases hl : s.data.toList with
     | nil => rw [Lib.size_eq, hl] at h0; exact absurd rfl h0
     | cons x r => rfl
    by_cases hP : ((T0.putD (V0.ents s (V0.cnt s))).toList == s.toList) = true
    ·have hI : V0.isD s = true := by rw [V0.isD, hP, Bool.or_true]
     rcases hex with e3 | ⟨e4, e3⟩
     all_goals
      go_wp2_with (go_at_call 56; refine hpd.out.mono ?_; rintro e w2 ⟨rfl, b2⟩)
      exact HY.out _ _ _ hI (hbuf.own.below b2) hfit (hbel.trans (b2.mono hbel.size))
    ·have hP' : ((T0.putD (V0.ents s (V0.cnt s))).toList == s.toList) = false := by simpa using hP
     have hI : V0.isD s = false := by rw [V0.isD, hP', decide_eq_false h0]; rfl
     rcases hex with e3 | ⟨e4, e3⟩
     all_goals
      go_wp2_with (go_at_call 56; refine hpd.out.mono ?_; rintro e w2 ⟨rfl, b2⟩; have f2 := hbel.trans (b2.mono hbel.size); have f3 := f2.alloc f2.size (.cells #[] 88))
      exact HN.out _ _ _ hI f3
end Go.Proofs.YthbcefopbmkppaaGreat.V3
namespace Go.Proofs.YthbcefopbmkppaaGreat.N5
open Go.ChangeShapes Go.WideShapes Go.ChangeAt Go.RowKit
open N0 (Ln)
open N1 (Sl Lists Fit LB lb_new)
open I2 (ints)
abbrev pv (k o s : Int) (a : Option Addr) (n c : Nat) (ae : Option Addr) (ne ce : Nat) : Value := .agg #[.int .i64 k, .int .i64 o, .int .i64 s, .slice a n c, .slice ae ne ce]
abbrev pvs (k o s : Int) (a : Option Addr) (n c : Nat) (ae : Option Addr) (ne ce : Nat) : List Value := [.int .i64 k, .int .i64 o, .int .i64 s, .slice a n c, .slice ae ne ce]
def oldE (d : Ln) : List T0.Ent := if G0.gK d.rc = 2 then V0.dE (B2.part d.sav 0 (G0.gS d.rc)) else []
def Ans (d : Ln) (w : World) (e : Ending) (w' : World) : Prop :=
 ∃ (k o s : Int) (a : Option Addr) (n c : Nat) (ae : Option Addr) (ne ce : Nat), e = .returned (.tuple #[pv k o s a n c ae ne ce, .bool (N0.past d)]) ∧ Below w.heap.size w w' ∧
  (N0.past d = true → k = G0.gK d.rc ∧ o = G0.gO d.rc ∧ s = G0.gS d.rc ∧ n = (G0.gZ d.rc).length ∧ n ≤ c ∧ J0.Own w.heap.size w' a (G0.gZ d.rc) ∧ ne = (oldE d).length ∧ ne ≤ ce ∧ V1.OwnE w.heap.size w' ae (oldE d))
theorem ans_no {d : Ln} {w w' : World} {k o s : Int} {a : Option Addr} {n c : Nat} {ae : Option Addr} {ne ce : Nat} (h : N0.past d = false) (hb : Below w.heap.size w w') : Ans d w (.returned (.tuple #[pv k o s a n c ae ne ce, .bool false])) w' :=
 ⟨k, o, s, a, n, c, ae, ne, ce, by rw [h], hb, fun h' => by rw [h] at h'; cases h'⟩
theorem ans_yes {d : Ln} {w w' : World} {a : Option Addr} {c : Nat} {ae : Option Addr} {ce : Nat} (h : N0.past d = true) (hb : Below w.heap.size w w') (hc : (G0.gZ d.rc).length ≤ c) (ho : J0.Own w.heap.size w' a (G0.gZ d.rc)) (hce : (oldE d).length ≤ ce) (hoe : V1.OwnE w.heap.size w' ae (oldE d)) :
  Ans d w (.returned (.tuple #[pv (G0.gK d.rc) (G0.gO d.rc) (G0.gS d.rc) a (G0.gZ d.rc).length c ae (oldE d).length ce, .bool true])) w' :=
 ⟨_, _, _, a, _, c, ae, _, ce, by rw [h], hb, fun _ => ⟨rfl, rfl, rfl, rfl, hc, ho, rfl, hce, hoe⟩⟩
variable {w W W' : World} {d : Ln} {s : Sl} {k o t : Int} {a : Option Addr} {n c B : Nat}
theorem ownE_set {base : Nat} {es : List T0.Ent} (h : V1.OwnE base W a es) (hB : B < base) (j : Nat) (v : Value) : V1.OwnE base (W.setCell ⟨B, j, none⟩ v) a es := by
 rcases h with h | ⟨g, e, hg, hk⟩
 ·exact Or.inl h
 ·refine Or.inr ⟨g, e, hg, ?_⟩
  have hne : ∀ x, (⟨B, j, none⟩ : Addr) ≠ ⟨g, x, none⟩ := fun x q => by have := (Addr.mk.inj q).1; omega
  refine ⟨fun i hi => ?_, fun i hi => ?_, fun i hi => ?_, ?_⟩
  ·rw [World.cell?_setCell_other _ _ _ _ (hne _), World.cell?_setCell_other _ _ _ _ (hne _)]
   exact hk.done i hi
  ·rw [World.cell?_setCell_other _ _ _ _ (hne _)]
   exact hk.there i hi
  ·rw [World.frozen?_setCell]
   exact hk.free i hi
  ·have := hk.lt
   simpa [World.setCell] using this
abbrev W5 (W : World) (B : Nat) (y0 y1 y2 y3 y4 : Value) : World := ((((W.setCell ⟨B, 0, none⟩ y0).setCell ⟨B, 1, none⟩ y1).setCell ⟨B, 2, none⟩ y2).setCell ⟨B, 3, none⟩ y3).setCell ⟨B, 4, none⟩ y4
theorem put5 {x0 x1 x2 x3 x4 y0 y1 y2 y3 y4 : Value} (h : K0.Blk B [x0, x1, x2, x3, x4] W) : K0.Blk B [y0, y1, y2, y3, y4] (W5 W B y0 y1 y2 y3 y4) := ((((h.set 0 y0).set 1 y1).set 2 y2).set 3 y3).set 4 y4
theorem bel5 {b : Nat} (h : Below b w W) (hb : b ≤ B) (y0 y1 y2 y3 y4 : Value) : Below b w (W5 W B y0 y1 y2 y3 y4) :=
 ((((h.setCell (p := ⟨B, 0, none⟩) hb y0).setCell (p := ⟨B, 1, none⟩) hb y1).setCell (p := ⟨B, 2, none⟩) hb y2).setCell (p := ⟨B, 3, none⟩) hb y3).setCell (p := ⟨B, 4, none⟩) hb y4
theorem own5 {base : Nat} {zs : List Int} (h : J0.Own base W a zs) (hB : B < base) (y0 y1 y2 y3 y4 : Value) : J0.Own base (W5 W B y0 y1 y2 y3 y4) a zs := ((((h.set hB 0 y0).set hB 1 y1).set hB 2 y2).set hB 3 y3).set hB 4 y4
theorem ownE5 {base : Nat} {es : List T0.Ent} (h : V1.OwnE base W a es) (hB : B < base) (y0 y1 y2 y3 y4 : Value) : V1.OwnE base (W5 W B y0 y1 y2 y3 y4) a es := ownE_set (ownE_set (ownE_set (ownE_set (ownE_set h hB 0 y0) hB 1 y1) hB 2 y2) hB 3 y3) hB 4 y4
structure PR (w : World) (d : Ln) (s : Sl) (k o t : Int) (a : Option Addr) (n c B : Nat) (W : World) : Prop where
 arg : LB w.heap.size d s W
 res : K0.Blk (w.heap.size + 1) (pvs 0 0 0 none 0 0 none 0 0) W
 nb : K0.Blk B (I0.vals k o t a n c) W
 bel : Below w.heap.size w W
theorem PR.below (h : PR w d s k o t a n c B W) (hb : Below W.heap.size W W') : PR w d s k o t a n c B W' := ⟨h.arg.below hb, h.res.below hb, h.nb.below hb, h.bel.trans (hb.mono h.bel.size)⟩
theorem PR.drewN (h : PR w d s k o t a n c B W) (m : Nat) : PR w d s k o t a n c B (W.drewN m) := ⟨⟨h.arg.b.drewN m⟩, h.res.drewN m, h.nb.drewN m, K0.below_drewN h.bel m⟩
abbrev w00 (w : World) (d : Ln) (s : Sl) : World := (w.alloc (.cells #[.int .i64 d.ino, .int .i64 d.cl, .int .i64 d.un, .string d.rc, .slice s.a1 d.pg.length s.c1, .string d.sav, .slice s.a2 d.po.length s.c2, .slice s.a3 d.fr.length s.c3] 26)).alloc (.cells #[.int .i64 0, .int .i64 0, .int .i64 0, .slice none 0 0, .slice none 0 0] 58)
theorem bel00 (w : World) (d : Ln) (s : Sl) : Below w.heap.size w (w00 w d s) := ((Below.refl _ _).alloc (Nat.le_refl _) _).alloc (by simp) _
theorem pr_new (hb : Below (w00 w d s).heap.size (w00 w d s) W) :
    PR w d s k o t a n c W.heap.size (W.alloc (.cells #[.int .i64 k, .int .i64 o, .int .i64 t, .slice a n c] 55)) :=
  ⟨⟨(((K0.blk_new (N1.vals d s) w 26).alloc _).below hb).alloc _⟩, ((K0.blk_at (pvs 0 0 0 none 0 0 none 0 0) _ 58 (by simp)).below hb).alloc _, K0.blk_new (I0.vals k o t a n c) W 55,
   (((bel00 w d s).trans (hb.mono (bel00 w d s).size))).alloc (Nat.le_trans (bel00 w d s).size hb.size) _⟩
end Go.Proofs.YthbcefopbmkppaaGreat.N5
namespace Go.Proofs.YthbcefopbmkppaaGreat.N6
open Go.ChangeShapes Go.WideShapes Go.ChangeAt Go.RowKit
open N0 (Ln)
open N1 (Sl Lists Fit LB lb_new)
open N5 (Ans ans_no ans_yes pv pvs oldE PR pr_new W5 put5 bel5 own5 ownE5 w00 bel00)
theorem past_cases (d : Ln) :
  (G0.isI d.rc = false ∧ N0.past d = false) ∨ (G0.isI d.rc = true ∧ (G0.gK d.rc == 0) = true ∧ N0.past d = false) ∨
  (G0.isI d.rc = true ∧ (G0.gK d.rc == 0) = false ∧ decide (G0.gZ d.rc = d.pg) = false ∧ N0.past d = false) ∨
  (G0.isI d.rc = true ∧ (G0.gK d.rc == 0) = false ∧ decide (G0.gZ d.rc = d.pg) = true ∧ ((d.sav.size : Int) != (d.pg.length : Int) * 32) = true ∧ N0.past d = false) ∨
  (G0.isI d.rc = true ∧ (G0.gK d.rc == 0) = false ∧ decide (G0.gZ d.rc = d.pg) = true ∧ ((d.sav.size : Int) != (d.pg.length : Int) * 32) = false ∧ (G0.gK d.rc != 2) = true ∧ N0.past d = true ∧ oldE d = []) ∨
  (G0.isI d.rc = true ∧ (G0.gK d.rc == 0) = false ∧ decide (G0.gZ d.rc = d.pg) = true ∧ ((d.sav.size : Int) != (d.pg.length : Int) * 32) = false ∧ (G0.gK d.rc != 2) = false ∧ N0.past d = V0.isD (B2.part d.sav 0 (G0.gS d.rc)) ∧ oldE d = V0.dE (B2.part d.sav 0 (G0.gS d.rc))) := by
 unfold N0.past
 cases hI : G0.isI d.rc with
 | false => exact Or.inl ⟨rfl, rfl⟩
 | true =>
  right
  by_cases h0 : G0.gK d.rc = 0
  ·left
   exact ⟨rfl, by simpa using h0, by rw [decide_eq_true h0]; rfl⟩
  ·right
   have h0' : (G0.gK d.rc == 0) = false := by simpa using h0
   by_cases hz : G0.gZ d.rc = d.pg
   ·right
    by_cases hs : d.sav.size = d.pg.length * 32
    ·right
     have hs' : ((d.sav.size : Int) != (d.pg.length : Int) * 32) = false := by simp; omega
     by_cases h2 : G0.gK d.rc = 2
     ·right
      refine ⟨rfl, h0', decide_eq_true hz, hs', by simpa using h2, ?_, by rw [oldE, if_pos h2]⟩
      rw [decide_eq_false h0, decide_eq_true hz, decide_eq_true hs, decide_eq_true h2]
      rfl
     ·left
      refine ⟨rfl, h0', decide_eq_true hz, hs', by simpa using h2, ?_, by rw [oldE, if_neg h2]⟩
      rw [decide_eq_false h0, decide_eq_true hz, decide_eq_true hs, decide_eq_false h2]
      rfl
    ·left
     refine ⟨rfl, h0', decide_eq_true hz, by simp; omega, ?_⟩
     rw [decide_eq_false hs, Bool.false_and, Bool.and_false, Bool.and_false]
     rfl
   ·left
    refine ⟨rfl, h0', decide_eq_false hz, ?_⟩
    rw [decide_eq_false hz, Bool.false_and, Bool.and_false]
    rfl
set_option maxHeartbeats 4000000 in
theorem readPast (d : Ln) (s : Sl) (w : World) (hF : Fit d s) (hR : Lists w d s) : Calls Tryz.prog 47 #[N1.val d s] w (Ans d w) := by
 have hG : Hid (∀ W, Calls Tryz.prog 64 #[.string d.rc] W (G3.Ans d.rc W)) := fun W => G3.impl_GetInode d.rc W hF.m4
 have HL : Hid (∀ W, Below w.heap.size w W → P0.Row W s.a1 d.pg) := fun W hb => (hR.below hb).r1
 have hpt : Hid (∀ W, Calls Tryz.prog 16 #[.string d.sav, .int .i64 0, .int .i64 (G0.gS d.rc)] W fun e w' => e = .returned (.string (B2.part d.sav 0 (G0.gS d.rc))) ∧ Below W.heap.size W w') := fun W => B2.impl_Part _ _ _ _ hF.m5
 have hgd : Hid (∀ W, Calls Tryz.prog 66 #[.string (B2.part d.sav 0 (G0.gS d.rc))] W (V1.Ans (B2.part d.sav 0 (G0.gS d.rc)) W)) := fun W => V2.impl_GetDir _ _ (Nat.le_trans (B2.part_size _ _ _) hF.m5)
 have hpl : d.pg.length ≤ 281474976710656 := hF.p1
 have hsl := hF.m5
 have hb00 := bel00 w d s
 have HN : Hid (∀ k o t a n c ae ne ce w', N0.past d = false → Below w.heap.size w w' → Ans d w (.returned (.tuple #[pv k o t a n c ae ne ce, .bool false])) w') := fun k o t a n c ae ne ce w' h hb => ans_no h hb
 have HY : Hid (∀ a c ae ce w', N0.past d = true → Below w.heap.size w w' → (G0.gZ d.rc).length ≤ c → J0.Own w.heap.size w' a (G0.gZ d.rc) → (oldE d).length ≤ ce → V1.OwnE w.heap.size w' ae (oldE d) → Ans d w (.returned (.tuple #[pv (G0.gK d.rc) (G0.gO d.rc) (G0.gS d.rc) a (G0.gZ d.rc).length c ae (oldE d).length ce, .bool true])) w') := fun a c ae ce w' h hb hc ho hce hoe => ans_yes h hb hc ho hce hoe
 have hA : Hid (∀ W e w', G3.Ans d.rc W e w' → ∃ a c, e = .returned (.tuple #[I0.val (G0.gK d.rc) (G0.gO d.rc) (G0.gS d.rc) a (G0.gZ d.rc).length c, .bool (G0.isI d.rc)]) ∧ J0.Own W.heap.size w' a (G0.gZ d.rc) ∧ (G0.gZ d.rc).length ≤ c ∧ Below W.heap.size W w') := fun W e w' h => h
 have hzl : (G0.gZ d.rc).length ≤ 281474976710656 := by
  unfold G0.gZ
  split
  ·rw [G0.pgs_length]; have := G0.cnt_le d.rc; omega
  ·exact Nat.zero_le _
 have hcase := past_cases d
 obtain ⟨R, hR'⟩ : ∃ R, Ans d w = R := ⟨_, rfl⟩
 rw [hR'] at HN HY ⊢
 obtain ⟨P, hP⟩ : ∃ P, B2.part d.sav 0 (G0.gS d.rc) = P := ⟨_, rfl⟩
 rw [hP] at hpt hgd hcase
 obtain ⟨K, hK⟩ : ∃ K, G0.gK d.rc = K := ⟨_, rfl⟩
 obtain ⟨O, hO⟩ : ∃ O, G0.gO d.rc = O := ⟨_, rfl⟩
 obtain ⟨S, hS⟩ : ∃ S, G0.gS d.rc = S := ⟨_, rfl⟩
 obtain ⟨Z, hZ⟩ : ∃ Z, G0.gZ d.rc = Z := ⟨_, rfl⟩
 rw [hK, hZ] at hcase
 rw [hK, hO, hS, hZ] at HY hA
 rw [hS] at hpt
 rw [hZ] at hzl
 clear hK hO hS hZ hP hR' hR hF
 rcases hcase with ⟨gI, hp⟩ | ⟨gI, g0, hp⟩ | ⟨gI, g0, gz, hp⟩ | ⟨gI, g0, gz, gs, hp⟩ | ⟨gI, g0, gz, gs, g2, hp, hE⟩ | ⟨gI, g0, gz, gs, g2, hp, hE⟩
 iterate 2
  ·rw [gI] at hA
   clear gI
   go_enter Tryz.func47, Tryz.ntmps47
   go_wp2_with (go_at_call 64; refine (hG.out _).mono ?_; intro e w1 hans; obtain ⟨a, c, rfl, ho, hc, b1⟩ := hA.out _ _ _ hans; clear hans; have p1 := pr_new (k := K) (o := O) (t := S) (a := a) (n := Z.length) (c := c) b1; have x0 := p1.nb.c0; have i0 := p1.res.cell 0 (by simp); have i1 := p1.res.cell 1 (by simp); have i2 := p1.res.cell 2 (by simp); have i3 := p1.res.cell 3 (by simp); have i4 := p1.res.cell 4 (by simp); simp only [List.getElem_cons_zero, List.getElem_cons_succ] at i0 i1 i2 i3 i4; have j0 := p1.res.free 0 (by simp); have j1 := p1.res.free 1 (by simp); have j2 := p1.res.free 2 (by simp); have j3 := p1.res.free 3 (by simp); have j4 := p1.res.free 4 (by simp))
   have q := put5 (y0 := .int .i64 0) (y1 := .int .i64 0) (y2 := .int .i64 0) (y3 := .slice none 0 0) (y4 := .slice none 0 0) p1.res
   have v0 := q.cell 0 (by simp)
   have v1 := q.cell 1 (by simp)
   have v2 := q.cell 2 (by simp)
   have v3 := q.cell 3 (by simp)
   have v4 := q.cell 4 (by simp)
   simp only [List.getElem_cons_zero, List.getElem_cons_succ] at v0 v1 v2 v3 v4
   exact bodyPost_ret (v := .tuple #[pv 0 0 0 none 0 0 none 0 0, .bool false]) (by simp [results, Tryz.results47, go_sem, v0, v1, v2, v3, v4]) rfl (HN.out _ _ _ _ _ _ _ _ _ _ hp (bel5 p1.bel (by omega) _ _ _ _ _))
 iterate 2
  ·rw [gI] at hA
   clear gI
   go_enter Tryz.func47, Tryz.ntmps47
   go_wp2_with (first
    | (go_at_call 64; refine (hG.out _).mono ?_; intro e w1 hans; obtain ⟨a, c, rfl, ho, hc, b1⟩ := hA.out _ _ _ hans; clear hans; have p1 := pr_new (k := K) (o := O) (t := S) (a := a) (n := Z.length) (c := c) b1; have x0 := p1.nb.c0; have x3 := p1.nb.c3; have c4 := p1.arg.c4; have c5 := p1.arg.c5; have r1 := ho.row.alloc (.cells #[.int .i64 K, .int .i64 O, .int .i64 S, .slice a Z.length c] 55); have r2 := HL.out _ p1.bel; have i0 := p1.res.cell 0 (by simp); have i1 := p1.res.cell 1 (by simp); have i2 := p1.res.cell 2 (by simp); have i3 := p1.res.cell 3 (by simp); have i4 := p1.res.cell 4 (by simp); simp only [List.getElem_cons_zero, List.getElem_cons_succ] at i0 i1 i2 i3 i4; have j0 := p1.res.free 0 (by simp); have j1 := p1.res.free 1 (by simp); have j2 := p1.res.free 2 (by simp); have j3 := p1.res.free 3 (by simp); have j4 := p1.res.free 4 (by simp))
    | (go_at_call 65; refine (N2.equal _ _ _ _ _ _ _ hzl hpl r1 r2).mono ?_; rintro e w2 ⟨rfl, m, rfl⟩))
   have q := put5 (y0 := .int .i64 0) (y1 := .int .i64 0) (y2 := .int .i64 0) (y3 := .slice none 0 0) (y4 := .slice none 0 0) (p1.drewN m).res
   have v0 := q.cell 0 (by simp)
   have v1 := q.cell 1 (by simp)
   have v2 := q.cell 2 (by simp)
   have v3 := q.cell 3 (by simp)
   have v4 := q.cell 4 (by simp)
   simp only [List.getElem_cons_zero, List.getElem_cons_succ] at v0 v1 v2 v3 v4
   exact bodyPost_ret (v := .tuple #[pv 0 0 0 none 0 0 none 0 0, .bool false]) (by simp [results, Tryz.results47, go_sem, v0, v1, v2, v3, v4]) rfl (HN.out _ _ _ _ _ _ _ _ _ _ hp (bel5 (p1.drewN m).bel (by omega) _ _ _ _ _))
 ·rw [gI] at hA
  clear gI
  rw [hE] at HY
  go_enter Tryz.func47, Tryz.ntmps47
  go_wp2_with (first
   | (go_at_call 64; refine (hG.out _).mono ?_; intro e w1 hans; obtain ⟨a, c, rfl, ho, hc, b1⟩ := hA.out _ _ _ hans; clear hans; have p1 := pr_new (k := K) (o := O) (t := S) (a := a) (n := Z.length) (c := c) b1; have x0 := p1.nb.c0; have x1 := p1.nb.c1; have x2 := p1.nb.c2; have x3 := p1.nb.c3; have c4 := p1.arg.c4; have c5 := p1.arg.c5; have r1 := ho.row.alloc (.cells #[.int .i64 K, .int .i64 O, .int .i64 S, .slice a Z.length c] 55); have r2 := HL.out _ p1.bel; have i0 := p1.res.cell 0 (by simp); have i1 := p1.res.cell 1 (by simp); have i2 := p1.res.cell 2 (by simp); have i3 := p1.res.cell 3 (by simp); have i4 := p1.res.cell 4 (by simp); simp only [List.getElem_cons_zero, List.getElem_cons_succ] at i0 i1 i2 i3 i4; have j0 := p1.res.free 0 (by simp); have j1 := p1.res.free 1 (by simp); have j2 := p1.res.free 2 (by simp); have j3 := p1.res.free 3 (by simp); have j4 := p1.res.free 4 (by simp))
   | (go_at_call 65; refine (N2.equal _ _ _ _ _ _ _ hzl hpl r1 r2).mono ?_; rintro e w2 ⟨rfl, m, rfl⟩))
  have q := put5 (y0 := .int .i64 K) (y1 := .int .i64 O) (y2 := .int .i64 S) (y3 := .slice a Z.length c) (y4 := .slice none 0 0) (p1.drewN m).res
  have v0 := q.cell 0 (by simp)
  have v1 := q.cell 1 (by simp)
  have v2 := q.cell 2 (by simp)
  have v3 := q.cell 3 (by simp)
  have v4 := q.cell 4 (by simp)
  simp only [List.getElem_cons_zero, List.getElem_cons_succ] at v0 v1 v2 v3 v4
  refine bodyPost_ret (v := .tuple #[pv K O S a Z.length c none 0 0, .bool true]) (by simp [results, Tryz.results47, go_sem, v0, v1, v2, v3, v4]) rfl (HY.out a c none 0 _ hp (bel5 (p1.drewN m).bel (by omega) _ _ _ _ _) hc ?_ (Nat.le_refl _) (Or.inl rfl))
  exact (own5 ((ho.alloc _).drewN m) (by simp) _ _ _ _ _).mono (by simp; omega)
 ·rw [gI] at hA
  clear gI
  rw [hE] at HY
  have HD : Hid (∀ W e w', V1.Ans P W e w' → ∃ a c, e = .returned (.tuple #[.slice a (V0.dE P).length c, .bool (V0.isD P)]) ∧ V1.OwnE W.heap.size w' a (V0.dE P) ∧ (V0.dE P).length ≤ c ∧ Below W.heap.size W w') := fun W e w' h => h
  have HP : Hid (N0.past d = V0.isD P) := hp
  clear hp hE
  go_enter Tryz.func47, Tryz.ntmps47
  go_wp2_with (first
   | (go_at_call 64; refine (hG.out _).mono ?_; intro e w1 hans; obtain ⟨a, c, rfl, ho, hc, b1⟩ := hA.out _ _ _ hans; clear hans; have p1 := pr_new (k := K) (o := O) (t := S) (a := a) (n := Z.length) (c := c) b1; have x0 := p1.nb.c0; have x1 := p1.nb.c1; have x2 := p1.nb.c2; have x3 := p1.nb.c3; have c4 := p1.arg.c4; have c5 := p1.arg.c5; have r1 := ho.row.alloc (.cells #[.int .i64 K, .int .i64 O, .int .i64 S, .slice a Z.length c] 55); have r2 := HL.out _ p1.bel)
   | (go_at_call 65; refine (N2.equal _ _ _ _ _ _ _ hzl hpl r1 r2).mono ?_; rintro e w2 ⟨rfl, m, rfl⟩)
   | (go_at_call 16; refine (hpt.out _).mono ?_; rintro e w3 ⟨rfl, b3⟩; have p3 := (p1.drewN m).below b3)
   | (go_at_call 66; refine (hgd.out _).mono ?_; intro e w4 hans; obtain ⟨ae, ce, rfl, hoe, hce, b4⟩ := HD.out _ _ _ hans; clear hans; have p4 := p3.below b4; have z0 := p4.nb.c0; have z1 := p4.nb.c1; have z2 := p4.nb.c2; have z3 := p4.nb.c3; have i0 := p4.res.cell 0 (by simp); have i1 := p4.res.cell 1 (by simp); have i2 := p4.res.cell 2 (by simp); have i3 := p4.res.cell 3 (by simp); have i4 := p4.res.cell 4 (by simp); simp only [List.getElem_cons_zero, List.getElem_cons_succ] at i0 i1 i2 i3 i4; have j0 := p4.res.free 0 (by simp); have j1 := p4.res.free 1 (by simp); have j2 := p4.res.free 2 (by simp); have j3 := p4.res.free 3 (by simp); have j4 := p4.res.free 4 (by simp)))
  have q := put5 (y0 := .int .i64 K) (y1 := .int .i64 O) (y2 := .int .i64 S) (y3 := .slice a Z.length c) (y4 := .slice ae (V0.dE P).length ce) p4.res
  have v0 := q.cell 0 (by simp)
  have v1 := q.cell 1 (by simp)
  have v2 := q.cell 2 (by simp)
  have v3 := q.cell 3 (by simp)
  have v4 := q.cell 4 (by simp)
  simp only [List.getElem_cons_zero, List.getElem_cons_succ] at v0 v1 v2 v3 v4
  have hbl := bel5 p4.bel (B := w.heap.size + 1) (by omega) (.int .i64 K) (.int .i64 O) (.int .i64 S) (.slice a Z.length c) (.slice ae (V0.dE P).length ce)
  have h1 := p1.bel.size
  have h3 := p3.bel.size
  refine bodyPost_ret (v := .tuple #[pv K O S a Z.length c ae (V0.dE P).length ce, .bool (V0.isD P)]) (by simp [results, Tryz.results47, go_sem, v0, v1, v2, v3, v4]) rfl ?_
  cases hD : V0.isD P with
  | false => exact HN.out _ _ _ _ _ _ _ _ _ _ (HP.out.trans hD) hbl
  | true =>
   refine HY.out a c ae ce _ (HP.out.trans hD) hbl hc ?_ hce ?_
   ·exact (own5 ((((ho.alloc _).drewN m).below b3).below b4) (by simp) _ _ _ _ _).mono (by simp; omega)
   ·exact (ownE5 hoe (by have := p3.res.lt; omega) _ _ _ _ _).mono (by omega)
end Go.Proofs.YthbcefopbmkppaaGreat.N6
