/- Joined texts: plain facts and contracts. -/
import Derived.Test.YtpkmeknniajahaaGreatDoorJnH
import Derived.Test.YtpkmeknniajahaaGreatDoorJnL
import Derived.Test.YtpkmeknniajahaaGreatDoorJnJ
import Derived.Test.YtpkmeknniajahaaGreatDoorJnM
import Derived.Deep.RegionHeld3
import Derived.Test.YtpkmeknniajahaaGreatDoorJnF
import Derived.Lib.SliceRun
import Derived.Test.YtpkmeknniajahaaGreatDoorJnK
import Derived.Laws.MakeOwn
set_option linter.unusedVariables false
set_option linter.unusedSimpArgs false
set_option maxRecDepth 10000
namespace Go.Proofs.YtpkmeknniajahaaGreatDoor.V2
open Go.ChangeShapes Go.WideShapes Go.ChangeAt Go.RowKit
open V1 (Ans ans_no ans_yes EBuf OwnE)
theorem get_lit {s : ByteArray} {W : World} {r : Bool} (hs : s.size ≤ 281474976710656) (hr : E4.isE s = r) :
  Calls Tryz.prog 116 #[.string s] W fun e w' => e = .returned (.tuple #[.agg #[.int .i64 (E4.eIno s), .string (E4.eName s)], .bool r]) ∧ Below W.heap.size W w' :=
 (E4.impl_GetEntry s W hs).mono fun _ _ ⟨he, hb⟩ => ⟨by rw [he, E4.getE, hr], hb⟩
set_option maxHeartbeats 2000000 in
theorem impl_GetDir (s : ByteArray) (w : World) (hs : s.size ≤ 281474976710656) : Calls Tryz.prog 85 #[.string s] w (Ans s w) := by
 have HN : Hid (∀ a c w', V0.isD s = false → Below w.heap.size w w' → Ans s w (.returned (.tuple #[.slice a 0 c, .bool false])) w') := fun a c w' h hb => ans_no h hb
 have HF : Hid (∀ k, V0.isD s = true → k < s.size / 16 → E4.isE (V0.chunk s k) = true) := fun k h hk => (V0.of_isD h).2.2.2.1 k hk
 have HD : Hid (V0.isD s = true → T0.dirOk (V0.ents s (s.size / 16)) = true) := fun h => (V0.of_isD h).2.2.2.2
 have HY : Hid (∀ a c w', s.size ≤ 192 → s.size % 16 = 0 → (∀ j, j < s.size / 16 → E4.isE (V0.chunk s j) = true) → T0.dirOk (V0.ents s (s.size / 16)) = true → OwnE w.heap.size w' a (V0.ents s (s.size / 16)) → s.size / 16 ≤ c → Below w.heap.size w w' → Ans s w (.returned (.tuple #[.slice a (s.size / 16) c, .bool true])) w') := fun a c w' h1 h2 h3 h4 ho hc hb => by
  obtain ⟨hi, hk⟩ := V0.isD_of h1 h2 h3 h4
  rw [← hk] at ho hc ⊢
  exact ans_yes hi ho hc hb
 obtain ⟨R, hR⟩ : ∃ R, Ans s w = R := ⟨_, rfl⟩
 by_cases h1 : 192 < (s.size : Int)
 ·have hi : V0.isD s = false := by
   cases h : V0.isD s with
   | false => rfl
   | true => have := (V0.of_isD h).1; omega
  rw [hR] at HN ⊢
  go_enter Tryz.func85, Tryz.ntmps85
  go_wp2
  exact HN.out _ _ _ hi (K0.below_new _ _)
 ·by_cases h2 : s.size % 16 = 0
  ·have h2' : ((s.size : Int) % 16 != 0) = false := by simp; omega
   have b0 := V1.ebuf_made w (Nat.le_refl _)
   have l0 := K0.below_new w (.cells #[] 71)
   rw [hR] at HN HY ⊢
   clear hR
   go_enter Tryz.func85, Tryz.ntmps85
   go_wp2
   go_loopw [4, 5] (fun v i w' => ∃ (k c : Nat) (a : Option Addr), k ≤ s.size / 16 ∧ (∀ j, j < k → E4.isE (V0.chunk s j) = true) ∧ i = .int .i64 ((k : Int) * 16) ∧ v = .slice a k c ∧ EBuf w.heap.size w' a k c (V0.ents s k) ∧ Below w.heap.size w w') (fun _ i _ => s.size - (intOf i).toNat)
   case atStart => exact ⟨0, 0, _, Nat.zero_le _, fun j hj => absurd hj (Nat.not_lt_zero _), rfl, rfl, b0, l0⟩
   case round =>
    obtain ⟨k, c, a, hk, hE, rfl, rfl, hbuf, hbel⟩ := hrel
    clear b0 l0
    by_cases hlt : k < s.size / 16
    ·have e1 : (k : Int) * 16 < (s.size : Int) := by omega
     have hcs : (V0.chunk s k).size ≤ 281474976710656 := by have := B2.part_size s ((k : Int) * 16) 16; unfold V0.chunk; omega
     have hpt : Hid (∀ W, Calls Tryz.prog 57 #[.string s, .int .i64 ((k : Int) * 16), .int .i64 16] W fun e w' => e = .returned (.string (V0.chunk s k)) ∧ Below W.heap.size W w') := fun W => B2.impl_Part _ _ _ _ hs
     have HS : Hid (V0.ents s k ++ [(E4.eIno (V0.chunk s k), E4.eName (V0.chunk s k))] = V0.ents s (k + 1)) := V0.ents_succ s k
     by_cases hi : E4.isE (V0.chunk s k) = true
     ·have HE : Hid (∀ j, j < k + 1 → E4.isE (V0.chunk s j) = true) := fun j hj => by
       by_cases e : j = k
       ·rw [e]; exact hi
       ·exact hE j (by omega)
      clear hE
      go_wp2_with (first
       | (go_at_call 57; refine (hpt.out _).mono ?_; rintro e w1 ⟨rfl, b1⟩; have f1 := hbel.trans (b1.mono hbel.size))
       | (go_at_call 116; refine (get_lit hcs hi).mono ?_; rintro e w2 ⟨rfl, b2⟩; have f2 := f1.trans (b2.mono f1.size); have u2 := ((hbuf.below b1).below b2).alloc (.cells #[.int .i64 (E4.eIno (V0.chunk s k)), .string (E4.eName (V0.chunk s k))] 71); have f3 := f2.alloc f2.size (.cells #[.int .i64 (E4.eIno (V0.chunk s k)), .string (E4.eName (V0.chunk s k))] 71))
       | (at_builtin; refine V1.append_ent rfl (.tmp 35) (.tmp 37) rfl u2 _ _ (by rfl) (H := w2.heap.size + 1) (by simp) (by rfl) (by omega) f3.size ?_; intro g1 cap1 w4 hbuf4 bel4))
      go_roundw
      case rel => exact ⟨k + 1, cap1, _, by omega, HE.out, by go_num, rfl, by rw [← HS.out]; exact hbuf4, f3.trans bel4⟩
      case measure => simp [intOf]; omega
     ·have hi' : E4.isE (V0.chunk s k) = false := by simpa using hi
      have hn : V0.isD s = false := by
       cases h : V0.isD s with
       | false => rfl
       | true => exact absurd (HF.out k h hlt) hi
      clear hE
      go_wp2_with (first
       | (go_at_call 57; refine (hpt.out _).mono ?_; rintro e w1 ⟨rfl, b1⟩; have f1 := hbel.trans (b1.mono hbel.size))
       | (go_at_call 116; refine (get_lit hcs hi').mono ?_; rintro e w2 ⟨rfl, b2⟩; have f2 := f1.trans (b2.mono f1.size); have f3 := f2.alloc f2.size (.cells #[.int .i64 (E4.eIno (V0.chunk s k)), .string (E4.eName (V0.chunk s k))] 71); have f4 := f3.alloc f3.size (.cells #[] 71)))
      exact HN.out _ _ _ hn f4
    ·obtain rfl : k = s.size / 16 := by omega
     have e1 : ¬ ((s.size / 16 : Nat) : Int) * 16 < (s.size : Int) := by omega
     have hfit := hbuf.fits
     have hdl : Hid (∀ r, T0.dirOk (V0.ents s (s.size / 16)) = r → Calls Tryz.prog 117 #[.slice a (s.size / 16) c] wr fun e w' => e = .returned (.bool r) ∧ Below wr.heap.size wr w') := fun r hr => by
      have := T2.dir_lit (a := a) (c := c) (W := wr) (es := V0.ents s (s.size / 16)) (by rw [V0.ents_length]; omega) (by rw [V0.ents_length]; exact hfit) (V1.fits_ents s _ hs) hbuf.own.row hr
      rw [V0.ents_length] at this
      exact this
     by_cases hd : T0.dirOk (V0.ents s (s.size / 16)) = true
     ·go_wp2_with (go_at_call 117; refine (hdl.out true hd).mono ?_; rintro e w1 ⟨rfl, b1⟩)
      exact HY.out _ _ _ (by omega) h2 hE hd (hbuf.own.below b1) hfit (hbel.trans (b1.mono hbel.size))
     ·have hd' : T0.dirOk (V0.ents s (s.size / 16)) = false := by simpa using hd
      have hn : V0.isD s = false := by
       cases h : V0.isD s with
       | false => rfl
       | true => exact absurd (HD.out h) hd
      go_wp2_with (go_at_call 117; refine (hdl.out false hd').mono ?_; rintro e w1 ⟨rfl, b1⟩; have f1 := hbel.trans (b1.mono hbel.size); have f2 := f1.alloc f1.size (.cells #[] 71))
      exact HN.out _ _ _ hn f2
  ·have h2' : ((s.size : Int) % 16 != 0) = true := by simp; omega
   have hi : V0.isD s = false := by
    cases h : V0.isD s with
    | false => rfl
    | true => exact absurd (V0.of_isD h).2.1 h2
   rw [hR] at HN ⊢
   go_enter Tryz.func85, Tryz.ntmps85
   go_wp2
   exact HN.out _ _ _ hi (K0.below_new _ _)
end Go.Proofs.YtpkmeknniajahaaGreatDoor.V2
namespace Go.Proofs.YtpkmeknniajahaaGreatDoor.V3
open Go.ChangeShapes Go.WideShapes Go.ChangeAt Go.RowKit
open V1 (Ans ans_no ans_yes EBuf OwnE)
theorem wf_of (n : Int) (h0 : -9223372036854775808 ≤ n) (h1 : n ≤ 9223372036854775807) : (Lit.int .i64 n).wf = true := by
 simp [Lit.wf, IntKind.min, IntKind.max, IntKind.signed, IntKind.bits]
 omega
theorem get_any {s : ByteArray} {W : World} (hs : s.size ≤ 281474976710656) :
  Calls Tryz.prog 94 #[.string s] W fun e w' => e = .returned (.tuple #[.agg #[.int .i64 (E4.eIno s), .string (E4.eName s)], .bool (E4.isE s)]) ∧ Below W.heap.size W w' := E4.spec_GetEntry s W hs
theorem cnt_lt (s : ByteArray) (k : Nat) : k < V0.cnt s ↔ k * 16 < s.size ∧ k < 13 := by
 unfold V0.cnt
 omega
set_option maxHeartbeats 2000000 in
theorem spec_GetDir (s : ByteArray) (w : World) (hs : s.size ≤ 281474976710656) : Calls Tryz.prog 68 #[.string s] w (Ans s w) := by
 have hm : s.size ≤ maxLen := by unfold maxLen; omega
 have HN : Hid (∀ a c w', V0.isD s = false → Below w.heap.size w w' → Ans s w (.returned (.tuple #[.slice a 0 c, .bool false])) w') := fun a c w' h hb => ans_no h hb
 have HY : Hid (∀ a c w', V0.isD s = true → OwnE w.heap.size w' a (V0.ents s (V0.cnt s)) → V0.cnt s ≤ c → Below w.heap.size w w' → Ans s w (.returned (.tuple #[.slice a (V0.cnt s) c, .bool true])) w') := fun a c w' h1 ho hc hb => ans_yes h1 ho hc hb
 obtain ⟨R, hR⟩ : ∃ R, Ans s w = R := ⟨_, rfl⟩
 rw [hR] at HN HY ⊢
 clear hR
 have hct := cnt_lt s
 have b0 := V1.ebuf_made w (Nat.le_refl _)
 have l0 := K0.below_new w (.cells #[] 71)
 go_enter Tryz.func68, Tryz.ntmps68
 go_wp2
 go_loopw [4, 5] (fun v i w' => ∃ (k c : Nat) (a : Option Addr), k ≤ V0.cnt s ∧ i = .int .i64 ((k : Int) * 16) ∧ v = .slice a k c ∧ EBuf w.heap.size w' a k c (V0.ents s k) ∧ Below w.heap.size w w') (fun _ i _ => 208 - (intOf i).toNat)
 case atStart => exact ⟨0, 0, _, Nat.zero_le _, rfl, rfl, b0, l0⟩
 case round =>
  obtain ⟨k, c, a, hk, rfl, rfl, hbuf, hbel⟩ := hrel
  clear b0 l0
  by_cases hlt : k < V0.cnt s
  ·obtain ⟨h1, h2⟩ := (hct k).1 hlt
   have e1 : (k : Int) * 16 < (s.size : Int) := by omega
   have e2 : (k : Int) * 16 < 208 := by omega
   have hcs : (V0.chunk s k).size ≤ 281474976710656 := by have := B2.part_size s ((k : Int) * 16) 16; unfold V0.chunk; omega
   have hpt : Hid (∀ W, Calls Tryz.prog 49 #[.string s, .int .i64 ((k : Int) * 16), .int .i64 16] W fun e w' => e = .returned (.string (V0.chunk s k)) ∧ W = w') := fun W => (B2.spec_Part _ _ _ _ hm (wf_of _ (by omega) (by omega)) (by decide)).mono fun _ _ h => ⟨h.1, h.2.symm⟩
   have HS : Hid (V0.ents s k ++ [(E4.eIno (V0.chunk s k), E4.eName (V0.chunk s k))] = V0.ents s (k + 1)) := V0.ents_succ s k
   clear hct
   go_wp2_with (first
    | (go_at_call 49; refine (hpt.out _).mono ?_; rintro e w1 ⟨rfl, rfl⟩)
    | (go_at_call 94; refine (get_any hcs).mono ?_; rintro e w2 ⟨rfl, b2⟩; have f2 := hbel.trans (b2.mono hbel.size); have u2 := (hbuf.below b2).alloc (.cells #[.int .i64 (E4.eIno (V0.chunk s k)), .string (E4.eName (V0.chunk s k))] 71); have f3 := f2.alloc f2.size (.cells #[.int .i64 (E4.eIno (V0.chunk s k)), .string (E4.eName (V0.chunk s k))] 71))
    | (at_builtin; refine V1.append_ent rfl (.tmp 26) (.tmp 28) rfl u2 _ _ (by rfl) (H := w2.heap.size + 1) (by simp) (by rfl) (by omega) f3.size ?_; intro g1 cap1 w4 hbuf4 bel4))
   go_roundw
   case rel => exact ⟨k + 1, cap1, _, by omega, by go_num, rfl, by rw [← HS.out]; exact hbuf4, f3.trans bel4⟩
   case measure => simp [intOf]; omega
  ·obtain rfl : k = V0.cnt s := by omega
   have hfit := hbuf.fits
   have hpd : Hid (Calls Tryz.prog 52 #[.slice a (V0.cnt s) c] wr fun e w' => e = .returned (.string (T0.putD (V0.ents s (V0.cnt s)))) ∧ Below wr.heap.size wr w') := by
    have hc13 : V0.cnt s ≤ 13 := Nat.min_le_right _ _
    have := T3.spec_PutDir a c (V0.ents s (V0.cnt s)) wr (by rw [V0.ents_length]; omega) (by rw [V0.ents_length]; exact hfit) (V1.fits_ents s _ hs) hbuf.own.row
    rw [V0.ents_length] at this
    exact this
   have hex : decide ((V0.cnt s : Int) * 16 < (s.size : Int)) = false ∨ ((V0.cnt s : Int) * 16 < (s.size : Int) ∧ decide ((V0.cnt s : Int) * 16 < 208) = false) := by
    by_cases h : (V0.cnt s : Int) * 16 < (s.size : Int)
    ·right
     refine ⟨h, ?_⟩
     simp
     by_cases h13 : V0.cnt s < 13
     ·exact absurd ((hct _).2 ⟨by omega, h13⟩) hlt
     ·omega
    ·left
     simpa using h
   clear hct hlt hk
   by_cases h0 : s.size = 0
   ·have hI : V0.isD s = true := by rw [V0.isD, decide_eq_true h0]; rfl
    have hemp : s.toList.isEmpty = true := by
     rw [Lib.toList_data]
     have : s.data.toList = [] := List.eq_nil_of_length_eq_zero (by rw [← Lib.size_eq]; exact h0)
     rw [this]
     rfl
    rcases hex with e3 | ⟨e4, e3⟩
    ·go_wp2
     exact HY.out _ _ _ hI hbuf.own hfit hbel
    ·exfalso
     omega
   ·have hemp : s.toList.isEmpty = false := by
     rw [Lib.toList_data]
     cases hl : s.data.toList with
     | nil => rw [Lib.size_eq, hl] at h0; exact absurd rfl h0
     | cons x r => rfl
    by_cases hP : ((T0.putD (V0.ents s (V0.cnt s))).toList == s.toList) = true
    ·have hI : V0.isD s = true := by rw [V0.isD, hP, Bool.or_true]
     rcases hex with e3 | ⟨e4, e3⟩
     all_goals
      go_wp2_with (go_at_call 52; refine hpd.out.mono ?_; rintro e w2 ⟨rfl, b2⟩)
      exact HY.out _ _ _ hI (hbuf.own.below b2) hfit (hbel.trans (b2.mono hbel.size))
    ·have hP' : ((T0.putD (V0.ents s (V0.cnt s))).toList == s.toList) = false := by simpa using hP
     have hI : V0.isD s = false := by rw [V0.isD, hP', decide_eq_false h0]; rfl
     rcases hex with e3 | ⟨e4, e3⟩
     all_goals
      go_wp2_with (go_at_call 52; refine hpd.out.mono ?_; rintro e w2 ⟨rfl, b2⟩; have f2 := hbel.trans (b2.mono hbel.size); have f3 := f2.alloc f2.size (.cells #[] 71))
      exact HN.out _ _ _ hI f3
end Go.Proofs.YtpkmeknniajahaaGreatDoor.V3
namespace Go.Proofs.YtpkmeknniajahaaGreatDoor.N5
open Go.ChangeShapes Go.WideShapes Go.ChangeAt Go.RowKit
open N0 (Ln)
open N1 (Sl Lists LB)
open I2 (ints)
abbrev pvs (k o s : Int) (a : Option Addr) (n c : Nat) (ae : Option Addr) (ne ce : Nat) : List Value := [.int .i64 k, .int .i64 o, .int .i64 s, .slice a n c, .slice ae ne ce]
variable {w W W' : World} {d : Ln} {s : Sl} {k o t : Int} {a : Option Addr} {n c B : Nat}
theorem ownE_set {base : Nat} {es : List T0.Ent} (h : V1.OwnE base W a es) (hB : B < base) (j : Nat) (v : Value) : V1.OwnE base (W.setCell ⟨B, j, none⟩ v) a es := by
 rcases h with h | ⟨g, e, hg, hk⟩
 ·exact Or.inl h
 ·refine Or.inr ⟨g, e, hg, ?_⟩
  have hne : ∀ x, (⟨B, j, none⟩ : Addr) ≠ ⟨g, x, none⟩ := fun x q => by have := (Addr.mk.inj q).1; omega
  refine ⟨fun i hi => ?_, fun i hi => ?_, fun i hi => ?_, ?_⟩
  ·rw [World.cell?_setCell_other _ _ _ _ (hne _), World.cell?_setCell_other _ _ _ _ (hne _)]
   exact hk.done i hi
  ·rw [World.cell?_setCell_other _ _ _ _ (hne _)]
   exact hk.there i hi
  ·rw [World.frozen?_setCell]
   exact hk.free i hi
  ·have := hk.lt
   simpa [World.setCell] using this
structure PR (w : World) (d : Ln) (s : Sl) (k o t : Int) (a : Option Addr) (n c B : Nat) (W : World) : Prop where
 arg : LB w.heap.size d s W
 res : K0.Blk (w.heap.size + 1) (pvs 0 0 0 none 0 0 none 0 0) W
 nb : K0.Blk B (I0.vals k o t a n c) W
 bel : Below w.heap.size w W
theorem PR.below (h : PR w d s k o t a n c B W) (hb : Below W.heap.size W W') : PR w d s k o t a n c B W' := ⟨h.arg.below hb, h.res.below hb, h.nb.below hb, h.bel.trans (hb.mono h.bel.size)⟩
theorem PR.drewN (h : PR w d s k o t a n c B W) (m : Nat) : PR w d s k o t a n c B (W.drewN m) := ⟨⟨h.arg.b.drewN m⟩, h.res.drewN m, h.nb.drewN m, K0.below_drewN h.bel m⟩
end Go.Proofs.YtpkmeknniajahaaGreatDoor.N5
namespace Go.Proofs.YtpkmeknniajahaaGreatDoor.N10
open Go.ChangeShapes Go.WideShapes Go.ChangeAt Go.RowKit
open N0 (Ln)
open N1 (Sl Lists LB)
open P1 (ret_bool quiet_bool)
structure SP (w : World) (d : Ln) (s : Sl) (k o t : Int) (a : Option Addr) (n c B : Nat) (W : World) : Prop where
 arg : LB w.heap.size d s W
 nb : K0.Blk B (I0.vals k o t a n c) W
 bel : Below w.heap.size w W
variable {w W W' : World} {d : Ln} {s : Sl} {k o t : Int} {a : Option Addr} {n c B : Nat}
theorem SP.below (h : SP w d s k o t a n c B W) (hb : Below W.heap.size W W') : SP w d s k o t a n c B W' := ⟨h.arg.below hb, h.nb.below hb, h.bel.trans (hb.mono h.bel.size)⟩
theorem SP.drewN (h : SP w d s k o t a n c B W) (m : Nat) : SP w d s k o t a n c B (W.drewN m) := ⟨⟨h.arg.b.drewN m⟩, h.nb.drewN m, K0.below_drewN h.bel m⟩
end Go.Proofs.YtpkmeknniajahaaGreatDoor.N10
namespace Go.Proofs.YtpkmeknniajahaaGreatDoor.O1
open Go.ChangeShapes Go.WideShapes Go.ChangeAt Go.RowKit
open I0 (val vals)
theorem wf_recAt (i : Int) : (Lit.int .i64 (L1.recAt i)).wf = true := by
 refine E4.wf_of _ ?_ ?_
 all_goals
  unfold L1.recAt
  split
  ·rename_i h
   have := B1.inB_true h
   omega
  ·omega
theorem l03Rec (mem : ByteArray) (i : Int) (w : World) (hs : mem.size ≤ 281474976710656) :
  Calls Tryz.prog 67 #[.string mem, .int .i64 i] w fun e w' => e = .returned (.string (O0.recd mem i)) ∧ w' = w := by
 have hm : mem.size ≤ maxLen := by unfold maxLen; omega
 have e : O0.recd mem i = B2.part mem (L1.recAt i) 16 := rfl
 rw [e]
 go_enter Tryz.func67, Tryz.ntmps67
 go_wp2_with (first
  | (go_at_call 41; refine (L1.spec_RecAt _ _).mono ?_; rintro e w' ⟨rfl, rfl⟩)
  | (go_at_call 49; refine (B2.spec_Part _ _ _ _ hm (wf_recAt i) (by decide)).mono ?_; rintro e w' ⟨rfl, rfl⟩))
 go_ret
 exact ⟨rfl, rfl⟩
theorem l03Page (mem : ByteArray) (z : Int) (w : World) (hs : mem.size ≤ 281474976710656) (h0 : 5 ≤ z) (h1 : z ≤ 23) :
  Calls Tryz.prog 69 #[.string mem, .int .i64 z] w fun e w' => e = .returned (.string (B2.part mem (z * 32) 32)) ∧ w' = w := by
 have hm : mem.size ≤ maxLen := by unfold maxLen; omega
 have hw := E4.wf_of (z * 32) (by omega) (by omega)
 go_enter Tryz.func69, Tryz.ntmps69
 go_wp2_with (go_at_call 49; refine (B2.spec_Part _ _ _ _ hm hw (by decide)).mono ?_; rintro e w' ⟨rfl, rfl⟩)
 go_ret
 exact ⟨rfl, rfl⟩
theorem make192 : ∃ C : Array Value, C.size = 192 ∧ ∀ W : World, (Instr.makeSlice 22 (.int .i64 0) (.int .i64 192)).run Tryz.prog W = .ok (.slice (some ⟨W.heap.size, 0, none⟩) 0 192) (W.alloc (.cells C 5)) := by
 obtain ⟨i0, hi, hz0, hz1, hz2⟩ := info_parts F0.info5
 refine ⟨madeCells (Value.int .u8 0).cells (192 * i0.size), ?_, fun W => ?_⟩
 ·have : (madeCells (Value.int .u8 0).cells (192 * i0.size)).toList.length = 192 := by
   rw [show (Value.int .u8 0).cells = #[Value.int .u8 0] from rfl, toList_madeCells_one, hz1]
   simp
  simpa using this
 ·exact run_make (P := Tryz.prog) W 22 5 i0 (.int .u8 0) Tryz.underlying22 hi hz0 .i64 .i64 0 192 (by omega) (by omega) (by rw [hz2]; omega) (by omega)
set_option maxHeartbeats 2000000 in
theorem pagesText (mem : ByteArray) (a : Option Addr) (c : Nat) (zs : List Int) (w : World) (hm : mem.size = 768) (hp : P0.pagesOk zs = true) (hl : zs.length ≤ 6) (hR1 : P0.Row w a zs) :
  Calls Tryz.prog 115 #[.string mem, .slice a zs.length c] w fun e w' => e = .returned (.string (O0.joined mem zs zs.length)) ∧ Below w.heap.size w w' := by
 obtain ⟨C, hC, hmk⟩ := make192
 have hbuf0 := F0.buf_none (base := w.heap.size) w C 192 hC (by unfold maxLen; omega) (Nat.le_refl _)
 have bel0 := K0.below_new w (.cells C 5)
 have hms : mem.size ≤ 281474976710656 := by omega
 go_enter Tryz.func115, Tryz.ntmps115
 go_wp2
 go_loopw [5, 11] (fun r i w' => ∃ (j g cap : Nat), j ≤ zs.length ∧ i = .int .i64 j ∧ r = .slice (some ⟨g, 0, none⟩) (32 * j) cap ∧ F0.Buf w.heap.size w' g (32 * j) cap (O0.joined mem zs j) ∧ Below w.heap.size w w') (fun _ i _ => zs.length - (intOf i).toNat)
 case atStart => exact ⟨0, w.heap.size, 192, Nat.zero_le _, rfl, rfl, hbuf0, bel0⟩
 case round =>
  obtain ⟨j, g, cap, hj, rfl, rfl, hbuf, hbel⟩ := hrel
  clear hbuf0 bel0 hmk
  by_cases hlt : j < zs.length
  ·obtain ⟨b, off, rfl, hb, hc⟩ := (hR1.below hbel).get hlt
   have x1 := hc j hlt
   have hz := R0.pages_bounds hp hlt
   have hu : O0.joined mem zs (j + 1) = O0.joined mem zs j ++ B2.part mem (zs.getD j 0 * 32) 32 := rfl
   obtain ⟨z, ez⟩ : ∃ z, zs.getD j 0 = z := ⟨_, rfl⟩
   rw [ez] at x1 hz hu
   have hps := O0.page_size hm hz.1 hz.2
   have z0 : 0 ≤ z := by omega
   have z1 : z ≤ 23 := hz.2
   have e1 : (0 : Int) ≤ (j : Int) := by omega
   have e2 : (j : Int) < (zs.length : Int) := by omega
   have HU : Hid (O0.joined mem zs (j + 1) = O0.joined mem zs j ++ B2.part mem (z * 32) 32) := hu
   clear hu ez hc hz
   go_wp2_with (first
    | (go_at_call 57; refine (B2.impl_Part _ _ _ _ hms).mono ?_; rintro e w2 ⟨rfl, b2⟩; have hbuf2 := hbuf.below b2; have bel2 := hbel.trans (b2.mono hbel.size))
    | (at_builtin; refine F0.append_text rfl (.tmp 15) (.tmp 19) rfl hbuf2 (B2.part mem (z * 32) 32) (by rfl) (by rfl) (by omega) bel2.size ?_; intro g1 cap1 w3 hbuf3 bel3))
   go_roundw
   case rel =>
    rw [hps] at hbuf3
    exact ⟨j + 1, g1, cap1, by omega, by go_num, rfl, by rw [HU.out]; exact hbuf3, bel2.trans bel3⟩
   case measure => simp [intOf]; omega
  ·obtain rfl : j = zs.length := by omega
   have hcv := hbuf.conv
   clear hbuf hR1
   go_wp2
   go_ret
   exact ⟨rfl, hbel⟩
theorem part_front (u : ByteArray) (n : Int) (h0 : 0 ≤ n) (h1 : n ≤ (u.size : Int)) : B2.part u 0 n = u.extract 0 n.toNat := by
 rw [B2.part, if_pos]
 ·simp
 ·unfold B2.lies
  simp
  omega
set_option maxHeartbeats 2000000 in
theorem dataOf (mem : ByteArray) (k o s : Int) (a : Option Addr) (c : Nat) (zs : List Int) (w : World) (hm : mem.size = 768) (hp : P0.pagesOk zs = true) (hl : zs.length ≤ 6) (hs0 : 0 ≤ s) (hs1 : s ≤ 32 * (zs.length : Int)) (hR : P0.Row w a zs) :
  Calls Tryz.prog 84 #[.string mem, val k o s a zs.length c] w fun e w' => e = .returned (.string ((O0.joined mem zs zs.length).extract 0 s.toNat)) ∧ Below w.heap.size w w' := by
 have hbox := K0.blk_new (vals k o s a zs.length c) w 50
 have hl0 := K0.below_new w (.cells #[.int .i64 k, .int .i64 o, .int .i64 s, .slice a zs.length c] 50)
 have HT : Hid (∀ W, Below w.heap.size w W → Calls Tryz.prog 115 #[.string mem, .slice a zs.length c] W fun e w' => e = .returned (.string (O0.joined mem zs zs.length)) ∧ Below W.heap.size W w') := fun W hb => pagesText mem a c zs W hm hp hl (hR.below hb)
 have hsz := O0.joined_size hm hp zs.length (Nat.le_refl _)
 rw [← part_front _ _ hs0 (by omega)]
 obtain ⟨u, hu⟩ : ∃ u, O0.joined mem zs zs.length = u := ⟨_, rfl⟩
 rw [hu] at HT hsz ⊢
 have hus : u.size ≤ 281474976710656 := by omega
 have s1 : (w.alloc (.cells #[.int .i64 k, .int .i64 o, .int .i64 s, .slice a zs.length c] 50)).drew.cell? ⟨w.heap.size, 2, none⟩ = some (.int .i64 s) ∧ (w.alloc (.cells #[.int .i64 k, .int .i64 o, .int .i64 s, .slice a zs.length c] 50)).drew.cell? ⟨w.heap.size, 3, none⟩ = some (.slice a zs.length c) := ⟨hbox.drew.c2, hbox.drew.c3⟩
 clear hR hu hsz
 go_enter Tryz.func84, Tryz.ntmps84
 go_wp2
 go_region_held3 (fun W => W.cell? ⟨w.heap.size, 2, none⟩ = some (.int .i64 s) ∧ W.cell? ⟨w.heap.size, 3, none⟩ = some (.slice a zs.length c)) (assumption) ((first
  | (go_at_call 115; refine (HT.out _ hl0.drew).mono ?_; rintro e w2 ⟨rfl, b2⟩; have hb2 := hbox.drew.below b2; have l2 := hl0.drew.trans (b2.mono hl0.drew.size); have s2 : w2.cell? ⟨w.heap.size, 2, none⟩ = some (.int .i64 s) ∧ w2.cell? ⟨w.heap.size, 3, none⟩ = some (.slice a zs.length c) := ⟨hb2.c2, hb2.c3⟩)
  | (go_at_call 57; refine (B2.impl_Part _ _ _ _ hus).mono ?_; rintro e w3 ⟨rfl, b3⟩; have hb3 := hb2.below b3; have l3 := l2.trans (b3.mono l2.size); have s3 : w3.cell? ⟨w.heap.size, 2, none⟩ = some (.int .i64 s) ∧ w3.cell? ⟨w.heap.size, 3, none⟩ = some (.slice a zs.length c) := ⟨hb3.c2, hb3.c3⟩)))
 all_goals
  go_wp2
  go_ret
  exact ⟨rfl, l3⟩
end Go.Proofs.YtpkmeknniajahaaGreatDoor.O1
namespace Go.Proofs.YtpkmeknniajahaaGreatDoor.D1
open Go.ChangeShapes Go.WideShapes Go.ChangeAt Go.RowKit
variable {w W W' : World} {B : Nat} {a : Option Addr}
theorem cells6 {x0 x1 x2 x3 x4 x5 : Value} (h : K0.Blk B [x0, x1, x2, x3, x4, x5] W) : W.cell? ⟨B, 0, none⟩ = some x0 ∧ W.cell? ⟨B, 1, none⟩ = some x1 ∧ W.cell? ⟨B, 2, none⟩ = some x2 ∧ W.cell? ⟨B, 3, none⟩ = some x3 ∧ W.cell? ⟨B, 4, none⟩ = some x4 ∧ W.cell? ⟨B, 5, none⟩ = some x5 := ⟨h.cell 0 (by simp), h.cell 1 (by simp), h.cell 2 (by simp), h.cell 3 (by simp), h.cell 4 (by simp), h.cell 5 (by simp)⟩
theorem free6 {x0 x1 x2 x3 x4 x5 : Value} (h : K0.Blk B [x0, x1, x2, x3, x4, x5] W) : W.frozen? ⟨B, 0, none⟩ = false ∧ W.frozen? ⟨B, 1, none⟩ = false ∧ W.frozen? ⟨B, 2, none⟩ = false ∧ W.frozen? ⟨B, 3, none⟩ = false ∧ W.frozen? ⟨B, 4, none⟩ = false ∧ W.frozen? ⟨B, 5, none⟩ = false := ⟨h.free 0 (by simp), h.free 1 (by simp), h.free 2 (by simp), h.free 3 (by simp), h.free 4 (by simp), h.free 5 (by simp)⟩
abbrev W6 (W : World) (B : Nat) (y0 y1 y2 y3 y4 y5 : Value) : World := ((((((W.setCell ⟨B, 0, none⟩ y0).setCell ⟨B, 1, none⟩ y1).setCell ⟨B, 2, none⟩ y2).setCell ⟨B, 3, none⟩ y3).setCell ⟨B, 4, none⟩ y4).setCell ⟨B, 5, none⟩ y5)
theorem put6 {x0 x1 x2 x3 x4 x5 : Value} (h : K0.Blk B [x0, x1, x2, x3, x4, x5] W) (y0 y1 y2 y3 y4 y5 : Value) : K0.Blk B [y0, y1, y2, y3, y4, y5] (W6 W B y0 y1 y2 y3 y4 y5) := ((((((h.set 0 y0).set 1 y1).set 2 y2).set 3 y3).set 4 y4).set 5 y5)
theorem bel6 {b : Nat} (h : Below b w W) (hb : b ≤ B) (y0 y1 y2 y3 y4 y5 : Value) : Below b w (W6 W B y0 y1 y2 y3 y4 y5) := ((((((h.setCell (p := ⟨B, 0, none⟩) hb y0).setCell (p := ⟨B, 1, none⟩) hb y1).setCell (p := ⟨B, 2, none⟩) hb y2).setCell (p := ⟨B, 3, none⟩) hb y3).setCell (p := ⟨B, 4, none⟩) hb y4).setCell (p := ⟨B, 5, none⟩) hb y5)
theorem own6 {base : Nat} {zs : List Int} (h : J0.Own base W a zs) (hB : B < base) (y0 y1 y2 y3 y4 y5 : Value) : J0.Own base (W6 W B y0 y1 y2 y3 y4 y5) a zs := ((((((h.set hB 0 y0).set hB 1 y1).set hB 2 y2).set hB 3 y3).set hB 4 y4).set hB 5 y5)
theorem ownE6 {base : Nat} {es : List T0.Ent} (h : V1.OwnE base W a es) (hB : B < base) (y0 y1 y2 y3 y4 y5 : Value) : V1.OwnE base (W6 W B y0 y1 y2 y3 y4 y5) a es := (N5.ownE_set (N5.ownE_set (N5.ownE_set (N5.ownE_set (N5.ownE_set (N5.ownE_set h hB 0 y0) hB 1 y1) hB 2 y2) hB 3 y3) hB 4 y4) hB 5 y5)
abbrev nv (k o t : Int) (a : Option Addr) (n c : Nat) (x : ByteArray) (ae : Option Addr) (ne ce : Nat) : Value := .agg #[.int .i64 k, .int .i64 o, .int .i64 t, .slice a n c, .string x, .slice ae ne ce]
abbrev nvs (k o t : Int) (a : Option Addr) (n c : Nat) (x : ByteArray) (ae : Option Addr) (ne ce : Nat) : List Value := [.int .i64 k, .int .i64 o, .int .i64 t, .slice a n c, .string x, .slice ae ne ce]
def data (mem : ByteArray) (i : Int) : ByteArray := (O0.joined mem (G0.gZ (O0.recd mem i)) (G0.gZ (O0.recd mem i)).length).extract 0 (G0.gS (O0.recd mem i)).toNat
def nodeOk (mem : ByteArray) (i : Int) : Bool := G0.isI (O0.recd mem i) && (!decide (G0.gK (O0.recd mem i) = 2) || V0.isD (data mem i))
def nodeE (mem : ByteArray) (i : Int) : List T0.Ent := if G0.gK (O0.recd mem i) = 2 then V0.dE (data mem i) else []
structure ND (w : World) (k o t : Int) (a : Option Addr) (n c B : Nat) (W : World) : Prop where
 res : K0.Blk w.heap.size (nvs 0 0 0 none 0 0 ⟨#[]⟩ none 0 0) W
 nb : K0.Blk B (I0.vals k o t a n c) W
 bel : Below w.heap.size w W
theorem ND.below {k o t : Int} {n c : Nat} (h : ND w k o t a n c B W) (hb : Below W.heap.size W W') : ND w k o t a n c B W' := ⟨h.res.below hb, h.nb.below hb, h.bel.trans (hb.mono h.bel.size)⟩
abbrev w00 (w : World) : World := w.alloc (.cells #[.int .i64 0, .int .i64 0, .int .i64 0, .slice none 0 0, .string ⟨#[]⟩, .slice none 0 0] 78)
theorem nd_new {k o t : Int} {n c : Nat} (hb : Below (w00 w).heap.size (w00 w) W) : ND w k o t a n c W.heap.size (W.alloc (.cells #[.int .i64 k, .int .i64 o, .int .i64 t, .slice a n c] 50)) :=
 ⟨((K0.blk_new (nvs 0 0 0 none 0 0 ⟨#[]⟩ none 0 0) w 78).below hb).alloc _, K0.blk_new (I0.vals k o t a n c) W 50, ((K0.below_new w _).trans (hb.mono (K0.below_new w _).size)).alloc (Nat.le_trans (K0.below_new w _).size hb.size) _⟩
theorem node_cases (mem : ByteArray) (i : Int) :
  (G0.isI (O0.recd mem i) = false ∧ nodeOk mem i = false) ∨ (G0.isI (O0.recd mem i) = true ∧ (G0.gK (O0.recd mem i) != 2) = true ∧ nodeOk mem i = true ∧ nodeE mem i = []) ∨
  (G0.isI (O0.recd mem i) = true ∧ (G0.gK (O0.recd mem i) != 2) = false ∧ nodeOk mem i = V0.isD (data mem i) ∧ nodeE mem i = V0.dE (data mem i)) := by
 unfold nodeOk nodeE
 cases hI : G0.isI (O0.recd mem i) with
 | false => exact Or.inl ⟨rfl, Bool.false_and _⟩
 | true =>
  right
  by_cases h2 : G0.gK (O0.recd mem i) = 2
  ·right
   exact ⟨rfl, by simpa using h2, by rw [decide_eq_true h2, Bool.true_and, Bool.not_true, Bool.false_or], by rw [if_pos h2]⟩
  ·left
   exact ⟨rfl, by simpa using h2, by rw [decide_eq_false h2, Bool.not_false, Bool.true_or, Bool.true_and], by rw [if_neg h2]⟩
theorem data_le (mem : ByteArray) (i : Int) (hm : mem.size = 768) : (data mem i).size ≤ 281474976710656 := by
 unfold data
 rw [ByteArray.size_extract]
 cases hI : G0.isI (O0.recd mem i) with
 | true =>
  have hg := O0.got hI
  rw [O0.joined_size hm hg.2.2.2.1 _ (Nat.le_refl _)]
  have := hg.2.1
  omega
 | false =>
  rw [(G0.g_no hI).2.2.2]
  have : (O0.joined mem [] ([] : List Int).length).size = 0 := rfl
  omega
end Go.Proofs.YtpkmeknniajahaaGreatDoor.D1
