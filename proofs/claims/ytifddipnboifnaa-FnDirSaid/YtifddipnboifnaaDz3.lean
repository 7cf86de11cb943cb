/- Contracts of spec.l03Mem and of the draws that laws.FnDir asks for: what is drawn lies in its bounds. -/
import Derived.Test.YtifddipnboifnaaDz2
import Derived.Test.YtifddipnboifnaaDir3
import Derived.Test.YtifddipnboifnaaRec2
import Derived.Test.YtifddipnboifnaaRecAt1
namespace Go.Proofs.Ytifddipnboifnaa.C1
open Go.ChangeShapes Go.WideShapes Go.ChangeAt Go.RowKit C0
set_option linter.unusedVariables false
set_option linter.unusedSimpArgs false
set_option maxRecDepth 10000
variable {w0 w : World} {c : Nat} {a : Option Addr} {len cap : Nat}

theorem putD_size (es : List T0.Ent) : (T0.putD es).size ≤ 192 := by
  unfold T0.putD
  split
  · rename_i h
    simp only [T0.dirOk, Bool.and_eq_true, decide_eq_true_eq] at h
    rw [T0.joined_size h.2 _ (Nat.le_refl _)]
    omega
  · exact Nat.zero_le _

theorem short_fits {es : List T0.Ent} (h : Short es) : T0.Fits es := fun j hj => by
  rw [T0.ent_get _ _ hj]
  have := h _ (List.getElem_mem hj)
  omega

theorem mWith {W : World} (s : ByteArray) (i : Int) (t : ByteArray) (hs : s.size = 768) (ht : t.size ≤ 1000) (h : St w0 W c a len cap) (g : w.grownBy W (some c)) :
    Calls Try.prog 87 #[.string s, .int .i64 i, .string t] W fun e w' => (∃ u : ByteArray, u.size = 768 ∧ e = .returned (.string u)) ∧ St w0 w' c a len cap ∧ w.grownBy w' (some c) :=
  (B5.spec_With s i t W (by omega) (by omega)).mono fun e w' ⟨he, n, hw⟩ => ⟨⟨_, (laid_size s i t).trans hs, he⟩, by rw [hw]; exact h.drewN n, by rw [hw]; exact grown_drewN g n⟩

theorem mPut {W : World} (k o s : Int) (p : Option Addr) (cp : Nat) (zs : List Int) (hn : zs.length ≤ 100) (hcp : zs.length ≤ cp) (hR : P0.Row W p zs) (h : St w0 W c a len cap) (g : w.grownBy W (some c)) :
    Calls Try.prog 22 #[I0.val k o s p zs.length cp] W fun e w' => (∃ u : ByteArray, u.size ≤ 1000 ∧ e = .returned (.string u)) ∧ St w0 w' c a len cap ∧ w.grownBy w' (some c) :=
  (R2.spec_PutInode k o s p cp zs W (by omega) hcp hR).mono fun e w' ⟨he, hb⟩ => ⟨⟨_, Nat.le_trans (R0.putI_size _ _ _ _) (by omega), he⟩, h.below hb, grown_below g hb⟩

theorem mRec {W : World} (i : Int) (h : St w0 W c a len cap) (g : w.grownBy W (some c)) :
    Calls Try.prog 30 #[.int .i64 i] W fun e w' => (∃ x : Int, e = .returned (.int .i64 x)) ∧ St w0 w' c a len cap ∧ w.grownBy w' (some c) :=
  (L1.spec_RecAt i W).mono fun e w' ⟨he, hb⟩ => ⟨⟨_, he⟩, by rw [hb]; exact h, by rw [hb]; exact g⟩

theorem row_new (W : World) (zs : List Int) (C : Array Value) (hC : C = (zs.map fun z => Value.int .i64 z).toArray) : P0.Row (W.alloc (.cells C 3)) (some ⟨W.heap.size, 0, none⟩) zs := by
  subst hC
  refine Or.inr ⟨W.heap.size, 0, rfl, by simp, fun j hj => ?_⟩
  rw [World.cell?_alloc_mark]
  simp [hj]

set_option maxHeartbeats 4000000 in
theorem l03Mem (hcode : Given w0 a len) (h : St w0 w c a len cap) (hlen : len ≤ 1048576) :
    Calls Try.prog 82 #[.pointer (some ⟨c, 0, none⟩)] w fun e w' => (∃ u : ByteArray, u.size ≤ 768 ∧ e = .returned (.string u)) ∧ St w0 w' c a len cap ∧ w.grownBy w' (some c) := by
  have hg0 : w.grownBy w (some c) := grown_refl _ _
  obtain ⟨z, hz⟩ : ∃ z, B4.zeros 768 = z := ⟨_, rfl⟩
  have hzs : z.size = 768 := by rw [← hz, B4.zeros, if_pos (by omega), B4.nulls_size]; rfl
  have HZ : Hid (∀ W, Calls Try.prog 74 #[.int .i64 768] W fun e w' => e = .returned (.string z) ∧ W = w') := fun W => (B4.spec_Zeros 768 W).mono fun _ _ ⟨he, hb⟩ => ⟨by rw [he, hz], hb.symm⟩
  have hlit : (⟨#[84, 78, 82, 49]⟩ : ByteArray).size ≤ 1000 := show 4 ≤ 1000 by omega
  have HP : Hid (Calls Try.prog 39 #[.slice (some ⟨w.heap.size, 0, none⟩) 2 2] (w.alloc (.cells #[.int .i64 1, .string ⟨#[97]⟩, .int .i64 2, .string ⟨#[98]⟩] 33)) fun e w' => (∃ u : ByteArray, u.size ≤ 1000 ∧ e = .returned (.string u)) ∧ St w0 w' c a len cap ∧ w.grownBy w' (some c)) :=
    (T3.spec_PutDir (some ⟨w.heap.size, 0, none⟩) 2 [(1, ⟨#[97]⟩), (2, ⟨#[98]⟩)] _ (by simp) (by simp) (fun j hj => by match j, hj with | 0, _ => exact (show 1 ≤ 281474976710656 by omega) | 1, _ => exact (show 1 ≤ 281474976710656 by omega)) (Or.inr ⟨w.heap.size, 0, rfl, by simp, fun j hj => by
      match j, hj with
      | 0, _ => exact ⟨by rw [World.cell?_alloc_mark]; rfl, by rw [World.cell?_alloc_mark]; rfl⟩
      | 1, _ => exact ⟨by rw [World.cell?_alloc_mark]; rfl, by rw [World.cell?_alloc_mark]; rfl⟩⟩)).mono fun e w' ⟨he, hb⟩ => ⟨⟨_, Nat.le_trans (putD_size _) (by omega), he⟩, (h.below (K0.below_new w _)).below hb, grown_below (grown_of_below (K0.below_new w _)) hb⟩
  clear hz
  go_enter Try.func82, Try.ntmps82
  go_wp2_with (first
    | (go_at_call 74; refine (HZ.out _).mono ?_; rintro e v1 ⟨rfl, rfl⟩)
    | (go_at_call 39; refine HP.out.mono ?_; rintro e vd ⟨⟨ud, hud, rfl⟩, sd, gd⟩)
    | (go_at_call 30; refine (mRec (w0 := w0) (w := w) _ (by assumption) (by assumption)).mono ?_; rintro e vr ⟨⟨xr, rfl⟩, sr, gr⟩)
    | (go_at_call 22; have i3 := i2; refine (mPut (w0 := w0) (w := w) _ _ _ none 0 [] (by simp) (by simp) (Or.inl rfl) sr gr).mono ?_; rintro e vp ⟨⟨up, hup, rfl⟩, sp, gp⟩)
    | (go_at_call 22; have i2 := i1; refine (mPut (w0 := w0) (w := w) _ _ _ _ _ [7, 6] (by simp) (by simp) (row_new vr [7, 6] _ rfl) (sr.below (K0.below_new _ _)) (grown_below gr (K0.below_new _ _))).mono ?_; rintro e vp ⟨⟨up, hup, rfl⟩, sp, gp⟩)
    | (go_at_call 22; have i1 : True := trivial; refine (mPut (w0 := w0) (w := w) _ _ _ _ _ [5] (by simp) (by simp) (row_new vr [5] _ rfl) (sr.below (K0.below_new _ _)) (grown_below gr (K0.below_new _ _))).mono ?_; rintro e vp ⟨⟨up, hup, rfl⟩, sp, gp⟩)
    | (go_at_call 87; refine (mWith (w0 := w0) (w := w) _ _ _ (by assumption) (by assumption) (by assumption) (by assumption)).mono ?_; rintro e vm ⟨⟨um, hum, rfl⟩, sm, gm⟩; have hum1 : (1 : Int) ≤ (um.size : Int) := (by omega))
    | (go_at_call 100; have bl' := bl; refine (bytes_int hcode sbl hlen 1 (by omega) (by omega)).mono ?_; rintro e vb ⟨⟨ub, hub, rfl⟩, sb, gb0⟩; have gb := grown_trans gbl gb0; have hub2 : ub.size ≤ 1000 := (by omega))
    | (go_at_call 100; refine (bytes_int hcode sm hlen 64 (by omega) (by omega)).mono ?_; rintro e vb ⟨⟨ub, hub, rfl⟩, sb, gb0⟩; have gb := grown_trans gm gb0; have hub2 : ub.size ≤ 1000 := (by omega))
    | (go_at_call 109; have o2 := o1; refine (once_any hcode (by assumption) hlen 20 (by omega) (by omega)).mono ?_; rintro e vo ⟨⟨bo2, rfl⟩, so2, go20⟩; have go2 : w.grownBy vo (some c) := (by first | exact grown_trans gm go20 | exact grown_trans go1 go20))
    | (go_at_call 109; have o1 : True := trivial; refine (once_any hcode sm hlen 4 (by omega) (by omega)).mono ?_; rintro e vo ⟨⟨bo, rfl⟩, so, go0⟩; have go1 := grown_trans gm go0)
    | (go_at_call 72; have bl : True := trivial; refine (below_any hcode so hlen 200 (by omega) (by omega)).mono ?_; rintro e vl ⟨⟨xl, xl0, xl1, rfl⟩, sbl, gl0⟩; have gbl := grown_trans go1 gl0))
  all_goals go_ret
  all_goals first
    | exact ⟨⟨_, by rw [ByteArray.size_extract]; omega, rfl⟩, so2, go2⟩
    | exact ⟨⟨_, by omega, rfl⟩, so2, go2⟩
end Go.Proofs.Ytifddipnboifnaa.C1
