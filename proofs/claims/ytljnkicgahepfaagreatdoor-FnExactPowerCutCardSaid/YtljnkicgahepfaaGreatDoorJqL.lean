/- Joined texts: plain facts and contracts. -/
import Derived.Test.YtljnkicgahepfaaGreatDoorJqH
import Derived.Test.YtljnkicgahepfaaGreatDoorJqE
import Derived.Test.YtljnkicgahepfaaGreatDoorJqD
import Derived.Deep.RegionWith
import Derived.Test.YtljnkicgahepfaaGreatDoorJqK
import Derived.Lib.AppendZerosOnto
import Derived.Deep.AppendLies
import Derived.Deep.RegionHeld3
import Derived.Test.YtljnkicgahepfaaGreatDoorJqA
import Derived.Defers
import Derived.Recover
import Derived.Laws.Pointers
set_option linter.unusedVariables false
set_option linter.unusedSimpArgs false
set_option maxRecDepth 10000
namespace Go.Proofs.YtljnkicgahepfaaGreatDoor.D2
open Go.ChangeShapes Go.WideShapes Go.ChangeAt Go.RowKit
structure Fr (B : Nat) (w : World) (a b : ByteArray) (W : World) : Prop where
 c0 : W.cell? ⟨B, 0, none⟩ = some (.string a)
 c1 : W.cell? ⟨B, 1, none⟩ = some (.string b)
 r0 : W.cell? ⟨B + 1, 0, none⟩ = some (.string ⟨#[]⟩)
 r1 : W.cell? ⟨B + 1, 1, none⟩ = some (.string ⟨#[]⟩)
 f0 : W.frozen? ⟨B + 1, 0, none⟩ = false
 f1 : W.frozen? ⟨B + 1, 1, none⟩ = false
 g0 : W.frozen? ⟨B, 0, none⟩ = false
 g1 : W.frozen? ⟨B, 1, none⟩ = false
 lt : B + 1 < W.heap.size
 bel : Below B w W
theorem Fr.below {B : Nat} {w W W' : World} {a b : ByteArray} (h : Fr B w a b W) (hb : Below W.heap.size W W') : Fr B w a b W' :=
  ⟨(hb.cell (p := ⟨B, 0, none⟩) (by have := h.lt; show B < _; omega)).trans h.c0, (hb.cell (p := ⟨B, 1, none⟩) (by have := h.lt; show B < _; omega)).trans h.c1,
   (hb.cell (p := ⟨B + 1, 0, none⟩) h.lt).trans h.r0, (hb.cell (p := ⟨B + 1, 1, none⟩) h.lt).trans h.r1,
   (hb.frozen (p := ⟨B + 1, 0, none⟩) h.lt).trans h.f0, (hb.frozen (p := ⟨B + 1, 1, none⟩) h.lt).trans h.f1,
   (hb.frozen (p := ⟨B, 0, none⟩) (by have := h.lt; show B < _; omega)).trans h.g0, (hb.frozen (p := ⟨B, 1, none⟩) (by have := h.lt; show B < _; omega)).trans h.g1,
   Nat.lt_of_lt_of_le h.lt hb.size, h.bel.trans (hb.mono (by have := h.lt; omega))⟩
theorem Fr.drew {B : Nat} {w W : World} {a b : ByteArray} (h : Fr B w a b W) : Fr B w a b W.drew := ⟨h.c0, h.c1, h.r0, h.r1, h.f0, h.f1, h.g0, h.g1, h.lt, h.bel.drew⟩
theorem fr_new (a b : ByteArray) (w : World) : Fr w.heap.size w a b ((w.alloc (.cells #[.string a, .string b] 25)).alloc (.cells #[.string ⟨#[]⟩, .string ⟨#[]⟩] 25)) := by
 refine ⟨?_, ?_, ?_, ?_, ?_, ?_, ?_, ?_, ?_, ?_⟩
 all_goals first | exact ((Below.refl _ _).alloc (Nat.le_refl _) _).alloc (by simp) _ | (simp [go_sem]; done) | (simp; done) | (simp [go_sem]; omega)
theorem ret2 {W : World} {B : Nat} {a b : ByteArray} {c d : Value} (h0 : W.cell? ⟨B, 0, none⟩ = some c) (h1 : W.cell? ⟨B, 1, none⟩ = some d) :
  ((W.setCell ⟨B, 0, none⟩ (.string a)).setCell ⟨B, 1, none⟩ (.string b)).cell? ⟨B, 0, none⟩ = some (.string a) ∧ ((W.setCell ⟨B, 0, none⟩ (.string a)).setCell ⟨B, 1, none⟩ (.string b)).cell? ⟨B, 1, none⟩ = some (.string b) := by
 have e : (⟨B, 1, none⟩ : Addr) ≠ ⟨B, 0, none⟩ := by simp
 refine ⟨?_, ?_⟩
 ·rw [World.cell?_setCell_other _ _ _ _ e, World.cell?_setCell_same _ _ _ h0]
 ·rw [World.cell?_setCell_same _ _ _ ((World.cell?_setCell_other _ _ _ _ e.symm).trans h1)]
theorem clone_fr {B : Nat} {w W : World} {a b : ByteArray} (s : ByteArray) (hs : s.size ≤ 281474976710656) (h : Fr B w a b W) :
  Calls Tryz.prog 68 #[.string s] W fun e w' => e = .returned (.string s) ∧ Fr B w a b w' :=
 (B2.clone_any s W hs).mono fun _ _ ⟨he, hb⟩ => ⟨he, h.below hb⟩
set_option maxHeartbeats 4000000 in
theorem devCopy (a b : ByteArray) (w : World) (ha : a.size ≤ 281474976710656) (hb : b.size ≤ 281474976710656) :
  Calls Tryz.prog 175 #[.agg #[.string a, .string b]] w fun e w' => e = .returned (.agg #[.string a, .string b]) ∧ Below w.heap.size w w' := by
 have hF := fr_new a b w
 go_enter Tryz.func175, Tryz.ntmps175
 go_wp2
 obtain ⟨W, hW⟩ : ∃ W, (w.alloc (.cells #[.string a, .string b] 25)).alloc (.cells #[.string ⟨#[]⟩, .string ⟨#[]⟩] 25) = W := ⟨_, rfl⟩
 rw [hW] at hF ⊢
 have c0 := hF.c0
 have c1 := hF.c1
 have hFd := hF.drew
 go_region_with (go_at_call 68; refine (clone_fr (B := w.heap.size) (w := w) (a := a) (b := b) _ (by omega) (by assumption)).mono ?_; rintro e w4 ⟨rfl, h4⟩; have d0 := h4.c0; have d1 := h4.c1; have d2 := h4.r0; have d3 := h4.r1; have d4 := h4.f0; have d5 := h4.f1)
 all_goals
  go_wp2
  have q := ret2 (a := a) (b := b) d2 d3
  exact bodyPost_ret (v := .agg #[.string a, .string b]) (by simp [results, Tryz.results175, go_sem, q.1, q.2]) rfl
   ⟨rfl, (h4.bel.setCell (p := ⟨w.heap.size + 1, 0, none⟩) (Nat.le_succ _) _).setCell (p := ⟨w.heap.size + 1, 1, none⟩) (Nat.le_succ _) _⟩
theorem impl_DevOk_fr {B : Nat} {w W : World} {a b : ByteArray} (s t : ByteArray) (hs : s.size ≤ 281474976710656) (ht : t.size ≤ 281474976710656) (h : Fr B w a b W) :
  Calls Tryz.prog 53 #[.agg #[.string s, .string t]] W fun e w' => e = .returned (.bool (D1.ok s t)) ∧ Fr B w a b w' :=
 (D1.impl_DevOk s t W (by unfold maxLen; omega) (by unfold maxLen; omega)).mono fun _ _ ⟨he, hb⟩ => ⟨he, hb ▸ h.below ((Below.refl _ _).alloc (Nat.le_refl _) _)⟩
theorem spec_DevOk_fr {B : Nat} {w W : World} {a b : ByteArray} (s t : ByteArray) (hs : s.size ≤ 281474976710656) (ht : t.size ≤ 281474976710656) (h : Fr B w a b W) :
  Calls Tryz.prog 43 #[.agg #[.string s, .string t]] W fun e w' => e = .returned (.bool (D1.ok s t)) ∧ Fr B w a b w' :=
 (D1.spec_DevOk s t W (by unfold maxLen; omega) (by unfold maxLen; omega)).mono fun _ _ ⟨he, hb⟩ => ⟨he, hb ▸ h.below ((Below.refl _ _).alloc (Nat.le_refl _) _)⟩
theorem below_drewN {B : Nat} {a w : World} (h : Below B a w) (n : Nat) : Below B a (w.drewN n) := ⟨h.os, h.tape, h.output, h.size, h.block⟩
theorem spec_with_fr {B : Nat} {w W : World} {a b : ByteArray} (s : ByteArray) (i : Int) (t : ByteArray) (hs : s.size ≤ 281474976710656) (ht : t.size ≤ 281474976710656) (h : Fr B w a b W) :
  Calls Tryz.prog 97 #[.string s, .int .i64 i, .string t] W fun e w' => e = .returned (.string (B5.laid s i t)) ∧ Fr B w a b w' :=
 (B5.spec_With s i t W hs ht).mono fun _ _ ⟨he, n, hb⟩ => ⟨he, hb ▸ h.below (below_drewN (Below.refl _ _) n)⟩
theorem Fr.set0 {B : Nat} {w W : World} {a b : ByteArray} (h : Fr B w a b W) (x : ByteArray) : Fr B w x b (W.setCell ⟨B, 0, none⟩ (.string x)) :=
  ⟨World.cell?_setCell_same _ _ _ h.c0, (World.cell?_setCell_other _ _ _ _ (by simp)).trans h.c1, (World.cell?_setCell_other _ _ _ _ (by simp)).trans h.r0, (World.cell?_setCell_other _ _ _ _ (by simp)).trans h.r1,
   by rw [World.frozen?_setCell]; exact h.f0, by rw [World.frozen?_setCell]; exact h.f1, by rw [World.frozen?_setCell]; exact h.g0, by rw [World.frozen?_setCell]; exact h.g1,
   by have := h.lt; simpa [World.setCell] using this, h.bel.setCell (p := ⟨B, 0, none⟩) (Nat.le_refl _) _⟩
theorem Fr.done {B : Nat} {w W : World} {a b : ByteArray} (h : Fr B w a b W) (x y : Value) : Below B w ((W.setCell ⟨B + 1, 0, none⟩ x).setCell ⟨B + 1, 1, none⟩ y) :=
 (h.bel.setCell (p := ⟨B + 1, 0, none⟩) (Nat.le_succ _) _).setCell (p := ⟨B + 1, 1, none⟩) (Nat.le_succ _) _
end Go.Proofs.YtljnkicgahepfaaGreatDoor.D2
namespace Go.Proofs.YtljnkicgahepfaaGreatDoor.KC
open Go.ChangeShapes Go.WideShapes Go.ChangeAt Go.RowKit
open N0 (Ln)
open N1 (Sl val vals Lists LB lb_new)
open Z0 (dat Row Lns Kp kval kvals dz sz0 At)
open Z2 (LAt put setL blk_setL blk_otherL bel_setL put_len put_get lat_other put_other at_of)
open LF (Btw OwnIn)
open LH (HL lob)
theorem W0b.below {w W W' : World} {row : Option Nat} (h : Below w.heap.size w W) (hg : W.grownBy W' row) (hr : ∀ g, row = some g → w.heap.size ≤ g) : Below w.heap.size w W' := F0.below_grown h hg hr h.size
def flat : List Ln → (Nat → Sl) → List Value
 | [], _ => []
 | d :: r, ss => vals d (ss 0) ++ flat r (fun j => ss (j + 1))
theorem flat_len : ∀ (ds : List Ln) (ss : Nat → Sl), (flat ds ss).length = ds.length * 8
 | [], _ => rfl
 | d :: r, ss => by simp [flat, flat_len r]; omega
theorem flat_at : ∀ (ds : List Ln) (ss : Nat → Sl) (j : Nat), j < ds.length → LAt (flat ds ss) (j * 8) (dat ds j) (ss j)
 | [], _, j, h => by simp at h
 | d :: r, ss, 0, _ => ⟨rfl, rfl, rfl, rfl, rfl, rfl, rfl, rfl⟩
 | d :: r, ss, j + 1, h => by
  have ih := flat_at r (fun j => ss (j + 1)) j (by simpa using h)
  unfold LAt at ih ⊢
  have e : ∀ x, (flat (d :: r) ss)[(j + 1) * 8 + x]? = (flat r (fun j => ss (j + 1)))[j * 8 + x]? := fun x => by
   rw [flat, List.getElem?_append_right (by simp; omega)]
   congr 1
   simp
   omega
  have e0 := e 0
  simp only [Nat.add_zero] at e0
  rw [e0, e 1, e 2, e 3, e 4, e 5, e 6, e 7]
  exact ih
theorem flat_one : ∀ (ds : List Ln) (ss : Nat → Sl), ∀ u ∈ flat ds ss, u.oneCell' = true
 | [], _, u, h => by cases h
 | d :: r, ss, u, h => by
  rw [flat, List.mem_append] at h
  rcases h with h | h
  ·simp at h
   rcases h with rfl | rfl | rfl | rfl | rfl | rfl | rfl | rfl <;> rfl
  ·exact flat_one r _ u h
theorem row_cells {W : World} {b off : Nat} {ds : List Ln} {ss : Nat → Sl} (hc : ∀ j, j < ds.length → At W b (off + j * 8) (dat ds j) (ss j)) (i : Nat) (u : Value) (h : (flat ds ss)[i]? = some u) : W.cell? ⟨b, off + i, none⟩ = some u := by
 have hi : i < ds.length * 8 := by
  have := (List.getElem?_eq_some_iff.1 h).1
  rwa [flat_len] at this
 have hj : i / 8 < ds.length := by omega
 obtain ⟨f0, f1, f2, f3, f4, f5, f6, f7⟩ := flat_at ds ss (i / 8) hj
 obtain ⟨c0, c1, c2, c3, c4, c5, c6, c7⟩ := hc (i / 8) hj
 rcases (show i = i / 8 * 8 ∨ i = i / 8 * 8 + 1 ∨ i = i / 8 * 8 + 2 ∨ i = i / 8 * 8 + 3 ∨ i = i / 8 * 8 + 4 ∨ i = i / 8 * 8 + 5 ∨ i = i / 8 * 8 + 6 ∨ i = i / 8 * 8 + 7 by omega) with e | e | e | e | e | e | e | e
 ·rw [e, f0] at h
  rw [e, ← h]; exact c0
 ·rw [e, f1] at h
  rw [e, ← h]; exact c1
 ·rw [e, f2] at h
  rw [e, ← h]; exact c2
 ·rw [e, f3] at h
  rw [e, ← h]; exact c3
 ·rw [e, f4] at h
  rw [e, ← h]; exact c4
 ·rw [e, f5] at h
  rw [e, ← h]; exact c5
 ·rw [e, f6] at h
  rw [e, ← h]; exact c6
 ·rw [e, f7] at h
  rw [e, ← h]; exact c7
theorem blk_of_owns {W : World} {base n g cap : Nat} {e : TypeId} {vs : List Value} (h : W.ownsRow base e 8 (.slice (some ⟨g, 0, none⟩) n cap) n vs) (hl : vs.length = n * 8) : base ≤ g ∧ K0.Blk g vs W := by
 rcases h.2 with ⟨h0, _⟩ | ⟨g', cap', cur, hv, hg, hc, hle, hm, hs, ht⟩
 ·cases h0
 ·obtain ⟨rfl, rfl⟩ : g = g' ∧ cap = cap' := by simpa using hv
  refine ⟨hg, fun j hj => ?_, fun j hj => ?_, (Array.getElem?_eq_some_iff.1 hc).1⟩
  ·have hcell : W.cell? ⟨g, j, none⟩ = cur[j]? := by
    unfold World.cell?
    rw [hc]
    simp
   have e1 : (cur.toList.take (n * 8))[j]? = vs[j]? := by rw [ht]
   rw [List.getElem?_take_of_lt (by omega)] at e1
   rw [hcell, ← Array.getElem?_toList, e1, List.getElem?_eq_getElem hj]
  ·unfold World.frozen?
   rw [hc]
   simp
def CA (ds : List Ln) (ss : Nat → Sl) (w : World) (e : Ending) (w' : World) : Prop := ∃ a' c', e = .returned (.slice a' ds.length c') ∧ (ds = [] ∨ ∃ g, a' = some ⟨g, 0, none⟩ ∧ w.heap.size ≤ g ∧ K0.Blk g (flat ds ss) w') ∧ Below w.heap.size w w'
theorem clone (a : Option Addr) (c : Nat) (ds : List Ln) (ss : Nat → Sl) (w : World) (hn : ds.length ≤ 1048576) (hR : Row w a ds ss) :
  Calls Tryz.prog 162 #[.slice a ds.length c] w (CA ds ss w) := by
 have qn : ∀ (w : World) (a : Option Addr) (n c n' c' : Nat), (binOp .eql 26 (.slice a n c) (.slice none n' c')).run Tryz.prog w = .ok (.bool a.isNone) w := fun w a n c n' c' => Lib.run_eql_slice_nil w _ _ a n c n' c' Tryz.underlying26
 cases a with
 | none =>
  have h0 : ds = [] := by
   rcases hR with h | ⟨b, off, h, _⟩
   ·exact h
   ·cases h
  subst h0
  go_enter Tryz.func162, Tryz.ntmps162
  go_wp2
  go_ret
  exact ⟨none, 0, rfl, Or.inl rfl, Below.refl _ _⟩
 | some p =>
  obtain ⟨i0, hi, hz0, hz1, hz2⟩ := info_parts Z2.infoL
  have l0 := K0.below_new w (.cells #[] 66)
  have o0 : (w.alloc (.cells #[] 66)).ownsRow w.heap.size 66 8 (.slice (some ⟨w.heap.size, 0, none⟩) 0 0) 0 [] := World.ownsRow_made w #[] 0 (Nat.le_refl _) (Nat.zero_le _) rfl
  have r0 := hR.below l0
  by_cases hd : ds = []
  ·subst hd
   have hrun := Q1.run_append_none (P := Tryz.prog) (w.alloc (.cells #[] 66)) 26 26 66 i0 Tryz.underlying26 hi (some ⟨w.heap.size, 0, none⟩) 0 0 (Nat.le_refl _) (some p) c
   clear hR r0 o0
   go_enter Tryz.func162, Tryz.ntmps162
   go_wp2_with (at_builtin; refine Lib.wpList_append_run _ rfl (.tmp 5) (.tmp 6) 26 26 rfl _ _ (by rfl) (by rfl) _ _ hrun ?_)
   go_ret
   exact ⟨_, _, rfl, Or.inl rfl, l0⟩
  ·obtain ⟨b, off, hp, hlt, hc⟩ : ∃ b off, p = ⟨b, off, none⟩ ∧ b < (w.alloc (.cells #[] 66)).heap.size ∧ ∀ j, j < ds.length → At (w.alloc (.cells #[] 66)) b (off + j * 8) (dat ds j) (ss j) := by
    rcases r0 with h | ⟨b, off, h, hl, hc⟩
    ·exact absurd h hd
    ·exact ⟨b, off, Option.some.inj h, hl, hc⟩
   subst hp
   have hm : 0 < ds.length := List.length_pos_iff.2 hd
   clear hR r0
   go_enter Tryz.func162, Tryz.ntmps162
   go_wp2_with (at_builtin; refine wpList_append_lies _ rfl (.tmp 5) (.tmp 6) 26 rfl w.heap.size 66 i0 (.agg Z2.zero8) 8 128 Tryz.underlying26 hi hz0 hz1 hz2 rfl (by omega) _ 0 _ (by rfl) o0 ⟨b, off, none⟩ ds.length c (flat ds ss) (by rfl) (flat_len ds ss) (fun j u hj => by rw [B0.add_off]; exact row_cells hc j u hj) (flat_one ds ss) hm (by unfold maxLen; omega) (by omega) l0.size _ rfl ?_; intro g cap' w1 ho' hg' hl' hlt'; rw [List.nil_append, Nat.zero_add] at ho'; simp only [Nat.zero_add])
   go_ret
   obtain ⟨hg1, hk1⟩ := blk_of_owns ho' (flat_len ds ss)
   exact ⟨_, cap', rfl, Or.inr ⟨g, rfl, hg1, hk1⟩, W0b.below l0 hg' (fun k hk => by simp [Value.ownBlock] at hk; omega)⟩
end Go.Proofs.YtljnkicgahepfaaGreatDoor.KC
namespace Go.Proofs.YtljnkicgahepfaaGreatDoor.KD
open Go.ChangeShapes Go.WideShapes Go.ChangeAt Go.RowKit
open N0 (Ln)
open N1 (Sl val vals Lists LB lb_new)
open Z0 (dat Row Lns Kp kval kvals dz sz0 At)
open Z2 (LAt put setL blk_setL blk_otherL bel_setL put_len put_get lat_other put_other at_of)
open LF (Btw OwnIn)
open LH (HL lob)
open KC (flat flat_len flat_at CA)
structure Lp (g : Nat) (b : Nat → Nat) (ds : List Ln) (s0 ss : Nat → Sl) (k : Nat) (L : List Value) (W : World) : Prop where
 len : L.length = ds.length * 8
 blk : K0.Blk g L W
 new : ∀ j, j < k → LAt L (j * 8) (dat ds j) (ss j)
 old : ∀ j, k ≤ j → j < ds.length → LAt L (j * 8) (dat ds j) (s0 j)
 sub : ∀ j, j < k → ∃ m1 m2, HL (b j) m1 m2 (b (j + 1)) (ss j) (dat ds j).pg (dat ds j).po (dat ds j).fr W
 gb : g < b 0
 hi : b k ≤ W.heap.size
variable {g k : Nat} {b : Nat → Nat} {ds : List Ln} {s0 ss : Nat → Sl} {L : List Value} {w W W' : World}
theorem Lp.below (h : Lp g b ds s0 ss k L W) (hb : Below W.heap.size W W') : Lp g b ds s0 ss k L W' :=
 ⟨h.len, h.blk.below hb, h.new, h.old, fun j hj => by obtain ⟨m1, m2, q⟩ := h.sub j hj; exact ⟨m1, m2, q.below hb⟩, h.gb, Nat.le_trans h.hi hb.size⟩
theorem b_le (h : Lp g b ds s0 ss k L W) : ∀ j, j ≤ k → b 0 ≤ b j
 | 0, _ => Nat.le_refl _
 | j + 1, hj => by
  have := b_le h j (by omega)
  obtain ⟨m1, m2, q⟩ := h.sub j (by omega)
  have := q.le
  omega
theorem setL_btw (W : World) (g o : Nat) (d : Ln) (s : Sl) : Btw g (g + 1) W (setL W g o d s) := by
 unfold setL
 exact ((((((((Btw.refl _ _ W).set (p := ⟨g, o, none⟩) (Nat.le_refl _) (Nat.lt_succ_self _) _).set (p := ⟨g, o + 1, none⟩) (Nat.le_refl _) (Nat.lt_succ_self _) _).set (p := ⟨g, o + 2, none⟩) (Nat.le_refl _) (Nat.lt_succ_self _) _).set (p := ⟨g, o + 3, none⟩) (Nat.le_refl _) (Nat.lt_succ_self _) _).set (p := ⟨g, o + 4, none⟩) (Nat.le_refl _) (Nat.lt_succ_self _) _).set (p := ⟨g, o + 5, none⟩) (Nat.le_refl _) (Nat.lt_succ_self _) _).set (p := ⟨g, o + 6, none⟩) (Nat.le_refl _) (Nat.lt_succ_self _) _).set (p := ⟨g, o + 7, none⟩) (Nat.le_refl _) (Nat.lt_succ_self _) _
theorem lat_other2 {L : List Value} {o x : Nat} {d e : Ln} {s t : Sl} (hx : x + 7 < o ∨ o + 7 < x) (h : LAt L x e t) : LAt (put L o d s) x e t := by
 unfold LAt at h ⊢
 obtain ⟨h0, h1, h2, h3, h4, h5, h6, h7⟩ := h
 exact ⟨(put_other (by omega)).trans h0, (put_other (by omega)).trans h1, (put_other (by omega)).trans h2, (put_other (by omega)).trans h3, (put_other (by omega)).trans h4, (put_other (by omega)).trans h5, (put_other (by omega)).trans h6, (put_other (by omega)).trans h7⟩
theorem Lp.step {lo m1 m2 hi : Nat} {q : Sl} (h : Lp g b ds s0 ss k L W) (hk : k < ds.length) (hl : HL lo m1 m2 hi q (dat ds k).pg (dat ds k).po (dat ds k).fr W) (hlo : b k ≤ lo) (hh : hi ≤ W.heap.size) :
  Lp g (fun j => if j ≤ k then b j else hi) ds s0 (fun j => if j = k then q else ss j) (k + 1) (put L (k * 8) (dat ds k) q) (setL W g (k * 8) (dat ds k) q) := by
 have hlen := h.len
 have ht := setL_btw W g (k * 8) (dat ds k) q
 have hgb := h.gb
 refine ⟨by rw [put_len]; exact hlen, blk_setL h.blk, fun j hj => ?_, fun j hj hj2 => ?_, fun j hj => ?_, ?_, ?_⟩
 ·by_cases e : j = k
  ·subst e
   have := put_get L (j * 8) (dat ds j) q (by omega)
   simpa using this
  ·have := lat_other2 (o := k * 8) (d := dat ds k) (s := q) (Or.inl (by omega)) (h.new j (by omega))
   simpa [e] using this
 ·exact lat_other2 (Or.inr (by omega)) (h.old j (by omega) hj2)
 ·by_cases e : j = k
  ·subst e
   have hb0 := b_le h j (Nat.le_refl _)
   have hle := hl.le
   have h1 : HL (b j) m1 m2 hi q (dat ds j).pg (dat ds j).po (dat ds j).fr W := ⟨hl.p1.mono hlo (Nat.le_refl _), hl.p2, hl.p3, by omega⟩
   refine ⟨m1, m2, ?_⟩
   have h2 := h1.btw ht (Or.inr (by omega))
   have e2 : ¬ j + 1 ≤ j := by omega
   simpa [e2] using h2
  ·obtain ⟨n1, n2, hq⟩ := h.sub j (by omega)
   have hb0 := b_le h j (by omega)
   refine ⟨n1, n2, ?_⟩
   have h2 := hq.btw ht (Or.inr (by omega))
   have e1 : j ≤ k := by omega
   have e2 : j + 1 ≤ k := by omega
   simpa [e, e1, e2] using h2
 ·simpa using hgb
 ·have e : ¬ k + 1 ≤ k := by omega
  simp only [e, if_false]
  exact Nat.le_trans hh ht.size
structure AC (g : Nat) (b : Nat → Nat) (ds : List Ln) (ss : Nat → Sl) (L : List Value) (W : World) : Prop where
 len : L.length = ds.length * 8
 blk : K0.Blk g L W
 at_ : ∀ j, j < ds.length → LAt L (j * 8) (dat ds j) (ss j)
 sub : ∀ j, j < ds.length → ∃ m1 m2, HL (b j) m1 m2 (b (j + 1)) (ss j) (dat ds j).pg (dat ds j).po (dat ds j).fr W
 gb : g < b 0
 hi : b ds.length ≤ W.heap.size
theorem AC.below (h : AC g b ds ss L W) (hb : Below W.heap.size W W') : AC g b ds ss L W' :=
 ⟨h.len, h.blk.below hb, h.at_, fun j hj => by obtain ⟨m1, m2, q⟩ := h.sub j hj; exact ⟨m1, m2, q.below hb⟩, h.gb, Nat.le_trans h.hi hb.size⟩
theorem ac_of (h : Lp g b ds s0 ss ds.length L W) : AC g b ds ss L W := ⟨h.len, h.blk, h.new, h.sub, h.gb, h.hi⟩
theorem AC.lns (h : AC g b ds ss L W) : Lns W (some ⟨g, 0, none⟩) ds ss := by
 refine ⟨Or.inr ⟨g, 0, rfl, h.blk.lt, fun j hj => ?_⟩, fun j hj => ?_⟩
 ·rw [Nat.zero_add]
  exact at_of h.blk (h.at_ j hj)
 ·obtain ⟨m1, m2, q⟩ := h.sub j hj
  exact q.lists
def Own (lo : Nat) (a : Option Addr) (ds : List Ln) (W : World) : Prop := ds = [] ∨ ∃ g b ss L, a = some ⟨g, 0, none⟩ ∧ lo ≤ g ∧ AC g b ds ss L W
theorem Own.below {lo : Nat} {a : Option Addr} (h : Own lo a ds W) (hb : Below W.heap.size W W') : Own lo a ds W' := h.imp id fun ⟨g, b, ss, L, e, h1, h2⟩ => ⟨g, b, ss, L, e, h1, h2.below hb⟩
theorem Own.lns {lo : Nat} {a : Option Addr} (h : Own lo a ds W) : ∃ ss, Lns W a ds ss := by
 rcases h with rfl | ⟨g, b, ss, L, rfl, h1, h2⟩
 ·exact ⟨fun _ => sz0, Or.inl rfl, fun j hj => by simp at hj⟩
 ·exact ⟨ss, h2.lns⟩
theorem Own.set {lo B : Nat} {a : Option Addr} (h : Own lo a ds W) (hB : B < lo) (j : Nat) (v : Value) : Own lo a ds (W.setCell ⟨B, j, none⟩ v) := by
 rcases h with h | ⟨g, b, ss, L, e, h1, h2⟩
 ·exact Or.inl h
 ·have ht : Btw B (B + 1) W (W.setCell ⟨B, j, none⟩ v) := (Btw.refl _ _ W).set (p := ⟨B, j, none⟩) (Nat.le_refl _) (Nat.lt_succ_self _) v
  have hgb := h2.gb
  have hb0 : ∀ i, i ≤ ds.length → b 0 ≤ b i := fun i => by
   induction i with
   | zero => intro _; exact Nat.le_refl _
   | succ i ih =>
    intro hi
    have := ih (by omega)
    obtain ⟨m1, m2, q⟩ := h2.sub i (by omega)
    have := q.le
    omega
  refine Or.inr ⟨g, b, ss, L, e, h1, h2.len, h2.blk.setOther (by omega) j v, h2.at_, fun i hi => ?_, hgb, Nat.le_trans h2.hi ht.size⟩
  obtain ⟨m1, m2, q⟩ := h2.sub i hi
  have := hb0 i (by omega)
  exact ⟨m1, m2, q.btw ht (Or.inr (by omega))⟩
def KA (k : Kp) (w : World) (e : Ending) (w' : World) : Prop := ∃ a' c', e = .returned (kval k a' c') ∧ Own w.heap.size a' k.ds w' ∧ Below w.heap.size w w'
def Small (ds : List Ln) : Prop := ∀ j, j < ds.length → (dat ds j).pg.length ≤ 1048576 ∧ (dat ds j).po.length ≤ 1048576 ∧ (dat ds j).fr.length ≤ 1048576 ∧ (dat ds j).rc.size ≤ 1048576 ∧ (dat ds j).sav.size ≤ 1048576
abbrev zk : Obj := .cells #[.string ⟨#[]⟩, .string ⟨#[]⟩, .slice none 0 0, .int .i64 0] 28
abbrev kob (k : Kp) (a : Option Addr) (c : Nat) : Obj := .cells #[.string k.mem, .string k.dur, .slice a k.ds.length c, .int .i64 k.ck] 28
structure Bx (w : World) (k : Kp) (a : Option Addr) (c : Nat) (W : World) : Prop where
 box : K0.Blk w.heap.size (kvals k a c) W
 res : K0.Blk (w.heap.size + 1) Z3.zero4 W
 bel : Below w.heap.size w W
variable {K : Kp} {a : Option Addr} {c : Nat}
theorem Bx.below (h : Bx w K a c W) (hb : Below W.heap.size W W') : Bx w K a c W' := ⟨h.box.below hb, h.res.below hb, h.bel.trans (hb.mono h.bel.size)⟩
theorem Bx.keep {B : Nat} (h : Bx w K a c W) (hb : Below B W W') (hB : w.heap.size + 2 ≤ B) : Bx w K a c W' :=
 ⟨J0.blk_keep h.box hb (by omega), J0.blk_keep h.res hb (by omega), h.bel.trans (hb.mono (by omega))⟩
theorem bx_new (w : World) (k : Kp) (a : Option Addr) (c : Nat) : Bx w k a c ((w.alloc (kob k a c)).alloc zk) :=
 ⟨(K0.blk_new (kvals k a c) w 28).alloc _, K0.blk_at Z3.zero4 _ 28 (by simp), ((Below.refl _ _).alloc (Nat.le_refl _) _).alloc (by simp) _⟩
set_option maxHeartbeats 4000000 in
theorem keeperCopy (k : Kp) (a : Option Addr) (c : Nat) (s0 : Nat → Sl) (w : World) (hm : k.mem.size ≤ 281474976710656) (hd : k.dur.size ≤ 281474976710656) (hn : k.ds.length ≤ 1048576) (hz : Small k.ds) (hR : Lns w a k.ds s0) :
  Calls Tryz.prog 100 #[kval k a c] w (KA k w) := by
 have t0 := bx_new w k a c
 have c2 := t0.box.c2
 have HR0 : Hid (∀ W, Below w.heap.size w W → Lns W a k.ds s0) := fun W hb => hR.below hb
 have hcl := KC.clone a c k.ds s0 _ hn (HR0.out _ t0.bel).row
 obtain ⟨W0, hW0⟩ : ∃ W0, (w.alloc (kob k a c)).alloc zk = W0 := ⟨_, rfl⟩
 rw [hW0] at t0 c2 hcl
 have hlt0 := t0.res.lt
 clear hR
 have HZ : Hid (Small k.ds) := hz
 clear hz
 go_enter Tryz.func100, Tryz.ntmps100
 go_wp2_with (go_at_call 162; refine hcl.mono ?_; rintro e w1 ⟨a1, c1, rfl, h1, b1⟩; have t1 := t0.below b1)
 have H1 : Hid (k.ds = [] ∨ ∃ g b ss L, a1 = some ⟨g, 0, none⟩ ∧ W0.heap.size ≤ g ∧ Lp g b k.ds s0 ss 0 L w1) := by
  rcases h1 with h | ⟨g, e, hg, hk⟩
  ·exact Or.inl h
  ·exact Or.inr ⟨g, fun _ => w1.heap.size, s0, flat k.ds s0, e, hg, flat_len _ _, hk, fun j hj => absurd hj (Nat.not_lt_zero _), fun j _ hj => flat_at _ _ j hj, fun j hj => absurd hj (Nat.not_lt_zero _), hk.lt, Nat.le_refl _⟩
 clear h1 t0 c2 hcl
 go_loopw [11] (fun i w' => ∃ j : Nat, j ≤ k.ds.length ∧ i = .int .i64 j ∧ Bx w k a c w' ∧ Hid (k.ds = [] ∨ ∃ g b ss L, a1 = some ⟨g, 0, none⟩ ∧ W0.heap.size ≤ g ∧ Lp g b k.ds s0 ss j L w')) (fun i _ => k.ds.length - (intOf i).toNat)
 case atStart => exact ⟨0, Nat.zero_le _, rfl, t1, H1⟩
 case round =>
  obtain ⟨j, hj, rfl, hbx, HL⟩ := hrel
  clear H1 t1
  by_cases hlt : j < k.ds.length
  ·obtain ⟨g, b, ss, L, rfl, hg, hLp⟩ : ∃ g b ss L, a1 = some ⟨g, 0, none⟩ ∧ W0.heap.size ≤ g ∧ Lp g b k.ds s0 ss j L wr := by
    rcases HL.out with h | h
    ·rw [h] at hlt; simp at hlt
    ·exact h
   clear HL
   obtain ⟨y0, y1, y2, y3, y4, y5, y6, y7⟩ := at_of hLp.blk (hLp.old j (Nat.le_refl _) hlt)
   obtain ⟨z1, z2, z3, z4, z5⟩ := HZ.out j hlt
   have ls := (HR0.out _ (hbx.bel.trans ((K0.below_new wr (lob (dat k.ds j) (s0 j))).mono hbx.bel.size))).sub j hlt
   have HS : Hid (∀ lo m1 m2 hi q W, Lp g b k.ds s0 ss j L W → HL lo m1 m2 hi q (dat k.ds j).pg (dat k.ds j).po (dat k.ds j).fr W → b j ≤ lo → hi ≤ W.heap.size → Lp g (fun i => if i ≤ j then b i else hi) k.ds s0 (fun i => if i = j then q else ss i) (j + 1) (put L (j * 8) (dat k.ds j) q) (setL W g (j * 8) (dat k.ds j) q)) := fun lo m1 m2 hi q W h1 h2 h3 h4 => h1.step hlt h2 h3 h4
   have e1 : (0 : Int) ≤ (j : Int) := by omega
   have e2 : (j : Int) < (k.ds.length : Int) := by omega
   have hlen := hLp.len
   have hbj := hLp.hi
   obtain ⟨d, ed⟩ : ∃ d, dat k.ds j = d := ⟨_, rfl⟩
   obtain ⟨s, es⟩ : ∃ s, s0 j = s := ⟨_, rfl⟩
   rw [ed, es] at ls
   rw [ed] at y0 y1 y2 y3 y4 y5 y6 y7 z1 z2 z3 z4 z5 HS
   rw [es] at y4 y6 y7
   have nb := K0.below_new wr (lob d s)
   have hcp := LI.impl_copy d s _ z1 z2 z3 (by omega) (by omega) ls
   clear ed es HR0 HZ ls
   go_wp2_with (go_at_call 174; refine hcp.mono ?_; rintro e w2 ⟨q, m1, m2, hi, rfl, hl, hh, b2⟩; have L2 := (hLp.below nb).below b2; have B2 := (hbx.below nb).below b2; have m2b := L2.blk; obtain ⟨x0, q0⟩ : ∃ x, w2.cell? ⟨g, j * 8, none⟩ = some x := ⟨_, m2b.cell (j * 8) (by omega)⟩; have f0 := m2b.free (j * 8) (by omega); obtain ⟨x1, q1⟩ : ∃ x, w2.cell? ⟨g, j * 8 + 1, none⟩ = some x := ⟨_, m2b.cell (j * 8 + 1) (by omega)⟩; have f1 := m2b.free (j * 8 + 1) (by omega); obtain ⟨x2, q2⟩ : ∃ x, w2.cell? ⟨g, j * 8 + 2, none⟩ = some x := ⟨_, m2b.cell (j * 8 + 2) (by omega)⟩; have f2 := m2b.free (j * 8 + 2) (by omega); obtain ⟨x3, q3⟩ : ∃ x, w2.cell? ⟨g, j * 8 + 3, none⟩ = some x := ⟨_, m2b.cell (j * 8 + 3) (by omega)⟩; have f3 := m2b.free (j * 8 + 3) (by omega); obtain ⟨x4, q4⟩ : ∃ x, w2.cell? ⟨g, j * 8 + 4, none⟩ = some x := ⟨_, m2b.cell (j * 8 + 4) (by omega)⟩; have f4 := m2b.free (j * 8 + 4) (by omega); obtain ⟨x5, q5⟩ : ∃ x, w2.cell? ⟨g, j * 8 + 5, none⟩ = some x := ⟨_, m2b.cell (j * 8 + 5) (by omega)⟩; have f5 := m2b.free (j * 8 + 5) (by omega); obtain ⟨x6, q6⟩ : ∃ x, w2.cell? ⟨g, j * 8 + 6, none⟩ = some x := ⟨_, m2b.cell (j * 8 + 6) (by omega)⟩; have f6 := m2b.free (j * 8 + 6) (by omega); obtain ⟨x7, q7⟩ : ∃ x, w2.cell? ⟨g, j * 8 + 7, none⟩ = some x := ⟨_, m2b.cell (j * 8 + 7) (by omega)⟩; have f7 := m2b.free (j * 8 + 7) (by omega))
   go_roundw
   case rel => exact ⟨j + 1, by omega, by go_num, B2.keep ((setL_btw w2 g (j * 8) d q).below (b := g) (Nat.le_refl _) (Nat.le_of_lt m2b.lt)) (by omega), Or.inr ⟨g, _, _, _, rfl, hg, HS.out _ m1 m2 hi q w2 L2 hl (Nat.le_trans hbj nb.size) hh⟩⟩
   case measure => simp [intOf]; omega
  ·obtain rfl : j = k.ds.length := by omega
   have HO : Hid (Own (w.heap.size + 2) a1 k.ds wr) := by
    rcases HL.out with h | ⟨g, b, ss, L, e, hg, h⟩
    ·exact Or.inl h
    ·exact Or.inr ⟨g, b, ss, L, e, by omega, ac_of h⟩
   clear HL HR0 HZ
   have dx := hbx.below ((Below.refl _ _).drew)
   have HD : Hid (∀ W, Calls Tryz.prog 175 #[.agg #[.string k.mem, .string k.dur]] W fun e w' => e = .returned (.agg #[.string k.mem, .string k.dur]) ∧ Below W.heap.size W w') := fun W => D2.devCopy k.mem k.dur W hm hd
   have HO2 : Hid (∀ W, Below wr.drew.heap.size wr.drew W → Own (w.heap.size + 2) a1 k.ds W) := fun W hb => (HO.out.below ((Below.refl _ _).drew)).below hb
   have HS : Hid (∀ W, Bx w k a c W → W.cell? ⟨w.heap.size, 0, none⟩ = some (.string k.mem) ∧ W.cell? ⟨w.heap.size, 1, none⟩ = some (.string k.dur) ∧ W.cell? ⟨w.heap.size, 3, none⟩ = some (.int .i64 k.ck)) := fun W h => ⟨h.box.c0, h.box.c1, h.box.c3⟩
   have s0' := HS.out _ dx
   go_wp2
   go_region_held3 (fun W => W.cell? ⟨w.heap.size, 0, none⟩ = some (.string k.mem) ∧ W.cell? ⟨w.heap.size, 1, none⟩ = some (.string k.dur) ∧ W.cell? ⟨w.heap.size, 3, none⟩ = some (.int .i64 k.ck)) (assumption) ((go_at_call 175; refine (HD.out _).mono ?_; rintro e w2 ⟨rfl, b2⟩; have B2 := dx.below b2; have s2 := HS.out _ B2; have O2 := HO2.out _ b2; have r0 := B2.res.c0; have r1 := B2.res.c1; have r2 := B2.res.c2; have r3 := B2.res.c3; have f0 := B2.res.f0; have f1 := B2.res.f1; have f2 := B2.res.f2; have f3 := B2.res.f3; have s2b : ((((w2.setCell ⟨w.heap.size + 1, 0, none⟩ (.string k.mem)).setCell ⟨w.heap.size + 1, 1, none⟩ (.string k.dur)).setCell ⟨w.heap.size + 1, 2, none⟩ (.slice a1 k.ds.length c1)).setCell ⟨w.heap.size + 1, 3, none⟩ (.int .i64 k.ck)).cell? ⟨w.heap.size, 0, none⟩ = some (.string k.mem) ∧ ((((w2.setCell ⟨w.heap.size + 1, 0, none⟩ (.string k.mem)).setCell ⟨w.heap.size + 1, 1, none⟩ (.string k.dur)).setCell ⟨w.heap.size + 1, 2, none⟩ (.slice a1 k.ds.length c1)).setCell ⟨w.heap.size + 1, 3, none⟩ (.int .i64 k.ck)).cell? ⟨w.heap.size, 1, none⟩ = some (.string k.dur) ∧ ((((w2.setCell ⟨w.heap.size + 1, 0, none⟩ (.string k.mem)).setCell ⟨w.heap.size + 1, 1, none⟩ (.string k.dur)).setCell ⟨w.heap.size + 1, 2, none⟩ (.slice a1 k.ds.length c1)).setCell ⟨w.heap.size + 1, 3, none⟩ (.int .i64 k.ck)).cell? ⟨w.heap.size, 3, none⟩ = some (.int .i64 k.ck) := (by have hb := (((B2.box.setOther (B' := w.heap.size + 1) (by omega) 0 (.string k.mem)).setOther (B' := w.heap.size + 1) (by omega) 1 (.string k.dur)).setOther (B' := w.heap.size + 1) (by omega) 2 (.slice a1 k.ds.length c1)).setOther (B' := w.heap.size + 1) (by omega) 3 (.int .i64 k.ck); exact ⟨hb.c0, hb.c1, hb.c3⟩)))
   all_goals
    go_wp2
    have q := B2.res.put4 (.string k.mem) (.string k.dur) (.slice a1 k.ds.length c1) (.int .i64 k.ck)
    have v0 := q.c0
    have v1 := q.c1
    have v2 := q.c2
    have v3 := q.c3
    have O3 := (((O2.set (B := w.heap.size + 1) (by omega) 0 (.string k.mem)).set (B := w.heap.size + 1) (by omega) 1 (.string k.dur)).set (B := w.heap.size + 1) (by omega) 2 (.slice a1 k.ds.length c1)).set (B := w.heap.size + 1) (by omega) 3 (.int .i64 k.ck)
    refine bodyPost_ret (v := kval k a1 c1) (by simp [results, Tryz.results100, go_sem, v0, v1, v2, v3]) rfl ⟨a1, c1, rfl, ?_, ?_⟩
    ·exact O3.imp id fun ⟨g, b, ss, L, e, h1, h2⟩ => ⟨g, b, ss, L, e, by omega, h2⟩
    ·exact (((B2.bel.setCell (p := ⟨w.heap.size + 1, 0, none⟩) (Nat.le_succ _) _).setCell (p := ⟨w.heap.size + 1, 1, none⟩) (Nat.le_succ _) _).setCell (p := ⟨w.heap.size + 1, 2, none⟩) (Nat.le_succ _) _).setCell (p := ⟨w.heap.size + 1, 3, none⟩) (Nat.le_succ _) _
end Go.Proofs.YtljnkicgahepfaaGreatDoor.KD
namespace Go.Proofs.YtljnkicgahepfaaGreatDoor.AK
open Go.ChangeShapes Go.WideShapes Go.ChangeAt Go.RowKit
theorem idle (p q r : Option Addr) (w : World) :
  CallsD Tryz.prog 150 #[.pointer p, .pointer q, .pointer r] .returning w fun e u' w' => e = .returned (.tuple #[]) ∧ u' = .returning ∧ w' = w := by
 refine callsD_of_wpS Tryz.func150 rfl fun c₀ cs hu => ?_
 apply wpS_seq
 apply wpS_region
 simp [wpOpsS, go_sem, recoverD, hu, Tryz.ntmps150, Exit.thenS]
 apply wpS_seq
 apply wpS_region
 simp [wpOpsS, go_sem, Exit.thenS, Array.replicate]
 refine wpS_cond (t := false) (by simp [Act.eval, Array.replicate]) ?_
 simp only [Bool.false_eq_true, if_false]
 refine wpS_of_wp (wp_skip ?_)
 cases c₀
 simp_all [bodyPostS, results, Tryz.results150]
theorem codeOf_nil (w : World) : Calls Tryz.prog 151 #[.nilIface] w fun e w' => e = .returned (.int .i64 0) ∧ w' = w := by
 go_enter Tryz.func151, Tryz.ntmps151
 go_wp2
 go_ret
 exact ⟨rfl, rfl⟩
end Go.Proofs.YtljnkicgahepfaaGreatDoor.AK
