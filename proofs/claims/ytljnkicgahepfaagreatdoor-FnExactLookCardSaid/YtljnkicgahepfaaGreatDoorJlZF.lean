/- Joined texts: plain facts and contracts. -/
import Derived.Test.YtljnkicgahepfaaGreatDoorJlZD
import Derived.Test.YtljnkicgahepfaaGreatDoorJlZE
import Derived.RangeFuncBound
import Derived.RangeFuncCalls
import Derived.Shelf.Abstract
import Derived.Shelf.RegionOpen
import Derived.OwnWalkIn
import Derived.TacticsInMore
import Derived.LoopNIn
import Derived.LoopIn
import Derived.WalkKit
import Derived.ProofKit
import Derived.ArgAppend
import Derived.OrdersHeld
import Derived.Deep.MidRow
set_option linter.unusedVariables false
set_option linter.unusedSimpArgs false
set_option maxRecDepth 10000
namespace Go.Proofs.YtljnkicgahepfaaGreatDoor.R1
open Go.ChangeShapes Go.WideShapes Go.ChangeAt Go.RowKit Go.Shelf
open X0 (row)
theorem row_len {l : List UInt8} {k : Nat} (hl : l.length = 768) (hk : k < 96) : (row l k).length = 8 := by rw [X0.row, List.length_take, List.length_drop]; omega
theorem row_cells {W : World} {G o k : Nat} {l : List UInt8} (h : W.rangeAt G o (Lib.byteCells l)) {x : List UInt8} (hx : row l k = x) : ∀ j b, x[j]? = some b → W.cell? ⟨G, o + k * 8 + j, none⟩ = some (.int .u8 (b.toNat : Int)) := by
 intro j b hb
 subst hx
 have := A0.rangeAt_part h (k * 8) 8
 rw [A0.bytes_part] at this
 exact this j _ (by simp only [Lib.byteCells, List.getElem?_map]; rw [show List.take 8 (List.drop (k * 8) l) = X0.row l k from rfl, hb]; rfl)
def Differ (G : Nat) (la : List UInt8) (k : Nat) (W : World) : Prop := ∃ lb : List UInt8, lb.length = 768 ∧ A3.Dl G la lb W ∧ row la k ≠ row lb k
set_option maxRecDepth 100000 in
set_option maxHeartbeats 4000000 in
theorem dirty_in (n G : Nat) (la : List UInt8) (hla : la.length = 768) (I : Nat → World → Prop) (hrd : ∀ k W, I k W → ∃ lb : List UInt8, lb.length = 768 ∧ A3.Dl G la lb W)
  (hskip : ∀ k W lb, k < 96 → I k W → lb.length = 768 → A3.Dl G la lb W → row la k = row lb k → I (k + 1) W)
  (l : Nat) (J : Nat → World → Prop) (Jx : World → Prop) (W : World) (hJI : ∀ k W, J k W → I k W) (hJ : ∀ k W, J k W → I (k + 1) W → J (k + 1) W) (hJd : ∀ k W, J k W → J k W.drew) (hJn : ∀ k W m, J k W → J k (W.drewN m))
  (hY : ∀ k W, k < 96 → J k W → Differ G la k W → YieldAt Fence.wide (n - 1 - 1) Tryz.prog l #[.int .i64 (k : Int)] W fun e V => (e = .returned (.bool true) ∧ J (k + 1) V) ∨ (e = .returned (.bool false) ∧ Jx V)) (h0 : J 0 W) :
  CallsIn Fence.wide (n - 1) Tryz.prog 177 (#[.pointer (some ⟨G, 0, none⟩)] ++ #[.func (.yield l) #[] #[]]) W fun e V => (∃ v, e = .returned v) ∧ (J 96 V ∨ Jx V) := by
 have hro : Fence.wide.round = none := rfl
 refine callsIn_of_wp Tryz.func177 rfl trivial ?_ rfl
 simp only [Tryz.ntmps177, List.size_toArray, List.length_cons, List.length_nil, Nat.reduceAdd, Nat.reduceSub, Array.replicate_succ, Array.replicate_zero, List.push_toArray, List.append_toArray, List.nil_append, List.cons_append]
 gi_wp2
 gi_loopw [5] (fun i wr => ∃ k : Nat, k ≤ 96 ∧ i = .int .i64 k ∧ J k wr) (fun i _ => 96 - (intOf i).toNat)
 case atStart => exact ⟨0, Nat.zero_le _, rfl, h0⟩
 case round =>
  obtain ⟨k, hk, rfl, hj⟩ := hrel
  by_cases hlt : k < 96
  ·have e1 : (0 : Int) ≤ (k : Int) := by omega
   have e2 : (k : Int) < 96 := by omega
   have hjd := hJd _ _ hj
   obtain ⟨lb, hlb, hD⟩ := hrd _ _ (hJI _ _ hjd)
   obtain ⟨x0, x1, x2, x3, x4, x5, x6, x7, hx⟩ := A4.list8 (row la k) (row_len hla hlt)
   obtain ⟨y0, y1, y2, y3, y4, y5, y6, y7, hy⟩ := A4.list8 (row lb k) (row_len hlb hlt)
   have hD0 : A3.Dl G la lb wr := ⟨hD.m, hD.d, hD.t, hD.lt⟩
   have cx := row_cells hD0.m hx
   have cy := row_cells hD0.d hy
   simp only [Nat.zero_add] at cx
   have m0 := cx 0 x0 rfl
   have m1 := cx 1 x1 rfl
   have m2 := cx 2 x2 rfl
   have m3 := cx 3 x3 rfl
   have m4 := cx 4 x4 rfl
   have m5 := cx 5 x5 rfl
   have m6 := cx 6 x6 rfl
   have m7 := cx 7 x7 rfl
   have n0 := cy 0 y0 rfl
   have n1 := cy 1 y1 rfl
   have n2 := cy 2 y2 rfl
   have n3 := cy 3 y3 rfl
   have n4 := cy 4 y4 rfl
   have n5 := cy 5 y5 rfl
   have n6 := cy 6 y6 rfl
   have n7 := cy 7 y7 rfl
   simp only [Nat.add_zero] at m0 n0
   have heq := A4.eq8 [x0, x1, x2, x3, x4, x5, x6, x7] [y0, y1, y2, y3, y4, y5, y6, y7] rfl rfl
   simp only [Lib.byteCells, List.map_cons, List.map_nil] at heq
   clear cx cy
   have hmx : Tryz.prog.follows .mixedOrders = true := by kernel_rfl
   by_cases hne : [x0, x1, x2, x3, x4, x5, x6, x7] = [y0, y1, y2, y3, y4, y5, y6, y7]
   ·simp only [hne, decide_true] at heq
    have hn : ∀ m, J (k + 1) (wr.drewN m) := fun m => hJ _ _ (hJn _ _ m hj) (hskip _ _ lb hlt (hJI _ _ (hJn _ _ m hj)) hlb ⟨hD.m, hD.d, hD.t, hD.lt⟩ (by rw [hx, hy, hne]))
    clear hJn hJd hskip hY
    gi_wp2
    refine wpIn_region_quiet_lit rfl (by kernel_rfl) (by kernel_rfl) ?_
    repeat (gi_big_quiet_step (fail))
    refine BigFrame.wpQuietIn_skip (fun _ _ _ _ => trivial) rfl ?_
    simp only [Act.put, Array.setIfInBounds, List.size_toArray, List.length_cons, List.length_nil, Nat.reduceAdd, Nat.reduceLT, ↓reduceDIte, List.set_toArray, List.set_cons_succ, List.set_cons_zero]
    repeat (gi_big_quiet_step (fail))
    refine wpQuietIn_nil ?_
    rintro _ ⟨nq, rfl⟩
    gi_wp2
    go_roundw
    case rel => exact ⟨k + 1, by omega, by go_num, hn _⟩
    case measure => simp [intOf]; omega
   ·simp only [hne, decide_false] at heq
    obtain ⟨fn, tmps, assign, body, hyl, hR0⟩ := hY k wr.drew hlt hjd ⟨lb, hlb, hD, by rw [hx, hy]; exact hne⟩
    have hR : RoundIn Fence.wide (n - 1 - 1) Tryz.prog l fn tmps assign body wr.drew fun e V => ∃ b : Bool, e = .returned (.bool b) ∧ (b = true → J (k + 1) V) ∧ (b = false → Jx V) :=
     hR0.mono fun e V h => by
      rcases h with ⟨rfl, h⟩ | ⟨rfl, h⟩
      ·exact ⟨true, rfl, fun _ => h, fun h => by cases h⟩
      ·exact ⟨false, rfl, fun h => (by cases h), fun _ => h⟩
    clear hR0
    gi_wp2
    gi_region_with (first
     | (refine hR.mono ?_; rintro e W3 ⟨b, rfl, hJ3, hJx3⟩)
     | (refine ⟨(fun h => by cases h), hR.mono ?_⟩; rintro e W3 ⟨b, rfl, hJ3, hJx3⟩))
    all_goals
     cases b
     ·gi_wp2
      refine bodyPost_ret (results_none rfl _ _ _) rfl ?_
      exact ⟨⟨_, rfl⟩, .inr (hJx3 (by trivial))⟩
     ·gi_wp2
      go_roundw
      case rel => exact ⟨k + 1, by omega, by go_num, hJ3 (by trivial)⟩
      case measure => simp [intOf]; omega
  ·obtain rfl : k = 96 := by omega
   gi_wp2
   go_end0
   exact ⟨⟨_, rfl⟩, .inl hj⟩
end Go.Proofs.YtljnkicgahepfaaGreatDoor.R1
namespace Go.Proofs.YtljnkicgahepfaaGreatDoor.A2
open Go.ChangeShapes Go.WideShapes Go.ChangeAt Go.RowKit
theorem info8 : (Tryz.prog.info? 5).map (fun i => (i.zero, i.size, i.bytes)) = some (some (.int .u8 0), 1, 1) := by kernel_rfl
structure Txt (w : World) (l : List UInt8) (k : Nat) (W : World) : Prop where
 t0 : W.there w.heap.size 0 768
 row : W.rangeAt w.heap.size 0 (Lib.byteCells (l.take (k * 8)))
 bel : Below w.heap.size w W
 lt : w.heap.size < W.heap.size
theorem txt_new (w : World) (M : Array Value) (hM : M.size = 768) (l : List UInt8) : Txt w l 0 (w.alloc (.cells M 5)) := by
 have h0 := A0.there_new w M 5
 rw [hM] at h0
 exact ⟨h0, by simpa [Lib.byteCells] using A0.rangeAt_nil _ _ _, (Below.refl _ _).alloc (Nat.le_refl _) _, by simp⟩
theorem Txt.step {w W : World} {l : List UInt8} {k : Nat} (h : Txt w l k W) (hl : l.length = 768) (hk : k < 96) : Txt w l (k + 1) (W.setCells w.heap.size (k * 8) (Lib.byteCells ((l.drop (k * 8)).take 8))) := by
 have hlen : (Lib.byteCells ((l.drop (k * 8)).take 8)).length = 8 := by rw [Lib.byteCells_length, List.length_take, List.length_drop]; omega
 have hpl : (Lib.byteCells (l.take (k * 8))).length = k * 8 := by rw [Lib.byteCells_length, List.length_take]; omega
 refine ⟨World.there_setCells h.t0 _ _ _, ?_, B0.below_setCells (Nat.le_refl _) _ _ _ h.bel, by rw [B0.size_setCells]; exact h.lt⟩
 rw [show (k + 1) * 8 = k * 8 + 8 by omega, List.take_add, Lib.byteCells_append]
 refine A0.rangeAt_snoc (World.rangeAt_setCells_apart h.row _ _ _ (by rw [hpl]; omega)) ?_
 rw [hpl, Nat.zero_add]
 exact World.rangeAt_setCells_same _ _ _ _ (by rw [hlen]; exact A0.there_sub h.t0 (by omega) (by omega))
set_option maxHeartbeats 4000000 in
theorem text (l : List UInt8) (B o : Nat) (w : World) (hl : l.length = 768) (hB : B < w.heap.size) (hr : w.rangeAt B o (Lib.byteCells l)) :
  Calls Tryz.prog 179 #[.pointer (some ⟨B, o, none⟩)] w fun e w' => e = .returned (.string ⟨l.toArray⟩) ∧ Below w.heap.size w w' := by
 obtain ⟨i0, hi, hz0, hz1, hz2⟩ := info_parts info8
 obtain ⟨M, hM⟩ : ∃ M, M = madeCells (Value.int .u8 0).cells ((768 : Int).toNat * i0.size) := ⟨_, rfl⟩
 have hMs : M.size = 768 := by rw [hM, size_madeCells, hz1]; rfl
 have hmk : (Instr.makeSlice 22 (.int .i64 0) (.int .i64 768)).run Tryz.prog w = .ok (.slice (some ⟨w.heap.size, 0, none⟩) 0 768) (w.alloc (.cells M 5)) := by
  have h := run_make (P := Tryz.prog) w 22 5 i0 (.int .u8 0) Tryz.underlying22 hi hz0 .i64 .i64 0 768 (by omega) (by omega) (by rw [hz2]; decide) (by decide)
  rw [← hM] at h
  exact h
 clear hM
 have h0 := txt_new w M hMs l
 go_enter Tryz.func179, Tryz.ntmps179
 go_wp2
 go_loopw [3, 6] (fun d i w' => ∃ k : Nat, k ≤ 96 ∧ i = .int .i64 k ∧ d = .slice (some ⟨w.heap.size, 0, none⟩) (k * 8) 768 ∧ Txt w l k w') (fun _ i _ => 96 - (intOf i).toNat)
 case atStart => exact ⟨0, Nat.zero_le _, rfl, rfl, h0⟩
 case round =>
  obtain ⟨k, hk, rfl, rfl, hc⟩ := hrel
  by_cases hlt : k < 96
  ·have e1 : (0 : Int) ≤ (k : Int) := by omega
   have e2 : (k : Int) < 96 := by omega
   have hrow : wr.rangeAt B (o + k * 8) (Lib.byteCells ((l.drop (k * 8)).take 8)) := by
    rw [← A0.bytes_part]; exact A0.rangeAt_part (A0.rangeAt_below hr hc.bel hB) _ _
   have hlen : (Lib.byteCells ((l.drop (k * 8)).take 8)).length = 8 := by rw [Lib.byteCells_length, List.length_take, List.length_drop]; omega
   have hap := run_append_room_cells (P := Tryz.prog) wr 22 22 5 i0 Tryz.underlying22 hi w.heap.size 0 (k * 8) 768 ⟨B, o + k * 8, none⟩ 8 8 (Lib.byteCells ((l.drop (k * 8)).take 8)) (by rw [hlen, hz1])
    (fun j u hu => by rw [Addr.add_mid]; exact hrow j u hu) (Lib.byteCells_one _) (by omega)
    (fun j hj => by rw [hlen] at hj; rw [hz1]; have := (hc.t0 (k * 8 + j) (by omega)).1; simpa using this)
    (fun j hj => by rw [hlen] at hj; rw [hz1]; have := (hc.t0 (k * 8 + j) (by omega)).2; simpa using this)
   rw [hz1, Nat.zero_add, Nat.mul_one] at hap
   have h1 := hc.step hl hlt
   obtain ⟨W1, hW1⟩ : ∃ W1, wr.setCells w.heap.size (k * 8) (Lib.byteCells ((l.drop (k * 8)).take 8)) = W1 := ⟨_, rfl⟩
   rw [hW1] at hap h1
   clear hW1
   go_wp2_with (at_builtin; refine A0.wpList_append_run rfl (.tmp 9) (.tmp 14) 22 rfl rfl rfl hap ?_)
   go_roundw
   case rel => exact ⟨k + 1, by omega, by go_num, by rw [show (k + 1) * 8 = k * 8 + 8 by omega], h1⟩
   case measure => simp [intOf]; omega
  ·obtain rfl : k = 96 := by omega
   have hrw := hc.row
   rw [List.take_of_length_le (by omega)] at hrw
   have hcv := B0.conv_back (P := Tryz.prog) wr 22 9 5 w.heap.size 0 768 l Tryz.underlying22 Tryz.underlying5 Tryz.underlying9 (A0.holds_of_range hrw) 768 hl.symm
   go_wp2
   go_ret
   exact ⟨rfl, hc.bel⟩
end Go.Proofs.YtljnkicgahepfaaGreatDoor.A2
namespace Go.Proofs.YtljnkicgahepfaaGreatDoor.F0
open Go.ChangeShapes Go.WideShapes Go.ChangeAt Go.RowKit Go.Shelf
open X0 (row mix)
theorem dl_own {G : Nat} {la lb : List UInt8} {W V : World} {row : Option Nat} (h : A3.Dl G la lb W) (hg : W.grownBy V row) (hr : ∀ r, row = some r → ∃ o : Obj, W.heap[r]? = some o ∧ o.isCells = false) : A3.Dl G la lb V := by
 refine ⟨fun j v hj => cell_kept (h.m j v hj) hg hr, fun j v hj => cell_kept (h.d j v hj) hg hr, fun j hj => ?_, Nat.lt_of_lt_of_le h.lt hg.size⟩
 obtain ⟨u, hu⟩ := Option.isSome_iff_exists.1 (h.t j hj).1
 exact ⟨by rw [cell_kept hu hg hr]; rfl, (frozen_kept hu hg hr).trans (h.t j hj).2⟩
def Has (b o : Nat) (v : Value) (W : World) : Prop := W.cell? ⟨b, o, none⟩ = some v ∧ W.frozen? ⟨b, o, none⟩ = false ∧ b < W.heap.size
theorem Has.own {b o : Nat} {v : Value} {W V : World} {row : Option Nat} (h : Has b o v W) (hg : W.grownBy V row) (hr : ∀ r, row = some r → ∃ o : Obj, W.heap[r]? = some o ∧ o.isCells = false) : Has b o v V :=
 ⟨cell_kept h.1 hg hr, (frozen_kept h.1 hg hr).trans h.2.1, Nat.lt_of_lt_of_le h.2.2 hg.size⟩
theorem Has.below {b o : Nat} {v : Value} {W V : World} (h : Has b o v W) (hb : Below W.heap.size W V) : Has b o v V :=
 ⟨(hb.cell (p := ⟨b, o, none⟩) h.2.2).trans h.1, (hb.frozen (p := ⟨b, o, none⟩) h.2.2).trans h.2.1, Nat.lt_of_lt_of_le h.2.2 hb.size⟩
theorem Has.drew {b o : Nat} {v : Value} {W : World} (h : Has b o v W) : Has b o v W.drew := h
theorem Has.set {b o g off : Nat} {v : Value} {W : World} (h : Has b o v W) (hn : b ≠ g) (vs : List Value) : Has b o v (W.setCells g off vs) :=
 ⟨(World.cell?_setCells_out g vs off W ⟨b, o, none⟩ (fun e => absurd e hn)).trans h.1, by rw [World.frozen?_setCells]; exact h.2.1, by rw [B0.size_setCells]; exact h.2.2⟩
theorem Has.alloc {b o : Nat} {v : Value} {W : World} (h : Has b o v W) (ob : Obj) : Has b o v (W.alloc ob) := h.below ((Below.refl _ _).alloc (Nat.le_refl _) ob)
theorem has_new (W : World) (v : Value) (T : TypeId) (C : Array Value) (j : Nat) (hj : C[j]? = some v) : Has W.heap.size j v (W.alloc (.cells C T)) :=
 ⟨by rw [World.cell?_alloc_mark]; exact hj, by simp [World.frozen?_alloc_mark], by simp⟩
theorem dl_below {G : Nat} {la lb : List UInt8} {W V : World} (h : A3.Dl G la lb W) (hb : Below W.heap.size W V) : A3.Dl G la lb V :=
 ⟨A0.rangeAt_below h.m hb h.lt, A0.rangeAt_below h.d hb h.lt, A0.there_below h.t hb h.lt, Nat.lt_of_lt_of_le h.lt hb.size⟩
theorem bytes_inj {l l' : List UInt8} (h : Lib.byteCells l = Lib.byteCells l') : l = l' := by
 have hi : Function.Injective (fun b : UInt8 => Value.int .u8 (b.toNat : Int)) := fun x y e => by
  injection e with _ e
  exact UInt8.toNat_inj.1 (Int.ofNat.inj e)
 exact List.map_inj_right (fun x y e => hi e) |>.1 h
theorem dl_unique {G : Nat} {la lb lb' : List UInt8} {W : World} (h : A3.Dl G la lb W) (h' : A3.Dl G la lb' W) (e : lb.length = lb'.length) : lb = lb' := by
 apply bytes_inj
 apply List.ext_getElem?
 intro j
 by_cases hj : j < (Lib.byteCells lb).length
 ·have hj' : j < (Lib.byteCells lb').length := by rw [Lib.byteCells_length] at hj ⊢; omega
  have a := h.d j _ (List.getElem?_eq_getElem hj)
  have b := h'.d j _ (List.getElem?_eq_getElem hj')
  rw [List.getElem?_eq_getElem hj, List.getElem?_eq_getElem hj', ← a, ← b]
 ·rw [List.getElem?_eq_none (by omega), List.getElem?_eq_none (by rw [Lib.byteCells_length] at hj ⊢; omega)]
theorem dl_set {G k : Nat} {la ld le : List UInt8} {W : World} (h : A3.Dl G la ld W) (hla : la.length = 768) (hld : ld.length = 768) (hk : k < 96) (he : ld.take (k * 8) ++ row la k ++ ld.drop (k * 8 + 8) = le) :
  A3.Dl G la le (W.setCells G (768 + k * 8) (Lib.byteCells (row la k))) := by
 have hr : (row la k).length = 8 := R1.row_len hla hk
 have hrb : (Lib.byteCells (row la k)).length = 8 := by rw [Lib.byteCells_length, hr]
 have hml : (Lib.byteCells la).length = 768 := by rw [Lib.byteCells_length, hla]
 refine ⟨World.rangeAt_setCells_apart h.m _ _ _ (by rw [hml]; omega), ?_, World.there_setCells h.t _ _ _, by rw [B0.size_setCells]; exact h.lt⟩
 subst he
 have h1 := A0.rangeAt_part h.d 0 (k * 8)
 have h2 := A0.rangeAt_part h.d (k * 8 + 8) 768
 rw [A0.bytes_part] at h1 h2
 have e1 : (ld.drop 0).take (k * 8) = ld.take (k * 8) := rfl
 have e2 : (ld.drop (k * 8 + 8)).take 768 = ld.drop (k * 8 + 8) := List.take_of_length_le (by rw [List.length_drop]; omega)
 rw [e1] at h1
 rw [e2] at h2
 have l1 : (Lib.byteCells (ld.take (k * 8))).length = k * 8 := by rw [Lib.byteCells_length, List.length_take]; omega
 rw [Lib.byteCells_append, Lib.byteCells_append]
 refine A0.rangeAt_snoc (A0.rangeAt_snoc (World.rangeAt_setCells_apart h1 _ _ _ (by rw [l1]; omega)) ?_) ?_
 ·rw [l1]
  exact World.rangeAt_setCells_same _ _ _ _ (by rw [hrb]; exact A0.there_sub h.t (by omega) (by omega))
 ·rw [List.length_append, l1, hrb]
  exact World.rangeAt_setCells_apart h2 _ _ _ (by rw [hrb]; omega)
end Go.Proofs.YtljnkicgahepfaaGreatDoor.F0
namespace Go.Proofs.YtljnkicgahepfaaGreatDoor.R2
open Go.RowKit
variable {P : Program} {n l : Nat} {Q : Exit → Act → World → Prop} {ops : Array Oper}
theorem upon_round {o : Oper} {a : Act} {K K' : Act → World → Prop} (hK : ∀ a w, K a w → K' a w) (r : Result Next) (h : o.upon P a K Q r) : o.uponIn (Fence.wide.inRound l) n P a K' Q r := by
 cases r with
 | ok x w =>
  cases x with
  | value v => exact hK _ _ h
  | skip => exact hK _ _ h
  | defer d => exact hK _ _ h
  | enter f args =>
   refine ⟨(fun h => by cases h), CallsIn.inRound l (callsIn_wide.2 (Calls.mono h ?_))⟩
   rintro (v | c | _) w' hw
   ·exact hK _ _ hw
   ·exact hw
   ·exact hw
  | row f args =>
   refine ⟨(fun h => by cases h), fun c cs _ => ?_⟩
   obtain ⟨v, w', r, s⟩ := h c cs
   exact ⟨v, w', hK _ _ r, stepsIn_wide.2 s⟩
  | _ => exact h.elim
 | halt x w => cases x <;> first | exact h | exact h.elim
theorem op_round {i : Nat} {a : Act} {w : World} {K K' : Act → World → Prop} (hd : ∀ o ∈ ops, ∀ c, o.op ≠ .defer c) (hq : ¬ LetsOut Q) (hK : ∀ a w, K a w → K' a w) (h : wpOp P ops Q i K a w) : wpOpIn (Fence.wide.inRound l) n P ops Q i K' a w := by
 unfold wpOp at h
 unfold wpOpIn
 cases ho : ops[i]? with
 | none => rw [ho] at h; exact hK _ _ h
 | some o =>
  rw [ho] at h
  dsimp only at h ⊢
  split
  ·rename_i hw
   rw [if_pos hw] at h
   rcases h with h | ⟨_, h⟩
   ·refine ⟨fun _ _ => trivial, ?_⟩
    rw [Oper.semAt_eq _ _ _ (hd o (Array.mem_of_getElem? ho))]
    exact upon_round hK _ h
   ·exact absurd h hq
  ·rename_i hw
   rw [if_neg hw] at h
   exact ⟨fun _ _ => trivial, hK _ _ h⟩
theorem any_round {S : World → Prop} {md : Region.Mode} (hd : ∀ o ∈ ops, ∀ c, o.op ≠ .defer c) (hq : ¬ LetsOut Q) : ∀ (fuel : Nat) (listed : Array Bool) (a : Act) (w : World), wpAnyH P md ops Q S fuel listed a w → wpAnyIn (Fence.wide.inRound l) n P md ops Q fuel listed a w
 | 0, _, _, _, h => h
 | fuel + 1, listed, a, w, h => ⟨h.1, fun i hi => op_round hd hq (fun a' w' hk => any_round hd hq fuel _ a' w' hk.2) (h.2 i hi)⟩
theorem region_round {S : World → Prop} {id : Nat} {a : Act} {w : World} (hd : ∀ o ∈ ops, ∀ c, o.op ≠ .defer c) (hq : ¬ LetsOut Q) (hm : P.follows .mixedOrders = true)
  (h : wpAnyH P .any ops Q S ops.size (Array.replicate ops.size false) a w.drew) : (Code.region id ops true).wpIn (Fence.wide.inRound l) n P Q a w :=
 wpIn_region_any hm (any_round hd hq _ _ _ _ h)
theorem of_if {c : Prop} [Decidable c] {p q : Prop} (hc : c) (hp : p) : if c then p else q := by rw [if_pos hc]; exact hp
theorem last_store {S : World → Prop} {a : Act} {w : World} {i : Nat} {o : Oper} {listed : Array Bool} {fuel : Nat} {md : Region.Mode} (hr : Region.ready md ops listed = [i]) (ho : ops[i]? = some o) (hg : o.guard = none)
  (ty : TypeId) (x y : Operand) (hop : o.op = .store ty x y) (b off : Nat) (cells : List Value) (hx : a.eval x = .pointer (some ⟨b, off, none⟩)) (hy : a.eval y = .agg cells.toArray)
  (ht : w.there b off cells.length) (hi : (P.info? ty).map (·.size) = some cells.length) (h1 : ∀ v ∈ cells, v.oneCell' = true) (hS : S (w.setCells b off cells))
  (hdone : Region.ready md ops (listed.setIfInBounds i true) = []) (h : Q .normal (a.put o.dst undef) (w.setCells b off cells)) : wpAnyH P md ops Q S (fuel + 1) listed a w := by
 refine wpAnyH_all hr (by simp) ?_
 intro j hj
 obtain rfl : j = i := by simpa using hj
 unfold wpOp
 rw [ho]
 refine of_if (by rw [Region.wanted, hg]) (.inl (wp_store_mid ty x y hop b off cells.toArray hx hy (by simpa using ht) (by simpa using hi) (all_oneCell_toArray h1) ?_))
 rw [List.toList_toArray]
 exact ⟨hS, wpAnyH_done hdone h _⟩
theorem one_call {S : World → Prop} {a : Act} {w : World} {i f : Nat} {o : Oper} {listed : Array Bool} {fuel : Nat} {md : Region.Mode} (hr : Region.ready md ops listed = [i]) (ho : ops[i]? = some o) (hg : o.guard = none)
  (x : Operand) (ts : Array TypeId) (hop : o.op = .call { callee := .value (.func f), args := #[x], argTypes := ts }) (v : Value) (hx : a.eval x = v) (eg : ∀ args w, (callFunc f args).run P w = .ok (.enter f args) w)
  (hc : Calls P f #[v] w fun e w' => ∃ u, e = .returned u ∧ S w' ∧ wpAnyH P md ops Q S fuel (listed.setIfInBounds i true) (a.put o.dst u) w') : wpAnyH P md ops Q S (fuel + 1) listed a w := by
 refine wpAnyH_all hr (by simp) ?_
 intro j hj
 obtain rfl : j = i := by simpa using hj
 unfold wpOp
 rw [ho]
 refine of_if (by rw [Region.wanted, hg]) (.inl ?_)
 have he : (execOp a.eval o).run P w = .ok (.enter f #[v]) w := by
  subst hx
  simp [execOp, hop, resolve, go_sem, invoke, eg]
 unfold Oper.wp
 rw [he]
 refine Calls.mono hc ?_
 rintro e w' ⟨u, rfl, h⟩
 exact h
theorem leave {fn : Func} {R : Ending → World → Prop} {A : Act} {W : World} {D : Nat} (hdf : A.defers = [{ target := .collected D, args := #[] }]) (hK : W.heap[D]? = some (.deferred (some [])))
  (h : ∃ v, (results fn A.tmps).run P (W.putObj D (.deferred none)) = .ok v (W.putObj D (.deferred none)) ∧ R (.returned v) (W.putObj D (.deferred none))) : bodyPostM Fence.wide n P fn R .ret A W := by
 show LeavesInM _ _ _ _ _ _ _ _ _
 rw [hdf]
 refine ⟨by simp, .inl ⟨_, _, rfl, run_takeDeferred hK, ?_⟩⟩
 exact h
theorem abs_act {c : Code} {F : Fence} {V : World} (a : Act) (p : Act → Prop) (ha : p a) (h : ∀ A, p A → c.wpIn F n P Q A V) : c.wpIn F n P Q a V := h a ha
theorem abs_wp {c : Code} {V : World} (a : Act) (p : Act → Prop) (ha : p a) (h : ∀ A, p A → c.wp P Q A V) : c.wp P Q a V := h a ha
theorem put_none (a : Act) (v : Value) : a.put none v = a := rfl
theorem defers_put (a : Act) (d : Option Tmp) (v : Value) : (a.put d v).defers = a.defers := by cases d <;> rfl
theorem size_put (a : Act) (d : Tmp) (v : Value) : (a.put (some d) v).tmps.size = a.tmps.size := by simp [Act.put]
theorem ev_same (a : Act) (d : Tmp) (v : Value) (h : d < a.tmps.size) : (a.put (some d) v).eval (.tmp d) = v := by simp [Act.eval, Act.put, Array.getD, h]
theorem ev_other (a : Act) (d e : Tmp) (v : Value) (h : d ≠ e) : (a.put (some d) v).eval (.tmp e) = a.eval (.tmp e) := by
 simp only [Act.eval, Act.put]
 by_cases he : e < a.tmps.size
 ·simp [Array.getD, he, Array.getElem_setIfInBounds, h]
 ·simp [Array.getD, he]
end Go.Proofs.YtljnkicgahepfaaGreatDoor.R2
