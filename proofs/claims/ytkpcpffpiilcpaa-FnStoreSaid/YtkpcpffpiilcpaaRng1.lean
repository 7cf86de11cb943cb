/- The program's dirty lines, told one by one. -/
import Derived.Test.YtkpcpffpiilcpaaRng0
import Derived.Test.YtkpcpffpiilcpaaArr3
import Derived.Test.YtkpcpffpiilcpaaArr4
import Derived.Test.YtkpcpffpiilcpaaMix0
import Derived.RangeFuncBound
import Derived.RangeFuncCalls
import Derived.Shelf.Abstract
import Derived.Shelf.RegionOpen
import Derived.OwnWalkIn
import Derived.TacticsInMore
import Derived.LoopNIn
import Derived.LoopIn
namespace Go.Proofs.Ytkpcpffpiilcpaa.R1
open Go.ChangeShapes Go.WideShapes Go.ChangeAt Go.RowKit Go.Shelf
set_option linter.unusedVariables false
set_option linter.unusedSimpArgs false

open X0 (row)

theorem row_len {l : List UInt8} {k : Nat} (hl : l.length = 768) (hk : k < 96) : (row l k).length = 8 := by rw [X0.row, List.length_take, List.length_drop]; omega

theorem row_cells {W : World} {G o k : Nat} {l : List UInt8} (h : W.rangeAt G o (Lib.byteCells l)) {x : List UInt8} (hx : row l k = x) : ∀ j b, x[j]? = some b → W.cell? ⟨G, o + k * 8 + j, none⟩ = some (.int .u8 (b.toNat : Int)) := by
  intro j b hb
  subst hx
  have := A0.rangeAt_part h (k * 8) 8
  rw [A0.bytes_part] at this
  exact this j _ (by simp only [Lib.byteCells, List.getElem?_map]; rw [show List.take 8 (List.drop (k * 8) l) = X0.row l k from rfl, hb]; rfl)

/-- Lines that differ. -/
def Differ (G : Nat) (la : List UInt8) (k : Nat) (W : World) : Prop := ∃ lb : List UInt8, lb.length = 768 ∧ A3.Dl G la lb W ∧ row la k ≠ row lb k

set_option maxRecDepth 100000 in
set_option maxHeartbeats 4000000 in
theorem dirty_in (n G : Nat) (la : List UInt8) (hla : la.length = 768) (I : Nat → World → Prop) (hrd : ∀ k W, I k W → ∃ lb : List UInt8, lb.length = 768 ∧ A3.Dl G la lb W)
    (hskip : ∀ k W lb, k < 96 → I k W → lb.length = 768 → A3.Dl G la lb W → row la k = row lb k → I (k + 1) W)
    (l : Nat) (J : Nat → World → Prop) (Jx : World → Prop) (W : World) (hJI : ∀ k W, J k W → I k W) (hJ : ∀ k W, J k W → I (k + 1) W → J (k + 1) W) (hJd : ∀ k W, J k W → J k W.drew) (hJn : ∀ k W m, J k W → J k (W.drewN m))
    (hY : ∀ k W, k < 96 → J k W → Differ G la k W → YieldAt Fence.wide (n - 1 - 1) Try.prog l #[.int .i64 (k : Int)] W fun e V => (e = .returned (.bool true) ∧ J (k + 1) V) ∨ (e = .returned (.bool false) ∧ Jx V)) (h0 : J 0 W) :
    CallsIn Fence.wide (n - 1) Try.prog 44 (#[.pointer (some ⟨G, 0, none⟩)] ++ #[.func (.yield l) #[] #[]]) W fun e V => (∃ v, e = .returned v) ∧ (J 96 V ∨ Jx V) := by
  have hro : Fence.wide.round = none := rfl
  refine callsIn_of_wp Try.func44 rfl trivial ?_ rfl
  simp only [Try.ntmps44, List.size_toArray, List.length_cons, List.length_nil, Nat.reduceAdd, Nat.reduceSub, Array.replicate_succ, Array.replicate_zero, List.push_toArray, List.append_toArray, List.nil_append, List.cons_append]
  gi_wp2
  gi_loopw [5] (fun i wr => ∃ k : Nat, k ≤ 96 ∧ i = .int .i64 k ∧ J k wr) (fun i _ => 96 - (intOf i).toNat)
  case atStart => exact ⟨0, Nat.zero_le _, rfl, h0⟩
  case round =>
    obtain ⟨k, hk, rfl, hj⟩ := hrel
    by_cases hlt : k < 96
    · have e1 : (0 : Int) ≤ (k : Int) := by omega
      have e2 : (k : Int) < 96 := by omega
      have hjd := hJd _ _ hj
      obtain ⟨lb, hlb, hD⟩ := hrd _ _ (hJI _ _ hjd)
      obtain ⟨x0, x1, x2, x3, x4, x5, x6, x7, hx⟩ := A4.list8 (row la k) (row_len hla hlt)
      obtain ⟨y0, y1, y2, y3, y4, y5, y6, y7, hy⟩ := A4.list8 (row lb k) (row_len hlb hlt)
      have hD0 : A3.Dl G la lb wr := ⟨hD.m, hD.d, hD.t, hD.lt⟩
      have cx := row_cells hD0.m hx
      have cy := row_cells hD0.d hy
      simp only [Nat.zero_add] at cx
      have m0 := cx 0 x0 rfl
      have m1 := cx 1 x1 rfl
      have m2 := cx 2 x2 rfl
      have m3 := cx 3 x3 rfl
      have m4 := cx 4 x4 rfl
      have m5 := cx 5 x5 rfl
      have m6 := cx 6 x6 rfl
      have m7 := cx 7 x7 rfl
      have n0 := cy 0 y0 rfl
      have n1 := cy 1 y1 rfl
      have n2 := cy 2 y2 rfl
      have n3 := cy 3 y3 rfl
      have n4 := cy 4 y4 rfl
      have n5 := cy 5 y5 rfl
      have n6 := cy 6 y6 rfl
      have n7 := cy 7 y7 rfl
      simp only [Nat.add_zero] at m0 n0
      have heq := A4.eq8 [x0, x1, x2, x3, x4, x5, x6, x7] [y0, y1, y2, y3, y4, y5, y6, y7] rfl rfl
      simp only [Lib.byteCells, List.map_cons, List.map_nil] at heq
      clear cx cy
      have hmx : Try.prog.follows .mixedOrders = true := by kernel_rfl
      by_cases hne : [x0, x1, x2, x3, x4, x5, x6, x7] = [y0, y1, y2, y3, y4, y5, y6, y7]
      · simp only [hne, decide_true] at heq
        have hn : ∀ m, J (k + 1) (wr.drewN m) := fun m => hJ _ _ (hJn _ _ m hj) (hskip _ _ lb hlt (hJI _ _ (hJn _ _ m hj)) hlb ⟨hD.m, hD.d, hD.t, hD.lt⟩ (by rw [hx, hy, hne]))
        clear hJn hJd hskip hY
        gi_wp2
        refine wpIn_region_quiet_lit rfl (by kernel_rfl) (by kernel_rfl) ?_
        repeat (gi_big_quiet_step (fail))
        refine BigFrame.wpQuietIn_skip (fun _ _ _ _ => trivial) rfl ?_
        simp only [Act.put, Array.setIfInBounds, List.size_toArray, List.length_cons, List.length_nil, Nat.reduceAdd, Nat.reduceLT, ↓reduceDIte, List.set_toArray, List.set_cons_succ, List.set_cons_zero]
        repeat (gi_big_quiet_step (fail))
        refine wpQuietIn_nil ?_
        rintro _ ⟨nq, rfl⟩
        gi_wp2
        go_roundw
        case rel => exact ⟨k + 1, by omega, by go_num, hn _⟩
        case measure => simp [intOf]; omega
      · simp only [hne, decide_false] at heq
        obtain ⟨fn, tmps, assign, body, hyl, hR0⟩ := hY k wr.drew hlt hjd ⟨lb, hlb, hD, by rw [hx, hy]; exact hne⟩
        have hR : RoundIn Fence.wide (n - 1 - 1) Try.prog l fn tmps assign body wr.drew fun e V => ∃ b : Bool, e = .returned (.bool b) ∧ (b = true → J (k + 1) V) ∧ (b = false → Jx V) :=
          hR0.mono fun e V h => by
            rcases h with ⟨rfl, h⟩ | ⟨rfl, h⟩
            · exact ⟨true, rfl, fun _ => h, fun h => by cases h⟩
            · exact ⟨false, rfl, fun h => (by cases h), fun _ => h⟩
        clear hR0
        gi_wp2
        gi_region_with (first
          | (refine hR.mono ?_; rintro e W3 ⟨b, rfl, hJ3, hJx3⟩)
          | (refine ⟨(fun h => by cases h), hR.mono ?_⟩; rintro e W3 ⟨b, rfl, hJ3, hJx3⟩))
        all_goals
          cases b
          · gi_wp2
            refine bodyPost_ret (results_none rfl _ _ _) rfl ?_
            exact ⟨⟨_, rfl⟩, .inr (hJx3 (by trivial))⟩
          · gi_wp2
            go_roundw
            case rel => exact ⟨k + 1, by omega, by go_num, hJ3 (by trivial)⟩
            case measure => simp [intOf]; omega
    · obtain rfl : k = 96 := by omega
      gi_wp2
      go_end0
      exact ⟨⟨_, rfl⟩, .inl hj⟩
end Go.Proofs.Ytkpcpffpiilcpaa.R1
