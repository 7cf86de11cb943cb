/- Joined texts: plain facts and contracts, as each part says. -/
import Derived.Test.YtdljajjgppcjpaaGreatJkL
import Derived.Test.YtdljajjgppcjpaaGreatJkA
import Derived.Test.YtdljajjgppcjpaaGreatRows
import Derived.ProofKit
import Derived.Lib.BufferWrite
import Derived.Maps.AppendAt
import Derived.Test.YtdljajjgppcjpaaGreatJkG
import Derived.Maps.OwnSet
import Derived.Deep.LoopGhost
import Derived.Deep.RegionHeld3
import Derived.Shelf.LaysM
import Derived.Shelf.Strconv.Clone
import Derived.Shelf.Sort.Plain
import Derived.Shelf.Slices.Turned
import Derived.Ground.Names2Prog
import Derived.Shelf.Slices.Clone
import Derived.Shelf.Slices.CompactI
import Derived.Test.YtdljajjgppcjpaaGreatJkB
import Derived.Test.YtdljajjgppcjpaaGreatJkF
import Derived.Deep.MidRow
import Derived.Sort.Grow

/- The tree's block: what stands in it, kept by what happens elsewhere; the contract of foundOnce. -/
namespace Go.Proofs.YtdljajjgppcjpaaGreat.TW
open Go.ChangeShapes Go.WideShapes Go.ChangeAt Go.RowKit
set_option linter.unusedVariables false
set_option linter.unusedSimpArgs false
set_option maxRecDepth 10000

/-- What a node's cells hold. -/
structure Nd where
  k : Int
  o : Int
  s : Int
  a : Option Addr
  n : Nat
  c : Nat
  x : ByteArray
  ae : Option Addr
  ne : Nat
  ce : Nat
def Nd.vals (d : Nd) : List Value := [.int .i64 d.k, .int .i64 d.o, .int .i64 d.s, .slice d.a d.n d.c, .string d.x, .slice d.ae d.ne d.ce]
theorem Nd.vals_length (d : Nd) : d.vals.length = 6 := rfl

/-- The block of a tree. -/
structure Tb (B : Nat) (N : Nat → Nd) (F : Nat → Nat) (P : Nat → ByteArray) (W : World) : Prop where
  node : ∀ i, i < 8 → ∀ j (h : j < (N i).vals.length), W.cell? ⟨B, i * 6 + j, none⟩ = some (N i).vals[j]
  fnd : ∀ i, i < 8 → W.cell? ⟨B, 48 + i, none⟩ = some (.int .i64 (F i : Int))
  pth : ∀ i, i < 8 → W.cell? ⟨B, 56 + i, none⟩ = some (.string (P i))
  free : ∀ j, j < 64 → W.frozen? ⟨B, j, none⟩ = false
  lt : B < W.heap.size

variable {B : Nat} {N : Nat → Nd} {F : Nat → Nat} {P : Nat → ByteArray} {w W W' : World}

theorem Tb.below {b : Nat} (h : Tb B N F P W) (hb : Below b W W') (hB : B < b) : Tb B N F P W' :=
  ⟨fun i hi j hj => (hb.cell (p := ⟨B, i * 6 + j, none⟩) hB).trans (h.node i hi j hj), fun i hi => (hb.cell (p := ⟨B, 48 + i, none⟩) hB).trans (h.fnd i hi), fun i hi => (hb.cell (p := ⟨B, 56 + i, none⟩) hB).trans (h.pth i hi), fun j hj => (hb.frozen (p := ⟨B, j, none⟩) hB).trans (h.free j hj), Nat.lt_of_lt_of_le h.lt hb.size⟩
theorem Tb.drew (h : Tb B N F P W) : Tb B N F P W.drew := ⟨h.node, h.fnd, h.pth, h.free, h.lt⟩
theorem Tb.drewN (h : Tb B N F P W) (n : Nat) : Tb B N F P (W.drewN n) := ⟨h.node, h.fnd, h.pth, h.free, h.lt⟩

theorem cell_far {B j k : Nat} (hne : j ≠ k) (v : Value) : (W.setCell ⟨B, j, none⟩ v).cell? ⟨B, k, none⟩ = W.cell? ⟨B, k, none⟩ := World.cell?_setCell_other _ _ _ _ (fun x => hne (Addr.mk.inj x).2.1)

theorem Tb.setF (h : Tb B N F P W) {i : Nat} (hi : i < 8) (n : Nat) : Tb B N (fun y => if y = i then n else F y) P (W.setCell ⟨B, 48 + i, none⟩ (.int .i64 (n : Int))) := by
  refine ⟨fun k hk j hj => ?_, fun k hk => ?_, fun k hk => ?_, fun j hj => by rw [World.frozen?_setCell]; exact h.free j hj, by have := h.lt; simpa [World.setCell] using this⟩
  · have hj' : j < 6 := hj
    rw [cell_far (by omega)]
    exact h.node k hk j hj
  · by_cases e : k = i
    · subst e
      rw [World.cell?_setCell_same _ _ _ (h.fnd k hk), if_pos rfl]
    · rw [cell_far (by omega), h.fnd k hk, if_neg e]
  · rw [cell_far (by omega)]
    exact h.pth k hk

theorem Tb.setP (h : Tb B N F P W) {i : Nat} (hi : i < 8) (p : ByteArray) : Tb B N F (fun y => if y = i then p else P y) (W.setCell ⟨B, 56 + i, none⟩ (.string p)) := by
  refine ⟨fun k hk j hj => ?_, fun k hk => ?_, fun k hk => ?_, fun j hj => by rw [World.frozen?_setCell]; exact h.free j hj, by have := h.lt; simpa [World.setCell] using this⟩
  · have hj' : j < 6 := hj
    rw [cell_far (by omega)]
    exact h.node k hk j hj
  · rw [cell_far (by omega)]
    exact h.fnd k hk
  · by_cases e : k = i
    · subst e
      rw [World.cell?_setCell_same _ _ _ (h.pth k hk), if_pos rfl]
    · rw [cell_far (by omega), h.pth k hk, if_neg e]

theorem Tb.kind (h : Tb B N F P W) {i : Nat} (hi : i < 8) : W.cell? ⟨B, i * 6, none⟩ = some (.int .i64 (N i).k) := h.node i hi 0 (by simp [Nd.vals])
theorem Tb.ents (h : Tb B N F P W) {i : Nat} (hi : i < 8) : W.cell? ⟨B, i * 6 + 5, none⟩ = some (.slice (N i).ae (N i).ne (N i).ce) := h.node i hi 5 (by simp [Nd.vals])

def onceTo (F : Nat → Nat) (K : Nat → Int) (k : Nat) : Prop := ∀ i, 0 < i → i < k → TR.once F K i = true
theorem onceTo_bad {F : Nat → Nat} {K : Nat → Int} {i : Nat} (h0 : 0 < i) (h8 : i < 8) (h : TR.once F K i = false) : TR.onceAll F K = false := by
  cases h' : TR.onceAll F K with
  | false => rfl
  | true => rw [TR.onceAll_iff.1 h' i h0 h8] at h; cases h

theorem ret_bool {a b : Bool} (h : a = b) : Ending.returned (.bool a) = .returned (.bool b) := by rw [h]

set_option maxHeartbeats 1000000 in
theorem foundOnce (w : World) (hT : Tb B N F P w) (hF : ∀ i, i < 8 → F i ≤ 281474976710656) :
    Calls Tryz.prog 129 #[.pointer (some ⟨B, 0, none⟩)] w fun e w' => e = .returned (.bool (TR.onceAll F (fun i => (N i).k))) ∧ w' = w := by
  go_enter Tryz.func129, Tryz.ntmps129
  go_wp2
  go_loop [3] (fun i => ∃ k : Nat, 0 < k ∧ k ≤ 8 ∧ onceTo F (fun i => (N i).k) k ∧ i = .int .i64 k) (fun i => 8 - (intOf i).toNat)
  case atStart => exact ⟨1, by decide, by decide, fun i h0 h1 => by omega, rfl⟩
  case round =>
    obtain ⟨k, hk0, hk, hok, rfl⟩ := hrel
    by_cases hlt : k < 8
    · have x1 := hT.kind hlt
      have x2 := hT.fnd k hlt
      have hF' := hF k hlt
      have e1 : (0 : Int) ≤ (k : Int) := by omega
      have e2 : (k : Int) < 8 := by omega
      have hon : TR.once F (fun i => (N i).k) k = decide (F k = if (N k).k = 0 then 0 else 1) := rfl
      obtain ⟨f, ef⟩ : ∃ f, F k = f := ⟨_, rfl⟩
      obtain ⟨q, eq⟩ : ∃ q, (N k).k = q := ⟨_, rfl⟩
      rw [ef] at x2 hon hF'
      rw [eq] at x1 hon
      have HY : Hid (TR.once F (fun i => (N i).k) k = true → onceTo F (fun i => (N i).k) (k + 1)) := fun h i h0 h1 => by
        by_cases e : i = k
        · subst e
          exact h
        · exact hok i h0 (by omega)
      have HN : Hid (TR.once F (fun i => (N i).k) k = false → TR.onceAll F (fun i => (N i).k) = false) := fun h => onceTo_bad hk0 hlt h
      clear hok hT hF ef eq
      by_cases hq : q = 0
      · rw [if_pos hq] at hon
        subst hq
        by_cases hf : f = 0
        · have HS := HY.out (by rw [hon]; simpa using hf)
          have HS' : Hid (onceTo F (fun i => (N i).k) (k + 1)) := HS
          have g1 : ((f : Int) != 0) = false := by simpa using hf
          clear HS hon HN HY
          go_wp2
          go_round
          case rel => exact ⟨k + 1, by omega, by omega, HS'.out, by go_num⟩
          case measure => simp [intOf]; omega
        · have HS : Hid (TR.onceAll F (fun i => (N i).k) = false) := HN.out (by rw [hon]; simpa using hf)
          have g1 : ((f : Int) != 0) = true := by simp; omega
          clear hon HN HY
          go_wp2
          go_ret
          exact ⟨ret_bool HS.out.symm, rfl⟩
      · rw [if_neg hq] at hon
        have g0 : (q == 0) = false := by simpa using hq
        by_cases hf : f = 1
        · have HS := HY.out (by rw [hon]; simpa using hf)
          have HS' : Hid (onceTo F (fun i => (N i).k) (k + 1)) := HS
          have g1 : ((f : Int) != 1) = false := by simp; omega
          clear HS hon HN HY
          go_wp2
          go_round
          case rel => exact ⟨k + 1, by omega, by omega, HS'.out, by go_num⟩
          case measure => simp [intOf]; omega
        · have HS : Hid (TR.onceAll F (fun i => (N i).k) = false) := HN.out (by rw [hon]; simpa using hf)
          have g1 : ((f : Int) != 1) = true := by simp; omega
          clear hon HN HY
          go_wp2
          go_ret
          exact ⟨ret_bool HS.out.symm, rfl⟩
    · obtain rfl : k = 8 := by omega
      have HR : Hid (TR.onceAll F (fun i => (N i).k) = true) := TR.onceAll_iff.2 fun i h0 h8 => hok i h0 h8
      clear hok hT hF
      go_wp2
      go_ret
      exact ⟨ret_bool HR.out.symm, rfl⟩
end Go.Proofs.YtdljajjgppcjpaaGreat.TW

/- The contract of the tree's find. -/
namespace Go.Proofs.YtdljajjgppcjpaaGreat.TW
open Go.ChangeShapes Go.WideShapes Go.ChangeAt Go.RowKit
set_option linter.unusedVariables false
set_option linter.unusedSimpArgs false
set_option maxRecDepth 10000
variable {B : Nat} {N : Nat → Nd} {F : Nat → Nat} {P : Nat → ByteArray} {w W W' : World}

theorem grown_drew {a b : World} {row : Option Nat} (h : a.grownBy b row) : a.grownBy b.drew row := ⟨h.os, h.tape, h.output, h.size, h.block⟩

set_option maxHeartbeats 1000000 in
theorem find (d x : Nat) (nm : ByteArray) (w : World) (hT : Tb B N F P w) (hd : d < 8) (hx : x < 8) (hF : F x < 281474976710656) (hpz : (P d).size ≤ 281474976710656) (hnz : nm.size ≤ 281474976710656) :
    Calls Tryz.prog 142 #[.pointer (some ⟨B, 0, none⟩), .int .i64 (d : Int), .agg #[.int .i64 (x : Int), .string nm]] w fun e w' => e = .returned (.tuple #[]) ∧ Tb B N (TR.upF F x) (TR.upP P x (P d ++ TR.sep d ++ nm)) w' ∧ w.grownBy w' (some B) := by
  have e1 : (0 : Int) ≤ (x : Int) := by omega
  have e2 : (x : Int) < 8 := by omega
  have e3 : (0 : Int) ≤ (d : Int) := by omega
  have e4 : (d : Int) < 8 := by omega
  have hn := K0.below_new w (.cells #[.int .i64 (x : Int), .string nm] 121)
  have b0 := K0.blk_new [.int .i64 (x : Int), .string nm] w 121
  have t0 := hT.below hn hT.lt
  have c0 := b0.c0
  have c1 := b0.c1
  have x0 := t0.fnd x hx
  have y0 := t0.free (48 + x) (by omega)
  have z0 := t0.pth x hx
  have g0 : w.grownBy (w.alloc (.cells #[.int .i64 (x : Int), .string nm] 121)) (some B) := World.grownBy_alloc _ _ _
  have hw : IntKind.i64.wrap ((F x : Int) + 1) = (F x : Int) + 1 := by rw [IntKind.wrap_i64]; omega
  have t1 := t0.setF hx (F x + 1)
  have eF : (fun y => if y = x then F x + 1 else F y) = TR.upF F x := by
    funext y
    unfold TR.upF
    by_cases e : y = x
    · rw [if_pos e, if_pos e, e]
    · rw [if_neg e, if_neg e]
  rw [eF] at t1
  have eC : (((F x + 1 : Nat)) : Int) = (F x : Int) + 1 := by omega
  rw [eC] at t1
  have g1 := g0.trans (Lib.grownBy_setCell _ B (48 + x) (.int .i64 ((F x : Int) + 1)))
  have b1 := b0.setOther (B' := B) (by have := hT.lt; omega) (48 + x) (.int .i64 ((F x : Int) + 1))
  have d0 := b1.c0
  have d1 := b1.c1
  have x1 := t1.pth d hd
  have y1 := t1.free (56 + x) (by omega)
  have t2 := t1.setP hx (P d ++ TR.sep d ++ nm)
  have g2 := g1.trans (Lib.grownBy_setCell _ B (56 + x) (.string (P d ++ TR.sep d ++ nm)))
  have HD : Hid (Tb B N (TR.upF F x) (TR.upP P x (P d ++ TR.sep d ++ nm)) ((((w.alloc (.cells #[.int .i64 (x : Int), .string nm] 121)).setCell ⟨B, 48 + x, none⟩ (.int .i64 ((F x : Int) + 1)))).setCell ⟨B, 56 + x, none⟩ (.string (P d ++ TR.sep d ++ nm))) ∧ w.grownBy ((((w.alloc (.cells #[.int .i64 (x : Int), .string nm] 121)).setCell ⟨B, 48 + x, none⟩ (.int .i64 ((F x : Int) + 1)))).setCell ⟨B, 56 + x, none⟩ (.string (P d ++ TR.sep d ++ nm))) (some B)) := ⟨t2, g2⟩
  clear t2 g2 t1 g1 b1 t0 g0 b0 hT hn eF eC
  obtain ⟨f, hf⟩ : ∃ f, F x = f := ⟨_, rfl⟩
  obtain ⟨p, hp⟩ : ∃ p, P d = p := ⟨_, rfl⟩
  have HF : Hid (F x = f) := hf
  have HP : Hid (P d = p) := hp
  rw [hf] at x0 hw d0 d1 x1 y1 HD hF
  rw [hp] at x1 HD hpz ⊢
  have s1 : ¬ (9223372036854775807 < p.size) := by omega
  have s2 : ¬ (9223372036854775807 < p.size + 1) := by omega
  have s3 : ¬ (9223372036854775807 < p.size + nm.size) := by omega
  have s4 : ¬ (9223372036854775807 < p.size + 1 + nm.size) := by omega
  clear hf hp
  by_cases h0 : d = 0
  · subst h0
    rw [show TR.sep 0 = ⟨#[]⟩ from rfl] at HD ⊢
    go_enter Tryz.func142, Tryz.ntmps142
    go_wp2
    go_region
    go_wp2
    go_region
    go_wp2
    refine bodyPost_end (v := .tuple #[]) (by simp [results, Tryz.results142, go_sem]) rfl ?_
    exact ⟨rfl, HD.out.1.drew.drew, grown_drew (grown_drew HD.out.2)⟩
  · have h0' : ((d : Int) == 0) = false := by simpa using h0
    rw [show TR.sep d = ⟨#[47]⟩ from if_neg h0] at HD ⊢
    go_enter Tryz.func142, Tryz.ntmps142
    go_wp2
    go_region
    go_wp2
    go_region
    go_wp2
    refine bodyPost_end (v := .tuple #[]) (by simp [results, Tryz.results142, go_sem]) rfl ?_
    exact ⟨rfl, HD.out.1.drew.drew, grown_drew (grown_drew HD.out.2)⟩
end Go.Proofs.YtdljajjgppcjpaaGreat.TW

/- The walk's stack in memory, and the map of what was met. -/
namespace Go.Proofs.YtdljajjgppcjpaaGreat.TW
open Go.ChangeShapes Go.WideShapes Go.ChangeAt Go.RowKit
set_option linter.unusedVariables false
set_option linter.unusedSimpArgs false
set_option maxRecDepth 10000
variable {base g n cap : Nat} {w W W' : World} {d k x : Nat} {R S : List (Nat × Nat)}

def fl : List (Nat × Nat) → List Value
  | [] => []
  | q :: r => .int .i64 (q.1 : Int) :: .int .i64 (q.2 : Int) :: fl r
theorem fl_length : ∀ l : List (Nat × Nat), (fl l).length = l.length * 2
  | [] => rfl
  | q :: r => by simp [fl, fl_length r]; omega
theorem fl_append : ∀ l m : List (Nat × Nat), fl (l ++ m) = fl l ++ fl m
  | [], m => rfl
  | q :: r, m => by simp [fl, fl_append r m]
theorem fl_top (d k : Nat) (R : List (Nat × Nat)) : fl ((d, k) :: R).reverse = fl R.reverse ++ [.int .i64 (d : Int), .int .i64 (k : Int)] := by
  rw [List.reverse_cons, fl_append]
  rfl
theorem fl_rlen (R : List (Nat × Nat)) : (fl R.reverse).length = R.length * 2 := by rw [fl_length, List.length_reverse]

/-- The stack, its top first, in a row of the call's own. -/
def SBuf (base : Nat) (w : World) (g n cap : Nat) (S : List (Nat × Nat)) : Prop := n = S.length ∧ w.ownsRow base 185 2 (.slice (some ⟨g, 0, none⟩) n cap) n (fl S.reverse)

theorem SBuf.kept {row : Option Nat} (h : SBuf base w g n cap S) (hg : w.grownBy W row) (hne : some g ≠ row) : SBuf base W g n cap S := ⟨h.1, h.2.kept hg (Or.inr hne)⟩
theorem SBuf.lt (h : SBuf base w g n cap S) : base ≤ g ∧ g < w.heap.size := h.2.lt g rfl
theorem SBuf.drew (h : SBuf base w g n cap S) : SBuf base w.drew g n cap S := h

theorem SBuf.ino (h : SBuf base w g n cap ((d, k) :: R)) : w.cell? ⟨g, R.length * 2, none⟩ = some (.int .i64 (d : Int)) := by
  have hn : n = R.length + 1 := h.1
  rw [h.2.cellAt (R.length * 2) (by omega), fl_top, List.getElem?_append_right (by rw [fl_rlen]; exact Nat.le_refl _), fl_rlen, Nat.sub_self]
  rfl
theorem SBuf.next (h : SBuf base w g n cap ((d, k) :: R)) : w.cell? ⟨g, R.length * 2 + 1, none⟩ = some (.int .i64 (k : Int)) := by
  have hn : n = R.length + 1 := h.1
  rw [h.2.cellAt (R.length * 2 + 1) (by omega), fl_top, List.getElem?_append_right (by rw [fl_rlen]; omega), fl_rlen, show R.length * 2 + 1 - R.length * 2 = 1 by omega]
  rfl
theorem SBuf.free (h : SBuf base w g n cap S) (j : Nat) : w.frozen? ⟨g, j, none⟩ = false := h.2.frozenAt j
theorem SBuf.put (h : SBuf base w g n cap ((d, k) :: R)) (k' : Nat) : SBuf base (w.setCell ⟨g, R.length * 2 + 1, none⟩ (.int .i64 (k' : Int))) g n cap ((d, k') :: R) := by
  have := (h.2.stored (R.length * 2 + 1) (.int .i64 (k' : Int))).1
  rw [fl_top, List.set_append_right _ _ (by rw [fl_rlen]; omega), fl_rlen, show R.length * 2 + 1 - R.length * 2 = 1 by omega] at this
  refine ⟨h.1, ?_⟩
  rw [fl_top]
  exact this
theorem SBuf.pop (h : SBuf base w g n cap ((d, k) :: R)) : SBuf base w g R.length cap R := by
  have hn : n = R.length + 1 := h.1
  refine ⟨rfl, fl_rlen R, ?_⟩
  rcases h.2.2 with ⟨h', _⟩ | ⟨g', cap', cur, h', hb, hg, hnc, hcm, hcs, ht⟩
  · cases h'
  · cases h'
    refine Or.inr ⟨g, cap, cur, rfl, hb, hg, by omega, hcm, hcs, ?_⟩
    have := congrArg (List.take (R.length * 2)) ht
    rw [List.take_take, fl_top, List.take_left' (fl_rlen R), Nat.min_eq_left (by omega)] at this
    exact this
theorem SBuf.room (h : SBuf base w g n cap S) : n ≤ cap := by
  rcases h.2.2 with ⟨h', _⟩ | ⟨g', cap', cur, h', hb, hg, hnc, hcm, hcs, ht⟩
  · cases h'
  · cases h'
    exact hnc
theorem SBuf.cap_le (h : SBuf base w g n cap S) : cap ≤ maxLen := by
  rcases h.2.2 with ⟨h', _⟩ | ⟨g', cap', cur, h', hb, hg, hnc, hcm, hcs, ht⟩
  · cases h'
  · cases h'
    exact hcm
theorem sbuf_new (w : World) (hb : base ≤ w.heap.size) : SBuf base (w.alloc (.cells #[.int .i64 0, .int .i64 0] 185)) w.heap.size 1 1 [(0, 0)] :=
  ⟨rfl, World.ownsRow_lit w #[.int .i64 0, .int .i64 0] 1 hb (by unfold maxLen; omega) rfl⟩

theorem infoStep : (Tryz.prog.info? 185).map (fun i => (i.zero, i.size, i.bytes)) = some (some (.agg #[.int .i64 0, .int .i64 0]), 2, 16) := by kernel_rfl

theorem one_step (u v : Int) : ∀ x ∈ [Value.int .i64 u, .int .i64 v], x.oneCell' = true := by
  intro x h
  simp at h
  rcases h with rfl | rfl <;> rfl

/-- 'way = append(way, step{ino: x})'. -/
theorem append_step {ops : Array Oper} {rest : List Oper} {o : Oper} {A : Act} {Q : Exit → Act → World → Prop} (hgd : o.guard = none) (sl y : Operand)
    (ho : o.op = .call { callee := .builtin .append, args := #[sl, y], argTypes := #[186, 186] })
    (hbuf : SBuf base w g n cap S) (x : Nat) (hs : A.eval sl = .slice (some ⟨g, 0, none⟩) n cap) (hx : A.eval y = .slice (some ⟨w.heap.size, 0, none⟩) 1 1) (hlen : n + 1 ≤ 1048576) (hb : base ≤ w.heap.size)
    (h : ∀ g' cap' w', SBuf base w' g' (n + 1) cap' ((x, 0) :: S) → w.grownBy w' (some g) → (g' = g ∨ w.heap.size ≤ g') → wpList Tryz.prog ops Q rest (A.put o.dst (.slice (some ⟨g', 0, none⟩) (n + 1) cap')) w') : wpList Tryz.prog ops Q (o :: rest) A (w.alloc (.cells #[.int .i64 (x : Int), .int .i64 0] 185)) := by
  obtain ⟨i0, hi, hz0, hz1, hz2⟩ := info_parts infoStep
  have hb2 := hbuf.2.alloc (.cells #[.int .i64 (x : Int), .int .i64 0] 185)
  refine wpList_append_lies _ hgd sl y 186 ho base 185 i0 (.agg #[.int .i64 0, .int .i64 0]) 2 16 Tryz.underlying186 hi hz0 hz1 hz2 rfl (by omega) _ n _ hs hb2 ⟨w.heap.size, 0, none⟩ 1 1 [.int .i64 (x : Int), .int .i64 0] hx rfl (World.news_of_block (heap_alloc_new w _)) (one_step (x : Int) 0) (by omega) (by unfold maxLen; omega) (by omega) (by simp; omega) _ rfl ?_
  intro g' cap' w' ho' hg' hl' _
  refine h g' cap' w' ⟨by rw [hbuf.1]; simp, ?_⟩ ((World.grownBy_alloc w _ _).trans hg') ?_
  · rw [fl_top]
    exact ho'
  · rcases hl' with e | e
    · left
      have e' : g = g' := by simpa [Value.ownBlock] using e
      exact e'.symm
    · right
      rw [e]
      simp

theorem keyed : Go.Maps.Keyed Tryz.prog 3 := Go.Maps.int_keyed Tryz.underlying3
theorem zeroI (w : World) : (zeroValue 3).run Tryz.prog w = .ok (.int .i64 0) w := by kernel_rfl

/-- The map of what was met: its keys are those of the stack. -/
structure Met (bm m : Nat) (S : List (Nat × Nat)) (D : DataW Unit) (W : World) : Prop where
  own : W.ownsMap Tryz.prog 3 (plainElem (H := Unit) Tryz.prog 3) bm m D
  has : ∀ x : Nat, Maps.has D (.int .i64 (x : Int)) = TR.metIn S x
theorem Met.kept {bm m : Nat} {D : DataW Unit} {row : Option Nat} (h : Met bm m S D w) (hg : w.grownBy W row) (hne : some bm ≠ row) : Met bm m S D W := ⟨h.own.kept hg hne, h.has⟩
theorem Met.top {bm m : Nat} {D : DataW Unit} (h : Met bm m ((d, k) :: R) D w) (k' : Nat) : Met bm m ((d, k') :: R) D w := ⟨h.own, fun x => by rw [h.has x]; rfl⟩
theorem Met.lt {bm m : Nat} {D : DataW Unit} (h : Met bm m S D w) : bm < w.heap.size := by
  obtain ⟨es, clock, hb, _⟩ := h.own
  exact (Array.getElem?_eq_some_iff.1 hb).1

theorem metIn_cons (x k y : Nat) (S : List (Nat × Nat)) : TR.metIn ((x, k) :: S) y = ((x == y) || TR.metIn S y) := rfl
theorem key_ne {x y : Nat} (h : x ≠ y) : Lit.int .i64 (x : Int) ≠ Lit.int .i64 (y : Int) := by
  intro e
  injection e with _ e
  omega

theorem has_put {D : DataW Unit} (hD : Maps.IsMap D) (x : Nat) (v : DataW Unit) (h : ∀ y : Nat, Maps.has D (.int .i64 (y : Int)) = TR.metIn S y) (y : Nat) : Maps.has (D.put (.int .i64 (x : Int)) v) (.int .i64 (y : Int)) = TR.metIn ((x, 0) :: S) y := by
  rw [metIn_cons]
  by_cases e : x = y
  · subst e
    rw [Maps.has_put_same (k := .int .i64 (x : Int)) hD trivial]
    simp
  · rw [Maps.has_put_other (key_ne (fun e' => e e'.symm)), h y]
    simp [e]

theorem has_del {D : DataW Unit} (hnd : (((d, k) :: R).map (·.1)).Nodup) (h : ∀ y : Nat, Maps.has D (.int .i64 (y : Int)) = TR.metIn ((d, k) :: R) y) (y : Nat) : Maps.has (D.del (.int .i64 (d : Int))) (.int .i64 (y : Int)) = TR.metIn R y := by
  by_cases e : d = y
  · subst e
    rw [Maps.has_del_same]
    cases hm : TR.metIn R d with
    | false => rfl
    | true =>
      exfalso
      rw [List.map_cons, List.nodup_cons] at hnd
      obtain ⟨q, hq, he⟩ := List.any_eq_true.1 hm
      exact hnd.1 (List.mem_map.2 ⟨q, hq, by simpa using he⟩)
  · rw [Maps.has_del_other (key_ne (fun e' => e e'.symm)), h y, metIn_cons]
    simp [e]

theorem wf_nat (x : Nat) (h : x ≤ 1048576) : (Lit.int .i64 (x : Int)).wf = true := by
  simp [Lit.wf, IntKind.min, IntKind.max, IntKind.signed, IntKind.bits]
  omega
end Go.Proofs.YtdljajjgppcjpaaGreat.TW

/- The contract of the tree's walk. -/
namespace Go.Proofs.YtdljajjgppcjpaaGreat.TW
open Go.ChangeShapes Go.WideShapes Go.ChangeAt Go.RowKit
set_option linter.unusedVariables false
set_option linter.unusedSimpArgs false
set_option maxRecDepth 10000
variable {B : Nat} {N : Nat → Nd} {F : Nat → Nat} {P : Nat → ByteArray} {w W W' : World} {E : Nat → List T0.Ent}

/-- What is known of the tree's nodes as the walk begins. -/
structure Ns (B : Nat) (N : Nat → Nd) (E : Nat → List T0.Ent) (W : World) : Prop where
  ne : ∀ i, i < 8 → (N i).ne = (E i).length
  row : ∀ i, i < 8 → V1.OwnE (B + 1) W (N i).ae (E i)
  sane : TR.Sane E (fun i => (N i).k)
  few : ∀ i, (E i).length ≤ 12
  short : ∀ i e, e ∈ E i → e.2.size ≤ 14

theorem At_size {k : Nat} {p : ByteArray} {x : Nat} (hs : ∀ i e, e ∈ E i → e.2.size ≤ 14) (h : TR.At E x k p) : p.size ≤ 1 + 15 * k := by
  induction h using TR.At.ind with
  | zero => decide
  | @down d k p x nm _ hm ih =>
    have := hs _ _ hm
    have h1 : (TR.sep d).size ≤ 1 := by
      unfold TR.sep
      split <;> decide
    rw [ByteArray.size_append, ByteArray.size_append]
    simp only at this
    omega

/-- The rows of the nodes, where all but the tree's block is as it was. -/
theorem Ns.row_at (h : Ns B N E w) (hg : w.grownBy W (some B)) {i : Nat} (hi : i < 8) : T0.Row W (N i).ae (E i) := by
  rcases h.row i hi with h0 | ⟨g, e, hb, hk⟩
  · exact Or.inl h0
  · have hrow := (show T0.Row w (N i).ae (E i) from V1.OwnE.row (base := B + 1) (Or.inr ⟨g, e, hb, hk⟩))
    rcases hrow with h0 | ⟨b, off, ha, hlt, hc⟩
    · exact Or.inl h0
    · rw [e] at ha
      cases ha
      refine Or.inr ⟨g, 0, e, Nat.lt_of_lt_of_le hlt hg.size, fun j hj => ?_⟩
      have := hc j hj
      exact ⟨hg.cell this.1 (by simp; omega), hg.cell this.2 (by simp; omega)⟩

theorem gr_then {a b c : World} {row row' : Option Nat} (h : a.grownBy b row) (k : b.grownBy c row') (hr : ∀ j, row' = some j → a.heap.size ≤ j ∨ row = some j) : a.grownBy c row :=
  ⟨k.os.trans h.os, k.tape.trans h.tape, k.output.trans h.output, Nat.le_trans h.size k.size, fun i hi hne => (k.block i (Nat.lt_of_lt_of_le hi h.size) (fun e => by
    rcases hr i e.symm with h1 | h1
    · omega
    · exact hne h1.symm)).trans (h.block i hi hne)⟩
theorem gr_below {a b c : World} {row : Option Nat} (h : a.grownBy b row) (hb : Below a.heap.size b c) : a.grownBy c row :=
  ⟨hb.os.trans h.os, hb.tape.trans h.tape, hb.output.trans h.output, Nat.le_trans h.size hb.size, fun i hi hne => (hb.block i hi).trans (h.block i hi hne)⟩
theorem below_gr {a b : World} {g m : Nat} (h : a.grownBy b (some g)) (hm : m ≤ g) (hs : m ≤ a.heap.size) : Below m a b :=
  ⟨h.os, h.tape, h.output, h.size, fun i hi => h.block i (by omega) (by simp; omega)⟩

theorem blk_gr {a b : World} {g c : Nat} {vs : List Value} (h : K0.Blk c vs a) (hg : a.grownBy b (some g)) (hne : c ≠ g) : K0.Blk c vs b :=
  ⟨fun j hj => hg.cell (h.cell j hj) (by simpa using hne), fun j hj => (World.frozen?_of_block (hg.block c h.lt (by simpa using hne))).trans (h.free j hj), Nat.lt_of_lt_of_le h.lt hg.size⟩

/-- What stands in memory, in the midst of a round. -/
structure Mid (B : Nat) (N : Nat → Nd) (w : World) (g n cap bm m : Nat) (D : DataW Unit) (S : List (Nat × Nat)) (F : Nat → Nat) (P : Nat → ByteArray) (W : World) : Prop where
  tb : Tb B N F P W
  buf : SBuf w.heap.size W g n cap S
  met : Met bm m S D W
  grown : w.grownBy W (some B)
theorem Mid.drew {g n cap bm m : Nat} {D : DataW Unit} {S : List (Nat × Nat)} (h : Mid B N w g n cap bm m D S F P W) : Mid B N w g n cap bm m D S F P W.drew :=
  ⟨h.tb.drew, h.buf, ⟨h.met.own, h.met.has⟩, grown_drew h.grown⟩
theorem Mid.alloc {g n cap bm m : Nat} {D : DataW Unit} {S : List (Nat × Nat)} (h : Mid B N w g n cap bm m D S F P W) (o : Obj) : Mid B N w g n cap bm m D S F P (W.alloc o) :=
  ⟨h.tb.below (K0.below_new W o) h.tb.lt, h.buf.kept (World.grownBy_alloc W o none) (by simp), h.met.kept (World.grownBy_alloc W o none) (by simp), h.grown.trans (World.grownBy_alloc W o _)⟩
theorem Mid.put {g n cap bm m d k : Nat} {D : DataW Unit} {R : List (Nat × Nat)} (h : Mid B N w g n cap bm m D ((d, k) :: R) F P W) (hB : B < w.heap.size) (hne : bm ≠ g) (k' : Nat) : Mid B N w g n cap bm m D ((d, k') :: R) F P (W.setCell ⟨g, R.length * 2 + 1, none⟩ (.int .i64 (k' : Int))) := by
  have hs := (h.buf.2.stored (R.length * 2 + 1) (.int .i64 (k' : Int))).2
  have hl := h.buf.lt
  exact ⟨h.tb.below (below_gr hs hl.1 (Nat.le_of_lt (Nat.lt_of_le_of_lt hl.1 hl.2))) hB, h.buf.put k', (h.met.top k').kept hs (by simpa using hne), gr_then h.grown hs (fun j hj => by cases hj; exact Or.inl hl.1)⟩
theorem Mid.found {g n cap bm m : Nat} {D : DataW Unit} {S : List (Nat × Nat)} {F' : Nat → Nat} {P' : Nat → ByteArray} (h : Mid B N w g n cap bm m D S F P W) (hB : B < w.heap.size) (hbm : w.heap.size ≤ bm) (ht : Tb B N F' P' W') (hg : W.grownBy W' (some B)) : Mid B N w g n cap bm m D S F' P' W' :=
  ⟨ht, h.buf.kept hg (by have := h.buf.lt.1; simp; omega), h.met.kept hg (by simp; omega), h.grown.trans hg⟩

/-- The loops' state: so much is left to do. -/
structure St (B : Nat) (N : Nat → Nd) (E : Nat → List T0.Ent) (w : World) (left : Nat) (g n cap bm : Nat) (S : List (Nat × Nat)) (F : Nat → Nat) (P : Nat → ByteArray) (W : World) : Prop where
  tb : Tb B N F P W
  inv : TR.Inv E (fun i => (N i).k) S F P
  buf : SBuf w.heap.size W g n cap S
  met : ∃ m D, Met bm m S D W ∧ m + left ≤ 281474976710656
  bm : w.heap.size ≤ bm ∧ bm ≠ g
  num : ∀ x, F x + left ≤ 281474976710656
  left : left = TR.left E S
  grown : w.grownBy W (some B)

theorem St.drew {left g n cap bm : Nat} {S : List (Nat × Nat)} (h : St B N E w left g n cap bm S F P W) : St B N E w left g n cap bm S F P W.drew :=
  ⟨h.tb.drew, h.inv, h.buf, by obtain ⟨m, D, h1, h2⟩ := h.met; exact ⟨m, D, ⟨h1.own, h1.has⟩, h2⟩, h.bm, h.num, h.left, grown_drew h.grown⟩

theorem left_le (hf : ∀ i, (E i).length ≤ 12) : ∀ S : List (Nat × Nat), TR.left E S ≤ 13 * 16 ^ 8 * S.length
  | [] => Nat.zero_le _
  | q :: R => by
    have ih := left_le hf R
    have h1 := hf q.1
    have h2 : 16 ^ (8 - (R.length + 1)) ≤ 16 ^ 8 := Nat.pow_le_pow_right (by decide) (by omega)
    have h3 : ((E q.1).length - q.2 + 1) * 16 ^ (8 - (R.length + 1)) ≤ 13 * 16 ^ 8 := Nat.mul_le_mul (by omega) h2
    simp only [TR.left, List.length_cons]
    rw [Nat.mul_succ]
    omega

set_option maxHeartbeats 4000000 in
theorem walk (w : World) (hT : Tb B N (fun _ => 0) (fun _ => ⟨#[]⟩) w) (hN : Ns B N E w) (hK0 : (N 0).k = 2) :
    Calls Tryz.prog 128 #[.pointer (some ⟨B, 0, none⟩)] w fun e w' => w.grownBy w' (some B) ∧
      ((e = .returned (.bool false) ∧ TR.treeOk E (fun i => (N i).k) = false) ∨ (e = .returned (.bool true) ∧ ∃ F P, Tb B N F P w' ∧ TR.Inv E (fun i => (N i).k) [] F P ∧ ∀ x, F x ≤ 281474976710656)) := by
  have hmm := @run_makeMap Tryz.prog
  have x0 := hT.pth 0 (by decide)
  have y0 := hT.free 56 (by decide)
  have t1 := hT.setP (i := 0) (by decide) ⟨#[47]⟩
  have g1 : w.grownBy (w.setCell ⟨B, 56, none⟩ (.string ⟨#[47]⟩)) (some B) := Lib.grownBy_setCell _ B 56 _
  have hs1 : (w.setCell ⟨B, 56, none⟩ (.string ⟨#[47]⟩)).heap.size = w.heap.size := by simp [World.setCell]
  have s2 := sbuf_new (base := w.heap.size) (w.setCell ⟨B, 56, none⟩ (.string ⟨#[47]⟩)) (by rw [hs1]; exact Nat.le_refl _)
  have o3 := World.ownsMap_made (H := Unit) ((w.setCell ⟨B, 56, none⟩ (.string ⟨#[47]⟩)).alloc (.cells #[.int .i64 0, .int .i64 0] 185)) Tryz.prog 3 (plainElem Tryz.prog 3)
  have hs2 : ((w.setCell ⟨B, 56, none⟩ (.string ⟨#[47]⟩)).alloc (.cells #[.int .i64 0, .int .i64 0] 185)).heap.size = w.heap.size + 1 := by simp
  rw [hs2] at o3
  obtain ⟨w3, hrun3, own3, turn3⟩ := o3.store keyed Tryz.underlying187 (by unfold maxLen; omega) (key := .int .i64 0) (val := .int .i64 0) (kl := .int .i64 0) (Go.Maps.keyOf_int_mk Tryz.underlying3 (by decide)) (plainElem_int Tryz.underlying3 (by decide))
  have st0 : St B N E w (TR.left E [(0, 0)]) w.heap.size 1 1 (w.heap.size + 1) [(0, 0)] (fun _ => 0) (fun i => if i = 0 then ⟨#[47]⟩ else ⟨#[]⟩) w3 := by
    have hl := left_le hN.few [(0, 0)]
    simp only [List.length_cons, List.length_nil] at hl
    have gt := turn3.grown
    have ga := (World.grownBy_alloc (w.setCell ⟨B, 56, none⟩ (.string ⟨#[47]⟩)) (.cells #[.int .i64 0, .int .i64 0] 185) none)
    have gb := (World.grownBy_alloc ((w.setCell ⟨B, 56, none⟩ (.string ⟨#[47]⟩)).alloc (.cells #[.int .i64 0, .int .i64 0] 185)) (.map #[] 0) none)
    have hBw := hT.lt
    refine ⟨?_, TR.start, ?_, ⟨1, _, ⟨own3, ?_⟩, by omega⟩, ⟨by omega, by omega⟩, fun x => by omega, rfl, ?_⟩
    · have h1 : Below (B + 1) (w.setCell ⟨B, 56, none⟩ (.string ⟨#[47]⟩)) w3 := by
        refine ⟨?_, ?_, ?_, ?_, fun k hk => ?_⟩
        · exact gt.os.trans (gb.os.trans ga.os)
        · exact gt.tape.trans (gb.tape.trans ga.tape)
        · exact gt.output.trans (gb.output.trans ga.output)
        · exact Nat.le_trans ga.size (Nat.le_trans gb.size gt.size)
        · rw [gt.block k (by simp; omega) (by simp; omega), gb.block k (by simp; omega) (by simp), ga.block k (by simp; omega) (by simp)]
      exact t1.below h1 (by omega)
    · have := (s2.kept gb (by simp)).kept gt (by rw [hs1]; simp)
      rw [hs1] at this
      exact this
    · intro x
      exact has_put (S := []) Maps.isMap_empty 0 _ (fun y => rfl) x
    · exact gr_then ((g1.trans (World.grownBy_alloc _ _ _)).trans (World.grownBy_alloc _ _ _)) gt (fun j hj => by cases hj; left; omega)
  clear own3 turn3 o3 s2 t1 g1 hs1 hs2
  go_enter Tryz.func128, Tryz.ntmps128
  go_wp2
  go_step3
  go_wp2
  go_step3
  go_wp2
  have hT0 := hT.lt
  clear hrun3 hmm x0 y0 hT
  go_loopg [3] (TR.left E [(0, 0)]) (fun gk v wx => ∃ (g n cap : Nat) (S : List (Nat × Nat)) (F : Nat → Nat) (P : Nat → ByteArray), v = .slice (some ⟨g, 0, none⟩) n cap ∧ St B N E w gk g n cap (w.heap.size + 1) S F P wx)
  case atStart => exact ⟨_, _, _, _, _, _, rfl, st0⟩
  case round =>
    obtain ⟨g, n, cap, S, F, P, rfl, st⟩ := hrel
    clear st0
    obtain ⟨go, rfl⟩ : ∃ go, go = gk := ⟨_, rfl⟩
    obtain ⟨wo, rfl⟩ : ∃ wo, wo = wr := ⟨_, rfl⟩
    cases S with
    | nil =>
      have hn : n = 0 := st.buf.1
      subst hn
      go_wp2
      try rw [Exit.noGoto_ret]
      go_ret
      exact ⟨st.grown, Or.inr ⟨rfl, F, P, st.tb, st.inv, fun x => Nat.le_trans (Nat.le_add_right _ _) (st.num x)⟩⟩
    | cons q R =>
      obtain ⟨d, k⟩ := q
      have hn : n = R.length + 1 := st.buf.1
      subst hn
      have hd := (st.inv.lt (d, k) (by simp)).1
      have hBw := hT0
      have i0 := st.buf.ino
      have e0 := st.tb.ents hd
      rw [hN.ne d hd] at e0
      obtain ⟨ae, hae⟩ : ∃ ae, (N d).ae = ae := ⟨_, rfl⟩
      have HAE : Hid ((N d).ae = ae) := hae
      rw [hae] at e0
      clear hae
      have hlen := st.inv.len
      simp only [List.length_cons] at hlen
      have a1 : (0 : Int) < ((R.length + 1 : Nat) : Int) := by omega
      have a2 : IntKind.i64.wrap (((R.length + 1 : Nat) : Int) - 1) = (R.length : Int) := by rw [IntKind.wrap_i64]; omega
      have a3 : (0 : Int) ≤ (R.length : Int) := by omega
      have a4 : (R.length : Int) < ((R.length + 1 : Nat) : Int) := by omega
      have a5 : (0 : Int) ≤ (d : Int) := by omega
      have a6 : (d : Int) < 8 := by omega
      go_wp2
      go_region
      go_wp2
      clear i0 e0 a1 a2
      go_loopg [3] go (fun gj v wx => ∃ (k : Nat) (F : Nat → Nat) (P : Nat → ByteArray), gj ≤ go ∧ v = .slice (some ⟨g, 0, none⟩) (R.length + 1) cap ∧ St B N E w gj g (R.length + 1) cap (w.heap.size + 1) ((d, k) :: R) F P wx)
      case atStart => exact ⟨k, F, P, Nat.le_refl _, rfl, st.drew⟩
      case round =>
        clear st
        obtain ⟨k, F, P, hle, rfl, st⟩ := hrel
        obtain ⟨m, D, hmet, hml⟩ := st.met
        have mid0 : Mid B N w g (R.length + 1) cap (w.heap.size + 1) m D ((d, k) :: R) F P wr := ⟨st.tb, st.buf, hmet, st.grown⟩
        have n0 := st.buf.next
        have hbm := st.bm
        by_cases hk : k < (E d).length
        · have hmem := TR.mem_ent hk
          have hin := hN.sane.ino d _ hmem
          have hsh := hN.short d _ hmem
          have hrow := hN.row_at st.grown hd
          rw [HAE.out] at hrow
          obtain ⟨b, off, hab, hbl, hc⟩ := hrow.get hk
          subst hab
          have x1 := (hc k hk).1
          have x2 := (hc k hk).2
          obtain ⟨x, hx⟩ : ∃ x : Nat, (T0.ent (E d) k).1 = (x : Int) := ⟨(T0.ent (E d) k).1.toNat, by omega⟩
          obtain ⟨nm, hnm⟩ : ∃ nm, (T0.ent (E d) k).2 = nm := ⟨_, rfl⟩
          have HX : Hid ((T0.ent (E d) k).1 = (x : Int)) := hx
          have HM : Hid ((T0.ent (E d) k).2 = nm) := hnm
          rw [hx] at x1 hin
          rw [hnm] at x2 hsh
          clear hx hnm hc hrow hmem hbl
          have mid1 := mid0.alloc (.cells #[.int .i64 (x : Int), .string nm] 121)
          have mid2 := mid1.put hBw hbm.2 (k + 1)
          have eC : (((k + 1 : Nat)) : Int) = (k : Int) + 1 := by omega
          rw [eC] at mid2
          have be := K0.blk_new [.int .i64 (x : Int), .string nm] wr 121
          have be2 := be.setOther (B' := g) (by have := st.buf.lt; omega) (R.length * 2 + 1) (.int .i64 ((k : Int) + 1))
          have c0 := be.c0
          have c1 := be.c1
          have c2 := be2.c0
          have c3 := be2.c1
          have n1 := mid1.buf.next
          have f1 := mid1.buf.free (R.length * 2 + 1)
          have p1 := mid1.buf.ino
          have p2 := mid2.buf.ino
          have b1 : (0 : Int) ≤ (k : Int) := by omega
          have b2 : (k : Int) < ((E d).length : Int) := by omega
          have b3 : IntKind.i64.wrap ((k : Int) + 1) = (k : Int) + 1 := by
            have := hN.few d
            rw [IntKind.wrap_i64]
            omega
          have hkey : keyOf Tryz.prog 3 (.int .i64 (x : Int)) = some (.int .i64 (x : Int)) := Go.Maps.keyOf_int_mk Tryz.underlying3 (wf_nat x (by omega))
          have hown2 := mid2.met.own
          have hhas := hmet.has x
          cases hm : TR.metIn ((d, k) :: R) x with
          | true =>
            rw [hm] at hhas
            have HB : Hid (TR.treeOk E (fun i => (N i).k) = false) := st.inv.back hN.sane hk HX.out hm
            have HG : Hid (w.grownBy ((wr.alloc (.cells #[.int .i64 (x : Int), .string nm] 121)).setCell ⟨g, R.length * 2 + 1, none⟩ (.int .i64 ((k : Int) + 1))) (some B)) := mid2.grown
            clear mid0 mid1 mid2 be be2 st hmet hN hm
            go_wp2_with (at_lookup; refine wpList_lookup_own_ok_int _ rfl _ _ 187 rfl 3 3 .i64 keyed Tryz.underlying187 Tryz.underlying3 (zeroI _) (w.heap.size + 1) m D rfl hown2 _ _ rfl hkey ?_; intro c hat hwc)
            try rw [Exit.noGoto_ret]
            go_ret
            exact ⟨HG.out, Or.inl ⟨rfl, HB.out⟩⟩
          | false =>
            rw [hm] at hhas
            have hx8 : x < 8 := by omega
            have hl0 : 0 < gk := by
              rw [st.left]
              exact Nat.lt_of_le_of_lt (Nat.zero_le _) TR.left_pop
            have hFx : F x < 281474976710656 := by have := st.num x; omega
            have hPd : (P d).size ≤ 281474976710656 := by
              have := At_size hN.short (st.inv.atS [] (d, k) R rfl)
              simp only at this
              omega
            have mid2d := mid2.drew
            have hBG : wr.heap.size ≠ B := by have := st.tb.lt; omega
            have HGL : Hid ((w.heap.size ≤ g ∧ g < wr.heap.size) ∧ w.heap.size + 1 < wr.heap.size) := ⟨st.buf.lt, hmet.lt⟩
            have HF : Hid (∀ W, Tb B N F P W → Calls Tryz.prog 142 #[.pointer (some ⟨B, 0, none⟩), .int .i64 (d : Int), .agg #[.int .i64 (x : Int), .string nm]] W fun e w' => e = .returned (.tuple #[]) ∧ Tb B N (TR.upF F x) (TR.upP P x (P d ++ TR.sep d ++ nm)) w' ∧ W.grownBy w' (some B)) := fun W h => find d x nm W h hd hx8 hFx hPd (by omega)
            have HI : Hid (TR.Inv E (fun i => (N i).k) ((d, k) :: R) F P ∧ TR.metIn ((d, k) :: R) x = false ∧ gk = TR.left E ((d, k) :: R) ∧ ∀ y, F y + gk ≤ 281474976710656) := ⟨st.inv, hm, st.left, st.num⟩
            have be2d := be2.drew
            have HN : Hid (Ns B N E w) := hN
            clear mid0 mid1 mid2 be be2 st hmet hm hPd hFx hN
            go_wp2_with (at_lookup; refine wpList_lookup_own_ok_int _ rfl _ _ 187 rfl 3 3 .i64 keyed Tryz.underlying187 Tryz.underlying3 (zeroI _) (w.heap.size + 1) m D rfl hown2 _ _ rfl hkey ?_; intro c hat hwc)
            clear hown2 x1 x2 n0 n1 f1 b1 b2 b3
            have hS2 : ((wr.alloc (.cells #[.int .i64 (x : Int), .string nm] 121)).setCell ⟨g, R.length * 2 + 1, none⟩ (.int .i64 ((k : Int) + 1))).drew.cell? ⟨g, R.length * 2, none⟩ = some (.int .i64 (d : Int)) ∧ ((wr.alloc (.cells #[.int .i64 (x : Int), .string nm] 121)).setCell ⟨g, R.length * 2 + 1, none⟩ (.int .i64 ((k : Int) + 1))).drew.cell? ⟨wr.heap.size, 0, none⟩ = some (.int .i64 (x : Int)) ∧ ((wr.alloc (.cells #[.int .i64 (x : Int), .string nm] 121)).setCell ⟨g, R.length * 2 + 1, none⟩ (.int .i64 ((k : Int) + 1))).drew.cell? ⟨wr.heap.size, 1, none⟩ = some (.string nm) := ⟨mid2d.buf.ino, be2d.c0, be2d.c1⟩
            go_region_held3 (fun W => W.cell? ⟨g, R.length * 2, none⟩ = some (.int .i64 (d : Int)) ∧ W.cell? ⟨wr.heap.size, 0, none⟩ = some (.int .i64 (x : Int)) ∧ W.cell? ⟨wr.heap.size, 1, none⟩ = some (.string nm)) (assumption) ((go_at_call 142; refine (HF.out _ mid2d.tb).mono ?_; rintro e w3 ⟨rfl, t3, g3⟩; have mid3 := mid2d.found hBw hbm.1 t3 g3; have be3 := blk_gr be2d g3 hBG; have hS3 : w3.cell? ⟨g, R.length * 2, none⟩ = some (.int .i64 (d : Int)) ∧ w3.cell? ⟨wr.heap.size, 0, none⟩ = some (.int .i64 (x : Int)) ∧ w3.cell? ⟨wr.heap.size, 1, none⟩ = some (.string nm) := ⟨mid3.buf.ino, be3.c0, be3.c1⟩))
            have hkd := mid3.tb.kind hx8
            have q0 := be3.c0
            have x5 : (0 : Int) ≤ (x : Int) := by omega
            have x6 : (x : Int) < 8 := by omega
            obtain ⟨kx, hkx⟩ : ∃ kx, (N x).k = kx := ⟨_, rfl⟩
            have HKX : Hid ((N x).k = kx) := hkx
            rw [hkx] at hkd
            clear hkx hS2 hS3 mid2d be2d HF c0 c1 c2 c3 p1 p2 hhas g3 t3
            obtain ⟨I1, I2, I3, I4⟩ := HI.out
            obtain ⟨F', eF⟩ : ∃ F', TR.upF F x = F' := ⟨_, rfl⟩
            obtain ⟨P', eP⟩ : ∃ P', TR.upP P x (P d ++ TR.sep d ++ nm) = P' := ⟨_, rfl⟩
            have hup : ∀ y, F' y ≤ F y + 1 := fun y => by
              rw [← eF, TR.upF]
              split <;> omega
            rw [eF, eP] at mid3
            by_cases hK : kx = 2
            · have HJ : Hid (TR.Inv E (fun i => (N i).k) ((x, 0) :: (d, k + 1) :: R) F' P' ∧ TR.left E ((x, 0) :: (d, k + 1) :: R) < gk) := by
                refine ⟨?_, ?_⟩
                · have := I1.dir hk HX.out I2 (show (N x).k = 2 from HKX.out.trans hK) (by omega) hx8
                  rw [HM.out, eF, eP] at this
                  exact this
                · rw [I3]
                  refine TR.left_dir hk (Nat.le_trans (HN.out.few x) (by decide)) ?_
                  have := (I1.dir hk HX.out I2 (show (N x).k = 2 from HKX.out.trans hK) (by omega) hx8).len
                  simpa using this
              have HL : Hid (m + gk ≤ 281474976710656 ∧ ∀ y, F y + gk ≤ 281474976710656) := ⟨hml, I4⟩
              have hm48 : m < maxLen := by unfold maxLen; omega
              have mid3d := (mid3.drew).drew
              have hown3 := mid3.met.own
              have hwf : (Lit.int .i64 ((R.length : Int) + 1)).wf = true := wf_nat (R.length + 1) (by omega)
              clear I1 I2 I3 I4 eF eP
              subst hK
              go_wp2
              go_region
              have hown4 : ((w3.drew).ownsMap Tryz.prog 3 (plainElem (H := Unit) Tryz.prog 3) (w.heap.size + 1) m D) := hown3
              go_wp2_with (first
                | (at_mapUpdate; refine wpList_mapUpdate_in _ rfl _ _ _ 187 rfl 3 3 keyed Tryz.underlying187 _ (w.heap.size + 1) m D rfl hown4 hm48 _ _ _ rfl rfl hkey _ [] (plainElem_int Tryz.underlying3 hwf) ?_; intro w4 own4 turn4; have be4 := blk_gr be3.drew turn4.grown (by have := HGL.out; omega); have q4 := be4.c0; have buf4 := (mid3.buf.drew).kept turn4.grown (by simpa using hbm.2.symm))
                | (at_builtin; refine append_step rfl (.tmp 87) (.tmp 91) rfl buf4 x (by rfl) (by rfl) (by omega) (by have := HGL.out; have := turn4.grown.size; have := buf4.lt; omega) ?_; intro g5 cap5 w5 buf5 gr5 hl5))
              clear hown3 hown4 q0 q4 hkd
              have HO := HJ.out
              go_roundg (TR.left E ((x, 0) :: (d, k + 1) :: R))
              case measure => omega
              case rel =>
                have hL := HL.out
                have hG := HGL.out
                have hlt5 : (w.heap.size : Nat) + 1 ≠ g5 := by
                  rcases hl5 with e | e
                  · rw [e]
                    exact hbm.2
                  · have h1 := turn4.grown.size
                    have h2 := be3.lt
                    have h3 : w3.drew.heap.size = w3.heap.size := rfl
                    omega
                have t4 := mid3.tb.drew.below (below_gr turn4.grown (m := w.heap.size) (by omega) (by have h2 := be3.lt; have h3 : w3.drew.heap.size = w3.heap.size := rfl; omega)) hBw
                have t5 := t4.below (below_gr gr5 (m := w.heap.size) hG.1.1 (by have h1 := turn4.grown.size; have h2 := be3.lt; have h3 : w3.drew.heap.size = w3.heap.size := rfl; omega)) hBw
                exact ⟨g5, R.length + 1 + 1, cap5, (x, 0) :: (d, k + 1) :: R, F', P', rfl, ⟨t5, HO.1, buf5, ⟨m + 1, _, ⟨own4.kept gr5 (by simpa using hbm.2), has_put mid3.met.own.isMap x _ mid3.met.has⟩, by omega⟩, ⟨hbm.1, hlt5⟩, fun y => by have := hL.2 y; have := hup y; omega, rfl, gr_then (gr_then (grown_drew mid3.grown) turn4.grown (fun j hj => by cases hj; left; omega)) gr5 (fun j hj => by cases hj; exact Or.inl hG.1.1)⟩⟩
            · have HJ : Hid (TR.Inv E (fun i => (N i).k) ((d, k + 1) :: R) F' P' ∧ TR.left E ((d, k + 1) :: R) < gk) := by
                refine ⟨?_, ?_⟩
                · have := I1.file hk HX.out I2 (show ¬ (N x).k = 2 from fun e => hK (HKX.out.symm.trans e)) (by omega)
                  rw [HM.out, eF, eP] at this
                  exact this
                · rw [I3]
                  exact TR.left_file hk
              have HL : Hid (m + gk ≤ 281474976710656 ∧ ∀ y, F y + gk ≤ 281474976710656) := ⟨hml, I4⟩
              have hK' : (kx == 2) = false := by simpa using hK
              clear I1 I2 I3 I4 eF eP
              go_wp2
              go_region
              go_wp2
              have HO := HJ.out
              go_roundg (TR.left E ((d, k + 1) :: R))
              case measure => omega
              case rel =>
                have hL := HL.out
                exact ⟨k + 1, F', P', by omega, rfl, ⟨mid3.tb.drew, HO.1, mid3.buf.drew, ⟨m, D, ⟨mid3.met.own, mid3.met.has⟩, by omega⟩, hbm, fun y => by have := hL.2 y; have := hup y; omega, rfl, grown_drew mid3.grown⟩⟩
        · have b2 : ¬ ((k : Int) < ((E d).length : Int)) := by omega
          have i1 := st.buf.ino
          have hkey : keyOf Tryz.prog 3 (.int .i64 (d : Int)) = some (.int .i64 (d : Int)) := Go.Maps.keyOf_int_mk Tryz.underlying3 (wf_nat d (by omega))
          have hown := hmet.own
          have hcap := st.buf.room
          have c1 : (R.length : Int) ≤ (cap : Int) := by omega
          have c2 : IntKind.i64.wrap (((R.length + 1 : Nat) : Int) - 1) = (R.length : Int) := by rw [IntKind.wrap_i64]; omega
          have HS : Hid (St B N E w gk g (R.length + 1) cap (w.heap.size + 1) ((d, k) :: R) F P wr) := st
          have HM : Hid (Met (w.heap.size + 1) m ((d, k) :: R) D wr ∧ m + gk ≤ 281474976710656) := ⟨hmet, hml⟩
          clear mid0 st hmet hml hN
          go_wp2_with (at_delete; refine wpList_delete_own _ rfl _ _ 187 3 rfl 3 keyed Tryz.underlying187 _ (w.heap.size + 1) m D rfl hown _ _ rfl hkey ?_; intro w1 own1 turn1)
          have hs := HS.out
          have hl := hs.left
          have hp : TR.left E R < TR.left E ((d, k) :: R) := TR.left_pop
          go_roundg (TR.left E R)
          case measure => omega
          case rel =>
            have hm' := HM.out
            have hBl := hm'.1.lt
            refine ⟨g, R.length, cap, R, F, P, rfl, ⟨hs.tb.below (below_gr turn1.grown (m := w.heap.size) (by omega) (by omega)) hBw, hs.inv.pop hk, hs.buf.pop.kept turn1.grown (by simpa using hbm.2.symm), ⟨m, _, ⟨own1, has_del hs.inv.nodup hm'.1.has⟩, by omega⟩, hbm, fun y => by have := hs.num y; omega, rfl, gr_then hs.grown turn1.grown (fun j hj => by cases hj; left; omega)⟩⟩
end Go.Proofs.YtdljajjgppcjpaaGreat.TW

/- More contracts of the library functions that the laws of this seat call, laid over its translation. -/
namespace Go.Proofs
open Go.Shelf
end Go.Proofs

/- The contracts of the tree's pages and pagesApart. -/
namespace Go.Proofs.YtdljajjgppcjpaaGreat.TW
open Go.ChangeShapes Go.WideShapes Go.ChangeAt Go.RowKit
open Go.Sort (Holds putRow grow)
set_option linter.unusedVariables false
set_option linter.unusedSimpArgs false
set_option maxRecDepth 10000
variable {B : Nat} {N : Nat → Nd} {F : Nat → Nat} {P : Nat → ByteArray} {w W W' : World} {E : Nat → List T0.Ent}

open J0 (IBuf Own)
open I2 (ints)

theorem holds_of {g : Nat} {zs : List Int} (h : K0.Blk g (ints zs) W) : Holds (Value.int .i64) W g 0 zs.toArray := by
  intro j hj
  have hj' : j < zs.length := by simpa using hj
  have h1 := h.cell j (by simpa using hj')
  have h2 := h.free j (by simpa using hj')
  refine ⟨?_, by simpa using h2⟩
  rw [Nat.zero_add, h1]
  simp [hj']
theorem blk_of {g : Nat} {zs : List Int} (hg : g < W.heap.size) (h : Holds (Value.int .i64) W g 0 zs.toArray) : K0.Blk g (ints zs) W := by
  refine ⟨fun j hj => ?_, fun j hj => ?_, hg⟩
  · have hj' : j < zs.length := by simpa using hj
    have := (h j (by simpa using hj')).1
    rw [Nat.zero_add] at this
    rw [this]
    simp [hj']
  · have hj' : j < zs.length := by simpa using hj
    have := (h j (by simpa using hj')).2
    rwa [Nat.zero_add] at this
theorem sorted_blk {g n : Nat} {zs ys : List Int} {os : Array Obj} (h : K0.Blk g (ints zs) W) (hl : ys.length = zs.length) : K0.Blk g (ints ys) (grow (putRow (Value.int .i64) (Sort.ahead W n) g 0 ys.toArray) os) := by
  have h0 : Holds (Value.int .i64) (Sort.ahead W n) g 0 zs.toArray := Go.Sort.holds_ahead _ _ _ _ _ _ (holds_of h)
  have hlt : g < (putRow (Value.int .i64) (Sort.ahead W n) g 0 ys.toArray).heap.size := by rw [Go.Sort.size_putRow]; exact h.lt
  refine blk_of (by rw [Go.Sort.size_grow]; omega) (Go.Sort.holds_grow _ _ _ _ _ _ hlt (Go.Sort.holds_putRow _ _ _ _ _ _ h0 (by simpa using hl)))
theorem sorted_below {g n base : Nat} {ys : List Int} {os : Array Obj} (hb : base ≤ g) (hg : base ≤ W.heap.size) : Below base W (grow (putRow (Value.int .i64) (Sort.ahead W n) g 0 ys.toArray) os) := by
  refine ⟨rfl, rfl, rfl, ?_, fun k hk => ?_⟩
  · rw [Go.Sort.size_grow, Go.Sort.size_putRow]
    exact Nat.le_add_right _ _
  · rw [Go.Sort.heap_grow_old _ _ (by rw [Go.Sort.size_putRow]; exact Nat.lt_of_lt_of_le hk hg)]
    show (W.heap.modify g _)[k]? = W.heap[k]?
    rw [Array.getElem?_modify]
    rw [if_neg (by omega)]

/-- A row's numbers in order. -/
def srt (zs : List Int) : List Int := zs.mergeSort fun x y => decide (x ≤ y)
theorem srt_perm (zs : List Int) : (srt zs).Perm zs := List.mergeSort_perm zs _
theorem srt_length (zs : List Int) : (srt zs).length = zs.length := (srt_perm zs).length_eq
theorem srt_sorted (zs : List Int) : (srt zs).Pairwise (· ≤ ·) := by
  have := List.pairwise_mergeSort (le := fun x y : Int => decide (x ≤ y)) (fun a b c h1 h2 => by simp only [decide_eq_true_eq] at h1 h2 ⊢; omega) (fun a b => by simp only [Bool.or_eq_true, decide_eq_true_eq]; omega) zs
  exact this.imp fun h => by simpa using h

/-- The pages of the first nodes, as they stand. -/
def cat (Z : Nat → List Int) : Nat → List Int
  | 0 => []
  | i + 1 => cat Z i ++ Z i
theorem cat_len {Z : Nat → List Int} (h : ∀ i, (Z i).length ≤ 12) : ∀ i, (cat Z i).length ≤ 12 * i
  | 0 => Nat.le_refl _
  | i + 1 => by
    have := cat_len h i
    have := h i
    rw [cat, List.length_append]
    omega

/-- The nodes' cells. -/
def nds (N : Nat → Nd) : Nat → List Value
  | 0 => []
  | i + 1 => nds N i ++ (N i).vals
theorem nds_length (N : Nat → Nd) : ∀ i, (nds N i).length = i * 6
  | 0 => rfl
  | i + 1 => by rw [nds, List.length_append, nds_length N i, Nd.vals_length]; omega
theorem nds_get (N : Nat → Nd) : ∀ n i, i < n → ((nds N n).drop (i * 6)).take 6 = (N i).vals
  | 0, i, h => by omega
  | n + 1, i, h => by
    rw [nds]
    by_cases e : i = n
    · subst e
      rw [List.drop_append_of_le_length (by rw [nds_length]; exact Nat.le_refl _), List.drop_eq_nil_of_le (by rw [nds_length]; exact Nat.le_refl _), List.nil_append]
      exact List.take_of_length_le (Nat.le_of_eq (Nd.vals_length _))
    · have hl := nds_length N n
      rw [List.drop_append_of_le_length (by omega), List.take_append_of_le_length (by rw [List.length_drop]; omega)]
      exact nds_get N n i (by omega)
theorem nds_at (N : Nat → Nd) (i j : Nat) (hi : i < 8) (hj : j < 6) : (nds N 8)[i * 6 + j]? = (N i).vals[j]? := by
  have := congrArg (fun l : List Value => l[j]?) (nds_get N 8 i hi)
  rw [List.getElem?_take, if_pos hj, List.getElem?_drop] at this
  exact this
theorem Tb.range (h : Tb B N F P W) : W.rangeAt B 0 (nds N 8) := by
  intro j v hv
  have hj : j < 48 := by
    have := (List.getElem?_eq_some_iff.1 hv).1
    rw [nds_length] at this
    exact this
  have e : j = j / 6 * 6 + j % 6 := by omega
  rw [e, nds_at N (j / 6) (j % 6) (by omega) (by omega)] at hv
  rw [Nat.zero_add, e]
  obtain ⟨h1, h2⟩ := List.getElem?_eq_some_iff.1 hv
  rw [h.node (j / 6) (by omega) (j % 6) h1, h2]

theorem infoNodes : (Tryz.prog.info? 165).map (·.size) = some 48 := by kernel_rfl
theorem infoNode : (Tryz.prog.info? 164).map (·.size) = some 6 := by kernel_rfl

theorem run_node (N : Nat → Nd) (i : Nat) (hi : i < 8) (W : World) : (Instr.index 165 (.agg (nds N 8).toArray) (.int .i64 (i : Int))).run Tryz.prog W = .ok (.agg #[.int .i64 (N i).k, .int .i64 (N i).o, .int .i64 (N i).s, .slice (N i).a (N i).n (N i).c, .string (N i).x, .slice (N i).ae (N i).ne (N i).ce]) W := by
  have e1 : (0 : Int) ≤ (i : Int) := by omega
  have e2 : (i : Int) < 8 := by omega
  obtain ⟨q, hq, hs⟩ : ∃ q, Tryz.prog.info? 164 = some q ∧ q.size = 6 := by
    have := infoNode
    cases h : Tryz.prog.info? 164 with
    | none => rw [h] at this; simp at this
    | some q => rw [h] at this; exact ⟨q, rfl, by simpa using this⟩
  have hg := nds_get N 8 i hi
  simp [Instr.index, asIntOf, run_underlying Tryz.underlying165, e1, e2, sizeOf, typeInfo, hq, hs, part]
  rw [if_pos hi, hg]
  rfl

theorem compact_len (zs : List Int) : (Lib.compact zs).length = zs.length ↔ ∀ j, j < zs.length → Lib.keeps zs.toArray j = true := by
  unfold Lib.compact Lib.compactUpTo
  rw [List.length_map]
  constructor
  · intro h j hj
    have := List.length_filter_eq_length_iff.1 (h.trans (List.length_range (n := zs.length)).symm) j (List.mem_range.2 hj)
    exact this
  · intro h
    rw [List.filter_eq_self.2 fun j hj => h j (List.mem_range.1 hj), List.length_range]

theorem keeps_iff (zs : List Int) (j : Nat) (hj : j < zs.length) : Lib.keeps zs.toArray j = true ↔ (j = 0 ∨ zs[j] ≠ zs[j - 1]'(by omega)) := by
  have e1 : zs.toArray[j]! = zs[j] := by simp [hj]
  have e2 : zs.toArray[j - 1]! = zs[j - 1]'(by omega) := by
    have : j - 1 < zs.length := by omega
    simp [this]
  unfold Lib.keeps
  rw [e1, e2]
  simp

theorem apart_iff (zs : List Int) : (Lib.compact (srt zs)).length = zs.length ↔ zs.Nodup := by
  rw [← srt_length zs, compact_len, ← (srt_perm zs).nodup_iff]
  have hs := List.pairwise_iff_getElem.1 (srt_sorted zs)
  constructor
  · intro h
    refine List.pairwise_iff_getElem.2 fun i j hi hj hij => ?_
    have hk := (keeps_iff (srt zs) j hj).1 (h j hj)
    rcases hk with hk | hk
    · omega
    · have h1 : (srt zs)[j - 1]'(by omega) ≤ (srt zs)[j] := hs (j - 1) j (by omega) hj (by omega)
      have h2 : (srt zs)[i] ≤ (srt zs)[j - 1]'(by omega) := by
        by_cases e : i = j - 1
        · subst e
          exact Int.le_refl _
        · exact hs i (j - 1) hi (by omega) (by omega)
      omega
  · intro h j hj
    refine (keeps_iff (srt zs) j hj).2 ?_
    by_cases h0 : j = 0
    · exact Or.inl h0
    · right
      have := List.pairwise_iff_getElem.1 h (j - 1) j (by omega) hj (by omega)
      exact fun e => this e.symm

/-- 'list = append(list, others...)', and where the new list lies. -/
theorem append_rows3 {ops : Array Oper} {rest : List Oper} {o : Oper} {A : Act} {Q : Exit → Act → World → Prop} {base g n cap : Nat} {zs : List Int} (hgd : o.guard = none) (sl x : Operand)
    (ho : o.op = .call { callee := .builtin .append, args := #[sl, x], argTypes := #[24, 24] })
    (hbuf : IBuf base w (some ⟨g, 0, none⟩) n cap zs) (ax : Option Addr) (cx : Nat) (xs : List Int) (hs : A.eval sl = .slice (some ⟨g, 0, none⟩) n cap) (hx : A.eval x = .slice ax xs.length cx) (hR : P0.Row w ax xs) (hlen : n + xs.length ≤ 4194304) (hb : base ≤ w.heap.size)
    (h : ∀ g' cap' w', IBuf base w' (some ⟨g', 0, none⟩) (n + xs.length) cap' (zs ++ xs) → Below base w w' → wpList Tryz.prog ops Q rest (A.put o.dst (.slice (some ⟨g', 0, none⟩) (n + xs.length) cap')) w') : wpList Tryz.prog ops Q (o :: rest) A w := by
  obtain ⟨i0, hi, hz0, hz1, hz2⟩ := info_parts I2.info3
  by_cases h0 : xs = []
  · subst h0
    refine Lib.wpList_append_run _ hgd sl x 24 24 ho _ _ hs hx _ _ (Q1.run_append_none w 24 _ 3 i0 Tryz.underlying24 hi _ n cap hbuf.fits ax cx) ?_
    exact h g cap w (by rw [List.append_nil]; exact hbuf) (Below.refl _ _)
  · rcases hR with hR | ⟨b, off, rfl, hb2, hc⟩
    · exact absurd hR h0
    · have hm : 0 < xs.length := List.length_pos_iff.2 h0
      refine wpList_append_lies _ hgd sl x 24 ho base 3 i0 (.int .i64 0) 1 8 Tryz.underlying24 hi hz0 hz1 hz2 rfl (by omega) _ n _ hs hbuf.2 ⟨b, off, none⟩ xs.length cx (ints xs) hx (by simp) ?_ (Q1.ints_one xs) hm (by unfold maxLen; omega) (by omega) hb _ rfl ?_
      · intro j u hj
        have hj' : j < xs.length := by
          have := (List.getElem?_eq_some_iff.1 hj).1
          simpa using this
        rw [B0.add_off, hc j hj', P0.getD_get _ _ hj', ← hj]
        simp [hj']
      · intro g' cap' w' ho' hg' _ _
        refine h g' cap' w' ⟨by rw [hbuf.1]; simp, ?_⟩ ?_
        · rw [show ints (zs ++ xs) = ints zs ++ ints xs by simp]
          exact ho'
        · exact F0.below_grown (Below.refl _ _) hg' (J0.own_block hbuf) hb
end Go.Proofs.YtdljajjgppcjpaaGreat.TW

/- The contracts of the tree's pages and pagesApart. -/
namespace Go.Proofs.YtdljajjgppcjpaaGreat.TW
open Go.ChangeShapes Go.WideShapes Go.ChangeAt Go.RowKit
open Go.Sort (Holds putRow grow)
set_option linter.unusedVariables false
set_option linter.unusedSimpArgs false
set_option maxRecDepth 10000
variable {B : Nat} {N : Nat → Nd} {F : Nat → Nat} {P : Nat → ByteArray} {w W W' : World} {Z : Nat → List Int}
open J0 (IBuf Own)
open I2 (ints)

/-- The rows of the nodes' pages. -/
structure Ps (N : Nat → Nd) (Z : Nat → List Int) (W : World) : Prop where
  n : ∀ i, i < 8 → (N i).n = (Z i).length
  row : ∀ i, i < 8 → P0.Row W (N i).a (Z i)
  few : ∀ i, (Z i).length ≤ 12
theorem Ps.below (h : Ps N Z W) (hb : Below W.heap.size W W') : Ps N Z W' := ⟨h.n, fun i hi => (h.row i hi).below hb, h.few⟩

set_option maxHeartbeats 2000000 in
theorem pages (w : World) (hT : Tb B N F P w) (hZ : Ps N Z w) :
    Calls Tryz.prog 100 #[.pointer (some ⟨B, 0, none⟩)] w fun e w' => ∃ g c, e = .returned (.slice (some ⟨g, 0, none⟩) (cat Z 8).length c) ∧ (cat Z 8).length ≤ c ∧ w.heap.size ≤ g ∧ K0.Blk g (ints (srt (cat Z 8))) w' ∧ Below w.heap.size w w' := by
  have hr := World.rangeAt_alloc hT.range (.cells #[] 3)
  have hn48 : (nds N 8).length = 48 := nds_length N 8
  have hix := fun i hi W => run_node N i hi W
  obtain ⟨C, hC⟩ : ∃ C, (nds N 8).toArray = C := ⟨_, rfl⟩
  have HC : Hid ((nds N 8).toArray = C) := hC
  rw [hC] at hix
  have HX : Hid (∀ i : Nat, i < 8 → ∀ W, (Instr.index 165 (.agg C) (.int .i64 (i : Int))).run Tryz.prog W = .ok (.agg #[.int .i64 (N i).k, .int .i64 (N i).o, .int .i64 (N i).s, .slice (N i).a (N i).n (N i).c, .string (N i).x, .slice (N i).ae (N i).ne (N i).ce]) W) := hix
  have b0 := J0.ibuf_made (base := w.heap.size) w (Nat.le_refl _)
  have l0 := K0.below_new w (.cells #[] 3)
  have hlen := cat_len hZ.few
  clear hC hix
  go_enter Tryz.func100, Tryz.ntmps100
  go_wp2_with (refine wpList_load_mid rfl 165 (.tmp 9) rfl B 0 rfl _ _ hr Tryz.underlying165 rfl (by rw [infoNodes, hn48]) ?_; rw [HC.out])
  clear hr
  go_loopw [3, 11] (fun v i w' => ∃ (k n c g : Nat), k ≤ 8 ∧ i = .int .i64 k ∧ v = .slice (some ⟨g, 0, none⟩) n c ∧ IBuf w.heap.size w' (some ⟨g, 0, none⟩) n c (cat Z k) ∧ Below w.heap.size w w') (fun _ i _ => 8 - (intOf i).toNat)
  case atStart => exact ⟨0, 0, 0, _, Nat.zero_le _, rfl, rfl, b0, l0⟩
  case round =>
    obtain ⟨k, n, c, g, hk, rfl, rfl, hbuf, hbel⟩ := hrel
    clear b0 l0
    by_cases hlt : k < 8
    · have hx := HX.out k hlt
      have hpn := hZ.n k hlt
      have hrow := (hZ.row k hlt).below (hbel)
      have e1 : (0 : Int) ≤ (k : Int) := by omega
      have e2 : (k : Int) < 8 := by omega
      have hnl : n ≤ 96 := by
        have := hlen k
        rw [hbuf.1]
        omega
      have hfew := hZ.few k
      have HS : Hid (cat Z k ++ Z k = cat Z (k + 1)) := rfl
      obtain ⟨zk, hzk⟩ : ∃ zk, Z k = zk := ⟨_, rfl⟩
      rw [hzk] at hpn hrow hfew HS
      obtain ⟨d, hd⟩ : ∃ d, N k = d := ⟨_, rfl⟩
      rw [hd] at hx hpn hrow
      rw [hpn] at hx
      clear hzk hd hpn
      have nb := K0.blk_new d.vals wr 164
      have nl := K0.below_new wr (.cells #[.int .i64 d.k, .int .i64 d.o, .int .i64 d.s, .slice d.a zk.length d.c, .string d.x, .slice d.ae d.ne d.ce] 164)
      have hbuf1 := hbuf.below nl
      have hrow1 := hrow.below nl
      have hbel1 := hbel.trans (nl.mono hbel.size)
      have c3 : (wr.alloc (.cells #[.int .i64 d.k, .int .i64 d.o, .int .i64 d.s, .slice d.a zk.length d.c, .string d.x, .slice d.ae d.ne d.ce] 164)).cell? ⟨wr.heap.size, 3, none⟩ = some (.slice d.a zk.length d.c) := (K0.blk_new [.int .i64 d.k, .int .i64 d.o, .int .i64 d.s, .slice d.a zk.length d.c, .string d.x, .slice d.ae d.ne d.ce] wr 164).cell 3 (by simp)
      go_wp2_with (at_builtin; refine append_rows3 rfl (.tmp 14) (.tmp 17) rfl hbuf1 _ _ zk (by rfl) (by rfl) hrow1 (by omega) hbel1.size ?_; intro g2 c2 w2 bf2 bl2)
      go_roundw
      case rel => exact ⟨k + 1, n + zk.length, c2, g2, by omega, by go_num, rfl, by rw [← HS.out]; exact bf2, hbel1.trans bl2⟩
      case measure => simp [intOf]; omega
    · obtain rfl : k = 8 := by omega
      have hn : n = (cat Z 8).length := hbuf.1
      have hc8 := hlen 8
      subst hn
      have hlt' := hbuf.2.lt g rfl
      have hH : K0.Blk g (ints (cat Z 8)) wr := by
        rcases hbuf.own with h0 | ⟨g', e, _, hk'⟩
        · rw [h0]
          exact ⟨fun j hj => by simp at hj, fun j hj => by simp at hj, hlt'.2⟩
        · cases e
          exact hk'
      have hsort := Tryz.slices_Sort_int g 0 c (cat Z 8) wr (holds_of hH) hlt'.2 (by omega)
      have HB : Hid (K0.Blk g (ints (cat Z 8)) wr ∧ IBuf w.heap.size wr (some ⟨g, 0, none⟩) (cat Z 8).length c (cat Z 8)) := ⟨hH, hbuf⟩
      clear hbuf hH hZ hT HX HC
      go_wp2_with (go_at_call 105; refine hsort.mono ?_; rintro e w7 ⟨rfl, m7, os7, hw7⟩)
      go_ret
      subst hw7
      exact ⟨g, c, rfl, HB.out.2.fits, hlt'.1, sorted_blk HB.out.1 (srt_length _), hbel.trans (sorted_below hlt'.1 hbel.size)⟩
end Go.Proofs.YtdljajjgppcjpaaGreat.TW
