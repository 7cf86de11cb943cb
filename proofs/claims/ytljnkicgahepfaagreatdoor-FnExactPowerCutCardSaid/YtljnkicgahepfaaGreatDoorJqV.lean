/- Joined texts: plain facts and contracts. -/
import Derived.Test.YtljnkicgahepfaaGreatDoorJqU
import Derived.Test.YtljnkicgahepfaaGreatDoorJqA
import Derived.Test.YtljnkicgahepfaaGreatDoorRows
import Derived.ProofKit
import Derived.Lib.BufferWrite
import Derived.Maps.AppendAt
import Derived.Test.YtljnkicgahepfaaGreatDoorJqN
import Derived.Maps.OwnSet
import Derived.Deep.RegionLaw
import Derived.Deep.LoopGhost
import Derived.Deep.RegionHeld3
import Derived.WalkSmall
import Derived.OneCell
set_option linter.unusedVariables false
set_option linter.unusedSimpArgs false
set_option maxRecDepth 10000
namespace Go.Proofs.YtljnkicgahepfaaGreatDoor.TW
open Go.ChangeShapes Go.WideShapes Go.ChangeAt Go.RowKit
structure Nd where
 k : Int
 o : Int
 s : Int
 a : Option Addr
 n : Nat
 c : Nat
 x : ByteArray
 ae : Option Addr
 ne : Nat
 ce : Nat
def Nd.vals (d : Nd) : List Value := [.int .i64 d.k, .int .i64 d.o, .int .i64 d.s, .slice d.a d.n d.c, .string d.x, .slice d.ae d.ne d.ce]
theorem Nd.vals_length (d : Nd) : d.vals.length = 6 := rfl
structure Tb (B : Nat) (N : Nat → Nd) (F : Nat → Nat) (P : Nat → ByteArray) (W : World) : Prop where
 node : ∀ i, i < 8 → ∀ j (h : j < (N i).vals.length), W.cell? ⟨B, i * 6 + j, none⟩ = some (N i).vals[j]
 fnd : ∀ i, i < 8 → W.cell? ⟨B, 48 + i, none⟩ = some (.int .i64 (F i : Int))
 pth : ∀ i, i < 8 → W.cell? ⟨B, 56 + i, none⟩ = some (.string (P i))
 free : ∀ j, j < 64 → W.frozen? ⟨B, j, none⟩ = false
 lt : B < W.heap.size
variable {B : Nat} {N : Nat → Nd} {F : Nat → Nat} {P : Nat → ByteArray} {w W W' : World}
theorem Tb.below {b : Nat} (h : Tb B N F P W) (hb : Below b W W') (hB : B < b) : Tb B N F P W' :=
 ⟨fun i hi j hj => (hb.cell (p := ⟨B, i * 6 + j, none⟩) hB).trans (h.node i hi j hj), fun i hi => (hb.cell (p := ⟨B, 48 + i, none⟩) hB).trans (h.fnd i hi), fun i hi => (hb.cell (p := ⟨B, 56 + i, none⟩) hB).trans (h.pth i hi), fun j hj => (hb.frozen (p := ⟨B, j, none⟩) hB).trans (h.free j hj), Nat.lt_of_lt_of_le h.lt hb.size⟩
theorem Tb.drew (h : Tb B N F P W) : Tb B N F P W.drew := ⟨h.node, h.fnd, h.pth, h.free, h.lt⟩
theorem Tb.drewN (h : Tb B N F P W) (n : Nat) : Tb B N F P (W.drewN n) := ⟨h.node, h.fnd, h.pth, h.free, h.lt⟩
theorem cell_far {B j k : Nat} (hne : j ≠ k) (v : Value) : (W.setCell ⟨B, j, none⟩ v).cell? ⟨B, k, none⟩ = W.cell? ⟨B, k, none⟩ := World.cell?_setCell_other _ _ _ _ (fun x => hne (Addr.mk.inj x).2.1)
theorem Tb.setF (h : Tb B N F P W) {i : Nat} (hi : i < 8) (n : Nat) : Tb B N (fun y => if y = i then n else F y) P (W.setCell ⟨B, 48 + i, none⟩ (.int .i64 (n : Int))) := by
 refine ⟨fun k hk j hj => ?_, fun k hk => ?_, fun k hk => ?_, fun j hj => by rw [World.frozen?_setCell]; exact h.free j hj, by have := h.lt; simpa [World.setCell] using this⟩
 ·have hj' : j < 6 := hj
  rw [cell_far (by omega)]
  exact h.node k hk j hj
 ·by_cases e : k = i
  ·subst e
   rw [World.cell?_setCell_same _ _ _ (h.fnd k hk), if_pos rfl]
  ·rw [cell_far (by omega), h.fnd k hk, if_neg e]
 ·rw [cell_far (by omega)]
  exact h.pth k hk
theorem Tb.setP (h : Tb B N F P W) {i : Nat} (hi : i < 8) (p : ByteArray) : Tb B N F (fun y => if y = i then p else P y) (W.setCell ⟨B, 56 + i, none⟩ (.string p)) := by
 refine ⟨fun k hk j hj => ?_, fun k hk => ?_, fun k hk => ?_, fun j hj => by rw [World.frozen?_setCell]; exact h.free j hj, by have := h.lt; simpa [World.setCell] using this⟩
 ·have hj' : j < 6 := hj
  rw [cell_far (by omega)]
  exact h.node k hk j hj
 ·rw [cell_far (by omega)]
  exact h.fnd k hk
 ·by_cases e : k = i
  ·subst e
   rw [World.cell?_setCell_same _ _ _ (h.pth k hk), if_pos rfl]
  ·rw [cell_far (by omega), h.pth k hk, if_neg e]
theorem Tb.kind (h : Tb B N F P W) {i : Nat} (hi : i < 8) : W.cell? ⟨B, i * 6, none⟩ = some (.int .i64 (N i).k) := h.node i hi 0 (by simp [Nd.vals])
theorem Tb.ents (h : Tb B N F P W) {i : Nat} (hi : i < 8) : W.cell? ⟨B, i * 6 + 5, none⟩ = some (.slice (N i).ae (N i).ne (N i).ce) := h.node i hi 5 (by simp [Nd.vals])
def onceTo (F : Nat → Nat) (K : Nat → Int) (k : Nat) : Prop := ∀ i, 0 < i → i < k → TR.once F K i = true
theorem onceTo_bad {F : Nat → Nat} {K : Nat → Int} {i : Nat} (h0 : 0 < i) (h8 : i < 8) (h : TR.once F K i = false) : TR.onceAll F K = false := by
 cases h' : TR.onceAll F K with
 | false => rfl
 | true => rw [TR.onceAll_iff.1 h' i h0 h8] at h; cases h
theorem ret_bool {a b : Bool} (h : a = b) : Ending.returned (.bool a) = .returned (.bool b) := by rw [h]
set_option maxHeartbeats 1000000 in
theorem foundOnce (w : World) (hT : Tb B N F P w) (hF : ∀ i, i < 8 → F i ≤ 281474976710656) :
  Calls Tryz.prog 136 #[.pointer (some ⟨B, 0, none⟩)] w fun e w' => e = .returned (.bool (TR.onceAll F (fun i => (N i).k))) ∧ w' = w := by
 go_enter Tryz.func136, Tryz.ntmps136
 go_wp2
 go_loop [3] (fun i => ∃ k : Nat, 0 < k ∧ k ≤ 8 ∧ onceTo F (fun i => (N i).k) k ∧ i = .int .i64 k) (fun i => 8 - (intOf i).toNat)
 case atStart => exact ⟨1, by decide, by decide, fun i h0 h1 => by omega, rfl⟩
 case round =>
  obtain ⟨k, hk0, hk, hok, rfl⟩ := hrel
  by_cases hlt : k < 8
  ·have x1 := hT.kind hlt
   have x2 := hT.fnd k hlt
   have hF' := hF k hlt
   have e1 : (0 : Int) ≤ (k : Int) := by omega
   have e2 : (k : Int) < 8 := by omega
   have hon : TR.once F (fun i => (N i).k) k = decide (F k = if (N k).k = 0 then 0 else 1) := rfl
   obtain ⟨f, ef⟩ : ∃ f, F k = f := ⟨_, rfl⟩
   obtain ⟨q, eq⟩ : ∃ q, (N k).k = q := ⟨_, rfl⟩
   rw [ef] at x2 hon hF'
   rw [eq] at x1 hon
   have HY : Hid (TR.once F (fun i => (N i).k) k = true → onceTo F (fun i => (N i).k) (k + 1)) := fun h i h0 h1 => by
    by_cases e : i = k
    ·subst e
     exact h
    ·exact hok i h0 (by omega)
   have HN : Hid (TR.once F (fun i => (N i).k) k = false → TR.onceAll F (fun i => (N i).k) = false) := fun h => onceTo_bad hk0 hlt h
   clear hok hT hF ef eq
   by_cases hq : q = 0
   ·rw [if_pos hq] at hon
    subst hq
    by_cases hf : f = 0
    ·have HS := HY.out (by rw [hon]; simpa using hf)
     have HS' : Hid (onceTo F (fun i => (N i).k) (k + 1)) := HS
     have g1 : ((f : Int) != 0) = false := by simpa using hf
     clear HS hon HN HY
     go_wp2
     go_round
     case rel => exact ⟨k + 1, by omega, by omega, HS'.out, by go_num⟩
     case measure => simp [intOf]; omega
    ·have HS : Hid (TR.onceAll F (fun i => (N i).k) = false) := HN.out (by rw [hon]; simpa using hf)
     have g1 : ((f : Int) != 0) = true := by simp; omega
     clear hon HN HY
     go_wp2
     go_ret
     exact ⟨ret_bool HS.out.symm, rfl⟩
   ·rw [if_neg hq] at hon
    have g0 : (q == 0) = false := by simpa using hq
    by_cases hf : f = 1
    ·have HS := HY.out (by rw [hon]; simpa using hf)
     have HS' : Hid (onceTo F (fun i => (N i).k) (k + 1)) := HS
     have g1 : ((f : Int) != 1) = false := by simp; omega
     clear HS hon HN HY
     go_wp2
     go_round
     case rel => exact ⟨k + 1, by omega, by omega, HS'.out, by go_num⟩
     case measure => simp [intOf]; omega
    ·have HS : Hid (TR.onceAll F (fun i => (N i).k) = false) := HN.out (by rw [hon]; simpa using hf)
     have g1 : ((f : Int) != 1) = true := by simp; omega
     clear hon HN HY
     go_wp2
     go_ret
     exact ⟨ret_bool HS.out.symm, rfl⟩
  ·obtain rfl : k = 8 := by omega
   have HR : Hid (TR.onceAll F (fun i => (N i).k) = true) := TR.onceAll_iff.2 fun i h0 h8 => hok i h0 h8
   clear hok hT hF
   go_wp2
   go_ret
   exact ⟨ret_bool HR.out.symm, rfl⟩
end Go.Proofs.YtljnkicgahepfaaGreatDoor.TW
namespace Go.Proofs.YtljnkicgahepfaaGreatDoor.TW
open Go.ChangeShapes Go.WideShapes Go.ChangeAt Go.RowKit
variable {B : Nat} {N : Nat → Nd} {F : Nat → Nat} {P : Nat → ByteArray} {w W W' : World}
theorem grown_drew {a b : World} {row : Option Nat} (h : a.grownBy b row) : a.grownBy b.drew row := ⟨h.os, h.tape, h.output, h.size, h.block⟩
set_option maxHeartbeats 1000000 in
theorem find (d x : Nat) (nm : ByteArray) (w : World) (hT : Tb B N F P w) (hd : d < 8) (hx : x < 8) (hF : F x < 281474976710656) (hpz : (P d).size ≤ 281474976710656) (hnz : nm.size ≤ 281474976710656) :
  Calls Tryz.prog 191 #[.pointer (some ⟨B, 0, none⟩), .int .i64 (d : Int), .agg #[.int .i64 (x : Int), .string nm]] w fun e w' => e = .returned (.tuple #[]) ∧ Tb B N (TR.upF F x) (TR.upP P x (P d ++ TR.sep d ++ nm)) w' ∧ w.grownBy w' (some B) := by
 have e1 : (0 : Int) ≤ (x : Int) := by omega
 have e2 : (x : Int) < 8 := by omega
 have e3 : (0 : Int) ≤ (d : Int) := by omega
 have e4 : (d : Int) < 8 := by omega
 have hn := K0.below_new w (.cells #[.int .i64 (x : Int), .string nm] 188)
 have b0 := K0.blk_new [.int .i64 (x : Int), .string nm] w 188
 have t0 := hT.below hn hT.lt
 have c0 := b0.c0
 have c1 := b0.c1
 have x0 := t0.fnd x hx
 have y0 := t0.free (48 + x) (by omega)
 have z0 := t0.pth x hx
 have g0 : w.grownBy (w.alloc (.cells #[.int .i64 (x : Int), .string nm] 188)) (some B) := World.grownBy_alloc _ _ _
 have hw : IntKind.i64.wrap ((F x : Int) + 1) = (F x : Int) + 1 := by rw [IntKind.wrap_i64]; omega
 have t1 := t0.setF hx (F x + 1)
 have eF : (fun y => if y = x then F x + 1 else F y) = TR.upF F x := by
  funext y
  unfold TR.upF
  by_cases e : y = x
  ·rw [if_pos e, if_pos e, e]
  ·rw [if_neg e, if_neg e]
 rw [eF] at t1
 have eC : (((F x + 1 : Nat)) : Int) = (F x : Int) + 1 := by omega
 rw [eC] at t1
 have g1 := g0.trans (Lib.grownBy_setCell _ B (48 + x) (.int .i64 ((F x : Int) + 1)))
 have b1 := b0.setOther (B' := B) (by have := hT.lt; omega) (48 + x) (.int .i64 ((F x : Int) + 1))
 have d0 := b1.c0
 have d1 := b1.c1
 have x1 := t1.pth d hd
 have y1 := t1.free (56 + x) (by omega)
 have t2 := t1.setP hx (P d ++ TR.sep d ++ nm)
 have g2 := g1.trans (Lib.grownBy_setCell _ B (56 + x) (.string (P d ++ TR.sep d ++ nm)))
 have HD : Hid (Tb B N (TR.upF F x) (TR.upP P x (P d ++ TR.sep d ++ nm)) ((((w.alloc (.cells #[.int .i64 (x : Int), .string nm] 188)).setCell ⟨B, 48 + x, none⟩ (.int .i64 ((F x : Int) + 1)))).setCell ⟨B, 56 + x, none⟩ (.string (P d ++ TR.sep d ++ nm))) ∧ w.grownBy ((((w.alloc (.cells #[.int .i64 (x : Int), .string nm] 188)).setCell ⟨B, 48 + x, none⟩ (.int .i64 ((F x : Int) + 1)))).setCell ⟨B, 56 + x, none⟩ (.string (P d ++ TR.sep d ++ nm))) (some B)) := ⟨t2, g2⟩
 clear t2 g2 t1 g1 b1 t0 g0 b0 hT hn eF eC
 obtain ⟨f, hf⟩ : ∃ f, F x = f := ⟨_, rfl⟩
 obtain ⟨p, hp⟩ : ∃ p, P d = p := ⟨_, rfl⟩
 have HF : Hid (F x = f) := hf
 have HP : Hid (P d = p) := hp
 rw [hf] at x0 hw d0 d1 x1 y1 HD hF
 rw [hp] at x1 HD hpz ⊢
 have s1 : ¬ (9223372036854775807 < p.size) := by omega
 have s2 : ¬ (9223372036854775807 < p.size + 1) := by omega
 have s3 : ¬ (9223372036854775807 < p.size + nm.size) := by omega
 have s4 : ¬ (9223372036854775807 < p.size + 1 + nm.size) := by omega
 clear hf hp
 by_cases h0 : d = 0
 ·subst h0
  rw [show TR.sep 0 = ⟨#[]⟩ from rfl] at HD ⊢
  go_enter Tryz.func191, Tryz.ntmps191
  go_wp2
  go_region
  go_wp2
  go_region
  go_wp2
  refine bodyPost_end (v := .tuple #[]) (by simp [results, Tryz.results191, go_sem]) rfl ?_
  exact ⟨rfl, HD.out.1.drew.drew, grown_drew (grown_drew HD.out.2)⟩
 ·have h0' : ((d : Int) == 0) = false := by simpa using h0
  rw [show TR.sep d = ⟨#[47]⟩ from if_neg h0] at HD ⊢
  go_enter Tryz.func191, Tryz.ntmps191
  go_wp2
  go_region
  go_wp2
  go_region
  go_wp2
  refine bodyPost_end (v := .tuple #[]) (by simp [results, Tryz.results191, go_sem]) rfl ?_
  exact ⟨rfl, HD.out.1.drew.drew, grown_drew (grown_drew HD.out.2)⟩
end Go.Proofs.YtljnkicgahepfaaGreatDoor.TW
namespace Go.Proofs.YtljnkicgahepfaaGreatDoor.TW
open Go.ChangeShapes Go.WideShapes Go.ChangeAt Go.RowKit
variable {base g n cap : Nat} {w W W' : World} {d k x : Nat} {R S : List (Nat × Nat)}
def fl : List (Nat × Nat) → List Value
 | [] => []
 | q :: r => .int .i64 (q.1 : Int) :: .int .i64 (q.2 : Int) :: fl r
theorem fl_length : ∀ l : List (Nat × Nat), (fl l).length = l.length * 2
 | [] => rfl
 | q :: r => by simp [fl, fl_length r]; omega
theorem fl_append : ∀ l m : List (Nat × Nat), fl (l ++ m) = fl l ++ fl m
 | [], m => rfl
 | q :: r, m => by simp [fl, fl_append r m]
theorem fl_top (d k : Nat) (R : List (Nat × Nat)) : fl ((d, k) :: R).reverse = fl R.reverse ++ [.int .i64 (d : Int), .int .i64 (k : Int)] := by
 rw [List.reverse_cons, fl_append]
 rfl
theorem fl_rlen (R : List (Nat × Nat)) : (fl R.reverse).length = R.length * 2 := by rw [fl_length, List.length_reverse]
def SBuf (base : Nat) (w : World) (g n cap : Nat) (S : List (Nat × Nat)) : Prop := n = S.length ∧ w.ownsRow base 219 2 (.slice (some ⟨g, 0, none⟩) n cap) n (fl S.reverse)
theorem SBuf.kept {row : Option Nat} (h : SBuf base w g n cap S) (hg : w.grownBy W row) (hne : some g ≠ row) : SBuf base W g n cap S := ⟨h.1, h.2.kept hg (Or.inr hne)⟩
theorem SBuf.lt (h : SBuf base w g n cap S) : base ≤ g ∧ g < w.heap.size := h.2.lt g rfl
theorem SBuf.drew (h : SBuf base w g n cap S) : SBuf base w.drew g n cap S := h
theorem SBuf.ino (h : SBuf base w g n cap ((d, k) :: R)) : w.cell? ⟨g, R.length * 2, none⟩ = some (.int .i64 (d : Int)) := by
 have hn : n = R.length + 1 := h.1
 rw [h.2.cellAt (R.length * 2) (by omega), fl_top, List.getElem?_append_right (by rw [fl_rlen]; exact Nat.le_refl _), fl_rlen, Nat.sub_self]
 rfl
theorem SBuf.next (h : SBuf base w g n cap ((d, k) :: R)) : w.cell? ⟨g, R.length * 2 + 1, none⟩ = some (.int .i64 (k : Int)) := by
 have hn : n = R.length + 1 := h.1
 rw [h.2.cellAt (R.length * 2 + 1) (by omega), fl_top, List.getElem?_append_right (by rw [fl_rlen]; omega), fl_rlen, show R.length * 2 + 1 - R.length * 2 = 1 by omega]
 rfl
theorem SBuf.free (h : SBuf base w g n cap S) (j : Nat) : w.frozen? ⟨g, j, none⟩ = false := h.2.frozenAt j
theorem SBuf.put (h : SBuf base w g n cap ((d, k) :: R)) (k' : Nat) : SBuf base (w.setCell ⟨g, R.length * 2 + 1, none⟩ (.int .i64 (k' : Int))) g n cap ((d, k') :: R) := by
 have := (h.2.stored (R.length * 2 + 1) (.int .i64 (k' : Int))).1
 rw [fl_top, List.set_append_right _ _ (by rw [fl_rlen]; omega), fl_rlen, show R.length * 2 + 1 - R.length * 2 = 1 by omega] at this
 refine ⟨h.1, ?_⟩
 rw [fl_top]
 exact this
theorem SBuf.pop (h : SBuf base w g n cap ((d, k) :: R)) : SBuf base w g R.length cap R := by
 have hn : n = R.length + 1 := h.1
 refine ⟨rfl, fl_rlen R, ?_⟩
 rcases h.2.2 with ⟨h', _⟩ | ⟨g', cap', cur, h', hb, hg, hnc, hcm, hcs, ht⟩
 ·cases h'
 ·cases h'
  refine Or.inr ⟨g, cap, cur, rfl, hb, hg, by omega, hcm, hcs, ?_⟩
  have := congrArg (List.take (R.length * 2)) ht
  rw [List.take_take, fl_top, List.take_left' (fl_rlen R), Nat.min_eq_left (by omega)] at this
  exact this
theorem SBuf.room (h : SBuf base w g n cap S) : n ≤ cap := by
 rcases h.2.2 with ⟨h', _⟩ | ⟨g', cap', cur, h', hb, hg, hnc, hcm, hcs, ht⟩
 ·cases h'
 ·cases h'
  exact hnc
theorem sbuf_new (w : World) (hb : base ≤ w.heap.size) : SBuf base (w.alloc (.cells #[.int .i64 0, .int .i64 0] 219)) w.heap.size 1 1 [(0, 0)] :=
 ⟨rfl, World.ownsRow_lit w #[.int .i64 0, .int .i64 0] 1 hb (by unfold maxLen; omega) rfl⟩
theorem infoStep : (Tryz.prog.info? 219).map (fun i => (i.zero, i.size, i.bytes)) = some (some (.agg #[.int .i64 0, .int .i64 0]), 2, 16) := by kernel_rfl
theorem one_step (u v : Int) : ∀ x ∈ [Value.int .i64 u, .int .i64 v], x.oneCell' = true := by
 intro x h
 simp at h
 rcases h with rfl | rfl <;> rfl
theorem append_step {ops : Array Oper} {rest : List Oper} {o : Oper} {A : Act} {Q : Exit → Act → World → Prop} (hgd : o.guard = none) (sl y : Operand)
  (ho : o.op = .call { callee := .builtin .append, args := #[sl, y], argTypes := #[220, 220] })
  (hbuf : SBuf base w g n cap S) (x : Nat) (hs : A.eval sl = .slice (some ⟨g, 0, none⟩) n cap) (hx : A.eval y = .slice (some ⟨w.heap.size, 0, none⟩) 1 1) (hlen : n + 1 ≤ 1048576) (hb : base ≤ w.heap.size)
  (h : ∀ g' cap' w', SBuf base w' g' (n + 1) cap' ((x, 0) :: S) → w.grownBy w' (some g) → (g' = g ∨ w.heap.size ≤ g') → wpList Tryz.prog ops Q rest (A.put o.dst (.slice (some ⟨g', 0, none⟩) (n + 1) cap')) w') : wpList Tryz.prog ops Q (o :: rest) A (w.alloc (.cells #[.int .i64 (x : Int), .int .i64 0] 219)) := by
 obtain ⟨i0, hi, hz0, hz1, hz2⟩ := info_parts infoStep
 have hb2 := hbuf.2.alloc (.cells #[.int .i64 (x : Int), .int .i64 0] 219)
 refine wpList_append_lies _ hgd sl y 220 ho base 219 i0 (.agg #[.int .i64 0, .int .i64 0]) 2 16 Tryz.underlying220 hi hz0 hz1 hz2 rfl (by omega) _ n _ hs hb2 ⟨w.heap.size, 0, none⟩ 1 1 [.int .i64 (x : Int), .int .i64 0] hx rfl (World.news_of_block (heap_alloc_new w _)) (one_step (x : Int) 0) (by omega) (by unfold maxLen; omega) (by omega) (by simp; omega) _ rfl ?_
 intro g' cap' w' ho' hg' hl' _
 refine h g' cap' w' ⟨by rw [hbuf.1]; simp, ?_⟩ ((World.grownBy_alloc w _ _).trans hg') ?_
 ·rw [fl_top]
  exact ho'
 ·rcases hl' with e | e
  ·left
   have e' : g = g' := by simpa [Value.ownBlock] using e
   exact e'.symm
  ·right
   rw [e]
   simp
theorem keyed : Go.Maps.Keyed Tryz.prog 3 := Go.Maps.int_keyed Tryz.underlying3
theorem zeroI (w : World) : (zeroValue 3).run Tryz.prog w = .ok (.int .i64 0) w := by kernel_rfl
structure Met (bm m : Nat) (S : List (Nat × Nat)) (D : DataW Unit) (W : World) : Prop where
 own : W.ownsMap Tryz.prog 3 (plainElem (H := Unit) Tryz.prog 3) bm m D
 has : ∀ x : Nat, Maps.has D (.int .i64 (x : Int)) = TR.metIn S x
theorem Met.kept {bm m : Nat} {D : DataW Unit} {row : Option Nat} (h : Met bm m S D w) (hg : w.grownBy W row) (hne : some bm ≠ row) : Met bm m S D W := ⟨h.own.kept hg hne, h.has⟩
theorem Met.top {bm m : Nat} {D : DataW Unit} (h : Met bm m ((d, k) :: R) D w) (k' : Nat) : Met bm m ((d, k') :: R) D w := ⟨h.own, fun x => by rw [h.has x]; rfl⟩
theorem Met.lt {bm m : Nat} {D : DataW Unit} (h : Met bm m S D w) : bm < w.heap.size := by
 obtain ⟨es, clock, hb, _⟩ := h.own
 exact (Array.getElem?_eq_some_iff.1 hb).1
theorem metIn_cons (x k y : Nat) (S : List (Nat × Nat)) : TR.metIn ((x, k) :: S) y = ((x == y) || TR.metIn S y) := rfl
theorem key_ne {x y : Nat} (h : x ≠ y) : Lit.int .i64 (x : Int) ≠ Lit.int .i64 (y : Int) := by
 intro e
 injection e with _ e
 omega
theorem has_put {D : DataW Unit} (hD : Maps.IsMap D) (x : Nat) (v : DataW Unit) (h : ∀ y : Nat, Maps.has D (.int .i64 (y : Int)) = TR.metIn S y) (y : Nat) : Maps.has (D.put (.int .i64 (x : Int)) v) (.int .i64 (y : Int)) = TR.metIn ((x, 0) :: S) y := by
 rw [metIn_cons]
 by_cases e : x = y
 ·subst e
  rw [Maps.has_put_same (k := .int .i64 (x : Int)) hD trivial]
  simp
 ·rw [Maps.has_put_other (key_ne (fun e' => e e'.symm)), h y]
  simp [e]
theorem has_del {D : DataW Unit} (hnd : (((d, k) :: R).map (·.1)).Nodup) (h : ∀ y : Nat, Maps.has D (.int .i64 (y : Int)) = TR.metIn ((d, k) :: R) y) (y : Nat) : Maps.has (D.del (.int .i64 (d : Int))) (.int .i64 (y : Int)) = TR.metIn R y := by
 by_cases e : d = y
 ·subst e
  rw [Maps.has_del_same]
  cases hm : TR.metIn R d with
  | false => rfl
  | true =>
   exfalso
   rw [List.map_cons, List.nodup_cons] at hnd
   obtain ⟨q, hq, he⟩ := List.any_eq_true.1 hm
   exact hnd.1 (List.mem_map.2 ⟨q, hq, by simpa using he⟩)
 ·rw [Maps.has_del_other (key_ne (fun e' => e e'.symm)), h y, metIn_cons]
  simp [e]
theorem wf_nat (x : Nat) (h : x ≤ 1048576) : (Lit.int .i64 (x : Int)).wf = true := by
 simp [Lit.wf, IntKind.min, IntKind.max, IntKind.signed, IntKind.bits]
 omega
end Go.Proofs.YtljnkicgahepfaaGreatDoor.TW
namespace Go.Proofs.YtljnkicgahepfaaGreatDoor.HP
open Go.ChangeShapes Go.WideShapes Go.ChangeAt Go.RowKit
variable {w W W' : World} {base Bh g c : Nat} {l : List Rg}
def fr : List Rg → List Value
 | [] => []
 | r :: t => .int .i64 r.1 :: .int .i64 r.2 :: fr t
theorem fr_get : ∀ (l : List Rg) (i : Nat), i < l.length → (fr l)[i * 2]? = some (.int .i64 (at_ l i).1) ∧ (fr l)[i * 2 + 1]? = some (.int .i64 (at_ l i).2)
 | [], i, h => by simp at h
 | r :: t, 0, _ => by simp [fr, at_]
 | r :: t, i + 1, h => by
  have := fr_get t i (by simpa using h)
  have e : at_ (r :: t) (i + 1) = at_ t i := by simp [at_]
  rw [e, show (i + 1) * 2 = i * 2 + 1 + 1 by omega, show i * 2 + 1 + 1 + 1 = (i * 2 + 1) + 1 + 1 by omega]
  simpa [fr] using this
structure HS (base Bh g c : Nat) (l : List Rg) (W : World) : Prop where
 cell : W.cell? ⟨Bh, 0, none⟩ = some (.slice (some ⟨g, 0, none⟩) l.length c)
 free : W.frozen? ⟨Bh, 0, none⟩ = false
 buf : W.ownsRow base 141 2 (.slice (some ⟨g, 0, none⟩) l.length c) l.length (fr l)
 ne : g ≠ Bh
 lo : base ≤ Bh
 lt : Bh < W.heap.size
theorem HS.drewN (h : HS base Bh g c l W) (n : Nat) : HS base Bh g c l (W.drewN n) := ⟨h.cell, h.free, h.buf, h.ne, h.lo, h.lt⟩
theorem HS.drew (h : HS base Bh g c l W) : HS base Bh g c l W.drew := ⟨h.cell, h.free, h.buf, h.ne, h.lo, h.lt⟩
theorem HS.below (h : HS base Bh g c l W) (hb : Below W.heap.size W W') : HS base Bh g c l W' :=
 ⟨(hb.cell (p := ⟨Bh, 0, none⟩) h.lt).trans h.cell, (hb.frozen (p := ⟨Bh, 0, none⟩) h.lt).trans h.free, F0.owns_below h.buf hb, h.ne, h.lo, Nat.lt_of_lt_of_le h.lt hb.size⟩
theorem HS.get (h : HS base Bh g c l W) {i : Nat} (hi : i < l.length) : W.cell? ⟨g, i * 2, none⟩ = some (.int .i64 (at_ l i).1) ∧ W.cell? ⟨g, i * 2 + 1, none⟩ = some (.int .i64 (at_ l i).2) := by
 obtain ⟨h1, h2⟩ := fr_get l i hi
 exact ⟨(h.buf.cellAt (i * 2) (by omega)).trans h1, (h.buf.cellAt (i * 2 + 1) (by omega)).trans h2⟩
theorem HS.room (h : HS base Bh g c l W) : l.length ≤ c := by
 rcases h.buf.2 with ⟨h', _⟩ | ⟨g', cap', cur, h', hb, hg, hnc, hcm, hcs, ht⟩
 ·cases h'
 ·cases h'
  exact hnc
end Go.Proofs.YtljnkicgahepfaaGreatDoor.HP
namespace Go.Proofs.YtljnkicgahepfaaGreatDoor.HP
open Go.ChangeShapes Go.WideShapes Go.ChangeAt Go.RowKit
variable {w W W' : World} {base Bh g c : Nat} {l : List Rg}
structure Chg (Bh g g' : Nat) (w w' : World) : Prop where
 os : w'.os = w.os
 tape : w'.tape = w.tape
 output : w'.output = w.output
 size : w.heap.size ≤ w'.heap.size
 block : ∀ k, k < w.heap.size → k ≠ Bh → k ≠ g → w'.heap[k]? = w.heap[k]?
 loc : g' = g ∨ w.heap.size ≤ g'
theorem Chg.grown {g' : Nat} (h : Chg Bh g g' w W) (k : W.grownBy W' (some g')) : Chg Bh g g' w W' :=
 ⟨k.os.trans h.os, k.tape.trans h.tape, k.output.trans h.output, Nat.le_trans h.size k.size, fun j hj hb hg => by
  rw [k.block j (Nat.lt_of_lt_of_le hj h.size) (fun e => by
   have e' := Option.some.inj e
   rcases h.loc with q | q
   ·exact hg (e'.trans q)
   ·omega)]
  exact h.block j hj hb hg, h.loc⟩
theorem Chg.below {b g' : Nat} (h : Chg Bh g g' w W) (hB : b ≤ Bh) (hg : b ≤ g) (hs : b ≤ w.heap.size) : Below b w W :=
 ⟨h.os, h.tape, h.output, h.size, fun k hk => h.block k (by omega) (by omega) (by omega)⟩
theorem HS.head {g' c' : Nat} {l' : List Rg} {u : Value} {n' : Nat} (bf : W.ownsRow base 141 2 (.slice (some ⟨g', 0, none⟩) n' c') n' (fr l')) (hn : l'.length = n') (x : W.cell? ⟨Bh, 0, none⟩ = some u) (f : W.frozen? ⟨Bh, 0, none⟩ = false) (ne : g' ≠ Bh) (lo : base ≤ Bh) (lt : Bh < W.heap.size) : HS base Bh g' c' l' (W.setCell ⟨Bh, 0, none⟩ (.slice (some ⟨g', 0, none⟩) n' c')) := by
 subst hn
 refine ⟨World.cell?_setCell_same _ _ _ x, by rw [World.frozen?_setCell]; exact f, ownsRow_setCell_other bf (a := ⟨Bh, 0, none⟩) (fun e => ne (Option.some.inj e)) _, ne, lo, by simpa [World.setCell] using lt⟩
theorem Chg.head {g' : Nat} (h : w.grownBy W (some g)) (loc : g' = g ∨ w.heap.size ≤ g') (u : Value) : Chg Bh g g' w (W.setCell ⟨Bh, 0, none⟩ u) :=
 ⟨h.os, h.tape, h.output, Nat.le_trans h.size (by simp [World.setCell]), fun k hk hB hg => (heap_setCell_other W ⟨Bh, 0, none⟩ k u hB).trans (h.block k hk (fun e => hg (Option.some.inj e))), loc⟩
end Go.Proofs.YtljnkicgahepfaaGreatDoor.HP
namespace Go.Proofs.YtljnkicgahepfaaGreatDoor.HP
open Go.ChangeShapes Go.WideShapes Go.ChangeAt Go.RowKit
variable {w W W' : World} {base Bh g c : Nat} {l : List Rg}
theorem HS.grown {B : Nat} (h : HS base Bh g c l W) (hg : W.grownBy W' (some B)) (h1 : B ≠ Bh) (h2 : B ≠ g) : HS base Bh g c l W' :=
 ⟨(World.cell?_of_block (a := ⟨Bh, 0, none⟩) (hg.block Bh h.lt (fun e => h1 (Option.some.inj e).symm))).trans h.cell, (World.frozen?_of_block (a := ⟨Bh, 0, none⟩) (hg.block Bh h.lt (fun e => h1 (Option.some.inj e).symm))).trans h.free, h.buf.kept hg (Or.inr (fun e => h2 (Option.some.inj e).symm)), h.ne, h.lo, Nat.lt_of_lt_of_le h.lt hg.size⟩
end Go.Proofs.YtljnkicgahepfaaGreatDoor.HP
