/- Joined texts: plain facts and contracts. -/
import Derived.Test.YtpkmeknniajahaaGreatDoorJnO
import Derived.Test.YtpkmeknniajahaaGreatDoorJnP
import Derived.Deep.RegionLaw
import Derived.Deep.AppendLies
import Derived.Test.YtpkmeknniajahaaGreatDoorJnA
import Derived.Test.YtpkmeknniajahaaGreatDoorJnB
import Derived.Test.YtpkmeknniajahaaGreatDoorJnD
import Derived.Test.YtpkmeknniajahaaGreatDoorJnN
import Derived.Test.YtpkmeknniajahaaGreatDoorJnF
import Derived.Deep.RegionHeld3
set_option linter.unusedVariables false
set_option linter.unusedSimpArgs false
set_option maxRecDepth 10000
namespace Go.Proofs.YtpkmeknniajahaaGreatDoor.TS
open Go.ChangeShapes Go.WideShapes Go.ChangeAt Go.RowKit
variable {w W W' : World} {mem : ByteArray}
open J0 (IBuf Own)
open I2 (ints)
open TW (tK tZ tE cat)
theorem append_one {ops : Array Oper} {rest : List Oper} {o : Oper} {A : Act} {Q : Exit → Act → World → Prop} {base g n cap : Nat} {xs : List Value} (T e : TypeId) (z : Value) (bytes : Nat) (hu : Tryz.prog.underlying T = some (.slice e)) (hinfo : (Tryz.prog.info? e).map (fun i => (i.zero, i.size, i.bytes)) = some (some z, 1, bytes)) (hzc : z.cells.size = 1) (hby : bytes ≤ 16)
  (hgd : o.guard = none) (sl y : Operand) (ho : o.op = .call { callee := .builtin .append, args := #[sl, y], argTypes := #[T, T] })
  (hbuf : w.ownsRow base e 1 (.slice (some ⟨g, 0, none⟩) n cap) n xs) (v : Value) (hv : v.oneCell' = true) (hs : A.eval sl = .slice (some ⟨g, 0, none⟩) n cap) {H : Nat} (hH : w.heap.size = H) (hx : A.eval y = .slice (some ⟨H, 0, none⟩) 1 1) (hlen : n + 1 ≤ 1048576) (hb : base ≤ w.heap.size)
  (h : ∀ g' cap' w', w'.ownsRow base e 1 (.slice (some ⟨g', 0, none⟩) (n + 1) cap') (n + 1) (xs ++ [v]) → w.grownBy w' (some g) → (g' = g ∨ w.heap.size ≤ g') → wpList Tryz.prog ops Q rest (A.put o.dst (.slice (some ⟨g', 0, none⟩) (n + 1) cap')) w') : wpList Tryz.prog ops Q (o :: rest) A (w.alloc (.cells #[v] e)) := by
 subst hH
 obtain ⟨i0, hi, hz0, hz1, hz2⟩ := info_parts hinfo
 have hb2 := hbuf.alloc (.cells #[v] e)
 have hone : ∀ u ∈ [v], u.oneCell' = true := by
  intro u hu
  simp at hu
  subst hu
  exact hv
 have hbb : (n + 1) * bytes ≤ 140737488355328 := Nat.le_trans (Nat.mul_le_mul hlen hby) (by decide)
 refine wpList_append_lies _ hgd sl y T ho base e i0 z 1 bytes hu hi hz0 hz1 hz2 hzc (by omega) _ n _ hs hb2 ⟨w.heap.size, 0, none⟩ 1 1 [v] hx rfl (World.news_of_block (heap_alloc_new w _)) hone (by omega) (by unfold maxLen; omega) hbb (by simp; omega) _ rfl ?_
 intro g' cap' w' ho' hg' hl' _
 refine h g' cap' w' ho' ((World.grownBy_alloc w _ _).trans hg') ?_
 rcases hl' with q | q
 ·left
  have e' : g = g' := by simpa [Value.ownBlock] using q
  exact e'.symm
 ·right
  rw [q]
  simp
theorem infoS : (Tryz.prog.info? 9).map (fun i => (i.zero, i.size, i.bytes)) = some (some (.string ⟨#[]⟩), 1, 16) := by kernel_rfl
theorem owns_blk {base g n cap : Nat} {e : TypeId} {xs : List Value} (h : w.ownsRow base e 1 (.slice (some ⟨g, 0, none⟩) n cap) n xs) : K0.Blk g xs w := by
 have hl : xs.length = n := by have := h.1; omega
 refine ⟨fun j hj => ?_, fun j hj => h.frozenAt j, (h.lt g rfl).2⟩
 rw [h.cellAt j (by omega), List.getElem?_eq_getElem hj]
def pv (l : List (Nat × T0.Ent)) : List Value := (List.range 8).map fun (x : Nat) => .int .i64 (TR.par l (x : Int))
def nv (l : List (Nat × T0.Ent)) : List Value := (List.range 8).map fun (x : Nat) => .string (TR.nam l (x : Int))
theorem pv_length (l : List (Nat × T0.Ent)) : (pv l).length = 8 := by simp [pv]
theorem nv_length (l : List (Nat × T0.Ent)) : (nv l).length = 8 := by simp [nv]
theorem map_set {f : Nat → Value} {x : Nat} (v : Value) (hx : x < 8) : ((List.range 8).map f).set x v = (List.range 8).map fun y => if y = x then v else f y := by
 apply List.ext_getElem
 ·simp
 ·intro k h1 h2
  have hk : k < 8 := by simpa using h1
  rw [List.getElem_set]
  by_cases e : x = k
  ·subst e
   simp
  ·have e' : ¬ k = x := fun q => e q.symm
   simp [e, e']
theorem pv_first {l : List (Nat × T0.Ent)} {i x : Nat} {nm : ByteArray} (hx : x < 8) (h : TR.par l (x : Int) = -1) : (pv l).set x (.int .i64 (i : Int)) = pv (l ++ [(i, ((x : Int), nm))]) := by
 unfold pv
 rw [map_set _ hx]
 apply List.map_congr_left
 intro y _
 rw [TR.par_step]
 by_cases e : y = x
 ·subst e
  rw [if_pos rfl, if_pos rfl, if_pos h]
 ·have : ¬ ((x : Int) = (y : Int)) := by omega
  rw [if_neg e, if_neg this]
theorem pv_more {l : List (Nat × T0.Ent)} {i x : Nat} {nm : ByteArray} (hx : x < 8) (h : ¬ TR.par l (x : Int) = -1) : (pv l).set x (.int .i64 (-2)) = pv (l ++ [(i, ((x : Int), nm))]) := by
 unfold pv
 rw [map_set _ hx]
 apply List.map_congr_left
 intro y _
 rw [TR.par_step]
 by_cases e : y = x
 ·subst e
  rw [if_pos rfl, if_pos rfl, if_neg h]
 ·have : ¬ ((x : Int) = (y : Int)) := by omega
  rw [if_neg e, if_neg this]
theorem nv_first {l : List (Nat × T0.Ent)} {i x : Nat} {nm : ByteArray} (hx : x < 8) (h : TR.par l (x : Int) = -1) : (nv l).set x (.string nm) = nv (l ++ [(i, ((x : Int), nm))]) := by
 unfold nv
 rw [map_set _ hx]
 apply List.map_congr_left
 intro y _
 rw [TR.nam_step]
 by_cases e : y = x
 ·subst e
  rw [if_pos rfl, if_pos ⟨rfl, h⟩]
 ·have : ¬ ((x : Int) = (y : Int) ∧ TR.par l (y : Int) = -1) := fun q => by have := q.1; omega
  rw [if_neg e, if_neg this]
theorem nv_more {l : List (Nat × T0.Ent)} {i x : Nat} {nm : ByteArray} (h : ¬ TR.par l (x : Int) = -1) : nv l = nv (l ++ [(i, ((x : Int), nm))]) := by
 unfold nv
 apply List.map_congr_left
 intro y _
 rw [TR.nam_step]
 have : ¬ ((x : Int) = (y : Int) ∧ TR.par l (y : Int) = -1) := fun q => by
  have e : x = y := by have := q.1; omega
  subst e
  exact h q.2
 rw [if_neg this]
theorem pv_nil : pv [] = List.replicate 8 (.int .i64 (-1)) := rfl
theorem nv_nil : nv [] = List.replicate 8 (.string ⟨#[]⟩) := rfl
theorem ret_bool {a b : Bool} (h : a = b) : Ending.returned (.bool a) = .returned (.bool b) := by rw [h]
set_option maxHeartbeats 1000000 in
theorem l04Root (p : Int → Int) (g c : Nat) (i : Int) (w : World) (hp : ∀ x, p x < 8) (hB : ∀ x : Nat, x < 8 → w.cell? ⟨g, x, none⟩ = some (.int .i64 (p (x : Int)))) (hi : i < 8) :
  Calls Tryz.prog 51 #[.slice (some ⟨g, 0, none⟩) 8 c, .int .i64 i] w fun e w' => e = .returned (.bool (TR.root p 8 i)) ∧ w' = w := by
 go_enter Tryz.func51, Tryz.ntmps51
 go_wp2
 go_loop [1, 5] (fun v n => ∃ (k : Nat) (j : Int), k ≤ 8 ∧ n = .int .i64 k ∧ v = .int .i64 j ∧ j < 8 ∧ TR.root p (8 - k) j = TR.root p 8 i) (fun _ n => 8 - (intOf n).toNat)
 case atStart => exact ⟨0, i, Nat.zero_le _, rfl, rfl, hi, rfl⟩
 case round =>
  obtain ⟨k, j, hk, rfl, rfl, hj, hr⟩ := hrel
  have HR : Hid (TR.root p (8 - k) j = TR.root p 8 i) := hr
  clear hr
  by_cases hlt : k < 8
  ·have e1 : (k : Int) < 8 := by omega
   by_cases h0 : j = 0
   ·subst h0
    go_wp2
    go_ret
    exact ⟨ret_bool (by rw [← HR.out, TR.root_zero]), rfl⟩
   ·have h0' : (j == 0) = false := by simpa using h0
    by_cases hn : j < 0
    ·go_wp2
     go_ret
     exact ⟨ret_bool (by rw [← HR.out, TR.root_neg _ _ _ hn]), rfl⟩
    ·obtain ⟨x, rfl⟩ : ∃ x : Nat, j = (x : Int) := ⟨j.toNat, by omega⟩
     have hc := hB x (by omega)
     have hn' : decide ((x : Int) < 0) = false := by simp
     have b1 : (0 : Int) ≤ (x : Int) := by omega
     have b2 : (x : Int) < 8 := by omega
     have hq := hp (x : Int)
     have HS : Hid (TR.root p (8 - (k + 1)) (p (x : Int)) = TR.root p 8 i) := by
      show _ = _
      rw [← HR.out, show 8 - k = (8 - (k + 1)) + 1 by omega, TR.root_pos _ _ _ (by omega)]
     obtain ⟨q, eq⟩ : ∃ q, p (x : Int) = q := ⟨_, rfl⟩
     rw [eq] at hc hq HS
     clear eq hB hp
     go_wp2
     go_round
     case rel => exact ⟨k + 1, q, by omega, by go_num, rfl, hq, HS.out⟩
     case measure => simp [intOf]; omega
  ·obtain rfl : k = 8 := by omega
   have hfin : (j == 0) = TR.root p 8 i := by rw [← HR.out]; rfl
   clear HR
   obtain ⟨r, er⟩ : ∃ r, TR.root p 8 i = r := ⟨_, rfl⟩
   rw [er] at hfin
   have HE : Hid (TR.root p 8 i = r) := er
   clear er
   go_wp2
   go_ret
   exact ⟨ret_bool HE.out.symm, rfl⟩
set_option maxHeartbeats 1000000 in
theorem l04Owned (mem : ByteArray) (w : World) (hms : mem.size ≤ 281474976710656) :
  Calls Tryz.prog 36 #[.string mem] w fun e w' => ∃ a c, e = .returned (.slice a (cat (tZ mem) 8).length c) ∧ (cat (tZ mem) 8).length ≤ c ∧ J0.Own w.heap.size w' a (cat (tZ mem) 8) ∧ Below w.heap.size w w' := by
 have hG : Hid (∀ (k : Nat) W, Calls Tryz.prog 66 #[.string (O0.recd mem (k : Int))] W (G3.Ans (O0.recd mem (k : Int)) W)) := fun k W => G4.spec_GetInode _ W (O0.recd_size mem _ hms)
 have hA : Hid (∀ (k : Nat) W e w', G3.Ans (O0.recd mem (k : Int)) W e w' → ∃ (q o s : Int) (a : Option Addr) (c : Nat) (b : Bool), e = .returned (.tuple #[.agg #[.int .i64 q, .int .i64 o, .int .i64 s, .slice a (tZ mem k).length c], .bool b]) ∧ J0.Own W.heap.size w' a (tZ mem k) ∧ Below W.heap.size W w') := fun k W e w' ⟨a, c, he, ho, hc, hb⟩ => ⟨_, _, _, a, c, _, he, ho, hb⟩
 have hL : Hid (∀ (k : Nat) W, Calls Tryz.prog 67 #[.string mem, .int .i64 (k : Int)] W fun e w' => e = .returned (.string (O0.recd mem (k : Int))) ∧ w' = W) := fun k W => O1.l03Rec mem k W hms
 have hlen := TW.cat_len (TW.pg_few mem)
 have b0 := J0.ibuf_made (base := w.heap.size) w (Nat.le_refl _)
 have l0 := K0.below_new w (.cells #[] 3)
 go_enter Tryz.func36, Tryz.ntmps36
 go_wp2
 go_loopw [3, 4] (fun v i w' => ∃ (k n c : Nat) (a : Option Addr), k ≤ 8 ∧ i = .int .i64 k ∧ v = .slice a n c ∧ IBuf w.heap.size w' a n c (cat (tZ mem) k) ∧ Below w.heap.size w w') (fun _ i _ => 8 - (intOf i).toNat)
 case atStart => exact ⟨0, 0, 0, _, Nat.zero_le _, rfl, rfl, b0, l0⟩
 case round =>
  obtain ⟨k, n, c, a, hk, rfl, rfl, hbuf, hbel⟩ := hrel
  clear b0 l0
  by_cases hlt : k < 8
  ·have e1 : (k : Int) < 8 := by omega
   have HS : Hid (cat (tZ mem) k ++ tZ mem k = cat (tZ mem) (k + 1)) := rfl
   have hnl : n ≤ 96 := by
    have := hlen k
    rw [hbuf.1]
    omega
   have hfew := TW.pg_few mem k
   have hLk := hL.out k
   have hGk := hG.out k
   have hAk : Hid (∀ W e w', G3.Ans (O0.recd mem (k : Int)) W e w' → ∃ (q o s : Int) (a : Option Addr) (c : Nat) (b : Bool), e = .returned (.tuple #[.agg #[.int .i64 q, .int .i64 o, .int .i64 s, .slice a (tZ mem k).length c], .bool b]) ∧ J0.Own W.heap.size w' a (tZ mem k) ∧ Below W.heap.size W w') := hA.out k
   obtain ⟨zk, hzk⟩ : ∃ zk, tZ mem k = zk := ⟨_, rfl⟩
   obtain ⟨rk, hrk⟩ : ∃ rk, O0.recd mem (k : Int) = rk := ⟨_, rfl⟩
   rw [hzk] at HS hfew hAk
   rw [hrk] at hLk hGk hAk
   clear hzk hrk hL hG hA
   go_wp2_with (first
    | (go_at_call 67; refine (hLk _).mono ?_; rintro e wq ⟨rfl, rfl⟩)
    | (go_at_call 66; refine (hGk _).mono ?_; intro e w2 hans; obtain ⟨q, o, s, a2, c2, bb, rfl, o2, b2⟩ := hAk.out _ _ _ hans; clear hans; have n2 := K0.below_new w2 (.cells #[.int .i64 q, .int .i64 o, .int .i64 s, .slice a2 zk.length c2] 50); have y3 := (K0.blk_new [.int .i64 q, .int .i64 o, .int .i64 s, .slice a2 zk.length c2] w2 50).c3; have bf2 := (hbuf.below b2).below n2; have r2 := (o2.row.below n2); have l2 := (hbel.trans (b2.mono hbel.size)).trans (n2.mono (Nat.le_trans hbel.size b2.size)))
    | (at_builtin; refine Q1.append_rows rfl (.tmp 19) (.tmp 21) rfl bf2 _ _ zk (by rfl) (by rfl) r2 (by omega) l2.size ?_; intro a3 c3 w3 bf3 b3))
   go_roundw
   case rel => exact ⟨k + 1, n + zk.length, c3, a3, by omega, by go_num, rfl, by rw [← HS.out]; exact bf3, l2.trans b3⟩
   case measure => simp [intOf]; omega
  ·obtain rfl : k = 8 := by omega
   have hn : n = (cat (tZ mem) 8).length := hbuf.1
   subst hn
   go_wp2
   go_ret
   exact ⟨a, c, rfl, hbuf.fits, hbuf.own, hbel⟩
end Go.Proofs.YtpkmeknniajahaaGreatDoor.TS
namespace Go.Proofs.YtpkmeknniajahaaGreatDoor.FI
open Go.ChangeShapes Go.WideShapes Go.ChangeAt Go.RowKit
variable {w W W' : World} {mem : ByteArray}
open TW (tK tZ tE cat nodesOk sound)
structure Fl where
 ino : Int
 path : ByteArray
 kind : Int
 owner : Int
 data : ByteArray
def Fl.vals (f : Fl) : List Value := [.int .i64 f.ino, .string f.path, .int .i64 f.kind, .int .i64 f.owner, .string f.data]
def ffl : List Fl → List Value
 | [] => []
 | f :: r => f.vals ++ ffl r
theorem ffl_length : ∀ l : List Fl, (ffl l).length = l.length * 5
 | [] => rfl
 | f :: r => by rw [ffl, List.length_append, ffl_length r]; simp [Fl.vals]; omega
theorem ffl_append : ∀ l m : List Fl, ffl (l ++ m) = ffl l ++ ffl m
 | [], m => rfl
 | f :: r, m => by rw [List.cons_append, ffl, ffl, ffl_append r m, List.append_assoc]
theorem ffl_snoc (l : List Fl) (f : Fl) : ffl (l ++ [f]) = ffl l ++ f.vals := by rw [ffl_append]; simp [ffl]
def zf : Fl := ⟨0, ⟨#[]⟩, 0, 0, ⟨#[]⟩⟩
theorem ffl_get : ∀ (l : List Fl) (i j : Nat), i < l.length → j < 5 → (ffl l)[i * 5 + j]? = (l.getD i zf).vals[j]?
 | [], i, j, h, _ => by simp at h
 | f :: r, i, j, h, hj => by
  have hl : f.vals.length = 5 := rfl
  rw [ffl]
  cases i with
  | zero =>
   rw [List.getElem?_append_left (by rw [hl]; omega)]
   simp
  | succ i =>
   rw [List.getElem?_append_right (by rw [hl]; omega), hl, show (i + 1) * 5 + j - 5 = i * 5 + j by omega, ffl_get r i j (by simpa using h) hj]
   simp
theorem file_cells {g : Nat} {l : List Fl} (h : K0.Blk g (ffl l) W) {i : Nat} (hi : i < l.length) :
  W.cell? ⟨g, i * 5, none⟩ = some (.int .i64 (l.getD i zf).ino) ∧ W.cell? ⟨g, i * 5 + 1, none⟩ = some (.string (l.getD i zf).path) ∧ W.cell? ⟨g, i * 5 + 2, none⟩ = some (.int .i64 (l.getD i zf).kind) ∧ W.cell? ⟨g, i * 5 + 3, none⟩ = some (.int .i64 (l.getD i zf).owner) ∧ W.cell? ⟨g, i * 5 + 4, none⟩ = some (.string (l.getD i zf).data) := by
 have hl := ffl_length l
 have key : ∀ j (hj : j < 5), W.cell? ⟨g, i * 5 + j, none⟩ = (l.getD i zf).vals[j]? := by
  intro j hj
  rw [h.cell (i * 5 + j) (by omega), ← ffl_get l i j hi hj, List.getElem?_eq_getElem (by omega)]
 exact ⟨key 0 (by decide), key 1 (by decide), key 2 (by decide), key 3 (by decide), key 4 (by decide)⟩
def FBuf (base : Nat) (w : World) (g n cap : Nat) (l : List Fl) : Prop := n = l.length ∧ w.ownsRow base 38 5 (.slice (some ⟨g, 0, none⟩) n cap) n (ffl l)
variable {base g n cap : Nat} {l : List Fl}
theorem FBuf.below (h : FBuf base w g n cap l) (hb : Below w.heap.size w W) : FBuf base W g n cap l := ⟨h.1, F0.owns_below h.2 hb⟩
theorem FBuf.alloc (h : FBuf base w g n cap l) (o : Obj) : FBuf base (w.alloc o) g n cap l := ⟨h.1, h.2.alloc o⟩
theorem FBuf.drew (h : FBuf base w g n cap l) : FBuf base w.drew g n cap l := h
theorem FBuf.blk (h : FBuf base w g n cap l) : K0.Blk g (ffl l) w := by
 have hl := h.2.1
 refine ⟨fun j hj => ?_, fun j hj => h.2.frozenAt j, (h.2.lt g rfl).2⟩
 rw [h.2.cellAt j (by omega), List.getElem?_eq_getElem hj]
theorem fbuf_new (w : World) (hb : base ≤ w.heap.size) : FBuf base (w.alloc (.cells #[] 38)) w.heap.size 0 0 [] := ⟨rfl, World.ownsRow_made w #[] 0 hb (Nat.zero_le _) rfl⟩
theorem infoFile : (Tryz.prog.info? 38).map (fun i => (i.zero, i.size, i.bytes)) = some (some (.agg #[.int .i64 0, .string ⟨#[]⟩, .int .i64 0, .int .i64 0, .string ⟨#[]⟩]), 5, 56) := by kernel_rfl
theorem one_file (f : Fl) : ∀ x ∈ f.vals, x.oneCell' = true := by
 intro x h
 simp [Fl.vals] at h
 rcases h with rfl | rfl | rfl | rfl | rfl <;> rfl
theorem step_file {ops : Array Oper} {o : Oper} {A : Act} {K : Act → World → Prop} {Q : Exit → Act → World → Prop} {E : Prop} (hgd : o.guard = none) (sl x : Operand)
  (ho : o.op = .call { callee := .builtin .append, args := #[sl, x], argTypes := #[26, 26] })
  (hbuf : FBuf base w g n cap l) (f : Fl) (hs : A.eval sl = .slice (some ⟨g, 0, none⟩) n cap) {H : Nat} (hH : w.heap.size = H) (hx : A.eval x = .slice (some ⟨H, 0, none⟩) 1 1) (hlen : n + 1 ≤ 1048576) (hb : base ≤ w.heap.size)
  (h : ∀ g' cap' w', FBuf base w' g' (n + 1) cap' (l ++ [f]) → Below base w w' → w.grownBy w' (some g) → (g' = g ∨ w.heap.size ≤ g') → K (A.put o.dst (.slice (some ⟨g', 0, none⟩) (n + 1) cap')) w') :
  if Region.wanted o (yielded ops A.tmps) = true then Oper.wp Tryz.prog o A (w.alloc (.cells #[.int .i64 f.ino, .string f.path, .int .i64 f.kind, .int .i64 f.owner, .string f.data] 38)) K Q else E := by
 subst hH
 obtain ⟨i0, hi, hz0, hz1, hz2⟩ := info_parts infoFile
 have hb2 := hbuf.alloc (.cells #[.int .i64 f.ino, .string f.path, .int .i64 f.kind, .int .i64 f.owner, .string f.data] 38)
 refine step_append_lies _ hgd sl x 26 ho base 38 i0 (.agg #[.int .i64 0, .string ⟨#[]⟩, .int .i64 0, .int .i64 0, .string ⟨#[]⟩]) 5 56 Tryz.underlying26 hi hz0 hz1 hz2 rfl (by omega) _ n _ hs hb2.2 ⟨w.heap.size, 0, none⟩ 1 1 f.vals hx rfl (World.news_of_block (heap_alloc_new w _)) (one_file f) (by omega) (by unfold maxLen; omega) (by omega) (by simp; omega) _ rfl ?_
 intro g' cap' w' ho' hg' hl' _
 refine h g' cap' w' ⟨by rw [hbuf.1]; simp, ?_⟩ ?_ ?_ ?_
 ·rw [ffl_snoc]
  exact ho'
 ·exact F0.below_grown ((Below.refl _ _).alloc hb _) hg' (fun k hk => (hbuf.2.lt k hk).1) (by simp; omega)
 ·exact (World.grownBy_alloc w _ _).trans hg'
 ·rcases hl' with q | q
  ·left
   have e' : g = g' := by simpa [Value.ownBlock] using q
   exact e'.symm
  ·right
   rw [q]
   simp
def upq (p : Int → Int) (nm : Int → ByteArray) : Nat → Int → ByteArray → ByteArray
 | 0, _, out => out
 | n + 1, i, out => if 0 < i then upq p nm n (p i) ((⟨#[47]⟩ ++ nm i) ++ out) else out
def fpath (mem : ByteArray) (i : Nat) : ByteArray := TR.full (upq (TR.par (TR.flat (tE mem) 8)) (TR.nam (TR.flat (tE mem) 8)) 8 (i : Int) ⟨#[]⟩)
theorem up_of {E : Nat → List T0.Ent} {K : Nat → Int} (ht : TR.treeOk E K = true) (hS : TR.Sane E K) {x k : Nat} {q : ByteArray} (h : TR.At2 E x k q) : x < 8 ∧ ∀ m, k ≤ m → ∀ out, upq (TR.par (TR.flat E 8)) (TR.nam (TR.flat E 8)) m (x : Int) out = q ++ out := by
 induction h using TR.At2.ind with
 | zero =>
  refine ⟨by decide, fun m _ out => ?_⟩
  rw [TR.nil_app]
  cases m with
  | zero => rfl
  | succ m => rw [upq, if_neg (by decide)]
 | @down d k q x nm hd hm ih =>
  have hx := hS.ino _ _ hm
  simp only at hx
  refine ⟨by omega, fun m hk out => ?_⟩
  obtain ⟨m', rfl⟩ : ∃ m', m = m' + 1 := ⟨m - 1, by omega⟩
  obtain ⟨h1, h2⟩ := TR.par_of ht hS ih.1 hm
  simp only at h1 h2
  rw [upq, if_pos hx.1, h1, h2, ih.2 m' (by omega), TR.app_assoc, TR.app_assoc, TR.app_assoc]
theorem path_eq {F : Nat → Nat} {P : Nat → ByteArray} (h : TR.Inv (tE mem) (tK mem) [] F P) (hK0 : tK mem 0 = 2) (ht : TR.treeOk (tE mem) (tK mem) = true) {x : Nat} (hx : x < 8) (hk : tK mem x ≠ 0) :
  P x = fpath mem x ∧ ∃ k q, k ≤ 8 ∧ TR.At2 (tE mem) x k q ∧ fpath mem x = TR.full q := by
 obtain ⟨k, hk8, ha⟩ := TR.found_at h (TW.sane_ok mem) hK0 ht hx hk
 obtain ⟨q, hq, hp, _, _⟩ := TR.at_two (TW.sane_ok mem) ha
 have hu := (up_of ht (TW.sane_ok mem) hq).2 8 hk8 ⟨#[]⟩
 have hf : fpath mem x = TR.full q := by rw [fpath, hu, TR.app_nil]
 exact ⟨by rw [hf, hp], k, q, hk8, hq, hf⟩
def flOf (mem : ByteArray) (P : Nat → ByteArray) (i : Nat) : Fl := ⟨(i : Int), P i, tK mem i, G0.gO (O0.recd mem (i : Int)), D1.nodeD mem (i : Int)⟩
def filesTo (mem : ByteArray) (P : Nat → ByteArray) : Nat → List Fl
 | 0 => []
 | i + 1 => filesTo mem P i ++ if tK mem i = 0 then [] else [flOf mem P i]
theorem filesTo_len (mem : ByteArray) (P : Nat → ByteArray) : ∀ i, (filesTo mem P i).length ≤ i
 | 0 => Nat.le_refl _
 | i + 1 => by
  have := filesTo_len mem P i
  rw [filesTo, List.length_append]
  split <;> simp <;> omega
theorem filesTo_congr {P P' : Nat → ByteArray} : ∀ i, (∀ x, x < i → tK mem x ≠ 0 → P x = P' x) → filesTo mem P i = filesTo mem P' i
 | 0, _ => rfl
 | i + 1, h => by
  rw [filesTo, filesTo, filesTo_congr i fun x hx hk => h x (by omega) hk]
  by_cases hk : tK mem i = 0
  ·rw [if_pos hk, if_pos hk]
  ·rw [if_neg hk, if_neg hk, flOf, flOf, h i (by omega) hk]
def files (mem : ByteArray) : List Fl := if sound mem = true then filesTo mem (fpath mem) 8 else []
theorem sound_parts (h : sound mem = true) : mem.size = 768 ∧ nodesOk mem = true ∧ tK mem 0 = 2 ∧ TR.treeOk (tE mem) (tK mem) = true := by
 unfold sound at h
 simp only [Bool.and_eq_true, decide_eq_true_eq, beq_iff_eq] at h
 exact ⟨h.1, h.2.2.1, h.2.2.2.1, h.2.2.2.2.2⟩
end Go.Proofs.YtpkmeknniajahaaGreatDoor.FI
namespace Go.Proofs.YtpkmeknniajahaaGreatDoor.TU
open Go.ChangeShapes Go.WideShapes Go.ChangeAt Go.RowKit
open FI (Fl)
def hx (s : ByteArray) : ByteArray := if s.size = 0 then ⟨#[45]⟩ else H1.hex s
def dt (n : Int) : ByteArray := ⟨(Lib.itoa n).toArray⟩
def letter (k : Int) : ByteArray := if k = 2 then ⟨#[100]⟩ else ⟨#[102]⟩
def glue (ps : List ByteArray) : ByteArray := ⟨(Lib.join (ps.map (·.data.toList)) [32]).toArray⟩
def words (f : Fl) : List ByteArray := [letter f.kind, f.path, dt f.owner, hx f.data]
def line (f : Fl) : ByteArray := glue (words f) ++ ⟨#[10]⟩
structure Tabs (w : World) : Prop where
 h : Lib.TabIs Tryz.prog w "loop.example/g00278/impl.hexDigits" .u8 H1.tab
 p : Lib.TabIs Tryz.prog w "internal/strconv.uint64pow10" .u64 Lib.pow10Tab
theorem impl_hex (s : ByteArray) (w : World) (hs : s.size ≤ 70368744177664) (htab : Lib.TabIs Tryz.prog w "loop.example/g00278/impl.hexDigits" .u8 H1.tab) :
  Calls Tryz.prog 78 #[.string s] w fun e w' => e = .returned (.string (hx s)) ∧ Below w.heap.size w w' := by
 by_cases h : s.size = 0
 ·have e : hx s = ⟨#[45]⟩ := if_pos h
  have es : s = ⟨#[]⟩ := by
   apply ByteArray.ext
   exact Array.eq_empty_of_size_eq_zero h
  rw [e]
  subst es
  go_enter Tryz.func78, Tryz.ntmps78
  go_wp2
  go_ret
  exact ⟨rfl, Below.refl _ _⟩
 ·have e : hx s = H1.hex s := if_neg h
  rw [e]
  have hne : (s.toList == []) = false := by
   rw [ByteArray.toList_eq]
   simp
   intro h'
   exact h (by rw [Lib.size_eq, h']; rfl)
  have HH : Hid (Calls Tryz.prog 110 #[.string s] w fun e w' => e = .returned (.string (H1.hex s)) ∧ Below w.heap.size w w') := H1.impl_Hex s w hs htab
  clear htab
  go_enter Tryz.func78, Tryz.ntmps78
  go_wp2_with (go_at_call 110; refine HH.out.mono ?_; rintro e w1 ⟨rfl, b1⟩)
  go_ret
  exact ⟨rfl, b1⟩
theorem Tabs.below {w W : World} (t : Tabs w) (hb : Below w.heap.size w W) : Tabs W := ⟨L0.tab_below t.h hb, L0.tab_below t.p hb⟩
theorem Tabs.drew {w : World} (t : Tabs w) : Tabs w.drew := ⟨t.h, t.p⟩
structure FB (w : World) (f : Fl) (W : World) : Prop where
 b : K0.Blk w.heap.size [.int .i64 f.ino, .string f.path, .int .i64 f.kind, .int .i64 f.owner, .string f.data] W
 t : Tabs W
 bel : Below w.heap.size w W
theorem FB.below {w W W' : World} {f : Fl} (h : FB w f W) (hb : Below W.heap.size W W') : FB w f W' := ⟨h.b.below hb, h.t.below hb, h.bel.trans (hb.mono h.bel.size)⟩
theorem fb_new (w : World) (f : Fl) (ht : Tabs w) : FB w f (w.alloc (.cells #[.int .i64 f.ino, .string f.path, .int .i64 f.kind, .int .i64 f.owner, .string f.data] 38)) :=
 ⟨K0.blk_new [.int .i64 f.ino, .string f.path, .int .i64 f.kind, .int .i64 f.owner, .string f.data] w 38, ht.below (K0.below_new _ _), K0.below_new _ _⟩
theorem c4 {W : World} {B : Nat} {a b c d e : Value} {l : List Value} (h : K0.Blk B (a :: b :: c :: d :: e :: l) W) : W.cell? ⟨B, 4, none⟩ = some e := h.cell 4 (by simp)
theorem join4 (ps : List ByteArray) (w : World) (h4 : ps.length = 4) (hl : (glue ps).size ≤ 140737488355328) :
  Calls Tryz.prog 76 #[.slice (some ⟨w.heap.size, 0, none⟩) 4 4, .string ⟨#[32]⟩] (w.alloc (.cells (ps.map Value.string).toArray 9)) fun e w' => e = .returned (.string (glue ps)) ∧ Below w.heap.size w w' := by
 have b := K0.blk_new (ps.map Value.string) w 9
 have hj := Tryz.strings_Join w.heap.size 0 4 ps ⟨#[32]⟩ (w.alloc (.cells (ps.map Value.string).toArray 9)) (fun j x hx => by
  obtain ⟨hl', he⟩ := List.getElem?_eq_some_iff.1 hx
  have := b.cell j (by simpa using hl')
  simpa [he] using this) b.lt (by omega) (by omega) (by
  have : (Lib.join (ps.map (·.data.toList)) [32]).toArray.size ≤ 140737488355328 := hl
  simpa using this)
 rw [h4] at hj
 refine hj.mono ?_
 rintro e w' ⟨rfl, hb⟩
 exact ⟨rfl, (K0.below_new _ _).trans (hb.mono (by simp))⟩
theorem FB.drew {w W : World} {f : Fl} (h : FB w f W) : FB w f W.drew := h.below (Below.refl _ _).drew
end Go.Proofs.YtpkmeknniajahaaGreatDoor.TU
namespace Go.Proofs.YtpkmeknniajahaaGreatDoor.TV
open TR (At2 full)
open FI (Fl)
open TU (glue words line letter dt hx)
variable {E : Nat → List T0.Ent}
theorem split_last : ∀ {l1 l2 n1 n2 : List UInt8}, 47 ∉ n1 → 47 ∉ n2 → l1 ++ 47 :: n1 = l2 ++ 47 :: n2 → l1 = l2 ∧ n1 = n2 := by
 intro l1 l2 n1 n2 h1 h2 h
 rcases List.append_eq_append_iff.1 h with ⟨a, ha, hb⟩ | ⟨a, ha, hb⟩
 ·cases a with
  | nil => simp at ha hb; exact ⟨ha.symm, hb⟩
  | cons c r =>
   simp at hb
   exact absurd (by rw [hb.2]; simp) h1
 ·cases a with
  | nil => simp at ha hb; exact ⟨ha, hb.symm⟩
  | cons c r =>
   simp at hb
   exact absurd (by rw [hb.2]; simp) h2
theorem app_data (a b : ByteArray) : (a ++ b).data.toList = a.data.toList ++ b.data.toList := by
 rw [ByteArray.data_append]; simp
theorem size_of (a : ByteArray) : a.size = a.data.toList.length := rfl
structure Names (E : Nat → List T0.Ent) : Prop where
 no : ∀ d e, e ∈ E d → 47 ∉ e.2.data.toList
 pos : ∀ d e, e ∈ E d → 0 < e.2.size
 one : ∀ d (x y : Int) nm, (x, nm) ∈ E d → (y, nm) ∈ E d → x = y
theorem at2_inj (hN : Names E) : ∀ {x k : Nat} {q : ByteArray}, At2 E x k q → ∀ {y k' : Nat} {q' : ByteArray}, At2 E y k' q' → q = q' → x = y := by
 intro x k q h
 induction h using At2.ind with
 | zero =>
  intro y k' q' h' e
  rcases h'.or with ⟨e', _, _⟩ | ⟨d, j, p, nm, _, hd, hm, rfl⟩
  ·exact e'.symm
  ·have := congrArg (fun a : ByteArray => a.data.toList.length) e
   simp [app_data] at this
 | @down d k q x nm hd hm ih =>
  intro y k' q' h' e
  rcases h'.or with ⟨_, _, rfl⟩ | ⟨d', j, p, nm', _, hd', hm', rfl⟩
  ·have := congrArg (fun a : ByteArray => a.data.toList.length) e
   simp [app_data] at this
  ·have := congrArg (fun a : ByteArray => a.data.toList) e
   simp only [app_data] at this
   obtain ⟨h1, h2⟩ := split_last (hN.no _ _ hm) (hN.no _ _ hm') this
   have e1 : q = p := ByteArray.ext (Array.toList_inj.1 h1)
   have e2 : nm = nm' := ByteArray.ext (Array.toList_inj.1 h2)
   have e3 := ih hd' e1
   subst e3
   subst e2
   have := hN.one _ _ _ _ hm hm'
   omega
theorem at2_size (hN : Names E) {x k : Nat} {q : ByteArray} (h : At2 E x k q) : q.size = 0 ∨ 2 ≤ q.size := by
 rcases h.or with ⟨_, _, rfl⟩ | ⟨d, j, p, nm, _, hd, hm, rfl⟩
 ·exact Or.inl rfl
 ·right
  have h0 : 0 < nm.size := hN.pos _ _ hm
  rw [ByteArray.size_append, ByteArray.size_append]
  show 2 ≤ p.size + (1 + nm.size)
  omega
theorem full_inj (hN : Names E) {x k y k' : Nat} {q q' : ByteArray} (h : At2 E x k q) (h' : At2 E y k' q') (e : full q = full q') : x = y := by
 refine at2_inj hN h h' ?_
 unfold full at e
 rcases at2_size hN h with a | a <;> rcases at2_size hN h' with b | b
 ·rw [size_of] at a b
  have a' := List.length_eq_zero_iff.1 a
  have b' := List.length_eq_zero_iff.1 b
  exact ByteArray.ext (Array.toList_inj.1 (a'.trans b'.symm))
 ·rw [if_pos a, if_neg (by omega)] at e
  rw [← e] at b
  exact absurd b (by decide)
 ·rw [if_neg (by omega), if_pos b] at e
  rw [e] at a
  exact absurd a (by decide)
 ·rwa [if_neg (by omega), if_neg (by omega)] at e
theorem line_eq (o : ByteArray) (f : Fl) : ((((((o ++ (letter f.kind ++ ⟨#[32]⟩)) ++ f.path) ++ ⟨#[32]⟩) ++ dt f.owner) ++ ⟨#[32]⟩) ++ hx f.data) ++ ⟨#[10]⟩ = o ++ line f := by
 apply ByteArray.ext
 apply Array.toList_inj.1
 unfold line glue words
 simp only [app_data, Lib.join, Lib.joinTail, List.map_cons, List.map_nil, List.append_assoc, List.append_nil, List.intercalate, List.intersperse, List.flatten_cons, List.flatten_nil]
end Go.Proofs.YtpkmeknniajahaaGreatDoor.TV
namespace Go.Proofs.YtpkmeknniajahaaGreatDoor.TV
open TR (At2 full)
open FI (Fl flOf filesTo files fpath)
open TW (tK tE sound)
variable {mem : ByteArray}
theorem at_entry (mem : ByteArray) (i : Int) {k : Nat} (hk : k < (D1.nodeE mem i).length) : T0.okAt (D1.nodeE mem i) k = true := by
 obtain ⟨_, hD, hE⟩ := TW.nodeE_dir mem i (fun h => by rw [h] at hk; cases hk)
 have hd := (V0.of_isD hD).2.2.2.2
 rw [← hE] at hd
 simp only [T0.dirOk, Bool.and_eq_true, decide_eq_true_eq] at hd
 exact T0.okUpto_at hd.2 hk
theorem name_ok (mem : ByteArray) (i : Int) (e : T0.Ent) (h : e ∈ D1.nodeE mem i) : E0.nameOk e.2 = true := by
 obtain ⟨k, hk, he⟩ := List.mem_iff_getElem.1 h
 have h1 := (T0.okAt_entry (at_entry mem i hk)).1
 rw [T0.ent_get _ _ hk, he] at h1
 exact (E0.entryOk_true h1).1
theorem names_of (mem : ByteArray) : Names (tE mem) := by
 refine ⟨fun d e h hm => ?_, fun d e h => ?_, fun d x y nm h1 h2 => ?_⟩
 ·have := name_ok mem _ e h
  simp only [E0.nameOk, Bool.and_eq_true, List.all_eq_true] at this
  have := this.1 _ hm
  revert this
  decide
 ·exact (E0.nameOk_size (name_ok mem _ e h)).1
 ·obtain ⟨i, hi, ei⟩ := List.mem_iff_getElem.1 h1
  obtain ⟨j, hj, ej⟩ := List.mem_iff_getElem.1 h2
  have key : ∀ (i j : Nat) (x y : Int) (hi : i < (tE mem d).length) (hj : j < (tE mem d).length), (tE mem d)[i] = (x, nm) → (tE mem d)[j] = (y, nm) → i < j → False := by
   intro i j x y hi hj ei ej hij
   have h : T0.taken ((tE mem d).take j) (T0.ent (tE mem d) j) = false := (T0.okAt_entry (at_entry mem _ hj)).2
   rw [T0.ent_get _ _ hj, ej] at h
   simp only [T0.taken, List.any_eq_false] at h
   refine h (x, nm) ?_ ?_
   ·rw [← ei]
    exact List.mem_take_iff_getElem.2 ⟨i, by omega, rfl⟩
   ·simp [T0.clash]
  rcases Nat.lt_trichotomy i j with h | h | h
  ·exact (key i j x y hi hj ei ej h).elim
  ·subst h
   rw [ei] at ej
   exact congrArg Prod.fst ej
  ·exact (key j i y x hj hi ej ei h).elim
theorem mem_to {P : Nat → ByteArray} : ∀ {n : Nat} {f : Fl}, f ∈ filesTo mem P n → ∃ x, x < n ∧ tK mem x ≠ 0 ∧ f = flOf mem P x
 | 0, f, h => by cases h
 | n + 1, f, h => by
  rw [filesTo, List.mem_append] at h
  rcases h with h | h
  ·obtain ⟨x, h1, h2, h3⟩ := mem_to h
   exact ⟨x, by omega, h2, h3⟩
  ·by_cases hk : tK mem n = 0
   ·rw [if_pos hk] at h; cases h
   ·rw [if_neg hk] at h
    exact ⟨n, by omega, hk, by simpa using h⟩
end Go.Proofs.YtpkmeknniajahaaGreatDoor.TV
namespace Go.Proofs.YtpkmeknniajahaaGreatDoor.D2
open Go.ChangeShapes Go.WideShapes Go.ChangeAt Go.RowKit
open N0 (Ln)
open N1 (Sl)
structure NW (w : World) (ts : List Value) (k o t : Int) (a : Option Addr) (n c B : Nat) (W : World) : Prop where
 box : K0.Blk w.heap.size ts W
 res : K0.Blk (w.heap.size + 1) (I0.vals 0 0 0 none 0 0) W
 nb : K0.Blk B (I0.vals k o t a n c) W
 bel : Below w.heap.size w W
variable {w W W' : World}
theorem NW.below {ts : List Value} {k o t : Int} {a : Option Addr} {n c B : Nat} (h : NW w ts k o t a n c B W) (hb : Below W.heap.size W W') : NW w ts k o t a n c B W' := ⟨h.box.below hb, h.res.below hb, h.nb.below hb, h.bel.trans (hb.mono h.bel.size)⟩
end Go.Proofs.YtpkmeknniajahaaGreatDoor.D2
namespace Go.Proofs.YtpkmeknniajahaaGreatDoor.D3
open Go.ChangeShapes Go.WideShapes Go.ChangeAt Go.RowKit
open N0 (Ln)
open N1 (Sl)
open P1 (ret_bool)
open J0 (IBuf Own)
structure En (w : World) (ts ns : List Value) (W : World) : Prop where
 box : K0.Blk w.heap.size ts W
 nb : K0.Blk (w.heap.size + 1) ns W
 bel : Below w.heap.size w W
 lt : w.heap.size + 2 ≤ W.heap.size
variable {w W W' : World} {ts ns : List Value}
theorem En.below (h : En w ts ns W) (hb : Below W.heap.size W W') : En w ts ns W' := ⟨h.box.below hb, h.nb.below hb, h.bel.trans (hb.mono h.bel.size), Nat.le_trans h.lt hb.size⟩
end Go.Proofs.YtpkmeknniajahaaGreatDoor.D3
namespace Go.Proofs.YtpkmeknniajahaaGreatDoor.D7
open Go.ChangeShapes Go.WideShapes Go.ChangeAt Go.RowKit
open N0 (Ln)
open N1 (Sl LB)
open J0 (IBuf Own)
open I2 (ints)
open D1 (nodeE data)
section
variable {base n cap : Nat} {a : Option Addr} {w W : World} {zs : List Int}
theorem run_rows (ty : TypeId) (hbuf : IBuf base w a n cap zs) (ax : Option Addr) (cx : Nat) (xs : List Int) (hR : P0.Row w ax xs) (hlen : n + xs.length ≤ 4194304) (hb : base ≤ w.heap.size) :
  ∃ a' cap' w', (Builtin.append_ #[28, 28] ty #[.slice a n cap, .slice ax xs.length cx]).run Tryz.prog w = .ok (.slice a' (n + xs.length) cap') w' ∧ IBuf base w' a' (n + xs.length) cap' (zs ++ xs) ∧ w.grownBy w' (Value.slice a n cap).ownBlock ∧ (∀ g, (Value.slice a' (n + xs.length) cap').ownBlock = some g → (Value.slice a n cap).ownBlock = some g ∨ g = w.heap.size) := by
 obtain ⟨i0, hi, hz0, hz1, hz2⟩ := info_parts I2.info3
 by_cases h0 : xs = []
 ·subst h0
  refine ⟨a, cap, w, Q1.run_append_none w 28 _ 3 i0 Tryz.underlying28 hi a n cap hbuf.fits ax cx, by rw [List.append_nil]; exact hbuf, ⟨rfl, rfl, rfl, Nat.le_refl _, fun _ _ _ => rfl⟩, fun g hg => Or.inl ?_⟩
  cases a with
  | none => cases hg
  | some p => exact hg
 ·rcases hR with hR | ⟨b, off, rfl, hb2, hc⟩
  ·exact absurd hR h0
  ·have hm : 0 < xs.length := List.length_pos_iff.2 h0
   obtain ⟨g, cp, w', hrun, r1, r2, r3, r4⟩ := run_append_lies (P := Tryz.prog) w 28 ty base 3 i0 (.int .i64 0) 1 8 Tryz.underlying28 hi hz0 hz1 hz2 rfl (by omega) _ n _ hbuf.2 ⟨b, off, none⟩ xs.length cx (ints xs) (by simp) (by
    intro j u hj
    have hj' : j < xs.length := by
     have := (List.getElem?_eq_some_iff.1 hj).1
     simpa using this
    rw [B0.add_off, hc j hj', P0.getD_get _ _ hj', ← hj]
    simp [hj']) (Q1.ints_one xs) hm (by unfold maxLen; omega) (by omega) hb _ rfl
   refine ⟨some ⟨g, 0, none⟩, cp, w', hrun, ⟨by rw [hbuf.1]; simp, ?_⟩, r2, fun g2 h2 => ?_⟩
   ·rw [show ints (zs ++ xs) = ints zs ++ ints xs by simp]
    exact r1
   ·cases h2
    exact r3
theorem run_below (hbuf : IBuf base w a n cap zs) (hb : base ≤ w.heap.size) (hg : w.grownBy W (Value.slice a n cap).ownBlock) : Below base w W := F0.below_grown (Below.refl _ _) hg (J0.own_block hbuf) hb
end
end Go.Proofs.YtpkmeknniajahaaGreatDoor.D7
