/- Joined texts: plain facts and contracts. -/
import Derived.OrdersHeld
import Derived.WalkKit
import Derived.Handy
import Derived.Test.YthbcefopbmkppaaGreatJlA
import Derived.Test.YthbcefopbmkppaaGreatJlG
import Derived.Shelf.Abstract
import Derived.Deep.QuietTactic
import Derived.BigQuiet
import Derived.Deep.RegionHeld3
import Derived.Test.YthbcefopbmkppaaGreatJlD
import Derived.Laws.MakeOwn
import Derived.Test.YthbcefopbmkppaaGreatJlC
import Derived.Deep.SlicePairs
set_option linter.unusedVariables false
set_option linter.unusedSimpArgs false
set_option maxRecDepth 10000
namespace Go.Proofs.YthbcefopbmkppaaGreat.Y0
open Go.RowKit
variable {P : Program} {Q : Exit → Act → World → Prop} {ops : Array Oper}
theorem of_if {c : Prop} [Decidable c] {p q : Prop} (hc : c) (hp : p) : if c then p else q := by rw [if_pos hc]; exact hp
theorem one_call {S : World → Prop} {a : Act} {w : World} {i f : Nat} {o : Oper} {listed : Array Bool} {fuel : Nat} {md : Region.Mode} (hr : Region.ready md ops listed = [i]) (ho : ops[i]? = some o) (hg : o.guard = none)
  (x : Operand) (ts : Array TypeId) (hop : o.op = .call { callee := .value (.func f), args := #[x], argTypes := ts }) (v : Value) (hx : a.eval x = v) (eg : ∀ args w, (callFunc f args).run P w = .ok (.enter f args) w)
  (hc : Calls P f #[v] w fun e w' => ∃ u, e = .returned u ∧ S w' ∧ wpAnyH P md ops Q S fuel (listed.setIfInBounds i true) (a.put o.dst u) w') : wpAnyH P md ops Q S (fuel + 1) listed a w := by
 refine wpAnyH_all hr (by simp) ?_
 intro j hj
 obtain rfl : j = i := by simpa using hj
 unfold wpOp
 rw [ho]
 refine of_if (by rw [Region.wanted, hg]) (.inl ?_)
 have he : (execOp a.eval o).run P w = .ok (.enter f #[v]) w := by
  subst hx
  simp [execOp, hop, resolve, go_sem, invoke, eg]
 unfold Oper.wp
 rw [he]
 refine Calls.mono hc ?_
 rintro e w' ⟨u, rfl, h⟩
 exact h
theorem one_callw {S : World → Prop} {a : Act} {w : World} {i f : Nat} {o : Oper} {listed : Array Bool} {fuel : Nat} {md : Region.Mode} (hr : Region.ready md ops listed = [i]) (ho : ops[i]? = some o) (hw : Region.wanted o (yielded ops a.tmps) = true)
  (x : Operand) (ts : Array TypeId) (hop : o.op = .call { callee := .value (.func f), args := #[x], argTypes := ts }) (v : Value) (hx : a.eval x = v) (eg : ∀ args w, (callFunc f args).run P w = .ok (.enter f args) w)
  (hc : Calls P f #[v] w fun e w' => ∃ u, e = .returned u ∧ S w' ∧ wpAnyH P md ops Q S fuel (listed.setIfInBounds i true) (a.put o.dst u) w') : wpAnyH P md ops Q S (fuel + 1) listed a w := by
 refine wpAnyH_all hr (by simp) ?_
 intro j hj
 obtain rfl : j = i := by simpa using hj
 unfold wpOp
 rw [ho]
 refine of_if hw (.inl ?_)
 have he : (execOp a.eval o).run P w = .ok (.enter f #[v]) w := by
  subst hx
  simp [execOp, hop, resolve, go_sem, invoke, eg]
 unfold Oper.wp
 rw [he]
 refine Calls.mono hc ?_
 rintro e w' ⟨u, rfl, h⟩
 exact h
theorem one_call2w {S : World → Prop} {a : Act} {w : World} {i f : Nat} {o : Oper} {listed : Array Bool} {fuel : Nat} {md : Region.Mode} (hr : Region.ready md ops listed = [i]) (ho : ops[i]? = some o) (hw : Region.wanted o (yielded ops a.tmps) = true)
  (x y : Operand) (ts : Array TypeId) (hop : o.op = .call { callee := .value (.func f), args := #[x, y], argTypes := ts }) (v u1 : Value) (hx0 : a.eval x = v) (hx1 : a.eval y = u1) (eg : ∀ args w, (callFunc f args).run P w = .ok (.enter f args) w)
  (hc : Calls P f #[v, u1] w fun e w' => ∃ u, e = .returned u ∧ S w' ∧ wpAnyH P md ops Q S fuel (listed.setIfInBounds i true) (a.put o.dst u) w') : wpAnyH P md ops Q S (fuel + 1) listed a w := by
 refine wpAnyH_all hr (by simp) ?_
 intro j hj
 obtain rfl : j = i := by simpa using hj
 unfold wpOp
 rw [ho]
 refine of_if hw (.inl ?_)
 have he : (execOp a.eval o).run P w = .ok (.enter f #[v, u1]) w := by
  subst hx0 hx1
  simp [execOp, hop, resolve, go_sem, invoke, eg]
 unfold Oper.wp
 rw [he]
 refine Calls.mono hc ?_
 rintro e w' ⟨u, rfl, h⟩
 exact h
theorem one_call3w {S : World → Prop} {a : Act} {w : World} {i f : Nat} {o : Oper} {listed : Array Bool} {fuel : Nat} {md : Region.Mode} (hr : Region.ready md ops listed = [i]) (ho : ops[i]? = some o) (hw : Region.wanted o (yielded ops a.tmps) = true)
  (x y z : Operand) (ts : Array TypeId) (hop : o.op = .call { callee := .value (.func f), args := #[x, y, z], argTypes := ts }) (v u1 u2 : Value) (hx0 : a.eval x = v) (hx1 : a.eval y = u1) (hx2 : a.eval z = u2) (eg : ∀ args w, (callFunc f args).run P w = .ok (.enter f args) w)
  (hc : Calls P f #[v, u1, u2] w fun e w' => ∃ u, e = .returned u ∧ S w' ∧ wpAnyH P md ops Q S fuel (listed.setIfInBounds i true) (a.put o.dst u) w') : wpAnyH P md ops Q S (fuel + 1) listed a w := by
 refine wpAnyH_all hr (by simp) ?_
 intro j hj
 obtain rfl : j = i := by simpa using hj
 unfold wpOp
 rw [ho]
 refine of_if hw (.inl ?_)
 have he : (execOp a.eval o).run P w = .ok (.enter f #[v, u1, u2]) w := by
  subst hx0 hx1 hx2
  simp [execOp, hop, resolve, go_sem, invoke, eg]
 unfold Oper.wp
 rw [he]
 refine Calls.mono hc ?_
 rintro e w' ⟨u, rfl, h⟩
 exact h
theorem one_plain {S : World → Prop} {a : Act} {w w' : World} {u : Value} {i : Nat} {o : Oper} {listed : Array Bool} {fuel : Nat} {md : Region.Mode} (hr : Region.ready md ops listed = [i]) (ho : ops[i]? = some o) (hw : Region.wanted o (yielded ops a.tmps) = true)
  (he : (execOp a.eval o).run P w = .ok (.value u) w') (hS : S w') (h : wpAnyH P md ops Q S fuel (listed.setIfInBounds i true) (a.put o.dst u) w') : wpAnyH P md ops Q S (fuel + 1) listed a w := by
 refine wpAnyH_all hr (by simp) ?_
 intro j hj
 obtain rfl : j = i := by simpa using hj
 unfold wpOp
 rw [ho]
 refine of_if hw (.inl ?_)
 unfold Oper.wp
 rw [he]
 exact ⟨hS, h⟩
theorem one_skip {S : World → Prop} {a : Act} {w w' : World} {i : Nat} {o : Oper} {listed : Array Bool} {fuel : Nat} {md : Region.Mode} (hr : Region.ready md ops listed = [i]) (ho : ops[i]? = some o) (hw : Region.wanted o (yielded ops a.tmps) = true)
  (he : (execOp a.eval o).run P w = .ok .skip w') (hS : S w') (h : wpAnyH P md ops Q S fuel (listed.setIfInBounds i true) (a.put o.dst undef) w') : wpAnyH P md ops Q S (fuel + 1) listed a w := by
 refine wpAnyH_all hr (by simp) ?_
 intro j hj
 obtain rfl : j = i := by simpa using hj
 unfold wpOp
 rw [ho]
 refine of_if hw (.inl ?_)
 unfold Oper.wp
 rw [he]
 exact ⟨hS, h⟩
end Go.Proofs.YthbcefopbmkppaaGreat.Y0
namespace Go.Proofs.YthbcefopbmkppaaGreat.T1
open Go.ChangeShapes Go.WideShapes Go.ChangeAt Go.RowKit
theorem ret_bool {a b : Bool} (h : a = b) : Ending.returned (.bool a) = .returned (.bool b) := by rw [h]
set_option maxHeartbeats 1000000 in
theorem isTaken (b off n c : Nat) (es : List T0.Ent) (x : Int) (s : ByteArray) (w : World) (hn : n ≤ es.length) (hbig : n ≤ 1048576) (hlt0 : b < w.heap.size)
  (hc : ∀ j, j < es.length → w.cell? ⟨b, off + j * 2, none⟩ = some (.int .i64 (T0.ent es j).1) ∧ w.cell? ⟨b, off + j * 2 + 1, none⟩ = some (.string (T0.ent es j).2)) :
  Calls Tryz.prog 93 #[.slice (some ⟨b, off, none⟩) n c, .agg #[.int .i64 x, .string s]] w fun e w' => e = .returned (.bool (T0.taken (es.take n) (x, s))) ∧ Below w.heap.size w w' := by
 have h0 := E2.bx_new x s w 88
 go_enter Tryz.func93, Tryz.ntmps93
 go_wp2
 go_loopw [9] (fun i w' => ∃ k : Nat, k ≤ n ∧ T0.taken (es.take k) (x, s) = false ∧ i = .int .i64 k ∧ E2.Bx w.heap.size w x s w') (fun i _ => n - (intOf i).toNat)
 case atStart => exact ⟨0, Nat.zero_le _, rfl, rfl, h0⟩
 case round =>
  obtain ⟨k, hk, hno, rfl, hbx⟩ := hrel
  clear h0
  by_cases hlt : k < n
  ·have y1 := (hbx.bel.cell (p := ⟨b, off + k * 2, none⟩) hlt0).trans (hc k (by omega)).1
   have y2 := (hbx.bel.cell (p := ⟨b, off + k * 2 + 1, none⟩) hlt0).trans (hc k (by omega)).2
   have hs := T0.taken_succ es k (x, s) (by omega)
   have hin := T0.taken_of (es := es) (e := (x, s)) hlt hn
   obtain ⟨z, ez⟩ : ∃ z, T0.ent es k = z := ⟨_, rfl⟩
   rw [ez] at y1 y2 hs hin
   obtain ⟨u, v⟩ := z
   have e1 : (0 : Int) ≤ (k : Int) := by omega
   have e2 : (k : Int) < (n : Int) := by omega
   have hb2 := hbx.alloc (.cells #[.int .i64 u, .string v] 88)
   have d0 := hb2.c0
   have d1 := hb2.c1
   clear ez hc
   by_cases h1 : (v.toList == s.toList) = true
   ·have HR : Hid (T0.taken (es.take n) (x, s) = true) := hin (by rw [T0.clash, h1]; rfl)
    clear hin hs hno
    go_wp2
    go_ret
    exact ⟨ret_bool HR.out.symm, hb2.bel⟩
   ·have h1' : (v.toList == s.toList) = false := by simpa using h1
    by_cases h2 : (u == x) = true
    ·have HR : Hid (T0.taken (es.take n) (x, s) = true) := hin (by rw [T0.clash, h1', h2]; rfl)
     clear hin hs hno h1
     go_wp2
     go_ret
     exact ⟨ret_bool HR.out.symm, hb2.bel⟩
    ·have h2' : (u == x) = false := by simpa using h2
     have HN : Hid (T0.taken (es.take (k + 1)) (x, s) = false) := by rw [hs, hno, T0.clash, h1', h2']; rfl
     clear hin hs hno h1 h2
     go_wp2
     go_roundw
     case rel => exact ⟨k + 1, by omega, HN.out, by go_num, hb2⟩
     case measure => simp [intOf]; omega
  ·obtain rfl : k = n := by omega
   have HN : Hid (T0.taken (es.take k) (x, s) = false) := hno
   clear hno hc
   go_wp2
   go_ret
   exact ⟨ret_bool HN.out.symm, hbx.bel⟩
theorem ok_lit {i : Int} {s : ByteArray} {B : Nat} {w W : World} {r : Bool} (hs : s.size ≤ 281474976710656) (hr : E0.entryOk i s = r) (h : E2.Bx B w i s W) :
  Calls Tryz.prog 92 #[.agg #[.int .i64 i, .string s]] W fun e w' => e = .returned (.bool r) ∧ E2.Bx B w i s w' :=
 (E2.impl_EntryOk_bx hs h).mono fun _ _ ⟨he, hb⟩ => ⟨by rw [he, hr], hb⟩
theorem row_at {w W : World} {b off : Nat} {es : List T0.Ent} (hlt : b < w.heap.size) (hb : Below w.heap.size w W) (hc : ∀ j, j < es.length → w.cell? ⟨b, off + j * 2, none⟩ = some (.int .i64 (T0.ent es j).1) ∧ w.cell? ⟨b, off + j * 2 + 1, none⟩ = some (.string (T0.ent es j).2)) :
  ∀ j, j < es.length → W.cell? ⟨b, off + j * 2, none⟩ = some (.int .i64 (T0.ent es j).1) ∧ W.cell? ⟨b, off + j * 2 + 1, none⟩ = some (.string (T0.ent es j).2) := fun j hj =>
 ⟨(hb.cell (p := ⟨b, off + j * 2, none⟩) hlt).trans (hc j hj).1, (hb.cell (p := ⟨b, off + j * 2 + 1, none⟩) hlt).trans (hc j hj).2⟩
theorem taken_lit (b off n c : Nat) (es : List T0.Ent) (x : Int) (s : ByteArray) (w W : World) (r : Bool) (hn : n ≤ es.length) (hbig : n ≤ 1048576) (hlt0 : b < w.heap.size) (hb : Below w.heap.size w W) (hr : T0.taken (es.take n) (x, s) = r)
  (hc : ∀ j, j < es.length → w.cell? ⟨b, off + j * 2, none⟩ = some (.int .i64 (T0.ent es j).1) ∧ w.cell? ⟨b, off + j * 2 + 1, none⟩ = some (.string (T0.ent es j).2)) :
  Calls Tryz.prog 93 #[.slice (some ⟨b, off, none⟩) n c, .agg #[.int .i64 x, .string s]] W fun e w' => e = .returned (.bool r) ∧ Below w.heap.size w w' :=
 (isTaken b off n c es x s W hn hbig (Nat.lt_of_lt_of_le hlt0 hb.size) (row_at hlt0 hb hc)).mono fun _ _ ⟨he, h2⟩ => ⟨by rw [he, hr], hb.trans (h2.mono hb.size)⟩
set_option maxHeartbeats 800000 in
theorem dirOk (a : Option Addr) (c : Nat) (es : List T0.Ent) (w : World) (hbig : es.length ≤ 1048576) (hcap : es.length ≤ c) (hfit : T0.Fits es) (hR : T0.Row w a es) :
  Calls Tryz.prog 79 #[.slice a es.length c] w fun e w' => e = .returned (.bool (T0.dirOk es)) ∧ Below w.heap.size w w' := by
 by_cases h12 : 12 < (es.length : Int)
 ·have HR : Hid (T0.dirOk es = false) := by rw [T0.dirOk, decide_eq_false (by omega : ¬ es.length ≤ 12)]; rfl
  go_enter Tryz.func79, Tryz.ntmps79
  go_wp2
  go_ret
  exact ⟨ret_bool HR.out.symm, Below.refl _ _⟩
 ·have hD : T0.dirOk es = T0.okUpto es es.length := by rw [T0.dirOk, decide_eq_true (by omega : es.length ≤ 12), Bool.true_and]
  go_enter Tryz.func79, Tryz.ntmps79
  go_wp2
  go_loopw [10] (fun i w' => ∃ k : Nat, k ≤ es.length ∧ T0.okUpto es k = true ∧ i = .int .i64 k ∧ Below w.heap.size w w') (fun i _ => es.length - (intOf i).toNat)
  case atStart => exact ⟨0, Nat.zero_le _, rfl, rfl, Below.refl _ _⟩
  case round =>
   obtain ⟨k, hk, hok, rfl, hbel⟩ := hrel
   by_cases hlt : k < es.length
   ·obtain ⟨b, off, rfl, hlt0, hc⟩ := hR.get hlt
    have y1 := (hbel.cell (p := ⟨b, off + k * 2, none⟩) hlt0).trans (hc k hlt).1
    have y2 := (hbel.cell (p := ⟨b, off + k * 2 + 1, none⟩) hlt0).trans (hc k hlt).2
    have hs := T0.okUpto_succ es k
    have hat : T0.okAt es k = (E0.entryOk (T0.ent es k).1 (T0.ent es k).2 && !(T0.taken (es.take k) (T0.ent es k))) := rfl
    have hf := hfit k hlt
    obtain ⟨z, ez⟩ : ∃ z, T0.ent es k = z := ⟨_, rfl⟩
    rw [ez] at y1 y2 hat hf
    obtain ⟨u, v⟩ := z
    simp only at y1 y2 hat hf
    have e1 : (0 : Int) ≤ (k : Int) := by omega
    have e2 : (k : Int) < (es.length : Int) := by omega
    have e3 : (k : Int) ≤ (c : Int) := by omega
    have hb1 := E2.bx_new u v wr 88
    have hbd := hb1.drew
    have hB := hbel.size
    clear ez hR hfit
    by_cases hE : E0.entryOk u v = true
    ·have hiT : Hid (∀ r W, T0.taken (es.take k) (u, v) = r → Below wr.heap.size wr W → Calls Tryz.prog 93 #[.slice (some ⟨b, off, none⟩) k c, .agg #[.int .i64 u, .string v]] W fun e w' => e = .returned (.bool r) ∧ Below w.heap.size w w') := fun r W hr hb => taken_lit b off k c es u v w W r (by omega) (by omega) hlt0 (hbel.trans (hb.mono hB)) hr hc
     by_cases hT : T0.taken (es.take k) (u, v) = true
     ·have HR : Hid (T0.dirOk es = false) := T0.dirOk_bad hlt (by rw [hat, hT, Bool.not_true, Bool.and_false])
      clear hs hat hok hc hD
      go_wp2
      go_region_with (first
       | (go_at_call 92; refine (ok_lit (by omega) hE hbd).mono ?_; rintro e w4 ⟨rfl, h4⟩; have x0 := h4.c0; have x1 := h4.c1)
       | (go_at_call 93; refine (hiT.out _ _ hT h4.bel).mono ?_; rintro e w5 ⟨rfl, b5⟩))
      all_goals
       go_wp2
       go_ret
       exact ⟨ret_bool HR.out.symm, b5⟩
     ·have hT' : T0.taken (es.take k) (u, v) = false := by simpa using hT
      have HO : Hid (T0.okUpto es (k + 1) = true) := by rw [hs, hok, hat, hE, hT']; rfl
      clear hs hat hok hc hD hT
      go_wp2
      go_region_with (first
       | (go_at_call 92; refine (ok_lit (by omega) hE hbd).mono ?_; rintro e w4 ⟨rfl, h4⟩; have x0 := h4.c0; have x1 := h4.c1)
       | (go_at_call 93; refine (hiT.out _ _ hT' h4.bel).mono ?_; rintro e w5 ⟨rfl, b5⟩))
      all_goals
       go_wp2
       go_roundw
       case rel => exact ⟨k + 1, by omega, HO.out, by go_num, b5⟩
       case measure => simp [intOf]; omega
    ·have hE' : E0.entryOk u v = false := by simpa using hE
     have HR : Hid (T0.dirOk es = false) := T0.dirOk_bad hlt (by rw [hat, hE']; rfl)
     clear hs hat hok hc hD hE
     go_wp2
     have hS0 : (wr.alloc (.cells #[.int .i64 u, .string v] 88)).drew.cell? ⟨wr.heap.size, 0, none⟩ = some (.int .i64 u) ∧ (wr.alloc (.cells #[.int .i64 u, .string v] 88)).drew.cell? ⟨wr.heap.size, 1, none⟩ = some (.string v) := ⟨hbd.c0, hbd.c1⟩
     refine wp_region_held (S := fun W => W.cell? ⟨wr.heap.size, 0, none⟩ = some (.int .i64 u) ∧ W.cell? ⟨wr.heap.size, 1, none⟩ = some (.string v)) (by kernel_rfl) ?_
     refine wpAnyH_take (i := 0) (v := .agg #[.int .i64 u, .string v]) rfl (by kernel_rfl) (by kernel_rfl) (by kernel_rfl) (fun _ _ _ h => h) (Or.inl ⟨by rfl, fun w' hS' => ?_⟩) hS0 ?_
     ·obtain ⟨s0, s1⟩ := hS'
      go_simp
     simp only [BZ.z, Act.put, Nat.reduceAdd]
     refine Y0.one_call (i := 1) (by kernel_rfl) rfl rfl (.tmp 15) _ rfl (.agg #[.int .i64 u, .string v]) (by rfl) (enters_of Tryz.func92 (by kernel_rfl) rfl) ((ok_lit (by omega) hE' hbd).mono ?_)
     rintro e w4 ⟨rfl, h4⟩
     have hS4 : w4.cell? ⟨wr.heap.size, 0, none⟩ = some (.int .i64 u) ∧ w4.cell? ⟨wr.heap.size, 1, none⟩ = some (.string v) := ⟨h4.c0, h4.c1⟩
     refine ⟨_, rfl, hS4, ?_⟩
     simp only [BZ.z, Act.put, Nat.reduceAdd]
     refine wpAnyH_take (i := 2) (v := .bool true) rfl (by kernel_rfl) (by kernel_rfl) (by kernel_rfl) (fun _ _ _ h => h) (Or.inl ⟨by rfl, fun w' hS' => by rfl⟩) hS4 ?_
     simp only [BZ.z, Act.put, Nat.reduceAdd]
     refine wpAnyH_take (i := 3) (v := .bool true) rfl (by kernel_rfl) (by kernel_rfl) (by kernel_rfl) (fun _ _ _ h => h) (Or.inl ⟨by rfl, fun w' hS' => by rfl⟩) hS4 ?_
     simp only [BZ.z, Act.put, Nat.reduceAdd]
     refine wpAnyH_take (i := 4) (v := undef) rfl (by kernel_rfl) (by kernel_rfl) (by kernel_rfl) (fun _ _ _ h => h) (Or.inr ⟨by rfl, rfl⟩) hS4 ?_
     simp only [BZ.z, Act.put, Nat.reduceAdd]
     refine wpAnyH_take (i := 5) (v := undef) rfl (by kernel_rfl) (by kernel_rfl) (by kernel_rfl) (fun _ _ _ h => h) (Or.inr ⟨by rfl, rfl⟩) hS4 ?_
     simp only [BZ.z, Act.put, Nat.reduceAdd]
     refine wpAnyH_take (i := 6) (v := undef) rfl (by kernel_rfl) (by kernel_rfl) (by kernel_rfl) (fun _ _ _ h => h) (Or.inr ⟨by rfl, rfl⟩) hS4 ?_
     simp only [BZ.z, Act.put, Nat.reduceAdd]
     refine wpAnyH_take (i := 7) (v := undef) rfl (by kernel_rfl) (by kernel_rfl) (by kernel_rfl) (fun _ _ _ h => h) (Or.inr ⟨by rfl, rfl⟩) hS4 ?_
     simp only [BZ.z, Act.put, Nat.reduceAdd]
     refine wpAnyH_take (i := 8) (v := undef) rfl (by kernel_rfl) (by kernel_rfl) (by kernel_rfl) (fun _ _ _ h => h) (Or.inr ⟨by rfl, rfl⟩) hS4 ?_
     simp only [BZ.z, Act.put, Nat.reduceAdd]
     refine wpAnyH_take (i := 9) (v := .bool true) rfl (by kernel_rfl) (by kernel_rfl) (by kernel_rfl) (fun _ _ _ h => h) (Or.inl ⟨by rfl, fun w' hS' => by rfl⟩) hS4 ?_
     simp only [BZ.z, Act.put, Nat.reduceAdd]
     refine wpAnyH_done (by kernel_rfl) ?_ _
     all_goals
      go_wp2
      go_ret
      exact ⟨ret_bool HR.out.symm, hbel.trans (h4.bel.mono hB)⟩
   ·obtain rfl : k = es.length := by omega
    have HR : Hid (T0.dirOk es = true) := by rw [hD, hok]; rfl
    clear hok hD hR
    go_wp2
    go_ret
    exact ⟨ret_bool HR.out.symm, hbel⟩
end Go.Proofs.YthbcefopbmkppaaGreat.T1
namespace Go.Proofs.YthbcefopbmkppaaGreat.T2
open Go.ChangeShapes Go.WideShapes Go.ChangeAt Go.RowKit
theorem ret_str {a b : ByteArray} (h : a = b) : Ending.returned (.string a) = .returned (.string b) := by rw [h]
theorem dir_lit {a : Option Addr} {c : Nat} {es : List T0.Ent} {W : World} {r : Bool} (hbig : es.length ≤ 1048576) (hcap : es.length ≤ c) (hfit : T0.Fits es) (hR : T0.Row W a es) (hr : T0.dirOk es = r) :
  Calls Tryz.prog 79 #[.slice a es.length c] W fun e w' => e = .returned (.bool r) ∧ Below W.heap.size W w' := (T1.dirOk a c es W hbig hcap hfit hR).mono fun _ _ h => ⟨by rw [h.1, hr], h.2⟩
end Go.Proofs.YthbcefopbmkppaaGreat.T2
namespace Go.Proofs.YthbcefopbmkppaaGreat.T3
open Go.ChangeShapes Go.WideShapes Go.ChangeAt Go.RowKit
open T2 (ret_str)
theorem putE_empty {i : Int} {s : ByteArray} (h : E0.entryOk i s = false) : (E0.putE i s).toList.isEmpty = true := by
 rw [E0.putE, if_neg (by rw [h]; decide), Lib.toList_data]
 rfl
theorem putE_full {i : Int} {s : ByteArray} (h : E0.entryOk i s = true) : (E0.putE i s).toList.isEmpty = false := by
 have := T0.putE_size16 h
 rw [Lib.toList_data]
 cases hl : (E0.putE i s).data.toList with
 | nil => rw [Lib.size_eq, hl] at this; simp at this
 | cons x r => rfl
set_option maxHeartbeats 4000000 in
theorem spec_PutDir (a : Option Addr) (c : Nat) (es : List T0.Ent) (w : World) (hbig : es.length ≤ 1048576) (hcap : es.length ≤ c) (hfit : T0.Fits es) (hR : T0.Row w a es) :
  Calls Tryz.prog 56 #[.slice a es.length c] w fun e w' => e = .returned (.string (T0.putD es)) ∧ Below w.heap.size w w' := by
 have HB : Hid (∀ k, k < es.length → T0.okAt es k = false → T0.putD es = ⟨#[]⟩) := fun k hk h => by rw [T0.putD, T0.dirOk_bad hk h]; rfl
 have HL : Hid (12 < es.length → T0.putD es = ⟨#[]⟩) := fun h => by rw [T0.putD, T0.dirOk, decide_eq_false (by omega : ¬ es.length ≤ 12)]; rfl
 have HY : Hid (es.length ≤ 12 → T0.okUpto es es.length = true → T0.putD es = T0.joined es es.length) := fun h1 h2 => by rw [T0.putD, T0.dirOk, decide_eq_true h1, h2]; rfl
 go_enter Tryz.func56, Tryz.ntmps56
 go_wp2
 go_loopw [3, 4] (fun t i w' => ∃ j : Nat, j ≤ es.length ∧ (j = 0 ∨ es.length ≤ 12) ∧ T0.okUpto es j = true ∧ i = .int .i64 j ∧ t = .string (T0.joined es j) ∧ Below w.heap.size w w') (fun _ i _ => es.length - (intOf i).toNat)
 case atStart => exact ⟨0, Nat.zero_le _, Or.inl rfl, rfl, rfl, rfl, Below.refl _ _⟩
 case round =>
  obtain ⟨j, hj, h12, hok, rfl, rfl, hbel⟩ := hrel
  by_cases hlt : j < es.length
  ·obtain ⟨b, off, rfl, hlt0, hc⟩ := (hR.below hbel).get hlt
   have y1 := (hc j hlt).1
   have y2 := (hc j hlt).2
   have hs := T0.okUpto_succ es j
   have hat : T0.okAt es j = (E0.entryOk (T0.ent es j).1 (T0.ent es j).2 && !(T0.taken (es.take j) (T0.ent es j))) := rfl
   have hf := hfit j hlt
   have hu : T0.joined es (j + 1) = T0.joined es j ++ E0.putE (T0.ent es j).1 (T0.ent es j).2 := rfl
   have hjs := T0.joined_size hok j (Nat.le_refl _)
   have hbad := HB.out j hlt
   have hin := fun k (hk : k < j) => T0.taken_of (es := es) (e := T0.ent es j) hk hj
   have hts := fun k (hk : k < es.length) => T0.taken_succ es k (T0.ent es j) hk
   obtain ⟨z, ez⟩ : ∃ z, T0.ent es j = z := ⟨_, rfl⟩
   rw [ez] at y1 y2 hat hf hu hin hts
   obtain ⟨u, v⟩ := z
   simp only at y1 y2 hat hf hu
   have e1 : (0 : Int) ≤ (j : Int) := by omega
   have e2 : (j : Int) < (es.length : Int) := by omega
   clear ez hR hfit HB
   go_wp2
   go_loopw [5] (fun i w' => ∃ k m : Nat, k ≤ j ∧ T0.taken (es.take k) (u, v) = false ∧ i = .int .i64 k ∧ w' = wr.drewN m) (fun i _ => j - (intOf i).toNat)
   case atStart => exact ⟨0, 0, Nat.zero_le _, rfl, rfl, rfl⟩
   case round =>
    obtain ⟨k, m, hk, hno, rfl, hW⟩ := hrel
    have x1 : wr.cell? ⟨b, off + j * 2, none⟩ = some (.int .i64 u) := by rw [hW]; exact y1
    have x2 : wr.cell? ⟨b, off + j * 2 + 1, none⟩ = some (.string v) := by rw [hW]; exact y2
    have HW : Below w.heap.size w wr := by rw [hW]; exact K0.below_drewN hbel m
    have HD : Hid (wr = _) := hW
    by_cases hlk : k < j
    ·have x3 : wr.cell? ⟨b, off + k * 2, none⟩ = some (.int .i64 (T0.ent es k).1) := by rw [hW]; exact (hc k (by omega)).1
     have x4 : wr.cell? ⟨b, off + k * 2 + 1, none⟩ = some (.string (T0.ent es k).2) := by rw [hW]; exact (hc k (by omega)).2
     have hin1 := hin k hlk
     have hts1 := hts k (by omega)
     obtain ⟨z, ez⟩ : ∃ z, T0.ent es k = z := ⟨_, rfl⟩
     rw [ez] at x3 x4 hin1 hts1
     obtain ⟨p, q⟩ := z
     simp only at x3 x4
     have f1 : (0 : Int) ≤ (k : Int) := by omega
     have f2 : (k : Int) < (es.length : Int) := by omega
     have f3 : (k : Int) < (j : Int) := by omega
     clear ez hc y1 y2 hW hin hts
     by_cases h1 : (q.toList == v.toList) = true
     ·have HR : Hid (T0.putD es = ⟨#[]⟩) := hbad (by rw [hat, hin1 (by rw [T0.clash, h1]; rfl), Bool.not_true, Bool.and_false])
      clear hin1 hts1 hat hbad hs hok hu
      go_wp2
      go_quiet (fail)
      go_wp2
      go_ret
      exact ⟨ret_str HR.out.symm, K0.below_drewN HW _⟩
     ·have h1' : (q.toList == v.toList) = false := by simpa using h1
      by_cases h2 : (p == u) = true
      ·have HR : Hid (T0.putD es = ⟨#[]⟩) := hbad (by rw [hat, hin1 (by rw [T0.clash, h1', h2]; rfl), Bool.not_true, Bool.and_false])
       clear hin1 hts1 hat hbad hs hok hu h1
       go_wp2
       go_quiet (fail)
       go_wp2
       go_ret
       exact ⟨ret_str HR.out.symm, K0.below_drewN HW _⟩
      ·have h2' : (p == u) = false := by simpa using h2
       have HN : Hid (T0.taken (es.take (k + 1)) (u, v) = false) := by rw [hts1, hno, T0.clash, h1', h2']; rfl
       clear hin1 hts1 hat hbad hs hok hu h1 h2 hno
       go_wp2
       go_quiet (fail)
       go_wp2
       go_roundw
       case rel => exact ⟨k + 1, m + nq, by omega, HN.out, by go_num, by rw [HD.out, World.drewN_drewN]⟩
       case measure => simp [intOf]; omega
    ·obtain rfl : k = j := by omega
     clear hc y1 y2 hW HD hin hts
     by_cases hE : E0.entryOk u v = true
     ·have g1 := putE_full hE
      have hps := T0.putE_size16 hE
      by_cases hl : 12 < es.length
      ·have HR : Hid (T0.putD es = ⟨#[]⟩) := HL.out hl
       have hl' : 12 < (es.length : Int) := by omega
       clear hat hbad hs hok hu hno
       go_wp2_with (go_at_call 74; refine (E2.spec_PutEntry u v _ hf).mono ?_; rintro e w2 ⟨rfl, b2⟩)
       go_ret
       exact ⟨ret_str HR.out.symm, HW.trans (b2.mono HW.size)⟩
      ·have hl' : ¬ 12 < (es.length : Int) := by omega
       have hl'' : decide (12 < (es.length : Int)) = false := by simpa using hl'
       have HO : Hid (T0.okUpto es (k + 1) = true) := by rw [hs, hok, hat, hE, hno]; rfl
       have HU : Hid (T0.joined es (k + 1) = T0.joined es k ++ E0.putE u v) := hu
       have zz : (T0.joined es k).size + (E0.putE u v).size ≤ 9223372036854775807 := by omega
       have zz2 : 16 * k + 16 ≤ 9223372036854775807 := by omega
       clear hat hbad hs hok hu hno
       go_wp2_with (go_at_call 74; refine (E2.spec_PutEntry u v _ hf).mono ?_; rintro e w2 ⟨rfl, b2⟩)
       go_roundw
       case rel => exact ⟨k + 1, by omega, Or.inr (by omega), HO.out, by go_num, by rw [HU.out], HW.trans (b2.mono HW.size)⟩
       case measure => simp [intOf]; omega
     ·have hE' : E0.entryOk u v = false := by simpa using hE
      have g1 := putE_empty hE'
      have HR : Hid (T0.putD es = ⟨#[]⟩) := hbad (by rw [hat, hE']; rfl)
      clear hat hbad hs hok hu hno
      go_wp2_with (go_at_call 74; refine (E2.spec_PutEntry u v _ hf).mono ?_; rintro e w2 ⟨rfl, b2⟩)
      go_ret
      exact ⟨ret_str HR.out.symm, HW.trans (b2.mono HW.size)⟩
  ·obtain rfl : j = es.length := by omega
   have HP : Hid (T0.putD es = T0.joined es es.length) := by
    show T0.putD es = T0.joined es es.length
    rcases h12 with h | h
    ·exact HY.out (by omega) hok
    ·exact HY.out h hok
   clear hok hR hfit h12 HB HL HY
   go_wp2
   go_ret
   exact ⟨ret_str HP.out.symm, hbel⟩
end Go.Proofs.YthbcefopbmkppaaGreat.T3
namespace Go.Proofs.YthbcefopbmkppaaGreat.T5
open Go.ChangeShapes Go.WideShapes Go.ChangeAt Go.RowKit
theorem info33 : (Tryz.prog.info? 88).map (fun i => (i.zero, i.size, i.bytes)) = some (some (.agg #[.int .i64 0, .string ⟨#[]⟩]), 2, 24) := by kernel_rfl
structure Mk (g n : Nat) (es : List T0.Ent) (k : Nat) (W : World) : Prop where
 done : ∀ j, j < k → W.cell? ⟨g, j * 2, none⟩ = some (.int .i64 (T0.ent es j).1) ∧ W.cell? ⟨g, j * 2 + 1, none⟩ = some (.string (T0.ent es j).2)
 there : ∀ j, j < n * 2 → (W.cell? ⟨g, j, none⟩).isSome = true
 free : ∀ j, j < n * 2 → W.frozen? ⟨g, j, none⟩ = false
 lt : g < W.heap.size
variable {g n k : Nat} {es : List T0.Ent} {w W W' : World}
theorem Mk.below (h : Mk g n es k W) (hb : Below W.heap.size W W') : Mk g n es k W' :=
  ⟨fun j hj => ⟨(hb.cell (p := ⟨g, j * 2, none⟩) h.lt).trans (h.done j hj).1, (hb.cell (p := ⟨g, j * 2 + 1, none⟩) h.lt).trans (h.done j hj).2⟩,
   fun j hj => by rw [hb.cell (p := ⟨g, j, none⟩) h.lt]; exact h.there j hj, fun j hj => (hb.frozen (p := ⟨g, j, none⟩) h.lt).trans (h.free j hj), Nat.lt_of_lt_of_le h.lt hb.size⟩
theorem some_set {W : World} {p x : Addr} {v : Value} (h : (W.cell? x).isSome = true) : ((W.setCell p v).cell? x).isSome = true := by
 by_cases e : p = x
 ·subst e
  obtain ⟨u, hu⟩ := Option.isSome_iff_exists.1 h
  rw [World.cell?_setCell_same _ _ _ hu]
  rfl
 ·rw [World.cell?_setCell_other _ _ _ _ e]
  exact h
theorem Mk.step (h : Mk g n es k W) (hk : k < n) {u : Int} {v : ByteArray} (he : T0.ent es k = (u, v)) : Mk g n es (k + 1) ((W.setCell ⟨g, k * 2, none⟩ (.int .i64 u)).setCell ⟨g, k * 2 + 1, none⟩ (.string v)) := by
 obtain ⟨x, hx⟩ := Option.isSome_iff_exists.1 (h.there (k * 2) (by omega))
 obtain ⟨y, hy⟩ := Option.isSome_iff_exists.1 (h.there (k * 2 + 1) (by omega))
 have n1 : (⟨g, k * 2 + 1, none⟩ : Addr) ≠ ⟨g, k * 2, none⟩ := by simp
 refine ⟨fun j hj => ?_, fun j hj => some_set (some_set (h.there j hj)), fun j hj => ?_, ?_⟩
 ·by_cases e : j = k
  ·subst e
   rw [he]
   refine ⟨?_, ?_⟩
   ·rw [World.cell?_setCell_other _ _ _ _ n1, World.cell?_setCell_same _ _ _ hx]
   ·rw [World.cell?_setCell_same _ _ _ ((World.cell?_setCell_other _ _ _ _ n1.symm).trans hy)]
  ·have hd := h.done j (by omega)
   refine ⟨?_, ?_⟩
   ·rw [World.cell?_setCell_other _ _ _ _ (by intro q; have := (Addr.mk.inj q).2.1; omega), World.cell?_setCell_other _ _ _ _ (by intro q; have := (Addr.mk.inj q).2.1; omega)]
    exact hd.1
   ·rw [World.cell?_setCell_other _ _ _ _ (by intro q; have := (Addr.mk.inj q).2.1; omega), World.cell?_setCell_other _ _ _ _ (by intro q; have := (Addr.mk.inj q).2.1; omega)]
    exact hd.2
 ·rw [World.frozen?_setCell, World.frozen?_setCell]
  exact h.free j hj
 ·have := h.lt
  simpa [World.setCell] using this
end Go.Proofs.YthbcefopbmkppaaGreat.T5
namespace Go.Proofs.YthbcefopbmkppaaGreat.V1
open Go.ChangeShapes Go.WideShapes Go.ChangeAt Go.RowKit
def flat : List T0.Ent → List Value
 | [] => []
 | e :: r => .int .i64 e.1 :: .string e.2 :: flat r
theorem flat_append : ∀ (es : List T0.Ent) (e : T0.Ent), flat es ++ [.int .i64 e.1, .string e.2] = flat (es ++ [e])
 | [], e => rfl
 | x :: r, e => by simp [flat, ← flat_append r e]
theorem flat_get : ∀ (es : List T0.Ent) (j : Nat), j < es.length → (flat es)[j * 2]? = some (.int .i64 (T0.ent es j).1) ∧ (flat es)[j * 2 + 1]? = some (.string (T0.ent es j).2)
 | [], j, h => by simp at h
 | e :: r, 0, _ => ⟨rfl, rfl⟩
 | e :: r, j + 1, h => by
  have := flat_get r j (by simpa using h)
  have e1 : (j + 1) * 2 = j * 2 + 1 + 1 := by omega
  have e2 : T0.ent (e :: r) (j + 1) = T0.ent r j := rfl
  rw [e1, e2]
  exact this
def EBuf (base : Nat) (w : World) (a : Option Addr) (n cap : Nat) (es : List T0.Ent) : Prop := n = es.length ∧ w.ownsRow base 88 2 (.slice a n cap) n (flat es)
variable {base n cap : Nat} {a : Option Addr} {w W : World} {es : List T0.Ent}
theorem EBuf.below (h : EBuf base w a n cap es) (hb : Below w.heap.size w W) : EBuf base W a n cap es := ⟨h.1, F0.owns_below h.2 hb⟩
theorem EBuf.alloc (h : EBuf base w a n cap es) (o : Obj) : EBuf base (w.alloc o) a n cap es := h.below ((Below.refl _ _).alloc (Nat.le_refl _) o)
theorem ebuf_made (w : World) (hb : base ≤ w.heap.size) : EBuf base (w.alloc (.cells #[] 88)) (some ⟨w.heap.size, 0, none⟩) 0 0 [] := ⟨rfl, World.ownsRow_made w #[] 0 hb (Nat.zero_le _) rfl⟩
theorem EBuf.fits (h : EBuf base w a n cap es) : n ≤ cap := by
 rcases h.2.2 with ⟨h0, h1⟩ | ⟨g, c, cur, hv, _, _, hle, _⟩
 ·omega
 ·simp at hv
  omega
def OwnE (base : Nat) (W : World) (a : Option Addr) (es : List T0.Ent) : Prop := es = [] ∨ ∃ g, a = some ⟨g, 0, none⟩ ∧ base ≤ g ∧ T5.Mk g es.length es es.length W
theorem EBuf.own (h : EBuf base w a n cap es) : OwnE base w a es := by
 rcases h.2.2 with ⟨h0, h1⟩ | ⟨g, c, cur, hv, hg, hc, hle, _, hs, ht⟩
 ·left
  exact List.eq_nil_of_length_eq_zero (by rw [← h.1]; exact h1)
 ·right
  simp at hv
  have hcell : ∀ j, w.cell? ⟨g, j, none⟩ = cur[j]? := fun j => by
   unfold World.cell?
   rw [hc]
   simp
  have hn := h.1
  have hget : ∀ j, j < n * 2 → cur[j]? = (flat es)[j]? := fun j hj => by
   have e1 : (cur.toList.take (n * 2))[j]? = (flat es)[j]? := by rw [ht]
   rw [List.getElem?_take_of_lt hj] at e1
   rw [← Array.getElem?_toList, e1]
  refine ⟨g, hv.1, hg, ⟨fun j hj => ?_, fun j hj => ?_, fun j hj => ?_, (Array.getElem?_eq_some_iff.1 hc).1⟩⟩
  ·have := flat_get es j hj
   rw [hcell, hcell, hget _ (by omega), hget _ (by omega)]
   exact this
  ·rw [hcell]
   have : j < cur.size := by omega
   simp [this]
  ·unfold World.frozen?
   rw [hc]
   simp
theorem OwnE.row (h : OwnE base W a es) : T0.Row W a es := by
 rcases h with h | ⟨g, rfl, _, hm⟩
 ·exact Or.inl h
 ·exact Or.inr ⟨g, 0, rfl, hm.lt, fun j hj => by rw [Nat.zero_add]; exact hm.done j hj⟩
theorem OwnE.below {W' : World} (h : OwnE base W a es) (hb : Below W.heap.size W W') : OwnE base W' a es := h.imp id fun ⟨g, e, hg, hk⟩ => ⟨g, e, hg, hk.below hb⟩
theorem OwnE.mono {base' : Nat} (h : OwnE base W a es) (hb : base' ≤ base) : OwnE base' W a es := h.imp id fun ⟨g, e, hg, hk⟩ => ⟨g, e, Nat.le_trans hb hg, hk⟩
theorem one_ent (u : Int) (v : ByteArray) : ∀ x ∈ [Value.int .i64 u, .string v], x.oneCell' = true := by
 intro x h
 simp at h
 rcases h with rfl | rfl <;> rfl
theorem append_ent {ops : Array Oper} {rest : List Oper} {o : Oper} {A : Act} {Q : Exit → Act → World → Prop} (hgd : o.guard = none) (sl x : Operand)
  (ho : o.op = .call { callee := .builtin .append, args := #[sl, x], argTypes := #[56, 56] })
  (hbuf : EBuf base w a n cap es) (u : Int) (v : ByteArray) (hs : A.eval sl = .slice a n cap) {H : Nat} (hH : w.heap.size = H) (hx : A.eval x = .slice (some ⟨H, 0, none⟩) 1 1) (hlen : n + 1 ≤ 1048576) (hb : base ≤ w.heap.size)
  (h : ∀ g' cap' w', EBuf base w' (some ⟨g', 0, none⟩) (n + 1) cap' (es ++ [(u, v)]) → Below base w w' → wpList Tryz.prog ops Q rest (A.put o.dst (.slice (some ⟨g', 0, none⟩) (n + 1) cap')) w') : wpList Tryz.prog ops Q (o :: rest) A (w.alloc (.cells #[.int .i64 u, .string v] 88)) := by
 subst hH
 obtain ⟨i0, hi, hz0, hz1, hz2⟩ := info_parts T5.info33
 have hb2 := hbuf.alloc (.cells #[.int .i64 u, .string v] 88)
 refine wpList_append_lies _ hgd sl x 56 ho base 88 i0 (.agg #[.int .i64 0, .string ⟨#[]⟩]) 2 24 Tryz.underlying56 hi hz0 hz1 hz2 rfl (by omega) _ n _ hs hb2.2 ⟨w.heap.size, 0, none⟩ 1 1 [.int .i64 u, .string v] hx rfl (World.news_of_block (heap_alloc_new w _)) (one_ent u v) (by omega) (by unfold maxLen; omega) (by omega) (by simp; omega) _ rfl ?_
 intro g' cap' w' ho' hg' _ _
 refine h g' cap' w' ⟨by rw [hbuf.1]; simp, ?_⟩ ?_
 ·rw [← flat_append]
  exact ho'
 ·exact F0.below_grown ((Below.refl _ _).alloc hb _) hg' (fun g hg => (hbuf.2.lt g hg).1) (by simp; omega)
def Ans (s : ByteArray) (w : World) (e : Ending) (w' : World) : Prop :=
 ∃ a c, e = .returned (.tuple #[.slice a (V0.dE s).length c, .bool (V0.isD s)]) ∧ OwnE w.heap.size w' a (V0.dE s) ∧ (V0.dE s).length ≤ c ∧ Below w.heap.size w w'
theorem ans_no {s : ByteArray} {w w' : World} {a : Option Addr} {c : Nat} (h : V0.isD s = false) (hb : Below w.heap.size w w') : Ans s w (.returned (.tuple #[.slice a 0 c, .bool false])) w' := by
 have hd : V0.dE s = [] := by rw [V0.dE, h]; rfl
 exact ⟨a, c, by rw [hd, h]; rfl, by rw [hd]; exact Or.inl rfl, by rw [hd]; exact Nat.zero_le _, hb⟩
theorem ans_yes {s : ByteArray} {w w' : World} {a : Option Addr} {c : Nat} (h : V0.isD s = true) (ho : OwnE w.heap.size w' a (V0.ents s (V0.cnt s))) (hc : V0.cnt s ≤ c) (hb : Below w.heap.size w w') : Ans s w (.returned (.tuple #[.slice a (V0.cnt s) c, .bool true])) w' := by
 have hd : V0.dE s = V0.ents s (V0.cnt s) := by rw [V0.dE, h]; rfl
 exact ⟨a, c, by rw [hd, h, V0.ents_length], by rw [hd]; exact ho, by rw [hd, V0.ents_length]; exact hc, hb⟩
theorem name_size (x : ByteArray) : (E4.eName x).size ≤ x.size := by
 unfold E4.eName
 split
 ·exact B2.part_size _ _ _
 ·exact Nat.zero_le _
theorem fits_ents (s : ByteArray) (k : Nat) (hs : s.size ≤ 281474976710656) : T0.Fits (V0.ents s k) := fun j hj => by
 rw [V0.ents_length] at hj
 rw [V0.ents_get s k j hj]
 have h1 := name_size (V0.chunk s j)
 have h2 := B2.part_size s ((j : Int) * 16) 16
 have h3 : (V0.chunk s j).size ≤ s.size := h2
 simp only
 omega
end Go.Proofs.YthbcefopbmkppaaGreat.V1
