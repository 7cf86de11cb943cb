/- Joined texts: plain facts and contracts, as each part says. -/
import Derived.OrdersHeld
import Derived.WalkKit
import Derived.Handy
import Derived.Test.YtdljajjgppcjpaaGreatJkA
import Derived.Shelf.Abstract
import Derived.Deep.QuietTactic
import Derived.BigQuiet
import Derived.Deep.RegionHeld3
import Derived.Test.YtdljajjgppcjpaaGreatJkC
import Derived.Laws.MakeOwn
import Derived.Deep.SlicePairs
import Derived.Test.YtdljajjgppcjpaaGreatJkD

/- A call that alone may come up in a region that draws its order. -/
namespace Go.Proofs.YtdljajjgppcjpaaGreat.Y0
open Go.RowKit
set_option linter.unusedVariables false
set_option linter.unusedSimpArgs false
variable {P : Program} {Q : Exit → Act → World → Prop} {ops : Array Oper}

theorem of_if {c : Prop} [Decidable c] {p q : Prop} (hc : c) (hp : p) : if c then p else q := by rw [if_pos hc]; exact hp

/-- A call of one argument that alone may come up. -/
theorem one_call {S : World → Prop} {a : Act} {w : World} {i f : Nat} {o : Oper} {listed : Array Bool} {fuel : Nat} {md : Region.Mode} (hr : Region.ready md ops listed = [i]) (ho : ops[i]? = some o) (hg : o.guard = none)
    (x : Operand) (ts : Array TypeId) (hop : o.op = .call { callee := .value (.func f), args := #[x], argTypes := ts }) (v : Value) (hx : a.eval x = v) (eg : ∀ args w, (callFunc f args).run P w = .ok (.enter f args) w)
    (hc : Calls P f #[v] w fun e w' => ∃ u, e = .returned u ∧ S w' ∧ wpAnyH P md ops Q S fuel (listed.setIfInBounds i true) (a.put o.dst u) w') : wpAnyH P md ops Q S (fuel + 1) listed a w := by
  refine wpAnyH_all hr (by simp) ?_
  intro j hj
  obtain rfl : j = i := by simpa using hj
  unfold wpOp
  rw [ho]
  refine of_if (by rw [Region.wanted, hg]) (.inl ?_)
  have he : (execOp a.eval o).run P w = .ok (.enter f #[v]) w := by
    subst hx
    simp [execOp, hop, resolve, go_sem, invoke, eg]
  unfold Oper.wp
  rw [he]
  refine Calls.mono hc ?_
  rintro e w' ⟨u, rfl, h⟩
  exact h

/-- .. where it is guarded, and the guard holds. -/
theorem one_callw {S : World → Prop} {a : Act} {w : World} {i f : Nat} {o : Oper} {listed : Array Bool} {fuel : Nat} {md : Region.Mode} (hr : Region.ready md ops listed = [i]) (ho : ops[i]? = some o) (hw : Region.wanted o (yielded ops a.tmps) = true)
    (x : Operand) (ts : Array TypeId) (hop : o.op = .call { callee := .value (.func f), args := #[x], argTypes := ts }) (v : Value) (hx : a.eval x = v) (eg : ∀ args w, (callFunc f args).run P w = .ok (.enter f args) w)
    (hc : Calls P f #[v] w fun e w' => ∃ u, e = .returned u ∧ S w' ∧ wpAnyH P md ops Q S fuel (listed.setIfInBounds i true) (a.put o.dst u) w') : wpAnyH P md ops Q S (fuel + 1) listed a w := by
  refine wpAnyH_all hr (by simp) ?_
  intro j hj
  obtain rfl : j = i := by simpa using hj
  unfold wpOp
  rw [ho]
  refine of_if hw (.inl ?_)
  have he : (execOp a.eval o).run P w = .ok (.enter f #[v]) w := by
    subst hx
    simp [execOp, hop, resolve, go_sem, invoke, eg]
  unfold Oper.wp
  rw [he]
  refine Calls.mono hc ?_
  rintro e w' ⟨u, rfl, h⟩
  exact h

theorem one_call2w {S : World → Prop} {a : Act} {w : World} {i f : Nat} {o : Oper} {listed : Array Bool} {fuel : Nat} {md : Region.Mode} (hr : Region.ready md ops listed = [i]) (ho : ops[i]? = some o) (hw : Region.wanted o (yielded ops a.tmps) = true)
    (x y : Operand) (ts : Array TypeId) (hop : o.op = .call { callee := .value (.func f), args := #[x, y], argTypes := ts }) (v u1 : Value) (hx0 : a.eval x = v) (hx1 : a.eval y = u1) (eg : ∀ args w, (callFunc f args).run P w = .ok (.enter f args) w)
    (hc : Calls P f #[v, u1] w fun e w' => ∃ u, e = .returned u ∧ S w' ∧ wpAnyH P md ops Q S fuel (listed.setIfInBounds i true) (a.put o.dst u) w') : wpAnyH P md ops Q S (fuel + 1) listed a w := by
  refine wpAnyH_all hr (by simp) ?_
  intro j hj
  obtain rfl : j = i := by simpa using hj
  unfold wpOp
  rw [ho]
  refine of_if hw (.inl ?_)
  have he : (execOp a.eval o).run P w = .ok (.enter f #[v, u1]) w := by
    subst hx0 hx1
    simp [execOp, hop, resolve, go_sem, invoke, eg]
  unfold Oper.wp
  rw [he]
  refine Calls.mono hc ?_
  rintro e w' ⟨u, rfl, h⟩
  exact h

theorem one_call3w {S : World → Prop} {a : Act} {w : World} {i f : Nat} {o : Oper} {listed : Array Bool} {fuel : Nat} {md : Region.Mode} (hr : Region.ready md ops listed = [i]) (ho : ops[i]? = some o) (hw : Region.wanted o (yielded ops a.tmps) = true)
    (x y z : Operand) (ts : Array TypeId) (hop : o.op = .call { callee := .value (.func f), args := #[x, y, z], argTypes := ts }) (v u1 u2 : Value) (hx0 : a.eval x = v) (hx1 : a.eval y = u1) (hx2 : a.eval z = u2) (eg : ∀ args w, (callFunc f args).run P w = .ok (.enter f args) w)
    (hc : Calls P f #[v, u1, u2] w fun e w' => ∃ u, e = .returned u ∧ S w' ∧ wpAnyH P md ops Q S fuel (listed.setIfInBounds i true) (a.put o.dst u) w') : wpAnyH P md ops Q S (fuel + 1) listed a w := by
  refine wpAnyH_all hr (by simp) ?_
  intro j hj
  obtain rfl : j = i := by simpa using hj
  unfold wpOp
  rw [ho]
  refine of_if hw (.inl ?_)
  have he : (execOp a.eval o).run P w = .ok (.enter f #[v, u1, u2]) w := by
    subst hx0 hx1 hx2
    simp [execOp, hop, resolve, go_sem, invoke, eg]
  unfold Oper.wp
  rw [he]
  refine Calls.mono hc ?_
  rintro e w' ⟨u, rfl, h⟩
  exact h

/-- Another operation that alone may come up. -/
theorem one_plain {S : World → Prop} {a : Act} {w w' : World} {u : Value} {i : Nat} {o : Oper} {listed : Array Bool} {fuel : Nat} {md : Region.Mode} (hr : Region.ready md ops listed = [i]) (ho : ops[i]? = some o) (hw : Region.wanted o (yielded ops a.tmps) = true)
    (he : (execOp a.eval o).run P w = .ok (.value u) w') (hS : S w') (h : wpAnyH P md ops Q S fuel (listed.setIfInBounds i true) (a.put o.dst u) w') : wpAnyH P md ops Q S (fuel + 1) listed a w := by
  refine wpAnyH_all hr (by simp) ?_
  intro j hj
  obtain rfl : j = i := by simpa using hj
  unfold wpOp
  rw [ho]
  refine of_if hw (.inl ?_)
  unfold Oper.wp
  rw [he]
  exact ⟨hS, h⟩

/-- .. a store. -/
theorem one_skip {S : World → Prop} {a : Act} {w w' : World} {i : Nat} {o : Oper} {listed : Array Bool} {fuel : Nat} {md : Region.Mode} (hr : Region.ready md ops listed = [i]) (ho : ops[i]? = some o) (hw : Region.wanted o (yielded ops a.tmps) = true)
    (he : (execOp a.eval o).run P w = .ok .skip w') (hS : S w') (h : wpAnyH P md ops Q S fuel (listed.setIfInBounds i true) (a.put o.dst undef) w') : wpAnyH P md ops Q S (fuel + 1) listed a w := by
  refine wpAnyH_all hr (by simp) ?_
  intro j hj
  obtain rfl : j = i := by simpa using hj
  unfold wpOp
  rw [ho]
  refine of_if hw (.inl ?_)
  unfold Oper.wp
  rw [he]
  exact ⟨hS, h⟩
end Go.Proofs.YtdljajjgppcjpaaGreat.Y0

/- Contracts of impl.isTaken and impl.dirOk, as the given laws call them. -/
namespace Go.Proofs.YtdljajjgppcjpaaGreat.T1
open Go.ChangeShapes Go.WideShapes Go.ChangeAt Go.RowKit
set_option linter.unusedVariables false
set_option linter.unusedSimpArgs false
set_option maxRecDepth 10000

theorem ret_bool {a b : Bool} (h : a = b) : Ending.returned (.bool a) = .returned (.bool b) := by rw [h]

set_option maxHeartbeats 1000000 in
theorem isTaken (b off n c : Nat) (es : List T0.Ent) (x : Int) (s : ByteArray) (w : World) (hn : n ≤ es.length) (hbig : n ≤ 1048576) (hlt0 : b < w.heap.size)
    (hc : ∀ j, j < es.length → w.cell? ⟨b, off + j * 2, none⟩ = some (.int .i64 (T0.ent es j).1) ∧ w.cell? ⟨b, off + j * 2 + 1, none⟩ = some (.string (T0.ent es j).2)) :
    Calls Tryz.prog 168 #[.slice (some ⟨b, off, none⟩) n c, .agg #[.int .i64 x, .string s]] w fun e w' => e = .returned (.bool (T0.taken (es.take n) (x, s))) ∧ Below w.heap.size w w' := by
  have h0 := E2.bx_new x s w 121
  go_enter Tryz.func168, Tryz.ntmps168
  go_wp2
  go_loopw [9] (fun i w' => ∃ k : Nat, k ≤ n ∧ T0.taken (es.take k) (x, s) = false ∧ i = .int .i64 k ∧ E2.Bx w.heap.size w x s w') (fun i _ => n - (intOf i).toNat)
  case atStart => exact ⟨0, Nat.zero_le _, rfl, rfl, h0⟩
  case round =>
    obtain ⟨k, hk, hno, rfl, hbx⟩ := hrel
    clear h0
    by_cases hlt : k < n
    · have y1 := (hbx.bel.cell (p := ⟨b, off + k * 2, none⟩) hlt0).trans (hc k (by omega)).1
      have y2 := (hbx.bel.cell (p := ⟨b, off + k * 2 + 1, none⟩) hlt0).trans (hc k (by omega)).2
      have hs := T0.taken_succ es k (x, s) (by omega)
      have hin := T0.taken_of (es := es) (e := (x, s)) hlt hn
      obtain ⟨z, ez⟩ : ∃ z, T0.ent es k = z := ⟨_, rfl⟩
      rw [ez] at y1 y2 hs hin
      obtain ⟨u, v⟩ := z
      have e1 : (0 : Int) ≤ (k : Int) := by omega
      have e2 : (k : Int) < (n : Int) := by omega
      have hb2 := hbx.alloc (.cells #[.int .i64 u, .string v] 121)
      have d0 := hb2.c0
      have d1 := hb2.c1
      clear ez hc
      by_cases h1 : (v.toList == s.toList) = true
      · have HR : Hid (T0.taken (es.take n) (x, s) = true) := hin (by rw [T0.clash, h1]; rfl)
        clear hin hs hno
        go_wp2
        go_ret
        exact ⟨ret_bool HR.out.symm, hb2.bel⟩
      · have h1' : (v.toList == s.toList) = false := by simpa using h1
        by_cases h2 : (u == x) = true
        · have HR : Hid (T0.taken (es.take n) (x, s) = true) := hin (by rw [T0.clash, h1', h2]; rfl)
          clear hin hs hno h1
          go_wp2
          go_ret
          exact ⟨ret_bool HR.out.symm, hb2.bel⟩
        · have h2' : (u == x) = false := by simpa using h2
          have HN : Hid (T0.taken (es.take (k + 1)) (x, s) = false) := by rw [hs, hno, T0.clash, h1', h2']; rfl
          clear hin hs hno h1 h2
          go_wp2
          go_roundw
          case rel => exact ⟨k + 1, by omega, HN.out, by go_num, hb2⟩
          case measure => simp [intOf]; omega
    · obtain rfl : k = n := by omega
      have HN : Hid (T0.taken (es.take k) (x, s) = false) := hno
      clear hno hc
      go_wp2
      go_ret
      exact ⟨ret_bool HN.out.symm, hbx.bel⟩

theorem ok_lit {i : Int} {s : ByteArray} {B : Nat} {w W : World} {r : Bool} (hs : s.size ≤ 281474976710656) (hr : E0.entryOk i s = r) (h : E2.Bx B w i s W) :
    Calls Tryz.prog 167 #[.agg #[.int .i64 i, .string s]] W fun e w' => e = .returned (.bool r) ∧ E2.Bx B w i s w' :=
  (E2.impl_EntryOk_bx hs h).mono fun _ _ ⟨he, hb⟩ => ⟨by rw [he, hr], hb⟩

theorem row_at {w W : World} {b off : Nat} {es : List T0.Ent} (hlt : b < w.heap.size) (hb : Below w.heap.size w W) (hc : ∀ j, j < es.length → w.cell? ⟨b, off + j * 2, none⟩ = some (.int .i64 (T0.ent es j).1) ∧ w.cell? ⟨b, off + j * 2 + 1, none⟩ = some (.string (T0.ent es j).2)) :
    ∀ j, j < es.length → W.cell? ⟨b, off + j * 2, none⟩ = some (.int .i64 (T0.ent es j).1) ∧ W.cell? ⟨b, off + j * 2 + 1, none⟩ = some (.string (T0.ent es j).2) := fun j hj =>
  ⟨(hb.cell (p := ⟨b, off + j * 2, none⟩) hlt).trans (hc j hj).1, (hb.cell (p := ⟨b, off + j * 2 + 1, none⟩) hlt).trans (hc j hj).2⟩

theorem taken_lit (b off n c : Nat) (es : List T0.Ent) (x : Int) (s : ByteArray) (w W : World) (r : Bool) (hn : n ≤ es.length) (hbig : n ≤ 1048576) (hlt0 : b < w.heap.size) (hb : Below w.heap.size w W) (hr : T0.taken (es.take n) (x, s) = r)
    (hc : ∀ j, j < es.length → w.cell? ⟨b, off + j * 2, none⟩ = some (.int .i64 (T0.ent es j).1) ∧ w.cell? ⟨b, off + j * 2 + 1, none⟩ = some (.string (T0.ent es j).2)) :
    Calls Tryz.prog 168 #[.slice (some ⟨b, off, none⟩) n c, .agg #[.int .i64 x, .string s]] W fun e w' => e = .returned (.bool r) ∧ Below w.heap.size w w' :=
  (isTaken b off n c es x s W hn hbig (Nat.lt_of_lt_of_le hlt0 hb.size) (row_at hlt0 hb hc)).mono fun _ _ ⟨he, h2⟩ => ⟨by rw [he, hr], hb.trans (h2.mono hb.size)⟩

set_option maxHeartbeats 800000 in
theorem dirOk (a : Option Addr) (c : Nat) (es : List T0.Ent) (w : World) (hbig : es.length ≤ 1048576) (hcap : es.length ≤ c) (hfit : T0.Fits es) (hR : T0.Row w a es) :
    Calls Tryz.prog 138 #[.slice a es.length c] w fun e w' => e = .returned (.bool (T0.dirOk es)) ∧ Below w.heap.size w w' := by
  by_cases h12 : 12 < (es.length : Int)
  · have HR : Hid (T0.dirOk es = false) := by rw [T0.dirOk, decide_eq_false (by omega : ¬ es.length ≤ 12)]; rfl
    go_enter Tryz.func138, Tryz.ntmps138
    go_wp2
    go_ret
    exact ⟨ret_bool HR.out.symm, Below.refl _ _⟩
  · have hD : T0.dirOk es = T0.okUpto es es.length := by rw [T0.dirOk, decide_eq_true (by omega : es.length ≤ 12), Bool.true_and]
    go_enter Tryz.func138, Tryz.ntmps138
    go_wp2
    go_loopw [10] (fun i w' => ∃ k : Nat, k ≤ es.length ∧ T0.okUpto es k = true ∧ i = .int .i64 k ∧ Below w.heap.size w w') (fun i _ => es.length - (intOf i).toNat)
    case atStart => exact ⟨0, Nat.zero_le _, rfl, rfl, Below.refl _ _⟩
    case round =>
      obtain ⟨k, hk, hok, rfl, hbel⟩ := hrel
      by_cases hlt : k < es.length
      · obtain ⟨b, off, rfl, hlt0, hc⟩ := hR.get hlt
        have y1 := (hbel.cell (p := ⟨b, off + k * 2, none⟩) hlt0).trans (hc k hlt).1
        have y2 := (hbel.cell (p := ⟨b, off + k * 2 + 1, none⟩) hlt0).trans (hc k hlt).2
        have hs := T0.okUpto_succ es k
        have hat : T0.okAt es k = (E0.entryOk (T0.ent es k).1 (T0.ent es k).2 && !(T0.taken (es.take k) (T0.ent es k))) := rfl
        have hf := hfit k hlt
        obtain ⟨z, ez⟩ : ∃ z, T0.ent es k = z := ⟨_, rfl⟩
        rw [ez] at y1 y2 hat hf
        obtain ⟨u, v⟩ := z
        simp only at y1 y2 hat hf
        have e1 : (0 : Int) ≤ (k : Int) := by omega
        have e2 : (k : Int) < (es.length : Int) := by omega
        have e3 : (k : Int) ≤ (c : Int) := by omega
        have hb1 := E2.bx_new u v wr 121
        have hbd := hb1.drew
        have hB := hbel.size
        clear ez hR hfit
        by_cases hE : E0.entryOk u v = true
        · have hiT : Hid (∀ r W, T0.taken (es.take k) (u, v) = r → Below wr.heap.size wr W → Calls Tryz.prog 168 #[.slice (some ⟨b, off, none⟩) k c, .agg #[.int .i64 u, .string v]] W fun e w' => e = .returned (.bool r) ∧ Below w.heap.size w w') := fun r W hr hb => taken_lit b off k c es u v w W r (by omega) (by omega) hlt0 (hbel.trans (hb.mono hB)) hr hc
          by_cases hT : T0.taken (es.take k) (u, v) = true
          · have HR : Hid (T0.dirOk es = false) := T0.dirOk_bad hlt (by rw [hat, hT, Bool.not_true, Bool.and_false])
            clear hs hat hok hc hD
            go_wp2
            go_region_with (first
              | (go_at_call 167; refine (ok_lit (by omega) hE hbd).mono ?_; rintro e w4 ⟨rfl, h4⟩; have x0 := h4.c0; have x1 := h4.c1)
              | (go_at_call 168; refine (hiT.out _ _ hT h4.bel).mono ?_; rintro e w5 ⟨rfl, b5⟩))
            all_goals
              go_wp2
              go_ret
              exact ⟨ret_bool HR.out.symm, b5⟩
          · have hT' : T0.taken (es.take k) (u, v) = false := by simpa using hT
            have HO : Hid (T0.okUpto es (k + 1) = true) := by rw [hs, hok, hat, hE, hT']; rfl
            clear hs hat hok hc hD hT
            go_wp2
            go_region_with (first
              | (go_at_call 167; refine (ok_lit (by omega) hE hbd).mono ?_; rintro e w4 ⟨rfl, h4⟩; have x0 := h4.c0; have x1 := h4.c1)
              | (go_at_call 168; refine (hiT.out _ _ hT' h4.bel).mono ?_; rintro e w5 ⟨rfl, b5⟩))
            all_goals
              go_wp2
              go_roundw
              case rel => exact ⟨k + 1, by omega, HO.out, by go_num, b5⟩
              case measure => simp [intOf]; omega
        · have hE' : E0.entryOk u v = false := by simpa using hE
          have HR : Hid (T0.dirOk es = false) := T0.dirOk_bad hlt (by rw [hat, hE']; rfl)
          clear hs hat hok hc hD hE
          go_wp2
          have hS0 : (wr.alloc (.cells #[.int .i64 u, .string v] 121)).drew.cell? ⟨wr.heap.size, 0, none⟩ = some (.int .i64 u) ∧ (wr.alloc (.cells #[.int .i64 u, .string v] 121)).drew.cell? ⟨wr.heap.size, 1, none⟩ = some (.string v) := ⟨hbd.c0, hbd.c1⟩
          refine wp_region_held (S := fun W => W.cell? ⟨wr.heap.size, 0, none⟩ = some (.int .i64 u) ∧ W.cell? ⟨wr.heap.size, 1, none⟩ = some (.string v)) (by kernel_rfl) ?_
          refine wpAnyH_take (i := 0) (v := .agg #[.int .i64 u, .string v]) rfl (by kernel_rfl) (by kernel_rfl) (by kernel_rfl) (fun _ _ _ h => h) (Or.inl ⟨by rfl, fun w' hS' => ?_⟩) hS0 ?_
          · obtain ⟨s0, s1⟩ := hS'
            go_simp
          simp only [List.getElem_toArray, List.getElem_cons_succ, List.getElem_cons_zero, Act.put, List.setIfInBounds_toArray, List.set_cons_succ, List.set_cons_zero, Nat.reduceAdd]
          refine Y0.one_call (i := 1) (by kernel_rfl) rfl rfl (.tmp 15) _ rfl (.agg #[.int .i64 u, .string v]) (by rfl) (enters_of Tryz.func167 (by kernel_rfl) rfl) ((ok_lit (by omega) hE' hbd).mono ?_)
          rintro e w4 ⟨rfl, h4⟩
          have hS4 : w4.cell? ⟨wr.heap.size, 0, none⟩ = some (.int .i64 u) ∧ w4.cell? ⟨wr.heap.size, 1, none⟩ = some (.string v) := ⟨h4.c0, h4.c1⟩
          refine ⟨_, rfl, hS4, ?_⟩
          simp only [List.getElem_toArray, List.getElem_cons_succ, List.getElem_cons_zero, Act.put, List.setIfInBounds_toArray, List.set_cons_succ, List.set_cons_zero, Nat.reduceAdd]
          refine wpAnyH_take (i := 2) (v := .bool true) rfl (by kernel_rfl) (by kernel_rfl) (by kernel_rfl) (fun _ _ _ h => h) (Or.inl ⟨by rfl, fun w' hS' => by rfl⟩) hS4 ?_
          simp only [List.getElem_toArray, List.getElem_cons_succ, List.getElem_cons_zero, Act.put, List.setIfInBounds_toArray, List.set_cons_succ, List.set_cons_zero, Nat.reduceAdd]
          refine wpAnyH_take (i := 3) (v := .bool true) rfl (by kernel_rfl) (by kernel_rfl) (by kernel_rfl) (fun _ _ _ h => h) (Or.inl ⟨by rfl, fun w' hS' => by rfl⟩) hS4 ?_
          simp only [List.getElem_toArray, List.getElem_cons_succ, List.getElem_cons_zero, Act.put, List.setIfInBounds_toArray, List.set_cons_succ, List.set_cons_zero, Nat.reduceAdd]
          refine wpAnyH_take (i := 4) (v := undef) rfl (by kernel_rfl) (by kernel_rfl) (by kernel_rfl) (fun _ _ _ h => h) (Or.inr ⟨by rfl, rfl⟩) hS4 ?_
          simp only [List.getElem_toArray, List.getElem_cons_succ, List.getElem_cons_zero, Act.put, List.setIfInBounds_toArray, List.set_cons_succ, List.set_cons_zero, Nat.reduceAdd]
          refine wpAnyH_take (i := 5) (v := undef) rfl (by kernel_rfl) (by kernel_rfl) (by kernel_rfl) (fun _ _ _ h => h) (Or.inr ⟨by rfl, rfl⟩) hS4 ?_
          simp only [List.getElem_toArray, List.getElem_cons_succ, List.getElem_cons_zero, Act.put, List.setIfInBounds_toArray, List.set_cons_succ, List.set_cons_zero, Nat.reduceAdd]
          refine wpAnyH_take (i := 6) (v := undef) rfl (by kernel_rfl) (by kernel_rfl) (by kernel_rfl) (fun _ _ _ h => h) (Or.inr ⟨by rfl, rfl⟩) hS4 ?_
          simp only [List.getElem_toArray, List.getElem_cons_succ, List.getElem_cons_zero, Act.put, List.setIfInBounds_toArray, List.set_cons_succ, List.set_cons_zero, Nat.reduceAdd]
          refine wpAnyH_take (i := 7) (v := undef) rfl (by kernel_rfl) (by kernel_rfl) (by kernel_rfl) (fun _ _ _ h => h) (Or.inr ⟨by rfl, rfl⟩) hS4 ?_
          simp only [List.getElem_toArray, List.getElem_cons_succ, List.getElem_cons_zero, Act.put, List.setIfInBounds_toArray, List.set_cons_succ, List.set_cons_zero, Nat.reduceAdd]
          refine wpAnyH_take (i := 8) (v := undef) rfl (by kernel_rfl) (by kernel_rfl) (by kernel_rfl) (fun _ _ _ h => h) (Or.inr ⟨by rfl, rfl⟩) hS4 ?_
          simp only [List.getElem_toArray, List.getElem_cons_succ, List.getElem_cons_zero, Act.put, List.setIfInBounds_toArray, List.set_cons_succ, List.set_cons_zero, Nat.reduceAdd]
          refine wpAnyH_take (i := 9) (v := .bool true) rfl (by kernel_rfl) (by kernel_rfl) (by kernel_rfl) (fun _ _ _ h => h) (Or.inl ⟨by rfl, fun w' hS' => by rfl⟩) hS4 ?_
          simp only [List.getElem_toArray, List.getElem_cons_succ, List.getElem_cons_zero, Act.put, List.setIfInBounds_toArray, List.set_cons_succ, List.set_cons_zero, Nat.reduceAdd]
          refine wpAnyH_done (by kernel_rfl) ?_ _
          all_goals
            go_wp2
            go_ret
            exact ⟨ret_bool HR.out.symm, hbel.trans (h4.bel.mono hB)⟩
      · obtain rfl : k = es.length := by omega
        have HR : Hid (T0.dirOk es = true) := by rw [hD, hok]; rfl
        clear hok hD hR
        go_wp2
        go_ret
        exact ⟨ret_bool HR.out.symm, hbel⟩
end Go.Proofs.YtdljajjgppcjpaaGreat.T1

/- Contracts of impl.PutDir and spec.PutDir, as the given laws call them. -/
namespace Go.Proofs.YtdljajjgppcjpaaGreat.T2
open Go.ChangeShapes Go.WideShapes Go.ChangeAt Go.RowKit
set_option linter.unusedVariables false
set_option linter.unusedSimpArgs false
set_option maxRecDepth 10000

theorem ret_str {a b : ByteArray} (h : a = b) : Ending.returned (.string a) = .returned (.string b) := by rw [h]

theorem makeRoom (n : Nat) (hn : n ≤ 12) : ∃ C : Array Value, C.size = n * 16 ∧ ∀ W : World, (Instr.makeSlice 22 (.int .i64 0) (.int .i64 ((n : Int) * 16))).run Tryz.prog W = .ok (.slice (some ⟨W.heap.size, 0, none⟩) 0 (n * 16)) (W.alloc (.cells C 5)) := by
  obtain ⟨i0, hi, hz0, hz1, hz2⟩ := info_parts F0.info5
  refine ⟨madeCells (Value.int .u8 0).cells ((n * 16) * i0.size), ?_, fun W => ?_⟩
  · have : (madeCells (Value.int .u8 0).cells ((n * 16) * i0.size)).toList.length = n * 16 := by
      rw [show (Value.int .u8 0).cells = #[Value.int .u8 0] from rfl, toList_madeCells_one, hz1]
      simp
    simpa using this
  · have h := run_make (P := Tryz.prog) W 22 5 i0 (.int .u8 0) Tryz.underlying22 hi hz0 .i64 .i64 0 ((n : Int) * 16) (by omega) (by omega) (by rw [hz2]; omega) (by omega)
    rw [show ((n : Int) * 16).toNat = n * 16 by omega] at h
    exact h

theorem dir_lit {a : Option Addr} {c : Nat} {es : List T0.Ent} {W : World} {r : Bool} (hbig : es.length ≤ 1048576) (hcap : es.length ≤ c) (hfit : T0.Fits es) (hR : T0.Row W a es) (hr : T0.dirOk es = r) :
    Calls Tryz.prog 138 #[.slice a es.length c] W fun e w' => e = .returned (.bool r) ∧ Below W.heap.size W w' := (T1.dirOk a c es W hbig hcap hfit hR).mono fun _ _ h => ⟨by rw [h.1, hr], h.2⟩

end Go.Proofs.YtdljajjgppcjpaaGreat.T2

/- The contract of spec.PutDir, as the given laws call it. -/
namespace Go.Proofs.YtdljajjgppcjpaaGreat.T3
open Go.ChangeShapes Go.WideShapes Go.ChangeAt Go.RowKit
set_option linter.unusedVariables false
set_option linter.unusedSimpArgs false
set_option maxRecDepth 10000

open T2 (ret_str)

theorem putE_empty {i : Int} {s : ByteArray} (h : E0.entryOk i s = false) : (E0.putE i s).toList.isEmpty = true := by
  rw [E0.putE, if_neg (by rw [h]; decide), Lib.toList_data]
  rfl
theorem putE_full {i : Int} {s : ByteArray} (h : E0.entryOk i s = true) : (E0.putE i s).toList.isEmpty = false := by
  have := T0.putE_size16 h
  rw [Lib.toList_data]
  cases hl : (E0.putE i s).data.toList with
  | nil => rw [Lib.size_eq, hl] at this; simp at this
  | cons x r => rfl

set_option maxHeartbeats 4000000 in
theorem spec_PutDir (a : Option Addr) (c : Nat) (es : List T0.Ent) (w : World) (hbig : es.length ≤ 1048576) (hcap : es.length ≤ c) (hfit : T0.Fits es) (hR : T0.Row w a es) :
    Calls Tryz.prog 87 #[.slice a es.length c] w fun e w' => e = .returned (.string (T0.putD es)) ∧ Below w.heap.size w w' := by
  have HB : Hid (∀ k, k < es.length → T0.okAt es k = false → T0.putD es = ⟨#[]⟩) := fun k hk h => by rw [T0.putD, T0.dirOk_bad hk h]; rfl
  have HL : Hid (12 < es.length → T0.putD es = ⟨#[]⟩) := fun h => by rw [T0.putD, T0.dirOk, decide_eq_false (by omega : ¬ es.length ≤ 12)]; rfl
  have HY : Hid (es.length ≤ 12 → T0.okUpto es es.length = true → T0.putD es = T0.joined es es.length) := fun h1 h2 => by rw [T0.putD, T0.dirOk, decide_eq_true h1, h2]; rfl
  go_enter Tryz.func87, Tryz.ntmps87
  go_wp2
  go_loopw [3, 4] (fun t i w' => ∃ j : Nat, j ≤ es.length ∧ (j = 0 ∨ es.length ≤ 12) ∧ T0.okUpto es j = true ∧ i = .int .i64 j ∧ t = .string (T0.joined es j) ∧ Below w.heap.size w w') (fun _ i _ => es.length - (intOf i).toNat)
  case atStart => exact ⟨0, Nat.zero_le _, Or.inl rfl, rfl, rfl, rfl, Below.refl _ _⟩
  case round =>
    obtain ⟨j, hj, h12, hok, rfl, rfl, hbel⟩ := hrel
    by_cases hlt : j < es.length
    · obtain ⟨b, off, rfl, hlt0, hc⟩ := (hR.below hbel).get hlt
      have y1 := (hc j hlt).1
      have y2 := (hc j hlt).2
      have hs := T0.okUpto_succ es j
      have hat : T0.okAt es j = (E0.entryOk (T0.ent es j).1 (T0.ent es j).2 && !(T0.taken (es.take j) (T0.ent es j))) := rfl
      have hf := hfit j hlt
      have hu : T0.joined es (j + 1) = T0.joined es j ++ E0.putE (T0.ent es j).1 (T0.ent es j).2 := rfl
      have hjs := T0.joined_size hok j (Nat.le_refl _)
      have hbad := HB.out j hlt
      have hin := fun k (hk : k < j) => T0.taken_of (es := es) (e := T0.ent es j) hk hj
      have hts := fun k (hk : k < es.length) => T0.taken_succ es k (T0.ent es j) hk
      obtain ⟨z, ez⟩ : ∃ z, T0.ent es j = z := ⟨_, rfl⟩
      rw [ez] at y1 y2 hat hf hu hin hts
      obtain ⟨u, v⟩ := z
      simp only at y1 y2 hat hf hu
      have e1 : (0 : Int) ≤ (j : Int) := by omega
      have e2 : (j : Int) < (es.length : Int) := by omega
      clear ez hR hfit HB
      go_wp2
      go_loopw [5] (fun i w' => ∃ k m : Nat, k ≤ j ∧ T0.taken (es.take k) (u, v) = false ∧ i = .int .i64 k ∧ w' = wr.drewN m) (fun i _ => j - (intOf i).toNat)
      case atStart => exact ⟨0, 0, Nat.zero_le _, rfl, rfl, rfl⟩
      case round =>
        obtain ⟨k, m, hk, hno, rfl, hW⟩ := hrel
        have x1 : wr.cell? ⟨b, off + j * 2, none⟩ = some (.int .i64 u) := by rw [hW]; exact y1
        have x2 : wr.cell? ⟨b, off + j * 2 + 1, none⟩ = some (.string v) := by rw [hW]; exact y2
        have HW : Below w.heap.size w wr := by rw [hW]; exact K0.below_drewN hbel m
        have HD : Hid (wr = _) := hW
        by_cases hlk : k < j
        · have x3 : wr.cell? ⟨b, off + k * 2, none⟩ = some (.int .i64 (T0.ent es k).1) := by rw [hW]; exact (hc k (by omega)).1
          have x4 : wr.cell? ⟨b, off + k * 2 + 1, none⟩ = some (.string (T0.ent es k).2) := by rw [hW]; exact (hc k (by omega)).2
          have hin1 := hin k hlk
          have hts1 := hts k (by omega)
          obtain ⟨z, ez⟩ : ∃ z, T0.ent es k = z := ⟨_, rfl⟩
          rw [ez] at x3 x4 hin1 hts1
          obtain ⟨p, q⟩ := z
          simp only at x3 x4
          have f1 : (0 : Int) ≤ (k : Int) := by omega
          have f2 : (k : Int) < (es.length : Int) := by omega
          have f3 : (k : Int) < (j : Int) := by omega
          clear ez hc y1 y2 hW hin hts
          by_cases h1 : (q.toList == v.toList) = true
          · have HR : Hid (T0.putD es = ⟨#[]⟩) := hbad (by rw [hat, hin1 (by rw [T0.clash, h1]; rfl), Bool.not_true, Bool.and_false])
            clear hin1 hts1 hat hbad hs hok hu
            go_wp2
            go_quiet (fail)
            go_wp2
            go_ret
            exact ⟨ret_str HR.out.symm, K0.below_drewN HW _⟩
          · have h1' : (q.toList == v.toList) = false := by simpa using h1
            by_cases h2 : (p == u) = true
            · have HR : Hid (T0.putD es = ⟨#[]⟩) := hbad (by rw [hat, hin1 (by rw [T0.clash, h1', h2]; rfl), Bool.not_true, Bool.and_false])
              clear hin1 hts1 hat hbad hs hok hu h1
              go_wp2
              go_quiet (fail)
              go_wp2
              go_ret
              exact ⟨ret_str HR.out.symm, K0.below_drewN HW _⟩
            · have h2' : (p == u) = false := by simpa using h2
              have HN : Hid (T0.taken (es.take (k + 1)) (u, v) = false) := by rw [hts1, hno, T0.clash, h1', h2']; rfl
              clear hin1 hts1 hat hbad hs hok hu h1 h2 hno
              go_wp2
              go_quiet (fail)
              go_wp2
              go_roundw
              case rel => exact ⟨k + 1, m + nq, by omega, HN.out, by go_num, by rw [HD.out, World.drewN_drewN]⟩
              case measure => simp [intOf]; omega
        · obtain rfl : k = j := by omega
          clear hc y1 y2 hW HD hin hts
          by_cases hE : E0.entryOk u v = true
          · have g1 := putE_full hE
            have hps := T0.putE_size16 hE
            by_cases hl : 12 < es.length
            · have HR : Hid (T0.putD es = ⟨#[]⟩) := HL.out hl
              have hl' : 12 < (es.length : Int) := by omega
              clear hat hbad hs hok hu hno
              go_wp2_with (go_at_call 123; refine (E2.spec_PutEntry u v _ hf).mono ?_; rintro e w2 ⟨rfl, b2⟩)
              go_ret
              exact ⟨ret_str HR.out.symm, HW.trans (b2.mono HW.size)⟩
            · have hl' : ¬ 12 < (es.length : Int) := by omega
              have hl'' : decide (12 < (es.length : Int)) = false := by simpa using hl'
              have HO : Hid (T0.okUpto es (k + 1) = true) := by rw [hs, hok, hat, hE, hno]; rfl
              have HU : Hid (T0.joined es (k + 1) = T0.joined es k ++ E0.putE u v) := hu
              have zz : (T0.joined es k).size + (E0.putE u v).size ≤ 9223372036854775807 := by omega
              have zz2 : 16 * k + 16 ≤ 9223372036854775807 := by omega
              clear hat hbad hs hok hu hno
              go_wp2_with (go_at_call 123; refine (E2.spec_PutEntry u v _ hf).mono ?_; rintro e w2 ⟨rfl, b2⟩)
              go_roundw
              case rel => exact ⟨k + 1, by omega, Or.inr (by omega), HO.out, by go_num, by rw [HU.out], HW.trans (b2.mono HW.size)⟩
              case measure => simp [intOf]; omega
          · have hE' : E0.entryOk u v = false := by simpa using hE
            have g1 := putE_empty hE'
            have HR : Hid (T0.putD es = ⟨#[]⟩) := hbad (by rw [hat, hE']; rfl)
            clear hat hbad hs hok hu hno
            go_wp2_with (go_at_call 123; refine (E2.spec_PutEntry u v _ hf).mono ?_; rintro e w2 ⟨rfl, b2⟩)
            go_ret
            exact ⟨ret_str HR.out.symm, HW.trans (b2.mono HW.size)⟩
    · obtain rfl : j = es.length := by omega
      have HP : Hid (T0.putD es = T0.joined es es.length) := by
        show T0.putD es = T0.joined es es.length
        rcases h12 with h | h
        · exact HY.out (by omega) hok
        · exact HY.out h hok
      clear hok hR hfit h12 HB HL HY
      go_wp2
      go_ret
      exact ⟨ret_str HP.out.symm, hbel⟩
end Go.Proofs.YtdljajjgppcjpaaGreat.T3

/- Entries among a law's arguments; contracts of laws.szEntryS, laws.toEntryS and laws.eqEntryS. -/
namespace Go.Proofs.YtdljajjgppcjpaaGreat.T4
open Go.ChangeShapes Go.WideShapes Go.ChangeAt Go.RowKit Go.Joins Go.Deep
set_option linter.unusedVariables false
set_option linter.unusedSimpArgs false
set_option maxRecDepth 10000

def num : Value → Int
  | .int _ z => z
  | _ => 0
def txt : Value → ByteArray
  | .string s => s
  | _ => ⟨#[]⟩

/-- All names fit. -/
def FitsM (es : List T0.Ent) : Prop := ∀ j, j < es.length → (T0.ent es j).2.size ≤ maxLen

section Args
variable {H : Type} {enc : TypeId × Value → H} {w : World}

end Args

/-- The names' sizes, all together. -/
def sum (es : List T0.Ent) : Nat → Nat
  | 0 => 0
  | k + 1 => sum es k + (T0.ent es k).2.size

theorem sum_mono (es : List T0.Ent) (k : Nat) : ∀ m, sum es k ≤ sum es (k + m)
  | 0 => Nat.le_refl _
  | m + 1 => Nat.le_trans (sum_mono es k m) (Nat.le_add_right _ _)

theorem sum_le {es : List T0.Ent} {k n : Nat} (h : k ≤ n) : sum es k ≤ sum es n := by
  have := sum_mono es k (n - k)
  rwa [show k + (n - k) = n by omega] at this

theorem fits_of {es : List T0.Ent} (h : es.length + sum es es.length ≤ 1048576) : T0.Fits es := fun j hj => by
  have h1 := sum_le (es := es) (k := j + 1) (n := es.length) (by omega)
  have h2 : sum es (j + 1) = sum es j + (T0.ent es j).2.size := rfl
  omega

/-- What is left of 2^20; -1 where nothing is. -/
def left (es : List T0.Ent) : Int := if es.length + sum es es.length ≤ 1048576 then 1048576 - (es.length : Int) - (sum es es.length : Int) else -1

theorem ret_int {k : IntKind} {a b : Int} (h : a = b) : Ending.returned (.int k a) = .returned (.int k b) := by rw [h]

end Go.Proofs.YtdljajjgppcjpaaGreat.T4

/- Contracts of laws.szLoanS and laws.szKeeper, as the given laws call them. -/
namespace Go.Proofs.YtdljajjgppcjpaaGreat.Z1
open Go.ChangeShapes Go.WideShapes Go.ChangeAt Go.RowKit
set_option linter.unusedVariables false
set_option linter.unusedSimpArgs false
set_option maxRecDepth 10000

open N0 (Ln)
open N1 (Sl val vals Lists FitM LB lb_new)
open N3 (total szOk szNo)
open Z0 (dat Row Lns Kp kval kvals FitK)

/-- What is left of a number behind a loan; -1 where nothing is. -/
def leftL (d : Ln) (l : Int) : Int := if (total d : Int) ≤ l then l - (total d : Int) else -1

theorem ret_int {k : IntKind} {a b : Int} (h : a = b) : Ending.returned (.int k a) = .returned (.int k b) := by rw [h]

set_option maxHeartbeats 1000000 in
theorem szLoan (d : Ln) (s : Sl) (l : Int) (w : World) (hF : FitM d s) (h0 : 0 ≤ l) (hl : l ≤ 1048576) :
    Calls Tryz.prog 88 #[val d s, .int .i64 l] w fun e w' => e = .returned (.int .i64 (leftL d l)) ∧ Below w.heap.size w w' := by
  have hB := K0.below_new w (.cells #[.int .i64 d.ino, .int .i64 d.cl, .int .i64 d.un, .string d.rc, .slice s.a1 d.pg.length s.c1, .string d.sav, .slice s.a2 d.po.length s.c2, .slice s.a3 d.fr.length s.c3] 126)
  have l1 := hF.l1
  have l2 := hF.l2
  have l3 := hF.l3
  have l4 := hF.m4
  have l5 := hF.m5
  have l4' : d.rc.size ≤ 9223372036854775807 := l4
  have l5' : d.sav.size ≤ 9223372036854775807 := l5
  by_cases h : (total d : Int) ≤ l
  · have HR : Hid (leftL d l = l - (d.rc.size : Int) - (d.pg.length : Int) - (d.sav.size : Int) - (d.po.length : Int) - (d.fr.length : Int)) := by
      show leftL d l = _
      rw [leftL, if_pos h, total]
      omega
    unfold total at h
    have e1 : (0 : Int) ≤ l - (d.rc.size : Int) := by omega
    have g1 : ¬ (l - (d.rc.size : Int) < 0) := by omega
    have g2 : ¬ (l - (d.rc.size : Int) - (d.pg.length : Int) < 0) := by omega
    have g3 : ¬ (l - (d.rc.size : Int) - (d.pg.length : Int) - (d.sav.size : Int) < 0) := by omega
    have g4 : ¬ (l - (d.rc.size : Int) - (d.pg.length : Int) - (d.sav.size : Int) - (d.po.length : Int) < 0) := by omega
    have g5 : ¬ (l - (d.rc.size : Int) - (d.pg.length : Int) - (d.sav.size : Int) - (d.po.length : Int) - (d.fr.length : Int) < 0) := by omega
    go_enter Tryz.func88, Tryz.ntmps88
    go_wp2_with (go_at_call 124; refine (szOk _ _ _ _ _ (by assumption) (by omega) (by omega)).mono ?_; rintro e w' ⟨rfl, rfl⟩)
    go_ret
    exact ⟨ret_int HR.out.symm, hB⟩
  · have HR : Hid (leftL d l = -1) := if_neg h
    rw [HR.out]
    unfold total at h
    by_cases g1 : l - (d.rc.size : Int) < 0
    · go_enter Tryz.func88, Tryz.ntmps88
      go_wp2
      go_ret
      exact ⟨rfl, hB⟩
    · by_cases g2 : l - (d.rc.size : Int) - (d.pg.length : Int) < 0
      · go_enter Tryz.func88, Tryz.ntmps88
        go_wp2_with (go_at_call 124; refine (szNo _ _ _ _ _ (by assumption) (by omega) (by omega) (by omega)).mono ?_; rintro e w' ⟨rfl, rfl⟩)
        go_ret
        exact ⟨rfl, hB⟩
      · by_cases g3 : l - (d.rc.size : Int) - (d.pg.length : Int) - (d.sav.size : Int) < 0
        · go_enter Tryz.func88, Tryz.ntmps88
          go_wp2_with (go_at_call 124; refine (szOk _ _ _ _ _ (by assumption) (by omega) (by omega)).mono ?_; rintro e w' ⟨rfl, rfl⟩)
          go_ret
          exact ⟨rfl, hB⟩
        · by_cases g4 : l - (d.rc.size : Int) - (d.pg.length : Int) - (d.sav.size : Int) - (d.po.length : Int) < 0
          · go_enter Tryz.func88, Tryz.ntmps88
            go_wp2_with (first
              | (go_at_call 124; refine (szOk _ _ _ _ _ (by assumption) (by omega) (by omega)).mono ?_; rintro e w' ⟨rfl, rfl⟩)
              | (go_at_call 124; refine (szNo _ _ _ _ _ (by assumption) (by omega) (by omega) (by omega)).mono ?_; rintro e w' ⟨rfl, rfl⟩))
            go_ret
            exact ⟨rfl, hB⟩
          · go_enter Tryz.func88, Tryz.ntmps88
            go_wp2_with (first
              | (go_at_call 124; refine (szOk _ _ _ _ _ (by assumption) (by omega) (by omega)).mono ?_; rintro e w' ⟨rfl, rfl⟩)
              | (go_at_call 124; refine (szNo _ _ _ _ _ (by assumption) (by omega) (by omega) (by omega)).mono ?_; rintro e w' ⟨rfl, rfl⟩))
            go_ret
            exact ⟨rfl, hB⟩

/-- The loans' sizes, all together. -/
def tot (ds : List Ln) : Nat → Nat
  | 0 => 0
  | k + 1 => tot ds k + total (dat ds k)

theorem tot_mono (ds : List Ln) (k : Nat) : ∀ m, tot ds k ≤ tot ds (k + m)
  | 0 => Nat.le_refl _
  | m + 1 => Nat.le_trans (tot_mono ds k m) (Nat.le_add_right _ _)

theorem tot_le {ds : List Ln} {k n : Nat} (h : k ≤ n) : tot ds k ≤ tot ds n := by
  have := tot_mono ds k (n - k)
  rwa [show k + (n - k) = n by omega] at this

theorem tot_one {ds : List Ln} {j : Nat} (hj : j < ds.length) : total (dat ds j) ≤ tot ds ds.length := by
  have h1 := tot_le (ds := ds) (k := j + 1) (n := ds.length) (by omega)
  have h2 : tot ds (j + 1) = tot ds j + total (dat ds j) := rfl
  omega

def leftS (ds : List Ln) (l : Int) : Int := if ((ds.length + tot ds ds.length : Nat) : Int) ≤ l then l - (ds.length : Int) - (tot ds ds.length : Int) else -1

set_option maxHeartbeats 1000000 in
theorem szLoanS (a : Option Addr) (c : Nat) (ds : List Ln) (ss : Nat → Sl) (l : Int) (w : World) (hn : ds.length ≤ maxLen) (hF : ∀ j, j < ds.length → FitM (dat ds j) (ss j)) (h0 : 0 ≤ l) (hl : l ≤ 1048576) (hR : Row w a ds ss) :
    Calls Tryz.prog 47 #[.slice a ds.length c, .int .i64 l] w fun e w' => e = .returned (.int .i64 (leftS ds l)) ∧ Below w.heap.size w w' := by
  unfold maxLen at hn
  by_cases h1 : l - (ds.length : Int) < 0
  · have HR : Hid (leftS ds l = -1) := if_neg (by omega)
    go_enter Tryz.func47, Tryz.ntmps47
    go_wp2
    go_ret
    exact ⟨ret_int HR.out.symm, Below.refl _ _⟩
  · go_enter Tryz.func47, Tryz.ntmps47
    go_wp2
    go_loopw [1, 5] (fun q i w' => ∃ k : Nat, k ≤ ds.length ∧ i = .int .i64 k ∧ q = .int .i64 (l - (ds.length : Int) - (tot ds k : Int)) ∧ ((ds.length + tot ds k : Nat) : Int) ≤ l ∧ Below w.heap.size w w') (fun _ i _ => ds.length - (intOf i).toNat)
    case atStart => exact ⟨0, Nat.zero_le _, rfl, by simp [tot], by simp [tot]; omega, Below.refl _ _⟩
    case round =>
      obtain ⟨k, hk, rfl, rfl, hs, hbel⟩ := hrel
      have hB := hbel.size
      by_cases hlt : k < ds.length
      · obtain ⟨b, off, rfl, hlt0, hc⟩ := (hR.below hbel).get hlt
        obtain ⟨y0, y1, y2, y3, y4, y5, y6, y7⟩ := hc k hlt
        have hf := hF k hlt
        have hsum : tot ds (k + 1) = tot ds k + total (dat ds k) := rfl
        obtain ⟨d, ed⟩ : ∃ d, dat ds k = d := ⟨_, rfl⟩
        obtain ⟨s, es⟩ : ∃ s, ss k = s := ⟨_, rfl⟩
        rw [ed, es] at hf
        rw [ed] at hsum y0 y1 y2 y3 y4 y5 y6 y7
        rw [es] at y4 y6 y7
        have e1 : (0 : Int) ≤ (k : Int) := by omega
        have e2 : (k : Int) < (ds.length : Int) := by omega
        have hsz : Hid (∀ W, Calls Tryz.prog 88 #[val d s, .int .i64 (l - (ds.length : Int) - (tot ds k : Int))] W fun e w' => e = .returned (.int .i64 (leftL d (l - (ds.length : Int) - (tot ds k : Int)))) ∧ Below W.heap.size W w') := fun W => szLoan d s _ W hf (by omega) (by omega)
        clear ed es hc hF hR hf
        by_cases h2 : ((ds.length + tot ds (k + 1) : Nat) : Int) ≤ l
        · have hz : leftL d (l - (ds.length : Int) - (tot ds k : Int)) = l - (ds.length : Int) - (tot ds (k + 1) : Int) := by rw [leftL, if_pos (by omega)]; omega
          rw [hz] at hsz
          have h3 : ¬ l - (ds.length : Int) - (tot ds (k + 1) : Int) < 0 := by omega
          clear hz hsum
          go_wp2_with (go_at_call 88; refine (hsz.out _).mono ?_; rintro e w1 ⟨rfl, b1⟩)
          go_roundw
          case rel => exact ⟨k + 1, by omega, by go_num, rfl, h2, hbel.trans (b1.mono hB)⟩
          case measure => simp [intOf]; omega
        · have hz : leftL d (l - (ds.length : Int) - (tot ds k : Int)) = -1 := by rw [leftL, if_neg (by omega)]
          rw [hz] at hsz
          have HR : Hid (leftS ds l = -1) := by
            refine if_neg ?_
            have := tot_le (ds := ds) (k := k + 1) (n := ds.length) (by omega)
            omega
          clear hz hsum
          go_wp2_with (go_at_call 88; refine (hsz.out _).mono ?_; rintro e w1 ⟨rfl, b1⟩)
          go_ret
          exact ⟨ret_int HR.out.symm, hbel.trans (b1.mono hB)⟩
      · obtain rfl : k = ds.length := by omega
        have HR : Hid (leftS ds l = l - (ds.length : Int) - (tot ds ds.length : Int)) := if_pos hs
        clear hR hF
        go_wp2
        go_ret
        exact ⟨ret_int HR.out.symm, hbel⟩

/-- All that a keeper has is small. -/
def small (k : Kp) : Prop := k.mem.size + k.dur.size + k.ds.length + tot k.ds k.ds.length ≤ 1048576

set_option maxHeartbeats 1000000 in
theorem szFit (k : Kp) (a : Option Addr) (c : Nat) (ss : Nat → Sl) (w : World) (hF : FitK k ss) (h : small k) (hR : Row w a k.ds ss) :
    Calls Tryz.prog 19 #[kval k a c, .int .i64 1048576] w fun e w' => (∃ q : Int, 0 ≤ q ∧ e = .returned (.int .i64 q)) ∧ Below w.heap.size w w' := by
  have hB := K0.below_new w (.cells #[.string k.mem, .string k.dur, .slice a k.ds.length c, .int .i64 k.ck] 45)
  have hk := K0.blk_new (kvals k a c) w 45
  unfold small at h
  have hd := D1.szDev k.mem k.dur (w.alloc (.cells #[.string k.mem, .string k.dur, .slice a k.ds.length c, .int .i64 k.ck] 45)) hF.m1 hF.m2
  have ed : D1.sz k.mem k.dur = 1048576 - (k.mem.size : Int) - (k.dur.size : Int) := if_pos (by omega)
  rw [ed] at hd
  have HS : Hid (∀ W, Below w.heap.size w W → Calls Tryz.prog 47 #[.slice a k.ds.length c, .int .i64 (1048576 - (k.mem.size : Int) - (k.dur.size : Int))] W fun e w' => e = .returned (.int .i64 (1048576 - (k.mem.size : Int) - (k.dur.size : Int) - (k.ds.length : Int) - (tot k.ds k.ds.length : Int))) ∧ Below W.heap.size W w') := fun W hb => (szLoanS a c k.ds ss _ W hF.n hF.each (by omega) (by omega) (hR.below hb)).mono fun _ _ ⟨he, hb⟩ => ⟨by rw [he, leftS, if_pos (by omega)], hb⟩
  have g1 : ¬ (1048576 - (k.mem.size : Int) - (k.dur.size : Int) < 0) := by omega
  have g2 : ¬ (1048576 - (k.mem.size : Int) - (k.dur.size : Int) - (k.ds.length : Int) - (tot k.ds k.ds.length : Int) < 0) := by omega
  clear ed hR hF
  go_enter Tryz.func19, Tryz.ntmps19
  go_wp2_with (first
    | (go_at_call 46; refine hd.mono ?_; rintro e w1 ⟨rfl, b1⟩; have k1 := hk.below b1; have x2 := k1.c2; have l1 := hB.trans (b1.mono hB.size))
    | (go_at_call 47; refine (HS.out _ l1).mono ?_; rintro e w2 ⟨rfl, b2⟩))
  go_ret
  exact ⟨⟨_, by omega, rfl⟩, l1.trans (b2.mono l1.size)⟩

set_option maxHeartbeats 1000000 in
theorem szBig (k : Kp) (a : Option Addr) (c : Nat) (ss : Nat → Sl) (w : World) (hF : FitK k ss) (h : ¬ small k) (hR : Row w a k.ds ss) :
    Calls Tryz.prog 19 #[kval k a c, .int .i64 1048576] w fun e w' => e = .returned (.int .i64 (-1)) ∧ Below w.heap.size w w' := by
  have hB := K0.below_new w (.cells #[.string k.mem, .string k.dur, .slice a k.ds.length c, .int .i64 k.ck] 45)
  have hk := K0.blk_new (kvals k a c) w 45
  unfold small at h
  have hd := D1.szDev k.mem k.dur (w.alloc (.cells #[.string k.mem, .string k.dur, .slice a k.ds.length c, .int .i64 k.ck] 45)) hF.m1 hF.m2
  by_cases h1 : (k.mem.size : Int) + k.dur.size ≤ 1048576
  · have ed : D1.sz k.mem k.dur = 1048576 - (k.mem.size : Int) - (k.dur.size : Int) := if_pos h1
    rw [ed] at hd
    have HS : Hid (∀ W, Below w.heap.size w W → Calls Tryz.prog 47 #[.slice a k.ds.length c, .int .i64 (1048576 - (k.mem.size : Int) - (k.dur.size : Int))] W fun e w' => e = .returned (.int .i64 (-1)) ∧ Below W.heap.size W w') := fun W hb => (szLoanS a c k.ds ss _ W hF.n hF.each (by omega) (by omega) (hR.below hb)).mono fun _ _ ⟨he, hb⟩ => ⟨by rw [he, leftS, if_neg (by omega)], hb⟩
    have g1 : ¬ (1048576 - (k.mem.size : Int) - (k.dur.size : Int) < 0) := by omega
    clear ed hR hF
    go_enter Tryz.func19, Tryz.ntmps19
    go_wp2_with (first
      | (go_at_call 46; refine hd.mono ?_; rintro e w1 ⟨rfl, b1⟩; have k1 := hk.below b1; have x2 := k1.c2; have l1 := hB.trans (b1.mono hB.size))
      | (go_at_call 47; refine (HS.out _ l1).mono ?_; rintro e w2 ⟨rfl, b2⟩))
    go_ret
    exact ⟨rfl, l1.trans (b2.mono l1.size)⟩
  · have ed : D1.sz k.mem k.dur = -1 := if_neg h1
    rw [ed] at hd
    clear ed hR hF
    go_enter Tryz.func19, Tryz.ntmps19
    go_wp2_with (go_at_call 46; refine hd.mono ?_; rintro e w1 ⟨rfl, b1⟩)
    go_ret
    exact ⟨rfl, hB.trans (b1.mono hB.size)⟩
end Go.Proofs.YtdljajjgppcjpaaGreat.Z1

/- Contracts of laws.toLoanS, laws.toKeeper, laws.eqLoanS and laws.eqKeeper, as the given laws call them. -/
namespace Go.Proofs.YtdljajjgppcjpaaGreat.Z2
open Go.ChangeShapes Go.WideShapes Go.ChangeAt Go.RowKit
set_option linter.unusedVariables false
set_option linter.unusedSimpArgs false
set_option maxRecDepth 10000

open N0 (Ln)
open N1 (Sl val vals Lists FitM Fit LB lb_new)
open N3 (total)
open N4 (at3 Cp)
open Z0 (dat Row Lns Subs At Kp kval kvals FitK)
open Z1 (tot small tot_one)

abbrev zero8 : Array Value := #[.int .i64 0, .int .i64 0, .int .i64 0, .string ⟨#[]⟩, .slice none 0 0, .string ⟨#[]⟩, .slice none 0 0, .slice none 0 0]

theorem infoL : (Tryz.prog.info? 26).map (fun i => (i.zero, i.size, i.bytes)) = some (some (.agg zero8), 8, 128) := by kernel_rfl

theorem make_loans (n : Nat) (hn : n ≤ 1048576) : ∃ C : Array Value, C.size = n * 8 ∧ ∀ W : World, (Instr.makeSlice 49 (.int .i64 (n : Int)) (.int .i64 (n : Int))).run Tryz.prog W = .ok (.slice (some ⟨W.heap.size, 0, none⟩) n n) (W.alloc (.cells C 26)) := by
  obtain ⟨i0, hi, hz0, hz1, hz2⟩ := info_parts infoL
  refine ⟨madeCells (Value.agg zero8).cells (n * i0.size), by rw [size_madeCells, hz1], fun W => ?_⟩
  have h := run_make (P := Tryz.prog) W 49 26 i0 (.agg zero8) Tryz.underlying49 hi hz0 .i64 .i64 (n : Int) (n : Int) (by omega) (by omega) (by rw [hz2]; omega) (by omega)
  rw [show ((n : Int)).toNat = n by omega] at h
  exact h

/-- Eight of a list's values tell a loan. -/
def LAt (L : List Value) (o : Nat) (d : Ln) (s : Sl) : Prop :=
  L[o]? = some (.int .i64 d.ino) ∧ L[o + 1]? = some (.int .i64 d.cl) ∧ L[o + 2]? = some (.int .i64 d.un) ∧ L[o + 3]? = some (.string d.rc) ∧ L[o + 4]? = some (.slice s.a1 d.pg.length s.c1) ∧ L[o + 5]? = some (.string d.sav) ∧ L[o + 6]? = some (.slice s.a2 d.po.length s.c2) ∧ L[o + 7]? = some (.slice s.a3 d.fr.length s.c3)

theorem blk_get {B : Nat} {L : List Value} {W : World} (h : K0.Blk B L W) {x : Nat} {v : Value} (hx : L[x]? = some v) : W.cell? ⟨B, x, none⟩ = some v := by
  obtain ⟨hl, he⟩ := List.getElem?_eq_some_iff.1 hx
  rw [h.cell x hl, he]

theorem at_of {B : Nat} {L : List Value} {W : World} {o : Nat} {d : Ln} {s : Sl} (h : K0.Blk B L W) (hl : LAt L o d s) : At W B o d s := by
  obtain ⟨h0, h1, h2, h3, h4, h5, h6, h7⟩ := hl
  exact ⟨blk_get h h0, blk_get h h1, blk_get h h2, blk_get h h3, blk_get h h4, blk_get h h5, blk_get h h6, blk_get h h7⟩

/-- A list with a loan put at a place. -/
def put (L : List Value) (o : Nat) (d : Ln) (s : Sl) : List Value := ((((((((L.set o (.int .i64 d.ino)).set (o + 1) (.int .i64 d.cl)).set (o + 2) (.int .i64 d.un)).set (o + 3) (.string d.rc)).set (o + 4) (.slice s.a1 d.pg.length s.c1)).set (o + 5) (.string d.sav)).set (o + 6) (.slice s.a2 d.po.length s.c2)).set (o + 7) (.slice s.a3 d.fr.length s.c3))

theorem put_len (L : List Value) (o : Nat) (d : Ln) (s : Sl) : (put L o d s).length = L.length := by simp [put]

theorem put_get (L : List Value) (o : Nat) (d : Ln) (s : Sl) (h : o + 7 < L.length) : LAt (put L o d s) o d s := by
  unfold LAt put
  refine ⟨?_, ?_, ?_, ?_, ?_, ?_, ?_, ?_⟩
  all_goals
    simp [List.getElem?_set]
    try omega

theorem put_other {L : List Value} {o x : Nat} {d : Ln} {s : Sl} (h : x < o ∨ o + 7 < x) : (put L o d s)[x]? = L[x]? := by
  unfold put
  repeat rw [List.getElem?_set_ne (by omega)]

theorem lat_other {L : List Value} {o x : Nat} {d e : Ln} {s t : Sl} (hx : x + 7 < o) (h : LAt L x e t) : LAt (put L o d s) x e t := by
  unfold LAt at h ⊢
  obtain ⟨h0, h1, h2, h3, h4, h5, h6, h7⟩ := h
  exact ⟨(put_other (by omega)).trans h0, (put_other (by omega)).trans h1, (put_other (by omega)).trans h2, (put_other (by omega)).trans h3, (put_other (by omega)).trans h4, (put_other (by omega)).trans h5, (put_other (by omega)).trans h6, (put_other (by omega)).trans h7⟩

/-- A block with a loan put at a place. -/
def setL (W : World) (B o : Nat) (d : Ln) (s : Sl) : World := ((((((((W.setCell ⟨B, o, none⟩ (.int .i64 d.ino)).setCell ⟨B, o + 1, none⟩ (.int .i64 d.cl)).setCell ⟨B, o + 2, none⟩ (.int .i64 d.un)).setCell ⟨B, o + 3, none⟩ (.string d.rc)).setCell ⟨B, o + 4, none⟩ (.slice s.a1 d.pg.length s.c1)).setCell ⟨B, o + 5, none⟩ (.string d.sav)).setCell ⟨B, o + 6, none⟩ (.slice s.a2 d.po.length s.c2)).setCell ⟨B, o + 7, none⟩ (.slice s.a3 d.fr.length s.c3))

theorem blk_setL {B o : Nat} {L : List Value} {W : World} {d : Ln} {s : Sl} (h : K0.Blk B L W) : K0.Blk B (put L o d s) (setL W B o d s) :=
  (((((((h.set _ _).set _ _).set _ _).set _ _).set _ _).set _ _).set _ _).set _ _
theorem blk_otherL {B B' o : Nat} {L : List Value} {W : World} {d : Ln} {s : Sl} (h : K0.Blk B' L W) (hne : B ≠ B') : K0.Blk B' L (setL W B o d s) :=
  (((((((h.setOther hne _ _).setOther hne _ _).setOther hne _ _).setOther hne _ _).setOther hne _ _).setOther hne _ _).setOther hne _ _).setOther hne _ _
theorem bel_setL {B o b : Nat} {w W : World} {d : Ln} {s : Sl} (h : Below b w W) (hb : b ≤ B) : Below b w (setL W B o d s) :=
  (((((((h.setCell (p := ⟨B, o, none⟩) hb _).setCell (p := ⟨B, o + 1, none⟩) hb _).setCell (p := ⟨B, o + 2, none⟩) hb _).setCell (p := ⟨B, o + 3, none⟩) hb _).setCell (p := ⟨B, o + 4, none⟩) hb _).setCell (p := ⟨B, o + 5, none⟩) hb _).setCell (p := ⟨B, o + 6, none⟩) hb _).setCell (p := ⟨B, o + 7, none⟩) hb _
theorem cp_setL {B o b g1 g2 g3 : Nat} {W : World} {d e : Ln} {s : Sl} (h : Cp b e g1 g2 g3 W) (hb : B < b) : Cp b e g1 g2 g3 (setL W B o d s) := by
  have n1 := h.h1
  have n2 := h.h2
  have n3 := h.h3
  exact ⟨h.h1, h.h2, h.h3, blk_otherL h.k1 (by omega), blk_otherL h.k2 (by omega), blk_otherL h.k3 (by omega)⟩

/-- Where the copies of loans stand. -/
structure Pl where
  g1 : Nat
  g2 : Nat
  g3 : Nat

/-- The places of the copies' lists. -/
def pls (ds : List Ln) (P : Nat → Pl) (j : Nat) : Sl := at3 (dat ds j) (P j).g1 (P j).g2 (P j).g3

/-- A row of loans while it is being filled. -/
structure Mk (g b n : Nat) (ds : List Ln) (P : Nat → Pl) (k : Nat) (L : List Value) (W : World) : Prop where
  len : L.length = n * 8
  blk : K0.Blk g L W
  done : ∀ j, j < k → LAt L (j * 8) (dat ds j) (pls ds P j)
  sub : ∀ j, j < k → Cp b (dat ds j) (P j).g1 (P j).g2 (P j).g3 W

variable {g b n k : Nat} {ds : List Ln} {P : Nat → Pl} {L : List Value} {w W W' : World}

theorem Mk.below (h : Mk g b n ds P k L W) (hb : Below W.heap.size W W') : Mk g b n ds P k L W' := ⟨h.len, h.blk.below hb, h.done, fun j hj => (h.sub j hj).below hb⟩

theorem Mk.step (h : Mk g b n ds P k L W) (hk : k < n) (hg : g < b) {q : Pl} (hc : Cp b (dat ds k) q.g1 q.g2 q.g3 W) :
    Mk g b n ds (fun j => if j = k then q else P j) (k + 1) (put L (k * 8) (dat ds k) (at3 (dat ds k) q.g1 q.g2 q.g3)) (setL W g (k * 8) (dat ds k) (at3 (dat ds k) q.g1 q.g2 q.g3)) := by
  have hl := h.len
  refine ⟨by rw [put_len, hl], blk_setL h.blk, fun j hj => ?_, fun j hj => ?_⟩
  · by_cases e : j = k
    · subst e
      have := put_get L (j * 8) (dat ds j) (at3 (dat ds j) q.g1 q.g2 q.g3) (by omega)
      simpa [pls] using this
    · have hd := h.done j (by omega)
      have e2 : pls ds (fun j => if j = k then q else P j) j = pls ds P j := by simp [pls, e]
      rw [e2]
      exact lat_other (by omega) hd
  · by_cases e : j = k
    · subst e
      have := cp_setL (B := g) (o := j * 8) (d := dat ds j) (s := at3 (dat ds j) q.g1 q.g2 q.g3) hc hg
      simpa using this
    · have := cp_setL (B := g) (o := k * 8) (d := dat ds k) (s := at3 (dat ds k) q.g1 q.g2 q.g3) (h.sub j (by omega)) hg
      simpa [e] using this

/-- A row of copies: each loan's lists are its own, all above a block. -/
structure Cps (g b : Nat) (ds : List Ln) (P : Nat → Pl) (W : World) : Prop where
  ex : ∃ L : List Value, Mk g b ds.length ds P ds.length L W
  lt : g < b

theorem Cps.below (h : Cps g b ds P W) (hb : Below W.heap.size W W') : Cps g b ds P W' := by
  obtain ⟨L, hL⟩ := h.ex
  exact ⟨⟨L, hL.below hb⟩, h.lt⟩
theorem Cps.rows (h : Cps g b ds P W) : Lns W (some ⟨g, 0, none⟩) ds (pls ds P) := by
  obtain ⟨L, hL⟩ := h.ex
  refine ⟨Or.inr ⟨g, 0, rfl, hL.blk.lt, fun j hj => ?_⟩, fun j hj => (hL.sub j hj).lists⟩
  rw [Nat.zero_add]
  exact at_of hL.blk (hL.done j hj)

set_option maxHeartbeats 4000000 in
theorem toLoanS (a : Option Addr) (c : Nat) (ds : List Ln) (ss : Nat → Sl) (w : World) (hs : ds.length + tot ds ds.length ≤ 1048576) (hR : Lns w a ds ss) :
    Calls Tryz.prog 58 #[.slice a ds.length c] w fun e w' => ∃ P, e = .returned (.slice (some ⟨w.heap.size, 0, none⟩) ds.length ds.length) ∧ Cps w.heap.size (w.heap.size + 1) ds P w' ∧ Below w.heap.size w w' := by
  have hn : ds.length ≤ 1048576 := by omega
  obtain ⟨C, hC, hmk⟩ := make_loans ds.length (by omega)
  have hmk0 := hmk w
  have m0 : Mk w.heap.size (w.heap.size + 1) ds.length ds (fun _ => ⟨0, 0, 0⟩) 0 C.toList (w.alloc (.cells C 26)) := ⟨by rw [Array.length_toList, hC], by have := K0.blk_new C.toList w 26; rwa [Array.toArray_toList] at this, fun j hj => absurd hj (Nat.not_lt_zero _), fun j hj => absurd hj (Nat.not_lt_zero _)⟩
  have l0 := K0.below_new w (.cells C 26)
  obtain ⟨W0, hW0⟩ : ∃ W0, w.alloc (.cells C 26) = W0 := ⟨_, rfl⟩
  rw [hW0] at m0 l0 hmk0
  clear hmk hW0
  go_enter Tryz.func58, Tryz.ntmps58
  go_wp2
  go_loopw [4] (fun i w' => ∃ (k : Nat) (P : Nat → Pl) (L : List Value), k ≤ ds.length ∧ i = .int .i64 k ∧ Mk w.heap.size (w.heap.size + 1) ds.length ds P k L w' ∧ Below w.heap.size w w') (fun i _ => ds.length - (intOf i).toNat)
  case atStart => exact ⟨0, _, _, Nat.zero_le _, rfl, m0, l0⟩
  case round =>
    obtain ⟨k, P, L, hk, rfl, hmk, hbel⟩ := hrel
    clear m0 l0 hmk0
    by_cases hlt : k < ds.length
    · have ls := (hR.sub.below hbel) k hlt
      have hz := tot_one hlt
      obtain ⟨b, off, rfl, hlt0, hc⟩ := (hR.row.below hbel).get hlt
      obtain ⟨y0, y1, y2, y3, y4, y5, y6, y7⟩ := hc k hlt
      have HS : Hid (∀ q W, Cp (w.heap.size + 1) (dat ds k) q.g1 q.g2 q.g3 W → Mk w.heap.size (w.heap.size + 1) ds.length ds P k L W → Mk w.heap.size (w.heap.size + 1) ds.length ds (fun j => if j = k then q else P j) (k + 1) (put L (k * 8) (dat ds k) (at3 (dat ds k) q.g1 q.g2 q.g3)) (setL W w.heap.size (k * 8) (dat ds k) (at3 (dat ds k) q.g1 q.g2 q.g3))) := fun q W h1 h2 => h2.step hlt (Nat.lt_succ_self _) h1
      obtain ⟨d, ed⟩ : ∃ d, dat ds k = d := ⟨_, rfl⟩
      obtain ⟨s, es⟩ : ∃ s, ss k = s := ⟨_, rfl⟩
      rw [ed, es] at ls
      rw [ed] at y0 y1 y2 y3 y4 y5 y6 y7 hz HS
      rw [es] at y4 y6 y7
      obtain ⟨z1, z2, z3, -, -⟩ := N12.sizes (d := d) (by omega)
      have e1 : (0 : Int) ≤ (k : Int) := by omega
      have e2 : (k : Int) < (ds.length : Int) := by omega
      have hB := hbel.size
      have hbs := hmk.blk.lt
      have hLl := hmk.len
      clear ed es hc hR hs
      go_wp2_with (go_at_call 97; refine (N4.toLoan d s _ z1 z2 z3 ls).mono ?_; rintro e w1 ⟨g1, g2, g3, rfl, cp, b1⟩; have mk1 := hmk.below b1; have m1 := mk1.blk; have cp1 := N12.cp_mono (b' := w.heap.size + 1) cp hbs; obtain ⟨x0, q0⟩ : ∃ x, w1.cell? ⟨w.heap.size, k * 8, none⟩ = some x := ⟨_, m1.cell (k * 8) (by omega)⟩; have f0 := m1.free (k * 8) (by omega); obtain ⟨x1, q1⟩ : ∃ x, w1.cell? ⟨w.heap.size, k * 8 + 1, none⟩ = some x := ⟨_, m1.cell (k * 8 + 1) (by omega)⟩; have f1 := m1.free (k * 8 + 1) (by omega); obtain ⟨x2, q2⟩ : ∃ x, w1.cell? ⟨w.heap.size, k * 8 + 2, none⟩ = some x := ⟨_, m1.cell (k * 8 + 2) (by omega)⟩; have f2 := m1.free (k * 8 + 2) (by omega); obtain ⟨x3, q3⟩ : ∃ x, w1.cell? ⟨w.heap.size, k * 8 + 3, none⟩ = some x := ⟨_, m1.cell (k * 8 + 3) (by omega)⟩; have f3 := m1.free (k * 8 + 3) (by omega); obtain ⟨x4, q4⟩ : ∃ x, w1.cell? ⟨w.heap.size, k * 8 + 4, none⟩ = some x := ⟨_, m1.cell (k * 8 + 4) (by omega)⟩; have f4 := m1.free (k * 8 + 4) (by omega); obtain ⟨x5, q5⟩ : ∃ x, w1.cell? ⟨w.heap.size, k * 8 + 5, none⟩ = some x := ⟨_, m1.cell (k * 8 + 5) (by omega)⟩; have f5 := m1.free (k * 8 + 5) (by omega); obtain ⟨x6, q6⟩ : ∃ x, w1.cell? ⟨w.heap.size, k * 8 + 6, none⟩ = some x := ⟨_, m1.cell (k * 8 + 6) (by omega)⟩; have f6 := m1.free (k * 8 + 6) (by omega); obtain ⟨x7, q7⟩ : ∃ x, w1.cell? ⟨w.heap.size, k * 8 + 7, none⟩ = some x := ⟨_, m1.cell (k * 8 + 7) (by omega)⟩; have f7 := m1.free (k * 8 + 7) (by omega))
      go_roundw
      case rel => exact ⟨k + 1, _, _, by omega, by go_num, HS.out ⟨g1, g2, g3⟩ _ cp1 mk1, bel_setL (hbel.trans (b1.mono hB)) (Nat.le_refl _)⟩
      case measure => simp [intOf]; omega
    · obtain rfl : k = ds.length := by omega
      have hcp : Cps w.heap.size (w.heap.size + 1) ds P wr := ⟨⟨L, hmk⟩, Nat.lt_succ_self _⟩
      clear hR hmk
      go_wp2
      go_ret
      exact ⟨_, rfl, hcp, hbel⟩

set_option maxHeartbeats 4000000 in
theorem eqLoanS (a1 a2 : Option Addr) (c1 c2 : Nat) (ds : List Ln) (s1 s2 : Nat → Sl) (w : World) (hs : ds.length + tot ds ds.length ≤ 1048576) (h1 : Lns w a1 ds s1) (h2 : Lns w a2 ds s2) :
    Calls Tryz.prog 70 #[.slice a1 ds.length c1, .slice a2 ds.length c2] w fun e w' => e = .returned (.bool true) ∧ Below w.heap.size w w' := by
  have hn : ds.length ≤ 1048576 := by omega
  go_enter Tryz.func70, Tryz.ntmps70
  go_wp2
  go_loopw [5] (fun i w' => ∃ k : Nat, k ≤ ds.length ∧ i = .int .i64 k ∧ Below w.heap.size w w') (fun i _ => ds.length - (intOf i).toNat)
  case atStart => exact ⟨0, Nat.zero_le _, rfl, Below.refl _ _⟩
  case round =>
    obtain ⟨k, hk, rfl, hbel⟩ := hrel
    by_cases hlt : k < ds.length
    · have ls1 := (h1.sub.below hbel) k hlt
      have ls2 := (h2.sub.below hbel) k hlt
      have hz := tot_one hlt
      obtain ⟨b1, o1, rfl, l1, r1⟩ := (h1.row.below hbel).get hlt
      obtain ⟨b2, o2, rfl, l2, r2⟩ := (h2.row.below hbel).get hlt
      have r1 := r1 k hlt
      have r2 := r2 k hlt
      obtain ⟨d, ed⟩ : ∃ d, dat ds k = d := ⟨_, rfl⟩
      obtain ⟨s, es⟩ : ∃ s, s1 k = s := ⟨_, rfl⟩
      obtain ⟨t, et⟩ : ∃ t, s2 k = t := ⟨_, rfl⟩
      rw [ed, es] at ls1 r1
      rw [ed, et] at ls2 r2
      rw [ed] at hz
      obtain ⟨z1, z2, z3, -, -⟩ := N12.sizes (d := d) (by omega)
      have hp' : d.pg.length ≤ 281474976710656 := by omega
      have ho' : d.po.length ≤ 281474976710656 := by omega
      have hf' : d.fr.length ≤ 281474976710656 := by omega
      have e1 : (0 : Int) ≤ (k : Int) := by omega
      have e2 : (k : Int) < (ds.length : Int) := by omega
      have hB := hbel.size
      have m1 : Lists wr.drew d s := ls1.drew
      have m2 : Lists wr.drew d t := ls2.drew
      have HN : Hid (∀ W, Below wr.drew.heap.size wr.drew W → (W.cell? ⟨b1, o1 + k * 8, none⟩ = some (.int .i64 d.ino) ∧ W.cell? ⟨b1, o1 + k * 8 + 1, none⟩ = some (.int .i64 d.cl) ∧ W.cell? ⟨b1, o1 + k * 8 + 2, none⟩ = some (.int .i64 d.un) ∧ W.cell? ⟨b1, o1 + k * 8 + 3, none⟩ = some (.string d.rc) ∧ W.cell? ⟨b1, o1 + k * 8 + 4, none⟩ = some (.slice s.a1 d.pg.length s.c1) ∧ W.cell? ⟨b1, o1 + k * 8 + 5, none⟩ = some (.string d.sav) ∧ W.cell? ⟨b1, o1 + k * 8 + 6, none⟩ = some (.slice s.a2 d.po.length s.c2) ∧ W.cell? ⟨b1, o1 + k * 8 + 7, none⟩ = some (.slice s.a3 d.fr.length s.c3)) ∧ (W.cell? ⟨b2, o2 + k * 8, none⟩ = some (.int .i64 d.ino) ∧ W.cell? ⟨b2, o2 + k * 8 + 1, none⟩ = some (.int .i64 d.cl) ∧ W.cell? ⟨b2, o2 + k * 8 + 2, none⟩ = some (.int .i64 d.un) ∧ W.cell? ⟨b2, o2 + k * 8 + 3, none⟩ = some (.string d.rc) ∧ W.cell? ⟨b2, o2 + k * 8 + 4, none⟩ = some (.slice t.a1 d.pg.length t.c1) ∧ W.cell? ⟨b2, o2 + k * 8 + 5, none⟩ = some (.string d.sav) ∧ W.cell? ⟨b2, o2 + k * 8 + 6, none⟩ = some (.slice t.a2 d.po.length t.c2) ∧ W.cell? ⟨b2, o2 + k * 8 + 7, none⟩ = some (.slice t.a3 d.fr.length t.c3))) := fun W hb => ⟨r1.below (W := wr.drew) l1 hb, r2.below (W := wr.drew) l2 hb⟩
      have hS0 := HN.out wr.drew (Below.refl _ _)
      clear ed es et r1 r2 h1 h2 hs ls1 ls2 z1 z2 z3
      go_wp2
      go_region_held3 (fun W => (W.cell? ⟨b1, o1 + k * 8, none⟩ = some (.int .i64 d.ino) ∧ W.cell? ⟨b1, o1 + k * 8 + 1, none⟩ = some (.int .i64 d.cl) ∧ W.cell? ⟨b1, o1 + k * 8 + 2, none⟩ = some (.int .i64 d.un) ∧ W.cell? ⟨b1, o1 + k * 8 + 3, none⟩ = some (.string d.rc) ∧ W.cell? ⟨b1, o1 + k * 8 + 4, none⟩ = some (.slice s.a1 d.pg.length s.c1) ∧ W.cell? ⟨b1, o1 + k * 8 + 5, none⟩ = some (.string d.sav) ∧ W.cell? ⟨b1, o1 + k * 8 + 6, none⟩ = some (.slice s.a2 d.po.length s.c2) ∧ W.cell? ⟨b1, o1 + k * 8 + 7, none⟩ = some (.slice s.a3 d.fr.length s.c3)) ∧ (W.cell? ⟨b2, o2 + k * 8, none⟩ = some (.int .i64 d.ino) ∧ W.cell? ⟨b2, o2 + k * 8 + 1, none⟩ = some (.int .i64 d.cl) ∧ W.cell? ⟨b2, o2 + k * 8 + 2, none⟩ = some (.int .i64 d.un) ∧ W.cell? ⟨b2, o2 + k * 8 + 3, none⟩ = some (.string d.rc) ∧ W.cell? ⟨b2, o2 + k * 8 + 4, none⟩ = some (.slice t.a1 d.pg.length t.c1) ∧ W.cell? ⟨b2, o2 + k * 8 + 5, none⟩ = some (.string d.sav) ∧ W.cell? ⟨b2, o2 + k * 8 + 6, none⟩ = some (.slice t.a2 d.po.length t.c2) ∧ W.cell? ⟨b2, o2 + k * 8 + 7, none⟩ = some (.slice t.a3 d.fr.length t.c3))) (assumption) ((go_at_call 108; refine (N3.eqLoan d s t _ hp' ho' hf' m1 m2).mono ?_; rintro e w4 ⟨rfl, b4⟩; have hS4 := HN.out w4 b4))
      all_goals
        go_wp2
        go_roundw
        case rel => exact ⟨k + 1, by omega, by go_num, hbel.trans ((show Below wr.heap.size wr w4 from ⟨b4.os, b4.tape, b4.output, b4.size, b4.block⟩).mono hB)⟩
        case measure => simp [intOf]; omega
    · clear h1 h2
      go_wp2
      go_ret
      exact ⟨rfl, hbel⟩
end Go.Proofs.YtdljajjgppcjpaaGreat.Z2
