/- Joined texts: plain facts and contracts, as each part says. -/
import Derived.Test.YtkdjcbmmbjongaaJpC
import Derived.Test.YtkdjcbmmbjongaaJpD
import Derived.OneCell
import Derived.OrdersHeld
import Derived.WalkKit
import Derived.Handy
import Derived.Test.YtkdjcbmmbjongaaJpB
import Derived.Shelf.Abstract
import Derived.Deep.QuietTactic
import Derived.BigQuiet
import Derived.Deep.RegionHeld3
import Derived.Laws.MakeOwn
import Derived.Deep.SlicePairs

/- A list of numbers that grows behind a pointer: the contracts of its methods add and addBut, and of impl.pagesToFill. -/
namespace Go.Proofs.Ytkdjcbmmbjongaa.SR
open Go.ChangeShapes Go.WideShapes Go.ChangeAt Go.RowKit
set_option linter.unusedVariables false
set_option linter.unusedSimpArgs false
set_option maxRecDepth 10000

open J0 (IBuf Own)

/-- A series of numbers in its block; its row lies behind it. -/
structure SI (B : Nat) (a : Option Addr) (n cap : Nat) (zs : List Int) (W : World) : Prop where
  blk : K0.Blk B [.slice a n cap] W
  buf : IBuf (B + 1) W a n cap zs

variable {B n cap : Nat} {a : Option Addr} {zs : List Int} {w W W' : World}

theorem SI.below (h : SI B a n cap zs W) (hb : Below W.heap.size W W') : SI B a n cap zs W' := ⟨h.blk.below hb, h.buf.below hb⟩
theorem SI.drew (h : SI B a n cap zs W) : SI B a n cap zs W.drew := ⟨h.blk.drew, h.buf.drew⟩
theorem SI.lt (h : SI B a n cap zs W) : B + 1 ≤ W.heap.size := h.blk.lt
theorem SI.len (h : SI B a n cap zs W) : n = zs.length := h.buf.1
theorem si_new (w : World) : SI w.heap.size none 0 0 [] (w.alloc (.cells #[.slice none 0 0] 75)) := ⟨K0.blk_new [.slice none 0 0] w 75, J0.ibuf_nil _⟩
theorem SI.store {a' : Option Addr} {n' cap' : Nat} {zs' : List Int} (h : SI B a n cap zs w) (hbuf : IBuf (B + 1) W a' n' cap' zs') (hb : Below (B + 1) w W) : SI B a' n' cap' zs' (W.setCell ⟨B, 0, none⟩ (.slice a' n' cap')) := by
  have h1 := J0.blk_keep h.blk hb (Nat.lt_succ_self B)
  refine ⟨h1.set 0 (.slice a' n' cap'), hbuf.1, ?_⟩
  exact ownsRow_setCell_other hbuf.2 (a := ⟨B, 0, none⟩) (fun e => Nat.not_succ_le_self _ (J0.own_block hbuf _ e)) _
theorem store_below {B : Nat} (hb : Below (B + 1) w W) (v : Value) : Below B w (W.setCell ⟨B, 0, none⟩ v) := (hb.mono (Nat.le_succ B)).setCell (p := ⟨B, 0, none⟩) (Nat.le_refl _) v

set_option maxHeartbeats 1000000 in
theorem add (ax : Option Addr) (cx : Nat) (xs : List Int) (w : World) (h : SI B a n cap zs w) (hR : P0.Row w ax xs) (hlen : n + xs.length ≤ 1048576) :
    Calls Try.prog 54 #[.pointer (some ⟨B, 0, none⟩), .slice ax xs.length cx] w fun e w' => e = .returned (.tuple #[]) ∧ ∃ a' cap', SI B a' (n + xs.length) cap' (zs ++ xs) w' ∧ Below B w w' := by
  have c0 := h.blk.c0
  have hlt := h.lt
  have hbf := h.buf
  have HH : Hid (SI B a n cap zs w) := h
  clear h
  go_enter Try.func54, Try.ntmps54
  go_wp2_with (at_builtin; refine Q1.append_rows rfl (.tmp 8) (.tmp 9) rfl hbf ax cx xs (by rfl) (by rfl) hR (by omega) hlt ?_; intro a1 cap1 w1 b1 l1; have k1 := J0.blk_keep HH.out.blk l1 (Nat.lt_succ_self B); have c1 := k1.c0; have f1 := k1.f0)
  refine bodyPost_end (v := .tuple #[]) (by simp [results, Try.results54, go_sem]) rfl ?_
  exact ⟨rfl, a1, cap1, HH.out.store b1 l1, store_below l1 _⟩

theorem row_one (w : World) (x : Int) : P0.Row (w.alloc (.cells #[.int .i64 x] 3)) (some ⟨w.heap.size, 0, none⟩) [x] := I2.row_of_blk (K0.blk_new [.int .i64 x] w 3)

set_option maxHeartbeats 2000000 in
theorem addBut (ax ay : Option Addr) (cx cy : Nat) (xs ys : List Int) (w : World) (h : SI B a n cap zs w) (hX : ∀ W, Below B w W → P0.Row W ax xs) (hY : ∀ W, Below B w W → P0.Row W ay ys) (hlen : n + xs.length ≤ 1048000) (hy : ys.length ≤ 281474976710656) :
    Calls Try.prog 55 #[.pointer (some ⟨B, 0, none⟩), .slice ax xs.length cx, .slice ay ys.length cy] w fun e w' => e = .returned (.tuple #[]) ∧ ∃ a' n' cap', SI B a' n' cap' (PF.grow zs xs ys) w' ∧ Below B w w' := by
  have hn := h.len
  have hBw := h.lt
  go_enter Try.func55, Try.ntmps55
  go_wp2
  go_loopw [10] (fun i w' => ∃ (k : Nat) (a' : Option Addr) (n' cap' : Nat), k ≤ xs.length ∧ i = .int .i64 k ∧ SI B a' n' cap' (PF.grow zs (xs.take k) ys) w' ∧ Below B w w') (fun i _ => xs.length - (intOf i).toNat)
  case atStart => exact ⟨0, a, n, cap, Nat.zero_le _, rfl, h, Below.refl _ _⟩
  case round =>
    obtain ⟨k, a1, n1, cap1, hk, rfl, hs, hbel⟩ := hrel
    clear h
    have hlen' : zs.length + xs.length ≤ 1048000 := by omega
    have hgl := PF.grow_len (xs.take k) ys zs
    have htl : (xs.take k).length ≤ xs.length := by simp; omega
    obtain rfl := hs.len
    by_cases hlt : k < xs.length
    · obtain ⟨b, off, rfl, hlt0, hc⟩ := (hX wr hbel).get hlt
      have y1 := hc k hlt
      have hsu := PF.grow_succ zs xs ys k hlt
      have hY1 := hY wr hbel
      have c0 := hs.blk.c0
      obtain ⟨z, ez⟩ : ∃ z, xs.getD k 0 = z := ⟨_, rfl⟩
      rw [ez] at y1 hsu
      obtain ⟨acc, ea⟩ : ∃ acc, PF.grow zs (xs.take k) ys = acc := ⟨_, rfl⟩
      rw [ea] at hs hsu hgl c0
      have HS : Hid (PF.grow zs (xs.take (k + 1)) ys = PF.add1 ys acc z) := hsu
      have e1 : (0 : Int) ≤ (k : Int) := by omega
      have e2 : (k : Int) < (xs.length : Int) := by omega
      clear ez ea hc hX hY hsu hn
      by_cases hb1 : P0.has ys z = true
      · have hc1 : Hid (∀ W, P0.Row W ay ys → Calls Try.prog 72 #[.slice ay ys.length cy, .int .i64 z] W fun e w' => e = .returned (.bool true) ∧ w' = W) := fun W hW => by
          have := N2.containsRow ay cy ys z W hy hW
          rwa [hb1] at this
        have HG : Hid (PF.add1 ys acc z = acc) := by
          show PF.add1 ys acc z = acc
          rw [PF.add1, hb1, Bool.true_or, if_pos rfl]
        clear hb1
        go_wp2_with (go_at_call 72; refine (hc1.out _ hY1).mono ?_; rintro e w2 ⟨rfl, hw2⟩; subst w2)
        go_roundw
        case rel => exact ⟨k + 1, a1, acc.length, cap1, by omega, by go_num, by rw [HS.out, HG.out]; exact hs, hbel⟩
        case measure => simp [intOf]; omega
      · have hb1' : P0.has ys z = false := by simpa using hb1
        have hc1 : Hid (∀ W, P0.Row W ay ys → Calls Try.prog 72 #[.slice ay ys.length cy, .int .i64 z] W fun e w' => e = .returned (.bool false) ∧ w' = W) := fun W hW => by
          have := N2.containsRow ay cy ys z W hy hW
          rwa [hb1'] at this
        by_cases hb2 : P0.has acc z = true
        · have hc2 : Hid (∀ W, P0.Row W a1 acc → Calls Try.prog 72 #[.slice a1 acc.length cap1, .int .i64 z] W fun e w' => e = .returned (.bool true) ∧ w' = W) := fun W hW => by
            have := N2.containsRow a1 cap1 acc z W (by omega) hW
            rwa [hb2] at this
          have HG : Hid (PF.add1 ys acc z = acc) := by
            show PF.add1 ys acc z = acc
            rw [PF.add1, hb2, Bool.or_true, if_pos rfl]
          have R2 := hs.buf.own.row
          clear hb1 hb1' hb2
          go_wp2_with (first
            | (go_at_call 72; have m2 := m1; refine (hc2.out _ R2).mono ?_; rintro e w3 ⟨rfl, hw3⟩; subst w3)
            | (go_at_call 72; refine (hc1.out _ hY1).mono ?_; rintro e w2 ⟨rfl, hw2⟩; subst w2; have m1 : True := trivial))
          go_roundw
          case rel => exact ⟨k + 1, a1, acc.length, cap1, by omega, by go_num, by rw [HS.out, HG.out]; exact hs, hbel⟩
          case measure => simp [intOf]; omega
        · have hb2' : P0.has acc z = false := by simpa using hb2
          have hc2 : Hid (∀ W, P0.Row W a1 acc → Calls Try.prog 72 #[.slice a1 acc.length cap1, .int .i64 z] W fun e w' => e = .returned (.bool false) ∧ w' = W) := fun W hW => by
            have := N2.containsRow a1 cap1 acc z W (by omega) hW
            rwa [hb2'] at this
          have HG : Hid (PF.add1 ys acc z = acc ++ [z]) := by
            show PF.add1 ys acc z = acc ++ [z]
            rw [PF.add1, hb1', hb2']
            rfl
          have R2 := hs.buf.own.row
          have ha : Hid (∀ W, SI B a1 acc.length cap1 acc W → Calls Try.prog 54 #[.pointer (some ⟨B, 0, none⟩), .slice (some ⟨W.heap.size, 0, none⟩) 1 1] (W.alloc (.cells #[.int .i64 z] 3)) fun e w' => e = .returned (.tuple #[]) ∧ ∃ a' cap', SI B a' (acc.length + 1) cap' (acc ++ [z]) w' ∧ Below B W w') := fun W hW =>
            (add (some ⟨W.heap.size, 0, none⟩) 1 [z] _ (hW.below (K0.below_new _ _)) (row_one W z) (by simp only [List.length_cons, List.length_nil]; omega)).mono fun _ _ ⟨he, a', c', h1, h2⟩ => ⟨he, a', c', h1, ((K0.below_new W _).mono (by have := hW.lt; omega)).trans h2⟩
          clear hb1 hb1' hb2 hb2'
          go_wp2_with (first
            | (go_at_call 72; have m2 := m1; refine (hc2.out _ R2).mono ?_; rintro e w3 ⟨rfl, hw3⟩; subst w3)
            | (go_at_call 72; refine (hc1.out _ hY1).mono ?_; rintro e w2 ⟨rfl, hw2⟩; subst w2; have m1 : True := trivial)
            | (go_at_call 54; refine (ha.out _ hs).mono ?_; rintro e w4 ⟨rfl, a4, c4, s4, b4⟩))
          go_roundw
          case rel => exact ⟨k + 1, a4, acc.length + 1, c4, by omega, by go_num, by rw [HS.out, HG.out]; exact s4, hbel.trans b4⟩
          case measure => simp [intOf]; omega
    · obtain rfl : k = xs.length := by omega
      rw [List.take_length] at hs
      have HF : Hid (SI B a1 (PF.grow zs xs ys).length cap1 (PF.grow zs xs ys) wr) := hs
      clear hX hY hs
      go_wp2
      refine bodyPost_end (v := .tuple #[]) (by simp [results, Try.results55, go_sem]) rfl ?_
      exact ⟨rfl, _, _, _, HF.out, hbel⟩

set_option maxHeartbeats 1000000 in
theorem pagesToFill (k o s : Int) (an al ab : Option Addr) (cn cl cb : Nat) (pg lent barred : List Int) (w : World) (hp : P0.Row w an pg) (hl : P0.Row w al lent) (hb : P0.Row w ab barred) (h1 : pg.length ≤ 1000) (h2 : lent.length ≤ 1000) (h3 : barred.length ≤ 281474976710656) :
    Calls Try.prog 30 #[I0.val k o s an pg.length cn, .slice al lent.length cl, .slice ab barred.length cb] w fun e w' => ∃ a' c', e = .returned (.slice a' (PF.grow pg lent barred).length c') ∧ Own w.heap.size w' a' (PF.grow pg lent barred) ∧ (PF.grow pg lent barred).length ≤ c' ∧ Below w.heap.size w w' := by
  have l0 := K0.below_new w (.cells #[.int .i64 k, .int .i64 o, .int .i64 s, .slice an pg.length cn] 51)
  have k0 := K0.blk_new [.int .i64 k, .int .i64 o, .int .i64 s, .slice an pg.length cn] w 51
  have e0 : (w.alloc (.cells #[.int .i64 k, .int .i64 o, .int .i64 s, .slice an pg.length cn] 51)).heap.size = w.heap.size + 1 := by simp
  have s1 := si_new (w.alloc (.cells #[.int .i64 k, .int .i64 o, .int .i64 s, .slice an pg.length cn] 51))
  have l1 := K0.below_new (w.alloc (.cells #[.int .i64 k, .int .i64 o, .int .i64 s, .slice an pg.length cn] 51)) (.cells #[.slice none 0 0] 75)
  have k1 := k0.below l1
  have c3 := k1.c3
  rw [e0] at s1 l1
  have HR : Hid (∀ W, Below w.heap.size w W → P0.Row W an pg ∧ P0.Row W al lent ∧ P0.Row W ab barred) := fun W hW => ⟨hp.below hW, hl.below hW, hb.below hW⟩
  have M1 : Below w.heap.size w ((w.alloc (.cells #[.int .i64 k, .int .i64 o, .int .i64 s, .slice an pg.length cn] 51)).alloc (.cells #[.slice none 0 0] 75)) := l0.trans (l1.mono (Nat.le_succ _))
  have hp1 := (HR.out _ M1).1
  clear hp hl hb k0 l0 k1
  go_enter Try.func30, Try.ntmps30
  go_wp2_with (first
    | (go_at_call 54; refine (add an cn pg _ s1 hp1 (by omega)).mono ?_; rintro e w2 ⟨rfl, a2, c2, s2, b2⟩; have M2 := M1.trans (b2.mono (Nat.le_succ _)))
    | (go_at_call 55; refine (addBut al ab cl cb lent barred _ s2 (fun W hW => (HR.out W (M2.trans (hW.mono (Nat.le_succ _)))).2.1) (fun W hW => (HR.out W (M2.trans (hW.mono (Nat.le_succ _)))).2.2) (by omega) h3).mono ?_; rintro e w3 ⟨rfl, a3, n3, d3, s3, b3⟩; have M3 := M2.trans (b3.mono (Nat.le_succ _)); have z3 := s3.blk.c0))
  have hq := s3.len
  subst n3
  go_ret
  exact ⟨a3, d3, rfl, s3.buf.own.mono (by omega), s3.buf.fits, M3⟩
end Go.Proofs.Ytkdjcbmmbjongaa.SR

/- A call that alone may come up in a region that draws its order. -/
namespace Go.Proofs.Ytkdjcbmmbjongaa.Y0
open Go.RowKit
set_option linter.unusedVariables false
set_option linter.unusedSimpArgs false
variable {P : Program} {Q : Exit → Act → World → Prop} {ops : Array Oper}

theorem of_if {c : Prop} [Decidable c] {p q : Prop} (hc : c) (hp : p) : if c then p else q := by rw [if_pos hc]; exact hp

/-- A call of one argument that alone may come up. -/
theorem one_call {S : World → Prop} {a : Act} {w : World} {i f : Nat} {o : Oper} {listed : Array Bool} {fuel : Nat} {md : Region.Mode} (hr : Region.ready md ops listed = [i]) (ho : ops[i]? = some o) (hg : o.guard = none)
    (x : Operand) (ts : Array TypeId) (hop : o.op = .call { callee := .value (.func f), args := #[x], argTypes := ts }) (v : Value) (hx : a.eval x = v) (eg : ∀ args w, (callFunc f args).run P w = .ok (.enter f args) w)
    (hc : Calls P f #[v] w fun e w' => ∃ u, e = .returned u ∧ S w' ∧ wpAnyH P md ops Q S fuel (listed.setIfInBounds i true) (a.put o.dst u) w') : wpAnyH P md ops Q S (fuel + 1) listed a w := by
  refine wpAnyH_all hr (by simp) ?_
  intro j hj
  obtain rfl : j = i := by simpa using hj
  unfold wpOp
  rw [ho]
  refine of_if (by rw [Region.wanted, hg]) (.inl ?_)
  have he : (execOp a.eval o).run P w = .ok (.enter f #[v]) w := by
    subst hx
    simp [execOp, hop, resolve, go_sem, invoke, eg]
  unfold Oper.wp
  rw [he]
  refine Calls.mono hc ?_
  rintro e w' ⟨u, rfl, h⟩
  exact h

/-- .. where it is guarded, and the guard holds. -/
theorem one_callw {S : World → Prop} {a : Act} {w : World} {i f : Nat} {o : Oper} {listed : Array Bool} {fuel : Nat} {md : Region.Mode} (hr : Region.ready md ops listed = [i]) (ho : ops[i]? = some o) (hw : Region.wanted o (yielded ops a.tmps) = true)
    (x : Operand) (ts : Array TypeId) (hop : o.op = .call { callee := .value (.func f), args := #[x], argTypes := ts }) (v : Value) (hx : a.eval x = v) (eg : ∀ args w, (callFunc f args).run P w = .ok (.enter f args) w)
    (hc : Calls P f #[v] w fun e w' => ∃ u, e = .returned u ∧ S w' ∧ wpAnyH P md ops Q S fuel (listed.setIfInBounds i true) (a.put o.dst u) w') : wpAnyH P md ops Q S (fuel + 1) listed a w := by
  refine wpAnyH_all hr (by simp) ?_
  intro j hj
  obtain rfl : j = i := by simpa using hj
  unfold wpOp
  rw [ho]
  refine of_if hw (.inl ?_)
  have he : (execOp a.eval o).run P w = .ok (.enter f #[v]) w := by
    subst hx
    simp [execOp, hop, resolve, go_sem, invoke, eg]
  unfold Oper.wp
  rw [he]
  refine Calls.mono hc ?_
  rintro e w' ⟨u, rfl, h⟩
  exact h

theorem one_call2w {S : World → Prop} {a : Act} {w : World} {i f : Nat} {o : Oper} {listed : Array Bool} {fuel : Nat} {md : Region.Mode} (hr : Region.ready md ops listed = [i]) (ho : ops[i]? = some o) (hw : Region.wanted o (yielded ops a.tmps) = true)
    (x y : Operand) (ts : Array TypeId) (hop : o.op = .call { callee := .value (.func f), args := #[x, y], argTypes := ts }) (v u1 : Value) (hx0 : a.eval x = v) (hx1 : a.eval y = u1) (eg : ∀ args w, (callFunc f args).run P w = .ok (.enter f args) w)
    (hc : Calls P f #[v, u1] w fun e w' => ∃ u, e = .returned u ∧ S w' ∧ wpAnyH P md ops Q S fuel (listed.setIfInBounds i true) (a.put o.dst u) w') : wpAnyH P md ops Q S (fuel + 1) listed a w := by
  refine wpAnyH_all hr (by simp) ?_
  intro j hj
  obtain rfl : j = i := by simpa using hj
  unfold wpOp
  rw [ho]
  refine of_if hw (.inl ?_)
  have he : (execOp a.eval o).run P w = .ok (.enter f #[v, u1]) w := by
    subst hx0 hx1
    simp [execOp, hop, resolve, go_sem, invoke, eg]
  unfold Oper.wp
  rw [he]
  refine Calls.mono hc ?_
  rintro e w' ⟨u, rfl, h⟩
  exact h

theorem one_call3w {S : World → Prop} {a : Act} {w : World} {i f : Nat} {o : Oper} {listed : Array Bool} {fuel : Nat} {md : Region.Mode} (hr : Region.ready md ops listed = [i]) (ho : ops[i]? = some o) (hw : Region.wanted o (yielded ops a.tmps) = true)
    (x y z : Operand) (ts : Array TypeId) (hop : o.op = .call { callee := .value (.func f), args := #[x, y, z], argTypes := ts }) (v u1 u2 : Value) (hx0 : a.eval x = v) (hx1 : a.eval y = u1) (hx2 : a.eval z = u2) (eg : ∀ args w, (callFunc f args).run P w = .ok (.enter f args) w)
    (hc : Calls P f #[v, u1, u2] w fun e w' => ∃ u, e = .returned u ∧ S w' ∧ wpAnyH P md ops Q S fuel (listed.setIfInBounds i true) (a.put o.dst u) w') : wpAnyH P md ops Q S (fuel + 1) listed a w := by
  refine wpAnyH_all hr (by simp) ?_
  intro j hj
  obtain rfl : j = i := by simpa using hj
  unfold wpOp
  rw [ho]
  refine of_if hw (.inl ?_)
  have he : (execOp a.eval o).run P w = .ok (.enter f #[v, u1, u2]) w := by
    subst hx0 hx1 hx2
    simp [execOp, hop, resolve, go_sem, invoke, eg]
  unfold Oper.wp
  rw [he]
  refine Calls.mono hc ?_
  rintro e w' ⟨u, rfl, h⟩
  exact h

/-- Another operation that alone may come up. -/
theorem one_plain {S : World → Prop} {a : Act} {w w' : World} {u : Value} {i : Nat} {o : Oper} {listed : Array Bool} {fuel : Nat} {md : Region.Mode} (hr : Region.ready md ops listed = [i]) (ho : ops[i]? = some o) (hw : Region.wanted o (yielded ops a.tmps) = true)
    (he : (execOp a.eval o).run P w = .ok (.value u) w') (hS : S w') (h : wpAnyH P md ops Q S fuel (listed.setIfInBounds i true) (a.put o.dst u) w') : wpAnyH P md ops Q S (fuel + 1) listed a w := by
  refine wpAnyH_all hr (by simp) ?_
  intro j hj
  obtain rfl : j = i := by simpa using hj
  unfold wpOp
  rw [ho]
  refine of_if hw (.inl ?_)
  unfold Oper.wp
  rw [he]
  exact ⟨hS, h⟩

/-- .. a store. -/
theorem one_skip {S : World → Prop} {a : Act} {w w' : World} {i : Nat} {o : Oper} {listed : Array Bool} {fuel : Nat} {md : Region.Mode} (hr : Region.ready md ops listed = [i]) (ho : ops[i]? = some o) (hw : Region.wanted o (yielded ops a.tmps) = true)
    (he : (execOp a.eval o).run P w = .ok .skip w') (hS : S w') (h : wpAnyH P md ops Q S fuel (listed.setIfInBounds i true) (a.put o.dst undef) w') : wpAnyH P md ops Q S (fuel + 1) listed a w := by
  refine wpAnyH_all hr (by simp) ?_
  intro j hj
  obtain rfl : j = i := by simpa using hj
  unfold wpOp
  rw [ho]
  refine of_if hw (.inl ?_)
  unfold Oper.wp
  rw [he]
  exact ⟨hS, h⟩
end Go.Proofs.Ytkdjcbmmbjongaa.Y0

/- Contracts of impl.isTaken and impl.dirOk, as the given laws call them. -/
namespace Go.Proofs.Ytkdjcbmmbjongaa.T1
open Go.ChangeShapes Go.WideShapes Go.ChangeAt Go.RowKit
set_option linter.unusedVariables false
set_option linter.unusedSimpArgs false
set_option maxRecDepth 10000

theorem ret_bool {a b : Bool} (h : a = b) : Ending.returned (.bool a) = .returned (.bool b) := by rw [h]

set_option maxHeartbeats 1000000 in
theorem isTaken (b off n c : Nat) (es : List T0.Ent) (x : Int) (s : ByteArray) (w : World) (hn : n ≤ es.length) (hbig : n ≤ 1048576) (hlt0 : b < w.heap.size)
    (hc : ∀ j, j < es.length → w.cell? ⟨b, off + j * 2, none⟩ = some (.int .i64 (T0.ent es j).1) ∧ w.cell? ⟨b, off + j * 2 + 1, none⟩ = some (.string (T0.ent es j).2)) :
    Calls Try.prog 101 #[.slice (some ⟨b, off, none⟩) n c, .agg #[.int .i64 x, .string s]] w fun e w' => e = .returned (.bool (T0.taken (es.take n) (x, s))) ∧ Below w.heap.size w w' := by
  have h0 := E2.bx_new x s w 98
  go_enter Try.func101, Try.ntmps101
  go_wp2
  go_loopw [9] (fun i w' => ∃ k : Nat, k ≤ n ∧ T0.taken (es.take k) (x, s) = false ∧ i = .int .i64 k ∧ E2.Bx w.heap.size w x s w') (fun i _ => n - (intOf i).toNat)
  case atStart => exact ⟨0, Nat.zero_le _, rfl, rfl, h0⟩
  case round =>
    obtain ⟨k, hk, hno, rfl, hbx⟩ := hrel
    clear h0
    by_cases hlt : k < n
    · have y1 := (hbx.bel.cell (p := ⟨b, off + k * 2, none⟩) hlt0).trans (hc k (by omega)).1
      have y2 := (hbx.bel.cell (p := ⟨b, off + k * 2 + 1, none⟩) hlt0).trans (hc k (by omega)).2
      have hs := T0.taken_succ es k (x, s) (by omega)
      have hin := T0.taken_of (es := es) (e := (x, s)) hlt hn
      obtain ⟨z, ez⟩ : ∃ z, T0.ent es k = z := ⟨_, rfl⟩
      rw [ez] at y1 y2 hs hin
      obtain ⟨u, v⟩ := z
      have e1 : (0 : Int) ≤ (k : Int) := by omega
      have e2 : (k : Int) < (n : Int) := by omega
      have hb2 := hbx.alloc (.cells #[.int .i64 u, .string v] 98)
      have d0 := hb2.c0
      have d1 := hb2.c1
      clear ez hc
      by_cases h1 : (v.toList == s.toList) = true
      · have HR : Hid (T0.taken (es.take n) (x, s) = true) := hin (by rw [T0.clash, h1]; rfl)
        clear hin hs hno
        go_wp2
        go_ret
        exact ⟨ret_bool HR.out.symm, hb2.bel⟩
      · have h1' : (v.toList == s.toList) = false := by simpa using h1
        by_cases h2 : (u == x) = true
        · have HR : Hid (T0.taken (es.take n) (x, s) = true) := hin (by rw [T0.clash, h1', h2]; rfl)
          clear hin hs hno h1
          go_wp2
          go_ret
          exact ⟨ret_bool HR.out.symm, hb2.bel⟩
        · have h2' : (u == x) = false := by simpa using h2
          have HN : Hid (T0.taken (es.take (k + 1)) (x, s) = false) := by rw [hs, hno, T0.clash, h1', h2']; rfl
          clear hin hs hno h1 h2
          go_wp2
          go_roundw
          case rel => exact ⟨k + 1, by omega, HN.out, by go_num, hb2⟩
          case measure => simp [intOf]; omega
    · obtain rfl : k = n := by omega
      have HN : Hid (T0.taken (es.take k) (x, s) = false) := hno
      clear hno hc
      go_wp2
      go_ret
      exact ⟨ret_bool HN.out.symm, hbx.bel⟩

theorem ok_lit {i : Int} {s : ByteArray} {B : Nat} {w W : World} {r : Bool} (hs : s.size ≤ 281474976710656) (hr : E0.entryOk i s = r) (h : E2.Bx B w i s W) :
    Calls Try.prog 100 #[.agg #[.int .i64 i, .string s]] W fun e w' => e = .returned (.bool r) ∧ E2.Bx B w i s w' :=
  (E2.impl_EntryOk_bx hs h).mono fun _ _ ⟨he, hb⟩ => ⟨by rw [he, hr], hb⟩

theorem row_at {w W : World} {b off : Nat} {es : List T0.Ent} (hlt : b < w.heap.size) (hb : Below w.heap.size w W) (hc : ∀ j, j < es.length → w.cell? ⟨b, off + j * 2, none⟩ = some (.int .i64 (T0.ent es j).1) ∧ w.cell? ⟨b, off + j * 2 + 1, none⟩ = some (.string (T0.ent es j).2)) :
    ∀ j, j < es.length → W.cell? ⟨b, off + j * 2, none⟩ = some (.int .i64 (T0.ent es j).1) ∧ W.cell? ⟨b, off + j * 2 + 1, none⟩ = some (.string (T0.ent es j).2) := fun j hj =>
  ⟨(hb.cell (p := ⟨b, off + j * 2, none⟩) hlt).trans (hc j hj).1, (hb.cell (p := ⟨b, off + j * 2 + 1, none⟩) hlt).trans (hc j hj).2⟩

theorem taken_lit (b off n c : Nat) (es : List T0.Ent) (x : Int) (s : ByteArray) (w W : World) (r : Bool) (hn : n ≤ es.length) (hbig : n ≤ 1048576) (hlt0 : b < w.heap.size) (hb : Below w.heap.size w W) (hr : T0.taken (es.take n) (x, s) = r)
    (hc : ∀ j, j < es.length → w.cell? ⟨b, off + j * 2, none⟩ = some (.int .i64 (T0.ent es j).1) ∧ w.cell? ⟨b, off + j * 2 + 1, none⟩ = some (.string (T0.ent es j).2)) :
    Calls Try.prog 101 #[.slice (some ⟨b, off, none⟩) n c, .agg #[.int .i64 x, .string s]] W fun e w' => e = .returned (.bool r) ∧ Below w.heap.size w w' :=
  (isTaken b off n c es x s W hn hbig (Nat.lt_of_lt_of_le hlt0 hb.size) (row_at hlt0 hb hc)).mono fun _ _ ⟨he, h2⟩ => ⟨by rw [he, hr], hb.trans (h2.mono hb.size)⟩

set_option maxHeartbeats 800000 in
theorem dirOk (a : Option Addr) (c : Nat) (es : List T0.Ent) (w : World) (hbig : es.length ≤ 1048576) (hcap : es.length ≤ c) (hfit : T0.Fits es) (hR : T0.Row w a es) :
    Calls Try.prog 98 #[.slice a es.length c] w fun e w' => e = .returned (.bool (T0.dirOk es)) ∧ Below w.heap.size w w' := by
  by_cases h12 : 12 < (es.length : Int)
  · have HR : Hid (T0.dirOk es = false) := by rw [T0.dirOk, decide_eq_false (by omega : ¬ es.length ≤ 12)]; rfl
    go_enter Try.func98, Try.ntmps98
    go_wp2
    go_ret
    exact ⟨ret_bool HR.out.symm, Below.refl _ _⟩
  · have hD : T0.dirOk es = T0.okUpto es es.length := by rw [T0.dirOk, decide_eq_true (by omega : es.length ≤ 12), Bool.true_and]
    go_enter Try.func98, Try.ntmps98
    go_wp2
    go_loopw [10] (fun i w' => ∃ k : Nat, k ≤ es.length ∧ T0.okUpto es k = true ∧ i = .int .i64 k ∧ Below w.heap.size w w') (fun i _ => es.length - (intOf i).toNat)
    case atStart => exact ⟨0, Nat.zero_le _, rfl, rfl, Below.refl _ _⟩
    case round =>
      obtain ⟨k, hk, hok, rfl, hbel⟩ := hrel
      by_cases hlt : k < es.length
      · obtain ⟨b, off, rfl, hlt0, hc⟩ := hR.get hlt
        have y1 := (hbel.cell (p := ⟨b, off + k * 2, none⟩) hlt0).trans (hc k hlt).1
        have y2 := (hbel.cell (p := ⟨b, off + k * 2 + 1, none⟩) hlt0).trans (hc k hlt).2
        have hs := T0.okUpto_succ es k
        have hat : T0.okAt es k = (E0.entryOk (T0.ent es k).1 (T0.ent es k).2 && !(T0.taken (es.take k) (T0.ent es k))) := rfl
        have hf := hfit k hlt
        obtain ⟨z, ez⟩ : ∃ z, T0.ent es k = z := ⟨_, rfl⟩
        rw [ez] at y1 y2 hat hf
        obtain ⟨u, v⟩ := z
        simp only at y1 y2 hat hf
        have e1 : (0 : Int) ≤ (k : Int) := by omega
        have e2 : (k : Int) < (es.length : Int) := by omega
        have e3 : (k : Int) ≤ (c : Int) := by omega
        have hb1 := E2.bx_new u v wr 98
        have hbd := hb1.drew
        have hB := hbel.size
        clear ez hR hfit
        by_cases hE : E0.entryOk u v = true
        · have hiT : Hid (∀ r W, T0.taken (es.take k) (u, v) = r → Below wr.heap.size wr W → Calls Try.prog 101 #[.slice (some ⟨b, off, none⟩) k c, .agg #[.int .i64 u, .string v]] W fun e w' => e = .returned (.bool r) ∧ Below w.heap.size w w') := fun r W hr hb => taken_lit b off k c es u v w W r (by omega) (by omega) hlt0 (hbel.trans (hb.mono hB)) hr hc
          by_cases hT : T0.taken (es.take k) (u, v) = true
          · have HR : Hid (T0.dirOk es = false) := T0.dirOk_bad hlt (by rw [hat, hT, Bool.not_true, Bool.and_false])
            clear hs hat hok hc hD
            go_wp2
            go_region_with (first
              | (go_at_call 100; refine (ok_lit (by omega) hE hbd).mono ?_; rintro e w4 ⟨rfl, h4⟩; have x0 := h4.c0; have x1 := h4.c1)
              | (go_at_call 101; refine (hiT.out _ _ hT h4.bel).mono ?_; rintro e w5 ⟨rfl, b5⟩))
            all_goals
              go_wp2
              go_ret
              exact ⟨ret_bool HR.out.symm, b5⟩
          · have hT' : T0.taken (es.take k) (u, v) = false := by simpa using hT
            have HO : Hid (T0.okUpto es (k + 1) = true) := by rw [hs, hok, hat, hE, hT']; rfl
            clear hs hat hok hc hD hT
            go_wp2
            go_region_with (first
              | (go_at_call 100; refine (ok_lit (by omega) hE hbd).mono ?_; rintro e w4 ⟨rfl, h4⟩; have x0 := h4.c0; have x1 := h4.c1)
              | (go_at_call 101; refine (hiT.out _ _ hT' h4.bel).mono ?_; rintro e w5 ⟨rfl, b5⟩))
            all_goals
              go_wp2
              go_roundw
              case rel => exact ⟨k + 1, by omega, HO.out, by go_num, b5⟩
              case measure => simp [intOf]; omega
        · have hE' : E0.entryOk u v = false := by simpa using hE
          have HR : Hid (T0.dirOk es = false) := T0.dirOk_bad hlt (by rw [hat, hE']; rfl)
          clear hs hat hok hc hD hE
          go_wp2
          have hS0 : (wr.alloc (.cells #[.int .i64 u, .string v] 98)).drew.cell? ⟨wr.heap.size, 0, none⟩ = some (.int .i64 u) ∧ (wr.alloc (.cells #[.int .i64 u, .string v] 98)).drew.cell? ⟨wr.heap.size, 1, none⟩ = some (.string v) := ⟨hbd.c0, hbd.c1⟩
          refine wp_region_held (S := fun W => W.cell? ⟨wr.heap.size, 0, none⟩ = some (.int .i64 u) ∧ W.cell? ⟨wr.heap.size, 1, none⟩ = some (.string v)) (by kernel_rfl) ?_
          refine wpAnyH_take (i := 0) (v := .agg #[.int .i64 u, .string v]) rfl (by kernel_rfl) (by kernel_rfl) (by kernel_rfl) (fun _ _ _ h => h) (Or.inl ⟨by rfl, fun w' hS' => ?_⟩) hS0 ?_
          · obtain ⟨s0, s1⟩ := hS'
            go_simp
          simp only [List.getElem_toArray, List.getElem_cons_succ, List.getElem_cons_zero, Act.put, List.setIfInBounds_toArray, List.set_cons_succ, List.set_cons_zero, Nat.reduceAdd]
          refine Y0.one_call (i := 1) (by kernel_rfl) rfl rfl (.tmp 15) _ rfl (.agg #[.int .i64 u, .string v]) (by rfl) (enters_of Try.func100 (by kernel_rfl) rfl) ((ok_lit (by omega) hE' hbd).mono ?_)
          rintro e w4 ⟨rfl, h4⟩
          have hS4 : w4.cell? ⟨wr.heap.size, 0, none⟩ = some (.int .i64 u) ∧ w4.cell? ⟨wr.heap.size, 1, none⟩ = some (.string v) := ⟨h4.c0, h4.c1⟩
          refine ⟨_, rfl, hS4, ?_⟩
          simp only [List.getElem_toArray, List.getElem_cons_succ, List.getElem_cons_zero, Act.put, List.setIfInBounds_toArray, List.set_cons_succ, List.set_cons_zero, Nat.reduceAdd]
          refine wpAnyH_take (i := 2) (v := .bool true) rfl (by kernel_rfl) (by kernel_rfl) (by kernel_rfl) (fun _ _ _ h => h) (Or.inl ⟨by rfl, fun w' hS' => by rfl⟩) hS4 ?_
          simp only [List.getElem_toArray, List.getElem_cons_succ, List.getElem_cons_zero, Act.put, List.setIfInBounds_toArray, List.set_cons_succ, List.set_cons_zero, Nat.reduceAdd]
          refine wpAnyH_take (i := 3) (v := .bool true) rfl (by kernel_rfl) (by kernel_rfl) (by kernel_rfl) (fun _ _ _ h => h) (Or.inl ⟨by rfl, fun w' hS' => by rfl⟩) hS4 ?_
          simp only [List.getElem_toArray, List.getElem_cons_succ, List.getElem_cons_zero, Act.put, List.setIfInBounds_toArray, List.set_cons_succ, List.set_cons_zero, Nat.reduceAdd]
          refine wpAnyH_take (i := 4) (v := undef) rfl (by kernel_rfl) (by kernel_rfl) (by kernel_rfl) (fun _ _ _ h => h) (Or.inr ⟨by rfl, rfl⟩) hS4 ?_
          simp only [List.getElem_toArray, List.getElem_cons_succ, List.getElem_cons_zero, Act.put, List.setIfInBounds_toArray, List.set_cons_succ, List.set_cons_zero, Nat.reduceAdd]
          refine wpAnyH_take (i := 5) (v := undef) rfl (by kernel_rfl) (by kernel_rfl) (by kernel_rfl) (fun _ _ _ h => h) (Or.inr ⟨by rfl, rfl⟩) hS4 ?_
          simp only [List.getElem_toArray, List.getElem_cons_succ, List.getElem_cons_zero, Act.put, List.setIfInBounds_toArray, List.set_cons_succ, List.set_cons_zero, Nat.reduceAdd]
          refine wpAnyH_take (i := 6) (v := undef) rfl (by kernel_rfl) (by kernel_rfl) (by kernel_rfl) (fun _ _ _ h => h) (Or.inr ⟨by rfl, rfl⟩) hS4 ?_
          simp only [List.getElem_toArray, List.getElem_cons_succ, List.getElem_cons_zero, Act.put, List.setIfInBounds_toArray, List.set_cons_succ, List.set_cons_zero, Nat.reduceAdd]
          refine wpAnyH_take (i := 7) (v := undef) rfl (by kernel_rfl) (by kernel_rfl) (by kernel_rfl) (fun _ _ _ h => h) (Or.inr ⟨by rfl, rfl⟩) hS4 ?_
          simp only [List.getElem_toArray, List.getElem_cons_succ, List.getElem_cons_zero, Act.put, List.setIfInBounds_toArray, List.set_cons_succ, List.set_cons_zero, Nat.reduceAdd]
          refine wpAnyH_take (i := 8) (v := undef) rfl (by kernel_rfl) (by kernel_rfl) (by kernel_rfl) (fun _ _ _ h => h) (Or.inr ⟨by rfl, rfl⟩) hS4 ?_
          simp only [List.getElem_toArray, List.getElem_cons_succ, List.getElem_cons_zero, Act.put, List.setIfInBounds_toArray, List.set_cons_succ, List.set_cons_zero, Nat.reduceAdd]
          refine wpAnyH_take (i := 9) (v := .bool true) rfl (by kernel_rfl) (by kernel_rfl) (by kernel_rfl) (fun _ _ _ h => h) (Or.inl ⟨by rfl, fun w' hS' => by rfl⟩) hS4 ?_
          simp only [List.getElem_toArray, List.getElem_cons_succ, List.getElem_cons_zero, Act.put, List.setIfInBounds_toArray, List.set_cons_succ, List.set_cons_zero, Nat.reduceAdd]
          refine wpAnyH_done (by kernel_rfl) ?_ _
          all_goals
            go_wp2
            go_ret
            exact ⟨ret_bool HR.out.symm, hbel.trans (h4.bel.mono hB)⟩
      · obtain rfl : k = es.length := by omega
        have HR : Hid (T0.dirOk es = true) := by rw [hD, hok]; rfl
        clear hok hD hR
        go_wp2
        go_ret
        exact ⟨ret_bool HR.out.symm, hbel⟩
end Go.Proofs.Ytkdjcbmmbjongaa.T1

/- Contracts of impl.PutDir and spec.PutDir, as the given laws call them. -/
namespace Go.Proofs.Ytkdjcbmmbjongaa.T2
open Go.ChangeShapes Go.WideShapes Go.ChangeAt Go.RowKit
set_option linter.unusedVariables false
set_option linter.unusedSimpArgs false
set_option maxRecDepth 10000

theorem ret_str {a b : ByteArray} (h : a = b) : Ending.returned (.string a) = .returned (.string b) := by rw [h]

theorem makeRoom (n : Nat) (hn : n ≤ 12) : ∃ C : Array Value, C.size = n * 16 ∧ ∀ W : World, (Instr.makeSlice 61 (.int .i64 0) (.int .i64 ((n : Int) * 16))).run Try.prog W = .ok (.slice (some ⟨W.heap.size, 0, none⟩) 0 (n * 16)) (W.alloc (.cells C 5)) := by
  obtain ⟨i0, hi, hz0, hz1, hz2⟩ := info_parts F0.info5
  refine ⟨madeCells (Value.int .u8 0).cells ((n * 16) * i0.size), ?_, fun W => ?_⟩
  · have : (madeCells (Value.int .u8 0).cells ((n * 16) * i0.size)).toList.length = n * 16 := by
      rw [show (Value.int .u8 0).cells = #[Value.int .u8 0] from rfl, toList_madeCells_one, hz1]
      simp
    simpa using this
  · have h := run_make (P := Try.prog) W 61 5 i0 (.int .u8 0) Try.underlying61 hi hz0 .i64 .i64 0 ((n : Int) * 16) (by omega) (by omega) (by rw [hz2]; omega) (by omega)
    rw [show ((n : Int) * 16).toNat = n * 16 by omega] at h
    exact h

theorem dir_lit {a : Option Addr} {c : Nat} {es : List T0.Ent} {W : World} {r : Bool} (hbig : es.length ≤ 1048576) (hcap : es.length ≤ c) (hfit : T0.Fits es) (hR : T0.Row W a es) (hr : T0.dirOk es = r) :
    Calls Try.prog 98 #[.slice a es.length c] W fun e w' => e = .returned (.bool r) ∧ Below W.heap.size W w' := (T1.dirOk a c es W hbig hcap hfit hR).mono fun _ _ h => ⟨by rw [h.1, hr], h.2⟩

end Go.Proofs.Ytkdjcbmmbjongaa.T2

/- The contract of spec.PutDir, as the given laws call it. -/
namespace Go.Proofs.Ytkdjcbmmbjongaa.T3
open Go.ChangeShapes Go.WideShapes Go.ChangeAt Go.RowKit
set_option linter.unusedVariables false
set_option linter.unusedSimpArgs false
set_option maxRecDepth 10000

open T2 (ret_str)

theorem putE_empty {i : Int} {s : ByteArray} (h : E0.entryOk i s = false) : (E0.putE i s).toList.isEmpty = true := by
  rw [E0.putE, if_neg (by rw [h]; decide), Lib.toList_data]
  rfl
theorem putE_full {i : Int} {s : ByteArray} (h : E0.entryOk i s = true) : (E0.putE i s).toList.isEmpty = false := by
  have := T0.putE_size16 h
  rw [Lib.toList_data]
  cases hl : (E0.putE i s).data.toList with
  | nil => rw [Lib.size_eq, hl] at this; simp at this
  | cons x r => rfl

set_option maxHeartbeats 4000000 in
theorem spec_PutDir (a : Option Addr) (c : Nat) (es : List T0.Ent) (w : World) (hbig : es.length ≤ 1048576) (hcap : es.length ≤ c) (hfit : T0.Fits es) (hR : T0.Row w a es) :
    Calls Try.prog 74 #[.slice a es.length c] w fun e w' => e = .returned (.string (T0.putD es)) ∧ Below w.heap.size w w' := by
  have HB : Hid (∀ k, k < es.length → T0.okAt es k = false → T0.putD es = ⟨#[]⟩) := fun k hk h => by rw [T0.putD, T0.dirOk_bad hk h]; rfl
  have HL : Hid (12 < es.length → T0.putD es = ⟨#[]⟩) := fun h => by rw [T0.putD, T0.dirOk, decide_eq_false (by omega : ¬ es.length ≤ 12)]; rfl
  have HY : Hid (es.length ≤ 12 → T0.okUpto es es.length = true → T0.putD es = T0.joined es es.length) := fun h1 h2 => by rw [T0.putD, T0.dirOk, decide_eq_true h1, h2]; rfl
  go_enter Try.func74, Try.ntmps74
  go_wp2
  go_loopw [3, 4] (fun t i w' => ∃ j : Nat, j ≤ es.length ∧ (j = 0 ∨ es.length ≤ 12) ∧ T0.okUpto es j = true ∧ i = .int .i64 j ∧ t = .string (T0.joined es j) ∧ Below w.heap.size w w') (fun _ i _ => es.length - (intOf i).toNat)
  case atStart => exact ⟨0, Nat.zero_le _, Or.inl rfl, rfl, rfl, rfl, Below.refl _ _⟩
  case round =>
    obtain ⟨j, hj, h12, hok, rfl, rfl, hbel⟩ := hrel
    by_cases hlt : j < es.length
    · obtain ⟨b, off, rfl, hlt0, hc⟩ := (hR.below hbel).get hlt
      have y1 := (hc j hlt).1
      have y2 := (hc j hlt).2
      have hs := T0.okUpto_succ es j
      have hat : T0.okAt es j = (E0.entryOk (T0.ent es j).1 (T0.ent es j).2 && !(T0.taken (es.take j) (T0.ent es j))) := rfl
      have hf := hfit j hlt
      have hu : T0.joined es (j + 1) = T0.joined es j ++ E0.putE (T0.ent es j).1 (T0.ent es j).2 := rfl
      have hjs := T0.joined_size hok j (Nat.le_refl _)
      have hbad := HB.out j hlt
      have hin := fun k (hk : k < j) => T0.taken_of (es := es) (e := T0.ent es j) hk hj
      have hts := fun k (hk : k < es.length) => T0.taken_succ es k (T0.ent es j) hk
      obtain ⟨z, ez⟩ : ∃ z, T0.ent es j = z := ⟨_, rfl⟩
      rw [ez] at y1 y2 hat hf hu hin hts
      obtain ⟨u, v⟩ := z
      simp only at y1 y2 hat hf hu
      have e1 : (0 : Int) ≤ (j : Int) := by omega
      have e2 : (j : Int) < (es.length : Int) := by omega
      clear ez hR hfit HB
      go_wp2
      go_loopw [5] (fun i w' => ∃ k m : Nat, k ≤ j ∧ T0.taken (es.take k) (u, v) = false ∧ i = .int .i64 k ∧ w' = wr.drewN m) (fun i _ => j - (intOf i).toNat)
      case atStart => exact ⟨0, 0, Nat.zero_le _, rfl, rfl, rfl⟩
      case round =>
        obtain ⟨k, m, hk, hno, rfl, hW⟩ := hrel
        have x1 : wr.cell? ⟨b, off + j * 2, none⟩ = some (.int .i64 u) := by rw [hW]; exact y1
        have x2 : wr.cell? ⟨b, off + j * 2 + 1, none⟩ = some (.string v) := by rw [hW]; exact y2
        have HW : Below w.heap.size w wr := by rw [hW]; exact K0.below_drewN hbel m
        have HD : Hid (wr = _) := hW
        by_cases hlk : k < j
        · have x3 : wr.cell? ⟨b, off + k * 2, none⟩ = some (.int .i64 (T0.ent es k).1) := by rw [hW]; exact (hc k (by omega)).1
          have x4 : wr.cell? ⟨b, off + k * 2 + 1, none⟩ = some (.string (T0.ent es k).2) := by rw [hW]; exact (hc k (by omega)).2
          have hin1 := hin k hlk
          have hts1 := hts k (by omega)
          obtain ⟨z, ez⟩ : ∃ z, T0.ent es k = z := ⟨_, rfl⟩
          rw [ez] at x3 x4 hin1 hts1
          obtain ⟨p, q⟩ := z
          simp only at x3 x4
          have f1 : (0 : Int) ≤ (k : Int) := by omega
          have f2 : (k : Int) < (es.length : Int) := by omega
          have f3 : (k : Int) < (j : Int) := by omega
          clear ez hc y1 y2 hW hin hts
          by_cases h1 : (q.toList == v.toList) = true
          · have HR : Hid (T0.putD es = ⟨#[]⟩) := hbad (by rw [hat, hin1 (by rw [T0.clash, h1]; rfl), Bool.not_true, Bool.and_false])
            clear hin1 hts1 hat hbad hs hok hu
            go_wp2
            go_quiet (fail)
            go_wp2
            go_ret
            exact ⟨ret_str HR.out.symm, K0.below_drewN HW _⟩
          · have h1' : (q.toList == v.toList) = false := by simpa using h1
            by_cases h2 : (p == u) = true
            · have HR : Hid (T0.putD es = ⟨#[]⟩) := hbad (by rw [hat, hin1 (by rw [T0.clash, h1', h2]; rfl), Bool.not_true, Bool.and_false])
              clear hin1 hts1 hat hbad hs hok hu h1
              go_wp2
              go_quiet (fail)
              go_wp2
              go_ret
              exact ⟨ret_str HR.out.symm, K0.below_drewN HW _⟩
            · have h2' : (p == u) = false := by simpa using h2
              have HN : Hid (T0.taken (es.take (k + 1)) (u, v) = false) := by rw [hts1, hno, T0.clash, h1', h2']; rfl
              clear hin1 hts1 hat hbad hs hok hu h1 h2 hno
              go_wp2
              go_quiet (fail)
              go_wp2
              go_roundw
              case rel => exact ⟨k + 1, m + nq, by omega, HN.out, by go_num, by rw [HD.out, World.drewN_drewN]⟩
              case measure => simp [intOf]; omega
        · obtain rfl : k = j := by omega
          clear hc y1 y2 hW HD hin hts
          by_cases hE : E0.entryOk u v = true
          · have g1 := putE_full hE
            have hps := T0.putE_size16 hE
            by_cases hl : 12 < es.length
            · have HR : Hid (T0.putD es = ⟨#[]⟩) := HL.out hl
              have hl' : 12 < (es.length : Int) := by omega
              clear hat hbad hs hok hu hno
              go_wp2_with (go_at_call 85; refine (E2.spec_PutEntry u v _ hf).mono ?_; rintro e w2 ⟨rfl, b2⟩)
              go_ret
              exact ⟨ret_str HR.out.symm, HW.trans (b2.mono HW.size)⟩
            · have hl' : ¬ 12 < (es.length : Int) := by omega
              have hl'' : decide (12 < (es.length : Int)) = false := by simpa using hl'
              have HO : Hid (T0.okUpto es (k + 1) = true) := by rw [hs, hok, hat, hE, hno]; rfl
              have HU : Hid (T0.joined es (k + 1) = T0.joined es k ++ E0.putE u v) := hu
              have zz : (T0.joined es k).size + (E0.putE u v).size ≤ 9223372036854775807 := by omega
              have zz2 : 16 * k + 16 ≤ 9223372036854775807 := by omega
              clear hat hbad hs hok hu hno
              go_wp2_with (go_at_call 85; refine (E2.spec_PutEntry u v _ hf).mono ?_; rintro e w2 ⟨rfl, b2⟩)
              go_roundw
              case rel => exact ⟨k + 1, by omega, Or.inr (by omega), HO.out, by go_num, by rw [HU.out], HW.trans (b2.mono HW.size)⟩
              case measure => simp [intOf]; omega
          · have hE' : E0.entryOk u v = false := by simpa using hE
            have g1 := putE_empty hE'
            have HR : Hid (T0.putD es = ⟨#[]⟩) := hbad (by rw [hat, hE']; rfl)
            clear hat hbad hs hok hu hno
            go_wp2_with (go_at_call 85; refine (E2.spec_PutEntry u v _ hf).mono ?_; rintro e w2 ⟨rfl, b2⟩)
            go_ret
            exact ⟨ret_str HR.out.symm, HW.trans (b2.mono HW.size)⟩
    · obtain rfl : j = es.length := by omega
      have HP : Hid (T0.putD es = T0.joined es es.length) := by
        show T0.putD es = T0.joined es es.length
        rcases h12 with h | h
        · exact HY.out (by omega) hok
        · exact HY.out h hok
      clear hok hR hfit h12 HB HL HY
      go_wp2
      go_ret
      exact ⟨ret_str HP.out.symm, hbel⟩
end Go.Proofs.Ytkdjcbmmbjongaa.T3

/- Entries among a law's arguments; contracts of laws.szEntryS, laws.toEntryS and laws.eqEntryS. -/
namespace Go.Proofs.Ytkdjcbmmbjongaa.T4
open Go.ChangeShapes Go.WideShapes Go.ChangeAt Go.RowKit Go.Joins Go.Deep
set_option linter.unusedVariables false
set_option linter.unusedSimpArgs false
set_option maxRecDepth 10000

def num : Value → Int
  | .int _ z => z
  | _ => 0
def txt : Value → ByteArray
  | .string s => s
  | _ => ⟨#[]⟩

/-- All names fit. -/
def FitsM (es : List T0.Ent) : Prop := ∀ j, j < es.length → (T0.ent es j).2.size ≤ maxLen

section Args
variable {H : Type} {enc : TypeId × Value → H} {w : World}

end Args

/-- The names' sizes, all together. -/
def sum (es : List T0.Ent) : Nat → Nat
  | 0 => 0
  | k + 1 => sum es k + (T0.ent es k).2.size

theorem sum_mono (es : List T0.Ent) (k : Nat) : ∀ m, sum es k ≤ sum es (k + m)
  | 0 => Nat.le_refl _
  | m + 1 => Nat.le_trans (sum_mono es k m) (Nat.le_add_right _ _)

theorem sum_le {es : List T0.Ent} {k n : Nat} (h : k ≤ n) : sum es k ≤ sum es n := by
  have := sum_mono es k (n - k)
  rwa [show k + (n - k) = n by omega] at this

theorem fits_of {es : List T0.Ent} (h : es.length + sum es es.length ≤ 1048576) : T0.Fits es := fun j hj => by
  have h1 := sum_le (es := es) (k := j + 1) (n := es.length) (by omega)
  have h2 : sum es (j + 1) = sum es j + (T0.ent es j).2.size := rfl
  omega

/-- What is left of 2^20; -1 where nothing is. -/
def left (es : List T0.Ent) : Int := if es.length + sum es es.length ≤ 1048576 then 1048576 - (es.length : Int) - (sum es es.length : Int) else -1

theorem ret_int {k : IntKind} {a b : Int} (h : a = b) : Ending.returned (.int k a) = .returned (.int k b) := by rw [h]

end Go.Proofs.Ytkdjcbmmbjongaa.T4

/- Contracts of laws.toEntryS and laws.eqEntryS, as the given laws call them. -/
namespace Go.Proofs.Ytkdjcbmmbjongaa.T5
open Go.ChangeShapes Go.WideShapes Go.ChangeAt Go.RowKit
set_option linter.unusedVariables false
set_option linter.unusedSimpArgs false
set_option maxRecDepth 10000

theorem info33 : (Try.prog.info? 98).map (fun i => (i.zero, i.size, i.bytes)) = some (some (.agg #[.int .i64 0, .string ⟨#[]⟩]), 2, 24) := by kernel_rfl

theorem make_ents (n : Nat) (hn : n ≤ 1048576) : ∃ C : Array Value, C.size = n * 2 ∧ ∀ W : World, (Instr.makeSlice 84 (.int .i64 (n : Int)) (.int .i64 (n : Int))).run Try.prog W = .ok (.slice (some ⟨W.heap.size, 0, none⟩) n n) (W.alloc (.cells C 98)) := by
  obtain ⟨i0, hi, hz0, hz1, hz2⟩ := info_parts info33
  refine ⟨madeCells (Value.agg #[.int .i64 0, .string ⟨#[]⟩]).cells (n * i0.size), by rw [size_madeCells, hz1], fun W => ?_⟩
  have h := run_make (P := Try.prog) W 84 98 i0 (.agg #[.int .i64 0, .string ⟨#[]⟩]) Try.underlying84 hi hz0 .i64 .i64 (n : Int) (n : Int) (by omega) (by omega) (by rw [hz2]; omega) (by omega)
  rw [show ((n : Int)).toNat = n by omega] at h
  exact h

/-- A row of entries while it is being filled. -/
structure Mk (g n : Nat) (es : List T0.Ent) (k : Nat) (W : World) : Prop where
  done : ∀ j, j < k → W.cell? ⟨g, j * 2, none⟩ = some (.int .i64 (T0.ent es j).1) ∧ W.cell? ⟨g, j * 2 + 1, none⟩ = some (.string (T0.ent es j).2)
  there : ∀ j, j < n * 2 → (W.cell? ⟨g, j, none⟩).isSome = true
  free : ∀ j, j < n * 2 → W.frozen? ⟨g, j, none⟩ = false
  lt : g < W.heap.size

variable {g n k : Nat} {es : List T0.Ent} {w W W' : World}

theorem Mk.below (h : Mk g n es k W) (hb : Below W.heap.size W W') : Mk g n es k W' :=
  ⟨fun j hj => ⟨(hb.cell (p := ⟨g, j * 2, none⟩) h.lt).trans (h.done j hj).1, (hb.cell (p := ⟨g, j * 2 + 1, none⟩) h.lt).trans (h.done j hj).2⟩,
   fun j hj => by rw [hb.cell (p := ⟨g, j, none⟩) h.lt]; exact h.there j hj, fun j hj => (hb.frozen (p := ⟨g, j, none⟩) h.lt).trans (h.free j hj), Nat.lt_of_lt_of_le h.lt hb.size⟩

theorem mk_new (w : World) (C : Array Value) (hC : C.size = n * 2) : Mk w.heap.size n es 0 (w.alloc (.cells C 98)) := by
  refine ⟨fun j hj => absurd hj (Nat.not_lt_zero _), fun j hj => ?_, fun j hj => ?_, ?_⟩
  · rw [World.cell?_alloc_mark]
    have : j < C.size := by omega
    simp [this]
  · have h := World.frozen?_alloc_mark w C 98 0 0 j
    rw [h]
    simp
  · simp

theorem some_set {W : World} {p x : Addr} {v : Value} (h : (W.cell? x).isSome = true) : ((W.setCell p v).cell? x).isSome = true := by
  by_cases e : p = x
  · subst e
    obtain ⟨u, hu⟩ := Option.isSome_iff_exists.1 h
    rw [World.cell?_setCell_same _ _ _ hu]
    rfl
  · rw [World.cell?_setCell_other _ _ _ _ e]
    exact h

theorem Mk.step (h : Mk g n es k W) (hk : k < n) {u : Int} {v : ByteArray} (he : T0.ent es k = (u, v)) : Mk g n es (k + 1) ((W.setCell ⟨g, k * 2, none⟩ (.int .i64 u)).setCell ⟨g, k * 2 + 1, none⟩ (.string v)) := by
  obtain ⟨x, hx⟩ := Option.isSome_iff_exists.1 (h.there (k * 2) (by omega))
  obtain ⟨y, hy⟩ := Option.isSome_iff_exists.1 (h.there (k * 2 + 1) (by omega))
  have n1 : (⟨g, k * 2 + 1, none⟩ : Addr) ≠ ⟨g, k * 2, none⟩ := by simp
  refine ⟨fun j hj => ?_, fun j hj => some_set (some_set (h.there j hj)), fun j hj => ?_, ?_⟩
  · by_cases e : j = k
    · subst e
      rw [he]
      refine ⟨?_, ?_⟩
      · rw [World.cell?_setCell_other _ _ _ _ n1, World.cell?_setCell_same _ _ _ hx]
      · rw [World.cell?_setCell_same _ _ _ ((World.cell?_setCell_other _ _ _ _ n1.symm).trans hy)]
    · have hd := h.done j (by omega)
      refine ⟨?_, ?_⟩
      · rw [World.cell?_setCell_other _ _ _ _ (by intro q; have := (Addr.mk.inj q).2.1; omega), World.cell?_setCell_other _ _ _ _ (by intro q; have := (Addr.mk.inj q).2.1; omega)]
        exact hd.1
      · rw [World.cell?_setCell_other _ _ _ _ (by intro q; have := (Addr.mk.inj q).2.1; omega), World.cell?_setCell_other _ _ _ _ (by intro q; have := (Addr.mk.inj q).2.1; omega)]
        exact hd.2
  · rw [World.frozen?_setCell, World.frozen?_setCell]
    exact h.free j hj
  · have := h.lt
    simpa [World.setCell] using this

end Go.Proofs.Ytkdjcbmmbjongaa.T5
