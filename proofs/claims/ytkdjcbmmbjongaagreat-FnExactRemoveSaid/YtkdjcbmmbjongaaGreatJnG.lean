/- Joined texts: plain facts and contracts, as each part says. -/
import Derived.Test.YtkdjcbmmbjongaaGreatJnF
import Derived.Test.YtkdjcbmmbjongaaGreatJnE
import Derived.Test.YtkdjcbmmbjongaaGreatJnB
import Derived.Test.YtkdjcbmmbjongaaGreatJnC
import Derived.Test.YtkdjcbmmbjongaaGreatJnA
import Derived.Test.YtkdjcbmmbjongaaGreatJnD
import Derived.Lib.AppendZerosOnto
import Derived.OneCell
import Derived.Deep.RegionWith

/- A row of puts that a call has made and appends to; contracts of laws.markPutS and laws.heldPutS; two rows of puts that were handed out. -/
namespace Go.Proofs.YtkdjcbmmbjongaaGreat.PQ
open Go.ChangeShapes Go.WideShapes Go.ChangeAt Go.RowKit
set_option linter.unusedVariables false
set_option linter.unusedSimpArgs false
set_option maxRecDepth 10000
open M1 (mt)
open T5 (Mk)
open V1 (flat flat_length flat_append flat_get OwnE one_ent)
open V4 (em em_length em_get mText grown_below mk_grown mid)
open V5 (L start)

/-- A row of a call's own. -/
def PBuf (base : Nat) (w : World) (a : Option Addr) (n cap : Nat) (es : List T0.Ent) : Prop := n = es.length ∧ w.ownsRow base 65 2 (.slice a n cap) n (flat es)

variable {base n cap : Nat} {a : Option Addr} {w W : World} {es : List T0.Ent}

theorem PBuf.below (h : PBuf base w a n cap es) (hb : Below w.heap.size w W) : PBuf base W a n cap es := ⟨h.1, F0.owns_below h.2 hb⟩
theorem PBuf.alloc (h : PBuf base w a n cap es) (o : Obj) : PBuf base (w.alloc o) a n cap es := h.below ((Below.refl _ _).alloc (Nat.le_refl _) o)
theorem pbuf_made (w : World) (hb : base ≤ w.heap.size) : PBuf base (w.alloc (.cells #[] 65)) (some ⟨w.heap.size, 0, none⟩) 0 0 [] := ⟨rfl, World.ownsRow_made w #[] 0 hb (Nat.zero_le _) rfl⟩

theorem PBuf.fits (h : PBuf base w a n cap es) : n ≤ cap := by
  rcases h.2.2 with ⟨h0, h1⟩ | ⟨g, c, cur, hv, _, _, hle, _⟩
  · omega
  · simp at hv
    omega

theorem PBuf.own (h : PBuf base w a n cap es) : OwnE base w a es := by
  rcases h.2.2 with ⟨h0, h1⟩ | ⟨g, c, cur, hv, hg, hc, hle, _, hs, ht⟩
  · left
    exact List.eq_nil_of_length_eq_zero (by rw [← h.1]; exact h1)
  · right
    simp at hv
    have hcell : ∀ j, w.cell? ⟨g, j, none⟩ = cur[j]? := fun j => by
      unfold World.cell?
      rw [hc]
      simp
    have hn := h.1
    have hget : ∀ j, j < n * 2 → cur[j]? = (flat es)[j]? := fun j hj => by
      have e1 : (cur.toList.take (n * 2))[j]? = (flat es)[j]? := by rw [ht]
      rw [List.getElem?_take_of_lt hj] at e1
      rw [← Array.getElem?_toList, e1]
    refine ⟨g, hv.1, hg, ⟨fun j hj => ?_, fun j hj => ?_, fun j hj => ?_, (Array.getElem?_eq_some_iff.1 hc).1⟩⟩
    · have := flat_get es j hj
      rw [hcell, hcell, hget _ (by omega), hget _ (by omega)]
      exact this
    · rw [hcell]
      have : j < cur.size := by omega
      simp [this]
    · unfold World.frozen?
      rw [hc]
      simp

/-- 'list = append(list, e)'. -/
theorem append_put {ops : Array Oper} {rest : List Oper} {o : Oper} {A : Act} {Q : Exit → Act → World → Prop} (hgd : o.guard = none) (sl x : Operand)
    (ho : o.op = .call { callee := .builtin .append, args := #[sl, x], argTypes := #[28, 28] })
    (hbuf : PBuf base w a n cap es) (u : Int) (v : ByteArray) (hs : A.eval sl = .slice a n cap) {H : Nat} (hH : w.heap.size = H) (hx : A.eval x = .slice (some ⟨H, 0, none⟩) 1 1) (hlen : n + 1 ≤ 1048576) (hb : base ≤ w.heap.size)
    (h : ∀ g' cap' w', PBuf base w' (some ⟨g', 0, none⟩) (n + 1) cap' (es ++ [(u, v)]) → Below base w w' → wpList Tryz.prog ops Q rest (A.put o.dst (.slice (some ⟨g', 0, none⟩) (n + 1) cap')) w') : wpList Tryz.prog ops Q (o :: rest) A (w.alloc (.cells #[.int .i64 u, .string v] 65)) := by
  subst hH
  obtain ⟨i0, hi, hz0, hz1, hz2⟩ := info_parts PP.info33
  have hb2 := hbuf.alloc (.cells #[.int .i64 u, .string v] 65)
  refine wpList_append_lies _ hgd sl x 28 ho base 65 i0 (.agg #[.int .i64 0, .string ⟨#[]⟩]) 2 24 Tryz.underlying28 hi hz0 hz1 hz2 rfl (by omega) _ n _ hs hb2.2 ⟨w.heap.size, 0, none⟩ 1 1 [.int .i64 u, .string v] hx rfl (World.news_of_block (heap_alloc_new w _)) (one_ent u v) (by omega) (by unfold maxLen; omega) (by omega) (by simp; omega) _ rfl ?_
  intro g' cap' w' ho' hg' _ _
  refine h g' cap' w' ⟨by rw [hbuf.1]; simp, ?_⟩ ?_
  · rw [← flat_append]
    exact ho'
  · exact F0.below_grown ((Below.refl _ _).alloc hb _) hg' (fun g hg => (hbuf.2.lt g hg).1) (by simp; omega)

section Marks
variable {g n k : Nat} {es : List T0.Ent} {w W W' w4 : World}

set_option maxHeartbeats 1000000 in
theorem markPutS (g c n : Nat) (w : World) (hn : n ≤ 1048576) (hb : Mk g n (em n) 0 w) :
    Calls Tryz.prog 16 #[.slice (some ⟨g, 0, none⟩) n c, .int .i64 1] w fun e w' => e = .returned (.int .i64 ((1 + 2 * n : Nat) : Int)) ∧ Mk g n (em n) n w' ∧ w.grownBy w' (some g) := by
  go_enter Tryz.func16, Tryz.ntmps16
  go_wp2
  go_loopw [1, 5] (fun q i w' => ∃ k : Nat, k ≤ n ∧ i = .int .i64 k ∧ q = .int .i64 ((1 + 2 * k : Nat) : Int) ∧ Mk g n (em n) k w' ∧ w.grownBy w' (some g)) (fun _ i _ => n - (intOf i).toNat)
  case atStart => exact ⟨0, Nat.zero_le _, rfl, rfl, hb, M0.grown_refl _ _⟩
  case round =>
    obtain ⟨k, hk, rfl, rfl, hmk, hgr⟩ := hrel
    by_cases hlt : k < n
    · have e1 : (0 : Int) ≤ (k : Int) := by omega
      have e2 : (k : Int) < (n : Int) := by omega
      obtain ⟨x1, q1⟩ := Option.isSome_iff_exists.1 (hmk.there (k * 2) (by omega))
      have q3 := hmk.free (k * 2) (by omega)
      have HM : Hid (Mk g n (em n) k wr) := hmk
      clear hmk hb
      go_wp2_with (go_at_call 39; refine (mText _ (2 + 2 * k) (by push_cast; omega) (by omega) (by omega) _).mono ?_; rintro e w4 ⟨rfl, b4⟩; obtain ⟨⟨x2, q2⟩, q4, HN⟩ := mid HM.out hlt (em_get n k hlt) b4)
      go_roundw
      case rel => exact ⟨k + 1, by omega, by go_num, by go_num, HN.out, M0.grown_set (grown_below (M0.grown_set hgr _) b4) _⟩
      case measure => simp [intOf]; omega
    · obtain rfl : k = n := by omega
      clear hb
      go_wp2
      go_ret
      exact ⟨rfl, hmk, hgr⟩

theorem markNone (a : Option Addr) (c : Nat) (w : World) :
    Calls Tryz.prog 16 #[.slice a 0 c, .int .i64 1] w fun e w' => e = .returned (.int .i64 1) ∧ w' = w := by
  go_enter Tryz.func16, Tryz.ntmps16
  go_wp2
  go_loop [1, 5] (fun q i => i = .int .i64 0 ∧ q = .int .i64 1) (fun _ _ => 0)
  case atStart => exact ⟨rfl, rfl⟩
  case round =>
    obtain ⟨rfl, rfl⟩ := hrel
    go_wp2
    go_ret
    exact ⟨rfl, rfl⟩

set_option maxHeartbeats 2000000 in
theorem heldPutS (g c n : Nat) (w : World) (hn : n ≤ 1048576) (hb : Mk g n (em n) n w) :
    Calls Tryz.prog 17 #[.slice (some ⟨g, 0, none⟩) n c, .int .i64 1] w fun e w' => e = .returned (.int .i64 ((1 + 2 * n : Nat) : Int)) ∧ Below w.heap.size w w' := by
  go_enter Tryz.func17, Tryz.ntmps17
  go_wp2
  go_loopw [1, 5] (fun q i w' => ∃ k : Nat, k ≤ n ∧ i = .int .i64 k ∧ q = .int .i64 ((1 + 2 * k : Nat) : Int) ∧ Below w.heap.size w w') (fun _ i _ => n - (intOf i).toNat)
  case atStart => exact ⟨0, Nat.zero_le _, rfl, rfl, Below.refl _ _⟩
  case round =>
    obtain ⟨k, hk, rfl, rfl, hbel⟩ := hrel
    have hB := hbel.size
    by_cases hlt : k < n
    · have e1 : (0 : Int) ≤ (k : Int) := by omega
      have e2 : (k : Int) < (n : Int) := by omega
      have hg := hb.lt
      have hd := hb.done k hlt
      rw [em_get n k hlt] at hd
      have y1 : wr.cell? ⟨g, k * 2, none⟩ = some (.int .i64 ((1 + 2 * k : Nat) : Int)) := (hbel.cell (p := ⟨g, k * 2, none⟩) hg).trans hd.1
      have y2 : wr.cell? ⟨g, k * 2 + 1, none⟩ = some (.string (mt (2 + 2 * k))) := (hbel.cell (p := ⟨g, k * 2 + 1, none⟩) hg).trans hd.2
      have hgl : g < wr.heap.size := Nat.lt_of_lt_of_le hg hB
      have hS0 : wr.drew.cell? ⟨g, k * 2 + 1, none⟩ = some (.string (mt (2 + 2 * k))) := y2
      clear hd hb
      go_wp2
      go_region_held3 (fun W => W.cell? ⟨g, k * 2 + 1, none⟩ = some (.string (mt (2 + 2 * k)))) (assumption) ((go_at_call 39; refine (mText _ (2 + 2 * k) (by push_cast; omega) (by omega) (by omega) _).mono ?_; rintro e w4 ⟨rfl, b4⟩; have hS4 : w4.cell? ⟨g, k * 2 + 1, none⟩ = some (.string (mt (2 + 2 * k))) := (b4.cell (p := ⟨g, k * 2 + 1, none⟩) hgl).trans y2))
      all_goals
        go_wp2
        go_roundw
        case rel => exact ⟨k + 1, by omega, by go_num, by go_num, hbel.trans ((show Below wr.heap.size wr w4 from ⟨b4.os, b4.tape, b4.output, b4.size, b4.block⟩).mono hB)⟩
        case measure => simp [intOf]; omega
    · obtain rfl : k = n := by omega
      clear hb
      go_wp2
      go_ret
      exact ⟨rfl, hbel⟩

theorem heldNone (a : Option Addr) (c : Nat) (w : World) :
    Calls Tryz.prog 17 #[.slice a 0 c, .int .i64 1] w fun e w' => e = .returned (.int .i64 1) ∧ w' = w := by
  go_enter Tryz.func17, Tryz.ntmps17
  go_wp2
  go_loop [1, 5] (fun q i => i = .int .i64 0 ∧ q = .int .i64 1) (fun _ _ => 0)
  case atStart => exact ⟨rfl, rfl⟩
  case round =>
    obtain ⟨rfl, rfl⟩ := hrel
    go_wp2
    go_ret
    exact ⟨rfl, rfl⟩
end Marks
end Go.Proofs.YtkdjcbmmbjongaaGreat.PQ

/- What the exact laws over loans that hand out puts keep. -/
namespace Go.Proofs.YtkdjcbmmbjongaaGreat.PK
open Go.ChangeShapes Go.WideShapes Go.ChangeAt Go.RowKit
set_option linter.unusedVariables false
set_option linter.unusedSimpArgs false
set_option maxRecDepth 10000

open N0 (Ln)
open N1 (Sl val vals Lists FitM LB lb_new)
open N4 (T t_new at3 Cp put8 other8 bel8)
open N12 (A)
open I2 (ints)
open T5 (Mk)
open N15 (a_grown mark_at)

/-- The law's loan, boxed; a copy of it, boxed; two rows that were handed out, the first ahead of the copy, the second behind it; what the second holds now. -/
structure K (w : World) (d : Ln) (s : Sl) (f1 f2 f3 B B2 : Nat) (v1 v2 v3 : List Value) (aw ag : Option Addr) (Z M : List T0.Ent) (W : World) : Prop where
  a : A w d s W
  n : LB B d (at3 d f1 f2 f3) W
  lo : w.heap.size < f1 ∧ f1 < f2 ∧ f2 < f3 ∧ f3 < B
  le2 : B ≤ B2
  k1 : v1.length = d.pg.length ∧ K0.Blk f1 v1 W
  k2 : v2.length = d.po.length ∧ K0.Blk f2 v2 W
  k3 : v3.length = d.fr.length ∧ K0.Blk f3 v3 W
  rows : Z = [] ∨ ∃ g1 g2, aw = some ⟨g1, 0, none⟩ ∧ ag = some ⟨g2, 0, none⟩ ∧ w.heap.size < g1 ∧ g1 < f1 ∧ B2 < g2 ∧ Mk g1 Z.length Z Z.length W ∧ Mk g2 Z.length M Z.length W

variable {w W W' : World} {d : Ln} {s : Sl} {f1 f2 f3 B B2 : Nat} {v1 v2 v3 : List Value} {aw ag : Option Addr} {Z M : List T0.Ent}

theorem K.below (h : K w d s f1 f2 f3 B B2 v1 v2 v3 aw ag Z M W) (hb : Below W.heap.size W W') : K w d s f1 f2 f3 B B2 v1 v2 v3 aw ag Z M W' :=
  ⟨h.a.below hb, h.n.below hb, h.lo, h.le2, ⟨h.k1.1, h.k1.2.below hb⟩, ⟨h.k2.1, h.k2.2.below hb⟩, ⟨h.k3.1, h.k3.2.below hb⟩, h.rows.imp id fun ⟨g1, g2, e1, e2, l1, l2, l3, b1, b2⟩ => ⟨g1, g2, e1, e2, l1, l2, l3, b1.below hb, b2.below hb⟩⟩
theorem K.drew (h : K w d s f1 f2 f3 B B2 v1 v2 v3 aw ag Z M W) : K w d s f1 f2 f3 B B2 v1 v2 v3 aw ag Z M W.drew := h.below ((Below.refl _ _).drew)

theorem K.roww (h : K w d s f1 f2 f3 B B2 v1 v2 v3 aw ag Z M W) : T0.Row W aw Z := by
  rcases h.rows with h0 | ⟨g1, g2, e1, e2, _, _, _, b1, b2⟩
  · exact Or.inl h0
  · exact e1 ▸ V5.mk_row b1
theorem K.rowg (h : K w d s f1 f2 f3 B B2 v1 v2 v3 aw ag Z Z W) : T0.Row W ag Z := by
  rcases h.rows with h0 | ⟨g1, g2, e1, e2, _, _, _, b1, b2⟩
  · exact Or.inl h0
  · exact e2 ▸ V5.mk_row b2
theorem K.lists (h : K w d s f1 f2 f3 B B2 (ints d.pg) (ints d.po) (ints d.fr) aw ag Z M W) : Lists W d (at3 d f1 f2 f3) := ⟨I2.row_of_blk h.k1.2, I2.row_of_blk h.k2.2, I2.row_of_blk h.k3.2⟩

/-- The first row, then the copy, boxed, then what may lie between, then the second row. -/
theorem k_new {w3 w4 wm w5 : World} (h3 : A w d s w3) (o3 : V1.OwnE (w.heap.size + 1) w3 aw Z) (h4 : Below w3.heap.size w3 w4) (cp : Cp w3.heap.size d f1 f2 f3 w4) (n12 : f1 < f2) (n23 : f2 < f3)
    (hm : Below (w4.alloc (.cells #[.int .i64 d.ino, .int .i64 d.cl, .int .i64 d.un, .string d.rc, .slice (at3 d f1 f2 f3).a1 d.pg.length (at3 d f1 f2 f3).c1, .string d.sav, .slice (at3 d f1 f2 f3).a2 d.po.length (at3 d f1 f2 f3).c2, .slice (at3 d f1 f2 f3).a3 d.fr.length (at3 d f1 f2 f3).c3] 31)).heap.size (w4.alloc (.cells #[.int .i64 d.ino, .int .i64 d.cl, .int .i64 d.un, .string d.rc, .slice (at3 d f1 f2 f3).a1 d.pg.length (at3 d f1 f2 f3).c1, .string d.sav, .slice (at3 d f1 f2 f3).a2 d.po.length (at3 d f1 f2 f3).c2, .slice (at3 d f1 f2 f3).a3 d.fr.length (at3 d f1 f2 f3).c3] 31)) wm) (h5 : Below wm.heap.size wm w5) (o5 : V1.OwnE wm.heap.size w5 ag Z) (hB1 : w4.heap.size ≤ B2) (hB2 : B2 < wm.heap.size) : K w d s f1 f2 f3 w4.heap.size B2 (ints d.pg) (ints d.po) (ints d.fr) aw ag Z Z w5 := by
  have hs3 := h3.b.b.lt
  have q1 := cp.h1
  have q3 := cp.k3.lt
  have h5' : Below (w4.alloc (.cells #[.int .i64 d.ino, .int .i64 d.cl, .int .i64 d.un, .string d.rc, .slice (at3 d f1 f2 f3).a1 d.pg.length (at3 d f1 f2 f3).c1, .string d.sav, .slice (at3 d f1 f2 f3).a2 d.po.length (at3 d f1 f2 f3).c2, .slice (at3 d f1 f2 f3).a3 d.fr.length (at3 d f1 f2 f3).c3] 31)).heap.size (w4.alloc (.cells #[.int .i64 d.ino, .int .i64 d.cl, .int .i64 d.un, .string d.rc, .slice (at3 d f1 f2 f3).a1 d.pg.length (at3 d f1 f2 f3).c1, .string d.sav, .slice (at3 d f1 f2 f3).a2 d.po.length (at3 d f1 f2 f3).c2, .slice (at3 d f1 f2 f3).a3 d.fr.length (at3 d f1 f2 f3).c3] 31)) w5 := hm.trans (h5.mono hm.size)
  refine ⟨((h3.below h4).below (K0.below_new _ _)).below h5', (lb_new d (at3 d f1 f2 f3) w4 31).below h5', ⟨by omega, n12, n23, q3⟩, hB1, ⟨by simp, (cp.k1.alloc _).below h5'⟩, ⟨by simp, (cp.k2.alloc _).below h5'⟩, ⟨by simp, (cp.k3.alloc _).below h5'⟩, ?_⟩
  rcases o3 with h0 | ⟨g1, e1, l1, b1⟩
  · exact Or.inl h0
  · rcases o5 with h0 | ⟨g2, e2, l2, b2⟩
    · exact Or.inl h0
    · have := b1.lt
      exact Or.inr ⟨g1, g2, e1, e2, by omega, by omega, by omega, ((b1.below h4).below (K0.below_new _ _)).below h5', b2⟩

/-- What is kept when a row of the copy is marked. -/
structure K' (w : World) (d : Ln) (s : Sl) (f1 f2 f3 B : Nat) (aw ag : Option Addr) (Z M : List T0.Ent) (W : World) : Prop where
  a : A w d s W
  rows : Z = [] ∨ ∃ g1 g2, aw = some ⟨g1, 0, none⟩ ∧ ag = some ⟨g2, 0, none⟩ ∧ w.heap.size < g1 ∧ g1 < f1 ∧ B < g2 ∧ Mk g1 Z.length Z Z.length W ∧ Mk g2 Z.length M Z.length W
  lo : w.heap.size < f1 ∧ f1 < f2 ∧ f2 < f3 ∧ f3 < B

theorem K'.below (h : K' w d s f1 f2 f3 B aw ag Z M W) (hb : Below W.heap.size W W') : K' w d s f1 f2 f3 B aw ag Z M W' :=
  ⟨h.a.below hb, h.rows.imp id fun ⟨g1, g2, e1, e2, l1, l2, l3, b1, b2⟩ => ⟨g1, g2, e1, e2, l1, l2, l3, b1.below hb, b2.below hb⟩, h.lo⟩
theorem K'.grown {g : Nat} (h : K' w d s f1 f2 f3 B aw ag Z M W) (hR : Lists w d s) (hg : W.grownBy W' (some g)) (h1 : f1 ≤ g) (h2 : g < B) : K' w d s f1 f2 f3 B aw ag Z M W' :=
  ⟨a_grown h.a hR hg (by have := h.lo; omega), h.rows.imp id fun ⟨g1, g2, e1, e2, l1, l2, l3, b1, b2⟩ => ⟨g1, g2, e1, e2, l1, l2, l3, V4.mk_grown b1 hg (by omega), V4.mk_grown b2 hg (by omega)⟩, h.lo⟩
theorem K'.roww (h : K' w d s f1 f2 f3 B aw ag Z M W) : T0.Row W aw Z := by
  rcases h.rows with h0 | ⟨g1, g2, e1, e2, _, _, _, b1, b2⟩
  · exact Or.inl h0
  · exact e1 ▸ V5.mk_row b1
theorem K'.rowg (h : K' w d s f1 f2 f3 B aw ag Z Z W) : T0.Row W ag Z := by
  rcases h.rows with h0 | ⟨g1, g2, e1, e2, _, _, _, b1, b2⟩
  · exact Or.inl h0
  · exact e2 ▸ V5.mk_row b2

set_option maxHeartbeats 2000000 in
theorem markLoan (hR : Lists w d s) (hp : d.pg.length ≤ 1048576) (ho : d.po.length ≤ 1048576) (hf : d.fr.length ≤ 1048576) (h : K w d s f1 f2 f3 B B2 v1 v2 v3 aw ag Z M W) :
    Calls Tryz.prog 14 #[val d (at3 d f1 f2 f3), .int .i64 1] W fun e w' => (∃ q : Nat, e = .returned (.int .i64 (q : Int))) ∧ K' w d s f1 f2 f3 B2 aw ag Z M w' := by
  have h0 := h.below (K0.below_new W (.cells #[.int .i64 d.ino, .int .i64 d.cl, .int .i64 d.un, .string d.rc, .slice (at3 d f1 f2 f3).a1 d.pg.length (at3 d f1 f2 f3).c1, .string d.sav, .slice (at3 d f1 f2 f3).a2 d.po.length (at3 d f1 f2 f3).c2, .slice (at3 d f1 f2 f3).a3 d.fr.length (at3 d f1 f2 f3).c3] 31))
  have bx := lb_new d (at3 d f1 f2 f3) W 31
  have hlo := h.lo
  have hle2 := h.le2
  have hBlt := h.n.b.lt
  have k0 : K' w d s f1 f2 f3 B2 aw ag Z M _ := ⟨h0.a, h0.rows, by have := h0.lo; have := h0.le2; omega⟩
  have m1 := R5.markAny f1 d.pg.length v1 1 _ (by rw [h0.k1.1]; exact hp) (by omega) h0.k1.2
  rw [h0.k1.1] at m1
  have K2 := h0.k2
  have K3 := h0.k3
  clear h h0
  go_enter Tryz.func14, Tryz.ntmps14
  go_wp2_with (first
    | (go_at_call 38; have hg2' := hg2; refine (mark_at (k := 1 + d.pg.length + d.po.length) (c := d.fr.length) k32 hf (by omega)).mono ?_; rintro e w3 ⟨rfl, hg3⟩; have k3 := k2.grown hR hg3 (by omega) (by omega))
    | (go_at_call 38; have hg1' := hg1; refine (mark_at (k := 1 + d.pg.length) (c := d.po.length) k21 ho (by omega)).mono ?_; rintro e w2 ⟨rfl, hg2⟩; have k2 := k1.grown hR hg2 (by omega) (by omega); have k32 : v3.length = d.fr.length ∧ K0.Blk f3 v3 w2 := ⟨k31.1, M0.blk_grown k31.2 hg2 (by omega)⟩; have b2 : LB W.heap.size d (at3 d f1 f2 f3) w2 := ⟨M0.blk_grown b1.b hg2 (by omega)⟩; have c7 := b2.c7)
    | (go_at_call 38; refine m1.mono ?_; rintro e w1 ⟨rfl, hg1⟩; have k1 := k0.grown hR hg1 (by omega) (by omega); have k21 : v2.length = d.po.length ∧ K0.Blk f2 v2 w1 := ⟨K2.1, M0.blk_grown K2.2 hg1 (by omega)⟩; have k31 : v3.length = d.fr.length ∧ K0.Blk f3 v3 w1 := ⟨K3.1, M0.blk_grown K3.2 hg1 (by omega)⟩; have b1 : LB W.heap.size d (at3 d f1 f2 f3) w1 := ⟨M0.blk_grown bx.b hg1 (by omega)⟩; have c6 := b1.c6))
  go_ret
  exact ⟨⟨_, rfl⟩, k3⟩

theorem eq_p (a1 a2 : Option Addr) (c1 c2 : Nat) (w : World) (hN : Z.length ≤ 1048576) (h1 : T0.Row w a1 Z) (h2 : T0.Row w a2 Z) :
    Calls Tryz.prog 11 #[.slice a1 Z.length c1, .slice a2 Z.length c2] w fun e w' => e = .returned (.bool true) ∧ Below w.heap.size w w' := PP.eqPutS a1 a2 c1 c2 Z w hN h1 h2

theorem mark_p {cg : Nat} (hR : Lists w d s) (hN : Z.length ≤ 1048576) (h : K' w d s f1 f2 f3 B aw ag Z Z W) :
    Calls Tryz.prog 16 #[.slice ag Z.length cg, .int .i64 1] W fun e w' => e = .returned (.int .i64 ((1 + 2 * Z.length : Nat) : Int)) ∧ K' w d s f1 f2 f3 B aw ag Z (V4.em Z.length) w' := by
  rcases h.rows with h0 | ⟨g1, g2, e1, e2, l1, l2, l3, b1, b2⟩
  · subst h0
    exact (PQ.markNone ag cg W).mono fun _ _ ⟨he, hw⟩ => ⟨he, by rw [hw]; exact ⟨h.a, Or.inl rfl, h.lo⟩⟩
  · subst e2
    exact (PQ.markPutS g2 cg Z.length W hN (V5.start b2)).mono fun _ w' ⟨he, hk, hg⟩ => ⟨he, a_grown h.a hR hg (by have := h.lo; omega), Or.inr ⟨g1, g2, e1, rfl, l1, l2, l3, V4.mk_grown b1 hg (by have := h.lo; omega), hk⟩, h.lo⟩

theorem held_p {cg : Nat} (hN : Z.length ≤ 1048576) (h : K' w d s f1 f2 f3 B aw ag Z (V4.em Z.length) W) :
    Calls Tryz.prog 17 #[.slice ag Z.length cg, .int .i64 1] W fun e w' => e = .returned (.int .i64 ((1 + 2 * Z.length : Nat) : Int)) ∧ K' w d s f1 f2 f3 B aw ag Z (V4.em Z.length) w' := by
  rcases h.rows with h0 | ⟨g1, g2, e1, e2, l1, l2, l3, b1, b2⟩
  · subst h0
    exact (PQ.heldNone ag cg W).mono fun _ _ ⟨he, hw⟩ => ⟨he, by rw [hw]; exact h⟩
  · subst e2
    exact (PQ.heldPutS g2 cg Z.length W hN b2).mono fun _ _ ⟨he, hb⟩ => ⟨he, h.below hb⟩
end Go.Proofs.YtkdjcbmmbjongaaGreat.PK

/- Plain facts on what an honest client puts: its pages, its texts. -/
namespace Go.Proofs.YtkdjcbmmbjongaaGreat.PF
open Go
set_option linter.unusedVariables false
set_option linter.unusedSimpArgs false

open P0 (has)

/-- Some pages, and behind them those of others that are neither barred nor there. -/
def add1 (barred acc : List Int) (x : Int) : List Int := if has barred x || has acc x then acc else acc ++ [x]
def grow (acc lent barred : List Int) : List Int := lent.foldl (add1 barred) acc

theorem grow_nil (acc barred : List Int) : grow acc [] barred = acc := rfl
theorem grow_succ (acc lent barred : List Int) (k : Nat) (h : k < lent.length) : grow acc (lent.take (k + 1)) barred = add1 barred (grow acc (lent.take k) barred) (lent.getD k 0) := by
  rw [grow, List.take_succ_eq_append_getElem h, List.foldl_append, P0.getD_get _ _ h]
  rfl

theorem add1_len (barred acc : List Int) (x : Int) : (add1 barred acc x).length ≤ acc.length + 1 := by
  unfold add1
  split
  · omega
  · simp

theorem grow_len (lent barred : List Int) : ∀ acc : List Int, (grow acc lent barred).length ≤ acc.length + lent.length := by
  induction lent with
  | nil => intro acc; simp [grow]
  | cons x r ih =>
    intro acc
    have h1 := ih (add1 barred acc x)
    have h2 := add1_len barred acc x
    show (grow (add1 barred acc x) r barred).length ≤ _
    simp only [List.length_cons]
    omega

/-- Those of some numbers that are not among others. -/
def rest (list taken : List Int) : List Int := list.filter fun x => !(has taken x)

theorem rest_succ (list taken : List Int) (k : Nat) (h : k < list.length) : rest (list.take (k + 1)) taken = if has taken (list.getD k 0) then rest (list.take k) taken else rest (list.take k) taken ++ [list.getD k 0] := by
  rw [rest, List.take_succ_eq_append_getElem h, List.filter_append, P0.getD_get _ _ h]
  cases hb : has taken list[k] <;> simp [rest, hb]

theorem rest_len (list taken : List Int) : (rest list taken).length ≤ list.length := List.length_filter_le _ _

theorem grow_rest (taken : List Int) : ∀ (lent acc : List Int), grow acc (rest lent taken) [] = grow acc lent taken
  | [], acc => rfl
  | x :: r, acc => by
    by_cases hb : has taken x = true
    · have e1 : rest (x :: r) taken = rest r taken := by simp [rest, hb]
      have e2 : grow acc (x :: r) taken = grow acc r taken := by
        show grow (add1 taken acc x) r taken = _
        rw [add1, hb, Bool.true_or, if_pos rfl]
      rw [e1, e2]
      exact grow_rest taken r acc
    · have hb' : has taken x = false := by simpa using hb
      have e1 : rest (x :: r) taken = x :: rest r taken := by simp [rest, hb']
      rw [e1]
      show grow (add1 [] acc x) (rest r taken) [] = grow (add1 taken acc x) r taken
      have e3 : add1 [] acc x = add1 taken acc x := by
        rw [add1, add1, hb']
        rfl
      rw [e3]
      exact grow_rest taken r _

theorem grow_none (acc lent : List Int) : grow acc lent [] = grow acc (rest lent []) [] := by rw [grow_rest]

/-- All are data pages. -/
theorem grow_mem (barred : List Int) : ∀ (lent acc : List Int) (z : Int), z ∈ grow acc lent barred → z ∈ acc ∨ z ∈ lent
  | [], acc, z, h => Or.inl h
  | x :: r, acc, z, h => by
    rcases grow_mem barred r (add1 barred acc x) z h with h1 | h1
    · unfold add1 at h1
      split at h1
      · exact Or.inl h1
      · simp at h1
        rcases h1 with h1 | h1
        · exact Or.inl h1
        · exact Or.inr (by simp [h1])
    · exact Or.inr (by simp [h1])

/-- The bytes of a page of a text, with zeros behind. -/
def pageText (data : ByteArray) (i : Nat) : ByteArray := B5.laid (B4.nulls 32) 0 (B2.part data ((i : Int) * 32) (min 32 ((data.size : Int) - (i : Int) * 32)))

/-- The puts of the first pages. -/
def pagePuts (pages : List Int) (data : ByteArray) (k : Nat) : List T0.Ent := (List.range k).map fun (i : Nat) => (pages.getD i 0 * 32, pageText data i)

theorem pagePuts_length (pages : List Int) (data : ByteArray) (k : Nat) : (pagePuts pages data k).length = k := by simp [pagePuts]
theorem pagePuts_succ (pages : List Int) (data : ByteArray) (k : Nat) : pagePuts pages data (k + 1) = pagePuts pages data k ++ [(pages.getD k 0 * 32, pageText data k)] := by simp [pagePuts, List.range_succ]

/-- Whether a text has room. -/
def fitsIn (pages : List Int) (data : ByteArray) : Bool := decide (data.size ≤ 192) && decide ((P0.need data.size).toNat ≤ pages.length)

/-- All that is put: the pages, and the record behind them. -/
def allPuts (ino k o : Int) (pages : List Int) (data : ByteArray) : List T0.Ent := pagePuts pages data (P0.need data.size).toNat ++ [(L1.recAt ino, R0.putI k o data.size (pages.take (P0.need data.size).toNat))]

def puts (ino k o : Int) (pages : List Int) (data : ByteArray) : List T0.Ent := if fitsIn pages data then allPuts ino k o pages data else []

theorem fits_no1 {pages : List Int} {data : ByteArray} (h : ¬ data.size ≤ 192) : fitsIn pages data = false := by rw [fitsIn, decide_eq_false h, Bool.false_and]
theorem fits_no2 {pages : List Int} {data : ByteArray} (h : ¬ (P0.need data.size).toNat ≤ pages.length) : fitsIn pages data = false := by rw [fitsIn, decide_eq_false h, Bool.and_false]
theorem fits_yes {pages : List Int} {data : ByteArray} (h1 : data.size ≤ 192) (h2 : (P0.need data.size).toNat ≤ pages.length) : fitsIn pages data = true := by rw [fitsIn, decide_eq_true h1, decide_eq_true h2]; rfl
theorem puts_no {ino k o : Int} {pages : List Int} {data : ByteArray} (h : fitsIn pages data = false) : puts ino k o pages data = [] := by simp [puts, h]
theorem puts_yes {ino k o : Int} {pages : List Int} {data : ByteArray} (h : fitsIn pages data = true) : puts ino k o pages data = allPuts ino k o pages data := by simp [puts, h]
theorem allPuts_length (ino k o : Int) (pages : List Int) (data : ByteArray) : (allPuts ino k o pages data).length = (P0.need data.size).toNat + 1 := by simp [allPuts, pagePuts_length]
theorem puts_len (ino k o : Int) (pages : List Int) (data : ByteArray) : (puts ino k o pages data).length ≤ 8 := by
  cases h : fitsIn pages data with
  | false => rw [puts_no h]; exact Nat.zero_le _
  | true =>
    rw [puts_yes h, allPuts_length]
    simp only [fitsIn, Bool.and_eq_true, decide_eq_true_eq] at h
    unfold P0.need
    omega

theorem bytes_ext {a b : ByteArray} (h : a.data.toList = b.data.toList) : a = b := ByteArray.ext (Array.toList_inj.1 h)

/-- What the specification puts into a page. -/
theorem page_eq (data : ByteArray) (i n : Nat) (hn : (i + 1) * 32 ≤ n * 32) (hi : i * 32 < data.size) (hN : data.size ≤ n * 32) : B2.part (data ++ B4.nulls (n * 32 - data.size)) ((i : Int) * 32) 32 = pageText data i := by
  have hz : (data ++ B4.nulls (n * 32 - data.size)).size = n * 32 := by rw [ByteArray.size_append, B4.nulls_size]; omega
  have l1 : B2.lies (data ++ B4.nulls (n * 32 - data.size)).size ((i : Int) * 32) 32 = true := decide_eq_true (by rw [hz]; omega)
  have l2 : B2.lies data.size ((i : Int) * 32) (min 32 ((data.size : Int) - (i : Int) * 32)) = true := decide_eq_true (by omega)
  have hp : B2.part data ((i : Int) * 32) (min 32 ((data.size : Int) - (i : Int) * 32)) = data.extract (i * 32) (i * 32 + min 32 (data.size - i * 32)) := by
    rw [B2.part, l2, if_pos rfl, show ((i : Int) * 32).toNat = i * 32 by omega, show ((i : Int) * 32 + min 32 ((data.size : Int) - (i : Int) * 32)).toNat = i * 32 + min 32 (data.size - i * 32) by omega]
  have hs : (data.extract (i * 32) (i * 32 + min 32 (data.size - i * 32))).size = min 32 (data.size - i * 32) := by rw [ByteArray.size_extract]; omega
  have l3 : B2.lies (B4.nulls 32).size 0 (data.extract (i * 32) (i * 32 + min 32 (data.size - i * 32))).size = true := decide_eq_true (by rw [hs, B4.nulls_size]; omega)
  rw [pageText, hp, B2.part, l1, if_pos rfl, B5.laid, l3, if_pos rfl, hs]
  apply bytes_ext
  simp only [ByteArray.data_append, Array.toList_append, Lib.extract_data, B4.nulls, Array.toList_replicate, B4.nulls_size]
  rw [show ((i : Int) * 32).toNat = i * 32 by omega, show ((i : Int) * 32 + 32).toNat = i * 32 + 32 by omega, show ((0 : Int) + ((min 32 (data.size - i * 32) : Nat) : Int)).toNat = min 32 (data.size - i * 32) by omega]
  have hl : data.data.toList.length = data.size := (Lib.size_eq data).symm
  have hr : (⟨Array.replicate 32 0⟩ : ByteArray).size = 32 := B4.nulls_size 32
  rw [hr]
  apply List.ext_getElem?
  intro j
  simp only [List.getElem?_take, List.getElem?_drop, List.getElem?_append, List.getElem?_replicate, List.length_take, List.length_drop, List.length_replicate, List.length_append, hl, Int.toNat_zero, Nat.sub_zero, List.drop_zero]
  grind
end Go.Proofs.YtkdjcbmmbjongaaGreat.PF

/- A row of numbers appended to another; contracts of slices.Grow and slices.Concat, as the given laws call them. -/
namespace Go.Proofs.YtkdjcbmmbjongaaGreat.Q1
open Go.ChangeShapes Go.WideShapes Go.ChangeAt Go.RowKit
set_option linter.unusedVariables false
set_option linter.unusedSimpArgs false
set_option maxRecDepth 10000

open I2 (ints)
open J0 (IBuf Own)

theorem run_append_none {P : Program} (w : World) (t ty e : TypeId) (i : TypeInfo) (ht : P.underlying t = some (.slice e)) (hi : P.info? e = some i) (b : Option Addr) (n cap : Nat) (hle : n ≤ cap) (ax : Option Addr) (cx : Nat) :
    (Builtin.append_ #[t, t] ty #[.slice b n cap, .slice ax 0 cx]).run P w = .ok (.slice b n cap) w := by
  cases b <;> cases ax <;> simp [Builtin.append_, run_underlying ht, sizeOf, typeInfo, hi, Builtin.lenOf, Builtin.firstCells, loadCells, loadCellsFrom, storeCells, hle]

variable {base n cap : Nat} {a : Option Addr} {w W : World} {zs : List Int}

theorem ints_one (xs : List Int) : ∀ u ∈ ints xs, u.oneCell' = true := by
  intro u h
  simp at h
  obtain ⟨z, _, rfl⟩ := h
  rfl

/-- 'list = append(list, others...)'. -/
theorem append_rows {ops : Array Oper} {rest : List Oper} {o : Oper} {A : Act} {Q : Exit → Act → World → Prop} (hgd : o.guard = none) (sl x : Operand)
    (ho : o.op = .call { callee := .builtin .append, args := #[sl, x], argTypes := #[22, 22] })
    (hbuf : IBuf base w a n cap zs) (ax : Option Addr) (cx : Nat) (xs : List Int) (hs : A.eval sl = .slice a n cap) (hx : A.eval x = .slice ax xs.length cx) (hR : P0.Row w ax xs) (hlen : n + xs.length ≤ 4194304) (hb : base ≤ w.heap.size)
    (h : ∀ a' cap' w', IBuf base w' a' (n + xs.length) cap' (zs ++ xs) → Below base w w' → wpList Tryz.prog ops Q rest (A.put o.dst (.slice a' (n + xs.length) cap')) w') : wpList Tryz.prog ops Q (o :: rest) A w := by
  obtain ⟨i0, hi, hz0, hz1, hz2⟩ := info_parts I2.info3
  by_cases h0 : xs = []
  · subst h0
    refine Lib.wpList_append_run _ hgd sl x 22 22 ho _ _ hs hx _ _ (run_append_none w 22 _ 3 i0 Tryz.underlying22 hi a n cap hbuf.fits ax cx) ?_
    exact h a cap w (by rw [List.append_nil]; exact hbuf) (Below.refl _ _)
  · rcases hR with hR | ⟨b, off, rfl, hb2, hc⟩
    · exact absurd hR h0
    · have hm : 0 < xs.length := List.length_pos_iff.2 h0
      refine wpList_append_lies _ hgd sl x 22 ho base 3 i0 (.int .i64 0) 1 8 Tryz.underlying22 hi hz0 hz1 hz2 rfl (by omega) _ n _ hs hbuf.2 ⟨b, off, none⟩ xs.length cx (ints xs) hx (by simp) ?_ (ints_one xs) hm (by unfold maxLen; omega) (by omega) hb _ rfl ?_
      · intro j u hj
        have hj' : j < xs.length := by
          have := (List.getElem?_eq_some_iff.1 hj).1
          simpa using this
        rw [B0.add_off, hc j hj', P0.getD_get _ _ hj', ← hj]
        simp [hj']
      · intro g' cap' w' ho' hg' _ _
        refine h (some ⟨g', 0, none⟩) cap' w' ⟨by rw [hbuf.1]; simp, ?_⟩ ?_
        · rw [show ints (zs ++ xs) = ints zs ++ ints xs by simp]
          exact ho'
        · exact F0.below_grown (Below.refl _ _) hg' (J0.own_block hbuf) hb

set_option maxHeartbeats 2000000 in
theorem grow (k : Nat) (w : World) (hk : k ≤ 4194304) :
    Calls Tryz.prog 65 #[.slice none 0 0, .int .i64 k] w fun e w' => ∃ a c, e = .returned (.slice a 0 c) ∧ IBuf w.heap.size w' a 0 c [] ∧ Below w.heap.size w w' := by
  by_cases h0 : k = 0
  · subst h0
    go_enter Tryz.func65, Tryz.ntmps65
    go_wp2
    go_ret
    exact ⟨none, 0, rfl, J0.ibuf_nil _, Below.refl _ _⟩
  · obtain ⟨i0, hi, hz0, hz1, hz2⟩ := info_parts I2.info3
    have hrz : ∀ ty, (Builtin.append_ #[22, 3] ty #[.slice none 0 0, .int .i64 k]).run Tryz.prog w = .ok (.slice (some ⟨w.heap.size, 0, none⟩) (0 + k) (grownCap w (0 + k) 0 3)) (w.drew.alloc (.cells ((#[] : Array Value) ++ Builtin.zeroCells (Value.int .i64 0).cells k ++ Builtin.zeroCells (Value.int .i64 0).cells (grownCap w (0 + k) 0 3 - (0 + k))) 3)) := fun ty =>
      Lib.run_append_grow_zeros w 22 3 ty 3 i0 (.int .i64 0) .i64 .i64 Tryz.underlying22 Tryz.underlying3 hi hz0 none 0 0 [] (run_firstCells_none w.drew i0.size 0 0 0) k (by omega) (by omega) (by omega) (by omega) (by rw [hz2]; omega) (by rw [hz2, Builtin.nextslicecap, if_pos (by omega)]; omega)
    have hG := grownCap_ge w (0 + k) 0 3
    have hM := grownCap_le_maxLen w (0 + k) 0 3 (by unfold maxLen; omega)
    have hgt : (0 : Int) < (k : Int) := by omega
    have hnk : 0 < k := by omega
    obtain ⟨C, hC⟩ : ∃ C : Array Value, C = (#[] : Array Value) ++ Builtin.zeroCells (Value.int .i64 0).cells k ++ Builtin.zeroCells (Value.int .i64 0).cells (grownCap w (0 + k) 0 3 - (0 + k)) := ⟨_, rfl⟩
    rw [← hC] at hrz
    rw [Nat.zero_add] at hC hrz hG hM
    have hsz : C.size = grownCap w k 0 3 := by
      rw [hC]
      simp [Builtin.zeroCells, Value.cells]
      omega
    obtain ⟨G, hg⟩ : ∃ G, grownCap w k 0 3 = G := ⟨_, rfl⟩
    rw [hg] at hrz hG hM hsz
    have hbuf : IBuf w.heap.size (w.drew.alloc (.cells C 3)) (some ⟨w.heap.size, 0, none⟩) 0 G [] := ⟨rfl, World.ownsRow_made w.drew C G (Nat.le_refl _) hM (by omega)⟩
    have hbel : Below w.heap.size w (w.drew.alloc (.cells C 3)) := (Below.refl _ w).drew.alloc (Nat.le_refl _) _
    have hM' : G ≤ 9223372036854775807 := hM
    have hGk : k ≤ G := by omega
    clear hC hsz hg hM hi hz0 hz1 hz2
    go_enter Tryz.func65, Tryz.ntmps65
    go_wp2_with (at_builtin; refine Lib.wpList_append_run _ rfl _ _ _ _ rfl _ _ rfl rfl _ _ (hrz _) ?_)
    all_goals
      go_ret
      exact ⟨_, _, rfl, hbuf, hbel⟩

/-- The first of two lists, joined. -/
def pre (xs zs : List Int) (k : Nat) : List Int := if k = 0 then [] else if k = 1 then xs else zs

set_option maxHeartbeats 4000000 in
theorem concat0 (B : Nat) (a1 a2 : Option Addr) (c1 c2 : Nat) (xs ys zs : List Int) (hzs : zs = xs ++ ys) (w : World) (h1 : w.cell? ⟨B, 0, none⟩ = some (.slice a1 xs.length c1)) (h2 : w.cell? ⟨B, 1, none⟩ = some (.slice a2 ys.length c2)) (hB : B < w.heap.size)
    (R1 : P0.Row w a1 xs) (R2 : P0.Row w a2 ys) (hx : xs.length ≤ 1048576) (hy : ys.length ≤ 1048576) :
    Calls Tryz.prog 34 #[.slice (some ⟨B, 0, none⟩) 2 2] w fun e w' => ∃ a c, e = .returned (.slice a zs.length c) ∧ Own w.heap.size w' a zs ∧ zs.length ≤ c ∧ Below w.heap.size w w' := by
  have HL : Hid (zs.length = xs.length + ys.length) := by rw [hzs]; exact List.length_append
  have HZ : Hid (xs ++ ys = zs) := hzs.symm
  have hzl : zs.length ≤ 4194304 := by rw [HL.out]; omega
  clear hzs
  go_enter Tryz.func34, Tryz.ntmps34
  go_wp2
  go_loop [3, 11] (fun v i => ∃ k : Nat, k ≤ 2 ∧ i = .int .i64 k ∧ v = .int .i64 ((pre xs zs k).length : Int)) (fun _ i => 2 - (intOf i).toNat)
  case atStart => exact ⟨0, Nat.zero_le _, rfl, rfl⟩
  case round =>
    obtain ⟨k, hk, rfl, rfl⟩ := hrel
    have hk' : k = 0 ∨ k = 1 ∨ k = 2 := by omega
    rcases hk' with rfl | rfl | rfl
    · have e0 : (pre xs zs 0).length = 0 := rfl
      rw [e0]
      have e1 : ¬ ((xs.length : Int) < 0) := by omega
      go_wp2
      go_round
      case rel => exact ⟨1, by omega, by go_num, rfl⟩
      case measure => simp [intOf]
    · have e0 : (pre xs zs 1).length = xs.length := rfl
      rw [e0]
      have e1 : ¬ ((xs.length : Int) + (ys.length : Int) < 0) := by omega
      go_wp2
      go_round
      case rel => exact ⟨2, by omega, by go_num, by show _ = Value.int .i64 ((zs.length : Nat) : Int); rw [HL.out]; go_num⟩
      case measure => simp [intOf]
    · have e0 : (pre xs zs 2).length = zs.length := rfl
      rw [e0]
      have hgr := grow zs.length w (by omega)
      go_wp2_with (go_at_call 65; refine hgr.mono ?_; rintro e w1 ⟨a, c, rfl, hbuf, hbel⟩)
      clear hgr
      go_loopw [6, 27] (fun v i w' => ∃ (k c : Nat) (a : Option Addr), k ≤ 2 ∧ i = .int .i64 k ∧ v = .slice a (pre xs zs k).length c ∧ IBuf w.heap.size w' a (pre xs zs k).length c (pre xs zs k) ∧ Below w.heap.size w w') (fun _ i _ => 2 - (intOf i).toNat)
      case atStart => exact ⟨0, c, a, Nat.zero_le _, rfl, rfl, hbuf, hbel⟩
      case round =>
        obtain ⟨k, c', a', hk, rfl, rfl, hbuf', hbel'⟩ := hrel
        clear hbuf hbel
        have x1 := (hbel'.cell (p := ⟨B, 0, none⟩) hB).trans h1
        have x2 := (hbel'.cell (p := ⟨B, 1, none⟩) hB).trans h2
        have r1 := R1.below hbel'
        have r2 := R2.below hbel'
        have hk' : k = 0 ∨ k = 1 ∨ k = 2 := by omega
        rcases hk' with rfl | rfl | rfl
        · have hb0 : IBuf w.heap.size wr a' 0 c' [] := hbuf'
          have e0 : (pre xs zs 0).length = 0 := rfl
          rw [e0]
          clear hbuf' h1 h2 R1 R2
          go_wp2_with (at_builtin; refine append_rows rfl (.tmp 31) (.tmp 32) rfl hb0 a1 c1 xs rfl rfl r1 (by omega) hbel'.size ?_; intro a3 c3 w3 b3 l3)
          go_roundw
          case rel => exact ⟨1, c3, a3, by omega, by go_num, rfl, by rw [Nat.zero_add] at b3; exact b3, hbel'.trans l3⟩
          case measure => simp [intOf]
        · have hb0 : IBuf w.heap.size wr a' xs.length c' xs := hbuf'
          have e0 : (pre xs zs 1).length = xs.length := rfl
          rw [e0]
          clear hbuf' h1 h2 R1 R2
          go_wp2_with (at_builtin; refine append_rows rfl (.tmp 31) (.tmp 32) rfl hb0 a2 c2 ys rfl rfl r2 (by omega) hbel'.size ?_; intro a3 c3 w3 b3 l3)
          go_roundw
          case rel => exact ⟨2, c3, a3, by omega, by go_num, by rw [← HL.out]; rfl, by rw [← HL.out, HZ.out] at b3; exact b3, hbel'.trans l3⟩
          case measure => simp [intOf]
        · have hb0 : IBuf w.heap.size wr a' zs.length c' zs := hbuf'
          have e0 : (pre xs zs 2).length = zs.length := rfl
          rw [e0]
          clear hbuf' h1 h2 R1 R2
          go_wp2
          go_ret
          exact ⟨a', c', rfl, hb0.own, hb0.fits, hbel'⟩
theorem concat (B : Nat) (a1 a2 : Option Addr) (c1 c2 : Nat) (xs ys : List Int) (w : World) (h1 : w.cell? ⟨B, 0, none⟩ = some (.slice a1 xs.length c1)) (h2 : w.cell? ⟨B, 1, none⟩ = some (.slice a2 ys.length c2)) (hB : B < w.heap.size)
    (R1 : P0.Row w a1 xs) (R2 : P0.Row w a2 ys) (hx : xs.length ≤ 1048576) (hy : ys.length ≤ 1048576) :
    Calls Tryz.prog 34 #[.slice (some ⟨B, 0, none⟩) 2 2] w fun e w' => ∃ a c, e = .returned (.slice a (xs ++ ys).length c) ∧ Own w.heap.size w' a (xs ++ ys) ∧ (xs ++ ys).length ≤ c ∧ Below w.heap.size w w' :=
  concat0 B a1 a2 c1 c2 xs ys (xs ++ ys) rfl w h1 h2 hB R1 R2 hx hy
end Go.Proofs.YtkdjcbmmbjongaaGreat.Q1

/- A list of numbers that grows behind a pointer: the contracts of its methods add and addBut, and of impl.pagesToFill. -/
namespace Go.Proofs.YtkdjcbmmbjongaaGreat.SR
open Go.ChangeShapes Go.WideShapes Go.ChangeAt Go.RowKit
set_option linter.unusedVariables false
set_option linter.unusedSimpArgs false
set_option maxRecDepth 10000

open J0 (IBuf Own)

/-- A series of numbers in its block; its row lies behind it. -/
structure SI (B : Nat) (a : Option Addr) (n cap : Nat) (zs : List Int) (W : World) : Prop where
  blk : K0.Blk B [.slice a n cap] W
  buf : IBuf (B + 1) W a n cap zs

variable {B n cap : Nat} {a : Option Addr} {zs : List Int} {w W W' : World}

theorem SI.below (h : SI B a n cap zs W) (hb : Below W.heap.size W W') : SI B a n cap zs W' := ⟨h.blk.below hb, h.buf.below hb⟩
theorem SI.drew (h : SI B a n cap zs W) : SI B a n cap zs W.drew := ⟨h.blk.drew, h.buf.drew⟩
theorem SI.lt (h : SI B a n cap zs W) : B + 1 ≤ W.heap.size := h.blk.lt
theorem SI.len (h : SI B a n cap zs W) : n = zs.length := h.buf.1
theorem si_new (w : World) : SI w.heap.size none 0 0 [] (w.alloc (.cells #[.slice none 0 0] 85)) := ⟨K0.blk_new [.slice none 0 0] w 85, J0.ibuf_nil _⟩
theorem SI.store {a' : Option Addr} {n' cap' : Nat} {zs' : List Int} (h : SI B a n cap zs w) (hbuf : IBuf (B + 1) W a' n' cap' zs') (hb : Below (B + 1) w W) : SI B a' n' cap' zs' (W.setCell ⟨B, 0, none⟩ (.slice a' n' cap')) := by
  have h1 := J0.blk_keep h.blk hb (Nat.lt_succ_self B)
  refine ⟨h1.set 0 (.slice a' n' cap'), hbuf.1, ?_⟩
  exact ownsRow_setCell_other hbuf.2 (a := ⟨B, 0, none⟩) (fun e => Nat.not_succ_le_self _ (J0.own_block hbuf _ e)) _
theorem store_below {B : Nat} (hb : Below (B + 1) w W) (v : Value) : Below B w (W.setCell ⟨B, 0, none⟩ v) := (hb.mono (Nat.le_succ B)).setCell (p := ⟨B, 0, none⟩) (Nat.le_refl _) v

set_option maxHeartbeats 1000000 in
theorem add (ax : Option Addr) (cx : Nat) (xs : List Int) (w : World) (h : SI B a n cap zs w) (hR : P0.Row w ax xs) (hlen : n + xs.length ≤ 1048576) :
    Calls Tryz.prog 57 #[.pointer (some ⟨B, 0, none⟩), .slice ax xs.length cx] w fun e w' => e = .returned (.tuple #[]) ∧ ∃ a' cap', SI B a' (n + xs.length) cap' (zs ++ xs) w' ∧ Below B w w' := by
  have c0 := h.blk.c0
  have hlt := h.lt
  have hbf := h.buf
  have HH : Hid (SI B a n cap zs w) := h
  clear h
  go_enter Tryz.func57, Tryz.ntmps57
  go_wp2_with (at_builtin; refine Q1.append_rows rfl (.tmp 8) (.tmp 9) rfl hbf ax cx xs (by rfl) (by rfl) hR (by omega) hlt ?_; intro a1 cap1 w1 b1 l1; have k1 := J0.blk_keep HH.out.blk l1 (Nat.lt_succ_self B); have c1 := k1.c0; have f1 := k1.f0)
  refine bodyPost_end (v := .tuple #[]) (by simp [results, Tryz.results57, go_sem]) rfl ?_
  exact ⟨rfl, a1, cap1, HH.out.store b1 l1, store_below l1 _⟩

theorem row_one (w : World) (x : Int) : P0.Row (w.alloc (.cells #[.int .i64 x] 3)) (some ⟨w.heap.size, 0, none⟩) [x] := I2.row_of_blk (K0.blk_new [.int .i64 x] w 3)

set_option maxHeartbeats 2000000 in
theorem addBut (ax ay : Option Addr) (cx cy : Nat) (xs ys : List Int) (w : World) (h : SI B a n cap zs w) (hX : ∀ W, Below B w W → P0.Row W ax xs) (hY : ∀ W, Below B w W → P0.Row W ay ys) (hlen : n + xs.length ≤ 1048000) (hy : ys.length ≤ 281474976710656) :
    Calls Tryz.prog 64 #[.pointer (some ⟨B, 0, none⟩), .slice ax xs.length cx, .slice ay ys.length cy] w fun e w' => e = .returned (.tuple #[]) ∧ ∃ a' n' cap', SI B a' n' cap' (PF.grow zs xs ys) w' ∧ Below B w w' := by
  have hn := h.len
  have hBw := h.lt
  go_enter Tryz.func64, Tryz.ntmps64
  go_wp2
  go_loopw [10] (fun i w' => ∃ (k : Nat) (a' : Option Addr) (n' cap' : Nat), k ≤ xs.length ∧ i = .int .i64 k ∧ SI B a' n' cap' (PF.grow zs (xs.take k) ys) w' ∧ Below B w w') (fun i _ => xs.length - (intOf i).toNat)
  case atStart => exact ⟨0, a, n, cap, Nat.zero_le _, rfl, h, Below.refl _ _⟩
  case round =>
    obtain ⟨k, a1, n1, cap1, hk, rfl, hs, hbel⟩ := hrel
    clear h
    have hlen' : zs.length + xs.length ≤ 1048000 := by omega
    have hgl := PF.grow_len (xs.take k) ys zs
    have htl : (xs.take k).length ≤ xs.length := by simp; omega
    obtain rfl := hs.len
    by_cases hlt : k < xs.length
    · obtain ⟨b, off, rfl, hlt0, hc⟩ := (hX wr hbel).get hlt
      have y1 := hc k hlt
      have hsu := PF.grow_succ zs xs ys k hlt
      have hY1 := hY wr hbel
      have c0 := hs.blk.c0
      obtain ⟨z, ez⟩ : ∃ z, xs.getD k 0 = z := ⟨_, rfl⟩
      rw [ez] at y1 hsu
      obtain ⟨acc, ea⟩ : ∃ acc, PF.grow zs (xs.take k) ys = acc := ⟨_, rfl⟩
      rw [ea] at hs hsu hgl c0
      have HS : Hid (PF.grow zs (xs.take (k + 1)) ys = PF.add1 ys acc z) := hsu
      have e1 : (0 : Int) ≤ (k : Int) := by omega
      have e2 : (k : Int) < (xs.length : Int) := by omega
      clear ez ea hc hX hY hsu hn
      by_cases hb1 : P0.has ys z = true
      · have hc1 : Hid (∀ W, P0.Row W ay ys → Calls Tryz.prog 88 #[.slice ay ys.length cy, .int .i64 z] W fun e w' => e = .returned (.bool true) ∧ w' = W) := fun W hW => by
          have := N2.containsRow ay cy ys z W hy hW
          rwa [hb1] at this
        have HG : Hid (PF.add1 ys acc z = acc) := by
          show PF.add1 ys acc z = acc
          rw [PF.add1, hb1, Bool.true_or, if_pos rfl]
        clear hb1
        go_wp2_with (go_at_call 88; refine (hc1.out _ hY1).mono ?_; rintro e w2 ⟨rfl, hw2⟩; subst w2)
        go_roundw
        case rel => exact ⟨k + 1, a1, acc.length, cap1, by omega, by go_num, by rw [HS.out, HG.out]; exact hs, hbel⟩
        case measure => simp [intOf]; omega
      · have hb1' : P0.has ys z = false := by simpa using hb1
        have hc1 : Hid (∀ W, P0.Row W ay ys → Calls Tryz.prog 88 #[.slice ay ys.length cy, .int .i64 z] W fun e w' => e = .returned (.bool false) ∧ w' = W) := fun W hW => by
          have := N2.containsRow ay cy ys z W hy hW
          rwa [hb1'] at this
        by_cases hb2 : P0.has acc z = true
        · have hc2 : Hid (∀ W, P0.Row W a1 acc → Calls Tryz.prog 88 #[.slice a1 acc.length cap1, .int .i64 z] W fun e w' => e = .returned (.bool true) ∧ w' = W) := fun W hW => by
            have := N2.containsRow a1 cap1 acc z W (by omega) hW
            rwa [hb2] at this
          have HG : Hid (PF.add1 ys acc z = acc) := by
            show PF.add1 ys acc z = acc
            rw [PF.add1, hb2, Bool.or_true, if_pos rfl]
          have R2 := hs.buf.own.row
          clear hb1 hb1' hb2
          go_wp2_with (first
            | (go_at_call 88; have m2 := m1; refine (hc2.out _ R2).mono ?_; rintro e w3 ⟨rfl, hw3⟩; subst w3)
            | (go_at_call 88; refine (hc1.out _ hY1).mono ?_; rintro e w2 ⟨rfl, hw2⟩; subst w2; have m1 : True := trivial))
          go_roundw
          case rel => exact ⟨k + 1, a1, acc.length, cap1, by omega, by go_num, by rw [HS.out, HG.out]; exact hs, hbel⟩
          case measure => simp [intOf]; omega
        · have hb2' : P0.has acc z = false := by simpa using hb2
          have hc2 : Hid (∀ W, P0.Row W a1 acc → Calls Tryz.prog 88 #[.slice a1 acc.length cap1, .int .i64 z] W fun e w' => e = .returned (.bool false) ∧ w' = W) := fun W hW => by
            have := N2.containsRow a1 cap1 acc z W (by omega) hW
            rwa [hb2'] at this
          have HG : Hid (PF.add1 ys acc z = acc ++ [z]) := by
            show PF.add1 ys acc z = acc ++ [z]
            rw [PF.add1, hb1', hb2']
            rfl
          have R2 := hs.buf.own.row
          have ha : Hid (∀ W, SI B a1 acc.length cap1 acc W → Calls Tryz.prog 57 #[.pointer (some ⟨B, 0, none⟩), .slice (some ⟨W.heap.size, 0, none⟩) 1 1] (W.alloc (.cells #[.int .i64 z] 3)) fun e w' => e = .returned (.tuple #[]) ∧ ∃ a' cap', SI B a' (acc.length + 1) cap' (acc ++ [z]) w' ∧ Below B W w') := fun W hW =>
            (add (some ⟨W.heap.size, 0, none⟩) 1 [z] _ (hW.below (K0.below_new _ _)) (row_one W z) (by simp only [List.length_cons, List.length_nil]; omega)).mono fun _ _ ⟨he, a', c', h1, h2⟩ => ⟨he, a', c', h1, ((K0.below_new W _).mono (by have := hW.lt; omega)).trans h2⟩
          clear hb1 hb1' hb2 hb2'
          go_wp2_with (first
            | (go_at_call 88; have m2 := m1; refine (hc2.out _ R2).mono ?_; rintro e w3 ⟨rfl, hw3⟩; subst w3)
            | (go_at_call 88; refine (hc1.out _ hY1).mono ?_; rintro e w2 ⟨rfl, hw2⟩; subst w2; have m1 : True := trivial)
            | (go_at_call 57; refine (ha.out _ hs).mono ?_; rintro e w4 ⟨rfl, a4, c4, s4, b4⟩))
          go_roundw
          case rel => exact ⟨k + 1, a4, acc.length + 1, c4, by omega, by go_num, by rw [HS.out, HG.out]; exact s4, hbel.trans b4⟩
          case measure => simp [intOf]; omega
    · obtain rfl : k = xs.length := by omega
      rw [List.take_length] at hs
      have HF : Hid (SI B a1 (PF.grow zs xs ys).length cap1 (PF.grow zs xs ys) wr) := hs
      clear hX hY hs
      go_wp2
      refine bodyPost_end (v := .tuple #[]) (by simp [results, Tryz.results64, go_sem]) rfl ?_
      exact ⟨rfl, _, _, _, HF.out, hbel⟩

set_option maxHeartbeats 1000000 in
theorem pagesToFill (k o s : Int) (an al ab : Option Addr) (cn cl cb : Nat) (pg lent barred : List Int) (w : World) (hp : P0.Row w an pg) (hl : P0.Row w al lent) (hb : P0.Row w ab barred) (h1 : pg.length ≤ 1000) (h2 : lent.length ≤ 1000) (h3 : barred.length ≤ 281474976710656) :
    Calls Tryz.prog 33 #[I0.val k o s an pg.length cn, .slice al lent.length cl, .slice ab barred.length cb] w fun e w' => ∃ a' c', e = .returned (.slice a' (PF.grow pg lent barred).length c') ∧ Own w.heap.size w' a' (PF.grow pg lent barred) ∧ (PF.grow pg lent barred).length ≤ c' ∧ Below w.heap.size w w' := by
  have l0 := K0.below_new w (.cells #[.int .i64 k, .int .i64 o, .int .i64 s, .slice an pg.length cn] 49)
  have k0 := K0.blk_new [.int .i64 k, .int .i64 o, .int .i64 s, .slice an pg.length cn] w 49
  have e0 : (w.alloc (.cells #[.int .i64 k, .int .i64 o, .int .i64 s, .slice an pg.length cn] 49)).heap.size = w.heap.size + 1 := by simp
  have s1 := si_new (w.alloc (.cells #[.int .i64 k, .int .i64 o, .int .i64 s, .slice an pg.length cn] 49))
  have l1 := K0.below_new (w.alloc (.cells #[.int .i64 k, .int .i64 o, .int .i64 s, .slice an pg.length cn] 49)) (.cells #[.slice none 0 0] 85)
  have k1 := k0.below l1
  have c3 := k1.c3
  rw [e0] at s1 l1
  have HR : Hid (∀ W, Below w.heap.size w W → P0.Row W an pg ∧ P0.Row W al lent ∧ P0.Row W ab barred) := fun W hW => ⟨hp.below hW, hl.below hW, hb.below hW⟩
  have M1 : Below w.heap.size w ((w.alloc (.cells #[.int .i64 k, .int .i64 o, .int .i64 s, .slice an pg.length cn] 49)).alloc (.cells #[.slice none 0 0] 85)) := l0.trans (l1.mono (Nat.le_succ _))
  have hp1 := (HR.out _ M1).1
  clear hp hl hb k0 l0 k1
  go_enter Tryz.func33, Tryz.ntmps33
  go_wp2_with (first
    | (go_at_call 57; refine (add an cn pg _ s1 hp1 (by omega)).mono ?_; rintro e w2 ⟨rfl, a2, c2, s2, b2⟩; have M2 := M1.trans (b2.mono (Nat.le_succ _)))
    | (go_at_call 64; refine (addBut al ab cl cb lent barred _ s2 (fun W hW => (HR.out W (M2.trans (hW.mono (Nat.le_succ _)))).2.1) (fun W hW => (HR.out W (M2.trans (hW.mono (Nat.le_succ _)))).2.2) (by omega) h3).mono ?_; rintro e w3 ⟨rfl, a3, n3, d3, s3, b3⟩; have M3 := M2.trans (b3.mono (Nat.le_succ _)); have z3 := s3.blk.c0))
  have hq := s3.len
  subst n3
  go_ret
  exact ⟨a3, d3, rfl, s3.buf.own.mono (by omega), s3.buf.fits, M3⟩
end Go.Proofs.YtkdjcbmmbjongaaGreat.SR

/- Contracts of impl.recordText and impl.PutInode, as the given laws call them. -/
namespace Go.Proofs.YtkdjcbmmbjongaaGreat.R1
open Go.ChangeShapes Go.WideShapes Go.ChangeAt Go.RowKit
set_option linter.unusedVariables false
set_option linter.unusedSimpArgs false
set_option maxRecDepth 10000

open I0 (val vals)

theorem ret_str {a b : ByteArray} (h : a = b) : Ending.returned (.string a) = .returned (.string b) := by rw [h]

/-- The record's text so far: kind, owner, size, and the first pages. -/
def upto (k o s : Int) (zs : List Int) (j : Nat) : ByteArray := R0.two k o ++ B3.pair s ++ R0.pg (zs.take j)

theorem upto_zero (k o s : Int) (zs : List Int) : upto k o s zs 0 = R0.two k o ++ B3.pair s := by
  apply ByteArray.ext
  simp [upto, R0.pg]
theorem upto_succ (k o s : Int) (zs : List Int) (j : Nat) (h : j < zs.length) : upto k o s zs j ++ ⟨#[UInt8.ofNat (zs.getD j 0).toNat]⟩ = upto k o s zs (j + 1) := by
  rw [upto, upto, ByteArray.append_assoc, R0.pg_snoc zs j h]
theorem upto_all (k o s : Int) (zs : List Int) : upto k o s zs zs.length = R0.head k o s zs := by rw [upto, List.take_length, R0.head]

theorem zeros_buf {base g n cap : Nat} {W : World} {t : ByteArray} (m : Int) (h : F0.Buf base W g n cap t) :
    Calls Tryz.prog 85 #[.int .i64 m] W fun e w' => e = .returned (.string (B4.zeros m)) ∧ F0.Buf base w' g n cap t ∧ Below W.heap.size W w' :=
  (B4.impl_Zeros m W).mono fun _ _ ⟨he, hb⟩ => ⟨he, h.below hb, hb⟩

/-- A world behind the call's own box, with the row. -/
structure St (w : World) (W1 : World) (g n cap : Nat) (t : ByteArray) (W : World) : Prop where
  buf : F0.Buf W1.heap.size W g n cap t
  bel : Below W1.heap.size W1 W

variable {w W1 W W' : World} {g n cap : Nat} {t : ByteArray}

theorem St.below (h : St w W1 g n cap t W) (hb : Below W.heap.size W W') : St w W1 g n cap t W' := ⟨h.buf.below hb, h.bel.trans (hb.mono h.bel.size)⟩
theorem St.drew (h : St w W1 g n cap t W) : St w W1 g n cap t W.drew := ⟨h.buf.drew, h.bel.drew⟩

theorem zeros_st (m : Int) (h : St w W1 g n cap t W) :
    Calls Tryz.prog 85 #[.int .i64 m] W fun e w' => e = .returned (.string (B4.zeros m)) ∧ St w W1 g n cap t w' :=
  (B4.impl_Zeros m W).mono fun _ _ ⟨he, hb⟩ => ⟨he, h.below hb⟩

theorem with_st (a : ByteArray) (k : Int) (u : ByteArray) (hs : a.size ≤ 281474976710656) (ht : u.size ≤ 281474976710656) (h : St w W1 g n cap t W) :
    Calls Tryz.prog 84 #[.string a, .int .i64 k, .string u] W fun e w' => e = .returned (.string (B5.laid a k u)) ∧ St w W1 g n cap t w' :=
  (B5.impl_With a k u W hs ht).mono fun _ _ ⟨he, hb⟩ => ⟨he, h.below hb⟩

set_option maxHeartbeats 2000000 in
theorem recordText (k o s : Int) (a : Option Addr) (c : Nat) (zs : List Int) (w : World) (hok : I0.ok k o s zs = true) (hR : P0.Row w a zs) :
    Calls Tryz.prog 87 #[val k o s a zs.length c] w fun e w' => e = .returned (.string (R0.putI k o s zs)) ∧ Below w.heap.size w w' := by
  obtain ⟨hk, ho, hs, hl, -, hp⟩ := R0.ok_bounds hok
  have hP2 := R0.pair_size s (by omega) (by omega)
  have hbox := K0.blk_new (vals k o s a zs.length c) w 49
  have hl0 := K0.below_new w (.cells #[.int .i64 k, .int .i64 o, .int .i64 s, .slice a zs.length c] 49)
  have hR1 := hR.below hl0
  have hbuf0 := F0.buf_two (base := (w.alloc (.cells #[.int .i64 k, .int .i64 o, .int .i64 s, .slice a zs.length c] 49)).heap.size) (w.alloc (.cells #[.int .i64 k, .int .i64 o, .int .i64 s, .slice a zs.length c] 49)) k o (by omega) (by omega) (Nat.le_refl _)
  have hbuf0 := hbuf0.at (g' := w.heap.size + 1) (by simp)
  have hbl0 := K0.below_new (w.alloc (.cells #[.int .i64 k, .int .i64 o, .int .i64 s, .slice a zs.length c] 49)) (.cells #[.int .u8 k, .int .u8 o] 5)
  have hbox0 := hbox.below hbl0
  have HT : Hid (R0.putI k o s zs = B5.laid (B4.zeros 16) 0 (R0.head k o s zs)) := by
    have hz := R0.head_size k o s zs (by omega) (by omega)
    rw [R0.putI, if_pos hok, B4.zeros, if_pos (by decide), show ((16 : Int)).toNat = 16 from rfl, E0.laid_front _ 16 (by omega), hz, show 16 - (4 + zs.length) = 12 - zs.length by omega]
    rfl
  have hz4 : (R0.head k o s zs).size ≤ 281474976710656 := by rw [R0.head_size k o s zs (by omega) (by omega)]; omega
  have hz5 : (B4.zeros 16).size ≤ 281474976710656 := by decide
  clear hR hok
  have hs0 : 0 ≤ s := hs.1
  have hk0 : 0 ≤ k := hk.1
  have hk1 : k ≤ 2 := hk.2
  have ho0 : 0 ≤ o := ho.1
  have ho1 : o ≤ 9 := ho.2
  go_enter Tryz.func87, Tryz.ntmps87
  go_wp2_with (first
    | (go_at_call 104; refine (B3.impl_Pair _ _).mono ?_; rintro e w2 ⟨rfl, b2⟩; have hbuf2 := hbuf0.below b2; have bel2 := hbl0.trans (b2.mono hbl0.size); have hbox2 := hbox.below bel2; have c3 := hbox2.c3)
    | (at_builtin; refine F0.append_text rfl (.tmp 13) (.tmp 16) rfl hbuf2 (B3.pair s) (by rfl) (by rfl) (by omega) bel2.size ?_; intro g3 cap3 w3 hbuf3 bel3'; have bel3 := bel2.trans bel3'; have hbox3 := hbox.below bel3; have d3 := hbox3.c3))
  go_loopw [3, 21] (fun r i w' => ∃ (j g cap : Nat), j ≤ zs.length ∧ i = .int .i64 j ∧ r = .slice (some ⟨g, 0, none⟩) (4 + j) cap ∧ F0.Buf (w.alloc (.cells #[.int .i64 k, .int .i64 o, .int .i64 s, .slice a zs.length c] 49)).heap.size w' g (4 + j) cap (upto k o s zs j) ∧ Below (w.alloc (.cells #[.int .i64 k, .int .i64 o, .int .i64 s, .slice a zs.length c] 49)).heap.size (w.alloc (.cells #[.int .i64 k, .int .i64 o, .int .i64 s, .slice a zs.length c] 49)) w') (fun _ i _ => zs.length - (intOf i).toNat)
  case atStart =>
    rw [hP2] at hbuf3
    exact ⟨0, g3, cap3, Nat.zero_le _, rfl, rfl, by rw [upto_zero]; exact hbuf3, bel3⟩
  case round =>
    obtain ⟨j, g, cap, hj, rfl, rfl, hbuf, hbel⟩ := hrel
    clear hbuf0 hbl0 hbox0 hbuf2 bel2 hbox2 c3 hbuf3 bel3 bel3' hbox3 d3 b2
    by_cases hlt : j < zs.length
    · obtain ⟨b, off, rfl, hb, hc⟩ := (hR1.below hbel).get hlt
      have x1 := hc j hlt
      have hz := R0.pages_bounds hp hlt
      have hu := upto_succ k o s zs j hlt
      obtain ⟨z, ez⟩ : ∃ z, zs.getD j 0 = z := ⟨_, rfl⟩
      rw [ez] at x1 hz hu
      have z0 : 0 ≤ z := by omega
      have z1 : z ≤ 23 := hz.2
      have e1 : (0 : Int) ≤ (j : Int) := by omega
      have e2 : (j : Int) < (zs.length : Int) := by omega
      have HU : Hid (upto k o s zs j ++ ⟨#[UInt8.ofNat z.toNat]⟩ = upto k o s zs (j + 1)) := hu
      clear hu ez hc hz
      go_wp2_with (at_builtin; refine F0.append_byte rfl (.tmp 25) (.tmp 28) rfl hbuf z (by omega) (by rfl) (by rfl) (by omega) hbel.size ?_; intro g1 cap1 w1 hbuf1 bel1)
      go_roundw
      case rel => exact ⟨j + 1, g1, cap1, by omega, by go_num, rfl, by rw [← HU.out]; exact hbuf1, hbel.trans bel1⟩
      case measure => simp [intOf]; omega
    · obtain rfl : j = zs.length := by omega
      rw [upto_all] at hbuf
      have st : St w (w.alloc (.cells #[.int .i64 k, .int .i64 o, .int .i64 s, .slice a zs.length c] 49)) g (4 + zs.length) cap (R0.head k o s zs) wr := ⟨hbuf, hbel⟩
      have hfin : Hid (∀ W, St w (w.alloc (.cells #[.int .i64 k, .int .i64 o, .int .i64 s, .slice a zs.length c] 49)) g (4 + zs.length) cap (R0.head k o s zs) W → Below w.heap.size w W) := fun W h => hl0.trans (h.bel.mono hl0.size)
      clear hR1 hbuf hbel hbox hl0
      go_wp2
      have st1 := st.drew
      have cv0 := st.buf.conv
      have cv1 := st1.buf.conv
      go_region_with (first
        | (go_at_call 85; refine (zeros_st _ (by assumption)).mono ?_; rintro e w4 ⟨rfl, h4⟩; have cv4 := h4.buf.conv)
        | (go_at_call 84; refine (with_st _ _ _ hz5 hz4 (by assumption)).mono ?_; rintro e w5 ⟨rfl, h5⟩))
      all_goals
        go_wp2
        go_ret
        exact ⟨ret_str HT.out.symm, hfin.out _ h5⟩

theorem impl_PutInode (k o s : Int) (a : Option Addr) (c : Nat) (zs : List Int) (w : World) (hbig : zs.length ≤ 281474976710656) (hcap : zs.length ≤ c) (hR : P0.Row w a zs) :
    Calls Tryz.prog 63 #[val k o s a zs.length c] w fun e w' => e = .returned (.string (R0.putI k o s zs)) ∧ Below w.heap.size w w' := by
  have hbox := K0.blk_new (vals k o s a zs.length c) w 49
  have hl0 := K0.below_new w (.cells #[.int .i64 k, .int .i64 o, .int .i64 s, .slice a zs.length c] 49)
  have hR0 := hR.below hl0
  clear hR
  by_cases hok : I0.ok k o s zs = true
  · go_enter Tryz.func63, Tryz.ntmps63
    go_wp2_with (first
      | (go_at_call 86; refine (I1.impl_InodeOk k o s a c zs _ hbig hcap hR0).mono ?_; rintro e w1 ⟨rfl, b1⟩; have hbox1 := hbox.below b1; have c0 := hbox1.c0; have c1 := hbox1.c1; have c2 := hbox1.c2; have c3 := hbox1.c3; have hR1 := hR0.below b1; have l1 := hl0.trans (b1.mono hl0.size))
      | (go_at_call 87; refine (recordText k o s a c zs _ hok hR1).mono ?_; rintro e w2 ⟨rfl, b2⟩; have l2 := l1.trans (b2.mono l1.size)))
    go_ret
    exact ⟨rfl, l2⟩
  · have hok' : I0.ok k o s zs = false := by simpa using hok
    have HR : Hid (R0.putI k o s zs = ⟨#[]⟩) := by rw [R0.putI, if_neg hok]; rfl
    go_enter Tryz.func63, Tryz.ntmps63
    go_wp2_with (go_at_call 86; refine (I1.impl_InodeOk k o s a c zs _ hbig hcap hR0).mono ?_; rintro e w1 ⟨rfl, b1⟩; have l1 := hl0.trans (b1.mono hl0.size))
    go_ret
    exact ⟨ret_str HR.out.symm, l1⟩
end Go.Proofs.YtkdjcbmmbjongaaGreat.R1
