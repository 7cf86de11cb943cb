/- Joined texts: plain facts and contracts, as each part says. -/
import Derived.Test.YtddlpejklpljoaaJwA
import Derived.Test.YtddlpejklpljoaaJfG
import Derived.Test.YtddlpejklpljoaaJfK
import Derived.Test.YtddlpejklpljoaaJfA

/- container/heap's Pop over the heap of ranges; least. -/
namespace Go.Proofs.Ytddlpejklpljoaa.HP
open Go.ChangeShapes Go.WideShapes Go.ChangeAt Go.RowKit
set_option linter.unusedVariables false
set_option linter.unusedSimpArgs false
set_option maxRecDepth 10000
variable {w W W' : World} {base Bh g c : Nat} {l : List Rg}

theorem last_split {l2 : List Rg} {m : Nat} (h : l2.length = m + 1) : l2 = l2.take m ++ [at_ l2 m] := by
  rw [at_get l2 m (by omega)]
  have := List.take_append_drop m l2
  rw [List.drop_eq_getElem_cons (by omega), List.drop_eq_nil_of_le (show l2.length ≤ m + 1 by omega)] at this
  exact this.symm
theorem heap_take {l2 : List Rg} {m : Nat} (h : l2.length = m + 1) (hh : HeapN l2 m) : HeapN (l2.take m) (l2.take m).length := by
  have e : (l2.take m).length = m := by rw [List.length_take]; omega
  have k : ∀ i, i < m → key (l2.take m) i = key l2 i := by
    intro i hi
    unfold key
    rw [at_get _ i (by omega), at_get l2 i (by omega), List.getElem_take]
  rw [e]
  intro i h0 hi
  rw [k i hi, k _ (by omega)]
  exact hh i h0 hi

set_option maxHeartbeats 2000000 in
theorem heapPop (m : Nat) (w : World) (h : HS base Bh g c l w) (hh : HeapN l l.length) (hm : l.length = m + 1) (hlen : l.length ≤ 1048576) :
    Calls Try.prog 67 #[hI Bh] w fun e w' => ∃ (r : Rg) (l' : List Rg), e = .returned (.iface 66 (.agg #[.int .i64 r.1, .int .i64 r.2])) ∧ r = at_ l 0 ∧ (r :: l').Perm l ∧ HS base Bh g c l' w' ∧ HeapN l' l'.length ∧ Chg Bh g g w w' := by
  have x0 := h.cell
  have hm1 := mLen x0
  have hm2 := fun k => mSwap (w := w.drewN k) (show (w.drewN k).cell? ⟨Bh, 0, none⟩ = some _ from x0)
  have hm3 := mSwap x0
  have HA : Hid (HeapN l l.length ∧ l.length = m + 1 ∧ l.length ≤ 1048576 ∧ HS base Bh g c l w) := ⟨hh, hm, hlen, h⟩
  have hsw := swap 0 m w h (by omega) (by omega)
  rw [hm] at x0 hm1 hm2 hm3 hsw
  have en2 : ((m : Int) + 1) - 1 = (m : Int) := by omega
  have en3 : wrap64 (m : Int) = (m : Int) := by unfold wrap64; omega
  clear h hh hm
  go_enter Try.func67, Try.ntmps67
  go_wp2_with (go_at_call 47; refine (len _ _ _ _).mono ?_; rintro e w2 ⟨rfl, hw⟩; subst w2)
  go_wp2_with (go_at_call 160; refine hsw.mono ?_; rintro e w1 ⟨rfl, hs1, hg1⟩)
  obtain ⟨hh, hm, hlen, h⟩ := HA.out
  have hdn := down m w1 hs1 (pop_start hh hm) (by rw [swp_length]; exact hlen)
  clear hh hm h
  go_wp2_with (go_at_call 87; refine hdn.mono ?_; rintro e w3 ⟨⟨b, rfl⟩, l2, hs2, hp2, hh2, hat2, hg2⟩)
  obtain ⟨hh, hm, hlen, h⟩ := HA.out
  have hl2 : l2.length = m + 1 := by rw [hp2.length_eq, swp_length, hm]
  have ha : at_ l2 m = at_ l 0 := by rw [hat2 m (Nat.le_refl _), swp_at l 0 m m (by omega) (by omega), if_pos rfl]
  have hsp := last_split hl2
  rw [ha] at hsp
  have ht := heap_take hl2 hh2
  have hpm : (at_ l 0 :: l2.take m).Perm l := by
    have q1 : (l2.take m ++ [at_ l 0]).Perm (at_ l 0 :: l2.take m) := List.perm_append_comm
    rw [← hsp] at q1
    exact q1.symm.trans (hp2.trans (swp_perm l 0 m (by omega) (by omega)))
  rw [hsp] at hs2
  have hpp := pop (at_ l 0) w3 hs2
  have hm4 := mPop (some ⟨Bh, 0, none⟩) w3
  have HB : Hid ((at_ l 0 :: l2.take m).Perm l ∧ HeapN (l2.take m) (l2.take m).length ∧ w.grownBy w3 (some g)) := ⟨hpm, ht, hg1.trans hg2⟩
  obtain ⟨r, hr⟩ : ∃ r, at_ l 0 = r := ⟨_, rfl⟩
  obtain ⟨lt, hlt⟩ : ∃ lt, l2.take m = lt := ⟨_, rfl⟩
  rw [hr, hlt] at HB hpp
  have HR : Hid (r = at_ l 0) := hr.symm
  clear hh hm h hl2 ha hsp ht hpm hs2 hs1 hg1 hg2 hp2 hh2 hat2 hdn hr hlt
  go_wp2_with (go_at_call 158; refine hpp.mono ?_; rintro e w4 ⟨rfl, hs4, ch4⟩)
  go_ret
  refine ⟨r, lt, rfl, HR.out, HB.out.1, hs4, HB.out.2.1, ?_⟩
  have gr := HB.out.2.2
  exact ⟨ch4.os.trans gr.os, ch4.tape.trans gr.tape, ch4.output.trans gr.output, Nat.le_trans gr.size ch4.size, fun k hk hb hg => (ch4.block k (Nat.lt_of_lt_of_le hk gr.size) hb hg).trans (gr.block k hk (fun e => hg (Option.some.inj e))), Or.inl rfl⟩

theorem HS.grown {B : Nat} (h : HS base Bh g c l W) (hg : W.grownBy W' (some B)) (h1 : B ≠ Bh) (h2 : B ≠ g) : HS base Bh g c l W' :=
  ⟨(World.cell?_of_block (a := ⟨Bh, 0, none⟩) (hg.block Bh h.lt (fun e => h1 (Option.some.inj e).symm))).trans h.cell, (World.frozen?_of_block (a := ⟨Bh, 0, none⟩) (hg.block Bh h.lt (fun e => h1 (Option.some.inj e).symm))).trans h.free, h.buf.kept hg (Or.inr (fun e => h2 (Option.some.inj e).symm)), h.ne, h.lo, Nat.lt_of_lt_of_le h.lt hg.size⟩
theorem blk_block {B : Nat} {vs : List Value} (h : K0.Blk B vs W) (e : W'.heap[B]? = W.heap[B]?) (hs : W.heap.size ≤ W'.heap.size) : K0.Blk B vs W' :=
  ⟨fun j hj => (World.cell?_of_block (a := ⟨B, j, none⟩) e).trans (h.cell j hj), fun j hj => (World.frozen?_of_block (a := ⟨B, j, none⟩) e).trans (h.free j hj), Nat.lt_of_lt_of_le h.lt hs⟩

set_option maxHeartbeats 2000000 in
theorem least (m : Nat) (w : World) (h : HS base Bh g c l w) (hh : HeapN l l.length) (hm : l.length = m + 1) (hlen : l.length ≤ 1048576) :
    Calls Try.prog 48 #[.pointer (some ⟨Bh, 0, none⟩)] w fun e w' => ∃ (r : Rg) (l' : List Rg), e = .returned (.agg #[.int .i64 r.1, .int .i64 r.2]) ∧ r = at_ l 0 ∧ (r :: l').Perm l ∧ HS base Bh g c l' w' ∧ HeapN l' l'.length ∧ Chg Bh g g w w' := by
  have nl := K0.below_new w (.cells #[.int .i64 0, .int .i64 0] 66)
  have nb := K0.blk_new [.int .i64 0, .int .i64 0] w 66
  have hpp := heapPop m _ (h.below nl) hh hm hlen
  have hta := fun v W => asRange v W
  have HB1 : Hid (Bh < w.heap.size ∧ g < w.heap.size) := ⟨h.lt, h.glt.2⟩
  have hsz : (w.alloc (.cells #[.int .i64 0, .int .i64 0] 66)).heap.size = w.heap.size + 1 := by simp
  have HN : Hid (Below w.heap.size w (w.alloc (.cells #[.int .i64 0, .int .i64 0] 66))) := nl
  obtain ⟨B, hB⟩ : ∃ B, B = w.heap.size := ⟨_, rfl⟩
  clear h hh hm nl
  go_enter Try.func48, Try.ntmps48
  go_wp2_with (go_at_call 67; refine hpp.mono ?_; rintro e w4 ⟨r, l', rfl, hr, hp, hs, hh, ch⟩; have k4 := blk_block nb (ch.block w.heap.size (by omega) (by have := HB1.out; omega) (by have := HB1.out; omega)) ch.size; have z0 := k4.cell 0 (by simp); have z1 := k4.cell 1 (by simp); have f0 := k4.free 0 (by simp); have f1 := k4.free 1 (by simp); have g5 := M0.grown_set (j := 1) (M0.grown_set (j := 0) (M0.grown_refl w4 (some w.heap.size)) (.int .i64 r.1)) (.int .i64 r.2); have HH : Hid (r = at_ l 0 ∧ (r :: l').Perm l ∧ HS base Bh g c l' w4 ∧ HeapN l' l'.length ∧ Chg Bh g g (w.alloc (.cells #[.int .i64 0, .int .i64 0] 66)) w4) := ⟨hr, hp, hs, hh, ch⟩; clear hr hp hs hh ch k4)
  have y1 : ((w4.setCell ⟨w.heap.size, 0, none⟩ (.int .i64 r.1)).setCell ⟨w.heap.size, 1, none⟩ (.int .i64 r.2)).cell? ⟨w.heap.size, 1, none⟩ = some (.int .i64 r.2) := World.cell?_setCell_same _ _ _ ((World.cell?_setCell_other _ _ _ _ (by simp)).trans z1)
  have y0 : ((w4.setCell ⟨w.heap.size, 0, none⟩ (.int .i64 r.1)).setCell ⟨w.heap.size, 1, none⟩ (.int .i64 r.2)).cell? ⟨w.heap.size, 0, none⟩ = some (.int .i64 r.1) := (World.cell?_setCell_other _ _ _ _ (by simp)).trans (World.cell?_setCell_same _ _ _ z0)
  refine bodyPost_ret (v := .agg #[.int .i64 r.1, .int .i64 r.2]) (by simp [results, Try.results48, go_sem, y0, y1]) rfl ?_
  obtain ⟨hr, hp, hs, hh, ch⟩ := HH.out
  obtain ⟨b1, b2⟩ := HB1.out
  refine ⟨r, l', rfl, hr, hp, hs.grown g5 (by omega) (by omega), hh, ?_⟩
  have nl := HN.out
  exact ⟨g5.os.trans (ch.os.trans nl.os), g5.tape.trans (ch.tape.trans nl.tape), g5.output.trans (ch.output.trans nl.output), Nat.le_trans nl.size (Nat.le_trans ch.size g5.size), fun k hk hb hg => (g5.block k (Nat.lt_of_lt_of_le hk (Nat.le_trans nl.size ch.size)) (fun e => by have := Option.some.inj e; omega)).trans ((ch.block k (by omega) hb hg).trans (nl.block k hk)), Or.inl rfl⟩
end Go.Proofs.Ytddlpejklpljoaa.HP

/- What the exact laws over loans keep: the law's own loan, boxed, and a copy of it. -/
namespace Go.Proofs.Ytddlpejklpljoaa.N12
open Go.ChangeShapes Go.WideShapes Go.ChangeAt Go.RowKit
set_option linter.unusedVariables false
set_option linter.unusedSimpArgs false
set_option maxRecDepth 10000

open N0 (Ln)
open N1 (Sl Lists Fit FitM LB lb_new)
open N4 (at3 Cp)

/-- The law's loan in its box. -/
structure A (w : World) (d : Ln) (s : Sl) (W : World) : Prop where
  b : LB w.heap.size d s W
  l : Lists W d s
  bel : Below w.heap.size w W

variable {w W W' : World} {d : Ln} {s : Sl} {g1 g2 g3 B : Nat}

theorem A.below (h : A w d s W) (hb : Below W.heap.size W W') : A w d s W' := ⟨h.b.below hb, h.l.below hb, h.bel.trans (hb.mono h.bel.size)⟩
theorem A.drew (h : A w d s W) : A w d s W.drew := h.below ((Below.refl _ _).drew)

theorem a_new (w : World) (d : Ln) (s : Sl) (h : Lists w d s) : A w d s (w.alloc (.cells #[.int .i64 d.ino, .int .i64 d.cl, .int .i64 d.un, .string d.rc, .slice s.a1 d.pg.length s.c1, .string d.sav, .slice s.a2 d.po.length s.c2, .slice s.a3 d.fr.length s.c3] 34)) :=
  ⟨lb_new d s w 34, h.alloc _, K0.below_new _ _⟩

/-- Beside it a copy of it, boxed. -/
structure U (w : World) (d : Ln) (s : Sl) (g1 g2 g3 B : Nat) (W : World) : Prop where
  t : A w d s W
  n : LB B d (at3 d g1 g2 g3) W
  cp : Cp w.heap.size d g1 g2 g3 W

theorem U.below (h : U w d s g1 g2 g3 B W) (hb : Below W.heap.size W W') : U w d s g1 g2 g3 B W' := ⟨h.t.below hb, h.n.below hb, h.cp.below hb⟩
theorem U.drew (h : U w d s g1 g2 g3 B W) : U w d s g1 g2 g3 B W.drew := h.below ((Below.refl _ _).drew)

theorem cp_mono {b b' : Nat} (h : Cp b d g1 g2 g3 W) (hb : b' ≤ b) : Cp b' d g1 g2 g3 W := ⟨Nat.le_trans hb h.h1, Nat.le_trans hb h.h2, Nat.le_trans hb h.h3, h.k1, h.k2, h.k3⟩

theorem u_new {b : Nat} (h : A w d s W) (hc : Cp b d g1 g2 g3 W) (hb : w.heap.size ≤ b) :
    U w d s g1 g2 g3 W.heap.size (W.alloc (.cells #[.int .i64 d.ino, .int .i64 d.cl, .int .i64 d.un, .string d.rc, .slice (at3 d g1 g2 g3).a1 d.pg.length (at3 d g1 g2 g3).c1, .string d.sav, .slice (at3 d g1 g2 g3).a2 d.po.length (at3 d g1 g2 g3).c2, .slice (at3 d g1 g2 g3).a3 d.fr.length (at3 d g1 g2 g3).c3] 37)) :=
  ⟨h.below (K0.below_new _ _), lb_new d (at3 d g1 g2 g3) W 37, (cp_mono hc hb).below (K0.below_new _ _)⟩

theorem sizes (h : N3.total d ≤ 1048576) : d.pg.length ≤ 1048576 ∧ d.po.length ≤ 1048576 ∧ d.fr.length ≤ 1048576 ∧ d.rc.size ≤ 1048576 ∧ d.sav.size ≤ 1048576 := by
  unfold N3.total at h
  omega

theorem fitc (h : N3.total d ≤ 1048576) : Fit d (at3 d g1 g2 g3) := by
  have := sizes h
  exact ⟨Nat.le_refl _, by show d.pg.length ≤ _; omega, Nat.le_refl _, by show d.po.length ≤ _; omega, Nat.le_refl _, by show d.fr.length ≤ _; omega, by omega, by omega⟩
end Go.Proofs.Ytddlpejklpljoaa.N12

/- What Undo makes of a memory; contracts of spec.Undo and impl.Undo, as the given laws call them. -/
namespace Go.Proofs.Ytddlpejklpljoaa.N13
open Go.ChangeShapes Go.WideShapes Go.ChangeAt Go.RowKit
set_option linter.unusedVariables false
set_option linter.unusedSimpArgs false
set_option maxRecDepth 10000

open N0 (Ln)
open N1 (Sl Lists Fit LB lb_new)

/-- The lent pages as they were, one behind the other. -/
def uPg (d : Ln) (m : ByteArray) : Nat → ByteArray
  | 0 => m
  | k + 1 => B5.laid (uPg d m k) (d.pg.getD k 0 * 32) (B2.part d.sav ((k : Int) * 32) 32)

/-- The fresh records as zeros. -/
def uFr (d : Ln) (m : ByteArray) : Nat → ByteArray
  | 0 => m
  | k + 1 => B5.laid (uFr d m k) (L1.recAt (d.fr.getD k 0)) (B4.zeros 16)

def undone (mem : ByteArray) (d : Ln) : ByteArray := uFr d (uPg d (B5.laid mem (L1.recAt d.ino) d.rc) d.pg.length) d.fr.length

/-- What Undo answers. -/
def undo (mem : ByteArray) (d : Ln) : ByteArray := if N0.loanOk d = true ∧ mem.size = 768 then undone mem d else mem

theorem laid_size (s : ByteArray) (i : Int) (t : ByteArray) : (B5.laid s i t).size = s.size := by
  unfold B5.laid
  split
  · rename_i h
    obtain ⟨h1, h2, h3⟩ := B2.lies_true h
    simp only [ByteArray.size_append, ByteArray.size_extract]
    omega
  · rfl

theorem uPg_size (d : Ln) (m : ByteArray) : ∀ k, (uPg d m k).size = m.size
  | 0 => rfl
  | k + 1 => by rw [uPg, laid_size, uPg_size d m k]
theorem uFr_size (d : Ln) (m : ByteArray) : ∀ k, (uFr d m k).size = m.size
  | 0 => rfl
  | k + 1 => by rw [uFr, laid_size, uFr_size d m k]

theorem zeros_le : (B4.zeros 16).size ≤ 281474976710656 := by
  unfold B4.zeros
  split
  · rw [B4.nulls_size]; decide
  · exact Nat.zero_le _

/-- The boxed loan. -/
structure Bx (w : World) (d : Ln) (s : Sl) (W : World) : Prop where
  arg : LB w.heap.size d s W
  bel : Below w.heap.size w W

variable {w W W' : World} {d : Ln} {s : Sl}
theorem Bx.below (h : Bx w d s W) (hb : Below W.heap.size W W') : Bx w d s W' := ⟨h.arg.below hb, h.bel.trans (hb.mono h.bel.size)⟩
theorem Bx.drewN (h : Bx w d s W) (m : Nat) : Bx w d s (W.drewN m) := ⟨⟨h.arg.b.drewN m⟩, K0.below_drewN h.bel m⟩
theorem bx_new (w : World) (d : Ln) (s : Sl) : Bx w d s (N10.w0 w d s) := ⟨lb_new d s w 37, K0.below_new _ _⟩

theorem l03Page0 (mem : ByteArray) (k : Nat) (w : World) (hs : mem.size ≤ 281474976710656) (hk : k ≤ 100) :
    Calls Try.prog 52 #[.string mem, .int .i64 (k : Int)] w fun e w' => e = .returned (.string (B2.part mem ((k : Int) * 32) 32)) ∧ w' = w := by
  have hm : mem.size ≤ maxLen := by unfold maxLen; omega
  have hw : IntKind.i64.wrap ((k : Int) * 32) = (k : Int) * 32 := by rw [IntKind.wrap_i64]; omega
  have hpt := B2.spec_Part mem ((k : Int) * 32) 32 w hm (N11.wf_of _ (by omega) (by omega)) (by decide)
  go_enter Try.func52, Try.ntmps52
  go_wp2_with (go_at_call 27; refine hpt.mono ?_; rintro e w' ⟨rfl, rfl⟩)
  go_ret
  exact ⟨rfl, rfl⟩

end Go.Proofs.Ytddlpejklpljoaa.N13

/- What Ranges answers; contracts of spec.Ranges and impl.Ranges, as the given laws call them. -/
namespace Go.Proofs.Ytddlpejklpljoaa.R6
open Go.ChangeShapes Go.WideShapes Go.ChangeAt Go.RowKit
set_option linter.unusedVariables false
set_option linter.unusedSimpArgs false
set_option maxRecDepth 10000

open N0 (Ln)
open N1 (Sl Lists Fit LB lb_new)
open N13 (Bx bx_new)
open R5 (RBuf)

/-- The ranges of the first pages, and of the first records. -/
def rP (zs : List Int) (k : Nat) : List Int := (zs.take k).flatMap fun p => [p * 32, 32]
def rF (zs : List Int) (k : Nat) : List Int := (zs.take k).flatMap fun f => [L1.recAt f, 16]

/-- What Ranges answers, and how many. -/
def rg (d : Ln) : List Int := if N0.loanOk d then [L1.recAt d.ino, 16] ++ rP d.pg d.pg.length ++ rP d.po d.po.length ++ rF d.fr d.fr.length else []
def nR (d : Ln) : Nat := if N0.loanOk d then 1 + d.pg.length + d.po.length + d.fr.length else 0

theorem rP_succ (zs : List Int) (k : Nat) (h : k < zs.length) : rP zs (k + 1) = rP zs k ++ [zs.getD k 0 * 32, 32] := by
  unfold rP
  rw [List.take_succ_eq_append_getElem h, List.flatMap_append, P0.getD_get _ _ h]
  simp
theorem rF_succ (zs : List Int) (k : Nat) (h : k < zs.length) : rF zs (k + 1) = rF zs k ++ [L1.recAt (zs.getD k 0), 16] := by
  unfold rF
  rw [List.take_succ_eq_append_getElem h, List.flatMap_append, P0.getD_get _ _ h]
  simp

/-- What both answer. -/
def Ans (d : Ln) (w : World) (e : Ending) (w' : World) : Prop := ∃ a c, e = .returned (.slice a (nR d) c) ∧ (rg d).length = nR d * 2 ∧ nR d ≤ c ∧ J0.Own w.heap.size w' a (rg d) ∧ Below w.heap.size w w'

theorem ans_no {d : Ln} {w w' : World} {a : Option Addr} {c : Nat} (h : N0.loanOk d = false) (hb : Below w.heap.size w w') : Ans d w (.returned (.slice a 0 c)) w' := by
  have e1 : rg d = [] := by rw [rg, h]; rfl
  have e2 : nR d = 0 := by rw [nR, h]; rfl
  exact ⟨a, c, by rw [e2], by rw [e1, e2]; rfl, by rw [e2]; exact Nat.zero_le _, by rw [e1]; exact Or.inl rfl, hb⟩

theorem ans_yes {d : Ln} {w w' : World} {a : Option Addr} {n c : Nat} {zs : List Int} (h : N0.loanOk d = true) (hn : n = 1 + d.pg.length + d.po.length + d.fr.length) (hz : zs = [L1.recAt d.ino, 16] ++ rP d.pg d.pg.length ++ rP d.po d.po.length ++ rF d.fr d.fr.length) (hbuf : RBuf (w.heap.size + 1) w' a n c zs) (hb : Below w.heap.size w w') : Ans d w (.returned (.slice a n c)) w' := by
  have e1 : rg d = zs := by rw [rg, h, hz]; rfl
  have e2 : nR d = n := by rw [nR, h, hn]; rfl
  exact ⟨a, c, by rw [e2], by rw [e1, e2]; exact hbuf.1, by rw [e2]; exact hbuf.fits, by rw [e1]; exact hbuf.own.mono (by omega), hb⟩

theorem bx_keep {w W W' : World} {d : Ln} {s : Sl} (h : Bx w d s W) (hb : Below (w.heap.size + 1) W W') : Bx w d s W' :=
  ⟨⟨J0.blk_keep h.arg.b hb (by omega)⟩, h.bel.trans (hb.mono (by omega))⟩

theorem bx_size {w W : World} {d : Ln} {s : Sl} (h : Bx w d s W) : w.heap.size + 1 ≤ W.heap.size := h.arg.b.lt

set_option maxHeartbeats 4000000 in
theorem impl_Ranges (d : Ln) (s : Sl) (w : World) (hF : Fit d s) (hpo : d.po.length ≤ 1048576) (hfr : d.fr.length ≤ 1048576) (hR : Lists w d s) : Calls Try.prog 45 #[N1.val d s] w (Ans d w) := by
  have x0 := bx_new w d s
  have HL : Hid (∀ W, Below w.heap.size w W → Lists W d s) := fun W hb => hR.below hb
  have HO : Hid (∀ W, Below w.heap.size w W → Calls Try.prog 64 #[N1.val d s] W fun e w' => e = .returned (.bool (N0.loanOk d)) ∧ Below W.heap.size W w') := fun W hb => N10.impl_LoanOk d s W hF hpo hfr (hR.below hb)
  have HN : Hid (∀ a c w', N0.loanOk d = false → Below w.heap.size w w' → Ans d w (.returned (.slice a 0 c)) w') := fun a c w' h hb => ans_no h hb
  have HY : Hid (∀ a n c zs w', N0.loanOk d = true → n = 1 + d.pg.length + d.po.length + d.fr.length → zs = [L1.recAt d.ino, 16] ++ rP d.pg d.pg.length ++ rP d.po d.po.length ++ rF d.fr d.fr.length → RBuf (w.heap.size + 1) w' a n c zs → Below w.heap.size w w' → Ans d w (.returned (.slice a n c)) w') := fun a n c zs w' h hn hz hbuf hb => ans_yes h hn hz hbuf hb
  obtain ⟨R, hR'⟩ : ∃ R, Ans d w = R := ⟨_, rfl⟩
  rw [hR'] at HN HY ⊢
  clear hR hR' hF
  cases hok : N0.loanOk d with
  | false =>
    rw [hok] at HO
    have hok' := hok
    clear hok
    go_enter Try.func45, Try.ntmps45
    go_wp2_with (go_at_call 64; refine (HO.out _ x0.bel).mono ?_; rintro e w1 ⟨rfl, b1⟩; have x1 := x0.below b1)
    exact HN.out _ _ _ hok' (x1.bel.alloc x1.bel.size _)
  | true =>
    rw [hok] at HO
    obtain ⟨-, -, -, -, -, -, hp6, hp4, hf2, hpp, -, -, -⟩ := N0.loanOk_is hok
    have hpg : ∀ j, j < d.pg.length → 5 ≤ d.pg.getD j 0 ∧ d.pg.getD j 0 ≤ 23 := fun j hj => (N0.pagesOk_iff.1 hpp).1 _ (List.mem_append.2 (Or.inl (N0.getD_mem hj)))
    have hpq : ∀ j, j < d.po.length → 5 ≤ d.po.getD j 0 ∧ d.po.getD j 0 ≤ 23 := fun j hj => (N0.pagesOk_iff.1 hpp).1 _ (List.mem_append.2 (Or.inr (N0.getD_mem hj)))
    have HOK : Hid (N0.loanOk d = true) := hok
    clear hok hpp
    go_enter Try.func45, Try.ntmps45
    go_wp2_with (first
      | (go_at_call 64; refine (HO.out _ x0.bel).mono ?_; rintro e w1 ⟨rfl, b1⟩; have x1 := x0.below b1; have c0 := x1.arg.c0; have x2 := x1.below (K0.below_new w1 (.cells #[.int .i64 (L1.recAt d.ino), .int .i64 16] 66)); have c4 := x2.arg.c4; have bf2 : RBuf (w.heap.size + 1) (w1.alloc (.cells #[.int .i64 (L1.recAt d.ino), .int .i64 16] 66)) (some ⟨w1.heap.size, 0, none⟩) 1 1 [L1.recAt d.ino, 16] := R5.rbuf_one w1 _ _ (bx_size x1))
      | (go_at_call 65; refine (L1.impl_RecAt _ _).mono ?_; rintro e wq ⟨rfl, rfl⟩))
    obtain ⟨p0, hp0⟩ : ∃ p0, [L1.recAt d.ino, 16] = p0 := ⟨_, rfl⟩
    have HP0 : Hid ([L1.recAt d.ino, 16] = p0) := hp0
    rw [hp0] at bf2
    clear hp0 c0 c4 x0 x1 b1
    go_loopw [3, 22] (fun v i w' => ∃ (k0 c : Nat) (a : Option Addr), k0 ≤ d.pg.length ∧ i = .int .i64 k0 ∧ v = .slice a (1 + k0) c ∧ RBuf (w.heap.size + 1) w' a (1 + k0) c (p0 ++ rP d.pg k0) ∧ Bx w d s w') (fun _ i _ => d.pg.length - (intOf i).toNat)
    case atStart => exact ⟨0, _, _, Nat.zero_le _, rfl, rfl, by rw [show p0 ++ rP d.pg 0 = p0 by simp [rP]]; exact bf2, x2⟩
    case round =>
      obtain ⟨k0, cq0, aq0, hk0, rfl, rfl, bf0, xr0⟩ := hrel
      clear bf2 x2
      have cc0 := xr0.arg.c4
      by_cases hlt : k0 < d.pg.length
      · obtain ⟨b, off, hab, _, hcell⟩ := (HL.out _ xr0.bel).r1.get hlt
        have y1 := hcell k0 hlt
        have hz := hpg k0 hlt
        have HS : Hid (p0 ++ rP d.pg k0 ++ [d.pg.getD k0 0 * 32, 32] = p0 ++ rP d.pg (k0 + 1)) := by show _ = _; rw [List.append_assoc, ← rP_succ _ _ hlt]
        obtain ⟨z, ez⟩ : ∃ z, d.pg.getD k0 0 = z := ⟨_, rfl⟩
        rw [ez] at y1 HS hz
        rw [hab]
        have e1 : (0 : Int) ≤ (k0 : Int) := by omega
        have e2 : (k0 : Int) < (d.pg.length : Int) := by omega
        have hsz := bx_size xr0
        clear ez hcell
        go_wp2_with (at_builtin; refine R5.append_rng rfl (.tmp 26) (.tmp 30) rfl bf0 _ _ (by rfl) (by rfl) (by omega) hsz ?_; intro g5 cap5 w5 bf5 bel5)
        go_roundw
        case rel => exact ⟨k0 + 1, cap5, _, by omega, by go_num, by rw [Nat.add_assoc], by rw [← HS.out, ← Nat.add_assoc]; exact bf5, bx_keep xr0 bel5⟩
        case measure => simp [intOf]; omega
      · obtain rfl : k0 = d.pg.length := by omega
        have d0 := xr0.arg.c6
        go_wp2
        go_loopw [3, 36] (fun v i w' => ∃ (k1 c : Nat) (a : Option Addr), k1 ≤ d.po.length ∧ i = .int .i64 k1 ∧ v = .slice a ((1 + d.pg.length) + k1) c ∧ RBuf (w.heap.size + 1) w' a ((1 + d.pg.length) + k1) c ((p0 ++ rP d.pg d.pg.length) ++ rP d.po k1) ∧ Bx w d s w') (fun _ i _ => d.po.length - (intOf i).toNat)
        case atStart => exact ⟨0, _, _, Nat.zero_le _, rfl, rfl, by rw [show (p0 ++ rP d.pg d.pg.length) ++ rP d.po 0 = (p0 ++ rP d.pg d.pg.length) by simp [rP]]; exact bf0, xr0⟩
        case round =>
          rename_i wr2
          obtain ⟨k1, cq1, aq1, hk1, rfl, rfl, bf1, xr1⟩ := hrel
          skip
          have cc1 := xr1.arg.c6
          by_cases hlt : k1 < d.po.length
          · obtain ⟨b, off, hab, _, hcell⟩ := (HL.out _ xr1.bel).r2.get hlt
            have y1 := hcell k1 hlt
            have hz := hpq k1 hlt
            have HS : Hid ((p0 ++ rP d.pg d.pg.length) ++ rP d.po k1 ++ [d.po.getD k1 0 * 32, 32] = (p0 ++ rP d.pg d.pg.length) ++ rP d.po (k1 + 1)) := by show _ = _; rw [List.append_assoc, ← rP_succ _ _ hlt]
            obtain ⟨z, ez⟩ : ∃ z, d.po.getD k1 0 = z := ⟨_, rfl⟩
            rw [ez] at y1 HS hz
            rw [hab]
            have e1 : (0 : Int) ≤ (k1 : Int) := by omega
            have e2 : (k1 : Int) < (d.po.length : Int) := by omega
            have hsz := bx_size xr1
            clear ez hcell
            go_wp2_with (at_builtin; refine R5.append_rng rfl (.tmp 40) (.tmp 44) rfl bf1 _ _ (by rfl) (by rfl) (by omega) hsz ?_; intro g5 cap5 w5 bf5 bel5)
            go_roundw
            case rel => exact ⟨k1 + 1, cap5, _, by omega, by go_num, by rw [Nat.add_assoc], by rw [← HS.out, ← Nat.add_assoc]; exact bf5, bx_keep xr1 bel5⟩
            case measure => simp [intOf]; omega
          · obtain rfl : k1 = d.po.length := by omega
            have d1 := xr1.arg.c7
            go_wp2
            go_loopw [3, 50] (fun v i w' => ∃ (k2 c : Nat) (a : Option Addr), k2 ≤ d.fr.length ∧ i = .int .i64 k2 ∧ v = .slice a (((1 + d.pg.length) + d.po.length) + k2) c ∧ RBuf (w.heap.size + 1) w' a (((1 + d.pg.length) + d.po.length) + k2) c (((p0 ++ rP d.pg d.pg.length) ++ rP d.po d.po.length) ++ rF d.fr k2) ∧ Bx w d s w') (fun _ i _ => d.fr.length - (intOf i).toNat)
            case atStart => exact ⟨0, _, _, Nat.zero_le _, rfl, rfl, by rw [show ((p0 ++ rP d.pg d.pg.length) ++ rP d.po d.po.length) ++ rF d.fr 0 = ((p0 ++ rP d.pg d.pg.length) ++ rP d.po d.po.length) by simp [rF]]; exact bf1, xr1⟩
            case round =>
              rename_i wr3
              obtain ⟨k2, cq2, aq2, hk2, rfl, rfl, bf2, xr2⟩ := hrel
              skip
              have cc2 := xr2.arg.c7
              by_cases hlt : k2 < d.fr.length
              · obtain ⟨b, off, hab, _, hcell⟩ := (HL.out _ xr2.bel).r3.get hlt
                have y1 := hcell k2 hlt
                have HS : Hid (((p0 ++ rP d.pg d.pg.length) ++ rP d.po d.po.length) ++ rF d.fr k2 ++ [L1.recAt (d.fr.getD k2 0), 16] = ((p0 ++ rP d.pg d.pg.length) ++ rP d.po d.po.length) ++ rF d.fr (k2 + 1)) := by show _ = _; rw [List.append_assoc, ← rF_succ _ _ hlt]
                obtain ⟨z, ez⟩ : ∃ z, d.fr.getD k2 0 = z := ⟨_, rfl⟩
                rw [ez] at y1 HS
                rw [hab]
                have e1 : (0 : Int) ≤ (k2 : Int) := by omega
                have e2 : (k2 : Int) < (d.fr.length : Int) := by omega
                have hsz := bx_size xr2
                clear ez hcell
                go_wp2_with (first
                  | (go_at_call 65; refine (L1.impl_RecAt _ _).mono ?_; rintro e wq ⟨rfl, rfl⟩)
                  | (at_builtin; refine R5.append_rng rfl (.tmp 54) (.tmp 58) rfl bf2 _ _ (by rfl) (by rfl) (by omega) hsz ?_; intro g5 cap5 w5 bf5 bel5))
                go_roundw
                case rel => exact ⟨k2 + 1, cap5, _, by omega, by go_num, by rw [Nat.add_assoc], by rw [← HS.out, ← Nat.add_assoc]; exact bf5, bx_keep xr2 bel5⟩
                case measure => simp [intOf]; omega
              · obtain rfl : k2 = d.fr.length := by omega
                go_wp2
                refine HY.out _ _ _ _ _ HOK.out rfl ?_ bf2 xr2.bel
                rw [HP0.out]

set_option maxHeartbeats 4000000 in
theorem spec_Ranges (d : Ln) (s : Sl) (w : World) (hF : Fit d s) (hpo : d.po.length ≤ 1048576) (hfr : d.fr.length ≤ 1048576) (hR : Lists w d s) : Calls Try.prog 42 #[N1.val d s] w (Ans d w) := by
  have x0 := bx_new w d s
  have HL : Hid (∀ W, Below w.heap.size w W → Lists W d s) := fun W hb => hR.below hb
  have HO : Hid (∀ W, Below w.heap.size w W → Calls Try.prog 62 #[N1.val d s] W fun e w' => e = .returned (.bool (N0.loanOk d)) ∧ Below W.heap.size W w') := fun W hb => N11.spec_LoanOk d s W hF hpo hfr (hR.below hb)
  have HN : Hid (∀ a c w', N0.loanOk d = false → Below w.heap.size w w' → Ans d w (.returned (.slice a 0 c)) w') := fun a c w' h hb => ans_no h hb
  have HY : Hid (∀ a n c zs w', N0.loanOk d = true → n = 1 + d.pg.length + d.po.length + d.fr.length → zs = [L1.recAt d.ino, 16] ++ rP d.pg d.pg.length ++ rP d.po d.po.length ++ rF d.fr d.fr.length → RBuf (w.heap.size + 1) w' a n c zs → Below w.heap.size w w' → Ans d w (.returned (.slice a n c)) w') := fun a n c zs w' h hn hz hbuf hb => ans_yes h hn hz hbuf hb
  obtain ⟨R, hR'⟩ : ∃ R, Ans d w = R := ⟨_, rfl⟩
  rw [hR'] at HN HY ⊢
  clear hR hR' hF
  cases hok : N0.loanOk d with
  | false =>
    rw [hok] at HO
    have hok' := hok
    clear hok
    go_enter Try.func42, Try.ntmps42
    go_wp2_with (go_at_call 62; refine (HO.out _ x0.bel).mono ?_; rintro e w1 ⟨rfl, b1⟩; have x1 := x0.below b1)
    exact HN.out _ _ _ hok' (x1.bel.alloc x1.bel.size _)
  | true =>
    rw [hok] at HO
    obtain ⟨-, -, -, -, -, -, hp6, hp4, hf2, hpp, -, -, -⟩ := N0.loanOk_is hok
    have hpg : ∀ j, j < d.pg.length → 5 ≤ d.pg.getD j 0 ∧ d.pg.getD j 0 ≤ 23 := fun j hj => (N0.pagesOk_iff.1 hpp).1 _ (List.mem_append.2 (Or.inl (N0.getD_mem hj)))
    have hpq : ∀ j, j < d.po.length → 5 ≤ d.po.getD j 0 ∧ d.po.getD j 0 ≤ 23 := fun j hj => (N0.pagesOk_iff.1 hpp).1 _ (List.mem_append.2 (Or.inr (N0.getD_mem hj)))
    have HOK : Hid (N0.loanOk d = true) := hok
    clear hok hpp
    go_enter Try.func42, Try.ntmps42
    go_wp2_with (first
      | (go_at_call 62; refine (HO.out _ x0.bel).mono ?_; rintro e w1 ⟨rfl, b1⟩; have x1 := x0.below b1; have c0 := x1.arg.c0; have x2 := x1.below (K0.below_new w1 (.cells #[.int .i64 (L1.recAt d.ino), .int .i64 16] 66)); have c4 := x2.arg.c4; have bf2 : RBuf (w.heap.size + 1) (w1.alloc (.cells #[.int .i64 (L1.recAt d.ino), .int .i64 16] 66)) (some ⟨w1.heap.size, 0, none⟩) 1 1 [L1.recAt d.ino, 16] := R5.rbuf_one w1 _ _ (bx_size x1))
      | (go_at_call 63; refine (L1.spec_RecAt _ _).mono ?_; rintro e wq ⟨rfl, rfl⟩))
    obtain ⟨p0, hp0⟩ : ∃ p0, [L1.recAt d.ino, 16] = p0 := ⟨_, rfl⟩
    have HP0 : Hid ([L1.recAt d.ino, 16] = p0) := hp0
    rw [hp0] at bf2
    clear hp0 c0 c4 x0 x1 b1
    go_loopw [3, 4] (fun v i w' => ∃ (k0 c : Nat) (a : Option Addr), k0 ≤ d.pg.length ∧ i = .int .i64 k0 ∧ v = .slice a (1 + k0) c ∧ RBuf (w.heap.size + 1) w' a (1 + k0) c (p0 ++ rP d.pg k0) ∧ Bx w d s w') (fun _ i _ => d.pg.length - (intOf i).toNat)
    case atStart => exact ⟨0, _, _, Nat.zero_le _, rfl, rfl, by rw [show p0 ++ rP d.pg 0 = p0 by simp [rP]]; exact bf2, x2⟩
    case round =>
      obtain ⟨k0, cq0, aq0, hk0, rfl, rfl, bf0, xr0⟩ := hrel
      clear bf2 x2
      have cc0 := xr0.arg.c4
      by_cases hlt : k0 < d.pg.length
      · obtain ⟨b, off, hab, _, hcell⟩ := (HL.out _ xr0.bel).r1.get hlt
        have y1 := hcell k0 hlt
        have hz := hpg k0 hlt
        have HS : Hid (p0 ++ rP d.pg k0 ++ [d.pg.getD k0 0 * 32, 32] = p0 ++ rP d.pg (k0 + 1)) := by show _ = _; rw [List.append_assoc, ← rP_succ _ _ hlt]
        obtain ⟨z, ez⟩ : ∃ z, d.pg.getD k0 0 = z := ⟨_, rfl⟩
        rw [ez] at y1 HS hz
        rw [hab] at cc0
        clear hab
        have e1 : (0 : Int) ≤ (k0 : Int) := by omega
        have e2 : (k0 : Int) < (d.pg.length : Int) := by omega
        have hsz := bx_size xr0
        clear ez hcell
        go_wp2_with (at_builtin; refine R5.append_rng rfl (.tmp 23) (.tmp 31) rfl bf0 _ _ (by rfl) (by rfl) (by omega) hsz ?_; intro g5 cap5 w5 bf5 bel5)
        go_roundw
        case rel => exact ⟨k0 + 1, cap5, _, by omega, by go_num, by rw [Nat.add_assoc], by rw [← HS.out, ← Nat.add_assoc]; exact bf5, bx_keep xr0 bel5⟩
        case measure => simp [intOf]; omega
      · obtain rfl : k0 = d.pg.length := by omega
        have e9 : decide ((d.pg.length : Int) < (d.pg.length : Int)) = false := by simp
        have d0 := xr0.arg.c6
        go_wp2
        go_loopw [3, 5] (fun v i w' => ∃ (k1 c : Nat) (a : Option Addr), k1 ≤ d.po.length ∧ i = .int .i64 k1 ∧ v = .slice a ((1 + d.pg.length) + k1) c ∧ RBuf (w.heap.size + 1) w' a ((1 + d.pg.length) + k1) c ((p0 ++ rP d.pg d.pg.length) ++ rP d.po k1) ∧ Bx w d s w') (fun _ i _ => d.po.length - (intOf i).toNat)
        case atStart => exact ⟨0, _, _, Nat.zero_le _, rfl, rfl, by rw [show (p0 ++ rP d.pg d.pg.length) ++ rP d.po 0 = (p0 ++ rP d.pg d.pg.length) by simp [rP]]; exact bf0, xr0⟩
        case round =>
          rename_i wr2
          obtain ⟨k1, cq1, aq1, hk1, rfl, rfl, bf1, xr1⟩ := hrel
          skip
          have cc1 := xr1.arg.c6
          by_cases hlt : k1 < d.po.length
          · obtain ⟨b, off, hab, _, hcell⟩ := (HL.out _ xr1.bel).r2.get hlt
            have y1 := hcell k1 hlt
            have hz := hpq k1 hlt
            have HS : Hid ((p0 ++ rP d.pg d.pg.length) ++ rP d.po k1 ++ [d.po.getD k1 0 * 32, 32] = (p0 ++ rP d.pg d.pg.length) ++ rP d.po (k1 + 1)) := by show _ = _; rw [List.append_assoc, ← rP_succ _ _ hlt]
            obtain ⟨z, ez⟩ : ∃ z, d.po.getD k1 0 = z := ⟨_, rfl⟩
            rw [ez] at y1 HS hz
            rw [hab] at cc1
            clear hab
            have e1 : (0 : Int) ≤ (k1 : Int) := by omega
            have e2 : (k1 : Int) < (d.po.length : Int) := by omega
            have hsz := bx_size xr1
            clear ez hcell
            go_wp2_with (at_builtin; refine R5.append_rng rfl (.tmp 40) (.tmp 48) rfl bf1 _ _ (by rfl) (by rfl) (by omega) hsz ?_; intro g5 cap5 w5 bf5 bel5)
            go_roundw
            case rel => exact ⟨k1 + 1, cap5, _, by omega, by go_num, by rw [Nat.add_assoc], by rw [← HS.out, ← Nat.add_assoc]; exact bf5, bx_keep xr1 bel5⟩
            case measure => simp [intOf]; omega
          · obtain rfl : k1 = d.po.length := by omega
            have e9 : decide ((d.po.length : Int) < (d.po.length : Int)) = false := by simp
            have d1 := xr1.arg.c7
            go_wp2
            go_loopw [3, 6] (fun v i w' => ∃ (k2 c : Nat) (a : Option Addr), k2 ≤ d.fr.length ∧ i = .int .i64 k2 ∧ v = .slice a (((1 + d.pg.length) + d.po.length) + k2) c ∧ RBuf (w.heap.size + 1) w' a (((1 + d.pg.length) + d.po.length) + k2) c (((p0 ++ rP d.pg d.pg.length) ++ rP d.po d.po.length) ++ rF d.fr k2) ∧ Bx w d s w') (fun _ i _ => d.fr.length - (intOf i).toNat)
            case atStart => exact ⟨0, _, _, Nat.zero_le _, rfl, rfl, by rw [show ((p0 ++ rP d.pg d.pg.length) ++ rP d.po d.po.length) ++ rF d.fr 0 = ((p0 ++ rP d.pg d.pg.length) ++ rP d.po d.po.length) by simp [rF]]; exact bf1, xr1⟩
            case round =>
              rename_i wr3
              obtain ⟨k2, cq2, aq2, hk2, rfl, rfl, bf2, xr2⟩ := hrel
              skip
              have cc2 := xr2.arg.c7
              by_cases hlt : k2 < d.fr.length
              · obtain ⟨b, off, hab, _, hcell⟩ := (HL.out _ xr2.bel).r3.get hlt
                have y1 := hcell k2 hlt
                have HS : Hid (((p0 ++ rP d.pg d.pg.length) ++ rP d.po d.po.length) ++ rF d.fr k2 ++ [L1.recAt (d.fr.getD k2 0), 16] = ((p0 ++ rP d.pg d.pg.length) ++ rP d.po d.po.length) ++ rF d.fr (k2 + 1)) := by show _ = _; rw [List.append_assoc, ← rF_succ _ _ hlt]
                obtain ⟨z, ez⟩ : ∃ z, d.fr.getD k2 0 = z := ⟨_, rfl⟩
                rw [ez] at y1 HS
                rw [hab] at cc2
                clear hab
                have e1 : (0 : Int) ≤ (k2 : Int) := by omega
                have e2 : (k2 : Int) < (d.fr.length : Int) := by omega
                have hsz := bx_size xr2
                clear ez hcell
                go_wp2_with (first
                  | (go_at_call 63; refine (L1.spec_RecAt _ _).mono ?_; rintro e wq ⟨rfl, rfl⟩)
                  | (at_builtin; refine R5.append_rng rfl (.tmp 57) (.tmp 65) rfl bf2 _ _ (by rfl) (by rfl) (by omega) hsz ?_; intro g5 cap5 w5 bf5 bel5))
                go_roundw
                case rel => exact ⟨k2 + 1, cap5, _, by omega, by go_num, by rw [Nat.add_assoc], by rw [← HS.out, ← Nat.add_assoc]; exact bf5, bx_keep xr2 bel5⟩
                case measure => simp [intOf]; omega
              · obtain rfl : k2 = d.fr.length := by omega
                have e9 : decide ((d.fr.length : Int) < (d.fr.length : Int)) = false := by simp
                go_wp2
                refine HY.out _ _ _ _ _ HOK.out rfl ?_ bf2 xr2.bel
                rw [HP0.out]
end Go.Proofs.Ytddlpejklpljoaa.R6

/- The ranges of a loan as pairs; whether a stretch lies within them. -/
namespace Go.Proofs.Ytddlpejklpljoaa.WI
open Go.ChangeShapes Go.WideShapes Go.ChangeAt Go.RowKit
set_option linter.unusedVariables false
set_option linter.unusedSimpArgs false
set_option maxRecDepth 10000
open N0 (Ln)
open HP (Rg at_ cov covAll cov_iff covAll_iff)
open I2 (ints)

def fl : List Rg → List Int
  | [] => []
  | r :: t => r.1 :: r.2 :: fl t
theorem fl_append : ∀ l m : List Rg, fl (l ++ m) = fl l ++ fl m
  | [], m => rfl
  | r :: t, m => by simp [fl, fl_append t m]
theorem fl_map (f : Int → Rg) : ∀ zs : List Int, fl (zs.map f) = zs.flatMap fun z => [(f z).1, (f z).2]
  | [] => rfl
  | z :: t => by simp [fl, fl_map f t]
theorem fl_get : ∀ (l : List Rg) (i : Nat), i < l.length → (fl l)[i * 2]? = some (at_ l i).1 ∧ (fl l)[i * 2 + 1]? = some (at_ l i).2
  | [], i, h => by simp at h
  | r :: t, 0, _ => by simp [fl, at_]
  | r :: t, i + 1, h => by
    have := fl_get t i (by simpa using h)
    have e : at_ (r :: t) (i + 1) = at_ t i := by simp [at_]
    rw [e, show (i + 1) * 2 = i * 2 + 1 + 1 by omega, show i * 2 + 1 + 1 + 1 = (i * 2 + 1) + 1 + 1 by omega]
    simpa [fl] using this
theorem fl_length : ∀ l : List Rg, (fl l).length = l.length * 2
  | [] => rfl
  | r :: t => by simp [fl, fl_length t]; omega

def rl (d : Ln) : List Rg := if N0.loanOk d then [(L1.recAt d.ino, 16)] ++ d.pg.map (fun p => (p * 32, 32)) ++ d.po.map (fun p => (p * 32, 32)) ++ d.fr.map (fun f => (L1.recAt f, 16)) else []
theorem rl_fl (d : Ln) : fl (rl d) = R6.rg d := by
  unfold rl R6.rg
  split
  · rw [fl_append, fl_append, fl_append, fl_map, fl_map, fl_map]
    unfold R6.rP R6.rF
    rw [List.take_length, List.take_length, List.take_length]
    rfl
  · rfl
theorem rl_len (d : Ln) : (rl d).length = R6.nR d := by
  unfold rl R6.nR
  split
  · simp
    omega
  · rfl
theorem rl_small (d : Ln) : (rl d).length ≤ 13 := by
  unfold rl
  cases h : N0.loanOk d with
  | false => simp
  | true =>
    obtain ⟨-, -, -, -, -, -, hp6, hp4, hf2, -, -, -, -⟩ := N0.loanOk_is h
    simp
    omega
theorem rl_in (d : Ln) : ∀ r ∈ rl d, 0 ≤ r.1 ∧ 16 ≤ r.2 ∧ r.1 + r.2 ≤ 768 := by
  unfold rl
  cases h : N0.loanOk d with
  | false => simp
  | true =>
    obtain ⟨-, -, -, -, hi, -, -, -, -, hpp, hfr, -, -⟩ := N0.loanOk_is h
    have hpg := (N0.pagesOk_iff.1 hpp).1
    have hrec : ∀ z : Int, 0 ≤ z → z ≤ 7 → L1.recAt z = 32 + z * 16 := by
      intro z h0 h7
      unfold L1.recAt
      rw [if_pos (N0.inB_iff.2 ⟨h0, h7⟩)]
    intro r hr
    simp only [if_true, List.mem_append, List.mem_map, List.mem_singleton] at hr
    rcases hr with ((hr | ⟨p, hp, hr⟩) | ⟨p, hp, hr⟩) | ⟨f, hf, hr⟩
    · subst hr
      rw [hrec _ hi.1 hi.2]
      simp
      omega
    · subst hr
      have := hpg p (List.mem_append_left _ hp)
      simp
      omega
    · subst hr
      have := hpg p (List.mem_append_right _ hp)
      simp
      omega
    · subst hr
      have := hfr f hf
      rw [hrec f (by omega) (by omega)]
      simp
      omega
theorem at_in (d : Ln) {i : Nat} (h : i < (rl d).length) : 0 ≤ (at_ (rl d) i).1 ∧ 16 ≤ (at_ (rl d) i).2 ∧ (at_ (rl d) i).1 + (at_ (rl d) i).2 ≤ 768 := by
  rw [HP.at_get _ _ h]
  exact rl_in d _ (List.getElem_mem h)

/-- What Within answers. -/
def within (d : Ln) (i n : Int) : Bool := decide (1 ≤ n ∧ n ≤ 768 ∧ 0 ≤ i ∧ i ≤ 768 - n) && covAll (rl d) i n.toNat
theorem within_impl (d : Ln) (i n : Int) (h : 0 ≤ i ∧ i < 768 ∧ 1 ≤ n ∧ n ≤ 768) : within d i n = covAll (rl d) i n.toNat := by
  unfold within
  by_cases e : i ≤ 768 - n
  · rw [decide_eq_true (by omega), Bool.true_and]
  · rw [decide_eq_false (by omega), Bool.false_and]
    cases hc : covAll (rl d) i n.toNat with
    | false => rfl
    | true =>
      exfalso
      obtain ⟨r, hr, h1, h2⟩ := cov_iff.1 (covAll_iff.1 hc 768 (by omega) (by omega))
      have := rl_in d r hr
      omega
theorem within_no (d : Ln) (i n : Int) (h : ¬ (0 ≤ i ∧ i < 768 ∧ 1 ≤ n ∧ n ≤ 768)) : within d i n = false := by
  unfold within
  rw [decide_eq_false (by omega), Bool.false_and]

/-- The row of ranges in memory. -/
def Row (d : Ln) (a : Option Addr) (lo : Nat) (W : World) : Prop := rl d = [] ∨ ∃ G, a = some ⟨G, 0, none⟩ ∧ lo ≤ G ∧ K0.Blk G (ints (R6.rg d)) W
theorem row_of {d : Ln} {a : Option Addr} {lo : Nat} {W : World} (h : J0.Own lo W a (R6.rg d)) : Row d a lo W := by
  rcases h with h | h
  · left
    have := fl_length (rl d)
    rw [rl_fl, h] at this
    simp at this
    exact List.eq_nil_of_length_eq_zero (by omega)
  · exact Or.inr h
theorem row_get {d : Ln} {G : Nat} {W : World} (h : K0.Blk G (ints (R6.rg d)) W) {i : Nat} (hi : i < (rl d).length) : W.cell? ⟨G, i * 2, none⟩ = some (.int .i64 (at_ (rl d) i).1) ∧ W.cell? ⟨G, i * 2 + 1, none⟩ = some (.int .i64 (at_ (rl d) i).2) := by
  obtain ⟨h1, h2⟩ := fl_get (rl d) i hi
  have hl := fl_length (rl d)
  rw [rl_fl] at h1 h2 hl
  have c1 := h.cell (i * 2) (by simp [ints]; omega)
  have c2 := h.cell (i * 2 + 1) (by simp [ints]; omega)
  rw [c1, c2]
  obtain ⟨q1, e1⟩ := List.getElem?_eq_some_iff.1 h1
  obtain ⟨q2, e2⟩ := List.getElem?_eq_some_iff.1 h2
  constructor
  · simp [ints, e1]
  · simp [ints, e2]
end Go.Proofs.Ytddlpejklpljoaa.WI

/- The contract of impl.Within. -/
namespace Go.Proofs.Ytddlpejklpljoaa.WI
open Go.ChangeShapes Go.WideShapes Go.ChangeAt Go.RowKit
set_option linter.unusedVariables false
set_option linter.unusedSimpArgs false
set_option maxRecDepth 10000
open N0 (Ln)
open N1 (Sl Lists Fit LB lb_new)
open N13 (Bx bx_new)
open HP (Rg at_ cov covAll cov_iff covAll_iff HS HeapN Chg)
open I2 (ints)

theorem hs_new (v : World) (W : World) {lo A1 A2 : Nat} (hlo : lo ≤ W.heap.size) (h1 : A1 = W.heap.size) (h2 : A2 = W.heap.size + 1) :
    HS lo A2 A1 0 [] ((W.alloc (.cells #[] 66)).alloc (.cells #[.slice (some ⟨A1, 0, none⟩) 0 0] 69)) := by
  subst h1
  have nb := K0.blk_new [.slice (some ⟨W.heap.size, 0, none⟩) 0 0] (W.alloc (.cells #[] 66)) 69
  have hz : (W.alloc (.cells #[] 66)).heap.size = W.heap.size + 1 := by simp
  rw [hz] at nb
  subst h2
  refine ⟨nb.cell 0 (by simp), nb.free 0 (by simp), ?_, by omega, by omega, nb.lt⟩
  exact (World.ownsRow_made W #[] 0 hlo (Nat.zero_le _) rfl).alloc _

set_option maxHeartbeats 4000000 in
theorem impl_Within (d : Ln) (s : Sl) (i n : Int) (w : World) (hF : Fit d s) (hpo : d.po.length ≤ 1048576) (hfr : d.fr.length ≤ 1048576) (hR : Lists w d s) :
    Calls Try.prog 25 #[N1.val d s, .int .i64 i, .int .i64 n] w fun e w' => e = .returned (.bool (within d i n)) ∧ Below w.heap.size w w' := by
  have x0 := bx_new w d s
  have HO : Hid (∀ W, Below w.heap.size w W → Calls Try.prog 45 #[N1.val d s] W (R6.Ans d W)) := fun W hb => R6.impl_Ranges d s W hF hpo hfr (hR.below hb)
  by_cases hin : 0 ≤ i ∧ i < 768 ∧ 1 ≤ n ∧ n ≤ 768
  · have hw := within_impl d i n hin
    rw [hw]
    obtain ⟨h1, h2, h3, h4⟩ := hin
    have c0 := x0.arg.c0
    have c1 := x0.arg.c1
    have c2 := x0.arg.c2
    have c3 := x0.arg.c3
    have c4 := x0.arg.c4
    have c5 := x0.arg.c5
    have c6 := x0.arg.c6
    have c7 := x0.arg.c7
    have nl2 : Below w.heap.size w (((N10.w0 w d s).alloc (.cells #[] 66)).alloc (.cells #[.slice (some ⟨w.heap.size + 1, 0, none⟩) 0 0] 69)) := (x0.bel.alloc x0.bel.size _).alloc (by have := x0.bel.size; simp [N10.w0]; omega) _
    have hs0 : HS w.heap.size (w.heap.size + 1 + 1) (w.heap.size + 1) 0 [] (((N10.w0 w d s).alloc (.cells #[] 66)).alloc (.cells #[.slice (some ⟨w.heap.size + 1, 0, none⟩) 0 0] 69)) := hs_new w _ x0.bel.size (by simp [N10.w0]) (by simp [N10.w0])
    have hRa := HO.out _ nl2
    clear hw hR hF
    go_enter Try.func25, Try.ntmps25
    go_wp2_with (go_at_call 45; refine hRa.mono ?_; rintro e w1 ⟨a, c, rfl, hl1, hc1, o1, b1⟩)
    have hs1 := hs0.below b1
    have bel1 := nl2.trans (b1.mono nl2.size)
    have hlen := rl_len d
    have hsm := rl_small d
    have rw1 : rl d = [] ∨ ∃ G, a = some ⟨G, 0, none⟩ ∧ G ≠ w.heap.size + 1 ∧ G ≠ w.heap.size + 1 + 1 ∧ K0.Blk G (ints (R6.rg d)) w1 := by
      rcases row_of o1 with q | ⟨G, q1, q2, q3⟩
      · exact Or.inl q
      · have := hs0.lt
        exact Or.inr ⟨G, q1, by omega, by omega, q3⟩
    rw [← hlen] at hc1 ⊢
    clear hlen hs0 nl2 b1 o1 hl1 hRa HO c0 c1 c2 c3 c4 c5 c6 c7 x0
    have HIN : Hid (0 ≤ i ∧ i < 768 ∧ 1 ≤ n ∧ n ≤ 768) := ⟨h1, h2, h3, h4⟩
    go_loopg [34] (rl d).length (fun gk v W => ∃ (k g c' : Nat) (l : List Rg), k + gk = (rl d).length ∧ v = .int .i64 (k : Int) ∧ HS w.heap.size (w.heap.size + 1 + 1) g c' l W ∧ l.Perm ((rl d).take k) ∧ HeapN l l.length ∧ (rl d = [] ∨ ∃ G, a = some ⟨G, 0, none⟩ ∧ G ≠ g ∧ G ≠ w.heap.size + 1 + 1 ∧ K0.Blk G (ints (R6.rg d)) W) ∧ Below w.heap.size w W)
    case atStart => exact ⟨0, _, _, [], by omega, rfl, hs1, by simp, fun i _ h => absurd h (by simp), rw1, bel1⟩
    case round =>
      obtain ⟨k, g, c', l, hk, rfl, hs, hp, hh, hrow, hbel⟩ := hrel
      clear hs1 rw1 bel1
      have hll : l.length = k := by rw [hp.length_eq, List.length_take]; omega
      by_cases hlt : k < (rl d).length
      · rcases hrow with hrow | ⟨G, rfl, hG1, hG2, hblk⟩
        · rw [hrow] at hlt
          simp at hlt
        · obtain ⟨y1, y2⟩ := row_get hblk hlt
          have hpk : ((rl d).take k ++ [at_ (rl d) k]) = (rl d).take (k + 1) := by rw [List.take_succ_eq_append_getElem hlt, HP.at_get _ _ hlt]
          obtain ⟨r, hr⟩ : ∃ r, at_ (rl d) k = r := ⟨_, rfl⟩
          rw [hr] at y1 y2 hpk
          have e1 : (0 : Int) ≤ (k : Int) := by omega
          have e2 : (k : Int) < ((rl d).length : Int) := by omega
          have nl := K0.below_new wr (.cells #[.int .i64 r.1, .int .i64 r.2] 66)
          have nb := K0.blk_new [.int .i64 r.1, .int .i64 r.2] wr 66
          have z1 : (wr.alloc (.cells #[.int .i64 r.1, .int .i64 r.2] 66)).cell? ⟨wr.heap.size, 0, none⟩ = some (.int .i64 r.1) := nb.cell 0 (by simp)
          have z2 : (wr.alloc (.cells #[.int .i64 r.1, .int .i64 r.2] 66)).cell? ⟨wr.heap.size, 1, none⟩ = some (.int .i64 r.2) := nb.cell 1 (by simp)
          have hpu := HP.heapPush r _ (hs.below nl) hh (by omega)
          have HA : Hid (HS w.heap.size (w.heap.size + 1 + 1) g c' l wr ∧ l.Perm ((rl d).take k) ∧ Below w.heap.size w wr ∧ K0.Blk G (ints (R6.rg d)) wr ∧ ((rl d).take k ++ [r]) = (rl d).take (k + 1) ∧ G ≠ g ∧ G ≠ w.heap.size + 1 + 1) := ⟨hs, hp, hbel, hblk, hpk, hG1, hG2⟩
          clear hs hp hbel hblk hpk hG1 hG2 hr hh nb
          have HNL : Hid (Below wr.heap.size wr (wr.alloc (.cells #[.int .i64 r.1, .int .i64 r.2] 66))) := nl
          clear nl
          go_wp2_with (go_at_call 46; refine hpu.mono ?_; rintro e w2 ⟨rfl, g2, c2, l2, hs2, hp2, hh2, ch2⟩)
          obtain ⟨hs, hp, hbel, hblk, hpk, hG1, hG2⟩ := HA.out
          have nl := HNL.out
          have hgl := hs.glt
          go_roundg (gk - 1)
          case measure => omega
          case rel =>
            refine ⟨k + 1, g2, c2, l2, by omega, by go_num, hs2, ?_, hh2, Or.inr ⟨G, rfl, ?_, hG2, ?_⟩, ?_⟩
            · rw [← hpk]
              exact hp2.trans (hp.append_right [r])
            · rcases ch2.loc with q | q
              · rw [q]; exact hG1
              · have := hblk.lt
                have := nl.size
                omega
            · exact HP.blk_block (hblk.below nl) (ch2.block G (Nat.lt_of_lt_of_le hblk.lt nl.size) hG2 hG1) ch2.size
            · exact (hbel.trans (nl.mono hbel.size)).trans (ch2.below hs.lo hgl.1 (Nat.le_trans hbel.size nl.size))
      · have hkk : k = (rl d).length := by omega
        subst hkk
        rw [List.take_length] at hp
        have e2 : ¬ ((rl d).length : Int) < ((rl d).length : Int) := by omega
        have HG0 : Hid (HP.Go (rl d) [] l i i) := ⟨by simpa using hp, hh, fun d h => absurd h (by simp), fun d h => absurd h (by simp), fun k h1 h2 => by omega, Int.le_refl _⟩
        have HS0 : Hid (HS w.heap.size (w.heap.size + 1 + 1) g c' l wr ∧ Below w.heap.size w wr) := ⟨hs, hbel⟩
        clear hs hp hbel hh hrow hlt
        have hlz : l.length ≤ 13 := by omega
        go_wp2
        go_loopg [1] (l.length + 1) (fun gk v W => ∃ (j : Int) (dn rest : List Rg), v = .int .i64 j ∧ rest.length + 1 = gk ∧ gk ≤ 14 ∧ 0 ≤ j ∧ j ≤ 768 ∧ HP.Go (rl d) dn rest i j ∧ HS w.heap.size (w.heap.size + 1 + 1) g c' rest W ∧ Below w.heap.size w W)
        case atStart => exact ⟨i, [], l, rfl, rfl, by omega, by omega, by omega, HG0.out, HS0.out.1, HS0.out.2⟩
        case round =>
          obtain ⟨j, dn, rest, rfl, hgk, hg14, hj0, hj7, hgo, hs, hbel⟩ := hrel
          clear HG0 HS0
          have x0 := hs.cell
          have HA : Hid (HP.Go (rl d) dn rest i j ∧ HS w.heap.size (w.heap.size + 1 + 1) g c' rest wr ∧ Below w.heap.size w wr ∧ rest.length + 1 = gk ∧ gk ≤ 14) := ⟨hgo, hs, hbel, hgk, hg14⟩
          by_cases hje : j < i + n
          · have hje' : ¬ (i + n ≤ j) := by omega
            cases hrest : rest with
            | nil =>
              rw [hrest] at HA x0
              have e0 : (([] : List Rg).length : Int) = 0 := rfl
              have HV : Hid (covAll (rl d) i n.toNat = false) := HA.out.1.done_no (by omega)
              clear hgo hs hbel hgk hrest
              go_wp2_with (go_at_call 47; refine (HP.len _ _ _ _).mono ?_; rintro e w2 ⟨rfl, hw⟩; subst w2)
              go_ret
              exact ⟨congrArg Ending.returned (congrArg Value.bool (show decide (i + n ≤ j) = _ from by rw [HV.out]; exact decide_eq_false (by omega))), HA.out.2.2.1⟩
            | cons r0 rt =>
              have hrl : rest.length = rt.length + 1 := by rw [hrest]; rfl
              have hl := HP.least rt.length wr hs hgo.heap hrl (by omega)
              have hin : ∀ r ∈ rest, 0 ≤ r.1 ∧ 16 ≤ r.2 ∧ r.1 + r.2 ≤ 768 := fun r hr => rl_in d r (hgo.perm.mem_iff.1 (List.mem_append_right _ hr))
              have HIM : Hid (∀ r ∈ rest, 0 ≤ r.1 ∧ 16 ≤ r.2 ∧ r.1 + r.2 ≤ 768) := hin
              have e0 : (0 : Int) < (rest.length : Int) := by omega
              have hgl := hs.glt
              have HGL : Hid (w.heap.size ≤ g ∧ g < wr.heap.size) := hgl
              clear hgo hs hbel hgk hrest hin hgl hrl
              have hD : ∀ (r : Rg) (l3 : List Rg) (w3 : World), r = at_ rest 0 → (r :: l3).Perm rest → HS w.heap.size (w.heap.size + 1 + 1) g c' l3 w3 → HeapN l3 l3.length → Chg (w.heap.size + 1 + 1) g g wr w3 → Hid ((0 ≤ r.1 ∧ 16 ≤ r.2 ∧ r.1 + r.2 ≤ 768) ∧ l3.length + 1 = rest.length ∧ (r.1 ≤ j ∧ j < r.1 + r.2 → HP.Go (rl d) (r :: dn) l3 i (r.1 + r.2)) ∧ (¬ (r.1 ≤ j ∧ j < r.1 + r.2) → HP.Go (rl d) (r :: dn) l3 i j) ∧ HS w.heap.size (w.heap.size + 1 + 1) g c' l3 w3 ∧ Below w.heap.size w w3) := by
                intro r l3 w3 q1 q2 q3 q4 q5
                have P := HA.out.1.pop (by omega) q1 q2 q4
                have A := HA.out
                exact ⟨HIM.out r (q2.mem_iff.1 (by simp)), by have := q2.length_eq; simpa using this, P.1, P.2, q3, A.2.2.1.trans (q5.below A.2.1.lo HGL.out.1 A.2.2.1.size)⟩
              have HD : Hid (∀ (r : Rg) (l3 : List Rg) (w3 : World), r = at_ rest 0 → (r :: l3).Perm rest → HS w.heap.size (w.heap.size + 1 + 1) g c' l3 w3 → HeapN l3 l3.length → Chg (w.heap.size + 1 + 1) g g wr w3 → Hid ((0 ≤ r.1 ∧ 16 ≤ r.2 ∧ r.1 + r.2 ≤ 768) ∧ l3.length + 1 = rest.length ∧ (r.1 ≤ j ∧ j < r.1 + r.2 → HP.Go (rl d) (r :: dn) l3 i (r.1 + r.2)) ∧ (¬ (r.1 ≤ j ∧ j < r.1 + r.2) → HP.Go (rl d) (r :: dn) l3 i j) ∧ HS w.heap.size (w.heap.size + 1 + 1) g c' l3 w3 ∧ Below w.heap.size w w3)) := hD
              clear hD
              go_wp2_with (first
                | (go_at_call 47; refine (HP.len _ _ _ _).mono ?_; rintro e w2 ⟨rfl, hw⟩; subst w2)
                | (go_at_call 48; refine hl.mono ?_; rintro e w3 ⟨r, l3, rfl, hr3, hp3, hs3, hh3, ch3⟩; have F3 := HD.out r l3 w3 hr3 hp3 hs3 hh3 ch3; clear hr3 hp3 hs3 hh3 ch3; have nb := K0.blk_new [.int .i64 r.1, .int .i64 r.2] w3 66; have z1 : (w3.alloc (.cells #[.int .i64 r.1, .int .i64 r.2] 66)).cell? ⟨w3.heap.size, 0, none⟩ = some (.int .i64 r.1) := nb.cell 0 (by simp); have z2 : (w3.alloc (.cells #[.int .i64 r.1, .int .i64 r.2] 66)).cell? ⟨w3.heap.size, 1, none⟩ = some (.int .i64 r.2) := nb.cell 1 (by simp); clear nb; obtain ⟨u1, u2, u3⟩ := F3.out.1))
              all_goals (
                obtain ⟨_, hl3, P1, P2, hs3, b3⟩ := F3.out
                have A := HA.out
                have nl3 := K0.below_new w3 (.cells #[.int .i64 r.1, .int .i64 r.2] 66)
                go_roundg (gk - 1)
                case measure => omega
                case rel => first
                  | exact ⟨j, r :: dn, l3, rfl, by omega, by omega, by omega, by omega, P2 (by omega), hs3.below nl3, b3.trans (nl3.mono b3.size)⟩
                  | exact ⟨r.1 + r.2, r :: dn, l3, rfl, by omega, by omega, by omega, by omega, P1 (by omega), hs3.below nl3, b3.trans (nl3.mono b3.size)⟩)
          · have hje' : i + n ≤ j := by omega
            have HV : Hid (covAll (rl d) i n.toNat = true) := HA.out.1.done_yes (by omega)
            clear hgo hs hbel hgk
            go_wp2
            go_ret
            refine ⟨?_, HA.out.2.2.1⟩
            have hdd : decide (i + n ≤ j) = true := decide_eq_true (by omega)
            rw [HV.out]
            first
              | rfl
              | exact congrArg Ending.returned (congrArg Value.bool hdd)
  · have hw := within_no d i n hin
    rw [hw]
    have hc : (decide (i < 0) || decide (768 ≤ i) || decide (n < 1) || decide (768 < n)) = true := by
      simp
      omega
    have HB : Hid (Below w.heap.size w (N10.w0 w d s)) := x0.bel
    clear hw hR hF HO x0
    by_cases q1 : i < 0
    · go_enter Try.func25, Try.ntmps25
      go_wp2
      go_ret
      exact ⟨rfl, HB.out⟩
    · by_cases q2 : 768 ≤ i
      · go_enter Try.func25, Try.ntmps25
        go_wp2
        go_ret
        exact ⟨rfl, HB.out⟩
      · by_cases q3 : n < 1
        · go_enter Try.func25, Try.ntmps25
          go_wp2
          go_ret
          exact ⟨rfl, HB.out⟩
        · have q4 : 768 < n := by omega
          go_enter Try.func25, Try.ntmps25
          go_wp2
          go_ret
          exact ⟨rfl, HB.out⟩
end Go.Proofs.Ytddlpejklpljoaa.WI
