/- Joined texts: plain facts and contracts, as each part says. -/
import Derived.Test.YtdljajjgppcjpaaGreatJkN
import Derived.Test.YtdljajjgppcjpaaGreatJkK
import Derived.Deep.LoopGhost
import Derived.BigQuiet

/- The specification's tree: plain facts, rows that grow by one, l04Root and l04Owned. -/
namespace Go.Proofs.YtdljajjgppcjpaaGreat.TS
open Go.ChangeShapes Go.WideShapes Go.ChangeAt Go.RowKit
set_option linter.unusedVariables false
set_option linter.unusedSimpArgs false
set_option maxRecDepth 10000
variable {w W W' : World} {mem : ByteArray}
open J0 (IBuf Own)
open I2 (ints)
open TW (tK tZ tE cat)

/-- 'list = append(list, x)', an element of one cell, and where the new list lies. -/
theorem append_one {ops : Array Oper} {rest : List Oper} {o : Oper} {A : Act} {Q : Exit → Act → World → Prop} {base g n cap : Nat} {xs : List Value} (T e : TypeId) (z : Value) (bytes : Nat) (hu : Tryz.prog.underlying T = some (.slice e)) (hinfo : (Tryz.prog.info? e).map (fun i => (i.zero, i.size, i.bytes)) = some (some z, 1, bytes)) (hzc : z.cells.size = 1) (hby : bytes ≤ 16)
    (hgd : o.guard = none) (sl y : Operand) (ho : o.op = .call { callee := .builtin .append, args := #[sl, y], argTypes := #[T, T] })
    (hbuf : w.ownsRow base e 1 (.slice (some ⟨g, 0, none⟩) n cap) n xs) (v : Value) (hv : v.oneCell' = true) (hs : A.eval sl = .slice (some ⟨g, 0, none⟩) n cap) {H : Nat} (hH : w.heap.size = H) (hx : A.eval y = .slice (some ⟨H, 0, none⟩) 1 1) (hlen : n + 1 ≤ 1048576) (hb : base ≤ w.heap.size)
    (h : ∀ g' cap' w', w'.ownsRow base e 1 (.slice (some ⟨g', 0, none⟩) (n + 1) cap') (n + 1) (xs ++ [v]) → w.grownBy w' (some g) → (g' = g ∨ w.heap.size ≤ g') → wpList Tryz.prog ops Q rest (A.put o.dst (.slice (some ⟨g', 0, none⟩) (n + 1) cap')) w') : wpList Tryz.prog ops Q (o :: rest) A (w.alloc (.cells #[v] e)) := by
  subst hH
  obtain ⟨i0, hi, hz0, hz1, hz2⟩ := info_parts hinfo
  have hb2 := hbuf.alloc (.cells #[v] e)
  have hone : ∀ u ∈ [v], u.oneCell' = true := by
    intro u hu
    simp at hu
    subst hu
    exact hv
  have hbb : (n + 1) * bytes ≤ 140737488355328 := Nat.le_trans (Nat.mul_le_mul hlen hby) (by decide)
  refine wpList_append_lies _ hgd sl y T ho base e i0 z 1 bytes hu hi hz0 hz1 hz2 hzc (by omega) _ n _ hs hb2 ⟨w.heap.size, 0, none⟩ 1 1 [v] hx rfl (World.news_of_block (heap_alloc_new w _)) hone (by omega) (by unfold maxLen; omega) hbb (by simp; omega) _ rfl ?_
  intro g' cap' w' ho' hg' hl' _
  refine h g' cap' w' ho' ((World.grownBy_alloc w _ _).trans hg') ?_
  rcases hl' with q | q
  · left
    have e' : g = g' := by simpa [Value.ownBlock] using q
    exact e'.symm
  · right
    rw [q]
    simp

theorem infoS : (Tryz.prog.info? 9).map (fun i => (i.zero, i.size, i.bytes)) = some (some (.string ⟨#[]⟩), 1, 16) := by kernel_rfl

theorem owns_blk {base g n cap : Nat} {e : TypeId} {xs : List Value} (h : w.ownsRow base e 1 (.slice (some ⟨g, 0, none⟩) n cap) n xs) : K0.Blk g xs w := by
  have hl : xs.length = n := by have := h.1; omega
  refine ⟨fun j hj => ?_, fun j hj => h.frozenAt j, (h.lt g rfl).2⟩
  rw [h.cellAt j (by omega), List.getElem?_eq_getElem hj]

/-- The rows of parents and names. -/
def pv (l : List (Nat × T0.Ent)) : List Value := (List.range 8).map fun (x : Nat) => .int .i64 (TR.par l (x : Int))
def nv (l : List (Nat × T0.Ent)) : List Value := (List.range 8).map fun (x : Nat) => .string (TR.nam l (x : Int))
theorem pv_length (l : List (Nat × T0.Ent)) : (pv l).length = 8 := by simp [pv]
theorem nv_length (l : List (Nat × T0.Ent)) : (nv l).length = 8 := by simp [nv]
theorem map_set {f : Nat → Value} {x : Nat} (v : Value) (hx : x < 8) : ((List.range 8).map f).set x v = (List.range 8).map fun y => if y = x then v else f y := by
  apply List.ext_getElem
  · simp
  · intro k h1 h2
    have hk : k < 8 := by simpa using h1
    rw [List.getElem_set]
    by_cases e : x = k
    · subst e
      simp
    · have e' : ¬ k = x := fun q => e q.symm
      simp [e, e']

theorem pv_first {l : List (Nat × T0.Ent)} {i x : Nat} {nm : ByteArray} (hx : x < 8) (h : TR.par l (x : Int) = -1) : (pv l).set x (.int .i64 (i : Int)) = pv (l ++ [(i, ((x : Int), nm))]) := by
  unfold pv
  rw [map_set _ hx]
  apply List.map_congr_left
  intro y _
  rw [TR.par_step]
  by_cases e : y = x
  · subst e
    rw [if_pos rfl, if_pos rfl, if_pos h]
  · have : ¬ ((x : Int) = (y : Int)) := by omega
    rw [if_neg e, if_neg this]
theorem pv_more {l : List (Nat × T0.Ent)} {i x : Nat} {nm : ByteArray} (hx : x < 8) (h : ¬ TR.par l (x : Int) = -1) : (pv l).set x (.int .i64 (-2)) = pv (l ++ [(i, ((x : Int), nm))]) := by
  unfold pv
  rw [map_set _ hx]
  apply List.map_congr_left
  intro y _
  rw [TR.par_step]
  by_cases e : y = x
  · subst e
    rw [if_pos rfl, if_pos rfl, if_neg h]
  · have : ¬ ((x : Int) = (y : Int)) := by omega
    rw [if_neg e, if_neg this]
theorem nv_first {l : List (Nat × T0.Ent)} {i x : Nat} {nm : ByteArray} (hx : x < 8) (h : TR.par l (x : Int) = -1) : (nv l).set x (.string nm) = nv (l ++ [(i, ((x : Int), nm))]) := by
  unfold nv
  rw [map_set _ hx]
  apply List.map_congr_left
  intro y _
  rw [TR.nam_step]
  by_cases e : y = x
  · subst e
    rw [if_pos rfl, if_pos ⟨rfl, h⟩]
  · have : ¬ ((x : Int) = (y : Int) ∧ TR.par l (y : Int) = -1) := fun q => by have := q.1; omega
    rw [if_neg e, if_neg this]
theorem nv_more {l : List (Nat × T0.Ent)} {i x : Nat} {nm : ByteArray} (h : ¬ TR.par l (x : Int) = -1) : nv l = nv (l ++ [(i, ((x : Int), nm))]) := by
  unfold nv
  apply List.map_congr_left
  intro y _
  rw [TR.nam_step]
  have : ¬ ((x : Int) = (y : Int) ∧ TR.par l (y : Int) = -1) := fun q => by
    have e : x = y := by have := q.1; omega
    subst e
    exact h q.2
  rw [if_neg this]
theorem pv_nil : pv [] = List.replicate 8 (.int .i64 (-1)) := rfl
theorem nv_nil : nv [] = List.replicate 8 (.string ⟨#[]⟩) := rfl

theorem ret_bool {a b : Bool} (h : a = b) : Ending.returned (.bool a) = .returned (.bool b) := by rw [h]

set_option maxHeartbeats 1000000 in
/-- l04Root over the row of parents. -/
theorem l04Root (p : Int → Int) (g c : Nat) (i : Int) (w : World) (hp : ∀ x, p x < 8) (hB : ∀ x : Nat, x < 8 → w.cell? ⟨g, x, none⟩ = some (.int .i64 (p (x : Int)))) (hi : i < 8) :
    Calls Tryz.prog 93 #[.slice (some ⟨g, 0, none⟩) 8 c, .int .i64 i] w fun e w' => e = .returned (.bool (TR.root p 8 i)) ∧ w' = w := by
  go_enter Tryz.func93, Tryz.ntmps93
  go_wp2
  go_loop [1, 5] (fun v n => ∃ (k : Nat) (j : Int), k ≤ 8 ∧ n = .int .i64 k ∧ v = .int .i64 j ∧ j < 8 ∧ TR.root p (8 - k) j = TR.root p 8 i) (fun _ n => 8 - (intOf n).toNat)
  case atStart => exact ⟨0, i, Nat.zero_le _, rfl, rfl, hi, rfl⟩
  case round =>
    obtain ⟨k, j, hk, rfl, rfl, hj, hr⟩ := hrel
    have HR : Hid (TR.root p (8 - k) j = TR.root p 8 i) := hr
    clear hr
    by_cases hlt : k < 8
    · have e1 : (k : Int) < 8 := by omega
      by_cases h0 : j = 0
      · subst h0
        go_wp2
        go_ret
        exact ⟨ret_bool (by rw [← HR.out, TR.root_zero]), rfl⟩
      · have h0' : (j == 0) = false := by simpa using h0
        by_cases hn : j < 0
        · go_wp2
          go_ret
          exact ⟨ret_bool (by rw [← HR.out, TR.root_neg _ _ _ hn]), rfl⟩
        · obtain ⟨x, rfl⟩ : ∃ x : Nat, j = (x : Int) := ⟨j.toNat, by omega⟩
          have hc := hB x (by omega)
          have hn' : decide ((x : Int) < 0) = false := by simp
          have b1 : (0 : Int) ≤ (x : Int) := by omega
          have b2 : (x : Int) < 8 := by omega
          have hq := hp (x : Int)
          have HS : Hid (TR.root p (8 - (k + 1)) (p (x : Int)) = TR.root p 8 i) := by
            show _ = _
            rw [← HR.out, show 8 - k = (8 - (k + 1)) + 1 by omega, TR.root_pos _ _ _ (by omega)]
          obtain ⟨q, eq⟩ : ∃ q, p (x : Int) = q := ⟨_, rfl⟩
          rw [eq] at hc hq HS
          clear eq hB hp
          go_wp2
          go_round
          case rel => exact ⟨k + 1, q, by omega, by go_num, rfl, hq, HS.out⟩
          case measure => simp [intOf]; omega
    · obtain rfl : k = 8 := by omega
      have hfin : (j == 0) = TR.root p 8 i := by rw [← HR.out]; rfl
      clear HR
      obtain ⟨r, er⟩ : ∃ r, TR.root p 8 i = r := ⟨_, rfl⟩
      rw [er] at hfin
      have HE : Hid (TR.root p 8 i = r) := er
      clear er
      go_wp2
      go_ret
      exact ⟨ret_bool HE.out.symm, rfl⟩

set_option maxHeartbeats 1000000 in
theorem l04Owned (mem : ByteArray) (w : World) (hms : mem.size ≤ 281474976710656) :
    Calls Tryz.prog 90 #[.string mem] w fun e w' => ∃ a c, e = .returned (.slice a (cat (tZ mem) 8).length c) ∧ (cat (tZ mem) 8).length ≤ c ∧ Own w.heap.size w' a (cat (tZ mem) 8) ∧ Below w.heap.size w w' := by
  have hG : Hid (∀ (k : Nat) W, Calls Tryz.prog 39 #[.string (O0.recd mem (k : Int))] W (G3.Ans (O0.recd mem (k : Int)) W)) := fun k W => G4.spec_GetInode _ W (O0.recd_size mem _ hms)
  have hA : Hid (∀ (k : Nat) W e w', G3.Ans (O0.recd mem (k : Int)) W e w' → ∃ (q o s : Int) (a : Option Addr) (c : Nat) (b : Bool), e = .returned (.tuple #[.agg #[.int .i64 q, .int .i64 o, .int .i64 s, .slice a (tZ mem k).length c], .bool b]) ∧ J0.Own W.heap.size w' a (tZ mem k) ∧ Below W.heap.size W w') := fun k W e w' ⟨a, c, he, ho, hc, hb⟩ => ⟨_, _, _, a, c, _, he, ho, hb⟩
  have hL : Hid (∀ (k : Nat) W, Calls Tryz.prog 95 #[.string mem, .int .i64 (k : Int)] W fun e w' => e = .returned (.string (O0.recd mem (k : Int))) ∧ w' = W) := fun k W => O1.l03Rec mem k W hms
  have hlen := TW.cat_len (TW.pg_few mem)
  have b0 := J0.ibuf_made (base := w.heap.size) w (Nat.le_refl _)
  have l0 := K0.below_new w (.cells #[] 3)
  go_enter Tryz.func90, Tryz.ntmps90
  go_wp2
  go_loopw [3, 4] (fun v i w' => ∃ (k n c : Nat) (a : Option Addr), k ≤ 8 ∧ i = .int .i64 k ∧ v = .slice a n c ∧ IBuf w.heap.size w' a n c (cat (tZ mem) k) ∧ Below w.heap.size w w') (fun _ i _ => 8 - (intOf i).toNat)
  case atStart => exact ⟨0, 0, 0, _, Nat.zero_le _, rfl, rfl, b0, l0⟩
  case round =>
    obtain ⟨k, n, c, a, hk, rfl, rfl, hbuf, hbel⟩ := hrel
    clear b0 l0
    by_cases hlt : k < 8
    · have e1 : (k : Int) < 8 := by omega
      have HS : Hid (cat (tZ mem) k ++ tZ mem k = cat (tZ mem) (k + 1)) := rfl
      have hnl : n ≤ 96 := by
        have := hlen k
        rw [hbuf.1]
        omega
      have hfew := TW.pg_few mem k
      have hLk := hL.out k
      have hGk := hG.out k
      have hAk : Hid (∀ W e w', G3.Ans (O0.recd mem (k : Int)) W e w' → ∃ (q o s : Int) (a : Option Addr) (c : Nat) (b : Bool), e = .returned (.tuple #[.agg #[.int .i64 q, .int .i64 o, .int .i64 s, .slice a (tZ mem k).length c], .bool b]) ∧ J0.Own W.heap.size w' a (tZ mem k) ∧ Below W.heap.size W w') := hA.out k
      obtain ⟨zk, hzk⟩ : ∃ zk, tZ mem k = zk := ⟨_, rfl⟩
      obtain ⟨rk, hrk⟩ : ∃ rk, O0.recd mem (k : Int) = rk := ⟨_, rfl⟩
      rw [hzk] at HS hfew hAk
      rw [hrk] at hLk hGk hAk
      clear hzk hrk hL hG hA
      go_wp2_with (first
        | (go_at_call 95; refine (hLk _).mono ?_; rintro e wq ⟨rfl, rfl⟩)
        | (go_at_call 39; refine (hGk _).mono ?_; intro e w2 hans; obtain ⟨q, o, s, a2, c2, bb, rfl, o2, b2⟩ := hAk.out _ _ _ hans; clear hans; have n2 := K0.below_new w2 (.cells #[.int .i64 q, .int .i64 o, .int .i64 s, .slice a2 zk.length c2] 69); have y3 := (K0.blk_new [.int .i64 q, .int .i64 o, .int .i64 s, .slice a2 zk.length c2] w2 69).c3; have bf2 := (hbuf.below b2).below n2; have r2 := (o2.row.below n2); have l2 := (hbel.trans (b2.mono hbel.size)).trans (n2.mono (Nat.le_trans hbel.size b2.size)))
        | (at_builtin; refine Q1.append_rows rfl (.tmp 19) (.tmp 21) rfl bf2 _ _ zk (by rfl) (by rfl) r2 (by omega) l2.size ?_; intro a3 c3 w3 bf3 b3))
      go_roundw
      case rel => exact ⟨k + 1, n + zk.length, c3, a3, by omega, by go_num, rfl, by rw [← HS.out]; exact bf3, l2.trans b3⟩
      case measure => simp [intOf]; omega
    · obtain rfl : k = 8 := by omega
      have hn : n = (cat (tZ mem) 8).length := hbuf.1
      subst hn
      go_wp2
      go_ret
      exact ⟨a, c, rfl, hbuf.fits, hbuf.own, hbel⟩
end Go.Proofs.YtdljajjgppcjpaaGreat.TS

/- The contract of spec.l04Parents. -/
namespace Go.Proofs.YtdljajjgppcjpaaGreat.TS
open Go.ChangeShapes Go.WideShapes Go.ChangeAt Go.RowKit
set_option linter.unusedVariables false
set_option linter.unusedSimpArgs false
set_option maxRecDepth 10000
variable {w W W' : World} {mem : ByteArray}
open J0 (IBuf Own)
open I2 (ints)
open TW (tK tZ tE cat nodesOk)

/-- The two rows while they are made. -/
structure Two (w : World) (k g1 c1 g2 c2 : Nat) (W : World) : Prop where
  o1 : W.ownsRow w.heap.size 3 1 (.slice (some ⟨g1, 0, none⟩) k c1) k (List.replicate k (.int .i64 (-1)))
  o2 : W.ownsRow w.heap.size 9 1 (.slice (some ⟨g2, 0, none⟩) k c2) k (List.replicate k (.string ⟨#[]⟩))
  ne : g1 ≠ g2
  bel : Below w.heap.size w W
theorem two_new (w : World) : Two w 0 w.heap.size 0 (w.heap.size + 1) 0 ((w.alloc (.cells #[] 3)).alloc (.cells #[] 9)) := by
  have h2 := World.ownsRow_made (base := w.heap.size) (e := 9) (size := 1) (w.alloc (.cells #[] 3)) #[] 0 (by simp) (Nat.zero_le _) rfl
  rw [World.size_alloc] at h2
  exact ⟨(World.ownsRow_made w #[] 0 (Nat.le_refl _) (Nat.zero_le _) rfl).alloc _, h2, by omega, ((Below.refl _ _).alloc (Nat.le_refl _) _).alloc (by simp) _⟩

/-- The two rows as the directories are read. -/
structure Pr (w : World) (g1 g2 : Nat) (l : List (Nat × T0.Ent)) (W : World) : Prop where
  b1 : K0.Blk g1 (pv l) W
  b2 : K0.Blk g2 (nv l) W
  ne : g1 ≠ g2
  lo : w.heap.size ≤ g1 ∧ w.heap.size ≤ g2
  bel : Below w.heap.size w W
variable {g1 g2 : Nat} {l : List (Nat × T0.Ent)}
theorem Pr.below (h : Pr w g1 g2 l W) (hb : Below W.heap.size W W') : Pr w g1 g2 l W' := ⟨h.b1.below hb, h.b2.below hb, h.ne, h.lo, h.bel.trans (hb.mono h.bel.size)⟩
theorem Pr.drew (h : Pr w g1 g2 l W) : Pr w g1 g2 l W.drew := ⟨h.b1.drew, h.b2.drew, h.ne, h.lo, h.bel.drew⟩
theorem Pr.drewN (h : Pr w g1 g2 l W) (n : Nat) : Pr w g1 g2 l (W.drewN n) := ⟨h.b1.drewN n, h.b2.drewN n, h.ne, h.lo, K0.below_drewN h.bel n⟩
theorem Two.pr {c1 c2 : Nat} (h : Two w 8 g1 c1 g2 c2 W) : Pr w g1 g2 [] W := by
  refine ⟨?_, ?_, h.ne, ⟨(h.o1.lt g1 rfl).1, (h.o2.lt g2 rfl).1⟩, h.bel⟩
  · rw [pv_nil]
    exact owns_blk h.o1
  · rw [nv_nil]
    exact owns_blk h.o2
theorem Pr.par (h : Pr w g1 g2 l W) {x : Nat} (hx : x < 8) : W.cell? ⟨g1, x, none⟩ = some (.int .i64 (TR.par l (x : Int))) := by
  rw [h.b1.cell x (by rw [pv_length]; exact hx)]
  simp [pv]
theorem Pr.nam (h : Pr w g1 g2 l W) {x : Nat} (hx : x < 8) : W.cell? ⟨g2, x, none⟩ = some (.string (TR.nam l (x : Int))) := by
  rw [h.b2.cell x (by rw [nv_length]; exact hx)]
  simp [nv]
theorem Pr.first (h : Pr w g1 g2 l W) {i x : Nat} {nm : ByteArray} (hx : x < 8) (hp : TR.par l (x : Int) = -1) : Pr w g1 g2 (l ++ [(i, ((x : Int), nm))]) ((W.setCell ⟨g1, x, none⟩ (.int .i64 (i : Int))).setCell ⟨g2, x, none⟩ (.string nm)) := by
  refine ⟨?_, ?_, h.ne, h.lo, (h.bel.setCell (p := ⟨g1, x, none⟩) h.lo.1 _).setCell (p := ⟨g2, x, none⟩) h.lo.2 _⟩
  · rw [← pv_first hx hp]
    exact (h.b1.set x _).setOther h.ne.symm x _
  · rw [← nv_first hx hp]
    exact (h.b2.setOther h.ne x _).set x _
theorem Pr.more (h : Pr w g1 g2 l W) {i x : Nat} {nm : ByteArray} (hx : x < 8) (hp : ¬ TR.par l (x : Int) = -1) : Pr w g1 g2 (l ++ [(i, ((x : Int), nm))]) (W.setCell ⟨g1, x, none⟩ (.int .i64 (-2))) := by
  refine ⟨?_, ?_, h.ne, h.lo, h.bel.setCell (p := ⟨g1, x, none⟩) h.lo.1 _⟩
  · rw [← pv_more hx hp]
    exact h.b1.set x _
  · rw [← nv_more hp]
    exact h.b2.setOther h.ne x _

theorem lK_eq (hm : mem.size = 768) (i : Int) : O0.lK mem i = G0.gK (O0.recd mem i) := by
  unfold O0.lK
  cases h : O0.isL mem i with
  | true => rfl
  | false =>
    unfold O0.isL at h
    rw [decide_eq_true hm, Bool.true_and] at h
    cases hI : G0.isI (O0.recd mem i) with
    | false => rw [(G0.g_no hI).1]; rfl
    | true =>
      rw [hI, Bool.true_and] at h
      have h0 : B1.byteAt (O0.recd mem i) 0 = 0 := by simpa using h
      rw [(G0.g_yes hI).1, h0]
      rfl
theorem lD_dir (hm : mem.size = 768) (i : Int) (h2 : G0.gK (O0.recd mem i) = 2) : O0.lD mem i = D1.data mem i := by
  have h := lK_eq hm i
  rw [h2] at h
  cases hL : O0.isL mem i with
  | false => rw [(O0.l_no hL).1] at h; exact absurd h (by decide)
  | true => exact (O0.l_yes hL).2.2.2.2

/-- What l04Parents answers. -/
def Par (mem : ByteArray) (w : World) (e : Ending) (w' : World) : Prop :=
  ∃ a1 c1 a2 c2, e = .returned (.tuple #[.slice a1 8 c1, .slice a2 8 c2, .bool (nodesOk mem)]) ∧ Below w.heap.size w w' ∧ (nodesOk mem = true → ∃ g1 g2, a1 = some ⟨g1, 0, none⟩ ∧ a2 = some ⟨g2, 0, none⟩ ∧ Pr w g1 g2 (TR.flat (tE mem) 8) w')

set_option maxHeartbeats 4000000 in
theorem l04Parents (mem : ByteArray) (w : World) (hm : mem.size = 768) : Calls Tryz.prog 92 #[.string mem] w (Par mem w) := by
  have hms : mem.size ≤ 281474976710656 := by omega
  have HN : Hid (∀ g1 c1 g2 c2 w', nodesOk mem = false → Below w.heap.size w w' → Par mem w (.returned (.tuple #[.slice (some ⟨g1, 0, none⟩) 8 c1, .slice (some ⟨g2, 0, none⟩) 8 c2, .bool false])) w') := fun g1 c1 g2 c2 w' h hb => ⟨_, _, _, _, by rw [h], hb, fun h' => by rw [h] at h'; cases h'⟩
  have HY : Hid (∀ g1 c1 g2 c2 w', nodesOk mem = true → Pr w g1 g2 (TR.flat (tE mem) 8) w' → Par mem w (.returned (.tuple #[.slice (some ⟨g1, 0, none⟩) 8 c1, .slice (some ⟨g2, 0, none⟩) 8 c2, .bool true])) w') := fun g1 c1 g2 c2 w' h hp => ⟨_, _, _, _, by rw [h], hp.bel, fun _ => ⟨g1, g2, rfl, rfl, hp⟩⟩
  have t0 := two_new w
  obtain ⟨R, hR⟩ : ∃ R, Par mem w = R := ⟨_, rfl⟩
  rw [hR] at HN HY ⊢
  clear hR
  go_enter Tryz.func92, Tryz.ntmps92
  go_wp2
  go_loopw [5, 6, 7] (fun v u i w' => ∃ (k g1 c1 g2 c2 : Nat), k ≤ 8 ∧ i = .int .i64 k ∧ v = .slice (some ⟨g1, 0, none⟩) k c1 ∧ u = .slice (some ⟨g2, 0, none⟩) k c2 ∧ Two w k g1 c1 g2 c2 w') (fun _ _ i _ => 8 - (intOf i).toNat)
  case atStart => exact ⟨0, _, _, _, _, Nat.zero_le _, rfl, rfl, rfl, t0⟩
  case round =>
    obtain ⟨k, g1, c1, g2, c2, hk, rfl, rfl, rfl, tw⟩ := hrel
    clear t0
    by_cases hlt : k < 8
    · have e1 : (k : Int) < 8 := by omega
      have hg1 := tw.o1.lt g1 rfl
      have hg2 := tw.o2.lt g2 rfl
      have HG : Hid ((w.heap.size ≤ g1 ∧ g1 < wr.heap.size) ∧ (w.heap.size ≤ g2 ∧ g2 < wr.heap.size)) := ⟨hg1, hg2⟩
      clear hg1 hg2
      go_wp2_with (first
        | (at_builtin; refine append_one 129 9 (.string ⟨#[]⟩) 16 Tryz.underlying129 infoS rfl (by decide) rfl (.tmp 26) (.tmp 27) rfl o2' (.string ⟨#[]⟩) rfl (by rfl) rfl (by rfl) (by omega) l2.size ?_; intro g4 c4 w4 o4 gr4 q4)
        | (at_builtin; refine append_one 24 3 (.int .i64 0) 8 Tryz.underlying24 I2.info3 rfl (by decide) rfl (.tmp 23) (.tmp 24) rfl tw.o1 (.int .i64 (-1)) rfl (by rfl) rfl (by rfl) (by omega) tw.bel.size ?_; intro g3 c3 w3 o3 gr3 q3; have o2' := tw.o2.kept gr3 (Or.inr (by simpa [Value.ownBlock] using tw.ne.symm)); have l2 := tw.bel.trans (TW.below_gr gr3 (HG.out.1.1) tw.bel.size)))
      have hG := HG.out
      have o3' := o3.kept gr4 (Or.inr (by
        simp only [Value.ownBlock, ne_eq, Option.some.injEq]
        rcases q3 with e | e
        · rw [e]
          exact tw.ne
        · omega))
      go_roundw
      case rel =>
        refine ⟨k + 1, g3, c3, g4, c4, by omega, by go_num, rfl, rfl, ⟨by rw [List.replicate_succ']; exact o3', by rw [List.replicate_succ']; exact o4, ?_, l2.trans (TW.below_gr gr4 hG.2.1 l2.size)⟩⟩
        have h3 := (o3.lt g3 rfl).2
        rcases q3 with e | e <;> rcases q4 with e' | e'
        · rw [e, e']
          exact tw.ne
        · omega
        · omega
        · omega
      case measure => simp [intOf]; omega
    · obtain rfl : k = 8 := by omega
      have p0 := tw.pr
      clear tw
      go_wp2
      go_loopg [8] 8 (fun gk i W => ∃ k : Nat, k + gk = 8 ∧ i = .int .i64 k ∧ N0.to (fun i => D1.nodeOk mem (i : Int)) k = true ∧ Pr w g1 g2 (TR.flat (tE mem) k) W)
      case atStart => exact ⟨0, rfl, rfl, rfl, p0⟩
      case round =>
        obtain ⟨k, hk', rfl, hok, pr⟩ := hrel
        obtain ⟨go, rfl⟩ : ∃ go, go = gk := ⟨_, rfl⟩
        clear p0
        by_cases hlt2 : k < 8
        · have e1 : (k : Int) < 8 := by omega
          have hLk : Hid (∀ W, Calls Tryz.prog 95 #[.string mem, .int .i64 (k : Int)] W fun e w' => e = .returned (.string (O0.recd mem (k : Int))) ∧ w' = W) := fun W => O1.l03Rec mem k W hms
          have hGk : Hid (∀ W, Calls Tryz.prog 39 #[.string (O0.recd mem (k : Int))] W fun e w' => ∃ (q o s : Int) (a : Option Addr) (n c : Nat), e = .returned (.tuple #[.agg #[.int .i64 q, .int .i64 o, .int .i64 s, .slice a n c], .bool (G0.isI (O0.recd mem (k : Int)))]) ∧ Below W.heap.size W w') := fun W => (G4.spec_GetInode _ W (O0.recd_size mem _ hms)).mono fun e w' ⟨a, c, he, ho, hc, hb⟩ => ⟨_, _, _, a, _, c, he, hb⟩
          have hcase := D1.node_cases mem (k : Int)
          have hLo : Hid (∀ W, Calls Tryz.prog 91 #[.string mem, .int .i64 (k : Int)] W fun e w' => ∃ (o s : Int) (a : Option Addr) (n c : Nat) (bb : Bool), e = .returned (.tuple #[.agg #[.int .i64 (G0.gK (O0.recd mem (k : Int))), .int .i64 o, .int .i64 s, .slice a n c], .string (O0.lD mem (k : Int)), .bool bb]) ∧ Below W.heap.size W w') := fun W => (O3.spec_Load mem (k : Int) W hms).mono fun e w' ⟨a, c, he, ho, hc, hb⟩ => ⟨_, _, a, _, c, _, by rw [← lK_eq hm]; exact he, hb⟩
          have hlD := fun h => lD_dir hm (k : Int) h
          have hKE : tE mem k = D1.nodeE mem (k : Int) := rfl
          have hfl : TR.flat (tE mem) (k + 1) = TR.flat (tE mem) k ++ (tE mem k).map fun e => (k, e) := rfl
          obtain ⟨rk, hrk⟩ : ∃ rk, O0.recd mem (k : Int) = rk := ⟨_, rfl⟩
          rw [hrk] at hLk hGk hcase hLo hlD
          obtain ⟨K, hK⟩ : ∃ K, G0.gK rk = K := ⟨_, rfl⟩
          rw [hK] at hcase hLo hlD
          obtain ⟨ld, hld⟩ : ∃ ld, O0.lD mem (k : Int) = ld := ⟨_, rfl⟩
          rw [hld] at hLo hlD
          have HBAD : Hid (D1.nodeOk mem (k : Int) = false → nodesOk mem = false) := fun h => N0.to_bad hlt2 h
          have HGOOD : Hid (D1.nodeOk mem (k : Int) = true → N0.to (fun i => D1.nodeOk mem (i : Int)) (k + 1) = true) := fun h => N0.to_step hok h
          clear hrk hK hld hok
          rcases hcase with ⟨gI, hp⟩ | ⟨gI, g2', hp, hE⟩ | ⟨gI, g2', hp, hE⟩
          · rw [gI] at hGk
            have HB2 : Hid (nodesOk mem = false) := HBAD.out hp
            clear gI hp HGOOD hlD hKE hfl
            go_wp2_with (first
              | (go_at_call 95; refine (hLk.out _).mono ?_; rintro e wq ⟨rfl, rfl⟩)
              | (go_at_call 39; refine (hGk.out _).mono ?_; rintro e w2 ⟨q, o, s, a, n, c, rfl, b2⟩; have l2 := (pr.below b2).bel.alloc (pr.below b2).bel.size (.cells #[.int .i64 q, .int .i64 o, .int .i64 s, .slice a n c] 69)))
            exact HN.out _ _ _ _ _ HB2.out l2
          · rw [gI] at hGk
            have HO : Hid (N0.to (fun i => D1.nodeOk mem (i : Int)) (k + 1) = true) := HGOOD.out hp
            have HFL : Hid (TR.flat (tE mem) (k + 1) = TR.flat (tE mem) k) := by
              show _ = _
              rw [hfl, hKE, hE]
              simp
            clear gI hp HBAD hlD hKE hfl hE
            go_wp2_with (first
              | (go_at_call 95; refine (hLk.out _).mono ?_; rintro e wq ⟨rfl, rfl⟩)
              | (go_at_call 39; refine (hGk.out _).mono ?_; rintro e w2 ⟨q, o, s, a, n, c, rfl, b2⟩; have p2 := (pr.below b2).below (K0.below_new w2 (.cells #[.int .i64 q, .int .i64 o, .int .i64 s, .slice a n c] 69)))
              | (go_at_call 91; refine (hLo.out _).mono ?_; rintro e w3 ⟨o3, s3, a3, n3, c3, bb3, rfl, b3⟩; have p3 := (p2.below b3).below (K0.below_new w3 (.cells #[.int .i64 K, .int .i64 o3, .int .i64 s3, .slice a3 n3 c3] 69)); have y0 := (K0.blk_new [.int .i64 K, .int .i64 o3, .int .i64 s3, .slice a3 n3 c3] w3 69).c0))
            go_roundg (go - 1)
            case measure => omega
            case rel => exact ⟨k + 1, by omega, by go_num, HO.out, by rw [HFL.out]; exact p3⟩
          · rw [gI] at hGk
            have hK2 : K = 2 := by simpa using g2'
            subst hK2
            have hdd := hlD rfl
            subst hdd
            have hdsz := D1.data_le mem (k : Int) hm
            have hGD : Hid (∀ W, Calls Tryz.prog 42 #[.string (D1.data mem (k : Int))] W fun e w' => ∃ a c, e = .returned (.tuple #[.slice a (tE mem k).length c, .bool (D1.nodeOk mem (k : Int))]) ∧ V1.OwnE W.heap.size w' a (tE mem k) ∧ Below W.heap.size W w') := fun W => by
              rw [hp, hKE, hE]
              exact (V3.spec_GetDir _ W hdsz).mono fun e w' ⟨a, c, he, ho, hc, hb⟩ => ⟨a, c, he, ho, hb⟩
            obtain ⟨dd, hdd⟩ : ∃ dd, D1.data mem (k : Int) = dd := ⟨_, rfl⟩
            rw [hdd] at hGD hLo
            clear gI g2' hp hE hKE hlD hdd hdsz
            cases hnk : D1.nodeOk mem (k : Int) with
            | false =>
              rw [hnk] at hGD
              have HB2 : Hid (nodesOk mem = false) := HBAD.out hnk
              clear HGOOD HBAD hnk hfl
              go_wp2_with (first
                | (go_at_call 95; refine (hLk.out _).mono ?_; rintro e wq ⟨rfl, rfl⟩)
                | (go_at_call 39; refine (hGk.out _).mono ?_; rintro e w2 ⟨q, o, s, a, n, c, rfl, b2⟩; have p2 := (pr.below b2).below (K0.below_new w2 (.cells #[.int .i64 q, .int .i64 o, .int .i64 s, .slice a n c] 69)))
                | (go_at_call 91; refine (hLo.out _).mono ?_; rintro e w3 ⟨o3, s3, a3, n3, c3, bb3, rfl, b3⟩; have p3 := (p2.below b3).below (K0.below_new w3 (.cells #[.int .i64 2, .int .i64 o3, .int .i64 s3, .slice a3 n3 c3] 69)); have y0 := (K0.blk_new [.int .i64 2, .int .i64 o3, .int .i64 s3, .slice a3 n3 c3] w3 69).c0)
                | (go_at_call 42; refine (hGD.out _).mono ?_; rintro e w4 ⟨a4, c4, rfl, o4, b4⟩; have p4 := p3.below b4))
              exact HN.out _ _ _ _ _ HB2.out p4.bel
            | true =>
              rw [hnk] at hGD
              have HO : Hid (N0.to (fun i => D1.nodeOk mem (i : Int)) (k + 1) = true) := HGOOD.out hnk
              clear HGOOD HBAD hnk
              go_wp2_with (first
                | (go_at_call 95; refine (hLk.out _).mono ?_; rintro e wq ⟨rfl, rfl⟩)
                | (go_at_call 39; refine (hGk.out _).mono ?_; rintro e w2 ⟨q, o, s, a, n, c, rfl, b2⟩; have p2 := (pr.below b2).below (K0.below_new w2 (.cells #[.int .i64 q, .int .i64 o, .int .i64 s, .slice a n c] 69)))
                | (go_at_call 91; refine (hLo.out _).mono ?_; rintro e w3 ⟨o3, s3, a3, n3, c3, bb3, rfl, b3⟩; have p3 := (p2.below b3).below (K0.below_new w3 (.cells #[.int .i64 2, .int .i64 o3, .int .i64 s3, .slice a3 n3 c3] 69)); have y0 := (K0.blk_new [.int .i64 2, .int .i64 o3, .int .i64 s3, .slice a3 n3 c3] w3 69).c0)
                | (go_at_call 42; refine (hGD.out _).mono ?_; rintro e w4 ⟨a4, c4, rfl, o4, b4⟩; have p4 := p3.below b4; have hb41 := p3.b1.lt; have hb42 := p3.b2.lt))
              obtain ⟨B0, hB0⟩ : ∃ B0, (w3.alloc (.cells #[.int .i64 2, .int .i64 o3, .int .i64 s3, .slice a3 n3 c3] 69)).heap.size = B0 := ⟨_, rfl⟩
              rw [hB0] at o4 hb41 hb42
              clear y0 p3 p2 b2 b3 b4 hB0 hGD hLo hGk hLk pr
              have pp : Pr w g1 g2 (TR.pre (tE mem) k 0) w4 := by rw [TR.pre_zero]; exact p4
              go_loopg [16] (tE mem k).length (fun gj i W => ∃ j : Nat, j + gj = (tE mem k).length ∧ i = .int .i64 j ∧ Pr w g1 g2 (TR.pre (tE mem) k j) W ∧ V1.OwnE B0 W a4 (tE mem k))
              case atStart => exact ⟨0, by omega, rfl, pp, o4⟩
              case round =>
                obtain ⟨j, hj, rfl, pr, oe⟩ := hrel
                clear pp p4 o4
                by_cases hjl : j < (tE mem k).length
                · have hfew : (tE mem k).length ≤ 12 := TW.few_ok mem (k : Int)
                  have hmem := TR.mem_ent hjl
                  have hin := (TW.sane_ok mem).ino k _ hmem
                  have hps := TR.pre_succ (tE mem) k j hjl
                  rcases oe with h0 | ⟨gE, ea, hgE, hkE⟩
                  · rw [h0] at hjl
                    exact absurd hjl (by simp)
                  subst ea
                  have z1 := (hkE.done j hjl).1
                  have z2 := (hkE.done j hjl).2
                  obtain ⟨x, hx⟩ : ∃ x : Nat, (T0.ent (tE mem k) j).1 = (x : Int) := ⟨(T0.ent (tE mem k) j).1.toNat, by omega⟩
                  obtain ⟨nm, hnm⟩ : ∃ nm, (T0.ent (tE mem k) j).2 = nm := ⟨_, rfl⟩
                  have hent : T0.ent (tE mem k) j = ((x : Int), nm) := by rw [← hx, ← hnm]
                  have HPS : Hid (TR.pre (tE mem) k (j + 1) = TR.pre (tE mem) k j ++ [(k, ((x : Int), nm))]) := by
                    show _ = _
                    rw [hps, hent]
                  rw [hx] at z1 hin
                  rw [hnm] at z2
                  have hx8 : x < 8 := by omega
                  have u1 := pr.par hx8
                  have u2 := pr.nam hx8
                  have f1 := pr.b1.free x (by rw [pv_length]; exact hx8)
                  have f2 := pr.b2.free x (by rw [nv_length]; exact hx8)
                  have d1 : (0 : Int) ≤ (j : Int) := by omega
                  have d2 : (j : Int) < ((tE mem k).length : Int) := by omega
                  have d3 : (0 : Int) ≤ (x : Int) := by omega
                  have d4 : (x : Int) < 8 := by omega
                  have HE : Hid (V1.OwnE B0 wr (some ⟨gE, 0, none⟩) (tE mem k)) := Or.inr ⟨gE, rfl, hgE, hkE⟩
                  have hne1 : g1 ≠ gE := by omega
                  have hne2 : g2 ≠ gE := by omega
                  by_cases hpar : TR.par (TR.pre (tE mem) k j) (x : Int) = -1
                  · have hq := pr.first (i := k) (nm := nm) hx8 hpar
                    have HQ : Hid (Pr w g1 g2 (TR.pre (tE mem) k (j + 1)) ((wr.setCell ⟨g1, x, none⟩ (.int .i64 (k : Int))).setCell ⟨g2, x, none⟩ (.string nm))) := by
                      show Pr _ _ _ _ _
                      rw [HPS.out]
                      exact hq
                    rw [hpar] at u1
                    have z1' : (wr.setCell ⟨g1, x, none⟩ (.int .i64 (k : Int))).cell? ⟨gE, j * 2, none⟩ = some (.int .i64 (x : Int)) := by rw [World.cell?_setCell_other _ _ _ _ (fun q => hne1 (Addr.mk.inj q).1)]; exact z1
                    have z2' : (wr.setCell ⟨g1, x, none⟩ (.int .i64 (k : Int))).cell? ⟨gE, j * 2 + 1, none⟩ = some (.string nm) := by rw [World.cell?_setCell_other _ _ _ _ (fun q => hne1 (Addr.mk.inj q).1)]; exact z2
                    have u2' : (wr.setCell ⟨g1, x, none⟩ (.int .i64 (k : Int))).cell? ⟨g2, x, none⟩ = some (.string (TR.nam (TR.pre (tE mem) k j) (x : Int))) := by rw [World.cell?_setCell_other _ _ _ _ (fun q => pr.ne (Addr.mk.inj q).1)]; exact u2
                    clear pr hq hpar hps hent hx hnm hmem hin hkE hfl
                    go_wp2
                    go_region
                    go_wp2
                    go_roundg (gk - 1)
                    case measure => omega
                    case rel => exact ⟨j + 1, by omega, by go_num, HQ.out.drew, (N5.ownE_set (N5.ownE_set HE.out hb41 x _) hb42 x _).below ((Below.refl _ _).drew)⟩
                  · have hq := pr.more (i := k) (nm := nm) hx8 hpar
                    have HQ : Hid (Pr w g1 g2 (TR.pre (tE mem) k (j + 1)) (wr.setCell ⟨g1, x, none⟩ (.int .i64 (-2)))) := by
                      show Pr _ _ _ _ _
                      rw [HPS.out]
                      exact hq
                    have hpar' : (TR.par (TR.pre (tE mem) k j) (x : Int) == -1) = false := by simpa using hpar
                    clear pr hq hpar hps hent hx hnm hmem hin hkE hfl
                    go_wp2
                    go_roundg (gk - 1)
                    case measure => omega
                    case rel => exact ⟨j + 1, by omega, by go_num, HQ.out, N5.ownE_set HE.out hb41 x _⟩
                · have hj0 : ¬ ((j : Int) < ((tE mem k).length : Int)) := by omega
                  have pfin : Pr w g1 g2 (TR.flat (tE mem) (k + 1)) wr := by
                    rw [← TR.pre_all, show (tE mem k).length = j by omega]
                    exact pr
                  clear pr oe
                  go_wp2
                  go_roundg (go - 1)
                  case measure => omega
                  case rel => exact ⟨k + 1, by omega, by go_num, HO.out, pfin⟩
        · obtain rfl : k = 8 := by omega
          have HO : Hid (nodesOk mem = true) := hok
          clear hok
          go_wp2
          exact HY.out _ _ _ _ _ HO.out pr
end Go.Proofs.YtdljajjgppcjpaaGreat.TS

/- The contract of readTree. -/
namespace Go.Proofs.YtdljajjgppcjpaaGreat.TW
open Go.ChangeShapes Go.WideShapes Go.ChangeAt Go.RowKit
set_option linter.unusedVariables false
set_option linter.unusedSimpArgs false
set_option maxRecDepth 10000
variable {B : Nat} {N : Nat → Nd} {F : Nat → Nat} {P : Nat → ByteArray} {w W W' : World} {mem : ByteArray}

set_option maxHeartbeats 4000000 in
theorem readTree (mem : ByteArray) (w : World) (hms : mem.size ≤ 281474976710656) : Calls Tryz.prog 99 #[.string mem] w (Ans mem w) := by
  have HN : Hid (∀ w', sound mem = false → Below w.heap.size w w' → Ans mem w (.returned (.tuple #[.pointer none, .bool false])) w') := fun w' h hb => ans_no h hb
  by_cases hm : mem.size = 768
  · have hz : sound mem = (headOk mem && (nodesOk mem && ((tK mem 0 == 2) && (decide (cat (tZ mem) 8).Nodup && TR.treeOk (tE mem) (tK mem))))) := by
      unfold sound
      rw [decide_eq_true hm, Bool.true_and]
    have hpt : Hid (∀ W, Calls Tryz.prog 17 #[.string mem, .int .i64 0, .int .i64 32] W fun e w' => e = .returned (.string (B2.part mem 0 32)) ∧ Below W.heap.size W w') := fun W => B2.impl_Part _ _ _ _ hms
    have hzr : Hid (∀ W, Calls Tryz.prog 27 #[.int .i64 32] W fun e w' => e = .returned (.string (B4.zeros 32)) ∧ Below W.heap.size W w') := fun W => B4.impl_Zeros 32 W
    have hwt : Hid (∀ W, Calls Tryz.prog 26 #[.string (B4.zeros 32), .int .i64 0, .string ⟨#[84, 78, 82, 49]⟩] W fun e w' => e = .returned (.string hd) ∧ Below W.heap.size W w') := fun W => by
      have := B5.impl_With (B4.zeros 32) 0 ⟨#[84, 78, 82, 49]⟩ W (by decide +kernel) (show 4 ≤ 281474976710656 by omega)
      rw [hd_laid] at this
      exact this
    have hho : headOk mem = ((B2.part mem 0 32).toList == hd.toList) := rfl
    obtain ⟨Q, hQ⟩ : ∃ Q, B2.part mem 0 32 = Q := ⟨_, rfl⟩
    obtain ⟨zz, hzz⟩ : ∃ zz, B4.zeros 32 = zz := ⟨_, rfl⟩
    obtain ⟨hh, hhh⟩ : ∃ hh, hd = hh := ⟨_, rfl⟩
    rw [hQ] at hpt hho
    rw [hhh] at hwt hho
    rw [hzz] at hzr hwt
    have e768 : ((mem.size : Int) != 768) = false := by simp; omega
    clear hQ hzz hhh
    cases hH : headOk mem with
    | false =>
      rw [hH] at hho
      rw [hH, Bool.false_and] at hz
      have hne : (Q.toList == hh.toList) = false := hho.symm
      clear hho hH
      go_enter Tryz.func99, Tryz.ntmps99
      go_wp2_with (first
        | (go_at_call 17; refine (hpt.out _).mono ?_; rintro e w1 ⟨rfl, b1⟩)
        | (go_at_call 27; refine (hzr.out _).mono ?_; rintro e w2 ⟨rfl, b2⟩)
        | (go_at_call 26; refine (hwt.out _).mono ?_; rintro e w3 ⟨rfl, b3⟩))
      go_ret2
      exact HN.out _ hz ((b1.trans (b2.mono b1.size)).trans (b3.mono (Nat.le_trans b1.size b2.size)))
    | true =>
      rw [hH] at hho
      rw [hH, Bool.true_and] at hz
      have hne : (Q.toList == hh.toList) = true := hho.symm
      have hz0 := (zero_of_info zeroTree).1
      have hrd0 : Hid (∀ W : World, Rd mem W 0 (fun _ => zeroN) (W.alloc (.cells zcells.toArray 169))) := fun W => rd_new mem W
      obtain ⟨ZC, hZC⟩ : ∃ ZC, zcells.toArray = ZC := ⟨_, rfl⟩
      rw [hZC] at hz0 hrd0
      have HZ : Hid (sound mem = (nodesOk mem && ((tK mem 0 == 2) && (decide (cat (tZ mem) 8).Nodup && TR.treeOk (tE mem) (tK mem))))) := hz
      clear hho hH hZC hz
      go_enter Tryz.func99, Tryz.ntmps99
      go_wp2_with (first
        | (go_at_call 17; refine (hpt.out _).mono ?_; rintro e w1 ⟨rfl, b1⟩)
        | (go_at_call 27; refine (hzr.out _).mono ?_; rintro e w2 ⟨rfl, b2⟩)
        | (go_at_call 26; refine (hwt.out _).mono ?_; rintro e w3 ⟨rfl, b3⟩))
      have l3 : Below w.heap.size w w3 := (b1.trans (b2.mono b1.size)).trans (b3.mono (Nat.le_trans b1.size b2.size))
      have r0 := hrd0.out w3
      clear b1 b2 b3 hpt hzr hwt hz0 hrd0 hne
      go_loopw [20] (fun i W => ∃ (k : Nat) (N : Nat → Nd), k ≤ 8 ∧ i = .int .i64 k ∧ N0.to (fun i => D1.nodeOk mem (i : Int)) k = true ∧ Rd mem w3 k N W) (fun i _ => 8 - (intOf i).toNat)
      case atStart => exact ⟨0, _, Nat.zero_le _, rfl, rfl, r0⟩
      case round =>
        obtain ⟨k, N, hk, rfl, hok, rd⟩ := hrel
        clear r0
        by_cases hlt : k < 8
        · have e1 : (0 : Int) ≤ (k : Int) := by omega
          have e2 : (k : Int) < 8 := by omega
          have hrn : Hid (∀ W, Calls Tryz.prog 126 #[.string mem, .int .i64 (k : Int)] W fun e w' => ∃ (q o t : Int) (a : Option Addr) (n c : Nat) (x : ByteArray) (ae : Option Addr) (ne ce : Nat), e = .returned (.tuple #[.agg #[.int .i64 q, .int .i64 o, .int .i64 t, .slice a n c, .string x, .slice ae ne ce], .bool (D1.nodeOk mem (k : Int))]) ∧ Below W.heap.size W w' ∧ (D1.nodeOk mem (k : Int) = true → ∀ B, B < W.heap.size → NdOk mem B k ⟨q, o, t, a, n, c, x, ae, ne, ce⟩ w')) := fun W =>
            (D1.readNode2 mem (k : Int) W hm).mono fun e w' ⟨q, o, t, a, n, c, x, ae, ne, ce, he, hb, hy⟩ => ⟨q, o, t, a, n, c, x, ae, ne, ce, he, hb, fun h B hB => by
              obtain ⟨h1, h2, h3, h4, h5, h6, h7, h8, h9⟩ := hy h
              exact ⟨h1, h2, h3, h4, h5.mono hB, h6, h7, h8.mono hB, h9⟩⟩
          cases hnk : D1.nodeOk mem (k : Int) with
          | false =>
            rw [hnk] at hrn
            have HR : Hid (sound mem = false) := by
              show sound mem = false
              rw [HZ.out, nodesOk, N0.to_bad hlt hnk, Bool.false_and]
            clear hnk hok hm
            go_wp2_with (go_at_call 126; refine (hrn.out _).mono ?_; rintro e w4 ⟨q, o, t, a, n, c, x, ae, ne, ce, rfl, b4, -⟩)
            go_ret2
            exact HN.out _ HR.out (l3.trans ((((rd.below b4).bel).alloc (Nat.le_trans rd.bel.size b4.size) _).mono l3.size))
          | true =>
            rw [hnk] at hrn
            have HO : Hid (N0.to (fun i => D1.nodeOk mem (i : Int)) (k + 1) = true) := N0.to_step hok hnk
            clear hnk hok hm
            go_wp2_with (go_at_call 126; refine (hrn.out _).mono ?_; rintro e w4 ⟨q, o, t, a, n, c, x, ae, ne, ce, rfl, b4, hy⟩)
            have rd5 := (rd.below b4).below (K0.below_new w4 (.cells #[.int .i64 q, .int .i64 o, .int .i64 t, .slice a n c, .string x, .slice ae ne ce] 164))
            have nd5 : NdOk mem w3.heap.size k ⟨q, o, t, a, n, c, x, ae, ne, ce⟩ (w4.alloc (.cells #[.int .i64 q, .int .i64 o, .int .i64 t, .slice a n c, .string x, .slice ae ne ce] 164)) := (hy (by trivial) w3.heap.size (rd.tb.lt)).below (K0.below_new w4 _)
            have rd6 := rd5.step hlt nd5
            have nb := K0.blk_new [.int .i64 q, .int .i64 o, .int .i64 t, .slice a n c, .string x, .slice ae ne ce] w4 164
            obtain ⟨v0, v1, v2, v3, v4, v5⟩ := D1.cells6 nb
            have hany := fun j hj => rd5.tb.any (k * 6 + j) (by omega : k * 6 + j < 64)
            obtain ⟨y0, u0⟩ := hany 0 (by omega)
            obtain ⟨y1, u1⟩ := hany 1 (by omega)
            obtain ⟨y2, u2⟩ := hany 2 (by omega)
            obtain ⟨y3, u3⟩ := hany 3 (by omega)
            obtain ⟨y4, u4⟩ := hany 4 (by omega)
            obtain ⟨y5, u5⟩ := hany 5 (by omega)
            have f0 := rd5.tb.free (k * 6) (by omega)
            have f1 := rd5.tb.free (k * 6 + 1) (by omega)
            have f2 := rd5.tb.free (k * 6 + 2) (by omega)
            have f3 := rd5.tb.free (k * 6 + 3) (by omega)
            have f4 := rd5.tb.free (k * 6 + 4) (by omega)
            have f5 := rd5.tb.free (k * 6 + 5) (by omega)
            rw [Nat.add_zero] at u0
            have HD : Hid (Rd mem w3 (k + 1) (upN N k ⟨q, o, t, a, n, c, x, ae, ne, ce⟩) (putN (w4.alloc (.cells #[.int .i64 q, .int .i64 o, .int .i64 t, .slice a n c, .string x, .slice ae ne ce] 164)) w3.heap.size k ⟨q, o, t, a, n, c, x, ae, ne, ce⟩)) := rd6
            clear rd5 nd5 rd6 nb hany hy rd b4 hrn
            go_region
            go_wp2
            go_roundw
            case rel => exact ⟨k + 1, _, by omega, by go_num, HO.out, HD.out.drew⟩
            case measure => simp [intOf]; omega
        · obtain rfl : k = 8 := by omega
          have hz : sound mem = ((tK mem 0 == 2) && (decide (cat (tZ mem) 8).Nodup && TR.treeOk (tE mem) (tK mem))) := by
            rw [HZ.out, nodesOk, hok, Bool.true_and]
          have x0 := rd.tb.kind (i := 0) (by decide)
          rw [(rd.nd 0 (by decide)).k, Nat.zero_mul] at x0
          have hpa := pagesApart wr rd.tb rd.ps
          have HR : Hid (Rd mem w3 8 N wr) := rd
          have e88 : decide ((8 : Int) < 8) = false := by decide
          have hbl := rd.bel
          by_cases hk2 : tK mem 0 = 2
          · have HW : Hid (∀ W, Below wr.heap.size wr W → Calls Tryz.prog 128 #[.pointer (some ⟨w3.heap.size, 0, none⟩)] W fun e w' => W.grownBy w' (some w3.heap.size) ∧ ((e = .returned (.bool false) ∧ TR.treeOk (tE mem) (tK mem) = false) ∨ (e = .returned (.bool true) ∧ ∃ F P, Tb w3.heap.size N F P w' ∧ TR.Inv (tE mem) (tK mem) [] F P ∧ ∀ x, F x ≤ 281474976710656))) := fun W hb => by
              have rd' := rd.below hb
              have := walk W rd'.tb rd'.ns ((rd.nd 0 (by decide)).k.trans hk2)
              rw [rd.kinds] at this
              exact this
            have HF : Hid (∀ W F P, Tb w3.heap.size N F P W → (∀ x, F x ≤ 281474976710656) → Calls Tryz.prog 129 #[.pointer (some ⟨w3.heap.size, 0, none⟩)] W fun e w' => e = .returned (.bool (TR.onceAll F (tK mem))) ∧ w' = W) := fun W F P h hF => by
              have := foundOnce W h (fun i _ => hF i)
              rw [rd.kinds] at this
              exact this
            rw [hk2] at x0
            rw [hk2, show ((2 : Int) == 2) = true from rfl, Bool.true_and] at hz
            have HK : Hid (tK mem 0 = 2) := hk2
            clear rd hok hk2
            cases hnd : decide (cat (tZ mem) 8).Nodup with
            | false =>
              rw [hnd] at hpa
              rw [hnd, Bool.false_and] at hz
              clear hnd
              go_wp2_with (go_at_call 127; refine hpa.mono ?_; rintro e w5 ⟨rfl, b5⟩)
              go_ret2
              exact HN.out _ hz (l3.trans ((hbl.trans (b5.mono hbl.size)).mono l3.size))
            | true =>
              rw [hnd] at hpa
              rw [hnd, Bool.true_and] at hz
              have HZ2 : Hid (sound mem = TR.treeOk (tE mem) (tK mem)) := hz
              clear hnd hz
              have HB : Hid (∀ w5 w6, Below wr.heap.size wr w5 → w5.grownBy w6 (some w3.heap.size) → Below w.heap.size w w6) := fun w5 w6 b5 g6 => l3.trans (((hbl.trans (b5.mono hbl.size)).trans (below_gr g6 (Nat.le_refl _) (Nat.le_trans hbl.size b5.size))).mono l3.size)
              cases hto : TR.treeOk (tE mem) (tK mem) with
              | true =>
                have HS : Hid (sound mem = true) := HZ2.out.trans hto
                go_wp2_with (first
                  | (go_at_call 127; refine hpa.mono ?_; rintro e w5 ⟨rfl, b5⟩)
                  | (go_at_call 128; refine (HW.out _ b5).mono ?_; rintro e w6 ⟨g6, h6⟩; have h7 := h6.resolve_left (fun q => by rw [hto] at q; exact absurd q.2 (by simp)); obtain ⟨rfl, F, P, t6, i6, hF6⟩ := h7; have hfo := HF.out w6 F P t6 hF6; rw [i6.done (sane_ok mem) HK.out, hto] at hfo)
                  | (go_at_call 129; refine hfo.mono ?_; rintro e w7 ⟨rfl, rfl⟩))
                go_ret2
                refine ans_yes HS.out (HB.out _ _ b5 g6) l3.size ⟨t6, fun i hi => ((HR.out.nd i hi).below b5).gr g6, i6⟩
              | false =>
                have HS : Hid (sound mem = false) := HZ2.out.trans hto
                have HW2 : Hid (∀ W, Below wr.heap.size wr W → Calls Tryz.prog 128 #[.pointer (some ⟨w3.heap.size, 0, none⟩)] W fun e w' => W.grownBy w' (some w3.heap.size) ∧ ((e = .returned (.bool false) ∧ TR.treeOk (tE mem) (tK mem) = false) ∨ (e = .returned (.bool true) ∧ ∃ F P, Tb w3.heap.size N F P w' ∧ TR.Inv (tE mem) (tK mem) [] F P ∧ ∀ x, F x ≤ 281474976710656))) := HW.out
                go_wp2_with (first
                  | (go_at_call 127; refine hpa.mono ?_; rintro e w5 ⟨rfl, b5⟩)
                  | (go_at_call 128; refine (HW2.out _ b5).mono ?_; rintro e w6 ⟨g6, h6⟩; rcases h6 with ⟨rfl, ht⟩ | ⟨rfl, F, P, t6, i6, hF6⟩))
                · go_ret2
                  exact HN.out _ HS.out (HB.out _ _ b5 g6)
                · have hfo := HF.out w6 F P t6 hF6
                  rw [i6.done (sane_ok mem) HK.out, hto] at hfo
                  go_wp2_with (go_at_call 129; refine hfo.mono ?_; rintro e w7 ⟨rfl, rfl⟩)
                  go_ret2
                  exact HN.out _ HS.out (HB.out _ _ b5 g6)
          · have hk2' : (tK mem 0 != 2) = true := by simpa using hk2
            rw [show (tK mem 0 == 2) = false by simpa using hk2, Bool.false_and] at hz
            clear rd hpa hok
            go_wp2
            go_ret2
            exact HN.out _ hz (l3.trans (hbl.mono l3.size))
  · have hz : sound mem = false := by
      unfold sound
      rw [decide_eq_false hm, Bool.false_and]
    have e768 : ((mem.size : Int) != 768) = true := by simp; omega
    clear hm
    go_enter Tryz.func99, Tryz.ntmps99
    go_wp2
    go_ret2
    exact HN.out _ hz (Below.refl _ _)
end Go.Proofs.YtdljajjgppcjpaaGreat.TW

/- The contracts of spec.Sound and impl.Sound. -/
namespace Go.Proofs.YtdljajjgppcjpaaGreat.TS
open Go.ChangeShapes Go.WideShapes Go.ChangeAt Go.RowKit
set_option linter.unusedVariables false
set_option linter.unusedSimpArgs false
set_option maxRecDepth 10000
variable {w W W' : World} {mem : ByteArray}
open J0 (IBuf Own)
open TW (tK tZ tE cat nodesOk sound headOk hd)

theorem cat_mem {Z : Nat → List Int} {z : Int} : ∀ {n : Nat}, z ∈ cat Z n → ∃ i, i < n ∧ z ∈ Z i
  | 0, h => by simp [cat] at h
  | n + 1, h => by
    rw [cat, List.mem_append] at h
    rcases h with h | h
    · obtain ⟨i, hi, hz⟩ := cat_mem h
      exact ⟨i, by omega, hz⟩
    · exact ⟨n, by omega, h⟩
theorem pages_eq (mem : ByteArray) : P0.pagesOk (cat (tZ mem) 8) = decide (cat (tZ mem) 8).Nodup := by
  have hr : ∀ z ∈ cat (tZ mem) 8, 5 ≤ z ∧ z ≤ 23 := by
    intro z hz
    obtain ⟨i, _, hi⟩ := cat_mem hz
    unfold tZ at hi
    cases hI : G0.isI (O0.recd mem (i : Int)) with
    | false =>
      rw [(G0.g_no hI).2.2.2] at hi
      simp at hi
    | true => exact (N0.pagesOk_iff.1 (O0.got hI).2.2.2.1).1 z hi
  apply Bool.eq_iff_iff.2
  rw [N0.pagesOk_iff, decide_eq_true_eq]
  exact ⟨fun h => h.2, fun h => ⟨hr, h⟩⟩
theorem par_zero (mem : ByteArray) : TR.par (TR.flat (tE mem) 8) 0 = -1 := by
  rw [TR.par_nil]
  unfold TR.own
  rw [List.filter_eq_nil_iff]
  intro p hp
  obtain ⟨i, e⟩ := p
  have := (TW.sane_ok mem).ino i e (TR.flat_mem.1 hp).2
  simp
  omega
theorem par_lt (mem : ByteArray) (x : Int) : TR.par (TR.flat (tE mem) 8) x < 8 := by
  rcases TR.par_ge (TR.flat (tE mem) 8) x with h | h | ⟨p, hp, h⟩
  · omega
  · omega
  · have hm : p ∈ TR.own (TR.flat (tE mem) 8) x := by rw [hp]; simp
    obtain ⟨i, e⟩ := p
    have := (TR.flat_mem.1 (List.mem_filter.1 hm).1).1
    rw [h]
    simp only
    omega

theorem treeOk_bad {E : Nat → List T0.Ent} {K : Nat → Int} {i : Nat} (h0 : 0 < i) (h8 : i < 8) (h : TR.oneOk E K i = false) : TR.treeOk E K = false := by
  cases h' : TR.treeOk E K with
  | false => rfl
  | true => rw [TR.treeOk_iff.1 h' i h0 h8] at h; cases h

set_option maxHeartbeats 4000000 in
theorem spec_Sound (mem : ByteArray) (w : World) (hms : mem.size ≤ 281474976710656) : Calls Tryz.prog 50 #[.string mem] w fun e w' => e = .returned (.bool (sound mem)) ∧ Below w.heap.size w w' := by
  by_cases hm : mem.size = 768
  · have hz : sound mem = (headOk mem && (nodesOk mem && ((tK mem 0 == 2) && (decide (cat (tZ mem) 8).Nodup && TR.treeOk (tE mem) (tK mem))))) := by
      unfold sound
      rw [decide_eq_true hm, Bool.true_and]
    have hpt : Hid (∀ W, Calls Tryz.prog 43 #[.string mem, .int .i64 0, .int .i64 32] W fun e w' => e = .returned (.string (B2.part mem 0 32)) ∧ w' = W) := fun W => B2.spec_Part _ _ _ _ (by unfold maxLen; omega) (by decide) (by decide)
    have hzr : Hid (∀ W, Calls Tryz.prog 33 #[.int .i64 28] W fun e w' => e = .returned (.string (B4.zeros 28)) ∧ w' = W) := fun W => B4.spec_Zeros 28 W
    have hzs : (B4.zeros 28).size = 28 := by decide +kernel
    have hadd : (⟨#[84, 78, 82, 49]⟩ : ByteArray) ++ B4.zeros 28 = hd := rfl
    have hho : headOk mem = ((B2.part mem 0 32).toList == hd.toList) := rfl
    obtain ⟨Q, hQ⟩ : ∃ Q, B2.part mem 0 32 = Q := ⟨_, rfl⟩
    obtain ⟨zz, hzz⟩ : ∃ zz, B4.zeros 28 = zz := ⟨_, rfl⟩
    obtain ⟨hh, hhh⟩ : ∃ hh, hd = hh := ⟨_, rfl⟩
    rw [hQ] at hpt hho
    rw [hhh] at hadd hho
    rw [hzz] at hzr hadd hzs
    have e768 : ((mem.size : Int) != 768) = false := by simp; omega
    have hsz1 : ¬ (9223372036854775807 < 4 + zz.size) := by omega
    clear hQ hzz hhh
    cases hH : headOk mem with
    | false =>
      rw [hH] at hho
      rw [hH, Bool.false_and] at hz
      have hne : (Q.toList == hh.toList) = false := hho.symm
      rw [hz]
      clear hho hH hz
      go_enter Tryz.func50, Tryz.ntmps50
      go_wp2_with (first
        | (go_at_call 43; refine (hpt.out _).mono ?_; rintro e w1 ⟨rfl, rfl⟩)
        | (go_at_call 33; refine (hzr.out _).mono ?_; rintro e w2 ⟨rfl, rfl⟩))
      go_ret
      exact ⟨rfl, Below.refl _ _⟩
    | true =>
      rw [hH] at hho
      rw [hH, Bool.true_and] at hz
      have hne : (Q.toList == hh.toList) = true := hho.symm
      have how : Hid (∀ W, Calls Tryz.prog 90 #[.string mem] W fun e w' => ∃ a c, e = .returned (.slice a (cat (tZ mem) 8).length c) ∧ (cat (tZ mem) 8).length ≤ c ∧ Own W.heap.size w' a (cat (tZ mem) 8) ∧ Below W.heap.size W w') := fun W => l04Owned mem W hms
      have hlen := TW.cat_len (TW.pg_few mem) 8
      have hpg : Hid (∀ W a c, (cat (tZ mem) 8).length ≤ c → P0.Row W a (cat (tZ mem) 8) → Calls Tryz.prog 89 #[.slice a (cat (tZ mem) 8).length c] W fun e w' => e = .returned (.bool (decide (cat (tZ mem) 8).Nodup)) ∧ ∃ n, w' = W.drewN n) := fun W a c hc hR => by
        rw [← pages_eq]
        exact P1.l03Pages a c _ W (by omega) hc hR
      obtain ⟨zs, hzs'⟩ : ∃ zs, cat (tZ mem) 8 = zs := ⟨_, rfl⟩
      rw [hzs'] at how hpg hz
      clear hho hH hlen hzs'
      cases hnd : decide zs.Nodup with
      | false =>
        rw [hnd] at hpg
        rw [hnd, Bool.false_and, Bool.and_false, Bool.and_false] at hz
        rw [hz]
        clear hnd hz
        go_enter Tryz.func50, Tryz.ntmps50
        go_wp2_with (first
          | (go_at_call 43; refine (hpt.out _).mono ?_; rintro e w1 ⟨rfl, rfl⟩)
          | (go_at_call 33; refine (hzr.out _).mono ?_; rintro e w2 ⟨rfl, rfl⟩)
          | (go_at_call 90; refine (how.out _).mono ?_; rintro e w3 ⟨a3, c3, rfl, hc3, o3, b3⟩)
          | (go_at_call 89; refine (hpg.out _ _ _ hc3 o3.row).mono ?_; rintro e w4 ⟨rfl, n4, rfl⟩))
        go_ret
        exact ⟨rfl, K0.below_drewN b3 n4⟩
      | true =>
        rw [hnd] at hpg
        rw [hnd, Bool.true_and] at hz
        have hpa : Hid (∀ W, Calls Tryz.prog 92 #[.string mem] W (Par mem W)) := fun W => l04Parents mem W hm
        have hPA : Hid (∀ W e w', Par mem W e w' → ∃ a1 c1 a2 c2, e = .returned (.tuple #[.slice a1 8 c1, .slice a2 8 c2, .bool (nodesOk mem)]) ∧ Below W.heap.size W w' ∧ (nodesOk mem = true → ∃ g1 g2, a1 = some ⟨g1, 0, none⟩ ∧ a2 = some ⟨g2, 0, none⟩ ∧ Pr W g1 g2 (TR.flat (tE mem) 8) w')) := fun W e w' h => h
        have hLo : Hid (∀ (k : Nat) W, Calls Tryz.prog 91 #[.string mem, .int .i64 (k : Int)] W fun e w' => ∃ (o s : Int) (a : Option Addr) (n c : Nat) (x : ByteArray) (bb : Bool), e = .returned (.tuple #[.agg #[.int .i64 (tK mem k), .int .i64 o, .int .i64 s, .slice a n c], .string x, .bool bb]) ∧ Below W.heap.size W w') := fun k W => (O3.spec_Load mem (k : Int) W hms).mono fun e w' ⟨a, c, he, ho, hc, hb⟩ => ⟨_, _, a, _, c, _, _, by rw [tK, ← lK_eq hm]; exact he, hb⟩
        have hL0 : Hid (∀ W, Calls Tryz.prog 91 #[.string mem, .int .i64 0] W fun e w' => ∃ (o s : Int) (a : Option Addr) (n c : Nat) (x : ByteArray) (bb : Bool), e = .returned (.tuple #[.agg #[.int .i64 (tK mem 0), .int .i64 o, .int .i64 s, .slice a n c], .string x, .bool bb]) ∧ Below W.heap.size W w') := fun W => hLo.out 0 W
        clear hnd
        cases hno : nodesOk mem with
        | false =>
          rw [hno] at hPA
          rw [hno, Bool.false_and] at hz
          rw [hz]
          clear hno hz hLo
          go_enter Tryz.func50, Tryz.ntmps50
          go_wp2_with (first
            | (go_at_call 43; refine (hpt.out _).mono ?_; rintro e w1 ⟨rfl, rfl⟩)
            | (go_at_call 33; refine (hzr.out _).mono ?_; rintro e w2 ⟨rfl, rfl⟩)
            | (go_at_call 90; refine (how.out _).mono ?_; rintro e w3 ⟨a3, c3, rfl, hc3, o3, b3⟩)
            | (go_at_call 89; refine (hpg.out _ _ _ hc3 o3.row).mono ?_; rintro e w4 ⟨rfl, n4, rfl⟩; have l4 := K0.below_drewN b3 n4)
            | (go_at_call 91; refine (hL0.out _).mono ?_; rintro e w5 ⟨o5, s5, a5, n5, c5, x5, bb5, rfl, b5⟩; have l5 := ((l4.trans (b5.mono l4.size)).alloc (Nat.le_trans l4.size b5.size) (.cells #[.int .i64 (tK mem 0), .int .i64 o5, .int .i64 s5, .slice a5 n5 c5] 69)))
            | (go_at_call 92; refine (hpa.out _).mono ?_; intro e w6 hans; obtain ⟨a6, c6, a7, c7, rfl, b6, -⟩ := hPA.out _ _ _ hans; clear hans))
          go_ret
          exact ⟨rfl, l5.trans (b6.mono l5.size)⟩
        | true =>
          rw [hno] at hPA
          rw [hno, Bool.true_and] at hz
          by_cases hk2 : tK mem 0 = 2
          · rw [hk2, show ((2 : Int) == 2) = true from rfl, Bool.true_and] at hz
            rw [hk2] at hL0
            have HZ : Hid (sound mem = TR.treeOk (tE mem) (tK mem)) := hz
            clear hno hz hk2
            go_enter Tryz.func50, Tryz.ntmps50
            go_wp2_with (first
              | (go_at_call 43; refine (hpt.out _).mono ?_; rintro e w1 ⟨rfl, rfl⟩)
              | (go_at_call 33; refine (hzr.out _).mono ?_; rintro e w2 ⟨rfl, rfl⟩)
              | (go_at_call 90; refine (how.out _).mono ?_; rintro e w3 ⟨a3, c3, rfl, hc3, o3, b3⟩)
              | (go_at_call 89; refine (hpg.out _ _ _ hc3 o3.row).mono ?_; rintro e w4 ⟨rfl, n4, rfl⟩; have l4 := K0.below_drewN b3 n4)
              | (go_at_call 91; refine (hL0.out _).mono ?_; rintro e w5 ⟨o5, s5, a5, n5, c5, x5, bb5, rfl, b5⟩; have l5 := ((l4.trans (b5.mono l4.size)).alloc (Nat.le_trans l4.size b5.size) (.cells #[.int .i64 2, .int .i64 o5, .int .i64 s5, .slice a5 n5 c5] 69)); have y5 := (K0.blk_new [.int .i64 2, .int .i64 o5, .int .i64 s5, .slice a5 n5 c5] w5 69))
              | (go_at_call 92; refine (hpa.out _).mono ?_; intro e w6 hans; obtain ⟨a6, c6, a7, c7, rfl, b6, hy6⟩ := hPA.out _ _ _ hans; clear hans; obtain ⟨g1, g2, rfl, rfl, pr6⟩ := hy6 (by trivial); clear hy6; have y6 := (y5.below b6).c0))
            obtain ⟨wa, hwa⟩ : ∃ wa, w5.alloc (.cells #[.int .i64 2, .int .i64 o5, .int .i64 s5, .slice a5 n5 c5] 69) = wa := ⟨_, rfl⟩
            rw [hwa] at pr6 l5
            clear y6 y5 b6 hwa b5 l4 hpg how hpt hzr hL0 hpa hPA o3 b3
            go_loopg [9] 7 (fun gk v W => ∃ k : Nat, 0 < k ∧ k + gk = 8 ∧ v = .int .i64 k ∧ (∀ i, 0 < i → i < k → TR.oneOk (tE mem) (tK mem) i = true) ∧ Pr wa g1 g2 (TR.flat (tE mem) 8) W)
            case atStart => exact ⟨1, by decide, rfl, rfl, fun i h0 h1 => by omega, pr6⟩
            case round =>
              obtain ⟨k, hk0, hkg, rfl, hall, pr⟩ := hrel
              clear pr6
              by_cases hlt : k < 8
              · have hLk : Hid (∀ W, Calls Tryz.prog 91 #[.string mem, .int .i64 (k : Int)] W fun e w' => ∃ (o s : Int) (a : Option Addr) (n c : Nat) (x : ByteArray) (bb : Bool), e = .returned (.tuple #[.agg #[.int .i64 (tK mem k), .int .i64 o, .int .i64 s, .slice a n c], .string x, .bool bb]) ∧ Below W.heap.size W w') := fun W => hLo.out k W
                have hone : TR.oneOk (tE mem) (tK mem) k = (((tK mem k == 0) == (TR.par (TR.flat (tE mem) 8) (k : Int) == -1)) && (tK mem k == 0 || TR.root (TR.par (TR.flat (tE mem) 8)) 8 (k : Int))) := rfl
                have HBAD : Hid (TR.oneOk (tE mem) (tK mem) k = false → sound mem = false) := fun h => by rw [HZ.out]; exact treeOk_bad hk0 hlt h
                have HGOOD : Hid (TR.oneOk (tE mem) (tK mem) k = true → ∀ i, 0 < i → i < k + 1 → TR.oneOk (tE mem) (tK mem) i = true) := fun h i h0 h1 => by
                  by_cases e : i = k
                  · rw [e]
                    exact h
                  · exact hall i h0 (by omega)
                have hRt : Hid (∀ W, Pr wa g1 g2 (TR.flat (tE mem) 8) W → Calls Tryz.prog 93 #[.slice (some ⟨g1, 0, none⟩) 8 c6, .int .i64 (k : Int)] W fun e w' => e = .returned (.bool (TR.root (TR.par (TR.flat (tE mem) 8)) 8 (k : Int))) ∧ w' = W) := fun W h => l04Root _ g1 c6 k W (par_lt mem) (fun x hx => h.par hx) (by omega)
                have e1 : (0 : Int) ≤ (k : Int) := by omega
                have e2 : (k : Int) < 8 := by omega
                obtain ⟨K, hK⟩ : ∃ K, tK mem k = K := ⟨_, rfl⟩
                obtain ⟨p, hp⟩ : ∃ p, TR.par (TR.flat (tE mem) 8) (k : Int) = p := ⟨_, rfl⟩
                obtain ⟨r, hr⟩ : ∃ r, TR.root (TR.par (TR.flat (tE mem) 8)) 8 (k : Int) = r := ⟨_, rfl⟩
                rw [hK] at hLk hone
                rw [hp] at hone
                rw [hr] at hone hRt
                have HP : Hid (TR.par (TR.flat (tE mem) 8) (k : Int) = p) := hp
                clear hK hp hr hall hLo
                go_wp2_with (go_at_call 91; refine (hLk.out _).mono ?_; rintro e w7 ⟨o7, s7, a7, n7, c7', x7, bb7, rfl, b7⟩; have p7 := (pr.below b7).below (K0.below_new w7 (.cells #[.int .i64 K, .int .i64 o7, .int .i64 s7, .slice a7 n7 c7'] 69)); have y7 := (K0.blk_new [.int .i64 K, .int .i64 o7, .int .i64 s7, .slice a7 n7 c7'] w7 69).c0)
                have u7 := p7.par hlt
                rw [HP.out] at u7
                clear hLk pr b7
                by_cases hKz : K = 0 <;> by_cases hpn : p = -1
                · subst hKz hpn
                  have HA := HGOOD.out (by rw [hone]; rfl)
                  have HA' : Hid (∀ i, 0 < i → i < k + 1 → TR.oneOk (tE mem) (tK mem) i = true) := HA
                  clear HA hone HBAD HGOOD
                  go_quiet (fail)
                  go_wp2
                  go_roundg (gk - 1)
                  case measure => omega
                  case rel => exact ⟨k + 1, by omega, by omega, by go_num, HA'.out, p7.drewN _⟩
                · subst hKz
                  have hpn' : (p == -1) = false := by simpa using hpn
                  have HB2 : Hid (sound mem = false) := HBAD.out (by rw [hone, hpn']; rfl)
                  clear hone HBAD HGOOD
                  go_quiet (fail)
                  go_wp2
                  go_ret
                  exact ⟨ret_bool HB2.out.symm, l5.trans ((K0.below_drewN p7.bel _).mono l5.size)⟩
                · subst hpn
                  have hKz' : (K == 0) = false := by simpa using hKz
                  have HB2 : Hid (sound mem = false) := HBAD.out (by rw [hone, hKz']; rfl)
                  clear hone HBAD HGOOD
                  go_quiet (fail)
                  go_wp2
                  go_ret
                  exact ⟨ret_bool HB2.out.symm, l5.trans ((K0.below_drewN p7.bel _).mono l5.size)⟩
                · have hpn' : (p == -1) = false := by simpa using hpn
                  have hKz' : (K == 0) = false := by simpa using hKz
                  have hKn : (K != 0) = true := by simpa using hKz
                  have hone' : TR.oneOk (tE mem) (tK mem) k = r := by rw [hone, hpn', hKz']; simp
                  clear hone
                  cases r with
                  | true =>
                    have HA' : Hid (∀ i, 0 < i → i < k + 1 → TR.oneOk (tE mem) (tK mem) i = true) := HGOOD.out hone'
                    clear hone' HBAD HGOOD
                    go_quiet ((go_at_call 93; exact Calls.quiet_of_same (hRt.out _ (p7.drewN _))))
                    go_wp2
                    go_roundg (gk - 1)
                    case measure => omega
                    case rel => exact ⟨k + 1, by omega, by omega, by go_num, HA'.out, p7.drewN _⟩
                  | false =>
                    have HB2 : Hid (sound mem = false) := HBAD.out hone'
                    clear hone' HBAD HGOOD
                    go_quiet ((go_at_call 93; exact Calls.quiet_of_same (hRt.out _ (p7.drewN _))))
                    go_wp2
                    go_ret
                    exact ⟨ret_bool HB2.out.symm, l5.trans ((K0.below_drewN p7.bel _).mono l5.size)⟩
              · obtain rfl : k = 8 := by omega
                have HS : Hid (sound mem = true) := by
                  show sound mem = true
                  rw [HZ.out]
                  exact TR.treeOk_iff.2 fun i h0 h8 => hall i h0 h8
                have u0 := pr.par (x := 0) (by decide)
                rw [show ((0 : Nat) : Int) = 0 from rfl, par_zero] at u0
                clear hall hLo
                go_wp2
                go_ret
                exact ⟨ret_bool HS.out.symm, l5.trans (pr.bel.mono l5.size)⟩
          · have hk2' : (tK mem 0 != 2) = true := by simpa using hk2
            rw [show (tK mem 0 == 2) = false by simpa using hk2, Bool.false_and] at hz
            rw [hz]
            clear hno hz hLo
            go_enter Tryz.func50, Tryz.ntmps50
            go_wp2_with (first
              | (go_at_call 43; refine (hpt.out _).mono ?_; rintro e w1 ⟨rfl, rfl⟩)
              | (go_at_call 33; refine (hzr.out _).mono ?_; rintro e w2 ⟨rfl, rfl⟩)
              | (go_at_call 90; refine (how.out _).mono ?_; rintro e w3 ⟨a3, c3, rfl, hc3, o3, b3⟩)
              | (go_at_call 89; refine (hpg.out _ _ _ hc3 o3.row).mono ?_; rintro e w4 ⟨rfl, n4, rfl⟩; have l4 := K0.below_drewN b3 n4)
              | (go_at_call 91; refine (hL0.out _).mono ?_; rintro e w5 ⟨o5, s5, a5, n5, c5, x5, bb5, rfl, b5⟩; have l5 := ((l4.trans (b5.mono l4.size)).alloc (Nat.le_trans l4.size b5.size) (.cells #[.int .i64 (tK mem 0), .int .i64 o5, .int .i64 s5, .slice a5 n5 c5] 69)); have y5 := (K0.blk_new [.int .i64 (tK mem 0), .int .i64 o5, .int .i64 s5, .slice a5 n5 c5] w5 69))
              | (go_at_call 92; refine (hpa.out _).mono ?_; intro e w6 hans; obtain ⟨a6, c6, a7, c7, rfl, b6, -⟩ := hPA.out _ _ _ hans; clear hans; have y6 := (y5.below b6).c0))
            go_ret
            exact ⟨rfl, l5.trans (b6.mono l5.size)⟩
  · have hz : sound mem = false := by
      unfold sound
      rw [decide_eq_false hm, Bool.false_and]
    have e768 : ((mem.size : Int) != 768) = true := by simp; omega
    rw [hz]
    clear hm hz
    go_enter Tryz.func50, Tryz.ntmps50
    go_wp2
    go_ret
    exact ⟨rfl, Below.refl _ _⟩
end Go.Proofs.YtdljajjgppcjpaaGreat.TS
