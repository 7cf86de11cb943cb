/- Joined texts: plain facts and contracts, as each part says. -/
import Derived.Test.YtddlpejklpljoaaJfL
import Derived.Deep.RegionLaw
import Derived.Deep.AppendLies
import Derived.Deep.RegionHeld3
import Derived.Deep.LoopGhost

/- The specification's tree: plain facts, rows that grow by one, l04Root and l04Owned. -/
namespace Go.Proofs.Ytddlpejklpljoaa.TS
open Go.ChangeShapes Go.WideShapes Go.ChangeAt Go.RowKit
set_option linter.unusedVariables false
set_option linter.unusedSimpArgs false
set_option maxRecDepth 10000
variable {w W W' : World} {mem : ByteArray}
open J0 (IBuf Own)
open I2 (ints)
open TW (tK tZ tE cat)

/-- 'list = append(list, x)', an element of one cell, and where the new list lies. -/
theorem append_one {ops : Array Oper} {rest : List Oper} {o : Oper} {A : Act} {Q : Exit → Act → World → Prop} {base g n cap : Nat} {xs : List Value} (T e : TypeId) (z : Value) (bytes : Nat) (hu : Try.prog.underlying T = some (.slice e)) (hinfo : (Try.prog.info? e).map (fun i => (i.zero, i.size, i.bytes)) = some (some z, 1, bytes)) (hzc : z.cells.size = 1) (hby : bytes ≤ 16)
    (hgd : o.guard = none) (sl y : Operand) (ho : o.op = .call { callee := .builtin .append, args := #[sl, y], argTypes := #[T, T] })
    (hbuf : w.ownsRow base e 1 (.slice (some ⟨g, 0, none⟩) n cap) n xs) (v : Value) (hv : v.oneCell' = true) (hs : A.eval sl = .slice (some ⟨g, 0, none⟩) n cap) {H : Nat} (hH : w.heap.size = H) (hx : A.eval y = .slice (some ⟨H, 0, none⟩) 1 1) (hlen : n + 1 ≤ 1048576) (hb : base ≤ w.heap.size)
    (h : ∀ g' cap' w', w'.ownsRow base e 1 (.slice (some ⟨g', 0, none⟩) (n + 1) cap') (n + 1) (xs ++ [v]) → w.grownBy w' (some g) → (g' = g ∨ w.heap.size ≤ g') → wpList Try.prog ops Q rest (A.put o.dst (.slice (some ⟨g', 0, none⟩) (n + 1) cap')) w') : wpList Try.prog ops Q (o :: rest) A (w.alloc (.cells #[v] e)) := by
  subst hH
  obtain ⟨i0, hi, hz0, hz1, hz2⟩ := info_parts hinfo
  have hb2 := hbuf.alloc (.cells #[v] e)
  have hone : ∀ u ∈ [v], u.oneCell' = true := by
    intro u hu
    simp at hu
    subst hu
    exact hv
  have hbb : (n + 1) * bytes ≤ 140737488355328 := Nat.le_trans (Nat.mul_le_mul hlen hby) (by decide)
  refine wpList_append_lies _ hgd sl y T ho base e i0 z 1 bytes hu hi hz0 hz1 hz2 hzc (by omega) _ n _ hs hb2 ⟨w.heap.size, 0, none⟩ 1 1 [v] hx rfl (World.news_of_block (heap_alloc_new w _)) hone (by omega) (by unfold maxLen; omega) hbb (by simp; omega) _ rfl ?_
  intro g' cap' w' ho' hg' hl' _
  refine h g' cap' w' ho' ((World.grownBy_alloc w _ _).trans hg') ?_
  rcases hl' with q | q
  · left
    have e' : g = g' := by simpa [Value.ownBlock] using q
    exact e'.symm
  · right
    rw [q]
    simp

theorem infoS : (Try.prog.info? 9).map (fun i => (i.zero, i.size, i.bytes)) = some (some (.string ⟨#[]⟩), 1, 16) := by kernel_rfl

theorem owns_blk {base g n cap : Nat} {e : TypeId} {xs : List Value} (h : w.ownsRow base e 1 (.slice (some ⟨g, 0, none⟩) n cap) n xs) : K0.Blk g xs w := by
  have hl : xs.length = n := by have := h.1; omega
  refine ⟨fun j hj => ?_, fun j hj => h.frozenAt j, (h.lt g rfl).2⟩
  rw [h.cellAt j (by omega), List.getElem?_eq_getElem hj]

/-- The rows of parents and names. -/
def pv (l : List (Nat × T0.Ent)) : List Value := (List.range 8).map fun (x : Nat) => .int .i64 (TR.par l (x : Int))
def nv (l : List (Nat × T0.Ent)) : List Value := (List.range 8).map fun (x : Nat) => .string (TR.nam l (x : Int))
theorem pv_length (l : List (Nat × T0.Ent)) : (pv l).length = 8 := by simp [pv]
theorem nv_length (l : List (Nat × T0.Ent)) : (nv l).length = 8 := by simp [nv]
theorem map_set {f : Nat → Value} {x : Nat} (v : Value) (hx : x < 8) : ((List.range 8).map f).set x v = (List.range 8).map fun y => if y = x then v else f y := by
  apply List.ext_getElem
  · simp
  · intro k h1 h2
    have hk : k < 8 := by simpa using h1
    rw [List.getElem_set]
    by_cases e : x = k
    · subst e
      simp
    · have e' : ¬ k = x := fun q => e q.symm
      simp [e, e']

theorem pv_first {l : List (Nat × T0.Ent)} {i x : Nat} {nm : ByteArray} (hx : x < 8) (h : TR.par l (x : Int) = -1) : (pv l).set x (.int .i64 (i : Int)) = pv (l ++ [(i, ((x : Int), nm))]) := by
  unfold pv
  rw [map_set _ hx]
  apply List.map_congr_left
  intro y _
  rw [TR.par_step]
  by_cases e : y = x
  · subst e
    rw [if_pos rfl, if_pos rfl, if_pos h]
  · have : ¬ ((x : Int) = (y : Int)) := by omega
    rw [if_neg e, if_neg this]
theorem pv_more {l : List (Nat × T0.Ent)} {i x : Nat} {nm : ByteArray} (hx : x < 8) (h : ¬ TR.par l (x : Int) = -1) : (pv l).set x (.int .i64 (-2)) = pv (l ++ [(i, ((x : Int), nm))]) := by
  unfold pv
  rw [map_set _ hx]
  apply List.map_congr_left
  intro y _
  rw [TR.par_step]
  by_cases e : y = x
  · subst e
    rw [if_pos rfl, if_pos rfl, if_neg h]
  · have : ¬ ((x : Int) = (y : Int)) := by omega
    rw [if_neg e, if_neg this]
theorem nv_first {l : List (Nat × T0.Ent)} {i x : Nat} {nm : ByteArray} (hx : x < 8) (h : TR.par l (x : Int) = -1) : (nv l).set x (.string nm) = nv (l ++ [(i, ((x : Int), nm))]) := by
  unfold nv
  rw [map_set _ hx]
  apply List.map_congr_left
  intro y _
  rw [TR.nam_step]
  by_cases e : y = x
  · subst e
    rw [if_pos rfl, if_pos ⟨rfl, h⟩]
  · have : ¬ ((x : Int) = (y : Int) ∧ TR.par l (y : Int) = -1) := fun q => by have := q.1; omega
    rw [if_neg e, if_neg this]
theorem nv_more {l : List (Nat × T0.Ent)} {i x : Nat} {nm : ByteArray} (h : ¬ TR.par l (x : Int) = -1) : nv l = nv (l ++ [(i, ((x : Int), nm))]) := by
  unfold nv
  apply List.map_congr_left
  intro y _
  rw [TR.nam_step]
  have : ¬ ((x : Int) = (y : Int) ∧ TR.par l (y : Int) = -1) := fun q => by
    have e : x = y := by have := q.1; omega
    subst e
    exact h q.2
  rw [if_neg this]
theorem pv_nil : pv [] = List.replicate 8 (.int .i64 (-1)) := rfl
theorem nv_nil : nv [] = List.replicate 8 (.string ⟨#[]⟩) := rfl

theorem ret_bool {a b : Bool} (h : a = b) : Ending.returned (.bool a) = .returned (.bool b) := by rw [h]

set_option maxHeartbeats 1000000 in
/-- l04Root over the row of parents. -/
theorem l04Root (p : Int → Int) (g c : Nat) (i : Int) (w : World) (hp : ∀ x, p x < 8) (hB : ∀ x : Nat, x < 8 → w.cell? ⟨g, x, none⟩ = some (.int .i64 (p (x : Int)))) (hi : i < 8) :
    Calls Try.prog 33 #[.slice (some ⟨g, 0, none⟩) 8 c, .int .i64 i] w fun e w' => e = .returned (.bool (TR.root p 8 i)) ∧ w' = w := by
  go_enter Try.func33, Try.ntmps33
  go_wp2
  go_loop [1, 5] (fun v n => ∃ (k : Nat) (j : Int), k ≤ 8 ∧ n = .int .i64 k ∧ v = .int .i64 j ∧ j < 8 ∧ TR.root p (8 - k) j = TR.root p 8 i) (fun _ n => 8 - (intOf n).toNat)
  case atStart => exact ⟨0, i, Nat.zero_le _, rfl, rfl, hi, rfl⟩
  case round =>
    obtain ⟨k, j, hk, rfl, rfl, hj, hr⟩ := hrel
    have HR : Hid (TR.root p (8 - k) j = TR.root p 8 i) := hr
    clear hr
    by_cases hlt : k < 8
    · have e1 : (k : Int) < 8 := by omega
      by_cases h0 : j = 0
      · subst h0
        go_wp2
        go_ret
        exact ⟨ret_bool (by rw [← HR.out, TR.root_zero]), rfl⟩
      · have h0' : (j == 0) = false := by simpa using h0
        by_cases hn : j < 0
        · go_wp2
          go_ret
          exact ⟨ret_bool (by rw [← HR.out, TR.root_neg _ _ _ hn]), rfl⟩
        · obtain ⟨x, rfl⟩ : ∃ x : Nat, j = (x : Int) := ⟨j.toNat, by omega⟩
          have hc := hB x (by omega)
          have hn' : decide ((x : Int) < 0) = false := by simp
          have b1 : (0 : Int) ≤ (x : Int) := by omega
          have b2 : (x : Int) < 8 := by omega
          have hq := hp (x : Int)
          have HS : Hid (TR.root p (8 - (k + 1)) (p (x : Int)) = TR.root p 8 i) := by
            show _ = _
            rw [← HR.out, show 8 - k = (8 - (k + 1)) + 1 by omega, TR.root_pos _ _ _ (by omega)]
          obtain ⟨q, eq⟩ : ∃ q, p (x : Int) = q := ⟨_, rfl⟩
          rw [eq] at hc hq HS
          clear eq hB hp
          go_wp2
          go_round
          case rel => exact ⟨k + 1, q, by omega, by go_num, rfl, hq, HS.out⟩
          case measure => simp [intOf]; omega
    · obtain rfl : k = 8 := by omega
      have hfin : (j == 0) = TR.root p 8 i := by rw [← HR.out]; rfl
      clear HR
      obtain ⟨r, er⟩ : ∃ r, TR.root p 8 i = r := ⟨_, rfl⟩
      rw [er] at hfin
      have HE : Hid (TR.root p 8 i = r) := er
      clear er
      go_wp2
      go_ret
      exact ⟨ret_bool HE.out.symm, rfl⟩

set_option maxHeartbeats 1000000 in
theorem l04Owned (mem : ByteArray) (w : World) (hms : mem.size ≤ 281474976710656) :
    Calls Try.prog 30 #[.string mem] w fun e w' => ∃ a c, e = .returned (.slice a (cat (tZ mem) 8).length c) ∧ (cat (tZ mem) 8).length ≤ c ∧ Own w.heap.size w' a (cat (tZ mem) 8) ∧ Below w.heap.size w w' := by
  have hG : Hid (∀ (k : Nat) W, Calls Try.prog 50 #[.string (O0.recd mem (k : Int))] W (G3.Ans (O0.recd mem (k : Int)) W)) := fun k W => G4.spec_GetInode _ W (O0.recd_size mem _ hms)
  have hA : Hid (∀ (k : Nat) W e w', G3.Ans (O0.recd mem (k : Int)) W e w' → ∃ (q o s : Int) (a : Option Addr) (c : Nat) (b : Bool), e = .returned (.tuple #[.agg #[.int .i64 q, .int .i64 o, .int .i64 s, .slice a (tZ mem k).length c], .bool b]) ∧ J0.Own W.heap.size w' a (tZ mem k) ∧ Below W.heap.size W w') := fun k W e w' ⟨a, c, he, ho, hc, hb⟩ => ⟨_, _, _, a, c, _, he, ho, hb⟩
  have hL : Hid (∀ (k : Nat) W, Calls Try.prog 51 #[.string mem, .int .i64 (k : Int)] W fun e w' => e = .returned (.string (O0.recd mem (k : Int))) ∧ w' = W) := fun k W => O1.l03Rec mem k W hms
  have hlen := TW.cat_len (TW.pg_few mem)
  have b0 := J0.ibuf_made (base := w.heap.size) w (Nat.le_refl _)
  have l0 := K0.below_new w (.cells #[] 3)
  go_enter Try.func30, Try.ntmps30
  go_wp2
  go_loopw [3, 4] (fun v i w' => ∃ (k n c : Nat) (a : Option Addr), k ≤ 8 ∧ i = .int .i64 k ∧ v = .slice a n c ∧ IBuf w.heap.size w' a n c (cat (tZ mem) k) ∧ Below w.heap.size w w') (fun _ i _ => 8 - (intOf i).toNat)
  case atStart => exact ⟨0, 0, 0, _, Nat.zero_le _, rfl, rfl, b0, l0⟩
  case round =>
    obtain ⟨k, n, c, a, hk, rfl, rfl, hbuf, hbel⟩ := hrel
    clear b0 l0
    by_cases hlt : k < 8
    · have e1 : (k : Int) < 8 := by omega
      have HS : Hid (cat (tZ mem) k ++ tZ mem k = cat (tZ mem) (k + 1)) := rfl
      have hnl : n ≤ 96 := by
        have := hlen k
        rw [hbuf.1]
        omega
      have hfew := TW.pg_few mem k
      have hLk := hL.out k
      have hGk := hG.out k
      have hAk : Hid (∀ W e w', G3.Ans (O0.recd mem (k : Int)) W e w' → ∃ (q o s : Int) (a : Option Addr) (c : Nat) (b : Bool), e = .returned (.tuple #[.agg #[.int .i64 q, .int .i64 o, .int .i64 s, .slice a (tZ mem k).length c], .bool b]) ∧ J0.Own W.heap.size w' a (tZ mem k) ∧ Below W.heap.size W w') := hA.out k
      obtain ⟨zk, hzk⟩ : ∃ zk, tZ mem k = zk := ⟨_, rfl⟩
      obtain ⟨rk, hrk⟩ : ∃ rk, O0.recd mem (k : Int) = rk := ⟨_, rfl⟩
      rw [hzk] at HS hfew hAk
      rw [hrk] at hLk hGk hAk
      clear hzk hrk hL hG hA
      go_wp2_with (first
        | (go_at_call 51; refine (hLk _).mono ?_; rintro e wq ⟨rfl, rfl⟩)
        | (go_at_call 50; refine (hGk _).mono ?_; intro e w2 hans; obtain ⟨q, o, s, a2, c2, bb, rfl, o2, b2⟩ := hAk.out _ _ _ hans; clear hans; have n2 := K0.below_new w2 (.cells #[.int .i64 q, .int .i64 o, .int .i64 s, .slice a2 zk.length c2] 45); have y3 := (K0.blk_new [.int .i64 q, .int .i64 o, .int .i64 s, .slice a2 zk.length c2] w2 45).c3; have bf2 := (hbuf.below b2).below n2; have r2 := (o2.row.below n2); have l2 := (hbel.trans (b2.mono hbel.size)).trans (n2.mono (Nat.le_trans hbel.size b2.size)))
        | (at_builtin; refine Q1.append_rows rfl (.tmp 19) (.tmp 21) rfl bf2 _ _ zk (by rfl) (by rfl) r2 (by omega) l2.size ?_; intro a3 c3 w3 bf3 b3))
      go_roundw
      case rel => exact ⟨k + 1, n + zk.length, c3, a3, by omega, by go_num, rfl, by rw [← HS.out]; exact bf3, l2.trans b3⟩
      case measure => simp [intOf]; omega
    · obtain rfl : k = 8 := by omega
      have hn : n = (cat (tZ mem) 8).length := hbuf.1
      subst hn
      go_wp2
      go_ret
      exact ⟨a, c, rfl, hbuf.fits, hbuf.own, hbel⟩
end Go.Proofs.Ytddlpejklpljoaa.TS

/- Files: plain facts, and a row of files that a call appends to. -/
namespace Go.Proofs.Ytddlpejklpljoaa.FI
open Go.ChangeShapes Go.WideShapes Go.ChangeAt Go.RowKit
set_option linter.unusedVariables false
set_option linter.unusedSimpArgs false
set_option maxRecDepth 10000
variable {w W W' : World} {mem : ByteArray}
open TW (tK tZ tE cat nodesOk sound)

structure Fl where
  ino : Int
  path : ByteArray
  kind : Int
  owner : Int
  data : ByteArray
def Fl.vals (f : Fl) : List Value := [.int .i64 f.ino, .string f.path, .int .i64 f.kind, .int .i64 f.owner, .string f.data]
def ffl : List Fl → List Value
  | [] => []
  | f :: r => f.vals ++ ffl r
theorem ffl_length : ∀ l : List Fl, (ffl l).length = l.length * 5
  | [] => rfl
  | f :: r => by rw [ffl, List.length_append, ffl_length r]; simp [Fl.vals]; omega
theorem ffl_append : ∀ l m : List Fl, ffl (l ++ m) = ffl l ++ ffl m
  | [], m => rfl
  | f :: r, m => by rw [List.cons_append, ffl, ffl, ffl_append r m, List.append_assoc]
theorem ffl_snoc (l : List Fl) (f : Fl) : ffl (l ++ [f]) = ffl l ++ f.vals := by rw [ffl_append]; simp [ffl]
def zf : Fl := ⟨0, ⟨#[]⟩, 0, 0, ⟨#[]⟩⟩
theorem ffl_get : ∀ (l : List Fl) (i j : Nat), i < l.length → j < 5 → (ffl l)[i * 5 + j]? = (l.getD i zf).vals[j]?
  | [], i, j, h, _ => by simp at h
  | f :: r, i, j, h, hj => by
    have hl : f.vals.length = 5 := rfl
    rw [ffl]
    cases i with
    | zero =>
      rw [List.getElem?_append_left (by rw [hl]; omega)]
      simp
    | succ i =>
      rw [List.getElem?_append_right (by rw [hl]; omega), hl, show (i + 1) * 5 + j - 5 = i * 5 + j by omega, ffl_get r i j (by simpa using h) hj]
      simp

/-- The cells of a row of files. -/
theorem file_cells {g : Nat} {l : List Fl} (h : K0.Blk g (ffl l) W) {i : Nat} (hi : i < l.length) :
    W.cell? ⟨g, i * 5, none⟩ = some (.int .i64 (l.getD i zf).ino) ∧ W.cell? ⟨g, i * 5 + 1, none⟩ = some (.string (l.getD i zf).path) ∧ W.cell? ⟨g, i * 5 + 2, none⟩ = some (.int .i64 (l.getD i zf).kind) ∧ W.cell? ⟨g, i * 5 + 3, none⟩ = some (.int .i64 (l.getD i zf).owner) ∧ W.cell? ⟨g, i * 5 + 4, none⟩ = some (.string (l.getD i zf).data) := by
  have hl := ffl_length l
  have key : ∀ j (hj : j < 5), W.cell? ⟨g, i * 5 + j, none⟩ = (l.getD i zf).vals[j]? := by
    intro j hj
    rw [h.cell (i * 5 + j) (by omega), ← ffl_get l i j hi hj, List.getElem?_eq_getElem (by omega)]
  exact ⟨key 0 (by decide), key 1 (by decide), key 2 (by decide), key 3 (by decide), key 4 (by decide)⟩

/-- A row of files of a call's own. -/
def FBuf (base : Nat) (w : World) (g n cap : Nat) (l : List Fl) : Prop := n = l.length ∧ w.ownsRow base 57 5 (.slice (some ⟨g, 0, none⟩) n cap) n (ffl l)
variable {base g n cap : Nat} {l : List Fl}
theorem FBuf.below (h : FBuf base w g n cap l) (hb : Below w.heap.size w W) : FBuf base W g n cap l := ⟨h.1, F0.owns_below h.2 hb⟩
theorem FBuf.alloc (h : FBuf base w g n cap l) (o : Obj) : FBuf base (w.alloc o) g n cap l := ⟨h.1, h.2.alloc o⟩
theorem FBuf.drew (h : FBuf base w g n cap l) : FBuf base w.drew g n cap l := h
theorem FBuf.blk (h : FBuf base w g n cap l) : K0.Blk g (ffl l) w := by
  have hl := h.2.1
  refine ⟨fun j hj => ?_, fun j hj => h.2.frozenAt j, (h.2.lt g rfl).2⟩
  rw [h.2.cellAt j (by omega), List.getElem?_eq_getElem hj]
theorem fbuf_new (w : World) (hb : base ≤ w.heap.size) : FBuf base (w.alloc (.cells #[] 57)) w.heap.size 0 0 [] := ⟨rfl, World.ownsRow_made w #[] 0 hb (Nat.zero_le _) rfl⟩
theorem infoFile : (Try.prog.info? 57).map (fun i => (i.zero, i.size, i.bytes)) = some (some (.agg #[.int .i64 0, .string ⟨#[]⟩, .int .i64 0, .int .i64 0, .string ⟨#[]⟩]), 5, 56) := by kernel_rfl
theorem one_file (f : Fl) : ∀ x ∈ f.vals, x.oneCell' = true := by
  intro x h
  simp [Fl.vals] at h
  rcases h with rfl | rfl | rfl | rfl | rfl <;> rfl

/-- 'files = append(files, File{..})', as a step of a region that draws its order. -/
theorem step_file {ops : Array Oper} {o : Oper} {A : Act} {K : Act → World → Prop} {Q : Exit → Act → World → Prop} {E : Prop} (hgd : o.guard = none) (sl x : Operand)
    (ho : o.op = .call { callee := .builtin .append, args := #[sl, x], argTypes := #[23, 23] })
    (hbuf : FBuf base w g n cap l) (f : Fl) (hs : A.eval sl = .slice (some ⟨g, 0, none⟩) n cap) {H : Nat} (hH : w.heap.size = H) (hx : A.eval x = .slice (some ⟨H, 0, none⟩) 1 1) (hlen : n + 1 ≤ 1048576) (hb : base ≤ w.heap.size)
    (h : ∀ g' cap' w', FBuf base w' g' (n + 1) cap' (l ++ [f]) → Below base w w' → w.grownBy w' (some g) → (g' = g ∨ w.heap.size ≤ g') → K (A.put o.dst (.slice (some ⟨g', 0, none⟩) (n + 1) cap')) w') :
    if Region.wanted o (yielded ops A.tmps) = true then Oper.wp Try.prog o A (w.alloc (.cells #[.int .i64 f.ino, .string f.path, .int .i64 f.kind, .int .i64 f.owner, .string f.data] 57)) K Q else E := by
  subst hH
  obtain ⟨i0, hi, hz0, hz1, hz2⟩ := info_parts infoFile
  have hb2 := hbuf.alloc (.cells #[.int .i64 f.ino, .string f.path, .int .i64 f.kind, .int .i64 f.owner, .string f.data] 57)
  refine step_append_lies _ hgd sl x 23 ho base 57 i0 (.agg #[.int .i64 0, .string ⟨#[]⟩, .int .i64 0, .int .i64 0, .string ⟨#[]⟩]) 5 56 Try.underlying23 hi hz0 hz1 hz2 rfl (by omega) _ n _ hs hb2.2 ⟨w.heap.size, 0, none⟩ 1 1 f.vals hx rfl (World.news_of_block (heap_alloc_new w _)) (one_file f) (by omega) (by unfold maxLen; omega) (by omega) (by simp; omega) _ rfl ?_
  intro g' cap' w' ho' hg' hl' _
  refine h g' cap' w' ⟨by rw [hbuf.1]; simp, ?_⟩ ?_ ?_ ?_
  · rw [ffl_snoc]
    exact ho'
  · exact F0.below_grown ((Below.refl _ _).alloc hb _) hg' (fun k hk => (hbuf.2.lt k hk).1) (by simp; omega)
  · exact (World.grownBy_alloc w _ _).trans hg'
  · rcases hl' with q | q
    · left
      have e' : g = g' := by simpa [Value.ownBlock] using q
      exact e'.symm
    · right
      rw [q]
      simp

/-- The way up, as the specification takes it. -/
def upq (p : Int → Int) (nm : Int → ByteArray) : Nat → Int → ByteArray → ByteArray
  | 0, _, out => out
  | n + 1, i, out => if 0 < i then upq p nm n (p i) ((⟨#[47]⟩ ++ nm i) ++ out) else out
def fpath (mem : ByteArray) (i : Nat) : ByteArray := TR.full (upq (TR.par (TR.flat (tE mem) 8)) (TR.nam (TR.flat (tE mem) 8)) 8 (i : Int) ⟨#[]⟩)

theorem up_of {E : Nat → List T0.Ent} {K : Nat → Int} (ht : TR.treeOk E K = true) (hS : TR.Sane E K) {x k : Nat} {q : ByteArray} (h : TR.At2 E x k q) : x < 8 ∧ ∀ m, k ≤ m → ∀ out, upq (TR.par (TR.flat E 8)) (TR.nam (TR.flat E 8)) m (x : Int) out = q ++ out := by
  induction h using TR.At2.ind with
  | zero =>
    refine ⟨by decide, fun m _ out => ?_⟩
    rw [TR.nil_app]
    cases m with
    | zero => rfl
    | succ m => rw [upq, if_neg (by decide)]
  | @down d k q x nm hd hm ih =>
    have hx := hS.ino _ _ hm
    simp only at hx
    refine ⟨by omega, fun m hk out => ?_⟩
    obtain ⟨m', rfl⟩ : ∃ m', m = m' + 1 := ⟨m - 1, by omega⟩
    obtain ⟨h1, h2⟩ := TR.par_of ht hS ih.1 hm
    simp only at h1 h2
    rw [upq, if_pos hx.1, h1, h2, ih.2 m' (by omega), TR.app_assoc, TR.app_assoc, TR.app_assoc]

theorem path_eq {F : Nat → Nat} {P : Nat → ByteArray} (h : TR.Inv (tE mem) (tK mem) [] F P) (hK0 : tK mem 0 = 2) (ht : TR.treeOk (tE mem) (tK mem) = true) {x : Nat} (hx : x < 8) (hk : tK mem x ≠ 0) :
    P x = fpath mem x ∧ ∃ k q, k ≤ 8 ∧ TR.At2 (tE mem) x k q ∧ fpath mem x = TR.full q := by
  obtain ⟨k, hk8, ha⟩ := TR.found_at h (TW.sane_ok mem) hK0 ht hx hk
  obtain ⟨q, hq, hp, _, _⟩ := TR.at_two (TW.sane_ok mem) ha
  have hu := (up_of ht (TW.sane_ok mem) hq).2 8 hk8 ⟨#[]⟩
  have hf : fpath mem x = TR.full q := by rw [fpath, hu, TR.app_nil]
  exact ⟨by rw [hf, hp], k, q, hk8, hq, hf⟩

/-- The files of the first inodes. -/
def flOf (mem : ByteArray) (P : Nat → ByteArray) (i : Nat) : Fl := ⟨(i : Int), P i, tK mem i, G0.gO (O0.recd mem (i : Int)), D1.nodeD mem (i : Int)⟩
def filesTo (mem : ByteArray) (P : Nat → ByteArray) : Nat → List Fl
  | 0 => []
  | i + 1 => filesTo mem P i ++ if tK mem i = 0 then [] else [flOf mem P i]
theorem filesTo_len (mem : ByteArray) (P : Nat → ByteArray) : ∀ i, (filesTo mem P i).length ≤ i
  | 0 => Nat.le_refl _
  | i + 1 => by
    have := filesTo_len mem P i
    rw [filesTo, List.length_append]
    split <;> simp <;> omega
theorem filesTo_congr {P P' : Nat → ByteArray} : ∀ i, (∀ x, x < i → tK mem x ≠ 0 → P x = P' x) → filesTo mem P i = filesTo mem P' i
  | 0, _ => rfl
  | i + 1, h => by
    rw [filesTo, filesTo, filesTo_congr i fun x hx hk => h x (by omega) hk]
    by_cases hk : tK mem i = 0
    · rw [if_pos hk, if_pos hk]
    · rw [if_neg hk, if_neg hk, flOf, flOf, h i (by omega) hk]
/-- What Files answers. -/
def files (mem : ByteArray) : List Fl := if sound mem = true then filesTo mem (fpath mem) 8 else []
theorem sound_parts (h : sound mem = true) : mem.size = 768 ∧ nodesOk mem = true ∧ tK mem 0 = 2 ∧ TR.treeOk (tE mem) (tK mem) = true := by
  unfold sound at h
  simp only [Bool.and_eq_true, decide_eq_true_eq, beq_iff_eq] at h
  exact ⟨h.1, h.2.2.1, h.2.2.2.1, h.2.2.2.2.2⟩
end Go.Proofs.Ytddlpejklpljoaa.FI

/- The contracts of the tree's files and of impl.Files. -/
namespace Go.Proofs.Ytddlpejklpljoaa.FI
open Go.ChangeShapes Go.WideShapes Go.ChangeAt Go.RowKit
set_option linter.unusedVariables false
set_option linter.unusedSimpArgs false
set_option maxRecDepth 10000
variable {w W W' : World} {mem : ByteArray} {B : Nat} {N : Nat → TW.Nd} {F : Nat → Nat} {P : Nat → ByteArray}
open TW (tK tZ tE cat nodesOk sound nds run_node)

set_option maxHeartbeats 4000000 in
theorem treeFiles (w : World) (hG : TW.Good mem B N F P w) :
    Calls Try.prog 36 #[.pointer (some ⟨B, 0, none⟩)] w fun e w' => ∃ g c, e = .returned (.slice (some ⟨g, 0, none⟩) (filesTo mem P 8).length c) ∧ w.heap.size ≤ g ∧ K0.Blk g (ffl (filesTo mem P 8)) w' ∧ Below w.heap.size w w' := by
  have hr := World.rangeAt_alloc hG.tb.range (.cells #[] 57)
  have hn48 : (nds N 8).length = 48 := TW.nds_length N 8
  have hix := fun i hi W => run_node N i hi W
  obtain ⟨C, hC⟩ : ∃ C, (nds N 8).toArray = C := ⟨_, rfl⟩
  have HC : Hid ((nds N 8).toArray = C) := hC
  rw [hC] at hix
  have HX : Hid (∀ i : Nat, i < 8 → ∀ W, (Instr.index 84 (.agg C) (.int .i64 (i : Int))).run Try.prog W = .ok (.agg #[.int .i64 (N i).k, .int .i64 (N i).o, .int .i64 (N i).s, .slice (N i).a (N i).n (N i).c, .string (N i).x, .slice (N i).ae (N i).ne (N i).ce]) W) := hix
  have b0 := fbuf_new (base := w.heap.size) w (Nat.le_refl _)
  have l0 := K0.below_new w (.cells #[] 57)
  have hlen := filesTo_len mem P
  have HG : Hid (TW.Good mem B N F P w) := hG
  clear hC hix hG
  go_enter Try.func36, Try.ntmps36
  go_wp2_with (refine wpList_load_mid rfl 84 (.tmp 9) rfl B 0 rfl _ _ hr Try.underlying84 rfl (by rw [TW.infoNodes, hn48]) ?_; rw [HC.out])
  clear hr
  go_loopw [3, 11] (fun v i w' => ∃ (k n c g : Nat), k ≤ 8 ∧ i = .int .i64 k ∧ v = .slice (some ⟨g, 0, none⟩) n c ∧ FBuf w.heap.size w' g n c (filesTo mem P k) ∧ Below w.heap.size w w') (fun _ i _ => 8 - (intOf i).toNat)
  case atStart => exact ⟨0, 0, 0, _, Nat.zero_le _, rfl, rfl, b0, l0⟩
  case round =>
    obtain ⟨k, n, c, g, hk, rfl, rfl, hbuf, hbel⟩ := hrel
    clear b0 l0
    by_cases hlt : k < 8
    · have hx := HX.out k hlt
      have hnd := HG.out.nd k hlt
      have x1 := (HG.out.tb.below hbel HG.out.tb.lt).pth k hlt
      have tb1 := (HG.out.tb.below hbel HG.out.tb.lt)
      have e1 : (0 : Int) ≤ (k : Int) := by omega
      have e2 : (k : Int) < 8 := by omega
      have hnl : n ≤ 8 := by
        have := hlen k
        rw [hbuf.1]
        omega
      have hkk := hnd.k
      have hoo := hnd.o
      have hxx := hnd.x
      have hst : filesTo mem P (k + 1) = filesTo mem P k ++ if tK mem k = 0 then [] else [flOf mem P k] := rfl
      have hfl : flOf mem P k = ⟨(k : Int), P k, tK mem k, G0.gO (O0.recd mem (k : Int)), D1.nodeD mem (k : Int)⟩ := rfl
      rw [← hoo, ← hxx, ← hkk] at hfl
      rw [← hkk] at hst
      obtain ⟨d, hd⟩ : ∃ d, N k = d := ⟨_, rfl⟩
      rw [hd] at hx hfl hst
      obtain ⟨pk, hpk⟩ : ∃ pk, P k = pk := ⟨_, rfl⟩
      rw [hpk] at x1 hfl
      have nl := K0.below_new wr (.cells #[.int .i64 d.k, .int .i64 d.o, .int .i64 d.s, .slice d.a d.n d.c, .string d.x, .slice d.ae d.ne d.ce] 83)
      have nb := K0.blk_new [.int .i64 d.k, .int .i64 d.o, .int .i64 d.s, .slice d.a d.n d.c, .string d.x, .slice d.ae d.ne d.ce] wr 83
      have hbuf1 := hbuf.below nl
      have hbel1 := hbel.trans (nl.mono hbel.size)
      have x2 := (nl.cell (p := ⟨B, 56 + k, none⟩) tb1.lt).trans x1
      obtain ⟨c0, c1, c2, c3, c4, c5⟩ := D1.cells6 nb
      clear hnd hd hpk tb1 hkk hoo hxx
      by_cases hz : d.k = 0
      · have HS : Hid (filesTo mem P (k + 1) = filesTo mem P k) := by
          show _ = _
          rw [hst, if_pos hz, List.append_nil]
        have hz' : (d.k != 0) = false := by simpa using hz
        clear hst hfl hz
        go_wp2
        go_roundw
        case rel => exact ⟨k + 1, n, c, g, by omega, by go_num, rfl, by rw [HS.out]; exact hbuf1, hbel1⟩
        case measure => simp [intOf]; omega
      · have HS : Hid (filesTo mem P (k + 1) = filesTo mem P k ++ [⟨(k : Int), pk, d.k, d.o, d.x⟩]) := by
          show _ = _
          rw [hst, if_neg hz, hfl]
        have hz' : (d.k != 0) = true := by simpa using hz
        clear hst hfl hz
        go_wp2
        have hbuf2 := hbuf1.drew
        have hbel2 := hbel1.drew
        have HGL : Hid (g < wr.heap.size ∧ B < wr.heap.size ∧ B < g) := ⟨(hbuf.2.lt g rfl).2, Nat.lt_of_lt_of_le HG.out.tb.lt hbel.size, Nat.lt_of_lt_of_le HG.out.tb.lt (hbuf.2.lt g rfl).1⟩
        obtain ⟨W0, hW0⟩ : ∃ W0, wr.alloc (.cells #[.int .i64 d.k, .int .i64 d.o, .int .i64 d.s, .slice d.a d.n d.c, .string d.x, .slice d.ae d.ne d.ce] 83) = W0 := ⟨_, rfl⟩
        have hs0 : W0.heap.size = wr.heap.size + 1 := by rw [← hW0]; simp
        rw [hW0] at hbuf2 hbel2 c0 c1 c4 x2 ⊢
        have hS0 : W0.drew.cell? ⟨B, 56 + k, none⟩ = some (.string pk) ∧ W0.drew.cell? ⟨wr.heap.size, 0, none⟩ = some (.int .i64 d.k) ∧ W0.drew.cell? ⟨wr.heap.size, 1, none⟩ = some (.int .i64 d.o) ∧ W0.drew.cell? ⟨wr.heap.size, 4, none⟩ = some (.string d.x) := ⟨x2, c0, c1, c4⟩
        have hnew := K0.below_new W0.drew (.cells #[.int .i64 (k : Int), .string pk, .int .i64 d.k, .int .i64 d.o, .string d.x] 57)
        have hS1 : (W0.drew.alloc (.cells #[.int .i64 (k : Int), .string pk, .int .i64 d.k, .int .i64 d.o, .string d.x] 57)).cell? ⟨B, 56 + k, none⟩ = some (.string pk) ∧ (W0.drew.alloc (.cells #[.int .i64 (k : Int), .string pk, .int .i64 d.k, .int .i64 d.o, .string d.x] 57)).cell? ⟨wr.heap.size, 0, none⟩ = some (.int .i64 d.k) ∧ (W0.drew.alloc (.cells #[.int .i64 (k : Int), .string pk, .int .i64 d.k, .int .i64 d.o, .string d.x] 57)).cell? ⟨wr.heap.size, 1, none⟩ = some (.int .i64 d.o) ∧ (W0.drew.alloc (.cells #[.int .i64 (k : Int), .string pk, .int .i64 d.k, .int .i64 d.o, .string d.x] 57)).cell? ⟨wr.heap.size, 4, none⟩ = some (.string d.x) := by
          have h1 : B < W0.drew.heap.size := by have := HGL.out.2.1; show B < W0.heap.size; omega
          have h2 : wr.heap.size < W0.drew.heap.size := by show wr.heap.size < W0.heap.size; omega
          exact ⟨(hnew.cell (p := ⟨B, 56 + k, none⟩) h1).trans hS0.1, (hnew.cell (p := ⟨wr.heap.size, 0, none⟩) h2).trans hS0.2.1, (hnew.cell (p := ⟨wr.heap.size, 1, none⟩) h2).trans hS0.2.2.1, (hnew.cell (p := ⟨wr.heap.size, 4, none⟩) h2).trans hS0.2.2.2⟩
        clear hW0 hnew nl nb c2 c3 c5 hbuf1 hbel1 hbuf hbel hx x1
        go_region_held3 (fun W => W.cell? ⟨B, 56 + k, none⟩ = some (.string pk) ∧ W.cell? ⟨wr.heap.size, 0, none⟩ = some (.int .i64 d.k) ∧ W.cell? ⟨wr.heap.size, 1, none⟩ = some (.int .i64 d.o) ∧ W.cell? ⟨wr.heap.size, 4, none⟩ = some (.string d.x)) (assumption) ((refine step_file rfl (.tmp 19) (.tmp 36) rfl hbuf2 ⟨(k : Int), pk, d.k, d.o, d.x⟩ (by rfl) (H := wr.heap.size + 1) hs0 (by rfl) (by omega) hbel2.size ?_; intro g3 c3' w3 bf3 b3 gr3 _; have hS3 : w3.cell? ⟨B, 56 + k, none⟩ = some (.string pk) ∧ w3.cell? ⟨wr.heap.size, 0, none⟩ = some (.int .i64 d.k) ∧ w3.cell? ⟨wr.heap.size, 1, none⟩ = some (.int .i64 d.o) ∧ w3.cell? ⟨wr.heap.size, 4, none⟩ = some (.string d.x) := ⟨gr3.cell hS0.1 (by have := HGL.out.2.2; simp; omega), gr3.cell hS0.2.1 (by have := HGL.out.1; simp; omega), gr3.cell hS0.2.2.1 (by have := HGL.out.1; simp; omega), gr3.cell hS0.2.2.2 (by have := HGL.out.1; simp; omega)⟩))
        go_wp2
        go_roundw
        case rel => exact ⟨k + 1, n + 1, c3', g3, by omega, by go_num, rfl, by rw [HS.out]; exact bf3, hbel2.trans b3⟩
        case measure => simp [intOf]; omega
    · obtain rfl : k = 8 := by omega
      have hn : n = (filesTo mem P 8).length := hbuf.1
      subst hn
      have HB : Hid (FBuf w.heap.size wr g (filesTo mem P 8).length c (filesTo mem P 8)) := hbuf
      clear hbuf HX HC
      go_wp2
      go_ret
      exact ⟨g, c, rfl, (HB.out.2.lt g rfl).1, HB.out.blk, hbel⟩

set_option maxHeartbeats 1000000 in
theorem impl_Files (mem : ByteArray) (w : World) (hms : mem.size ≤ 281474976710656) : Calls Try.prog 11 #[.string mem] w fun e w' => ∃ g c, e = .returned (.slice (some ⟨g, 0, none⟩) (files mem).length c) ∧ w.heap.size ≤ g ∧ K0.Blk g (ffl (files mem)) w' ∧ Below w.heap.size w w' := by
  have hr := TW.readTree mem w hms
  have hA : Hid (∀ e w', TW.Ans mem w e w' → ∃ p, e = .returned (.tuple #[.pointer p, .bool (sound mem)]) ∧ Below w.heap.size w w' ∧ (sound mem = true → ∃ B N F P, p = some ⟨B, 0, none⟩ ∧ w.heap.size ≤ B ∧ TW.Good mem B N F P w')) := fun e w' h => h
  cases hs : sound mem with
  | false =>
    rw [hs] at hA
    have hu : files mem = [] := by unfold files; rw [hs]; rfl
    rw [hu]
    clear hs hu
    go_enter Try.func11, Try.ntmps11
    go_wp2_with (go_at_call 34; refine hr.mono ?_; intro e w1 hans; obtain ⟨p, rfl, b1, -⟩ := hA.out _ _ hans; clear hans)
    go_ret
    exact ⟨_, _, rfl, b1.size, K0.blk_new [] w1 _, b1.alloc b1.size _⟩
  | true =>
    rw [hs] at hA
    obtain ⟨_, _, hK0, ht⟩ := sound_parts hs
    have hu : files mem = filesTo mem (fpath mem) 8 := by unfold files; rw [if_pos hs]
    have hp : Hid (∀ B N F P W, TW.Good mem B N F P W → Calls Try.prog 36 #[.pointer (some ⟨B, 0, none⟩)] W fun e w' => ∃ g c, e = .returned (.slice (some ⟨g, 0, none⟩) (files mem).length c) ∧ W.heap.size ≤ g ∧ K0.Blk g (ffl (files mem)) w' ∧ Below W.heap.size W w') := fun B N F P W h => by
      rw [hu, ← filesTo_congr 8 fun x hx hk => (path_eq h.inv hK0 ht hx hk).1]
      exact treeFiles W h
    clear hs hu hK0 ht
    go_enter Try.func11, Try.ntmps11
    go_wp2_with (first
      | (go_at_call 34; refine hr.mono ?_; intro e w1 hans; obtain ⟨p, rfl, b1, hy⟩ := hA.out _ _ hans; clear hans; obtain ⟨B, N, F, P, rfl, hB, hg⟩ := hy (by trivial); clear hy)
      | (go_at_call 36; refine (hp.out _ _ _ _ _ hg).mono ?_; rintro e w2 ⟨g2, c2, rfl, hg2, k2, b2⟩))
    go_ret
    exact ⟨g2, c2, rfl, Nat.le_trans b1.size hg2, k2, b1.trans (b2.mono b1.size)⟩
end Go.Proofs.Ytddlpejklpljoaa.FI

/- The contract of spec.l04Parents. -/
namespace Go.Proofs.Ytddlpejklpljoaa.TS
open Go.ChangeShapes Go.WideShapes Go.ChangeAt Go.RowKit
set_option linter.unusedVariables false
set_option linter.unusedSimpArgs false
set_option maxRecDepth 10000
variable {w W W' : World} {mem : ByteArray}
open J0 (IBuf Own)
open I2 (ints)
open TW (tK tZ tE cat nodesOk)

/-- The two rows while they are made. -/
structure Two (w : World) (k g1 c1 g2 c2 : Nat) (W : World) : Prop where
  o1 : W.ownsRow w.heap.size 3 1 (.slice (some ⟨g1, 0, none⟩) k c1) k (List.replicate k (.int .i64 (-1)))
  o2 : W.ownsRow w.heap.size 9 1 (.slice (some ⟨g2, 0, none⟩) k c2) k (List.replicate k (.string ⟨#[]⟩))
  ne : g1 ≠ g2
  bel : Below w.heap.size w W
theorem two_new (w : World) : Two w 0 w.heap.size 0 (w.heap.size + 1) 0 ((w.alloc (.cells #[] 3)).alloc (.cells #[] 9)) := by
  have h2 := World.ownsRow_made (base := w.heap.size) (e := 9) (size := 1) (w.alloc (.cells #[] 3)) #[] 0 (by simp) (Nat.zero_le _) rfl
  rw [World.size_alloc] at h2
  exact ⟨(World.ownsRow_made w #[] 0 (Nat.le_refl _) (Nat.zero_le _) rfl).alloc _, h2, by omega, ((Below.refl _ _).alloc (Nat.le_refl _) _).alloc (by simp) _⟩

/-- The two rows as the directories are read. -/
structure Pr (w : World) (g1 g2 : Nat) (l : List (Nat × T0.Ent)) (W : World) : Prop where
  b1 : K0.Blk g1 (pv l) W
  b2 : K0.Blk g2 (nv l) W
  ne : g1 ≠ g2
  lo : w.heap.size ≤ g1 ∧ w.heap.size ≤ g2
  bel : Below w.heap.size w W
variable {g1 g2 : Nat} {l : List (Nat × T0.Ent)}
theorem Pr.below (h : Pr w g1 g2 l W) (hb : Below W.heap.size W W') : Pr w g1 g2 l W' := ⟨h.b1.below hb, h.b2.below hb, h.ne, h.lo, h.bel.trans (hb.mono h.bel.size)⟩
theorem Pr.drew (h : Pr w g1 g2 l W) : Pr w g1 g2 l W.drew := ⟨h.b1.drew, h.b2.drew, h.ne, h.lo, h.bel.drew⟩
theorem Pr.drewN (h : Pr w g1 g2 l W) (n : Nat) : Pr w g1 g2 l (W.drewN n) := ⟨h.b1.drewN n, h.b2.drewN n, h.ne, h.lo, K0.below_drewN h.bel n⟩
theorem Two.pr {c1 c2 : Nat} (h : Two w 8 g1 c1 g2 c2 W) : Pr w g1 g2 [] W := by
  refine ⟨?_, ?_, h.ne, ⟨(h.o1.lt g1 rfl).1, (h.o2.lt g2 rfl).1⟩, h.bel⟩
  · rw [pv_nil]
    exact owns_blk h.o1
  · rw [nv_nil]
    exact owns_blk h.o2
theorem Pr.par (h : Pr w g1 g2 l W) {x : Nat} (hx : x < 8) : W.cell? ⟨g1, x, none⟩ = some (.int .i64 (TR.par l (x : Int))) := by
  rw [h.b1.cell x (by rw [pv_length]; exact hx)]
  simp [pv]
theorem Pr.nam (h : Pr w g1 g2 l W) {x : Nat} (hx : x < 8) : W.cell? ⟨g2, x, none⟩ = some (.string (TR.nam l (x : Int))) := by
  rw [h.b2.cell x (by rw [nv_length]; exact hx)]
  simp [nv]
theorem Pr.first (h : Pr w g1 g2 l W) {i x : Nat} {nm : ByteArray} (hx : x < 8) (hp : TR.par l (x : Int) = -1) : Pr w g1 g2 (l ++ [(i, ((x : Int), nm))]) ((W.setCell ⟨g1, x, none⟩ (.int .i64 (i : Int))).setCell ⟨g2, x, none⟩ (.string nm)) := by
  refine ⟨?_, ?_, h.ne, h.lo, (h.bel.setCell (p := ⟨g1, x, none⟩) h.lo.1 _).setCell (p := ⟨g2, x, none⟩) h.lo.2 _⟩
  · rw [← pv_first hx hp]
    exact (h.b1.set x _).setOther h.ne.symm x _
  · rw [← nv_first hx hp]
    exact (h.b2.setOther h.ne x _).set x _
theorem Pr.more (h : Pr w g1 g2 l W) {i x : Nat} {nm : ByteArray} (hx : x < 8) (hp : ¬ TR.par l (x : Int) = -1) : Pr w g1 g2 (l ++ [(i, ((x : Int), nm))]) (W.setCell ⟨g1, x, none⟩ (.int .i64 (-2))) := by
  refine ⟨?_, ?_, h.ne, h.lo, h.bel.setCell (p := ⟨g1, x, none⟩) h.lo.1 _⟩
  · rw [← pv_more hx hp]
    exact h.b1.set x _
  · rw [← nv_more hp]
    exact h.b2.setOther h.ne x _

theorem lK_eq (hm : mem.size = 768) (i : Int) : O0.lK mem i = G0.gK (O0.recd mem i) := by
  unfold O0.lK
  cases h : O0.isL mem i with
  | true => rfl
  | false =>
    unfold O0.isL at h
    rw [decide_eq_true hm, Bool.true_and] at h
    cases hI : G0.isI (O0.recd mem i) with
    | false => rw [(G0.g_no hI).1]; rfl
    | true =>
      rw [hI, Bool.true_and] at h
      have h0 : B1.byteAt (O0.recd mem i) 0 = 0 := by simpa using h
      rw [(G0.g_yes hI).1, h0]
      rfl
theorem lD_dir (hm : mem.size = 768) (i : Int) (h2 : G0.gK (O0.recd mem i) = 2) : O0.lD mem i = D1.data mem i := by
  have h := lK_eq hm i
  rw [h2] at h
  cases hL : O0.isL mem i with
  | false => rw [(O0.l_no hL).1] at h; exact absurd h (by decide)
  | true => exact (O0.l_yes hL).2.2.2.2

/-- What l04Parents answers. -/
def Par (mem : ByteArray) (w : World) (e : Ending) (w' : World) : Prop :=
  ∃ a1 c1 a2 c2, e = .returned (.tuple #[.slice a1 8 c1, .slice a2 8 c2, .bool (nodesOk mem)]) ∧ Below w.heap.size w w' ∧ (nodesOk mem = true → ∃ g1 g2, a1 = some ⟨g1, 0, none⟩ ∧ a2 = some ⟨g2, 0, none⟩ ∧ Pr w g1 g2 (TR.flat (tE mem) 8) w')

set_option maxHeartbeats 4000000 in
theorem l04Parents (mem : ByteArray) (w : World) (hm : mem.size = 768) : Calls Try.prog 32 #[.string mem] w (Par mem w) := by
  have hms : mem.size ≤ 281474976710656 := by omega
  have HN : Hid (∀ g1 c1 g2 c2 w', nodesOk mem = false → Below w.heap.size w w' → Par mem w (.returned (.tuple #[.slice (some ⟨g1, 0, none⟩) 8 c1, .slice (some ⟨g2, 0, none⟩) 8 c2, .bool false])) w') := fun g1 c1 g2 c2 w' h hb => ⟨_, _, _, _, by rw [h], hb, fun h' => by rw [h] at h'; cases h'⟩
  have HY : Hid (∀ g1 c1 g2 c2 w', nodesOk mem = true → Pr w g1 g2 (TR.flat (tE mem) 8) w' → Par mem w (.returned (.tuple #[.slice (some ⟨g1, 0, none⟩) 8 c1, .slice (some ⟨g2, 0, none⟩) 8 c2, .bool true])) w') := fun g1 c1 g2 c2 w' h hp => ⟨_, _, _, _, by rw [h], hp.bel, fun _ => ⟨g1, g2, rfl, rfl, hp⟩⟩
  have t0 := two_new w
  obtain ⟨R, hR⟩ : ∃ R, Par mem w = R := ⟨_, rfl⟩
  rw [hR] at HN HY ⊢
  clear hR
  go_enter Try.func32, Try.ntmps32
  go_wp2
  go_loopw [5, 6, 7] (fun v u i w' => ∃ (k g1 c1 g2 c2 : Nat), k ≤ 8 ∧ i = .int .i64 k ∧ v = .slice (some ⟨g1, 0, none⟩) k c1 ∧ u = .slice (some ⟨g2, 0, none⟩) k c2 ∧ Two w k g1 c1 g2 c2 w') (fun _ _ i _ => 8 - (intOf i).toNat)
  case atStart => exact ⟨0, _, _, _, _, Nat.zero_le _, rfl, rfl, rfl, t0⟩
  case round =>
    obtain ⟨k, g1, c1, g2, c2, hk, rfl, rfl, rfl, tw⟩ := hrel
    clear t0
    by_cases hlt : k < 8
    · have e1 : (k : Int) < 8 := by omega
      have hg1 := tw.o1.lt g1 rfl
      have hg2 := tw.o2.lt g2 rfl
      have HG : Hid ((w.heap.size ≤ g1 ∧ g1 < wr.heap.size) ∧ (w.heap.size ≤ g2 ∧ g2 < wr.heap.size)) := ⟨hg1, hg2⟩
      clear hg1 hg2
      go_wp2_with (first
        | (at_builtin; refine append_one 48 9 (.string ⟨#[]⟩) 16 Try.underlying48 infoS rfl (by decide) rfl (.tmp 26) (.tmp 27) rfl o2' (.string ⟨#[]⟩) rfl (by rfl) rfl (by rfl) (by omega) l2.size ?_; intro g4 c4 w4 o4 gr4 q4)
        | (at_builtin; refine append_one 29 3 (.int .i64 0) 8 Try.underlying29 I2.info3 rfl (by decide) rfl (.tmp 23) (.tmp 24) rfl tw.o1 (.int .i64 (-1)) rfl (by rfl) rfl (by rfl) (by omega) tw.bel.size ?_; intro g3 c3 w3 o3 gr3 q3; have o2' := tw.o2.kept gr3 (Or.inr (by simpa [Value.ownBlock] using tw.ne.symm)); have l2 := tw.bel.trans (TW.below_gr gr3 (HG.out.1.1) tw.bel.size)))
      have hG := HG.out
      have o3' := o3.kept gr4 (Or.inr (by
        simp only [Value.ownBlock, ne_eq, Option.some.injEq]
        rcases q3 with e | e
        · rw [e]
          exact tw.ne
        · omega))
      go_roundw
      case rel =>
        refine ⟨k + 1, g3, c3, g4, c4, by omega, by go_num, rfl, rfl, ⟨by rw [List.replicate_succ']; exact o3', by rw [List.replicate_succ']; exact o4, ?_, l2.trans (TW.below_gr gr4 hG.2.1 l2.size)⟩⟩
        have h3 := (o3.lt g3 rfl).2
        rcases q3 with e | e <;> rcases q4 with e' | e'
        · rw [e, e']
          exact tw.ne
        · omega
        · omega
        · omega
      case measure => simp [intOf]; omega
    · obtain rfl : k = 8 := by omega
      have p0 := tw.pr
      clear tw
      go_wp2
      go_loopg [8] 8 (fun gk i W => ∃ k : Nat, k + gk = 8 ∧ i = .int .i64 k ∧ N0.to (fun i => D1.nodeOk mem (i : Int)) k = true ∧ Pr w g1 g2 (TR.flat (tE mem) k) W)
      case atStart => exact ⟨0, rfl, rfl, rfl, p0⟩
      case round =>
        obtain ⟨k, hk', rfl, hok, pr⟩ := hrel
        obtain ⟨go, rfl⟩ : ∃ go, go = gk := ⟨_, rfl⟩
        clear p0
        by_cases hlt2 : k < 8
        · have e1 : (k : Int) < 8 := by omega
          have hLk : Hid (∀ W, Calls Try.prog 51 #[.string mem, .int .i64 (k : Int)] W fun e w' => e = .returned (.string (O0.recd mem (k : Int))) ∧ w' = W) := fun W => O1.l03Rec mem k W hms
          have hGk : Hid (∀ W, Calls Try.prog 50 #[.string (O0.recd mem (k : Int))] W fun e w' => ∃ (q o s : Int) (a : Option Addr) (n c : Nat), e = .returned (.tuple #[.agg #[.int .i64 q, .int .i64 o, .int .i64 s, .slice a n c], .bool (G0.isI (O0.recd mem (k : Int)))]) ∧ Below W.heap.size W w') := fun W => (G4.spec_GetInode _ W (O0.recd_size mem _ hms)).mono fun e w' ⟨a, c, he, ho, hc, hb⟩ => ⟨_, _, _, a, _, c, he, hb⟩
          have hcase := D1.node_cases mem (k : Int)
          have hLo : Hid (∀ W, Calls Try.prog 31 #[.string mem, .int .i64 (k : Int)] W fun e w' => ∃ (o s : Int) (a : Option Addr) (n c : Nat) (bb : Bool), e = .returned (.tuple #[.agg #[.int .i64 (G0.gK (O0.recd mem (k : Int))), .int .i64 o, .int .i64 s, .slice a n c], .string (O0.lD mem (k : Int)), .bool bb]) ∧ Below W.heap.size W w') := fun W => (O3.spec_Load mem (k : Int) W hms).mono fun e w' ⟨a, c, he, ho, hc, hb⟩ => ⟨_, _, a, _, c, _, by rw [← lK_eq hm]; exact he, hb⟩
          have hlD := fun h => lD_dir hm (k : Int) h
          have hKE : tE mem k = D1.nodeE mem (k : Int) := rfl
          have hfl : TR.flat (tE mem) (k + 1) = TR.flat (tE mem) k ++ (tE mem k).map fun e => (k, e) := rfl
          obtain ⟨rk, hrk⟩ : ∃ rk, O0.recd mem (k : Int) = rk := ⟨_, rfl⟩
          rw [hrk] at hLk hGk hcase hLo hlD
          obtain ⟨K, hK⟩ : ∃ K, G0.gK rk = K := ⟨_, rfl⟩
          rw [hK] at hcase hLo hlD
          obtain ⟨ld, hld⟩ : ∃ ld, O0.lD mem (k : Int) = ld := ⟨_, rfl⟩
          rw [hld] at hLo hlD
          have HBAD : Hid (D1.nodeOk mem (k : Int) = false → nodesOk mem = false) := fun h => N0.to_bad hlt2 h
          have HGOOD : Hid (D1.nodeOk mem (k : Int) = true → N0.to (fun i => D1.nodeOk mem (i : Int)) (k + 1) = true) := fun h => N0.to_step hok h
          clear hrk hK hld hok
          rcases hcase with ⟨gI, hp⟩ | ⟨gI, g2', hp, hE⟩ | ⟨gI, g2', hp, hE⟩
          · rw [gI] at hGk
            have HB2 : Hid (nodesOk mem = false) := HBAD.out hp
            clear gI hp HGOOD hlD hKE hfl
            go_wp2_with (first
              | (go_at_call 51; refine (hLk.out _).mono ?_; rintro e wq ⟨rfl, rfl⟩)
              | (go_at_call 50; refine (hGk.out _).mono ?_; rintro e w2 ⟨q, o, s, a, n, c, rfl, b2⟩; have l2 := (pr.below b2).bel.alloc (pr.below b2).bel.size (.cells #[.int .i64 q, .int .i64 o, .int .i64 s, .slice a n c] 45)))
            exact HN.out _ _ _ _ _ HB2.out l2
          · rw [gI] at hGk
            have HO : Hid (N0.to (fun i => D1.nodeOk mem (i : Int)) (k + 1) = true) := HGOOD.out hp
            have HFL : Hid (TR.flat (tE mem) (k + 1) = TR.flat (tE mem) k) := by
              show _ = _
              rw [hfl, hKE, hE]
              simp
            clear gI hp HBAD hlD hKE hfl hE
            go_wp2_with (first
              | (go_at_call 51; refine (hLk.out _).mono ?_; rintro e wq ⟨rfl, rfl⟩)
              | (go_at_call 50; refine (hGk.out _).mono ?_; rintro e w2 ⟨q, o, s, a, n, c, rfl, b2⟩; have p2 := (pr.below b2).below (K0.below_new w2 (.cells #[.int .i64 q, .int .i64 o, .int .i64 s, .slice a n c] 45)))
              | (go_at_call 31; refine (hLo.out _).mono ?_; rintro e w3 ⟨o3, s3, a3, n3, c3, bb3, rfl, b3⟩; have p3 := (p2.below b3).below (K0.below_new w3 (.cells #[.int .i64 K, .int .i64 o3, .int .i64 s3, .slice a3 n3 c3] 45)); have y0 := (K0.blk_new [.int .i64 K, .int .i64 o3, .int .i64 s3, .slice a3 n3 c3] w3 45).c0))
            go_roundg (go - 1)
            case measure => omega
            case rel => exact ⟨k + 1, by omega, by go_num, HO.out, by rw [HFL.out]; exact p3⟩
          · rw [gI] at hGk
            have hK2 : K = 2 := by simpa using g2'
            subst hK2
            have hdd := hlD rfl
            subst hdd
            have hdsz := D1.data_le mem (k : Int) hm
            have hGD : Hid (∀ W, Calls Try.prog 53 #[.string (D1.data mem (k : Int))] W fun e w' => ∃ a c, e = .returned (.tuple #[.slice a (tE mem k).length c, .bool (D1.nodeOk mem (k : Int))]) ∧ V1.OwnE W.heap.size w' a (tE mem k) ∧ Below W.heap.size W w') := fun W => by
              rw [hp, hKE, hE]
              exact (V3.spec_GetDir _ W hdsz).mono fun e w' ⟨a, c, he, ho, hc, hb⟩ => ⟨a, c, he, ho, hb⟩
            obtain ⟨dd, hdd⟩ : ∃ dd, D1.data mem (k : Int) = dd := ⟨_, rfl⟩
            rw [hdd] at hGD hLo
            clear gI g2' hp hE hKE hlD hdd hdsz
            cases hnk : D1.nodeOk mem (k : Int) with
            | false =>
              rw [hnk] at hGD
              have HB2 : Hid (nodesOk mem = false) := HBAD.out hnk
              clear HGOOD HBAD hnk hfl
              go_wp2_with (first
                | (go_at_call 51; refine (hLk.out _).mono ?_; rintro e wq ⟨rfl, rfl⟩)
                | (go_at_call 50; refine (hGk.out _).mono ?_; rintro e w2 ⟨q, o, s, a, n, c, rfl, b2⟩; have p2 := (pr.below b2).below (K0.below_new w2 (.cells #[.int .i64 q, .int .i64 o, .int .i64 s, .slice a n c] 45)))
                | (go_at_call 31; refine (hLo.out _).mono ?_; rintro e w3 ⟨o3, s3, a3, n3, c3, bb3, rfl, b3⟩; have p3 := (p2.below b3).below (K0.below_new w3 (.cells #[.int .i64 2, .int .i64 o3, .int .i64 s3, .slice a3 n3 c3] 45)); have y0 := (K0.blk_new [.int .i64 2, .int .i64 o3, .int .i64 s3, .slice a3 n3 c3] w3 45).c0)
                | (go_at_call 53; refine (hGD.out _).mono ?_; rintro e w4 ⟨a4, c4, rfl, o4, b4⟩; have p4 := p3.below b4))
              exact HN.out _ _ _ _ _ HB2.out p4.bel
            | true =>
              rw [hnk] at hGD
              have HO : Hid (N0.to (fun i => D1.nodeOk mem (i : Int)) (k + 1) = true) := HGOOD.out hnk
              clear HGOOD HBAD hnk
              go_wp2_with (first
                | (go_at_call 51; refine (hLk.out _).mono ?_; rintro e wq ⟨rfl, rfl⟩)
                | (go_at_call 50; refine (hGk.out _).mono ?_; rintro e w2 ⟨q, o, s, a, n, c, rfl, b2⟩; have p2 := (pr.below b2).below (K0.below_new w2 (.cells #[.int .i64 q, .int .i64 o, .int .i64 s, .slice a n c] 45)))
                | (go_at_call 31; refine (hLo.out _).mono ?_; rintro e w3 ⟨o3, s3, a3, n3, c3, bb3, rfl, b3⟩; have p3 := (p2.below b3).below (K0.below_new w3 (.cells #[.int .i64 2, .int .i64 o3, .int .i64 s3, .slice a3 n3 c3] 45)); have y0 := (K0.blk_new [.int .i64 2, .int .i64 o3, .int .i64 s3, .slice a3 n3 c3] w3 45).c0)
                | (go_at_call 53; refine (hGD.out _).mono ?_; rintro e w4 ⟨a4, c4, rfl, o4, b4⟩; have p4 := p3.below b4; have hb41 := p3.b1.lt; have hb42 := p3.b2.lt))
              obtain ⟨B0, hB0⟩ : ∃ B0, (w3.alloc (.cells #[.int .i64 2, .int .i64 o3, .int .i64 s3, .slice a3 n3 c3] 45)).heap.size = B0 := ⟨_, rfl⟩
              rw [hB0] at o4 hb41 hb42
              clear y0 p3 p2 b2 b3 b4 hB0 hGD hLo hGk hLk pr
              have pp : Pr w g1 g2 (TR.pre (tE mem) k 0) w4 := by rw [TR.pre_zero]; exact p4
              go_loopg [16] (tE mem k).length (fun gj i W => ∃ j : Nat, j + gj = (tE mem k).length ∧ i = .int .i64 j ∧ Pr w g1 g2 (TR.pre (tE mem) k j) W ∧ V1.OwnE B0 W a4 (tE mem k))
              case atStart => exact ⟨0, by omega, rfl, pp, o4⟩
              case round =>
                obtain ⟨j, hj, rfl, pr, oe⟩ := hrel
                clear pp p4 o4
                by_cases hjl : j < (tE mem k).length
                · have hfew : (tE mem k).length ≤ 12 := TW.few_ok mem (k : Int)
                  have hmem := TR.mem_ent hjl
                  have hin := (TW.sane_ok mem).ino k _ hmem
                  have hps := TR.pre_succ (tE mem) k j hjl
                  rcases oe with h0 | ⟨gE, ea, hgE, hkE⟩
                  · rw [h0] at hjl
                    exact absurd hjl (by simp)
                  subst ea
                  have z1 := (hkE.done j hjl).1
                  have z2 := (hkE.done j hjl).2
                  obtain ⟨x, hx⟩ : ∃ x : Nat, (T0.ent (tE mem k) j).1 = (x : Int) := ⟨(T0.ent (tE mem k) j).1.toNat, by omega⟩
                  obtain ⟨nm, hnm⟩ : ∃ nm, (T0.ent (tE mem k) j).2 = nm := ⟨_, rfl⟩
                  have hent : T0.ent (tE mem k) j = ((x : Int), nm) := by rw [← hx, ← hnm]
                  have HPS : Hid (TR.pre (tE mem) k (j + 1) = TR.pre (tE mem) k j ++ [(k, ((x : Int), nm))]) := by
                    show _ = _
                    rw [hps, hent]
                  rw [hx] at z1 hin
                  rw [hnm] at z2
                  have hx8 : x < 8 := by omega
                  have u1 := pr.par hx8
                  have u2 := pr.nam hx8
                  have f1 := pr.b1.free x (by rw [pv_length]; exact hx8)
                  have f2 := pr.b2.free x (by rw [nv_length]; exact hx8)
                  have d1 : (0 : Int) ≤ (j : Int) := by omega
                  have d2 : (j : Int) < ((tE mem k).length : Int) := by omega
                  have d3 : (0 : Int) ≤ (x : Int) := by omega
                  have d4 : (x : Int) < 8 := by omega
                  have HE : Hid (V1.OwnE B0 wr (some ⟨gE, 0, none⟩) (tE mem k)) := Or.inr ⟨gE, rfl, hgE, hkE⟩
                  have hne1 : g1 ≠ gE := by omega
                  have hne2 : g2 ≠ gE := by omega
                  by_cases hpar : TR.par (TR.pre (tE mem) k j) (x : Int) = -1
                  · have hq := pr.first (i := k) (nm := nm) hx8 hpar
                    have HQ : Hid (Pr w g1 g2 (TR.pre (tE mem) k (j + 1)) ((wr.setCell ⟨g1, x, none⟩ (.int .i64 (k : Int))).setCell ⟨g2, x, none⟩ (.string nm))) := by
                      show Pr _ _ _ _ _
                      rw [HPS.out]
                      exact hq
                    rw [hpar] at u1
                    have z1' : (wr.setCell ⟨g1, x, none⟩ (.int .i64 (k : Int))).cell? ⟨gE, j * 2, none⟩ = some (.int .i64 (x : Int)) := by rw [World.cell?_setCell_other _ _ _ _ (fun q => hne1 (Addr.mk.inj q).1)]; exact z1
                    have z2' : (wr.setCell ⟨g1, x, none⟩ (.int .i64 (k : Int))).cell? ⟨gE, j * 2 + 1, none⟩ = some (.string nm) := by rw [World.cell?_setCell_other _ _ _ _ (fun q => hne1 (Addr.mk.inj q).1)]; exact z2
                    have u2' : (wr.setCell ⟨g1, x, none⟩ (.int .i64 (k : Int))).cell? ⟨g2, x, none⟩ = some (.string (TR.nam (TR.pre (tE mem) k j) (x : Int))) := by rw [World.cell?_setCell_other _ _ _ _ (fun q => pr.ne (Addr.mk.inj q).1)]; exact u2
                    clear pr hq hpar hps hent hx hnm hmem hin hkE hfl
                    go_wp2
                    go_region
                    go_wp2
                    go_roundg (gk - 1)
                    case measure => omega
                    case rel => exact ⟨j + 1, by omega, by go_num, HQ.out.drew, (N5.ownE_set (N5.ownE_set HE.out hb41 x _) hb42 x _).below ((Below.refl _ _).drew)⟩
                  · have hq := pr.more (i := k) (nm := nm) hx8 hpar
                    have HQ : Hid (Pr w g1 g2 (TR.pre (tE mem) k (j + 1)) (wr.setCell ⟨g1, x, none⟩ (.int .i64 (-2)))) := by
                      show Pr _ _ _ _ _
                      rw [HPS.out]
                      exact hq
                    have hpar' : (TR.par (TR.pre (tE mem) k j) (x : Int) == -1) = false := by simpa using hpar
                    clear pr hq hpar hps hent hx hnm hmem hin hkE hfl
                    go_wp2
                    go_roundg (gk - 1)
                    case measure => omega
                    case rel => exact ⟨j + 1, by omega, by go_num, HQ.out, N5.ownE_set HE.out hb41 x _⟩
                · have hj0 : ¬ ((j : Int) < ((tE mem k).length : Int)) := by omega
                  have pfin : Pr w g1 g2 (TR.flat (tE mem) (k + 1)) wr := by
                    rw [← TR.pre_all, show (tE mem k).length = j by omega]
                    exact pr
                  clear pr oe
                  go_wp2
                  go_roundg (go - 1)
                  case measure => omega
                  case rel => exact ⟨k + 1, by omega, by go_num, HO.out, pfin⟩
        · obtain rfl : k = 8 := by omega
          have HO : Hid (nodesOk mem = true) := hok
          clear hok
          go_wp2
          exact HY.out _ _ _ _ _ HO.out pr
end Go.Proofs.Ytddlpejklpljoaa.TS
