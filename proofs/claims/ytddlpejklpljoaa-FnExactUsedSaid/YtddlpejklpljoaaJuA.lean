/- Joined texts: plain facts and contracts, as each part says. -/
import Derived.Test.YtddlpejklpljoaaJsK
import Derived.Test.YtddlpejklpljoaaJsC
import Derived.Deep.RegionHeld3
import Derived.Test.YtddlpejklpljoaaJsL
import Derived.Deep.RegionLaw

/- The contract of impl.tenure's newInode, as the given laws call it. -/
namespace Go.Proofs.Ytddlpejklpljoaa.D2
open Go.ChangeShapes Go.WideShapes Go.ChangeAt Go.RowKit
set_option linter.unusedVariables false
set_option linter.unusedSimpArgs false
set_option maxRecDepth 10000

open N0 (Ln)
open N1 (Sl)

/-- What an inode that is new in a directory must be. -/
def newOk (mem : ByteArray) (d : Ln) (x : Int) : Bool := P0.has d.fr x && (G0.isI (O0.recd mem x) && (!decide (G0.gK (O0.recd mem x) = 0) && (!(decide (G0.gK (O0.recd mem x) = 2) && !decide (G0.gS (O0.recd mem x) = 0)) && (decide (G0.gO (O0.recd mem x) = d.cl) && N0.among (G0.gZ (O0.recd mem x)) d.po))))

/-- What newInode answers. -/
def Ans (mem : ByteArray) (d : Ln) (x : Int) (w : World) (e : Ending) (w' : World) : Prop :=
  ∃ (k o t : Int) (a : Option Addr) (n c : Nat), e = .returned (.tuple #[I0.val k o t a n c, .bool (newOk mem d x)]) ∧ Below w.heap.size w w' ∧ (newOk mem d x = true → n = (G0.gZ (O0.recd mem x)).length ∧ n ≤ c ∧ J0.Own w.heap.size w' a (G0.gZ (O0.recd mem x)))

theorem ans_no {mem : ByteArray} {d : Ln} {x : Int} {w w' : World} {k o t : Int} {a : Option Addr} {n c : Nat} (h : newOk mem d x = false) (hb : Below w.heap.size w w') : Ans mem d x w (.returned (.tuple #[I0.val k o t a n c, .bool false])) w' :=
  ⟨k, o, t, a, n, c, by rw [h], hb, fun h' => by rw [h] at h'; cases h'⟩
theorem ans_yes {mem : ByteArray} {d : Ln} {x : Int} {w w' : World} {k o t : Int} {a : Option Addr} {c : Nat} (h : newOk mem d x = true) (hb : Below w.heap.size w w') (hc : (G0.gZ (O0.recd mem x)).length ≤ c) (ho : J0.Own w.heap.size w' a (G0.gZ (O0.recd mem x))) : Ans mem d x w (.returned (.tuple #[I0.val k o t a (G0.gZ (O0.recd mem x)).length c, .bool true])) w' :=
  ⟨k, o, t, a, _, c, by rw [h], hb, fun _ => ⟨rfl, hc, ho⟩⟩

theorem new_cases (mem : ByteArray) (d : Ln) (x : Int) :
    (P0.has d.fr x = false ∧ newOk mem d x = false) ∨ (P0.has d.fr x = true ∧ G0.isI (O0.recd mem x) = false ∧ newOk mem d x = false) ∨
    (P0.has d.fr x = true ∧ G0.isI (O0.recd mem x) = true ∧ (G0.gK (O0.recd mem x) == 0) = true ∧ newOk mem d x = false) ∨
    (P0.has d.fr x = true ∧ G0.isI (O0.recd mem x) = true ∧ (G0.gK (O0.recd mem x) == 0) = false ∧ (G0.gK (O0.recd mem x) == 2) = true ∧ (G0.gS (O0.recd mem x) != 0) = true ∧ newOk mem d x = false) ∨
    (P0.has d.fr x = true ∧ G0.isI (O0.recd mem x) = true ∧ (G0.gK (O0.recd mem x) == 0) = false ∧ ((G0.gK (O0.recd mem x) == 2) = true ∧ (G0.gS (O0.recd mem x) != 0) = false ∨ (G0.gK (O0.recd mem x) == 2) = false) ∧ newOk mem d x = ((G0.gO (O0.recd mem x) == d.cl) && N0.among (G0.gZ (O0.recd mem x)) d.po)) := by
  unfold newOk
  cases h1 : P0.has d.fr x with
  | false => exact Or.inl ⟨rfl, Bool.false_and _⟩
  | true =>
    right
    rw [Bool.true_and]
    cases h2 : G0.isI (O0.recd mem x) with
    | false => exact Or.inl ⟨rfl, rfl, Bool.false_and _⟩
    | true =>
      right
      rw [Bool.true_and]
      by_cases h3 : G0.gK (O0.recd mem x) = 0
      · exact Or.inl ⟨rfl, rfl, by simpa using h3, by rw [decide_eq_true h3, Bool.not_true, Bool.false_and]⟩
      · right
        have h3' : (G0.gK (O0.recd mem x) == 0) = false := by simpa using h3
        have hcl : decide (G0.gO (O0.recd mem x) = d.cl) = (G0.gO (O0.recd mem x) == d.cl) := by
          by_cases h : G0.gO (O0.recd mem x) = d.cl
          · rw [decide_eq_true h]; simp [h]
          · rw [decide_eq_false h]; symm; simpa using h
        rw [decide_eq_false h3, Bool.not_false, Bool.true_and, hcl]
        by_cases h4 : G0.gK (O0.recd mem x) = 2
        · have h4' : (G0.gK (O0.recd mem x) == 2) = true := by simpa using h4
          rw [decide_eq_true h4, Bool.true_and, Bool.not_not]
          by_cases h5 : G0.gS (O0.recd mem x) = 0
          · right
            exact ⟨rfl, rfl, h3', Or.inl ⟨h4', by simpa using h5⟩, by rw [decide_eq_true h5, Bool.true_and]⟩
          · left
            exact ⟨rfl, rfl, h3', h4', by simpa using h5, by rw [decide_eq_false h5, Bool.false_and]⟩
        · right
          exact ⟨rfl, rfl, h3', Or.inr (by simpa using h4), by rw [decide_eq_false h4, Bool.false_and, Bool.not_false, Bool.true_and]⟩

/-- The blocks of newInode. -/
structure NW (w : World) (ts : List Value) (k o t : Int) (a : Option Addr) (n c B : Nat) (W : World) : Prop where
  box : K0.Blk w.heap.size ts W
  res : K0.Blk (w.heap.size + 1) (I0.vals 0 0 0 none 0 0) W
  nb : K0.Blk B (I0.vals k o t a n c) W
  bel : Below w.heap.size w W
variable {w W W' : World}
theorem NW.below {ts : List Value} {k o t : Int} {a : Option Addr} {n c B : Nat} (h : NW w ts k o t a n c B W) (hb : Below W.heap.size W W') : NW w ts k o t a n c B W' := ⟨h.box.below hb, h.res.below hb, h.nb.below hb, h.bel.trans (hb.mono h.bel.size)⟩

abbrev w00 (w : World) (o : Obj) : World := (w.alloc o).alloc (.cells #[.int .i64 0, .int .i64 0, .int .i64 0, .slice none 0 0] 45)
theorem bel00 (w : World) (o : Obj) : Below w.heap.size w (w00 w o) := ((Below.refl _ _).alloc (Nat.le_refl _) _).alloc (by simp) _
theorem nw_new {ts : List Value} {T : TypeId} {k o t : Int} {a : Option Addr} {n c : Nat} (hb : Below (w00 w (.cells ts.toArray T)).heap.size (w00 w (.cells ts.toArray T)) W) : NW w ts k o t a n c W.heap.size (W.alloc (.cells #[.int .i64 k, .int .i64 o, .int .i64 t, .slice a n c] 45)) :=
  ⟨(((K0.blk_new ts w T).alloc _).below hb).alloc _, ((K0.blk_at (I0.vals 0 0 0 none 0 0) _ 45 (by simp)).below hb).alloc _, K0.blk_new (I0.vals k o t a n c) W 45,
   ((bel00 w _).trans (hb.mono (bel00 w _).size)).alloc (Nat.le_trans (bel00 w _).size hb.size) _⟩

end Go.Proofs.Ytddlpejklpljoaa.D2

/- The contract of impl.tenure's entriesOk, as the given laws call it. -/
namespace Go.Proofs.Ytddlpejklpljoaa.D3
open Go.ChangeShapes Go.WideShapes Go.ChangeAt Go.RowKit
set_option linter.unusedVariables false
set_option linter.unusedSimpArgs false
set_option maxRecDepth 10000

open N0 (Ln)
open N1 (Sl)
open P1 (ret_bool)
open J0 (IBuf Own)

/-- An inode that was in the lent directory. -/
def had (d : Ln) (x : Int) : Bool := P0.has (D0.inos (N5.oldE d)) x
def xk (es : List T0.Ent) (k : Nat) : Int := (T0.ent es k).1
def entAt (mem : ByteArray) (d : Ln) (es : List T0.Ent) (i : Nat) : Bool := had d (xk es i) || D2.newOk mem d (xk es i)

/-- The pages of a directory and of all that is new in it. -/
def gath (mem : ByteArray) (d : Ln) (Z : List Int) (es : List T0.Ent) : Nat → List Int
  | 0 => Z
  | k + 1 => if had d (xk es k) then gath mem d Z es k else gath mem d Z es k ++ G0.gZ (O0.recd mem (xk es k))

def entOk (mem : ByteArray) (d : Ln) (Z : List Int) (es : List T0.Ent) : Bool := N0.to (entAt mem d es) es.length && P0.pagesOk (gath mem d Z es es.length)

theorem gZ_len (u : ByteArray) : (G0.gZ u).length ≤ 100 := by
  unfold G0.gZ
  split
  · rw [G0.pgs_length]
    have := G0.cnt_le u
    omega
  · exact Nat.zero_le _

theorem gath_len (mem : ByteArray) (d : Ln) (Z : List Int) (es : List T0.Ent) : ∀ k, (gath mem d Z es k).length ≤ Z.length + 100 * k
  | 0 => by simp [gath]
  | k + 1 => by
    have h := gath_len mem d Z es k
    rw [gath]
    split
    · omega
    · rw [List.length_append]
      have := gZ_len (O0.recd mem (xk es k))
      omega

/-- The boxes of entriesOk. -/
structure En (w : World) (ts ns : List Value) (W : World) : Prop where
  box : K0.Blk w.heap.size ts W
  nb : K0.Blk (w.heap.size + 1) ns W
  bel : Below w.heap.size w W
  lt : w.heap.size + 2 ≤ W.heap.size
variable {w W W' : World} {ts ns : List Value}
theorem En.below (h : En w ts ns W) (hb : Below W.heap.size W W') : En w ts ns W' := ⟨h.box.below hb, h.nb.below hb, h.bel.trans (hb.mono h.bel.size), Nat.le_trans h.lt hb.size⟩
theorem En.keep (h : En w ts ns W) (hb : Below (w.heap.size + 2) W W') : En w ts ns W' := ⟨J0.blk_keep h.box hb (by omega), J0.blk_keep h.nb hb (by omega), h.bel.trans (hb.mono (by omega)), Nat.le_trans h.lt hb.size⟩

theorem en_new (w : World) (ts ns : List Value) (T T' : TypeId) : En w ts ns ((w.alloc (.cells ts.toArray T)).alloc (.cells ns.toArray T')) :=
  ⟨(K0.blk_new ts w T).alloc _, K0.blk_at ns _ T' (by simp), ((Below.refl _ _).alloc (Nat.le_refl _) _).alloc (by simp) _, by simp⟩

theorem cells5 {B : Nat} {x0 x1 x2 x3 x4 : Value} {l : List Value} (h : K0.Blk B (x0 :: x1 :: x2 :: x3 :: x4 :: l) W) : W.cell? ⟨B, 0, none⟩ = some x0 ∧ W.cell? ⟨B, 1, none⟩ = some x1 ∧ W.cell? ⟨B, 2, none⟩ = some x2 ∧ W.cell? ⟨B, 3, none⟩ = some x3 ∧ W.cell? ⟨B, 4, none⟩ = some x4 := ⟨h.cell 0 (by simp), h.cell 1 (by simp), h.cell 2 (by simp), h.cell 3 (by simp), h.cell 4 (by simp)⟩

end Go.Proofs.Ytddlpejklpljoaa.D3

/- The contract of impl.lookBack, as the given laws call it. -/
namespace Go.Proofs.Ytddlpejklpljoaa.D6
open Go.ChangeShapes Go.WideShapes Go.ChangeAt Go.RowKit
set_option linter.unusedVariables false
set_option linter.unusedSimpArgs false
set_option maxRecDepth 10000

open N0 (Ln)
open N1 (Sl Lists Fit LB)
open N5 (oldE)
open N7 (tv tvs tObj)
open N9 (RL rl_new ln0 sl0 cells13 free13 W13 put13 other13 bel13)
open D1 (nv nvs nodeOk nodeE cells6)

/-- The record has the kind and the owner that it had. -/
def like (mem : ByteArray) (d : Ln) : Bool := decide (G0.gK (O0.recd mem d.ino) = G0.gK d.rc) && decide (G0.gO (O0.recd mem d.ino) = G0.gO d.rc)

/-- What Verdict answers. -/
def verdict (mem : ByteArray) (d : Ln) : Bool := N0.loanOk d && (decide (mem.size = 768) && (nodeOk mem d.ino && (like mem d && (N0.among (G0.gZ (O0.recd mem d.ino)) (d.pg ++ d.po) && D3.entOk mem d (G0.gZ (O0.recd mem d.ino)) (nodeE mem d.ino)))))

theorem verdict_cases (mem : ByteArray) (d : Ln) :
    (N0.loanOk d = false ∧ verdict mem d = false) ∨ (N0.loanOk d = true ∧ ((mem.size : Int) != 768) = true ∧ verdict mem d = false) ∨ (N0.loanOk d = true ∧ mem.size = 768 ∧ nodeOk mem d.ino = false ∧ verdict mem d = false) ∨
    (N0.loanOk d = true ∧ mem.size = 768 ∧ nodeOk mem d.ino = true ∧ like mem d = false ∧ verdict mem d = false) ∨ (N0.loanOk d = true ∧ mem.size = 768 ∧ nodeOk mem d.ino = true ∧ like mem d = true ∧ N0.among (G0.gZ (O0.recd mem d.ino)) (d.pg ++ d.po) = false ∧ verdict mem d = false) ∨
    (N0.loanOk d = true ∧ mem.size = 768 ∧ nodeOk mem d.ino = true ∧ like mem d = true ∧ N0.among (G0.gZ (O0.recd mem d.ino)) (d.pg ++ d.po) = true ∧ verdict mem d = D3.entOk mem d (G0.gZ (O0.recd mem d.ino)) (nodeE mem d.ino)) := by
  unfold verdict
  cases h1 : N0.loanOk d with
  | false => exact Or.inl ⟨rfl, rfl⟩
  | true =>
    right
    by_cases h2 : mem.size = 768
    · right
      rw [decide_eq_true h2]
      cases h3 : nodeOk mem d.ino with
      | false => exact Or.inl ⟨rfl, h2, rfl, rfl⟩
      | true =>
        right
        cases h4 : like mem d with
        | false => exact Or.inl ⟨rfl, h2, rfl, rfl, rfl⟩
        | true =>
          right
          cases h5 : N0.among (G0.gZ (O0.recd mem d.ino)) (d.pg ++ d.po) with
          | false => exact Or.inl ⟨rfl, h2, rfl, rfl, rfl, rfl⟩
          | true => exact Or.inr ⟨rfl, h2, rfl, rfl, rfl, rfl⟩
    · left
      exact ⟨rfl, by simp; omega, by rw [decide_eq_false h2]; rfl⟩

/-- What lookBack answers. -/
def Ans (mem : ByteArray) (d : Ln) (s : Sl) (w : World) (e : Ending) (w' : World) : Prop :=
  ∃ (k o t : Int) (a : Option Addr) (n c : Nat) (ae : Option Addr) (ne ce : Nat) (d' : Ln) (s' : Sl) (be : Option Addr) (n2 c2 : Nat), e = .returned (.tuple #[tv k o t a n c ae ne ce d' s', .slice be n2 c2, .bool (verdict mem d)]) ∧ Below w.heap.size w w' ∧
    (verdict mem d = true → d' = d ∧ s' = s ∧ ne = (oldE d).length ∧ T0.Row w' ae (oldE d) ∧ n2 = (nodeE mem d.ino).length ∧ T0.Row w' be (nodeE mem d.ino))

theorem ans_no {mem : ByteArray} {d : Ln} {s : Sl} {w w' : World} {k o t : Int} {a : Option Addr} {n c : Nat} {ae : Option Addr} {ne ce : Nat} {d' : Ln} {s' : Sl} {be : Option Addr} {n2 c2 : Nat} (h : verdict mem d = false) (hb : Below w.heap.size w w') : Ans mem d s w (.returned (.tuple #[tv k o t a n c ae ne ce d' s', .slice be n2 c2, .bool false])) w' :=
  ⟨k, o, t, a, n, c, ae, ne, ce, d', s', be, n2, c2, by rw [h], hb, fun h' => by rw [h] at h'; cases h'⟩
theorem ans_is {mem : ByteArray} {d : Ln} {s : Sl} {w w' : World} {k o t : Int} {a : Option Addr} {n c : Nat} {ae : Option Addr} {ce : Nat} {be : Option Addr} {c2 : Nat} {b : Bool} (h : verdict mem d = b) (hb : Below w.heap.size w w') (h1 : T0.Row w' ae (oldE d)) (h2 : T0.Row w' be (nodeE mem d.ino)) : Ans mem d s w (.returned (.tuple #[tv k o t a n c ae (oldE d).length ce d s, .slice be (nodeE mem d.ino).length c2, .bool b])) w' :=
  ⟨k, o, t, a, n, c, ae, _, ce, d, s, be, _, c2, by rw [h], hb, fun _ => ⟨rfl, rfl, rfl, h1, rfl, h2⟩⟩

/-- The blocks of lookBack. -/
structure LK (w : World) (d : Ln) (s : Sl) (ts ns : List Value) (Bt Bn : Nat) (W : World) : Prop where
  r : RL w d s W
  tb : K0.Blk Bt ts W
  nb : K0.Blk Bn ns W
  lt : w.heap.size + 2 ≤ Bt ∧ w.heap.size + 2 ≤ Bn
theorem LK.below {w W W' : World} {d : Ln} {s : Sl} {ts ns : List Value} {Bt Bn : Nat} (h : LK w d s ts ns Bt Bn W) (hb : Below W.heap.size W W') : LK w d s ts ns Bt Bn W' := ⟨h.r.below hb, h.tb.below hb, h.nb.below hb, h.lt⟩

theorem oldE_len (d : Ln) : (oldE d).length ≤ 13 := by
  unfold oldE
  split
  · unfold V0.dE
    split
    · rw [V0.ents_length]
      unfold V0.cnt
      omega
    · exact Nat.zero_le _
  · exact Nat.zero_le _
theorem nodeE_len (mem : ByteArray) (i : Int) : (nodeE mem i).length ≤ 13 := by
  unfold nodeE
  split
  · unfold V0.dE
    split
    · rw [V0.ents_length]
      unfold V0.cnt
      omega
    · exact Nat.zero_le _
  · exact Nat.zero_le _

end Go.Proofs.Ytddlpejklpljoaa.D6

/- Contracts of spec.l05Before and spec.l05Now, and what an append of a row keeps. -/
namespace Go.Proofs.Ytddlpejklpljoaa.D7
open Go.ChangeShapes Go.WideShapes Go.ChangeAt Go.RowKit
set_option linter.unusedVariables false
set_option linter.unusedSimpArgs false
set_option maxRecDepth 10000

open N0 (Ln)
open N1 (Sl LB lb_new)
open J0 (IBuf Own)
open I2 (ints)
open D0 (inos)
open D1 (nodeE data)

/-- The bytes of a directory are right. -/
def nowOk (mem : ByteArray) (i : Int) : Bool := !decide (G0.gK (O0.recd mem i) = 2) || V0.isD (data mem i)

theorem isL_of {mem : ByteArray} {i : Int} (hm : mem.size = 768) (hI : G0.isI (O0.recd mem i) = true) (hk : G0.gK (O0.recd mem i) ≠ 0) : O0.isL mem i = true := by
  obtain ⟨e1, -, -, -⟩ := G0.g_yes hI
  rw [O0.isL, decide_eq_true hm, hI, Bool.true_and, Bool.true_and, decide_eq_false (by rw [← e1]; exact hk)]
  rfl

section
variable {base n cap : Nat} {a : Option Addr} {w W : World} {zs : List Int}

/-- What an append of a row makes. -/
theorem run_rows (ty : TypeId) (hbuf : IBuf base w a n cap zs) (ax : Option Addr) (cx : Nat) (xs : List Int) (hR : P0.Row w ax xs) (hlen : n + xs.length ≤ 4194304) (hb : base ≤ w.heap.size) :
    ∃ a' cap' w', (Builtin.append_ #[29, 29] ty #[.slice a n cap, .slice ax xs.length cx]).run Try.prog w = .ok (.slice a' (n + xs.length) cap') w' ∧ IBuf base w' a' (n + xs.length) cap' (zs ++ xs) ∧ w.grownBy w' (Value.slice a n cap).ownBlock ∧ (∀ g, (Value.slice a' (n + xs.length) cap').ownBlock = some g → (Value.slice a n cap).ownBlock = some g ∨ g = w.heap.size) := by
  obtain ⟨i0, hi, hz0, hz1, hz2⟩ := info_parts I2.info3
  by_cases h0 : xs = []
  · subst h0
    refine ⟨a, cap, w, Q1.run_append_none w 29 _ 3 i0 Try.underlying29 hi a n cap hbuf.fits ax cx, by rw [List.append_nil]; exact hbuf, ⟨rfl, rfl, rfl, Nat.le_refl _, fun _ _ _ => rfl⟩, fun g hg => Or.inl ?_⟩
    cases a with
    | none => cases hg
    | some p => exact hg
  · rcases hR with hR | ⟨b, off, rfl, hb2, hc⟩
    · exact absurd hR h0
    · have hm : 0 < xs.length := List.length_pos_iff.2 h0
      obtain ⟨g, cp, w', hrun, r1, r2, r3, r4⟩ := run_append_lies (P := Try.prog) w 29 ty base 3 i0 (.int .i64 0) 1 8 Try.underlying29 hi hz0 hz1 hz2 rfl (by omega) _ n _ hbuf.2 ⟨b, off, none⟩ xs.length cx (ints xs) (by simp) (by
        intro j u hj
        have hj' : j < xs.length := by
          have := (List.getElem?_eq_some_iff.1 hj).1
          simpa using this
        rw [B0.add_off, hc j hj', P0.getD_get _ _ hj', ← hj]
        simp [hj']) (Q1.ints_one xs) hm (by unfold maxLen; omega) (by omega) hb _ rfl
      refine ⟨some ⟨g, 0, none⟩, cp, w', hrun, ⟨by rw [hbuf.1]; simp, ?_⟩, r2, fun g2 h2 => ?_⟩
      · rw [show ints (zs ++ xs) = ints zs ++ ints xs by simp]
        exact r1
      · cases h2
        exact r3

theorem run_below (hbuf : IBuf base w a n cap zs) (hb : base ≤ w.heap.size) (hg : w.grownBy W (Value.slice a n cap).ownBlock) : Below base w W := F0.below_grown (Below.refl _ _) hg (J0.own_block hbuf) hb

theorem own_grown {b : Nat} {r : Option Nat} (h : Own b w a zs) (hg : w.grownBy W r) (hne : ∀ g, a = some ⟨g, 0, none⟩ → r ≠ some g) : Own b W a zs := by
  rcases h with h | ⟨g, e, hbg, hk⟩
  · exact Or.inl h
  · refine Or.inr ⟨g, e, hbg, ?_⟩
    have hb : W.heap[g]? = w.heap[g]? := hg.block g hk.lt (fun q => hne g e q.symm)
    exact ⟨fun j hj => (World.cell?_of_block (a := ⟨g, j, none⟩) hb).trans (hk.cell j hj), fun j hj => (World.frozen?_of_block (a := ⟨g, j, none⟩) hb).trans (hk.free j hj), Nat.lt_of_lt_of_le hk.lt hg.size⟩

theorem blk_grown {B : Nat} {vs : List Value} {r : Option Nat} (hk : K0.Blk B vs w) (hg : w.grownBy W r) (hne : r ≠ some B) : K0.Blk B vs W := by
  have hb : W.heap[B]? = w.heap[B]? := hg.block B hk.lt (fun q => hne q.symm)
  exact ⟨fun j hj => (World.cell?_of_block (a := ⟨B, j, none⟩) hb).trans (hk.cell j hj), fun j hj => (World.frozen?_of_block (a := ⟨B, j, none⟩) hb).trans (hk.free j hj), Nat.lt_of_lt_of_le hk.lt hg.size⟩

/-- 'list = append(list, others...)', and what it keeps. -/
theorem append_rows2 {ops : Array Oper} {rest : List Oper} {o : Oper} {A : Act} {Q : Exit → Act → World → Prop} (hgd : o.guard = none) (sl x : Operand)
    (ho : o.op = .call { callee := .builtin .append, args := #[sl, x], argTypes := #[29, 29] })
    (hbuf : IBuf base w a n cap zs) (ax : Option Addr) (cx : Nat) (xs : List Int) (hs : A.eval sl = .slice a n cap) (hx : A.eval x = .slice ax xs.length cx) (hR : P0.Row w ax xs) (hlen : n + xs.length ≤ 4194304) (hb : base ≤ w.heap.size)
    (h : ∀ a' cap' w', IBuf base w' a' (n + xs.length) cap' (zs ++ xs) → w.grownBy w' (Value.slice a n cap).ownBlock → (∀ g, (Value.slice a' (n + xs.length) cap').ownBlock = some g → (Value.slice a n cap).ownBlock = some g ∨ g = w.heap.size) → wpList Try.prog ops Q rest (A.put o.dst (.slice a' (n + xs.length) cap')) w') : wpList Try.prog ops Q (o :: rest) A w := by
  obtain ⟨a', cap', w', hrun, r1, r2, r3⟩ := run_rows o.type hbuf ax cx xs hR hlen hb
  exact Lib.wpList_append_run _ hgd sl x 29 29 ho _ _ hs hx _ _ hrun (h a' cap' w' r1 r2 r3)

/-- .. in a region that draws its order, where it alone may come up. -/
theorem one_rows {ops : Array Oper} {Q : Exit → Act → World → Prop} {S : World → Prop} {A : Act} {i : Nat} {o : Oper} {listed : Array Bool} {fuel : Nat} {md : Region.Mode} (hr : Region.ready md ops listed = [i]) (hoi : ops[i]? = some o) (hw : Region.wanted o (yielded ops A.tmps) = true) (sl x : Operand)
    (ho : o.op = .call { callee := .builtin .append, args := #[sl, x], argTypes := #[29, 29] })
    (hbuf : IBuf base w a n cap zs) (ax : Option Addr) (cx : Nat) (xs : List Int) (hs : A.eval sl = .slice a n cap) (hx : A.eval x = .slice ax xs.length cx) (hR : P0.Row w ax xs) (hlen : n + xs.length ≤ 4194304) (hb : base ≤ w.heap.size)
    (h : ∀ a' cap' w', IBuf base w' a' (n + xs.length) cap' (zs ++ xs) → Below base w w' → S w' ∧ wpAnyH Try.prog md ops Q S fuel (listed.setIfInBounds i true) (A.put o.dst (.slice a' (n + xs.length) cap')) w') : wpAnyH Try.prog md ops Q S (fuel + 1) listed A w := by
  obtain ⟨a', cap', w', hrun, r1, r2, r3⟩ := run_rows o.type hbuf ax cx xs hR hlen hb
  obtain ⟨h1, h2⟩ := h a' cap' w' r1 (run_below hbuf hb r2)
  exact Y0.one_plain hr hoi hw (by simp [execOp, ho, resolve, invoke, builtin, hs, hx, hrun, Result.andThen]) h1 h2
end
end Go.Proofs.Ytddlpejklpljoaa.D7

/- The contract of impl.Come, as the given laws call it. -/
namespace Go.Proofs.Ytddlpejklpljoaa.Y1
open Go.ChangeShapes Go.WideShapes Go.ChangeAt Go.RowKit
set_option linter.unusedVariables false
set_option linter.unusedSimpArgs false
set_option maxRecDepth 10000

open N0 (Ln)
open N1 (Sl Lists Fit)
open N7 (tv tvs tObj)
open D1 (nodeE)
open J0 (IBuf Own)
open I2 (ints)

/-- Those of a row that are among others. -/
def only (zs al : List Int) : List Int := zs.filter (P0.has al)
/-- What Come answers. -/
def come (mem : ByteArray) (d : Ln) : List Int := if D6.verdict mem d = true then only d.fr (D0.inos (nodeE mem d.ino)) else []

theorem only_yes {zs al : List Int} {k : Nat} (hk : k < zs.length) (h : P0.has al (zs.getD k 0) = true) : only (zs.take (k + 1)) al = only (zs.take k) al ++ [zs.getD k 0] := by
  unfold only
  rw [List.take_succ_eq_append_getElem hk, List.filter_append, P0.getD_get _ _ hk]
  rw [P0.getD_get _ _ hk] at h
  simp [h]
theorem only_no {zs al : List Int} {k : Nat} (hk : k < zs.length) (h : P0.has al (zs.getD k 0) = false) : only (zs.take (k + 1)) al = only (zs.take k) al := by
  unfold only
  rw [List.take_succ_eq_append_getElem hk, List.filter_append]
  rw [P0.getD_get _ _ hk] at h
  simp [h]
theorem only_len (zs al : List Int) (k : Nat) : (only (zs.take k) al).length ≤ zs.length := Nat.le_trans (List.length_filter_le _ _) (by rw [List.length_take]; omega)

/-- A row of entries that lies apart from a row that grows. -/
def Apart (W : World) (be : Option Addr) (es : List T0.Ent) (a : Option Addr) : Prop := T0.Row W be es ∧ (es = [] ∨ ∀ p q, a = some p → be = some q → p.block ≠ q.block)

variable {w W W' : World} {a a' be : Option Addr} {es : List T0.Ent}
theorem Apart.below (h : Apart W be es a) (hb : Below W.heap.size W W') : Apart W' be es a := ⟨h.1.below hb, h.2⟩
theorem Apart.grown {n c n' c' : Nat} (h : Apart W be es a) (hg : W.grownBy W' (Value.slice a n c).ownBlock) (hn : ∀ g, (Value.slice a' n' c').ownBlock = some g → (Value.slice a n c).ownBlock = some g ∨ g = W.heap.size) : Apart W' be es a' := by
  rcases h.1 with h0 | ⟨b, off, rfl, hlt, hc⟩
  · exact ⟨Or.inl h0, Or.inl h0⟩
  · rcases h.2 with h0 | hne
    · exact ⟨Or.inl h0, Or.inl h0⟩
    · have hb : W'.heap[b]? = W.heap[b]? := hg.block b hlt (fun q => by
        cases a with
        | none => cases q
        | some p => exact hne p _ rfl rfl (by simpa [Value.ownBlock] using q.symm))
      refine ⟨Or.inr ⟨b, off, rfl, Nat.lt_of_lt_of_le hlt hg.size, fun j hj => ⟨(World.cell?_of_block (a := ⟨b, off + j * 2, none⟩) hb).trans (hc j hj).1, (World.cell?_of_block (a := ⟨b, off + j * 2 + 1, none⟩) hb).trans (hc j hj).2⟩⟩, Or.inr fun p q hp hq => ?_⟩
      cases hq
      subst hp
      rcases hn p.block rfl with h1 | h1
      · cases a with
        | none => cases h1
        | some p0 =>
          have : p0.block = p.block := by simpa [Value.ownBlock] using h1
          rw [← this]
          exact hne p0 _ rfl rfl
      · show p.block ≠ b
        omega

/-- A block without cells is none of a row's. -/
theorem apart_new {B : Nat} (hR : T0.Row W be es) (hB : W.heap[B]? = some (.cells #[] 3)) : Apart W be es (some ⟨B, 0, none⟩) := by
  rcases hR with h0 | ⟨b, off, rfl, hlt, hc⟩
  · exact ⟨Or.inl h0, Or.inl h0⟩
  · by_cases h0 : es = []
    · exact ⟨Or.inl h0, Or.inl h0⟩
    · refine ⟨Or.inr ⟨b, off, rfl, hlt, hc⟩, Or.inr fun p q hp hq => ?_⟩
      cases hp
      cases hq
      show B ≠ b
      rintro rfl
      have := (hc 0 (List.length_pos_iff.2 h0)).1
      simp [World.cell?, hB] at this

theorem row_one (w : World) (z : Int) : P0.Row (w.alloc (.cells #[.int .i64 z] 3)) (some ⟨w.heap.size, 0, none⟩) [z] := I2.row_of_blk (K0.blk_new (ints [z]) w 3)

end Go.Proofs.Ytddlpejklpljoaa.Y1

/- The contract of spec.l04Add where all are less, and of spec.l05Only, as the given laws call them. -/
namespace Go.Proofs.Ytddlpejklpljoaa.Y2
open Go.ChangeShapes Go.WideShapes Go.ChangeAt Go.RowKit
set_option linter.unusedVariables false
set_option linter.unusedSimpArgs false
set_option maxRecDepth 10000

open J0 (IBuf Own)
open I2 (ints)

/-- 'append(list, others...)' as a step of a region that draws its order. -/
theorem step_rows {base n cp : Nat} {p : Option Addr} {W : World} {zs : List Int} {ops : Array Oper} {o : Oper} {A : Act} {K : Act → World → Prop} {Q : Exit → Act → World → Prop} {E : Prop} (hgd : o.guard = none) (sl x : Operand)
    (ho : o.op = .call { callee := .builtin .append, args := #[sl, x], argTypes := #[29, 29] })
    (hbuf : IBuf base W p n cp zs) (ax : Option Addr) (cx : Nat) (xs : List Int) (hs : A.eval sl = .slice p n cp) (hx : A.eval x = .slice ax xs.length cx) (hR : P0.Row W ax xs) (hlen : n + xs.length ≤ 4194304) (hb : base ≤ W.heap.size)
    (h : ∀ a' cap' w', IBuf base w' a' (n + xs.length) cap' (zs ++ xs) → W.grownBy w' (Value.slice p n cp).ownBlock → K (A.put o.dst (.slice a' (n + xs.length) cap')) w') :
    if Region.wanted o (yielded ops A.tmps) = true then Oper.wp Try.prog o A W K Q else E := by
  have hw : Region.wanted o (yielded ops A.tmps) = true := by simp [Region.wanted, hgd]
  rw [if_pos hw]
  obtain ⟨a', cap', w', hrun, r1, r2, r3⟩ := D7.run_rows o.type hbuf ax cx xs hR hlen hb
  exact Lib.wp_append_run _ sl x 29 29 ho _ _ hs hx _ _ hrun (h a' cap' w' r1 r2)

theorem row_grown {W W' : World} {ax : Option Addr} {xs : List Int} {r : Option Nat} (h : P0.Row W ax xs) (hg : W.grownBy W' r) (hne : ∀ p, ax = some p → r ≠ some p.block) : P0.Row W' ax xs := by
  rcases h with h | ⟨b, off, rfl, hlt, hc⟩
  · exact Or.inl h
  · have hb : W'.heap[b]? = W.heap[b]? := hg.block b hlt (fun q => hne _ rfl q.symm)
    exact Or.inr ⟨b, off, rfl, Nat.lt_of_lt_of_le hlt hg.size, fun j hj => (World.cell?_of_block (a := ⟨b, off + j, none⟩) hb).trans (hc j hj)⟩

set_option maxHeartbeats 2000000 in
theorem l04Add (g off c : Nat) (zs : List Int) (x : Int) (w : World) (hn : zs.length ≤ 1048576) (hc : zs.length ≤ c) (hR : P0.Row w (some ⟨g, off, none⟩) zs) (hx : ∀ j, j < zs.length → zs.getD j 0 < x) :
    Calls Try.prog 39 #[.slice (some ⟨g, off, none⟩) zs.length c, .int .i64 x] w fun e w' => ∃ a' c', e = .returned (.slice a' (zs ++ [x]).length c') ∧ IBuf w.heap.size w' a' (zs ++ [x]).length c' (zs ++ [x]) ∧ Below w.heap.size w w' := by
  go_enter Try.func39, Try.ntmps39
  go_wp2
  go_loop [5] (fun i => ∃ k : Nat, k ≤ zs.length ∧ i = .int .i64 k) (fun i => zs.length - (intOf i).toNat)
  case atStart => exact ⟨0, Nat.zero_le _, rfl⟩
  case round =>
    obtain ⟨k, hk, rfl⟩ := hrel
    by_cases hlt : k < zs.length
    · obtain ⟨b, of2, hab, _, hcl⟩ := hR.get hlt
      cases hab
      have x1 := hcl k hlt
      have x2 := hx k hlt
      obtain ⟨z, ez⟩ : ∃ z, zs.getD k 0 = z := ⟨_, rfl⟩
      rw [ez] at x1 x2
      have e1 : (0 : Int) ≤ (k : Int) := by omega
      have e2 : (k : Int) < (zs.length : Int) := by omega
      clear ez hcl hx hR
      go_wp2
      go_round
      case rel => exact ⟨k + 1, by omega, by go_num⟩
      case measure => simp [intOf]; omega
    · obtain rfl : k = zs.length := by omega
      have e9 : decide ((zs.length : Int) < (zs.length : Int)) = false := by simp
      have e1 : (0 : Int) ≤ (zs.length : Int) := by omega
      have e2 : (zs.length : Int) ≤ (c : Int) := by omega
      obtain ⟨E, hE⟩ : ∃ E, Obj.cells #[] 3 = E := ⟨_, rfl⟩
      obtain ⟨X, hX⟩ : ∃ X, Obj.cells #[.int .i64 x] 3 = X := ⟨_, rfl⟩
      have L0 : Below w.heap.size w w.drew := (Below.refl _ _).drew
      have L1 := L0.alloc L0.size (.cells #[] 3)
      have L2 := L1.alloc L1.size (.cells #[.int .i64 x] 3)
      have M1 := L0.alloc L0.size (.cells #[.int .i64 x] 3)
      have L3 := M1.alloc M1.size (.cells #[] 3)
      have B1 := J0.ibuf_made w.drew L0.size
      have B2 := B1.alloc (.cells #[.int .i64 x] 3)
      have B3 := J0.ibuf_made (w.drew.alloc (.cells #[.int .i64 x] 3)) M1.size
      have X2 := Y1.row_one (w.drew.alloc (.cells #[] 3)) x
      have X3 := (Y1.row_one w.drew x).alloc (.cells #[] 3)
      have hq : zs.length + 1 ≤ 4194304 := by omega
      clear hE hX E X
      by_cases hcn : c = zs.length
      · subst c
        clear hx hlt hk hc
        go_wp2
        go_region_law (first
          | (refine step_rows rfl (.tmp 27) (.tmp 30) rfl f8 (some ⟨g, off, none⟩) (0) [] (by simp [Act.eval, Act.put]) (by simp [Act.eval, Act.put]) (Or.inl rfl) (by simp only [List.length_cons, List.length_nil]; omega) l8.size ?_; intro a9 c9 w9 f9 g9; have l9 := l8.trans (D7.run_below f8 l8.size g9))
          | (refine step_rows rfl (.tmp 24) (.tmp 26) rfl f7 _ _ [x] (by simp [Act.eval, Act.put]) (by simp [Act.eval, Act.put]; rfl) x7 (by simp only [List.length_cons, List.length_nil]; omega) l7.size ?_; intro a8 c8 w8 f8 g8; have l8 := l7.trans (D7.run_below f7 l7.size g8))
          | (refine step_rows rfl (.tmp 24) (.tmp 26) rfl (f7.alloc (.cells #[.int .i64 x] 3)) (some ⟨w7.heap.size, 0, none⟩) 1 [x] (by simp [Act.eval, Act.put]) (by simp [Act.eval, Act.put]) (Y1.row_one w7 x) (by simp only [List.length_cons, List.length_nil]; omega) (l7.alloc l7.size _).size ?_; intro a8 c8 w8 f8 g8; have l8 := (l7.alloc l7.size (.cells #[.int .i64 x] 3)).trans (D7.run_below (f7.alloc (.cells #[.int .i64 x] 3)) (l7.alloc l7.size (.cells #[.int .i64 x] 3)).size g8))
          | (refine step_rows rfl (.tmp 20) (.tmp 23) rfl B1 (some ⟨g, off, none⟩) zs.length zs (by simp [Act.eval, Act.put]) (by simp [Act.eval, Act.put]) (hR.below L1) (by omega) L1.size ?_; intro a7 c7 w7 f7 g7; have l7 := L1.trans (D7.run_below B1 L1.size g7))
          | (refine step_rows rfl (.tmp 20) (.tmp 23) rfl B2 (some ⟨g, off, none⟩) zs.length zs (by simp [Act.eval, Act.put]) (by simp [Act.eval, Act.put]) (hR.below L2) (by omega) L2.size ?_; intro a7 c7 w7 f7 g7; have l7 := L2.trans (D7.run_below B2 L2.size g7); have x7 := row_grown X2 g7 (by rintro p ⟨⟩ h; simp [Value.ownBlock] at h))
          | (refine step_rows rfl (.tmp 20) (.tmp 23) rfl B3 (some ⟨g, off, none⟩) zs.length zs (by simp [Act.eval, Act.put]) (by simp [Act.eval, Act.put]) (hR.below L3) (by omega) L3.size ?_; intro a7 c7 w7 f7 g7; have l7 := L3.trans (D7.run_below B3 L3.size g7); have x7 := row_grown X3 g7 (by rintro p ⟨⟩ h; simp [Value.ownBlock] at h)))
        all_goals
          go_wp2
          go_ret
          exact ⟨a9, c9, by rw [List.length_append]; rfl, by simpa using f9, l9⟩
      · clear hx hlt hk
        go_wp2
        go_region_law (first
          | (refine step_rows rfl (.tmp 27) (.tmp 30) rfl f8 (some ⟨g, off + zs.length, none⟩) (c - zs.length) [] (by simp [Act.eval, Act.put]) (by simp [Act.eval, Act.put]) (Or.inl rfl) (by simp only [List.length_cons, List.length_nil]; omega) l8.size ?_; intro a9 c9 w9 f9 g9; have l9 := l8.trans (D7.run_below f8 l8.size g9))
          | (refine step_rows rfl (.tmp 24) (.tmp 26) rfl f7 _ _ [x] (by simp [Act.eval, Act.put]) (by simp [Act.eval, Act.put]; rfl) x7 (by simp only [List.length_cons, List.length_nil]; omega) l7.size ?_; intro a8 c8 w8 f8 g8; have l8 := l7.trans (D7.run_below f7 l7.size g8))
          | (refine step_rows rfl (.tmp 24) (.tmp 26) rfl (f7.alloc (.cells #[.int .i64 x] 3)) (some ⟨w7.heap.size, 0, none⟩) 1 [x] (by simp [Act.eval, Act.put]) (by simp [Act.eval, Act.put]) (Y1.row_one w7 x) (by simp only [List.length_cons, List.length_nil]; omega) (l7.alloc l7.size _).size ?_; intro a8 c8 w8 f8 g8; have l8 := (l7.alloc l7.size (.cells #[.int .i64 x] 3)).trans (D7.run_below (f7.alloc (.cells #[.int .i64 x] 3)) (l7.alloc l7.size (.cells #[.int .i64 x] 3)).size g8))
          | (refine step_rows rfl (.tmp 20) (.tmp 23) rfl B1 (some ⟨g, off, none⟩) c zs (by simp [Act.eval, Act.put]) (by simp [Act.eval, Act.put]) (hR.below L1) (by omega) L1.size ?_; intro a7 c7 w7 f7 g7; have l7 := L1.trans (D7.run_below B1 L1.size g7))
          | (refine step_rows rfl (.tmp 20) (.tmp 23) rfl B2 (some ⟨g, off, none⟩) c zs (by simp [Act.eval, Act.put]) (by simp [Act.eval, Act.put]) (hR.below L2) (by omega) L2.size ?_; intro a7 c7 w7 f7 g7; have l7 := L2.trans (D7.run_below B2 L2.size g7); have x7 := row_grown X2 g7 (by rintro p ⟨⟩ h; simp [Value.ownBlock] at h))
          | (refine step_rows rfl (.tmp 20) (.tmp 23) rfl B3 (some ⟨g, off, none⟩) c zs (by simp [Act.eval, Act.put]) (by simp [Act.eval, Act.put]) (hR.below L3) (by omega) L3.size ?_; intro a7 c7 w7 f7 g7; have l7 := L3.trans (D7.run_below B3 L3.size g7); have x7 := row_grown X3 g7 (by rintro p ⟨⟩ h; simp [Value.ownBlock] at h)))
        all_goals
          go_wp2
          go_ret
          exact ⟨a9, c9, by rw [List.length_append]; rfl, by simpa using f9, l9⟩

theorem ibuf_mono {base base' n c : Nat} {a : Option Addr} {w : World} {zs : List Int} (h : IBuf base w a n c zs) (hb : base' ≤ base) : IBuf base' w a n c zs := by
  refine ⟨h.1, h.2.1, ?_⟩
  rcases h.2.2 with h0 | ⟨g, cap, cur, hv, hg, r⟩
  · exact Or.inl h0
  · exact Or.inr ⟨g, cap, cur, hv, Nat.le_trans hb hg, r⟩

theorem only_lt {zs al : List Int} (h : N0.asc zs = true) {k : Nat} (hk : k < zs.length) : ∀ j, j < (Y1.only (zs.take k) al).length → (Y1.only (zs.take k) al).getD j 0 < zs.getD k 0 := by
  intro j hj
  have hm := (List.mem_filter.1 (N0.getD_mem hj)).1
  obtain ⟨i, hi, e⟩ := List.mem_take_iff_getElem.1 hm
  show (List.filter (P0.has al) (List.take k zs)).getD j 0 < _
  rw [← e, P0.getD_get _ _ hk]
  exact List.pairwise_iff_getElem.1 (N0.asc_iff.1 h) i k (by omega) hk (by omega)

end Go.Proofs.Ytddlpejklpljoaa.Y2

/- The contracts of spec.l04Add and spec.l05Only at any row, as the given laws call them. -/
namespace Go.Proofs.Ytddlpejklpljoaa.Y5
open Go.ChangeShapes Go.WideShapes Go.ChangeAt Go.RowKit
set_option linter.unusedVariables false
set_option linter.unusedSimpArgs false
set_option maxRecDepth 10000

open J0 (IBuf Own)
open I2 (ints)
open Y2 (step_rows row_grown ibuf_mono)

/-- A number put ahead of the first that is not less. -/
def ins (zs : List Int) (x : Int) : List Int := zs.takeWhile (fun z => decide (z < x)) ++ x :: zs.dropWhile (fun z => decide (z < x))

theorem ins_at {zs : List Int} {x : Int} {k : Nat} (hk : k ≤ zs.length) (h1 : ∀ j, j < k → zs.getD j 0 < x) (h2 : k < zs.length → ¬ zs.getD k 0 < x) : ins zs x = zs.take k ++ x :: zs.drop k := by
  induction zs generalizing k with
  | nil => cases k <;> rfl
  | cons z zs ih =>
    cases k with
    | zero =>
      have h := h2 (by simp)
      have h' : ¬ z < x := by simpa using h
      simp [ins, List.takeWhile_cons, List.dropWhile_cons, h']
    | succ k =>
      have h := h1 0 (by omega)
      have h' : z < x := by simpa using h
      have hi := ih (k := k) (by simpa using hk) (fun j hj => by simpa using h1 (j + 1) (by omega)) (fun hl => by simpa using h2 (by simpa using hl))
      unfold ins at hi ⊢
      simp only [List.takeWhile_cons, List.dropWhile_cons, decide_eq_true h', if_true, List.cons_append, List.take_succ_cons, List.drop_succ_cons]
      rw [hi]

theorem ins_length (zs : List Int) (x : Int) : (ins zs x).length = zs.length + 1 := by
  unfold ins
  have := congrArg List.length (List.takeWhile_append_dropWhile (p := fun z => decide (z < x)) (l := zs))
  simp only [List.length_append, List.length_cons] at this ⊢
  omega

theorem ins_perm (zs : List Int) (x : Int) : (ins zs x).Perm (x :: zs) := by
  unfold ins
  refine (List.perm_middle).trans ?_
  rw [List.takeWhile_append_dropWhile]

theorem ins_sorted {zs : List Int} (x : Int) (h : zs.Pairwise (· ≤ ·)) : (ins zs x).Pairwise (· ≤ ·) := by
  induction zs with
  | nil => simp [ins]
  | cons z zs ih =>
    have hz := List.pairwise_cons.1 h
    by_cases hx : z < x
    · have : ins (z :: zs) x = z :: ins zs x := by simp [ins, List.takeWhile_cons, List.dropWhile_cons, hx]
      rw [this, List.pairwise_cons]
      refine ⟨fun y hy => ?_, ih hz.2⟩
      rcases List.mem_cons.1 ((ins_perm zs x).mem_iff.1 hy) with rfl | hm
      · omega
      · exact hz.1 y hm
    · have : ins (z :: zs) x = x :: z :: zs := by simp [ins, List.takeWhile_cons, List.dropWhile_cons, hx]
      rw [this, List.pairwise_cons]
      refine ⟨fun y hy => ?_, h⟩
      rcases List.mem_cons.1 hy with rfl | hm
      · omega
      · have := hz.1 y hm
        omega

theorem ret_len {a : Option Addr} {c n m : Nat} (h : n = m) : Ending.returned (.slice a n c) = .returned (.slice a m c) := by rw [h]

theorem row_drop {W : World} {g off k : Nat} {zs : List Int} (h : P0.Row W (some ⟨g, off, none⟩) zs) (hk : k ≤ zs.length) : P0.Row W (some ⟨g, off + k, none⟩) (zs.drop k) := by
  rcases h with h | ⟨b, o, e, hlt, hc⟩
  · subst h
    exact Or.inl (by simp)
  · cases e
    refine Or.inr ⟨g, off + k, rfl, hlt, fun j hj => ?_⟩
    rw [List.length_drop] at hj
    have := hc (k + j) (by omega)
    rw [show off + k + j = off + (k + j) by omega, this, P0.getD_get _ _ (by omega), P0.getD_get _ _ (by rw [List.length_drop]; omega), List.getElem_drop]
theorem row_take {W : World} {g off k : Nat} {zs : List Int} (h : P0.Row W (some ⟨g, off, none⟩) zs) (hk : k ≤ zs.length) : P0.Row W (some ⟨g, off, none⟩) (zs.take k) := by
  rcases h with h | ⟨b, o, e, hlt, hc⟩
  · subst h
    exact Or.inl (by simp)
  · cases e
    refine Or.inr ⟨g, off, rfl, hlt, fun j hj => ?_⟩
    rw [List.length_take] at hj
    rw [hc j (by omega), P0.getD_get _ _ (by omega), P0.getD_get _ _ (by rw [List.length_take]; omega), List.getElem_take]

set_option maxHeartbeats 4000000 in
theorem l04Add (g off c : Nat) (zs : List Int) (x : Int) (w : World) (hn : zs.length ≤ 1048576) (hc : zs.length ≤ c) (hR : P0.Row w (some ⟨g, off, none⟩) zs) :
    Calls Try.prog 39 #[.slice (some ⟨g, off, none⟩) zs.length c, .int .i64 x] w fun e w' => ∃ a' c', e = .returned (.slice a' (zs.length + 1) c') ∧ IBuf w.heap.size w' a' (zs.length + 1) c' (ins zs x) ∧ Below w.heap.size w w' := by
  go_enter Try.func39, Try.ntmps39
  go_wp2
  go_loop [5] (fun i => ∃ k : Nat, k ≤ zs.length ∧ (∀ j, j < k → zs.getD j 0 < x) ∧ i = .int .i64 k) (fun i => zs.length - (intOf i).toNat)
  case atStart => exact ⟨0, Nat.zero_le _, fun j hj => absurd hj (by omega), rfl⟩
  case round =>
    obtain ⟨k, hk, hless, rfl⟩ := hrel
    have hgo : (k < zs.length ∧ zs.getD k 0 < x) ∨ ((k < zs.length → ¬ zs.getD k 0 < x)) := by
      by_cases h1 : k < zs.length
      · by_cases h2 : zs.getD k 0 < x
        · exact Or.inl ⟨h1, h2⟩
        · exact Or.inr fun _ => h2
      · exact Or.inr fun h => absurd h h1
    rcases hgo with ⟨hlt, x2⟩ | hend
    · obtain ⟨b, of2, hab, _, hcl⟩ := hR.get hlt
      cases hab
      have x1 := hcl k hlt
      have HL : Hid (∀ j, j < k + 1 → zs.getD j 0 < x) := fun j hj => by
        by_cases h : j = k
        · subst h; exact x2
        · exact hless j (by omega)
      obtain ⟨z, ez⟩ : ∃ z, zs.getD k 0 = z := ⟨_, rfl⟩
      rw [ez] at x1 x2
      have e1 : (0 : Int) ≤ (k : Int) := by omega
      have e2 : (k : Int) < (zs.length : Int) := by omega
      clear ez hcl hR hless
      go_wp2
      go_round
      case rel => exact ⟨k + 1, by omega, HL.out, by go_num⟩
      case measure => simp [intOf]; omega
    · have HI : Hid (ins zs x = zs.take k ++ x :: zs.drop k) := ins_at hk hless hend
      have e1 : (0 : Int) ≤ (k : Int) := by omega
      have e2 : (k : Int) ≤ (c : Int) := by omega
      have e3 : (k : Int) ≤ (zs.length : Int) := by omega
      have L0 : Below w.heap.size w w.drew := (Below.refl _ _).drew
      have L1 := L0.alloc L0.size (.cells #[] 3)
      have L2 := L1.alloc L1.size (.cells #[.int .i64 x] 3)
      have M1 := L0.alloc L0.size (.cells #[.int .i64 x] 3)
      have L3 := M1.alloc M1.size (.cells #[] 3)
      have B1 := J0.ibuf_made w.drew L0.size
      have B2 := B1.alloc (.cells #[.int .i64 x] 3)
      have B3 := J0.ibuf_made (w.drew.alloc (.cells #[.int .i64 x] 3)) M1.size
      have X2 := Y1.row_one (w.drew.alloc (.cells #[] 3)) x
      have X3 := (Y1.row_one w.drew x).alloc (.cells #[] 3)
      have hTr := row_take (k := k) hR hk
      have hDr := row_drop (k := k) hR hk
      have hTl : (zs.take k).length = k := by rw [List.length_take]; omega
      have hDl : (zs.drop k).length = zs.length - k := List.length_drop
      have hsum : k + (zs.length - k) = zs.length := by omega
      -- the test, as the walk meets it
      have htest : (k = zs.length) ∨ (k < zs.length ∧ ∃ z, w.cell? ⟨g, off + k, none⟩ = some (.int .i64 z) ∧ decide (z < x) = false) := by
        by_cases h : k < zs.length
        · right
          obtain ⟨b, of2, hab, _, hcl⟩ := hR.get h
          cases hab
          exact ⟨h, _, hcl k h, by simpa using hend h⟩
        · left; omega
      obtain ⟨T, hT⟩ : ∃ T, zs.take k = T := ⟨_, rfl⟩
      obtain ⟨D, hD⟩ : ∃ D, zs.drop k = D := ⟨_, rfl⟩
      rw [hT] at HI hTr hTl
      rw [hD] at HI hDr hDl
      clear hT hD hless hend hR
      rcases htest with hkn | ⟨hkn, z, hz, hzx⟩
      · subst hkn
        obtain rfl : D = [] := List.eq_nil_of_length_eq_zero (by omega)
        have e9 : decide ((zs.length : Int) < (zs.length : Int)) = false := by simp
        clear hDr hDl hsum
        by_cases hcn : c = zs.length
        · subst c
          clear hk hc
          go_wp2
          go_region_law (first
            | (refine step_rows rfl (.tmp 27) (.tmp 30) rfl f8 (some ⟨g, off, none⟩) (0) [] (by simp [Act.eval, Act.put, hTl]) (by simp [Act.eval, Act.put, hTl]) (Or.inl rfl) (by simp only [List.length_cons, List.length_nil]; omega) l8.size ?_; intro a9 c9 w9 f9 g9; have l9 := l8.trans (D7.run_below f8 l8.size g9))
            | (refine step_rows rfl (.tmp 24) (.tmp 26) rfl f7 _ _ [x] (by simp [Act.eval, Act.put, hTl]) (by simp [Act.eval, Act.put]; rfl) x7 (by simp only [List.length_cons, List.length_nil]; omega) l7.size ?_; intro a8 c8 w8 f8 g8; have l8 := l7.trans (D7.run_below f7 l7.size g8))
            | (refine step_rows rfl (.tmp 24) (.tmp 26) rfl (f7.alloc (.cells #[.int .i64 x] 3)) (some ⟨w7.heap.size, 0, none⟩) 1 [x] (by simp [Act.eval, Act.put, hTl]) (by simp [Act.eval, Act.put]) (Y1.row_one w7 x) (by simp only [List.length_cons, List.length_nil]; omega) (l7.alloc l7.size _).size ?_; intro a8 c8 w8 f8 g8; have l8 := (l7.alloc l7.size (.cells #[.int .i64 x] 3)).trans (D7.run_below (f7.alloc (.cells #[.int .i64 x] 3)) (l7.alloc l7.size (.cells #[.int .i64 x] 3)).size g8))
            | (refine step_rows rfl (.tmp 20) (.tmp 23) rfl B1 (some ⟨g, off, none⟩) zs.length T (by simp [Act.eval, Act.put]) (by simp [Act.eval, Act.put, hTl]) (hTr.below L1) (by omega) L1.size ?_; intro a7 c7 w7 f7 g7; have l7 := L1.trans (D7.run_below B1 L1.size g7))
            | (refine step_rows rfl (.tmp 20) (.tmp 23) rfl B2 (some ⟨g, off, none⟩) zs.length T (by simp [Act.eval, Act.put]) (by simp [Act.eval, Act.put, hTl]) (hTr.below L2) (by omega) L2.size ?_; intro a7 c7 w7 f7 g7; have l7 := L2.trans (D7.run_below B2 L2.size g7); have x7 := row_grown X2 g7 (by rintro p ⟨⟩ h; simp [Value.ownBlock] at h))
            | (refine step_rows rfl (.tmp 20) (.tmp 23) rfl B3 (some ⟨g, off, none⟩) zs.length T (by simp [Act.eval, Act.put]) (by simp [Act.eval, Act.put, hTl]) (hTr.below L3) (by omega) L3.size ?_; intro a7 c7 w7 f7 g7; have l7 := L3.trans (D7.run_below B3 L3.size g7); have x7 := row_grown X3 g7 (by rintro p ⟨⟩ h; simp [Value.ownBlock] at h)))
          all_goals
            have f9 : IBuf w.heap.size w9 a9 (zs.length + 1) c9 (ins zs x) := by
              rw [HI.out]
              have hf := f9
              simp only [List.nil_append, List.append_assoc, List.cons_append, List.append_nil] at hf
              rw [show 0 + T.length + [x].length + ([] : List Int).length = zs.length + 1 by simp only [List.length_cons, List.length_nil]; omega] at hf
              exact hf
            go_wp2
            go_ret
            exact ⟨a9, c9, by rfl, f9, l9⟩
        · clear hk
          go_wp2
          go_region_law (first
            | (refine step_rows rfl (.tmp 27) (.tmp 30) rfl f8 (some ⟨g, off + zs.length, none⟩) (c - zs.length) [] (by simp [Act.eval, Act.put, hTl]) (by simp [Act.eval, Act.put, hTl]) (Or.inl rfl) (by simp only [List.length_cons, List.length_nil]; omega) l8.size ?_; intro a9 c9 w9 f9 g9; have l9 := l8.trans (D7.run_below f8 l8.size g9))
            | (refine step_rows rfl (.tmp 24) (.tmp 26) rfl f7 _ _ [x] (by simp [Act.eval, Act.put, hTl]) (by simp [Act.eval, Act.put]; rfl) x7 (by simp only [List.length_cons, List.length_nil]; omega) l7.size ?_; intro a8 c8 w8 f8 g8; have l8 := l7.trans (D7.run_below f7 l7.size g8))
            | (refine step_rows rfl (.tmp 24) (.tmp 26) rfl (f7.alloc (.cells #[.int .i64 x] 3)) (some ⟨w7.heap.size, 0, none⟩) 1 [x] (by simp [Act.eval, Act.put, hTl]) (by simp [Act.eval, Act.put]) (Y1.row_one w7 x) (by simp only [List.length_cons, List.length_nil]; omega) (l7.alloc l7.size _).size ?_; intro a8 c8 w8 f8 g8; have l8 := (l7.alloc l7.size (.cells #[.int .i64 x] 3)).trans (D7.run_below (f7.alloc (.cells #[.int .i64 x] 3)) (l7.alloc l7.size (.cells #[.int .i64 x] 3)).size g8))
            | (refine step_rows rfl (.tmp 20) (.tmp 23) rfl B1 (some ⟨g, off, none⟩) c T (by simp [Act.eval, Act.put]) (by simp [Act.eval, Act.put, hTl]) (hTr.below L1) (by omega) L1.size ?_; intro a7 c7 w7 f7 g7; have l7 := L1.trans (D7.run_below B1 L1.size g7))
            | (refine step_rows rfl (.tmp 20) (.tmp 23) rfl B2 (some ⟨g, off, none⟩) c T (by simp [Act.eval, Act.put]) (by simp [Act.eval, Act.put, hTl]) (hTr.below L2) (by omega) L2.size ?_; intro a7 c7 w7 f7 g7; have l7 := L2.trans (D7.run_below B2 L2.size g7); have x7 := row_grown X2 g7 (by rintro p ⟨⟩ h; simp [Value.ownBlock] at h))
            | (refine step_rows rfl (.tmp 20) (.tmp 23) rfl B3 (some ⟨g, off, none⟩) c T (by simp [Act.eval, Act.put]) (by simp [Act.eval, Act.put, hTl]) (hTr.below L3) (by omega) L3.size ?_; intro a7 c7 w7 f7 g7; have l7 := L3.trans (D7.run_below B3 L3.size g7); have x7 := row_grown X3 g7 (by rintro p ⟨⟩ h; simp [Value.ownBlock] at h)))
          all_goals
            have f9 : IBuf w.heap.size w9 a9 (zs.length + 1) c9 (ins zs x) := by
              rw [HI.out]
              have hf := f9
              simp only [List.nil_append, List.append_assoc, List.cons_append, List.append_nil] at hf
              rw [show 0 + T.length + [x].length + ([] : List Int).length = zs.length + 1 by simp only [List.length_cons, List.length_nil]; omega] at hf
              exact hf
            go_wp2
            go_ret
            exact ⟨a9, c9, by rfl, f9, l9⟩
      · have e4 : (k : Int) < (zs.length : Int) := by omega
        have hck : ¬ c = k := by omega
        go_wp2
        go_region_law (first
          | (refine step_rows rfl (.tmp 27) (.tmp 30) rfl f8 (some ⟨g, off + k, none⟩) (c - k) D (by simp [Act.eval, Act.put, hTl, hDl]) (by simp [Act.eval, Act.put, hTl, hDl]) (hDr.below l8) (by simp only [List.length_cons, List.length_nil]; omega) l8.size ?_; intro a9 c9 w9 f9 g9; have l9 := l8.trans (D7.run_below f8 l8.size g9))
          | (refine step_rows rfl (.tmp 24) (.tmp 26) rfl f7 _ _ [x] (by simp [Act.eval, Act.put, hTl, hDl]) (by simp [Act.eval, Act.put]; rfl) x7 (by simp only [List.length_cons, List.length_nil]; omega) l7.size ?_; intro a8 c8 w8 f8 g8; have l8 := l7.trans (D7.run_below f7 l7.size g8))
          | (refine step_rows rfl (.tmp 24) (.tmp 26) rfl (f7.alloc (.cells #[.int .i64 x] 3)) (some ⟨w7.heap.size, 0, none⟩) 1 [x] (by simp [Act.eval, Act.put, hTl, hDl]) (by simp [Act.eval, Act.put]) (Y1.row_one w7 x) (by simp only [List.length_cons, List.length_nil]; omega) (l7.alloc l7.size _).size ?_; intro a8 c8 w8 f8 g8; have l8 := (l7.alloc l7.size (.cells #[.int .i64 x] 3)).trans (D7.run_below (f7.alloc (.cells #[.int .i64 x] 3)) (l7.alloc l7.size (.cells #[.int .i64 x] 3)).size g8))
          | (refine step_rows rfl (.tmp 20) (.tmp 23) rfl B1 (some ⟨g, off, none⟩) c T (by simp [Act.eval, Act.put]) (by simp [Act.eval, Act.put, hTl, hDl]) (hTr.below L1) (by omega) L1.size ?_; intro a7 c7 w7 f7 g7; have l7 := L1.trans (D7.run_below B1 L1.size g7))
          | (refine step_rows rfl (.tmp 20) (.tmp 23) rfl B2 (some ⟨g, off, none⟩) c T (by simp [Act.eval, Act.put]) (by simp [Act.eval, Act.put, hTl, hDl]) (hTr.below L2) (by omega) L2.size ?_; intro a7 c7 w7 f7 g7; have l7 := L2.trans (D7.run_below B2 L2.size g7); have x7 := row_grown X2 g7 (by rintro p ⟨⟩ h; simp [Value.ownBlock] at h))
          | (refine step_rows rfl (.tmp 20) (.tmp 23) rfl B3 (some ⟨g, off, none⟩) c T (by simp [Act.eval, Act.put]) (by simp [Act.eval, Act.put, hTl, hDl]) (hTr.below L3) (by omega) L3.size ?_; intro a7 c7 w7 f7 g7; have l7 := L3.trans (D7.run_below B3 L3.size g7); have x7 := row_grown X3 g7 (by rintro p ⟨⟩ h; simp [Value.ownBlock] at h)))
        all_goals
          have f9 : IBuf w.heap.size w9 a9 (zs.length + 1) c9 (ins zs x) := by
            rw [HI.out]
            have hf := f9
            simp only [List.nil_append, List.append_assoc, List.cons_append, List.append_nil] at hf
            rw [show 0 + T.length + [x].length + D.length = zs.length + 1 by simp only [List.length_cons, List.length_nil]; omega] at hf
            exact hf
          go_wp2
          go_ret
          exact ⟨a9, c9, by refine ret_len ?_; omega, f9, l9⟩
end Go.Proofs.Ytddlpejklpljoaa.Y5

/- The contract of spec.l05Only at any rows, as the given laws call it, and a sorted row's plain facts. -/
namespace Go.Proofs.Ytddlpejklpljoaa.Y6
open Go.ChangeShapes Go.WideShapes Go.ChangeAt Go.RowKit
set_option linter.unusedVariables false
set_option linter.unusedSimpArgs false
set_option maxRecDepth 10000

open J0 (IBuf Own)
open I2 (ints)
open Y5 (ins)
open Y2 (ibuf_mono)

/-- A row's numbers in order. -/
def srt (zs : List Int) : List Int := zs.foldl ins []
theorem srt_snoc (zs : List Int) (x : Int) : srt (zs ++ [x]) = ins (srt zs) x := by simp [srt, List.foldl_append]

theorem foldl_perm (zs acc : List Int) : (zs.foldl ins acc).Perm (acc ++ zs) := by
  induction zs generalizing acc with
  | nil => simp
  | cons z zs ih =>
    refine (ih (ins acc z)).trans ?_
    refine ((Y5.ins_perm acc z).append_right zs).trans ?_
    exact (List.perm_middle (l₁ := acc) (l₂ := zs) (a := z)).symm
theorem srt_perm (zs : List Int) : (srt zs).Perm zs := foldl_perm zs []
theorem srt_length (zs : List Int) : (srt zs).length = zs.length := (srt_perm zs).length_eq
theorem foldl_sorted (zs acc : List Int) (h : acc.Pairwise (· ≤ ·)) : (zs.foldl ins acc).Pairwise (· ≤ ·) := by
  induction zs generalizing acc with
  | nil => exact h
  | cons z zs ih => exact ih _ (Y5.ins_sorted z h)
theorem srt_sorted (zs : List Int) : (srt zs).Pairwise (· ≤ ·) := foldl_sorted zs [] List.Pairwise.nil

/-- Two rows in order that hold the same are one. -/
theorem sorted_one : ∀ {xs ys : List Int}, xs.Perm ys → xs.Pairwise (· ≤ ·) → ys.Pairwise (· ≤ ·) → xs = ys
  | [], ys, hp, _, _ => (List.nil_perm.1 hp).symm
  | x :: xs, [], hp, _, _ => absurd hp.length_eq (by simp)
  | x :: xs, y :: ys, hp, h1, h2 => by
    have q1 := List.pairwise_cons.1 h1
    have q2 := List.pairwise_cons.1 h2
    have hx : x ∈ y :: ys := hp.mem_iff.1 (by simp)
    have hy : y ∈ x :: xs := hp.mem_iff.2 (by simp)
    obtain rfl : x = y := by
      rcases List.mem_cons.1 hx with e | m1
      · exact e
      · rcases List.mem_cons.1 hy with e | m2
        · exact e.symm
        · have := q1.1 y m2
          have := q2.1 x m1
          omega
    rw [sorted_one (List.perm_cons x |>.1 hp) q1.2 q2.2]

/-- .. as the library's sort lays it. -/
theorem merge_srt (zs : List Int) : zs.mergeSort (fun x y => decide (x ≤ y)) = srt zs := by
  refine sorted_one ((List.mergeSort_perm zs _).trans (srt_perm zs).symm) ?_ (srt_sorted zs)
  have := List.pairwise_mergeSort (le := fun x y : Int => decide (x ≤ y)) (fun a b c h1 h2 => by simp only [decide_eq_true_eq] at h1 h2 ⊢; omega) (fun a b => by simp only [Bool.or_eq_true, decide_eq_true_eq]; omega) zs
  exact this.imp fun h => by simpa using h

/-- Those of a row that are among others, or those that are not. -/
def kept (b : Bool) (zs al : List Int) : List Int := zs.filter fun z => P0.has al z == b
theorem kept_yes {b : Bool} {zs al : List Int} {k : Nat} (hk : k < zs.length) (h : P0.has al (zs.getD k 0) = b) : srt (kept b (zs.take (k + 1)) al) = ins (srt (kept b (zs.take k) al)) (zs.getD k 0) := by
  rw [← srt_snoc]
  unfold kept
  rw [List.take_succ_eq_append_getElem hk, List.filter_append, P0.getD_get _ _ hk]
  rw [P0.getD_get _ _ hk] at h
  simp [h]
theorem kept_no {b : Bool} {zs al : List Int} {k : Nat} (hk : k < zs.length) (h : P0.has al (zs.getD k 0) = !b) : srt (kept b (zs.take (k + 1)) al) = srt (kept b (zs.take k) al) := by
  unfold kept
  rw [List.take_succ_eq_append_getElem hk, List.filter_append]
  rw [P0.getD_get _ _ hk] at h
  cases b <;> simp [h]
theorem kept_len (b : Bool) (zs al : List Int) (k : Nat) : (srt (kept b (zs.take k) al)).length ≤ zs.length := by
  rw [srt_length]
  exact Nat.le_trans (List.length_filter_le _ _) (by rw [List.length_take]; omega)

end Go.Proofs.Ytddlpejklpljoaa.Y6
