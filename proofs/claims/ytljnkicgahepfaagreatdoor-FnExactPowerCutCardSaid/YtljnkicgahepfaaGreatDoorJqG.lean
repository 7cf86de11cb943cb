/- Joined texts: plain facts and contracts. -/
import Derived.Test.YtljnkicgahepfaaGreatDoorJqF
import Derived.Test.YtljnkicgahepfaaGreatDoorJqC
import Derived.Deep.Fields
set_option linter.unusedVariables false
set_option linter.unusedSimpArgs false
set_option maxRecDepth 10000
namespace Go.Proofs.YtljnkicgahepfaaGreatDoor.N0
open Go
structure Ln where
 ino : Int
 cl : Int
 un : Int
 rc : ByteArray
 pg : List Int
 sav : ByteArray
 po : List Int
 fr : List Int
def to (f : Nat → Bool) (k : Nat) : Bool := (List.range k).all f
theorem to_succ (f : Nat → Bool) (k : Nat) : to f (k + 1) = (to f k && f k) := by simp [to, List.range_succ]
theorem to_iff {f : Nat → Bool} {k : Nat} : to f k = true ↔ ∀ i, i < k → f i = true := by simp [to, List.all_eq_true]
theorem to_bad {f : Nat → Bool} {k n : Nat} (hk : k < n) (h : f k = false) : to f n = false := by
 cases e : to f n with
 | false => rfl
 | true => rw [to_iff.1 e k hk] at h; cases h
theorem to_step {f : Nat → Bool} {k : Nat} (h : to f k = true) (hf : f k = true) : to f (k + 1) = true := by rw [to_succ, h, hf]; rfl
def ascAt (zs : List Int) (i : Nat) : Bool := decide (i = 0) || decide (zs.getD (i - 1) 0 < zs.getD i 0)
def asc (zs : List Int) : Bool := to (ascAt zs) zs.length
def upAt (zs : List Int) (a b : Int) (i : Nat) : Bool := B1.inB (zs.getD i 0) a b && ascAt zs i
def up (zs : List Int) (a b : Int) : Bool := to (upAt zs a b) zs.length
def apAt (pg po : List Int) (i : Nat) : Bool := !(P0.has pg (po.getD i 0))
def apart (pg po : List Int) : Bool := to (apAt pg po) po.length
def frAt (fr : List Int) (ino : Int) (i : Nat) : Bool := B1.inB (fr.getD i 0) 1 7 && !decide (fr.getD i 0 = ino)
def past (d : Ln) : Bool := G0.isI d.rc && (!decide (G0.gK d.rc = 0) && (decide (G0.gZ d.rc = d.pg) && (decide (d.sav.size = d.pg.length * 32) && (!decide (G0.gK d.rc = 2) || V0.isD (B2.part d.sav 0 (G0.gS d.rc))))))
def nums (d : Ln) : Bool := decide (0 ≤ d.ino) && (decide (d.ino < 8) && (decide (0 ≤ d.cl) && (decide (d.cl ≤ 8) && decide (0 ≤ d.un))))
def poolOk (d : Ln) : Bool := decide (d.po.length ≤ 4) && (asc d.po && P0.pagesOk (G0.gZ d.rc ++ d.po))
def freshOk (d : Ln) : Bool := if G0.gK d.rc = 2 then decide (d.fr.length ≤ 2) && (asc d.fr && to (frAt d.fr d.ino) d.fr.length) else decide (d.fr.length = 0)
def loanOk (d : Ln) : Bool := past d && (nums d && (poolOk d && freshOk d))
def sFirst (d : Ln) : Bool := G0.isI d.rc && (!decide (G0.gK d.rc = 0) && (B1.inB d.ino 0 7 && (B1.inB d.cl 0 8 && (!decide (d.un < 0) && (decide (G0.gZ d.rc = d.pg) && decide (d.sav.size = d.pg.length * 32))))))
def sDir (d : Ln) : Bool := !decide (G0.gK d.rc = 2) || V0.isD (B2.part d.sav 0 (G0.gS d.rc))
def sLast (d : Ln) : Bool := up d.po 5 23 && (decide (d.po.length ≤ 4) && (up d.fr 1 7 && (decide (d.fr.length ≤ 2) && (!(P0.has d.fr d.ino) && (decide (G0.gK d.rc = 2) || decide (d.fr.length = 0))))))
def sOk (d : Ln) : Bool := sFirst d && (apart d.pg d.po && (sDir d && sLast d))
theorem getD_mem {zs : List Int} {i : Nat} (h : i < zs.length) : zs.getD i 0 ∈ zs := by
 rw [P0.getD_get _ _ h]
 exact List.getElem_mem h
theorem mem_getD {zs : List Int} {z : Int} (h : z ∈ zs) : ∃ i, i < zs.length ∧ zs.getD i 0 = z := by
 obtain ⟨i, hi, e⟩ := List.mem_iff_getElem.1 h
 exact ⟨i, hi, by rw [P0.getD_get _ _ hi]; exact e⟩
theorem has_iff {l : List Int} {x : Int} : P0.has l x = true ↔ x ∈ l := by unfold P0.has; exact List.contains_iff_mem
theorem has_not {l : List Int} {x : Int} : P0.has l x = false ↔ ¬ x ∈ l := by
 rw [← has_iff]
 cases P0.has l x <;> simp
theorem inB_iff {z a b : Int} : B1.inB z a b = true ↔ a ≤ z ∧ z ≤ b := by unfold B1.inB; simp
theorem pagesOk_iff {zs : List Int} : P0.pagesOk zs = true ↔ (∀ z ∈ zs, 5 ≤ z ∧ z ≤ 23) ∧ zs.Nodup := by
 have h0 : P0.pagesOk zs = to (P0.okAt zs) zs.length := rfl
 rw [h0, to_iff]
 constructor
 ·intro h
  refine ⟨fun z hz => ?_, ?_⟩
  ·obtain ⟨i, hi, rfl⟩ := mem_getD hz
   have := h i hi
   simp only [P0.okAt, Bool.and_eq_true] at this
   exact inB_iff.1 this.1
  ·rw [List.Nodup, List.pairwise_iff_getElem]
   intro i j hi hj hij e
   have := h j hj
   simp only [P0.okAt, Bool.and_eq_true, Bool.not_eq_true'] at this
   have h2 := P0.contains_of (zs := zs) hij (Nat.le_of_lt hj)
   rw [P0.getD_get _ _ hi, e, ← P0.getD_get _ _ hj, this.2] at h2
   cases h2
 ·rintro ⟨h1, h2⟩ i hi
  simp only [P0.okAt, Bool.and_eq_true, Bool.not_eq_true']
  refine ⟨inB_iff.2 (h1 _ (getD_mem hi)), has_not.2 fun hm => ?_⟩
  obtain ⟨j, hj, e⟩ := List.mem_iff_getElem.1 hm
  have hj' : j < i := by simp at hj; omega
  rw [List.getElem_take, P0.getD_get _ _ hi] at e
  rw [List.Nodup, List.pairwise_iff_getElem] at h2
  exact h2 j i (by omega) hi hj' e
theorem asc_iff {zs : List Int} : asc zs = true ↔ zs.Pairwise (· < ·) := by
 unfold asc
 rw [to_iff, List.pairwise_iff_getElem]
 constructor
 ·intro h i j hi hj hij
  induction j with
  | zero => omega
  | succ j ih =>
   have hs := h (j + 1) hj
   simp only [ascAt, Bool.or_eq_true, decide_eq_true_eq, Nat.add_sub_cancel] at hs
   have hs' : zs[j] < zs[j + 1] := by
    rcases hs with hs | hs
    ·omega
    ·rw [P0.getD_get _ _ (by omega), P0.getD_get _ _ hj] at hs
     exact hs
   by_cases e : i = j
   ·subst e
    exact hs'
   ·exact Int.lt_trans (ih (by omega) (by omega)) hs'
 ·intro h i hi
  simp only [ascAt, Bool.or_eq_true, decide_eq_true_eq]
  by_cases e : i = 0
  ·exact Or.inl e
  ·right
   rw [P0.getD_get _ _ (by omega), P0.getD_get _ _ hi]
   exact h (i - 1) i (by omega) hi (by omega)
theorem asc_nodup {zs : List Int} (h : asc zs = true) : zs.Nodup := (asc_iff.1 h).imp fun h e => by omega
theorem up_iff {zs : List Int} {a b : Int} : up zs a b = true ↔ (∀ z ∈ zs, a ≤ z ∧ z ≤ b) ∧ asc zs = true := by
 unfold up asc
 rw [to_iff, to_iff]
 constructor
 ·intro h
  refine ⟨fun z hz => ?_, fun i hi => ?_⟩
  ·obtain ⟨i, hi, rfl⟩ := mem_getD hz
   have := h i hi
   simp only [upAt, Bool.and_eq_true] at this
   exact inB_iff.1 this.1
  ·have := h i hi
   simp only [upAt, Bool.and_eq_true] at this
   exact this.2
 ·rintro ⟨h1, h2⟩ i hi
  simp only [upAt, Bool.and_eq_true]
  exact ⟨inB_iff.2 (h1 _ (getD_mem hi)), h2 i hi⟩
theorem apart_iff {pg po : List Int} : apart pg po = true ↔ ∀ z ∈ po, ¬ z ∈ pg := by
 unfold apart
 rw [to_iff]
 constructor
 ·intro h z hz
  obtain ⟨i, hi, rfl⟩ := mem_getD hz
  have := h i hi
  simp only [apAt, Bool.not_eq_true'] at this
  exact has_not.1 this
 ·intro h i hi
  simp only [apAt, Bool.not_eq_true']
  exact has_not.2 (h _ (getD_mem hi))
theorem frTo_iff {fr : List Int} {ino : Int} : to (frAt fr ino) fr.length = true ↔ (∀ z ∈ fr, 1 ≤ z ∧ z ≤ 7) ∧ ¬ ino ∈ fr := by
 rw [to_iff]
 constructor
 ·intro h
  refine ⟨fun z hz => ?_, fun hm => ?_⟩
  ·obtain ⟨i, hi, rfl⟩ := mem_getD hz
   have := h i hi
   simp only [frAt, Bool.and_eq_true] at this
   exact inB_iff.1 this.1
  ·obtain ⟨i, hi, e⟩ := mem_getD hm
   have := h i hi
   simp only [frAt, Bool.and_eq_true, Bool.not_eq_true', decide_eq_false_iff_not] at this
   exact this.2 e
 ·rintro ⟨h1, h2⟩ i hi
  simp only [frAt, Bool.and_eq_true, Bool.not_eq_true', decide_eq_false_iff_not]
  exact ⟨inB_iff.2 (h1 _ (getD_mem hi)), fun e => h2 (e ▸ getD_mem hi)⟩
theorem sOk_eq (d : Ln) : sOk d = loanOk d := by
 rw [Bool.eq_iff_iff]
 by_cases hP : sFirst d = true
 ·have h := hP
  simp only [sFirst, Bool.and_eq_true, Bool.not_eq_true', decide_eq_true_eq, decide_eq_false_iff_not, inB_iff] at h
  obtain ⟨hI, hk, hi, hc, hu, hz, hs⟩ := h
  have hg := O0.got hI
  have hpg := pagesOk_iff.1 hg.2.2.2.1
  rw [hz] at hpg
  simp only [sOk, loanOk, hP, past, nums, poolOk, hI, hk, hz, hs, Bool.and_eq_true, Bool.true_and, decide_true, decide_false, Bool.not_false, decide_eq_true_eq, sDir, sLast]
  rw [apart_iff, up_iff, up_iff, pagesOk_iff]
  constructor
  ·rintro ⟨h1, h2, ⟨h3, h4⟩, h5, ⟨h6, h7⟩, h8, h9, h10⟩
   refine ⟨h2, ⟨by omega, by omega, by omega, by omega, by omega⟩, ⟨h5, h4, ?_, ?_⟩, ?_⟩
   ·intro z hz'
    rcases List.mem_append.1 hz' with h | h
    ·exact hpg.1 z h
    ·exact h3 z h
   ·exact List.nodup_append.2 ⟨hpg.2, asc_nodup h4, fun a ha b hb e => h1 b hb (e ▸ ha)⟩
   ·unfold freshOk
    by_cases k2 : G0.gK d.rc = 2
    ·rw [if_pos k2]
     simp only [Bool.and_eq_true, decide_eq_true_eq]
     exact ⟨h8, h7, frTo_iff.2 ⟨h6, has_not.1 (by simpa using h9)⟩⟩
    ·rw [if_neg k2]
     simp only [k2, decide_false, Bool.false_or, decide_eq_true_eq, Bool.or_eq_true, false_or] at h10
     simpa using h10
  ·rintro ⟨h2, ⟨n1, n2, n3, n4, n5⟩, ⟨h5, h4, h3, hnd⟩, hf⟩
   have hnd' := List.nodup_append.1 hnd
   have hfr : up d.fr 1 7 = true ∧ d.fr.length ≤ 2 ∧ (!P0.has d.fr d.ino) = true ∧ (decide (G0.gK d.rc = 2) || decide (d.fr.length = 0)) = true := by
    unfold freshOk at hf
    by_cases k2 : G0.gK d.rc = 2
    ·rw [if_pos k2] at hf
     simp only [Bool.and_eq_true, decide_eq_true_eq] at hf
     obtain ⟨f1, f2, f3⟩ := hf
     obtain ⟨f4, f5⟩ := frTo_iff.1 f3
     exact ⟨up_iff.2 ⟨f4, f2⟩, f1, by simpa using has_not.2 f5, by simp [k2]⟩
    ·rw [if_neg k2] at hf
     have h0 : d.fr = [] := List.eq_nil_of_length_eq_zero (by simpa using hf)
     rw [h0]
     exact ⟨rfl, by decide, rfl, by simp⟩
   obtain ⟨q1, q2, q3, q4⟩ := hfr
   exact ⟨fun z hz' hz2 => hnd'.2.2 z hz2 z hz' rfl, h2, ⟨fun z hz' => h3 z (List.mem_append.2 (Or.inr hz')), h4⟩, h5, up_iff.1 q1, q2, q3, q4⟩
 ·have h1 : sFirst d = false := by simpa using hP
  simp only [sOk, h1, Bool.false_and, Bool.false_eq_true, false_iff]
  intro hl
  apply hP
  simp only [loanOk, past, nums, Bool.and_eq_true, decide_eq_true_eq] at hl
  obtain ⟨⟨a1, a2, a3, a4, a5⟩, ⟨b1, b2, b3, b4, b5⟩, -⟩ := hl
  simp only [sFirst, Bool.and_eq_true, decide_eq_true_eq, inB_iff]
  exact ⟨a1, a2, ⟨b1, by omega⟩, ⟨b3, b4⟩, by simp; omega, a3, a4⟩
theorem loanOk_is {d : Ln} (h : loanOk d = true) : G0.isI d.rc = true ∧ G0.gK d.rc ≠ 0 ∧ G0.gZ d.rc = d.pg ∧ d.sav.size = d.pg.length * 32 ∧ (0 ≤ d.ino ∧ d.ino ≤ 7) ∧ (0 ≤ d.cl ∧ d.cl ≤ 8) ∧ d.pg.length ≤ 6 ∧ d.po.length ≤ 4 ∧ d.fr.length ≤ 2 ∧ P0.pagesOk (d.pg ++ d.po) = true ∧ (∀ z ∈ d.fr, 1 ≤ z ∧ z ≤ 7) ∧ asc d.po = true ∧ asc d.fr = true := by
 have h' := h
 rw [← sOk_eq] at h'
 simp only [sOk, sFirst, sLast, Bool.and_eq_true, decide_eq_true_eq, inB_iff, Bool.not_eq_true', decide_eq_false_iff_not] at h'
 obtain ⟨⟨a1, a2, a3, a4, a5, a6, a7⟩, -, -, b1, b2, b3, b4, -⟩ := h'
 simp only [loanOk, poolOk, Bool.and_eq_true] at h
 have hp := h.2.2.1.2.2
 rw [a6] at hp
 have := (O0.got a1).2.1
 rw [a6] at this
 exact ⟨a1, a2, a6, a7, a3, a4, this, b2, b4, hp, (up_iff.1 b3).1, (up_iff.1 b1).2, (up_iff.1 b3).2⟩
end Go.Proofs.YtljnkicgahepfaaGreatDoor.N0
namespace Go.Proofs.YtljnkicgahepfaaGreatDoor.N1
open Go.ChangeShapes Go.WideShapes Go.ChangeAt Go.RowKit Go.Joins Go.Deep
open N0 (Ln)
structure Sl where
 a1 : Option Addr
 c1 : Nat
 a2 : Option Addr
 c2 : Nat
 a3 : Option Addr
 c3 : Nat
abbrev vals (d : Ln) (s : Sl) : List Value := [.int .i64 d.ino, .int .i64 d.cl, .int .i64 d.un, .string d.rc, .slice s.a1 d.pg.length s.c1, .string d.sav, .slice s.a2 d.po.length s.c2, .slice s.a3 d.fr.length s.c3]
abbrev val (d : Ln) (s : Sl) : Value := .agg #[.int .i64 d.ino, .int .i64 d.cl, .int .i64 d.un, .string d.rc, .slice s.a1 d.pg.length s.c1, .string d.sav, .slice s.a2 d.po.length s.c2, .slice s.a3 d.fr.length s.c3]
structure Lists (W : World) (d : Ln) (s : Sl) : Prop where
 r1 : P0.Row W s.a1 d.pg
 r2 : P0.Row W s.a2 d.po
 r3 : P0.Row W s.a3 d.fr
structure FitM (d : Ln) (s : Sl) : Prop where
 l1 : d.pg.length ≤ maxLen
 l2 : d.po.length ≤ maxLen
 l3 : d.fr.length ≤ maxLen
 m4 : d.rc.size ≤ maxLen
 m5 : d.sav.size ≤ maxLen
structure Fit (d : Ln) (s : Sl) : Prop where
 p1 : d.pg.length ≤ 281474976710656
 m4 : d.rc.size ≤ 281474976710656
 m5 : d.sav.size ≤ 281474976710656
variable {W W' : World} {d : Ln} {s : Sl}
theorem Lists.below (h : Lists W d s) (hb : Below W.heap.size W W') : Lists W' d s := ⟨h.r1.below hb, h.r2.below hb, h.r3.below hb⟩
theorem Lists.alloc (h : Lists W d s) (o : Obj) : Lists (W.alloc o) d s := ⟨h.r1.alloc o, h.r2.alloc o, h.r3.alloc o⟩
theorem Lists.drewN (h : Lists W d s) (n : Nat) : Lists (W.drewN n) d s := ⟨h.r1, h.r2, h.r3⟩
theorem Lists.drew (h : Lists W d s) : Lists W.drew d s := ⟨h.r1, h.r2, h.r3⟩
section Args
variable {H : Type} {enc : TypeId × Value → H} {w : World}
theorem cells : Tryz.prog.cellsOf 170 = 8 := by kernel_rfl
end Args
structure LB (B : Nat) (d : Ln) (s : Sl) (W : World) : Prop where
 b : K0.Blk B (vals d s) W
variable {B : Nat}
theorem LB.c0 (h : LB B d s W) : W.cell? ⟨B, 0, none⟩ = some (.int .i64 d.ino) := h.b.cell 0 (by simp)
theorem LB.c1 (h : LB B d s W) : W.cell? ⟨B, 1, none⟩ = some (.int .i64 d.cl) := h.b.cell 1 (by simp)
theorem LB.c2 (h : LB B d s W) : W.cell? ⟨B, 2, none⟩ = some (.int .i64 d.un) := h.b.cell 2 (by simp)
theorem LB.c3 (h : LB B d s W) : W.cell? ⟨B, 3, none⟩ = some (.string d.rc) := h.b.cell 3 (by simp)
theorem LB.c4 (h : LB B d s W) : W.cell? ⟨B, 4, none⟩ = some (.slice s.a1 d.pg.length s.c1) := h.b.cell 4 (by simp)
theorem LB.c5 (h : LB B d s W) : W.cell? ⟨B, 5, none⟩ = some (.string d.sav) := h.b.cell 5 (by simp)
theorem LB.c6 (h : LB B d s W) : W.cell? ⟨B, 6, none⟩ = some (.slice s.a2 d.po.length s.c2) := h.b.cell 6 (by simp)
theorem LB.c7 (h : LB B d s W) : W.cell? ⟨B, 7, none⟩ = some (.slice s.a3 d.fr.length s.c3) := h.b.cell 7 (by simp)
theorem LB.below (h : LB B d s W) (hb : Below W.heap.size W W') : LB B d s W' := ⟨h.b.below hb⟩
theorem lb_new (d : Ln) (s : Sl) (w : World) (T : TypeId) : LB w.heap.size d s (w.alloc (.cells #[.int .i64 d.ino, .int .i64 d.cl, .int .i64 d.un, .string d.rc, .slice s.a1 d.pg.length s.c1, .string d.sav, .slice s.a2 d.po.length s.c2, .slice s.a3 d.fr.length s.c3] T)) := ⟨K0.blk_new (vals d s) w T⟩
end Go.Proofs.YtljnkicgahepfaaGreatDoor.N1
namespace Go.Proofs.YtljnkicgahepfaaGreatDoor.N2
open Go.ChangeShapes Go.WideShapes Go.ChangeAt Go.RowKit
open P1 (ret_bool quiet_bool)
theorem hasRow (a : Option Addr) (c : Nat) (zs : List Int) (x : Int) (w : World) (hbig : zs.length ≤ 281474976710656) (hR : P0.Row w a zs) :
  Calls Tryz.prog 106 #[.slice a zs.length c, .int .i64 x] w fun e w' => e = .returned (.bool (P0.has zs x)) ∧ w' = w := by
 by_cases h0 : zs = []
 ·subst h0
  go_enter Tryz.func106, Tryz.ntmps106
  go_wp2
  go_loop [5] (fun i => i = .int .i64 0) (fun _ => 0)
  case atStart => rfl
  case round =>
   subst hrel
   go_wp2
   go_ret
   exact ⟨rfl, rfl⟩
 ·rcases hR with h | ⟨b, off, rfl, hb, hc⟩
  ·exact absurd h h0
  ·have := P1.l02Has b off zs.length c zs x w (Nat.le_refl _) hbig hc
   rw [List.take_length] at this
   exact this
theorem containsRow (a : Option Addr) (c : Nat) (zs : List Int) (x : Int) (w : World) (hbig : zs.length ≤ 281474976710656) (hR : P0.Row w a zs) :
  Calls Tryz.prog 178 #[.slice a zs.length c, .int .i64 x] w fun e w' => e = .returned (.bool (P0.has zs x)) ∧ w' = w := by
 by_cases h0 : zs = []
 ·subst h0
  exact Tryz.slices_Contains_int_empty a c x w
 ·rcases hR with h | ⟨b, off, rfl, hb, hc⟩
  ·exact absurd h h0
  ·have := P1.impl_Contains b off zs.length c zs x w (Nat.le_refl _) hbig hc
   rw [List.take_length] at this
   exact this
theorem ascends (a : Option Addr) (c : Nat) (zs : List Int) (w : World) (hbig : zs.length ≤ 281474976710656) (hR : P0.Row w a zs) :
  Calls Tryz.prog 54 #[.slice a zs.length c] w fun e w' => e = .returned (.bool (N0.asc zs)) ∧ ∃ n, w' = w.drewN n := by
 go_enter Tryz.func54, Tryz.ntmps54
 go_wp2
 go_loopw [3] (fun i w' => ∃ k n : Nat, 1 ≤ k ∧ (k ≤ zs.length ∨ k = 1) ∧ N0.to (N0.ascAt zs) k = true ∧ i = .int .i64 k ∧ w' = w.drewN n) (fun i _ => zs.length - (intOf i).toNat)
 case atStart => exact ⟨1, 0, Nat.le_refl _, Or.inr rfl, rfl, rfl, rfl⟩
 case round =>
  obtain ⟨k, n, hk1, hk, hok, rfl, hW⟩ := hrel
  have HW : Hid (∀ m, ∃ m', wr.drewN m = w.drewN m') := fun m => ⟨n + m, by rw [hW, World.drewN_drewN]⟩
  by_cases hlt : k < zs.length
  ·have hR' : P0.Row wr a zs := by rw [hW]; exact hR.drewN n
   obtain ⟨b, off, rfl, hb, hc⟩ := hR'.get hlt
   have x1 := hc k hlt
   have x2 := hc (k - 1) (by omega)
   have hat : N0.ascAt zs k = (decide (k = 0) || decide (zs.getD (k - 1) 0 < zs.getD k 0)) := rfl
   obtain ⟨z, ez⟩ : ∃ z, zs.getD k 0 = z := ⟨_, rfl⟩
   obtain ⟨y, ey⟩ : ∃ y, zs.getD (k - 1) 0 = y := ⟨_, rfl⟩
   rw [ez] at x1 hat
   rw [ey] at x2 hat
   have e1 : (0 : Int) ≤ (k : Int) := by omega
   have e2 : (k : Int) < (zs.length : Int) := by omega
   have e3 : (0 : Int) ≤ (k : Int) - 1 := by omega
   have e4 : (k : Int) - 1 < (zs.length : Int) := by omega
   have e5 : ((k : Int) - 1).toNat = k - 1 := by omega
   by_cases h : z ≤ y
   ·have HR : Hid (N0.asc zs = false) := N0.to_bad hlt (by rw [hat, decide_eq_false (by omega), decide_eq_false (by omega)]; rfl)
    clear hat hok ez ey hc hR hR' hW
    go_wp2
    go_quiet (fail)
    go_wp2
    go_ret
    exact ⟨ret_bool HR.out.symm, HW.out _⟩
   ·have h' : decide (z ≤ y) = false := by simpa using h
    have HO : Hid (N0.to (N0.ascAt zs) (k + 1) = true) := N0.to_step hok (by rw [hat, decide_eq_true (show y < z by omega), Bool.or_true])
    clear hat hok ez ey hc hR hR' hW
    go_wp2
    go_quiet (fail)
    go_wp2
    obtain ⟨m', hm'⟩ := HW.out nq
    go_roundw
    case rel => exact ⟨k + 1, m', by omega, Or.inl (by omega), HO.out, by go_num, hm'⟩
    case measure => simp [intOf]; omega
  ·have HR : Hid (N0.asc zs = true) := by
    show N0.to (N0.ascAt zs) zs.length = true
    exact N0.to_iff.2 fun i hi => N0.to_iff.1 hok i (by omega)
   have HW0 : Hid (wr = w.drewN n) := hW
   have e6 : decide ((k : Int) < (zs.length : Int)) = false := by simp; omega
   clear hok hR hW
   go_wp2
   go_ret
   exact ⟨ret_bool HR.out.symm, n, HW0.out⟩
def eqAt (xs ys : List Int) (i : Nat) : Bool := decide (xs.getD i 0 = ys.getD i 0)
theorem eq_of {xs ys : List Int} (hl : xs.length = ys.length) (h : N0.to (eqAt xs ys) xs.length = true) : xs = ys := by
 apply List.ext_getElem hl
 intro i h1 h2
 have := N0.to_iff.1 h i h1
 simp only [eqAt, decide_eq_true_eq] at this
 rwa [P0.getD_get _ _ h1, P0.getD_get _ _ h2] at this
theorem ne_of {xs ys : List Int} {k : Nat} (hk : ¬ xs.getD k 0 = ys.getD k 0) : ¬ xs = ys := fun e => hk (by rw [e])
theorem equal (a1 a2 : Option Addr) (c1 c2 : Nat) (xs ys : List Int) (w : World) (hb1 : xs.length ≤ 281474976710656) (hb2 : ys.length ≤ 281474976710656) (h1 : P0.Row w a1 xs) (h2 : P0.Row w a2 ys) :
  Calls Tryz.prog 280 #[.slice a1 xs.length c1, .slice a2 ys.length c2] w fun e w' => e = .returned (.bool (decide (xs = ys))) ∧ ∃ n, w' = w.drewN n := by
 by_cases hl : xs.length = ys.length
 ·have hl' : ((xs.length : Int) != (ys.length : Int)) = false := by simp; omega
  go_enter Tryz.func280, Tryz.ntmps280
  go_wp2
  go_loopw [13] (fun i w' => ∃ k n : Nat, k ≤ xs.length ∧ N0.to (eqAt xs ys) k = true ∧ i = .int .i64 k ∧ w' = w.drewN n) (fun i _ => xs.length - (intOf i).toNat)
  case atStart => exact ⟨0, 0, Nat.zero_le _, rfl, rfl, rfl⟩
  case round =>
   obtain ⟨k, n, hk, hok, rfl, hW⟩ := hrel
   have HW : Hid (∀ m, ∃ m', wr.drewN m = w.drewN m') := fun m => ⟨n + m, by rw [hW, World.drewN_drewN]⟩
   by_cases hlt : k < xs.length
   ·have h1' : P0.Row wr a1 xs := by rw [hW]; exact h1.drewN n
    have h2' : P0.Row wr a2 ys := by rw [hW]; exact h2.drewN n
    obtain ⟨b1, off1, rfl, _, hc1⟩ := h1'.get hlt
    obtain ⟨b2, off2, rfl, _, hc2⟩ := h2'.get (by omega : k < ys.length)
    have x1 := hc1 k hlt
    have x2 := hc2 k (by omega)
    have hat : eqAt xs ys k = decide (xs.getD k 0 = ys.getD k 0) := rfl
    have hne : ¬ xs.getD k 0 = ys.getD k 0 → ¬ xs = ys := ne_of
    obtain ⟨z, ez⟩ : ∃ z, xs.getD k 0 = z := ⟨_, rfl⟩
    obtain ⟨y, ey⟩ : ∃ y, ys.getD k 0 = y := ⟨_, rfl⟩
    rw [ez] at x1 hat hne
    rw [ey] at x2 hat hne
    have e1 : (0 : Int) ≤ (k : Int) := by omega
    have e2 : (k : Int) < (xs.length : Int) := by omega
    have e3 : (k : Int) < (ys.length : Int) := by omega
    by_cases h : z = y
    ·have h' : (z != y) = false := by simpa using h
     have HO : Hid (N0.to (eqAt xs ys) (k + 1) = true) := N0.to_step hok (by rw [hat, decide_eq_true h])
     clear hat hok ez ey hc1 hc2 h1 h2 h1' h2' hW h hne hl
     go_wp2
     go_quiet (fail)
     go_wp2
     obtain ⟨m', hm'⟩ := HW.out nq
     go_roundw
     case rel => exact ⟨k + 1, m', by omega, HO.out, by go_num, hm'⟩
     case measure => simp [intOf]; omega
    ·have h' : (z != y) = true := by simpa using h
     have HR : Hid (decide (xs = ys) = false) := decide_eq_false (hne h)
     clear hat hok ez ey hc1 hc2 h1 h2 h1' h2' hW h hne hl
     go_wp2
     go_quiet (fail)
     go_wp2
     go_ret
     exact ⟨ret_bool HR.out.symm, HW.out _⟩
   ·obtain rfl : k = xs.length := by omega
    have HR : Hid (decide (xs = ys) = true) := decide_eq_true (eq_of hl hok)
    have HW0 : Hid (wr = w.drewN n) := hW
    have e9 : decide (xs.length < ys.length) = false := decide_eq_false (by omega)
    clear hok h1 h2 hW hl
    go_wp2
    go_ret
    exact ⟨ret_bool HR.out.symm, n, HW0.out⟩
 ·have hl' : ((xs.length : Int) != (ys.length : Int)) = true := by simp; omega
  have HR : Hid (decide (xs = ys) = false) := decide_eq_false fun e => hl (by rw [e])
  clear hl
  go_enter Tryz.func280, Tryz.ntmps280
  go_wp2
  go_ret
  exact ⟨ret_bool HR.out.symm, 0, rfl⟩
theorem same (a1 a2 : Option Addr) (c1 c2 : Nat) (xs ys : List Int) (w : World) (hb1 : xs.length ≤ 281474976710656) (hb2 : ys.length ≤ 281474976710656) (h1 : P0.Row w a1 xs) (h2 : P0.Row w a2 ys) :
  Calls Tryz.prog 121 #[.slice a1 xs.length c1, .slice a2 ys.length c2] w fun e w' => e = .returned (.bool (decide (xs = ys))) ∧ ∃ n, w' = w.drewN n := by
 by_cases hl : xs.length = ys.length
 ·have hl' : ((xs.length : Int) != (ys.length : Int)) = false := by simp; omega
  go_enter Tryz.func121, Tryz.ntmps121
  go_wp2
  go_loopw [5] (fun i w' => ∃ k n : Nat, k ≤ xs.length ∧ N0.to (eqAt xs ys) k = true ∧ i = .int .i64 k ∧ w' = w.drewN n) (fun i _ => xs.length - (intOf i).toNat)
  case atStart => exact ⟨0, 0, Nat.zero_le _, rfl, rfl, rfl⟩
  case round =>
   obtain ⟨k, n, hk, hok, rfl, hW⟩ := hrel
   have HW : Hid (∀ m, ∃ m', wr.drewN m = w.drewN m') := fun m => ⟨n + m, by rw [hW, World.drewN_drewN]⟩
   by_cases hlt : k < xs.length
   ·have h1' : P0.Row wr a1 xs := by rw [hW]; exact h1.drewN n
    have h2' : P0.Row wr a2 ys := by rw [hW]; exact h2.drewN n
    obtain ⟨b1, off1, rfl, _, hc1⟩ := h1'.get hlt
    obtain ⟨b2, off2, rfl, _, hc2⟩ := h2'.get (by omega : k < ys.length)
    have x1 := hc1 k hlt
    have x2 := hc2 k (by omega)
    have hat : eqAt xs ys k = decide (xs.getD k 0 = ys.getD k 0) := rfl
    have hne : ¬ xs.getD k 0 = ys.getD k 0 → ¬ xs = ys := ne_of
    obtain ⟨z, ez⟩ : ∃ z, xs.getD k 0 = z := ⟨_, rfl⟩
    obtain ⟨y, ey⟩ : ∃ y, ys.getD k 0 = y := ⟨_, rfl⟩
    rw [ez] at x1 hat hne
    rw [ey] at x2 hat hne
    have e1 : (0 : Int) ≤ (k : Int) := by omega
    have e2 : (k : Int) < (xs.length : Int) := by omega
    have e3 : (k : Int) < (ys.length : Int) := by omega
    by_cases h : z = y
    ·have h' : (z != y) = false := by simpa using h
     have HO : Hid (N0.to (eqAt xs ys) (k + 1) = true) := N0.to_step hok (by rw [hat, decide_eq_true h])
     clear hat hok ez ey hc1 hc2 h1 h2 h1' h2' hW h hne hl
     go_wp2
     go_quiet (fail)
     go_wp2
     obtain ⟨m', hm'⟩ := HW.out nq
     go_roundw
     case rel => exact ⟨k + 1, m', by omega, HO.out, by go_num, hm'⟩
     case measure => simp [intOf]; omega
    ·have h' : (z != y) = true := by simpa using h
     have HR : Hid (decide (xs = ys) = false) := decide_eq_false (hne h)
     clear hat hok ez ey hc1 hc2 h1 h2 h1' h2' hW h hne hl
     go_wp2
     go_quiet (fail)
     go_wp2
     go_ret
     exact ⟨ret_bool HR.out.symm, HW.out _⟩
   ·obtain rfl : k = xs.length := by omega
    have HR : Hid (decide (xs = ys) = true) := decide_eq_true (eq_of hl hok)
    have HW0 : Hid (wr = w.drewN n) := hW
    have e9 : decide (xs.length < ys.length) = false := decide_eq_false (by omega)
    clear hok h1 h2 hW hl
    go_wp2
    go_ret
    exact ⟨ret_bool HR.out.symm, n, HW0.out⟩
 ·have hl' : ((xs.length : Int) != (ys.length : Int)) = true := by simp; omega
  have HR : Hid (decide (xs = ys) = false) := decide_eq_false fun e => hl (by rw [e])
  clear hl
  go_enter Tryz.func121, Tryz.ntmps121
  go_wp2
  go_ret
  exact ⟨ret_bool HR.out.symm, 0, rfl⟩
set_option maxHeartbeats 2000000 in
theorem l05Up (a : Option Addr) (c : Nat) (zs : List Int) (x y : Int) (w : World) (hbig : zs.length ≤ 281474976710656) (hR : P0.Row w a zs) :
  Calls Tryz.prog 184 #[.slice a zs.length c, .int .i64 x, .int .i64 y] w fun e w' => e = .returned (.bool (N0.up zs x y)) ∧ ∃ n, w' = w.drewN n := by
 go_enter Tryz.func184, Tryz.ntmps184
 go_wp2
 go_loopw [7] (fun i w' => ∃ k n : Nat, k ≤ zs.length ∧ N0.to (N0.upAt zs x y) k = true ∧ i = .int .i64 k ∧ w' = w.drewN n) (fun i _ => zs.length - (intOf i).toNat)
 case atStart => exact ⟨0, 0, Nat.zero_le _, rfl, rfl, rfl⟩
 case round =>
  obtain ⟨k, n, hk, hok, rfl, hW⟩ := hrel
  have HW : Hid (∀ m, ∃ m', wr.drewN m = w.drewN m') := fun m => ⟨n + m, by rw [hW, World.drewN_drewN]⟩
  by_cases hlt : k < zs.length
  ·have hR' : P0.Row wr a zs := by rw [hW]; exact hR.drewN n
   obtain ⟨b, off, rfl, hb, hc⟩ := hR'.get hlt
   have x1 := hc k hlt
   have hat : N0.upAt zs x y k = (B1.inB (zs.getD k 0) x y && (decide (k = 0) || decide (zs.getD (k - 1) 0 < zs.getD k 0))) := rfl
   have e1 : (0 : Int) ≤ (k : Int) := by omega
   have e2 : (k : Int) < (zs.length : Int) := by omega
   by_cases g0 : k = 0
   ·subst g0
    obtain ⟨z, ez⟩ : ∃ z, zs.getD 0 0 = z := ⟨_, rfl⟩
    rw [ez] at x1 hat
    rw [Nat.add_zero] at x1
    rw [decide_eq_true rfl, Bool.true_or, Bool.and_true] at hat
    cases h1 : B1.inB z x y with
    | true =>
     have HO : Hid (N0.to (N0.upAt zs x y) (0 + 1) = true) := N0.to_step hok (by rw [hat, h1])
     clear hat hok ez hc hR hR' hW
     go_wp2
     go_quiet ((go_at_call 44; exact quiet_bool (B1.l01In_any _ _ _ _) h1))
     go_wp2
     obtain ⟨m', hm'⟩ := HW.out nq
     go_roundw
     case rel => exact ⟨0 + 1, m', by omega, HO.out, by go_num, hm'⟩
     case measure => simp [intOf]; omega
    | false =>
     have HR : Hid (N0.up zs x y = false) := N0.to_bad hlt (by rw [hat, h1])
     clear hat hok ez hc hR hR' hW
     go_wp2
     go_quiet ((go_at_call 44; exact quiet_bool (B1.l01In_any _ _ _ _) h1))
     go_wp2
     go_ret
     exact ⟨ret_bool HR.out.symm, HW.out _⟩
   ·have x2 := hc (k - 1) (by omega)
    obtain ⟨z, ez⟩ : ∃ z, zs.getD k 0 = z := ⟨_, rfl⟩
    obtain ⟨u, eu⟩ : ∃ u, zs.getD (k - 1) 0 = u := ⟨_, rfl⟩
    rw [ez] at x1 hat
    rw [eu] at x2 hat
    rw [decide_eq_false g0, Bool.false_or] at hat
    have e3 : (0 : Int) ≤ (k : Int) - 1 := by omega
    have e4 : (k : Int) - 1 < (zs.length : Int) := by omega
    have e5 : ((k : Int) - 1).toNat = k - 1 := by omega
    have e6 : 0 < k := by omega
    cases h1 : B1.inB z x y with
    | true =>
     by_cases h : z ≤ u
     ·have HR : Hid (N0.up zs x y = false) := N0.to_bad hlt (by rw [hat, h1, decide_eq_false (by omega)]; rfl)
      clear hat hok ez eu hc hR hR' hW
      go_wp2
      go_quiet ((go_at_call 44; exact quiet_bool (B1.l01In_any _ _ _ _) h1))
      go_wp2
      go_ret
      exact ⟨ret_bool HR.out.symm, HW.out _⟩
     ·have h' : decide (z ≤ u) = false := by simpa using h
      have HO : Hid (N0.to (N0.upAt zs x y) (k + 1) = true) := N0.to_step hok (by rw [hat, h1, decide_eq_true (by omega)]; rfl)
      clear hat hok ez eu hc hR hR' hW
      go_wp2
      go_quiet ((go_at_call 44; exact quiet_bool (B1.l01In_any _ _ _ _) h1))
      go_wp2
      obtain ⟨m', hm'⟩ := HW.out nq
      go_roundw
      case rel => exact ⟨k + 1, m', by omega, HO.out, by go_num, hm'⟩
      case measure => simp [intOf]; omega
    | false =>
     have HR : Hid (N0.up zs x y = false) := N0.to_bad hlt (by rw [hat, h1]; rfl)
     clear hat hok ez eu hc hR hR' hW
     go_wp2
     go_quiet ((go_at_call 44; exact quiet_bool (B1.l01In_any _ _ _ _) h1))
     go_wp2
     go_ret
     exact ⟨ret_bool HR.out.symm, HW.out _⟩
  ·obtain rfl : k = zs.length := by omega
   have HR : Hid (N0.up zs x y = true) := hok
   have HW0 : Hid (wr = w.drewN n) := hW
   clear hok hR hW
   go_wp2
   go_ret
   exact ⟨ret_bool HR.out.symm, n, HW0.out⟩
end Go.Proofs.YtljnkicgahepfaaGreatDoor.N2
namespace Go.Proofs.YtljnkicgahepfaaGreatDoor.N3
open Go.ChangeShapes Go.WideShapes Go.ChangeAt Go.RowKit
open N0 (Ln)
open N1 (Sl val vals Lists FitM LB lb_new)
open I2 (ints)
def total (d : Ln) : Nat := d.rc.size + d.pg.length + d.sav.size + d.po.length + d.fr.length
theorem szOk (a : Option Addr) (c n : Nat) (l : Int) (w : World) (hn : n ≤ maxLen) (h1 : l ≤ 1048576) (h : (n : Int) ≤ l) :
  Calls Tryz.prog 208 #[.slice a n c, .int .i64 l] w fun e w' => e = .returned (.int .i64 (l - n)) ∧ w' = w :=
 (I2.szIntS a c n l w hn (by omega) h1).mono fun _ _ ⟨he, hw⟩ => ⟨by rw [he, I2.left, if_neg (by omega)], hw⟩
theorem szNo (a : Option Addr) (c n : Nat) (l : Int) (w : World) (hn : n ≤ maxLen) (h0 : 0 ≤ l) (h1 : l ≤ 1048576) (h : l < (n : Int)) :
  Calls Tryz.prog 208 #[.slice a n c, .int .i64 l] w fun e w' => e = .returned (.int .i64 (-1)) ∧ w' = w :=
 (I2.szIntS a c n l w hn h0 h1).mono fun _ _ ⟨he, hw⟩ => ⟨by rw [he, I2.left, if_pos (by omega)], hw⟩
theorem eqLoan (d : Ln) (s1 s2 : Sl) (w : World) (hp : d.pg.length ≤ 281474976710656) (ho : d.po.length ≤ 281474976710656) (hf : d.fr.length ≤ 281474976710656) (h1 : Lists w d s1) (h2 : Lists w d s2) :
  Calls Tryz.prog 157 #[val d s1, val d s2] w fun e w' => e = .returned (.bool true) ∧ Below w.heap.size w w' := by
 have b1 := lb_new d s1 w 66
 have hB := K0.below_new w (.cells #[.int .i64 d.ino, .int .i64 d.cl, .int .i64 d.un, .string d.rc, .slice s1.a1 d.pg.length s1.c1, .string d.sav, .slice s1.a2 d.po.length s1.c2, .slice s1.a3 d.fr.length s1.c3] 66)
 have hB2 := hB.alloc hB.size (.cells #[.int .i64 d.ino, .int .i64 d.cl, .int .i64 d.un, .string d.rc, .slice s2.a1 d.pg.length s2.c1, .string d.sav, .slice s2.a2 d.po.length s2.c2, .slice s2.a3 d.fr.length s2.c3] 66)
 have h1' := h1.below hB2
 have h2' := h2.below hB2
 obtain ⟨W, hW⟩ : ∃ W, (w.alloc (.cells #[.int .i64 d.ino, .int .i64 d.cl, .int .i64 d.un, .string d.rc, .slice s1.a1 d.pg.length s1.c1, .string d.sav, .slice s1.a2 d.po.length s1.c2, .slice s1.a3 d.fr.length s1.c3] 66)).alloc (.cells #[.int .i64 d.ino, .int .i64 d.cl, .int .i64 d.un, .string d.rc, .slice s2.a1 d.pg.length s2.c1, .string d.sav, .slice s2.a2 d.po.length s2.c2, .slice s2.a3 d.fr.length s2.c3] 66) = W := ⟨_, rfl⟩
 have hr1 : ∀ m, P0.Row (W.drewN m) s1.a1 d.pg := fun m => by rw [← hW]; exact h1'.r1.drewN m
 have hr2 : ∀ m, P0.Row (W.drewN m) s2.a1 d.pg := fun m => by rw [← hW]; exact h2'.r1.drewN m
 have hr3 : ∀ m, P0.Row (W.drewN m) s1.a2 d.po := fun m => by rw [← hW]; exact h1'.r2.drewN m
 have hr4 : ∀ m, P0.Row (W.drewN m) s2.a2 d.po := fun m => by rw [← hW]; exact h2'.r2.drewN m
 have hr5 : ∀ m, P0.Row (W.drewN m) s1.a3 d.fr := fun m => by rw [← hW]; exact h1'.r3.drewN m
 have hr6 : ∀ m, P0.Row (W.drewN m) s2.a3 d.fr := fun m => by rw [← hW]; exact h2'.r3.drewN m
 rw [hW] at hB2
 have hu : ∀ x : ByteArray, (x.toList != x.toList) = false := fun x => by simp
 subst hW
 go_enter Tryz.func157, Tryz.ntmps157
 go_wp2_with (first
  | (go_at_call 25; have n2' := n2; refine (I2.eqIntS _ _ _ _ d.fr _ hf (by simpa only [World.drewN_drewN] using hr5 (n1 + n2)) (by simpa only [World.drewN_drewN] using hr6 (n1 + n2))).mono ?_; rintro e w' ⟨rfl, n3, rfl⟩)
  | (go_at_call 25; have n1' := n1; refine (I2.eqIntS _ _ _ _ d.po _ ho (hr3 n1) (hr4 n1)).mono ?_; rintro e w' ⟨rfl, n2, rfl⟩)
  | (go_at_call 25; refine (I2.eqIntS _ _ _ _ d.pg _ hp (hr1 0) (hr2 0)).mono ?_; rintro e w' ⟨rfl, n1, rfl⟩))
 go_ret
 exact ⟨rfl, K0.below_drewN hB2 _⟩
end Go.Proofs.YtljnkicgahepfaaGreatDoor.N3
