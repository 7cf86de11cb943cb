/- Joined texts: plain facts and contracts, as each part says. -/
import Derived.Test.YtnfcpcejfajcfaaJoB
import Derived.Test.YtnfcpcejfajcfaaJoA
import Derived.Deep.Fields
import Derived.Deep.Slices
import Derived.Test.YtnfcpcejfajcfaaRows
import Derived.WalkKit
import Derived.ProofKit
import Derived.Below
import Derived.OrdersHeld
import Derived.Handy
import Derived.Shelf.Abstract
import Derived.Deep.QuietTactic
import Derived.BigQuiet
import Derived.Deep.RegionHeld3
import Derived.Laws.MakeOwn
import Derived.Deep.SlicePairs

/- Plain facts on loans: what a loan must be, as the program asks it and as its specification does. -/
namespace Go.Proofs.Ytnfcpcejfajcfaa.N0
open Go
set_option linter.unusedVariables false
set_option linter.unusedSimpArgs false

/-- A loan's numbers, texts and lists. -/
structure Ln where
  ino : Int
  cl : Int
  un : Int
  rc : ByteArray
  pg : List Int
  sav : ByteArray
  po : List Int
  fr : List Int

/-- A test that holds at the first places. -/
def to (f : Nat → Bool) (k : Nat) : Bool := (List.range k).all f

theorem to_zero (f : Nat → Bool) : to f 0 = true := rfl
theorem to_succ (f : Nat → Bool) (k : Nat) : to f (k + 1) = (to f k && f k) := by simp [to, List.range_succ]
theorem to_iff {f : Nat → Bool} {k : Nat} : to f k = true ↔ ∀ i, i < k → f i = true := by simp [to, List.all_eq_true]
theorem to_bad {f : Nat → Bool} {k n : Nat} (hk : k < n) (h : f k = false) : to f n = false := by
  cases e : to f n with
  | false => rfl
  | true => rw [to_iff.1 e k hk] at h; cases h
theorem to_step {f : Nat → Bool} {k : Nat} (h : to f k = true) (hf : f k = true) : to f (k + 1) = true := by rw [to_succ, h, hf]; rfl

def ascAt (zs : List Int) (i : Nat) : Bool := decide (i = 0) || decide (zs.getD (i - 1) 0 < zs.getD i 0)
def asc (zs : List Int) : Bool := to (ascAt zs) zs.length
def upAt (zs : List Int) (a b : Int) (i : Nat) : Bool := B1.inB (zs.getD i 0) a b && ascAt zs i
def up (zs : List Int) (a b : Int) : Bool := to (upAt zs a b) zs.length
def apAt (pg po : List Int) (i : Nat) : Bool := !(P0.has pg (po.getD i 0))
def apart (pg po : List Int) : Bool := to (apAt pg po) po.length
def amAt (zs al : List Int) (i : Nat) : Bool := P0.has al (zs.getD i 0)
def among (zs al : List Int) : Bool := to (amAt zs al) zs.length
def frAt (fr : List Int) (ino : Int) (i : Nat) : Bool := B1.inB (fr.getD i 0) 1 7 && !decide (fr.getD i 0 = ino)

/-- What a lent inode was is there. -/
def past (d : Ln) : Bool := G0.isI d.rc && (!decide (G0.gK d.rc = 0) && (decide (G0.gZ d.rc = d.pg) && (decide (d.sav.size = d.pg.length * 32) && (!decide (G0.gK d.rc = 2) || V0.isD (B2.part d.sav 0 (G0.gS d.rc))))))
def nums (d : Ln) : Bool := decide (0 ≤ d.ino) && (decide (d.ino < 8) && (decide (0 ≤ d.cl) && (decide (d.cl ≤ 8) && decide (0 ≤ d.un))))
def poolOk (d : Ln) : Bool := decide (d.po.length ≤ 4) && (asc d.po && P0.pagesOk (G0.gZ d.rc ++ d.po))
def freshOk (d : Ln) : Bool := if G0.gK d.rc = 2 then decide (d.fr.length ≤ 2) && (asc d.fr && to (frAt d.fr d.ino) d.fr.length) else decide (d.fr.length = 0)

/-- What a loan must be, as the program asks. -/
def loanOk (d : Ln) : Bool := past d && (nums d && (poolOk d && freshOk d))

/-- .. as the specification asks: what is asked first. -/
def sFirst (d : Ln) : Bool := G0.isI d.rc && (!decide (G0.gK d.rc = 0) && (B1.inB d.ino 0 7 && (B1.inB d.cl 0 8 && (!decide (d.un < 0) && (decide (G0.gZ d.rc = d.pg) && decide (d.sav.size = d.pg.length * 32))))))
def sDir (d : Ln) : Bool := !decide (G0.gK d.rc = 2) || V0.isD (B2.part d.sav 0 (G0.gS d.rc))
def sLast (d : Ln) : Bool := up d.po 5 23 && (decide (d.po.length ≤ 4) && (up d.fr 1 7 && (decide (d.fr.length ≤ 2) && (!(P0.has d.fr d.ino) && (decide (G0.gK d.rc = 2) || decide (d.fr.length = 0))))))
def sOk (d : Ln) : Bool := sFirst d && (apart d.pg d.po && (sDir d && sLast d))

theorem getD_mem {zs : List Int} {i : Nat} (h : i < zs.length) : zs.getD i 0 ∈ zs := by
  rw [P0.getD_get _ _ h]
  exact List.getElem_mem h
theorem mem_getD {zs : List Int} {z : Int} (h : z ∈ zs) : ∃ i, i < zs.length ∧ zs.getD i 0 = z := by
  obtain ⟨i, hi, e⟩ := List.mem_iff_getElem.1 h
  exact ⟨i, hi, by rw [P0.getD_get _ _ hi]; exact e⟩

theorem has_iff {l : List Int} {x : Int} : P0.has l x = true ↔ x ∈ l := by unfold P0.has; exact List.contains_iff_mem
theorem has_not {l : List Int} {x : Int} : P0.has l x = false ↔ ¬ x ∈ l := by
  rw [← has_iff]
  cases P0.has l x <;> simp

theorem inB_iff {z a b : Int} : B1.inB z a b = true ↔ a ≤ z ∧ z ≤ b := by unfold B1.inB; simp

theorem pagesOk_iff {zs : List Int} : P0.pagesOk zs = true ↔ (∀ z ∈ zs, 5 ≤ z ∧ z ≤ 23) ∧ zs.Nodup := by
  have h0 : P0.pagesOk zs = to (P0.okAt zs) zs.length := rfl
  rw [h0, to_iff]
  constructor
  · intro h
    refine ⟨fun z hz => ?_, ?_⟩
    · obtain ⟨i, hi, rfl⟩ := mem_getD hz
      have := h i hi
      simp only [P0.okAt, Bool.and_eq_true] at this
      exact inB_iff.1 this.1
    · rw [List.Nodup, List.pairwise_iff_getElem]
      intro i j hi hj hij e
      have := h j hj
      simp only [P0.okAt, Bool.and_eq_true, Bool.not_eq_true'] at this
      have h2 := P0.contains_of (zs := zs) hij (Nat.le_of_lt hj)
      rw [P0.getD_get _ _ hi, e, ← P0.getD_get _ _ hj, this.2] at h2
      cases h2
  · rintro ⟨h1, h2⟩ i hi
    simp only [P0.okAt, Bool.and_eq_true, Bool.not_eq_true']
    refine ⟨inB_iff.2 (h1 _ (getD_mem hi)), has_not.2 fun hm => ?_⟩
    obtain ⟨j, hj, e⟩ := List.mem_iff_getElem.1 hm
    have hj' : j < i := by simp at hj; omega
    rw [List.getElem_take, P0.getD_get _ _ hi] at e
    rw [List.Nodup, List.pairwise_iff_getElem] at h2
    exact h2 j i (by omega) hi hj' e

theorem asc_iff {zs : List Int} : asc zs = true ↔ zs.Pairwise (· < ·) := by
  unfold asc
  rw [to_iff, List.pairwise_iff_getElem]
  constructor
  · intro h i j hi hj hij
    induction j with
    | zero => omega
    | succ j ih =>
      have hs := h (j + 1) hj
      simp only [ascAt, Bool.or_eq_true, decide_eq_true_eq, Nat.add_sub_cancel] at hs
      have hs' : zs[j] < zs[j + 1] := by
        rcases hs with hs | hs
        · omega
        · rw [P0.getD_get _ _ (by omega), P0.getD_get _ _ hj] at hs
          exact hs
      by_cases e : i = j
      · subst e
        exact hs'
      · exact Int.lt_trans (ih (by omega) (by omega)) hs'
  · intro h i hi
    simp only [ascAt, Bool.or_eq_true, decide_eq_true_eq]
    by_cases e : i = 0
    · exact Or.inl e
    · right
      rw [P0.getD_get _ _ (by omega), P0.getD_get _ _ hi]
      exact h (i - 1) i (by omega) hi (by omega)

theorem asc_nodup {zs : List Int} (h : asc zs = true) : zs.Nodup := (asc_iff.1 h).imp fun h e => by omega

theorem up_iff {zs : List Int} {a b : Int} : up zs a b = true ↔ (∀ z ∈ zs, a ≤ z ∧ z ≤ b) ∧ asc zs = true := by
  unfold up asc
  rw [to_iff, to_iff]
  constructor
  · intro h
    refine ⟨fun z hz => ?_, fun i hi => ?_⟩
    · obtain ⟨i, hi, rfl⟩ := mem_getD hz
      have := h i hi
      simp only [upAt, Bool.and_eq_true] at this
      exact inB_iff.1 this.1
    · have := h i hi
      simp only [upAt, Bool.and_eq_true] at this
      exact this.2
  · rintro ⟨h1, h2⟩ i hi
    simp only [upAt, Bool.and_eq_true]
    exact ⟨inB_iff.2 (h1 _ (getD_mem hi)), h2 i hi⟩

theorem apart_iff {pg po : List Int} : apart pg po = true ↔ ∀ z ∈ po, ¬ z ∈ pg := by
  unfold apart
  rw [to_iff]
  constructor
  · intro h z hz
    obtain ⟨i, hi, rfl⟩ := mem_getD hz
    have := h i hi
    simp only [apAt, Bool.not_eq_true'] at this
    exact has_not.1 this
  · intro h i hi
    simp only [apAt, Bool.not_eq_true']
    exact has_not.2 (h _ (getD_mem hi))

theorem among_iff {zs al : List Int} : among zs al = true ↔ ∀ z ∈ zs, z ∈ al := by
  unfold among
  rw [to_iff]
  constructor
  · intro h z hz
    obtain ⟨i, hi, rfl⟩ := mem_getD hz
    exact has_iff.1 (h i hi)
  · intro h i hi
    exact has_iff.2 (h _ (getD_mem hi))

theorem frTo_iff {fr : List Int} {ino : Int} : to (frAt fr ino) fr.length = true ↔ (∀ z ∈ fr, 1 ≤ z ∧ z ≤ 7) ∧ ¬ ino ∈ fr := by
  rw [to_iff]
  constructor
  · intro h
    refine ⟨fun z hz => ?_, fun hm => ?_⟩
    · obtain ⟨i, hi, rfl⟩ := mem_getD hz
      have := h i hi
      simp only [frAt, Bool.and_eq_true] at this
      exact inB_iff.1 this.1
    · obtain ⟨i, hi, e⟩ := mem_getD hm
      have := h i hi
      simp only [frAt, Bool.and_eq_true, Bool.not_eq_true', decide_eq_false_iff_not] at this
      exact this.2 e
  · rintro ⟨h1, h2⟩ i hi
    simp only [frAt, Bool.and_eq_true, Bool.not_eq_true', decide_eq_false_iff_not]
    exact ⟨inB_iff.2 (h1 _ (getD_mem hi)), fun e => h2 (e ▸ getD_mem hi)⟩

/-- Both ask for the same. -/
theorem sOk_eq (d : Ln) : sOk d = loanOk d := by
  rw [Bool.eq_iff_iff]
  by_cases hP : sFirst d = true
  · have h := hP
    simp only [sFirst, Bool.and_eq_true, Bool.not_eq_true', decide_eq_true_eq, decide_eq_false_iff_not, inB_iff] at h
    obtain ⟨hI, hk, hi, hc, hu, hz, hs⟩ := h
    have hg := O0.got hI
    have hpg := pagesOk_iff.1 hg.2.2.2.1
    rw [hz] at hpg
    simp only [sOk, loanOk, hP, past, nums, poolOk, hI, hk, hz, hs, Bool.and_eq_true, Bool.true_and, decide_true, decide_false, Bool.not_false, decide_eq_true_eq, sDir, sLast]
    rw [apart_iff, up_iff, up_iff, pagesOk_iff]
    constructor
    · rintro ⟨h1, h2, ⟨h3, h4⟩, h5, ⟨h6, h7⟩, h8, h9, h10⟩
      refine ⟨h2, ⟨by omega, by omega, by omega, by omega, by omega⟩, ⟨h5, h4, ?_, ?_⟩, ?_⟩
      · intro z hz'
        rcases List.mem_append.1 hz' with h | h
        · exact hpg.1 z h
        · exact h3 z h
      · exact List.nodup_append.2 ⟨hpg.2, asc_nodup h4, fun a ha b hb e => h1 b hb (e ▸ ha)⟩
      · unfold freshOk
        by_cases k2 : G0.gK d.rc = 2
        · rw [if_pos k2]
          simp only [Bool.and_eq_true, decide_eq_true_eq]
          exact ⟨h8, h7, frTo_iff.2 ⟨h6, has_not.1 (by simpa using h9)⟩⟩
        · rw [if_neg k2]
          simp only [k2, decide_false, Bool.false_or, decide_eq_true_eq, Bool.or_eq_true, false_or] at h10
          simpa using h10
    · rintro ⟨h2, ⟨n1, n2, n3, n4, n5⟩, ⟨h5, h4, h3, hnd⟩, hf⟩
      have hnd' := List.nodup_append.1 hnd
      have hfr : up d.fr 1 7 = true ∧ d.fr.length ≤ 2 ∧ (!P0.has d.fr d.ino) = true ∧ (decide (G0.gK d.rc = 2) || decide (d.fr.length = 0)) = true := by
        unfold freshOk at hf
        by_cases k2 : G0.gK d.rc = 2
        · rw [if_pos k2] at hf
          simp only [Bool.and_eq_true, decide_eq_true_eq] at hf
          obtain ⟨f1, f2, f3⟩ := hf
          obtain ⟨f4, f5⟩ := frTo_iff.1 f3
          exact ⟨up_iff.2 ⟨f4, f2⟩, f1, by simpa using has_not.2 f5, by simp [k2]⟩
        · rw [if_neg k2] at hf
          have h0 : d.fr = [] := List.eq_nil_of_length_eq_zero (by simpa using hf)
          rw [h0]
          exact ⟨rfl, by decide, rfl, by simp⟩
      obtain ⟨q1, q2, q3, q4⟩ := hfr
      exact ⟨fun z hz' hz2 => hnd'.2.2 z hz2 z hz' rfl, h2, ⟨fun z hz' => h3 z (List.mem_append.2 (Or.inr hz')), h4⟩, h5, up_iff.1 q1, q2, q3, q4⟩
  · have h1 : sFirst d = false := by simpa using hP
    simp only [sOk, h1, Bool.false_and, Bool.false_eq_true, false_iff]
    intro hl
    apply hP
    simp only [loanOk, past, nums, Bool.and_eq_true, decide_eq_true_eq] at hl
    obtain ⟨⟨a1, a2, a3, a4, a5⟩, ⟨b1, b2, b3, b4, b5⟩, -⟩ := hl
    simp only [sFirst, Bool.and_eq_true, decide_eq_true_eq, inB_iff]
    exact ⟨a1, a2, ⟨b1, by omega⟩, ⟨b3, b4⟩, by simp; omega, a3, a4⟩

theorem loanOk_past {d : Ln} (h : loanOk d = true) : past d = true := by simp only [loanOk, Bool.and_eq_true] at h; exact h.1

/-- What is known of a right loan. -/
theorem loanOk_is {d : Ln} (h : loanOk d = true) : G0.isI d.rc = true ∧ G0.gK d.rc ≠ 0 ∧ G0.gZ d.rc = d.pg ∧ d.sav.size = d.pg.length * 32 ∧ (0 ≤ d.ino ∧ d.ino ≤ 7) ∧ (0 ≤ d.cl ∧ d.cl ≤ 8) ∧ d.pg.length ≤ 6 ∧ d.po.length ≤ 4 ∧ d.fr.length ≤ 2 ∧ P0.pagesOk (d.pg ++ d.po) = true ∧ (∀ z ∈ d.fr, 1 ≤ z ∧ z ≤ 7) ∧ asc d.po = true ∧ asc d.fr = true := by
  have h' := h
  rw [← sOk_eq] at h'
  simp only [sOk, sFirst, sLast, Bool.and_eq_true, decide_eq_true_eq, inB_iff, Bool.not_eq_true', decide_eq_false_iff_not] at h'
  obtain ⟨⟨a1, a2, a3, a4, a5, a6, a7⟩, -, -, b1, b2, b3, b4, -⟩ := h'
  simp only [loanOk, poolOk, Bool.and_eq_true] at h
  have hp := h.2.2.1.2.2
  rw [a6] at hp
  have := (O0.got a1).2.1
  rw [a6] at this
  exact ⟨a1, a2, a6, a7, a3, a4, this, b2, b4, hp, (up_iff.1 b3).1, (up_iff.1 b1).2, (up_iff.1 b3).2⟩
end Go.Proofs.Ytnfcpcejfajcfaa.N0

/- A loan among a law's arguments. -/
namespace Go.Proofs.Ytnfcpcejfajcfaa.N1
open Go.ChangeShapes Go.WideShapes Go.ChangeAt Go.RowKit Go.Joins Go.Deep
set_option linter.unusedVariables false
set_option linter.unusedSimpArgs false
set_option maxRecDepth 10000

open N0 (Ln)

/-- Where a loan's lists stand. -/
structure Sl where
  a1 : Option Addr
  c1 : Nat
  a2 : Option Addr
  c2 : Nat
  a3 : Option Addr
  c3 : Nat

abbrev vals (d : Ln) (s : Sl) : List Value := [.int .i64 d.ino, .int .i64 d.cl, .int .i64 d.un, .string d.rc, .slice s.a1 d.pg.length s.c1, .string d.sav, .slice s.a2 d.po.length s.c2, .slice s.a3 d.fr.length s.c3]
abbrev val (d : Ln) (s : Sl) : Value := .agg #[.int .i64 d.ino, .int .i64 d.cl, .int .i64 d.un, .string d.rc, .slice s.a1 d.pg.length s.c1, .string d.sav, .slice s.a2 d.po.length s.c2, .slice s.a3 d.fr.length s.c3]

/-- The lists of a loan. -/
structure Lists (W : World) (d : Ln) (s : Sl) : Prop where
  r1 : P0.Row W s.a1 d.pg
  r2 : P0.Row W s.a2 d.po
  r3 : P0.Row W s.a3 d.fr

/-- A loan's sizes, as any loan has them. -/
structure FitM (d : Ln) (s : Sl) : Prop where
  l1 : d.pg.length ≤ maxLen
  l2 : d.po.length ≤ maxLen
  l3 : d.fr.length ≤ maxLen
  m4 : d.rc.size ≤ maxLen
  m5 : d.sav.size ≤ maxLen

/-- A loan's sizes. -/
structure Fit (d : Ln) (s : Sl) : Prop where
  p1 : d.pg.length ≤ 281474976710656
  m4 : d.rc.size ≤ 281474976710656
  m5 : d.sav.size ≤ 281474976710656

variable {W W' : World} {d : Ln} {s : Sl}

theorem Lists.below (h : Lists W d s) (hb : Below W.heap.size W W') : Lists W' d s := ⟨h.r1.below hb, h.r2.below hb, h.r3.below hb⟩
theorem Lists.alloc (h : Lists W d s) (o : Obj) : Lists (W.alloc o) d s := ⟨h.r1.alloc o, h.r2.alloc o, h.r3.alloc o⟩
theorem Lists.drewN (h : Lists W d s) (n : Nat) : Lists (W.drewN n) d s := ⟨h.r1, h.r2, h.r3⟩
theorem Lists.drew (h : Lists W d s) : Lists W.drew d s := ⟨h.r1, h.r2, h.r3⟩

section Args
variable {H : Type} {enc : TypeId × Value → H} {w : World}

theorem array8 {α : Type} {cs : Array α} (h : cs.size = 8) : ∃ x0 x1 x2 x3 x4 x5 x6 x7, cs = #[x0, x1, x2, x3, x4, x5, x6, x7] := by
  obtain ⟨l⟩ := cs
  match l, h with
  | [x0, x1, x2, x3, x4, x5, x6, x7], _ => exact ⟨x0, x1, x2, x3, x4, x5, x6, x7, rfl⟩

/-- A structure of one-cell fields, opened. -/
theorem open_any {r : Reach} {b0 : Nat} {t : TypeId} {fs : Array Field} {v : Value} {x : DataW H} {p : List MemPlace} (hs : Try.prog.underlying t = some (.struct fs)) (hone : oneCellFields Try.prog fs = true) (hC : Try.prog.cellsOf t = fs.size)
    (hv : Value.okWide Try.prog w r b0 t v) (h : DataW.Trod enc Try.prog w 0 (fun _ => true) true t v x p) :
    ∃ (cs : Array Value) (n : Nat), v = .agg cs ∧ cs.size = fs.size ∧ ∀ (i : Nat) (f : Field) (c : Value), fs[i]? = some f → cs[i]? = some c → ∃ y, DataW.trod enc Try.prog w 0 (fun _ => true) true n f.type [c] = some y := by
  obtain ⟨cs, rfl, hsz⟩ := okWide_struct hs hv
  obtain ⟨fuel, hf⟩ := h
  obtain ⟨xs, n, _, _, _, hlen, hall⟩ := DataW.trod_struct hs hf
  refine ⟨cs, n, rfl, hsz.trans hC, fun i f c hi hc => ?_⟩
  obtain ⟨o, k⟩ := hone_of hone i f hi
  have hlt : i < fs.size := (Array.getElem?_eq_some_iff.1 hi).1
  have h1 := hall i f hi
  rw [o, k, List.getElem?_eq_getElem (by omega)] at h1
  have hci : i < cs.toList.length := by rw [Array.length_toList]; omega
  have e : ((Value.agg cs).cells.toList.drop i).take 1 = [c] := by
    show (cs.toList.drop i).take 1 = [c]
    rw [List.drop_eq_getElem_cons hci]
    have : cs.toList[i] = c := by
      rw [← Array.getElem?_toList, List.getElem?_eq_getElem hci] at hc
      exact Option.some.inj hc
    rw [this]
    rfl
  rw [e] at h1
  exact ⟨_, h1⟩

theorem cells : Try.prog.cellsOf 55 = 8 := by kernel_rfl

theorem open_loan {r : Reach} {b0 : Nat} {v : Value} {x : DataW H} {p : List MemPlace} (hv : Value.okWide Try.prog w r b0 55 v) (h : DataW.Trod enc Try.prog w 0 (fun _ => true) true 55 v x p) :
    ∃ (d : Ln) (s : Sl), v = val d s ∧ FitM d s ∧ Lists w d s := by
  obtain ⟨cs, n, rfl, hsz, hf⟩ := open_any Try.underlying55 (by kernel_rfl) cells hv h
  obtain ⟨x0, x1, x2, x3, x4, x5, x6, x7, rfl⟩ := array8 hsz
  obtain ⟨y0, h0⟩ := hf 0 _ x0 rfl rfl
  obtain ⟨y1, h1⟩ := hf 1 _ x1 rfl rfl
  obtain ⟨y2, h2⟩ := hf 2 _ x2 rfl rfl
  obtain ⟨y3, h3⟩ := hf 3 _ x3 rfl rfl
  obtain ⟨y4, h4⟩ := hf 4 _ x4 rfl rfl
  obtain ⟨y5, h5⟩ := hf 5 _ x5 rfl rfl
  obtain ⟨y6, h6⟩ := hf 6 _ x6 rfl rfl
  obtain ⟨y7, h7⟩ := hf 7 _ x7 rfl rfl
  obtain ⟨ino, e0, _, _⟩ := DataW.trod_int Try.underlying3 h0
  obtain ⟨cl, e1, _, _⟩ := DataW.trod_int Try.underlying3 h1
  obtain ⟨un, e2, _, _⟩ := DataW.trod_int Try.underlying3 h2
  obtain ⟨rc, e3, _, w3⟩ := DataW.trod_string Try.underlying9 h3
  obtain ⟨sav, e5, _, w5⟩ := DataW.trod_string Try.underlying9 h5
  obtain ⟨a1, c1, pg, rfl, p1, p2, R1⟩ := I2.open_row h4
  obtain ⟨a2, c2, po, rfl, p3, p4, R2⟩ := I2.open_row h6
  obtain ⟨a3, c3, fr, rfl, p5, p6, R3⟩ := I2.open_row h7
  simp at e0 e1 e2 e3 e5
  subst e0 e1 e2 e3 e5
  exact ⟨⟨ino, cl, un, rc, pg, sav, po, fr⟩, ⟨a1, c1, a2, c2, a3, c3⟩, rfl, ⟨Nat.le_trans p1 p2, Nat.le_trans p3 p4, Nat.le_trans p5 p6, w3, w5⟩, ⟨R1, R2, R3⟩⟩
end Args

/-- A block of eight cells. -/
structure LB (B : Nat) (d : Ln) (s : Sl) (W : World) : Prop where
  b : K0.Blk B (vals d s) W

variable {B : Nat}
theorem LB.c0 (h : LB B d s W) : W.cell? ⟨B, 0, none⟩ = some (.int .i64 d.ino) := h.b.cell 0 (by simp)
theorem LB.c1 (h : LB B d s W) : W.cell? ⟨B, 1, none⟩ = some (.int .i64 d.cl) := h.b.cell 1 (by simp)
theorem LB.c2 (h : LB B d s W) : W.cell? ⟨B, 2, none⟩ = some (.int .i64 d.un) := h.b.cell 2 (by simp)
theorem LB.c3 (h : LB B d s W) : W.cell? ⟨B, 3, none⟩ = some (.string d.rc) := h.b.cell 3 (by simp)
theorem LB.c4 (h : LB B d s W) : W.cell? ⟨B, 4, none⟩ = some (.slice s.a1 d.pg.length s.c1) := h.b.cell 4 (by simp)
theorem LB.c5 (h : LB B d s W) : W.cell? ⟨B, 5, none⟩ = some (.string d.sav) := h.b.cell 5 (by simp)
theorem LB.c6 (h : LB B d s W) : W.cell? ⟨B, 6, none⟩ = some (.slice s.a2 d.po.length s.c2) := h.b.cell 6 (by simp)
theorem LB.c7 (h : LB B d s W) : W.cell? ⟨B, 7, none⟩ = some (.slice s.a3 d.fr.length s.c3) := h.b.cell 7 (by simp)
theorem LB.below (h : LB B d s W) (hb : Below W.heap.size W W') : LB B d s W' := ⟨h.b.below hb⟩
theorem lb_new (d : Ln) (s : Sl) (w : World) (T : TypeId) : LB w.heap.size d s (w.alloc (.cells #[.int .i64 d.ino, .int .i64 d.cl, .int .i64 d.un, .string d.rc, .slice s.a1 d.pg.length s.c1, .string d.sav, .slice s.a2 d.po.length s.c2, .slice s.a3 d.fr.length s.c3] T)) := ⟨K0.blk_new (vals d s) w T⟩
end Go.Proofs.Ytnfcpcejfajcfaa.N1

/- Contracts of small functions over lists of numbers: impl.ascends, slices.Equal, spec.l05Same, spec.l05Up, spec.l02Has and slices.Contains, as the given laws call them. -/
namespace Go.Proofs.Ytnfcpcejfajcfaa.N2
open Go.ChangeShapes Go.WideShapes Go.ChangeAt Go.RowKit
set_option linter.unusedVariables false
set_option linter.unusedSimpArgs false
set_option maxRecDepth 10000

open P1 (ret_bool quiet_bool)

/-- Two lists, held against each other as far as they go. -/
def eqAt (xs ys : List Int) (i : Nat) : Bool := decide (xs.getD i 0 = ys.getD i 0)

theorem eq_of {xs ys : List Int} (hl : xs.length = ys.length) (h : N0.to (eqAt xs ys) xs.length = true) : xs = ys := by
  apply List.ext_getElem hl
  intro i h1 h2
  have := N0.to_iff.1 h i h1
  simp only [eqAt, decide_eq_true_eq] at this
  rwa [P0.getD_get _ _ h1, P0.getD_get _ _ h2] at this

theorem ne_of {xs ys : List Int} {k : Nat} (hk : ¬ xs.getD k 0 = ys.getD k 0) : ¬ xs = ys := fun e => hk (by rw [e])

end Go.Proofs.Ytnfcpcejfajcfaa.N2

/- Contracts of laws.szLoan, laws.toLoan, laws.eqLoan and laws.markLoan. -/
namespace Go.Proofs.Ytnfcpcejfajcfaa.N3
open Go.ChangeShapes Go.WideShapes Go.ChangeAt Go.RowKit
set_option linter.unusedVariables false
set_option linter.unusedSimpArgs false
set_option maxRecDepth 10000

open N0 (Ln)
open N1 (Sl val vals Lists FitM LB lb_new)
open I2 (ints)

def total (d : Ln) : Nat := d.rc.size + d.pg.length + d.sav.size + d.po.length + d.fr.length

theorem szOk (a : Option Addr) (c n : Nat) (l : Int) (w : World) (hn : n ≤ maxLen) (h1 : l ≤ 1048576) (h : (n : Int) ≤ l) :
    Calls Try.prog 33 #[.slice a n c, .int .i64 l] w fun e w' => e = .returned (.int .i64 (l - n)) ∧ w' = w :=
  (I2.szIntS a c n l w hn (by omega) h1).mono fun _ _ ⟨he, hw⟩ => ⟨by rw [he, I2.left, if_neg (by omega)], hw⟩
theorem szNo (a : Option Addr) (c n : Nat) (l : Int) (w : World) (hn : n ≤ maxLen) (h0 : 0 ≤ l) (h1 : l ≤ 1048576) (h : l < (n : Int)) :
    Calls Try.prog 33 #[.slice a n c, .int .i64 l] w fun e w' => e = .returned (.int .i64 (-1)) ∧ w' = w :=
  (I2.szIntS a c n l w hn h0 h1).mono fun _ _ ⟨he, hw⟩ => ⟨by rw [he, I2.left, if_pos (by omega)], hw⟩

theorem szFit (d : Ln) (s : Sl) (w : World) (hF : FitM d s) (h : total d ≤ 1048576) :
    Calls Try.prog 26 #[val d s, .int .i64 1048576] w fun e w' => (∃ q : Int, 0 ≤ q ∧ e = .returned (.int .i64 q)) ∧ Below w.heap.size w w' := by
  have hB := K0.below_new w (.cells #[.int .i64 d.ino, .int .i64 d.cl, .int .i64 d.un, .string d.rc, .slice s.a1 d.pg.length s.c1, .string d.sav, .slice s.a2 d.po.length s.c2, .slice s.a3 d.fr.length s.c3] 55)
  have l1 := hF.l1
  have l2 := hF.l2
  have l3 := hF.l3
  unfold total at h
  have e1 : (0 : Int) ≤ 1048576 - (d.rc.size : Int) := by omega
  have g1 : ¬ (1048576 - (d.rc.size : Int) < 0) := by omega
  have g2 : ¬ (1048576 - (d.rc.size : Int) - (d.pg.length : Int) < 0) := by omega
  have g3 : ¬ (1048576 - (d.rc.size : Int) - (d.pg.length : Int) - (d.sav.size : Int) < 0) := by omega
  have g4 : ¬ (1048576 - (d.rc.size : Int) - (d.pg.length : Int) - (d.sav.size : Int) - (d.po.length : Int) < 0) := by omega
  have g5 : ¬ (1048576 - (d.rc.size : Int) - (d.pg.length : Int) - (d.sav.size : Int) - (d.po.length : Int) - (d.fr.length : Int) < 0) := by omega
  go_enter Try.func26, Try.ntmps26
  go_wp2_with (go_at_call 33; refine (szOk _ _ _ _ _ (by assumption) (by omega) (by omega)).mono ?_; rintro e w' ⟨rfl, rfl⟩)
  go_ret
  exact ⟨⟨_, by omega, rfl⟩, hB⟩

theorem szBig (d : Ln) (s : Sl) (w : World) (hF : FitM d s) (h : ¬ total d ≤ 1048576) :
    Calls Try.prog 26 #[val d s, .int .i64 1048576] w fun e w' => e = .returned (.int .i64 (-1)) ∧ Below w.heap.size w w' := by
  have hB := K0.below_new w (.cells #[.int .i64 d.ino, .int .i64 d.cl, .int .i64 d.un, .string d.rc, .slice s.a1 d.pg.length s.c1, .string d.sav, .slice s.a2 d.po.length s.c2, .slice s.a3 d.fr.length s.c3] 55)
  have l1 := hF.l1
  have l2 := hF.l2
  have l3 := hF.l3
  have l4 := hF.m4
  have l5 := hF.m5
  have l4' : d.rc.size ≤ 9223372036854775807 := l4
  have l5' : d.sav.size ≤ 9223372036854775807 := l5
  unfold total at h
  by_cases g1 : 1048576 - (d.rc.size : Int) < 0
  · go_enter Try.func26, Try.ntmps26
    go_wp2
    go_ret
    exact ⟨rfl, hB⟩
  · by_cases g2 : 1048576 - (d.rc.size : Int) - (d.pg.length : Int) < 0
    · go_enter Try.func26, Try.ntmps26
      go_wp2_with (go_at_call 33; refine (szNo _ _ _ _ _ (by assumption) (by omega) (by omega) (by omega)).mono ?_; rintro e w' ⟨rfl, rfl⟩)
      go_ret
      exact ⟨rfl, hB⟩
    · by_cases g3 : 1048576 - (d.rc.size : Int) - (d.pg.length : Int) - (d.sav.size : Int) < 0
      · go_enter Try.func26, Try.ntmps26
        go_wp2_with (go_at_call 33; refine (szOk _ _ _ _ _ (by assumption) (by omega) (by omega)).mono ?_; rintro e w' ⟨rfl, rfl⟩)
        go_ret
        exact ⟨rfl, hB⟩
      · by_cases g4 : 1048576 - (d.rc.size : Int) - (d.pg.length : Int) - (d.sav.size : Int) - (d.po.length : Int) < 0
        · go_enter Try.func26, Try.ntmps26
          go_wp2_with (first
            | (go_at_call 33; refine (szOk _ _ _ _ _ (by assumption) (by omega) (by omega)).mono ?_; rintro e w' ⟨rfl, rfl⟩)
            | (go_at_call 33; refine (szNo _ _ _ _ _ (by assumption) (by omega) (by omega) (by omega)).mono ?_; rintro e w' ⟨rfl, rfl⟩))
          go_ret
          exact ⟨rfl, hB⟩
        · go_enter Try.func26, Try.ntmps26
          go_wp2_with (first
            | (go_at_call 33; refine (szOk _ _ _ _ _ (by assumption) (by omega) (by omega)).mono ?_; rintro e w' ⟨rfl, rfl⟩)
            | (go_at_call 33; refine (szNo _ _ _ _ _ (by assumption) (by omega) (by omega) (by omega)).mono ?_; rintro e w' ⟨rfl, rfl⟩))
          go_ret
          exact ⟨rfl, hB⟩

theorem eqLoan (d : Ln) (s1 s2 : Sl) (w : World) (hp : d.pg.length ≤ 281474976710656) (ho : d.po.length ≤ 281474976710656) (hf : d.fr.length ≤ 281474976710656) (h1 : Lists w d s1) (h2 : Lists w d s2) :
    Calls Try.prog 8 #[val d s1, val d s2] w fun e w' => e = .returned (.bool true) ∧ Below w.heap.size w w' := by
  have b1 := lb_new d s1 w 30
  have hB := K0.below_new w (.cells #[.int .i64 d.ino, .int .i64 d.cl, .int .i64 d.un, .string d.rc, .slice s1.a1 d.pg.length s1.c1, .string d.sav, .slice s1.a2 d.po.length s1.c2, .slice s1.a3 d.fr.length s1.c3] 30)
  have hB2 := hB.alloc hB.size (.cells #[.int .i64 d.ino, .int .i64 d.cl, .int .i64 d.un, .string d.rc, .slice s2.a1 d.pg.length s2.c1, .string d.sav, .slice s2.a2 d.po.length s2.c2, .slice s2.a3 d.fr.length s2.c3] 30)
  have h1' := h1.below hB2
  have h2' := h2.below hB2
  obtain ⟨W, hW⟩ : ∃ W, (w.alloc (.cells #[.int .i64 d.ino, .int .i64 d.cl, .int .i64 d.un, .string d.rc, .slice s1.a1 d.pg.length s1.c1, .string d.sav, .slice s1.a2 d.po.length s1.c2, .slice s1.a3 d.fr.length s1.c3] 30)).alloc (.cells #[.int .i64 d.ino, .int .i64 d.cl, .int .i64 d.un, .string d.rc, .slice s2.a1 d.pg.length s2.c1, .string d.sav, .slice s2.a2 d.po.length s2.c2, .slice s2.a3 d.fr.length s2.c3] 30) = W := ⟨_, rfl⟩
  have hr1 : ∀ m, P0.Row (W.drewN m) s1.a1 d.pg := fun m => by rw [← hW]; exact h1'.r1.drewN m
  have hr2 : ∀ m, P0.Row (W.drewN m) s2.a1 d.pg := fun m => by rw [← hW]; exact h2'.r1.drewN m
  have hr3 : ∀ m, P0.Row (W.drewN m) s1.a2 d.po := fun m => by rw [← hW]; exact h1'.r2.drewN m
  have hr4 : ∀ m, P0.Row (W.drewN m) s2.a2 d.po := fun m => by rw [← hW]; exact h2'.r2.drewN m
  have hr5 : ∀ m, P0.Row (W.drewN m) s1.a3 d.fr := fun m => by rw [← hW]; exact h1'.r3.drewN m
  have hr6 : ∀ m, P0.Row (W.drewN m) s2.a3 d.fr := fun m => by rw [← hW]; exact h2'.r3.drewN m
  rw [hW] at hB2
  have hu : ∀ x : ByteArray, (x.toList != x.toList) = false := fun x => by simp
  subst hW
  go_enter Try.func8, Try.ntmps8
  go_wp2_with (first
    | (go_at_call 20; have n2' := n2; refine (I2.eqIntS _ _ _ _ d.fr _ hf (by simpa only [World.drewN_drewN] using hr5 (n1 + n2)) (by simpa only [World.drewN_drewN] using hr6 (n1 + n2))).mono ?_; rintro e w' ⟨rfl, n3, rfl⟩)
    | (go_at_call 20; have n1' := n1; refine (I2.eqIntS _ _ _ _ d.po _ ho (hr3 n1) (hr4 n1)).mono ?_; rintro e w' ⟨rfl, n2, rfl⟩)
    | (go_at_call 20; refine (I2.eqIntS _ _ _ _ d.pg _ hp (hr1 0) (hr2 0)).mono ?_; rintro e w' ⟨rfl, n1, rfl⟩))
  go_ret
  exact ⟨rfl, K0.below_drewN hB2 _⟩
end Go.Proofs.Ytnfcpcejfajcfaa.N3

/- Lns of loans in memory; a keeper among a law's arguments. -/
namespace Go.Proofs.Ytnfcpcejfajcfaa.Z0
open Go.ChangeShapes Go.WideShapes Go.ChangeAt Go.RowKit Go.Joins Go.Deep
set_option linter.unusedVariables false
set_option linter.unusedSimpArgs false
set_option maxRecDepth 10000

open N0 (Ln)
open N1 (Sl val vals Lists FitM LB lb_new)

def dz : Ln := ⟨0, 0, 0, ⟨#[]⟩, [], ⟨#[]⟩, [], []⟩
def sz0 : Sl := ⟨none, 0, none, 0, none, 0⟩

/-- The loan at a place. -/
def dat (ds : List Ln) (k : Nat) : Ln := ds.getD k dz

theorem dat_get (ds : List Ln) (k : Nat) (h : k < ds.length) : dat ds k = ds[k] := by simp [dat, List.getD, h]

/-- Eight cells of a block from a place on hold a loan. -/
def At (W : World) (b o : Nat) (d : Ln) (s : Sl) : Prop :=
  W.cell? ⟨b, o, none⟩ = some (.int .i64 d.ino) ∧ W.cell? ⟨b, o + 1, none⟩ = some (.int .i64 d.cl) ∧ W.cell? ⟨b, o + 2, none⟩ = some (.int .i64 d.un) ∧ W.cell? ⟨b, o + 3, none⟩ = some (.string d.rc) ∧
  W.cell? ⟨b, o + 4, none⟩ = some (.slice s.a1 d.pg.length s.c1) ∧ W.cell? ⟨b, o + 5, none⟩ = some (.string d.sav) ∧ W.cell? ⟨b, o + 6, none⟩ = some (.slice s.a2 d.po.length s.c2) ∧ W.cell? ⟨b, o + 7, none⟩ = some (.slice s.a3 d.fr.length s.c3)

variable {W W' : World} {a : Option Addr} {ds : List Ln} {ss : Nat → Sl} {b o : Nat} {d : Ln} {s : Sl}

theorem At.below (h : At W b o d s) (hlt : b < W.heap.size) (hb : Below W.heap.size W W') : At W' b o d s := by
  obtain ⟨h0, h1, h2, h3, h4, h5, h6, h7⟩ := h
  exact ⟨(hb.cell (p := ⟨b, o, none⟩) hlt).trans h0, (hb.cell (p := ⟨b, o + 1, none⟩) hlt).trans h1, (hb.cell (p := ⟨b, o + 2, none⟩) hlt).trans h2, (hb.cell (p := ⟨b, o + 3, none⟩) hlt).trans h3,
    (hb.cell (p := ⟨b, o + 4, none⟩) hlt).trans h4, (hb.cell (p := ⟨b, o + 5, none⟩) hlt).trans h5, (hb.cell (p := ⟨b, o + 6, none⟩) hlt).trans h6, (hb.cell (p := ⟨b, o + 7, none⟩) hlt).trans h7⟩

/-- A slice's place holds these loans; nothing is said of it where there are none. -/
def Row (W : World) (a : Option Addr) (ds : List Ln) (ss : Nat → Sl) : Prop :=
  ds = [] ∨ ∃ b off, a = some ⟨b, off, none⟩ ∧ b < W.heap.size ∧ ∀ j, j < ds.length → At W b (off + j * 8) (dat ds j) (ss j)

/-- Their lists. -/
def Subs (W : World) (ds : List Ln) (ss : Nat → Sl) : Prop := ∀ j, j < ds.length → Lists W (dat ds j) (ss j)

theorem Row.below (h : Row W a ds ss) (hb : Below W.heap.size W W') : Row W' a ds ss := by
  rcases h with h | ⟨b, off, ha, hlt, hc⟩
  · exact Or.inl h
  · exact Or.inr ⟨b, off, ha, Nat.lt_of_lt_of_le hlt hb.size, fun j hj => (hc j hj).below hlt hb⟩
theorem Row.drewN (h : Row W a ds ss) (n : Nat) : Row (W.drewN n) a ds ss := h
theorem Row.get {k : Nat} (h : Row W a ds ss) (hk : k < ds.length) : ∃ b off, a = some ⟨b, off, none⟩ ∧ b < W.heap.size ∧ ∀ j, j < ds.length → At W b (off + j * 8) (dat ds j) (ss j) := by
  rcases h with h | h
  · subst h
    simp at hk
  · exact h
theorem Subs.below (h : Subs W ds ss) (hb : Below W.heap.size W W') : Subs W' ds ss := fun j hj => (h j hj).below hb
theorem Subs.drewN (h : Subs W ds ss) (n : Nat) : Subs (W.drewN n) ds ss := fun j hj => (h j hj).drewN n

/-- A row of loans with their lists. -/
structure Lns (W : World) (a : Option Addr) (ds : List Ln) (ss : Nat → Sl) : Prop where
  row : Row W a ds ss
  sub : Subs W ds ss
theorem Lns.below (h : Lns W a ds ss) (hb : Below W.heap.size W W') : Lns W' a ds ss := ⟨h.row.below hb, h.sub.below hb⟩
theorem Lns.drewN (h : Lns W a ds ss) (n : Nat) : Lns (W.drewN n) a ds ss := ⟨h.row.drewN n, h.sub.drewN n⟩

/-- A keeper: what it tells. -/
structure Kp where
  mem : ByteArray
  dur : ByteArray
  ds : List Ln
  ck : Int

abbrev kval (k : Kp) (a : Option Addr) (c : Nat) : Value := .agg #[.string k.mem, .string k.dur, .slice a k.ds.length c, .int .i64 k.ck]
abbrev kvals (k : Kp) (a : Option Addr) (c : Nat) : List Value := [.string k.mem, .string k.dur, .slice a k.ds.length c, .int .i64 k.ck]

/-- A keeper's sizes, as any keeper has them. -/
structure FitK (k : Kp) (ss : Nat → Sl) : Prop where
  m1 : k.mem.size ≤ maxLen
  m2 : k.dur.size ≤ maxLen
  n : k.ds.length ≤ maxLen
  each : ∀ j, j < k.ds.length → FitM (dat k.ds j) (ss j)

section Args
variable {H : Type} {enc : TypeId × Value → H} {w : World}

theorem list8 {α : Type} {cs : List α} (h : cs.length = 8) : ∃ x0 x1 x2 x3 x4 x5 x6 x7, cs = [x0, x1, x2, x3, x4, x5, x6, x7] := by
  match cs, h with
  | [x0, x1, x2, x3, x4, x5, x6, x7], _ => exact ⟨x0, x1, x2, x3, x4, x5, x6, x7, rfl⟩

theorem cs1 : Try.prog.cellsOf 3 = 1 := by kernel_rfl
theorem cs2 : Try.prog.cellsOf 9 = 1 := by kernel_rfl
theorem cs3 : Try.prog.cellsOf 28 = 1 := by kernel_rfl
theorem cs4 : Try.prog.cellsOf 23 = 2 := by kernel_rfl
theorem cs5 : Try.prog.cellsOf 24 = 1 := by kernel_rfl
theorem cs6 : Try.prog.cellsOf 26 = 4 := by kernel_rfl

theorem loan_cells {n : Nat} {cs : List Value} {x : DataW H × List MemPlace} (h : DataW.trod enc Try.prog w 0 (fun _ => true) true n 55 cs = some x) :
    ∃ (q : Ln × Sl), cs = vals q.1 q.2 ∧ FitM q.1 q.2 ∧ Lists w q.1 q.2 := by
  obtain ⟨xs, k, _, _, hlen, hxl, hall⟩ := DataW.trod_struct Try.underlying55 h
  rw [N1.cells] at hlen
  obtain ⟨x0, x1, x2, x3, x4, x5, x6, x7, rfl⟩ := list8 hlen
  obtain ⟨y0, y1, y2, y3, y4, y5, y6, y7, rfl⟩ := list8 hxl
  have h0 := hall 0 _ rfl
  have h1 := hall 1 _ rfl
  have h2 := hall 2 _ rfl
  have h3 := hall 3 _ rfl
  have h4 := hall 4 _ rfl
  have h5 := hall 5 _ rfl
  have h6 := hall 6 _ rfl
  have h7 := hall 7 _ rfl
  simp only [cs1, cs2, cs3, List.drop_zero, List.drop_succ_cons, List.take_succ_cons, List.take_zero, List.getElem?_cons_zero, List.getElem?_cons_succ] at h0 h1 h2 h3 h4 h5 h6 h7
  obtain ⟨ino, e0, _, _⟩ := DataW.trod_int Try.underlying3 h0
  obtain ⟨cl, e1, _, _⟩ := DataW.trod_int Try.underlying3 h1
  obtain ⟨un, e2, _, _⟩ := DataW.trod_int Try.underlying3 h2
  obtain ⟨rc, e3, _, w3⟩ := DataW.trod_string Try.underlying9 h3
  obtain ⟨sav, e5, _, w5⟩ := DataW.trod_string Try.underlying9 h5
  obtain ⟨a1, c1, pg, rfl, p1, p2, R1⟩ := I2.open_row h4
  obtain ⟨a2, c2, po, rfl, p3, p4, R2⟩ := I2.open_row h6
  obtain ⟨a3, c3, fr, rfl, p5, p6, R3⟩ := I2.open_row h7
  simp [cs1, cs2] at e0 e1 e2 e3 e5
  subst e0 e1 e2 e3 e5
  exact ⟨(⟨ino, cl, un, rc, pg, sav, po, fr⟩, ⟨a1, c1, a2, c2, a3, c3⟩), rfl, ⟨Nat.le_trans p1 p2, Nat.le_trans p3 p4, Nat.le_trans p5 p6, w3, w5⟩, ⟨R1, R2, R3⟩⟩

theorem open_loans {fuel : Nat} {v : Value} {x : DataW H × List MemPlace} (h : DataW.trod enc Try.prog w 0 (fun _ => true) true fuel 24 [v] = some x) :
    ∃ (a : Option Addr) (c : Nat) (ds : List Ln) (ss : Nat → Sl), v = .slice a ds.length c ∧ ds.length ≤ c ∧ c ≤ maxLen ∧ (∀ j, j < ds.length → FitM (dat ds j) (ss j)) ∧ Lns w a ds ss := by
  rcases open_slice Try.underlying24 h with ⟨hcs, _⟩ | ⟨a, len, cap, m, n, D, Pl, hcs, _, hl, hm, hmm, _, hx⟩
  · simp at hcs
    exact ⟨none, 0, [], fun _ => sz0, hcs, Nat.le_refl _, Nat.zero_le _, fun j hj => by simp at hj, ⟨Or.inl rfl, fun j hj => by simp at hj⟩⟩
  · simp at hcs hmm
    subst hmm
    rw [N1.cells] at hx
    have each : ∀ j, j < m → ∃ q : Ln × Sl, (∀ i (hi : i < 8), w.cell? (a.add (j * 8 + i)) = some ((vals q.1 q.2)[i]'hi)) ∧ FitM q.1 q.2 ∧ Lists w q.1 q.2 := fun j hj => by
      obtain ⟨cs, k1, k2⟩ := hx j hj
      obtain ⟨q, rfl, f1, f2⟩ := loan_cells k2
      obtain ⟨_, _, k3⟩ := World.cells?_some k1
      refine ⟨q, fun i hi => ?_, f1, f2⟩
      have := k3 i hi
      rw [add_add] at this
      rw [this, List.getElem?_eq_getElem]
    haveI : Inhabited (Ln × Sl) := ⟨(dz, sz0)⟩
    obtain ⟨q, hq⟩ := choose_lt each
    have hlen : ((List.range len).map fun i => (q i).1).length = len := by simp
    have hdat : ∀ j, j < len → dat ((List.range len).map fun i => (q i).1) j = (q j).1 := fun j hj => by
      rw [dat_get _ _ (by rw [hlen]; exact hj)]
      simp
    refine ⟨some a, m, (List.range len).map fun i => (q i).1, fun i => (q i).2, by rw [hcs, hlen], by rw [hlen]; exact hl, hm, fun j hj => ?_, ⟨?_, fun j hj => ?_⟩⟩
    · rw [hlen] at hj
      rw [hdat j hj]
      exact (hq j (by omega)).2.1
    · by_cases h0 : len = 0
      · left
        subst h0
        rfl
      · right
        obtain ⟨b, off, spot⟩ := a
        have c00 := (hq 0 (by omega)).1 0 (by omega)
        have hspot : spot = none := by simpa [Addr.add] using World.cell?_spot c00
        subst hspot
        have hb : b < w.heap.size := by
          unfold World.cell? at c00
          cases hz : w.heap[b]? with
          | none => simp [Addr.add, hz] at c00
          | some o => exact (Array.getElem?_eq_some_iff.1 hz).1
        refine ⟨b, off, rfl, hb, fun j hj => ?_⟩
        rw [hlen] at hj
        rw [hdat j hj]
        have hc := (hq j (by omega)).1
        simp only [Go.WideShapes.add_plain, ← Nat.add_assoc] at hc
        exact ⟨hc 0 (by omega), hc 1 (by omega), hc 2 (by omega), hc 3 (by omega), hc 4 (by omega), hc 5 (by omega), hc 6 (by omega), hc 7 (by omega)⟩
    · rw [hlen] at hj
      rw [hdat j hj]
      exact (hq j (by omega)).2.2

theorem open_keeper {r : Reach} {b0 : Nat} {v : Value} {x : DataW H} {p : List MemPlace} (hv : Value.okWide Try.prog w r b0 26 v) (h : DataW.Trod enc Try.prog w 0 (fun _ => true) true 26 v x p) :
    ∃ (k : Kp) (a : Option Addr) (c : Nat) (ss : Nat → Sl), v = kval k a c ∧ FitK k ss ∧ Lns w a k.ds ss := by
  obtain ⟨cs, rfl, hsz⟩ := okWide_struct Try.underlying26 hv
  obtain ⟨fuel, hf⟩ := h
  obtain ⟨xs, n, _, _, _, hxl, hall⟩ := DataW.trod_struct Try.underlying26 hf
  rw [cs6] at hsz
  obtain ⟨l⟩ := cs
  match l, hsz, xs, hxl with
  | [x0, x1, x2, x3], _, [y0, y1, y2], _ =>
    have h0 := hall 0 _ rfl
    have h1 := hall 1 _ rfl
    have h2 := hall 2 _ rfl
    simp only [Value.cells, cs1, cs4, cs5, List.drop_zero, List.drop_succ_cons, List.take_succ_cons, List.take_zero, List.getElem?_cons_zero, List.getElem?_cons_succ] at h0 h1 h2
    obtain ⟨zs, n2, _, _, _, hzl, hall2⟩ := DataW.trod_struct Try.underlying23 h0
    match zs, hzl with
    | [z0, z1], _ =>
      have g0 := hall2 0 _ rfl
      have g1 := hall2 1 _ rfl
      simp only [cs2, List.drop_zero, List.drop_succ_cons, List.take_succ_cons, List.take_zero, List.getElem?_cons_zero, List.getElem?_cons_succ] at g0 g1
      obtain ⟨mem, e0, _, w0⟩ := DataW.trod_string Try.underlying9 g0
      obtain ⟨dur, e1, _, w1⟩ := DataW.trod_string Try.underlying9 g1
      obtain ⟨ck, e3, _, _⟩ := DataW.trod_int Try.underlying3 h2
      obtain ⟨a, c, ds, ss, rfl, hl, hc, hF, hR⟩ := open_loans h1
      simp [cs1, cs2, cs4] at e0 e1 e3
      subst e0 e1 e3
      exact ⟨⟨mem, dur, ds, ck⟩, a, c, ss, rfl, ⟨w0, w1, Nat.le_trans hl hc, hF⟩, hR⟩
end Args
end Go.Proofs.Ytnfcpcejfajcfaa.Z0

/- Contracts of laws.toLoan and laws.markLoan. -/
namespace Go.Proofs.Ytnfcpcejfajcfaa.N4
open Go.ChangeShapes Go.WideShapes Go.ChangeAt Go.RowKit
set_option linter.unusedVariables false
set_option linter.unusedSimpArgs false
set_option maxRecDepth 10000

open N0 (Ln)
open N1 (Sl val vals Lists FitM LB lb_new)
open I2 (ints)

abbrev zero8 : List Value := [.int .i64 0, .int .i64 0, .int .i64 0, .string ⟨#[]⟩, .slice none 0 0, .string ⟨#[]⟩, .slice none 0 0, .slice none 0 0]

/-- The three blocks of toLoan. -/
structure T (w : World) (d : Ln) (s : Sl) (vs : List Value) (W : World) : Prop where
  arg : LB w.heap.size d s W
  res : K0.Blk (w.heap.size + 1) zero8 W
  tmp : K0.Blk (w.heap.size + 2) vs W
  bel : Below w.heap.size w W

variable {w W W' : World} {d : Ln} {s : Sl} {vs : List Value}

theorem T.below (h : T w d s vs W) (hb : Below W.heap.size W W') : T w d s vs W' := ⟨h.arg.below hb, h.res.below hb, h.tmp.below hb, h.bel.trans (hb.mono h.bel.size)⟩
theorem T.set (h : T w d s vs W) (j : Nat) (v : Value) : T w d s (vs.set j v) (W.setCell ⟨w.heap.size + 2, j, none⟩ v) :=
  ⟨⟨h.arg.b.setOther (by omega) j v⟩, h.res.setOther (by omega) j v, h.tmp.set j v, h.bel.setCell (p := ⟨w.heap.size + 2, j, none⟩) (Nat.le_add_right _ _) v⟩
theorem T.arg' (h : T w d s vs W) : LB w.heap.size d s W := h.arg

/-- Where a copy's lists stand. -/
def at3 (d : Ln) (g1 g2 g3 : Nat) : Sl := ⟨some ⟨g1, 0, none⟩, d.pg.length, some ⟨g2, 0, none⟩, d.po.length, some ⟨g3, 0, none⟩, d.fr.length⟩

theorem t_new (w : World) (d : Ln) (s : Sl) :
    T w d s [.int .i64 d.ino, .int .i64 d.cl, .int .i64 d.un, .string d.rc, .slice none 0 0, .string ⟨#[]⟩, .slice none 0 0, .slice none 0 0] (((w.alloc (.cells #[.int .i64 d.ino, .int .i64 d.cl, .int .i64 d.un, .string d.rc, .slice s.a1 d.pg.length s.c1, .string d.sav, .slice s.a2 d.po.length s.c2, .slice s.a3 d.fr.length s.c3] 55)).alloc (.cells #[.int .i64 0, .int .i64 0, .int .i64 0, .string ⟨#[]⟩, .slice none 0 0, .string ⟨#[]⟩, .slice none 0 0, .slice none 0 0] 30)).alloc (.cells #[.int .i64 d.ino, .int .i64 d.cl, .int .i64 d.un, .string d.rc, .slice none 0 0, .string ⟨#[]⟩, .slice none 0 0, .slice none 0 0] 30)) :=
  ⟨⟨((K0.blk_new (vals d s) w 55).alloc _).alloc _⟩, (K0.blk_at zero8 _ 30 (by simp)).alloc _, K0.blk_at [.int .i64 d.ino, .int .i64 d.cl, .int .i64 d.un, .string d.rc, .slice none 0 0, .string ⟨#[]⟩, .slice none 0 0, .slice none 0 0] _ 30 (by simp),
   (((Below.refl _ _).alloc (Nat.le_refl _) _).alloc (by simp) _).alloc (by simp; omega) _⟩

/-- A copy of a loan: its lists are its own. -/
structure Cp (B : Nat) (d : Ln) (g1 g2 g3 : Nat) (W : World) : Prop where
  h1 : B ≤ g1
  h2 : B ≤ g2
  h3 : B ≤ g3
  k1 : K0.Blk g1 (ints d.pg) W
  k2 : K0.Blk g2 (ints d.po) W
  k3 : K0.Blk g3 (ints d.fr) W

variable {B g1 g2 g3 : Nat}
theorem Cp.below (h : Cp B d g1 g2 g3 W) (hb : Below W.heap.size W W') : Cp B d g1 g2 g3 W' := ⟨h.h1, h.h2, h.h3, h.k1.below hb, h.k2.below hb, h.k3.below hb⟩
theorem Cp.lists (h : Cp B d g1 g2 g3 W) : Lists W d (at3 d g1 g2 g3) := ⟨I2.row_of_blk h.k1, I2.row_of_blk h.k2, I2.row_of_blk h.k3⟩

theorem put8 {B : Nat} {x0 x1 x2 x3 x4 x5 x6 x7 y0 y1 y2 y3 y4 y5 y6 y7 : Value} (h : K0.Blk B [x0, x1, x2, x3, x4, x5, x6, x7] W) :
    K0.Blk B [y0, y1, y2, y3, y4, y5, y6, y7] ((((((((W.setCell ⟨B, 0, none⟩ y0).setCell ⟨B, 1, none⟩ y1).setCell ⟨B, 2, none⟩ y2).setCell ⟨B, 3, none⟩ y3).setCell ⟨B, 4, none⟩ y4).setCell ⟨B, 5, none⟩ y5).setCell ⟨B, 6, none⟩ y6).setCell ⟨B, 7, none⟩ y7) :=
  (((((((h.set 0 y0).set 1 y1).set 2 y2).set 3 y3).set 4 y4).set 5 y5).set 6 y6).set 7 y7
theorem other8 {B B' : Nat} {vs : List Value} (h : K0.Blk B' vs W) (hne : B ≠ B') (y0 y1 y2 y3 y4 y5 y6 y7 : Value) :
    K0.Blk B' vs ((((((((W.setCell ⟨B, 0, none⟩ y0).setCell ⟨B, 1, none⟩ y1).setCell ⟨B, 2, none⟩ y2).setCell ⟨B, 3, none⟩ y3).setCell ⟨B, 4, none⟩ y4).setCell ⟨B, 5, none⟩ y5).setCell ⟨B, 6, none⟩ y6).setCell ⟨B, 7, none⟩ y7) :=
  (((((((h.setOther hne 0 y0).setOther hne 1 y1).setOther hne 2 y2).setOther hne 3 y3).setOther hne 4 y4).setOther hne 5 y5).setOther hne 6 y6).setOther hne 7 y7
theorem bel8 {B b : Nat} (h : Below b w W) (hb : b ≤ B) (y0 y1 y2 y3 y4 y5 y6 y7 : Value) :
    Below b w ((((((((W.setCell ⟨B, 0, none⟩ y0).setCell ⟨B, 1, none⟩ y1).setCell ⟨B, 2, none⟩ y2).setCell ⟨B, 3, none⟩ y3).setCell ⟨B, 4, none⟩ y4).setCell ⟨B, 5, none⟩ y5).setCell ⟨B, 6, none⟩ y6).setCell ⟨B, 7, none⟩ y7) :=
  (((((((h.setCell (p := ⟨B, 0, none⟩) hb y0).setCell (p := ⟨B, 1, none⟩) hb y1).setCell (p := ⟨B, 2, none⟩) hb y2).setCell (p := ⟨B, 3, none⟩) hb y3).setCell (p := ⟨B, 4, none⟩) hb y4).setCell (p := ⟨B, 5, none⟩) hb y5).setCell (p := ⟨B, 6, none⟩) hb y6).setCell (p := ⟨B, 7, none⟩) hb y7

set_option maxHeartbeats 4000000 in
theorem toLoan (d : Ln) (s : Sl) (w : World) (hp : d.pg.length ≤ 1048576) (ho : d.po.length ≤ 1048576) (hf : d.fr.length ≤ 1048576) (hR : Lists w d s) :
    Calls Try.prog 27 #[val d s] w fun e w' => ∃ g1 g2 g3, e = .returned (val d (at3 d g1 g2 g3)) ∧ Cp w.heap.size d g1 g2 g3 w' ∧ Below w.heap.size w w' := by
  have t0 := t_new w d s
  have HL : Hid (∀ W, Below w.heap.size w W → Lists W d s) := fun W hb => hR.below hb
  have r0 := (HL.out _ t0.bel).r1
  clear hR
  go_enter Try.func27, Try.ntmps27
  go_wp2_with (first
    | (go_at_call 34; have q2' := q2; refine (I2.toIntS s.a3 s.c3 d.fr _ hf q2).mono ?_; rintro e w3 ⟨g3, rfl, hg3, k3, b3⟩; have t3 := u2.below b3; have m1 := l2.below b3; have m2 := (k2.setOther (B' := w.heap.size + 2) (by omega) 6 (.slice (some ⟨g2, 0, none⟩) d.po.length d.po.length)).below b3; have z7 := t3.tmp.cell 7 (by simp); have y7 := t3.tmp.free 7 (by simp); have z0 := t3.tmp.cell 0 (by simp); have z1 := t3.tmp.cell 1 (by simp); have z2 := t3.tmp.cell 2 (by simp); have z3 := t3.tmp.cell 3 (by simp); have z4 := t3.tmp.cell 4 (by simp); have z5 := t3.tmp.cell 5 (by simp); have z6 := t3.tmp.cell 6 (by simp); simp only [List.set_cons_zero, List.set_cons_succ, List.getElem_cons_zero, List.getElem_cons_succ] at z0 z1 z2 z3 z4 z5 z6 z7; have i0 := t3.res.cell 0 (by simp); have i1 := t3.res.cell 1 (by simp); have i2 := t3.res.cell 2 (by simp); have i3 := t3.res.cell 3 (by simp); have i4 := t3.res.cell 4 (by simp); have i5 := t3.res.cell 5 (by simp); have i6 := t3.res.cell 6 (by simp); have i7 := t3.res.cell 7 (by simp); simp only [List.getElem_cons_zero, List.getElem_cons_succ] at i0 i1 i2 i3 i4 i5 i6 i7; have j0 := t3.res.free 0 (by simp); have j1 := t3.res.free 1 (by simp); have j2 := t3.res.free 2 (by simp); have j3 := t3.res.free 3 (by simp); have j4 := t3.res.free 4 (by simp); have j5 := t3.res.free 5 (by simp); have j6 := t3.res.free 6 (by simp); have j7 := t3.res.free 7 (by simp))
    | (go_at_call 34; have q1' := q1; refine (I2.toIntS s.a2 s.c2 d.po _ ho q1).mono ?_; rintro e w2 ⟨g2, rfl, hg2, k2, b2⟩; have t2 := u1.below b2; have l2 := ((k1.setOther (B' := w.heap.size + 2) (by omega) 4 (.slice (some ⟨g1, 0, none⟩) d.pg.length d.pg.length)).setOther (B' := w.heap.size + 2) (by omega) 5 (.string d.sav)).below b2; have hg2' : w.heap.size + 3 ≤ g2 := (by have hq := u1.tmp.lt; omega); have l2 := l2.setOther (B' := w.heap.size + 2) (by omega) 6 (.slice (some ⟨g2, 0, none⟩) d.po.length d.po.length); have c7 := t2.arg.c7; have x6 := t2.tmp.cell 6 (by simp); have y6 := t2.tmp.free 6 (by simp); simp only [List.set_cons_zero, List.set_cons_succ, List.getElem_cons_zero, List.getElem_cons_succ] at x6; have u2 := t2.set 6 (.slice (some ⟨g2, 0, none⟩) d.po.length d.po.length); have q2 := (HL.out _ u2.bel).r3)
    | (go_at_call 34; refine (I2.toIntS s.a1 s.c1 d.pg _ hp r0).mono ?_; rintro e w1 ⟨g1, rfl, hg1, k1, b1⟩; have t1 := t0.below b1; have hg1' : w.heap.size + 3 ≤ g1 := (by have hq := t0.tmp.lt; omega); have c5 := t1.arg.c5; have c6 := t1.arg.c6; have x4 := t1.tmp.cell 4 (by simp); have y4 := t1.tmp.free 4 (by simp); have x5 := t1.tmp.cell 5 (by simp); have y5 := t1.tmp.free 5 (by simp); simp only [List.getElem_cons_zero, List.getElem_cons_succ] at x4 x5; have u1 := (t1.set 4 (.slice (some ⟨g1, 0, none⟩) d.pg.length d.pg.length)).set 5 (.string d.sav); have q1 := (HL.out _ u1.bel).r2))
  have hg3' : w.heap.size + 3 ≤ g3 := by
    have := u2.tmp.lt
    simp at hg3 this
    omega
  have u3 := t3.set 7 (.slice (some ⟨g3, 0, none⟩) d.fr.length d.fr.length)
  have q := put8 (y0 := .int .i64 d.ino) (y1 := .int .i64 d.cl) (y2 := .int .i64 d.un) (y3 := .string d.rc) (y4 := .slice (some ⟨g1, 0, none⟩) d.pg.length d.pg.length) (y5 := .string d.sav) (y6 := .slice (some ⟨g2, 0, none⟩) d.po.length d.po.length) (y7 := .slice (some ⟨g3, 0, none⟩) d.fr.length d.fr.length) u3.res
  have v0 := q.cell 0 (by simp)
  have v1 := q.cell 1 (by simp)
  have v2 := q.cell 2 (by simp)
  have v3 := q.cell 3 (by simp)
  have v4 := q.cell 4 (by simp)
  have v5 := q.cell 5 (by simp)
  have v6 := q.cell 6 (by simp)
  have v7 := q.cell 7 (by simp)
  simp only [List.getElem_cons_zero, List.getElem_cons_succ] at v0 v1 v2 v3 v4 v5 v6 v7
  refine bodyPost_ret (v := val d (at3 d g1 g2 g3)) (by simp [results, Try.results27, go_sem, v0, v1, v2, v3, v4, v5, v6, v7, at3]) rfl ⟨g1, g2, g3, rfl, ⟨by omega, by omega, by omega, ?_, ?_, ?_⟩, ?_⟩
  · exact other8 (m1.setOther (B' := w.heap.size + 2) (by omega) 7 _) (by omega) _ _ _ _ _ _ _ _
  · exact other8 (m2.setOther (B' := w.heap.size + 2) (by omega) 7 _) (by omega) _ _ _ _ _ _ _ _
  · exact other8 (k3.setOther (B' := w.heap.size + 2) (by omega) 7 _) (by omega) _ _ _ _ _ _ _ _
  · exact bel8 u3.bel (by omega) _ _ _ _ _ _ _ _
end Go.Proofs.Ytnfcpcejfajcfaa.N4

/- What the exact laws over loans keep: the law's own loan, boxed, and a copy of it. -/
namespace Go.Proofs.Ytnfcpcejfajcfaa.N12
open Go.ChangeShapes Go.WideShapes Go.ChangeAt Go.RowKit
set_option linter.unusedVariables false
set_option linter.unusedSimpArgs false
set_option maxRecDepth 10000

open N0 (Ln)
open N1 (Sl Lists Fit FitM LB lb_new)
open N4 (at3 Cp)

/-- The law's loan in its box. -/
structure A (w : World) (d : Ln) (s : Sl) (W : World) : Prop where
  b : LB w.heap.size d s W
  l : Lists W d s
  bel : Below w.heap.size w W

variable {w W W' : World} {d : Ln} {s : Sl} {g1 g2 g3 B : Nat}

theorem A.below (h : A w d s W) (hb : Below W.heap.size W W') : A w d s W' := ⟨h.b.below hb, h.l.below hb, h.bel.trans (hb.mono h.bel.size)⟩
theorem A.drew (h : A w d s W) : A w d s W.drew := h.below ((Below.refl _ _).drew)

theorem a_new (w : World) (d : Ln) (s : Sl) (h : Lists w d s) : A w d s (w.alloc (.cells #[.int .i64 d.ino, .int .i64 d.cl, .int .i64 d.un, .string d.rc, .slice s.a1 d.pg.length s.c1, .string d.sav, .slice s.a2 d.po.length s.c2, .slice s.a3 d.fr.length s.c3] 55)) :=
  ⟨lb_new d s w 55, h.alloc _, K0.below_new _ _⟩

/-- Beside it a copy of it, boxed. -/
structure U (w : World) (d : Ln) (s : Sl) (g1 g2 g3 B : Nat) (W : World) : Prop where
  t : A w d s W
  n : LB B d (at3 d g1 g2 g3) W
  cp : Cp w.heap.size d g1 g2 g3 W

theorem U.below (h : U w d s g1 g2 g3 B W) (hb : Below W.heap.size W W') : U w d s g1 g2 g3 B W' := ⟨h.t.below hb, h.n.below hb, h.cp.below hb⟩
theorem U.drew (h : U w d s g1 g2 g3 B W) : U w d s g1 g2 g3 B W.drew := h.below ((Below.refl _ _).drew)

theorem cp_mono {b b' : Nat} (h : Cp b d g1 g2 g3 W) (hb : b' ≤ b) : Cp b' d g1 g2 g3 W := ⟨Nat.le_trans hb h.h1, Nat.le_trans hb h.h2, Nat.le_trans hb h.h3, h.k1, h.k2, h.k3⟩

theorem u_new {b : Nat} (h : A w d s W) (hc : Cp b d g1 g2 g3 W) (hb : w.heap.size ≤ b) :
    U w d s g1 g2 g3 W.heap.size (W.alloc (.cells #[.int .i64 d.ino, .int .i64 d.cl, .int .i64 d.un, .string d.rc, .slice (at3 d g1 g2 g3).a1 d.pg.length (at3 d g1 g2 g3).c1, .string d.sav, .slice (at3 d g1 g2 g3).a2 d.po.length (at3 d g1 g2 g3).c2, .slice (at3 d g1 g2 g3).a3 d.fr.length (at3 d g1 g2 g3).c3] 30)) :=
  ⟨h.below (K0.below_new _ _), lb_new d (at3 d g1 g2 g3) W 30, (cp_mono hc hb).below (K0.below_new _ _)⟩

theorem sizes (h : N3.total d ≤ 1048576) : d.pg.length ≤ 1048576 ∧ d.po.length ≤ 1048576 ∧ d.fr.length ≤ 1048576 ∧ d.rc.size ≤ 1048576 ∧ d.sav.size ≤ 1048576 := by
  unfold N3.total at h
  omega

theorem fitc (h : N3.total d ≤ 1048576) : Fit d (at3 d g1 g2 g3) := by
  have := sizes h
  exact ⟨by omega, by omega, by omega⟩
end Go.Proofs.Ytnfcpcejfajcfaa.N12

/- Contracts of chapter 2's small functions: a device measured, taken over, held against another, asked whether it is right. -/
namespace Go.Proofs.Ytnfcpcejfajcfaa.D1
open Go.ChangeShapes Go.WideShapes Go.ChangeAt Go.RowKit
set_option linter.unusedVariables false

/-- What is left of 2^20 behind a device's texts; -1 where nothing is. -/
def sz (a b : ByteArray) : Int := if (a.size : Int) + b.size ≤ 1048576 then 1048576 - a.size - b.size else -1

theorem szDev (a b : ByteArray) (w : World) (ha : a.size ≤ maxLen) (hb : b.size ≤ maxLen) :
    Calls Try.prog 13 #[.agg #[.string a, .string b], .int .i64 1048576] w fun e w' => e = .returned (.int .i64 (sz a b)) ∧ Below w.heap.size w w' := by
  unfold maxLen at ha hb
  by_cases h1 : (a.size : Int) ≤ 1048576
  · by_cases h2 : (a.size : Int) + b.size ≤ 1048576
    · have e : sz a b = 1048576 - a.size - b.size := by simp [sz, h2]
      rw [e]
      go_enter Try.func13, Try.ntmps13
      go_wp2
      go_ret
      exact ⟨rfl, (Below.refl _ _).alloc (Nat.le_refl _) _⟩
    · have e : sz a b = -1 := by simp [sz, h2]
      rw [e]
      go_enter Try.func13, Try.ntmps13
      go_wp2
      go_ret
      exact ⟨rfl, (Below.refl _ _).alloc (Nat.le_refl _) _⟩
  · have e : sz a b = -1 := by
      have : ¬ ((a.size : Int) + b.size ≤ 1048576) := by omega
      simp [sz, this]
    rw [e]
    go_enter Try.func13, Try.ntmps13
    go_wp2
    go_ret
    exact ⟨rfl, (Below.refl _ _).alloc (Nat.le_refl _) _⟩

theorem toDev (a b : ByteArray) (w : World) :
    Calls Try.prog 16 #[.agg #[.string a, .string b]] w fun e w' => e = .returned (.agg #[.string a, .string b]) ∧ Below w.heap.size w w' := by
  go_enter Try.func16, Try.ntmps16
  go_wp2
  exact bodyPost_ret (v := .agg #[.string a, .string b]) (by simp [results, Try.results16, go_sem]) rfl ⟨rfl, (((Below.refl _ _).alloc (Nat.le_refl _) _).alloc (by simp) _).alloc (by simp; omega) _⟩

theorem eqDev (a b : ByteArray) (w : World) :
    Calls Try.prog 21 #[.agg #[.string a, .string b], .agg #[.string a, .string b]] w fun e w' => e = .returned (.bool true) ∧ Below w.heap.size w w' := by
  go_enter Try.func21, Try.ntmps21
  go_wp2
  go_ret
  exact ⟨rfl, ((Below.refl _ _).alloc (Nat.le_refl _) _).alloc (by simp) _⟩

/-- A device is right: 768 bytes each. -/
def ok (a b : ByteArray) : Bool := decide (a.size = 768) && decide (b.size = 768)

theorem ok_true {a b : ByteArray} (h : ok a b = true) : a.size = 768 ∧ b.size = 768 := by simpa [ok] using h
theorem ok_mk {a b : ByteArray} (h1 : a.size = 768) (h2 : b.size = 768) : ok a b = true := by simp [ok, h1, h2]

end Go.Proofs.Ytnfcpcejfajcfaa.D1

/- A call that alone may come up in a region that draws its order. -/
namespace Go.Proofs.Ytnfcpcejfajcfaa.Y0
open Go.RowKit
set_option linter.unusedVariables false
set_option linter.unusedSimpArgs false
variable {P : Program} {Q : Exit → Act → World → Prop} {ops : Array Oper}

theorem of_if {c : Prop} [Decidable c] {p q : Prop} (hc : c) (hp : p) : if c then p else q := by rw [if_pos hc]; exact hp

/-- A call of one argument that alone may come up. -/
theorem one_call {S : World → Prop} {a : Act} {w : World} {i f : Nat} {o : Oper} {listed : Array Bool} {fuel : Nat} {md : Region.Mode} (hr : Region.ready md ops listed = [i]) (ho : ops[i]? = some o) (hg : o.guard = none)
    (x : Operand) (ts : Array TypeId) (hop : o.op = .call { callee := .value (.func f), args := #[x], argTypes := ts }) (v : Value) (hx : a.eval x = v) (eg : ∀ args w, (callFunc f args).run P w = .ok (.enter f args) w)
    (hc : Calls P f #[v] w fun e w' => ∃ u, e = .returned u ∧ S w' ∧ wpAnyH P md ops Q S fuel (listed.setIfInBounds i true) (a.put o.dst u) w') : wpAnyH P md ops Q S (fuel + 1) listed a w := by
  refine wpAnyH_all hr (by simp) ?_
  intro j hj
  obtain rfl : j = i := by simpa using hj
  unfold wpOp
  rw [ho]
  refine of_if (by rw [Region.wanted, hg]) (.inl ?_)
  have he : (execOp a.eval o).run P w = .ok (.enter f #[v]) w := by
    subst hx
    simp [execOp, hop, resolve, go_sem, invoke, eg]
  unfold Oper.wp
  rw [he]
  refine Calls.mono hc ?_
  rintro e w' ⟨u, rfl, h⟩
  exact h

/-- .. where it is guarded, and the guard holds. -/
theorem one_callw {S : World → Prop} {a : Act} {w : World} {i f : Nat} {o : Oper} {listed : Array Bool} {fuel : Nat} {md : Region.Mode} (hr : Region.ready md ops listed = [i]) (ho : ops[i]? = some o) (hw : Region.wanted o (yielded ops a.tmps) = true)
    (x : Operand) (ts : Array TypeId) (hop : o.op = .call { callee := .value (.func f), args := #[x], argTypes := ts }) (v : Value) (hx : a.eval x = v) (eg : ∀ args w, (callFunc f args).run P w = .ok (.enter f args) w)
    (hc : Calls P f #[v] w fun e w' => ∃ u, e = .returned u ∧ S w' ∧ wpAnyH P md ops Q S fuel (listed.setIfInBounds i true) (a.put o.dst u) w') : wpAnyH P md ops Q S (fuel + 1) listed a w := by
  refine wpAnyH_all hr (by simp) ?_
  intro j hj
  obtain rfl : j = i := by simpa using hj
  unfold wpOp
  rw [ho]
  refine of_if hw (.inl ?_)
  have he : (execOp a.eval o).run P w = .ok (.enter f #[v]) w := by
    subst hx
    simp [execOp, hop, resolve, go_sem, invoke, eg]
  unfold Oper.wp
  rw [he]
  refine Calls.mono hc ?_
  rintro e w' ⟨u, rfl, h⟩
  exact h

theorem one_call2w {S : World → Prop} {a : Act} {w : World} {i f : Nat} {o : Oper} {listed : Array Bool} {fuel : Nat} {md : Region.Mode} (hr : Region.ready md ops listed = [i]) (ho : ops[i]? = some o) (hw : Region.wanted o (yielded ops a.tmps) = true)
    (x y : Operand) (ts : Array TypeId) (hop : o.op = .call { callee := .value (.func f), args := #[x, y], argTypes := ts }) (v u1 : Value) (hx0 : a.eval x = v) (hx1 : a.eval y = u1) (eg : ∀ args w, (callFunc f args).run P w = .ok (.enter f args) w)
    (hc : Calls P f #[v, u1] w fun e w' => ∃ u, e = .returned u ∧ S w' ∧ wpAnyH P md ops Q S fuel (listed.setIfInBounds i true) (a.put o.dst u) w') : wpAnyH P md ops Q S (fuel + 1) listed a w := by
  refine wpAnyH_all hr (by simp) ?_
  intro j hj
  obtain rfl : j = i := by simpa using hj
  unfold wpOp
  rw [ho]
  refine of_if hw (.inl ?_)
  have he : (execOp a.eval o).run P w = .ok (.enter f #[v, u1]) w := by
    subst hx0 hx1
    simp [execOp, hop, resolve, go_sem, invoke, eg]
  unfold Oper.wp
  rw [he]
  refine Calls.mono hc ?_
  rintro e w' ⟨u, rfl, h⟩
  exact h

theorem one_call3w {S : World → Prop} {a : Act} {w : World} {i f : Nat} {o : Oper} {listed : Array Bool} {fuel : Nat} {md : Region.Mode} (hr : Region.ready md ops listed = [i]) (ho : ops[i]? = some o) (hw : Region.wanted o (yielded ops a.tmps) = true)
    (x y z : Operand) (ts : Array TypeId) (hop : o.op = .call { callee := .value (.func f), args := #[x, y, z], argTypes := ts }) (v u1 u2 : Value) (hx0 : a.eval x = v) (hx1 : a.eval y = u1) (hx2 : a.eval z = u2) (eg : ∀ args w, (callFunc f args).run P w = .ok (.enter f args) w)
    (hc : Calls P f #[v, u1, u2] w fun e w' => ∃ u, e = .returned u ∧ S w' ∧ wpAnyH P md ops Q S fuel (listed.setIfInBounds i true) (a.put o.dst u) w') : wpAnyH P md ops Q S (fuel + 1) listed a w := by
  refine wpAnyH_all hr (by simp) ?_
  intro j hj
  obtain rfl : j = i := by simpa using hj
  unfold wpOp
  rw [ho]
  refine of_if hw (.inl ?_)
  have he : (execOp a.eval o).run P w = .ok (.enter f #[v, u1, u2]) w := by
    subst hx0 hx1 hx2
    simp [execOp, hop, resolve, go_sem, invoke, eg]
  unfold Oper.wp
  rw [he]
  refine Calls.mono hc ?_
  rintro e w' ⟨u, rfl, h⟩
  exact h

/-- Another operation that alone may come up. -/
theorem one_plain {S : World → Prop} {a : Act} {w w' : World} {u : Value} {i : Nat} {o : Oper} {listed : Array Bool} {fuel : Nat} {md : Region.Mode} (hr : Region.ready md ops listed = [i]) (ho : ops[i]? = some o) (hw : Region.wanted o (yielded ops a.tmps) = true)
    (he : (execOp a.eval o).run P w = .ok (.value u) w') (hS : S w') (h : wpAnyH P md ops Q S fuel (listed.setIfInBounds i true) (a.put o.dst u) w') : wpAnyH P md ops Q S (fuel + 1) listed a w := by
  refine wpAnyH_all hr (by simp) ?_
  intro j hj
  obtain rfl : j = i := by simpa using hj
  unfold wpOp
  rw [ho]
  refine of_if hw (.inl ?_)
  unfold Oper.wp
  rw [he]
  exact ⟨hS, h⟩

/-- .. a store. -/
theorem one_skip {S : World → Prop} {a : Act} {w w' : World} {i : Nat} {o : Oper} {listed : Array Bool} {fuel : Nat} {md : Region.Mode} (hr : Region.ready md ops listed = [i]) (ho : ops[i]? = some o) (hw : Region.wanted o (yielded ops a.tmps) = true)
    (he : (execOp a.eval o).run P w = .ok .skip w') (hS : S w') (h : wpAnyH P md ops Q S fuel (listed.setIfInBounds i true) (a.put o.dst undef) w') : wpAnyH P md ops Q S (fuel + 1) listed a w := by
  refine wpAnyH_all hr (by simp) ?_
  intro j hj
  obtain rfl : j = i := by simpa using hj
  unfold wpOp
  rw [ho]
  refine of_if hw (.inl ?_)
  unfold Oper.wp
  rw [he]
  exact ⟨hS, h⟩
end Go.Proofs.Ytnfcpcejfajcfaa.Y0

/- Contracts of impl.isTaken and impl.dirOk, as the given laws call them. -/
namespace Go.Proofs.Ytnfcpcejfajcfaa.T1
open Go.ChangeShapes Go.WideShapes Go.ChangeAt Go.RowKit
set_option linter.unusedVariables false
set_option linter.unusedSimpArgs false
set_option maxRecDepth 10000

theorem ret_bool {a b : Bool} (h : a = b) : Ending.returned (.bool a) = .returned (.bool b) := by rw [h]

theorem row_at {w W : World} {b off : Nat} {es : List T0.Ent} (hlt : b < w.heap.size) (hb : Below w.heap.size w W) (hc : ∀ j, j < es.length → w.cell? ⟨b, off + j * 2, none⟩ = some (.int .i64 (T0.ent es j).1) ∧ w.cell? ⟨b, off + j * 2 + 1, none⟩ = some (.string (T0.ent es j).2)) :
    ∀ j, j < es.length → W.cell? ⟨b, off + j * 2, none⟩ = some (.int .i64 (T0.ent es j).1) ∧ W.cell? ⟨b, off + j * 2 + 1, none⟩ = some (.string (T0.ent es j).2) := fun j hj =>
  ⟨(hb.cell (p := ⟨b, off + j * 2, none⟩) hlt).trans (hc j hj).1, (hb.cell (p := ⟨b, off + j * 2 + 1, none⟩) hlt).trans (hc j hj).2⟩

end Go.Proofs.Ytnfcpcejfajcfaa.T1

/- Contracts of impl.PutDir and spec.PutDir, as the given laws call them. -/
namespace Go.Proofs.Ytnfcpcejfajcfaa.T2
open Go.ChangeShapes Go.WideShapes Go.ChangeAt Go.RowKit
set_option linter.unusedVariables false
set_option linter.unusedSimpArgs false
set_option maxRecDepth 10000

theorem ret_str {a b : ByteArray} (h : a = b) : Ending.returned (.string a) = .returned (.string b) := by rw [h]

theorem makeRoom (n : Nat) (hn : n ≤ 12) : ∃ C : Array Value, C.size = n * 16 ∧ ∀ W : World, (Instr.makeSlice 62 (.int .i64 0) (.int .i64 ((n : Int) * 16))).run Try.prog W = .ok (.slice (some ⟨W.heap.size, 0, none⟩) 0 (n * 16)) (W.alloc (.cells C 5)) := by
  obtain ⟨i0, hi, hz0, hz1, hz2⟩ := info_parts F0.info5
  refine ⟨madeCells (Value.int .u8 0).cells ((n * 16) * i0.size), ?_, fun W => ?_⟩
  · have : (madeCells (Value.int .u8 0).cells ((n * 16) * i0.size)).toList.length = n * 16 := by
      rw [show (Value.int .u8 0).cells = #[Value.int .u8 0] from rfl, toList_madeCells_one, hz1]
      simp
    simpa using this
  · have h := run_make (P := Try.prog) W 62 5 i0 (.int .u8 0) Try.underlying62 hi hz0 .i64 .i64 0 ((n : Int) * 16) (by omega) (by omega) (by rw [hz2]; omega) (by omega)
    rw [show ((n : Int) * 16).toNat = n * 16 by omega] at h
    exact h

end Go.Proofs.Ytnfcpcejfajcfaa.T2

/- The contract of spec.PutDir, as the given laws call it. -/
namespace Go.Proofs.Ytnfcpcejfajcfaa.T3
open Go.ChangeShapes Go.WideShapes Go.ChangeAt Go.RowKit
set_option linter.unusedVariables false
set_option linter.unusedSimpArgs false
set_option maxRecDepth 10000

open T2 (ret_str)

theorem putE_empty {i : Int} {s : ByteArray} (h : E0.entryOk i s = false) : (E0.putE i s).toList.isEmpty = true := by
  rw [E0.putE, if_neg (by rw [h]; decide), Lib.toList_data]
  rfl
theorem putE_full {i : Int} {s : ByteArray} (h : E0.entryOk i s = true) : (E0.putE i s).toList.isEmpty = false := by
  have := T0.putE_size16 h
  rw [Lib.toList_data]
  cases hl : (E0.putE i s).data.toList with
  | nil => rw [Lib.size_eq, hl] at this; simp at this
  | cons x r => rfl

end Go.Proofs.Ytnfcpcejfajcfaa.T3

/- Entries among a law's arguments; contracts of laws.szEntryS, laws.toEntryS and laws.eqEntryS. -/
namespace Go.Proofs.Ytnfcpcejfajcfaa.T4
open Go.ChangeShapes Go.WideShapes Go.ChangeAt Go.RowKit Go.Joins Go.Deep
set_option linter.unusedVariables false
set_option linter.unusedSimpArgs false
set_option maxRecDepth 10000

def num : Value → Int
  | .int _ z => z
  | _ => 0
def txt : Value → ByteArray
  | .string s => s
  | _ => ⟨#[]⟩

/-- All names fit. -/
def FitsM (es : List T0.Ent) : Prop := ∀ j, j < es.length → (T0.ent es j).2.size ≤ maxLen

section Args
variable {H : Type} {enc : TypeId × Value → H} {w : World}

end Args

/-- The names' sizes, all together. -/
def sum (es : List T0.Ent) : Nat → Nat
  | 0 => 0
  | k + 1 => sum es k + (T0.ent es k).2.size

theorem sum_mono (es : List T0.Ent) (k : Nat) : ∀ m, sum es k ≤ sum es (k + m)
  | 0 => Nat.le_refl _
  | m + 1 => Nat.le_trans (sum_mono es k m) (Nat.le_add_right _ _)

theorem sum_le {es : List T0.Ent} {k n : Nat} (h : k ≤ n) : sum es k ≤ sum es n := by
  have := sum_mono es k (n - k)
  rwa [show k + (n - k) = n by omega] at this

theorem fits_of {es : List T0.Ent} (h : es.length + sum es es.length ≤ 1048576) : T0.Fits es := fun j hj => by
  have h1 := sum_le (es := es) (k := j + 1) (n := es.length) (by omega)
  have h2 : sum es (j + 1) = sum es j + (T0.ent es j).2.size := rfl
  omega

/-- What is left of 2^20; -1 where nothing is. -/
def left (es : List T0.Ent) : Int := if es.length + sum es es.length ≤ 1048576 then 1048576 - (es.length : Int) - (sum es es.length : Int) else -1

theorem ret_int {k : IntKind} {a b : Int} (h : a = b) : Ending.returned (.int k a) = .returned (.int k b) := by rw [h]

end Go.Proofs.Ytnfcpcejfajcfaa.T4
