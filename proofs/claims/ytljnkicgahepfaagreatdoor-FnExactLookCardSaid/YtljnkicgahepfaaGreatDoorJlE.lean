/- Joined texts: plain facts and contracts. -/
import Derived.Test.YtljnkicgahepfaaGreatDoorJlC
import Derived.Test.YtljnkicgahepfaaGreatDoorJlD
import Derived.Deep.RegionWith
import Derived.Lib.SmallJoins
import Derived.OpenShut
import Derived.ShutString
import Derived.Laws.MakeOwn
set_option linter.unusedVariables false
set_option linter.unusedSimpArgs false
set_option maxRecDepth 10000
namespace Go.Proofs.YtljnkicgahepfaaGreatDoor.N0
open Go
structure Ln where
 ino : Int
 cl : Int
 un : Int
 rc : ByteArray
 pg : List Int
 sav : ByteArray
 po : List Int
 fr : List Int
def to (f : Nat → Bool) (k : Nat) : Bool := (List.range k).all f
theorem to_succ (f : Nat → Bool) (k : Nat) : to f (k + 1) = (to f k && f k) := by simp [to, List.range_succ]
theorem to_iff {f : Nat → Bool} {k : Nat} : to f k = true ↔ ∀ i, i < k → f i = true := by simp [to, List.all_eq_true]
theorem to_bad {f : Nat → Bool} {k n : Nat} (hk : k < n) (h : f k = false) : to f n = false := by
 cases e : to f n with
 | false => rfl
 | true => rw [to_iff.1 e k hk] at h; cases h
theorem to_step {f : Nat → Bool} {k : Nat} (h : to f k = true) (hf : f k = true) : to f (k + 1) = true := by rw [to_succ, h, hf]; rfl
def ascAt (zs : List Int) (i : Nat) : Bool := decide (i = 0) || decide (zs.getD (i - 1) 0 < zs.getD i 0)
def asc (zs : List Int) : Bool := to (ascAt zs) zs.length
def upAt (zs : List Int) (a b : Int) (i : Nat) : Bool := B1.inB (zs.getD i 0) a b && ascAt zs i
def up (zs : List Int) (a b : Int) : Bool := to (upAt zs a b) zs.length
def apAt (pg po : List Int) (i : Nat) : Bool := !(P0.has pg (po.getD i 0))
def apart (pg po : List Int) : Bool := to (apAt pg po) po.length
def frAt (fr : List Int) (ino : Int) (i : Nat) : Bool := B1.inB (fr.getD i 0) 1 7 && !decide (fr.getD i 0 = ino)
def past (d : Ln) : Bool := G0.isI d.rc && (!decide (G0.gK d.rc = 0) && (decide (G0.gZ d.rc = d.pg) && (decide (d.sav.size = d.pg.length * 32) && (!decide (G0.gK d.rc = 2) || V0.isD (B2.part d.sav 0 (G0.gS d.rc))))))
def nums (d : Ln) : Bool := decide (0 ≤ d.ino) && (decide (d.ino < 8) && (decide (0 ≤ d.cl) && (decide (d.cl ≤ 8) && decide (0 ≤ d.un))))
def poolOk (d : Ln) : Bool := decide (d.po.length ≤ 4) && (asc d.po && P0.pagesOk (G0.gZ d.rc ++ d.po))
def freshOk (d : Ln) : Bool := if G0.gK d.rc = 2 then decide (d.fr.length ≤ 2) && (asc d.fr && to (frAt d.fr d.ino) d.fr.length) else decide (d.fr.length = 0)
def loanOk (d : Ln) : Bool := past d && (nums d && (poolOk d && freshOk d))
def sFirst (d : Ln) : Bool := G0.isI d.rc && (!decide (G0.gK d.rc = 0) && (B1.inB d.ino 0 7 && (B1.inB d.cl 0 8 && (!decide (d.un < 0) && (decide (G0.gZ d.rc = d.pg) && decide (d.sav.size = d.pg.length * 32))))))
def sDir (d : Ln) : Bool := !decide (G0.gK d.rc = 2) || V0.isD (B2.part d.sav 0 (G0.gS d.rc))
def sLast (d : Ln) : Bool := up d.po 5 23 && (decide (d.po.length ≤ 4) && (up d.fr 1 7 && (decide (d.fr.length ≤ 2) && (!(P0.has d.fr d.ino) && (decide (G0.gK d.rc = 2) || decide (d.fr.length = 0))))))
def sOk (d : Ln) : Bool := sFirst d && (apart d.pg d.po && (sDir d && sLast d))
theorem getD_mem {zs : List Int} {i : Nat} (h : i < zs.length) : zs.getD i 0 ∈ zs := by
 rw [P0.getD_get _ _ h]
 exact List.getElem_mem h
theorem mem_getD {zs : List Int} {z : Int} (h : z ∈ zs) : ∃ i, i < zs.length ∧ zs.getD i 0 = z := by
 obtain ⟨i, hi, e⟩ := List.mem_iff_getElem.1 h
 exact ⟨i, hi, by rw [P0.getD_get _ _ hi]; exact e⟩
theorem has_iff {l : List Int} {x : Int} : P0.has l x = true ↔ x ∈ l := by unfold P0.has; exact List.contains_iff_mem
theorem has_not {l : List Int} {x : Int} : P0.has l x = false ↔ ¬ x ∈ l := by
 rw [← has_iff]
 cases P0.has l x <;> simp
theorem inB_iff {z a b : Int} : B1.inB z a b = true ↔ a ≤ z ∧ z ≤ b := by unfold B1.inB; simp
theorem pagesOk_iff {zs : List Int} : P0.pagesOk zs = true ↔ (∀ z ∈ zs, 5 ≤ z ∧ z ≤ 23) ∧ zs.Nodup := by
 have h0 : P0.pagesOk zs = to (P0.okAt zs) zs.length := rfl
 rw [h0, to_iff]
 constructor
 ·intro h
  refine ⟨fun z hz => ?_, ?_⟩
  ·obtain ⟨i, hi, rfl⟩ := mem_getD hz
   have := h i hi
   simp only [P0.okAt, Bool.and_eq_true] at this
   exact inB_iff.1 this.1
  ·rw [List.Nodup, List.pairwise_iff_getElem]
   intro i j hi hj hij e
   have := h j hj
   simp only [P0.okAt, Bool.and_eq_true, Bool.not_eq_true'] at this
   have h2 := P0.contains_of (zs := zs) hij (Nat.le_of_lt hj)
   rw [P0.getD_get _ _ hi, e, ← P0.getD_get _ _ hj, this.2] at h2
   cases h2
 ·rintro ⟨h1, h2⟩ i hi
  simp only [P0.okAt, Bool.and_eq_true, Bool.not_eq_true']
  refine ⟨inB_iff.2 (h1 _ (getD_mem hi)), has_not.2 fun hm => ?_⟩
  obtain ⟨j, hj, e⟩ := List.mem_iff_getElem.1 hm
  have hj' : j < i := by simp at hj; omega
  rw [List.getElem_take, P0.getD_get _ _ hi] at e
  rw [List.Nodup, List.pairwise_iff_getElem] at h2
  exact h2 j i (by omega) hi hj' e
theorem asc_iff {zs : List Int} : asc zs = true ↔ zs.Pairwise (· < ·) := by
 unfold asc
 rw [to_iff, List.pairwise_iff_getElem]
 constructor
 ·intro h i j hi hj hij
  induction j with
  | zero => omega
  | succ j ih =>
   have hs := h (j + 1) hj
   simp only [ascAt, Bool.or_eq_true, decide_eq_true_eq, Nat.add_sub_cancel] at hs
   have hs' : zs[j] < zs[j + 1] := by
    rcases hs with hs | hs
    ·omega
    ·rw [P0.getD_get _ _ (by omega), P0.getD_get _ _ hj] at hs
     exact hs
   by_cases e : i = j
   ·subst e
    exact hs'
   ·exact Int.lt_trans (ih (by omega) (by omega)) hs'
 ·intro h i hi
  simp only [ascAt, Bool.or_eq_true, decide_eq_true_eq]
  by_cases e : i = 0
  ·exact Or.inl e
  ·right
   rw [P0.getD_get _ _ (by omega), P0.getD_get _ _ hi]
   exact h (i - 1) i (by omega) hi (by omega)
theorem asc_nodup {zs : List Int} (h : asc zs = true) : zs.Nodup := (asc_iff.1 h).imp fun h e => by omega
theorem up_iff {zs : List Int} {a b : Int} : up zs a b = true ↔ (∀ z ∈ zs, a ≤ z ∧ z ≤ b) ∧ asc zs = true := by
 unfold up asc
 rw [to_iff, to_iff]
 constructor
 ·intro h
  refine ⟨fun z hz => ?_, fun i hi => ?_⟩
  ·obtain ⟨i, hi, rfl⟩ := mem_getD hz
   have := h i hi
   simp only [upAt, Bool.and_eq_true] at this
   exact inB_iff.1 this.1
  ·have := h i hi
   simp only [upAt, Bool.and_eq_true] at this
   exact this.2
 ·rintro ⟨h1, h2⟩ i hi
  simp only [upAt, Bool.and_eq_true]
  exact ⟨inB_iff.2 (h1 _ (getD_mem hi)), h2 i hi⟩
theorem apart_iff {pg po : List Int} : apart pg po = true ↔ ∀ z ∈ po, ¬ z ∈ pg := by
 unfold apart
 rw [to_iff]
 constructor
 ·intro h z hz
  obtain ⟨i, hi, rfl⟩ := mem_getD hz
  have := h i hi
  simp only [apAt, Bool.not_eq_true'] at this
  exact has_not.1 this
 ·intro h i hi
  simp only [apAt, Bool.not_eq_true']
  exact has_not.2 (h _ (getD_mem hi))
theorem frTo_iff {fr : List Int} {ino : Int} : to (frAt fr ino) fr.length = true ↔ (∀ z ∈ fr, 1 ≤ z ∧ z ≤ 7) ∧ ¬ ino ∈ fr := by
 rw [to_iff]
 constructor
 ·intro h
  refine ⟨fun z hz => ?_, fun hm => ?_⟩
  ·obtain ⟨i, hi, rfl⟩ := mem_getD hz
   have := h i hi
   simp only [frAt, Bool.and_eq_true] at this
   exact inB_iff.1 this.1
  ·obtain ⟨i, hi, e⟩ := mem_getD hm
   have := h i hi
   simp only [frAt, Bool.and_eq_true, Bool.not_eq_true', decide_eq_false_iff_not] at this
   exact this.2 e
 ·rintro ⟨h1, h2⟩ i hi
  simp only [frAt, Bool.and_eq_true, Bool.not_eq_true', decide_eq_false_iff_not]
  exact ⟨inB_iff.2 (h1 _ (getD_mem hi)), fun e => h2 (e ▸ getD_mem hi)⟩
theorem sOk_eq (d : Ln) : sOk d = loanOk d := by
 rw [Bool.eq_iff_iff]
 by_cases hP : sFirst d = true
 ·have h := hP
  simp only [sFirst, Bool.and_eq_true, Bool.not_eq_true', decide_eq_true_eq, decide_eq_false_iff_not, inB_iff] at h
  obtain ⟨hI, hk, hi, hc, hu, hz, hs⟩ := h
  have hg := O0.got hI
  have hpg := pagesOk_iff.1 hg.2.2.2.1
  rw [hz] at hpg
  simp only [sOk, loanOk, hP, past, nums, poolOk, hI, hk, hz, hs, Bool.and_eq_true, Bool.true_and, decide_true, decide_false, Bool.not_false, decide_eq_true_eq, sDir, sLast]
  rw [apart_iff, up_iff, up_iff, pagesOk_iff]
  constructor
  ·rintro ⟨h1, h2, ⟨h3, h4⟩, h5, ⟨h6, h7⟩, h8, h9, h10⟩
   refine ⟨h2, ⟨by omega, by omega, by omega, by omega, by omega⟩, ⟨h5, h4, ?_, ?_⟩, ?_⟩
   ·intro z hz'
    rcases List.mem_append.1 hz' with h | h
    ·exact hpg.1 z h
    ·exact h3 z h
   ·exact List.nodup_append.2 ⟨hpg.2, asc_nodup h4, fun a ha b hb e => h1 b hb (e ▸ ha)⟩
   ·unfold freshOk
    by_cases k2 : G0.gK d.rc = 2
    ·rw [if_pos k2]
     simp only [Bool.and_eq_true, decide_eq_true_eq]
     exact ⟨h8, h7, frTo_iff.2 ⟨h6, has_not.1 (by simpa using h9)⟩⟩
    ·rw [if_neg k2]
     simp only [k2, decide_false, Bool.false_or, decide_eq_true_eq, Bool.or_eq_true, false_or] at h10
     simpa using h10
  ·rintro ⟨h2, ⟨n1, n2, n3, n4, n5⟩, ⟨h5, h4, h3, hnd⟩, hf⟩
   have hnd' := List.nodup_append.1 hnd
   have hfr : up d.fr 1 7 = true ∧ d.fr.length ≤ 2 ∧ (!P0.has d.fr d.ino) = true ∧ (decide (G0.gK d.rc = 2) || decide (d.fr.length = 0)) = true := by
    unfold freshOk at hf
    by_cases k2 : G0.gK d.rc = 2
    ·rw [if_pos k2] at hf
     simp only [Bool.and_eq_true, decide_eq_true_eq] at hf
     obtain ⟨f1, f2, f3⟩ := hf
     obtain ⟨f4, f5⟩ := frTo_iff.1 f3
     exact ⟨up_iff.2 ⟨f4, f2⟩, f1, by simpa using has_not.2 f5, by simp [k2]⟩
    ·rw [if_neg k2] at hf
     have h0 : d.fr = [] := List.eq_nil_of_length_eq_zero (by simpa using hf)
     rw [h0]
     exact ⟨rfl, by decide, rfl, by simp⟩
   obtain ⟨q1, q2, q3, q4⟩ := hfr
   exact ⟨fun z hz' hz2 => hnd'.2.2 z hz2 z hz' rfl, h2, ⟨fun z hz' => h3 z (List.mem_append.2 (Or.inr hz')), h4⟩, h5, up_iff.1 q1, q2, q3, q4⟩
 ·have h1 : sFirst d = false := by simpa using hP
  simp only [sOk, h1, Bool.false_and, Bool.false_eq_true, false_iff]
  intro hl
  apply hP
  simp only [loanOk, past, nums, Bool.and_eq_true, decide_eq_true_eq] at hl
  obtain ⟨⟨a1, a2, a3, a4, a5⟩, ⟨b1, b2, b3, b4, b5⟩, -⟩ := hl
  simp only [sFirst, Bool.and_eq_true, decide_eq_true_eq, inB_iff]
  exact ⟨a1, a2, ⟨b1, by omega⟩, ⟨b3, b4⟩, by simp; omega, a3, a4⟩
theorem loanOk_is {d : Ln} (h : loanOk d = true) : G0.isI d.rc = true ∧ G0.gK d.rc ≠ 0 ∧ G0.gZ d.rc = d.pg ∧ d.sav.size = d.pg.length * 32 ∧ (0 ≤ d.ino ∧ d.ino ≤ 7) ∧ (0 ≤ d.cl ∧ d.cl ≤ 8) ∧ d.pg.length ≤ 6 ∧ d.po.length ≤ 4 ∧ d.fr.length ≤ 2 ∧ P0.pagesOk (d.pg ++ d.po) = true ∧ (∀ z ∈ d.fr, 1 ≤ z ∧ z ≤ 7) ∧ asc d.po = true ∧ asc d.fr = true := by
 have h' := h
 rw [← sOk_eq] at h'
 simp only [sOk, sFirst, sLast, Bool.and_eq_true, decide_eq_true_eq, inB_iff, Bool.not_eq_true', decide_eq_false_iff_not] at h'
 obtain ⟨⟨a1, a2, a3, a4, a5, a6, a7⟩, -, -, b1, b2, b3, b4, -⟩ := h'
 simp only [loanOk, poolOk, Bool.and_eq_true] at h
 have hp := h.2.2.1.2.2
 rw [a6] at hp
 have := (O0.got a1).2.1
 rw [a6] at this
 exact ⟨a1, a2, a6, a7, a3, a4, this, b2, b4, hp, (up_iff.1 b3).1, (up_iff.1 b1).2, (up_iff.1 b3).2⟩
end Go.Proofs.YtljnkicgahepfaaGreatDoor.N0
namespace Go.Proofs.YtljnkicgahepfaaGreatDoor.I1
open Go.ChangeShapes Go.WideShapes Go.ChangeAt Go.RowKit
open P1 (ret_bool quiet_bool)
open I0 (val vals)
def rec (k : Int) (v : Value) : Value := if k = 0 then .iface 340 v else if k = 1 then .iface 309 v else if k = 2 then .iface 311 v else .nilIface
set_option maxHeartbeats 1000000 in
theorem recordOf0 (o s : Int) (a : Option Addr) (c : Nat) (zs : List Int) (w : World) (hbig : zs.length ≤ 281474976710656) (hcap : zs.length ≤ c) (hR : P0.Row w a zs) :
  Calls Tryz.prog 292 #[val 0 o s a zs.length c] w fun e w' => e = .returned (.tuple #[.iface 340 (val 0 o s a zs.length c), .bool (I0.free o s zs)]) ∧ Below w.heap.size w w' := by
 have hB := K0.below_new w (.cells #[.int .i64 0, .int .i64 o, .int .i64 s, .slice a zs.length c] 143)
 have hR' := hR.alloc (.cells #[.int .i64 0, .int .i64 o, .int .i64 s, .slice a zs.length c] 143)
 go_enter Tryz.func292, Tryz.ntmps292
 go_wp2_with (go_at_call 372; refine (I0.freeSound 0 o s a c zs.length zs _ rfl).mono ?_; rintro e w' ⟨rfl, hb⟩)
 go_ret2
 exact ⟨rfl, hB.trans (hb.mono hB.size)⟩
set_option maxHeartbeats 1000000 in
theorem recordOf1 (o s : Int) (a : Option Addr) (c : Nat) (zs : List Int) (w : World) (hbig : zs.length ≤ 281474976710656) (hcap : zs.length ≤ c) (hR : P0.Row w a zs) :
  Calls Tryz.prog 292 #[val 1 o s a zs.length c] w fun e w' => e = .returned (.tuple #[.iface 309 (val 1 o s a zs.length c), .bool (I0.holds o s zs)]) ∧ Below w.heap.size w w' := by
 have hB := K0.below_new w (.cells #[.int .i64 1, .int .i64 o, .int .i64 s, .slice a zs.length c] 143)
 have hR' := hR.alloc (.cells #[.int .i64 1, .int .i64 o, .int .i64 s, .slice a zs.length c] 143)
 go_enter Tryz.func292, Tryz.ntmps292
 go_wp2_with (go_at_call 355; refine (I0.fileSound 1 o s a c zs _ hbig hcap hR').mono ?_; rintro e w' ⟨rfl, hb⟩)
 go_ret2
 exact ⟨rfl, hB.trans (hb.mono hB.size)⟩
set_option maxHeartbeats 1000000 in
theorem recordOf2 (o s : Int) (a : Option Addr) (c : Nat) (zs : List Int) (w : World) (hbig : zs.length ≤ 281474976710656) (hcap : zs.length ≤ c) (hR : P0.Row w a zs) :
  Calls Tryz.prog 292 #[val 2 o s a zs.length c] w fun e w' => e = .returned (.tuple #[.iface 311 (val 2 o s a zs.length c), .bool (I0.holds o s zs && decide (s % 16 = 0))]) ∧ Below w.heap.size w w' := by
 have hB := K0.below_new w (.cells #[.int .i64 2, .int .i64 o, .int .i64 s, .slice a zs.length c] 143)
 have hR' := hR.alloc (.cells #[.int .i64 2, .int .i64 o, .int .i64 s, .slice a zs.length c] 143)
 go_enter Tryz.func292, Tryz.ntmps292
 go_wp2_with (go_at_call 358; refine (I0.dirSound 2 o s a c zs _ hbig hcap hR').mono ?_; rintro e w' ⟨rfl, hb⟩)
 go_ret2
 exact ⟨rfl, hB.trans (hb.mono hB.size)⟩
theorem recordOfN (k o s : Int) (a : Option Addr) (c n : Nat) (w : World) (h0 : k ≠ 0) (h1 : k ≠ 1) (h2 : k ≠ 2) :
  Calls Tryz.prog 292 #[val k o s a n c] w fun e w' => e = .returned (.tuple #[.nilIface, .bool false]) ∧ Below w.heap.size w w' := by
 have hB := K0.below_new w (.cells #[.int .i64 k, .int .i64 o, .int .i64 s, .slice a n c] 143)
 have g0 : (k == 0) = false := by simpa using h0
 have g1 : (k == 1) = false := by simpa using h1
 have g2 : (k == 2) = false := by simpa using h2
 go_enter Tryz.func292, Tryz.ntmps292
 go_wp2
 go_ret2
 exact ⟨rfl, hB⟩
theorem recordOf (k o s : Int) (a : Option Addr) (c : Nat) (zs : List Int) (w : World) (hbig : zs.length ≤ 281474976710656) (hcap : zs.length ≤ c) (hR : P0.Row w a zs) :
  Calls Tryz.prog 292 #[val k o s a zs.length c] w fun e w' => e = .returned (.tuple #[rec k (val k o s a zs.length c), .bool (I0.ok k o s zs)]) ∧ Below w.heap.size w w' := by
 by_cases h0 : k = 0
 ·subst h0
  exact recordOf0 o s a c zs w hbig hcap hR
 ·by_cases h1 : k = 1
  ·subst h1
   exact recordOf1 o s a c zs w hbig hcap hR
  ·by_cases h2 : k = 2
   ·subst h2
    exact recordOf2 o s a c zs w hbig hcap hR
   ·have e1 : rec k (val k o s a zs.length c) = .nilIface := by rw [rec, if_neg h0, if_neg h1, if_neg h2]
    have e2 : I0.ok k o s zs = false := by rw [I0.ok, if_neg h0, if_neg h1, if_neg h2]
    rw [e1, e2]
    exact recordOfN k o s a c zs.length w h0 h1 h2
theorem specFree (o s : Int) (a : Option Addr) (c n : Nat) (zs : List Int) (w : World) (hn : n = zs.length) :
  Calls Tryz.prog 224 #[val 0 o s a n c] w fun e w' => e = .returned (.bool (I0.free o s zs)) ∧ Below w.heap.size w w' := by
 have hB := K0.below_new w (.cells #[.int .i64 0, .int .i64 o, .int .i64 s, .slice a n c] 143)
 by_cases h1 : o = 0
 ·subst h1
  by_cases h2 : s = 0
  ·subst h2
   by_cases h3 : n = 0
   ·have HR : Hid (I0.free 0 0 zs = true) := by rw [I0.free, ← hn, h3]; rfl
    subst h3
    clear hn
    go_enter Tryz.func224, Tryz.ntmps224
    go_wp2
    go_ret
    exact ⟨ret_bool HR.out.symm, hB⟩
   ·have HR : Hid (I0.free 0 0 zs = false) := by rw [I0.free, ← hn, decide_eq_false h3]; rfl
    have h3' : ((n : Int) == 0) = false := by simp; omega
    clear hn
    go_enter Tryz.func224, Tryz.ntmps224
    go_wp2
    go_ret
    exact ⟨ret_bool HR.out.symm, hB⟩
  ·have HR : Hid (I0.free 0 s zs = false) := by rw [I0.free, decide_eq_false h2, Bool.false_and, Bool.and_false]; rfl
   have h2' : (s == 0) = false := by simpa using h2
   clear hn
   go_enter Tryz.func224, Tryz.ntmps224
   go_wp2
   go_ret
   exact ⟨ret_bool HR.out.symm, hB⟩
 ·have HR : Hid (I0.free o s zs = false) := by rw [I0.free, decide_eq_false h1, Bool.false_and]; rfl
  have h1' : (o == 0) = false := by simpa using h1
  clear hn
  go_enter Tryz.func224, Tryz.ntmps224
  go_wp2
  go_ret
  exact ⟨ret_bool HR.out.symm, hB⟩
set_option maxHeartbeats 2000000 in
theorem specHolds (k o s : Int) (a : Option Addr) (c : Nat) (zs : List Int) (w : World) (hbig : zs.length ≤ 281474976710656) (hcap : zs.length ≤ c) (hR : P0.Row w a zs) (h0 : k ≠ 0) :
    Calls Tryz.prog 224 #[val k o s a zs.length c] w fun e w' => e = .returned (.bool (I0.ok k o s zs)) ∧ Below w.heap.size w w' := by
  have hB := K0.below_new w (.cells #[.int .i64 k, .int .i64 o, .int .i64 s, .slice a zs.length c] 143)
  have hR' := hR.alloc (.cells #[.int .i64 k, .int .i64 o, .int .i64 s, .slice a zs.length c] 143)
  have hP : Hid (∀ m, Calls Tryz.prog 114 #[.slice a zs.length c] ((w.alloc (.cells #[.int .i64 k, .int .i64 o, .int .i64 s, .slice a zs.length c] 143)).drewN m) fun e w' => e = .returned (.bool (P0.pagesOk zs)) ∧ ∃ n, w' = ((w.alloc (.cells #[.int .i64 k, .int .i64 o, .int .i64 s, .slice a zs.length c] 143)).drewN m).drewN n) := fun m => P1.l03Pages a c zs _ hbig hcap (hR'.drewN m)
  clear hR hR'
  have z0 : (k == 0) = false := by simpa using h0
  by_cases hS : B1.inB s 0 192 = true
  · obtain ⟨hs1, hs2⟩ := B1.inB_true hS
    by_cases hd : k = 2 ∧ ¬ s % 16 = 0
    · obtain ⟨rfl, h16⟩ := hd
      have h16' : (s % 16 != 0) = true := by simpa using h16
      have HR : Hid (I0.ok 2 o s zs = false) := by
        show (I0.holds o s zs && decide (s % 16 = 0)) = false
        rw [decide_eq_false h16, Bool.and_false]
      clear h16
      go_enter Tryz.func224, Tryz.ntmps224
      go_wp2
      go_ret
      exact ⟨ret_bool HR.out.symm, hB⟩
    · have HK : Hid (B1.inB k 1 2 = true → I0.ok k o s zs = I0.holds o s zs) := fun h => by
        obtain ⟨k1, k2⟩ := B1.inB_true h
        by_cases e1 : k = 1
        · subst e1; rfl
        · have e2 : k = 2 := by omega
          have h16 : s % 16 = 0 := Decidable.byContradiction fun h => hd ⟨e2, h⟩
          subst e2
          show (I0.holds o s zs && decide (s % 16 = 0)) = I0.holds o s zs
          rw [decide_eq_true h16, Bool.and_true]
      have HN : Hid (B1.inB k 1 2 = false → I0.ok k o s zs = false) := fun h => by
        have := B1.inB_false h
        rw [I0.ok, if_neg h0, if_neg (by omega), if_neg (by omega)]
      have hg : (k == 2) = false ∨ ((k == 2) = true ∧ (s % 16 != 0) = false) := by
        by_cases e2 : k = 2
        · right
          refine ⟨by simpa using e2, ?_⟩
          have h16 : s % 16 = 0 := Decidable.byContradiction fun h => hd ⟨e2, h⟩
          simpa using h16
        · left
          simpa using e2
      have HH : Hid (I0.holds o s zs = (B1.inB o 0 9 && (decide ((zs.length : Int) = P0.need s) && P0.pagesOk zs))) := by rw [I0.holds, hS, Bool.true_and]; rfl
      clear hd h0
      by_cases g0 : B1.inB k 1 2 = true
      · by_cases g1 : B1.inB o 0 9 = true
        · by_cases g2 : (zs.length : Int) = P0.need s
          · have g2' : ((zs.length : Int) == P0.need s) = true := by simpa using g2
            have HR : Hid (I0.ok k o s zs = P0.pagesOk zs) := by rw [HK.out g0, HH.out, g1, decide_eq_true g2]; rfl
            clear g2
            rcases hg with hg | ⟨hg, hg2⟩
            all_goals
              go_enter Tryz.func224, Tryz.ntmps224
              go_wp2
              go_quiet ((first | (go_at_call 44; first | exact quiet_bool (B1.l01In_any _ _ _ _) g0 | exact quiet_bool (B1.l01In_any _ _ _ _) g1 | exact quiet_bool (B1.l01In_any _ _ _ _) hS) | (go_at_call 231; exact Calls.quiet_of_same (P1.l03Need _ _ (by omega) (by omega))) | (go_at_call 114; exact Calls.quiet_of (hP.out _))))
              go_wp2
              go_ret
              exact ⟨ret_bool HR.out.symm, I0.below_alloc_drew _ _ _⟩
          · have g2' : ((zs.length : Int) == P0.need s) = false := by simpa using g2
            have HR : Hid (I0.ok k o s zs = false) := by rw [HK.out g0, HH.out, decide_eq_false g2, Bool.false_and, Bool.and_false]; rfl
            clear g2
            rcases hg with hg | ⟨hg, hg2⟩
            all_goals
              go_enter Tryz.func224, Tryz.ntmps224
              go_wp2
              go_quiet ((first | (go_at_call 44; first | exact quiet_bool (B1.l01In_any _ _ _ _) g0 | exact quiet_bool (B1.l01In_any _ _ _ _) g1 | exact quiet_bool (B1.l01In_any _ _ _ _) hS) | (go_at_call 231; exact Calls.quiet_of_same (P1.l03Need _ _ (by omega) (by omega)))))
              go_wp2
              go_ret
              exact ⟨ret_bool HR.out.symm, I0.below_alloc_drew _ _ _⟩
        · have g1' : B1.inB o 0 9 = false := by simpa using g1
          have HR : Hid (I0.ok k o s zs = false) := by rw [HK.out g0, HH.out, g1', Bool.false_and]; rfl
          rcases hg with hg | ⟨hg, hg2⟩
          all_goals
            go_enter Tryz.func224, Tryz.ntmps224
            go_wp2
            go_quiet ((go_at_call 44; first | exact quiet_bool (B1.l01In_any _ _ _ _) g0 | exact quiet_bool (B1.l01In_any _ _ _ _) g1'))
            go_wp2
            go_ret
            exact ⟨ret_bool HR.out.symm, I0.below_alloc_drew _ _ _⟩
      · have g0' : B1.inB k 1 2 = false := by simpa using g0
        have HR : Hid (I0.ok k o s zs = false) := HN.out g0'
        rcases hg with hg | ⟨hg, hg2⟩
        all_goals
          go_enter Tryz.func224, Tryz.ntmps224
          go_wp2
          go_quiet ((go_at_call 44; exact quiet_bool (B1.l01In_any _ _ _ _) g0'))
          go_wp2
          go_ret
          exact ⟨ret_bool HR.out.symm, I0.below_alloc_drew _ _ _⟩
  · have hS' : B1.inB s 0 192 = false := by simpa using hS
    have HR : Hid (I0.ok k o s zs = false) := by
      show I0.ok k o s zs = false
      have hf : I0.holds o s zs = false := by rw [I0.holds, hS', Bool.false_and, Bool.and_false]
      rw [I0.ok, if_neg h0]
      split
      · exact hf
      · split
        · rw [hf]; rfl
        · rfl
    clear hS
    have hg : (k == 2) = false ∨ (k == 2) = true := by cases (k == 2) <;> simp
    by_cases g0 : B1.inB k 1 2 = true
    · by_cases g1 : B1.inB o 0 9 = true
      · rcases hg with hg | hg
        all_goals
          go_enter Tryz.func224, Tryz.ntmps224
          go_wp2
          all_goals first
            | (go_ret
               exact ⟨ret_bool HR.out.symm, hB⟩)
            | (go_quiet ((go_at_call 44; first | exact quiet_bool (B1.l01In_any _ _ _ _) g0 | exact quiet_bool (B1.l01In_any _ _ _ _) g1 | exact quiet_bool (B1.l01In_any _ _ _ _) hS'))
               go_wp2
               go_ret
               exact ⟨ret_bool HR.out.symm, I0.below_alloc_drew _ _ _⟩)
      · have g1' : B1.inB o 0 9 = false := by simpa using g1
        rcases hg with hg | hg
        all_goals
          go_enter Tryz.func224, Tryz.ntmps224
          go_wp2
          all_goals first
            | (go_ret
               exact ⟨ret_bool HR.out.symm, hB⟩)
            | (go_quiet ((go_at_call 44; first | exact quiet_bool (B1.l01In_any _ _ _ _) g0 | exact quiet_bool (B1.l01In_any _ _ _ _) g1'))
               go_wp2
               go_ret
               exact ⟨ret_bool HR.out.symm, I0.below_alloc_drew _ _ _⟩)
    · have g0' : B1.inB k 1 2 = false := by simpa using g0
      rcases hg with hg | hg
      all_goals
        go_enter Tryz.func224, Tryz.ntmps224
        go_wp2
        all_goals first
          | (go_ret
             exact ⟨ret_bool HR.out.symm, hB⟩)
          | (go_quiet ((go_at_call 44; exact quiet_bool (B1.l01In_any _ _ _ _) g0'))
             go_wp2
             go_ret
             exact ⟨ret_bool HR.out.symm, I0.below_alloc_drew _ _ _⟩)
theorem spec_InodeOk (k o s : Int) (a : Option Addr) (c : Nat) (zs : List Int) (w : World) (hbig : zs.length ≤ 281474976710656) (hcap : zs.length ≤ c) (hR : P0.Row w a zs) :
  Calls Tryz.prog 224 #[val k o s a zs.length c] w fun e w' => e = .returned (.bool (I0.ok k o s zs)) ∧ Below w.heap.size w w' := by
 by_cases h0 : k = 0
 ·subst h0
  exact specFree o s a c zs.length zs w rfl
 ·exact specHolds k o s a c zs w hbig hcap hR h0
end Go.Proofs.YtljnkicgahepfaaGreatDoor.I1
namespace Go.Proofs.YtljnkicgahepfaaGreatDoor.I2
open Go.ChangeShapes Go.WideShapes Go.ChangeAt Go.RowKit Go.Joins
open P1 (ret_bool quiet_bool)
open I0 (val vals)
section Args
variable {H : Type} {enc : TypeId × Value → H} {w : World}
theorem take_row {w : World} {b off : Nat} {zs : List Int} {n : Nat} (hb : b < w.heap.size) (hn : n ≤ zs.length) (hc : ∀ j, j < zs.length → w.cell? ⟨b, off + j, none⟩ = some (.int .i64 (zs.getD j 0))) : P0.Row w (some ⟨b, off, none⟩) (zs.take n) := by
 refine Or.inr ⟨b, off, rfl, hb, fun j hj => ?_⟩
 have hj' : j < n := by simp at hj; omega
 rw [hc j (by omega)]
 congr 2
 simp [List.getD, hj']
theorem cell_lt {w : World} {a : Addr} {v : Value} (h : w.cell? a = some v) : a.block < w.heap.size := by
 unfold World.cell? at h
 cases hb : w.heap[a.block]? with
 | none => simp [hb] at h
 | some o => exact (Array.getElem?_eq_some_iff.1 hb).1
theorem open_row {fuel : Nat} {v : Value} {x : DataW H × List MemPlace} (h : DataW.trod enc Tryz.prog w 0 (fun _ => true) true fuel 29 [v] = some x) :
  ∃ (a : Option Addr) (c : Nat) (zs : List Int), v = .slice a zs.length c ∧ zs.length ≤ c ∧ c ≤ maxLen ∧ P0.Row w a zs := by
 rcases open_ints Tryz.underlying29 Tryz.underlying3 (by kernel_rfl) h with ⟨hcs, _⟩ | ⟨a, len, cap, zs, hcs, _, hl, hm, hz, _, hcell, _⟩
 ·simp at hcs
  exact ⟨none, 0, [], hcs, Nat.le_refl _, Nat.zero_le _, Or.inl rfl⟩
 ·simp at hcs hz
  have hlen : (zs.take len).length = len := by simp; omega
  by_cases h0 : zs.length = 0
  ·have hl0 : len = 0 := by omega
   refine ⟨some a, cap, [], ?_, Nat.zero_le _, hm, Or.inl rfl⟩
   rw [hcs, hl0]
   rfl
  ·obtain ⟨b, off, rfl, hc⟩ := ints_at hcell (by omega)
   have hb : b < w.heap.size := cell_lt (hc 0 (by omega))
   exact ⟨some ⟨b, off, none⟩, cap, zs.take len, by rw [hcs, hlen], by omega, hm, take_row hb (by omega) hc⟩
end Args
def left (l : Int) (n : Nat) : Int := if l - n < 0 then -1 else l - n
theorem szIntS (a : Option Addr) (c n : Nat) (l : Int) (w : World) (hn : n ≤ maxLen) (h0 : 0 ≤ l) (h1 : l ≤ 1048576) :
  Calls Tryz.prog 208 #[.slice a n c, .int .i64 l] w fun e w' => e = .returned (.int .i64 (left l n)) ∧ w' = w := by
 unfold maxLen at hn
 by_cases h : l - (n : Int) < 0
 ·have e : left l n = -1 := if_pos h
  rw [e]
  go_enter Tryz.func208, Tryz.ntmps208
  go_wp2
  go_ret
  exact ⟨rfl, rfl⟩
 ·have e : left l n = l - (n : Int) := if_neg h
  rw [e]
  go_enter Tryz.func208, Tryz.ntmps208
  go_wp2
  go_ret
  exact ⟨rfl, rfl⟩
abbrev ints (zs : List Int) : List Value := zs.map fun z => .int .i64 z
theorem row_of_blk {W : World} {g : Nat} {zs : List Int} (h : K0.Blk g (ints zs) W) : P0.Row W (some ⟨g, 0, none⟩) zs := by
 refine Or.inr ⟨g, 0, rfl, h.lt, fun j hj => ?_⟩
 rw [Nat.zero_add, h.cell j (by simpa using hj)]
 simp [List.getD, hj]
def fill (zs : List Int) (k : Nat) : List Value := ints (zs.take k) ++ List.replicate (zs.length - k) (.int .i64 0)
theorem fill_zero (zs : List Int) : fill zs 0 = List.replicate zs.length (.int .i64 0) := by simp [fill]
theorem fill_all (zs : List Int) : fill zs zs.length = ints zs := by simp [fill]
theorem fill_length (zs : List Int) (k : Nat) (h : k ≤ zs.length) : (fill zs k).length = zs.length := by simp [fill]; omega
theorem fill_succ (zs : List Int) (k : Nat) (h : k < zs.length) : (fill zs k).set k (.int .i64 (zs.getD k 0)) = fill zs (k + 1) := by
 unfold fill
 have e : zs.length - k = (zs.length - (k + 1)) + 1 := by omega
 rw [e, List.replicate_succ, List.take_succ_eq_append_getElem h, ints, ints, List.map_append, List.set_append_right _ _ (by simp; omega)]
 have hm : min k zs.length = k := by omega
 simp [hm, List.getD, h]
theorem info3 : (Tryz.prog.info? 3).map (fun i => (i.zero, i.size, i.bytes)) = some (some (.int .i64 0), 1, 8) := by kernel_rfl
theorem make_ints (n : Nat) (hn : n ≤ 1048576) (W : World) : (Instr.makeSlice 29 (.int .i64 (n : Int)) (.int .i64 (n : Int))).run Tryz.prog W = .ok (.slice (some ⟨W.heap.size, 0, none⟩) n n) (W.alloc (.cells (List.replicate n (Value.int .i64 0)).toArray 3)) := by
 obtain ⟨i0, hi, hz0, hz1, hz2⟩ := info_parts info3
 have h := run_make (P := Tryz.prog) W 29 3 i0 (.int .i64 0) Tryz.underlying29 hi hz0 .i64 .i64 (n : Int) (n : Int) (by omega) (by omega) (by rw [hz2]; omega) (by omega)
 have e : madeCells (Value.int .i64 0).cells (n * i0.size) = (List.replicate n (Value.int .i64 0)).toArray := by
  apply Array.toList_inj.1
  rw [show (Value.int .i64 0).cells = #[Value.int .i64 0] from rfl, toList_madeCells_one, hz1]
  simp
 rw [show ((n : Int)).toNat = n by omega, e] at h
 exact h
set_option maxHeartbeats 1000000 in
theorem toIntS (a : Option Addr) (c : Nat) (zs : List Int) (w : World) (hn : zs.length ≤ 1048576) (hR : P0.Row w a zs) :
  Calls Tryz.prog 30 #[.slice a zs.length c] w fun e w' => ∃ g, e = .returned (.slice (some ⟨g, 0, none⟩) zs.length zs.length) ∧ w.heap.size ≤ g ∧ K0.Blk g (ints zs) w' ∧ Below w.heap.size w w' := by
 have hmk := make_ints zs.length hn
 have hb0 := K0.blk_new (List.replicate zs.length (Value.int .i64 0)) w 3
 have hl0 := K0.below_new w (.cells (List.replicate zs.length (Value.int .i64 0)).toArray 3)
 obtain ⟨W0, hW0⟩ : ∃ W0, w.alloc (.cells (List.replicate zs.length (Value.int .i64 0)).toArray 3) = W0 := ⟨_, rfl⟩
 have hmk0 := hmk w
 rw [hW0] at hb0 hl0 hmk0
 clear hmk hW0
 go_enter Tryz.func30, Tryz.ntmps30
 go_wp2
 go_loopw [4] (fun i w' => ∃ k : Nat, k ≤ zs.length ∧ i = .int .i64 k ∧ K0.Blk w.heap.size (fill zs k) w' ∧ Below w.heap.size w w') (fun i _ => zs.length - (intOf i).toNat)
 case atStart => exact ⟨0, Nat.zero_le _, rfl, by rw [fill_zero]; exact hb0, hl0⟩
 case round =>
  obtain ⟨k, hk, rfl, hblk, hbel⟩ := hrel
  by_cases hlt : k < zs.length
  ·obtain ⟨b, off, rfl, hb, hc⟩ := (hR.below hbel).get hlt
   have x1 := hc k hlt
   have x2 := hblk.cell k (by rw [fill_length _ _ hk]; exact hlt)
   have x3 := hblk.free k (by rw [fill_length _ _ hk]; exact hlt)
   obtain ⟨u, x4⟩ : ∃ u, wr.cell? ⟨w.heap.size, k, none⟩ = some u := ⟨_, x2⟩
   have HB : Hid (K0.Blk w.heap.size (fill zs (k + 1)) (wr.setCell ⟨w.heap.size, k, none⟩ (.int .i64 (zs.getD k 0)))) := by rw [← fill_succ zs k hlt]; exact hblk.set k _
   obtain ⟨z, ez⟩ : ∃ z, zs.getD k 0 = z := ⟨_, rfl⟩
   rw [ez] at x1 HB
   have e1 : (0 : Int) ≤ (k : Int) := by omega
   have e2 : (k : Int) < (zs.length : Int) := by omega
   clear x2 ez hc hblk hR hb0 hl0 hmk0
   go_wp2
   go_roundw
   case rel => exact ⟨k + 1, by omega, by go_num, HB.out, hbel.setCell (p := ⟨w.heap.size, k, none⟩) (Nat.le_refl _) _⟩
   case measure => simp [intOf]; omega
  ·obtain rfl : k = zs.length := by omega
   rw [fill_all] at hblk
   clear hR hb0 hl0 hmk0
   go_wp2
   go_ret
   exact ⟨_, rfl, Nat.le_refl _, hblk, hbel⟩
theorem eqIntS (a1 a2 : Option Addr) (c1 c2 : Nat) (zs : List Int) (w : World) (hn : zs.length ≤ 281474976710656) (h1 : P0.Row w a1 zs) (h2 : P0.Row w a2 zs) :
  Calls Tryz.prog 25 #[.slice a1 zs.length c1, .slice a2 zs.length c2] w fun e w' => e = .returned (.bool true) ∧ ∃ n, w' = w.drewN n := by
 go_enter Tryz.func25, Tryz.ntmps25
 go_wp2
 go_loopw [5] (fun i w' => ∃ k n : Nat, k ≤ zs.length ∧ w' = w.drewN n ∧ i = .int .i64 k) (fun i _ => zs.length - (intOf i).toNat)
 case atStart => exact ⟨0, 0, Nat.zero_le _, rfl, rfl⟩
 case round =>
  obtain ⟨k, n, hk, rfl, rfl⟩ := hrel
  by_cases hlt : k < zs.length
  ·have e1 : (0 : Int) ≤ (k : Int) := by omega
   have e2 : (k : Int) < (zs.length : Int) := by omega
   obtain ⟨b1, off1, rfl, hb1, hc1⟩ := h1.get hlt
   obtain ⟨b2, off2, rfl, hb2, hc2⟩ := h2.get hlt
   have x1 := hc1 k hlt
   have x2 := hc2 k hlt
   obtain ⟨z, ez⟩ : ∃ z, zs.getD k 0 = z := ⟨_, rfl⟩
   rw [ez] at x1 x2
   clear ez hc1 hc2 h1 h2
   go_wp2
   go_quiet (fail)
   go_wp2
   go_roundw
   case rel => exact ⟨k + 1, _, by omega, rfl, by go_num⟩
   case measure => simp [intOf]; omega
  ·clear h1 h2
   go_wp2
   go_ret
   exact ⟨rfl, _, rfl⟩
structure Three (w : World) (k o s : Int) (a : Option Addr) (n c : Nat) (W : World) : Prop where
 arg : K0.Blk w.heap.size (vals k o s a n c) W
 res : K0.Blk (w.heap.size + 1) (vals 0 0 0 none 0 0) W
 tmp : K0.Blk (w.heap.size + 2) (vals k o s none 0 0) W
 bel : Below w.heap.size w W
theorem Three.below {w W W' : World} {k o s : Int} {a : Option Addr} {n c : Nat} (h : Three w k o s a n c W) (hb : Below W.heap.size W W') : Three w k o s a n c W' :=
 ⟨h.arg.below hb, h.res.below hb, h.tmp.below hb, h.bel.trans (hb.mono (Nat.le_of_lt h.arg.lt))⟩
end Go.Proofs.YtljnkicgahepfaaGreatDoor.I2
