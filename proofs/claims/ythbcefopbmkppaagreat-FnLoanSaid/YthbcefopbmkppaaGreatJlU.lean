/- Joined texts: plain facts and contracts. -/
import Derived.Test.YthbcefopbmkppaaGreatJlG
import Derived.Test.YthbcefopbmkppaaGreatJlA
import Derived.Test.YthbcefopbmkppaaGreatRows
import Derived.ProofKit
import Derived.Lib.BufferWrite
import Derived.Maps.AppendAt
import Derived.Test.YthbcefopbmkppaaGreatJlI
import Derived.Maps.OwnSet
import Derived.Test.YthbcefopbmkppaaGreatJlT
import Derived.Deep.RegionLaw
set_option linter.unusedVariables false
set_option linter.unusedSimpArgs false
set_option maxRecDepth 10000
namespace Go.Proofs.YthbcefopbmkppaaGreat.TR
open T0 (Ent)
def flat (E : Nat → List Ent) : Nat → List (Nat × Ent)
 | 0 => []
 | i + 1 => flat E i ++ (E i).map fun e => (i, e)
theorem flat_mem {E : Nat → List Ent} {d : Nat} {e : Ent} : ∀ {n : Nat}, (d, e) ∈ flat E n ↔ d < n ∧ e ∈ E d
 | 0 => by simp [flat]
 | n + 1 => by
  rw [flat, List.mem_append, flat_mem]
  simp only [List.mem_map, Prod.mk.injEq]
  constructor
  ·rintro (⟨h1, h2⟩ | ⟨a, h1, rfl, rfl⟩)
   ·exact ⟨by omega, h2⟩
   ·exact ⟨by omega, h1⟩
  ·rintro ⟨h1, h2⟩
   by_cases h : d = n
   ·subst h
    exact Or.inr ⟨e, h2, rfl, rfl⟩
   ·exact Or.inl ⟨by omega, h2⟩
def own (l : List (Nat × Ent)) (x : Int) : List (Nat × Ent) := l.filter fun p => p.2.1 == x
def par (l : List (Nat × Ent)) (x : Int) : Int := match own l x with
 | [] => -1
 | [p] => p.1
 | _ => -2
theorem par_nil (l : List (Nat × Ent)) (x : Int) : par l x = -1 ↔ own l x = [] := by
 unfold par
 split
 ·simp [*]
 ·rename_i p h
  simp [h]
 ·rename_i h1 h2
  constructor
  ·intro h
   omega
  ·intro h
   exact absurd h h1
theorem par_ge (l : List (Nat × Ent)) (x : Int) : par l x = -1 ∨ par l x = -2 ∨ ∃ p, own l x = [p] ∧ par l x = p.1 := by
 unfold par
 split
 ·exact Or.inl rfl
 ·exact Or.inr (Or.inr ⟨_, by assumption, rfl⟩)
 ·exact Or.inr (Or.inl rfl)
def root (p : Int → Int) : Nat → Int → Bool
 | 0, i => i == 0
 | n + 1, i => if i = 0 then true else if i < 0 then false else root p n (p i)
theorem root_zero (p : Int → Int) (n : Nat) : root p n 0 = true := by cases n <;> simp [root]
theorem root_neg (p : Int → Int) (n : Nat) (i : Int) (h : i < 0) : root p n i = false := by
 cases n with
 | zero => simp [root]; omega
 | succ n => rw [root, if_neg (by omega), if_pos h]
theorem root_pos (p : Int → Int) (n : Nat) (i : Int) (h : 0 < i) : root p (n + 1) i = root p n (p i) := by rw [root, if_neg (by omega), if_neg (by omega)]
def oneOk (E : Nat → List Ent) (K : Nat → Int) (i : Nat) : Bool := ((K i == 0) == (par (flat E 8) i == -1)) && (K i == 0 || root (par (flat E 8)) 8 i)
def treeOk (E : Nat → List Ent) (K : Nat → Int) : Bool := (List.range 7).all fun j => oneOk E K (j + 1)
theorem treeOk_iff {E : Nat → List Ent} {K : Nat → Int} : treeOk E K = true ↔ ∀ i, 0 < i → i < 8 → oneOk E K i = true := by
 unfold treeOk
 rw [List.all_eq_true]
 constructor
 ·intro h i h0 h8
  have := h (i - 1) (List.mem_range.2 (by omega))
  rwa [show i - 1 + 1 = i by omega] at this
 ·intro h j hj
  have := List.mem_range.1 hj
  exact h _ (by omega) (by omega)
def once (F : Nat → Nat) (K : Nat → Int) (i : Nat) : Bool := decide (F i = if K i = 0 then 0 else 1)
def onceAll (F : Nat → Nat) (K : Nat → Int) : Bool := (List.range 7).all fun j => once F K (j + 1)
theorem onceAll_iff {F : Nat → Nat} {K : Nat → Int} : onceAll F K = true ↔ ∀ i, 0 < i → i < 8 → once F K i = true := by
 unfold onceAll
 rw [List.all_eq_true]
 constructor
 ·intro h i h0 h8
  have := h (i - 1) (List.mem_range.2 (by omega))
  rwa [show i - 1 + 1 = i by omega] at this
 ·intro h j hj
  have := List.mem_range.1 hj
  exact h _ (by omega) (by omega)
def sep (d : Nat) : ByteArray := if d = 0 then ⟨#[]⟩ else ⟨#[47]⟩
def At (E : Nat → List Ent) : Nat → Nat → ByteArray → Prop
 | x, 0, p => x = 0 ∧ p = ⟨#[47]⟩
 | x, k + 1, p => ∃ d q nm, At E d k q ∧ ((x : Int), nm) ∈ E d ∧ p = q ++ sep d ++ nm
theorem At.zero {E : Nat → List Ent} : At E 0 0 ⟨#[47]⟩ := ⟨rfl, rfl⟩
theorem At.down {E : Nat → List Ent} {d k : Nat} {q : ByteArray} {x : Nat} {nm : ByteArray} (h : At E d k q) (hm : ((x : Int), nm) ∈ E d) : At E x (k + 1) (q ++ sep d ++ nm) := ⟨d, q, nm, h, hm, rfl⟩
theorem At.or {E : Nat → List Ent} {x : Nat} {p : ByteArray} : ∀ {k : Nat}, At E x k p → (x = 0 ∧ k = 0 ∧ p = ⟨#[47]⟩) ∨ ∃ d k' q nm, k = k' + 1 ∧ At E d k' q ∧ ((x : Int), nm) ∈ E d ∧ p = q ++ sep d ++ nm
 | 0, h => Or.inl ⟨h.1, rfl, h.2⟩
 | k + 1, ⟨d, q, nm, h, hm, e⟩ => Or.inr ⟨d, k, q, nm, rfl, h, hm, e⟩
theorem At.ind {E : Nat → List Ent} {motive : (x k : Nat) → (p : ByteArray) → At E x k p → Prop} (zero : motive 0 0 ⟨#[47]⟩ At.zero) (down : ∀ {d k : Nat} {q : ByteArray} {x : Nat} {nm : ByteArray} (hd : At E d k q) (hm : ((x : Int), nm) ∈ E d), motive d k q hd → motive x (k + 1) (q ++ sep d ++ nm) (At.down hd hm)) : ∀ {x k : Nat} {p : ByteArray} (h : At E x k p), motive x k p h
 | x, 0, p, h => by
  obtain ⟨rfl, rfl⟩ := h
  exact zero
 | x, k + 1, p, h => by
  obtain ⟨d, q, nm, hd, hm, rfl⟩ := h
  exact down hd hm (At.ind zero down hd)
def onS (S : List (Nat × Nat)) (d : Nat) : Nat := (S.filter fun q => q.1 == d).length
def metIn (S : List (Nat × Nat)) (d : Nat) : Bool := S.any fun q => q.1 == d
def heads (l : List Ent) (x : Nat) : Nat := (l.filter fun e => e.1 == (x : Int)).length
def part (E : Nat → List Ent) (S : List (Nat × Nat)) (x : Nat) : Nat := (S.map fun q => heads ((E q.1).take q.2) x).sum
def sumC (E : Nat → List Ent) (c : Nat → Nat) (x : Nat) : Nat := ((own (flat E 8) x).map fun p => c p.1).sum
def Chain (E : Nat → List Ent) : List (Nat × Nat) → Prop
 | [] => True
 | [q] => q.1 = 0
 | q :: q' :: r => (∃ nm, ((q.1 : Int), nm) ∈ E q'.1) ∧ 0 < q.1 ∧ Chain E (q' :: r)
structure Inv (E : Nat → List Ent) (K : Nat → Int) (S : List (Nat × Nat)) (F : Nat → Nat) (P : Nat → ByteArray) : Prop where
 lt : ∀ q ∈ S, q.1 < 8 ∧ q.2 ≤ (E q.1).length
 nodup : (S.map (·.1)).Nodup
 chain : Chain E S
 cnt : ∃ c : Nat → Nat, (∀ x : Nat, F x = sumC E c x + part E S x) ∧ (∀ d, K d = 2 → 0 < d → c d + onS S d = F d) ∧ c 0 + onS S 0 = 1
 at_ : ∀ x, 0 < F x → ∃ k, k ≤ 8 ∧ At E x k (P x)
 atS : ∀ S1 q S2, S = S1 ++ q :: S2 → At E q.1 S2.length (P q.1)
 zero : P 0 = ⟨#[47]⟩
variable {E : Nat → List Ent} {K : Nat → Int} {S R : List (Nat × Nat)} {F : Nat → Nat} {P : Nat → ByteArray} {d n x : Nat}
theorem Inv.len (h : Inv E K S F P) : S.length ≤ 8 := by
 have := List.Nodup.length_le_of_subset (l₂ := List.range 8) h.nodup (fun y hy => by
  obtain ⟨q, hq, rfl⟩ := List.mem_map.1 hy
  exact List.mem_range.2 (h.lt q hq).1)
 simpa using this
theorem heads_step (l : List Ent) (k y : Nat) (h : k < l.length) : heads (l.take (k + 1)) y = heads (l.take k) y + if (T0.ent l k).1 = (y : Int) then 1 else 0 := by
 unfold heads
 rw [List.take_succ_eq_append_getElem h, List.filter_append, List.length_append, T0.ent_get _ _ h]
 by_cases e : l[k].1 = (y : Int) <;> simp [e]
theorem metIn_no (h : metIn S x = false) : ∀ q ∈ S, q.1 ≠ x := by
 intro q hq e
 have := List.any_eq_false.1 h q hq
 simp [e] at this
def upF (F : Nat → Nat) (x : Nat) : Nat → Nat := fun y => if y = x then F y + 1 else F y
def upP (P : Nat → ByteArray) (x : Nat) (p : ByteArray) : Nat → ByteArray := fun y => if y = x then p else P y
theorem mem_ent {l : List Ent} {k : Nat} (h : k < l.length) : T0.ent l k ∈ l := by
 rw [T0.ent_get _ _ h]
 exact List.getElem_mem h
theorem suffix_cons {a b : Nat × Nat} {R S1 S2 : List (Nat × Nat)} {q : Nat × Nat} (e : a :: R = S1 ++ q :: S2) : (S1 = [] ∧ q = a ∧ S2 = R) ∨ ∃ S3, S1 = a :: S3 ∧ b :: R = (b :: S3) ++ q :: S2 := by
 rcases S1 with _ | ⟨y, S3⟩
 ·simp only [List.nil_append, List.cons.injEq] at e
  exact Or.inl ⟨rfl, e.1.symm, e.2.symm⟩
 ·simp only [List.cons_append, List.cons.injEq] at e
  obtain ⟨rfl, rfl⟩ := e
  exact Or.inr ⟨S3, rfl, rfl⟩
theorem chain_top {a b : Nat × Nat} (e : a.1 = b.1) (h : Chain E (a :: R)) : Chain E (b :: R) := by
 cases R with
 | nil =>
  have : a.1 = 0 := h
  exact (e.symm.trans this : b.1 = 0)
 | cons q r =>
  obtain ⟨h1, h2, h3⟩ := h
  exact ⟨e ▸ h1, e ▸ h2, h3⟩
theorem step_at (h : Inv E K ((d, n) :: R) F P) (hn : n < (E d).length) (hx : (T0.ent (E d) n).1 = (x : Int)) (hm : metIn ((d, n) :: R) x = false) :
  At E x (R.length + 1) (P d ++ sep d ++ (T0.ent (E d) n).2) := by
 refine At.down (h.atS [] (d, n) R rfl) ?_
 have := mem_ent hn
 rw [← hx]
 exact this
theorem step_old (h : Inv E K ((d, n) :: R) F P) (hm : metIn ((d, n) :: R) x = false) (p : ByteArray) (S1 : List (Nat × Nat)) (q : Nat × Nat) (S2 : List (Nat × Nat)) (e : (d, n + 1) :: R = S1 ++ q :: S2) : At E q.1 S2.length (upP P x p q.1) := by
 have hne := metIn_no hm
 rcases suffix_cons (b := (d, n)) e with ⟨rfl, rfl, rfl⟩ | ⟨S3, rfl, e'⟩
 ·have h1 := hne (d, n) (by simp)
  have h2 := h.atS [] (d, n) S2 rfl
  rw [upP, if_neg h1]
  exact h2
 ·have h1 := hne q (by rw [e']; simp)
  have h2 := h.atS _ q S2 e'
  rw [upP, if_neg h1]
  exact h2
theorem step_cnt (h : Inv E K ((d, n) :: R) F P) (hn : n < (E d).length) (hx : (T0.ent (E d) n).1 = (x : Int)) (c : Nat → Nat) (hc : ∀ y : Nat, F y = sumC E c y + part E ((d, n) :: R) y) (y : Nat) : upF F x y = sumC E c y + part E ((d, n + 1) :: R) y := by
 have e := hc y
 have hs := heads_step (E d) n y hn
 rw [hx] at hs
 simp only [part, List.map_cons, List.sum_cons] at e ⊢
 rw [hs, upF]
 by_cases hy : y = x
 ·subst hy
  rw [if_pos rfl, if_pos rfl]
  omega
 ·have : ¬ ((x : Int) = (y : Int)) := by omega
  rw [if_neg hy, if_neg this]
  omega
theorem step_found (h : Inv E K ((d, n) :: R) F P) (hn : n < (E d).length) (hx : (T0.ent (E d) n).1 = (x : Int)) (hm : metIn ((d, n) :: R) x = false) : ∀ y, 0 < upF F x y → ∃ k, k ≤ 8 ∧ At E y k (upP P x (P d ++ sep d ++ (T0.ent (E d) n).2) y) := by
 intro y hy
 by_cases e : y = x
 ·subst e
  refine ⟨R.length + 1, by have := h.len; simpa using this, ?_⟩
  rw [upP, if_pos rfl]
  exact step_at h hn hx hm
 ·rw [upF, if_neg e] at hy
  rw [upP, if_neg e]
  exact h.at_ y hy
theorem Inv.dir (h : Inv E K ((d, n) :: R) F P) (hn : n < (E d).length) (hx : (T0.ent (E d) n).1 = (x : Int)) (hm : metIn ((d, n) :: R) x = false) (hK : K x = 2) (h0 : 0 < x) (h8 : x < 8) :
  Inv E K ((x, 0) :: (d, n + 1) :: R) (upF F x) (upP P x (P d ++ sep d ++ (T0.ent (E d) n).2)) := by
 obtain ⟨c, h1, h2, h3⟩ := h.cnt
 have hne := metIn_no hm
 refine ⟨fun q hq => ?_, ?_, ⟨⟨(T0.ent (E d) n).2, ?_⟩, h0, chain_top (a := (d, n)) rfl h.chain⟩, ⟨c, fun y => ?_, fun d' hd hp => ?_, ?_⟩, step_found h hn hx hm, fun S1 q S2 e => ?_, by rw [upP, if_neg (by omega)]; exact h.zero⟩
 ·rcases List.mem_cons.1 hq with rfl | hq
  ·exact ⟨h8, Nat.zero_le _⟩
  ·rcases List.mem_cons.1 hq with rfl | hq
   ·exact ⟨(h.lt (d, n) (by simp)).1, hn⟩
   ·exact h.lt q (List.mem_cons_of_mem _ hq)
 ·rw [List.map_cons, List.nodup_cons]
  refine ⟨fun hmem => ?_, h.nodup⟩
  have hmem' : x ∈ ((d, n) :: R).map (·.1) := hmem
  obtain ⟨q, hq, e⟩ := List.mem_map.1 hmem'
  exact hne q hq e
 ·have := mem_ent hn
  rw [← hx]
  exact this
 ·rw [step_cnt h hn hx c h1 y]
  simp [part, heads]
 ·have ho : onS ((x, 0) :: (d, n + 1) :: R) d' = (if x = d' then 1 else 0) + onS ((d, n) :: R) d' := by
   unfold onS
   by_cases e1 : x = d' <;> by_cases e2 : d = d' <;> simp [List.filter_cons, e1, e2] <;> omega
  rw [ho, upF]
  have := h2 d' hd hp
  by_cases e : d' = x
  ·rw [if_pos e, if_pos e.symm]
   omega
  ·rw [if_neg e, if_neg (fun e' => e e'.symm)]
   omega
 ·have ho : onS ((x, 0) :: (d, n + 1) :: R) 0 = onS ((d, n) :: R) 0 := by
   have : ¬ (x = 0) := by omega
   unfold onS
   by_cases e2 : d = 0 <;> simp [List.filter_cons, this, e2]
  rw [ho]
  exact h3
 ·rcases S1 with _ | ⟨y, S3⟩
  ·simp only [List.nil_append, List.cons.injEq] at e
   obtain ⟨rfl, rfl⟩ := e
   simp only [List.length_cons]
   rw [upP, if_pos rfl]
   exact step_at h hn hx hm
  ·simp only [List.cons_append, List.cons.injEq] at e
   obtain ⟨rfl, e⟩ := e
   exact step_old h hm _ S3 q S2 e
theorem heads_flat (d y : Nat) : ∀ m, ((own (flat E m) y).filter fun p => p.1 == d).length = if d < m then heads (E d) y else 0
 | 0 => by simp [flat, own]
 | m + 1 => by
  have ih := heads_flat d y m
  unfold own at ih ⊢
  rw [flat, List.filter_append, List.filter_append, List.length_append, ih]
  have e : ((((E m).map fun e => (m, e)).filter fun p => p.2.1 == (y : Int)).filter fun p => p.1 == d).length = if m = d then heads (E d) y else 0 := by
   rw [List.filter_map, List.filter_map, List.length_map]
   by_cases e : m = d
   ·subst e
    rw [if_pos rfl]
    unfold heads
    rw [List.filter_filter]
    simp [Function.comp_def]
   ·rw [if_neg e, List.length_eq_zero_iff, List.filter_eq_nil_iff]
    intro a _
    simpa [Function.comp_def] using e
  rw [e]
  by_cases h1 : d < m
  ·rw [if_pos h1, if_neg (by omega), if_pos (by omega)]
   rfl
  ·by_cases h2 : m = d
   ·rw [if_neg h1, if_pos h2, if_pos (by omega)]
    omega
   ·rw [if_neg h1, if_neg h2, if_neg (by omega)]
theorem sum_up (c : Nat → Nat) (d : Nat) (l : List (Nat × Ent)) : (l.map fun p => (fun i => if i = d then c i + 1 else c i) p.1).sum = (l.map fun p => c p.1).sum + (l.filter fun p => p.1 == d).length := by
 induction l with
 | nil => rfl
 | cons a l ih =>
  simp only [List.map_cons, List.sum_cons] at ih ⊢
  rw [ih, List.filter_cons]
  by_cases e : a.1 = d
  ·simp [e]
   omega
  ·simp [e]
   omega
theorem sumC_up (c : Nat → Nat) (hd : d < 8) (y : Nat) : sumC E (fun i => if i = d then c i + 1 else c i) y = sumC E c y + heads (E d) y := by
 have := sum_up c d (own (flat E 8) y)
 rw [heads_flat, if_pos hd] at this
 exact this
theorem Inv.pop (h : Inv E K ((d, n) :: R) F P) (hn : ¬ n < (E d).length) : Inv E K R F P := by
 obtain ⟨c, h1, h2, h3⟩ := h.cnt
 have hl := h.lt (d, n) (by simp)
 have hnd : d ∉ R.map (·.1) ∧ (R.map (·.1)).Nodup := by
  have := h.nodup
  rw [List.map_cons, List.nodup_cons] at this
  exact this
 have h0 : onS R d = 0 := by
  unfold onS
  rw [List.length_eq_zero_iff, List.filter_eq_nil_iff]
  intro q hq e
  exact hnd.1 (List.mem_map.2 ⟨q, hq, by simpa using e⟩)
 have hon : ∀ d', onS ((d, n) :: R) d' = (if d' = d then 1 else 0) + onS R d' := by
  intro d'
  unfold onS
  by_cases e : d' = d
  ·subst e
   simp
   omega
  ·have : ¬ (d = d') := fun e' => e e'.symm
   simp [List.filter_cons, e, this]
 refine ⟨fun q hq => h.lt q (List.mem_cons_of_mem _ hq), hnd.2, ?_, ⟨fun i => if i = d then c i + 1 else c i, fun y => ?_, fun d' hd hp => ?_, ?_⟩, h.at_, fun S1 q S2 e => h.atS ((d, n) :: S1) q S2 (by rw [e]; rfl), h.zero⟩
 ·cases R with
  | nil => exact trivial
  | cons q r => exact h.chain.2.2
 ·have e := h1 y
  rw [sumC_up c hl.1]
  simp only [part, List.map_cons, List.sum_cons] at e ⊢
  rw [List.take_of_length_le (by omega)] at e
  omega
 ·have := h2 d' hd hp
  rw [hon] at this
  show (if d' = d then c d' + 1 else c d') + onS R d' = F d'
  by_cases e : d' = d
  ·rw [if_pos e] at this ⊢
   omega
  ·rw [if_neg e] at this ⊢
   omega
 ·rw [hon] at h3
  show (if 0 = d then c 0 + 1 else c 0) + onS R 0 = 1
  by_cases e : 0 = d
  ·rw [if_pos e] at h3 ⊢
   omega
  ·rw [if_neg e] at h3 ⊢
   omega
structure Sane (E : Nat → List Ent) (K : Nat → Int) : Prop where
 dir : ∀ d, E d ≠ [] → K d = 2
 ino : ∀ d e, e ∈ E d → 0 < e.1 ∧ e.1 < 8
theorem sum_one {c : Nat → Nat} {l : List (Nat × Ent)} (h : ∀ p ∈ l, c p.1 = 1) : (l.map fun p => c p.1).sum = l.length := by
 induction l with
 | nil => rfl
 | cons a l ih =>
  simp only [List.map_cons, List.sum_cons, List.length_cons]
  rw [h a (by simp), ih fun p hp => h p (List.mem_cons_of_mem _ hp)]
  omega
theorem par_one {x : Int} {p : Nat × Ent} {l : List (Nat × Ent)} (h : (own l x).length = 1) (hp : p ∈ l) (hx : p.2.1 = x) : par l x = p.1 := by
 have hm : p ∈ own l x := List.mem_filter.2 ⟨hp, by simpa using hx⟩
 rcases ho : own l x with _ | ⟨q, _ | ⟨r, t⟩⟩
 ·rw [ho] at h
  simp at h
 ·rw [ho] at hm
  simp only [List.mem_singleton] at hm
  subst hm
  unfold par
  rw [ho]
 ·rw [ho] at h
  simp at h
theorem mem_flat {e : Ent} (h : e ∈ E d) (hd : d < 8) : (d, e) ∈ flat E 8 := flat_mem.2 ⟨hd, h⟩
theorem At.lt (hS : Sane E K) {k : Nat} {p : ByteArray} (h : At E x k p) : x < 8 := by
 rcases h.or with ⟨rfl, _, _⟩ | ⟨d, k', q, nm, _, _, hm, _⟩
 ·decide
 ·have := (hS.ino _ _ hm).2
  omega
theorem Inv.done (h : Inv E K [] F P) (hS : Sane E K) (hK0 : K 0 = 2) : onceAll F K = treeOk E K := by
 obtain ⟨c, h1, h2, h3⟩ := h.cnt
 have h1' : ∀ y : Nat, F y = sumC E c y := fun y => by rw [h1 y]; rfl
 have hc0 : c 0 = 1 := h3
 have h2' : ∀ d, K d = 2 → 0 < d → c d = F d := fun d a b => h2 d a b
 have hown : ∀ (x : Int) (p : Nat × Ent), p ∈ own (flat E 8) x → p.1 < 8 ∧ p.2 ∈ E p.1 ∧ p.2.1 = x ∧ K p.1 = 2 := by
  intro x p hp
  obtain ⟨a, b⟩ := List.mem_filter.1 hp
  obtain ⟨i, e⟩ := p
  have := flat_mem.1 a
  exact ⟨this.1, this.2, by simpa using b, hS.dir _ (List.ne_nil_of_mem this.2)⟩
 apply Bool.eq_iff_iff.2
 constructor
 ·intro ho
  have ho' := onceAll_iff.1 ho
  have hF : ∀ i, 0 < i → i < 8 → F i = if K i = 0 then 0 else 1 := fun i a b => by simpa [once] using ho' i a b
  have hc : ∀ d, d < 8 → K d = 2 → c d = 1 := by
   intro d hd hk
   by_cases h0 : d = 0
   ·rw [h0]
    exact hc0
   ·rw [h2' d hk (by omega), hF d (by omega) hd, hk, if_neg (by decide)]
  have hlen : ∀ y : Nat, F y = (own (flat E 8) y).length := by
   intro y
   rw [h1' y]
   exact sum_one fun p hp => hc _ (hown _ p hp).1 (hown _ p hp).2.2.2
  have huni : ∀ (y : Nat) (p : Nat × Ent), p ∈ own (flat E 8) y → (own (flat E 8) y).length = 1 := by
   intro y p hp
   obtain ⟨a, b, e, _⟩ := hown _ p hp
   have hi := hS.ino _ _ b
   have hy : 0 < y ∧ y < 8 := by omega
   have hne : (own (flat E 8) y).length ≠ 0 := by
    rw [Ne, List.length_eq_zero_iff]
    exact List.ne_nil_of_mem hp
   have := hF y hy.1 hy.2
   rw [← hlen y] at hne ⊢
   rw [this] at hne ⊢
   by_cases hk : K y = 0
   ·rw [if_pos hk] at hne
    exact absurd rfl hne
   ·rw [if_neg hk]
  have hroot : ∀ {y k : Nat} {p : ByteArray}, At E y k p → ∀ m, k ≤ m → root (par (flat E 8)) m y = true := by
   intro y k p ha
   induction ha using At.ind with
   | zero => exact fun m _ => root_zero _ m
   | @down d k p x nm hd hm ih =>
    intro m hkm
    obtain ⟨m', rfl⟩ : ∃ m', m = m' + 1 := ⟨m - 1, by omega⟩
    have hx := (hS.ino _ _ hm).1
    have hdl := At.lt hS hd
    have hmem := mem_flat hm hdl
    rw [root_pos _ _ _ hx, par_one (p := (d, ((x : Int), nm))) (huni x (d, ((x : Int), nm)) (List.mem_filter.2 ⟨hmem, by simp⟩)) hmem rfl]
    exact ih m' (by omega)
  refine treeOk_iff.2 fun i hi h8 => ?_
  have hFi := hF i hi h8
  unfold oneOk
  by_cases hk : K i = 0
  ·have : own (flat E 8) i = [] := by
    rw [if_pos hk, hlen] at hFi
    exact List.length_eq_zero_iff.1 hFi
   have hp := (par_nil _ _).2 this
   simp [hk, hp]
  ·rw [if_neg hk] at hFi
   obtain ⟨k, hk8, ha⟩ := h.at_ i (by omega)
   have hr := hroot ha 8 hk8
   have hp : ¬ par (flat E 8) i = -1 := by
    intro e
    have := (par_nil _ _).1 e
    rw [hlen, this] at hFi
    simp at hFi
   rw [hr, Bool.or_true, Bool.and_true, beq_eq_false_iff_ne.2 hk, beq_eq_false_iff_ne.2 hp]
   rfl
 ·intro ht
  have ht' := treeOk_iff.1 ht
  have hone : ∀ i, 0 < i → i < 8 → (K i = 0 ↔ par (flat E 8) i = -1) ∧ (K i ≠ 0 → root (par (flat E 8)) 8 i = true) := by
   intro i a b
   have := ht' i a b
   unfold oneOk at this
   simp only [Bool.and_eq_true, beq_iff_eq, Bool.or_eq_true] at this
   refine ⟨?_, fun hk => ?_⟩
   ·have e := this.1
    constructor
    ·intro hk
     rw [hk] at e
     simpa using e
    ·intro hp
     rw [hp] at e
     simpa using e
   ·rcases this.2 with hk' | hr
    ·exact absurd hk' hk
    ·exact hr
  have hup : ∀ m (i : Nat), 0 < i → i < 8 → root (par (flat E 8)) m i = true → F i = 1 := by
   intro m
   induction m with
   | zero =>
    intro i a b hr
    simp only [root, beq_iff_eq] at hr
    omega
   | succ m ih =>
    intro i a b hr
    rw [root_pos _ _ _ (by omega)] at hr
    rcases par_ge (flat E 8) i with hp | hp | ⟨p, hp, hq⟩
    ·rw [hp, root_neg _ _ _ (by decide)] at hr
     cases hr
    ·rw [hp, root_neg _ _ _ (by decide)] at hr
     cases hr
    ·rw [hq] at hr
     obtain ⟨o1, o2, o3, o4⟩ := hown i p (by rw [hp]; simp)
     have hFi : F i = c p.1 := by
      rw [h1' i, sumC, hp]
      simp
     by_cases h0 : p.1 = 0
     ·rw [hFi, h0]
      exact hc0
     ·rw [hFi, h2' _ o4 (by omega)]
      exact ih _ (by omega) o1 hr
  refine onceAll_iff.2 fun i hi h8 => ?_
  obtain ⟨q1, q2⟩ := hone i hi h8
  unfold once
  by_cases hk : K i = 0
  ·rw [if_pos hk]
   have := (par_nil _ _).1 (q1.1 hk)
   simp only [decide_eq_true_eq]
   rw [h1' i, sumC, this]
   rfl
  ·rw [if_neg hk]
   simp only [decide_eq_true_eq]
   exact hup 8 i hi h8 (q2 hk)
end Go.Proofs.YthbcefopbmkppaaGreat.TR
namespace Go.Proofs.YthbcefopbmkppaaGreat.TW
open Go.ChangeShapes Go.WideShapes Go.ChangeAt Go.RowKit
structure Nd where
 k : Int
 o : Int
 s : Int
 a : Option Addr
 n : Nat
 c : Nat
 x : ByteArray
 ae : Option Addr
 ne : Nat
 ce : Nat
def Nd.vals (d : Nd) : List Value := [.int .i64 d.k, .int .i64 d.o, .int .i64 d.s, .slice d.a d.n d.c, .string d.x, .slice d.ae d.ne d.ce]
structure Tb (B : Nat) (N : Nat → Nd) (F : Nat → Nat) (P : Nat → ByteArray) (W : World) : Prop where
 node : ∀ i, i < 8 → ∀ j (h : j < (N i).vals.length), W.cell? ⟨B, i * 6 + j, none⟩ = some (N i).vals[j]
 fnd : ∀ i, i < 8 → W.cell? ⟨B, 48 + i, none⟩ = some (.int .i64 (F i : Int))
 pth : ∀ i, i < 8 → W.cell? ⟨B, 56 + i, none⟩ = some (.string (P i))
 free : ∀ j, j < 64 → W.frozen? ⟨B, j, none⟩ = false
 lt : B < W.heap.size
variable {B : Nat} {N : Nat → Nd} {F : Nat → Nat} {P : Nat → ByteArray} {w W W' : World}
theorem Tb.below {b : Nat} (h : Tb B N F P W) (hb : Below b W W') (hB : B < b) : Tb B N F P W' :=
 ⟨fun i hi j hj => (hb.cell (p := ⟨B, i * 6 + j, none⟩) hB).trans (h.node i hi j hj), fun i hi => (hb.cell (p := ⟨B, 48 + i, none⟩) hB).trans (h.fnd i hi), fun i hi => (hb.cell (p := ⟨B, 56 + i, none⟩) hB).trans (h.pth i hi), fun j hj => (hb.frozen (p := ⟨B, j, none⟩) hB).trans (h.free j hj), Nat.lt_of_lt_of_le h.lt hb.size⟩
theorem Tb.drew (h : Tb B N F P W) : Tb B N F P W.drew := ⟨h.node, h.fnd, h.pth, h.free, h.lt⟩
theorem Tb.drewN (h : Tb B N F P W) (n : Nat) : Tb B N F P (W.drewN n) := ⟨h.node, h.fnd, h.pth, h.free, h.lt⟩
theorem Tb.ents (h : Tb B N F P W) {i : Nat} (hi : i < 8) : W.cell? ⟨B, i * 6 + 5, none⟩ = some (.slice (N i).ae (N i).ne (N i).ce) := h.node i hi 5 (by simp [Nd.vals])
end Go.Proofs.YthbcefopbmkppaaGreat.TW
namespace Go.Proofs.YthbcefopbmkppaaGreat.TW
open Go.ChangeShapes Go.WideShapes Go.ChangeAt Go.RowKit
variable {B : Nat} {N : Nat → Nd} {F : Nat → Nat} {P : Nat → ByteArray} {w W W' : World}
theorem grown_drew {a b : World} {row : Option Nat} (h : a.grownBy b row) : a.grownBy b.drew row := ⟨h.os, h.tape, h.output, h.size, h.block⟩
end Go.Proofs.YthbcefopbmkppaaGreat.TW
namespace Go.Proofs.YthbcefopbmkppaaGreat.TW
open Go.ChangeShapes Go.WideShapes Go.ChangeAt Go.RowKit
variable {base g n cap : Nat} {w W W' : World} {d k x : Nat} {R S : List (Nat × Nat)}
structure Met (bm m : Nat) (S : List (Nat × Nat)) (D : DataW Unit) (W : World) : Prop where
 own : W.ownsMap Tryz.prog 3 (plainElem (H := Unit) Tryz.prog 3) bm m D
 has : ∀ x : Nat, Maps.has D (.int .i64 (x : Int)) = TR.metIn S x
theorem Met.kept {bm m : Nat} {D : DataW Unit} {row : Option Nat} (h : Met bm m S D w) (hg : w.grownBy W row) (hne : some bm ≠ row) : Met bm m S D W := ⟨h.own.kept hg hne, h.has⟩
theorem Met.lt {bm m : Nat} {D : DataW Unit} (h : Met bm m S D w) : bm < w.heap.size := by
 obtain ⟨es, clock, hb, _⟩ := h.own
 exact (Array.getElem?_eq_some_iff.1 hb).1
end Go.Proofs.YthbcefopbmkppaaGreat.TW
namespace Go.Proofs.YthbcefopbmkppaaGreat.HP
open Go.ChangeShapes Go.WideShapes Go.ChangeAt Go.RowKit
variable {w W W' : World} {base Bh g c : Nat} {l : List Rg}
def fr : List Rg → List Value
 | [] => []
 | r :: t => .int .i64 r.1 :: .int .i64 r.2 :: fr t
theorem fr_length : ∀ l : List Rg, (fr l).length = l.length * 2
 | [] => rfl
 | r :: t => by simp [fr, fr_length t]; omega
theorem fr_append : ∀ l m : List Rg, fr (l ++ m) = fr l ++ fr m
 | [], m => rfl
 | r :: t, m => by simp [fr, fr_append t m]
theorem fr_get : ∀ (l : List Rg) (i : Nat), i < l.length → (fr l)[i * 2]? = some (.int .i64 (at_ l i).1) ∧ (fr l)[i * 2 + 1]? = some (.int .i64 (at_ l i).2)
 | [], i, h => by simp at h
 | r :: t, 0, _ => by simp [fr, at_]
 | r :: t, i + 1, h => by
  have := fr_get t i (by simpa using h)
  have e : at_ (r :: t) (i + 1) = at_ t i := by simp [at_]
  rw [e, show (i + 1) * 2 = i * 2 + 1 + 1 by omega, show i * 2 + 1 + 1 + 1 = (i * 2 + 1) + 1 + 1 by omega]
  simpa [fr] using this
theorem fr_set : ∀ (l : List Rg) (i : Nat) (r : Rg), ((fr l).set (i * 2) (.int .i64 r.1)).set (i * 2 + 1) (.int .i64 r.2) = fr (l.set i r)
 | [], i, r => by simp [fr]
 | q :: t, 0, r => by simp [fr]
 | q :: t, i + 1, r => by
  have := fr_set t i r
  rw [show (i + 1) * 2 = i * 2 + 1 + 1 by omega]
  simp only [fr, List.set_cons_succ]
  rw [this]
structure HS (base Bh g c : Nat) (l : List Rg) (W : World) : Prop where
 cell : W.cell? ⟨Bh, 0, none⟩ = some (.slice (some ⟨g, 0, none⟩) l.length c)
 free : W.frozen? ⟨Bh, 0, none⟩ = false
 buf : W.ownsRow base 38 2 (.slice (some ⟨g, 0, none⟩) l.length c) l.length (fr l)
 ne : g ≠ Bh
 lo : base ≤ Bh
 lt : Bh < W.heap.size
theorem HS.drewN (h : HS base Bh g c l W) (n : Nat) : HS base Bh g c l (W.drewN n) := ⟨h.cell, h.free, h.buf, h.ne, h.lo, h.lt⟩
theorem HS.drew (h : HS base Bh g c l W) : HS base Bh g c l W.drew := ⟨h.cell, h.free, h.buf, h.ne, h.lo, h.lt⟩
theorem HS.below (h : HS base Bh g c l W) (hb : Below W.heap.size W W') : HS base Bh g c l W' :=
 ⟨(hb.cell (p := ⟨Bh, 0, none⟩) h.lt).trans h.cell, (hb.frozen (p := ⟨Bh, 0, none⟩) h.lt).trans h.free, F0.owns_below h.buf hb, h.ne, h.lo, Nat.lt_of_lt_of_le h.lt hb.size⟩
theorem HS.get (h : HS base Bh g c l W) {i : Nat} (hi : i < l.length) : W.cell? ⟨g, i * 2, none⟩ = some (.int .i64 (at_ l i).1) ∧ W.cell? ⟨g, i * 2 + 1, none⟩ = some (.int .i64 (at_ l i).2) := by
 obtain ⟨h1, h2⟩ := fr_get l i hi
 exact ⟨(h.buf.cellAt (i * 2) (by omega)).trans h1, (h.buf.cellAt (i * 2 + 1) (by omega)).trans h2⟩
theorem HS.glt (h : HS base Bh g c l W) : base ≤ g ∧ g < W.heap.size := h.buf.lt g rfl
theorem HS.room (h : HS base Bh g c l W) : l.length ≤ c := by
 rcases h.buf.2 with ⟨h', _⟩ | ⟨g', cap', cur, h', hb, hg, hnc, hcm, hcs, ht⟩
 ·cases h'
 ·cases h'
  exact hnc
theorem HS.putAt (h : HS base Bh g c l W) (i : Nat) (r : Rg) : HS base Bh g c (l.set i r) ((W.setCell ⟨g, i * 2, none⟩ (.int .i64 r.1)).setCell ⟨g, i * 2 + 1, none⟩ (.int .i64 r.2)) := by
 have s1 := h.buf.stored (i * 2) (.int .i64 r.1)
 have s2 := s1.1.stored (i * 2 + 1) (.int .i64 r.2)
 have hb := s2.1
 rw [fr_set] at hb
 have hne : ∀ j, (⟨g, j, none⟩ : Addr) ≠ ⟨Bh, 0, none⟩ := fun j q => h.ne (Addr.mk.inj q).1
 refine ⟨?_, ?_, by rw [List.length_set]; exact hb, h.ne, h.lo, by have := h.lt; simpa [World.setCell] using this⟩
 ·rw [World.cell?_setCell_other _ _ _ _ (hne _), World.cell?_setCell_other _ _ _ _ (hne _), List.length_set]
  exact h.cell
 ·rw [World.frozen?_setCell, World.frozen?_setCell]
  exact h.free
set_option maxHeartbeats 1000000 in
theorem less (i j : Nat) (w : World) (h : HS base Bh g c l w) (hi : i < l.length) (hj : j < l.length) :
  Calls Tryz.prog 113 #[.slice (some ⟨g, 0, none⟩) l.length c, .int .i64 (i : Int), .int .i64 (j : Int)] w fun e w' => e = .returned (.bool (decide (key l i < key l j))) ∧ ∃ m, w' = w.drewN m := by
 have x1 := (h.get hi).1
 have x2 := (h.get hj).1
 have e1 : (0 : Int) ≤ (i : Int) := by omega
 have e2 : (i : Int) < (l.length : Int) := by omega
 have e3 : (0 : Int) ≤ (j : Int) := by omega
 have e4 : (j : Int) < (l.length : Int) := by omega
 have hk : key l i = (at_ l i).1 := rfl
 have hk' : key l j = (at_ l j).1 := rfl
 rw [hk, hk']
 obtain ⟨a, ha⟩ : ∃ a, (at_ l i).1 = a := ⟨_, rfl⟩
 obtain ⟨b, hb⟩ : ∃ b, (at_ l j).1 = b := ⟨_, rfl⟩
 rw [ha] at x1 ⊢
 rw [hb] at x2 ⊢
 clear h hk hk' ha hb
 go_enter Tryz.func113, Tryz.ntmps113
 go_wp2
 go_quiet (fail)
 go_wp2
 go_ret
 exact ⟨rfl, _, rfl⟩
set_option maxHeartbeats 2000000 in
theorem swap (i j : Nat) (w : World) (h : HS base Bh g c l w) (hi : i < l.length) (hj : j < l.length) :
  Calls Tryz.prog 116 #[.slice (some ⟨g, 0, none⟩) l.length c, .int .i64 (i : Int), .int .i64 (j : Int)] w fun e w' => e = .returned (.tuple #[]) ∧ HS base Bh g c (swp l i j) w' ∧ w.grownBy w' (some g) := by
 obtain ⟨x1, x2⟩ := h.get hi
 obtain ⟨y1, y2⟩ := h.get hj
 have e1 : (0 : Int) ≤ (i : Int) := by omega
 have e2 : (i : Int) < (l.length : Int) := by omega
 have e3 : (0 : Int) ≤ (j : Int) := by omega
 have e4 : (j : Int) < (l.length : Int) := by omega
 have f1 := h.buf.frozenAt (i * 2)
 have f2 := h.buf.frozenAt (i * 2 + 1)
 have f3 := h.buf.frozenAt (j * 2)
 have f4 := h.buf.frozenAt (j * 2 + 1)
 have hA := h.putAt i (at_ l j)
 have hB := h.putAt j (at_ l i)
 obtain ⟨u1, p1⟩ : ∃ u, ((w.setCell ⟨g, i * 2, none⟩ (.int .i64 (at_ l j).1)).setCell ⟨g, i * 2 + 1, none⟩ (.int .i64 (at_ l j).2)).cell? ⟨g, j * 2, none⟩ = some u := ⟨_, (hA.get (i := j) (by rw [List.length_set]; exact hj)).1⟩
 obtain ⟨u2, p2⟩ : ∃ u, ((w.setCell ⟨g, i * 2, none⟩ (.int .i64 (at_ l j).1)).setCell ⟨g, i * 2 + 1, none⟩ (.int .i64 (at_ l j).2)).cell? ⟨g, j * 2 + 1, none⟩ = some u := ⟨_, (hA.get (i := j) (by rw [List.length_set]; exact hj)).2⟩
 obtain ⟨u3, p3⟩ : ∃ u, ((w.setCell ⟨g, j * 2, none⟩ (.int .i64 (at_ l i).1)).setCell ⟨g, j * 2 + 1, none⟩ (.int .i64 (at_ l i).2)).cell? ⟨g, i * 2, none⟩ = some u := ⟨_, (hB.get (i := i) (by rw [List.length_set]; exact hi)).1⟩
 obtain ⟨u4, p4⟩ : ∃ u, ((w.setCell ⟨g, j * 2, none⟩ (.int .i64 (at_ l i).1)).setCell ⟨g, j * 2 + 1, none⟩ (.int .i64 (at_ l i).2)).cell? ⟨g, i * 2 + 1, none⟩ = some u := ⟨_, (hB.get (i := i) (by rw [List.length_set]; exact hi)).2⟩
 have HA := hA.putAt j (at_ l i)
 have HB := hB.putAt i (at_ l j)
 have eB : (l.set j (at_ l i)).set i (at_ l j) = swp l i j := by
  unfold swp
  by_cases e : i = j
  ·subst e
   rfl
  ·exact List.set_comm _ _ (fun q => e q.symm)
 rw [eB] at HB
 have GA : w.grownBy ((((w.setCell ⟨g, i * 2, none⟩ (.int .i64 (at_ l j).1)).setCell ⟨g, i * 2 + 1, none⟩ (.int .i64 (at_ l j).2)).setCell ⟨g, j * 2, none⟩ (.int .i64 (at_ l i).1)).setCell ⟨g, j * 2 + 1, none⟩ (.int .i64 (at_ l i).2)) (some g) := M0.grown_set (M0.grown_set (M0.grown_set (M0.grown_set (M0.grown_refl _ _) _) _) _) _
 have GB : w.grownBy ((((w.setCell ⟨g, j * 2, none⟩ (.int .i64 (at_ l i).1)).setCell ⟨g, j * 2 + 1, none⟩ (.int .i64 (at_ l i).2)).setCell ⟨g, i * 2, none⟩ (.int .i64 (at_ l j).1)).setCell ⟨g, i * 2 + 1, none⟩ (.int .i64 (at_ l j).2)) (some g) := M0.grown_set (M0.grown_set (M0.grown_set (M0.grown_set (M0.grown_refl _ _) _) _) _) _
 have FA : Hid (HS base Bh g c (swp l i j) ((((w.setCell ⟨g, i * 2, none⟩ (.int .i64 (at_ l j).1)).setCell ⟨g, i * 2 + 1, none⟩ (.int .i64 (at_ l j).2)).setCell ⟨g, j * 2, none⟩ (.int .i64 (at_ l i).1)).setCell ⟨g, j * 2 + 1, none⟩ (.int .i64 (at_ l i).2))) := HA
 have FB : Hid (HS base Bh g c (swp l i j) ((((w.setCell ⟨g, j * 2, none⟩ (.int .i64 (at_ l i).1)).setCell ⟨g, j * 2 + 1, none⟩ (.int .i64 (at_ l i).2)).setCell ⟨g, i * 2, none⟩ (.int .i64 (at_ l j).1)).setCell ⟨g, i * 2 + 1, none⟩ (.int .i64 (at_ l j).2))) := HB
 clear hA hB HA HB eB h
 go_enter Tryz.func116, Tryz.ntmps116
 go_wp2
 go_region
 all_goals
  go_wp2
  refine bodyPost_end (v := .tuple #[]) (by simp [results, Tryz.results116, go_sem]) rfl ?_
 ·first
   | exact ⟨rfl, FA.out.drew, TW.grown_drew GA⟩
   | exact ⟨rfl, FB.out.drew, TW.grown_drew GB⟩
 all_goals first
   | exact ⟨rfl, FA.out.drew, TW.grown_drew GA⟩
   | exact ⟨rfl, FB.out.drew, TW.grown_drew GB⟩
theorem asRange (v : Value) (w : World) : (Instr.typeAssert (.iface 38 v) 20 38 false).run Tryz.prog w = .ok v w := by kernel_rfl
end Go.Proofs.YthbcefopbmkppaaGreat.HP
