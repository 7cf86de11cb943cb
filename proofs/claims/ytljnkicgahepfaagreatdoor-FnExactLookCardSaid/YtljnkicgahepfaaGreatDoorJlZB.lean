/- Joined texts: plain facts and contracts. -/
import Derived.Test.YtljnkicgahepfaaGreatDoorJlB
import Derived.Test.YtljnkicgahepfaaGreatDoorJlG
import Derived.Test.YtljnkicgahepfaaGreatDoorJlF
import Derived.Deep.RegionHeld3
import Derived.Test.YtljnkicgahepfaaGreatDoorJlS
import Derived.Deep.RegionLaw
import Derived.Deep.LoopGhost
import Derived.WalkSmall
import Derived.OneCell
set_option linter.unusedVariables false
set_option linter.unusedSimpArgs false
set_option maxRecDepth 10000
namespace Go.Proofs.YtljnkicgahepfaaGreatDoor.HP
abbrev Rg := Int × Int
def at_ (l : List Rg) (i : Nat) : Rg := l.getD i (0, 0)
def key (l : List Rg) (i : Nat) : Int := (at_ l i).1
theorem at_get (l : List Rg) (i : Nat) (h : i < l.length) : at_ l i = l[i] := by simp [at_, List.getD, h]
def swp (l : List Rg) (i j : Nat) : List Rg := (l.set i (at_ l j)).set j (at_ l i)
theorem swp_length (l : List Rg) (i j : Nat) : (swp l i j).length = l.length := by simp [swp]
theorem swp_at (l : List Rg) (i j k : Nat) (hi : i < l.length) (hj : j < l.length) : at_ (swp l i j) k = if k = j then at_ l i else if k = i then at_ l j else at_ l k := by
 by_cases hk : k < l.length
 ·rw [at_get _ _ (by rw [swp_length]; exact hk)]
  unfold swp
  rw [List.getElem_set, List.getElem_set]
  by_cases e1 : k = j
  ·rw [if_pos e1.symm, if_pos e1]
  ·rw [if_neg (fun e => e1 e.symm), if_neg e1]
   by_cases e2 : k = i
   ·rw [if_pos e2.symm, if_pos e2]
   ·rw [if_neg (fun e => e2 e.symm), if_neg e2, at_get _ _ hk]
 ·rw [if_neg (by omega), if_neg (by omega)]
  have h1 : at_ (swp l i j) k = (0, 0) := by
   have : (swp l i j).length ≤ k := by rw [swp_length]; omega
   simp [at_, List.getD, List.getElem?_eq_none this]
  have h2 : at_ l k = (0, 0) := by simp [at_, List.getD, List.getElem?_eq_none (show l.length ≤ k by omega)]
  rw [h1, h2]
theorem swp_key (l : List Rg) (i j k : Nat) (hi : i < l.length) (hj : j < l.length) : key (swp l i j) k = if k = j then key l i else if k = i then key l j else key l k := by
 unfold key
 rw [swp_at l i j k hi hj]
 split
 ·rfl
 ·split <;> rfl
theorem swp_perm (l : List Rg) (i j : Nat) (hi : i < l.length) (hj : j < l.length) : (swp l i j).Perm l := by
 unfold swp
 rw [at_get l i hi, at_get l j hj]
 exact List.set_set_perm hi hj
def HeapN (l : List Rg) (n : Nat) : Prop := ∀ i, 0 < i → i < n → key l ((i - 1) / 2) ≤ key l i
def UpInv (l : List Rg) (j : Nat) : Prop := (∀ i, 0 < i → i < l.length → i ≠ j → key l ((i - 1) / 2) ≤ key l i) ∧ (0 < j → ∀ c, 0 < c → c < l.length → (c - 1) / 2 = j → key l ((j - 1) / 2) ≤ key l c) ∧ j < l.length
def DownInv (l : List Rg) (n i : Nat) : Prop := (∀ k, 0 < k → k < n → (k - 1) / 2 ≠ i → key l ((k - 1) / 2) ≤ key l k) ∧ (0 < i → ∀ c, 0 < c → c < n → (c - 1) / 2 = i → key l ((i - 1) / 2) ≤ key l c) ∧ n ≤ l.length
theorem up_end {l : List Rg} {j : Nat} (h : UpInv l j) (he : j = 0 ∨ ¬ key l j < key l ((j - 1) / 2)) : HeapN l l.length := by
 intro i h0 hi
 by_cases e : i = j
 ·subst e
  rcases he with he | he
  ·omega
  ·omega
 ·exact h.1 i h0 hi e
theorem up_step {l : List Rg} {j : Nat} (h : UpInv l j) (hj : 0 < j) (hl : key l j < key l ((j - 1) / 2)) : UpInv (swp l ((j - 1) / 2) j) ((j - 1) / 2) := by
 obtain ⟨h1, h2, h3⟩ := h
 have hp : (j - 1) / 2 < l.length := by omega
 have hpj : (j - 1) / 2 < j := by omega
 have K := fun k => swp_key l ((j - 1) / 2) j k hp h3
 refine ⟨fun i h0 hi hne => ?_, fun hp0 c hc0 hc he => ?_, by rw [swp_length]; exact hp⟩
 ·rw [swp_length] at hi
  rw [K, K]
  by_cases e : i = j
  ·subst e
   rw [if_neg (by omega), if_pos rfl, if_pos rfl]
   omega
  ·rw [if_neg e, if_neg hne]
   by_cases e1 : (i - 1) / 2 = j
   ·rw [if_pos e1]
    exact h2 hj i h0 hi e1
   ·rw [if_neg e1]
    by_cases e2 : (i - 1) / 2 = (j - 1) / 2
    ·rw [if_pos e2]
     have := h1 i h0 hi e
     rw [e2] at this
     omega
    ·rw [if_neg e2]
     exact h1 i h0 hi e
 ·rw [swp_length] at hc
  rw [K, K]
  have hg : key l (((j - 1) / 2 - 1) / 2) ≤ key l ((j - 1) / 2) := h1 ((j - 1) / 2) hp0 hp (by omega)
  rw [if_neg (by omega), if_neg (by omega)]
  by_cases e : c = j
  ·rw [if_pos e]
   exact hg
  ·rw [if_neg e, if_neg (by omega)]
   have := h1 c hc0 hc e
   rw [he] at this
   omega
def kid (l : List Rg) (n i : Nat) : Nat := if 2 * i + 2 < n ∧ key l (2 * i + 2) < key l (2 * i + 1) then 2 * i + 2 else 2 * i + 1
theorem kid_lt {l : List Rg} {n i : Nat} (h : 2 * i + 1 < n) : kid l n i < n ∧ i < kid l n i ∧ (kid l n i - 1) / 2 = i := by
 unfold kid
 split <;> omega
theorem kid_le {l : List Rg} {n i c : Nat} (hc0 : 0 < c) (hc : c < n) (he : (c - 1) / 2 = i) : key l (kid l n i) ≤ key l c := by
 have : c = 2 * i + 1 ∨ c = 2 * i + 2 := by omega
 unfold kid
 rcases this with e | e
 ·subst e
  split
  ·rename_i h
   omega
  ·exact Int.le_refl _
 ·subst e
  split
  ·exact Int.le_refl _
  ·rename_i h
   omega
theorem down_end {l : List Rg} {n i : Nat} (h : DownInv l n i) (he : ¬ 2 * i + 1 < n ∨ ¬ key l (kid l n i) < key l i) : HeapN l n := by
 intro k h0 hk
 by_cases e : (k - 1) / 2 = i
 ·rcases he with he | he
  ·omega
  ·have := kid_le (l := l) h0 hk e
   rw [e]
   omega
 ·exact h.1 k h0 hk e
theorem down_step {l : List Rg} {n i : Nat} (h : DownInv l n i) (hc : 2 * i + 1 < n) (hl : key l (kid l n i) < key l i) : DownInv (swp l i (kid l n i)) n (kid l n i) := by
 obtain ⟨h1, h2, h3⟩ := h
 obtain ⟨k1, k2, k3⟩ := kid_lt (l := l) hc
 obtain ⟨j, hj⟩ : ∃ j, kid l n i = j := ⟨_, rfl⟩
 have hle := fun c h0 hc he => kid_le (l := l) (n := n) (i := i) (c := c) h0 hc he
 rw [hj] at k1 k2 k3 hl hle ⊢
 have K := fun k => swp_key l i j k (by omega) (by omega)
 refine ⟨fun k h0 hk hne => ?_, fun _ c hc0 hc' he => ?_, by rw [swp_length]; exact h3⟩
 ·rw [K, K, if_neg hne]
  by_cases e : k = j
  ·subst e
   rw [if_pos k3, if_pos rfl]
   omega
  ·rw [if_neg e]
   by_cases e1 : (k - 1) / 2 = i
   ·rw [if_pos e1, if_neg (by omega)]
    exact hle k h0 hk e1
   ·rw [if_neg e1]
    by_cases e2 : k = i
    ·rw [if_pos e2]
     subst e2
     exact h2 h0 j (by omega) k1 k3
    ·rw [if_neg e2]
     exact h1 k h0 hk e1
 ·rw [K, K, if_neg (by omega), if_pos k3, if_neg (by omega), if_neg (by omega)]
  have := h1 c hc0 hc' (by omega)
  rw [he] at this
  exact this
theorem heap_min {l : List Rg} {n : Nat} (h : HeapN l n) : ∀ i, i < n → key l 0 ≤ key l i := by
 intro i
 induction i using Nat.strongRecOn with
 | _ i ih =>
  intro hi
  by_cases h0 : i = 0
  ·rw [h0]
   exact Int.le_refl _
  ·have h1 := h i (by omega) hi
   have h2 := ih ((i - 1) / 2) (by omega) (by omega)
   omega
theorem pop_start {l : List Rg} {m : Nat} (h : HeapN l l.length) (hm : l.length = m + 1) : DownInv (swp l 0 m) m 0 := by
 refine ⟨fun k h0 hk hne => ?_, fun h => absurd h (by decide), by rw [swp_length]; omega⟩
 rw [swp_key _ _ _ _ (by omega) (by omega), swp_key _ _ _ _ (by omega) (by omega), if_neg (by omega), if_neg (by omega), if_neg (by omega), if_neg (by omega)]
 exact h k h0 (by omega)
theorem push_start {l : List Rg} (h : HeapN l l.length) (r : Rg) : UpInv (l ++ [r]) l.length := by
 have hk : ∀ i, i < l.length → key (l ++ [r]) i = key l i := by
  intro i hi
  unfold key at_
  rw [List.getD_eq_getElem?_getD, List.getD_eq_getElem?_getD, List.getElem?_append_left hi]
 refine ⟨fun i h0 hi hne => ?_, fun _ c h0 hc he => ?_, by simp⟩
 ·have hi' : i < l.length := by simp at hi; omega
  rw [hk _ (by omega), hk _ hi']
  exact h i h0 hi'
 ·simp at hc
  omega
def cov (l : List Rg) (k : Int) : Bool := l.any fun r => decide (r.1 ≤ k ∧ k < r.1 + r.2)
theorem cov_iff {l : List Rg} {k : Int} : cov l k = true ↔ ∃ r ∈ l, r.1 ≤ k ∧ k < r.1 + r.2 := by
 unfold cov
 rw [List.any_eq_true]
 constructor
 ·rintro ⟨r, hr, h⟩
  exact ⟨r, hr, by simpa using h⟩
 ·rintro ⟨r, hr, h⟩
  exact ⟨r, hr, by simpa using h⟩
def covAll (l : List Rg) (i : Int) (n : Nat) : Bool := (List.range n).all fun j => cov l (i + (j : Int))
theorem covAll_iff {l : List Rg} {i : Int} {n : Nat} : covAll l i n = true ↔ ∀ k, i ≤ k → k < i + (n : Int) → cov l k = true := by
 unfold covAll
 rw [List.all_eq_true]
 constructor
 ·intro h k h0 h1
  have := h (k - i).toNat (List.mem_range.2 (by omega))
  rwa [show i + ((k - i).toNat : Int) = k by omega] at this
 ·intro h j hj
  have := List.mem_range.1 hj
  exact h _ (by omega) (by omega)
structure Go (all done rest : List Rg) (i0 i : Int) : Prop where
 perm : (done ++ rest).Perm all
 heap : HeapN rest rest.length
 low : ∀ d ∈ done, ∀ r ∈ rest, d.1 ≤ r.1
 not : ∀ d ∈ done, ¬ (d.1 ≤ i ∧ i < d.1 + d.2)
 yes : ∀ k, i0 ≤ k → k < i → cov all k = true
 le : i0 ≤ i
theorem key_mem {l : List Rg} {r : Rg} (h : r ∈ l) : ∃ i, i < l.length ∧ key l i = r.1 := by
 obtain ⟨i, hi, e⟩ := List.mem_iff_getElem.1 h
 exact ⟨i, hi, by rw [key, at_get l i hi, e]⟩
theorem Go.pop {all done rest : List Rg} {i0 i : Int} {r : Rg} {rest' : List Rg} (h : Go all done rest i0 i) (h0 : 0 < rest.length) (hr : r = at_ rest 0) (hp : (r :: rest').Perm rest) (hh : HeapN rest' rest'.length) :
  (r.1 ≤ i ∧ i < r.1 + r.2 → Go all (r :: done) rest' i0 (r.1 + r.2)) ∧ (¬ (r.1 ≤ i ∧ i < r.1 + r.2) → Go all (r :: done) rest' i0 i) := by
 have hmem : ∀ x ∈ rest', x ∈ rest := fun x hx => hp.mem_iff.1 (List.mem_cons_of_mem _ hx)
 have hrm : r ∈ rest := hp.mem_iff.1 (by simp)
 have hmin : ∀ x ∈ rest, r.1 ≤ x.1 := by
  intro x hx
  obtain ⟨j, hj, e⟩ := key_mem hx
  have := heap_min h.heap j hj
  rw [e] at this
  rw [hr]
  exact this
 have hperm : (r :: done ++ rest').Perm all := by
  refine (List.Perm.trans ?_ h.perm)
  have : (r :: done ++ rest').Perm (done ++ (r :: rest')) := by
   rw [List.cons_append]
   exact (List.perm_middle (l₁ := done) (l₂ := rest') (a := r)).symm
  exact this.trans (hp.append_left done)
 have hlow : ∀ d ∈ r :: done, ∀ x ∈ rest', d.1 ≤ x.1 := by
  intro d hd x hx
  rcases List.mem_cons.1 hd with rfl | hd
  ·exact hmin x (hmem x hx)
  ·exact h.low d hd x (hmem x hx)
 constructor
 ·intro hc
  refine ⟨hperm, hh, hlow, fun d hd => ?_, fun k hk0 hk => ?_, by have := h.le; omega⟩
  ·rcases List.mem_cons.1 hd with rfl | hd
   ·omega
   ·have h1 := h.not d hd
    have h2 := h.low d hd r hrm
    omega
  ·by_cases hki : k < i
   ·exact h.yes k hk0 hki
   ·exact cov_iff.2 ⟨r, h.perm.mem_iff.1 (List.mem_append_right _ hrm), by omega, by omega⟩
 ·intro hc
  refine ⟨hperm, hh, hlow, fun d hd => ?_, h.yes, h.le⟩
  rcases List.mem_cons.1 hd with rfl | hd
  ·exact hc
  ·exact h.not d hd
theorem Go.done_yes {all done rest : List Rg} {i0 i : Int} {n : Nat} (h : Go all done rest i0 i) (hi : i0 + (n : Int) ≤ i) : covAll all i0 n = true := covAll_iff.2 fun k h0 h1 => h.yes k h0 (by omega)
theorem Go.done_no {all done : List Rg} {i0 i : Int} {n : Nat} (h : Go all done [] i0 i) (hi : i < i0 + (n : Int)) : covAll all i0 n = false := by
 cases hc : covAll all i0 n with
 | false => rfl
 | true =>
  exfalso
  obtain ⟨r, hr, h1, h2⟩ := cov_iff.1 (covAll_iff.1 hc i h.le hi)
  have := h.perm.mem_iff.2 hr
  rw [List.append_nil] at this
  exact h.not r this ⟨h1, h2⟩
end Go.Proofs.YtljnkicgahepfaaGreatDoor.HP
namespace Go.Proofs.YtljnkicgahepfaaGreatDoor.R5
open Go.ChangeShapes Go.WideShapes Go.ChangeAt Go.RowKit
open I2 (ints)
open J0 (Own)
open M0 (grown_refl grown_set)
def RBuf (base : Nat) (w : World) (a : Option Addr) (n cap : Nat) (zs : List Int) : Prop := zs.length = n * 2 ∧ w.ownsRow base 141 2 (.slice a n cap) n (ints zs)
theorem infoR : (Tryz.prog.info? 141).map (fun i => (i.zero, i.size, i.bytes)) = some (some (.agg #[.int .i64 0, .int .i64 0]), 2, 16) := by kernel_rfl
variable {base n cap : Nat} {a : Option Addr} {w W : World} {zs : List Int}
theorem RBuf.below (h : RBuf base w a n cap zs) (hb : Below w.heap.size w W) : RBuf base W a n cap zs := ⟨h.1, F0.owns_below h.2 hb⟩
theorem RBuf.alloc (h : RBuf base w a n cap zs) (o : Obj) : RBuf base (w.alloc o) a n cap zs := h.below ((Below.refl _ _).alloc (Nat.le_refl _) o)
theorem rbuf_one (w : World) (x y : Int) (hb : base ≤ w.heap.size) : RBuf base (w.alloc (.cells #[.int .i64 x, .int .i64 y] 141)) (some ⟨w.heap.size, 0, none⟩) 1 1 [x, y] :=
 ⟨rfl, rfl, Or.inr ⟨w.heap.size, 1, #[.int .i64 x, .int .i64 y], rfl, hb, heap_alloc_new w _, Nat.le_refl _, by unfold maxLen; omega, rfl, rfl⟩⟩
theorem RBuf.fits (h : RBuf base w a n cap zs) : n ≤ cap := by
 rcases h.2.2 with ⟨h0, h1⟩ | ⟨g, c, cur, hv, _, _, hle, _⟩
 ·omega
 ·simp at hv
  omega
theorem RBuf.own (h : RBuf base w a n cap zs) : J0.Own base w a zs := by
 rcases h.2.2 with ⟨h0, h1⟩ | ⟨g, c, cur, hv, hg, hc, hle, _, hs, ht⟩
 ·left
  exact List.eq_nil_of_length_eq_zero (by rw [h.1, h1])
 ·right
  simp at hv
  have hn := h.1
  refine ⟨g, hv.1, hg, ⟨fun j hj => ?_, fun j hj => ?_, (Array.getElem?_eq_some_iff.1 hc).1⟩⟩
  ·have hcell : w.cell? ⟨g, j, none⟩ = cur[j]? := by
    unfold World.cell?
    rw [hc]
    simp
   have hj' : j < zs.length := by simpa using hj
   have e1 : (cur.toList.take (n * 2))[j]? = (ints zs)[j]? := by rw [ht]
   rw [List.getElem?_take_of_lt (by omega)] at e1
   rw [hcell, ← Array.getElem?_toList, e1]
   simp [hj']
  ·unfold World.frozen?
   rw [hc]
   simp
theorem one_rng (x y : Int) : ∀ u ∈ [Value.int .i64 x, .int .i64 y], u.oneCell' = true := by
 intro u h
 simp at h
 rcases h with rfl | rfl <;> rfl
theorem append_rng {ops : Array Oper} {rest : List Oper} {o : Oper} {A : Act} {Q : Exit → Act → World → Prop} (hgd : o.guard = none) (sl x : Operand)
  (ho : o.op = .call { callee := .builtin .append, args := #[sl, x], argTypes := #[137, 137] })
  (hbuf : RBuf base w a n cap zs) (u v : Int) (hs : A.eval sl = .slice a n cap) (hx : A.eval x = .slice (some ⟨w.heap.size, 0, none⟩) 1 1) (hlen : n + 1 ≤ 1048576) (hb : base ≤ w.heap.size)
  (h : ∀ g' cap' w', RBuf base w' (some ⟨g', 0, none⟩) (n + 1) cap' (zs ++ [u, v]) → Below base w w' → wpList Tryz.prog ops Q rest (A.put o.dst (.slice (some ⟨g', 0, none⟩) (n + 1) cap')) w') : wpList Tryz.prog ops Q (o :: rest) A (w.alloc (.cells #[.int .i64 u, .int .i64 v] 141)) := by
 obtain ⟨i0, hi, hz0, hz1, hz2⟩ := info_parts infoR
 have hb2 := hbuf.alloc (.cells #[.int .i64 u, .int .i64 v] 141)
 refine wpList_append_lies _ hgd sl x 137 ho base 141 i0 (.agg #[.int .i64 0, .int .i64 0]) 2 16 Tryz.underlying137 hi hz0 hz1 hz2 rfl (by omega) _ n _ hs hb2.2 ⟨w.heap.size, 0, none⟩ 1 1 [.int .i64 u, .int .i64 v] hx rfl (World.news_of_block (heap_alloc_new w _)) (one_rng u v) (by omega) (by unfold maxLen; omega) (by omega) (by simp; omega) _ rfl ?_
 intro g' cap' w' ho' hg' _ _
 refine h g' cap' w' ⟨by rw [List.length_append, hbuf.1]; simp; omega, ?_⟩ ?_
 ·rw [show ints (zs ++ [u, v]) = ints zs ++ [.int .i64 u, .int .i64 v] by simp]
  exact ho'
 ·exact F0.below_grown ((Below.refl _ _).alloc hb _) hg' (fun g hg => (hbuf.2.lt g hg).1) (by simp; omega)
end Go.Proofs.YtljnkicgahepfaaGreatDoor.R5
namespace Go.Proofs.YtljnkicgahepfaaGreatDoor.HP
open Go.ChangeShapes Go.WideShapes Go.ChangeAt Go.RowKit
variable {w W W' : World} {base Bh g c : Nat} {l : List Rg}
def fr : List Rg → List Value
 | [] => []
 | r :: t => .int .i64 r.1 :: .int .i64 r.2 :: fr t
theorem fr_length : ∀ l : List Rg, (fr l).length = l.length * 2
 | [] => rfl
 | r :: t => by simp [fr, fr_length t]; omega
theorem fr_append : ∀ l m : List Rg, fr (l ++ m) = fr l ++ fr m
 | [], m => rfl
 | r :: t, m => by simp [fr, fr_append t m]
theorem fr_get : ∀ (l : List Rg) (i : Nat), i < l.length → (fr l)[i * 2]? = some (.int .i64 (at_ l i).1) ∧ (fr l)[i * 2 + 1]? = some (.int .i64 (at_ l i).2)
 | [], i, h => by simp at h
 | r :: t, 0, _ => by simp [fr, at_]
 | r :: t, i + 1, h => by
  have := fr_get t i (by simpa using h)
  have e : at_ (r :: t) (i + 1) = at_ t i := by simp [at_]
  rw [e, show (i + 1) * 2 = i * 2 + 1 + 1 by omega, show i * 2 + 1 + 1 + 1 = (i * 2 + 1) + 1 + 1 by omega]
  simpa [fr] using this
theorem fr_set : ∀ (l : List Rg) (i : Nat) (r : Rg), ((fr l).set (i * 2) (.int .i64 r.1)).set (i * 2 + 1) (.int .i64 r.2) = fr (l.set i r)
 | [], i, r => by simp [fr]
 | q :: t, 0, r => by simp [fr]
 | q :: t, i + 1, r => by
  have := fr_set t i r
  rw [show (i + 1) * 2 = i * 2 + 1 + 1 by omega]
  simp only [fr, List.set_cons_succ]
  rw [this]
structure HS (base Bh g c : Nat) (l : List Rg) (W : World) : Prop where
 cell : W.cell? ⟨Bh, 0, none⟩ = some (.slice (some ⟨g, 0, none⟩) l.length c)
 free : W.frozen? ⟨Bh, 0, none⟩ = false
 buf : W.ownsRow base 141 2 (.slice (some ⟨g, 0, none⟩) l.length c) l.length (fr l)
 ne : g ≠ Bh
 lo : base ≤ Bh
 lt : Bh < W.heap.size
theorem HS.drewN (h : HS base Bh g c l W) (n : Nat) : HS base Bh g c l (W.drewN n) := ⟨h.cell, h.free, h.buf, h.ne, h.lo, h.lt⟩
theorem HS.drew (h : HS base Bh g c l W) : HS base Bh g c l W.drew := ⟨h.cell, h.free, h.buf, h.ne, h.lo, h.lt⟩
theorem HS.below (h : HS base Bh g c l W) (hb : Below W.heap.size W W') : HS base Bh g c l W' :=
 ⟨(hb.cell (p := ⟨Bh, 0, none⟩) h.lt).trans h.cell, (hb.frozen (p := ⟨Bh, 0, none⟩) h.lt).trans h.free, F0.owns_below h.buf hb, h.ne, h.lo, Nat.lt_of_lt_of_le h.lt hb.size⟩
theorem HS.get (h : HS base Bh g c l W) {i : Nat} (hi : i < l.length) : W.cell? ⟨g, i * 2, none⟩ = some (.int .i64 (at_ l i).1) ∧ W.cell? ⟨g, i * 2 + 1, none⟩ = some (.int .i64 (at_ l i).2) := by
 obtain ⟨h1, h2⟩ := fr_get l i hi
 exact ⟨(h.buf.cellAt (i * 2) (by omega)).trans h1, (h.buf.cellAt (i * 2 + 1) (by omega)).trans h2⟩
theorem HS.glt (h : HS base Bh g c l W) : base ≤ g ∧ g < W.heap.size := h.buf.lt g rfl
theorem HS.room (h : HS base Bh g c l W) : l.length ≤ c := by
 rcases h.buf.2 with ⟨h', _⟩ | ⟨g', cap', cur, h', hb, hg, hnc, hcm, hcs, ht⟩
 ·cases h'
 ·cases h'
  exact hnc
theorem HS.putAt (h : HS base Bh g c l W) (i : Nat) (r : Rg) : HS base Bh g c (l.set i r) ((W.setCell ⟨g, i * 2, none⟩ (.int .i64 r.1)).setCell ⟨g, i * 2 + 1, none⟩ (.int .i64 r.2)) := by
 have s1 := h.buf.stored (i * 2) (.int .i64 r.1)
 have s2 := s1.1.stored (i * 2 + 1) (.int .i64 r.2)
 have hb := s2.1
 rw [fr_set] at hb
 have hne : ∀ j, (⟨g, j, none⟩ : Addr) ≠ ⟨Bh, 0, none⟩ := fun j q => h.ne (Addr.mk.inj q).1
 refine ⟨?_, ?_, by rw [List.length_set]; exact hb, h.ne, h.lo, by have := h.lt; simpa [World.setCell] using this⟩
 ·rw [World.cell?_setCell_other _ _ _ _ (hne _), World.cell?_setCell_other _ _ _ _ (hne _), List.length_set]
  exact h.cell
 ·rw [World.frozen?_setCell, World.frozen?_setCell]
  exact h.free
set_option maxHeartbeats 1000000 in
theorem less (i j : Nat) (w : World) (h : HS base Bh g c l w) (hi : i < l.length) (hj : j < l.length) :
  Calls Tryz.prog 351 #[.slice (some ⟨g, 0, none⟩) l.length c, .int .i64 (i : Int), .int .i64 (j : Int)] w fun e w' => e = .returned (.bool (decide (key l i < key l j))) ∧ ∃ m, w' = w.drewN m := by
 have x1 := (h.get hi).1
 have x2 := (h.get hj).1
 have e1 : (0 : Int) ≤ (i : Int) := by omega
 have e2 : (i : Int) < (l.length : Int) := by omega
 have e3 : (0 : Int) ≤ (j : Int) := by omega
 have e4 : (j : Int) < (l.length : Int) := by omega
 have hk : key l i = (at_ l i).1 := rfl
 have hk' : key l j = (at_ l j).1 := rfl
 rw [hk, hk']
 obtain ⟨a, ha⟩ : ∃ a, (at_ l i).1 = a := ⟨_, rfl⟩
 obtain ⟨b, hb⟩ : ∃ b, (at_ l j).1 = b := ⟨_, rfl⟩
 rw [ha] at x1 ⊢
 rw [hb] at x2 ⊢
 clear h hk hk' ha hb
 go_enter Tryz.func351, Tryz.ntmps351
 go_wp2
 go_quiet (fail)
 go_wp2
 go_ret
 exact ⟨rfl, _, rfl⟩
set_option maxHeartbeats 2000000 in
theorem swap (i j : Nat) (w : World) (h : HS base Bh g c l w) (hi : i < l.length) (hj : j < l.length) :
  Calls Tryz.prog 354 #[.slice (some ⟨g, 0, none⟩) l.length c, .int .i64 (i : Int), .int .i64 (j : Int)] w fun e w' => e = .returned (.tuple #[]) ∧ HS base Bh g c (swp l i j) w' ∧ w.grownBy w' (some g) := by
 obtain ⟨x1, x2⟩ := h.get hi
 obtain ⟨y1, y2⟩ := h.get hj
 have e1 : (0 : Int) ≤ (i : Int) := by omega
 have e2 : (i : Int) < (l.length : Int) := by omega
 have e3 : (0 : Int) ≤ (j : Int) := by omega
 have e4 : (j : Int) < (l.length : Int) := by omega
 have f1 := h.buf.frozenAt (i * 2)
 have f2 := h.buf.frozenAt (i * 2 + 1)
 have f3 := h.buf.frozenAt (j * 2)
 have f4 := h.buf.frozenAt (j * 2 + 1)
 have hA := h.putAt i (at_ l j)
 have hB := h.putAt j (at_ l i)
 obtain ⟨u1, p1⟩ : ∃ u, ((w.setCell ⟨g, i * 2, none⟩ (.int .i64 (at_ l j).1)).setCell ⟨g, i * 2 + 1, none⟩ (.int .i64 (at_ l j).2)).cell? ⟨g, j * 2, none⟩ = some u := ⟨_, (hA.get (i := j) (by rw [List.length_set]; exact hj)).1⟩
 obtain ⟨u2, p2⟩ : ∃ u, ((w.setCell ⟨g, i * 2, none⟩ (.int .i64 (at_ l j).1)).setCell ⟨g, i * 2 + 1, none⟩ (.int .i64 (at_ l j).2)).cell? ⟨g, j * 2 + 1, none⟩ = some u := ⟨_, (hA.get (i := j) (by rw [List.length_set]; exact hj)).2⟩
 obtain ⟨u3, p3⟩ : ∃ u, ((w.setCell ⟨g, j * 2, none⟩ (.int .i64 (at_ l i).1)).setCell ⟨g, j * 2 + 1, none⟩ (.int .i64 (at_ l i).2)).cell? ⟨g, i * 2, none⟩ = some u := ⟨_, (hB.get (i := i) (by rw [List.length_set]; exact hi)).1⟩
 obtain ⟨u4, p4⟩ : ∃ u, ((w.setCell ⟨g, j * 2, none⟩ (.int .i64 (at_ l i).1)).setCell ⟨g, j * 2 + 1, none⟩ (.int .i64 (at_ l i).2)).cell? ⟨g, i * 2 + 1, none⟩ = some u := ⟨_, (hB.get (i := i) (by rw [List.length_set]; exact hi)).2⟩
 have HA := hA.putAt j (at_ l i)
 have HB := hB.putAt i (at_ l j)
 have eB : (l.set j (at_ l i)).set i (at_ l j) = swp l i j := by
  unfold swp
  by_cases e : i = j
  ·subst e
   rfl
  ·exact List.set_comm _ _ (fun q => e q.symm)
 rw [eB] at HB
 have GA : w.grownBy ((((w.setCell ⟨g, i * 2, none⟩ (.int .i64 (at_ l j).1)).setCell ⟨g, i * 2 + 1, none⟩ (.int .i64 (at_ l j).2)).setCell ⟨g, j * 2, none⟩ (.int .i64 (at_ l i).1)).setCell ⟨g, j * 2 + 1, none⟩ (.int .i64 (at_ l i).2)) (some g) := M0.grown_set (M0.grown_set (M0.grown_set (M0.grown_set (M0.grown_refl _ _) _) _) _) _
 have GB : w.grownBy ((((w.setCell ⟨g, j * 2, none⟩ (.int .i64 (at_ l i).1)).setCell ⟨g, j * 2 + 1, none⟩ (.int .i64 (at_ l i).2)).setCell ⟨g, i * 2, none⟩ (.int .i64 (at_ l j).1)).setCell ⟨g, i * 2 + 1, none⟩ (.int .i64 (at_ l j).2)) (some g) := M0.grown_set (M0.grown_set (M0.grown_set (M0.grown_set (M0.grown_refl _ _) _) _) _) _
 have FA : Hid (HS base Bh g c (swp l i j) ((((w.setCell ⟨g, i * 2, none⟩ (.int .i64 (at_ l j).1)).setCell ⟨g, i * 2 + 1, none⟩ (.int .i64 (at_ l j).2)).setCell ⟨g, j * 2, none⟩ (.int .i64 (at_ l i).1)).setCell ⟨g, j * 2 + 1, none⟩ (.int .i64 (at_ l i).2))) := HA
 have FB : Hid (HS base Bh g c (swp l i j) ((((w.setCell ⟨g, j * 2, none⟩ (.int .i64 (at_ l i).1)).setCell ⟨g, j * 2 + 1, none⟩ (.int .i64 (at_ l i).2)).setCell ⟨g, i * 2, none⟩ (.int .i64 (at_ l j).1)).setCell ⟨g, i * 2 + 1, none⟩ (.int .i64 (at_ l j).2))) := HB
 clear hA hB HA HB eB h
 go_enter Tryz.func354, Tryz.ntmps354
 go_wp2
 go_region
 all_goals
  go_wp2
  refine bodyPost_end (v := .tuple #[]) (by simp [results, Tryz.results354, go_sem]) rfl ?_
 ·first
   | exact ⟨rfl, FA.out.drew, TW.grown_drew GA⟩
   | exact ⟨rfl, FB.out.drew, TW.grown_drew GB⟩
 all_goals first
   | exact ⟨rfl, FA.out.drew, TW.grown_drew GA⟩
   | exact ⟨rfl, FB.out.drew, TW.grown_drew GB⟩
theorem asRange (v : Value) (w : World) : (Instr.typeAssert (.iface 141 v) 20 141 false).run Tryz.prog w = .ok v w := by kernel_rfl
end Go.Proofs.YtljnkicgahepfaaGreatDoor.HP
namespace Go.Proofs.YtljnkicgahepfaaGreatDoor.HP
open Go.ChangeShapes Go.WideShapes Go.ChangeAt Go.RowKit
variable {w W W' : World} {base Bh g c : Nat} {l : List Rg}
structure Chg (Bh g g' : Nat) (w w' : World) : Prop where
 os : w'.os = w.os
 tape : w'.tape = w.tape
 output : w'.output = w.output
 size : w.heap.size ≤ w'.heap.size
 block : ∀ k, k < w.heap.size → k ≠ Bh → k ≠ g → w'.heap[k]? = w.heap[k]?
 loc : g' = g ∨ w.heap.size ≤ g'
theorem Chg.grown {g' : Nat} (h : Chg Bh g g' w W) (k : W.grownBy W' (some g')) : Chg Bh g g' w W' :=
 ⟨k.os.trans h.os, k.tape.trans h.tape, k.output.trans h.output, Nat.le_trans h.size k.size, fun j hj hb hg => by
  rw [k.block j (Nat.lt_of_lt_of_le hj h.size) (fun e => by
   have e' := Option.some.inj e
   rcases h.loc with q | q
   ·exact hg (e'.trans q)
   ·omega)]
  exact h.block j hj hb hg, h.loc⟩
theorem Chg.below {b g' : Nat} (h : Chg Bh g g' w W) (hB : b ≤ Bh) (hg : b ≤ g) (hs : b ≤ w.heap.size) : Below b w W :=
 ⟨h.os, h.tape, h.output, h.size, fun k hk => h.block k (by omega) (by omega) (by omega)⟩
theorem HS.head {g' c' : Nat} {l' : List Rg} {u : Value} {n' : Nat} (bf : W.ownsRow base 141 2 (.slice (some ⟨g', 0, none⟩) n' c') n' (fr l')) (hn : l'.length = n') (x : W.cell? ⟨Bh, 0, none⟩ = some u) (f : W.frozen? ⟨Bh, 0, none⟩ = false) (ne : g' ≠ Bh) (lo : base ≤ Bh) (lt : Bh < W.heap.size) : HS base Bh g' c' l' (W.setCell ⟨Bh, 0, none⟩ (.slice (some ⟨g', 0, none⟩) n' c')) := by
 subst hn
 refine ⟨World.cell?_setCell_same _ _ _ x, by rw [World.frozen?_setCell]; exact f, ownsRow_setCell_other bf (a := ⟨Bh, 0, none⟩) (fun e => ne (Option.some.inj e)) _, ne, lo, by simpa [World.setCell] using lt⟩
theorem Chg.head {g' : Nat} (h : w.grownBy W (some g)) (loc : g' = g ∨ w.heap.size ≤ g') (u : Value) : Chg Bh g g' w (W.setCell ⟨Bh, 0, none⟩ u) :=
 ⟨h.os, h.tape, h.output, Nat.le_trans h.size (by simp [World.setCell]), fun k hk hB hg => (heap_setCell_other W ⟨Bh, 0, none⟩ k u hB).trans (h.block k hk (fun e => hg (Option.some.inj e))), loc⟩
theorem Chg.ofDrew {g' : Nat} (h : Chg Bh g g' w.drew W) : Chg Bh g g' w W := ⟨h.os, h.tape, h.output, h.size, h.block, h.loc⟩
theorem infoRg : (Tryz.prog.info? 141).map (fun i => (i.zero, i.size, i.bytes)) = some (some (.agg #[.int .i64 0, .int .i64 0]), 2, 16) := by kernel_rfl
theorem one_rg (u v : Int) : ∀ x ∈ [Value.int .i64 u, .int .i64 v], x.oneCell' = true := by
 intro x h
 simp at h
 rcases h with rfl | rfl <;> rfl
theorem step_push {ops : Array Oper} {o : Oper} {A : Act} {K : Act → World → Prop} {Q : Exit → Act → World → Prop} {E : Prop} (hgd : o.guard = none) (sl x : Operand)
  (ho : o.op = .call { callee := .builtin .append, args := #[sl, x], argTypes := #[246, 246] })
  (hbuf : w.ownsRow base 141 2 (.slice (some ⟨g, 0, none⟩) l.length c) l.length (fr l)) (r : Rg) (hs : A.eval sl = .slice (some ⟨g, 0, none⟩) l.length c) {H : Nat} (hH : w.heap.size = H) (hx : A.eval x = .slice (some ⟨H, 0, none⟩) 1 1) (hlen : l.length + 1 ≤ 1048576) (hb : base ≤ w.heap.size)
  (h : ∀ g' cap' w', w'.ownsRow base 141 2 (.slice (some ⟨g', 0, none⟩) (l.length + 1) cap') (l.length + 1) (fr (l ++ [r])) → w.grownBy w' (some g) → (g' = g ∨ w.heap.size < g') → K (A.put o.dst (.slice (some ⟨g', 0, none⟩) (l.length + 1) cap')) w') :
  if Region.wanted o (yielded ops A.tmps) = true then Oper.wp Tryz.prog o A (w.alloc (.cells #[.int .i64 r.1, .int .i64 r.2] 141)) K Q else E := by
 subst hH
 obtain ⟨i0, hi, hz0, hz1, hz2⟩ := info_parts infoRg
 have hb2 := hbuf.alloc (.cells #[.int .i64 r.1, .int .i64 r.2] 141)
 refine step_append_lies _ hgd sl x 246 ho base 141 i0 (.agg #[.int .i64 0, .int .i64 0]) 2 16 Tryz.underlying246 hi hz0 hz1 hz2 rfl (by omega) _ l.length _ hs hb2 ⟨w.heap.size, 0, none⟩ 1 1 [.int .i64 r.1, .int .i64 r.2] hx rfl (World.news_of_block (heap_alloc_new w _)) (one_rg r.1 r.2) (by omega) (by unfold maxLen; omega) (by omega) (by simp; omega) _ rfl ?_
 intro g' cap' w' ho' hg' hl' _
 refine h g' cap' w' ?_ ((World.grownBy_alloc w _ _).trans hg') ?_
 ·rw [fr_append]
  exact ho'
 ·rcases hl' with q | q
  ·left
   have e' : g = g' := by simpa [Value.ownBlock] using q
   exact e'.symm
  ·right
   rw [q]
   simp
set_option maxHeartbeats 2000000 in
theorem push (r : Rg) (w : World) (h : HS base Bh g c l w) (hlen : l.length + 1 ≤ 1048576) :
  Calls Tryz.prog 353 #[.pointer (some ⟨Bh, 0, none⟩), .iface 141 (.agg #[.int .i64 r.1, .int .i64 r.2])] w fun e w' => e = .returned (.tuple #[]) ∧ ∃ g' c', HS base Bh g' c' (l ++ [r]) w' ∧ Chg Bh g g' w w' := by
 have x0 := h.cell
 have f0 := h.free
 have hta := fun v W => asRange v W
 have hS0 : w.drew.cell? ⟨Bh, 0, none⟩ = some (.slice (some ⟨g, 0, none⟩) l.length c) := x0
 have hnew := K0.below_new w.drew (.cells #[.int .i64 r.1, .int .i64 r.2] 141)
 have hS1 : (w.drew.alloc (.cells #[.int .i64 r.1, .int .i64 r.2] 141)).cell? ⟨Bh, 0, none⟩ = some (.slice (some ⟨g, 0, none⟩) l.length c) := (hnew.cell (p := ⟨Bh, 0, none⟩) h.lt).trans hS0
 have hS2 : (w.alloc (.cells #[.int .i64 r.1, .int .i64 r.2] 141)).cell? ⟨Bh, 0, none⟩ = some (.slice (some ⟨g, 0, none⟩) l.length c) := hS1
 have hbuf : w.drew.ownsRow base 141 2 (.slice (some ⟨g, 0, none⟩) l.length c) l.length (fr l) := h.buf
 have hbs : base ≤ w.drew.heap.size := Nat.le_trans h.lo (Nat.le_of_lt h.lt)
 have HH : Hid (HS base Bh g c l w) := h
 have hlenl : (l ++ [r]).length = l.length + 1 := by simp
 clear h hnew
 go_enter Tryz.func353, Tryz.ntmps353
 go_wp2
 go_region_law (refine step_push rfl (.tmp 7) (.tmp 10) rfl hbuf r (by rfl) (H := w.heap.size) rfl (by rfl) hlen hbs ?_; intro g3 c3 w3 bf3 gr3 q3; have x3 : w3.cell? ⟨Bh, 0, none⟩ = some (.slice (some ⟨g, 0, none⟩) l.length c) := gr3.cell hS0 (by have := HH.out.ne; simpa using this.symm); have f3 : w3.frozen? ⟨Bh, 0, none⟩ = false := (World.frozen?_of_block (a := ⟨Bh, 0, none⟩) (gr3.block Bh HH.out.lt (by have := HH.out.ne; simpa using this.symm))).trans HH.out.free)
 all_goals (
  refine bodyPost_end (v := .tuple #[]) (by simp [results, Tryz.results353, go_sem]) rfl ?_
  refine ⟨rfl, g3, c3, HS.head (l' := l ++ [r]) bf3 (by simp) x3 f3 ?_ HH.out.lo (Nat.lt_of_lt_of_le HH.out.lt gr3.size), (Chg.head gr3 ?_ _).ofDrew⟩
  ·have := HH.out.ne
   have := HH.out.lt
   rcases q3 with q | q
   ·rw [q]; exact HH.out.ne
   ·have q' : w.heap.size < g3 := q
    omega
  ·rcases q3 with q | q
   ·exact Or.inl q
   ·exact Or.inr (Nat.le_of_lt q))
set_option maxHeartbeats 2000000 in
theorem pop (r : Rg) (w : World) (h : HS base Bh g c (l ++ [r]) w) :
  Calls Tryz.prog 352 #[.pointer (some ⟨Bh, 0, none⟩)] w fun e w' => e = .returned (.iface 141 (.agg #[.int .i64 r.1, .int .i64 r.2])) ∧ HS base Bh g c l w' ∧ Chg Bh g g w w' := by
 have hl : (l ++ [r]).length = l.length + 1 := by simp
 have x0 := h.cell
 have f0 := h.free
 have hr := h.room
 have hg := h.get (i := l.length) (by simp)
 have ha : at_ (l ++ [r]) l.length = r := by simp [at_]
 rw [ha] at hg
 obtain ⟨x1, x2⟩ := hg
 have hbuf := h.buf
 rw [hl] at x0 hr hbuf
 have hbf2 : w.ownsRow base 141 2 (.slice (some ⟨g, 0, none⟩) l.length c) l.length (fr l) := by
  rw [fr_append] at hbuf
  exact ownsRow_pop (fr_length l) hbuf
 have HH : Hid (HS base Bh g c (l ++ [r]) w) := h
 have hm : c ≤ 9223372036854775807 := by
  rcases hbuf.2 with ⟨h', _⟩ | ⟨g', cap', cur, h', hb, hg, hnc, hcm, hcs, ht⟩
  ·cases h'
  ·cases h'
   unfold maxLen at hcm
   omega
 have hc : l.length ≤ c := by omega
 have e1 : ((l.length + 1 : Nat) : Int) - 1 = (l.length : Int) := by omega
 obtain ⟨n, hn⟩ : ∃ n, l.length = n := ⟨_, rfl⟩
 rw [hn] at x0 hr x1 x2 hbuf hbf2 hc e1
 have e2 : (0 : Int) ≤ (n : Int) := by omega
 have e3 : (n : Int) < ((n + 1 : Nat) : Int) := by omega
 have e4 : (n : Int) < (n : Int) + 1 := by omega
 have ew : wrap64 (n : Int) = (n : Int) := by unfold wrap64; omega
 have hnew := K0.below_new w (.cells #[.int .i64 r.1, .int .i64 r.2] 141)
 have z1 : (w.alloc (.cells #[.int .i64 r.1, .int .i64 r.2] 141)).cell? ⟨Bh, 0, none⟩ = some (.slice (some ⟨g, 0, none⟩) (n + 1) c) := (hnew.cell (p := ⟨Bh, 0, none⟩) h.lt).trans x0
 have z2 : (w.alloc (.cells #[.int .i64 r.1, .int .i64 r.2] 141)).frozen? ⟨Bh, 0, none⟩ = false := (hnew.frozen (p := ⟨Bh, 0, none⟩) h.lt).trans f0
 have hbn : Bh ≠ w.heap.size := Nat.ne_of_lt h.lt
 have hbf3 := hbf2.alloc (.cells #[.int .i64 r.1, .int .i64 r.2] 141)
 have hgr := World.grownBy_alloc w (.cells #[.int .i64 r.1, .int .i64 r.2] 141) (some g)
 have y : ∀ k, ((w.alloc (.cells #[.int .i64 r.1, .int .i64 r.2] 141)).setCell ⟨Bh, 0, none⟩ (.slice (some ⟨g, 0, none⟩) n c)).cell? ⟨w.heap.size, k, none⟩ = (w.alloc (.cells #[.int .i64 r.1, .int .i64 r.2] 141)).cell? ⟨w.heap.size, k, none⟩ := fun k => World.cell?_setCell_other _ _ _ _ (fun q => hbn (Addr.mk.inj q).1)
 have y1 := (y 0).trans (show _ = some (Value.int .i64 r.1) by simp only [World.cell?, heap_alloc_new]; rfl)
 have y2 := (y 1).trans (show _ = some (Value.int .i64 r.2) by simp only [World.cell?, heap_alloc_new]; rfl)
 clear h hl ha hnew y
 go_enter Tryz.func352, Tryz.ntmps352
 go_wp2
 go_ret
 exact ⟨rfl, HS.head (l' := l) hbf3 hn z1 z2 HH.out.ne HH.out.lo (Nat.lt_of_lt_of_le HH.out.lt hgr.size), Chg.head hgr (Or.inl rfl) _⟩
end Go.Proofs.YtljnkicgahepfaaGreatDoor.HP
