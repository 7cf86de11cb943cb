/- Joined texts: plain facts and contracts, as each part says. -/
import Derived.Test.YtdljajjgppcjpaaGreatJkA
import Derived.Test.YtdljajjgppcjpaaGreatJkD
import Derived.Deep.RegionHeld3
import Derived.Test.YtdljajjgppcjpaaGreatJkM
import Derived.Deep.RegionLaw
import Derived.Deep.LoopGhost
import Derived.WalkSmall
import Derived.OneCell

/- Plain facts on a heap of pairs, and on what the pairs cover. -/
namespace Go.Proofs.YtdljajjgppcjpaaGreat.HP
set_option linter.unusedVariables false
set_option linter.unusedSimpArgs false

abbrev Rg := Int × Int
def at_ (l : List Rg) (i : Nat) : Rg := l.getD i (0, 0)
def key (l : List Rg) (i : Nat) : Int := (at_ l i).1
theorem at_get (l : List Rg) (i : Nat) (h : i < l.length) : at_ l i = l[i] := by simp [at_, List.getD, h]

/-- Two places changed with each other. -/
def swp (l : List Rg) (i j : Nat) : List Rg := (l.set i (at_ l j)).set j (at_ l i)
theorem swp_length (l : List Rg) (i j : Nat) : (swp l i j).length = l.length := by simp [swp]
theorem swp_at (l : List Rg) (i j k : Nat) (hi : i < l.length) (hj : j < l.length) : at_ (swp l i j) k = if k = j then at_ l i else if k = i then at_ l j else at_ l k := by
  by_cases hk : k < l.length
  · rw [at_get _ _ (by rw [swp_length]; exact hk)]
    unfold swp
    rw [List.getElem_set, List.getElem_set]
    by_cases e1 : k = j
    · rw [if_pos e1.symm, if_pos e1]
    · rw [if_neg (fun e => e1 e.symm), if_neg e1]
      by_cases e2 : k = i
      · rw [if_pos e2.symm, if_pos e2]
      · rw [if_neg (fun e => e2 e.symm), if_neg e2, at_get _ _ hk]
  · rw [if_neg (by omega), if_neg (by omega)]
    have h1 : at_ (swp l i j) k = (0, 0) := by
      have : (swp l i j).length ≤ k := by rw [swp_length]; omega
      simp [at_, List.getD, List.getElem?_eq_none this]
    have h2 : at_ l k = (0, 0) := by simp [at_, List.getD, List.getElem?_eq_none (show l.length ≤ k by omega)]
    rw [h1, h2]
theorem swp_key (l : List Rg) (i j k : Nat) (hi : i < l.length) (hj : j < l.length) : key (swp l i j) k = if k = j then key l i else if k = i then key l j else key l k := by
  unfold key
  rw [swp_at l i j k hi hj]
  split
  · rfl
  · split <;> rfl
theorem swp_perm (l : List Rg) (i j : Nat) (hi : i < l.length) (hj : j < l.length) : (swp l i j).Perm l := by
  unfold swp
  rw [at_get l i hi, at_get l j hj]
  exact List.set_set_perm hi hj

/-- The first n are a heap. -/
def HeapN (l : List Rg) (n : Nat) : Prop := ∀ i, 0 < i → i < n → key l ((i - 1) / 2) ≤ key l i
def UpInv (l : List Rg) (j : Nat) : Prop := (∀ i, 0 < i → i < l.length → i ≠ j → key l ((i - 1) / 2) ≤ key l i) ∧ (0 < j → ∀ c, 0 < c → c < l.length → (c - 1) / 2 = j → key l ((j - 1) / 2) ≤ key l c) ∧ j < l.length
def DownInv (l : List Rg) (n i : Nat) : Prop := (∀ k, 0 < k → k < n → (k - 1) / 2 ≠ i → key l ((k - 1) / 2) ≤ key l k) ∧ (0 < i → ∀ c, 0 < c → c < n → (c - 1) / 2 = i → key l ((i - 1) / 2) ≤ key l c) ∧ n ≤ l.length

theorem up_end {l : List Rg} {j : Nat} (h : UpInv l j) (he : j = 0 ∨ ¬ key l j < key l ((j - 1) / 2)) : HeapN l l.length := by
  intro i h0 hi
  by_cases e : i = j
  · subst e
    rcases he with he | he
    · omega
    · omega
  · exact h.1 i h0 hi e
theorem up_step {l : List Rg} {j : Nat} (h : UpInv l j) (hj : 0 < j) (hl : key l j < key l ((j - 1) / 2)) : UpInv (swp l ((j - 1) / 2) j) ((j - 1) / 2) := by
  obtain ⟨h1, h2, h3⟩ := h
  have hp : (j - 1) / 2 < l.length := by omega
  have hpj : (j - 1) / 2 < j := by omega
  have K := fun k => swp_key l ((j - 1) / 2) j k hp h3
  refine ⟨fun i h0 hi hne => ?_, fun hp0 c hc0 hc he => ?_, by rw [swp_length]; exact hp⟩
  · rw [swp_length] at hi
    rw [K, K]
    by_cases e : i = j
    · subst e
      rw [if_neg (by omega), if_pos rfl, if_pos rfl]
      omega
    · rw [if_neg e, if_neg hne]
      by_cases e1 : (i - 1) / 2 = j
      · rw [if_pos e1]
        exact h2 hj i h0 hi e1
      · rw [if_neg e1]
        by_cases e2 : (i - 1) / 2 = (j - 1) / 2
        · rw [if_pos e2]
          have := h1 i h0 hi e
          rw [e2] at this
          omega
        · rw [if_neg e2]
          exact h1 i h0 hi e
  · rw [swp_length] at hc
    rw [K, K]
    have hg : key l (((j - 1) / 2 - 1) / 2) ≤ key l ((j - 1) / 2) := h1 ((j - 1) / 2) hp0 hp (by omega)
    rw [if_neg (by omega), if_neg (by omega)]
    by_cases e : c = j
    · rw [if_pos e]
      exact hg
    · rw [if_neg e, if_neg (by omega)]
      have := h1 c hc0 hc e
      rw [he] at this
      omega

/-- The lesser child. -/
def kid (l : List Rg) (n i : Nat) : Nat := if 2 * i + 2 < n ∧ key l (2 * i + 2) < key l (2 * i + 1) then 2 * i + 2 else 2 * i + 1
theorem kid_lt {l : List Rg} {n i : Nat} (h : 2 * i + 1 < n) : kid l n i < n ∧ i < kid l n i ∧ (kid l n i - 1) / 2 = i := by
  unfold kid
  split <;> omega
theorem kid_le {l : List Rg} {n i c : Nat} (hc0 : 0 < c) (hc : c < n) (he : (c - 1) / 2 = i) : key l (kid l n i) ≤ key l c := by
  have : c = 2 * i + 1 ∨ c = 2 * i + 2 := by omega
  unfold kid
  rcases this with e | e
  · subst e
    split
    · rename_i h
      omega
    · exact Int.le_refl _
  · subst e
    split
    · exact Int.le_refl _
    · rename_i h
      omega
theorem down_end {l : List Rg} {n i : Nat} (h : DownInv l n i) (he : ¬ 2 * i + 1 < n ∨ ¬ key l (kid l n i) < key l i) : HeapN l n := by
  intro k h0 hk
  by_cases e : (k - 1) / 2 = i
  · rcases he with he | he
    · omega
    · have := kid_le (l := l) h0 hk e
      rw [e]
      omega
  · exact h.1 k h0 hk e
theorem down_step {l : List Rg} {n i : Nat} (h : DownInv l n i) (hc : 2 * i + 1 < n) (hl : key l (kid l n i) < key l i) : DownInv (swp l i (kid l n i)) n (kid l n i) := by
  obtain ⟨h1, h2, h3⟩ := h
  obtain ⟨k1, k2, k3⟩ := kid_lt (l := l) hc
  obtain ⟨j, hj⟩ : ∃ j, kid l n i = j := ⟨_, rfl⟩
  have hle := fun c h0 hc he => kid_le (l := l) (n := n) (i := i) (c := c) h0 hc he
  rw [hj] at k1 k2 k3 hl hle ⊢
  have K := fun k => swp_key l i j k (by omega) (by omega)
  refine ⟨fun k h0 hk hne => ?_, fun _ c hc0 hc' he => ?_, by rw [swp_length]; exact h3⟩
  · rw [K, K, if_neg hne]
    by_cases e : k = j
    · subst e
      rw [if_pos k3, if_pos rfl]
      omega
    · rw [if_neg e]
      by_cases e1 : (k - 1) / 2 = i
      · rw [if_pos e1, if_neg (by omega)]
        exact hle k h0 hk e1
      · rw [if_neg e1]
        by_cases e2 : k = i
        · rw [if_pos e2]
          subst e2
          exact h2 h0 j (by omega) k1 k3
        · rw [if_neg e2]
          exact h1 k h0 hk e1
  · rw [K, K, if_neg (by omega), if_pos k3, if_neg (by omega), if_neg (by omega)]
    have := h1 c hc0 hc' (by omega)
    rw [he] at this
    exact this

theorem heap_min {l : List Rg} {n : Nat} (h : HeapN l n) : ∀ i, i < n → key l 0 ≤ key l i := by
  intro i
  induction i using Nat.strongRecOn with
  | _ i ih =>
    intro hi
    by_cases h0 : i = 0
    · rw [h0]
      exact Int.le_refl _
    · have h1 := h i (by omega) hi
      have h2 := ih ((i - 1) / 2) (by omega) (by omega)
      omega
theorem pop_start {l : List Rg} {m : Nat} (h : HeapN l l.length) (hm : l.length = m + 1) : DownInv (swp l 0 m) m 0 := by
  refine ⟨fun k h0 hk hne => ?_, fun h => absurd h (by decide), by rw [swp_length]; omega⟩
  rw [swp_key _ _ _ _ (by omega) (by omega), swp_key _ _ _ _ (by omega) (by omega), if_neg (by omega), if_neg (by omega), if_neg (by omega), if_neg (by omega)]
  exact h k h0 (by omega)
theorem push_start {l : List Rg} (h : HeapN l l.length) (r : Rg) : UpInv (l ++ [r]) l.length := by
  have hk : ∀ i, i < l.length → key (l ++ [r]) i = key l i := by
    intro i hi
    unfold key at_
    rw [List.getD_eq_getElem?_getD, List.getD_eq_getElem?_getD, List.getElem?_append_left hi]
  refine ⟨fun i h0 hi hne => ?_, fun _ c h0 hc he => ?_, by simp⟩
  · have hi' : i < l.length := by simp at hi; omega
    rw [hk _ (by omega), hk _ hi']
    exact h i h0 hi'
  · simp at hc
    omega

/-- Whether a place is covered. -/
def cov (l : List Rg) (k : Int) : Bool := l.any fun r => decide (r.1 ≤ k ∧ k < r.1 + r.2)
theorem cov_iff {l : List Rg} {k : Int} : cov l k = true ↔ ∃ r ∈ l, r.1 ≤ k ∧ k < r.1 + r.2 := by
  unfold cov
  rw [List.any_eq_true]
  constructor
  · rintro ⟨r, hr, h⟩
    exact ⟨r, hr, by simpa using h⟩
  · rintro ⟨r, hr, h⟩
    exact ⟨r, hr, by simpa using h⟩
/-- Whether all places of a stretch are. -/
def covAll (l : List Rg) (i : Int) (n : Nat) : Bool := (List.range n).all fun j => cov l (i + (j : Int))
theorem covAll_iff {l : List Rg} {i : Int} {n : Nat} : covAll l i n = true ↔ ∀ k, i ≤ k → k < i + (n : Int) → cov l k = true := by
  unfold covAll
  rw [List.all_eq_true]
  constructor
  · intro h k h0 h1
    have := h (k - i).toNat (List.mem_range.2 (by omega))
    rwa [show i + ((k - i).toNat : Int) = k by omega] at this
  · intro h j hj
    have := List.mem_range.1 hj
    exact h _ (by omega) (by omega)

/-- The state of the program's loop: those that were popped, those that are left, how far it has come. -/
structure Go (all done rest : List Rg) (i0 i : Int) : Prop where
  perm : (done ++ rest).Perm all
  heap : HeapN rest rest.length
  low : ∀ d ∈ done, ∀ r ∈ rest, d.1 ≤ r.1
  not : ∀ d ∈ done, ¬ (d.1 ≤ i ∧ i < d.1 + d.2)
  yes : ∀ k, i0 ≤ k → k < i → cov all k = true
  le : i0 ≤ i
theorem key_mem {l : List Rg} {r : Rg} (h : r ∈ l) : ∃ i, i < l.length ∧ key l i = r.1 := by
  obtain ⟨i, hi, e⟩ := List.mem_iff_getElem.1 h
  exact ⟨i, hi, by rw [key, at_get l i hi, e]⟩
theorem Go.pop {all done rest : List Rg} {i0 i : Int} {r : Rg} {rest' : List Rg} (h : Go all done rest i0 i) (h0 : 0 < rest.length) (hr : r = at_ rest 0) (hp : (r :: rest').Perm rest) (hh : HeapN rest' rest'.length) :
    (r.1 ≤ i ∧ i < r.1 + r.2 → Go all (r :: done) rest' i0 (r.1 + r.2)) ∧ (¬ (r.1 ≤ i ∧ i < r.1 + r.2) → Go all (r :: done) rest' i0 i) := by
  have hmem : ∀ x ∈ rest', x ∈ rest := fun x hx => hp.mem_iff.1 (List.mem_cons_of_mem _ hx)
  have hrm : r ∈ rest := hp.mem_iff.1 (by simp)
  have hmin : ∀ x ∈ rest, r.1 ≤ x.1 := by
    intro x hx
    obtain ⟨j, hj, e⟩ := key_mem hx
    have := heap_min h.heap j hj
    rw [e] at this
    rw [hr]
    exact this
  have hperm : (r :: done ++ rest').Perm all := by
    refine (List.Perm.trans ?_ h.perm)
    have : (r :: done ++ rest').Perm (done ++ (r :: rest')) := by
      rw [List.cons_append]
      exact (List.perm_middle (l₁ := done) (l₂ := rest') (a := r)).symm
    exact this.trans (hp.append_left done)
  have hlow : ∀ d ∈ r :: done, ∀ x ∈ rest', d.1 ≤ x.1 := by
    intro d hd x hx
    rcases List.mem_cons.1 hd with rfl | hd
    · exact hmin x (hmem x hx)
    · exact h.low d hd x (hmem x hx)
  constructor
  · intro hc
    refine ⟨hperm, hh, hlow, fun d hd => ?_, fun k hk0 hk => ?_, by have := h.le; omega⟩
    · rcases List.mem_cons.1 hd with rfl | hd
      · omega
      · have h1 := h.not d hd
        have h2 := h.low d hd r hrm
        omega
    · by_cases hki : k < i
      · exact h.yes k hk0 hki
      · exact cov_iff.2 ⟨r, h.perm.mem_iff.1 (List.mem_append_right _ hrm), by omega, by omega⟩
  · intro hc
    refine ⟨hperm, hh, hlow, fun d hd => ?_, h.yes, h.le⟩
    rcases List.mem_cons.1 hd with rfl | hd
    · exact hc
    · exact h.not d hd
theorem Go.done_yes {all done rest : List Rg} {i0 i : Int} {n : Nat} (h : Go all done rest i0 i) (hi : i0 + (n : Int) ≤ i) : covAll all i0 n = true := covAll_iff.2 fun k h0 h1 => h.yes k h0 (by omega)
theorem Go.done_no {all done : List Rg} {i0 i : Int} {n : Nat} (h : Go all done [] i0 i) (hi : i < i0 + (n : Int)) : covAll all i0 n = false := by
  cases hc : covAll all i0 n with
  | false => rfl
  | true =>
    exfalso
    obtain ⟨r, hr, h1, h2⟩ := cov_iff.1 (covAll_iff.1 hc i h.le hi)
    have := h.perm.mem_iff.2 hr
    rw [List.append_nil] at this
    exact h.not r this ⟨h1, h2⟩
end Go.Proofs.YtdljajjgppcjpaaGreat.HP

/- Rows of ranges, told as their numbers one behind the other; contracts of laws.eqRange, laws.eqRangeS, laws.markRangeS, laws.heldRangeS and laws.markLoan. -/
namespace Go.Proofs.YtdljajjgppcjpaaGreat.R5
open Go.ChangeShapes Go.WideShapes Go.ChangeAt Go.RowKit
set_option linter.unusedVariables false
set_option linter.unusedSimpArgs false
set_option maxRecDepth 10000

open I2 (ints)
open J0 (Own)
open M0 (marks part_length part_succ part_zero part_all marks_get grown_refl grown_set)

/-- A row of ranges of a call's own. -/
def RBuf (base : Nat) (w : World) (a : Option Addr) (n cap : Nat) (zs : List Int) : Prop := zs.length = n * 2 ∧ w.ownsRow base 38 2 (.slice a n cap) n (ints zs)

theorem infoR : (Tryz.prog.info? 38).map (fun i => (i.zero, i.size, i.bytes)) = some (some (.agg #[.int .i64 0, .int .i64 0]), 2, 16) := by kernel_rfl

variable {base n cap : Nat} {a : Option Addr} {w W : World} {zs : List Int}

theorem RBuf.below (h : RBuf base w a n cap zs) (hb : Below w.heap.size w W) : RBuf base W a n cap zs := ⟨h.1, F0.owns_below h.2 hb⟩
theorem RBuf.alloc (h : RBuf base w a n cap zs) (o : Obj) : RBuf base (w.alloc o) a n cap zs := h.below ((Below.refl _ _).alloc (Nat.le_refl _) o)
theorem rbuf_made (w : World) (hb : base ≤ w.heap.size) : RBuf base (w.alloc (.cells #[] 38)) (some ⟨w.heap.size, 0, none⟩) 0 0 [] := ⟨rfl, World.ownsRow_made w #[] 0 hb (Nat.zero_le _) rfl⟩
theorem rbuf_one (w : World) (x y : Int) (hb : base ≤ w.heap.size) : RBuf base (w.alloc (.cells #[.int .i64 x, .int .i64 y] 38)) (some ⟨w.heap.size, 0, none⟩) 1 1 [x, y] :=
  ⟨rfl, rfl, Or.inr ⟨w.heap.size, 1, #[.int .i64 x, .int .i64 y], rfl, hb, heap_alloc_new w _, Nat.le_refl _, by unfold maxLen; omega, rfl, rfl⟩⟩

theorem RBuf.fits (h : RBuf base w a n cap zs) : n ≤ cap := by
  rcases h.2.2 with ⟨h0, h1⟩ | ⟨g, c, cur, hv, _, _, hle, _⟩
  · omega
  · simp at hv
    omega

theorem RBuf.own (h : RBuf base w a n cap zs) : Own base w a zs := by
  rcases h.2.2 with ⟨h0, h1⟩ | ⟨g, c, cur, hv, hg, hc, hle, _, hs, ht⟩
  · left
    exact List.eq_nil_of_length_eq_zero (by rw [h.1, h1])
  · right
    simp at hv
    have hn := h.1
    refine ⟨g, hv.1, hg, ⟨fun j hj => ?_, fun j hj => ?_, (Array.getElem?_eq_some_iff.1 hc).1⟩⟩
    · have hcell : w.cell? ⟨g, j, none⟩ = cur[j]? := by
        unfold World.cell?
        rw [hc]
        simp
      have hj' : j < zs.length := by simpa using hj
      have e1 : (cur.toList.take (n * 2))[j]? = (ints zs)[j]? := by rw [ht]
      rw [List.getElem?_take_of_lt (by omega)] at e1
      rw [hcell, ← Array.getElem?_toList, e1]
      simp [hj']
    · unfold World.frozen?
      rw [hc]
      simp

theorem one_rng (x y : Int) : ∀ u ∈ [Value.int .i64 x, .int .i64 y], u.oneCell' = true := by
  intro u h
  simp at h
  rcases h with rfl | rfl <;> rfl

/-- 'list = append(list, Range{..})'. -/
theorem append_rng {ops : Array Oper} {rest : List Oper} {o : Oper} {A : Act} {Q : Exit → Act → World → Prop} (hgd : o.guard = none) (sl x : Operand)
    (ho : o.op = .call { callee := .builtin .append, args := #[sl, x], argTypes := #[30, 30] })
    (hbuf : RBuf base w a n cap zs) (u v : Int) (hs : A.eval sl = .slice a n cap) (hx : A.eval x = .slice (some ⟨w.heap.size, 0, none⟩) 1 1) (hlen : n + 1 ≤ 1048576) (hb : base ≤ w.heap.size)
    (h : ∀ g' cap' w', RBuf base w' (some ⟨g', 0, none⟩) (n + 1) cap' (zs ++ [u, v]) → Below base w w' → wpList Tryz.prog ops Q rest (A.put o.dst (.slice (some ⟨g', 0, none⟩) (n + 1) cap')) w') : wpList Tryz.prog ops Q (o :: rest) A (w.alloc (.cells #[.int .i64 u, .int .i64 v] 38)) := by
  obtain ⟨i0, hi, hz0, hz1, hz2⟩ := info_parts infoR
  have hb2 := hbuf.alloc (.cells #[.int .i64 u, .int .i64 v] 38)
  refine wpList_append_lies _ hgd sl x 30 ho base 38 i0 (.agg #[.int .i64 0, .int .i64 0]) 2 16 Tryz.underlying30 hi hz0 hz1 hz2 rfl (by omega) _ n _ hs hb2.2 ⟨w.heap.size, 0, none⟩ 1 1 [.int .i64 u, .int .i64 v] hx rfl (World.news_of_block (heap_alloc_new w _)) (one_rng u v) (by omega) (by unfold maxLen; omega) (by omega) (by simp; omega) _ rfl ?_
  intro g' cap' w' ho' hg' _ _
  refine h g' cap' w' ⟨by rw [List.length_append, hbuf.1]; simp; omega, ?_⟩ ?_
  · rw [show ints (zs ++ [u, v]) = ints zs ++ [.int .i64 u, .int .i64 v] by simp]
    exact ho'
  · exact F0.below_grown ((Below.refl _ _).alloc hb _) hg' (fun g hg => (hbuf.2.lt g hg).1) (by simp; omega)

end Go.Proofs.YtdljajjgppcjpaaGreat.R5

/- The heap of ranges in memory; the contracts of its methods. -/
namespace Go.Proofs.YtdljajjgppcjpaaGreat.HP
open Go.ChangeShapes Go.WideShapes Go.ChangeAt Go.RowKit
set_option linter.unusedVariables false
set_option linter.unusedSimpArgs false
set_option maxRecDepth 10000
variable {w W W' : World} {base Bh g c : Nat} {l : List Rg}

def fr : List Rg → List Value
  | [] => []
  | r :: t => .int .i64 r.1 :: .int .i64 r.2 :: fr t
theorem fr_length : ∀ l : List Rg, (fr l).length = l.length * 2
  | [] => rfl
  | r :: t => by simp [fr, fr_length t]; omega
theorem fr_append : ∀ l m : List Rg, fr (l ++ m) = fr l ++ fr m
  | [], m => rfl
  | r :: t, m => by simp [fr, fr_append t m]
theorem fr_get : ∀ (l : List Rg) (i : Nat), i < l.length → (fr l)[i * 2]? = some (.int .i64 (at_ l i).1) ∧ (fr l)[i * 2 + 1]? = some (.int .i64 (at_ l i).2)
  | [], i, h => by simp at h
  | r :: t, 0, _ => by simp [fr, at_]
  | r :: t, i + 1, h => by
    have := fr_get t i (by simpa using h)
    have e : at_ (r :: t) (i + 1) = at_ t i := by simp [at_]
    rw [e, show (i + 1) * 2 = i * 2 + 1 + 1 by omega, show i * 2 + 1 + 1 + 1 = (i * 2 + 1) + 1 + 1 by omega]
    simpa [fr] using this
theorem fr_set : ∀ (l : List Rg) (i : Nat) (r : Rg), ((fr l).set (i * 2) (.int .i64 r.1)).set (i * 2 + 1) (.int .i64 r.2) = fr (l.set i r)
  | [], i, r => by simp [fr]
  | q :: t, 0, r => by simp [fr]
  | q :: t, i + 1, r => by
    have := fr_set t i r
    rw [show (i + 1) * 2 = i * 2 + 1 + 1 by omega]
    simp only [fr, List.set_cons_succ]
    rw [this]

/-- The heap: a slice in a cell, and its row. -/
structure HS (base Bh g c : Nat) (l : List Rg) (W : World) : Prop where
  cell : W.cell? ⟨Bh, 0, none⟩ = some (.slice (some ⟨g, 0, none⟩) l.length c)
  free : W.frozen? ⟨Bh, 0, none⟩ = false
  buf : W.ownsRow base 38 2 (.slice (some ⟨g, 0, none⟩) l.length c) l.length (fr l)
  ne : g ≠ Bh
  lo : base ≤ Bh
  lt : Bh < W.heap.size
theorem HS.drewN (h : HS base Bh g c l W) (n : Nat) : HS base Bh g c l (W.drewN n) := ⟨h.cell, h.free, h.buf, h.ne, h.lo, h.lt⟩
theorem HS.drew (h : HS base Bh g c l W) : HS base Bh g c l W.drew := ⟨h.cell, h.free, h.buf, h.ne, h.lo, h.lt⟩
theorem HS.below (h : HS base Bh g c l W) (hb : Below W.heap.size W W') : HS base Bh g c l W' :=
  ⟨(hb.cell (p := ⟨Bh, 0, none⟩) h.lt).trans h.cell, (hb.frozen (p := ⟨Bh, 0, none⟩) h.lt).trans h.free, F0.owns_below h.buf hb, h.ne, h.lo, Nat.lt_of_lt_of_le h.lt hb.size⟩
theorem HS.get (h : HS base Bh g c l W) {i : Nat} (hi : i < l.length) : W.cell? ⟨g, i * 2, none⟩ = some (.int .i64 (at_ l i).1) ∧ W.cell? ⟨g, i * 2 + 1, none⟩ = some (.int .i64 (at_ l i).2) := by
  obtain ⟨h1, h2⟩ := fr_get l i hi
  exact ⟨(h.buf.cellAt (i * 2) (by omega)).trans h1, (h.buf.cellAt (i * 2 + 1) (by omega)).trans h2⟩
theorem HS.glt (h : HS base Bh g c l W) : base ≤ g ∧ g < W.heap.size := h.buf.lt g rfl
theorem HS.room (h : HS base Bh g c l W) : l.length ≤ c := by
  rcases h.buf.2 with ⟨h', _⟩ | ⟨g', cap', cur, h', hb, hg, hnc, hcm, hcs, ht⟩
  · cases h'
  · cases h'
    exact hnc
theorem HS.putAt (h : HS base Bh g c l W) (i : Nat) (r : Rg) : HS base Bh g c (l.set i r) ((W.setCell ⟨g, i * 2, none⟩ (.int .i64 r.1)).setCell ⟨g, i * 2 + 1, none⟩ (.int .i64 r.2)) := by
  have s1 := h.buf.stored (i * 2) (.int .i64 r.1)
  have s2 := s1.1.stored (i * 2 + 1) (.int .i64 r.2)
  have hb := s2.1
  rw [fr_set] at hb
  have hne : ∀ j, (⟨g, j, none⟩ : Addr) ≠ ⟨Bh, 0, none⟩ := fun j q => h.ne (Addr.mk.inj q).1
  refine ⟨?_, ?_, by rw [List.length_set]; exact hb, h.ne, h.lo, by have := h.lt; simpa [World.setCell] using this⟩
  · rw [World.cell?_setCell_other _ _ _ _ (hne _), World.cell?_setCell_other _ _ _ _ (hne _), List.length_set]
    exact h.cell
  · rw [World.frozen?_setCell, World.frozen?_setCell]
    exact h.free

set_option maxHeartbeats 1000000 in
theorem less (i j : Nat) (w : World) (h : HS base Bh g c l w) (hi : i < l.length) (hj : j < l.length) :
    Calls Tryz.prog 195 #[.slice (some ⟨g, 0, none⟩) l.length c, .int .i64 (i : Int), .int .i64 (j : Int)] w fun e w' => e = .returned (.bool (decide (key l i < key l j))) ∧ ∃ m, w' = w.drewN m := by
  have x1 := (h.get hi).1
  have x2 := (h.get hj).1
  have e1 : (0 : Int) ≤ (i : Int) := by omega
  have e2 : (i : Int) < (l.length : Int) := by omega
  have e3 : (0 : Int) ≤ (j : Int) := by omega
  have e4 : (j : Int) < (l.length : Int) := by omega
  have hk : key l i = (at_ l i).1 := rfl
  have hk' : key l j = (at_ l j).1 := rfl
  rw [hk, hk']
  obtain ⟨a, ha⟩ : ∃ a, (at_ l i).1 = a := ⟨_, rfl⟩
  obtain ⟨b, hb⟩ : ∃ b, (at_ l j).1 = b := ⟨_, rfl⟩
  rw [ha] at x1 ⊢
  rw [hb] at x2 ⊢
  clear h hk hk' ha hb
  go_enter Tryz.func195, Tryz.ntmps195
  go_wp2
  go_quiet (fail)
  go_wp2
  go_ret
  exact ⟨rfl, _, rfl⟩

set_option maxHeartbeats 2000000 in
theorem swap (i j : Nat) (w : World) (h : HS base Bh g c l w) (hi : i < l.length) (hj : j < l.length) :
    Calls Tryz.prog 198 #[.slice (some ⟨g, 0, none⟩) l.length c, .int .i64 (i : Int), .int .i64 (j : Int)] w fun e w' => e = .returned (.tuple #[]) ∧ HS base Bh g c (swp l i j) w' ∧ w.grownBy w' (some g) := by
  obtain ⟨x1, x2⟩ := h.get hi
  obtain ⟨y1, y2⟩ := h.get hj
  have e1 : (0 : Int) ≤ (i : Int) := by omega
  have e2 : (i : Int) < (l.length : Int) := by omega
  have e3 : (0 : Int) ≤ (j : Int) := by omega
  have e4 : (j : Int) < (l.length : Int) := by omega
  have f1 := h.buf.frozenAt (i * 2)
  have f2 := h.buf.frozenAt (i * 2 + 1)
  have f3 := h.buf.frozenAt (j * 2)
  have f4 := h.buf.frozenAt (j * 2 + 1)
  have hA := h.putAt i (at_ l j)
  have hB := h.putAt j (at_ l i)
  obtain ⟨u1, p1⟩ : ∃ u, ((w.setCell ⟨g, i * 2, none⟩ (.int .i64 (at_ l j).1)).setCell ⟨g, i * 2 + 1, none⟩ (.int .i64 (at_ l j).2)).cell? ⟨g, j * 2, none⟩ = some u := ⟨_, (hA.get (i := j) (by rw [List.length_set]; exact hj)).1⟩
  obtain ⟨u2, p2⟩ : ∃ u, ((w.setCell ⟨g, i * 2, none⟩ (.int .i64 (at_ l j).1)).setCell ⟨g, i * 2 + 1, none⟩ (.int .i64 (at_ l j).2)).cell? ⟨g, j * 2 + 1, none⟩ = some u := ⟨_, (hA.get (i := j) (by rw [List.length_set]; exact hj)).2⟩
  obtain ⟨u3, p3⟩ : ∃ u, ((w.setCell ⟨g, j * 2, none⟩ (.int .i64 (at_ l i).1)).setCell ⟨g, j * 2 + 1, none⟩ (.int .i64 (at_ l i).2)).cell? ⟨g, i * 2, none⟩ = some u := ⟨_, (hB.get (i := i) (by rw [List.length_set]; exact hi)).1⟩
  obtain ⟨u4, p4⟩ : ∃ u, ((w.setCell ⟨g, j * 2, none⟩ (.int .i64 (at_ l i).1)).setCell ⟨g, j * 2 + 1, none⟩ (.int .i64 (at_ l i).2)).cell? ⟨g, i * 2 + 1, none⟩ = some u := ⟨_, (hB.get (i := i) (by rw [List.length_set]; exact hi)).2⟩
  have HA := hA.putAt j (at_ l i)
  have HB := hB.putAt i (at_ l j)
  have eB : (l.set j (at_ l i)).set i (at_ l j) = swp l i j := by
    unfold swp
    by_cases e : i = j
    · subst e
      rfl
    · exact List.set_comm _ _ (fun q => e q.symm)
  rw [eB] at HB
  have GA : w.grownBy ((((w.setCell ⟨g, i * 2, none⟩ (.int .i64 (at_ l j).1)).setCell ⟨g, i * 2 + 1, none⟩ (.int .i64 (at_ l j).2)).setCell ⟨g, j * 2, none⟩ (.int .i64 (at_ l i).1)).setCell ⟨g, j * 2 + 1, none⟩ (.int .i64 (at_ l i).2)) (some g) := M0.grown_set (M0.grown_set (M0.grown_set (M0.grown_set (M0.grown_refl _ _) _) _) _) _
  have GB : w.grownBy ((((w.setCell ⟨g, j * 2, none⟩ (.int .i64 (at_ l i).1)).setCell ⟨g, j * 2 + 1, none⟩ (.int .i64 (at_ l i).2)).setCell ⟨g, i * 2, none⟩ (.int .i64 (at_ l j).1)).setCell ⟨g, i * 2 + 1, none⟩ (.int .i64 (at_ l j).2)) (some g) := M0.grown_set (M0.grown_set (M0.grown_set (M0.grown_set (M0.grown_refl _ _) _) _) _) _
  have FA : Hid (HS base Bh g c (swp l i j) ((((w.setCell ⟨g, i * 2, none⟩ (.int .i64 (at_ l j).1)).setCell ⟨g, i * 2 + 1, none⟩ (.int .i64 (at_ l j).2)).setCell ⟨g, j * 2, none⟩ (.int .i64 (at_ l i).1)).setCell ⟨g, j * 2 + 1, none⟩ (.int .i64 (at_ l i).2))) := HA
  have FB : Hid (HS base Bh g c (swp l i j) ((((w.setCell ⟨g, j * 2, none⟩ (.int .i64 (at_ l i).1)).setCell ⟨g, j * 2 + 1, none⟩ (.int .i64 (at_ l i).2)).setCell ⟨g, i * 2, none⟩ (.int .i64 (at_ l j).1)).setCell ⟨g, i * 2 + 1, none⟩ (.int .i64 (at_ l j).2))) := HB
  clear hA hB HA HB eB h
  go_enter Tryz.func198, Tryz.ntmps198
  go_wp2
  go_region
  all_goals
    go_wp2
    refine bodyPost_end (v := .tuple #[]) (by simp [results, Tryz.results198, go_sem]) rfl ?_
  · first
      | exact ⟨rfl, FA.out.drew, TW.grown_drew GA⟩
      | exact ⟨rfl, FB.out.drew, TW.grown_drew GB⟩
  all_goals first
      | exact ⟨rfl, FA.out.drew, TW.grown_drew GA⟩
      | exact ⟨rfl, FB.out.drew, TW.grown_drew GB⟩

theorem asRange (v : Value) (w : World) : (Instr.typeAssert (.iface 38 v) 20 38 false).run Tryz.prog w = .ok v w := by kernel_rfl
end Go.Proofs.YtdljajjgppcjpaaGreat.HP

/- The contracts of the heap's Push and Pop, and of container/heap's up. -/
namespace Go.Proofs.YtdljajjgppcjpaaGreat.HP
open Go.ChangeShapes Go.WideShapes Go.ChangeAt Go.RowKit
set_option linter.unusedVariables false
set_option linter.unusedSimpArgs false
set_option maxRecDepth 10000
variable {w W W' : World} {base Bh g c : Nat} {l : List Rg}

/-- Nothing has turned but the heap's cell, its row, and new blocks. -/
structure Chg (Bh g g' : Nat) (w w' : World) : Prop where
  os : w'.os = w.os
  tape : w'.tape = w.tape
  output : w'.output = w.output
  size : w.heap.size ≤ w'.heap.size
  block : ∀ k, k < w.heap.size → k ≠ Bh → k ≠ g → w'.heap[k]? = w.heap[k]?
  loc : g' = g ∨ w.heap.size ≤ g'
theorem Chg.of {g' : Nat} (h : w.grownBy W (some g)) : Chg Bh g g w W := ⟨h.os, h.tape, h.output, h.size, fun k hk _ hg => h.block k hk (fun e => hg (Option.some.inj e)), Or.inl rfl⟩
theorem Chg.grown {g' : Nat} (h : Chg Bh g g' w W) (k : W.grownBy W' (some g')) : Chg Bh g g' w W' :=
  ⟨k.os.trans h.os, k.tape.trans h.tape, k.output.trans h.output, Nat.le_trans h.size k.size, fun j hj hb hg => by
    rw [k.block j (Nat.lt_of_lt_of_le hj h.size) (fun e => by
      have e' := Option.some.inj e
      rcases h.loc with q | q
      · exact hg (e'.trans q)
      · omega)]
    exact h.block j hj hb hg, h.loc⟩
theorem Chg.below {b g' : Nat} (h : Chg Bh g g' w W) (hB : b ≤ Bh) (hg : b ≤ g) (hs : b ≤ w.heap.size) : Below b w W :=
  ⟨h.os, h.tape, h.output, h.size, fun k hk => h.block k (by omega) (by omega) (by omega)⟩

theorem HS.head {g' c' : Nat} {l' : List Rg} {u : Value} {n' : Nat} (bf : W.ownsRow base 38 2 (.slice (some ⟨g', 0, none⟩) n' c') n' (fr l')) (hn : l'.length = n') (x : W.cell? ⟨Bh, 0, none⟩ = some u) (f : W.frozen? ⟨Bh, 0, none⟩ = false) (ne : g' ≠ Bh) (lo : base ≤ Bh) (lt : Bh < W.heap.size) : HS base Bh g' c' l' (W.setCell ⟨Bh, 0, none⟩ (.slice (some ⟨g', 0, none⟩) n' c')) := by
  subst hn
  refine ⟨World.cell?_setCell_same _ _ _ x, by rw [World.frozen?_setCell]; exact f, ownsRow_setCell_other bf (a := ⟨Bh, 0, none⟩) (fun e => ne (Option.some.inj e)) _, ne, lo, by simpa [World.setCell] using lt⟩
theorem Chg.head {g' : Nat} (h : w.grownBy W (some g)) (loc : g' = g ∨ w.heap.size ≤ g') (u : Value) : Chg Bh g g' w (W.setCell ⟨Bh, 0, none⟩ u) :=
  ⟨h.os, h.tape, h.output, Nat.le_trans h.size (by simp [World.setCell]), fun k hk hB hg => (heap_setCell_other W ⟨Bh, 0, none⟩ k u hB).trans (h.block k hk (fun e => hg (Option.some.inj e))), loc⟩

theorem Chg.ofDrew {g' : Nat} (h : Chg Bh g g' w.drew W) : Chg Bh g g' w W := ⟨h.os, h.tape, h.output, h.size, h.block, h.loc⟩
theorem infoRg : (Tryz.prog.info? 38).map (fun i => (i.zero, i.size, i.bytes)) = some (some (.agg #[.int .i64 0, .int .i64 0]), 2, 16) := by kernel_rfl
theorem one_rg (u v : Int) : ∀ x ∈ [Value.int .i64 u, .int .i64 v], x.oneCell' = true := by
  intro x h
  simp at h
  rcases h with rfl | rfl <;> rfl

theorem step_push {ops : Array Oper} {o : Oper} {A : Act} {K : Act → World → Prop} {Q : Exit → Act → World → Prop} {E : Prop} (hgd : o.guard = none) (sl x : Operand)
    (ho : o.op = .call { callee := .builtin .append, args := #[sl, x], argTypes := #[63, 63] })
    (hbuf : w.ownsRow base 38 2 (.slice (some ⟨g, 0, none⟩) l.length c) l.length (fr l)) (r : Rg) (hs : A.eval sl = .slice (some ⟨g, 0, none⟩) l.length c) {H : Nat} (hH : w.heap.size = H) (hx : A.eval x = .slice (some ⟨H, 0, none⟩) 1 1) (hlen : l.length + 1 ≤ 1048576) (hb : base ≤ w.heap.size)
    (h : ∀ g' cap' w', w'.ownsRow base 38 2 (.slice (some ⟨g', 0, none⟩) (l.length + 1) cap') (l.length + 1) (fr (l ++ [r])) → w.grownBy w' (some g) → (g' = g ∨ w.heap.size < g') → K (A.put o.dst (.slice (some ⟨g', 0, none⟩) (l.length + 1) cap')) w') :
    if Region.wanted o (yielded ops A.tmps) = true then Oper.wp Tryz.prog o A (w.alloc (.cells #[.int .i64 r.1, .int .i64 r.2] 38)) K Q else E := by
  subst hH
  obtain ⟨i0, hi, hz0, hz1, hz2⟩ := info_parts infoRg
  have hb2 := hbuf.alloc (.cells #[.int .i64 r.1, .int .i64 r.2] 38)
  refine step_append_lies _ hgd sl x 63 ho base 38 i0 (.agg #[.int .i64 0, .int .i64 0]) 2 16 Tryz.underlying63 hi hz0 hz1 hz2 rfl (by omega) _ l.length _ hs hb2 ⟨w.heap.size, 0, none⟩ 1 1 [.int .i64 r.1, .int .i64 r.2] hx rfl (World.news_of_block (heap_alloc_new w _)) (one_rg r.1 r.2) (by omega) (by unfold maxLen; omega) (by omega) (by simp; omega) _ rfl ?_
  intro g' cap' w' ho' hg' hl' _
  refine h g' cap' w' ?_ ((World.grownBy_alloc w _ _).trans hg') ?_
  · rw [fr_append]
    exact ho'
  · rcases hl' with q | q
    · left
      have e' : g = g' := by simpa [Value.ownBlock] using q
      exact e'.symm
    · right
      rw [q]
      simp

set_option maxHeartbeats 2000000 in
theorem push (r : Rg) (w : World) (h : HS base Bh g c l w) (hlen : l.length + 1 ≤ 1048576) :
    Calls Tryz.prog 197 #[.pointer (some ⟨Bh, 0, none⟩), .iface 38 (.agg #[.int .i64 r.1, .int .i64 r.2])] w fun e w' => e = .returned (.tuple #[]) ∧ ∃ g' c', HS base Bh g' c' (l ++ [r]) w' ∧ Chg Bh g g' w w' := by
  have x0 := h.cell
  have f0 := h.free
  have hta := fun v W => asRange v W
  have hS0 : w.drew.cell? ⟨Bh, 0, none⟩ = some (.slice (some ⟨g, 0, none⟩) l.length c) := x0
  have hnew := K0.below_new w.drew (.cells #[.int .i64 r.1, .int .i64 r.2] 38)
  have hS1 : (w.drew.alloc (.cells #[.int .i64 r.1, .int .i64 r.2] 38)).cell? ⟨Bh, 0, none⟩ = some (.slice (some ⟨g, 0, none⟩) l.length c) := (hnew.cell (p := ⟨Bh, 0, none⟩) h.lt).trans hS0
  have hS2 : (w.alloc (.cells #[.int .i64 r.1, .int .i64 r.2] 38)).cell? ⟨Bh, 0, none⟩ = some (.slice (some ⟨g, 0, none⟩) l.length c) := hS1
  have hbuf : w.drew.ownsRow base 38 2 (.slice (some ⟨g, 0, none⟩) l.length c) l.length (fr l) := h.buf
  have hbs : base ≤ w.drew.heap.size := Nat.le_trans h.lo (Nat.le_of_lt h.lt)
  have HH : Hid (HS base Bh g c l w) := h
  have hlenl : (l ++ [r]).length = l.length + 1 := by simp
  clear h hnew
  go_enter Tryz.func197, Tryz.ntmps197
  go_wp2
  go_region_law (refine step_push rfl (.tmp 7) (.tmp 10) rfl hbuf r (by rfl) (H := w.heap.size) rfl (by rfl) hlen hbs ?_; intro g3 c3 w3 bf3 gr3 q3; have x3 : w3.cell? ⟨Bh, 0, none⟩ = some (.slice (some ⟨g, 0, none⟩) l.length c) := gr3.cell hS0 (by have := HH.out.ne; simpa using this.symm); have f3 : w3.frozen? ⟨Bh, 0, none⟩ = false := (World.frozen?_of_block (a := ⟨Bh, 0, none⟩) (gr3.block Bh HH.out.lt (by have := HH.out.ne; simpa using this.symm))).trans HH.out.free)
  all_goals (
    refine bodyPost_end (v := .tuple #[]) (by simp [results, Tryz.results197, go_sem]) rfl ?_
    refine ⟨rfl, g3, c3, HS.head (l' := l ++ [r]) bf3 (by simp) x3 f3 ?_ HH.out.lo (Nat.lt_of_lt_of_le HH.out.lt gr3.size), (Chg.head gr3 ?_ _).ofDrew⟩
    · have := HH.out.ne
      have := HH.out.lt
      rcases q3 with q | q
      · rw [q]; exact HH.out.ne
      · have q' : w.heap.size < g3 := q
        omega
    · rcases q3 with q | q
      · exact Or.inl q
      · exact Or.inr (Nat.le_of_lt q))

set_option maxHeartbeats 2000000 in
theorem pop (r : Rg) (w : World) (h : HS base Bh g c (l ++ [r]) w) :
    Calls Tryz.prog 196 #[.pointer (some ⟨Bh, 0, none⟩)] w fun e w' => e = .returned (.iface 38 (.agg #[.int .i64 r.1, .int .i64 r.2])) ∧ HS base Bh g c l w' ∧ Chg Bh g g w w' := by
  have hl : (l ++ [r]).length = l.length + 1 := by simp
  have x0 := h.cell
  have f0 := h.free
  have hr := h.room
  have hg := h.get (i := l.length) (by simp)
  have ha : at_ (l ++ [r]) l.length = r := by simp [at_]
  rw [ha] at hg
  obtain ⟨x1, x2⟩ := hg
  have hbuf := h.buf
  rw [hl] at x0 hr hbuf
  have hbf2 : w.ownsRow base 38 2 (.slice (some ⟨g, 0, none⟩) l.length c) l.length (fr l) := by
    rw [fr_append] at hbuf
    exact ownsRow_pop (fr_length l) hbuf
  have HH : Hid (HS base Bh g c (l ++ [r]) w) := h
  have hm : c ≤ 9223372036854775807 := by
    rcases hbuf.2 with ⟨h', _⟩ | ⟨g', cap', cur, h', hb, hg, hnc, hcm, hcs, ht⟩
    · cases h'
    · cases h'
      unfold maxLen at hcm
      omega
  have hc : l.length ≤ c := by omega
  have e1 : ((l.length + 1 : Nat) : Int) - 1 = (l.length : Int) := by omega
  obtain ⟨n, hn⟩ : ∃ n, l.length = n := ⟨_, rfl⟩
  rw [hn] at x0 hr x1 x2 hbuf hbf2 hc e1
  have e2 : (0 : Int) ≤ (n : Int) := by omega
  have e3 : (n : Int) < ((n + 1 : Nat) : Int) := by omega
  have e4 : (n : Int) < (n : Int) + 1 := by omega
  have ew : wrap64 (n : Int) = (n : Int) := by unfold wrap64; omega
  have hnew := K0.below_new w (.cells #[.int .i64 r.1, .int .i64 r.2] 38)
  have z1 : (w.alloc (.cells #[.int .i64 r.1, .int .i64 r.2] 38)).cell? ⟨Bh, 0, none⟩ = some (.slice (some ⟨g, 0, none⟩) (n + 1) c) := (hnew.cell (p := ⟨Bh, 0, none⟩) h.lt).trans x0
  have z2 : (w.alloc (.cells #[.int .i64 r.1, .int .i64 r.2] 38)).frozen? ⟨Bh, 0, none⟩ = false := (hnew.frozen (p := ⟨Bh, 0, none⟩) h.lt).trans f0
  have hbn : Bh ≠ w.heap.size := Nat.ne_of_lt h.lt
  have hbf3 := hbf2.alloc (.cells #[.int .i64 r.1, .int .i64 r.2] 38)
  have hgr := World.grownBy_alloc w (.cells #[.int .i64 r.1, .int .i64 r.2] 38) (some g)
  have y : ∀ k, ((w.alloc (.cells #[.int .i64 r.1, .int .i64 r.2] 38)).setCell ⟨Bh, 0, none⟩ (.slice (some ⟨g, 0, none⟩) n c)).cell? ⟨w.heap.size, k, none⟩ = (w.alloc (.cells #[.int .i64 r.1, .int .i64 r.2] 38)).cell? ⟨w.heap.size, k, none⟩ := fun k => World.cell?_setCell_other _ _ _ _ (fun q => hbn (Addr.mk.inj q).1)
  have y1 := (y 0).trans (show _ = some (Value.int .i64 r.1) by simp only [World.cell?, heap_alloc_new]; rfl)
  have y2 := (y 1).trans (show _ = some (Value.int .i64 r.2) by simp only [World.cell?, heap_alloc_new]; rfl)
  clear h hl ha hnew y
  go_enter Tryz.func196, Tryz.ntmps196
  go_wp2
  go_ret
  exact ⟨rfl, HS.head (l' := l) hbf3 hn z1 z2 HH.out.ne HH.out.lo (Nat.lt_of_lt_of_le HH.out.lt hgr.size), Chg.head hgr (Or.inl rfl) _⟩
end Go.Proofs.YtdljajjgppcjpaaGreat.HP

/- The contracts of container/heap over the heap of ranges. -/
namespace Go.Proofs.YtdljajjgppcjpaaGreat.HP
open Go.ChangeShapes Go.WideShapes Go.ChangeAt Go.RowKit
set_option linter.unusedVariables false
set_option linter.unusedSimpArgs false
set_option maxRecDepth 10000
variable {w W W' : World} {base Bh g c : Nat} {l : List Rg}

abbrev hI (Bh : Nat) : Value := .iface 62 (.pointer (some ⟨Bh, 0, none⟩))

theorem mPush (p : Option Addr) (w : World) : (method 344 62 (.pointer p) "Push").run Tryz.prog w = .ok (197, .pointer p) w := by kernel_rfl
theorem mPop (p : Option Addr) (w : World) : (method 344 62 (.pointer p) "Pop").run Tryz.prog w = .ok (196, .pointer p) w := by kernel_rfl
theorem mLess0 (a : Addr) (w : World) : (method 344 62 (.pointer (some a)) "Less").run Tryz.prog w = (do let v ← loadVar 63 a; pure (195, v) : Sem (FuncId × Value)).run Tryz.prog w := by kernel_rfl
theorem mSwap0 (a : Addr) (w : World) : (method 344 62 (.pointer (some a)) "Swap").run Tryz.prog w = (do let v ← loadVar 63 a; pure (198, v) : Sem (FuncId × Value)).run Tryz.prog w := by kernel_rfl
theorem mLen0 (a : Addr) (w : World) : (method 344 62 (.pointer (some a)) "Len").run Tryz.prog w = (do let v ← loadVar 63 a; pure (35, v) : Sem (FuncId × Value)).run Tryz.prog w := by kernel_rfl
theorem mLess {v : Value} (h : w.cell? ⟨Bh, 0, none⟩ = some v) : (method 344 62 (.pointer (some ⟨Bh, 0, none⟩)) "Less").run Tryz.prog w = .ok (195, v) w := by
  rw [mLess0]
  simp [go_sem, h]
theorem mSwap {v : Value} (h : w.cell? ⟨Bh, 0, none⟩ = some v) : (method 344 62 (.pointer (some ⟨Bh, 0, none⟩)) "Swap").run Tryz.prog w = .ok (198, v) w := by
  rw [mSwap0]
  simp [go_sem, h]
theorem mLen {v : Value} (h : w.cell? ⟨Bh, 0, none⟩ = some v) : (method 344 62 (.pointer (some ⟨Bh, 0, none⟩)) "Len").run Tryz.prog w = .ok (35, v) w := by
  rw [mLen0]
  simp [go_sem, h]
theorem gdn {row : Option Nat} (h : w.grownBy W row) (n : Nat) : w.grownBy (W.drewN n) row := ⟨h.os, h.tape, h.output, h.size, h.block⟩
theorem quo2 (j i : Nat) (h : i = (j - 1) / 2) : ((j : Int) - 1).tdiv 2 = (i : Int) := by
  subst h
  cases j with
  | zero => rfl
  | succ k =>
    rw [show ((k + 1 : Nat) : Int) - 1 = (k : Int) by omega, show k + 1 - 1 = k by omega]
    rfl

set_option maxHeartbeats 2000000 in
theorem up (j : Nat) (w : World) (h : HS base Bh g c l w) (hu : UpInv l j) (hlen : l.length ≤ 1048576) :
    Calls Tryz.prog 76 #[hI Bh, .int .i64 (j : Int)] w fun e w' => e = .returned (.tuple #[]) ∧ ∃ l', HS base Bh g c l' w' ∧ l'.Perm l ∧ HeapN l' l'.length ∧ w.grownBy w' (some g) := by
  go_enter Tryz.func76, Tryz.ntmps76
  go_wp2
  go_loopg [1] (j + 1) (fun gk v W => ∃ (j' : Nat) (l' : List Rg), j' < gk ∧ v = .int .i64 (j' : Int) ∧ HS base Bh g c l' W ∧ UpInv l' j' ∧ l'.Perm l ∧ w.grownBy W (some g))
  case atStart => exact ⟨j, l, by omega, rfl, h, hu, List.Perm.refl _, M0.grown_refl _ _⟩
  case round =>
    obtain ⟨j', l', hj, rfl, hs, hui, hp, hg⟩ := hrel
    have hjl := hui.2.2
    have hl' : l'.length ≤ 1048576 := hp.length_eq ▸ hlen
    obtain ⟨i, hi⟩ : ∃ i : Nat, i = (j' - 1) / 2 := ⟨_, rfl⟩
    have x0 := hs.cell
    have ei : ((j' : Int) - 1).tdiv 2 = (i : Int) := quo2 j' i hi
    have ew2 : wrap64 (i : Int) = (i : Int) := by unfold wrap64; omega
    have ew : wrap64 ((j' : Int) - 1) = (j' : Int) - 1 := by unfold wrap64; omega
    have HA : Hid (j' < gk ∧ HS base Bh g c l' wr ∧ UpInv l' j' ∧ l'.Perm l ∧ w.grownBy wr (some g) ∧ i = (j' - 1) / 2 ∧ l'.length ≤ 1048576) := ⟨hj, hs, hui, hp, hg, hi, hl'⟩
    clear hj hui hp hg hi h hu
    by_cases e : j' = 0
    · subst e
      have e1 : i = 0 := HA.out.2.2.2.2.2.1
      subst e1
      go_wp2
      refine bodyPost_end (v := .tuple #[]) (by simp [results, Tryz.results76, go_sem]) rfl ?_
      obtain ⟨hj, hs, hui, hp, hg, hi, hl'⟩ := HA.out
      exact ⟨rfl, l', hs, hp, up_end hui (Or.inl rfl), hg⟩
    · have hne : ((i : Int) == (j' : Int)) = false := by
        have := HA.out.2.2.2.2.2.1
        simp
        omega
      have hil : i < l'.length := by have := HA.out.2.2.2.2.2.1; omega
      have hm := mLess x0
      have hm2 := fun n => mSwap (w := wr.drewN n) (show (wr.drewN n).cell? ⟨Bh, 0, none⟩ = some _ from x0)
      by_cases hk : key l' j' < key l' i
      · have hd : decide (key l' j' < key l' i) = true := decide_eq_true hk
        clear hk
        go_wp2_with (first
          | (go_at_call 195; refine (less j' i _ hs hjl hil).mono ?_; rintro e w1 ⟨rfl, m, rfl⟩; rw [hd]; have hs1 := HA.out.2.1.drewN m; clear hs)
          | (go_at_call 198; refine (swap i j' _ hs1 hil hjl).mono ?_; rintro e w2 ⟨rfl, hs2, hg2⟩))
        obtain ⟨hj, hs, hui, hp, hg, hi, hl'⟩ := HA.out
        go_roundg (i + 1)
        case measure => omega
        case rel => exact ⟨i, swp l' i j', by omega, by go_num, hs2, hi ▸ up_step hui (by omega) (hi ▸ of_decide_eq_true hd), (swp_perm l' i j' hil hjl).trans hp, (gdn hg m).trans hg2⟩
      · have hd : decide (key l' j' < key l' i) = false := decide_eq_false hk
        clear hk
        go_wp2_with (go_at_call 195; refine (less j' i _ hs hjl hil).mono ?_; rintro e w1 ⟨rfl, m, rfl⟩; rw [hd]; clear hs)
        refine bodyPost_end (v := .tuple #[]) (by simp [results, Tryz.results76, go_sem]) rfl ?_
        obtain ⟨hj, hs, hui, hp, hg, hi, hl'⟩ := HA.out
        exact ⟨rfl, l', hs.drewN m, hp, up_end hui (Or.inr (hi ▸ of_decide_eq_false hd)), gdn hg m⟩
end Go.Proofs.YtdljajjgppcjpaaGreat.HP

/- container/heap's down over the heap of ranges. -/
namespace Go.Proofs.YtdljajjgppcjpaaGreat.HP
open Go.ChangeShapes Go.WideShapes Go.ChangeAt Go.RowKit
set_option linter.unusedVariables false
set_option linter.unusedSimpArgs false
set_option maxRecDepth 10000
variable {w W W' : World} {base Bh g c : Nat} {l : List Rg}

def isB (e : Ending) : Prop := ∃ b, e = .returned (.bool b)

set_option maxHeartbeats 4000000 in
theorem down (n : Nat) (w : World) (h : HS base Bh g c l w) (hd : DownInv l n 0) (hlen : l.length ≤ 1048576) :
    Calls Tryz.prog 114 #[hI Bh, .int .i64 0, .int .i64 (n : Int)] w fun e w' => isB e ∧ ∃ l', HS base Bh g c l' w' ∧ l'.Perm l ∧ HeapN l' n ∧ (∀ k, n ≤ k → at_ l' k = at_ l k) ∧ w.grownBy w' (some g) := by
  go_enter Tryz.func114, Tryz.ntmps114
  go_wp2
  go_loopg [7] (n + 1) (fun gk v W => ∃ (i : Nat) (l' : List Rg), i ≤ n ∧ i + gk = n + 1 ∧ v = .int .i64 (i : Int) ∧ HS base Bh g c l' W ∧ DownInv l' n i ∧ l'.Perm l ∧ (∀ k, n ≤ k → at_ l' k = at_ l k) ∧ w.grownBy W (some g))
  case atStart => exact ⟨0, l, by omega, by omega, rfl, h, hd, List.Perm.refl _, fun _ _ => rfl, M0.grown_refl _ _⟩
  case round =>
    obtain ⟨i, l', hin, hik, rfl, hs, hdi, hp, hat, hg⟩ := hrel
    have hl' : l'.length ≤ 1048576 := hp.length_eq ▸ hlen
    have hn := hdi.2.2
    have x0 := hs.cell
    have hm0 := mLess x0
    have HA : Hid (i + gk = n + 1 ∧ HS base Bh g c l' wr ∧ DownInv l' n i ∧ l'.Perm l ∧ (∀ k, n ≤ k → at_ l' k = at_ l k) ∧ w.grownBy wr (some g)) := ⟨hik, hs, hdi, hp, hat, hg⟩
    clear hdi hp hat h hd
    obtain ⟨j1, hj1⟩ : ∃ j1 : Nat, j1 = 2 * i + 1 := ⟨_, rfl⟩
    obtain ⟨j2, hj2⟩ : ∃ j2 : Nat, j2 = 2 * i + 2 := ⟨_, rfl⟩
    have hi2 : i ≤ n := by omega
    have eA : wrap64 (2 * (i : Int)) = 2 * (i : Int) := by unfold wrap64; omega
    have eB : 2 * (i : Int) + 1 = (j1 : Int) := by omega
    have eC : (j1 : Int) + 1 = (j2 : Int) := by omega
    have eB' : wrap64 (j1 : Int) = (j1 : Int) := by unfold wrap64; omega
    have eC' : wrap64 (j2 : Int) = (j2 : Int) := by unfold wrap64; omega
    have c2 : ¬ ((j1 : Int) < 0) := by omega
    by_cases hc : 2 * i + 1 < n
    · have HC : Hid (2 * i + 1 < n) := hc
      have c1 : ¬ ((n : Int) ≤ (j1 : Int)) := by omega
      have c1' : ¬ (n ≤ j1) := by omega
      have hil : i < l'.length := by omega
      have h1l : j1 < l'.length := by omega
      by_cases hb : j2 < n
      · have c3 : (j2 : Int) < (n : Int) := by omega
        have h2l : j2 < l'.length := by omega
        by_cases hk2 : key l' j2 < key l' j1
        · have hq : decide (key l' j2 < key l' j1) = true := decide_eq_true hk2
          have hkid : kid l' n i = j2 := by unfold kid; rw [if_pos ⟨by omega, by rw [← hj1, ← hj2]; exact hk2⟩]; omega
          have HJ : Hid (j1 = 2 * i + 1 ∧ j2 = 2 * i + 2) := ⟨hj1, hj2⟩
          clear hk2 hj1 hj2 hc hg hik
          obtain ⟨hjn, hij, hjp⟩ := kid_lt (l := l') HC.out
          rw [hkid] at hjn hij hjp
          have hjl : j2 < l'.length := by omega
          by_cases hk : key l' j2 < key l' i
          · have hd : decide (key l' j2 < key l' i) = true := decide_eq_true hk
            have HK : Hid (kid l' n i = j2 ∧ i < j2 ∧ j2 < n ∧ key l' j2 < key l' i) := ⟨hkid, hij, hjn, hk⟩
            clear hk hkid hij hjn hjp
            go_wp2_with (first
              | (go_at_call 195; refine (less j2 j1 _ hs h2l h1l).mono ?_; rintro e w1 ⟨rfl, m, rfl⟩; have hs1 := hs.drewN m; have gr1 := gdn HA.out.2.2.2.2.2 m; generalize wr.drewN m = W1 at *; have hm1 := mLess hs1.cell; clear hs hm0; rw [hq])
              | (go_at_call 195; refine (less j2 i _ hs1 hjl hil).mono ?_; rintro e w2 ⟨rfl, m2, rfl⟩; have hs2 := hs1.drewN m2; have gr2 := gdn gr1 m2; generalize W1.drewN m2 = W2 at *; have hm3 := mSwap hs2.cell; clear hs1 gr1 hm1; rw [hd])
              | (go_at_call 198; refine (swap i j2 _ hs2 hil hjl).mono ?_; rintro e w3 ⟨rfl, hs3, hg3⟩))
            obtain ⟨hik, hs, hdi, hp, hat, hg⟩ := HA.out
            obtain ⟨hkid, hij, hjn, hk⟩ := HK.out
            go_roundg (n + 1 - j2)
            case measure => omega
            case rel => exact ⟨j2, swp l' i j2, by omega, by omega, by go_num, hs3, (by have q := down_step hdi HC.out (by rw [hkid]; exact hk); rw [hkid] at q; exact q), (swp_perm l' i j2 hil hjl).trans hp, fun k hk => by rw [swp_at l' i j2 k hil hjl, if_neg (by omega), if_neg (by omega)]; exact hat k hk, gr2.trans hg3⟩
          · have hd : decide (key l' j2 < key l' i) = false := decide_eq_false hk
            have HK : Hid (kid l' n i = j2 ∧ ¬ key l' j2 < key l' i) := ⟨hkid, hk⟩
            clear hk hkid hij hjn hjp
            go_wp2_with (first
              | (go_at_call 195; refine (less j2 j1 _ hs h2l h1l).mono ?_; rintro e w1 ⟨rfl, m, rfl⟩; have hs1 := hs.drewN m; have gr1 := gdn HA.out.2.2.2.2.2 m; generalize wr.drewN m = W1 at *; have hm1 := mLess hs1.cell; clear hs hm0; rw [hq])
              | (go_at_call 195; refine (less j2 i _ hs1 hjl hil).mono ?_; rintro e w2 ⟨rfl, m2, rfl⟩; have hs2 := hs1.drewN m2; have gr2 := gdn gr1 m2; generalize W1.drewN m2 = W2 at *; have hm3 := mSwap hs2.cell; clear hs1 gr1 hm1; rw [hd]))
            go_ret
            obtain ⟨hik, hs, hdi, hp, hat, hg⟩ := HA.out
            exact ⟨⟨_, rfl⟩, l', hs2, hp, down_end hdi (Or.inr (by rw [HK.out.1]; have := HK.out.2; omega)), hat, gr2⟩
        · have hq : decide (key l' j2 < key l' j1) = false := decide_eq_false hk2
          have hkid : kid l' n i = j1 := by unfold kid; rw [if_neg (fun q => hk2 (by rw [hj1, hj2]; exact q.2))]; omega
          have HJ : Hid (j1 = 2 * i + 1 ∧ j2 = 2 * i + 2) := ⟨hj1, hj2⟩
          clear hk2 hj1 hj2 hc hg hik
          obtain ⟨hjn, hij, hjp⟩ := kid_lt (l := l') HC.out
          rw [hkid] at hjn hij hjp
          have hjl : j1 < l'.length := by omega
          by_cases hk : key l' j1 < key l' i
          · have hd : decide (key l' j1 < key l' i) = true := decide_eq_true hk
            have HK : Hid (kid l' n i = j1 ∧ i < j1 ∧ j1 < n ∧ key l' j1 < key l' i) := ⟨hkid, hij, hjn, hk⟩
            clear hk hkid hij hjn hjp
            go_wp2_with (first
              | (go_at_call 195; refine (less j2 j1 _ hs h2l h1l).mono ?_; rintro e w1 ⟨rfl, m, rfl⟩; have hs1 := hs.drewN m; have gr1 := gdn HA.out.2.2.2.2.2 m; generalize wr.drewN m = W1 at *; have hm1 := mLess hs1.cell; clear hs hm0; rw [hq])
              | (go_at_call 195; refine (less j1 i _ hs1 hjl hil).mono ?_; rintro e w2 ⟨rfl, m2, rfl⟩; have hs2 := hs1.drewN m2; have gr2 := gdn gr1 m2; generalize W1.drewN m2 = W2 at *; have hm3 := mSwap hs2.cell; clear hs1 gr1 hm1; rw [hd])
              | (go_at_call 198; refine (swap i j1 _ hs2 hil hjl).mono ?_; rintro e w3 ⟨rfl, hs3, hg3⟩))
            obtain ⟨hik, hs, hdi, hp, hat, hg⟩ := HA.out
            obtain ⟨hkid, hij, hjn, hk⟩ := HK.out
            go_roundg (n + 1 - j1)
            case measure => omega
            case rel => exact ⟨j1, swp l' i j1, by omega, by omega, by go_num, hs3, (by have q := down_step hdi HC.out (by rw [hkid]; exact hk); rw [hkid] at q; exact q), (swp_perm l' i j1 hil hjl).trans hp, fun k hk => by rw [swp_at l' i j1 k hil hjl, if_neg (by omega), if_neg (by omega)]; exact hat k hk, gr2.trans hg3⟩
          · have hd : decide (key l' j1 < key l' i) = false := decide_eq_false hk
            have HK : Hid (kid l' n i = j1 ∧ ¬ key l' j1 < key l' i) := ⟨hkid, hk⟩
            clear hk hkid hij hjn hjp
            go_wp2_with (first
              | (go_at_call 195; refine (less j2 j1 _ hs h2l h1l).mono ?_; rintro e w1 ⟨rfl, m, rfl⟩; have hs1 := hs.drewN m; have gr1 := gdn HA.out.2.2.2.2.2 m; generalize wr.drewN m = W1 at *; have hm1 := mLess hs1.cell; clear hs hm0; rw [hq])
              | (go_at_call 195; refine (less j1 i _ hs1 hjl hil).mono ?_; rintro e w2 ⟨rfl, m2, rfl⟩; have hs2 := hs1.drewN m2; have gr2 := gdn gr1 m2; generalize W1.drewN m2 = W2 at *; have hm3 := mSwap hs2.cell; clear hs1 gr1 hm1; rw [hd]))
            go_ret
            obtain ⟨hik, hs, hdi, hp, hat, hg⟩ := HA.out
            exact ⟨⟨_, rfl⟩, l', hs2, hp, down_end hdi (Or.inr (by rw [HK.out.1]; have := HK.out.2; omega)), hat, gr2⟩
      · have c3 : ¬ ((j2 : Int) < (n : Int)) := by omega
        have hkid : kid l' n i = j1 := by unfold kid; rw [if_neg (fun q => hb (by omega))]; omega
        have HJ : Hid (j1 = 2 * i + 1 ∧ j2 = 2 * i + 2) := ⟨hj1, hj2⟩
        obtain ⟨W1, hW⟩ : ∃ W1, wr = W1 := ⟨_, rfl⟩
        subst hW
        have hs1 := hs
        have gr1 := hg
        have hm1 := hm0
        clear hj1 hj2 hc hg hik hs hm0
        obtain ⟨hjn, hij, hjp⟩ := kid_lt (l := l') HC.out
        rw [hkid] at hjn hij hjp
        have hjl : j1 < l'.length := by omega
        by_cases hk : key l' j1 < key l' i
        · have hd : decide (key l' j1 < key l' i) = true := decide_eq_true hk
          have HK : Hid (kid l' n i = j1 ∧ i < j1 ∧ j1 < n ∧ key l' j1 < key l' i) := ⟨hkid, hij, hjn, hk⟩
          clear hk hkid hij hjn hjp
          go_wp2_with (first
            | (fail)
            | (go_at_call 195; refine (less j1 i _ hs1 hjl hil).mono ?_; rintro e w2 ⟨rfl, m2, rfl⟩; have hs2 := hs1.drewN m2; have gr2 := gdn gr1 m2; generalize wr.drewN m2 = W2 at *; have hm3 := mSwap hs2.cell; clear hs1 gr1 hm1; rw [hd])
            | (go_at_call 198; refine (swap i j1 _ hs2 hil hjl).mono ?_; rintro e w3 ⟨rfl, hs3, hg3⟩))
          obtain ⟨hik, hs, hdi, hp, hat, hg⟩ := HA.out
          obtain ⟨hkid, hij, hjn, hk⟩ := HK.out
          go_roundg (n + 1 - j1)
          case measure => omega
          case rel => exact ⟨j1, swp l' i j1, by omega, by omega, by go_num, hs3, (by have q := down_step hdi HC.out (by rw [hkid]; exact hk); rw [hkid] at q; exact q), (swp_perm l' i j1 hil hjl).trans hp, fun k hk => by rw [swp_at l' i j1 k hil hjl, if_neg (by omega), if_neg (by omega)]; exact hat k hk, gr2.trans hg3⟩
        · have hd : decide (key l' j1 < key l' i) = false := decide_eq_false hk
          have HK : Hid (kid l' n i = j1 ∧ ¬ key l' j1 < key l' i) := ⟨hkid, hk⟩
          clear hk hkid hij hjn hjp
          go_wp2_with (first
            | (fail)
            | (go_at_call 195; refine (less j1 i _ hs1 hjl hil).mono ?_; rintro e w2 ⟨rfl, m2, rfl⟩; have hs2 := hs1.drewN m2; have gr2 := gdn gr1 m2; generalize wr.drewN m2 = W2 at *; have hm3 := mSwap hs2.cell; clear hs1 gr1 hm1; rw [hd]))
          go_ret
          obtain ⟨hik, hs, hdi, hp, hat, hg⟩ := HA.out
          exact ⟨⟨_, rfl⟩, l', hs2, hp, down_end hdi (Or.inr (by rw [HK.out.1]; have := HK.out.2; omega)), hat, gr2⟩
    · have c1 : (n : Int) ≤ (j1 : Int) := by omega
      have HC : Hid (¬ 2 * i + 1 < n) := hc
      clear hj1 hj2 hc hg hik
      go_wp2
      go_ret
      obtain ⟨hik, hs, hdi, hp, hat, hg⟩ := HA.out
      exact ⟨⟨_, rfl⟩, l', hs, hp, down_end hdi (Or.inl HC.out), hat, hg⟩
end Go.Proofs.YtdljajjgppcjpaaGreat.HP

/- container/heap's Push over the heap of ranges. -/
namespace Go.Proofs.YtdljajjgppcjpaaGreat.HP
open Go.ChangeShapes Go.WideShapes Go.ChangeAt Go.RowKit
set_option linter.unusedVariables false
set_option linter.unusedSimpArgs false
set_option maxRecDepth 10000
variable {w W W' : World} {base Bh g c : Nat} {l : List Rg}

set_option maxHeartbeats 1000000 in
theorem len (w : World) (n c g : Nat) : Calls Tryz.prog 35 #[.slice (some ⟨g, 0, none⟩) n c] w fun e w' => e = .returned (.int .i64 (n : Int)) ∧ w' = w := by
  go_enter Tryz.func35, Tryz.ntmps35
  go_wp2
  go_ret
  exact ⟨rfl, rfl⟩

set_option maxHeartbeats 2000000 in
theorem heapPush (r : Rg) (w : World) (h : HS base Bh g c l w) (hh : HeapN l l.length) (hlen : l.length + 1 ≤ 1048576) :
    Calls Tryz.prog 34 #[hI Bh, .iface 38 (.agg #[.int .i64 r.1, .int .i64 r.2])] w fun e w' => e = .returned (.tuple #[]) ∧ ∃ g' c' l', HS base Bh g' c' l' w' ∧ l'.Perm (l ++ [r]) ∧ HeapN l' l'.length ∧ Chg Bh g g' w w' := by
  have hm := mPush (some ⟨Bh, 0, none⟩) w
  have hps := push r w h hlen
  have hll : (l ++ [r]).length = l.length + 1 := by simp
  have HA : Hid (UpInv (l ++ [r]) l.length ∧ l.length + 1 ≤ 1048576) := ⟨push_start hh r, hlen⟩
  have en : ((l.length + 1 : Nat) : Int) - 1 = (l.length : Int) := by omega
  have en2 : ((l.length : Int) + 1) - 1 = (l.length : Int) := by omega
  have en3 : wrap64 (l.length : Int) = (l.length : Int) := by unfold wrap64; omega
  clear h hh
  go_enter Tryz.func34, Tryz.ntmps34
  go_wp2_with (go_at_call 197; refine hps.mono ?_; rintro e w1 ⟨rfl, g1, c1, hs1, ch1⟩; have x1 := hs1.cell; rw [hll] at x1; have hm1 := mLen x1)
  go_wp2_with (go_at_call 35; refine (len _ _ _ _).mono ?_; rintro e w2 ⟨rfl, rfl⟩)
  go_wp2_with (go_at_call 76; refine (up l.length _ hs1 HA.out.1 (by simpa using HA.out.2)).mono ?_; rintro e w3 ⟨rfl, l3, hs3, hp3, hh3, hg3⟩)
  refine bodyPost_end (v := .tuple #[]) (by simp [results, Tryz.results34, go_sem]) rfl ?_
  exact ⟨rfl, g1, c1, l3, hs3, hp3, hh3, ch1.grown hg3⟩
end Go.Proofs.YtdljajjgppcjpaaGreat.HP

/- container/heap's Pop over the heap of ranges; least. -/
namespace Go.Proofs.YtdljajjgppcjpaaGreat.HP
open Go.ChangeShapes Go.WideShapes Go.ChangeAt Go.RowKit
set_option linter.unusedVariables false
set_option linter.unusedSimpArgs false
set_option maxRecDepth 10000
variable {w W W' : World} {base Bh g c : Nat} {l : List Rg}

theorem last_split {l2 : List Rg} {m : Nat} (h : l2.length = m + 1) : l2 = l2.take m ++ [at_ l2 m] := by
  rw [at_get l2 m (by omega)]
  have := List.take_append_drop m l2
  rw [List.drop_eq_getElem_cons (by omega), List.drop_eq_nil_of_le (show l2.length ≤ m + 1 by omega)] at this
  exact this.symm
theorem heap_take {l2 : List Rg} {m : Nat} (h : l2.length = m + 1) (hh : HeapN l2 m) : HeapN (l2.take m) (l2.take m).length := by
  have e : (l2.take m).length = m := by rw [List.length_take]; omega
  have k : ∀ i, i < m → key (l2.take m) i = key l2 i := by
    intro i hi
    unfold key
    rw [at_get _ i (by omega), at_get l2 i (by omega), List.getElem_take]
  rw [e]
  intro i h0 hi
  rw [k i hi, k _ (by omega)]
  exact hh i h0 hi

set_option maxHeartbeats 2000000 in
theorem heapPop (m : Nat) (w : World) (h : HS base Bh g c l w) (hh : HeapN l l.length) (hm : l.length = m + 1) (hlen : l.length ≤ 1048576) :
    Calls Tryz.prog 77 #[hI Bh] w fun e w' => ∃ (r : Rg) (l' : List Rg), e = .returned (.iface 38 (.agg #[.int .i64 r.1, .int .i64 r.2])) ∧ r = at_ l 0 ∧ (r :: l').Perm l ∧ HS base Bh g c l' w' ∧ HeapN l' l'.length ∧ Chg Bh g g w w' := by
  have x0 := h.cell
  have hm1 := mLen x0
  have hm2 := fun k => mSwap (w := w.drewN k) (show (w.drewN k).cell? ⟨Bh, 0, none⟩ = some _ from x0)
  have hm3 := mSwap x0
  have HA : Hid (HeapN l l.length ∧ l.length = m + 1 ∧ l.length ≤ 1048576 ∧ HS base Bh g c l w) := ⟨hh, hm, hlen, h⟩
  have hsw := swap 0 m w h (by omega) (by omega)
  rw [hm] at x0 hm1 hm2 hm3 hsw
  have en2 : ((m : Int) + 1) - 1 = (m : Int) := by omega
  have en3 : wrap64 (m : Int) = (m : Int) := by unfold wrap64; omega
  clear h hh hm
  go_enter Tryz.func77, Tryz.ntmps77
  go_wp2_with (go_at_call 35; refine (len _ _ _ _).mono ?_; rintro e w2 ⟨rfl, hw⟩; subst w2)
  go_wp2_with (go_at_call 198; refine hsw.mono ?_; rintro e w1 ⟨rfl, hs1, hg1⟩)
  obtain ⟨hh, hm, hlen, h⟩ := HA.out
  have hdn := down m w1 hs1 (pop_start hh hm) (by rw [swp_length]; exact hlen)
  clear hh hm h
  go_wp2_with (go_at_call 114; refine hdn.mono ?_; rintro e w3 ⟨⟨b, rfl⟩, l2, hs2, hp2, hh2, hat2, hg2⟩)
  obtain ⟨hh, hm, hlen, h⟩ := HA.out
  have hl2 : l2.length = m + 1 := by rw [hp2.length_eq, swp_length, hm]
  have ha : at_ l2 m = at_ l 0 := by rw [hat2 m (Nat.le_refl _), swp_at l 0 m m (by omega) (by omega), if_pos rfl]
  have hsp := last_split hl2
  rw [ha] at hsp
  have ht := heap_take hl2 hh2
  have hpm : (at_ l 0 :: l2.take m).Perm l := by
    have q1 : (l2.take m ++ [at_ l 0]).Perm (at_ l 0 :: l2.take m) := List.perm_append_comm
    rw [← hsp] at q1
    exact q1.symm.trans (hp2.trans (swp_perm l 0 m (by omega) (by omega)))
  rw [hsp] at hs2
  have hpp := pop (at_ l 0) w3 hs2
  have hm4 := mPop (some ⟨Bh, 0, none⟩) w3
  have HB : Hid ((at_ l 0 :: l2.take m).Perm l ∧ HeapN (l2.take m) (l2.take m).length ∧ w.grownBy w3 (some g)) := ⟨hpm, ht, hg1.trans hg2⟩
  obtain ⟨r, hr⟩ : ∃ r, at_ l 0 = r := ⟨_, rfl⟩
  obtain ⟨lt, hlt⟩ : ∃ lt, l2.take m = lt := ⟨_, rfl⟩
  rw [hr, hlt] at HB hpp
  have HR : Hid (r = at_ l 0) := hr.symm
  clear hh hm h hl2 ha hsp ht hpm hs2 hs1 hg1 hg2 hp2 hh2 hat2 hdn hr hlt
  go_wp2_with (go_at_call 196; refine hpp.mono ?_; rintro e w4 ⟨rfl, hs4, ch4⟩)
  go_ret
  refine ⟨r, lt, rfl, HR.out, HB.out.1, hs4, HB.out.2.1, ?_⟩
  have gr := HB.out.2.2
  exact ⟨ch4.os.trans gr.os, ch4.tape.trans gr.tape, ch4.output.trans gr.output, Nat.le_trans gr.size ch4.size, fun k hk hb hg => (ch4.block k (Nat.lt_of_lt_of_le hk gr.size) hb hg).trans (gr.block k hk (fun e => hg (Option.some.inj e))), Or.inl rfl⟩

theorem HS.grown {B : Nat} (h : HS base Bh g c l W) (hg : W.grownBy W' (some B)) (h1 : B ≠ Bh) (h2 : B ≠ g) : HS base Bh g c l W' :=
  ⟨(World.cell?_of_block (a := ⟨Bh, 0, none⟩) (hg.block Bh h.lt (fun e => h1 (Option.some.inj e).symm))).trans h.cell, (World.frozen?_of_block (a := ⟨Bh, 0, none⟩) (hg.block Bh h.lt (fun e => h1 (Option.some.inj e).symm))).trans h.free, h.buf.kept hg (Or.inr (fun e => h2 (Option.some.inj e).symm)), h.ne, h.lo, Nat.lt_of_lt_of_le h.lt hg.size⟩
theorem blk_block {B : Nat} {vs : List Value} (h : K0.Blk B vs W) (e : W'.heap[B]? = W.heap[B]?) (hs : W.heap.size ≤ W'.heap.size) : K0.Blk B vs W' :=
  ⟨fun j hj => (World.cell?_of_block (a := ⟨B, j, none⟩) e).trans (h.cell j hj), fun j hj => (World.frozen?_of_block (a := ⟨B, j, none⟩) e).trans (h.free j hj), Nat.lt_of_lt_of_le h.lt hs⟩

set_option maxHeartbeats 2000000 in
theorem least (m : Nat) (w : World) (h : HS base Bh g c l w) (hh : HeapN l l.length) (hm : l.length = m + 1) (hlen : l.length ≤ 1048576) :
    Calls Tryz.prog 36 #[.pointer (some ⟨Bh, 0, none⟩)] w fun e w' => ∃ (r : Rg) (l' : List Rg), e = .returned (.agg #[.int .i64 r.1, .int .i64 r.2]) ∧ r = at_ l 0 ∧ (r :: l').Perm l ∧ HS base Bh g c l' w' ∧ HeapN l' l'.length ∧ Chg Bh g g w w' := by
  have nl := K0.below_new w (.cells #[.int .i64 0, .int .i64 0] 38)
  have nb := K0.blk_new [.int .i64 0, .int .i64 0] w 38
  have hpp := heapPop m _ (h.below nl) hh hm hlen
  have hta := fun v W => asRange v W
  have HB1 : Hid (Bh < w.heap.size ∧ g < w.heap.size) := ⟨h.lt, h.glt.2⟩
  have hsz : (w.alloc (.cells #[.int .i64 0, .int .i64 0] 38)).heap.size = w.heap.size + 1 := by simp
  have HN : Hid (Below w.heap.size w (w.alloc (.cells #[.int .i64 0, .int .i64 0] 38))) := nl
  obtain ⟨B, hB⟩ : ∃ B, B = w.heap.size := ⟨_, rfl⟩
  clear h hh hm nl
  go_enter Tryz.func36, Tryz.ntmps36
  go_wp2_with (go_at_call 77; refine hpp.mono ?_; rintro e w4 ⟨r, l', rfl, hr, hp, hs, hh, ch⟩; have k4 := blk_block nb (ch.block w.heap.size (by omega) (by have := HB1.out; omega) (by have := HB1.out; omega)) ch.size; have z0 := k4.cell 0 (by simp); have z1 := k4.cell 1 (by simp); have f0 := k4.free 0 (by simp); have f1 := k4.free 1 (by simp); have g5 := M0.grown_set (j := 1) (M0.grown_set (j := 0) (M0.grown_refl w4 (some w.heap.size)) (.int .i64 r.1)) (.int .i64 r.2); have HH : Hid (r = at_ l 0 ∧ (r :: l').Perm l ∧ HS base Bh g c l' w4 ∧ HeapN l' l'.length ∧ Chg Bh g g (w.alloc (.cells #[.int .i64 0, .int .i64 0] 38)) w4) := ⟨hr, hp, hs, hh, ch⟩; clear hr hp hs hh ch k4)
  have y1 : ((w4.setCell ⟨w.heap.size, 0, none⟩ (.int .i64 r.1)).setCell ⟨w.heap.size, 1, none⟩ (.int .i64 r.2)).cell? ⟨w.heap.size, 1, none⟩ = some (.int .i64 r.2) := World.cell?_setCell_same _ _ _ ((World.cell?_setCell_other _ _ _ _ (by simp)).trans z1)
  have y0 : ((w4.setCell ⟨w.heap.size, 0, none⟩ (.int .i64 r.1)).setCell ⟨w.heap.size, 1, none⟩ (.int .i64 r.2)).cell? ⟨w.heap.size, 0, none⟩ = some (.int .i64 r.1) := (World.cell?_setCell_other _ _ _ _ (by simp)).trans (World.cell?_setCell_same _ _ _ z0)
  refine bodyPost_ret (v := .agg #[.int .i64 r.1, .int .i64 r.2]) (by simp [results, Tryz.results36, go_sem, y0, y1]) rfl ?_
  obtain ⟨hr, hp, hs, hh, ch⟩ := HH.out
  obtain ⟨b1, b2⟩ := HB1.out
  refine ⟨r, l', rfl, hr, hp, hs.grown g5 (by omega) (by omega), hh, ?_⟩
  have nl := HN.out
  exact ⟨g5.os.trans (ch.os.trans nl.os), g5.tape.trans (ch.tape.trans nl.tape), g5.output.trans (ch.output.trans nl.output), Nat.le_trans nl.size (Nat.le_trans ch.size g5.size), fun k hk hb hg => (g5.block k (Nat.lt_of_lt_of_le hk (Nat.le_trans nl.size ch.size)) (fun e => by have := Option.some.inj e; omega)).trans ((ch.block k (by omega) hb hg).trans (nl.block k hk)), Or.inl rfl⟩
end Go.Proofs.YtdljajjgppcjpaaGreat.HP
