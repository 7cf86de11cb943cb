/- A text is cut at its first blank: the contracts of internal/stringslite.Index, Cut and strings.Cut at a blank; a line that is read word by word, behind a pointer. -/
import Derived.Test.YtjajclifjojblaaDoorRv1
import Derived.Test.YtjajclifjojblaaDoorRead2
import Derived.Test.YtjajclifjojblaaDoorLf0
import Derived.Lib.CutLaws
import Derived.Deep.QuietTactic
namespace Go.Proofs.YtjajclifjojblaaDoor.RX
open Go.ChangeShapes Go.WideShapes Go.ChangeAt Go.RowKit
set_option linter.unusedVariables false
set_option linter.unusedSimpArgs false
set_option maxRecDepth 10000
open RV (mk sp jn)
open LF (Btw)

theorem ix_one (s : List UInt8) : Lib.indexByte s 32 = Lib.index s [32] := by
  induction s with
  | nil => rfl
  | cons c r ih =>
    by_cases hc : c = 32
    · subst hc
      rw [Lib.indexByte, Lib.index, if_pos (by rfl), if_pos (by simp [List.isPrefixOf])]
    · have h1 : (c == 32) = false := by simpa using hc
      have h2 : ([32] : List UInt8).isPrefixOf (c :: r) = false := by simp [List.isPrefixOf]; exact fun h => hc h.symm
      rw [Lib.indexByte, Lib.index, h1, h2, ih]

theorem index1 (s : ByteArray) (w : World) :
    Calls Tryd.prog 42 #[.string s, .string ⟨#[32]⟩] w fun e w' => e = .returned (.int .i64 (Lib.index s.data.toList [32])) ∧ w' = w := by
  have HI : Hid (Lib.indexByte s.data.toList 32 = Lib.index s.data.toList [32]) := ix_one _
  by_cases hs : (([32] : List UInt8) == s.toList) = true
  · have e : Lib.index s.data.toList [32] = 0 := by
      rw [Lib.toList_data] at hs
      rw [← eq_of_beq hs]
      rfl
    rw [e]
    clear e HI
    go_enter Tryd.func42, Tryd.ntmps42
    go_wp2
    go_ret
    exact ⟨rfl, rfl⟩
  · have hs' : (([32] : List UInt8) == s.toList) = false := by simpa using hs
    clear hs
    rw [← HI.out]
    go_enter Tryd.func42, Tryd.ntmps42
    go_wp2_with (go_at_call 46; refine (Tryd.stringslite_IndexByte _ _ _).mono ?_; rintro e w' ⟨rfl, rfl⟩)
    go_ret
    exact ⟨rfl, rfl⟩

theorem cut0 (s : ByteArray) (w : World) (hs : s.size ≤ 1048576) :
    Calls Tryd.prog 36 #[.string s, .string ⟨#[32]⟩] w fun e w' => e = .returned (.tuple #[.string ⟨(Lib.cut s.data.toList [32]).1.toArray⟩, .string ⟨(Lib.cut s.data.toList [32]).2.1.toArray⟩, .bool (Lib.cut s.data.toList [32]).2.2]) ∧ ∃ n, w' = w.drewN n := by
  rcases Lib.indexB_cases s ⟨#[32]⟩ with hix | ⟨i, hix, hroom⟩
  · obtain ⟨e1, e2, e3⟩ := Lib.cutB_miss s ⟨#[32]⟩ hix
    have hix' : Lib.index s.data.toList [32] = -1 := hix
    rw [show ((⟨#[32]⟩ : ByteArray).data.toList) = [32] from rfl] at e1 e2 e3
    rw [e1, e2, e3]
    go_enter Tryd.func36, Tryd.ntmps36
    go_wp2_with (go_at_call 42; refine (index1 _ _).mono ?_; rintro e w' ⟨rfl, rfl⟩; rw [hix'])
    go_ret3
    exact ⟨rfl, 0, rfl⟩
  · obtain ⟨e1, e2, e3⟩ := Lib.cutB_hit s ⟨#[32]⟩ i hix
    have hix' : Lib.index s.data.toList [32] = i := hix
    have hr : i + 1 ≤ s.size := hroom
    rw [show ((⟨#[32]⟩ : ByteArray).data.toList) = [32] from rfl] at e1 e2 e3
    rw [e1, e2, e3]
    have c1 : (0 : Int) ≤ (i : Int) := by omega
    have c2 : (i : Int) ≤ (s.size : Int) := by omega
    have c3 : (0 : Int) ≤ (i : Int) + 1 := by omega
    have c4 : (i : Int) + 1 ≤ (s.size : Int) := by omega
    clear hix hroom e1 e2 e3
    go_enter Tryd.func36, Tryd.ntmps36
    go_wp2_with (go_at_call 42; refine (index1 _ _).mono ?_; rintro e w' ⟨rfl, rfl⟩; rw [hix'])
    go_quiet (skip)
    go_wp2
    go_ret3
    exact ⟨rfl, _, rfl⟩

theorem cut1 (s : ByteArray) (w : World) (hs : s.size ≤ 1048576) :
    Calls Tryd.prog 29 #[.string s, .string ⟨#[32]⟩] w fun e w' => e = .returned (.tuple #[.string ⟨(Lib.cut s.data.toList [32]).1.toArray⟩, .string ⟨(Lib.cut s.data.toList [32]).2.1.toArray⟩, .bool (Lib.cut s.data.toList [32]).2.2]) ∧ ∃ n, w' = w.drewN n := by
  go_enter Tryd.func29, Tryd.ntmps29
  go_wp2_with (go_at_call 36; refine (cut0 _ _ hs).mono ?_; rintro e w' ⟨rfl, n, rfl⟩)
  go_ret3
  exact ⟨rfl, n, rfl⟩

/-- A line that is read: what is left of it, word by word; whether something was not as it was wanted. -/
abbrev rv (s : ByteArray) (R : List (List UInt8)) (x : Bool) : List Value := [.string s, .string (mk (jn R)), .bool R.isEmpty, .bool x]
abbrev RB (B : Nat) (s : ByteArray) (R : List (List UInt8)) (x : Bool) (W : World) : Prop := K0.Blk B (rv s R x) W

/-- What is left has no blank in a word, and is short. -/
structure Ok (R : List (List UInt8)) : Prop where
  free : ∀ p ∈ R, (32 : UInt8) ∉ p
  size : (jn R).length ≤ 1048576

theorem Ok.tail {R : List (List UInt8)} (h : Ok R) : Ok R.tail :=
  ⟨fun p hp => h.free p (List.mem_of_mem_tail hp), by have := RV.jn_drop_le 1 R; rw [List.drop_one] at this; have := h.size; omega⟩
theorem ok_nil : Ok [] := by
  refine ⟨fun p h => ?_, by simp [jn]⟩
  cases h
theorem Ok.drop {R : List (List UInt8)} (h : Ok R) (k : Nat) : Ok (R.drop k) := by
  induction k with
  | zero => exact h
  | succ k ih => rw [← List.tail_drop]; exact ih.tail

theorem sp_jn : ∀ (R : List (List UInt8)), R ≠ [] → (∀ p ∈ R, (32 : UInt8) ∉ p) → sp (jn R) = R := by
  have one : ∀ (p : List UInt8), (32 : UInt8) ∉ p → sp p = [p] := by
    intro p
    induction p with
    | nil => intro _; rfl
    | cons c r ih =>
      intro h
      simp only [List.mem_cons, not_or] at h
      have hc : ¬ c = 32 := fun e => h.1 e.symm
      rw [sp, if_neg hc, ih h.2]
      rfl
  have app : ∀ (p r : List UInt8), (32 : UInt8) ∉ p → sp (p ++ 32 :: r) = p :: sp r := by
    intro p r
    induction p with
    | nil => intro _; rw [List.nil_append, sp, if_pos rfl]
    | cons c q ih =>
      intro h
      simp only [List.mem_cons, not_or] at h
      have hc : ¬ c = 32 := fun e => h.1 e.symm
      rw [List.cons_append, sp, if_neg hc, ih h.2]
      rfl
  intro R
  induction R with
  | nil => intro h; exact absurd rfl h
  | cons p R ih =>
    intro _ hf
    by_cases hR : R = []
    · subst hR
      exact one p (hf p (by simp))
    · rw [RV.jn_cons p R hR, app p _ (hf p (by simp)), ih hR (fun q hq => hf q (List.mem_cons_of_mem _ hq))]

/-- A cut of what is left. -/
theorem cut_left (R : List (List UInt8)) (h : Ok R) : Lib.cut (mk (jn R)).data.toList [32] = (R.headD [], jn R.tail, !R.tail.isEmpty) := by
  rw [show (mk (jn R)).data.toList = jn R from rfl]
  by_cases hR : R = []
  · subst hR
    rfl
  · rw [RV.cut_sp, sp_jn R hR h.free]

theorem word (B : Nat) (s : ByteArray) (R : List (List UInt8)) (x : Bool) (w : World) (hR : Ok R) (hb : RB B s R x w) :
    Calls Tryd.prog 20 #[.pointer (some ⟨B, 0, none⟩)] w fun e w' => e = .returned (.string (mk (R.headD []))) ∧ RB B s R.tail x w' ∧ Btw B (B + 1) w w' := by
  have c1 := hb.c1
  have hs : (mk (jn R)).size ≤ 1048576 := by simpa [ByteArray.size] using hR.size
  have hc := cut_left R hR
  obtain ⟨L, hL⟩ : ∃ L, mk (jn R) = L := ⟨_, rfl⟩
  rw [hL] at hc hs c1
  have he : (!(!R.tail.isEmpty)) = R.tail.isEmpty := by simp
  have HC : Hid (∀ W, Calls Tryd.prog 29 #[.string L, .string ⟨#[32]⟩] W fun e w' => e = .returned (.tuple #[.string (mk (R.headD [])), .string (mk (jn R.tail)), .bool (!R.tail.isEmpty)]) ∧ ∃ n, w' = W.drewN n) := by
    intro W
    have := cut1 L W hs
    rw [hc] at this
    exact this
  generalize mk (R.headD []) = p at HC ⊢
  generalize hq : mk (jn R.tail) = q at HC
  generalize hf : R.tail.isEmpty = f at HC he
  clear hc hL
  go_enter Tryd.func20, Tryd.ntmps20
  go_wp2_with (go_at_call 29; refine (HC.out _).mono ?_; rintro e w1 ⟨rfl, n, rfl⟩; have hb1 := hb.drewN n; have c1 := hb1.c1; have f1 := hb1.f1; have c2 := hb1.c2; have f2 := hb1.f2)
  go_ret
  exact ⟨rfl, by rw [RB, rv, hq, hf]; exact (hb1.set 1 _).set 2 _, ((Btw.ofBelow (K0.below_drewN (Below.refl _ _) n)).set (p := ⟨B, 1, none⟩) (Nat.le_refl _) (Nat.lt_succ_self _) _).set (p := ⟨B, 2, none⟩) (Nat.le_refl _) (Nat.lt_succ_self _) _⟩
end Go.Proofs.YtjajclifjojblaaDoor.RX
