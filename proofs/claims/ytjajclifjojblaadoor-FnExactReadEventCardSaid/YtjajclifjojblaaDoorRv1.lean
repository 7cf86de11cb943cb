/- What is read of an event's text, as the program reads it (word by word) and as the specification does (a candidate, held against its text): the same. Plain facts. -/
import Derived.Test.YtjajclifjojblaaDoorRv0
import Derived.Test.YtjajclifjojblaaDoorZeros1
namespace Go.Proofs.YtjajclifjojblaaDoor.RW
open Go
set_option linter.unusedVariables false
set_option linter.unusedSimpArgs false
set_option maxRecDepth 10000
open EV (Ev dt hx glue text parts)
open RV

/-- A word, or the empty one. -/
def wd (R : List (List UInt8)) (i : Nat) : List UInt8 := R.getD i []
theorem wd_not {R : List (List UInt8)} {i : Nat} (h : R.length ≤ i) : wd R i = [] := by simp [wd, List.getD, List.getElem?_eq_none h]
theorem wd_get {R : List (List UInt8)} {i : Nat} (h : i < R.length) : wd R i = R[i] := by simp [wd, List.getD, h]
theorem drop_one {R : List (List UInt8)} {j : Nat} {p : List UInt8} (h : R.drop j = [p]) : R.drop (j + 1) = [] ∧ wd R j = p := by
  have e : R.drop (j + 1) = (R.drop j).drop 1 := by rw [List.drop_drop]
  have hl : j < R.length := by
    have := congrArg List.length h
    simp at this
    omega
  refine ⟨by rw [e, h]; rfl, ?_⟩
  rw [List.drop_eq_getElem_cons hl] at h
  rw [wd_get hl]
  exact (List.cons.inj h).1

/-- The number of a word, counted from 0; -1 where there is none. -/
def n (R : List (List UInt8)) (i : Nat) : Int := R0.rd (mk (wd R i))
def ev0 : Ev := ⟨0, 0, 0, 0, ⟨#[]⟩, []⟩

/-- What the words behind the first tell of an event of a kind, and whether they do. -/
def ans (kd : Nat) (R : List (List UInt8)) : Ev × Bool :=
  match kd with
  | 0 => (⟨0, n R 0, n R 1, n R 2, ⟨#[]⟩, []⟩, decide (R.drop 3 = []) && (decide (0 ≤ n R 0) && decide (0 ≤ n R 1) && decide (0 ≤ n R 2)))
  | 1 => (⟨1, n R 0, 0, n R 1, mk (txt (wd R 2)), []⟩, decide (R.drop 3 = []) && (decide (0 ≤ n R 0) && decide (0 ≤ n R 1) && okH (wd R 2)))
  | 2 => (⟨2, n R 0, 0, n R 1, B4.zeros (n R 2), []⟩, decide (R.drop 3 = []) && (decide (0 ≤ n R 0) && decide (0 ≤ n R 1) && decide (0 ≤ n R 2) && decide (n R 2 ≤ 768)))
  | 3 => (⟨3, n R 0, n R 1, 0, ⟨#[]⟩, []⟩, decide (R.drop 2 = []) && (decide (0 ≤ n R 0) && decide (0 ≤ n R 1)))
  | 4 => (⟨4, 0, 0, 0, ⟨#[]⟩, []⟩, decide (R = []))
  | 5 => (⟨5, 0, 0, 0, ⟨#[]⟩, R.map fun p => R0.rd (mk p)⟩, R.all fun p => decide (0 ≤ R0.rd (mk p)))
  | 6 => (⟨6, n R 0, n R 1, 0, mk (txt (wd R 2)), []⟩, decide (R.drop 3 = []) && (decide (0 ≤ n R 0) && decide (0 ≤ n R 1) && okH (wd R 2)))
  | 7 => (⟨7, n R 0, n R 1, n R 2, mk (jn (R.drop 3)), []⟩, decide (R.drop 3 ≠ []) && (decide (0 ≤ n R 0) && decide (0 ≤ n R 1) && decide (0 ≤ n R 2)))
  | 8 => (⟨8, n R 0, n R 1, 0, mk (jn (R.drop 2)), []⟩, decide (R.drop 2 ≠ []) && (decide (0 ≤ n R 0) && decide (0 ≤ n R 1)))
  | 9 => (⟨9, n R 0, n R 1, n R 2, mk (txt (wd R 3)), []⟩, decide (R.drop 4 = []) && (decide (0 ≤ n R 0) && decide (0 ≤ n R 1) && decide (0 ≤ n R 2) && okH (wd R 3)))
  | _ => (ev0, false)

/-- The kind of a word: its place among the words, or their number. -/
def kind (w : List UInt8) : Nat := (EV.words.map (·.data.toList)).idxOf w

/-- What is read of a text. -/
def read (s : List UInt8) : Ev × Bool := if (ans (kind ((sp s).headD [])) (sp s).tail).2 = true then ans (kind ((sp s).headD [])) (sp s).tail else (ev0, false)

/-- What the specification holds against the text: a candidate, and whether its bytes are such. -/
def cand (kd : Nat) (R : List (List UInt8)) : Ev × Bool :=
  match kd with
  | 0 => (⟨0, n R 0, n R 1, n R 2, ⟨#[]⟩, []⟩, true)
  | 1 => (⟨1, n R 0, 0, n R 1, mk (txt (jn (R.drop 2))), []⟩, okH (jn (R.drop 2)))
  | 2 => (⟨2, n R 0, 0, n R 1, B4.zeros (n R 2), []⟩, decide (0 ≤ n R 2) && decide (n R 2 ≤ 768))
  | 3 => (⟨3, n R 0, n R 1, 0, ⟨#[]⟩, []⟩, true)
  | 4 => (⟨4, 0, 0, 0, ⟨#[]⟩, []⟩, true)
  | 5 => (⟨5, 0, 0, 0, ⟨#[]⟩, R.map fun p => R0.rd (mk p)⟩, R.all fun p => decide (0 ≤ R0.rd (mk p)))
  | 6 => (⟨6, n R 0, n R 1, 0, mk (txt (jn (R.drop 2))), []⟩, okH (jn (R.drop 2)))
  | 7 => (⟨7, n R 0, n R 1, n R 2, mk (jn (R.drop 3)), []⟩, true)
  | 8 => (⟨8, n R 0, n R 1, 0, mk (jn (R.drop 2)), []⟩, true)
  | 9 => (⟨9, n R 0, n R 1, n R 2, mk (txt (jn (R.drop 3))), []⟩, okH (jn (R.drop 3)))
  | _ => (⟨-1, 0, 0, 0, ⟨#[]⟩, []⟩, true)

/-- Whether the specification takes it. -/
def good (d : Ev) (ok : Bool) (s : List UInt8) : Prop := s ≠ [] ∧ ok = true ∧ 0 ≤ d.cl ∧ 0 ≤ d.ino ∧ 0 ≤ d.at_ ∧ text d = mk s

theorem rd_nil : R0.rd (mk []) = -1 := R0.rd_other (show Lib.itoa ((R0.val [] : Nat) : Int) ≠ [] from R0.itoa_ne 0)

theorem dt_rd {p : List UInt8} (h : 0 ≤ R0.rd (mk p)) : dt (R0.rd (mk p)) = mk p := by
  unfold R0.rd at h ⊢
  split at h
  · rename_i hc
    rw [if_pos hc]
    exact congrArg mk (by simpa using hc.2.2)
  · simp at h

theorem n_lt {R : List (List UInt8)} {i : Nat} (h : 0 ≤ n R i) : i < R.length := by
  rcases Nat.lt_or_ge i R.length with h1 | h1
  · exact h1
  · unfold n at h
    rw [wd_not h1, rd_nil] at h
    omega

theorem dt_n {R : List (List UInt8)} {i : Nat} (h : 0 ≤ n R i) : dt (n R i) = mk (wd R i) := dt_rd h

theorem rd_le (s : ByteArray) : -1 ≤ R0.rd s ∧ R0.rd s ≤ 999999 := by
  unfold R0.rd
  split
  · rename_i h
    have h1 := R0.val_lt _ h.1
    have h2 : s.data.toList.length ≤ 6 := by rw [← Lib.size_eq]; exact h.2.1
    have h3 : (10 : Nat) ^ s.data.toList.length ≤ 10 ^ 6 := Nat.pow_le_pow_right (by omega) h2
    omega
  · omega

theorem split1 {R : List (List UInt8)} (h : 0 < R.length) : R = wd R 0 :: R.drop 1 := by
  cases R with
  | nil => simp at h
  | cons p R => rfl
theorem split2 {R : List (List UInt8)} (h : 1 < R.length) : R = wd R 0 :: wd R 1 :: R.drop 2 := by
  match R, h with
  | p :: q :: R, _ => rfl
theorem split3 {R : List (List UInt8)} (h : 2 < R.length) : R = wd R 0 :: wd R 1 :: wd R 2 :: R.drop 3 := by
  match R, h with
  | p :: q :: r :: R, _ => rfl

theorem kind_word {w : List UInt8} (h : kind w < 10) : EV.words.getD (kind w) ⟨#[]⟩ = mk w := by
  have hl : kind w < (EV.words.map (·.data.toList)).length := by simpa [EV.words] using h
  have h1 : (EV.words.map (·.data.toList))[kind w] = w := List.getElem_idxOf hl
  have hl' : kind w < EV.words.length := by simpa using hl
  have hg : EV.words.getD (kind w) ⟨#[]⟩ = EV.words[kind w] := by simp [List.getD, hl']
  rw [hg]
  have h2 : EV.words[kind w].data.toList = w := by
    rw [List.getElem_map] at h1
    exact h1
  calc EV.words[kind w] = mk (EV.words[kind w].data.toList) := (Lib.mk_data _).symm
    _ = mk w := congrArg mk h2

theorem kind_ne {w : List UInt8} (h : kind w < 10) : w ≠ [] := by
  rintro rfl
  revert h
  decide

section
variable {w : List UInt8} {R : List (List UInt8)}

theorem text_of {d : Ev} {k : Nat} {ps : List (List UInt8)} (hk : kind w = k) (h10 : k < 10) (hd : d.kd = k) (hp : parts d = ps.map mk) : text d = mk (jn (w :: ps)) := by
  have hw := kind_word (w := w) (by omega)
  unfold text
  rw [if_pos (by omega), hd, Int.toNat_natCast, ← hk, hw, hp, glue_jn]

theorem jn_ne (h : kind w < 10) : jn (w :: R) ≠ [] := by
  have := kind_ne h
  intro e
  by_cases hr : R = []
  · subst hr; exact this e
  · rw [jn_cons w R hr] at e
    simp at e

theorem jn_eq_iff (A L : List (List UInt8)) (hA : A ≠ []) : mk (jn A) = mk (jn (A ++ L)) ↔ L = [] := by
  constructor
  · intro h
    rcases Classical.em (L = []) with h1 | h1
    · exact h1
    · have := jn_len A L hA h1
      rw [mk_inj h] at this
      omega
  · rintro rfl
    simp

/-- The specification takes just what the program reads, and reads the same. -/
theorem good_iff (k : Nat) (hk : kind w = k) (h10 : k < 10) : good (cand k R).1 (cand k R).2 (jn (w :: R)) ↔ (ans k R).2 = true := by
  have hne := jn_ne (R := R) (hk ▸ h10 : kind w < 10)
  unfold good
  match k, h10 with
  | 0, _ =>
    simp only [cand, ans, Bool.and_eq_true, decide_eq_true_eq]
    constructor
    · rintro ⟨_, _, h0, h1, h2, ht⟩
      rw [text_of (ps := [wd R 0, wd R 1, wd R 2]) hk (by omega) rfl (by simp [parts, dt_n h0, dt_n h1, dt_n h2])] at ht
      rw [split3 (n_lt h2)] at ht
      exact ⟨(jn_eq_iff [w, wd R 0, wd R 1, wd R 2] (R.drop 3) (by simp)).1 ht, ⟨h0, h1⟩, h2⟩
    · rintro ⟨hd, ⟨h0, h1⟩, h2⟩
      refine ⟨hne, trivial, h0, h1, h2, ?_⟩
      rw [text_of (ps := [wd R 0, wd R 1, wd R 2]) hk (by omega) rfl (by simp [parts, dt_n h0, dt_n h1, dt_n h2])]
      conv => rhs; rw [split3 (n_lt h2), hd]
  | 1, _ =>
    simp only [cand, ans, Bool.and_eq_true, decide_eq_true_eq]
    constructor
    · rintro ⟨_, hH, h0, _, h1, ht⟩
      obtain ⟨p, hp⟩ := okH_one _ hH
      obtain ⟨e1, e2⟩ := drop_one hp
      rw [hp] at hH
      exact ⟨e1, ⟨h0, h1⟩, by rw [e2]; exact hH⟩
    · rintro ⟨hd, ⟨h0, h1⟩, hH⟩
      have hl : 2 < R.length := by
        rcases Nat.lt_or_ge 2 R.length with h | h
        · exact h
        · rw [wd_not h] at hH
          simp [okH] at hH
      have e2 : R.drop 2 = [wd R 2] := by
        have := split3 hl
        rw [hd] at this
        rw [this]
        rfl
      rw [e2]
      refine ⟨hne, hH, h0, by omega, h1, ?_⟩
      rw [text_of (ps := [wd R 0, wd R 1, wd R 2]) hk (by omega) rfl (by simp [parts, dt_n h0, dt_n h1, jn, hx_txt _ hH])]
      conv => rhs; rw [split3 hl, hd]
  | 2, _ =>
    simp only [cand, ans, Bool.and_eq_true, decide_eq_true_eq]
    have hz : ∀ z : Int, 0 ≤ z → z ≤ 768 → ((B4.zeros z).size : Int) = z := by
      intro z h0 h1
      unfold B4.zeros
      rw [if_pos (by omega), B4.nulls_size]
      omega
    constructor
    · rintro ⟨_, ⟨h2, h3⟩, h0, _, h1, ht⟩
      rw [text_of (ps := [wd R 0, wd R 1, wd R 2]) hk (by omega) rfl (by simp [parts, dt_n h0, dt_n h1, hz _ h2 h3, dt_n h2])] at ht
      rw [split3 (n_lt h2)] at ht
      exact ⟨(jn_eq_iff [w, wd R 0, wd R 1, wd R 2] (R.drop 3) (by simp)).1 ht, ⟨⟨h0, h1⟩, h2⟩, h3⟩
    · rintro ⟨hd, ⟨⟨h0, h1⟩, h2⟩, h3⟩
      refine ⟨hne, ⟨h2, h3⟩, h0, by omega, h1, ?_⟩
      rw [text_of (ps := [wd R 0, wd R 1, wd R 2]) hk (by omega) rfl (by simp [parts, dt_n h0, dt_n h1, hz _ h2 h3, dt_n h2])]
      conv => rhs; rw [split3 (n_lt h2), hd]
  | 3, _ =>
    simp only [cand, ans, Bool.and_eq_true, decide_eq_true_eq]
    constructor
    · rintro ⟨_, _, h0, h1, _, ht⟩
      rw [text_of (ps := [wd R 0, wd R 1]) hk (by omega) rfl (by simp [parts, dt_n h0, dt_n h1])] at ht
      rw [split2 (n_lt h1)] at ht
      exact ⟨(jn_eq_iff [w, wd R 0, wd R 1] (R.drop 2) (by simp)).1 ht, h0, h1⟩
    · rintro ⟨hd, h0, h1⟩
      refine ⟨hne, trivial, h0, h1, by omega, ?_⟩
      rw [text_of (ps := [wd R 0, wd R 1]) hk (by omega) rfl (by simp [parts, dt_n h0, dt_n h1])]
      conv => rhs; rw [split2 (n_lt h1), hd]
  | 4, _ =>
    simp only [cand, ans, decide_eq_true_eq]
    rw [text_of (ps := []) hk (by omega) rfl (by simp [parts])]
    constructor
    · rintro ⟨_, _, _, _, _, ht⟩
      exact (jn_eq_iff [w] R (by simp)).1 ht
    · rintro rfl
      exact ⟨hne, trivial, by omega, by omega, by omega, rfl⟩
  | 5, _ =>
    simp only [cand, ans]
    constructor
    · rintro ⟨_, h, _⟩
      exact h
    · intro h
      refine ⟨hne, h, by omega, by omega, by omega, ?_⟩
      rw [text_of (ps := R) hk (by omega) rfl ?_]
      simp only [parts]
      show List.map dt (R.map fun p => R0.rd (mk p)) = R.map mk
      rw [List.map_map]
      apply List.map_congr_left
      intro p hp
      exact dt_rd (of_decide_eq_true (List.all_eq_true.1 h p hp))
  | 6, _ =>
    simp only [cand, ans, Bool.and_eq_true, decide_eq_true_eq]
    constructor
    · rintro ⟨_, hH, h0, h1, _, ht⟩
      obtain ⟨p, hp⟩ := okH_one _ hH
      obtain ⟨e1, e2⟩ := drop_one hp
      rw [hp] at hH
      exact ⟨e1, ⟨h0, h1⟩, by rw [e2]; exact hH⟩
    · rintro ⟨hd, ⟨h0, h1⟩, hH⟩
      have hl : 2 < R.length := by
        rcases Nat.lt_or_ge 2 R.length with h | h
        · exact h
        · rw [wd_not h] at hH
          simp [okH] at hH
      have e2 : R.drop 2 = [wd R 2] := by
        have := split3 hl
        rw [hd] at this
        rw [this]
        rfl
      rw [e2]
      refine ⟨hne, hH, h0, h1, by omega, ?_⟩
      rw [text_of (ps := [wd R 0, wd R 1, wd R 2]) hk (by omega) rfl (by simp [parts, dt_n h0, dt_n h1, jn, hx_txt _ hH])]
      conv => rhs; rw [split3 hl, hd]
  | 7, _ =>
    simp only [cand, ans, Bool.and_eq_true, decide_eq_true_eq]
    constructor
    · rintro ⟨_, _, h0, h1, h2, ht⟩
      refine ⟨fun hd => ?_, ⟨h0, h1⟩, h2⟩
      rw [text_of (ps := [wd R 0, wd R 1, wd R 2, jn (R.drop 3)]) hk (by omega) rfl (by simp [parts, dt_n h0, dt_n h1, dt_n h2])] at ht
      rw [split3 (n_lt h2)] at ht
      have e : (wd R 0 :: wd R 1 :: wd R 2 :: R.drop 3).drop 3 = R.drop 3 := rfl
      rw [hd] at ht
      have := (jn_eq_iff [w, wd R 0, wd R 1, wd R 2] [jn []] (by simp)).1 ht.symm
      cases this
    · rintro ⟨hd, ⟨h0, h1⟩, h2⟩
      refine ⟨hne, trivial, h0, h1, h2, ?_⟩
      rw [text_of (ps := [wd R 0, wd R 1, wd R 2, jn (R.drop 3)]) hk (by omega) rfl (by simp [parts, dt_n h0, dt_n h1, dt_n h2])]
      have := jn_app [w, wd R 0, wd R 1, wd R 2] (R.drop 3) hd
      conv => rhs; rw [split3 (n_lt h2)]
      exact congrArg mk this
  | 8, _ =>
    simp only [cand, ans, Bool.and_eq_true, decide_eq_true_eq]
    constructor
    · rintro ⟨_, _, h0, h1, _, ht⟩
      refine ⟨fun hd => ?_, h0, h1⟩
      rw [text_of (ps := [wd R 0, wd R 1, jn (R.drop 2)]) hk (by omega) rfl (by simp [parts, dt_n h0, dt_n h1])] at ht
      rw [split2 (n_lt h1)] at ht
      rw [hd] at ht
      have := (jn_eq_iff [w, wd R 0, wd R 1] [jn []] (by simp)).1 ht.symm
      cases this
    · rintro ⟨hd, h0, h1⟩
      refine ⟨hne, trivial, h0, h1, by omega, ?_⟩
      rw [text_of (ps := [wd R 0, wd R 1, jn (R.drop 2)]) hk (by omega) rfl (by simp [parts, dt_n h0, dt_n h1])]
      have := jn_app [w, wd R 0, wd R 1] (R.drop 2) hd
      conv => rhs; rw [split2 (n_lt h1)]
      exact congrArg mk this
  | 9, _ =>
    simp only [cand, ans, Bool.and_eq_true, decide_eq_true_eq]
    constructor
    · rintro ⟨_, hH, h0, h1, h2, ht⟩
      obtain ⟨p, hp⟩ := okH_one _ hH
      obtain ⟨e1, e2⟩ := drop_one hp
      rw [hp] at hH
      exact ⟨e1, ⟨⟨h0, h1⟩, h2⟩, by rw [e2]; exact hH⟩
    · rintro ⟨hd, ⟨⟨h0, h1⟩, h2⟩, hH⟩
      have hl : 3 < R.length := by
        rcases Nat.lt_or_ge 3 R.length with h | h
        · exact h
        · rw [wd_not h] at hH
          simp [okH] at hH
      have e2 : R.drop 3 = [wd R 3] := by
        match R, hl, hd with
        | [p, q, r, t], _, _ => rfl
      rw [e2]
      refine ⟨hne, hH, h0, h1, h2, ?_⟩
      rw [text_of (ps := [wd R 0, wd R 1, wd R 2, wd R 3]) hk (by omega) rfl (by simp [parts, dt_n h0, dt_n h1, dt_n h2, jn, hx_txt _ hH])]
      conv => rhs; rw [split3 (n_lt h2), e2]

theorem cand_eq (k : Nat) (h10 : k < 10) (h : (ans k R).2 = true) : (cand k R).1 = (ans k R).1 := by
  have one : ∀ (j : Nat), R.drop (j + 1) = [] → okH (wd R j) = true → R.drop j = [wd R j] := by
    intro j hd hH
    have hl : j < R.length := by
      rcases Nat.lt_or_ge j R.length with h | h
      · exact h
      · rw [wd_not h] at hH
        simp [okH] at hH
    rw [List.drop_eq_getElem_cons hl, hd, wd_get hl]
  match k, h10 with
  | 0, _ => rfl
  | 1, _ =>
    simp only [ans, Bool.and_eq_true, decide_eq_true_eq] at h
    simp only [cand, ans]
    rw [one 2 h.1 h.2.2]
    rfl
  | 2, _ => rfl
  | 3, _ => rfl
  | 4, _ => rfl
  | 5, _ => rfl
  | 6, _ =>
    simp only [ans, Bool.and_eq_true, decide_eq_true_eq] at h
    simp only [cand, ans]
    rw [one 2 h.1 h.2.2]
    rfl
  | 7, _ => rfl
  | 8, _ => rfl
  | 9, _ =>
    simp only [ans, Bool.and_eq_true, decide_eq_true_eq] at h
    simp only [cand, ans]
    rw [one 3 h.1 h.2.2]
    rfl
end

/-- The candidate of a text. -/
def cd (s : List UInt8) : Ev × Bool := cand (kind ((sp s).headD [])) (sp s).tail

theorem kind_le (w : List UInt8) : kind w ≤ 10 := by
  have : (EV.words.map (·.data.toList)).idxOf w ≤ (EV.words.map (·.data.toList)).length := List.idxOf_le_length
  simpa [kind, EV.words] using this

/-- Read is what the specification takes. -/
theorem read_good (s : List UInt8) (h : good (cd s).1 (cd s).2 s) : read s = ((cd s).1, true) := by
  have hs : jn ((sp s).headD [] :: (sp s).tail) = s := by rw [← sp_cons, jn_sp]
  rcases Nat.lt_or_ge (kind ((sp s).headD [])) 10 with hk | hk
  · have h1 := (good_iff (R := (sp s).tail) _ rfl hk).1 (by rw [hs]; exact h)
    rw [read, if_pos h1, cd, cand_eq _ hk h1, ← h1]
  · have e : kind ((sp s).headD []) = 10 := Nat.le_antisymm (kind_le _) hk
    obtain ⟨h0, _, _, _, _, ht⟩ := h
    rw [cd, e] at ht
    exact absurd (mk_inj (l := []) (m := s) ht).symm h0

theorem read_not (s : List UInt8) (h : ¬ good (cd s).1 (cd s).2 s) : read s = (ev0, false) := by
  have hs : jn ((sp s).headD [] :: (sp s).tail) = s := by rw [← sp_cons, jn_sp]
  unfold read
  rw [if_neg]
  intro h1
  rcases Nat.lt_or_ge (kind ((sp s).headD [])) 10 with hk | hk
  · exact h (by have := (good_iff (R := (sp s).tail) _ rfl hk).2 h1; rwa [hs] at this)
  · have e : kind ((sp s).headD []) = 10 := Nat.le_antisymm (kind_le _) hk
    rw [e] at h1
    cases h1
end Go.Proofs.YtjajclifjojblaaDoor.RW
