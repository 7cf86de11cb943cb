/- Plain facts on reading an event off its text: the words between blanks, digits of sixteen, what is read of the words, and that the text of what is read is the text. -/
import Derived.Test.YtjajclifjojblaaDoorEv0
import Derived.Test.YtjajclifjojblaaDoorRead0
import Derived.Test.YtjajclifjojblaaDoorWords0
namespace Go.Proofs.YtjajclifjojblaaDoor.RV
open Go
set_option linter.unusedVariables false
set_option linter.unusedSimpArgs false
set_option maxRecDepth 10000
open EV (Ev dt hx glue text parts)

abbrev mk (l : List UInt8) : ByteArray := ⟨l.toArray⟩
theorem mk_inj {l m : List UInt8} (h : mk l = mk m) : l = m := by
  have := congrArg (fun b => b.data.toList) h
  simpa using this

/-- The parts between blanks. -/
def sp : List UInt8 → List (List UInt8)
  | [] => [[]]
  | c :: r => if c = 32 then [] :: sp r else (c :: (sp r).headD []) :: (sp r).tail

/-- Parts, with a blank between two. -/
def jn : List (List UInt8) → List UInt8
  | [] => []
  | [p] => p
  | p :: q :: r => p ++ 32 :: jn (q :: r)

theorem jn_cons (p : List UInt8) (r : List (List UInt8)) (h : r ≠ []) : jn (p :: r) = p ++ 32 :: jn r := by
  cases r with
  | nil => exact absurd rfl h
  | cons q r => rfl

theorem sp_ne (s : List UInt8) : sp s ≠ [] := by
  cases s with
  | nil => simp [sp]
  | cons c r => unfold sp; split <;> simp

theorem sp_cons (s : List UInt8) : sp s = (sp s).headD [] :: (sp s).tail := by
  have := sp_ne s
  cases h : sp s with
  | nil => exact absurd h this
  | cons p r => rfl

theorem jn_sp : ∀ s : List UInt8, jn (sp s) = s
  | [] => rfl
  | c :: r => by
    have ih := jn_sp r
    unfold sp
    split
    · rename_i h
      rw [jn_cons _ _ (sp_ne r), ih, h]; rfl
    · by_cases ht : (sp r).tail = []
      · rw [sp_cons r, ht] at ih
        rw [ht]
        show c :: (sp r).headD [] = c :: r
        exact congrArg (c :: ·) ih
      · rw [jn_cons _ _ ht]
        rw [sp_cons r, jn_cons _ _ ht] at ih
        show c :: ((sp r).headD [] ++ 32 :: jn (sp r).tail) = c :: r
        exact congrArg (c :: ·) ih

theorem sp_free : ∀ s : List UInt8, ∀ p ∈ sp s, (32 : UInt8) ∉ p
  | [] => by simp [sp]
  | c :: r => by
    have ih := sp_free r
    intro p hp
    unfold sp at hp
    split at hp
    · rcases List.mem_cons.1 hp with rfl | h
      · simp
      · exact ih p h
    · rename_i hc
      rcases List.mem_cons.1 hp with rfl | h
      · have h1 := ih ((sp r).headD []) (by rw [sp_cons r]; simp)
        simp only [List.mem_cons, not_or]
        exact ⟨fun e => hc e.symm, h1⟩
      · exact ih p (by rw [sp_cons r]; exact List.mem_cons_of_mem _ h)

/-- Joined parts are longer the more there are. -/
theorem jn_len : ∀ (A L : List (List UInt8)), A ≠ [] → L ≠ [] → (jn A).length < (jn (A ++ L)).length
  | [], L, h, _ => absurd rfl h
  | [p], L, _, hL => by
    show p.length < (jn (p :: L)).length
    rw [jn_cons p L hL]
    simp
  | p :: q :: A, L, _, hL => by
    have ih := jn_len (q :: A) L (by simp) hL
    show (jn (p :: q :: A)).length < (jn (p :: (q :: A ++ L))).length
    rw [jn_cons p (q :: A) (by simp), jn_cons p (q :: A ++ L) (by simp)]
    simp only [List.length_append, List.length_cons] at ih ⊢
    omega

theorem jn_app : ∀ (A L : List (List UInt8)), L ≠ [] → jn (A ++ [jn L]) = jn (A ++ L)
  | [], L, h => rfl
  | p :: A, L, h => by
    have ih := jn_app A L h
    show jn (p :: (A ++ [jn L])) = jn (p :: (A ++ L))
    rw [jn_cons p _ (by simp), jn_cons p _ (by simp [h]), ih]

theorem jn_mem : ∀ (p q : List UInt8) (r : List (List UInt8)), (32 : UInt8) ∈ jn (p :: q :: r) := by
  intro p q r
  rw [jn_cons p _ (by simp)]
  simp

theorem join_jn : ∀ L : List (List UInt8), Lib.join L [32] = jn L
  | [] => rfl
  | [p] => Lib.join_one p [32]
  | p :: q :: r => by
    have ih := join_jn (q :: r)
    rw [Lib.join_cons, jn_cons p _ (by simp), ← ih, Lib.join_cons]
    simp [Lib.joinTail]

theorem glue_jn (w : List UInt8) (ps : List (List UInt8)) : glue (mk w) (ps.map mk) = mk (jn (w :: ps)) := by
  unfold glue
  rw [join_jn]
  congr 2
  simp [mk, List.map_map, Function.comp_def]

/-- The first word, and what stands behind the blank behind it. -/
theorem cut_sp : ∀ s : List UInt8, Lib.cut s [32] = ((sp s).headD [], jn (sp s).tail, !(sp s).tail.isEmpty) := by
  have key : ∀ s : List UInt8, ((sp s).tail = [] → Lib.index s [32] = -1) ∧ ((sp s).tail ≠ [] → Lib.index s [32] = ((sp s).headD []).length) := by
    intro s
    induction s with
    | nil => exact ⟨fun _ => rfl, fun h => absurd rfl h⟩
    | cons c r ih =>
      by_cases hc : c = 32
      · subst hc
        have hp : ([32] : List UInt8).isPrefixOf (32 :: r) = true := by simp [List.isPrefixOf]
        refine ⟨fun h => absurd h (by simp [sp, sp_ne]), fun _ => ?_⟩
        rw [Lib.index, if_pos hp]
        simp [sp]
      · have hp : ([32] : List UInt8).isPrefixOf (c :: r) = false := by simp [List.isPrefixOf]; exact fun h => hc h.symm
        have ht : (sp (c :: r)).tail = (sp r).tail := by simp [sp, hc]
        have hh : (sp (c :: r)).headD [] = c :: (sp r).headD [] := by simp [sp, hc]
        rw [ht, hh, Lib.index, hp]
        refine ⟨fun h => ?_, fun h => ?_⟩
        · rw [ih.1 h]; rfl
        · rw [ih.2 h]
          have : ((((sp r).headD []).length : Int) == -1) = false := by simp
          rw [if_neg (by simp), this]
          simp
  intro s
  have hj := jn_sp s
  unfold Lib.cut
  by_cases ht : (sp s).tail = []
  · rw [(key s).1 ht, ht]
    rw [sp_cons s, ht] at hj
    have hj' : (sp s).headD [] = s := hj
    rw [if_neg (by omega), hj']
    rfl
  · rw [(key s).2 ht, if_pos (by omega)]
    rw [sp_cons s, jn_cons _ _ ht] at hj
    generalize (sp s).headD [] = p at hj ⊢
    generalize hq : jn (sp s).tail = q at hj ⊢
    have he : (!(sp s).tail.isEmpty) = true := by simpa using ht
    rw [he, ← hj]
    simp

/-- The words as the specification cuts them. -/
theorem words_sp (s : ByteArray) : W0.words s = (sp s.data.toList).map mk := by
  have key : ∀ k, k ≤ s.size → sp s.data.toList = (W0.st s k).1.map (·.data.toList) ++ (((s.extract (W0.st s k).2 k).data.toList ++ (sp (s.data.toList.drop k)).headD []) :: (sp (s.data.toList.drop k)).tail) := by
    intro k
    induction k with
    | zero =>
      intro _
      have e : (s.extract 0 0).data.toList = [] := by rw [Lib.extract_data]; simp
      simp only [W0.st, List.map_nil, List.nil_append, e, List.drop_zero]
      exact sp_cons _
    | succ k ih =>
      intro hk
      have hlt : k < s.size := hk
      have hl : k < s.data.toList.length := by rw [← Lib.size_eq]; exact hlt
      have hd : s.data.toList.drop k = s[k] :: s.data.toList.drop (k + 1) := by rw [List.drop_eq_getElem_cons hl]; rfl
      have h := ih (by omega)
      have hle := (W0.st_le s k).1
      rw [hd] at h
      by_cases hb : s[k].toNat = 32
      · have hb' : s[k] = 32 := UInt8.toNat_inj.1 hb
        rw [W0.st_blank s k hlt hb]
        rw [h]
        have e : (s.extract (k + 1) (k + 1)).data.toList = [] := by rw [Lib.extract_data]; simp
        simp only [sp, hb', if_true, List.headD_cons, List.tail_cons, List.append_nil, List.map_append, List.map_cons, List.map_nil, List.append_assoc, List.cons_append, List.nil_append, e]
        rw [← sp_cons]
      · have hb' : s[k] ≠ 32 := fun h => hb (by rw [h]; rfl)
        rw [W0.st_other s k hlt hb, h]
        have e : (s.extract (W0.st s k).2 (k + 1)).data.toList = (s.extract (W0.st s k).2 k).data.toList ++ [s[k]] := by
          rw [Lib.extract_data, Lib.extract_data, show k + 1 - (W0.st s k).2 = (k - (W0.st s k).2) + 1 by omega, List.take_succ_eq_append_getElem (by simp only [List.length_drop]; omega)]
          congr 2
          rw [List.getElem_drop]
          have : (W0.st s k).2 + (k - (W0.st s k).2) = k := by omega
          simp only [this]
          rfl
        simp only [sp, hb', if_false, List.headD_cons, List.tail_cons, e, List.append_assoc, List.cons_append, List.nil_append]
  have h := key s.size (Nat.le_refl _)
  have e : s.data.toList.drop s.size = [] := List.drop_eq_nil_of_le (by rw [Lib.size_eq]; exact Nat.le_refl _)
  rw [e] at h
  simp only [sp, List.headD_cons, List.tail_cons, List.append_nil] at h
  rw [h, W0.words]
  simp only [mk, List.map_append, List.map_map, Function.comp_def, List.map_cons, List.map_nil, Lib.mk_data, List.map_id']

theorem sp_count (s : List UInt8) : (sp s).length ≤ s.length + 1 := by
  induction s with
  | nil => simp [sp]
  | cons c r ih =>
    unfold sp
    split
    · simp; omega
    · have := sp_cons r
      have h2 : (sp r).length = (sp r).tail.length + 1 := by rw [this]; simp
      simp at *
      omega

theorem jn_drop_le : ∀ (k : Nat) (L : List (List UInt8)), (jn (L.drop k)).length ≤ (jn L).length
  | 0, L => by simp
  | k + 1, [] => by simp [jn]
  | k + 1, p :: L => by
    have ih := jn_drop_le k L
    show (jn (L.drop k)).length ≤ _
    by_cases h : L = []
    · subst h; simp [jn]
    · rw [jn_cons p L h]
      simp
      omega

theorem mem_le : ∀ (L : List (List UInt8)) (p : List UInt8), p ∈ L → p.length ≤ (jn L).length
  | [], p, h => by cases h
  | [q], p, h => by
    obtain rfl : p = q := by simpa using h
    exact Nat.le_refl _
  | q :: r :: L, p, h => by
    rw [jn_cons q _ (by simp)]
    rcases List.mem_cons.1 h with rfl | h
    · simp
    · have := mem_le (r :: L) p h
      simp at *
      omega

/-- A digit of sixteen, or -1. -/
def nib (c : UInt8) : Int := if 48 ≤ c.toNat ∧ c.toNat ≤ 57 then (c.toNat : Int) - 48 else if 97 ≤ c.toNat ∧ c.toNat ≤ 102 then (c.toNat : Int) - 87 else -1

/-- The bytes of digits. -/
def un : List UInt8 → List UInt8
  | a :: b :: r => UInt8.ofNat (16 * nib a + nib b).toNat :: un r
  | _ => []

/-- Whether they are digits, two a byte. -/
def hexOk : List UInt8 → Bool
  | [] => true
  | [_] => false
  | a :: b :: r => decide (0 ≤ nib a) && decide (0 ≤ nib b) && hexOk r

/-- Whether a word tells bytes, and which. -/
def okH (s : List UInt8) : Bool := decide (s = [45]) || (!s.isEmpty && hexOk s)
def txt (s : List UInt8) : List UInt8 := if s = [45] then [] else un s

theorem nib_lt (c : UInt8) : nib c < 16 := by unfold nib; split <;> (try split) <;> omega

theorem hd_nib (c : UInt8) (h : 0 ≤ nib c) : H0.hd (nib c).toNat = c := by
  have key : ∀ n : Fin 256, 0 ≤ nib (UInt8.ofNat n.val) → H0.hd (nib (UInt8.ofNat n.val)).toNat = UInt8.ofNat n.val := by decide
  have := key ⟨c.toNat, c.toNat_lt⟩
  simpa using this (by simpa using h)

theorem hex_un : ∀ s : List UInt8, hexOk s = true → H0.hexL (un s) = s
  | [], _ => rfl
  | [c], h => by simp [hexOk] at h
  | a :: b :: r, h => by
    simp only [hexOk, Bool.and_eq_true, decide_eq_true_eq] at h
    obtain ⟨⟨ha, hb⟩, hr⟩ := h
    have ih := hex_un r hr
    have la := nib_lt a
    have lb := nib_lt b
    have hn : (UInt8.ofNat (16 * nib a + nib b).toNat).toNat = 16 * (nib a).toNat + (nib b).toNat := by
      rw [UInt8.toNat_ofNat']
      omega
    show H0.hd ((UInt8.ofNat (16 * nib a + nib b).toNat).toNat / 16) :: H0.hd ((UInt8.ofNat (16 * nib a + nib b).toNat).toNat % 16) :: H0.hexL (un r) = a :: b :: r
    rw [hn, show (16 * (nib a).toNat + (nib b).toNat) / 16 = (nib a).toNat by omega, show (16 * (nib a).toNat + (nib b).toNat) % 16 = (nib b).toNat by omega, hd_nib a ha, hd_nib b hb, ih]

theorem un_len : ∀ s : List UInt8, (un s).length ≤ s.length
  | [] => by simp [un]
  | [c] => by simp [un]
  | a :: b :: r => by have := un_len r; simp [un]; omega

theorem txt_len (s : List UInt8) : (txt s).length ≤ s.length := by
  unfold txt
  split
  · simp
  · exact un_len s

theorem hx_txt (s : List UInt8) (h : okH s = true) : hx (mk (txt s)) = mk s := by
  unfold okH at h
  unfold txt hx
  by_cases h1 : s = [45]
  · subst h1
    rfl
  · rw [if_neg h1]
    simp only [h1, decide_false, Bool.false_or, Bool.and_eq_true, Bool.not_eq_true', List.isEmpty_eq_false_iff] at h
    obtain ⟨h2, h3⟩ := h
    have h4 := hex_un s h3
    have hl : (mk (un s)).size ≠ 0 := by
      intro hz
      have : un s = [] := List.eq_nil_of_length_eq_zero (by simpa [ByteArray.size] using hz)
      rw [this] at h4
      exact h2 h4.symm
    rw [if_neg hl, H1.hex]
    exact congrArg mk (by simpa using h4)

theorem hexOk_free : ∀ s : List UInt8, hexOk s = true → (32 : UInt8) ∉ s
  | [], _ => by simp
  | [c], h => by simp [hexOk] at h
  | a :: b :: r, h => by
    simp only [hexOk, Bool.and_eq_true, decide_eq_true_eq] at h
    obtain ⟨⟨ha, hb⟩, hr⟩ := h
    have n32 : ¬ 0 ≤ nib 32 := by decide
    intro hm
    rcases List.mem_cons.1 hm with h | hm
    · exact n32 (h ▸ ha)
    · rcases List.mem_cons.1 hm with h | hm
      · exact n32 (h ▸ hb)
      · exact hexOk_free r hr hm

theorem okH_free (s : List UInt8) (h : okH s = true) : (32 : UInt8) ∉ s := by
  unfold okH at h
  rcases Bool.or_eq_true_iff.1 h with h | h
  · rw [of_decide_eq_true h]; decide
  · exact hexOk_free s (Bool.and_eq_true_iff.1 h).2

theorem okH_one (L : List (List UInt8)) (h : okH (jn L) = true) : ∃ p, L = [p] := by
  match L with
  | [] => simp [jn, okH] at h
  | [p] => exact ⟨p, rfl⟩
  | p :: q :: r => exact absurd (jn_mem p q r) (okH_free _ h)
end Go.Proofs.YtjajclifjojblaaDoor.RV
