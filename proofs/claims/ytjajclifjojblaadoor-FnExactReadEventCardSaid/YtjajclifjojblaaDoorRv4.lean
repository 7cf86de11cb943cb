/- Digits of sixteen, and bytes of them; the kind of a word. -/
import Derived.Test.YtjajclifjojblaaDoorRv3
import Derived.Deep.MidRow
namespace Go.Proofs.YtjajclifjojblaaDoor.RZ
open Go.ChangeShapes Go.WideShapes Go.ChangeAt Go.RowKit
set_option linter.unusedVariables false
set_option linter.unusedSimpArgs false
set_option maxRecDepth 10000
open RV (mk sp jn nib un hexOk okH txt)
open LF (Btw)
open RX (RB rv Ok)
open EX (Tabs)

theorem range_hex {w : World} (hT : Tabs w) : w.rangeAt 2 0 (H1.tab.map fun z => Value.int .u8 z) := by
  intro j v hv
  have hj : j < H1.tab.length := by
    have := (List.getElem?_eq_some_iff.1 hv).1
    simpa using this
  have h1 := hT.h.cell H1.gTab j hj
  rw [Nat.zero_add, h1]
  rw [List.getElem?_map, List.getElem?_eq_getElem hj] at hv
  simp only [Option.map_some, Option.some.injEq] at hv
  rw [← hv, List.getD, List.getElem?_eq_getElem hj]
  rfl

theorem case16 {P : Nat → Prop} (h : ∀ i : Fin 16, P i.val) (i : Nat) (hi : i < 16) : P i := h ⟨i, hi⟩
theorem case10 {P : Nat → Prop} (h : ∀ i : Fin 10, P i.val) (i : Nat) (hi : i < 10) : P i := h ⟨i, hi⟩

theorem ix_hex : ∀ (i : Nat) (hi : i < 16) (W : World), (Instr.index 64 (.agg (H1.tab.map fun z => Value.int .u8 z).toArray) (.int .i64 (i : Int))).run Tryd.prog W = .ok (.int .u8 (H1.tab.getD i 0)) W
  | 0, _, W => by kernel_rfl
  | 1, _, W => by kernel_rfl
  | 2, _, W => by kernel_rfl
  | 3, _, W => by kernel_rfl
  | 4, _, W => by kernel_rfl
  | 5, _, W => by kernel_rfl
  | 6, _, W => by kernel_rfl
  | 7, _, W => by kernel_rfl
  | 8, _, W => by kernel_rfl
  | 9, _, W => by kernel_rfl
  | 10, _, W => by kernel_rfl
  | 11, _, W => by kernel_rfl
  | 12, _, W => by kernel_rfl
  | 13, _, W => by kernel_rfl
  | 14, _, W => by kernel_rfl
  | 15, _, W => by kernel_rfl
  | _ + 16, h, W => absurd h (by omega)

theorem tab_hit (c : UInt8) (k : Nat) (hk : k < 16) (h : H1.tab.getD k 0 = (c.toNat : Int)) : nib c = (k : Int) := by
  have key : ∀ k : Fin 16, nib (UInt8.ofNat (H1.tab.getD k.val 0).toNat) = ((k.val : Nat) : Int) := by decide
  have := key ⟨k, hk⟩
  simp only [h] at this
  simpa using this
theorem tab_miss (c : UInt8) (h : ∀ k : Nat, k < 16 → H1.tab.getD k 0 ≠ (c.toNat : Int)) : nib c = -1 := by
  have key : ∀ n : Fin 256, (∀ k : Fin 16, H1.tab.getD k.val 0 ≠ ((n.val : Nat) : Int)) → nib (UInt8.ofNat n.val) = -1 := by decide
  have := key ⟨c.toNat, c.toNat_lt⟩ (fun k => h k.val k.isLt)
  simpa using this

set_option maxHeartbeats 1000000 in
theorem digitValue (c : UInt8) (w : World) (hT : Tabs w) :
    Calls Tryd.prog 44 #[.int .u8 (c.toNat : Int)] w fun e w' => e = .returned (.int .i64 (nib c)) ∧ w' = w := by
  have hr := range_hex hT
  have hix := ix_hex
  obtain ⟨C, hC⟩ : ∃ C, (H1.tab.map fun z => Value.int .u8 z).toArray = C := ⟨_, rfl⟩
  have HC : Hid ((H1.tab.map fun z => Value.int .u8 z).toArray = C) := hC
  rw [hC] at hix
  have HX : Hid (∀ (i : Nat) (hi : i < 16) (W : World), (Instr.index 64 (.agg C) (.int .i64 (i : Int))).run Tryd.prog W = .ok (.int .u8 (H1.tab.getD i 0)) W) := hix
  have H1' : Hid (∀ (k : Nat) (hk : k < 16) (h : H1.tab.getD k 0 = (c.toNat : Int)), nib c = (k : Int)) := tab_hit c
  have H2' : Hid ((∀ k : Nat, k < 16 → H1.tab.getD k 0 ≠ (c.toNat : Int)) → nib c = -1) := tab_miss c
  generalize nib c = z at H1' H2' ⊢
  generalize (c.toNat : Int) = cv at H1' H2' ⊢
  clear hC hix
  go_enter Tryd.func44, Tryd.ntmps44
  go_wp2_with (refine wpList_load_mid rfl 64 (.global 2) rfl 2 0 rfl _ _ hr Tryd.underlying64 rfl (by kernel_rfl) ?_; rw [HC.out])
  clear hr
  go_loopw [6] (fun i w' => ∃ k : Nat, k ≤ 16 ∧ i = .int .i64 k ∧ w' = w ∧ ∀ j, j < k → H1.tab.getD j 0 ≠ cv) (fun i _ => 16 - (intOf i).toNat)
  case atStart => exact ⟨0, Nat.zero_le _, rfl, rfl, fun j hj => absurd hj (Nat.not_lt_zero _)⟩
  case round =>
    obtain ⟨k, hk, rfl, rfl, hno⟩ := hrel
    by_cases hlt : k < 16
    · have hx := HX.out k hlt
      have e1 : (0 : Int) ≤ (k : Int) := by omega
      have e2 : (k : Int) < 16 := by omega
      have HA := H1'.out k hlt
      have HN : Hid (∀ j, j < k → H1.tab.getD j 0 ≠ cv) := hno
      clear hno
      obtain ⟨u, hu⟩ : ∃ u, H1.tab.getD k 0 = u := ⟨_, rfl⟩
      rw [hu] at hx HA
      by_cases hc : u = cv
      · subst hc
        have HZ : Hid (z = (k : Int)) := HA rfl
        clear HA
        go_wp2
        go_ret
        exact ⟨by rw [HZ.out]; rfl, rfl⟩
      · have hc' : (u == cv) = false := by simpa using hc
        clear HA hc
        go_wp2
        go_roundw
        case rel => exact ⟨k + 1, by omega, by go_num, by first | rfl | trivial, fun j hj => by
          rcases Nat.lt_or_ge j k with h | h
          · exact HN.out j h
          · obtain rfl : j = k := by omega
            rw [hu]
            simpa using hc'⟩
        case measure => simp [intOf]; omega
    · obtain rfl : k = 16 := by omega
      have HZ : Hid (z = -1) := H2'.out hno
      clear hno
      go_wp2
      go_ret
      exact ⟨by rw [HZ.out]; rfl, rfl⟩

theorem range_words {w : World} (hT : Tabs w) : w.rangeAt 0 0 (EV.words.map Value.string) := by
  intro j v hv
  have hj : j < EV.words.length := by
    have := (List.getElem?_eq_some_iff.1 hv).1
    simpa using this
  have h1 := hT.e.cell (by kernel_rfl : Tryd.prog.globalNamed "loop.example/g00278/impl.eventWords" = some 0) j hj
  rw [Nat.zero_add, h1]
  rw [List.getElem?_map, List.getElem?_eq_getElem hj] at hv
  simp only [Option.map_some, Option.some.injEq] at hv
  rw [← hv, List.getD, List.getElem?_eq_getElem hj]
  rfl

theorem ix_words : ∀ (i : Nat) (hi : i < 10) (W : World), (Instr.index 54 (.agg (EV.words.map Value.string).toArray) (.int .i64 (i : Int))).run Tryd.prog W = .ok (.string (EV.words.getD i ⟨#[]⟩)) W
  | 0, _, W => by kernel_rfl
  | 1, _, W => by kernel_rfl
  | 2, _, W => by kernel_rfl
  | 3, _, W => by kernel_rfl
  | 4, _, W => by kernel_rfl
  | 5, _, W => by kernel_rfl
  | 6, _, W => by kernel_rfl
  | 7, _, W => by kernel_rfl
  | 8, _, W => by kernel_rfl
  | 9, _, W => by kernel_rfl
  | _ + 10, h, W => absurd h (by omega)

/-- A kind, as the program tells it. -/
def kv (z : Nat) : Int := if z < 10 then (z : Int) else 0
def kb (z : Nat) : Bool := decide (z < 10)

theorem words_hit (p : List UInt8) (k : Nat) (hk : k < 10) (h : (EV.words.getD k ⟨#[]⟩).toList = p) : RW.kind p = k := by
  have key : ∀ k : Fin 10, RW.kind (EV.words.getD k.val ⟨#[]⟩).data.toList = k.val := by decide
  have := key ⟨k, hk⟩
  rw [Lib.toList_data] at h
  simp only [h] at this
  exact this
theorem words_miss (p : List UInt8) (h : ∀ k : Nat, k < 10 → (EV.words.getD k ⟨#[]⟩).toList ≠ p) : RW.kind p = 10 := by
  have hl : (EV.words.map (·.data.toList)).length = 10 := by simp [EV.words]
  show (EV.words.map (·.data.toList)).idxOf p = 10
  rw [← hl]
  apply List.idxOf_eq_length
  intro hm
  obtain ⟨k, hk, e⟩ := List.mem_iff_getElem.1 hm
  have hk' : k < EV.words.length := by simpa using hk
  refine h k (by omega) ?_
  rw [Lib.toList_data, List.getD, List.getElem?_eq_getElem hk']
  simpa using e

set_option maxHeartbeats 1000000 in
theorem eventKind (p : List UInt8) (w : World) (hT : Tabs w) :
    Calls Tryd.prog 19 #[.string (mk p)] w fun e w' => e = .returned (.tuple #[.int .i64 (kv (RW.kind p)), .bool (kb (RW.kind p))]) ∧ w' = w := by
  have hr := range_words hT
  have hix := ix_words
  obtain ⟨C, hC⟩ : ∃ C, (EV.words.map Value.string).toArray = C := ⟨_, rfl⟩
  have HC : Hid ((EV.words.map Value.string).toArray = C) := hC
  rw [hC] at hix
  have HX : Hid (∀ (i : Nat) (hi : i < 10) (W : World), (Instr.index 54 (.agg C) (.int .i64 (i : Int))).run Tryd.prog W = .ok (.string (EV.words.getD i ⟨#[]⟩)) W) := hix
  have hp : (mk p).toList = p := by rw [Lib.toList_data]
  have H1' : Hid (∀ (k : Nat) (hk : k < 10) (h : (EV.words.getD k ⟨#[]⟩).toList = (mk p).toList), RW.kind p = k) := by rw [hp]; exact words_hit p
  have H2' : Hid ((∀ k : Nat, k < 10 → (EV.words.getD k ⟨#[]⟩).toList ≠ (mk p).toList) → RW.kind p = 10) := by rw [hp]; exact words_miss p
  generalize RW.kind p = z at H1' H2' ⊢
  generalize mk p = cv at H1' H2' ⊢
  clear hC hix hp
  go_enter Tryd.func19, Tryd.ntmps19
  go_wp2_with (refine wpList_load_mid rfl 54 (.global 0) rfl 0 0 rfl _ _ hr Tryd.underlying54 rfl (by kernel_rfl) ?_; rw [HC.out])
  clear hr
  go_loopw [7] (fun i w' => ∃ k : Nat, k ≤ 10 ∧ i = .int .i64 k ∧ w' = w ∧ ∀ j, j < k → (EV.words.getD j ⟨#[]⟩).toList ≠ cv.toList) (fun i _ => 10 - (intOf i).toNat)
  case atStart => exact ⟨0, Nat.zero_le _, rfl, rfl, fun j hj => absurd hj (Nat.not_lt_zero _)⟩
  case round =>
    obtain ⟨k, hk, rfl, rfl, hno⟩ := hrel
    by_cases hlt : k < 10
    · have hx := HX.out k hlt
      have e1 : (0 : Int) ≤ (k : Int) := by omega
      have e2 : (k : Int) < 10 := by omega
      have HA := H1'.out k hlt
      have HN : Hid (∀ j, j < k → (EV.words.getD j ⟨#[]⟩).toList ≠ cv.toList) := hno
      clear hno
      obtain ⟨u, hu⟩ : ∃ u, EV.words.getD k ⟨#[]⟩ = u := ⟨_, rfl⟩
      rw [hu] at hx HA
      by_cases hc : u.toList = cv.toList
      · have HZ : Hid (z = k) := HA hc
        have hc' : (u.toList == cv.toList) = true := by simpa using hc
        clear HA hc
        go_wp2
        go_ret2
        refine ⟨?_, rfl⟩
        rw [HZ.out, show kv k = (k : Int) from if_pos hlt, show kb k = true from decide_eq_true hlt]
        rfl
      · have hc' : (u.toList == cv.toList) = false := by simpa using hc
        clear HA hc
        go_wp2
        go_roundw
        case rel => exact ⟨k + 1, by omega, by go_num, by first | rfl | trivial, fun j hj => by
          rcases Nat.lt_or_ge j k with h | h
          · exact HN.out j h
          · obtain rfl : j = k := by omega
            rw [hu]
            simpa using hc'⟩
        case measure => simp [intOf]; omega
    · obtain rfl : k = 10 := by omega
      have HZ : Hid (z = 10) := H2'.out hno
      clear hno
      go_wp2
      go_ret2
      refine ⟨?_, rfl⟩
      rw [HZ.out]
      rfl
end Go.Proofs.YtjajclifjojblaaDoor.RZ
