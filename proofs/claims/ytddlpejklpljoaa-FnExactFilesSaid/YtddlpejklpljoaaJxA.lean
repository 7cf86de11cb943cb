/- Joined texts: plain facts and contracts, as each part says. -/
import Derived.Lib.ItoaNum
import Derived.Lib.ItoaLen
import Derived.Lib.ItoaMem
import Derived.Lib.Strings
import Derived.WalkKit
import Derived.Test.YtddlpejklpljoaaRows
import Derived.Test.YtddlpejklpljoaaJfA
import Derived.ProofKit
import Derived.Handy
import Derived.Test.YtddlpejklpljoaaJfN
import Derived.Test.YtddlpejklpljoaaJfG

/- Plain facts on decimal numerals. -/
namespace Go.Proofs.Ytddlpejklpljoaa.D0
open Go

/-- The digits of a number, none for 0. -/
def dd (u : Nat) : List UInt8 := if u = 0 then [] else Lib.decDigits u

theorem dd_step (u : Nat) (h : u ≠ 0) : dd u = dd (u / 10) ++ [UInt8.ofNat (48 + u % 10)] := by
  unfold dd
  rw [if_neg h]
  by_cases h1 : u < 10
  · rw [Lib.decDigits_one h1, if_pos (by omega), Nat.mod_eq_of_lt h1]
    rfl
  · rw [Lib.decDigits, dif_neg h1, if_neg (by omega)]

theorem dd_length (u : Nat) (h : u ≤ 9223372036854775808) : (dd u).length ≤ 21 := by
  unfold dd
  split
  · simp
  · have := Lib.itoa_length_le (-(u : Int)) (by omega) (by omega)
    rw [Lib.itoa_neg u (by omega)] at this
    simp at this
    omega

/-- The ten digits as a text. -/
theorem digit_piece (d : Nat) (h : d < 10) : (⟨#[48, 49, 50, 51, 52, 53, 54, 55, 56, 57]⟩ : ByteArray).extract d (d + 1) = ⟨#[UInt8.ofNat (48 + d)]⟩ := by
  match d, h with
  | 0, _ => rfl
  | 1, _ => rfl
  | 2, _ => rfl
  | 3, _ => rfl
  | 4, _ => rfl
  | 5, _ => rfl
  | 6, _ => rfl
  | 7, _ => rfl
  | 8, _ => rfl
  | 9, _ => rfl

/-- A step of the loop that writes the digits from the last one on. -/
theorem round_eq (u v : Nat) (out : List UInt8) (h : u ≠ 0) (e : dd u ++ out = dd v) : dd (u / 10) ++ (UInt8.ofNat (48 + u % 10) :: out) = dd v := by
  rw [← e, dd_step u h]
  simp

/-- One digit as a text. -/
def dig (x : Int) : ByteArray := ⟨#[UInt8.ofNat (48 + x.toNat)]⟩

theorem dig_size (x : Int) : (dig x).size = 1 := rfl

theorem dig_cons (x : Int) (out : List UInt8) : dig x ++ ⟨out.toArray⟩ = ⟨(UInt8.ofNat (48 + x.toNat) :: out).toArray⟩ := by
  apply ByteArray.ext
  apply Array.toList_inj.1
  simp [dig]

theorem ret_minus (l : List UInt8) : Ending.returned (.string (⟨#[45]⟩ ++ ⟨l.toArray⟩)) = Ending.returned (.string ⟨(45 :: l).toArray⟩) := by
  congr 2

theorem itoa_pos (u : Nat) (h : u ≠ 0) : Lib.itoa (u : Int) = dd u := by rw [Lib.itoa_nonneg, dd, if_neg h]
theorem itoa_neg (u : Nat) (h : u ≠ 0) : Lib.itoa (-(u : Int)) = 45 :: dd u := by rw [Lib.itoa_neg u (by omega), dd, if_neg h]

/-- The piece of the ten digits at a digit's place. -/
theorem dig_slice {P : Program} (t : TypeId) (ht : P.underlying t = some .string) (x : Int) (h0 : 0 ≤ x) (h1 : x < 10) (W : World) :
    (Instr.slice t (.string ⟨#[48, 49, 50, 51, 52, 53, 54, 55, 56, 57]⟩) (some (.int .i64 x)) (some (.int .i64 (x + 1))) none).run P W = .ok (.string (dig x)) W := by
  rw [run_slice_string W t _ .i64 .i64 x (x + 1) ht h0 (by omega) (by show x + 1 ≤ ((10 : Nat) : Int); omega)]
  obtain ⟨d, rfl⟩ : ∃ d : Nat, x = (d : Int) := ⟨x.toNat, by omega⟩
  rw [show ((d : Int) + 1).toNat = d + 1 by omega, show ((d : Int)).toNat = d by omega, digit_piece d (by omega)]
  rfl
end Go.Proofs.Ytddlpejklpljoaa.D0

/- The contract of laws.markText, as the given laws call it. -/
namespace Go.Proofs.Ytddlpejklpljoaa.M1
open Go.ChangeShapes Go.WideShapes Go.ChangeAt Go.RowKit
set_option linter.unusedVariables false
set_option linter.unusedSimpArgs false

/-- The text of a mark. -/
def mt (k : Nat) : ByteArray := ⟨(109 :: D0.dd k).toArray⟩

theorem conv1 (x : Int) (hx : 0 ≤ x ∧ x < 256) (w : World) :
    (convert 92 9 (.slice (some ⟨w.heap.size, 0, none⟩) 1 1)).run Try.prog (w.alloc (.cells #[.int .u8 x] 5)) = .ok (.string ⟨#[UInt8.ofNat x.toNat]⟩) (w.alloc (.cells #[.int .u8 x] 5)) :=
  B0.conv_back _ 92 9 5 _ 0 1 [UInt8.ofNat x.toNat] Try.underlying92 Try.underlying5 Try.underlying9
    (B0.holds_new _ _ _ _ _ fun j hj => by
      obtain rfl : j = 0 := by simpa using hj
      have : x.toNat < 256 := by omega
      simp [Nat.mod_eq_of_lt this]
      omega) 1 rfl

theorem dig_of (u : Nat) : (⟨#[UInt8.ofNat (48 + (u : Int) % 10).toNat]⟩ : ByteArray) = D0.dig ((u : Int) % 10) := by
  rw [D0.dig, show (48 + (u : Int) % 10).toNat = 48 + ((u : Int) % 10).toNat by omega]

theorem ret_m (v : Nat) : Ending.returned (.string (⟨#[109]⟩ ++ ⟨(D0.dd v).toArray⟩)) = Ending.returned (.string (mt v)) := by
  congr 2

theorem markText_any (v : Nat) (hv : v ≠ 0) (hm : v ≤ 9223372036854775807) (w : World) :
    Calls Try.prog 38 #[.int .i64 (v : Int)] w fun e w' => e = .returned (.string (mt v)) ∧ Below w.heap.size w w' := by
  have hv2 : ¬ (v : Int) ≤ 0 := by omega
  have hlen := D0.dd_length v (by omega)
  go_enter Try.func38, Try.ntmps38
  go_wp2
  go_loopw [0, 3] (fun i t w' => ∃ (u : Nat) (out : List UInt8), u ≤ v ∧ D0.dd u ++ out = D0.dd v ∧ i = .int .i64 (u : Int) ∧ t = .string ⟨out.toArray⟩ ∧ Below w.heap.size w w') (fun i _ _ => (intOf i).toNat)
  case atStart => exact ⟨v, [], Nat.le_refl _, by simp, rfl, rfl, Below.refl _ _⟩
  case round =>
    obtain ⟨u, out, hu, he, rfl, rfl, hbel⟩ := hrel
    have hB := hbel.size
    by_cases h0 : u = 0
    · subst h0
      have he' : out = D0.dd v := by simpa [D0.dd] using he
      clear he
      subst he'
      have hs : (⟨#[109]⟩ : ByteArray).size + (⟨(D0.dd v).toArray⟩ : ByteArray).size ≤ 9223372036854775807 := by
        show 1 + (D0.dd v).toArray.size ≤ _
        simp
        omega
      go_wp2
      go_ret
      exact ⟨ret_m _, hbel⟩
    · have hs : (D0.dig ((u : Int) % 10)).size + (⟨out.toArray⟩ : ByteArray).size ≤ 9223372036854775807 := by
        have := congrArg List.length he
        simp at this
        rw [D0.dig_size]
        show 1 + out.toArray.size ≤ _
        simp
        omega
      have hu1 : 0 < (u : Int) := by omega
      have hcv := conv1 (48 + (u : Int) % 10) (by omega)
      rw [dig_of] at hcv
      have hHe : Hid (D0.dd u ++ out = D0.dd v) := he
      clear he
      go_wp2
      go_roundw
      case rel => exact ⟨u / 10, UInt8.ofNat (48 + u % 10) :: out, by omega, D0.round_eq u v out h0 hHe.out, by go_num, by rw [D0.dig_cons]; rfl, hbel.alloc hB _⟩
      case measure => simp [intOf]; omega
end Go.Proofs.Ytddlpejklpljoaa.M1

/- Contracts of laws.eqFileS, laws.markFileS and laws.heldFileS; what the law over Files keeps. -/
namespace Go.Proofs.Ytddlpejklpljoaa.FI
open Go.ChangeShapes Go.WideShapes Go.ChangeAt Go.RowKit
set_option linter.unusedVariables false
set_option linter.unusedSimpArgs false
set_option maxRecDepth 10000
variable {w W W' : World} {mem : ByteArray}
open M1 (mt)

abbrev fv (f : Fl) : Value := .agg #[.int .i64 f.ino, .string f.path, .int .i64 f.kind, .int .i64 f.owner, .string f.data]

set_option maxHeartbeats 1000000 in
theorem eqFile (f : Fl) (w : World) : Calls Try.prog 37 #[fv f, fv f] w fun e w' => e = .returned (.bool true) ∧ Below w.heap.size w w' := by
  have b1 := K0.blk_new f.vals w 57
  have l1 := K0.below_new w (.cells #[.int .i64 f.ino, .string f.path, .int .i64 f.kind, .int .i64 f.owner, .string f.data] 57)
  go_enter Try.func37, Try.ntmps37
  go_wp2
  go_ret
  exact ⟨rfl, l1.alloc l1.size _⟩

set_option maxHeartbeats 2000000 in
theorem eqFileS (g1 c1 g2 c2 : Nat) (l : List Fl) (w : World) (hl : l.length ≤ 8) (h1 : K0.Blk g1 (ffl l) w) (h2 : K0.Blk g2 (ffl l) w) :
    Calls Try.prog 12 #[.slice (some ⟨g1, 0, none⟩) l.length c1, .slice (some ⟨g2, 0, none⟩) l.length c2] w fun e w' => e = .returned (.bool true) ∧ Below w.heap.size w w' := by
  go_enter Try.func12, Try.ntmps12
  go_wp2
  go_loopg [5] l.length (fun gk i W => ∃ k : Nat, k + gk = l.length ∧ i = .int .i64 k ∧ Below w.heap.size w W)
  case atStart => exact ⟨0, by omega, rfl, Below.refl _ _⟩
  case round =>
    obtain ⟨k, hk, rfl, hbel⟩ := hrel
    by_cases hlt : k < l.length
    · have k1 := h1.below hbel
      have k2 := h2.below hbel
      obtain ⟨x0, x1, x2, x3, x4⟩ := file_cells k1 hlt
      obtain ⟨y0, y1, y2, y3, y4⟩ := file_cells k2 hlt
      obtain ⟨f, hf⟩ : ∃ f, l.getD k zf = f := ⟨_, rfl⟩
      rw [hf] at x0 x1 x2 x3 x4 y0 y1 y2 y3 y4
      have e1 : (0 : Int) ≤ (k : Int) := by omega
      have e2 : (k : Int) < (l.length : Int) := by omega
      have hS : wr.drew.cell? ⟨g1, k * 5, none⟩ = some (.int .i64 f.ino) ∧ wr.drew.cell? ⟨g1, k * 5 + 1, none⟩ = some (.string f.path) ∧ wr.drew.cell? ⟨g1, k * 5 + 2, none⟩ = some (.int .i64 f.kind) ∧ wr.drew.cell? ⟨g1, k * 5 + 3, none⟩ = some (.int .i64 f.owner) ∧ wr.drew.cell? ⟨g1, k * 5 + 4, none⟩ = some (.string f.data) ∧ wr.drew.cell? ⟨g2, k * 5, none⟩ = some (.int .i64 f.ino) ∧ wr.drew.cell? ⟨g2, k * 5 + 1, none⟩ = some (.string f.path) ∧ wr.drew.cell? ⟨g2, k * 5 + 2, none⟩ = some (.int .i64 f.kind) ∧ wr.drew.cell? ⟨g2, k * 5 + 3, none⟩ = some (.int .i64 f.owner) ∧ wr.drew.cell? ⟨g2, k * 5 + 4, none⟩ = some (.string f.data) := ⟨x0, x1, x2, x3, x4, y0, y1, y2, y3, y4⟩
      have HE : Hid (∀ W, Calls Try.prog 37 #[fv f, fv f] W fun e w' => e = .returned (.bool true) ∧ Below W.heap.size W w') := fun W => eqFile f W
      have L1 := k1.lt
      have L2 := k2.lt
      clear hf h1 h2 k1 k2
      go_wp2
      go_region_held3 (fun W => W.cell? ⟨g1, k * 5, none⟩ = some (.int .i64 f.ino) ∧ W.cell? ⟨g1, k * 5 + 1, none⟩ = some (.string f.path) ∧ W.cell? ⟨g1, k * 5 + 2, none⟩ = some (.int .i64 f.kind) ∧ W.cell? ⟨g1, k * 5 + 3, none⟩ = some (.int .i64 f.owner) ∧ W.cell? ⟨g1, k * 5 + 4, none⟩ = some (.string f.data) ∧ W.cell? ⟨g2, k * 5, none⟩ = some (.int .i64 f.ino) ∧ W.cell? ⟨g2, k * 5 + 1, none⟩ = some (.string f.path) ∧ W.cell? ⟨g2, k * 5 + 2, none⟩ = some (.int .i64 f.kind) ∧ W.cell? ⟨g2, k * 5 + 3, none⟩ = some (.int .i64 f.owner) ∧ W.cell? ⟨g2, k * 5 + 4, none⟩ = some (.string f.data)) (assumption) ((go_at_call 37; refine (HE.out _).mono ?_; rintro e w4 ⟨rfl, b4⟩; have hS4 : w4.cell? ⟨g1, k * 5, none⟩ = some (.int .i64 f.ino) ∧ w4.cell? ⟨g1, k * 5 + 1, none⟩ = some (.string f.path) ∧ w4.cell? ⟨g1, k * 5 + 2, none⟩ = some (.int .i64 f.kind) ∧ w4.cell? ⟨g1, k * 5 + 3, none⟩ = some (.int .i64 f.owner) ∧ w4.cell? ⟨g1, k * 5 + 4, none⟩ = some (.string f.data) ∧ w4.cell? ⟨g2, k * 5, none⟩ = some (.int .i64 f.ino) ∧ w4.cell? ⟨g2, k * 5 + 1, none⟩ = some (.string f.path) ∧ w4.cell? ⟨g2, k * 5 + 2, none⟩ = some (.int .i64 f.kind) ∧ w4.cell? ⟨g2, k * 5 + 3, none⟩ = some (.int .i64 f.owner) ∧ w4.cell? ⟨g2, k * 5 + 4, none⟩ = some (.string f.data) := ⟨(b4.cell (p := ⟨g1, k * 5, none⟩) L1).trans hS.1, (b4.cell (p := ⟨g1, k * 5 + 1, none⟩) L1).trans hS.2.1, (b4.cell (p := ⟨g1, k * 5 + 2, none⟩) L1).trans hS.2.2.1, (b4.cell (p := ⟨g1, k * 5 + 3, none⟩) L1).trans hS.2.2.2.1, (b4.cell (p := ⟨g1, k * 5 + 4, none⟩) L1).trans hS.2.2.2.2.1, (b4.cell (p := ⟨g2, k * 5, none⟩) L2).trans hS.2.2.2.2.2.1, (b4.cell (p := ⟨g2, k * 5 + 1, none⟩) L2).trans hS.2.2.2.2.2.2.1, (b4.cell (p := ⟨g2, k * 5 + 2, none⟩) L2).trans hS.2.2.2.2.2.2.2.1, (b4.cell (p := ⟨g2, k * 5 + 3, none⟩) L2).trans hS.2.2.2.2.2.2.2.2.1, (b4.cell (p := ⟨g2, k * 5 + 4, none⟩) L2).trans hS.2.2.2.2.2.2.2.2.2⟩))
      go_wp2
      go_roundg (gk - 1)
      case measure => omega
      case rel => exact ⟨k + 1, by omega, by go_num, hbel.trans ((show Below wr.heap.size wr w4 from ⟨b4.os, b4.tape, b4.output, b4.size, b4.block⟩).mono hbel.size)⟩
    · have e2 : ¬ ((k : Int) < (l.length : Int)) := by omega
      go_wp2
      go_ret
      exact ⟨rfl, hbel⟩

/-- The marks of a row of files. -/
def fm (j : Nat) : Fl := ⟨1 + 5 * (j : Int), mt (2 + 5 * j), 1 + 5 * (j : Int) + 1 + 1, 1 + 5 * (j : Int) + 1 + 1 + 1, mt (5 + 5 * j)⟩
def fms (n : Nat) : List Fl := (List.range n).map fm
theorem fms_length (n : Nat) : (fms n).length = n := by simp [fms]
theorem fms_succ (n : Nat) : fms (n + 1) = fms n ++ [fm n] := by simp [fms, List.range_succ]
theorem fms_get (n j : Nat) (h : j < n) : (fms n).getD j zf = fm j := by simp [fms, List.getD, h]

theorem set5 (A B : List Fl) (f f' : Fl) (k : Nat) (hA : A.length = k) :
    (((((ffl (A ++ f :: B)).set (k * 5) (.int .i64 f'.ino)).set (k * 5 + 1) (.string f'.path)).set (k * 5 + 2) (.int .i64 f'.kind)).set (k * 5 + 3) (.int .i64 f'.owner)).set (k * 5 + 4) (.string f'.data) = ffl (A ++ f' :: B) := by
  have hl : (ffl A).length = k * 5 := by rw [ffl_length, hA]
  rw [ffl_append, ffl_append, ffl, ffl]
  rw [List.set_append_right _ _ (by omega), List.set_append_right _ _ (by omega), List.set_append_right _ _ (by omega), List.set_append_right _ _ (by omega), List.set_append_right _ _ (by omega), hl, Nat.sub_self, show k * 5 + 1 - k * 5 = 1 by omega, show k * 5 + 2 - k * 5 = 2 by omega, show k * 5 + 3 - k * 5 = 3 by omega, show k * 5 + 4 - k * 5 = 4 by omega]
  rfl

theorem mText (x : Int) (v : Nat) (hx : x = (v : Int)) (hv : v ≠ 0) (hm : v ≤ 9223372036854775807) (w : World) :
    Calls Try.prog 38 #[.int .i64 x] w fun e w' => e = .returned (.string (mt v)) ∧ Below w.heap.size w w' := by
  subst hx
  exact M1.markText_any v hv hm w

theorem gr_below' {a b c : World} {row : Option Nat} (h : a.grownBy b row) (hb : Below b.heap.size b c) : a.grownBy c row :=
  ⟨hb.os.trans h.os, hb.tape.trans h.tape, hb.output.trans h.output, Nat.le_trans h.size hb.size, fun k hk hr => by
    rw [hb.block k (Nat.lt_of_lt_of_le hk h.size)]
    exact h.block k hk hr⟩

set_option maxHeartbeats 2000000 in
theorem markFileS (g c : Nat) (l : List Fl) (w : World) (hl : l.length ≤ 8) (hb : K0.Blk g (ffl l) w) :
    Calls Try.prog 13 #[.slice (some ⟨g, 0, none⟩) l.length c, .int .i64 1] w fun e w' => e = .returned (.int .i64 (1 + 5 * (l.length : Int))) ∧ K0.Blk g (ffl (fms l.length)) w' ∧ w.grownBy w' (some g) := by
  go_enter Try.func13, Try.ntmps13
  go_wp2
  go_loopg [1, 5] l.length (fun gk q i W => ∃ k : Nat, k + gk = l.length ∧ i = .int .i64 k ∧ q = .int .i64 (1 + 5 * (k : Int)) ∧ K0.Blk g (ffl (fms k ++ l.drop k)) W ∧ w.grownBy W (some g))
  case atStart => exact ⟨0, by omega, rfl, rfl, hb, M0.grown_refl _ _⟩
  case round =>
    obtain ⟨k, hk, rfl, rfl, kb, hgr⟩ := hrel
    clear hb
    by_cases hlt : k < l.length
    · have e1 : (0 : Int) ≤ (k : Int) := by omega
      have e2 : (k : Int) < (l.length : Int) := by omega
      have hLL : (ffl (fms k ++ l.drop k)).length = l.length * 5 := by
        rw [ffl_length, List.length_append, fms_length, List.length_drop]
        omega
      have hdr : l.drop k = l[k] :: l.drop (k + 1) := List.drop_eq_getElem_cons hlt
      have hset := set5 (fms k) (l.drop (k + 1)) l[k] (fm k) k (fms_length k)
      rw [← hdr] at hset
      have hnx : fms k ++ fm k :: l.drop (k + 1) = fms (k + 1) ++ l.drop (k + 1) := by rw [fms_succ, List.append_assoc]; rfl
      rw [hnx] at hset
      obtain ⟨u0, c0⟩ : ∃ u, wr.cell? ⟨g, k * 5, none⟩ = some u := ⟨_, kb.cell (k * 5) (by omega)⟩
      have f0 := kb.free (k * 5) (by omega)
      have kb1 := kb.set (k * 5) (.int .i64 (1 + 5 * (k : Int)))
      have HK4 : Hid (∀ w4, Below (wr.setCell ⟨g, k * 5, none⟩ (.int .i64 (1 + 5 * (k : Int)))).heap.size (wr.setCell ⟨g, k * 5, none⟩ (.int .i64 (1 + 5 * (k : Int)))) w4 → K0.Blk g ((ffl (fms k ++ l.drop k)).set (k * 5) (.int .i64 (1 + 5 * (k : Int)))) w4) := fun w4 b4 => kb1.below b4
      have HL : Hid ((ffl (fms k ++ l.drop k)).length = l.length * 5) := hLL
      have HSET : Hid ((((((ffl (fms k ++ l.drop k)).set (k * 5) (.int .i64 (fm k).ino)).set (k * 5 + 1) (.string (fm k).path)).set (k * 5 + 2) (.int .i64 (fm k).kind)).set (k * 5 + 3) (.int .i64 (fm k).owner)).set (k * 5 + 4) (.string (fm k).data) = ffl (fms (k + 1) ++ l.drop (k + 1))) := hset
      have hgr1 := M0.grown_set (j := k * 5) hgr (.int .i64 (1 + 5 * (k : Int)))
      clear kb kb1 hdr hnx hset hLL
      go_wp2_with (first
        | (go_at_call 38; have b4' := b4; refine (mText _ (5 + 5 * k) (by push_cast; omega) (by omega) (by omega) _).mono ?_; rintro e w5 ⟨rfl, b5⟩; have kb5 := (((K4.set (k * 5 + 1) (.string (mt (2 + 5 * k)))).set (k * 5 + 2) (.int .i64 (1 + 5 * (k : Int) + 1 + 1))).set (k * 5 + 3) (.int .i64 (1 + 5 * (k : Int) + 1 + 1 + 1))).below b5; obtain ⟨u4, c4⟩ : ∃ u, w5.cell? ⟨g, k * 5 + 4, none⟩ = some u := ⟨_, kb5.cell (k * 5 + 4) (by have := HL.out; simp only [List.length_set]; omega)⟩; have f4 := kb5.free (k * 5 + 4) (by have := HL.out; simp only [List.length_set]; omega))
        | (go_at_call 38; refine (mText _ (2 + 5 * k) (by push_cast; omega) (by omega) (by omega) _).mono ?_; rintro e w4 ⟨rfl, b4⟩; have K4 := HK4.out w4 b4; obtain ⟨u1, c1⟩ : ∃ u, w4.cell? ⟨g, k * 5 + 1, none⟩ = some u := ⟨_, K4.cell (k * 5 + 1) (by have := HL.out; simp only [List.length_set]; omega)⟩; obtain ⟨u2, c2⟩ : ∃ u, w4.cell? ⟨g, k * 5 + 2, none⟩ = some u := ⟨_, K4.cell (k * 5 + 2) (by have := HL.out; simp only [List.length_set]; omega)⟩; obtain ⟨u3, c3⟩ : ∃ u, w4.cell? ⟨g, k * 5 + 3, none⟩ = some u := ⟨_, K4.cell (k * 5 + 3) (by have := HL.out; simp only [List.length_set]; omega)⟩; have f1 := K4.free (k * 5 + 1) (by have := HL.out; simp only [List.length_set]; omega); have f2 := K4.free (k * 5 + 2) (by have := HL.out; simp only [List.length_set]; omega); have f3 := K4.free (k * 5 + 3) (by have := HL.out; simp only [List.length_set]; omega)))
      have kb6 := kb5.set (k * 5 + 4) (.string (mt (5 + 5 * k)))
      have hfin : K0.Blk g (ffl (fms (k + 1) ++ l.drop (k + 1))) (w5.setCell ⟨g, k * 5 + 4, none⟩ (.string (mt (5 + 5 * k)))) := by
        rw [← HSET.out]
        exact kb6
      have g4 : w.grownBy w4 (some g) := gr_below' hgr1 b4
      have g4' := M0.grown_set (j := k * 5 + 3) (M0.grown_set (j := k * 5 + 2) (M0.grown_set (j := k * 5 + 1) g4 (.string (mt (2 + 5 * k)))) (.int .i64 (1 + 5 * (k : Int) + 1 + 1))) (.int .i64 (1 + 5 * (k : Int) + 1 + 1 + 1))
      have g5 := M0.grown_set (j := k * 5 + 4) (gr_below' g4' b5) (.string (mt (5 + 5 * k)))
      go_roundg (gk - 1)
      case measure => omega
      case rel => exact ⟨k + 1, by omega, by go_num, by go_num, hfin, g5⟩
    · have e2 : ¬ ((k : Int) < (l.length : Int)) := by omega
      obtain rfl : k = l.length := by omega
      rw [List.drop_length, List.append_nil] at kb
      go_wp2
      go_ret
      exact ⟨rfl, kb, hgr⟩

set_option maxHeartbeats 4000000 in
theorem heldFileS (g c n : Nat) (w : World) (hn : n ≤ 8) (hb : K0.Blk g (ffl (fms n)) w) :
    Calls Try.prog 14 #[.slice (some ⟨g, 0, none⟩) n c, .int .i64 1] w fun e w' => e = .returned (.int .i64 (1 + 5 * (n : Int))) ∧ Below w.heap.size w w' := by
  go_enter Try.func14, Try.ntmps14
  go_wp2
  go_loopg [1, 5] n (fun gk q i W => ∃ k : Nat, k + gk = n ∧ i = .int .i64 k ∧ q = .int .i64 (1 + 5 * (k : Int)) ∧ Below w.heap.size w W)
  case atStart => exact ⟨0, by omega, rfl, rfl, Below.refl _ _⟩
  case round =>
    obtain ⟨k, hk, rfl, rfl, hbel⟩ := hrel
    by_cases hlt : k < n
    · have e1 : (0 : Int) ≤ (k : Int) := by omega
      have e2 : (k : Int) < (n : Int) := by omega
      have kb := hb.below hbel
      obtain ⟨x0, x1, x2, x3, x4⟩ := file_cells kb (by rw [fms_length]; exact hlt)
      rw [fms_get n k hlt] at x0 x1 x2 x3 x4
      simp only [fm] at x0 x1 x2 x3 x4
      have L := kb.lt
      have hS0 : wr.drew.cell? ⟨g, k * 5 + 1, none⟩ = some (.string (mt (2 + 5 * k))) := x1
      clear kb
      go_wp2
      go_region_held3 (fun W => W.cell? ⟨g, k * 5 + 1, none⟩ = some (.string (mt (2 + 5 * k)))) (assumption) ((go_at_call 38; refine (mText _ (2 + 5 * k) (by push_cast; omega) (by omega) (by omega) _).mono ?_; rintro e w4 ⟨rfl, b4⟩; have hS4 : w4.cell? ⟨g, k * 5 + 1, none⟩ = some (.string (mt (2 + 5 * k))) := (b4.cell (p := ⟨g, k * 5 + 1, none⟩) L).trans x1))
      have b4' : Below wr.heap.size wr w4 := ⟨b4.os, b4.tape, b4.output, b4.size, b4.block⟩
      have z2 := (b4'.cell (p := ⟨g, k * 5 + 2, none⟩) L).trans x2
      have z3 := (b4'.cell (p := ⟨g, k * 5 + 3, none⟩) L).trans x3
      have z4 := (b4'.cell (p := ⟨g, k * 5 + 4, none⟩) L).trans x4
      have L4 := Nat.lt_of_lt_of_le L b4'.size
      have hS5 : w4.drew.cell? ⟨g, k * 5 + 4, none⟩ = some (.string (mt (5 + 5 * k))) := z4
      go_wp2
      go_region_held3 (fun W => W.cell? ⟨g, k * 5 + 4, none⟩ = some (.string (mt (5 + 5 * k)))) (assumption) ((go_at_call 38; refine (mText _ (5 + 5 * k) (by push_cast; omega) (by omega) (by omega) _).mono ?_; rintro e w5 ⟨rfl, b5⟩; have hS6 : w5.cell? ⟨g, k * 5 + 4, none⟩ = some (.string (mt (5 + 5 * k))) := (b5.cell (p := ⟨g, k * 5 + 4, none⟩) L4).trans z4))
      have b5' : Below w4.heap.size w4 w5 := ⟨b5.os, b5.tape, b5.output, b5.size, b5.block⟩
      go_wp2
      go_roundg (gk - 1)
      case measure => omega
      case rel => exact ⟨k + 1, by omega, by go_num, by go_num, hbel.trans ((b4'.trans (b5'.mono b4'.size)).mono hbel.size)⟩
    · have e2 : ¬ ((k : Int) < (n : Int)) := by omega
      obtain rfl : k = n := by omega
      clear hb
      go_wp2
      go_ret
      exact ⟨rfl, hbel⟩

/-- Two rows of files, apart; what the second holds now. -/
structure L (w : World) (g1 g2 : Nat) (Z M : List Fl) (W : World) : Prop where
  bel : Below w.heap.size w W
  lo : w.heap.size ≤ g2
  ne : g1 ≠ g2
  k1 : K0.Blk g1 (ffl Z) W
  k2 : K0.Blk g2 (ffl M) W
variable {g1 g2 : Nat} {Z M : List Fl} {cw cg : Nat}
theorem L.below (h : L w g1 g2 Z M W) (hb : Below W.heap.size W W') : L w g1 g2 Z M W' := ⟨h.bel.trans (hb.mono h.bel.size), h.lo, h.ne, h.k1.below hb, h.k2.below hb⟩
theorem l_new {w1 w2 : World} (b1 : Below w.heap.size w w1) (k1 : K0.Blk g1 (ffl Z) w1) (b2 : Below w1.heap.size w1 w2) (hg2 : w1.heap.size ≤ g2) (k2 : K0.Blk g2 (ffl Z) w2) : L w g1 g2 Z Z w2 :=
  ⟨b1.trans (b2.mono b1.size), Nat.le_trans b1.size hg2, by have := k1.lt; omega, k1.below b2, k2⟩
theorem mark_L (hn : Z.length ≤ 8) (h : L w g1 g2 Z Z W) :
    Calls Try.prog 13 #[.slice (some ⟨g2, 0, none⟩) Z.length cg, .int .i64 1] W fun e w' => e = .returned (.int .i64 (1 + 5 * (Z.length : Int))) ∧ L w g1 g2 Z (fms Z.length) w' :=
  (markFileS g2 cg Z W hn h.k2).mono fun _ w' ⟨he, hk, hg⟩ => ⟨he, h.bel.trans (TW.below_gr hg h.lo h.bel.size), h.lo, h.ne, TW.blk_gr h.k1 hg h.ne, hk⟩
theorem held_L (hn : Z.length ≤ 8) (h : L w g1 g2 Z (fms Z.length) W) :
    Calls Try.prog 14 #[.slice (some ⟨g2, 0, none⟩) Z.length cg, .int .i64 1] W fun e w' => e = .returned (.int .i64 (1 + 5 * (Z.length : Int))) ∧ L w g1 g2 Z (fms Z.length) w' :=
  (heldFileS g2 cg Z.length W hn h.k2).mono fun _ _ ⟨he, hb⟩ => ⟨he, h.below hb⟩
end Go.Proofs.Ytddlpejklpljoaa.FI
