/- What laws.FnStore asks of a memory: plain facts, and contracts. -/
import Derived.Test.YtkpcpffpiilcpaaLst0
import Derived.Test.YtkpcpffpiilcpaaDw3
import Derived.Test.YtkpcpffpiilcpaaDw5
import Derived.Test.YtkpcpffpiilcpaaFls4
import Derived.Test.YtkpcpffpiilcpaaDev3
import Derived.Deep.QuietTactic
import Derived.BigQuiet
namespace Go.Proofs.Ytkpcpffpiilcpaa.S0
open Go.ChangeShapes Go.WideShapes Go.ChangeAt Go.RowKit
open X0 (row mix)
open W0 (has)
set_option linter.unusedVariables false
set_option linter.unusedSimpArgs false
set_option maxRecDepth 10000

theorem sameInts (a1 a2 : Option Addr) (c1 c2 : Nat) (zs : List Int) (w : World) (hn : zs.length ≤ 281474976710656) (h1 : P0.Row w a1 zs) (h2 : P0.Row w a2 zs) :
    Calls Try.prog 18 #[.slice a1 zs.length c1, .slice a2 zs.length c2] w fun e w' => e = .returned (.bool true) ∧ ∃ n, w' = w.drewN n := by
  go_enter Try.func18, Try.ntmps18
  go_wp2
  go_loopw [5] (fun i w' => ∃ k n : Nat, k ≤ zs.length ∧ w' = w.drewN n ∧ i = .int .i64 k) (fun i _ => zs.length - (intOf i).toNat)
  case atStart => exact ⟨0, 0, Nat.zero_le _, rfl, rfl⟩
  case round =>
    obtain ⟨k, n, hk, rfl, rfl⟩ := hrel
    by_cases hlt : k < zs.length
    · have e1 : (0 : Int) ≤ (k : Int) := by omega
      have e2 : (k : Int) < (zs.length : Int) := by omega
      obtain ⟨b1, off1, rfl, hb1, hc1⟩ := h1.get hlt
      obtain ⟨b2, off2, rfl, hb2, hc2⟩ := h2.get hlt
      have x1 := hc1 k hlt
      have x2 := hc2 k hlt
      obtain ⟨z, ez⟩ : ∃ z, zs.getD k 0 = z := ⟨_, rfl⟩
      rw [ez] at x1 x2
      clear ez hc1 hc2 h1 h2
      go_wp2
      go_quiet (fail)
      go_wp2
      go_roundw
      case rel => exact ⟨k + 1, _, by omega, rfl, by go_num⟩
      case measure => simp [intOf]; omega
    · clear h1 h2
      go_wp2
      go_ret
      exact ⟨rfl, _, rfl⟩


theorem mix_part {a b : ByteArray} (p : Nat → Bool) {k : Nat} (ha : a.size = 768) (hb : b.size = 768) (hk : k < 96) : B2.part ⟨(mix a.data.toList b.data.toList p).toArray⟩ ((k : Int) * 8) 8 = if p k then B2.part a ((k : Int) * 8) 8 else B2.part b ((k : Int) * 8) 8 := by
  rw [X0.part_row _ k (F3.fd_size _ _ _) hk, X0.part_row a k ha hk, X0.part_row b k hb hk]
  show (⟨(row (mix a.data.toList b.data.toList p) k).toArray⟩ : ByteArray) = _
  rw [U0.row_mix _ _ _ _ (by rw [← Lib.size_eq]; exact ha) (by rw [← Lib.size_eq]; exact hb) hk]
  split <;> rfl

/-- What is dirty behind a flush was dirty ahead of it, and lies outside of what was flushed. -/
theorem left_ok {u v : ByteArray} {a n : Int} {j : Int} (h : j ∈ Y0.dirty u (F3.flushed u v a n)) : has (Y0.dirty u v) j = true ∧ ¬ (0 < n ∧ 0 ≤ a ∧ a ≤ 768 - n ∧ n ≤ 768 ∧ a / 8 ≤ j ∧ j ≤ (a + n - 1) / 8) := by
  by_cases hok : D1.ok u v = true
  · obtain ⟨hu, hv⟩ := D1.ok_true hok
    have hF : (F3.flushed u v a n).size = 768 := C1.flushed_size hv a n
    have hd : Y0.dirty u (F3.flushed u v a n) = Y0.drt u (F3.flushed u v a n) 96 := if_pos (D1.ok_mk hu hF)
    rw [hd] at h
    obtain ⟨k, hk, hs, rfl⟩ := W0.drt_mem.1 h
    have hin : Y0.same u v k = false → has (Y0.dirty u v) (k : Int) = true := fun e => by rw [U0.has_dirty hu hv hk, e]; rfl
    by_cases hgo : F3.goes u v a n = true
    · have hf : F3.flushed u v a n = ⟨(mix u.data.toList v.data.toList (F2.span (a.toNat / 8) ((a.toNat + n.toNat - 1) / 8))).toArray⟩ := if_pos hgo
      obtain ⟨_, h1, h2, h3⟩ := F3.goes_true hgo
      rw [Y0.same, hf, mix_part _ hu hv hk] at hs
      by_cases hp : F2.span (a.toNat / 8) ((a.toNat + n.toNat - 1) / 8) k = true
      · rw [if_pos hp] at hs
        simp at hs
      · rw [if_neg hp] at hs
        refine ⟨hin (by rw [Y0.same]; exact hs), ?_⟩
        simp only [F2.span, decide_eq_true_eq] at hp
        omega
    · have hf : F3.flushed u v a n = v := if_neg hgo
      rw [hf] at hs
      refine ⟨hin hs, ?_⟩
      intro hc
      apply hgo
      rw [F3.goes, hok, hu, show B2.lies 768 a n = true from decide_eq_true (by omega), decide_eq_false (by omega : ¬ n = 0)]
      rfl
  · have hf : F3.flushed u v a n = v := if_neg (fun hg => hok (D1.ok_mk (F3.goes_true hg).1.1 (F3.goes_true hg).1.2))
    rw [hf, show Y0.dirty u v = [] from if_neg hok] at h
    simp at h

/-- All flushed: both texts are the same. -/
theorem flush_all {u v : ByteArray} (hok : D1.ok u v = true) : F3.flushed u v 0 768 = u := by
  obtain ⟨hu, hv⟩ := D1.ok_true hok
  have hgo : F3.goes u v 0 768 = true := by
    rw [F3.goes, hok, hu]
    rfl
  rw [F3.flushed, if_pos hgo]
  have hl : u.data.toList.length = 768 := by rw [← Lib.size_eq]; exact hu
  have : mix u.data.toList v.data.toList (F2.span ((0 : Int).toNat / 8) (((0 : Int).toNat + (768 : Int).toNat - 1) / 8)) = u.data.toList := by
    apply List.ext_getElem?
    intro j
    by_cases hj : j < 768
    · rw [X0.mix_get _ _ _ _ hj, X0.get_of hl hj, if_pos]
      simp only [F2.span, decide_eq_true_eq]
      have e1 : (0 : Int).toNat = 0 := rfl
      have e2 : (768 : Int).toNat = 768 := rfl
      rw [e1, e2]
      omega
    · rw [List.getElem?_eq_none (by rw [X0.mix_len]; omega), List.getElem?_eq_none (by omega)]
  rw [this]

theorem dirty_self {u : ByteArray} (hu : u.size = 768) : Y0.dirty u u = [] := by
  have hd : Y0.dirty u u = Y0.drt u u 96 := if_pos (D1.ok_mk hu hu)
  rw [hd]
  apply List.eq_nil_iff_forall_not_mem.2
  intro x hx
  obtain ⟨k, _, hs, _⟩ := W0.drt_mem.1 hx
  rw [Y0.same] at hs
  simp at hs

theorem devOf_form (r : ByteArray) : ∃ (y z : ByteArray) (b : Bool), D2.devOf r = .tuple #[.agg #[.string y, .string z], .bool b] := by
  unfold D2.devOf
  split
  · exact ⟨r, r, true, rfl⟩
  · exact ⟨⟨#[]⟩, ⟨#[]⟩, false, rfl⟩

/-- Six devices in their cells, a row of numbers, all that is older as it was. -/
structure Fs (w : World) (b1 b2 b3 b4 b5 b6 : Nat) (x y s u v f y1 y2 : ByteArray) (q : Option Addr) (Z : List Int) (W : World) : Prop where
  k1 : K0.Blk b1 [.string x, .string y] W
  k2 : K0.Blk b2 [.string s, .string y] W
  k3 : K0.Blk b3 [.string u, .string v] W
  k4 : K0.Blk b4 [.string u, .string f] W
  k5 : K0.Blk b5 [.string y1, .string y2] W
  k6 : K0.Blk b6 [.string y1, .string y2] W
  row : P0.Row W q Z
  bel : Below w.heap.size w W

section
variable {w W W' : World} {b1 b2 b3 b4 b5 b6 : Nat} {x y s u v f y1 y2 : ByteArray} {q : Option Addr} {Z : List Int}
theorem Fs.below (h : Fs w b1 b2 b3 b4 b5 b6 x y s u v f y1 y2 q Z W) (hb : Below W.heap.size W W') : Fs w b1 b2 b3 b4 b5 b6 x y s u v f y1 y2 q Z W' :=
  ⟨h.k1.below hb, h.k2.below hb, h.k3.below hb, h.k4.below hb, h.k5.below hb, h.k6.below hb, h.row.below hb, h.bel.trans (hb.mono h.bel.size)⟩
theorem Fs.cells (h : Fs w b1 b2 b3 b4 b5 b6 x y s u v f y1 y2 q Z W) : W.cell? ⟨b1, 0, none⟩ = some (.string x) ∧ W.cell? ⟨b1, 1, none⟩ = some (.string y) ∧ W.cell? ⟨b2, 0, none⟩ = some (.string s) ∧ W.cell? ⟨b2, 1, none⟩ = some (.string y) ∧ W.cell? ⟨b3, 0, none⟩ = some (.string u) ∧ W.cell? ⟨b3, 1, none⟩ = some (.string v) ∧ W.cell? ⟨b4, 0, none⟩ = some (.string u) ∧ W.cell? ⟨b4, 1, none⟩ = some (.string f) ∧ W.cell? ⟨b5, 0, none⟩ = some (.string y1) ∧ W.cell? ⟨b5, 1, none⟩ = some (.string y2) ∧ W.cell? ⟨b6, 0, none⟩ = some (.string y1) ∧ W.cell? ⟨b6, 1, none⟩ = some (.string y2) := ⟨h.k1.c0, h.k1.c1, h.k2.c0, h.k2.c1, h.k3.c0, h.k3.c1, h.k4.c0, h.k4.c1, h.k5.c0, h.k5.c1, h.k6.c0, h.k6.c1⟩
theorem Fs.drew (h : Fs w b1 b2 b3 b4 b5 b6 x y s u v f y1 y2 q Z W) : Fs w b1 b2 b3 b4 b5 b6 x y s u v f y1 y2 q Z W.drew := h.below (K0.below_drewN (Below.refl _ _) 1)
end
end Go.Proofs.Ytkpcpffpiilcpaa.S0
