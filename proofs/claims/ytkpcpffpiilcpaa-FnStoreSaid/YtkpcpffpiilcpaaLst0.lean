/- What laws.FnLost asks of a power cut: plain facts, and contracts. -/
import Derived.Test.YtkpcpffpiilcpaaDw4
import Derived.Test.YtkpcpffpiilcpaaPw2
import Derived.Test.YtkpcpffpiilcpaaPw1
import Derived.Test.YtkpcpffpiilcpaaCode0
import Derived.Deep.RegionHeld3
namespace Go.Proofs.Ytkpcpffpiilcpaa.U0
open Go.ChangeShapes Go.WideShapes Go.ChangeAt Go.RowKit
open X0 (row mix)
open W0 (has pick pw pMem pDur contains_succ contains_of ret_bool)
set_option linter.unusedVariables false
set_option linter.unusedSimpArgs false
set_option maxRecDepth 10000

theorem amongAt (b off n c : Nat) (zs : List Int) (x : Int) (w : World) (hz : n ≤ zs.length) (hbig : n ≤ 281474976710656) (hc : ∀ j, j < zs.length → w.cell? ⟨b, off + j, none⟩ = some (.int .i64 (zs.getD j 0))) :
    Calls Try.prog 22 #[.slice (some ⟨b, off, none⟩) n c, .int .i64 x] w fun e w' => e = .returned (.bool (has (zs.take n) x)) ∧ w' = w := by
  go_enter Try.func22, Try.ntmps22
  go_wp2
  go_loop [5] (fun i => ∃ k : Nat, k ≤ n ∧ has (zs.take k) x = false ∧ i = .int .i64 k) (fun i => n - (intOf i).toNat)
  case atStart => exact ⟨0, Nat.zero_le _, rfl, rfl⟩
  case round =>
    obtain ⟨k, hk, hno, rfl⟩ := hrel
    by_cases hlt : k < n
    · have x1 := hc k (by omega)
      have hs := contains_succ zs k x (by omega)
      have hin := fun h : x = zs.getD k 0 => h ▸ contains_of (zs := zs) hlt hz
      obtain ⟨z, ez⟩ : ∃ z, zs.getD k 0 = z := ⟨_, rfl⟩
      rw [ez] at x1 hs hin
      have e1 : (0 : Int) ≤ (k : Int) := by omega
      have e2 : (k : Int) < (n : Int) := by omega
      by_cases h : z = x
      · have h' : (z == x) = true := by simpa using h
        have HR : Hid (has (zs.take n) x = true) := hin h.symm
        clear h hs hin hno ez hc
        go_wp2
        go_ret
        exact ⟨ret_bool HR.out.symm, rfl⟩
      · have h' : (z == x) = false := by simpa using h
        have HN : Hid (has (zs.take (k + 1)) x = false) := by
          rw [hs, hno, show (x == z) = false by simpa using fun q : x = z => h q.symm]
          rfl
        clear h hs hin hno ez hc
        go_wp2
        go_round
        case rel => exact ⟨k + 1, by omega, HN.out, by go_num⟩
        case measure => simp [intOf]; omega
    · obtain rfl : k = n := by omega
      have HN : Hid (has (zs.take k) x = false) := hno
      clear hno hc
      go_wp2
      go_ret
      exact ⟨ret_bool HN.out.symm, rfl⟩

theorem among_none (a : Option Addr) (c : Nat) (x : Int) (w : World) : Calls Try.prog 22 #[.slice a 0 c, .int .i64 x] w fun e w' => e = .returned (.bool false) ∧ w' = w := by
  go_enter Try.func22, Try.ntmps22
  go_wp2
  go_loop [5] (fun i => i = .int .i64 0) (fun i => 0)
  case atStart => rfl
  case round =>
    obtain rfl := hrel
    go_wp2
    go_ret
    exact ⟨rfl, rfl⟩

theorem among (a : Option Addr) (c : Nat) (zs : List Int) (x : Int) (w : World) (hbig : zs.length ≤ 1048576) (hR : P0.Row w a zs) :
    Calls Try.prog 22 #[.slice a zs.length c, .int .i64 x] w fun e w' => e = .returned (.bool (has zs x)) ∧ w' = w := by
  rcases hR with rfl | ⟨b, off, rfl, hb, hc⟩
  · exact among_none a c x w
  · have := amongAt b off zs.length c zs x w (Nat.le_refl _) (by omega) hc
    rwa [List.take_length] at this


theorem row_mix (la lb : List UInt8) (p : Nat → Bool) (k : Nat) (ha : la.length = 768) (hb : lb.length = 768) (hk : k < 96) : row (mix la lb p) k = if p k then row la k else row lb k := by
  apply List.ext_getElem?
  intro j
  by_cases hj : j < 8
  · rw [X0.row_get hj, X0.mix_get _ _ _ _ (by omega), show (k * 8 + j) / 8 = k by omega]
    split
    · rw [X0.row_get hj, X0.get_of ha (by omega)]
    · rw [X0.row_get hj, X0.get_of hb (by omega)]
  · have h1 : (row (mix la lb p) k).length ≤ j := by rw [X0.row, List.length_take]; omega
    rw [List.getElem?_eq_none h1]
    split
    · rw [List.getElem?_eq_none (by rw [X0.row, List.length_take]; omega)]
    · rw [List.getElem?_eq_none (by rw [X0.row, List.length_take]; omega)]

theorem pw_size (a b : ByteArray) (kept : List Int) : (pw a b kept).size = 768 := F3.fd_size _ _ _

theorem pw_part {a b : ByteArray} (kept : List Int) {k : Nat} (ha : a.size = 768) (hb : b.size = 768) (hk : k < 96) : B2.part (pw a b kept) ((k : Int) * 8) 8 = if has kept (k : Int) then B2.part a ((k : Int) * 8) 8 else B2.part b ((k : Int) * 8) 8 := by
  rw [X0.part_row _ k (pw_size a b kept) hk, X0.part_row a k ha hk, X0.part_row b k hb hk]
  show (⟨(row (mix a.data.toList b.data.toList (pick kept)) k).toArray⟩ : ByteArray) = _
  rw [row_mix _ _ _ _ (by rw [← Lib.size_eq]; exact ha) (by rw [← Lib.size_eq]; exact hb) hk]
  show (⟨(if has kept (k : Int) then row a.data.toList k else row b.data.toList k).toArray⟩ : ByteArray) = _
  split <;> rfl

theorem mix_self (la : List UInt8) (p : Nat → Bool) (ha : la.length = 768) : mix la la p = la := by
  apply List.ext_getElem?
  intro j
  by_cases hj : j < 768
  · rw [X0.mix_get _ _ _ _ hj, X0.get_of ha hj]
    split <;> rfl
  · rw [List.getElem?_eq_none (by rw [X0.mix_len]; omega), List.getElem?_eq_none (by omega)]

theorem pw_self {m : ByteArray} (kept : List Int) (hm : m.size = 768) : pw m m kept = m := by
  show (⟨(mix m.data.toList m.data.toList (pick kept)).toArray⟩ : ByteArray) = m
  rw [mix_self _ _ (by rw [← Lib.size_eq]; exact hm)]

theorem has_dirty {a b : ByteArray} {k : Nat} (ha : a.size = 768) (hb : b.size = 768) (hk : k < 96) : has (Y0.dirty a b) (k : Int) = !Y0.same a b k := by
  have hd : Y0.dirty a b = Y0.drt a b 96 := if_pos (D1.ok_mk ha hb)
  rw [hd]
  cases hs : Y0.same a b k with
  | false =>
    show has _ _ = true
    unfold has
    rw [List.contains_iff_mem]
    exact W0.drt_mem.2 ⟨k, hk, hs, rfl⟩
  | true =>
    show has _ _ = false
    cases hh : has (Y0.drt a b 96) (k : Int) with
    | false => rfl
    | true =>
      unfold has at hh
      rw [List.contains_iff_mem] at hh
      obtain ⟨q, _, h2, h3⟩ := W0.drt_mem.1 hh
      obtain rfl : k = q := by omega
      rw [hs] at h2
      cases h2

theorem part_same {a b : ByteArray} {k : Nat} (h : Y0.same a b k = true) : (B2.part a ((k : Int) * 8) 8).toList = (B2.part b ((k : Int) * 8) 8).toList := by
  rw [Y0.same] at h
  exact eq_of_beq h

/-- Kept and dirty lines are as they were written. -/
theorem now_was {a b : ByteArray} {kept : List Int} {k : Nat} (ha : a.size = 768) (hb : b.size = 768) (hk : k < 96) (hh : has kept (k : Int) = true) : (B2.part (pw a b kept) ((k : Int) * 8) 8).toList = (B2.part a ((k : Int) * 8) 8).toList := by
  rw [pw_part kept ha hb hk, if_pos hh]

/-- All others are as they lasted. -/
theorem now_lasts {a b : ByteArray} {kept : List Int} {k : Nat} (ha : a.size = 768) (hb : b.size = 768) (hk : k < 96) (hh : (has (Y0.dirty a b) (k : Int) && has kept (k : Int)) = false) : (B2.part (pw a b kept) ((k : Int) * 8) 8).toList = (B2.part b ((k : Int) * 8) 8).toList := by
  rw [pw_part kept ha hb hk]
  split
  · rename_i h1
    rw [h1, Bool.and_true, has_dirty ha hb hk] at hh
    exact part_same (by simpa using hh)
  · rfl

/-- What the law keeps: the device, what became of it, the kept lines, the dirty ones. -/
structure Lo (w : World) (Bd Bp : Nat) (x y m d : ByteArray) (p : Option Addr) (zs : List Int) (q : Option Addr) (Z : List Int) (W : World) : Prop where
  dev : K0.Blk Bd [.string x, .string y] W
  cut : K0.Blk Bp [.string m, .string d] W
  row : P0.Row W p zs
  drt : P0.Row W q Z
  bel : Below w.heap.size w W

section
variable {w W W' : World} {Bd Bp : Nat} {x y m d : ByteArray} {p q : Option Addr} {zs Z : List Int}
theorem Lo.below (h : Lo w Bd Bp x y m d p zs q Z W) (hb : Below W.heap.size W W') : Lo w Bd Bp x y m d p zs q Z W' :=
  ⟨h.dev.below hb, h.cut.below hb, h.row.below hb, h.drt.below hb, h.bel.trans (hb.mono h.bel.size)⟩
theorem Lo.drew (h : Lo w Bd Bp x y m d p zs q Z W) : Lo w Bd Bp x y m d p zs q Z W.drew := h.below (K0.below_drewN (Below.refl _ _) 1)
theorem Lo.four (h : Lo w Bd Bp x y m d p zs q Z W) : W.cell? ⟨Bd, 0, none⟩ = some (.string x) ∧ W.cell? ⟨Bd, 1, none⟩ = some (.string y) ∧ W.cell? ⟨Bp, 0, none⟩ = some (.string m) ∧ W.cell? ⟨Bp, 1, none⟩ = some (.string d) := ⟨h.dev.c0, h.dev.c1, h.cut.c0, h.cut.c1⟩

theorem lo_new {w1 w2 : World} (b1 : Below w.heap.size w w1) (hR : P0.Row w1 p zs) (b2 : Below (w1.alloc (.cells #[.string x, .string y] 25)).heap.size (w1.alloc (.cells #[.string x, .string y] 25)) w2) :
    Lo w w1.heap.size w2.heap.size x y m d p zs none [] (w2.alloc (.cells #[.string m, .string d] 25)) := by
  have hb := K0.below_new w2 (.cells #[.string m, .string d] 25)
  have ha := K0.below_new w1 (.cells #[.string x, .string y] 25)
  have h1 : Below w.heap.size w (w1.alloc (.cells #[.string x, .string y] 25)) := b1.trans (ha.mono b1.size)
  have h2 := h1.trans (b2.mono h1.size)
  exact ⟨((K0.blk_new [.string x, .string y] w1 25).below b2).below hb, K0.blk_new [.string m, .string d] w2 25, ((hR.below ha).below b2).below hb, Or.inl rfl, h2.trans (hb.mono h2.size)⟩

theorem Lo.dirty {w3 : World} {q' : Option Addr} {Z' : List Int} (h : Lo w Bd Bp x y m d p zs q Z W) (hb : Below W.heap.size W W') (hr : P0.Row W' q' Z') : Lo w Bd Bp x y m d p zs q' Z' W' :=
  ⟨h.dev.below hb, h.cut.below hb, h.row.below hb, hr, h.bel.trans (hb.mono h.bel.size)⟩

theorem iPart (s : ByteArray) (k : Nat) (hs : s.size ≤ 1000) (h : Lo w Bd Bp x y m d p zs q Z W) :
    Calls Try.prog 26 #[.string s, .int .i64 ((k : Int) * 8), .int .i64 8] W fun e w' => e = .returned (.string (B2.part s ((k : Int) * 8) 8)) ∧ Lo w Bd Bp x y m d p zs q Z w' :=
  (B2.impl_Part s ((k : Int) * 8) 8 W (by omega)).mono fun _ _ ⟨he, hb⟩ => ⟨he, h.below hb⟩
end
end Go.Proofs.Ytkpcpffpiilcpaa.U0
