/- An inode among a law's arguments; contracts of the laws' own functions over inodes and lists of numbers. -/
import Derived.Test.YtacalabjclclhaaIno1
import Derived.Lib.SmallJoins
import Derived.OpenShut
import Derived.ShutString
import Derived.Laws.MakeOwn
namespace Go.Proofs.Ytacalabjclclhaa.I2
open Go.ChangeShapes Go.WideShapes Go.ChangeAt Go.RowKit Go.Joins
set_option linter.unusedVariables false
set_option linter.unusedSimpArgs false
set_option maxRecDepth 10000

open P1 (ret_bool quiet_bool)
open I0 (val vals)

section Args
variable {H : Type} {enc : TypeId × Value → H} {w : World}

theorem cells : Try.prog.cellsOf 53 = 4 := by kernel_rfl

theorem take_row {w : World} {b off : Nat} {zs : List Int} {n : Nat} (hb : b < w.heap.size) (hn : n ≤ zs.length) (hc : ∀ j, j < zs.length → w.cell? ⟨b, off + j, none⟩ = some (.int .i64 (zs.getD j 0))) : P0.Row w (some ⟨b, off, none⟩) (zs.take n) := by
  refine Or.inr ⟨b, off, rfl, hb, fun j hj => ?_⟩
  have hj' : j < n := by simp at hj; omega
  rw [hc j (by omega)]
  congr 2
  simp [List.getD, hj']

theorem cell_lt {w : World} {a : Addr} {v : Value} (h : w.cell? a = some v) : a.block < w.heap.size := by
  unfold World.cell? at h
  cases hb : w.heap[a.block]? with
  | none => simp [hb] at h
  | some o => exact (Array.getElem?_eq_some_iff.1 hb).1

theorem open_row {fuel : Nat} {v : Value} {x : DataW H × List MemPlace} (h : DataW.trod enc Try.prog w 0 (fun _ => true) true fuel 24 [v] = some x) :
    ∃ (a : Option Addr) (c : Nat) (zs : List Int), v = .slice a zs.length c ∧ zs.length ≤ c ∧ c ≤ maxLen ∧ P0.Row w a zs := by
  rcases open_ints Try.underlying24 Try.underlying3 (by kernel_rfl) h with ⟨hcs, _⟩ | ⟨a, len, cap, zs, hcs, _, hl, hm, hz, _, hcell, _⟩
  · simp at hcs
    exact ⟨none, 0, [], hcs, Nat.le_refl _, Nat.zero_le _, Or.inl rfl⟩
  · simp at hcs hz
    have hlen : (zs.take len).length = len := by simp; omega
    by_cases h0 : zs.length = 0
    · have hl0 : len = 0 := by omega
      refine ⟨some a, cap, [], ?_, Nat.zero_le _, hm, Or.inl rfl⟩
      rw [hcs, hl0]
      rfl
    · obtain ⟨b, off, rfl, hc⟩ := ints_at hcell (by omega)
      have hb : b < w.heap.size := cell_lt (hc 0 (by omega))
      exact ⟨some ⟨b, off, none⟩, cap, zs.take len, by rw [hcs, hlen], by omega, hm, take_row hb (by omega) hc⟩

theorem open_inode {r : Reach} {b0 : Nat} {v : Value} {d : DataW H} {p : List MemPlace} (hv : Value.okWide Try.prog w r b0 53 v) (h : DataW.Trod enc Try.prog w 0 (fun _ => true) true 53 v d p) :
    ∃ (k o s : Int) (a : Option Addr) (c : Nat) (zs : List Int), v = val k o s a zs.length c ∧ zs.length ≤ c ∧ c ≤ maxLen ∧ P0.Row w a zs := by
  obtain ⟨c0, c1, c2, c3, y0, y1, y2, y3, m, rfl, rfl, rfl, hy0, hy1, hy2, hy3⟩ := open_agg4 Try.underlying53 (by kernel_rfl) cells hv h
  obtain ⟨k, e0, _, _⟩ := DataW.trod_int Try.underlying3 hy0
  obtain ⟨o, e1, _, _⟩ := DataW.trod_int Try.underlying3 hy1
  obtain ⟨s, e2, _, _⟩ := DataW.trod_int Try.underlying3 hy2
  obtain ⟨a, c, zs, rfl, h1, h2, h3⟩ := open_row hy3
  simp at e0 e1 e2
  subst e0 e1 e2
  exact ⟨k, o, s, a, c, zs, rfl, h1, h2, h3⟩
end Args

/-- What is left behind so many; -1 where nothing is. -/
def left (l : Int) (n : Nat) : Int := if l - n < 0 then -1 else l - n

theorem szIntS (a : Option Addr) (c n : Nat) (l : Int) (w : World) (hn : n ≤ maxLen) (h0 : 0 ≤ l) (h1 : l ≤ 1048576) :
    Calls Try.prog 114 #[.slice a n c, .int .i64 l] w fun e w' => e = .returned (.int .i64 (left l n)) ∧ w' = w := by
  unfold maxLen at hn
  by_cases h : l - (n : Int) < 0
  · have e : left l n = -1 := if_pos h
    rw [e]
    go_enter Try.func114, Try.ntmps114
    go_wp2
    go_ret
    exact ⟨rfl, rfl⟩
  · have e : left l n = l - (n : Int) := if_neg h
    rw [e]
    go_enter Try.func114, Try.ntmps114
    go_wp2
    go_ret
    exact ⟨rfl, rfl⟩

theorem ret_int {k : IntKind} {a b : Int} (h : a = b) : Ending.returned (.int k a) = .returned (.int k b) := by rw [h]

theorem szInode (k o s : Int) (a : Option Addr) (c n : Nat) (l : Int) (w : World) (hn : n ≤ maxLen) (h0 : 0 ≤ l) (h1 : l ≤ 1048576) :
    Calls Try.prog 48 #[val k o s a n c, .int .i64 l] w fun e w' => e = .returned (.int .i64 (left l n)) ∧ Below w.heap.size w w' := by
  have hB := K0.below_new w (.cells #[.int .i64 k, .int .i64 o, .int .i64 s, .slice a n c] 53)
  by_cases h : left l n < 0
  · have HR : Hid (left l n = -1) := by
      show left l n = -1
      unfold left at h ⊢
      split
      · rfl
      · rename_i h2
        rw [if_neg h2] at h
        omega
    go_enter Try.func48, Try.ntmps48
    go_wp2_with (go_at_call 114; refine (szIntS _ _ _ _ _ hn h0 h1).mono ?_; rintro e w' ⟨rfl, rfl⟩)
    go_ret
    exact ⟨ret_int HR.out.symm, hB⟩
  · go_enter Try.func48, Try.ntmps48
    go_wp2_with (go_at_call 114; refine (szIntS _ _ _ _ _ hn h0 h1).mono ?_; rintro e w' ⟨rfl, rfl⟩)
    go_ret
    exact ⟨rfl, hB⟩

abbrev ints (zs : List Int) : List Value := zs.map fun z => .int .i64 z

theorem row_of_blk {W : World} {g : Nat} {zs : List Int} (h : K0.Blk g (ints zs) W) : P0.Row W (some ⟨g, 0, none⟩) zs := by
  refine Or.inr ⟨g, 0, rfl, h.lt, fun j hj => ?_⟩
  rw [Nat.zero_add, h.cell j (by simpa using hj)]
  simp [List.getD, hj]

/-- The row while it is being filled. -/
def fill (zs : List Int) (k : Nat) : List Value := ints (zs.take k) ++ List.replicate (zs.length - k) (.int .i64 0)

theorem fill_zero (zs : List Int) : fill zs 0 = List.replicate zs.length (.int .i64 0) := by simp [fill]
theorem fill_all (zs : List Int) : fill zs zs.length = ints zs := by simp [fill]
theorem fill_length (zs : List Int) (k : Nat) (h : k ≤ zs.length) : (fill zs k).length = zs.length := by simp [fill]; omega
theorem fill_succ (zs : List Int) (k : Nat) (h : k < zs.length) : (fill zs k).set k (.int .i64 (zs.getD k 0)) = fill zs (k + 1) := by
  unfold fill
  have e : zs.length - k = (zs.length - (k + 1)) + 1 := by omega
  rw [e, List.replicate_succ, List.take_succ_eq_append_getElem h, ints, ints, List.map_append, List.set_append_right _ _ (by simp; omega)]
  have hm : min k zs.length = k := by omega
  simp [hm, List.getD, h]

theorem info3 : (Try.prog.info? 3).map (fun i => (i.zero, i.size, i.bytes)) = some (some (.int .i64 0), 1, 8) := by kernel_rfl

theorem make_ints (n : Nat) (hn : n ≤ 1048576) (W : World) : (Instr.makeSlice 24 (.int .i64 (n : Int)) (.int .i64 (n : Int))).run Try.prog W = .ok (.slice (some ⟨W.heap.size, 0, none⟩) n n) (W.alloc (.cells (List.replicate n (Value.int .i64 0)).toArray 3)) := by
  obtain ⟨i0, hi, hz0, hz1, hz2⟩ := info_parts info3
  have h := run_make (P := Try.prog) W 24 3 i0 (.int .i64 0) Try.underlying24 hi hz0 .i64 .i64 (n : Int) (n : Int) (by omega) (by omega) (by rw [hz2]; omega) (by omega)
  have e : madeCells (Value.int .i64 0).cells (n * i0.size) = (List.replicate n (Value.int .i64 0)).toArray := by
    apply Array.toList_inj.1
    rw [show (Value.int .i64 0).cells = #[Value.int .i64 0] from rfl, toList_madeCells_one, hz1]
    simp
  rw [show ((n : Int)).toNat = n by omega, e] at h
  exact h

set_option maxHeartbeats 1000000 in
theorem toIntS (a : Option Addr) (c : Nat) (zs : List Int) (w : World) (hn : zs.length ≤ 1048576) (hR : P0.Row w a zs) :
    Calls Try.prog 115 #[.slice a zs.length c] w fun e w' => ∃ g, e = .returned (.slice (some ⟨g, 0, none⟩) zs.length zs.length) ∧ w.heap.size ≤ g ∧ K0.Blk g (ints zs) w' ∧ Below w.heap.size w w' := by
  have hmk := make_ints zs.length hn
  have hb0 := K0.blk_new (List.replicate zs.length (Value.int .i64 0)) w 3
  have hl0 := K0.below_new w (.cells (List.replicate zs.length (Value.int .i64 0)).toArray 3)
  obtain ⟨W0, hW0⟩ : ∃ W0, w.alloc (.cells (List.replicate zs.length (Value.int .i64 0)).toArray 3) = W0 := ⟨_, rfl⟩
  have hmk0 := hmk w
  rw [hW0] at hb0 hl0 hmk0
  clear hmk hW0
  go_enter Try.func115, Try.ntmps115
  go_wp2
  go_loopw [4] (fun i w' => ∃ k : Nat, k ≤ zs.length ∧ i = .int .i64 k ∧ K0.Blk w.heap.size (fill zs k) w' ∧ Below w.heap.size w w') (fun i _ => zs.length - (intOf i).toNat)
  case atStart => exact ⟨0, Nat.zero_le _, rfl, by rw [fill_zero]; exact hb0, hl0⟩
  case round =>
    obtain ⟨k, hk, rfl, hblk, hbel⟩ := hrel
    by_cases hlt : k < zs.length
    · obtain ⟨b, off, rfl, hb, hc⟩ := (hR.below hbel).get hlt
      have x1 := hc k hlt
      have x2 := hblk.cell k (by rw [fill_length _ _ hk]; exact hlt)
      have x3 := hblk.free k (by rw [fill_length _ _ hk]; exact hlt)
      obtain ⟨u, x4⟩ : ∃ u, wr.cell? ⟨w.heap.size, k, none⟩ = some u := ⟨_, x2⟩
      have HB : Hid (K0.Blk w.heap.size (fill zs (k + 1)) (wr.setCell ⟨w.heap.size, k, none⟩ (.int .i64 (zs.getD k 0)))) := by rw [← fill_succ zs k hlt]; exact hblk.set k _
      obtain ⟨z, ez⟩ : ∃ z, zs.getD k 0 = z := ⟨_, rfl⟩
      rw [ez] at x1 HB
      have e1 : (0 : Int) ≤ (k : Int) := by omega
      have e2 : (k : Int) < (zs.length : Int) := by omega
      clear x2 ez hc hblk hR hb0 hl0 hmk0
      go_wp2
      go_roundw
      case rel => exact ⟨k + 1, by omega, by go_num, HB.out, hbel.setCell (p := ⟨w.heap.size, k, none⟩) (Nat.le_refl _) _⟩
      case measure => simp [intOf]; omega
    · obtain rfl : k = zs.length := by omega
      rw [fill_all] at hblk
      clear hR hb0 hl0 hmk0
      go_wp2
      go_ret
      exact ⟨_, rfl, Nat.le_refl _, hblk, hbel⟩

theorem eqIntS (a1 a2 : Option Addr) (c1 c2 : Nat) (zs : List Int) (w : World) (hn : zs.length ≤ 281474976710656) (h1 : P0.Row w a1 zs) (h2 : P0.Row w a2 zs) :
    Calls Try.prog 72 #[.slice a1 zs.length c1, .slice a2 zs.length c2] w fun e w' => e = .returned (.bool true) ∧ ∃ n, w' = w.drewN n := by
  go_enter Try.func72, Try.ntmps72
  go_wp2
  go_loopw [5] (fun i w' => ∃ k n : Nat, k ≤ zs.length ∧ w' = w.drewN n ∧ i = .int .i64 k) (fun i _ => zs.length - (intOf i).toNat)
  case atStart => exact ⟨0, 0, Nat.zero_le _, rfl, rfl⟩
  case round =>
    obtain ⟨k, n, hk, rfl, rfl⟩ := hrel
    by_cases hlt : k < zs.length
    · have e1 : (0 : Int) ≤ (k : Int) := by omega
      have e2 : (k : Int) < (zs.length : Int) := by omega
      obtain ⟨b1, off1, rfl, hb1, hc1⟩ := h1.get hlt
      obtain ⟨b2, off2, rfl, hb2, hc2⟩ := h2.get hlt
      have x1 := hc1 k hlt
      have x2 := hc2 k hlt
      obtain ⟨z, ez⟩ : ∃ z, zs.getD k 0 = z := ⟨_, rfl⟩
      rw [ez] at x1 x2
      clear ez hc1 hc2 h1 h2
      go_wp2
      go_quiet (fail)
      go_wp2
      go_roundw
      case rel => exact ⟨k + 1, _, by omega, rfl, by go_num⟩
      case measure => simp [intOf]; omega
    · clear h1 h2
      go_wp2
      go_ret
      exact ⟨rfl, _, rfl⟩

theorem eqInode (k o s : Int) (a1 a2 : Option Addr) (c1 c2 : Nat) (zs : List Int) (w : World) (hn : zs.length ≤ 281474976710656) (h1 : P0.Row w a1 zs) (h2 : P0.Row w a2 zs) :
    Calls Try.prog 50 #[val k o s a1 zs.length c1, val k o s a2 zs.length c2] w fun e w' => e = .returned (.bool true) ∧ Below w.heap.size w w' := by
  have hB := K0.below_new w (.cells #[.int .i64 k, .int .i64 o, .int .i64 s, .slice a1 zs.length c1] 26)
  have hB2 := hB.alloc hB.size (.cells #[.int .i64 k, .int .i64 o, .int .i64 s, .slice a2 zs.length c2] 26)
  have h1' := (h1.below hB2)
  have h2' := (h2.below hB2)
  clear hB h1 h2
  go_enter Try.func50, Try.ntmps50
  go_wp2_with (go_at_call 72; refine (eqIntS _ _ _ _ zs _ hn h1' h2').mono ?_; rintro e w' ⟨rfl, n, rfl⟩)
  go_ret
  exact ⟨rfl, K0.below_drewN hB2 n⟩

/-- The three blocks of toInode. -/
structure Three (w : World) (k o s : Int) (a : Option Addr) (n c : Nat) (W : World) : Prop where
  arg : K0.Blk w.heap.size (vals k o s a n c) W
  res : K0.Blk (w.heap.size + 1) (vals 0 0 0 none 0 0) W
  tmp : K0.Blk (w.heap.size + 2) (vals k o s none 0 0) W
  bel : Below w.heap.size w W

theorem Three.below {w W W' : World} {k o s : Int} {a : Option Addr} {n c : Nat} (h : Three w k o s a n c W) (hb : Below W.heap.size W W') : Three w k o s a n c W' :=
  ⟨h.arg.below hb, h.res.below hb, h.tmp.below hb, h.bel.trans (hb.mono (Nat.le_of_lt h.arg.lt))⟩

theorem three_new (w : World) (k o s : Int) (a : Option Addr) (n c : Nat) :
    Three w k o s a n c (((w.alloc (.cells #[.int .i64 k, .int .i64 o, .int .i64 s, .slice a n c] 53)).alloc (.cells #[.int .i64 0, .int .i64 0, .int .i64 0, .slice none 0 0] 26)).alloc (.cells #[.int .i64 k, .int .i64 o, .int .i64 s, .slice none 0 0] 26)) :=
  ⟨((K0.blk_new (vals k o s a n c) w 53).alloc _).alloc _, (K0.blk_at (vals 0 0 0 none 0 0) _ 26 (by simp)).alloc _, K0.blk_at (vals k o s none 0 0) _ 26 (by simp),
   (((Below.refl _ _).alloc (Nat.le_refl _) _).alloc (by simp) _).alloc (by simp; omega) _⟩

set_option maxHeartbeats 1000000 in
theorem toInode (k o s : Int) (a : Option Addr) (c : Nat) (zs : List Int) (w : World) (hn : zs.length ≤ 1048576) (hR : P0.Row w a zs) :
    Calls Try.prog 49 #[val k o s a zs.length c] w fun e w' => ∃ g, e = .returned (val k o s (some ⟨g, 0, none⟩) zs.length zs.length) ∧ w.heap.size ≤ g ∧ K0.Blk g (ints zs) w' ∧ Below w.heap.size w w' := by
  have t0 := three_new w k o s a zs.length c
  have hR0 := hR.below t0.bel
  clear hR
  go_enter Try.func49, Try.ntmps49
  go_wp2_with (go_at_call 115; refine (toIntS a c zs _ hn hR0).mono ?_; rintro e w1 ⟨g, rfl, hg, hblk, hb⟩; have t1 := t0.below hb; have c0 := t1.tmp.c0; have c1 := t1.tmp.c1; have c2 := t1.tmp.c2; have c3 := t1.tmp.c3; have f3 := t1.tmp.f3; have r0 := t1.res.c0; have r1 := t1.res.c1; have r2 := t1.res.c2; have r3 := t1.res.c3; have q0 := t1.res.f0; have q1 := t1.res.f1; have q2 := t1.res.f2; have q3 := t1.res.f3)
  have hg' : w.heap.size + 3 ≤ g := by simp at hg; omega
  have q := (t1.res.setOther (B' := w.heap.size + 2) (by omega) 3 (.slice (some ⟨g, 0, none⟩) zs.length zs.length)).put4 (.int .i64 k) (.int .i64 o) (.int .i64 s) (.slice (some ⟨g, 0, none⟩) zs.length zs.length)
  have hk := ((((hblk.setOther (B' := w.heap.size + 2) (by omega) 3 (.slice (some ⟨g, 0, none⟩) zs.length zs.length)).setOther (B' := w.heap.size + 1) (by omega) 0 (.int .i64 k)).setOther (B' := w.heap.size + 1) (by omega) 1 (.int .i64 o)).setOther (B' := w.heap.size + 1) (by omega) 2 (.int .i64 s)).setOther (B' := w.heap.size + 1) (by omega) 3 (.slice (some ⟨g, 0, none⟩) zs.length zs.length)
  have hl := ((((t1.bel.setCell (p := ⟨w.heap.size + 2, 3, none⟩) (Nat.le_add_right _ _) (.slice (some ⟨g, 0, none⟩) zs.length zs.length)).setCell (p := ⟨w.heap.size + 1, 0, none⟩) (Nat.le_add_right _ _) (.int .i64 k)).setCell (p := ⟨w.heap.size + 1, 1, none⟩) (Nat.le_add_right _ _) (.int .i64 o)).setCell (p := ⟨w.heap.size + 1, 2, none⟩) (Nat.le_add_right _ _) (.int .i64 s)).setCell (p := ⟨w.heap.size + 1, 3, none⟩) (Nat.le_add_right _ _) (.slice (some ⟨g, 0, none⟩) zs.length zs.length)
  exact bodyPost_ret (v := val k o s (some ⟨g, 0, none⟩) zs.length zs.length) (by simp [results, Try.results49, go_sem, q.c0, q.c1, q.c2, q.c3]) rfl ⟨g, rfl, by omega, hk, hl⟩
end Go.Proofs.Ytacalabjclclhaa.I2
