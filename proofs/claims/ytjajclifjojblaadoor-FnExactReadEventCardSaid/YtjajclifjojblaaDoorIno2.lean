/- An inode among a law's arguments; contracts of the laws' own functions over inodes and lists of numbers. -/
import Derived.Test.YtjajclifjojblaaDoorIno1
import Derived.Lib.SmallJoins
import Derived.OpenShut
import Derived.ShutString
import Derived.Laws.MakeOwn
namespace Go.Proofs.YtjajclifjojblaaDoor.I2
open Go.ChangeShapes Go.WideShapes Go.ChangeAt Go.RowKit Go.Joins
set_option linter.unusedVariables false
set_option linter.unusedSimpArgs false
set_option maxRecDepth 10000

open P1 (ret_bool quiet_bool)
open I0 (val vals)

section Args
variable {H : Type} {enc : TypeId × Value → H} {w : World}

theorem take_row {w : World} {b off : Nat} {zs : List Int} {n : Nat} (hb : b < w.heap.size) (hn : n ≤ zs.length) (hc : ∀ j, j < zs.length → w.cell? ⟨b, off + j, none⟩ = some (.int .i64 (zs.getD j 0))) : P0.Row w (some ⟨b, off, none⟩) (zs.take n) := by
  refine Or.inr ⟨b, off, rfl, hb, fun j hj => ?_⟩
  have hj' : j < n := by simp at hj; omega
  rw [hc j (by omega)]
  congr 2
  simp [List.getD, hj']

theorem cell_lt {w : World} {a : Addr} {v : Value} (h : w.cell? a = some v) : a.block < w.heap.size := by
  unfold World.cell? at h
  cases hb : w.heap[a.block]? with
  | none => simp [hb] at h
  | some o => exact (Array.getElem?_eq_some_iff.1 hb).1

theorem open_row {fuel : Nat} {v : Value} {x : DataW H × List MemPlace} (h : DataW.trod enc Tryd.prog w 0 (fun _ => true) true fuel 22 [v] = some x) :
    ∃ (a : Option Addr) (c : Nat) (zs : List Int), v = .slice a zs.length c ∧ zs.length ≤ c ∧ c ≤ maxLen ∧ P0.Row w a zs := by
  rcases open_ints Tryd.underlying22 Tryd.underlying3 (by kernel_rfl) h with ⟨hcs, _⟩ | ⟨a, len, cap, zs, hcs, _, hl, hm, hz, _, hcell, _⟩
  · simp at hcs
    exact ⟨none, 0, [], hcs, Nat.le_refl _, Nat.zero_le _, Or.inl rfl⟩
  · simp at hcs hz
    have hlen : (zs.take len).length = len := by simp; omega
    by_cases h0 : zs.length = 0
    · have hl0 : len = 0 := by omega
      refine ⟨some a, cap, [], ?_, Nat.zero_le _, hm, Or.inl rfl⟩
      rw [hcs, hl0]
      rfl
    · obtain ⟨b, off, rfl, hc⟩ := ints_at hcell (by omega)
      have hb : b < w.heap.size := cell_lt (hc 0 (by omega))
      exact ⟨some ⟨b, off, none⟩, cap, zs.take len, by rw [hcs, hlen], by omega, hm, take_row hb (by omega) hc⟩

end Args

/-- What is left behind so many; -1 where nothing is. -/
def left (l : Int) (n : Nat) : Int := if l - n < 0 then -1 else l - n

theorem ret_int {k : IntKind} {a b : Int} (h : a = b) : Ending.returned (.int k a) = .returned (.int k b) := by rw [h]

abbrev ints (zs : List Int) : List Value := zs.map fun z => .int .i64 z

theorem row_of_blk {W : World} {g : Nat} {zs : List Int} (h : K0.Blk g (ints zs) W) : P0.Row W (some ⟨g, 0, none⟩) zs := by
  refine Or.inr ⟨g, 0, rfl, h.lt, fun j hj => ?_⟩
  rw [Nat.zero_add, h.cell j (by simpa using hj)]
  simp [List.getD, hj]

/-- The row while it is being filled. -/
def fill (zs : List Int) (k : Nat) : List Value := ints (zs.take k) ++ List.replicate (zs.length - k) (.int .i64 0)

theorem fill_zero (zs : List Int) : fill zs 0 = List.replicate zs.length (.int .i64 0) := by simp [fill]
theorem fill_all (zs : List Int) : fill zs zs.length = ints zs := by simp [fill]
theorem fill_length (zs : List Int) (k : Nat) (h : k ≤ zs.length) : (fill zs k).length = zs.length := by simp [fill]; omega
theorem fill_succ (zs : List Int) (k : Nat) (h : k < zs.length) : (fill zs k).set k (.int .i64 (zs.getD k 0)) = fill zs (k + 1) := by
  unfold fill
  have e : zs.length - k = (zs.length - (k + 1)) + 1 := by omega
  rw [e, List.replicate_succ, List.take_succ_eq_append_getElem h, ints, ints, List.map_append, List.set_append_right _ _ (by simp; omega)]
  have hm : min k zs.length = k := by omega
  simp [hm, List.getD, h]

theorem info3 : (Tryd.prog.info? 3).map (fun i => (i.zero, i.size, i.bytes)) = some (some (.int .i64 0), 1, 8) := by kernel_rfl

theorem make_ints (n : Nat) (hn : n ≤ 1048576) (W : World) : (Instr.makeSlice 22 (.int .i64 (n : Int)) (.int .i64 (n : Int))).run Tryd.prog W = .ok (.slice (some ⟨W.heap.size, 0, none⟩) n n) (W.alloc (.cells (List.replicate n (Value.int .i64 0)).toArray 3)) := by
  obtain ⟨i0, hi, hz0, hz1, hz2⟩ := info_parts info3
  have h := run_make (P := Tryd.prog) W 22 3 i0 (.int .i64 0) Tryd.underlying22 hi hz0 .i64 .i64 (n : Int) (n : Int) (by omega) (by omega) (by rw [hz2]; omega) (by omega)
  have e : madeCells (Value.int .i64 0).cells (n * i0.size) = (List.replicate n (Value.int .i64 0)).toArray := by
    apply Array.toList_inj.1
    rw [show (Value.int .i64 0).cells = #[Value.int .i64 0] from rfl, toList_madeCells_one, hz1]
    simp
  rw [show ((n : Int)).toNat = n by omega, e] at h
  exact h

theorem eqIntS (a1 a2 : Option Addr) (c1 c2 : Nat) (zs : List Int) (w : World) (hn : zs.length ≤ 281474976710656) (h1 : P0.Row w a1 zs) (h2 : P0.Row w a2 zs) :
    Calls Tryd.prog 23 #[.slice a1 zs.length c1, .slice a2 zs.length c2] w fun e w' => e = .returned (.bool true) ∧ ∃ n, w' = w.drewN n := by
  go_enter Tryd.func23, Tryd.ntmps23
  go_wp2
  go_loopw [5] (fun i w' => ∃ k n : Nat, k ≤ zs.length ∧ w' = w.drewN n ∧ i = .int .i64 k) (fun i _ => zs.length - (intOf i).toNat)
  case atStart => exact ⟨0, 0, Nat.zero_le _, rfl, rfl⟩
  case round =>
    obtain ⟨k, n, hk, rfl, rfl⟩ := hrel
    by_cases hlt : k < zs.length
    · have e1 : (0 : Int) ≤ (k : Int) := by omega
      have e2 : (k : Int) < (zs.length : Int) := by omega
      obtain ⟨b1, off1, rfl, hb1, hc1⟩ := h1.get hlt
      obtain ⟨b2, off2, rfl, hb2, hc2⟩ := h2.get hlt
      have x1 := hc1 k hlt
      have x2 := hc2 k hlt
      obtain ⟨z, ez⟩ : ∃ z, zs.getD k 0 = z := ⟨_, rfl⟩
      rw [ez] at x1 x2
      clear ez hc1 hc2 h1 h2
      go_wp2
      go_quiet (fail)
      go_wp2
      go_roundw
      case rel => exact ⟨k + 1, _, by omega, rfl, by go_num⟩
      case measure => simp [intOf]; omega
    · clear h1 h2
      go_wp2
      go_ret
      exact ⟨rfl, _, rfl⟩

/-- The three blocks of toInode. -/
structure Three (w : World) (k o s : Int) (a : Option Addr) (n c : Nat) (W : World) : Prop where
  arg : K0.Blk w.heap.size (vals k o s a n c) W
  res : K0.Blk (w.heap.size + 1) (vals 0 0 0 none 0 0) W
  tmp : K0.Blk (w.heap.size + 2) (vals k o s none 0 0) W
  bel : Below w.heap.size w W

theorem Three.below {w W W' : World} {k o s : Int} {a : Option Addr} {n c : Nat} (h : Three w k o s a n c W) (hb : Below W.heap.size W W') : Three w k o s a n c W' :=
  ⟨h.arg.below hb, h.res.below hb, h.tmp.below hb, h.bel.trans (hb.mono (Nat.le_of_lt h.arg.lt))⟩

end Go.Proofs.YtjajclifjojblaaDoor.I2
