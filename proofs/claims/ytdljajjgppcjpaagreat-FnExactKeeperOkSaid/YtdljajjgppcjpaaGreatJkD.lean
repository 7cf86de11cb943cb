/- Joined texts: plain facts and contracts, as each part says. -/
import Derived.Test.YtdljajjgppcjpaaGreatJkC
import Derived.Deep.Fields
import Derived.Deep.Slices
import Derived.Test.YtdljajjgppcjpaaGreatRows
import Derived.WalkKit
import Derived.ProofKit
import Derived.Below

/- A loan among a law's arguments. -/
namespace Go.Proofs.YtdljajjgppcjpaaGreat.N1
open Go.ChangeShapes Go.WideShapes Go.ChangeAt Go.RowKit Go.Joins Go.Deep
set_option linter.unusedVariables false
set_option linter.unusedSimpArgs false
set_option maxRecDepth 10000

open N0 (Ln)

/-- Where a loan's lists stand. -/
structure Sl where
  a1 : Option Addr
  c1 : Nat
  a2 : Option Addr
  c2 : Nat
  a3 : Option Addr
  c3 : Nat

abbrev vals (d : Ln) (s : Sl) : List Value := [.int .i64 d.ino, .int .i64 d.cl, .int .i64 d.un, .string d.rc, .slice s.a1 d.pg.length s.c1, .string d.sav, .slice s.a2 d.po.length s.c2, .slice s.a3 d.fr.length s.c3]
abbrev val (d : Ln) (s : Sl) : Value := .agg #[.int .i64 d.ino, .int .i64 d.cl, .int .i64 d.un, .string d.rc, .slice s.a1 d.pg.length s.c1, .string d.sav, .slice s.a2 d.po.length s.c2, .slice s.a3 d.fr.length s.c3]

/-- The lists of a loan. -/
structure Lists (W : World) (d : Ln) (s : Sl) : Prop where
  r1 : P0.Row W s.a1 d.pg
  r2 : P0.Row W s.a2 d.po
  r3 : P0.Row W s.a3 d.fr

/-- A loan's sizes, as any loan has them. -/
structure FitM (d : Ln) (s : Sl) : Prop where
  l1 : d.pg.length ≤ maxLen
  l2 : d.po.length ≤ maxLen
  l3 : d.fr.length ≤ maxLen
  m4 : d.rc.size ≤ maxLen
  m5 : d.sav.size ≤ maxLen

/-- A loan's sizes. -/
structure Fit (d : Ln) (s : Sl) : Prop where
  p1 : d.pg.length ≤ 281474976710656
  m4 : d.rc.size ≤ 281474976710656
  m5 : d.sav.size ≤ 281474976710656

variable {W W' : World} {d : Ln} {s : Sl}

theorem Lists.below (h : Lists W d s) (hb : Below W.heap.size W W') : Lists W' d s := ⟨h.r1.below hb, h.r2.below hb, h.r3.below hb⟩
theorem Lists.alloc (h : Lists W d s) (o : Obj) : Lists (W.alloc o) d s := ⟨h.r1.alloc o, h.r2.alloc o, h.r3.alloc o⟩
theorem Lists.drewN (h : Lists W d s) (n : Nat) : Lists (W.drewN n) d s := ⟨h.r1, h.r2, h.r3⟩
theorem Lists.drew (h : Lists W d s) : Lists W.drew d s := ⟨h.r1, h.r2, h.r3⟩

section Args
variable {H : Type} {enc : TypeId × Value → H} {w : World}

theorem array8 {α : Type} {cs : Array α} (h : cs.size = 8) : ∃ x0 x1 x2 x3 x4 x5 x6 x7, cs = #[x0, x1, x2, x3, x4, x5, x6, x7] := by
  obtain ⟨l⟩ := cs
  match l, h with
  | [x0, x1, x2, x3, x4, x5, x6, x7], _ => exact ⟨x0, x1, x2, x3, x4, x5, x6, x7, rfl⟩

/-- A structure of one-cell fields, opened. -/
theorem open_any {r : Reach} {b0 : Nat} {t : TypeId} {fs : Array Field} {v : Value} {x : DataW H} {p : List MemPlace} (hs : Tryz.prog.underlying t = some (.struct fs)) (hone : oneCellFields Tryz.prog fs = true) (hC : Tryz.prog.cellsOf t = fs.size)
    (hv : Value.okWide Tryz.prog w r b0 t v) (h : DataW.Trod enc Tryz.prog w 0 (fun _ => true) true t v x p) :
    ∃ (cs : Array Value) (n : Nat), v = .agg cs ∧ cs.size = fs.size ∧ ∀ (i : Nat) (f : Field) (c : Value), fs[i]? = some f → cs[i]? = some c → ∃ y, DataW.trod enc Tryz.prog w 0 (fun _ => true) true n f.type [c] = some y := by
  obtain ⟨cs, rfl, hsz⟩ := okWide_struct hs hv
  obtain ⟨fuel, hf⟩ := h
  obtain ⟨xs, n, _, _, _, hlen, hall⟩ := DataW.trod_struct hs hf
  refine ⟨cs, n, rfl, hsz.trans hC, fun i f c hi hc => ?_⟩
  obtain ⟨o, k⟩ := hone_of hone i f hi
  have hlt : i < fs.size := (Array.getElem?_eq_some_iff.1 hi).1
  have h1 := hall i f hi
  rw [o, k, List.getElem?_eq_getElem (by omega)] at h1
  have hci : i < cs.toList.length := by rw [Array.length_toList]; omega
  have e : ((Value.agg cs).cells.toList.drop i).take 1 = [c] := by
    show (cs.toList.drop i).take 1 = [c]
    rw [List.drop_eq_getElem_cons hci]
    have : cs.toList[i] = c := by
      rw [← Array.getElem?_toList, List.getElem?_eq_getElem hci] at hc
      exact Option.some.inj hc
    rw [this]
    rfl
  rw [e] at h1
  exact ⟨_, h1⟩

theorem cells : Tryz.prog.cellsOf 126 = 8 := by kernel_rfl

theorem open_loan {r : Reach} {b0 : Nat} {v : Value} {x : DataW H} {p : List MemPlace} (hv : Value.okWide Tryz.prog w r b0 126 v) (h : DataW.Trod enc Tryz.prog w 0 (fun _ => true) true 126 v x p) :
    ∃ (d : Ln) (s : Sl), v = val d s ∧ FitM d s ∧ Lists w d s := by
  obtain ⟨cs, n, rfl, hsz, hf⟩ := open_any Tryz.underlying126 (by kernel_rfl) cells hv h
  obtain ⟨x0, x1, x2, x3, x4, x5, x6, x7, rfl⟩ := array8 hsz
  obtain ⟨y0, h0⟩ := hf 0 _ x0 rfl rfl
  obtain ⟨y1, h1⟩ := hf 1 _ x1 rfl rfl
  obtain ⟨y2, h2⟩ := hf 2 _ x2 rfl rfl
  obtain ⟨y3, h3⟩ := hf 3 _ x3 rfl rfl
  obtain ⟨y4, h4⟩ := hf 4 _ x4 rfl rfl
  obtain ⟨y5, h5⟩ := hf 5 _ x5 rfl rfl
  obtain ⟨y6, h6⟩ := hf 6 _ x6 rfl rfl
  obtain ⟨y7, h7⟩ := hf 7 _ x7 rfl rfl
  obtain ⟨ino, e0, _, _⟩ := DataW.trod_int Tryz.underlying3 h0
  obtain ⟨cl, e1, _, _⟩ := DataW.trod_int Tryz.underlying3 h1
  obtain ⟨un, e2, _, _⟩ := DataW.trod_int Tryz.underlying3 h2
  obtain ⟨rc, e3, _, w3⟩ := DataW.trod_string Tryz.underlying9 h3
  obtain ⟨sav, e5, _, w5⟩ := DataW.trod_string Tryz.underlying9 h5
  obtain ⟨a1, c1, pg, rfl, p1, p2, R1⟩ := I2.open_row h4
  obtain ⟨a2, c2, po, rfl, p3, p4, R2⟩ := I2.open_row h6
  obtain ⟨a3, c3, fr, rfl, p5, p6, R3⟩ := I2.open_row h7
  simp at e0 e1 e2 e3 e5
  subst e0 e1 e2 e3 e5
  exact ⟨⟨ino, cl, un, rc, pg, sav, po, fr⟩, ⟨a1, c1, a2, c2, a3, c3⟩, rfl, ⟨Nat.le_trans p1 p2, Nat.le_trans p3 p4, Nat.le_trans p5 p6, w3, w5⟩, ⟨R1, R2, R3⟩⟩
end Args

/-- A block of eight cells. -/
structure LB (B : Nat) (d : Ln) (s : Sl) (W : World) : Prop where
  b : K0.Blk B (vals d s) W

variable {B : Nat}
theorem LB.c0 (h : LB B d s W) : W.cell? ⟨B, 0, none⟩ = some (.int .i64 d.ino) := h.b.cell 0 (by simp)
theorem LB.c1 (h : LB B d s W) : W.cell? ⟨B, 1, none⟩ = some (.int .i64 d.cl) := h.b.cell 1 (by simp)
theorem LB.c2 (h : LB B d s W) : W.cell? ⟨B, 2, none⟩ = some (.int .i64 d.un) := h.b.cell 2 (by simp)
theorem LB.c3 (h : LB B d s W) : W.cell? ⟨B, 3, none⟩ = some (.string d.rc) := h.b.cell 3 (by simp)
theorem LB.c4 (h : LB B d s W) : W.cell? ⟨B, 4, none⟩ = some (.slice s.a1 d.pg.length s.c1) := h.b.cell 4 (by simp)
theorem LB.c5 (h : LB B d s W) : W.cell? ⟨B, 5, none⟩ = some (.string d.sav) := h.b.cell 5 (by simp)
theorem LB.c6 (h : LB B d s W) : W.cell? ⟨B, 6, none⟩ = some (.slice s.a2 d.po.length s.c2) := h.b.cell 6 (by simp)
theorem LB.c7 (h : LB B d s W) : W.cell? ⟨B, 7, none⟩ = some (.slice s.a3 d.fr.length s.c3) := h.b.cell 7 (by simp)
theorem LB.below (h : LB B d s W) (hb : Below W.heap.size W W') : LB B d s W' := ⟨h.b.below hb⟩
theorem lb_new (d : Ln) (s : Sl) (w : World) (T : TypeId) : LB w.heap.size d s (w.alloc (.cells #[.int .i64 d.ino, .int .i64 d.cl, .int .i64 d.un, .string d.rc, .slice s.a1 d.pg.length s.c1, .string d.sav, .slice s.a2 d.po.length s.c2, .slice s.a3 d.fr.length s.c3] T)) := ⟨K0.blk_new (vals d s) w T⟩
end Go.Proofs.YtdljajjgppcjpaaGreat.N1

/- Contracts of small functions over lists of numbers: impl.ascends, slices.Equal, spec.l05Same, spec.l05Up, spec.l02Has and slices.Contains, as the given laws call them. -/
namespace Go.Proofs.YtdljajjgppcjpaaGreat.N2
open Go.ChangeShapes Go.WideShapes Go.ChangeAt Go.RowKit
set_option linter.unusedVariables false
set_option linter.unusedSimpArgs false
set_option maxRecDepth 10000

open P1 (ret_bool quiet_bool)

theorem hasRow (a : Option Addr) (c : Nat) (zs : List Int) (x : Int) (w : World) (hbig : zs.length ≤ 281474976710656) (hR : P0.Row w a zs) :
    Calls Tryz.prog 41 #[.slice a zs.length c, .int .i64 x] w fun e w' => e = .returned (.bool (P0.has zs x)) ∧ w' = w := by
  by_cases h0 : zs = []
  · subst h0
    go_enter Tryz.func41, Tryz.ntmps41
    go_wp2
    go_loop [5] (fun i => i = .int .i64 0) (fun _ => 0)
    case atStart => rfl
    case round =>
      subst hrel
      go_wp2
      go_ret
      exact ⟨rfl, rfl⟩
  · rcases hR with h | ⟨b, off, rfl, hb, hc⟩
    · exact absurd h h0
    · have := P1.l02Has b off zs.length c zs x w (Nat.le_refl _) hbig hc
      rw [List.take_length] at this
      exact this

theorem containsRow (a : Option Addr) (c : Nat) (zs : List Int) (x : Int) (w : World) (hbig : zs.length ≤ 281474976710656) (hR : P0.Row w a zs) :
    Calls Tryz.prog 130 #[.slice a zs.length c, .int .i64 x] w fun e w' => e = .returned (.bool (P0.has zs x)) ∧ w' = w := by
  by_cases h0 : zs = []
  · subst h0
    exact Tryz.slices_Contains_int_empty a c x w
  · rcases hR with h | ⟨b, off, rfl, hb, hc⟩
    · exact absurd h h0
    · have := P1.impl_Contains b off zs.length c zs x w (Nat.le_refl _) hbig hc
      rw [List.take_length] at this
      exact this

theorem ascends (a : Option Addr) (c : Nat) (zs : List Int) (w : World) (hbig : zs.length ≤ 281474976710656) (hR : P0.Row w a zs) :
    Calls Tryz.prog 61 #[.slice a zs.length c] w fun e w' => e = .returned (.bool (N0.asc zs)) ∧ ∃ n, w' = w.drewN n := by
  go_enter Tryz.func61, Tryz.ntmps61
  go_wp2
  go_loopw [3] (fun i w' => ∃ k n : Nat, 1 ≤ k ∧ (k ≤ zs.length ∨ k = 1) ∧ N0.to (N0.ascAt zs) k = true ∧ i = .int .i64 k ∧ w' = w.drewN n) (fun i _ => zs.length - (intOf i).toNat)
  case atStart => exact ⟨1, 0, Nat.le_refl _, Or.inr rfl, rfl, rfl, rfl⟩
  case round =>
    obtain ⟨k, n, hk1, hk, hok, rfl, hW⟩ := hrel
    have HW : Hid (∀ m, ∃ m', wr.drewN m = w.drewN m') := fun m => ⟨n + m, by rw [hW, World.drewN_drewN]⟩
    by_cases hlt : k < zs.length
    · have hR' : P0.Row wr a zs := by rw [hW]; exact hR.drewN n
      obtain ⟨b, off, rfl, hb, hc⟩ := hR'.get hlt
      have x1 := hc k hlt
      have x2 := hc (k - 1) (by omega)
      have hat : N0.ascAt zs k = (decide (k = 0) || decide (zs.getD (k - 1) 0 < zs.getD k 0)) := rfl
      obtain ⟨z, ez⟩ : ∃ z, zs.getD k 0 = z := ⟨_, rfl⟩
      obtain ⟨y, ey⟩ : ∃ y, zs.getD (k - 1) 0 = y := ⟨_, rfl⟩
      rw [ez] at x1 hat
      rw [ey] at x2 hat
      have e1 : (0 : Int) ≤ (k : Int) := by omega
      have e2 : (k : Int) < (zs.length : Int) := by omega
      have e3 : (0 : Int) ≤ (k : Int) - 1 := by omega
      have e4 : (k : Int) - 1 < (zs.length : Int) := by omega
      have e5 : ((k : Int) - 1).toNat = k - 1 := by omega
      by_cases h : z ≤ y
      · have HR : Hid (N0.asc zs = false) := N0.to_bad hlt (by rw [hat, decide_eq_false (by omega), decide_eq_false (by omega)]; rfl)
        clear hat hok ez ey hc hR hR' hW
        go_wp2
        go_quiet (fail)
        go_wp2
        go_ret
        exact ⟨ret_bool HR.out.symm, HW.out _⟩
      · have h' : decide (z ≤ y) = false := by simpa using h
        have HO : Hid (N0.to (N0.ascAt zs) (k + 1) = true) := N0.to_step hok (by rw [hat, decide_eq_true (show y < z by omega), Bool.or_true])
        clear hat hok ez ey hc hR hR' hW
        go_wp2
        go_quiet (fail)
        go_wp2
        obtain ⟨m', hm'⟩ := HW.out nq
        go_roundw
        case rel => exact ⟨k + 1, m', by omega, Or.inl (by omega), HO.out, by go_num, hm'⟩
        case measure => simp [intOf]; omega
    · have HR : Hid (N0.asc zs = true) := by
        show N0.to (N0.ascAt zs) zs.length = true
        exact N0.to_iff.2 fun i hi => N0.to_iff.1 hok i (by omega)
      have HW0 : Hid (wr = w.drewN n) := hW
      have e6 : decide ((k : Int) < (zs.length : Int)) = false := by simp; omega
      clear hok hR hW
      go_wp2
      go_ret
      exact ⟨ret_bool HR.out.symm, n, HW0.out⟩

/-- Two lists, held against each other as far as they go. -/
def eqAt (xs ys : List Int) (i : Nat) : Bool := decide (xs.getD i 0 = ys.getD i 0)

theorem eq_of {xs ys : List Int} (hl : xs.length = ys.length) (h : N0.to (eqAt xs ys) xs.length = true) : xs = ys := by
  apply List.ext_getElem hl
  intro i h1 h2
  have := N0.to_iff.1 h i h1
  simp only [eqAt, decide_eq_true_eq] at this
  rwa [P0.getD_get _ _ h1, P0.getD_get _ _ h2] at this

theorem ne_of {xs ys : List Int} {k : Nat} (hk : ¬ xs.getD k 0 = ys.getD k 0) : ¬ xs = ys := fun e => hk (by rw [e])

theorem equal (a1 a2 : Option Addr) (c1 c2 : Nat) (xs ys : List Int) (w : World) (hb1 : xs.length ≤ 281474976710656) (hb2 : ys.length ≤ 281474976710656) (h1 : P0.Row w a1 xs) (h2 : P0.Row w a2 ys) :
    Calls Tryz.prog 116 #[.slice a1 xs.length c1, .slice a2 ys.length c2] w fun e w' => e = .returned (.bool (decide (xs = ys))) ∧ ∃ n, w' = w.drewN n := by
  by_cases hl : xs.length = ys.length
  · have hl' : ((xs.length : Int) != (ys.length : Int)) = false := by simp; omega
    go_enter Tryz.func116, Tryz.ntmps116
    go_wp2
    go_loopw [13] (fun i w' => ∃ k n : Nat, k ≤ xs.length ∧ N0.to (eqAt xs ys) k = true ∧ i = .int .i64 k ∧ w' = w.drewN n) (fun i _ => xs.length - (intOf i).toNat)
    case atStart => exact ⟨0, 0, Nat.zero_le _, rfl, rfl, rfl⟩
    case round =>
      obtain ⟨k, n, hk, hok, rfl, hW⟩ := hrel
      have HW : Hid (∀ m, ∃ m', wr.drewN m = w.drewN m') := fun m => ⟨n + m, by rw [hW, World.drewN_drewN]⟩
      by_cases hlt : k < xs.length
      · have h1' : P0.Row wr a1 xs := by rw [hW]; exact h1.drewN n
        have h2' : P0.Row wr a2 ys := by rw [hW]; exact h2.drewN n
        obtain ⟨b1, off1, rfl, _, hc1⟩ := h1'.get hlt
        obtain ⟨b2, off2, rfl, _, hc2⟩ := h2'.get (by omega : k < ys.length)
        have x1 := hc1 k hlt
        have x2 := hc2 k (by omega)
        have hat : eqAt xs ys k = decide (xs.getD k 0 = ys.getD k 0) := rfl
        have hne : ¬ xs.getD k 0 = ys.getD k 0 → ¬ xs = ys := ne_of
        obtain ⟨z, ez⟩ : ∃ z, xs.getD k 0 = z := ⟨_, rfl⟩
        obtain ⟨y, ey⟩ : ∃ y, ys.getD k 0 = y := ⟨_, rfl⟩
        rw [ez] at x1 hat hne
        rw [ey] at x2 hat hne
        have e1 : (0 : Int) ≤ (k : Int) := by omega
        have e2 : (k : Int) < (xs.length : Int) := by omega
        have e3 : (k : Int) < (ys.length : Int) := by omega
        by_cases h : z = y
        · have h' : (z != y) = false := by simpa using h
          have HO : Hid (N0.to (eqAt xs ys) (k + 1) = true) := N0.to_step hok (by rw [hat, decide_eq_true h])
          clear hat hok ez ey hc1 hc2 h1 h2 h1' h2' hW h hne hl
          go_wp2
          go_quiet (fail)
          go_wp2
          obtain ⟨m', hm'⟩ := HW.out nq
          go_roundw
          case rel => exact ⟨k + 1, m', by omega, HO.out, by go_num, hm'⟩
          case measure => simp [intOf]; omega
        · have h' : (z != y) = true := by simpa using h
          have HR : Hid (decide (xs = ys) = false) := decide_eq_false (hne h)
          clear hat hok ez ey hc1 hc2 h1 h2 h1' h2' hW h hne hl
          go_wp2
          go_quiet (fail)
          go_wp2
          go_ret
          exact ⟨ret_bool HR.out.symm, HW.out _⟩
      · obtain rfl : k = xs.length := by omega
        have HR : Hid (decide (xs = ys) = true) := decide_eq_true (eq_of hl hok)
        have HW0 : Hid (wr = w.drewN n) := hW
        have e9 : decide (xs.length < ys.length) = false := decide_eq_false (by omega)
        clear hok h1 h2 hW hl
        go_wp2
        go_ret
        exact ⟨ret_bool HR.out.symm, n, HW0.out⟩
  · have hl' : ((xs.length : Int) != (ys.length : Int)) = true := by simp; omega
    have HR : Hid (decide (xs = ys) = false) := decide_eq_false fun e => hl (by rw [e])
    clear hl
    go_enter Tryz.func116, Tryz.ntmps116
    go_wp2
    go_ret
    exact ⟨ret_bool HR.out.symm, 0, rfl⟩

theorem same (a1 a2 : Option Addr) (c1 c2 : Nat) (xs ys : List Int) (w : World) (hb1 : xs.length ≤ 281474976710656) (hb2 : ys.length ≤ 281474976710656) (h1 : P0.Row w a1 xs) (h2 : P0.Row w a2 ys) :
    Calls Tryz.prog 40 #[.slice a1 xs.length c1, .slice a2 ys.length c2] w fun e w' => e = .returned (.bool (decide (xs = ys))) ∧ ∃ n, w' = w.drewN n := by
  by_cases hl : xs.length = ys.length
  · have hl' : ((xs.length : Int) != (ys.length : Int)) = false := by simp; omega
    go_enter Tryz.func40, Tryz.ntmps40
    go_wp2
    go_loopw [5] (fun i w' => ∃ k n : Nat, k ≤ xs.length ∧ N0.to (eqAt xs ys) k = true ∧ i = .int .i64 k ∧ w' = w.drewN n) (fun i _ => xs.length - (intOf i).toNat)
    case atStart => exact ⟨0, 0, Nat.zero_le _, rfl, rfl, rfl⟩
    case round =>
      obtain ⟨k, n, hk, hok, rfl, hW⟩ := hrel
      have HW : Hid (∀ m, ∃ m', wr.drewN m = w.drewN m') := fun m => ⟨n + m, by rw [hW, World.drewN_drewN]⟩
      by_cases hlt : k < xs.length
      · have h1' : P0.Row wr a1 xs := by rw [hW]; exact h1.drewN n
        have h2' : P0.Row wr a2 ys := by rw [hW]; exact h2.drewN n
        obtain ⟨b1, off1, rfl, _, hc1⟩ := h1'.get hlt
        obtain ⟨b2, off2, rfl, _, hc2⟩ := h2'.get (by omega : k < ys.length)
        have x1 := hc1 k hlt
        have x2 := hc2 k (by omega)
        have hat : eqAt xs ys k = decide (xs.getD k 0 = ys.getD k 0) := rfl
        have hne : ¬ xs.getD k 0 = ys.getD k 0 → ¬ xs = ys := ne_of
        obtain ⟨z, ez⟩ : ∃ z, xs.getD k 0 = z := ⟨_, rfl⟩
        obtain ⟨y, ey⟩ : ∃ y, ys.getD k 0 = y := ⟨_, rfl⟩
        rw [ez] at x1 hat hne
        rw [ey] at x2 hat hne
        have e1 : (0 : Int) ≤ (k : Int) := by omega
        have e2 : (k : Int) < (xs.length : Int) := by omega
        have e3 : (k : Int) < (ys.length : Int) := by omega
        by_cases h : z = y
        · have h' : (z != y) = false := by simpa using h
          have HO : Hid (N0.to (eqAt xs ys) (k + 1) = true) := N0.to_step hok (by rw [hat, decide_eq_true h])
          clear hat hok ez ey hc1 hc2 h1 h2 h1' h2' hW h hne hl
          go_wp2
          go_quiet (fail)
          go_wp2
          obtain ⟨m', hm'⟩ := HW.out nq
          go_roundw
          case rel => exact ⟨k + 1, m', by omega, HO.out, by go_num, hm'⟩
          case measure => simp [intOf]; omega
        · have h' : (z != y) = true := by simpa using h
          have HR : Hid (decide (xs = ys) = false) := decide_eq_false (hne h)
          clear hat hok ez ey hc1 hc2 h1 h2 h1' h2' hW h hne hl
          go_wp2
          go_quiet (fail)
          go_wp2
          go_ret
          exact ⟨ret_bool HR.out.symm, HW.out _⟩
      · obtain rfl : k = xs.length := by omega
        have HR : Hid (decide (xs = ys) = true) := decide_eq_true (eq_of hl hok)
        have HW0 : Hid (wr = w.drewN n) := hW
        have e9 : decide (xs.length < ys.length) = false := decide_eq_false (by omega)
        clear hok h1 h2 hW hl
        go_wp2
        go_ret
        exact ⟨ret_bool HR.out.symm, n, HW0.out⟩
  · have hl' : ((xs.length : Int) != (ys.length : Int)) = true := by simp; omega
    have HR : Hid (decide (xs = ys) = false) := decide_eq_false fun e => hl (by rw [e])
    clear hl
    go_enter Tryz.func40, Tryz.ntmps40
    go_wp2
    go_ret
    exact ⟨ret_bool HR.out.symm, 0, rfl⟩

set_option maxHeartbeats 2000000 in
theorem l05Up (a : Option Addr) (c : Nat) (zs : List Int) (x y : Int) (w : World) (hbig : zs.length ≤ 281474976710656) (hR : P0.Row w a zs) :
    Calls Tryz.prog 44 #[.slice a zs.length c, .int .i64 x, .int .i64 y] w fun e w' => e = .returned (.bool (N0.up zs x y)) ∧ ∃ n, w' = w.drewN n := by
  go_enter Tryz.func44, Tryz.ntmps44
  go_wp2
  go_loopw [7] (fun i w' => ∃ k n : Nat, k ≤ zs.length ∧ N0.to (N0.upAt zs x y) k = true ∧ i = .int .i64 k ∧ w' = w.drewN n) (fun i _ => zs.length - (intOf i).toNat)
  case atStart => exact ⟨0, 0, Nat.zero_le _, rfl, rfl, rfl⟩
  case round =>
    obtain ⟨k, n, hk, hok, rfl, hW⟩ := hrel
    have HW : Hid (∀ m, ∃ m', wr.drewN m = w.drewN m') := fun m => ⟨n + m, by rw [hW, World.drewN_drewN]⟩
    by_cases hlt : k < zs.length
    · have hR' : P0.Row wr a zs := by rw [hW]; exact hR.drewN n
      obtain ⟨b, off, rfl, hb, hc⟩ := hR'.get hlt
      have x1 := hc k hlt
      have hat : N0.upAt zs x y k = (B1.inB (zs.getD k 0) x y && (decide (k = 0) || decide (zs.getD (k - 1) 0 < zs.getD k 0))) := rfl
      have e1 : (0 : Int) ≤ (k : Int) := by omega
      have e2 : (k : Int) < (zs.length : Int) := by omega
      by_cases g0 : k = 0
      · subst g0
        obtain ⟨z, ez⟩ : ∃ z, zs.getD 0 0 = z := ⟨_, rfl⟩
        rw [ez] at x1 hat
        rw [Nat.add_zero] at x1
        rw [decide_eq_true rfl, Bool.true_or, Bool.and_true] at hat
        cases h1 : B1.inB z x y with
        | true =>
          have HO : Hid (N0.to (N0.upAt zs x y) (0 + 1) = true) := N0.to_step hok (by rw [hat, h1])
          clear hat hok ez hc hR hR' hW
          go_wp2
          go_quiet ((go_at_call 37; exact quiet_bool (B1.l01In_any _ _ _ _) h1))
          go_wp2
          obtain ⟨m', hm'⟩ := HW.out nq
          go_roundw
          case rel => exact ⟨0 + 1, m', by omega, HO.out, by go_num, hm'⟩
          case measure => simp [intOf]; omega
        | false =>
          have HR : Hid (N0.up zs x y = false) := N0.to_bad hlt (by rw [hat, h1])
          clear hat hok ez hc hR hR' hW
          go_wp2
          go_quiet ((go_at_call 37; exact quiet_bool (B1.l01In_any _ _ _ _) h1))
          go_wp2
          go_ret
          exact ⟨ret_bool HR.out.symm, HW.out _⟩
      · have x2 := hc (k - 1) (by omega)
        obtain ⟨z, ez⟩ : ∃ z, zs.getD k 0 = z := ⟨_, rfl⟩
        obtain ⟨u, eu⟩ : ∃ u, zs.getD (k - 1) 0 = u := ⟨_, rfl⟩
        rw [ez] at x1 hat
        rw [eu] at x2 hat
        rw [decide_eq_false g0, Bool.false_or] at hat
        have e3 : (0 : Int) ≤ (k : Int) - 1 := by omega
        have e4 : (k : Int) - 1 < (zs.length : Int) := by omega
        have e5 : ((k : Int) - 1).toNat = k - 1 := by omega
        have e6 : 0 < k := by omega
        cases h1 : B1.inB z x y with
        | true =>
          by_cases h : z ≤ u
          · have HR : Hid (N0.up zs x y = false) := N0.to_bad hlt (by rw [hat, h1, decide_eq_false (by omega)]; rfl)
            clear hat hok ez eu hc hR hR' hW
            go_wp2
            go_quiet ((go_at_call 37; exact quiet_bool (B1.l01In_any _ _ _ _) h1))
            go_wp2
            go_ret
            exact ⟨ret_bool HR.out.symm, HW.out _⟩
          · have h' : decide (z ≤ u) = false := by simpa using h
            have HO : Hid (N0.to (N0.upAt zs x y) (k + 1) = true) := N0.to_step hok (by rw [hat, h1, decide_eq_true (by omega)]; rfl)
            clear hat hok ez eu hc hR hR' hW
            go_wp2
            go_quiet ((go_at_call 37; exact quiet_bool (B1.l01In_any _ _ _ _) h1))
            go_wp2
            obtain ⟨m', hm'⟩ := HW.out nq
            go_roundw
            case rel => exact ⟨k + 1, m', by omega, HO.out, by go_num, hm'⟩
            case measure => simp [intOf]; omega
        | false =>
          have HR : Hid (N0.up zs x y = false) := N0.to_bad hlt (by rw [hat, h1]; rfl)
          clear hat hok ez eu hc hR hR' hW
          go_wp2
          go_quiet ((go_at_call 37; exact quiet_bool (B1.l01In_any _ _ _ _) h1))
          go_wp2
          go_ret
          exact ⟨ret_bool HR.out.symm, HW.out _⟩
    · obtain rfl : k = zs.length := by omega
      have HR : Hid (N0.up zs x y = true) := hok
      have HW0 : Hid (wr = w.drewN n) := hW
      clear hok hR hW
      go_wp2
      go_ret
      exact ⟨ret_bool HR.out.symm, n, HW0.out⟩
end Go.Proofs.YtdljajjgppcjpaaGreat.N2

/- Contracts of laws.markIntS, laws.heldIntS, laws.markInode and laws.heldInode, as the given laws call them. -/
namespace Go.Proofs.YtdljajjgppcjpaaGreat.M0
open Go.ChangeShapes Go.WideShapes Go.ChangeAt Go.RowKit
set_option linter.unusedVariables false
set_option linter.unusedSimpArgs false
set_option maxRecDepth 10000

open I0 (val vals)
open I2 (ints)

/-- The marks 1, 2, .. -/
def marks (n : Nat) : List Int := (List.range n).map fun (j : Nat) => ((1 + j : Nat) : Int)

theorem marks_length (n : Nat) : (marks n).length = n := by simp [marks]

/-- The row while it is being marked. -/
def part (vs : List Value) (k : Nat) : List Value := ints (marks k) ++ vs.drop k

theorem part_zero (vs : List Value) : part vs 0 = vs := by simp [part, marks]
theorem part_all (vs : List Value) : part vs vs.length = ints (marks vs.length) := by simp [part]
theorem part_length (vs : List Value) (k : Nat) (h : k ≤ vs.length) : (part vs k).length = vs.length := by simp [part, marks]; omega
theorem part_succ (vs : List Value) (k : Nat) (h : k < vs.length) : (part vs k).set k (.int .i64 ((1 + k : Nat) : Int)) = part vs (k + 1) := by
  unfold part
  have e : vs.drop k = vs[k] :: vs.drop (k + 1) := List.drop_eq_getElem_cons h
  have hl : (ints (marks k)).length = k := by simp [marks]
  rw [e, List.set_append_right _ _ (by omega), hl, Nat.sub_self, List.set_cons_zero]
  simp [marks, List.range_succ]

theorem marks_get (n k : Nat) (h : k < n) : (ints (marks n))[k]'(by simp [marks]; exact h) = .int .i64 ((1 + k : Nat) : Int) := by simp [marks]

theorem grown_refl (w : World) (row : Option Nat) : w.grownBy w row := ⟨rfl, rfl, rfl, Nat.le_refl _, fun _ _ _ => rfl⟩
theorem grown_set {w w1 : World} {g j : Nat} (h : w.grownBy w1 (some g)) (v : Value) : w.grownBy (w1.setCell ⟨g, j, none⟩ v) (some g) := by
  refine ⟨h.os, h.tape, h.output, ?_, fun k hk hr => ?_⟩
  · simpa using h.size
  · have hne : k ≠ g := fun e => hr (by rw [e])
    rw [← h.block k hk hr]
    exact Below.heap_setCell w1 ⟨g, j, none⟩ v k hne
theorem grown_alloc {w w' : World} {o : Obj} {row : Option Nat} (h : (w.alloc o).grownBy w' row) : w.grownBy w' row :=
  ⟨h.os, h.tape, h.output, Nat.le_trans (by simp) h.size, fun k hk hr => by
    rw [h.block k (by simp; omega) hr]
    exact ((Below.refl w.heap.size w).alloc (Nat.le_refl _) o).block k hk⟩

theorem blk_grown {B g : Nat} {vs : List Value} {w w' : World} (h : K0.Blk B vs w) (hg : w.grownBy w' (some g)) (hne : B ≠ g) : K0.Blk B vs w' := by
  have hb : w'.heap[B]? = w.heap[B]? := hg.block B h.lt (fun e => hne (Option.some.inj e))
  refine ⟨fun j hj => ?_, fun j hj => ?_, Nat.lt_of_lt_of_le h.lt hg.size⟩
  · rw [World.cell?_of_block (a := ⟨B, j, none⟩) hb]
    exact h.cell j hj
  · rw [World.frozen?_of_block (a := ⟨B, j, none⟩) hb]
    exact h.free j hj

end Go.Proofs.YtdljajjgppcjpaaGreat.M0

/- Contracts of laws.szLoan, laws.toLoan, laws.eqLoan and laws.markLoan. -/
namespace Go.Proofs.YtdljajjgppcjpaaGreat.N3
open Go.ChangeShapes Go.WideShapes Go.ChangeAt Go.RowKit
set_option linter.unusedVariables false
set_option linter.unusedSimpArgs false
set_option maxRecDepth 10000

open N0 (Ln)
open N1 (Sl val vals Lists FitM LB lb_new)
open I2 (ints)

def total (d : Ln) : Nat := d.rc.size + d.pg.length + d.sav.size + d.po.length + d.fr.length

theorem szOk (a : Option Addr) (c n : Nat) (l : Int) (w : World) (hn : n ≤ maxLen) (h1 : l ≤ 1048576) (h : (n : Int) ≤ l) :
    Calls Tryz.prog 124 #[.slice a n c, .int .i64 l] w fun e w' => e = .returned (.int .i64 (l - n)) ∧ w' = w :=
  (I2.szIntS a c n l w hn (by omega) h1).mono fun _ _ ⟨he, hw⟩ => ⟨by rw [he, I2.left, if_neg (by omega)], hw⟩
theorem szNo (a : Option Addr) (c n : Nat) (l : Int) (w : World) (hn : n ≤ maxLen) (h0 : 0 ≤ l) (h1 : l ≤ 1048576) (h : l < (n : Int)) :
    Calls Tryz.prog 124 #[.slice a n c, .int .i64 l] w fun e w' => e = .returned (.int .i64 (-1)) ∧ w' = w :=
  (I2.szIntS a c n l w hn h0 h1).mono fun _ _ ⟨he, hw⟩ => ⟨by rw [he, I2.left, if_pos (by omega)], hw⟩

theorem szFit (d : Ln) (s : Sl) (w : World) (hF : FitM d s) (h : total d ≤ 1048576) :
    Calls Tryz.prog 88 #[val d s, .int .i64 1048576] w fun e w' => (∃ q : Int, 0 ≤ q ∧ e = .returned (.int .i64 q)) ∧ Below w.heap.size w w' := by
  have hB := K0.below_new w (.cells #[.int .i64 d.ino, .int .i64 d.cl, .int .i64 d.un, .string d.rc, .slice s.a1 d.pg.length s.c1, .string d.sav, .slice s.a2 d.po.length s.c2, .slice s.a3 d.fr.length s.c3] 126)
  have l1 := hF.l1
  have l2 := hF.l2
  have l3 := hF.l3
  unfold total at h
  have e1 : (0 : Int) ≤ 1048576 - (d.rc.size : Int) := by omega
  have g1 : ¬ (1048576 - (d.rc.size : Int) < 0) := by omega
  have g2 : ¬ (1048576 - (d.rc.size : Int) - (d.pg.length : Int) < 0) := by omega
  have g3 : ¬ (1048576 - (d.rc.size : Int) - (d.pg.length : Int) - (d.sav.size : Int) < 0) := by omega
  have g4 : ¬ (1048576 - (d.rc.size : Int) - (d.pg.length : Int) - (d.sav.size : Int) - (d.po.length : Int) < 0) := by omega
  have g5 : ¬ (1048576 - (d.rc.size : Int) - (d.pg.length : Int) - (d.sav.size : Int) - (d.po.length : Int) - (d.fr.length : Int) < 0) := by omega
  go_enter Tryz.func88, Tryz.ntmps88
  go_wp2_with (go_at_call 124; refine (szOk _ _ _ _ _ (by assumption) (by omega) (by omega)).mono ?_; rintro e w' ⟨rfl, rfl⟩)
  go_ret
  exact ⟨⟨_, by omega, rfl⟩, hB⟩

theorem szBig (d : Ln) (s : Sl) (w : World) (hF : FitM d s) (h : ¬ total d ≤ 1048576) :
    Calls Tryz.prog 88 #[val d s, .int .i64 1048576] w fun e w' => e = .returned (.int .i64 (-1)) ∧ Below w.heap.size w w' := by
  have hB := K0.below_new w (.cells #[.int .i64 d.ino, .int .i64 d.cl, .int .i64 d.un, .string d.rc, .slice s.a1 d.pg.length s.c1, .string d.sav, .slice s.a2 d.po.length s.c2, .slice s.a3 d.fr.length s.c3] 126)
  have l1 := hF.l1
  have l2 := hF.l2
  have l3 := hF.l3
  have l4 := hF.m4
  have l5 := hF.m5
  have l4' : d.rc.size ≤ 9223372036854775807 := l4
  have l5' : d.sav.size ≤ 9223372036854775807 := l5
  unfold total at h
  by_cases g1 : 1048576 - (d.rc.size : Int) < 0
  · go_enter Tryz.func88, Tryz.ntmps88
    go_wp2
    go_ret
    exact ⟨rfl, hB⟩
  · by_cases g2 : 1048576 - (d.rc.size : Int) - (d.pg.length : Int) < 0
    · go_enter Tryz.func88, Tryz.ntmps88
      go_wp2_with (go_at_call 124; refine (szNo _ _ _ _ _ (by assumption) (by omega) (by omega) (by omega)).mono ?_; rintro e w' ⟨rfl, rfl⟩)
      go_ret
      exact ⟨rfl, hB⟩
    · by_cases g3 : 1048576 - (d.rc.size : Int) - (d.pg.length : Int) - (d.sav.size : Int) < 0
      · go_enter Tryz.func88, Tryz.ntmps88
        go_wp2_with (go_at_call 124; refine (szOk _ _ _ _ _ (by assumption) (by omega) (by omega)).mono ?_; rintro e w' ⟨rfl, rfl⟩)
        go_ret
        exact ⟨rfl, hB⟩
      · by_cases g4 : 1048576 - (d.rc.size : Int) - (d.pg.length : Int) - (d.sav.size : Int) - (d.po.length : Int) < 0
        · go_enter Tryz.func88, Tryz.ntmps88
          go_wp2_with (first
            | (go_at_call 124; refine (szOk _ _ _ _ _ (by assumption) (by omega) (by omega)).mono ?_; rintro e w' ⟨rfl, rfl⟩)
            | (go_at_call 124; refine (szNo _ _ _ _ _ (by assumption) (by omega) (by omega) (by omega)).mono ?_; rintro e w' ⟨rfl, rfl⟩))
          go_ret
          exact ⟨rfl, hB⟩
        · go_enter Tryz.func88, Tryz.ntmps88
          go_wp2_with (first
            | (go_at_call 124; refine (szOk _ _ _ _ _ (by assumption) (by omega) (by omega)).mono ?_; rintro e w' ⟨rfl, rfl⟩)
            | (go_at_call 124; refine (szNo _ _ _ _ _ (by assumption) (by omega) (by omega) (by omega)).mono ?_; rintro e w' ⟨rfl, rfl⟩))
          go_ret
          exact ⟨rfl, hB⟩

theorem eqLoan (d : Ln) (s1 s2 : Sl) (w : World) (hp : d.pg.length ≤ 281474976710656) (ho : d.po.length ≤ 281474976710656) (hf : d.fr.length ≤ 281474976710656) (h1 : Lists w d s1) (h2 : Lists w d s2) :
    Calls Tryz.prog 108 #[val d s1, val d s2] w fun e w' => e = .returned (.bool true) ∧ Below w.heap.size w w' := by
  have b1 := lb_new d s1 w 26
  have hB := K0.below_new w (.cells #[.int .i64 d.ino, .int .i64 d.cl, .int .i64 d.un, .string d.rc, .slice s1.a1 d.pg.length s1.c1, .string d.sav, .slice s1.a2 d.po.length s1.c2, .slice s1.a3 d.fr.length s1.c3] 26)
  have hB2 := hB.alloc hB.size (.cells #[.int .i64 d.ino, .int .i64 d.cl, .int .i64 d.un, .string d.rc, .slice s2.a1 d.pg.length s2.c1, .string d.sav, .slice s2.a2 d.po.length s2.c2, .slice s2.a3 d.fr.length s2.c3] 26)
  have h1' := h1.below hB2
  have h2' := h2.below hB2
  obtain ⟨W, hW⟩ : ∃ W, (w.alloc (.cells #[.int .i64 d.ino, .int .i64 d.cl, .int .i64 d.un, .string d.rc, .slice s1.a1 d.pg.length s1.c1, .string d.sav, .slice s1.a2 d.po.length s1.c2, .slice s1.a3 d.fr.length s1.c3] 26)).alloc (.cells #[.int .i64 d.ino, .int .i64 d.cl, .int .i64 d.un, .string d.rc, .slice s2.a1 d.pg.length s2.c1, .string d.sav, .slice s2.a2 d.po.length s2.c2, .slice s2.a3 d.fr.length s2.c3] 26) = W := ⟨_, rfl⟩
  have hr1 : ∀ m, P0.Row (W.drewN m) s1.a1 d.pg := fun m => by rw [← hW]; exact h1'.r1.drewN m
  have hr2 : ∀ m, P0.Row (W.drewN m) s2.a1 d.pg := fun m => by rw [← hW]; exact h2'.r1.drewN m
  have hr3 : ∀ m, P0.Row (W.drewN m) s1.a2 d.po := fun m => by rw [← hW]; exact h1'.r2.drewN m
  have hr4 : ∀ m, P0.Row (W.drewN m) s2.a2 d.po := fun m => by rw [← hW]; exact h2'.r2.drewN m
  have hr5 : ∀ m, P0.Row (W.drewN m) s1.a3 d.fr := fun m => by rw [← hW]; exact h1'.r3.drewN m
  have hr6 : ∀ m, P0.Row (W.drewN m) s2.a3 d.fr := fun m => by rw [← hW]; exact h2'.r3.drewN m
  rw [hW] at hB2
  have hu : ∀ x : ByteArray, (x.toList != x.toList) = false := fun x => by simp
  subst hW
  go_enter Tryz.func108, Tryz.ntmps108
  go_wp2_with (first
    | (go_at_call 134; have n2' := n2; refine (I2.eqIntS _ _ _ _ d.fr _ hf (by simpa only [World.drewN_drewN] using hr5 (n1 + n2)) (by simpa only [World.drewN_drewN] using hr6 (n1 + n2))).mono ?_; rintro e w' ⟨rfl, n3, rfl⟩)
    | (go_at_call 134; have n1' := n1; refine (I2.eqIntS _ _ _ _ d.po _ ho (hr3 n1) (hr4 n1)).mono ?_; rintro e w' ⟨rfl, n2, rfl⟩)
    | (go_at_call 134; refine (I2.eqIntS _ _ _ _ d.pg _ hp (hr1 0) (hr2 0)).mono ?_; rintro e w' ⟨rfl, n1, rfl⟩))
  go_ret
  exact ⟨rfl, K0.below_drewN hB2 _⟩
end Go.Proofs.YtdljajjgppcjpaaGreat.N3

/- Lns of loans in memory; a keeper among a law's arguments. -/
namespace Go.Proofs.YtdljajjgppcjpaaGreat.Z0
open Go.ChangeShapes Go.WideShapes Go.ChangeAt Go.RowKit Go.Joins Go.Deep
set_option linter.unusedVariables false
set_option linter.unusedSimpArgs false
set_option maxRecDepth 10000

open N0 (Ln)
open N1 (Sl val vals Lists FitM LB lb_new)

def dz : Ln := ⟨0, 0, 0, ⟨#[]⟩, [], ⟨#[]⟩, [], []⟩
def sz0 : Sl := ⟨none, 0, none, 0, none, 0⟩

/-- The loan at a place. -/
def dat (ds : List Ln) (k : Nat) : Ln := ds.getD k dz

theorem dat_get (ds : List Ln) (k : Nat) (h : k < ds.length) : dat ds k = ds[k] := by simp [dat, List.getD, h]

/-- Eight cells of a block from a place on hold a loan. -/
def At (W : World) (b o : Nat) (d : Ln) (s : Sl) : Prop :=
  W.cell? ⟨b, o, none⟩ = some (.int .i64 d.ino) ∧ W.cell? ⟨b, o + 1, none⟩ = some (.int .i64 d.cl) ∧ W.cell? ⟨b, o + 2, none⟩ = some (.int .i64 d.un) ∧ W.cell? ⟨b, o + 3, none⟩ = some (.string d.rc) ∧
  W.cell? ⟨b, o + 4, none⟩ = some (.slice s.a1 d.pg.length s.c1) ∧ W.cell? ⟨b, o + 5, none⟩ = some (.string d.sav) ∧ W.cell? ⟨b, o + 6, none⟩ = some (.slice s.a2 d.po.length s.c2) ∧ W.cell? ⟨b, o + 7, none⟩ = some (.slice s.a3 d.fr.length s.c3)

variable {W W' : World} {a : Option Addr} {ds : List Ln} {ss : Nat → Sl} {b o : Nat} {d : Ln} {s : Sl}

theorem At.below (h : At W b o d s) (hlt : b < W.heap.size) (hb : Below W.heap.size W W') : At W' b o d s := by
  obtain ⟨h0, h1, h2, h3, h4, h5, h6, h7⟩ := h
  exact ⟨(hb.cell (p := ⟨b, o, none⟩) hlt).trans h0, (hb.cell (p := ⟨b, o + 1, none⟩) hlt).trans h1, (hb.cell (p := ⟨b, o + 2, none⟩) hlt).trans h2, (hb.cell (p := ⟨b, o + 3, none⟩) hlt).trans h3,
    (hb.cell (p := ⟨b, o + 4, none⟩) hlt).trans h4, (hb.cell (p := ⟨b, o + 5, none⟩) hlt).trans h5, (hb.cell (p := ⟨b, o + 6, none⟩) hlt).trans h6, (hb.cell (p := ⟨b, o + 7, none⟩) hlt).trans h7⟩

/-- A slice's place holds these loans; nothing is said of it where there are none. -/
def Row (W : World) (a : Option Addr) (ds : List Ln) (ss : Nat → Sl) : Prop :=
  ds = [] ∨ ∃ b off, a = some ⟨b, off, none⟩ ∧ b < W.heap.size ∧ ∀ j, j < ds.length → At W b (off + j * 8) (dat ds j) (ss j)

/-- Their lists. -/
def Subs (W : World) (ds : List Ln) (ss : Nat → Sl) : Prop := ∀ j, j < ds.length → Lists W (dat ds j) (ss j)

theorem Row.below (h : Row W a ds ss) (hb : Below W.heap.size W W') : Row W' a ds ss := by
  rcases h with h | ⟨b, off, ha, hlt, hc⟩
  · exact Or.inl h
  · exact Or.inr ⟨b, off, ha, Nat.lt_of_lt_of_le hlt hb.size, fun j hj => (hc j hj).below hlt hb⟩
theorem Row.drewN (h : Row W a ds ss) (n : Nat) : Row (W.drewN n) a ds ss := h
theorem Row.get {k : Nat} (h : Row W a ds ss) (hk : k < ds.length) : ∃ b off, a = some ⟨b, off, none⟩ ∧ b < W.heap.size ∧ ∀ j, j < ds.length → At W b (off + j * 8) (dat ds j) (ss j) := by
  rcases h with h | h
  · subst h
    simp at hk
  · exact h
theorem Subs.below (h : Subs W ds ss) (hb : Below W.heap.size W W') : Subs W' ds ss := fun j hj => (h j hj).below hb
theorem Subs.drewN (h : Subs W ds ss) (n : Nat) : Subs (W.drewN n) ds ss := fun j hj => (h j hj).drewN n

/-- A row of loans with their lists. -/
structure Lns (W : World) (a : Option Addr) (ds : List Ln) (ss : Nat → Sl) : Prop where
  row : Row W a ds ss
  sub : Subs W ds ss
theorem Lns.below (h : Lns W a ds ss) (hb : Below W.heap.size W W') : Lns W' a ds ss := ⟨h.row.below hb, h.sub.below hb⟩
theorem Lns.drewN (h : Lns W a ds ss) (n : Nat) : Lns (W.drewN n) a ds ss := ⟨h.row.drewN n, h.sub.drewN n⟩

/-- A keeper: what it tells. -/
structure Kp where
  mem : ByteArray
  dur : ByteArray
  ds : List Ln
  ck : Int

abbrev kval (k : Kp) (a : Option Addr) (c : Nat) : Value := .agg #[.string k.mem, .string k.dur, .slice a k.ds.length c, .int .i64 k.ck]
abbrev kvals (k : Kp) (a : Option Addr) (c : Nat) : List Value := [.string k.mem, .string k.dur, .slice a k.ds.length c, .int .i64 k.ck]

/-- A keeper's sizes, as any keeper has them. -/
structure FitK (k : Kp) (ss : Nat → Sl) : Prop where
  m1 : k.mem.size ≤ maxLen
  m2 : k.dur.size ≤ maxLen
  n : k.ds.length ≤ maxLen
  each : ∀ j, j < k.ds.length → FitM (dat k.ds j) (ss j)

section Args
variable {H : Type} {enc : TypeId × Value → H} {w : World}

theorem list8 {α : Type} {cs : List α} (h : cs.length = 8) : ∃ x0 x1 x2 x3 x4 x5 x6 x7, cs = [x0, x1, x2, x3, x4, x5, x6, x7] := by
  match cs, h with
  | [x0, x1, x2, x3, x4, x5, x6, x7], _ => exact ⟨x0, x1, x2, x3, x4, x5, x6, x7, rfl⟩

theorem cs1 : Tryz.prog.cellsOf 3 = 1 := by kernel_rfl
theorem cs2 : Tryz.prog.cellsOf 9 = 1 := by kernel_rfl
theorem cs3 : Tryz.prog.cellsOf 24 = 1 := by kernel_rfl
theorem cs4 : Tryz.prog.cellsOf 42 = 2 := by kernel_rfl
theorem cs5 : Tryz.prog.cellsOf 43 = 1 := by kernel_rfl
theorem cs6 : Tryz.prog.cellsOf 45 = 4 := by kernel_rfl

theorem loan_cells {n : Nat} {cs : List Value} {x : DataW H × List MemPlace} (h : DataW.trod enc Tryz.prog w 0 (fun _ => true) true n 126 cs = some x) :
    ∃ (q : Ln × Sl), cs = vals q.1 q.2 ∧ FitM q.1 q.2 ∧ Lists w q.1 q.2 := by
  obtain ⟨xs, k, _, _, hlen, hxl, hall⟩ := DataW.trod_struct Tryz.underlying126 h
  rw [N1.cells] at hlen
  obtain ⟨x0, x1, x2, x3, x4, x5, x6, x7, rfl⟩ := list8 hlen
  obtain ⟨y0, y1, y2, y3, y4, y5, y6, y7, rfl⟩ := list8 hxl
  have h0 := hall 0 _ rfl
  have h1 := hall 1 _ rfl
  have h2 := hall 2 _ rfl
  have h3 := hall 3 _ rfl
  have h4 := hall 4 _ rfl
  have h5 := hall 5 _ rfl
  have h6 := hall 6 _ rfl
  have h7 := hall 7 _ rfl
  simp only [cs1, cs2, cs3, List.drop_zero, List.drop_succ_cons, List.take_succ_cons, List.take_zero, List.getElem?_cons_zero, List.getElem?_cons_succ] at h0 h1 h2 h3 h4 h5 h6 h7
  obtain ⟨ino, e0, _, _⟩ := DataW.trod_int Tryz.underlying3 h0
  obtain ⟨cl, e1, _, _⟩ := DataW.trod_int Tryz.underlying3 h1
  obtain ⟨un, e2, _, _⟩ := DataW.trod_int Tryz.underlying3 h2
  obtain ⟨rc, e3, _, w3⟩ := DataW.trod_string Tryz.underlying9 h3
  obtain ⟨sav, e5, _, w5⟩ := DataW.trod_string Tryz.underlying9 h5
  obtain ⟨a1, c1, pg, rfl, p1, p2, R1⟩ := I2.open_row h4
  obtain ⟨a2, c2, po, rfl, p3, p4, R2⟩ := I2.open_row h6
  obtain ⟨a3, c3, fr, rfl, p5, p6, R3⟩ := I2.open_row h7
  simp [cs1, cs2] at e0 e1 e2 e3 e5
  subst e0 e1 e2 e3 e5
  exact ⟨(⟨ino, cl, un, rc, pg, sav, po, fr⟩, ⟨a1, c1, a2, c2, a3, c3⟩), rfl, ⟨Nat.le_trans p1 p2, Nat.le_trans p3 p4, Nat.le_trans p5 p6, w3, w5⟩, ⟨R1, R2, R3⟩⟩

theorem open_loans {fuel : Nat} {v : Value} {x : DataW H × List MemPlace} (h : DataW.trod enc Tryz.prog w 0 (fun _ => true) true fuel 43 [v] = some x) :
    ∃ (a : Option Addr) (c : Nat) (ds : List Ln) (ss : Nat → Sl), v = .slice a ds.length c ∧ ds.length ≤ c ∧ c ≤ maxLen ∧ (∀ j, j < ds.length → FitM (dat ds j) (ss j)) ∧ Lns w a ds ss := by
  rcases open_slice Tryz.underlying43 h with ⟨hcs, _⟩ | ⟨a, len, cap, m, n, D, Pl, hcs, _, hl, hm, hmm, _, hx⟩
  · simp at hcs
    exact ⟨none, 0, [], fun _ => sz0, hcs, Nat.le_refl _, Nat.zero_le _, fun j hj => by simp at hj, ⟨Or.inl rfl, fun j hj => by simp at hj⟩⟩
  · simp at hcs hmm
    subst hmm
    rw [N1.cells] at hx
    have each : ∀ j, j < m → ∃ q : Ln × Sl, (∀ i (hi : i < 8), w.cell? (a.add (j * 8 + i)) = some ((vals q.1 q.2)[i]'hi)) ∧ FitM q.1 q.2 ∧ Lists w q.1 q.2 := fun j hj => by
      obtain ⟨cs, k1, k2⟩ := hx j hj
      obtain ⟨q, rfl, f1, f2⟩ := loan_cells k2
      obtain ⟨_, _, k3⟩ := World.cells?_some k1
      refine ⟨q, fun i hi => ?_, f1, f2⟩
      have := k3 i hi
      rw [add_add] at this
      rw [this, List.getElem?_eq_getElem]
    haveI : Inhabited (Ln × Sl) := ⟨(dz, sz0)⟩
    obtain ⟨q, hq⟩ := choose_lt each
    have hlen : ((List.range len).map fun i => (q i).1).length = len := by simp
    have hdat : ∀ j, j < len → dat ((List.range len).map fun i => (q i).1) j = (q j).1 := fun j hj => by
      rw [dat_get _ _ (by rw [hlen]; exact hj)]
      simp
    refine ⟨some a, m, (List.range len).map fun i => (q i).1, fun i => (q i).2, by rw [hcs, hlen], by rw [hlen]; exact hl, hm, fun j hj => ?_, ⟨?_, fun j hj => ?_⟩⟩
    · rw [hlen] at hj
      rw [hdat j hj]
      exact (hq j (by omega)).2.1
    · by_cases h0 : len = 0
      · left
        subst h0
        rfl
      · right
        obtain ⟨b, off, spot⟩ := a
        have c00 := (hq 0 (by omega)).1 0 (by omega)
        have hspot : spot = none := by simpa [Addr.add] using World.cell?_spot c00
        subst hspot
        have hb : b < w.heap.size := by
          unfold World.cell? at c00
          cases hz : w.heap[b]? with
          | none => simp [Addr.add, hz] at c00
          | some o => exact (Array.getElem?_eq_some_iff.1 hz).1
        refine ⟨b, off, rfl, hb, fun j hj => ?_⟩
        rw [hlen] at hj
        rw [hdat j hj]
        have hc := (hq j (by omega)).1
        simp only [Go.WideShapes.add_plain, ← Nat.add_assoc] at hc
        exact ⟨hc 0 (by omega), hc 1 (by omega), hc 2 (by omega), hc 3 (by omega), hc 4 (by omega), hc 5 (by omega), hc 6 (by omega), hc 7 (by omega)⟩
    · rw [hlen] at hj
      rw [hdat j hj]
      exact (hq j (by omega)).2.2

theorem open_keeper {r : Reach} {b0 : Nat} {v : Value} {x : DataW H} {p : List MemPlace} (hv : Value.okWide Tryz.prog w r b0 45 v) (h : DataW.Trod enc Tryz.prog w 0 (fun _ => true) true 45 v x p) :
    ∃ (k : Kp) (a : Option Addr) (c : Nat) (ss : Nat → Sl), v = kval k a c ∧ FitK k ss ∧ Lns w a k.ds ss := by
  obtain ⟨cs, rfl, hsz⟩ := okWide_struct Tryz.underlying45 hv
  obtain ⟨fuel, hf⟩ := h
  obtain ⟨xs, n, _, _, _, hxl, hall⟩ := DataW.trod_struct Tryz.underlying45 hf
  rw [cs6] at hsz
  obtain ⟨l⟩ := cs
  match l, hsz, xs, hxl with
  | [x0, x1, x2, x3], _, [y0, y1, y2], _ =>
    have h0 := hall 0 _ rfl
    have h1 := hall 1 _ rfl
    have h2 := hall 2 _ rfl
    simp only [Value.cells, cs1, cs4, cs5, List.drop_zero, List.drop_succ_cons, List.take_succ_cons, List.take_zero, List.getElem?_cons_zero, List.getElem?_cons_succ] at h0 h1 h2
    obtain ⟨zs, n2, _, _, _, hzl, hall2⟩ := DataW.trod_struct Tryz.underlying42 h0
    match zs, hzl with
    | [z0, z1], _ =>
      have g0 := hall2 0 _ rfl
      have g1 := hall2 1 _ rfl
      simp only [cs2, List.drop_zero, List.drop_succ_cons, List.take_succ_cons, List.take_zero, List.getElem?_cons_zero, List.getElem?_cons_succ] at g0 g1
      obtain ⟨mem, e0, _, w0⟩ := DataW.trod_string Tryz.underlying9 g0
      obtain ⟨dur, e1, _, w1⟩ := DataW.trod_string Tryz.underlying9 g1
      obtain ⟨ck, e3, _, _⟩ := DataW.trod_int Tryz.underlying3 h2
      obtain ⟨a, c, ds, ss, rfl, hl, hc, hF, hR⟩ := open_loans h1
      simp [cs1, cs2, cs4] at e0 e1 e3
      subst e0 e1 e3
      exact ⟨⟨mem, dur, ds, ck⟩, a, c, ss, rfl, ⟨w0, w1, Nat.le_trans hl hc, hF⟩, hR⟩
end Args
end Go.Proofs.YtdljajjgppcjpaaGreat.Z0

/- Contracts of laws.toLoan and laws.markLoan. -/
namespace Go.Proofs.YtdljajjgppcjpaaGreat.N4
open Go.ChangeShapes Go.WideShapes Go.ChangeAt Go.RowKit
set_option linter.unusedVariables false
set_option linter.unusedSimpArgs false
set_option maxRecDepth 10000

open N0 (Ln)
open N1 (Sl val vals Lists FitM LB lb_new)
open I2 (ints)

abbrev zero8 : List Value := [.int .i64 0, .int .i64 0, .int .i64 0, .string ⟨#[]⟩, .slice none 0 0, .string ⟨#[]⟩, .slice none 0 0, .slice none 0 0]

/-- The three blocks of toLoan. -/
structure T (w : World) (d : Ln) (s : Sl) (vs : List Value) (W : World) : Prop where
  arg : LB w.heap.size d s W
  res : K0.Blk (w.heap.size + 1) zero8 W
  tmp : K0.Blk (w.heap.size + 2) vs W
  bel : Below w.heap.size w W

variable {w W W' : World} {d : Ln} {s : Sl} {vs : List Value}

theorem T.below (h : T w d s vs W) (hb : Below W.heap.size W W') : T w d s vs W' := ⟨h.arg.below hb, h.res.below hb, h.tmp.below hb, h.bel.trans (hb.mono h.bel.size)⟩
theorem T.set (h : T w d s vs W) (j : Nat) (v : Value) : T w d s (vs.set j v) (W.setCell ⟨w.heap.size + 2, j, none⟩ v) :=
  ⟨⟨h.arg.b.setOther (by omega) j v⟩, h.res.setOther (by omega) j v, h.tmp.set j v, h.bel.setCell (p := ⟨w.heap.size + 2, j, none⟩) (Nat.le_add_right _ _) v⟩
theorem T.arg' (h : T w d s vs W) : LB w.heap.size d s W := h.arg

/-- Where a copy's lists stand. -/
def at3 (d : Ln) (g1 g2 g3 : Nat) : Sl := ⟨some ⟨g1, 0, none⟩, d.pg.length, some ⟨g2, 0, none⟩, d.po.length, some ⟨g3, 0, none⟩, d.fr.length⟩

theorem t_new (w : World) (d : Ln) (s : Sl) :
    T w d s [.int .i64 d.ino, .int .i64 d.cl, .int .i64 d.un, .string d.rc, .slice none 0 0, .string ⟨#[]⟩, .slice none 0 0, .slice none 0 0] (((w.alloc (.cells #[.int .i64 d.ino, .int .i64 d.cl, .int .i64 d.un, .string d.rc, .slice s.a1 d.pg.length s.c1, .string d.sav, .slice s.a2 d.po.length s.c2, .slice s.a3 d.fr.length s.c3] 126)).alloc (.cells #[.int .i64 0, .int .i64 0, .int .i64 0, .string ⟨#[]⟩, .slice none 0 0, .string ⟨#[]⟩, .slice none 0 0, .slice none 0 0] 26)).alloc (.cells #[.int .i64 d.ino, .int .i64 d.cl, .int .i64 d.un, .string d.rc, .slice none 0 0, .string ⟨#[]⟩, .slice none 0 0, .slice none 0 0] 26)) :=
  ⟨⟨((K0.blk_new (vals d s) w 126).alloc _).alloc _⟩, (K0.blk_at zero8 _ 26 (by simp)).alloc _, K0.blk_at [.int .i64 d.ino, .int .i64 d.cl, .int .i64 d.un, .string d.rc, .slice none 0 0, .string ⟨#[]⟩, .slice none 0 0, .slice none 0 0] _ 26 (by simp),
   (((Below.refl _ _).alloc (Nat.le_refl _) _).alloc (by simp) _).alloc (by simp; omega) _⟩

/-- A copy of a loan: its lists are its own. -/
structure Cp (B : Nat) (d : Ln) (g1 g2 g3 : Nat) (W : World) : Prop where
  h1 : B ≤ g1
  h2 : B ≤ g2
  h3 : B ≤ g3
  k1 : K0.Blk g1 (ints d.pg) W
  k2 : K0.Blk g2 (ints d.po) W
  k3 : K0.Blk g3 (ints d.fr) W

variable {B g1 g2 g3 : Nat}
theorem Cp.below (h : Cp B d g1 g2 g3 W) (hb : Below W.heap.size W W') : Cp B d g1 g2 g3 W' := ⟨h.h1, h.h2, h.h3, h.k1.below hb, h.k2.below hb, h.k3.below hb⟩
theorem Cp.lists (h : Cp B d g1 g2 g3 W) : Lists W d (at3 d g1 g2 g3) := ⟨I2.row_of_blk h.k1, I2.row_of_blk h.k2, I2.row_of_blk h.k3⟩

theorem put8 {B : Nat} {x0 x1 x2 x3 x4 x5 x6 x7 y0 y1 y2 y3 y4 y5 y6 y7 : Value} (h : K0.Blk B [x0, x1, x2, x3, x4, x5, x6, x7] W) :
    K0.Blk B [y0, y1, y2, y3, y4, y5, y6, y7] ((((((((W.setCell ⟨B, 0, none⟩ y0).setCell ⟨B, 1, none⟩ y1).setCell ⟨B, 2, none⟩ y2).setCell ⟨B, 3, none⟩ y3).setCell ⟨B, 4, none⟩ y4).setCell ⟨B, 5, none⟩ y5).setCell ⟨B, 6, none⟩ y6).setCell ⟨B, 7, none⟩ y7) :=
  (((((((h.set 0 y0).set 1 y1).set 2 y2).set 3 y3).set 4 y4).set 5 y5).set 6 y6).set 7 y7
theorem other8 {B B' : Nat} {vs : List Value} (h : K0.Blk B' vs W) (hne : B ≠ B') (y0 y1 y2 y3 y4 y5 y6 y7 : Value) :
    K0.Blk B' vs ((((((((W.setCell ⟨B, 0, none⟩ y0).setCell ⟨B, 1, none⟩ y1).setCell ⟨B, 2, none⟩ y2).setCell ⟨B, 3, none⟩ y3).setCell ⟨B, 4, none⟩ y4).setCell ⟨B, 5, none⟩ y5).setCell ⟨B, 6, none⟩ y6).setCell ⟨B, 7, none⟩ y7) :=
  (((((((h.setOther hne 0 y0).setOther hne 1 y1).setOther hne 2 y2).setOther hne 3 y3).setOther hne 4 y4).setOther hne 5 y5).setOther hne 6 y6).setOther hne 7 y7
theorem bel8 {B b : Nat} (h : Below b w W) (hb : b ≤ B) (y0 y1 y2 y3 y4 y5 y6 y7 : Value) :
    Below b w ((((((((W.setCell ⟨B, 0, none⟩ y0).setCell ⟨B, 1, none⟩ y1).setCell ⟨B, 2, none⟩ y2).setCell ⟨B, 3, none⟩ y3).setCell ⟨B, 4, none⟩ y4).setCell ⟨B, 5, none⟩ y5).setCell ⟨B, 6, none⟩ y6).setCell ⟨B, 7, none⟩ y7) :=
  (((((((h.setCell (p := ⟨B, 0, none⟩) hb y0).setCell (p := ⟨B, 1, none⟩) hb y1).setCell (p := ⟨B, 2, none⟩) hb y2).setCell (p := ⟨B, 3, none⟩) hb y3).setCell (p := ⟨B, 4, none⟩) hb y4).setCell (p := ⟨B, 5, none⟩) hb y5).setCell (p := ⟨B, 6, none⟩) hb y6).setCell (p := ⟨B, 7, none⟩) hb y7

set_option maxHeartbeats 4000000 in
theorem toLoan (d : Ln) (s : Sl) (w : World) (hp : d.pg.length ≤ 1048576) (ho : d.po.length ≤ 1048576) (hf : d.fr.length ≤ 1048576) (hR : Lists w d s) :
    Calls Tryz.prog 97 #[val d s] w fun e w' => ∃ g1 g2 g3, e = .returned (val d (at3 d g1 g2 g3)) ∧ Cp w.heap.size d g1 g2 g3 w' ∧ Below w.heap.size w w' := by
  have t0 := t_new w d s
  have HL : Hid (∀ W, Below w.heap.size w W → Lists W d s) := fun W hb => hR.below hb
  have r0 := (HL.out _ t0.bel).r1
  clear hR
  go_enter Tryz.func97, Tryz.ntmps97
  go_wp2_with (first
    | (go_at_call 125; have q2' := q2; refine (I2.toIntS s.a3 s.c3 d.fr _ hf q2).mono ?_; rintro e w3 ⟨g3, rfl, hg3, k3, b3⟩; have t3 := u2.below b3; have m1 := l2.below b3; have m2 := (k2.setOther (B' := w.heap.size + 2) (by omega) 6 (.slice (some ⟨g2, 0, none⟩) d.po.length d.po.length)).below b3; have z7 := t3.tmp.cell 7 (by simp); have y7 := t3.tmp.free 7 (by simp); have z0 := t3.tmp.cell 0 (by simp); have z1 := t3.tmp.cell 1 (by simp); have z2 := t3.tmp.cell 2 (by simp); have z3 := t3.tmp.cell 3 (by simp); have z4 := t3.tmp.cell 4 (by simp); have z5 := t3.tmp.cell 5 (by simp); have z6 := t3.tmp.cell 6 (by simp); simp only [List.set_cons_zero, List.set_cons_succ, List.getElem_cons_zero, List.getElem_cons_succ] at z0 z1 z2 z3 z4 z5 z6 z7; have i0 := t3.res.cell 0 (by simp); have i1 := t3.res.cell 1 (by simp); have i2 := t3.res.cell 2 (by simp); have i3 := t3.res.cell 3 (by simp); have i4 := t3.res.cell 4 (by simp); have i5 := t3.res.cell 5 (by simp); have i6 := t3.res.cell 6 (by simp); have i7 := t3.res.cell 7 (by simp); simp only [List.getElem_cons_zero, List.getElem_cons_succ] at i0 i1 i2 i3 i4 i5 i6 i7; have j0 := t3.res.free 0 (by simp); have j1 := t3.res.free 1 (by simp); have j2 := t3.res.free 2 (by simp); have j3 := t3.res.free 3 (by simp); have j4 := t3.res.free 4 (by simp); have j5 := t3.res.free 5 (by simp); have j6 := t3.res.free 6 (by simp); have j7 := t3.res.free 7 (by simp))
    | (go_at_call 125; have q1' := q1; refine (I2.toIntS s.a2 s.c2 d.po _ ho q1).mono ?_; rintro e w2 ⟨g2, rfl, hg2, k2, b2⟩; have t2 := u1.below b2; have l2 := ((k1.setOther (B' := w.heap.size + 2) (by omega) 4 (.slice (some ⟨g1, 0, none⟩) d.pg.length d.pg.length)).setOther (B' := w.heap.size + 2) (by omega) 5 (.string d.sav)).below b2; have hg2' : w.heap.size + 3 ≤ g2 := (by have hq := u1.tmp.lt; omega); have l2 := l2.setOther (B' := w.heap.size + 2) (by omega) 6 (.slice (some ⟨g2, 0, none⟩) d.po.length d.po.length); have c7 := t2.arg.c7; have x6 := t2.tmp.cell 6 (by simp); have y6 := t2.tmp.free 6 (by simp); simp only [List.set_cons_zero, List.set_cons_succ, List.getElem_cons_zero, List.getElem_cons_succ] at x6; have u2 := t2.set 6 (.slice (some ⟨g2, 0, none⟩) d.po.length d.po.length); have q2 := (HL.out _ u2.bel).r3)
    | (go_at_call 125; refine (I2.toIntS s.a1 s.c1 d.pg _ hp r0).mono ?_; rintro e w1 ⟨g1, rfl, hg1, k1, b1⟩; have t1 := t0.below b1; have hg1' : w.heap.size + 3 ≤ g1 := (by have hq := t0.tmp.lt; omega); have c5 := t1.arg.c5; have c6 := t1.arg.c6; have x4 := t1.tmp.cell 4 (by simp); have y4 := t1.tmp.free 4 (by simp); have x5 := t1.tmp.cell 5 (by simp); have y5 := t1.tmp.free 5 (by simp); simp only [List.getElem_cons_zero, List.getElem_cons_succ] at x4 x5; have u1 := (t1.set 4 (.slice (some ⟨g1, 0, none⟩) d.pg.length d.pg.length)).set 5 (.string d.sav); have q1 := (HL.out _ u1.bel).r2))
  have hg3' : w.heap.size + 3 ≤ g3 := by
    have := u2.tmp.lt
    simp at hg3 this
    omega
  have u3 := t3.set 7 (.slice (some ⟨g3, 0, none⟩) d.fr.length d.fr.length)
  have q := put8 (y0 := .int .i64 d.ino) (y1 := .int .i64 d.cl) (y2 := .int .i64 d.un) (y3 := .string d.rc) (y4 := .slice (some ⟨g1, 0, none⟩) d.pg.length d.pg.length) (y5 := .string d.sav) (y6 := .slice (some ⟨g2, 0, none⟩) d.po.length d.po.length) (y7 := .slice (some ⟨g3, 0, none⟩) d.fr.length d.fr.length) u3.res
  have v0 := q.cell 0 (by simp)
  have v1 := q.cell 1 (by simp)
  have v2 := q.cell 2 (by simp)
  have v3 := q.cell 3 (by simp)
  have v4 := q.cell 4 (by simp)
  have v5 := q.cell 5 (by simp)
  have v6 := q.cell 6 (by simp)
  have v7 := q.cell 7 (by simp)
  simp only [List.getElem_cons_zero, List.getElem_cons_succ] at v0 v1 v2 v3 v4 v5 v6 v7
  refine bodyPost_ret (v := val d (at3 d g1 g2 g3)) (by simp [results, Tryz.results97, go_sem, v0, v1, v2, v3, v4, v5, v6, v7, at3]) rfl ⟨g1, g2, g3, rfl, ⟨by omega, by omega, by omega, ?_, ?_, ?_⟩, ?_⟩
  · exact other8 (m1.setOther (B' := w.heap.size + 2) (by omega) 7 _) (by omega) _ _ _ _ _ _ _ _
  · exact other8 (m2.setOther (B' := w.heap.size + 2) (by omega) 7 _) (by omega) _ _ _ _ _ _ _ _
  · exact other8 (k3.setOther (B' := w.heap.size + 2) (by omega) 7 _) (by omega) _ _ _ _ _ _ _ _
  · exact bel8 u3.bel (by omega) _ _ _ _ _ _ _ _
end Go.Proofs.YtdljajjgppcjpaaGreat.N4

/- What the exact laws over loans keep: the law's own loan, boxed, and a copy of it. -/
namespace Go.Proofs.YtdljajjgppcjpaaGreat.N12
open Go.ChangeShapes Go.WideShapes Go.ChangeAt Go.RowKit
set_option linter.unusedVariables false
set_option linter.unusedSimpArgs false
set_option maxRecDepth 10000

open N0 (Ln)
open N1 (Sl Lists Fit FitM LB lb_new)
open N4 (at3 Cp)

/-- The law's loan in its box. -/
structure A (w : World) (d : Ln) (s : Sl) (W : World) : Prop where
  b : LB w.heap.size d s W
  l : Lists W d s
  bel : Below w.heap.size w W

variable {w W W' : World} {d : Ln} {s : Sl} {g1 g2 g3 B : Nat}

theorem A.below (h : A w d s W) (hb : Below W.heap.size W W') : A w d s W' := ⟨h.b.below hb, h.l.below hb, h.bel.trans (hb.mono h.bel.size)⟩
theorem A.drew (h : A w d s W) : A w d s W.drew := h.below ((Below.refl _ _).drew)

theorem a_new (w : World) (d : Ln) (s : Sl) (h : Lists w d s) : A w d s (w.alloc (.cells #[.int .i64 d.ino, .int .i64 d.cl, .int .i64 d.un, .string d.rc, .slice s.a1 d.pg.length s.c1, .string d.sav, .slice s.a2 d.po.length s.c2, .slice s.a3 d.fr.length s.c3] 126)) :=
  ⟨lb_new d s w 126, h.alloc _, K0.below_new _ _⟩

/-- Beside it a copy of it, boxed. -/
structure U (w : World) (d : Ln) (s : Sl) (g1 g2 g3 B : Nat) (W : World) : Prop where
  t : A w d s W
  n : LB B d (at3 d g1 g2 g3) W
  cp : Cp w.heap.size d g1 g2 g3 W

theorem U.below (h : U w d s g1 g2 g3 B W) (hb : Below W.heap.size W W') : U w d s g1 g2 g3 B W' := ⟨h.t.below hb, h.n.below hb, h.cp.below hb⟩
theorem U.drew (h : U w d s g1 g2 g3 B W) : U w d s g1 g2 g3 B W.drew := h.below ((Below.refl _ _).drew)

theorem cp_mono {b b' : Nat} (h : Cp b d g1 g2 g3 W) (hb : b' ≤ b) : Cp b' d g1 g2 g3 W := ⟨Nat.le_trans hb h.h1, Nat.le_trans hb h.h2, Nat.le_trans hb h.h3, h.k1, h.k2, h.k3⟩

theorem u_new {b : Nat} (h : A w d s W) (hc : Cp b d g1 g2 g3 W) (hb : w.heap.size ≤ b) :
    U w d s g1 g2 g3 W.heap.size (W.alloc (.cells #[.int .i64 d.ino, .int .i64 d.cl, .int .i64 d.un, .string d.rc, .slice (at3 d g1 g2 g3).a1 d.pg.length (at3 d g1 g2 g3).c1, .string d.sav, .slice (at3 d g1 g2 g3).a2 d.po.length (at3 d g1 g2 g3).c2, .slice (at3 d g1 g2 g3).a3 d.fr.length (at3 d g1 g2 g3).c3] 26)) :=
  ⟨h.below (K0.below_new _ _), lb_new d (at3 d g1 g2 g3) W 26, (cp_mono hc hb).below (K0.below_new _ _)⟩

theorem sizes (h : N3.total d ≤ 1048576) : d.pg.length ≤ 1048576 ∧ d.po.length ≤ 1048576 ∧ d.fr.length ≤ 1048576 ∧ d.rc.size ≤ 1048576 ∧ d.sav.size ≤ 1048576 := by
  unfold N3.total at h
  omega

theorem fitc (h : N3.total d ≤ 1048576) : Fit d (at3 d g1 g2 g3) := by
  have := sizes h
  exact ⟨by omega, by omega, by omega⟩
end Go.Proofs.YtdljajjgppcjpaaGreat.N12

/- Contracts of chapter 2's small functions: a device measured, taken over, held against another, asked whether it is right. -/
namespace Go.Proofs.YtdljajjgppcjpaaGreat.D1
open Go.ChangeShapes Go.WideShapes Go.ChangeAt Go.RowKit
set_option linter.unusedVariables false

/-- What is left of 2^20 behind a device's texts; -1 where nothing is. -/
def sz (a b : ByteArray) : Int := if (a.size : Int) + b.size ≤ 1048576 then 1048576 - a.size - b.size else -1

theorem szDev (a b : ByteArray) (w : World) (ha : a.size ≤ maxLen) (hb : b.size ≤ maxLen) :
    Calls Tryz.prog 46 #[.agg #[.string a, .string b], .int .i64 1048576] w fun e w' => e = .returned (.int .i64 (sz a b)) ∧ Below w.heap.size w w' := by
  unfold maxLen at ha hb
  by_cases h1 : (a.size : Int) ≤ 1048576
  · by_cases h2 : (a.size : Int) + b.size ≤ 1048576
    · have e : sz a b = 1048576 - a.size - b.size := by simp [sz, h2]
      rw [e]
      go_enter Tryz.func46, Tryz.ntmps46
      go_wp2
      go_ret
      exact ⟨rfl, (Below.refl _ _).alloc (Nat.le_refl _) _⟩
    · have e : sz a b = -1 := by simp [sz, h2]
      rw [e]
      go_enter Tryz.func46, Tryz.ntmps46
      go_wp2
      go_ret
      exact ⟨rfl, (Below.refl _ _).alloc (Nat.le_refl _) _⟩
  · have e : sz a b = -1 := by
      have : ¬ ((a.size : Int) + b.size ≤ 1048576) := by omega
      simp [sz, this]
    rw [e]
    go_enter Tryz.func46, Tryz.ntmps46
    go_wp2
    go_ret
    exact ⟨rfl, (Below.refl _ _).alloc (Nat.le_refl _) _⟩

theorem toDev (a b : ByteArray) (w : World) :
    Calls Tryz.prog 57 #[.agg #[.string a, .string b]] w fun e w' => e = .returned (.agg #[.string a, .string b]) ∧ Below w.heap.size w w' := by
  go_enter Tryz.func57, Tryz.ntmps57
  go_wp2
  exact bodyPost_ret (v := .agg #[.string a, .string b]) (by simp [results, Tryz.results57, go_sem]) rfl ⟨rfl, (((Below.refl _ _).alloc (Nat.le_refl _) _).alloc (by simp) _).alloc (by simp; omega) _⟩

theorem eqDev (a b : ByteArray) (w : World) :
    Calls Tryz.prog 69 #[.agg #[.string a, .string b], .agg #[.string a, .string b]] w fun e w' => e = .returned (.bool true) ∧ Below w.heap.size w w' := by
  go_enter Tryz.func69, Tryz.ntmps69
  go_wp2
  go_ret
  exact ⟨rfl, ((Below.refl _ _).alloc (Nat.le_refl _) _).alloc (by simp) _⟩

/-- A device is right: 768 bytes each. -/
def ok (a b : ByteArray) : Bool := decide (a.size = 768) && decide (b.size = 768)

theorem ok_true {a b : ByteArray} (h : ok a b = true) : a.size = 768 ∧ b.size = 768 := by simpa [ok] using h
theorem ok_mk {a b : ByteArray} (h1 : a.size = 768) (h2 : b.size = 768) : ok a b = true := by simp [ok, h1, h2]

theorem impl_DevOk (a b : ByteArray) (w : World) (ha : a.size ≤ maxLen) (hb : b.size ≤ maxLen) :
    Calls Tryz.prog 60 #[.agg #[.string a, .string b]] w fun e w' => e = .returned (.bool (ok a b)) ∧ w' = w.alloc (.cells #[.string a, .string b] 48) := by
  unfold maxLen at ha hb
  by_cases h1 : (a.size : Int) = 768
  · by_cases h2 : (b.size : Int) = 768
    · have e : ok a b = true := ok_mk (by omega) (by omega)
      rw [e]
      go_enter Tryz.func60, Tryz.ntmps60
      go_wp2
      go_ret
      exact ⟨rfl, rfl⟩
    · have e : ok a b = false := by simp [ok]; omega
      have h2' : ((b.size : Int) == 768) = false := by simpa using h2
      rw [e]
      go_enter Tryz.func60, Tryz.ntmps60
      go_wp2
      go_ret
      exact ⟨rfl, rfl⟩
  · have e : ok a b = false := by simp [ok]; omega
    have h1' : ((a.size : Int) == 768) = false := by simpa using h1
    rw [e]
    go_enter Tryz.func60, Tryz.ntmps60
    go_wp2
    go_ret
    exact ⟨rfl, rfl⟩

theorem spec_DevOk (a b : ByteArray) (w : World) (ha : a.size ≤ maxLen) (hb : b.size ≤ maxLen) :
    Calls Tryz.prog 49 #[.agg #[.string a, .string b]] w fun e w' => e = .returned (.bool (ok a b)) ∧ w' = w.alloc (.cells #[.string a, .string b] 48) := by
  unfold maxLen at ha hb
  by_cases h1 : (a.size : Int) = 768
  · by_cases h2 : (b.size : Int) = 768
    · have e : ok a b = true := ok_mk (by omega) (by omega)
      rw [e]
      go_enter Tryz.func49, Tryz.ntmps49
      go_wp2
      go_ret
      exact ⟨rfl, rfl⟩
    · have e : ok a b = false := by simp [ok]; omega
      have h2' : ((b.size : Int) == 768) = false := by simpa using h2
      rw [e]
      go_enter Tryz.func49, Tryz.ntmps49
      go_wp2
      go_ret
      exact ⟨rfl, rfl⟩
  · have e : ok a b = false := by simp [ok]; omega
    have h1' : ((a.size : Int) == 768) = false := by simpa using h1
    rw [e]
    go_enter Tryz.func49, Tryz.ntmps49
    go_wp2
    go_ret
    exact ⟨rfl, rfl⟩
end Go.Proofs.YtdljajjgppcjpaaGreat.D1
