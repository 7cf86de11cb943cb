/- Joined texts: plain facts and contracts, as each part says. -/
import Derived.Lib.LaidTab
import Derived.WalkSmall
import Derived.ChangeVars
import Derived.Sort.Grow
import Derived.Test.YtnfcpcejfajcfaaDoorJeA
import Derived.Lib.Join
import Derived.Lib.ItoaNum
import Derived.Deep.Fields
import Derived.WalkKit
import Derived.Laws.IdiomStrings
import Derived.Laws.IdiomCopy
import Derived.Laws.MakeOwn
import Derived.Lib.BufferWrite
import Derived.Lib.Strings
import Derived.Below
import Derived.Deep.RegionHeld3
import Derived.Deep.RegionLaw
import Derived.Handy
import Derived.Laws.BitsLemmas
import Derived.Lib.ItoaLen
import Derived.Lib.ItoaMem
import Derived.Test.YtnfcpcejfajcfaaDoorRows
import Derived.ProofKit
import Derived.Lib.AppendStr
import Derived.Deep.AppendLies

/- From what a row lists of package variables to the tables that a walk reads, and that they are kept where only new memory is written. -/
namespace Go.Proofs.YtnfcpcejfajcfaaDoor.L0
open Go.RowKit Go.Sort

/-- A table that stands at some place of the list. -/
theorem tab_mem {P : Program} {W : World} {name : String} {k : IntKind} {zs : List Int} {g : Nat} {t e : TypeId} {n : Nat}
    (hg : P.globalNamed name = some g) (hty : (P.globals[g]?).map (·.type) = some t) (ht : P.underlying t = some (.array n e)) (he : P.underlying e = some (.int k)) (hce : P.cellsOf e = 1) (hct : P.cellsOf t = n) :
    ∀ (l : List (String × DataW Unit)) (ps : List MemPlace), DataW.LaidVars P W l ps → ∀ j : Nat, l[j]? = some (name, Lib.tabData k zs) → Lib.TabIs P W name k zs
  | [], _, _, j, hj => by simp at hj
  | (n0, d0) :: l, ps, h, 0, hj => by
    obtain ⟨g', t', cs, fuel, p, q, hg', ht', hvar, hd, _, _⟩ := h
    obtain ⟨rfl, rfl⟩ : n0 = name ∧ d0 = Lib.tabData k zs := by simpa using hj
    obtain rfl := Option.some.inj (hg.symm.trans hg')
    obtain rfl := Option.some.inj (hty.symm.trans ht')
    unfold Lib.TabIs
    rw [hvar, ← Lib.cells_of_tab ht he hce hct hd]
  | (n0, d0) :: l, ps, h, j + 1, hj => by
    obtain ⟨g', t', cs, fuel, p, q, _, _, _, _, hr, _⟩ := h
    exact tab_mem hg hty ht he hce hct l q hr j (by simpa using hj)

theorem vars_one {H : Type} {enc : TypeId × Value → H} {P : Program} {w : World} {sp : Nat → Bool} {n : String} {gs : List (DataW H)} {ps : List MemPlace} (h : DataW.TrodVars enc P w sp [n] gs ps) : ∃ g1, gs = [g1] := by
  match gs, h with
  | [g1], _ => exact ⟨g1, rfl⟩
  | [], h => exact h.elim
  | _ :: _ :: _, h =>
    obtain ⟨_, _, _, _, _, _, _, _, _, _, h2, _⟩ := h
    exact h2.elim

/-- A table is there still where only new memory was written. -/
theorem tab_below {P : Program} {W W' : World} {name : String} {k : IntKind} {zs : List Int} (h : Lib.TabIs P W name k zs) (hb : Below W.heap.size W W') : Lib.TabIs P W' name k zs := by
  unfold Lib.TabIs at h ⊢
  obtain ⟨g, hg⟩ : ∃ g, P.globalNamed name = some g := by
    unfold World.var? at h
    cases hq : P.globalNamed name with
    | none => simp [hq] at h
    | some g => exact ⟨g, rfl⟩
  refine var?_below hb hg ?_ h
  unfold World.var? at h
  simp only [hg, Option.bind_some] at h
  cases hq : W.heap[g]? with
  | none => simp [hq] at h
  | some o => exact (Array.getElem?_eq_some_iff.1 hq).1

theorem below_grow {W : World} (k : Nat) (os : Array Obj) : Below W.heap.size W (grow (W.drewN k) os) := by
  refine ⟨rfl, rfl, rfl, ?_, fun j hj => ?_⟩
  · show W.heap.size ≤ (W.heap ++ os).size
    simp
  · show (W.heap ++ os)[j]? = W.heap[j]?
    exact Array.getElem?_append_left hj
end Go.Proofs.YtnfcpcejfajcfaaDoor.L0

/- Events: plain facts on their texts; an event among a law's arguments; a table of texts; contracts of the laws' own functions over events. -/
namespace Go.Proofs.YtnfcpcejfajcfaaDoor.EV
open Go.ChangeShapes Go.WideShapes Go.ChangeAt Go.RowKit Go.Joins Go.Deep
set_option linter.unusedVariables false
set_option linter.unusedSimpArgs false
set_option maxRecDepth 10000

/-- An event's numbers, its text, its list. -/
structure Ev where
  kd : Int
  cl : Int
  ino : Int
  at_ : Int
  tx : ByteArray
  kp : List Int

abbrev val (d : Ev) (a : Option Addr) (c : Nat) : Value := .agg #[.int .i64 d.kd, .int .i64 d.cl, .int .i64 d.ino, .int .i64 d.at_, .string d.tx, .slice a d.kp.length c]
abbrev vals (d : Ev) (a : Option Addr) (c : Nat) : List Value := [.int .i64 d.kd, .int .i64 d.cl, .int .i64 d.ino, .int .i64 d.at_, .string d.tx, .slice a d.kp.length c]

/-- The numbers fit. -/
structure Fit (d : Ev) : Prop where
  f0 : (Lit.int .i64 d.kd).wf = true
  f1 : (Lit.int .i64 d.cl).wf = true
  f2 : (Lit.int .i64 d.ino).wf = true
  f3 : (Lit.int .i64 d.at_).wf = true
  fk : ∀ z ∈ d.kp, (Lit.int .i64 z).wf = true
  lt : d.tx.size ≤ maxLen
  lk : d.kp.length ≤ maxLen

/-- A number's text. -/
def dt (n : Int) : ByteArray := ⟨(Lib.itoa n).toArray⟩
/-- Bytes as digits, or a hyphen. -/
def hx (s : ByteArray) : ByteArray := if s.size = 0 then ⟨#[45]⟩ else H1.hex s

/-- A word, and parts behind it, with a blank ahead of each. -/
def glue (w : ByteArray) (ps : List ByteArray) : ByteArray := ⟨(Lib.join ((w :: ps).map (·.data.toList)) [32]).toArray⟩

theorem tail_snoc (sep : List UInt8) : ∀ (r : List (List UInt8)) (p : List UInt8), Lib.joinTail sep (r ++ [p]) = Lib.joinTail sep r ++ sep ++ p := by
  intro r p
  have h := Lib.joinTail_take_succ sep (r ++ [p]) r.length p (by simp)
  rw [List.take_of_length_le (by simp), List.take_left' rfl] at h
  exact h

theorem tail_nil (sep : List UInt8) : Lib.joinTail sep [] = [] := by
  have h := Lib.joinTail_length sep []
  exact List.eq_nil_of_length_eq_zero (by simpa [Lib.lens] using h)

theorem glue_nil (w : ByteArray) : glue w [] = w := by
  unfold glue
  rw [List.map_cons, List.map_nil, Lib.join_one, Lib.mk_data]

theorem glue_snoc (w : ByteArray) (ps : List ByteArray) (p : ByteArray) : glue w (ps ++ [p]) = glue w ps ++ ⟨#[32]⟩ ++ p := by
  unfold glue
  rw [List.map_cons, List.map_append, List.map_cons, List.map_nil, Lib.join_cons, tail_snoc, List.map_cons, Lib.join_cons]
  apply ByteArray.ext
  simp [ByteArray.data_append]

theorem glue1 (w p : ByteArray) : glue w [p] = w ++ ⟨#[32]⟩ ++ p := by
  have h := glue_snoc w [] p
  rwa [List.nil_append, glue_nil] at h
theorem glue2 (w p q : ByteArray) : glue w [p, q] = w ++ ⟨#[32]⟩ ++ p ++ ⟨#[32]⟩ ++ q := by
  have h := glue_snoc w [p] q
  rwa [glue1] at h
theorem glue3 (w p q r : ByteArray) : glue w [p, q, r] = w ++ ⟨#[32]⟩ ++ p ++ ⟨#[32]⟩ ++ q ++ ⟨#[32]⟩ ++ r := by
  have h := glue_snoc w [p, q] r
  rwa [glue2] at h
theorem glue4 (w p q r s : ByteArray) : glue w [p, q, r, s] = w ++ ⟨#[32]⟩ ++ p ++ ⟨#[32]⟩ ++ q ++ ⟨#[32]⟩ ++ r ++ ⟨#[32]⟩ ++ s := by
  have h := glue_snoc w [p, q, r] s
  rwa [glue3] at h

/-- The words of the kinds. -/
def words : List ByteArray := [⟨#[108, 101, 110, 100]⟩, ⟨#[116, 111, 117, 99, 104]⟩, ⟨#[108, 97, 115, 116]⟩, ⟨#[98, 97, 99, 107]⟩, ⟨#[116, 105, 99, 107]⟩, ⟨#[112, 111, 119, 101, 114]⟩, ⟨#[102, 105, 108, 101]⟩, ⟨#[109, 97, 107, 101]⟩, ⟨#[114, 101, 109, 111, 118, 101]⟩, ⟨#[102, 105, 108, 108]⟩]

/-- What stands behind the word. -/
def parts (d : Ev) : List ByteArray :=
  if d.kd = 0 then [dt d.cl, dt d.ino, dt d.at_] else
  if d.kd = 1 then [dt d.cl, dt d.at_, hx d.tx] else
  if d.kd = 2 then [dt d.cl, dt d.at_, dt d.tx.size] else
  if d.kd = 3 then [dt d.cl, dt d.ino] else
  if d.kd = 5 then d.kp.map dt else
  if d.kd = 6 then [dt d.cl, dt d.ino, hx d.tx] else
  if d.kd = 7 then [dt d.cl, dt d.ino, dt d.at_, d.tx] else
  if d.kd = 8 then [dt d.cl, dt d.ino, d.tx] else
  if d.kd = 9 then [dt d.cl, dt d.ino, dt d.at_, hx d.tx] else []

/-- An event's text. -/
def text (d : Ev) : ByteArray := if 0 ≤ d.kd ∧ d.kd ≤ 9 then glue (words.getD d.kd.toNat ⟨#[]⟩) (parts d) else ⟨#[]⟩

/-- A package variable that is an array of texts. -/
def StrTab (P : Program) (w : World) (name : String) (ss : List ByteArray) : Prop := w.var? P name = some (ss.map Value.string).toArray

theorem strtab_below {P : Program} {W W' : World} {name : String} {ss : List ByteArray} (h : StrTab P W name ss) (hb : Below W.heap.size W W') : StrTab P W' name ss := by
  unfold StrTab at h ⊢
  obtain ⟨g, hg⟩ : ∃ g, P.globalNamed name = some g := by
    unfold World.var? at h
    cases hq : P.globalNamed name with
    | none => simp [hq] at h
    | some g => exact ⟨g, rfl⟩
  refine var?_below hb hg ?_ h
  unfold World.var? at h
  simp only [hg, Option.bind_some] at h
  cases hq : W.heap[g]? with
  | none => simp [hq] at h
  | some o => exact (Array.getElem?_eq_some_iff.1 hq).1

theorem StrTab.cell {P : Program} {W : World} {name : String} {ss : List ByteArray} {g : Nat} (h : StrTab P W name ss) (hg : P.globalNamed name = some g) (i : Nat) (hi : i < ss.length) :
    W.cell? ⟨g, i, none⟩ = some (.string (ss.getD i ⟨#[]⟩)) := by
  have := World.var?_cell hg h i
  simpa [List.getD, hi] using this

/-- An array of texts that reads as a list of texts holds them, cell for cell. -/
theorem cells_of_strtab {H : Type} {enc : TypeId × Value → H} {P : Program} {w : World} {base : Nat} {sp : Nat → Bool} {held : Bool} {fuel : Nat} {t e : TypeId} {n : Nat} {cs : List Value} {zs : List (List UInt8)} {p : List MemPlace}
    (ht : P.underlying t = some (.array n e)) (he : P.underlying e = some .string) (hce : P.cellsOf e = 1) (hct : P.cellsOf t = n)
    (h : DataW.trod enc P w base sp held fuel t cs = some (.agg (zs.map fun z => .lit (.string z)), p)) : cs = zs.map fun z => Value.string ⟨z.toArray⟩ := by
  cases fuel with
  | zero => simp [DataW.trod] at h
  | succ fuel =>
    simp only [DataW.trod, ht, hce, hct, Nat.mul_one] at h
    split at h
    · rename_i hl
      obtain ⟨xs, hm, hx⟩ := Option.map_eq_some_iff.1 h
      have hxs : xs.map (·.1) = zs.map fun z => (DataW.lit (.string z) : DataW H) := by
        have := congrArg Prod.fst hx
        simpa using this
      have hxl : xs.length = n := by simpa using Lib.mapM_length hm
      have hzl : zs.length = n := by
        have := congrArg List.length hxs
        simp at this
        omega
      apply List.ext_getElem?
      intro i
      by_cases hi : i < n
      · obtain ⟨b, hb, hf⟩ := Lib.mapM_at hm i i (by simp [hi])
        obtain ⟨z, hc, rfl, _⟩ := DataW.trod_string he hf
        have h1 : cs[i]? = some (.string z) := by
          have := congrArg (·[0]?) hc
          simpa [List.getElem?_take, List.getElem?_drop] using this
        have h2 : (xs.map (·.1))[i]? = some (DataW.lit (.string z.data.toList) : DataW H) := by simp [hb]
        rw [hxs] at h2
        simp only [List.getElem?_map, Option.map_eq_some_iff, DataW.lit.injEq, Lit.string.injEq] at h2
        obtain ⟨z', hz', hzz⟩ := h2
        rw [h1, List.getElem?_map, hz', Option.map_some, hzz]
      · rw [List.getElem?_eq_none (by omega), List.getElem?_eq_none (by simp; omega)]
    · cases h

/-- .. where it stands at some place of what a row lists. -/
theorem strtab_mem {P : Program} {W : World} {name : String} {zs : List (List UInt8)} {g : Nat} {t e : TypeId} {n : Nat}
    (hg : P.globalNamed name = some g) (hty : (P.globals[g]?).map (·.type) = some t) (ht : P.underlying t = some (.array n e)) (he : P.underlying e = some .string) (hce : P.cellsOf e = 1) (hct : P.cellsOf t = n) :
    ∀ (l : List (String × DataW Unit)) (ps : List MemPlace), DataW.LaidVars P W l ps → ∀ j : Nat, l[j]? = some (name, .agg (zs.map fun z => .lit (.string z))) → StrTab P W name (zs.map fun z => ⟨z.toArray⟩)
  | [], _, _, j, hj => by simp at hj
  | (n0, d0) :: l, ps, h, 0, hj => by
    obtain ⟨g', t', cs, fuel, p, q, hg', ht', hvar, hd, _, _⟩ := h
    obtain ⟨rfl, rfl⟩ : n0 = name ∧ d0 = .agg (zs.map fun z => .lit (.string z)) := by simpa using hj
    obtain rfl := Option.some.inj (hg.symm.trans hg')
    obtain rfl := Option.some.inj (hty.symm.trans ht')
    have hc := cells_of_strtab ht he hce hct hd
    unfold StrTab
    rw [hvar]
    congr 1
    apply Array.toList_inj.1
    rw [hc]
    simp
  | (n0, d0) :: l, ps, h, j + 1, hj => by
    obtain ⟨g', t', cs, fuel, p, q, _, _, _, _, hr, _⟩ := h
    exact strtab_mem hg hty ht he hce hct l q hr j (by simpa using hj)

theorem vars_two {H : Type} {enc : TypeId × Value → H} {P : Program} {w : World} {sp : Nat → Bool} {n m : String} {gs : List (DataW H)} {ps : List MemPlace} (h : DataW.TrodVars enc P w sp [n, m] gs ps) : ∃ g1 g2, gs = [g1, g2] := by
  match gs, h with
  | [], h => exact h.elim
  | g1 :: r, h =>
    obtain ⟨_, _, _, _, _, q, _, _, _, _, h2, _⟩ := h
    obtain ⟨g2, rfl⟩ := L0.vars_one h2
    exact ⟨g1, g2, rfl⟩

section Args
variable {H : Type} {enc : TypeId × Value → H} {w : World}

theorem array6 {α : Type} {cs : Array α} (h : cs.size = 6) : ∃ x0 x1 x2 x3 x4 x5, cs = #[x0, x1, x2, x3, x4, x5] := by
  obtain ⟨l⟩ := cs
  match l, h with
  | [x0, x1, x2, x3, x4, x5], _ => exact ⟨x0, x1, x2, x3, x4, x5, rfl⟩

theorem open_any {r : Reach} {b0 : Nat} {t : TypeId} {fs : Array Field} {v : Value} {x : DataW H} {p : List MemPlace} (hs : Tryd.prog.underlying t = some (.struct fs)) (hone : oneCellFields Tryd.prog fs = true) (hC : Tryd.prog.cellsOf t = fs.size)
    (hv : Value.okWide Tryd.prog w r b0 t v) (h : DataW.Trod enc Tryd.prog w 0 (fun _ => true) true t v x p) :
    ∃ (cs : Array Value) (n : Nat), v = .agg cs ∧ cs.size = fs.size ∧ ∀ (i : Nat) (f : Field) (c : Value), fs[i]? = some f → cs[i]? = some c → ∃ y, DataW.trod enc Tryd.prog w 0 (fun _ => true) true n f.type [c] = some y := by
  obtain ⟨cs, rfl, hsz⟩ := okWide_struct hs hv
  obtain ⟨fuel, hf⟩ := h
  obtain ⟨xs, n, _, _, _, hlen, hall⟩ := DataW.trod_struct hs hf
  refine ⟨cs, n, rfl, hsz.trans hC, fun i f c hi hc => ?_⟩
  obtain ⟨o, k⟩ := hone_of hone i f hi
  have hlt : i < fs.size := (Array.getElem?_eq_some_iff.1 hi).1
  have h1 := hall i f hi
  rw [o, k, List.getElem?_eq_getElem (by omega)] at h1
  have hci : i < cs.toList.length := by rw [Array.length_toList]; omega
  have e : ((Value.agg cs).cells.toList.drop i).take 1 = [c] := by
    show (cs.toList.drop i).take 1 = [c]
    rw [List.drop_eq_getElem_cons hci]
    have : cs.toList[i] = c := by
      rw [← Array.getElem?_toList, List.getElem?_eq_getElem hci] at hc
      exact Option.some.inj hc
    rw [this]
    rfl
  rw [e] at h1
  exact ⟨_, h1⟩

theorem open_row {fuel : Nat} {v : Value} {x : DataW H × List MemPlace} (h : DataW.trod enc Tryd.prog w 0 (fun _ => true) true fuel 22 [v] = some x) :
    ∃ (a : Option Addr) (c : Nat) (zs : List Int), v = .slice a zs.length c ∧ zs.length ≤ c ∧ c ≤ maxLen ∧ P0.Row w a zs ∧ ∀ z ∈ zs, (Lit.int .i64 z).wf = true := by
  rcases open_ints Tryd.underlying22 Tryd.underlying3 (by kernel_rfl) h with ⟨hcs, _⟩ | ⟨a, len, cap, zs, hcs, _, hl, hm, hz, _, hcell, hwf⟩
  · simp at hcs
    exact ⟨none, 0, [], hcs, Nat.le_refl _, Nat.zero_le _, Or.inl rfl, fun z hz => by cases hz⟩
  · simp at hcs hz
    have hlen : (zs.take len).length = len := by simp; omega
    by_cases h0 : zs.length = 0
    · have hl0 : len = 0 := by omega
      refine ⟨some a, cap, [], ?_, Nat.zero_le _, hm, Or.inl rfl, fun z hz => by cases hz⟩
      rw [hcs, hl0]
      rfl
    · obtain ⟨b, off, rfl, hc⟩ := ints_at hcell (by omega)
      have hb : b < w.heap.size := I2.cell_lt (hc 0 (by omega))
      exact ⟨some ⟨b, off, none⟩, cap, zs.take len, by rw [hcs, hlen], by omega, hm, I2.take_row hb (by omega) hc, fun z hz => hwf z (List.mem_of_mem_take hz)⟩

theorem cells : Tryd.prog.cellsOf 24 = 6 := by kernel_rfl

theorem open_event {r : Reach} {b0 : Nat} {v : Value} {x : DataW H} {p : List MemPlace} (hv : Value.okWide Tryd.prog w r b0 24 v) (h : DataW.Trod enc Tryd.prog w 0 (fun _ => true) true 24 v x p) :
    ∃ (d : Ev) (a : Option Addr) (c : Nat), v = val d a c ∧ Fit d ∧ P0.Row w a d.kp := by
  obtain ⟨cs, n, rfl, hsz, hf⟩ := open_any Tryd.underlying24 (by kernel_rfl) cells hv h
  obtain ⟨x0, x1, x2, x3, x4, x5, rfl⟩ := array6 hsz
  obtain ⟨y0, h0⟩ := hf 0 _ x0 rfl rfl
  obtain ⟨y1, h1⟩ := hf 1 _ x1 rfl rfl
  obtain ⟨y2, h2⟩ := hf 2 _ x2 rfl rfl
  obtain ⟨y3, h3⟩ := hf 3 _ x3 rfl rfl
  obtain ⟨y4, h4⟩ := hf 4 _ x4 rfl rfl
  obtain ⟨y5, h5⟩ := hf 5 _ x5 rfl rfl
  obtain ⟨kd, e0, _, w0⟩ := DataW.trod_int Tryd.underlying3 h0
  obtain ⟨cl, e1, _, w1⟩ := DataW.trod_int Tryd.underlying3 h1
  obtain ⟨ino, e2, _, w2⟩ := DataW.trod_int Tryd.underlying3 h2
  obtain ⟨at_, e3, _, w3⟩ := DataW.trod_int Tryd.underlying3 h3
  obtain ⟨tx, e4, _, w4⟩ := DataW.trod_string Tryd.underlying9 h4
  obtain ⟨a, c, kp, rfl, p1, p2, R, w5⟩ := open_row h5
  simp at e0 e1 e2 e3 e4
  subst e0 e1 e2 e3 e4
  exact ⟨⟨kd, cl, ino, at_, tx, kp⟩, a, c, rfl, ⟨w0, w1, w2, w3, w5, w4, Nat.le_trans p1 p2⟩, R⟩
end Args
end Go.Proofs.YtnfcpcejfajcfaaDoor.EV

/- Small facts on bytes in new memory, over any program: a slice of bytes turned into a string, a string turned into a slice, a string copied into a slice. -/
namespace Go.Proofs.YtnfcpcejfajcfaaDoor.B0
open Go.RowKit
set_option linter.unusedVariables false
variable {P : Program}

theorem add_off (b o j : Nat) : (⟨b, o, none⟩ : Addr).add j = ⟨b, o + j, none⟩ := by unfold Addr.add; split <;> simp_all

/-- The cells of a block from a place on hold these bytes. -/
def Holds (w : World) (b o : Nat) (l : List UInt8) : Prop := ∀ j (hj : j < l.length), w.cell? ⟨b, o + j, none⟩ = some (.int .u8 (l[j].toNat : Int))

theorem conv_back (w : World) (src dst e : TypeId) (b o cap : Nat) (l : List UInt8) (hs : P.underlying src = some (.slice e)) (he : P.underlying e = some (.int .u8)) (hd : P.underlying dst = some .string)
    (h : Holds w b o l) (n : Nat) (hn : n = l.length) : (convert src dst (.slice (some ⟨b, o, none⟩) n cap)).run P w = .ok (.string ⟨l.toArray⟩) w := by
  subst hn
  exact run_convert_bytes_back w src dst e ⟨b, o, none⟩ cap l hs he hd (fun j hj => by rw [add_off]; exact h j hj)

theorem holds_new (w : World) (C : Array Value) (T : TypeId) (fr : Nat × Nat) (l : List UInt8) (h : ∀ j (hj : j < l.length), C[j]? = some (.int .u8 (l[j].toNat : Int))) :
    Holds (w.alloc (.cells C T fr)) w.heap.size 0 l := fun j hj => by
  rw [Nat.zero_add, World.cell?_alloc_mark]
  exact h j hj

/-- '[]byte(s)'. -/
theorem conv_to (w : World) (src dst e : TypeId) (s : ByteArray) (hs : P.underlying src = some .string) (hd : P.underlying dst = some (.slice e)) (he : P.underlying e = some (.int .u8)) :
    ∃ W cap, (convert src dst (.string s)).run P w = .ok (.slice (some ⟨w.heap.size, 0, none⟩) s.size cap) W ∧ s.size ≤ cap ∧ Below w.heap.size w W ∧ w.heap.size < W.heap.size ∧ Holds W w.heap.size 0 s.data.toList ∧ ∀ j, j < s.size → W.frozen? ⟨w.heap.size, j, none⟩ = false := by
  have hc : s.size ≤ grownCap w s.size 0 e := grownCap_ge w s.size 0 e
  refine ⟨_, _, run_bytes_of_string w src dst e s hs hd he, hc, ?_, ?_, ?_, ?_⟩
  · exact (Below.refl _ w).drew.alloc (Nat.le_refl _) _
  · show w.heap.size < (w.heap.push _).size
    simp
  · refine holds_new w.drew _ _ _ _ fun j hj => ?_
    have hj' : j < s.data.size := by simpa using hj
    rw [bytesRow_at s _ j hj']
    simp
  · intro j hj
    have := World.frozen?_alloc_mark w.drew (bytesRow s (grownCap w s.size 0 e)) e (bytesRow s (grownCap w s.size 0 e)).size ((bytesRow s (grownCap w s.size 0 e)).size + 1) j
    refine this.trans ?_
    have hb : s.size ≤ (bytesRow s (grownCap w s.size 0 e)).size := by
      have : s.data.size = s.size := rfl
      simp [bytesRow]
    have : ¬ (bytesRow s (grownCap w s.size 0 e)).size ≤ j := by omega
    simp [this]

theorem below_setCells {B b : Nat} {a : World} (hb : B ≤ b) : ∀ (vs : List Value) (o : Nat) (w : World), Below B a w → Below B a (w.setCells b o vs)
  | [], _, _, h => h
  | v :: r, o, w, h => below_setCells hb r (o + 1) _ (h.setCell (by simpa using hb) v)

theorem size_setCells (b : Nat) : ∀ (vs : List Value) (o : Nat) (w : World), (w.setCells b o vs).heap.size = w.heap.size
  | [], _, _ => rfl
  | v :: r, o, w => by rw [World.setCells, size_setCells b r]; simp

theorem isSome_setCells (b : Nat) : ∀ (vs : List Value) (o : Nat) (w : World) (x : Addr), (w.cell? x).isSome = true → ((w.setCells b o vs).cell? x).isSome = true
  | [], _, _, _, h => h
  | v :: r, o, w, x, h => by
    rw [World.setCells]
    refine isSome_setCells b r (o + 1) _ x ?_
    by_cases e : (⟨b, o, none⟩ : Addr) = x
    · subst e
      obtain ⟨u, hu⟩ := Option.isSome_iff_exists.1 h
      rw [World.cell?_setCell_same _ _ _ hu]
      rfl
    · rw [World.cell?_setCell_other _ _ _ _ e]
      exact h

/-- 'copy(b, t)', t a string that fits. -/
theorem copy_str (w : World) (dT sT ty elem : TypeId) (b o dLen dCap : Nat) (t : ByteArray) (hu : P.underlying dT = some (.slice elem)) (hs : (P.info? elem).map (·.size) = some 1) (hle : t.size ≤ dLen)
    (hc : ∀ j, j < t.size → (w.cell? ⟨b, o + j, none⟩).isSome = true) (hf : ∀ j, j < t.size → w.frozen? ⟨b, o + j, none⟩ = false) :
    (Builtin.copy_ #[dT, sT] ty #[.slice (some ⟨b, o, none⟩) dLen dCap, .string t]).run P w = .ok (goInt t.size) (w.setCells b o (Lib.byteCells t.data.toList)) := by
  have hlen : (Lib.byteCells t.data.toList).length = t.size := by rw [Lib.byteCells_length, ← Lib.size_eq]
  have hst := run_storeCells_cells (P := P) b o (Lib.byteCells t.data.toList) 0 w (by rw [hlen]; simpa using hc) (by rw [hlen]; simpa using hf) (Lib.byteCells_one _)
  have hmin : Nat.min t.size dLen = t.size := Nat.min_eq_left hle
  have htk : List.take t.size (List.map (fun b : UInt8 => Value.int IntKind.u8 (b.toNat : Int)) t.data.toList) = Lib.byteCells t.data.toList := by
    rw [List.take_of_length_le (by rw [List.length_map, ← Lib.size_eq]; exact Nat.le_refl _)]
    rfl
  cases hq : P.info? elem with
  | none => simp [hq] at hs
  | some i =>
    simp [Builtin.copy_, run_underlying hu, Builtin.lenOf, Builtin.firstCells, sizeOf, typeInfo, hq, hmin, htk, hst]

theorem holds_with (W : World) (b : Nat) (s t : List UInt8) (k : Nat) (hk : k + t.length ≤ s.length) (h : Holds W b 0 s) :
    Holds (W.setCells b k (Lib.byteCells t)) b 0 (s.take k ++ t ++ s.drop (k + t.length)) := by
  have hl : (Lib.byteCells t).length = t.length := Lib.byteCells_length t
  have hin : ∀ j, j < (Lib.byteCells t).length → (W.cell? ⟨b, k + j, none⟩).isSome = true := fun j hj => by
    have := h (k + j) (by omega)
    rw [Nat.zero_add] at this
    rw [this]
    rfl
  intro j hj
  have hj' : j < s.length := by simp at hj; omega
  rw [Nat.zero_add]
  by_cases h1 : j < k
  · rw [World.cell?_setCells_out b _ k W _ (fun _ _ => Or.inl h1)]
    have := h j hj'
    rw [Nat.zero_add] at this
    rw [this, List.getElem_append_left (by simp; omega), List.getElem_append_left (by simp; omega), List.getElem_take]
  · by_cases h2 : j < k + t.length
    · have := World.cell?_setCells_in b (Lib.byteCells t) k W hin (j - k) (by omega)
      rw [show k + (j - k) = j by omega] at this
      rw [this, List.getElem_append_left (by simp; omega), List.getElem_append_right (by simp; omega)]
      have hm : min k s.length = k := by omega
      simp [Lib.byteCells, hm]
    · rw [World.cell?_setCells_out b _ k W _ (fun _ _ => Or.inr (by rw [hl]; show k + t.length ≤ j; omega))]
      have := h j hj'
      rw [Nat.zero_add] at this
      have e : k + t.length + (j - (s.take k ++ t).length) = j := by rw [List.length_append, List.length_take]; omega
      rw [this, List.getElem_append_right (by simp; omega), List.getElem_drop]
      simp only [e]
end Go.Proofs.YtnfcpcejfajcfaaDoor.B0

/- The contract of impl.Hex, as the given laws call it. -/
namespace Go.Proofs.YtnfcpcejfajcfaaDoor.H1
open Go.ChangeShapes Go.WideShapes Go.ChangeAt Go.RowKit
set_option linter.unusedVariables false

/-- The table of digits. -/
abbrev tab : List Int := [48, 49, 50, 51, 52, 53, 54, 55, 56, 57, 97, 98, 99, 100, 101, 102]

theorem tab_hd (d : Nat) (h : d < 16) : tab.getD d 0 = ((H0.hd d).toNat : Int) := by
  have : ∀ d : Fin 16, tab.getD d.val 0 = ((H0.hd d.val).toNat : Int) := by decide
  exact this ⟨d, h⟩

theorem gTab : Tryd.prog.globalNamed "loop.example/g00278/impl.hexDigits" = some 1 := by kernel_rfl
theorem info8 : (Tryd.prog.info? 5).map (fun i => (i.zero, i.size, i.bytes)) = some (some (.int .u8 0), 1, 1) := by kernel_rfl

/-- What the slice that is appended to holds when k bytes are done. -/
def Own (w w' : World) (s : ByteArray) (k : Nat) : Prop :=
  Below w.heap.size w w' ∧ w.heap.size < w'.heap.size ∧ B0.Holds w' w.heap.size 0 (H0.hexL (s.data.toList.take k)) ∧
    ∀ j, j < 2 * s.size → (w'.cell? ⟨w.heap.size, j, none⟩).isSome = true ∧ w'.frozen? ⟨w.heap.size, j, none⟩ = false

theorem own_start (w : World) (M : Array Value) (s : ByteArray) (hM : M.size = 2 * s.size) : Own w (w.alloc (.cells M 5)) s 0 := by
  refine ⟨(Below.refl _ _).alloc (Nat.le_refl _) _, ?_, fun j hj => by simp [H0.hexL] at hj, fun j hj => ⟨?_, ?_⟩⟩
  · show w.heap.size < (w.heap.push _).size
    simp
  · rw [World.cell?_alloc_mark, Array.getElem?_eq_getElem (by omega)]
    rfl
  · have := World.frozen?_alloc_mark w M 5 0 0 j
    rw [this]
    simp

theorem own_end (w w' : World) (s : ByteArray) (h : Own w w' s s.size) :
    (convert 41 9 (.slice (some ⟨w.heap.size, 0, none⟩) (2 * s.size) (2 * s.size))).run Tryd.prog w' = .ok (.string (hex s)) w' := by
  have := B0.conv_back (P := Tryd.prog) w' 41 9 5 w.heap.size 0 (2 * s.size) _ Tryd.underlying41 Tryd.underlying5 Tryd.underlying9 h.2.2.1 (2 * s.size) (H0.take_len s s.size (Nat.le_refl _)).symm
  rw [H0.take_all] at this
  exact this

theorem new_cells (wr : World) (x y : Int) : ∀ j u, [Value.int .u8 x, Value.int .u8 y][j]? = some u → ((wr.alloc (.cells #[Value.int .u8 x, Value.int .u8 y] 5)).drew).cell? ((⟨wr.heap.size, 0, none⟩ : Addr).add j) = some u := by
  intro j u h
  show (wr.alloc (.cells #[Value.int .u8 x, Value.int .u8 y] 5)).cell? _ = _
  rw [B0.add_off, Nat.zero_add, World.cell?_alloc_mark]
  simpa using h

theorem new_one (x y : Int) : ∀ u ∈ [Value.int .u8 x, Value.int .u8 y], u.oneCell' = true := by
  intro u h
  simp at h
  rcases h with rfl | rfl <;> rfl

theorem spare_cells {w wr : World} {s : ByteArray} {k : Nat} (h : Own w wr s k) (hlt : k < s.size) (x y : Int) : ∀ j, j < [Value.int .u8 x, Value.int .u8 y].length →
    (((wr.alloc (.cells #[Value.int .u8 x, Value.int .u8 y] 5)).drew).cell? ⟨w.heap.size, 0 + 2 * k * 1 + j, none⟩).isSome = true ∧ ((wr.alloc (.cells #[Value.int .u8 x, Value.int .u8 y] 5)).drew).frozen? ⟨w.heap.size, 0 + 2 * k * 1 + j, none⟩ = false := by
  intro j hj
  have hj' : j < 2 := hj
  have hb : Below wr.heap.size wr (wr.alloc (.cells #[Value.int .u8 x, Value.int .u8 y] 5)) := (Below.refl _ _).alloc (Nat.le_refl _) _
  have := h.2.2.2 (0 + 2 * k * 1 + j) (by omega)
  exact ⟨(congrArg Option.isSome (hb.cell (p := ⟨w.heap.size, 0 + 2 * k * 1 + j, none⟩) h.2.1)).trans this.1, (hb.frozen (p := ⟨w.heap.size, 0 + 2 * k * 1 + j, none⟩) h.2.1).trans this.2⟩

theorem own_step {w wr : World} {s : ByteArray} {k : Nat} (h : Own w wr s k) (hlt : k < s.size) :
    Own w (((wr.alloc (.cells #[Value.int .u8 ((H0.hd (s[k].toNat / 16)).toNat : Int), Value.int .u8 ((H0.hd (s[k].toNat % 16)).toNat : Int)] 5)).drew).setCells w.heap.size (2 * k) [Value.int .u8 ((H0.hd (s[k].toNat / 16)).toNat : Int), Value.int .u8 ((H0.hd (s[k].toNat % 16)).toNat : Int)]) s (k + 1) := by
  obtain ⟨hb, hz, hH, hS⟩ := h
  have hL := H0.take_len s k (by omega)
  generalize hV : (((wr.alloc (.cells #[Value.int .u8 ((H0.hd (s[k].toNat / 16)).toNat : Int), Value.int .u8 ((H0.hd (s[k].toNat % 16)).toNat : Int)] 5)).drew)) = V
  have hV1 : Below wr.heap.size wr V := by rw [← hV]; exact ((Below.refl _ _).alloc (Nat.le_refl _) _).drew
  have hVc : ∀ j, V.cell? ⟨w.heap.size, j, none⟩ = wr.cell? ⟨w.heap.size, j, none⟩ := fun j => hV1.cell (p := ⟨w.heap.size, j, none⟩) hz
  have hVf : ∀ j, V.frozen? ⟨w.heap.size, j, none⟩ = wr.frozen? ⟨w.heap.size, j, none⟩ := fun j => hV1.frozen (p := ⟨w.heap.size, j, none⟩) hz
  have hin : ∀ j, j < 2 → (V.cell? ⟨w.heap.size, 2 * k + j, none⟩).isSome = true := fun j hj => by rw [hVc]; exact (hS _ (by omega)).1
  refine ⟨?_, ?_, ?_, ?_⟩
  · exact B0.below_setCells (Nat.le_refl _) _ _ _ (hb.trans (hV1.mono hb.size))
  · rw [B0.size_setCells]
    have := hV1.size
    omega
  · rw [H0.take_snoc s k hlt, H0.hexL_snoc]
    intro j hj
    have hj' : j < 2 * k + 2 := by simp [hL] at hj; omega
    rw [Nat.zero_add]
    by_cases h1 : j < 2 * k
    · rw [World.cell?_setCells_out _ _ _ _ _ (fun _ _ => Or.inl h1), hVc]
      have := hH j (by omega)
      rw [Nat.zero_add] at this
      rw [this, List.getElem_append_left (by omega)]
    · have := World.cell?_setCells_in w.heap.size [Value.int .u8 ((H0.hd (s[k].toNat / 16)).toNat : Int), Value.int .u8 ((H0.hd (s[k].toNat % 16)).toNat : Int)] (2 * k) V hin (j - 2 * k) (by show _ < 2; omega)
      rw [show 2 * k + (j - 2 * k) = j by omega] at this
      rw [this, List.getElem_append_right (by omega)]
      have : j = 2 * k ∨ j = 2 * k + 1 := by omega
      rcases this with rfl | rfl
      · simp [hL]
      · simp [hL]
  · intro j hj
    refine ⟨B0.isSome_setCells _ _ _ _ _ (by rw [hVc]; exact (hS j hj).1), ?_⟩
    rw [World.frozen?_setCells, hVf]
    exact (hS j hj).2

set_option maxHeartbeats 2000000 in
theorem impl_Hex (s : ByteArray) (w : World) (hs : s.size ≤ 70368744177664) (htab : Lib.TabIs Tryd.prog w "loop.example/g00278/impl.hexDigits" .u8 tab) :
    Calls Tryd.prog 26 #[.string s] w fun e w' => e = .returned (.string (hex s)) ∧ Below w.heap.size w w' := by
  obtain ⟨i0, hi, hz0, hz1, hz2⟩ := info_parts info8
  obtain ⟨M, hM⟩ : ∃ M, M = madeCells (Value.int .u8 0).cells ((2 * (s.size : Int)).toNat * i0.size) := ⟨_, rfl⟩
  have hMs : M.size = 2 * s.size := by rw [hM, size_madeCells, hz1]; omega
  have hmk : (Instr.makeSlice 41 (.int .i64 0) (.int .i64 (2 * (s.size : Int)))).run Tryd.prog w = .ok (.slice (some ⟨w.heap.size, 0, none⟩) 0 (2 * s.size)) (w.alloc (.cells M 5)) := by
    have h := run_make (P := Tryd.prog) w 41 5 i0 (.int .u8 0) Tryd.underlying41 hi hz0 .i64 .i64 0 (2 * (s.size : Int)) (by omega) (by omega) (by rw [hz2]; omega) (by omega)
    rw [← hM] at h
    rw [h]
    congr 2
  clear hM
  go_enter Tryd.func26, Tryd.ntmps26
  go_wp2
  go_loopw [3, 4] (fun d i w' => ∃ k : Nat, k ≤ s.size ∧ i = .int .i64 k ∧ d = .slice (some ⟨w.heap.size, 0, none⟩) (2 * k) (2 * s.size) ∧ Own w w' s k) (fun _ i _ => s.size - (intOf i).toNat)
  case atStart => exact ⟨0, Nat.zero_le _, rfl, rfl, own_start w M s hMs⟩
  case round =>
    obtain ⟨k, hk, rfl, rfl, hown⟩ := hrel
    by_cases hlt : k < s.size
    · have hc := s[k].toNat_lt
      have e1 : (0 : Int) ≤ (k : Int) := by omega
      have e2 : (k : Int) < (s.size : Int) := by omega
      have ht2 := L0.tab_below htab hown.1
      have c1 := ht2.cell gTab (s[k].toNat / 16) (by show _ < 16; omega)
      have c2 := ht2.cell gTab (s[k].toNat % 16) (by show _ < 16; omega)
      rw [tab_hd _ (by omega)] at c1 c2
      have hlen : Hid (wr.heap.size ≠ w.heap.size) := show _ ≠ _ by have := hown.2.1; omega
      have e3 : (0 : Int) ≤ (s[k].toNat : Int) / 16 := by omega
      have e4 : (s[k].toNat : Int) / 16 < 16 := by omega
      have e5 : (0 : Int) ≤ (s[k].toNat : Int) % 16 := by omega
      have e6 : (s[k].toNat : Int) % 16 < 16 := by omega
      have e7 : ((s[k].toNat : Int) / 16).toNat = s[k].toNat / 16 := by omega
      have e8 : ((s[k].toNat : Int) % 16).toNat = s[k].toNat % 16 := by omega
      have e9 : bits .and .u8 (s[k].toNat : Int) 15 = (s[k].toNat : Int) % 16 := u8_and15 _ (by omega) (by omega)
      obtain ⟨W2, hW2'⟩ : ∃ W2, W2 = ((wr.alloc (.cells #[Value.int .u8 ((H0.hd (s[k].toNat / 16)).toNat : Int), Value.int .u8 ((H0.hd (s[k].toNat % 16)).toNat : Int)] 5)).drew).setCells w.heap.size (2 * k) [Value.int .u8 ((H0.hd (s[k].toNat / 16)).toNat : Int), Value.int .u8 ((H0.hd (s[k].toNat % 16)).toNat : Int)] := ⟨_, rfl⟩
      have ho2 : Hid (Own w W2 s (k + 1)) := show Own w W2 s (k + 1) by rw [hW2']; exact own_step hown hlt
      have hW2 : Hid (W2 = ((wr.alloc (.cells #[Value.int .u8 ((H0.hd (s[k].toNat / 16)).toNat : Int), Value.int .u8 ((H0.hd (s[k].toNat % 16)).toNat : Int)] 5)).drew).setCells w.heap.size (2 * k) [Value.int .u8 ((H0.hd (s[k].toNat / 16)).toNat : Int), Value.int .u8 ((H0.hd (s[k].toNat % 16)).toNat : Int)]) := hW2'
      clear hW2'
      go_wp2
      go_region_law (refine step_append_room rfl (.tmp 15) (.tmp 28) 41 rfl 5 i0 1 Tryd.underlying41 hi hz1 w.heap.size 0 (2 * k) (2 * s.size) (by simp [Act.eval]) ⟨wr.heap.size, 0, none⟩ 2 2 [.int .u8 ((H0.hd (s[k].toNat / 16)).toNat : Int), .int .u8 ((H0.hd (s[k].toNat % 16)).toNat : Int)] (by simp [Act.eval]) rfl (new_cells _ _ _) (new_one _ _) (by omega) (spare_cells hown hlt _ _) ?_)
      all_goals
        rw [← hW2.out]
        go_wp2
        go_roundw
        case rel => exact ⟨k + 1, by omega, by go_num, by rw [show 2 * (k + 1) = 2 * k + 2 by omega], ho2.out⟩
        case measure => simp [intOf]; omega
    · obtain rfl : k = s.size := by omega
      have hcv := own_end w wr s hown
      go_wp2
      go_ret
      exact ⟨rfl, hown.1⟩
end Go.Proofs.YtnfcpcejfajcfaaDoor.H1

/- Contracts of the laws' own functions over events, of spec.l08Hex and impl.hexOrDash. -/
namespace Go.Proofs.YtnfcpcejfajcfaaDoor.EW
open Go.ChangeShapes Go.WideShapes Go.ChangeAt Go.RowKit
set_option linter.unusedVariables false
set_option linter.unusedSimpArgs false
set_option maxRecDepth 10000

open EV (Ev val vals Fit hx dt)
open I2 (ints ret_int left)

variable {w W W' : World} {d : Ev} {a : Option Addr} {c : Nat}

/-- An event's block. -/
structure EB (B : Nat) (d : Ev) (a : Option Addr) (c : Nat) (W : World) : Prop where
  b : K0.Blk B (vals d a c) W
theorem EB.c0 {B : Nat} (h : EB B d a c W) : W.cell? ⟨B, 0, none⟩ = some (.int .i64 d.kd) := h.b.cell 0 (by simp)
theorem EB.c1 {B : Nat} (h : EB B d a c W) : W.cell? ⟨B, 1, none⟩ = some (.int .i64 d.cl) := h.b.cell 1 (by simp)
theorem EB.c2 {B : Nat} (h : EB B d a c W) : W.cell? ⟨B, 2, none⟩ = some (.int .i64 d.ino) := h.b.cell 2 (by simp)
theorem EB.c3 {B : Nat} (h : EB B d a c W) : W.cell? ⟨B, 3, none⟩ = some (.int .i64 d.at_) := h.b.cell 3 (by simp)
theorem EB.c4 {B : Nat} (h : EB B d a c W) : W.cell? ⟨B, 4, none⟩ = some (.string d.tx) := h.b.cell 4 (by simp)
theorem EB.c5 {B : Nat} (h : EB B d a c W) : W.cell? ⟨B, 5, none⟩ = some (.slice a d.kp.length c) := h.b.cell 5 (by simp)
theorem EB.below {B : Nat} (h : EB B d a c W) (hb : Below W.heap.size W W') : EB B d a c W' := ⟨h.b.below hb⟩
abbrev eo (d : Ev) (a : Option Addr) (c : Nat) (T : TypeId) : Obj := .cells #[.int .i64 d.kd, .int .i64 d.cl, .int .i64 d.ino, .int .i64 d.at_, .string d.tx, .slice a d.kp.length c] T
theorem eb_new (d : Ev) (a : Option Addr) (c : Nat) (w : World) (T : TypeId) : EB w.heap.size d a c (w.alloc (eo d a c T)) := ⟨K0.blk_new (vals d a c) w T⟩

/-- How much a law's event holds. -/
def small (d : Ev) : Prop := d.tx.size + d.kp.length ≤ 1048576

set_option maxHeartbeats 1000000 in
theorem szFit (d : Ev) (a : Option Addr) (c : Nat) (w : World) (hF : Fit d) (h : small d) :
    Calls Tryd.prog 4 #[val d a c, .int .i64 1048576] w fun e w' => (∃ q : Int, 0 ≤ q ∧ e = .returned (.int .i64 q)) ∧ Below w.heap.size w w' := by
  unfold small at h
  have bx := eb_new d a c w 24
  have n0 := K0.below_new w (eo d a c 24)
  have c4 := bx.c4
  have c5 := bx.c5
  have e1 : ¬ (1048576 : Int) - (d.tx.size : Int) < 0 := by omega
  have hl := hF.lk
  have e2 : left (1048576 - (d.tx.size : Int)) d.kp.length = 1048576 - (d.tx.size : Int) - d.kp.length := by
    unfold left
    rw [if_neg (by omega)]
  have HZ : Hid (∀ W, Calls Tryd.prog 9 #[.slice a d.kp.length c, .int .i64 (1048576 - (d.tx.size : Int))] W fun e w' => e = .returned (.int .i64 (1048576 - (d.tx.size : Int) - d.kp.length)) ∧ w' = W) := fun W => (I2.szIntS a c d.kp.length (1048576 - (d.tx.size : Int)) W hl (by omega) (by omega)).mono fun _ _ ⟨he, hw⟩ => ⟨by rw [he, e2], hw⟩
  have e3 : ¬ (1048576 : Int) - (d.tx.size : Int) - (d.kp.length : Int) < 0 := by omega
  have hs : d.tx.size ≤ 1048576 := by omega
  clear e2 hF
  go_enter Tryd.func4, Tryd.ntmps4
  go_wp2_with (go_at_call 9; refine (HZ.out _).mono ?_; rintro e w1 ⟨rfl, hw1⟩; subst w1)
  go_ret
  exact ⟨⟨_, by omega, rfl⟩, n0⟩

set_option maxHeartbeats 1000000 in
theorem szBig (d : Ev) (a : Option Addr) (c : Nat) (w : World) (hF : Fit d) (h : ¬ small d) :
    Calls Tryd.prog 4 #[val d a c, .int .i64 1048576] w fun e w' => e = .returned (.int .i64 (-1)) ∧ Below w.heap.size w w' := by
  unfold small at h
  have bx := eb_new d a c w 24
  have n0 := K0.below_new w (eo d a c 24)
  have c4 := bx.c4
  have c5 := bx.c5
  have hl := hF.lk
  have ht := hF.lt
  unfold maxLen at ht
  clear hF
  by_cases h1 : (1048576 : Int) - (d.tx.size : Int) < 0
  · go_enter Tryd.func4, Tryd.ntmps4
    go_wp2
    go_ret
    exact ⟨rfl, n0⟩
  · have e2 : left (1048576 - (d.tx.size : Int)) d.kp.length = -1 := by
      unfold left
      rw [if_pos (by omega)]
    have HZ : Hid (∀ W, Calls Tryd.prog 9 #[.slice a d.kp.length c, .int .i64 (1048576 - (d.tx.size : Int))] W fun e w' => e = .returned (.int .i64 (-1)) ∧ w' = W) := fun W => (I2.szIntS a c d.kp.length (1048576 - (d.tx.size : Int)) W hl (by omega) (by omega)).mono fun _ _ ⟨he, hw⟩ => ⟨by rw [he, e2], hw⟩
    clear e2
    go_enter Tryd.func4, Tryd.ntmps4
    go_wp2_with (go_at_call 9; refine (HZ.out _).mono ?_; rintro e w1 ⟨rfl, hw1⟩; subst w1)
    go_ret
    exact ⟨rfl, n0⟩

abbrev zero6 : List Value := [.int .i64 0, .int .i64 0, .int .i64 0, .int .i64 0, .string ⟨#[]⟩, .slice none 0 0]

/-- The three blocks of toEvent. -/
structure T (w : World) (d : Ev) (a : Option Addr) (c : Nat) (vs : List Value) (W : World) : Prop where
  arg : EB w.heap.size d a c W
  res : K0.Blk (w.heap.size + 1) zero6 W
  tmp : K0.Blk (w.heap.size + 2) vs W
  bel : Below w.heap.size w W
theorem T.below {vs : List Value} (h : T w d a c vs W) (hb : Below W.heap.size W W') : T w d a c vs W' := ⟨h.arg.below hb, h.res.below hb, h.tmp.below hb, h.bel.trans (hb.mono h.bel.size)⟩
theorem T.set {vs : List Value} (h : T w d a c vs W) (j : Nat) (v : Value) : T w d a c (vs.set j v) (W.setCell ⟨w.heap.size + 2, j, none⟩ v) :=
  ⟨⟨h.arg.b.setOther (by omega) j v⟩, h.res.setOther (by omega) j v, h.tmp.set j v, h.bel.setCell (p := ⟨w.heap.size + 2, j, none⟩) (Nat.le_add_right _ _) v⟩
abbrev z6 : Obj := .cells #[.int .i64 0, .int .i64 0, .int .i64 0, .int .i64 0, .string ⟨#[]⟩, .slice none 0 0] 27
abbrev mid (d : Ev) : List Value := [.int .i64 d.kd, .int .i64 d.cl, .int .i64 d.ino, .int .i64 d.at_, .string d.tx, .slice none 0 0]
abbrev m6 (d : Ev) : Obj := .cells #[.int .i64 d.kd, .int .i64 d.cl, .int .i64 d.ino, .int .i64 d.at_, .string d.tx, .slice none 0 0] 27
theorem t_new (w : World) (d : Ev) (a : Option Addr) (c : Nat) : T w d a c (mid d) (((w.alloc (eo d a c 24)).alloc z6).alloc (m6 d)) :=
  ⟨⟨((K0.blk_new (vals d a c) w 24).alloc _).alloc _⟩, (K0.blk_at zero6 _ 27 (by simp)).alloc _, K0.blk_at (mid d) _ 27 (by simp),
   (((Below.refl _ _).alloc (Nat.le_refl _) _).alloc (by simp) _).alloc (by simp; omega) _⟩

theorem put6 {B : Nat} {x0 x1 x2 x3 x4 x5 y0 y1 y2 y3 y4 y5 : Value} (h : K0.Blk B [x0, x1, x2, x3, x4, x5] W) :
    K0.Blk B [y0, y1, y2, y3, y4, y5] ((((((W.setCell ⟨B, 0, none⟩ y0).setCell ⟨B, 1, none⟩ y1).setCell ⟨B, 2, none⟩ y2).setCell ⟨B, 3, none⟩ y3).setCell ⟨B, 4, none⟩ y4).setCell ⟨B, 5, none⟩ y5) := (((((h.set 0 y0).set 1 y1).set 2 y2).set 3 y3).set 4 y4).set 5 y5
theorem other6 {B B' : Nat} {vs : List Value} (h : K0.Blk B' vs W) (hne : B ≠ B') (y0 y1 y2 y3 y4 y5 : Value) :
    K0.Blk B' vs ((((((W.setCell ⟨B, 0, none⟩ y0).setCell ⟨B, 1, none⟩ y1).setCell ⟨B, 2, none⟩ y2).setCell ⟨B, 3, none⟩ y3).setCell ⟨B, 4, none⟩ y4).setCell ⟨B, 5, none⟩ y5) := (((((h.setOther hne 0 y0).setOther hne 1 y1).setOther hne 2 y2).setOther hne 3 y3).setOther hne 4 y4).setOther hne 5 y5
theorem bel6 {B b : Nat} (h : Below b w W) (hb : b ≤ B) (y0 y1 y2 y3 y4 y5 : Value) :
    Below b w ((((((W.setCell ⟨B, 0, none⟩ y0).setCell ⟨B, 1, none⟩ y1).setCell ⟨B, 2, none⟩ y2).setCell ⟨B, 3, none⟩ y3).setCell ⟨B, 4, none⟩ y4).setCell ⟨B, 5, none⟩ y5) := (((((h.setCell (p := ⟨B, 0, none⟩) hb y0).setCell (p := ⟨B, 1, none⟩) hb y1).setCell (p := ⟨B, 2, none⟩) hb y2).setCell (p := ⟨B, 3, none⟩) hb y3).setCell (p := ⟨B, 4, none⟩) hb y4).setCell (p := ⟨B, 5, none⟩) hb y5

set_option maxHeartbeats 4000000 in
theorem toEvent (d : Ev) (a : Option Addr) (c : Nat) (w : World) (hk : d.kp.length ≤ 1048576) (hR : P0.Row w a d.kp) :
    Calls Tryd.prog 6 #[val d a c] w fun e w' => ∃ g, e = .returned (val d (some ⟨g, 0, none⟩) d.kp.length) ∧ P0.Row w' (some ⟨g, 0, none⟩) d.kp ∧ Below w.heap.size w w' := by
  have t0 := t_new w d a c
  have r0 := hR.below t0.bel
  clear hR
  go_enter Tryd.func6, Tryd.ntmps6
  go_wp2_with (go_at_call 12; refine (I2.toIntS a c d.kp _ hk r0).mono ?_; rintro e w1 ⟨g, rfl, hg, k1, b1⟩; have t1 := t0.below b1; have z0 := t1.tmp.cell 0 (by simp); have z1 := t1.tmp.cell 1 (by simp); have z2 := t1.tmp.cell 2 (by simp); have z3 := t1.tmp.cell 3 (by simp); have z4 := t1.tmp.cell 4 (by simp); have z5 := t1.tmp.cell 5 (by simp); have g5 := t1.tmp.free 5 (by simp); simp only [List.getElem_cons_zero, List.getElem_cons_succ] at z0 z1 z2 z3 z4 z5; have j0 := t1.res.cell 0 (by simp); have j1 := t1.res.cell 1 (by simp); have j2 := t1.res.cell 2 (by simp); have j3 := t1.res.cell 3 (by simp); have j4 := t1.res.cell 4 (by simp); have j5 := t1.res.cell 5 (by simp); simp only [List.getElem_cons_zero, List.getElem_cons_succ] at j0 j1 j2 j3 j4 j5; have n0 := t1.res.free 0 (by simp); have n1 := t1.res.free 1 (by simp); have n2 := t1.res.free 2 (by simp); have n3 := t1.res.free 3 (by simp); have n4 := t1.res.free 4 (by simp); have n5 := t1.res.free 5 (by simp))
  have hg' : w.heap.size + 3 ≤ g := by
    have := t0.tmp.lt
    simp at hg this
    omega
  have u1 := t1.set 5 (.slice (some ⟨g, 0, none⟩) d.kp.length d.kp.length)
  have q := put6 (y0 := .int .i64 d.kd) (y1 := .int .i64 d.cl) (y2 := .int .i64 d.ino) (y3 := .int .i64 d.at_) (y4 := .string d.tx) (y5 := .slice (some ⟨g, 0, none⟩) d.kp.length d.kp.length) u1.res
  have v0 := q.cell 0 (by simp)
  have v1 := q.cell 1 (by simp)
  have v2 := q.cell 2 (by simp)
  have v3 := q.cell 3 (by simp)
  have v4 := q.cell 4 (by simp)
  have v5 := q.cell 5 (by simp)
  simp only [List.getElem_cons_zero, List.getElem_cons_succ] at v0 v1 v2 v3 v4 v5
  refine bodyPost_ret (v := val d (some ⟨g, 0, none⟩) d.kp.length) (by simp [results, Tryd.results6, go_sem, v0, v1, v2, v3, v4, v5]) rfl ⟨g, rfl, ?_, ?_⟩
  · exact I2.row_of_blk (other6 (k1.setOther (B' := w.heap.size + 2) (by omega) 5 _) (by omega) _ _ _ _ _ _)
  · exact bel6 u1.bel (by omega) _ _ _ _ _ _

set_option maxHeartbeats 1000000 in
theorem eqEvent (d : Ev) (a1 a2 : Option Addr) (c1 c2 : Nat) (w : World) (hk : d.kp.length ≤ 281474976710656) (h1 : P0.Row w a1 d.kp) (h2 : P0.Row w a2 d.kp) :
    Calls Tryd.prog 8 #[val d a1 c1, val d a2 c2] w fun e w' => e = .returned (.bool true) ∧ Below w.heap.size w w' := by
  have n0 := K0.below_new w (eo d a1 c1 27)
  have n1 := n0.alloc n0.size (eo d a2 c2 27)
  have k0 := (eb_new d a1 c1 w 27).below (K0.below_new _ (eo d a2 c2 27))
  have k1 := eb_new d a2 c2 (w.alloc (eo d a1 c1 27)) 27
  have r1 := h1.below n1
  have r2 := h2.below n1
  have x0 := k0.c0
  have x1 := k0.c1
  have x2 := k0.c2
  have x3 := k0.c3
  have x4 := k0.c4
  have x5 := k0.c5
  have hu : (d.tx.toList != d.tx.toList) = false := by simp
  clear h1 h2
  go_enter Tryd.func8, Tryd.ntmps8
  go_wp2_with (go_at_call 15; refine (I2.eqIntS a1 a2 c1 c2 d.kp _ hk r1 r2).mono ?_; rintro e w1 ⟨rfl, n, rfl⟩)
  go_ret
  exact ⟨rfl, K0.below_drewN n1 n⟩
end Go.Proofs.YtnfcpcejfajcfaaDoor.EW

/- Plain facts on decimal numerals. -/
namespace Go.Proofs.YtnfcpcejfajcfaaDoor.D0
open Go

/-- The digits of a number, none for 0. -/
def dd (u : Nat) : List UInt8 := if u = 0 then [] else Lib.decDigits u

theorem dd_step (u : Nat) (h : u ≠ 0) : dd u = dd (u / 10) ++ [UInt8.ofNat (48 + u % 10)] := by
  unfold dd
  rw [if_neg h]
  by_cases h1 : u < 10
  · rw [Lib.decDigits_one h1, if_pos (by omega), Nat.mod_eq_of_lt h1]
    rfl
  · rw [Lib.decDigits, dif_neg h1, if_neg (by omega)]

theorem dd_length (u : Nat) (h : u ≤ 9223372036854775808) : (dd u).length ≤ 21 := by
  unfold dd
  split
  · simp
  · have := Lib.itoa_length_le (-(u : Int)) (by omega) (by omega)
    rw [Lib.itoa_neg u (by omega)] at this
    simp at this
    omega

/-- The ten digits as a text. -/
theorem digit_piece (d : Nat) (h : d < 10) : (⟨#[48, 49, 50, 51, 52, 53, 54, 55, 56, 57]⟩ : ByteArray).extract d (d + 1) = ⟨#[UInt8.ofNat (48 + d)]⟩ := by
  match d, h with
  | 0, _ => rfl
  | 1, _ => rfl
  | 2, _ => rfl
  | 3, _ => rfl
  | 4, _ => rfl
  | 5, _ => rfl
  | 6, _ => rfl
  | 7, _ => rfl
  | 8, _ => rfl
  | 9, _ => rfl

/-- A step of the loop that writes the digits from the last one on. -/
theorem round_eq (u v : Nat) (out : List UInt8) (h : u ≠ 0) (e : dd u ++ out = dd v) : dd (u / 10) ++ (UInt8.ofNat (48 + u % 10) :: out) = dd v := by
  rw [← e, dd_step u h]
  simp

/-- One digit as a text. -/
def dig (x : Int) : ByteArray := ⟨#[UInt8.ofNat (48 + x.toNat)]⟩

theorem dig_size (x : Int) : (dig x).size = 1 := rfl

theorem dig_cons (x : Int) (out : List UInt8) : dig x ++ ⟨out.toArray⟩ = ⟨(UInt8.ofNat (48 + x.toNat) :: out).toArray⟩ := by
  apply ByteArray.ext
  apply Array.toList_inj.1
  simp [dig]

theorem ret_minus (l : List UInt8) : Ending.returned (.string (⟨#[45]⟩ ++ ⟨l.toArray⟩)) = Ending.returned (.string ⟨(45 :: l).toArray⟩) := by
  congr 2

theorem itoa_pos (u : Nat) (h : u ≠ 0) : Lib.itoa (u : Int) = dd u := by rw [Lib.itoa_nonneg, dd, if_neg h]
theorem itoa_neg (u : Nat) (h : u ≠ 0) : Lib.itoa (-(u : Int)) = 45 :: dd u := by rw [Lib.itoa_neg u (by omega), dd, if_neg h]

/-- The piece of the ten digits at a digit's place. -/
theorem dig_slice {P : Program} (t : TypeId) (ht : P.underlying t = some .string) (x : Int) (h0 : 0 ≤ x) (h1 : x < 10) (W : World) :
    (Instr.slice t (.string ⟨#[48, 49, 50, 51, 52, 53, 54, 55, 56, 57]⟩) (some (.int .i64 x)) (some (.int .i64 (x + 1))) none).run P W = .ok (.string (dig x)) W := by
  rw [run_slice_string W t _ .i64 .i64 x (x + 1) ht h0 (by omega) (by show x + 1 ≤ ((10 : Nat) : Int); omega)]
  obtain ⟨d, rfl⟩ : ∃ d : Nat, x = (d : Int) := ⟨x.toNat, by omega⟩
  rw [show ((d : Int) + 1).toNat = d + 1 by omega, show ((d : Int)).toNat = d by omega, digit_piece d (by omega)]
  rfl
end Go.Proofs.YtnfcpcejfajcfaaDoor.D0

/- The contract of spec.DecText, as the given laws call it. -/
namespace Go.Proofs.YtnfcpcejfajcfaaDoor.D1
open Go.ChangeShapes Go.WideShapes Go.ChangeAt Go.RowKit
set_option linter.unusedVariables false

theorem spec_pos (v : Nat) (hv : v ≠ 0) (hm : v ≤ 9223372036854775807) (w : World) :
    Calls Tryd.prog 10 #[.int .i64 (v : Int)] w fun e w' => e = .returned (.string ⟨(D0.dd v).toArray⟩) ∧ w' = w := by
  have hv1 : ¬ (v : Int) = 0 := by omega
  have hv2 : ¬ (v : Int) < 0 := by omega
  have hlen := D0.dd_length v (by omega)
  go_enter Tryd.func10, Tryd.ntmps10
  go_wp2
  go_loop [3, 4] (fun t i => ∃ (u : Nat) (out : List UInt8), u ≤ v ∧ D0.dd u ++ out = D0.dd v ∧ i = .int .i64 (u : Int) ∧ t = .string ⟨out.toArray⟩) (fun _ i => (intOf i).toNat)
  case atStart => exact ⟨v, [], Nat.le_refl _, by simp, rfl, rfl⟩
  case round =>
    obtain ⟨u, out, hu, he, rfl, rfl⟩ := hrel
    by_cases h0 : u = 0
    · subst h0
      have he' : out = D0.dd v := by simpa [D0.dd] using he
      clear he
      subst he'
      go_wp2
      go_ret
      exact ⟨rfl, rfl⟩
    · have hs : (D0.dig ((u : Int) % 10)).size + (⟨out.toArray⟩ : ByteArray).size ≤ 9223372036854775807 := by
        have := congrArg List.length he
        simp at this
        rw [D0.dig_size]
        show 1 + out.toArray.size ≤ _
        simp
        omega
      have hu1 : ¬ (u : Int) = 0 := by omega
      have hu2 : ¬ (u : Int) % 10 < 0 := by omega
      have hdg := D0.dig_slice (P := Tryd.prog) 9 Tryd.underlying9 ((u : Int) % 10) (by omega) (by omega)
      have hHe : Hid (D0.dd u ++ out = D0.dd v) := he
      clear he
      go_wp2
      go_round
      case rel => exact ⟨u / 10, UInt8.ofNat (48 + u % 10) :: out, by omega, D0.round_eq u v out h0 hHe.out, by go_num, by rw [D0.dig_cons]; rfl⟩
      case measure => simp [intOf]; omega

theorem spec_neg (v : Nat) (hv : v ≠ 0) (hm : v ≤ 9223372036854775808) (w : World) :
    Calls Tryd.prog 10 #[.int .i64 (-(v : Int))] w fun e w' => e = .returned (.string ⟨(45 :: D0.dd v).toArray⟩) ∧ w' = w := by
  have hv1 : ¬ (-(v : Int)) = 0 := by omega
  have hv2 : (-(v : Int)) < 0 := by omega
  have hlen := D0.dd_length v (by omega)
  go_enter Tryd.func10, Tryd.ntmps10
  go_wp2
  go_loop [3, 4] (fun t i => ∃ (u : Nat) (out : List UInt8), u ≤ v ∧ D0.dd u ++ out = D0.dd v ∧ i = .int .i64 (-(u : Int)) ∧ t = .string ⟨out.toArray⟩) (fun _ i => (-(intOf i)).toNat)
  case atStart => exact ⟨v, [], Nat.le_refl _, by simp, rfl, rfl⟩
  case round =>
    obtain ⟨u, out, hu, he, rfl, rfl⟩ := hrel
    by_cases h0 : u = 0
    · subst h0
      have he' : out = D0.dd v := by simpa [D0.dd] using he
      clear he
      subst he'
      have hs : (⟨#[45]⟩ : ByteArray).size + (⟨(D0.dd v).toArray⟩ : ByteArray).size ≤ 9223372036854775807 := by
        show 1 + (D0.dd v).toArray.size ≤ _
        simp
        omega
      go_wp2
      go_ret
      exact ⟨D0.ret_minus _, rfl⟩
    · have hu1 : ¬ (-(u : Int)) = 0 := by omega
      have hsz : out.length ≤ 21 := by
        have := congrArg List.length he
        simp at this
        omega
      have hHe : Hid (D0.dd u ++ out = D0.dd v) := he
      clear he
      by_cases hz : 0 < (u : Int) % 10
      · have hs : (D0.dig ((u : Int) % 10)).size + (⟨out.toArray⟩ : ByteArray).size ≤ 9223372036854775807 := by
          rw [D0.dig_size]
          show 1 + out.toArray.size ≤ _
          simp
          omega
        have hdg := D0.dig_slice (P := Tryd.prog) 9 Tryd.underlying9 ((u : Int) % 10) (by omega) (by omega)
        go_wp2
        go_round
        case rel => exact ⟨u / 10, UInt8.ofNat (48 + u % 10) :: out, by omega, D0.round_eq u v out h0 hHe.out, by go_num, by rw [D0.dig_cons]; rfl⟩
        case measure => simp [intOf]; omega
      · have hz' : (u : Int) % 10 ≤ 0 := by omega
        have hs : (D0.dig (-((u : Int) % 10))).size + (⟨out.toArray⟩ : ByteArray).size ≤ 9223372036854775807 := by
          rw [D0.dig_size]
          show 1 + out.toArray.size ≤ _
          simp
          omega
        have hdg := D0.dig_slice (P := Tryd.prog) 9 Tryd.underlying9 (-((u : Int) % 10)) (by omega) (by omega)
        go_wp2
        go_round
        case rel => exact ⟨u / 10, UInt8.ofNat (48 + u % 10) :: out, by omega, D0.round_eq u v out h0 hHe.out, by go_num, by rw [D0.dig_cons, show (-((u : Int) % 10)).toNat = u % 10 by omega]⟩
        case measure => simp [intOf]; omega

theorem spec_DecText (n : Int) (hn : (Lit.int .i64 n).wf = true) (w : World) :
    Calls Tryd.prog 10 #[.int .i64 n] w fun e w' => e = .returned (.string ⟨(Lib.itoa n).toArray⟩) ∧ w' = w := by
  have hb : -9223372036854775808 ≤ n ∧ n ≤ 9223372036854775807 := by simpa [Lit.wf, IntKind.min, IntKind.max, IntKind.signed, IntKind.bits] using hn
  by_cases h0 : n = 0
  · subst h0
    have e : Lib.itoa 0 = [48] := by unfold Lib.itoa; rw [if_neg (by omega)]; exact Lib.decDigits_one (by omega)
    rw [e]
    go_enter Tryd.func10, Tryd.ntmps10
    go_wp2
    go_ret
    exact ⟨rfl, rfl⟩
  · by_cases h1 : 0 < n
    · obtain ⟨v, rfl⟩ : ∃ v : Nat, n = (v : Int) := ⟨n.toNat, by omega⟩
      rw [D0.itoa_pos v (by omega)]
      exact spec_pos v (by omega) (by omega) w
    · obtain ⟨v, rfl⟩ : ∃ v : Nat, n = -(v : Int) := ⟨n.natAbs, by omega⟩
      rw [D0.itoa_neg v (by omega)]
      exact spec_neg v (by omega) (by omega) w
end Go.Proofs.YtnfcpcejfajcfaaDoor.D1

/- The contract of impl.DecText, as the given laws call it. -/
namespace Go.Proofs.YtnfcpcejfajcfaaDoor.D1
open Go.ChangeShapes Go.WideShapes Go.ChangeAt Go.RowKit
set_option linter.unusedVariables false

theorem impl_DecText (n : Int) (hn : (Lit.int .i64 n).wf = true) (w : World) (htab : Lib.TabIs Tryd.prog w "internal/strconv.uint64pow10" .u64 Lib.pow10Tab) :
    Calls Tryd.prog 20 #[.int .i64 n] w fun e w' => e = .returned (.string ⟨(Lib.itoa n).toArray⟩) ∧ Below w.heap.size w w' := by
  have hb : -9223372036854775808 ≤ n ∧ n ≤ 9223372036854775807 := by simpa [Lit.wf, IntKind.min, IntKind.max, IntKind.signed, IntKind.bits] using hn
  go_enter Tryd.func20, Tryd.ntmps20
  go_wp2_with (go_at_call 25; refine (Tryd.strconv_Itoa _ hb.1 hb.2 _ htab).mono ?_; rintro e w' ⟨rfl, k, os, rfl⟩)
  go_ret
  exact ⟨rfl, L0.below_grow k os⟩
end Go.Proofs.YtnfcpcejfajcfaaDoor.D1

/- A row of bytes that a call has made and appends to: what it holds, and the two appends. -/
namespace Go.Proofs.YtnfcpcejfajcfaaDoor.F0
open Go.ChangeShapes Go.WideShapes Go.ChangeAt Go.RowKit
set_option linter.unusedVariables false
set_option linter.unusedSimpArgs false
set_option maxRecDepth 10000

/-- A row of a call's own: so many bytes, these. -/
def Buf (base : Nat) (w : World) (g n cap : Nat) (t : ByteArray) : Prop := n = t.size ∧ w.ownsRow base 5 1 (.slice (some ⟨g, 0, none⟩) n cap) n (Lib.strCells t)

theorem info5 : (Tryd.prog.info? 5).map (fun i => (i.zero, i.size, i.bytes)) = some (some (.int .u8 0), 1, 1) := by kernel_rfl

variable {base g n cap : Nat} {w W : World} {t : ByteArray}

theorem owns_below {e : TypeId} {size : Nat} {v : Value} {xs : List Value} (h : w.ownsRow base e size v n xs) (hb : Below w.heap.size w W) : W.ownsRow base e size v n xs := by
  refine ⟨h.1, ?_⟩
  rcases h.2 with h0 | ⟨g, cap, cur, hv, hg, hc, r⟩
  · exact Or.inl h0
  · refine Or.inr ⟨g, cap, cur, hv, hg, ?_, r⟩
    rw [hb.block g (Array.getElem?_eq_some_iff.1 hc).1]
    exact hc

theorem below_grown {B : Nat} {w W W' : World} {row : Option Nat} (h : Below B w W) (hg : W.grownBy W' row) (hr : ∀ g, row = some g → B ≤ g) (hB : B ≤ W.heap.size) : Below B w W' :=
  ⟨hg.os.trans h.os, hg.tape.trans h.tape, hg.output.trans h.output, Nat.le_trans h.size hg.size, fun k hk => by
    rw [hg.block k (by omega) (fun e => by have := hr k e.symm; omega)]
    exact h.block k hk⟩

theorem Buf.below (h : Buf base w g n cap t) (hb : Below w.heap.size w W) : Buf base W g n cap t := ⟨h.1, owns_below h.2 hb⟩
theorem Buf.alloc (h : Buf base w g n cap t) (o : Obj) : Buf base (w.alloc o) g n cap t := h.below ((Below.refl _ _).alloc (Nat.le_refl _) o)
theorem Buf.drew (h : Buf base w g n cap t) : Buf base w.drew g n cap t := h
theorem Buf.drewN (h : Buf base w g n cap t) (m : Nat) : Buf base (w.drewN m) g n cap t := h

theorem Buf.lt (h : Buf base w g n cap t) : base ≤ g ∧ g < w.heap.size := h.2.lt g rfl

theorem Buf.holds (h : Buf base w g n cap t) : B0.Holds w g 0 t.data.toList := by
  intro j hj
  have hj' : j < t.size := by rw [Lib.size_eq]; exact hj
  have := h.2.cells (g := g) rfl j (.int .u8 (t.data.toList[j].toNat : Int)) (by
    have hj2 : j < t.data.size := by simpa using hj
    simp [Lib.strCells]
    exact ⟨_, Array.getElem?_eq_getElem hj2, rfl⟩)
  rw [B0.add_off] at this
  exact this

/-- The row as a string. -/
theorem Buf.conv (h : Buf base w g n cap t) : (convert 41 9 (.slice (some ⟨g, 0, none⟩) n cap)).run Tryd.prog w = .ok (.string t) w := by
  have := B0.conv_back (P := Tryd.prog) w 41 9 5 g 0 cap t.data.toList Tryd.underlying41 Tryd.underlying5 Tryd.underlying9 h.holds n (by rw [h.1, Lib.size_eq])
  rwa [Lib.mk_data] at this

/-- A new row of two bytes. -/
theorem buf_two (w : World) (x y : Int) (hx : 0 ≤ x ∧ x < 256) (hy : 0 ≤ y ∧ y < 256) (hb : base ≤ w.heap.size) :
    Buf base (w.alloc (.cells #[.int .u8 x, .int .u8 y] 5)) w.heap.size 2 2 ⟨#[UInt8.ofNat x.toNat, UInt8.ofNat y.toNat]⟩ := by
  have e1 : x.toNat < 256 := by omega
  have e2 : y.toNat < 256 := by omega
  refine ⟨rfl, by simp [Lib.strCells], Or.inr ⟨w.heap.size, 2, #[.int .u8 x, .int .u8 y], rfl, hb, heap_alloc_new w _, Nat.le_refl _, by unfold maxLen; omega, rfl, ?_⟩⟩
  simp [Lib.strCells, Nat.mod_eq_of_lt e1, Nat.mod_eq_of_lt e2]
  omega

theorem Buf.at (h : Buf base w g n cap t) {g' : Nat} (e : g = g') : Buf base w g' n cap t := e ▸ h

/-- A new row without bytes, with room. -/
theorem buf_none (w : World) (C : Array Value) (cap : Nat) (hc : C.size = cap) (hm : cap ≤ maxLen) (hb : base ≤ w.heap.size) : Buf base (w.alloc (.cells C 5)) w.heap.size 0 cap ⟨#[]⟩ :=
  ⟨rfl, World.ownsRow_made w C cap hb hm (by omega)⟩

theorem cells_append (t s : ByteArray) : Lib.strCells t ++ Lib.strCells s = Lib.strCells (t ++ s) := by simp [Lib.strCells, ByteArray.data_append]

/-- 'room = append(room, s...)', s a string. -/
theorem append_text {ops : Array Oper} {rest : List Oper} {o : Oper} {a : Act} {Q : Exit → Act → World → Prop} (hgd : o.guard = none) (sl x : Operand)
    (ho : o.op = .call { callee := .builtin .append, args := #[sl, x], argTypes := #[41, 9] })
    (hbuf : Buf base w g n cap t) (s : ByteArray) (hs : a.eval sl = .slice (some ⟨g, 0, none⟩) n cap) (hx : a.eval x = .string s) (hlen : n + s.size ≤ 140737488355328) (hb : base ≤ w.heap.size)
    (h : ∀ g' cap' w', Buf base w' g' (n + s.size) cap' (t ++ s) → Below base w w' → wpList Tryd.prog ops Q rest (a.put o.dst (.slice (some ⟨g', 0, none⟩) (n + s.size) cap')) w') : wpList Tryd.prog ops Q (o :: rest) a w := by
  obtain ⟨i0, hi, hz0, hz1, hz2⟩ := info_parts info5
  refine Lib.wpList_append_own_string w hgd sl x 41 9 ho base 5 i0 Tryd.underlying41 Tryd.underlying9 hi hz0 hz1 hz2 _ n _ hs hbuf.2 s hx (by unfold maxLen; omega) hlen hb ?_
  intro v' w' ho' hg' hnil
  rcases ho'.2 with ⟨h0, _⟩ | ⟨g', cap', cur, hv, r⟩
  · exact absurd ((hnil.1 h0).1) (by simp)
  · subst hv
    refine h g' cap' w' ⟨by rw [hbuf.1, ByteArray.size_append], ?_⟩ ?_
    · rw [← cells_append]
      exact ho'
    · exact below_grown (Below.refl _ _) hg' (fun k hk => by
        have hk' : g = k := by simpa [Value.ownBlock] using hk
        exact hk' ▸ hbuf.lt.1) hb

theorem one_byte (c : Int) : ∀ u ∈ [Value.int .u8 c], u.oneCell' = true := by
  intro u h
  simp at h
  subst h
  rfl

/-- 'room = append(room, c)'. -/
theorem append_byte {ops : Array Oper} {rest : List Oper} {o : Oper} {a : Act} {Q : Exit → Act → World → Prop} (hgd : o.guard = none) (sl x : Operand)
    (ho : o.op = .call { callee := .builtin .append, args := #[sl, x], argTypes := #[41, 41] })
    (hbuf : Buf base w g n cap t) (c : Int) (hc : 0 ≤ c ∧ c < 256) (hs : a.eval sl = .slice (some ⟨g, 0, none⟩) n cap) (hx : a.eval x = .slice (some ⟨w.heap.size, 0, none⟩) 1 1) (hlen : n + 1 ≤ 140737488355328) (hb : base ≤ w.heap.size)
    (h : ∀ g' cap' w', Buf base w' g' (n + 1) cap' (t ++ ⟨#[UInt8.ofNat c.toNat]⟩) → Below base w w' → wpList Tryd.prog ops Q rest (a.put o.dst (.slice (some ⟨g', 0, none⟩) (n + 1) cap')) w') : wpList Tryd.prog ops Q (o :: rest) a (w.alloc (.cells #[.int .u8 c] 5)) := by
  obtain ⟨i0, hi, hz0, hz1, hz2⟩ := info_parts info5
  have hb2 := hbuf.alloc (.cells #[.int .u8 c] 5)
  refine wpList_append_lies _ hgd sl x 41 ho base 5 i0 (.int .u8 0) 1 1 Tryd.underlying41 hi hz0 hz1 hz2 rfl (by omega) _ n _ hs hb2.2 ⟨w.heap.size, 0, none⟩ 1 1 [.int .u8 c] hx rfl (World.news_of_block (heap_alloc_new w _)) (one_byte c) (by omega) (by unfold maxLen; omega) (by omega) (by simp; omega) _ rfl ?_
  intro g' cap' w' ho' hg' _ _
  have e1 : c.toNat < 256 := by omega
  refine h g' cap' w' ⟨by rw [hbuf.1, ByteArray.size_append]; rfl, ?_⟩ ?_
  · rw [← cells_append]
    have e : Lib.strCells ⟨#[UInt8.ofNat c.toNat]⟩ = [.int .u8 c] := by
      simp [Lib.strCells, Nat.mod_eq_of_lt e1]
      omega
    rw [e]
    exact ho'
  · exact below_grown ((Below.refl _ _).alloc hb _) hg' (fun k hk => by
      have hk' : g = k := by simpa [Value.ownBlock] using hk
      exact hk' ▸ hbuf.lt.1) (by simp; omega)
end Go.Proofs.YtnfcpcejfajcfaaDoor.F0
