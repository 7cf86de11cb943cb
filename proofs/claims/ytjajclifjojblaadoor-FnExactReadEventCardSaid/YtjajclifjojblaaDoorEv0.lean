/- Events: plain facts on their texts; an event among a law's arguments; a table of texts; contracts of the laws' own functions over events. -/
import Derived.Test.YtjajclifjojblaaDoorIno2
import Derived.Test.YtjajclifjojblaaDoorHex1
import Derived.Test.YtjajclifjojblaaDoorLaid0
import Derived.Lib.Join
import Derived.Lib.ItoaNum
import Derived.Deep.Fields
namespace Go.Proofs.YtjajclifjojblaaDoor.EV
open Go.ChangeShapes Go.WideShapes Go.ChangeAt Go.RowKit Go.Joins Go.Deep
set_option linter.unusedVariables false
set_option linter.unusedSimpArgs false
set_option maxRecDepth 10000

/-- An event's numbers, its text, its list. -/
structure Ev where
  kd : Int
  cl : Int
  ino : Int
  at_ : Int
  tx : ByteArray
  kp : List Int

abbrev val (d : Ev) (a : Option Addr) (c : Nat) : Value := .agg #[.int .i64 d.kd, .int .i64 d.cl, .int .i64 d.ino, .int .i64 d.at_, .string d.tx, .slice a d.kp.length c]
abbrev vals (d : Ev) (a : Option Addr) (c : Nat) : List Value := [.int .i64 d.kd, .int .i64 d.cl, .int .i64 d.ino, .int .i64 d.at_, .string d.tx, .slice a d.kp.length c]

/-- The numbers fit. -/
structure Fit (d : Ev) : Prop where
  f0 : (Lit.int .i64 d.kd).wf = true
  f1 : (Lit.int .i64 d.cl).wf = true
  f2 : (Lit.int .i64 d.ino).wf = true
  f3 : (Lit.int .i64 d.at_).wf = true
  fk : ∀ z ∈ d.kp, (Lit.int .i64 z).wf = true
  lt : d.tx.size ≤ maxLen
  lk : d.kp.length ≤ maxLen

/-- A number's text. -/
def dt (n : Int) : ByteArray := ⟨(Lib.itoa n).toArray⟩
/-- Bytes as digits, or a hyphen. -/
def hx (s : ByteArray) : ByteArray := if s.size = 0 then ⟨#[45]⟩ else H1.hex s

/-- A word, and parts behind it, with a blank ahead of each. -/
def glue (w : ByteArray) (ps : List ByteArray) : ByteArray := ⟨(Lib.join ((w :: ps).map (·.data.toList)) [32]).toArray⟩

theorem tail_snoc (sep : List UInt8) : ∀ (r : List (List UInt8)) (p : List UInt8), Lib.joinTail sep (r ++ [p]) = Lib.joinTail sep r ++ sep ++ p := by
  intro r p
  have h := Lib.joinTail_take_succ sep (r ++ [p]) r.length p (by simp)
  rw [List.take_of_length_le (by simp), List.take_left' rfl] at h
  exact h

theorem tail_nil (sep : List UInt8) : Lib.joinTail sep [] = [] := by
  have h := Lib.joinTail_length sep []
  exact List.eq_nil_of_length_eq_zero (by simpa [Lib.lens] using h)

theorem glue_nil (w : ByteArray) : glue w [] = w := by
  unfold glue
  rw [List.map_cons, List.map_nil, Lib.join_one, Lib.mk_data]

theorem glue_snoc (w : ByteArray) (ps : List ByteArray) (p : ByteArray) : glue w (ps ++ [p]) = glue w ps ++ ⟨#[32]⟩ ++ p := by
  unfold glue
  rw [List.map_cons, List.map_append, List.map_cons, List.map_nil, Lib.join_cons, tail_snoc, List.map_cons, Lib.join_cons]
  apply ByteArray.ext
  simp [ByteArray.data_append]

theorem glue1 (w p : ByteArray) : glue w [p] = w ++ ⟨#[32]⟩ ++ p := by
  have h := glue_snoc w [] p
  rwa [List.nil_append, glue_nil] at h
theorem glue2 (w p q : ByteArray) : glue w [p, q] = w ++ ⟨#[32]⟩ ++ p ++ ⟨#[32]⟩ ++ q := by
  have h := glue_snoc w [p] q
  rwa [glue1] at h
theorem glue3 (w p q r : ByteArray) : glue w [p, q, r] = w ++ ⟨#[32]⟩ ++ p ++ ⟨#[32]⟩ ++ q ++ ⟨#[32]⟩ ++ r := by
  have h := glue_snoc w [p, q] r
  rwa [glue2] at h
theorem glue4 (w p q r s : ByteArray) : glue w [p, q, r, s] = w ++ ⟨#[32]⟩ ++ p ++ ⟨#[32]⟩ ++ q ++ ⟨#[32]⟩ ++ r ++ ⟨#[32]⟩ ++ s := by
  have h := glue_snoc w [p, q, r] s
  rwa [glue3] at h

/-- The words of the kinds. -/
def words : List ByteArray := [⟨#[108, 101, 110, 100]⟩, ⟨#[116, 111, 117, 99, 104]⟩, ⟨#[108, 97, 115, 116]⟩, ⟨#[98, 97, 99, 107]⟩, ⟨#[116, 105, 99, 107]⟩, ⟨#[112, 111, 119, 101, 114]⟩, ⟨#[102, 105, 108, 101]⟩, ⟨#[109, 97, 107, 101]⟩, ⟨#[114, 101, 109, 111, 118, 101]⟩, ⟨#[102, 105, 108, 108]⟩]

/-- What stands behind the word. -/
def parts (d : Ev) : List ByteArray :=
  if d.kd = 0 then [dt d.cl, dt d.ino, dt d.at_] else
  if d.kd = 1 then [dt d.cl, dt d.at_, hx d.tx] else
  if d.kd = 2 then [dt d.cl, dt d.at_, dt d.tx.size] else
  if d.kd = 3 then [dt d.cl, dt d.ino] else
  if d.kd = 5 then d.kp.map dt else
  if d.kd = 6 then [dt d.cl, dt d.ino, hx d.tx] else
  if d.kd = 7 then [dt d.cl, dt d.ino, dt d.at_, d.tx] else
  if d.kd = 8 then [dt d.cl, dt d.ino, d.tx] else
  if d.kd = 9 then [dt d.cl, dt d.ino, dt d.at_, hx d.tx] else []

/-- An event's text. -/
def text (d : Ev) : ByteArray := if 0 ≤ d.kd ∧ d.kd ≤ 9 then glue (words.getD d.kd.toNat ⟨#[]⟩) (parts d) else ⟨#[]⟩

/-- A package variable that is an array of texts. -/
def StrTab (P : Program) (w : World) (name : String) (ss : List ByteArray) : Prop := w.var? P name = some (ss.map Value.string).toArray

theorem strtab_below {P : Program} {W W' : World} {name : String} {ss : List ByteArray} (h : StrTab P W name ss) (hb : Below W.heap.size W W') : StrTab P W' name ss := by
  unfold StrTab at h ⊢
  obtain ⟨g, hg⟩ : ∃ g, P.globalNamed name = some g := by
    unfold World.var? at h
    cases hq : P.globalNamed name with
    | none => simp [hq] at h
    | some g => exact ⟨g, rfl⟩
  refine var?_below hb hg ?_ h
  unfold World.var? at h
  simp only [hg, Option.bind_some] at h
  cases hq : W.heap[g]? with
  | none => simp [hq] at h
  | some o => exact (Array.getElem?_eq_some_iff.1 hq).1

theorem StrTab.cell {P : Program} {W : World} {name : String} {ss : List ByteArray} {g : Nat} (h : StrTab P W name ss) (hg : P.globalNamed name = some g) (i : Nat) (hi : i < ss.length) :
    W.cell? ⟨g, i, none⟩ = some (.string (ss.getD i ⟨#[]⟩)) := by
  have := World.var?_cell hg h i
  simpa [List.getD, hi] using this

/-- An array of texts that reads as a list of texts holds them, cell for cell. -/
theorem cells_of_strtab {H : Type} {enc : TypeId × Value → H} {P : Program} {w : World} {base : Nat} {sp : Nat → Bool} {held : Bool} {fuel : Nat} {t e : TypeId} {n : Nat} {cs : List Value} {zs : List (List UInt8)} {p : List MemPlace}
    (ht : P.underlying t = some (.array n e)) (he : P.underlying e = some .string) (hce : P.cellsOf e = 1) (hct : P.cellsOf t = n)
    (h : DataW.trod enc P w base sp held fuel t cs = some (.agg (zs.map fun z => .lit (.string z)), p)) : cs = zs.map fun z => Value.string ⟨z.toArray⟩ := by
  cases fuel with
  | zero => simp [DataW.trod] at h
  | succ fuel =>
    simp only [DataW.trod, ht, hce, hct, Nat.mul_one] at h
    split at h
    · rename_i hl
      obtain ⟨xs, hm, hx⟩ := Option.map_eq_some_iff.1 h
      have hxs : xs.map (·.1) = zs.map fun z => (DataW.lit (.string z) : DataW H) := by
        have := congrArg Prod.fst hx
        simpa using this
      have hxl : xs.length = n := by simpa using Lib.mapM_length hm
      have hzl : zs.length = n := by
        have := congrArg List.length hxs
        simp at this
        omega
      apply List.ext_getElem?
      intro i
      by_cases hi : i < n
      · obtain ⟨b, hb, hf⟩ := Lib.mapM_at hm i i (by simp [hi])
        obtain ⟨z, hc, rfl, _⟩ := DataW.trod_string he hf
        have h1 : cs[i]? = some (.string z) := by
          have := congrArg (·[0]?) hc
          simpa [List.getElem?_take, List.getElem?_drop] using this
        have h2 : (xs.map (·.1))[i]? = some (DataW.lit (.string z.data.toList) : DataW H) := by simp [hb]
        rw [hxs] at h2
        simp only [List.getElem?_map, Option.map_eq_some_iff, DataW.lit.injEq, Lit.string.injEq] at h2
        obtain ⟨z', hz', hzz⟩ := h2
        rw [h1, List.getElem?_map, hz', Option.map_some, hzz]
      · rw [List.getElem?_eq_none (by omega), List.getElem?_eq_none (by simp; omega)]
    · cases h

/-- .. where it stands at some place of what a row lists. -/
theorem strtab_mem {P : Program} {W : World} {name : String} {zs : List (List UInt8)} {g : Nat} {t e : TypeId} {n : Nat}
    (hg : P.globalNamed name = some g) (hty : (P.globals[g]?).map (·.type) = some t) (ht : P.underlying t = some (.array n e)) (he : P.underlying e = some .string) (hce : P.cellsOf e = 1) (hct : P.cellsOf t = n) :
    ∀ (l : List (String × DataW Unit)) (ps : List MemPlace), DataW.LaidVars P W l ps → ∀ j : Nat, l[j]? = some (name, .agg (zs.map fun z => .lit (.string z))) → StrTab P W name (zs.map fun z => ⟨z.toArray⟩)
  | [], _, _, j, hj => by simp at hj
  | (n0, d0) :: l, ps, h, 0, hj => by
    obtain ⟨g', t', cs, fuel, p, q, hg', ht', hvar, hd, _, _⟩ := h
    obtain ⟨rfl, rfl⟩ : n0 = name ∧ d0 = .agg (zs.map fun z => .lit (.string z)) := by simpa using hj
    obtain rfl := Option.some.inj (hg.symm.trans hg')
    obtain rfl := Option.some.inj (hty.symm.trans ht')
    have hc := cells_of_strtab ht he hce hct hd
    unfold StrTab
    rw [hvar]
    congr 1
    apply Array.toList_inj.1
    rw [hc]
    simp
  | (n0, d0) :: l, ps, h, j + 1, hj => by
    obtain ⟨g', t', cs, fuel, p, q, _, _, _, _, hr, _⟩ := h
    exact strtab_mem hg hty ht he hce hct l q hr j (by simpa using hj)

theorem vars_two {H : Type} {enc : TypeId × Value → H} {P : Program} {w : World} {sp : Nat → Bool} {n m : String} {gs : List (DataW H)} {ps : List MemPlace} (h : DataW.TrodVars enc P w sp [n, m] gs ps) : ∃ g1 g2, gs = [g1, g2] := by
  match gs, h with
  | [], h => exact h.elim
  | g1 :: r, h =>
    obtain ⟨_, _, _, _, _, q, _, _, _, _, h2, _⟩ := h
    obtain ⟨g2, rfl⟩ := L0.vars_one h2
    exact ⟨g1, g2, rfl⟩

section Args
variable {H : Type} {enc : TypeId × Value → H} {w : World}

theorem array6 {α : Type} {cs : Array α} (h : cs.size = 6) : ∃ x0 x1 x2 x3 x4 x5, cs = #[x0, x1, x2, x3, x4, x5] := by
  obtain ⟨l⟩ := cs
  match l, h with
  | [x0, x1, x2, x3, x4, x5], _ => exact ⟨x0, x1, x2, x3, x4, x5, rfl⟩

theorem open_any {r : Reach} {b0 : Nat} {t : TypeId} {fs : Array Field} {v : Value} {x : DataW H} {p : List MemPlace} (hs : Tryd.prog.underlying t = some (.struct fs)) (hone : oneCellFields Tryd.prog fs = true) (hC : Tryd.prog.cellsOf t = fs.size)
    (hv : Value.okWide Tryd.prog w r b0 t v) (h : DataW.Trod enc Tryd.prog w 0 (fun _ => true) true t v x p) :
    ∃ (cs : Array Value) (n : Nat), v = .agg cs ∧ cs.size = fs.size ∧ ∀ (i : Nat) (f : Field) (c : Value), fs[i]? = some f → cs[i]? = some c → ∃ y, DataW.trod enc Tryd.prog w 0 (fun _ => true) true n f.type [c] = some y := by
  obtain ⟨cs, rfl, hsz⟩ := okWide_struct hs hv
  obtain ⟨fuel, hf⟩ := h
  obtain ⟨xs, n, _, _, _, hlen, hall⟩ := DataW.trod_struct hs hf
  refine ⟨cs, n, rfl, hsz.trans hC, fun i f c hi hc => ?_⟩
  obtain ⟨o, k⟩ := hone_of hone i f hi
  have hlt : i < fs.size := (Array.getElem?_eq_some_iff.1 hi).1
  have h1 := hall i f hi
  rw [o, k, List.getElem?_eq_getElem (by omega)] at h1
  have hci : i < cs.toList.length := by rw [Array.length_toList]; omega
  have e : ((Value.agg cs).cells.toList.drop i).take 1 = [c] := by
    show (cs.toList.drop i).take 1 = [c]
    rw [List.drop_eq_getElem_cons hci]
    have : cs.toList[i] = c := by
      rw [← Array.getElem?_toList, List.getElem?_eq_getElem hci] at hc
      exact Option.some.inj hc
    rw [this]
    rfl
  rw [e] at h1
  exact ⟨_, h1⟩

theorem open_row {fuel : Nat} {v : Value} {x : DataW H × List MemPlace} (h : DataW.trod enc Tryd.prog w 0 (fun _ => true) true fuel 22 [v] = some x) :
    ∃ (a : Option Addr) (c : Nat) (zs : List Int), v = .slice a zs.length c ∧ zs.length ≤ c ∧ c ≤ maxLen ∧ P0.Row w a zs ∧ ∀ z ∈ zs, (Lit.int .i64 z).wf = true := by
  rcases open_ints Tryd.underlying22 Tryd.underlying3 (by kernel_rfl) h with ⟨hcs, _⟩ | ⟨a, len, cap, zs, hcs, _, hl, hm, hz, _, hcell, hwf⟩
  · simp at hcs
    exact ⟨none, 0, [], hcs, Nat.le_refl _, Nat.zero_le _, Or.inl rfl, fun z hz => by cases hz⟩
  · simp at hcs hz
    have hlen : (zs.take len).length = len := by simp; omega
    by_cases h0 : zs.length = 0
    · have hl0 : len = 0 := by omega
      refine ⟨some a, cap, [], ?_, Nat.zero_le _, hm, Or.inl rfl, fun z hz => by cases hz⟩
      rw [hcs, hl0]
      rfl
    · obtain ⟨b, off, rfl, hc⟩ := ints_at hcell (by omega)
      have hb : b < w.heap.size := I2.cell_lt (hc 0 (by omega))
      exact ⟨some ⟨b, off, none⟩, cap, zs.take len, by rw [hcs, hlen], by omega, hm, I2.take_row hb (by omega) hc, fun z hz => hwf z (List.mem_of_mem_take hz)⟩

theorem cells : Tryd.prog.cellsOf 24 = 6 := by kernel_rfl

theorem open_event {r : Reach} {b0 : Nat} {v : Value} {x : DataW H} {p : List MemPlace} (hv : Value.okWide Tryd.prog w r b0 24 v) (h : DataW.Trod enc Tryd.prog w 0 (fun _ => true) true 24 v x p) :
    ∃ (d : Ev) (a : Option Addr) (c : Nat), v = val d a c ∧ Fit d ∧ P0.Row w a d.kp := by
  obtain ⟨cs, n, rfl, hsz, hf⟩ := open_any Tryd.underlying24 (by kernel_rfl) cells hv h
  obtain ⟨x0, x1, x2, x3, x4, x5, rfl⟩ := array6 hsz
  obtain ⟨y0, h0⟩ := hf 0 _ x0 rfl rfl
  obtain ⟨y1, h1⟩ := hf 1 _ x1 rfl rfl
  obtain ⟨y2, h2⟩ := hf 2 _ x2 rfl rfl
  obtain ⟨y3, h3⟩ := hf 3 _ x3 rfl rfl
  obtain ⟨y4, h4⟩ := hf 4 _ x4 rfl rfl
  obtain ⟨y5, h5⟩ := hf 5 _ x5 rfl rfl
  obtain ⟨kd, e0, _, w0⟩ := DataW.trod_int Tryd.underlying3 h0
  obtain ⟨cl, e1, _, w1⟩ := DataW.trod_int Tryd.underlying3 h1
  obtain ⟨ino, e2, _, w2⟩ := DataW.trod_int Tryd.underlying3 h2
  obtain ⟨at_, e3, _, w3⟩ := DataW.trod_int Tryd.underlying3 h3
  obtain ⟨tx, e4, _, w4⟩ := DataW.trod_string Tryd.underlying9 h4
  obtain ⟨a, c, kp, rfl, p1, p2, R, w5⟩ := open_row h5
  simp at e0 e1 e2 e3 e4
  subst e0 e1 e2 e3 e4
  exact ⟨⟨kd, cl, ino, at_, tx, kp⟩, a, c, rfl, ⟨w0, w1, w2, w3, w5, w4, Nat.le_trans p1 p2⟩, R⟩
end Args
end Go.Proofs.YtjajclifjojblaaDoor.EV
