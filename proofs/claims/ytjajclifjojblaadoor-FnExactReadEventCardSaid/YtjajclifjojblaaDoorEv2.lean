/- Rows of texts that a call makes; contracts of spec.l08Hex, impl.hexOrDash and impl.decTexts. -/
import Derived.Test.YtjajclifjojblaaDoorEv1
import Derived.Test.YtjajclifjojblaaDoorDec2
import Derived.Test.YtjajclifjojblaaDoorIB0
import Derived.Test.YtjajclifjojblaaDoorWords0
import Derived.Lib.AppendZerosOnto
import Derived.Lib.ItoaLen
namespace Go.Proofs.YtjajclifjojblaaDoor.EX
open Go.ChangeShapes Go.WideShapes Go.ChangeAt Go.RowKit
set_option linter.unusedVariables false
set_option linter.unusedSimpArgs false
set_option maxRecDepth 10000

open EV (Ev val vals Fit hx dt)

variable {base n cap : Nat} {a : Option Addr} {w W W' : World} {ss : List ByteArray}

/-- A row of texts in memory. -/
def SRow (W : World) (a : Option Addr) (ss : List ByteArray) : Prop := ss = [] ∨ ∃ b off, a = some ⟨b, off, none⟩ ∧ b < W.heap.size ∧ ∀ j (hj : j < ss.length), W.cell? ⟨b, off + j, none⟩ = some (.string ss[j])
theorem SRow.below (h : SRow W a ss) (hb : Below W.heap.size W W') : SRow W' a ss := h.imp id fun ⟨b, off, e, hl, hc⟩ => ⟨b, off, e, Nat.lt_of_lt_of_le hl hb.size, fun j hj => (hb.cell (p := ⟨b, off + j, none⟩) hl).trans (hc j hj)⟩
theorem SRow.drew (h : SRow W a ss) : SRow W.drew a ss := h

/-- A row of texts of a call's own. -/
def SBuf (base : Nat) (w : World) (a : Option Addr) (n cap : Nat) (ss : List ByteArray) : Prop := n = ss.length ∧ w.ownsRow base 9 1 (.slice a n cap) n (W0.strs ss)
theorem SBuf.below (h : SBuf base w a n cap ss) (hb : Below w.heap.size w W) : SBuf base W a n cap ss := ⟨h.1, W0.owns_below h.2 hb⟩
theorem sbuf_made (w : World) (hb : base ≤ w.heap.size) : SBuf base (w.alloc (.cells #[] 9)) (some ⟨w.heap.size, 0, none⟩) 0 0 [] := ⟨rfl, World.ownsRow_made w #[] 0 hb (Nat.zero_le _) rfl⟩
theorem sbuf_one (w : World) (x : ByteArray) (hb : base ≤ w.heap.size) : SBuf base (w.alloc (.cells #[.string x] 9)) (some ⟨w.heap.size, 0, none⟩) 1 1 [x] :=
  ⟨rfl, rfl, Or.inr ⟨w.heap.size, 1, #[.string x], rfl, hb, heap_alloc_new w _, Nat.le_refl _, by unfold maxLen; omega, rfl, rfl⟩⟩
theorem SBuf.fits (h : SBuf base w a n cap ss) : n ≤ cap := by
  rcases h.2.2 with ⟨h0, h1⟩ | ⟨g, c, cur, hv, _, _, hle, _⟩
  · omega
  · simp at hv
    omega
theorem SBuf.row (h : SBuf base w a n cap ss) : SRow w a ss := by
  rcases h.2.2 with ⟨h0, h1⟩ | ⟨g, c, cur, hv, hg, hc, hle, _, hs, ht⟩
  · left
    exact List.eq_nil_of_length_eq_zero (by rw [← h.1]; exact h1)
  · right
    simp at hv
    have hn := h.1
    refine ⟨g, 0, hv.1, (Array.getElem?_eq_some_iff.1 hc).1, fun j hj => ?_⟩
    have hcell : w.cell? ⟨g, 0 + j, none⟩ = cur[j]? := by
      unfold World.cell?
      rw [hc]
      simp
    have e1 : (cur.toList.take (n * 1))[j]? = (W0.strs ss)[j]? := by rw [ht]
    rw [List.getElem?_take_of_lt (by omega)] at e1
    rw [hcell, ← Array.getElem?_toList, e1]
    simp [hj]

theorem infoS : (Tryd.prog.info? 9).map (fun i => (i.zero, i.size, i.bytes)) = some (some (.string ⟨#[]⟩), 1, 16) := by kernel_rfl
theorem strs_one (xs : List ByteArray) : ∀ u ∈ W0.strs xs, u.oneCell' = true := by
  intro u h
  simp at h
  obtain ⟨z, _, rfl⟩ := h
  rfl
theorem run_append_none {P : Program} (w : World) (t ty e : TypeId) (i : TypeInfo) (ht : P.underlying t = some (.slice e)) (hi : P.info? e = some i) (b : Option Addr) (n cap : Nat) (hle : n ≤ cap) (ax : Option Addr) (cx : Nat) :
    (Builtin.append_ #[t, t] ty #[.slice b n cap, .slice ax 0 cx]).run P w = .ok (.slice b n cap) w := by
  cases b <;> cases ax <;> simp [Builtin.append_, run_underlying ht, sizeOf, typeInfo, hi, Builtin.lenOf, Builtin.firstCells, loadCells, loadCellsFrom, storeCells, hle]

/-- 'list = append(list, others...)'. -/
theorem append_strs {ops : Array Oper} {rest : List Oper} {o : Oper} {A : Act} {Q : Exit → Act → World → Prop} (hgd : o.guard = none) (sl x : Operand)
    (ho : o.op = .call { callee := .builtin .append, args := #[sl, x], argTypes := #[30, 30] })
    (hbuf : SBuf base w a n cap ss) (ax : Option Addr) (cx : Nat) (xs : List ByteArray) (hs : A.eval sl = .slice a n cap) (hx : A.eval x = .slice ax xs.length cx) (hR : SRow w ax xs) (hlen : n + xs.length ≤ 4194304) (hb : base ≤ w.heap.size)
    (h : ∀ a' cap' w', SBuf base w' a' (n + xs.length) cap' (ss ++ xs) → Below base w w' → wpList Tryd.prog ops Q rest (A.put o.dst (.slice a' (n + xs.length) cap')) w') : wpList Tryd.prog ops Q (o :: rest) A w := by
  obtain ⟨i0, hi, hz0, hz1, hz2⟩ := info_parts infoS
  by_cases h0 : xs = []
  · subst h0
    refine Lib.wpList_append_run _ hgd sl x 30 30 ho _ _ hs hx _ _ (run_append_none w 30 _ 9 i0 Tryd.underlying30 hi a n cap hbuf.fits ax cx) ?_
    exact h a cap w (by rw [List.append_nil]; exact hbuf) (Below.refl _ _)
  · rcases hR with hR | ⟨b, off, rfl, hb2, hc⟩
    · exact absurd hR h0
    · have hm : 0 < xs.length := List.length_pos_iff.2 h0
      refine wpList_append_lies _ hgd sl x 30 ho base 9 i0 (.string ⟨#[]⟩) 1 16 Tryd.underlying30 hi hz0 hz1 hz2 rfl (by omega) _ n _ hs hbuf.2 ⟨b, off, none⟩ xs.length cx (W0.strs xs) hx (by simp) ?_ (strs_one xs) hm (by unfold maxLen; omega) (by omega) hb _ rfl ?_
      · intro j u hj
        have hj' : j < xs.length := by
          have := (List.getElem?_eq_some_iff.1 hj).1
          simpa using this
        rw [B0.add_off, hc j hj', ← hj]
        simp [hj']
      · intro g' cap' w' ho' hg' _ _
        refine h (some ⟨g', 0, none⟩) cap' w' ⟨by rw [hbuf.1]; simp, ?_⟩ ?_
        · rw [show W0.strs (ss ++ xs) = W0.strs ss ++ W0.strs xs by simp]
          exact ho'
        · exact W0.below_grown (Below.refl _ _) hg' (fun g hg => (hbuf.2.lt g hg).1) hb

theorem row_new (w : World) (ys : List ByteArray) (T : TypeId) : SRow (w.alloc (.cells (W0.strs ys).toArray T)) (some ⟨w.heap.size, 0, none⟩) ys := by
  have k := K0.blk_new (W0.strs ys) w T
  refine Or.inr ⟨w.heap.size, 0, rfl, k.lt, fun j hj => ?_⟩
  rw [Nat.zero_add, k.cell j (by simpa using hj)]
  simp

theorem spec_hex (s : ByteArray) (w : World) (hs : s.size ≤ 281474976710656) :
    Calls Tryd.prog 28 #[.string s] w fun e w' => e = .returned (.string (hx s)) ∧ ∃ n, w' = w.drewN n := by
  by_cases h : s.size = 0
  · have e : hx s = ⟨#[45]⟩ := if_pos h
    have es : s = ⟨#[]⟩ := by
      apply ByteArray.ext
      exact Array.eq_empty_of_size_eq_zero h
    rw [e]
    subst es
    go_enter Tryd.func28, Tryd.ntmps28
    go_wp2
    go_ret
    exact ⟨rfl, 0, rfl⟩
  · have e : hx s = H1.hex s := if_neg h
    rw [e]
    have hne : (s.toList == []) = false := by
      rw [ByteArray.toList_eq]
      simp
      intro h'
      exact h (by rw [Lib.size_eq, h']; rfl)
    have HH : Hid (∀ W, Calls Tryd.prog 35 #[.string s] W fun e w' => e = .returned (.string (H1.hex s)) ∧ ∃ n, w' = W.drewN n) := fun W => H1.spec_Hex s W hs
    go_enter Tryd.func28, Tryd.ntmps28
    go_wp2_with (go_at_call 35; refine (HH.out _).mono ?_; rintro e w1 ⟨rfl, n, rfl⟩)
    go_ret
    exact ⟨rfl, n, rfl⟩

theorem dt_size (n : Int) (hn : (Lit.int .i64 n).wf = true) : (dt n).size ≤ 22 := by
  have hb : -9223372036854775808 ≤ n ∧ n ≤ 9223372036854775807 := by simpa [Lit.wf, IntKind.min, IntKind.max, IntKind.signed, IntKind.bits] using hn
  show (Lib.itoa n).toArray.size ≤ 22
  rw [List.size_toArray]
  by_cases h0 : n = 0
  · subst h0
    have e : Lib.itoa 0 = [48] := by unfold Lib.itoa; rw [if_neg (by omega)]; exact Lib.decDigits_one (by omega)
    rw [e]
    decide
  · by_cases h1 : 0 < n
    · obtain ⟨v, rfl⟩ : ∃ v : Nat, n = (v : Int) := ⟨n.toNat, by omega⟩
      rw [D0.itoa_pos v (by omega)]
      have := D0.dd_length v (by omega)
      omega
    · obtain ⟨v, rfl⟩ : ∃ v : Nat, n = -(v : Int) := ⟨n.natAbs, by omega⟩
      rw [D0.itoa_neg v (by omega)]
      have := D0.dd_length v (by omega)
      simp
      omega

/-- The two tables of numbers. -/
structure Tabs (w : World) : Prop where
  p : Lib.TabIs Tryd.prog w "internal/strconv.uint64pow10" .u64 Lib.pow10Tab
  h : Lib.TabIs Tryd.prog w "loop.example/g00278/impl.hexDigits" .u8 H1.tab
  e : EV.StrTab Tryd.prog w "loop.example/g00278/impl.eventWords" EV.words
theorem Tabs.below (t : Tabs w) (hb : Below w.heap.size w W) : Tabs W := ⟨L0.tab_below t.p hb, L0.tab_below t.h hb, EV.strtab_below t.e hb⟩

end Go.Proofs.YtjajclifjojblaaDoor.EX
