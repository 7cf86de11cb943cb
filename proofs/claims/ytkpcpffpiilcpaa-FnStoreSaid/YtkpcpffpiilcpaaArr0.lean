/- Small facts on rows of bytes within a block, over any program; the zero value of the lines of a device. -/
import Derived.Test.YtkpcpffpiilcpaaLib0
import Derived.Test.YtkpcpffpiilcpaaRows
import Derived.Deep.MidRow
import Derived.Deep.WholeRow
namespace Go.Proofs.Ytkpcpffpiilcpaa.A0
open Go.RowKit
set_option linter.unusedVariables false

theorem zeroLines : (Try.prog.info? 67).map (fun i => (i.zero, i.size)) = some (some (.agg (Array.replicate 768 (.int .u8 0))), 768) := by kernel_rfl
theorem infoByte : (Try.prog.info? 5).map (·.size) = some 1 := by kernel_rfl
theorem infoLine : (Try.prog.info? 65).map (·.size) = some 8 := by kernel_rfl

variable {P : Program}

/-- 'copy(b, t)', t a string that has at least as many bytes as b. -/
theorem copy_head (w : World) (dT sT ty elem : TypeId) (b o n cap : Nat) (t : ByteArray) (hu : P.underlying dT = some (.slice elem)) (hs : (P.info? elem).map (·.size) = some 1) (hle : n ≤ t.size) (ht : w.there b o n) :
    (Builtin.copy_ #[dT, sT] ty #[.slice (some ⟨b, o, none⟩) n cap, .string t]).run P w = .ok (goInt n) (w.setCells b o (Lib.byteCells (t.data.toList.take n))) := by
  have hlen : (Lib.byteCells (t.data.toList.take n)).length = n := by rw [Lib.byteCells_length, List.length_take, ← Lib.size_eq]; omega
  have hst := run_storeCells_cells (P := P) b o (Lib.byteCells (t.data.toList.take n)) 0 w (by rw [hlen]; intro j hj; simpa using (ht j hj).1) (by rw [hlen]; intro j hj; simpa using (ht j hj).2) (Lib.byteCells_one _)
  have hmin : Nat.min t.size n = n := Nat.min_eq_right hle
  have htk : List.take n (List.map (fun b : UInt8 => Value.int IntKind.u8 (b.toNat : Int)) t.data.toList) = Lib.byteCells (t.data.toList.take n) := by simp [Lib.byteCells, List.map_take]
  cases hq : P.info? elem with
  | none => simp [hq] at hs
  | some i =>
    simp only [Nat.add_zero] at hst
    simp [Builtin.copy_, run_underlying hu, Builtin.lenOf, Builtin.firstCells, sizeOf, typeInfo, hq, hmin, htk, hst]

/-- One result in a cell. -/
theorem results_cell {fn : Func} {p : Tmp} {ty : TypeId} (h : fn.results = #[.cell p ty]) (tmps : Array Value) (P : Program) (w : World) :
    (results fn tmps).run P w = ((asAddr (tmps.getD p undef)).run P w).andThen fun a w₁ => (loadVar ty a).run P w₁ := by
  simp only [results, h]
  simp [Sem.run_bind, Result.andThen]

theorem holds_of_range {w : World} {b o : Nat} {l : List UInt8} (h : w.rangeAt b o (Lib.byteCells l)) : B0.Holds w b o l := fun j hj => h j _ (by simp [Lib.byteCells, hj])

/-- A part of a row. -/
theorem rangeAt_part {w : World} {b o : Nat} {x : List Value} (h : w.rangeAt b o x) (k n : Nat) : w.rangeAt b (o + k) ((x.drop k).take n) := fun j v hj => by
  rw [List.getElem?_take] at hj
  split at hj
  · rw [List.getElem?_drop] at hj
    have := h _ v hj
    rwa [← Nat.add_assoc] at this
  · cases hj

theorem bytes_part (l : List UInt8) (k n : Nat) : ((Lib.byteCells l).drop k).take n = Lib.byteCells ((l.drop k).take n) := by simp [Lib.byteCells, List.map_drop, List.map_take]

theorem there_new (w : World) (C : Array Value) (T : TypeId) : (w.alloc (.cells C T)).there w.heap.size 0 C.size := fun j hj => by
  rw [Nat.zero_add]
  refine ⟨?_, ?_⟩
  · rw [World.cell?_alloc_mark]; simp [hj]
  · simp [World.frozen?_alloc_mark]

theorem rangeAt_nil (w : World) (b o : Nat) : w.rangeAt b o [] := fun j v h => by simp at h

/-- A row that lies behind another makes one with it. -/
theorem rangeAt_snoc {w : World} {b o : Nat} {x y : List Value} (h : w.rangeAt b o x) (k : w.rangeAt b (o + x.length) y) : w.rangeAt b o (x ++ y) := fun j v hj => by
  by_cases hl : j < x.length
  · rw [List.getElem?_append_left hl] at hj; exact h j v hj
  · rw [List.getElem?_append_right (by omega)] at hj
    have := k _ v hj
    rwa [show o + x.length + (j - x.length) = o + j by omega] at this

theorem rangeAt_below {w w' : World} {B b o : Nat} {x : List Value} (h : w.rangeAt b o x) (hb : Below B w w') (hB : b < B) : w'.rangeAt b o x := fun j v hj => (hb.cell (p := ⟨b, o + j, none⟩) hB).trans (h j v hj)
theorem there_below {w w' : World} {B b o n : Nat} (h : w.there b o n) (hb : Below B w w') (hB : b < B) : w'.there b o n := fun j hj => by
  rw [hb.cell (p := ⟨b, o + j, none⟩) hB, hb.frozen (p := ⟨b, o + j, none⟩) hB]; exact h j hj
theorem there_sub {w : World} {b o n o' n' : Nat} (h : w.there b o n) (h1 : o ≤ o') (h2 : o' + n' ≤ o + n) : w.there b o' n' := fun j hj => by
  have := h (o' - o + j) (by omega)
  rwa [show o + (o' - o + j) = o' + j by omega] at this

/-- An append whose run is known, at the list of a plain region's operations. -/
theorem wpList_append_run {w w' : World} {v' sv xv : Value} {ops : Array Oper} {rest : List Oper} {o : Oper} {a : Act} {Q : Exit → Act → World → Prop} (hgd : o.guard = none) (s x : Operand) (t : TypeId)
    (ho : o.op = .call { callee := .builtin .append, args := #[s, x], argTypes := #[t, t] }) (hs : a.eval s = sv) (hx : a.eval x = xv)
    (hr : (Builtin.append_ #[t, t] o.type #[sv, xv]).run P w = .ok v' w') (h : wpList P ops Q rest (a.put o.dst v') w') : wpList P ops Q (o :: rest) a w := by
  refine wpList_plain hgd fun K hK => ?_
  unfold Oper.wp execOp
  simp only [ho, resolve, invoke, builtin, Sem.run_bind, Sem.run_pure, Result.andThen_ok, List.map_toArray, List.map_cons, List.map_nil, hs, hx, hr]
  exact hK _ _ h

/-- A part of a new value is laid into its cells. -/
theorem fill_part (off : Nat) : ∀ (l : List Value) (n : Nat) (Z : Array Value), off + n + l.length ≤ Z.size →
    ((l.zipIdx n).foldl (fun (cs : Array Value) (p : Value × Nat) => cs.setIfInBounds (off + p.2) p.1) Z).toList = Z.toList.take (off + n) ++ l ++ Z.toList.drop (off + n + l.length)
  | [], n, Z, h => by simp
  | v :: r, n, Z, h => by
    simp only [List.length_cons] at h
    rw [List.zipIdx_cons, List.foldl_cons, fill_part off r (n + 1) _ (by simp; omega)]
    have hlt : off + n < Z.toList.length := by simp; omega
    rw [show off + (n + 1) = off + n + 1 by omega]
    simp only [Array.toList_setIfInBounds, List.length_cons]
    have hm : min (off + n) Z.toList.length = off + n := by omega
    have e1 : (Z.toList.set (off + n) v).take (off + n + 1) = Z.toList.take (off + n) ++ [v] := by
      rw [List.set_eq_take_append_cons_drop, if_pos hlt, List.take_append, List.length_take, hm, List.take_take]
      rw [show min (off + n + 1) (off + n) = off + n by omega, show off + n + 1 - (off + n) = 1 by omega]
      rfl
    have e2 : (Z.toList.set (off + n) v).drop (off + n + 1 + r.length) = Z.toList.drop (off + n + (r.length + 1)) := by
      rw [List.drop_set_of_lt (by omega)]
      congr 1
      omega
    rw [e1, e2]
    simp

theorem fill_two (A B Z : Array Value) (h : Z.size = A.size + B.size) :
    (Array.foldl (fun (cs : Array Value) (x : Value × Nat) => cs.setIfInBounds (0 + x.snd) x.fst) Z A.zipIdx).size = Z.size ∧
    Array.foldl (fun (cs : Array Value) (x : Value × Nat) => cs.setIfInBounds (A.size + x.snd) x.fst) (Array.foldl (fun (cs : Array Value) (x : Value × Nat) => cs.setIfInBounds (0 + x.snd) x.fst) Z A.zipIdx) B.zipIdx = A ++ B := by
  have hAl : A.toList.length = A.size := by simp
  have hBl : B.toList.length = B.size := by simp
  have hZl : Z.toList.length = Z.size := by simp
  have hf1 := fill_part 0 A.toList 0 Z (by rw [hAl]; omega)
  have e1 : (Array.foldl (fun (cs : Array Value) (x : Value × Nat) => cs.setIfInBounds (0 + x.snd) x.fst) Z A.zipIdx).toList = A.toList ++ Z.toList.drop A.size := by
    rw [← Array.foldl_toList, Array.toList_zipIdx, hf1, hAl, Nat.zero_add, Nat.zero_add]
    rfl
  generalize Array.foldl (fun (cs : Array Value) (x : Value × Nat) => cs.setIfInBounds (0 + x.snd) x.fst) Z A.zipIdx = G at e1
  have hGl : G.toList.length = G.size := by simp
  have hG : G.size = Z.size := by rw [← hGl, e1, List.length_append, List.length_drop, hAl, hZl]; omega
  refine ⟨hG, ?_⟩
  have hf2 := fill_part A.size B.toList 0 G (by rw [hBl]; omega)
  apply Array.toList_inj.1
  rw [← Array.foldl_toList, Array.toList_zipIdx, hf2, Nat.add_zero, hBl, e1, List.take_append_of_le_length (by omega), List.take_of_length_le (by omega), List.drop_of_length_le (by rw [List.length_append, List.length_drop, hAl, hZl]; omega), List.append_nil, Array.toList_append]
end Go.Proofs.Ytkpcpffpiilcpaa.A0
