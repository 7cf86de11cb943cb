/- Joined texts: plain facts and contracts. -/
import Derived.Test.YtljnkicgahepfaaGreatDoorJlA
import Derived.Test.YtljnkicgahepfaaGreatDoorRows
import Derived.Deep.MidRow
import Derived.Deep.WholeRow
import Derived.WalkKit
import Derived.ProofKit
import Derived.Test.YtljnkicgahepfaaGreatDoorJlG
import Derived.Test.YtljnkicgahepfaaGreatDoorJlC
import Derived.Deep.RegionWith
import Derived.Lib.SmallJoins
import Derived.OpenShut
import Derived.ShutString
set_option linter.unusedVariables false
set_option linter.unusedSimpArgs false
set_option maxRecDepth 10000
namespace Go.Proofs.YtljnkicgahepfaaGreatDoor.A0
open Go.RowKit
theorem zeroLines : (Tryz.prog.info? 201).map (fun i => (i.zero, i.size)) = some (some (.agg (Array.replicate 768 (.int .u8 0))), 768) := by kernel_rfl
theorem infoByte : (Tryz.prog.info? 5).map (·.size) = some 1 := by kernel_rfl
theorem infoLine : (Tryz.prog.info? 199).map (·.size) = some 8 := by kernel_rfl
variable {P : Program}
theorem copy_head (w : World) (dT sT ty elem : TypeId) (b o n cap : Nat) (t : ByteArray) (hu : P.underlying dT = some (.slice elem)) (hs : (P.info? elem).map (·.size) = some 1) (hle : n ≤ t.size) (ht : w.there b o n) :
  (Builtin.copy_ #[dT, sT] ty #[.slice (some ⟨b, o, none⟩) n cap, .string t]).run P w = .ok (goInt n) (w.setCells b o (Lib.byteCells (t.data.toList.take n))) := by
 have hlen : (Lib.byteCells (t.data.toList.take n)).length = n := by rw [Lib.byteCells_length, List.length_take, ← Lib.size_eq]; omega
 have hst := run_storeCells_cells (P := P) b o (Lib.byteCells (t.data.toList.take n)) 0 w (by rw [hlen]; intro j hj; simpa using (ht j hj).1) (by rw [hlen]; intro j hj; simpa using (ht j hj).2) (Lib.byteCells_one _)
 have hmin : Nat.min t.size n = n := Nat.min_eq_right hle
 have htk : List.take n (List.map (fun b : UInt8 => Value.int IntKind.u8 (b.toNat : Int)) t.data.toList) = Lib.byteCells (t.data.toList.take n) := by simp [Lib.byteCells, List.map_take]
 cases hq : P.info? elem with
 | none => simp [hq] at hs
 | some i =>
  simp only [Nat.add_zero] at hst
  simp [Builtin.copy_, run_underlying hu, Builtin.lenOf, Builtin.firstCells, sizeOf, typeInfo, hq, hmin, htk, hst]
theorem results_cell {fn : Func} {p : Tmp} {ty : TypeId} (h : fn.results = #[.cell p ty]) (tmps : Array Value) (P : Program) (w : World) :
  (results fn tmps).run P w = ((asAddr (tmps.getD p undef)).run P w).andThen fun a w₁ => (loadVar ty a).run P w₁ := by
 simp only [results, h]
 simp [Sem.run_bind, Result.andThen]
theorem holds_of_range {w : World} {b o : Nat} {l : List UInt8} (h : w.rangeAt b o (Lib.byteCells l)) : B0.Holds w b o l := fun j hj => h j _ (by simp [Lib.byteCells, hj])
theorem rangeAt_part {w : World} {b o : Nat} {x : List Value} (h : w.rangeAt b o x) (k n : Nat) : w.rangeAt b (o + k) ((x.drop k).take n) := fun j v hj => by
 rw [List.getElem?_take] at hj
 split at hj
 ·rw [List.getElem?_drop] at hj
  have := h _ v hj
  rwa [← Nat.add_assoc] at this
 ·cases hj
theorem bytes_part (l : List UInt8) (k n : Nat) : ((Lib.byteCells l).drop k).take n = Lib.byteCells ((l.drop k).take n) := by simp [Lib.byteCells, List.map_drop, List.map_take]
theorem there_new (w : World) (C : Array Value) (T : TypeId) : (w.alloc (.cells C T)).there w.heap.size 0 C.size := fun j hj => by
 rw [Nat.zero_add]
 refine ⟨?_, ?_⟩
 ·rw [World.cell?_alloc_mark]; simp [hj]
 ·simp [World.frozen?_alloc_mark]
theorem rangeAt_nil (w : World) (b o : Nat) : w.rangeAt b o [] := fun j v h => by simp at h
theorem rangeAt_snoc {w : World} {b o : Nat} {x y : List Value} (h : w.rangeAt b o x) (k : w.rangeAt b (o + x.length) y) : w.rangeAt b o (x ++ y) := fun j v hj => by
 by_cases hl : j < x.length
 ·rw [List.getElem?_append_left hl] at hj; exact h j v hj
 ·rw [List.getElem?_append_right (by omega)] at hj
  have := k _ v hj
  rwa [show o + x.length + (j - x.length) = o + j by omega] at this
theorem rangeAt_below {w w' : World} {B b o : Nat} {x : List Value} (h : w.rangeAt b o x) (hb : Below B w w') (hB : b < B) : w'.rangeAt b o x := fun j v hj => (hb.cell (p := ⟨b, o + j, none⟩) hB).trans (h j v hj)
theorem there_below {w w' : World} {B b o n : Nat} (h : w.there b o n) (hb : Below B w w') (hB : b < B) : w'.there b o n := fun j hj => by
 rw [hb.cell (p := ⟨b, o + j, none⟩) hB, hb.frozen (p := ⟨b, o + j, none⟩) hB]; exact h j hj
theorem there_sub {w : World} {b o n o' n' : Nat} (h : w.there b o n) (h1 : o ≤ o') (h2 : o' + n' ≤ o + n) : w.there b o' n' := fun j hj => by
 have := h (o' - o + j) (by omega)
 rwa [show o + (o' - o + j) = o' + j by omega] at this
theorem wpList_append_run {w w' : World} {v' sv xv : Value} {ops : Array Oper} {rest : List Oper} {o : Oper} {a : Act} {Q : Exit → Act → World → Prop} (hgd : o.guard = none) (s x : Operand) (t : TypeId)
  (ho : o.op = .call { callee := .builtin .append, args := #[s, x], argTypes := #[t, t] }) (hs : a.eval s = sv) (hx : a.eval x = xv)
  (hr : (Builtin.append_ #[t, t] o.type #[sv, xv]).run P w = .ok v' w') (h : wpList P ops Q rest (a.put o.dst v') w') : wpList P ops Q (o :: rest) a w := by
 refine wpList_plain hgd fun K hK => ?_
 unfold Oper.wp execOp
 simp only [ho, resolve, invoke, builtin, Sem.run_bind, Sem.run_pure, Result.andThen_ok, List.map_toArray, List.map_cons, List.map_nil, hs, hx, hr]
 exact hK _ _ h
theorem fill_part (off : Nat) : ∀ (l : List Value) (n : Nat) (Z : Array Value), off + n + l.length ≤ Z.size →
  ((l.zipIdx n).foldl (fun (cs : Array Value) (p : Value × Nat) => cs.setIfInBounds (off + p.2) p.1) Z).toList = Z.toList.take (off + n) ++ l ++ Z.toList.drop (off + n + l.length)
 | [], n, Z, h => by simp
 | v :: r, n, Z, h => by
  simp only [List.length_cons] at h
  rw [List.zipIdx_cons, List.foldl_cons, fill_part off r (n + 1) _ (by simp; omega)]
  have hlt : off + n < Z.toList.length := by simp; omega
  rw [show off + (n + 1) = off + n + 1 by omega]
  simp only [Array.toList_setIfInBounds, List.length_cons]
  have hm : min (off + n) Z.toList.length = off + n := by omega
  have e1 : (Z.toList.set (off + n) v).take (off + n + 1) = Z.toList.take (off + n) ++ [v] := by
   rw [List.set_eq_take_append_cons_drop, if_pos hlt, List.take_append, List.length_take, hm, List.take_take]
   rw [show min (off + n + 1) (off + n) = off + n by omega, show off + n + 1 - (off + n) = 1 by omega]
   rfl
  have e2 : (Z.toList.set (off + n) v).drop (off + n + 1 + r.length) = Z.toList.drop (off + n + (r.length + 1)) := by
   rw [List.drop_set_of_lt (by omega)]
   congr 1
   omega
  rw [e1, e2]
  simp
theorem fill_two (A B Z : Array Value) (h : Z.size = A.size + B.size) :
  (Array.foldl (fun (cs : Array Value) (x : Value × Nat) => cs.setIfInBounds (0 + x.snd) x.fst) Z A.zipIdx).size = Z.size ∧
  Array.foldl (fun (cs : Array Value) (x : Value × Nat) => cs.setIfInBounds (A.size + x.snd) x.fst) (Array.foldl (fun (cs : Array Value) (x : Value × Nat) => cs.setIfInBounds (0 + x.snd) x.fst) Z A.zipIdx) B.zipIdx = A ++ B := by
 have hAl : A.toList.length = A.size := by simp
 have hBl : B.toList.length = B.size := by simp
 have hZl : Z.toList.length = Z.size := by simp
 have hf1 := fill_part 0 A.toList 0 Z (by rw [hAl]; omega)
 have e1 : (Array.foldl (fun (cs : Array Value) (x : Value × Nat) => cs.setIfInBounds (0 + x.snd) x.fst) Z A.zipIdx).toList = A.toList ++ Z.toList.drop A.size := by
  rw [← Array.foldl_toList, Array.toList_zipIdx, hf1, hAl, Nat.zero_add, Nat.zero_add]
  rfl
 generalize Array.foldl (fun (cs : Array Value) (x : Value × Nat) => cs.setIfInBounds (0 + x.snd) x.fst) Z A.zipIdx = G at e1
 have hGl : G.toList.length = G.size := by simp
 have hG : G.size = Z.size := by rw [← hGl, e1, List.length_append, List.length_drop, hAl, hZl]; omega
 refine ⟨hG, ?_⟩
 have hf2 := fill_part A.size B.toList 0 G (by rw [hBl]; omega)
 apply Array.toList_inj.1
 rw [← Array.foldl_toList, Array.toList_zipIdx, hf2, Nat.add_zero, hBl, e1, List.take_append_of_le_length (by omega), List.take_of_length_le (by omega), List.drop_of_length_le (by rw [List.length_append, List.length_drop, hAl, hZl]; omega), List.append_nil, Array.toList_append]
end Go.Proofs.YtljnkicgahepfaaGreatDoor.A0
namespace Go.Proofs.YtljnkicgahepfaaGreatDoor.A1
open Go.ChangeShapes Go.WideShapes Go.ChangeAt Go.RowKit
structure Cut (B : Nat) (w : World) (l : List UInt8) (k : Nat) (W : World) : Prop where
 t0 : W.there B 0 768
 t1 : W.there (B + 1) 0 768
 row : W.rangeAt (B + 1) 0 (Lib.byteCells (l.take (k * 8)))
 bel : Below B w W
 lt : B + 1 < W.heap.size
theorem cut_new (w : World) (Z : Array Value) (hZ : Z.size = 768) (l : List UInt8) : Cut w.heap.size w l 0 ((w.alloc (.cells Z 201)).alloc (.cells Z 201)) := by
 have h0 := A0.there_new w Z 201
 have h1 := A0.there_new (w.alloc (.cells Z 201)) Z 201
 rw [World.size_alloc] at h1
 rw [hZ] at h0 h1
 exact ⟨World.there_alloc h0 _, h1, by simpa [Lib.byteCells] using A0.rangeAt_nil _ _ _, ((Below.refl _ _).alloc (Nat.le_refl _) _).alloc (by simp) _, by simp⟩
theorem Cut.drew {B : Nat} {w W : World} {l : List UInt8} {k : Nat} (h : Cut B w l k W) : Cut B w l k W.drew :=
 ⟨by simpa using h.t0, by simpa using h.t1, by simpa using h.row, h.bel.drew, h.lt⟩
theorem Cut.step {B : Nat} {w W : World} {l : List UInt8} {k : Nat} (h : Cut B w l k W) (hl : l.length = 768) (hk : k < 96) : Cut B w l (k + 1) (W.setCells (B + 1) (k * 8) (Lib.byteCells ((l.drop (k * 8)).take 8))) := by
 have hlen : (Lib.byteCells ((l.drop (k * 8)).take 8)).length = 8 := by rw [Lib.byteCells_length, List.length_take, List.length_drop]; omega
 have hpl : (Lib.byteCells (l.take (k * 8))).length = k * 8 := by rw [Lib.byteCells_length, List.length_take]; omega
 refine ⟨World.there_setCells h.t0 _ _ _, World.there_setCells h.t1 _ _ _, ?_, B0.below_setCells (by omega) _ _ _ h.bel, by rw [B0.size_setCells]; exact h.lt⟩
 rw [show (k + 1) * 8 = k * 8 + 8 by omega, List.take_add, Lib.byteCells_append]
 refine A0.rangeAt_snoc (World.rangeAt_setCells_apart h.row _ _ _ (by rw [hpl]; omega)) ?_
 rw [hpl, Nat.zero_add]
 exact World.rangeAt_setCells_same _ _ _ _ (by rw [hlen]; exact A0.there_sub h.t1 (by omega) (by omega))
theorem extract_take (s : ByteArray) (k : Nat) (h : k + 8 ≤ 768) : (s.extract k 768).data.toList.take 8 = (s.data.toList.drop k).take 8 := by
 rw [Lib.extract_data, List.take_take]
 congr 1
 omega
set_option maxHeartbeats 4000000 in
theorem cutLines (s : ByteArray) (w : World) (hs : s.size = 768) :
  Calls Tryz.prog 227 #[.string s] w fun e w' => e = .returned (.agg (Lib.byteCells s.data.toList).toArray) ∧ Below w.heap.size w w' := by
 have hl : s.data.toList.length = 768 := by rw [← Lib.size_eq]; exact hs
 obtain ⟨hz0, hsz⟩ := zero_of_info A0.zeroLines
 obtain ⟨Z, hZ0, hZ⟩ : ∃ Z : Array Value, Z = Array.replicate 768 (.int .u8 0) ∧ Z.size = 768 := ⟨_, rfl, by simp⟩
 rw [← hZ0] at hz0
 clear hZ0
 have h0 := cut_new w Z hZ s.data.toList
 obtain ⟨C, hC⟩ : ∃ C, (Lib.byteCells s.data.toList).toArray = C := ⟨_, rfl⟩
 rw [hC]
 go_enter Tryz.func227, Tryz.ntmps227
 go_wp2
 go_loopw [5] (fun i w' => ∃ k : Nat, k ≤ 96 ∧ i = .int .i64 k ∧ Cut w.heap.size w s.data.toList k w') (fun i _ => 96 - (intOf i).toNat)
 case atStart => exact ⟨0, Nat.zero_le _, rfl, h0⟩
 case round =>
  obtain ⟨k, hk, rfl, hc⟩ := hrel
  by_cases hlt : k < 96
  ·have e1 : (0 : Int) ≤ (k : Int) := by omega
   have e2 : (k : Int) < 96 := by omega
   have e3 : (0 : Int) ≤ (k : Int) * 8 := by omega
   have e4 : (k : Int) * 8 ≤ (s.size : Int) := by omega
   have hd := hc.drew
   have hcp := A0.copy_head (P := Tryz.prog) wr.drew 22 9 3 5 (w.heap.size + 1) (k * 8) 8 8 (s.extract (k * 8) 768) Tryz.underlying22 A0.infoByte (by rw [ByteArray.size_extract]; omega) (A0.there_sub hd.t1 (by omega) (by omega))
   rw [extract_take s (k * 8) (by omega)] at hcp
   have h1 := hd.step hl hlt
   obtain ⟨W1, hW1⟩ : ∃ W1, wr.drew.setCells (w.heap.size + 1) (k * 8) (Lib.byteCells ((s.data.toList.drop (k * 8)).take 8)) = W1 := ⟨_, rfl⟩
   rw [hW1] at hcp h1
   clear hW1
   go_wp2
   go_region
   all_goals
    go_wp2
    go_roundw
    case rel => exact ⟨k + 1, by omega, by go_num, h1⟩
    case measure => simp [intOf]; omega
  ·obtain rfl : k = 96 := by omega
   have hr := hc.row
   rw [List.take_of_length_le (by omega)] at hr
   have hn : (Lib.byteCells s.data.toList).length = 768 := by rw [Lib.byteCells_length, hl]
   have hrr : (wr.setCells w.heap.size 0 (Lib.byteCells s.data.toList)).rangeAt w.heap.size 0 (Lib.byteCells s.data.toList) := World.rangeAt_setCells_same _ _ _ _ (by rw [hn]; exact hc.t0)
   have hlr := run_loadVar_mid (P := Tryz.prog) _ w.heap.size 0 201 _ _ hrr Tryz.underlying201 rfl (by rw [hsz, hn])
   have hb : Below w.heap.size w (wr.setCells w.heap.size 0 (Lib.byteCells s.data.toList)) := B0.below_setCells (Nat.le_refl _) _ _ _ hc.bel
   have hCl : C.toList = Lib.byteCells s.data.toList := by rw [← hC]
   have hCs : C.size = 768 := by rw [← hC]; simpa using hn
   have h1 : C.all (·.oneCell') = true := by rw [← hC]; exact all_oneCell_toArray (Lib.byteCells_one _)
   obtain ⟨W1, hW1⟩ : ∃ W1, wr.setCells w.heap.size 0 (Lib.byteCells s.data.toList) = W1 := ⟨_, rfl⟩
   rw [hW1] at hlr hb
   rw [hC] at hlr
   go_wp2_with (first
    | (refine wpList_load_mid rfl 201 (.tmp 3) rfl (w.heap.size + 1) 0 rfl _ _ hr Tryz.underlying201 rfl (by rw [hsz, hn]) ?_; rw [hC])
    | (refine wpList_store_mid rfl 201 (.tmp 2) (.tmp 17) rfl w.heap.size 0 C rfl rfl (by rw [hCs]; exact hc.t0) (by rw [hsz, hCs]) h1 ?_; rw [hCl, hW1]))
   refine bodyPost_ret (v := .agg C) ?_ rfl ⟨rfl, hb⟩
   rw [A0.results_cell rfl]
   show ((asAddr (.pointer (some ⟨w.heap.size, 0, none⟩))).run Tryz.prog W1).andThen _ = _
   simp only [asAddr, Sem.run_pure, Result.andThen_ok, hlr]
end Go.Proofs.YtljnkicgahepfaaGreatDoor.A1
namespace Go.Proofs.YtljnkicgahepfaaGreatDoor.D2
open Go.ChangeShapes Go.WideShapes Go.ChangeAt Go.RowKit
structure Fr (B : Nat) (w : World) (a b : ByteArray) (W : World) : Prop where
 c0 : W.cell? ⟨B, 0, none⟩ = some (.string a)
 c1 : W.cell? ⟨B, 1, none⟩ = some (.string b)
 r0 : W.cell? ⟨B + 1, 0, none⟩ = some (.string ⟨#[]⟩)
 r1 : W.cell? ⟨B + 1, 1, none⟩ = some (.string ⟨#[]⟩)
 f0 : W.frozen? ⟨B + 1, 0, none⟩ = false
 f1 : W.frozen? ⟨B + 1, 1, none⟩ = false
 g0 : W.frozen? ⟨B, 0, none⟩ = false
 g1 : W.frozen? ⟨B, 1, none⟩ = false
 lt : B + 1 < W.heap.size
 bel : Below B w W
theorem Fr.below {B : Nat} {w W W' : World} {a b : ByteArray} (h : Fr B w a b W) (hb : Below W.heap.size W W') : Fr B w a b W' :=
  ⟨(hb.cell (p := ⟨B, 0, none⟩) (by have := h.lt; show B < _; omega)).trans h.c0, (hb.cell (p := ⟨B, 1, none⟩) (by have := h.lt; show B < _; omega)).trans h.c1,
   (hb.cell (p := ⟨B + 1, 0, none⟩) h.lt).trans h.r0, (hb.cell (p := ⟨B + 1, 1, none⟩) h.lt).trans h.r1,
   (hb.frozen (p := ⟨B + 1, 0, none⟩) h.lt).trans h.f0, (hb.frozen (p := ⟨B + 1, 1, none⟩) h.lt).trans h.f1,
   (hb.frozen (p := ⟨B, 0, none⟩) (by have := h.lt; show B < _; omega)).trans h.g0, (hb.frozen (p := ⟨B, 1, none⟩) (by have := h.lt; show B < _; omega)).trans h.g1,
   Nat.lt_of_lt_of_le h.lt hb.size, h.bel.trans (hb.mono (by have := h.lt; omega))⟩
theorem Fr.drew {B : Nat} {w W : World} {a b : ByteArray} (h : Fr B w a b W) : Fr B w a b W.drew := ⟨h.c0, h.c1, h.r0, h.r1, h.f0, h.f1, h.g0, h.g1, h.lt, h.bel.drew⟩
theorem fr_new (a b : ByteArray) (w : World) : Fr w.heap.size w a b ((w.alloc (.cells #[.string a, .string b] 25)).alloc (.cells #[.string ⟨#[]⟩, .string ⟨#[]⟩] 25)) := by
 refine ⟨?_, ?_, ?_, ?_, ?_, ?_, ?_, ?_, ?_, ?_⟩
 all_goals first | exact ((Below.refl _ _).alloc (Nat.le_refl _) _).alloc (by simp) _ | (simp [go_sem]; done) | (simp; done) | (simp [go_sem]; omega)
theorem ret2 {W : World} {B : Nat} {a b : ByteArray} {c d : Value} (h0 : W.cell? ⟨B, 0, none⟩ = some c) (h1 : W.cell? ⟨B, 1, none⟩ = some d) :
  ((W.setCell ⟨B, 0, none⟩ (.string a)).setCell ⟨B, 1, none⟩ (.string b)).cell? ⟨B, 0, none⟩ = some (.string a) ∧ ((W.setCell ⟨B, 0, none⟩ (.string a)).setCell ⟨B, 1, none⟩ (.string b)).cell? ⟨B, 1, none⟩ = some (.string b) := by
 have e : (⟨B, 1, none⟩ : Addr) ≠ ⟨B, 0, none⟩ := by simp
 refine ⟨?_, ?_⟩
 ·rw [World.cell?_setCell_other _ _ _ _ e, World.cell?_setCell_same _ _ _ h0]
 ·rw [World.cell?_setCell_same _ _ _ ((World.cell?_setCell_other _ _ _ _ e.symm).trans h1)]
theorem clone_fr {B : Nat} {w W : World} {a b : ByteArray} (s : ByteArray) (hs : s.size ≤ 281474976710656) (h : Fr B w a b W) :
  Calls Tryz.prog 68 #[.string s] W fun e w' => e = .returned (.string s) ∧ Fr B w a b w' :=
 (B2.clone_any s W hs).mono fun _ _ ⟨he, hb⟩ => ⟨he, h.below hb⟩
set_option maxHeartbeats 4000000 in
theorem devCopy (a b : ByteArray) (w : World) (ha : a.size ≤ 281474976710656) (hb : b.size ≤ 281474976710656) :
  Calls Tryz.prog 175 #[.agg #[.string a, .string b]] w fun e w' => e = .returned (.agg #[.string a, .string b]) ∧ Below w.heap.size w w' := by
 have hF := fr_new a b w
 go_enter Tryz.func175, Tryz.ntmps175
 go_wp2
 obtain ⟨W, hW⟩ : ∃ W, (w.alloc (.cells #[.string a, .string b] 25)).alloc (.cells #[.string ⟨#[]⟩, .string ⟨#[]⟩] 25) = W := ⟨_, rfl⟩
 rw [hW] at hF ⊢
 have c0 := hF.c0
 have c1 := hF.c1
 have hFd := hF.drew
 go_region_with (go_at_call 68; refine (clone_fr (B := w.heap.size) (w := w) (a := a) (b := b) _ (by omega) (by assumption)).mono ?_; rintro e w4 ⟨rfl, h4⟩; have d0 := h4.c0; have d1 := h4.c1; have d2 := h4.r0; have d3 := h4.r1; have d4 := h4.f0; have d5 := h4.f1)
 all_goals
  go_wp2
  have q := ret2 (a := a) (b := b) d2 d3
  exact bodyPost_ret (v := .agg #[.string a, .string b]) (by simp [results, Tryz.results175, go_sem, q.1, q.2]) rfl
   ⟨rfl, (h4.bel.setCell (p := ⟨w.heap.size + 1, 0, none⟩) (Nat.le_succ _) _).setCell (p := ⟨w.heap.size + 1, 1, none⟩) (Nat.le_succ _) _⟩
theorem impl_DevOk_fr {B : Nat} {w W : World} {a b : ByteArray} (s t : ByteArray) (hs : s.size ≤ 281474976710656) (ht : t.size ≤ 281474976710656) (h : Fr B w a b W) :
  Calls Tryz.prog 53 #[.agg #[.string s, .string t]] W fun e w' => e = .returned (.bool (D1.ok s t)) ∧ Fr B w a b w' :=
 (D1.impl_DevOk s t W (by unfold maxLen; omega) (by unfold maxLen; omega)).mono fun _ _ ⟨he, hb⟩ => ⟨he, hb ▸ h.below ((Below.refl _ _).alloc (Nat.le_refl _) _)⟩
theorem Fr.done {B : Nat} {w W : World} {a b : ByteArray} (h : Fr B w a b W) (x y : Value) : Below B w ((W.setCell ⟨B + 1, 0, none⟩ x).setCell ⟨B + 1, 1, none⟩ y) :=
 (h.bel.setCell (p := ⟨B + 1, 0, none⟩) (Nat.le_succ _) _).setCell (p := ⟨B + 1, 1, none⟩) (Nat.le_succ _) _
end Go.Proofs.YtljnkicgahepfaaGreatDoor.D2
namespace Go.Proofs.YtljnkicgahepfaaGreatDoor.D5
open Go.ChangeShapes Go.WideShapes Go.ChangeAt Go.RowKit
structure Bx (B : Nat) (w : World) (a b : ByteArray) (W : World) : Prop where
 c0 : W.cell? ⟨B, 0, none⟩ = some (.string a)
 c1 : W.cell? ⟨B, 1, none⟩ = some (.string b)
 lt : B < W.heap.size
 bel : Below B w W
variable {B : Nat} {w W W' : World} {a b : ByteArray}
theorem Bx.below (h : Bx B w a b W) (hb : Below W.heap.size W W') : Bx B w a b W' :=
 ⟨(hb.cell (p := ⟨B, 0, none⟩) h.lt).trans h.c0, (hb.cell (p := ⟨B, 1, none⟩) h.lt).trans h.c1, Nat.lt_of_lt_of_le h.lt hb.size, h.bel.trans (hb.mono (Nat.le_of_lt h.lt))⟩
theorem dev_new (a b : ByteArray) (w : World) : Bx w.heap.size w a b (w.alloc (.cells #[.string a, .string b] 25)) := by
 refine ⟨?_, ?_, ?_, ?_⟩
 all_goals first | exact (Below.refl _ _).alloc (Nat.le_refl _) _ | (simp [go_sem]; done) | (simp; done)
theorem Bx.alloc (h : Bx B w a b W) (o : Obj) : Bx B w a b (W.alloc o) := h.below ((Below.refl _ _).alloc (Nat.le_refl _) o)
end Go.Proofs.YtljnkicgahepfaaGreatDoor.D5
namespace Go.Proofs.YtljnkicgahepfaaGreatDoor.A3
open Go.ChangeShapes Go.WideShapes Go.ChangeAt Go.RowKit
theorem zeroDev : (Tryz.prog.info? 203).map (fun i => (i.zero, i.size)) = some (some (.agg (Array.replicate 1536 (.int .u8 0))), 1536) := by kernel_rfl
variable {B : Nat} {w W : World} {a b : ByteArray}
theorem cut_bx (s : ByteArray) (hs : s.size = 768) (h : D5.Bx B w a b W) :
  Calls Tryz.prog 227 #[.string s] W fun e w' => e = .returned (.agg (Lib.byteCells s.data.toList).toArray) ∧ D5.Bx B w a b w' :=
 (A1.cutLines s W hs).mono fun _ _ ⟨he, hb⟩ => ⟨he, h.below hb⟩
theorem Bx_drew (h : D5.Bx B w a b W) : D5.Bx B w a b W.drew := ⟨h.c0, h.c1, h.lt, h.bel.drew⟩
structure Dl (G : Nat) (la lb : List UInt8) (W : World) : Prop where
 m : W.rangeAt G 0 (Lib.byteCells la)
 d : W.rangeAt G 768 (Lib.byteCells lb)
 t : W.there G 0 1536
 lt : G < W.heap.size
theorem dl_new (la lb : List UInt8) (h1 : la.length = 768) (h2 : lb.length = 768) (w : World) : Dl w.heap.size la lb (w.alloc (.cells ((Lib.byteCells la).toArray ++ (Lib.byteCells lb).toArray) 203)) := by
 have hs : ((Lib.byteCells la).toArray ++ (Lib.byteCells lb).toArray).size = 1536 := by simp [Lib.byteCells, h1, h2]
 have h0 := A0.there_new w ((Lib.byteCells la).toArray ++ (Lib.byteCells lb).toArray) 203
 rw [hs] at h0
 refine ⟨?_, ?_, h0, by simp⟩
 ·intro j v hj
  have hjl : j < (Lib.byteCells la).length := (List.getElem?_eq_some_iff.1 hj).1
  rw [Nat.zero_add, World.cell?_alloc_mark, Array.getElem?_append_left (by simpa using hjl)]
  simpa using hj
 ·intro j v hj
  have hla : (Lib.byteCells la).length = 768 := by rw [Lib.byteCells_length, h1]
  rw [World.cell?_alloc_mark, Array.getElem?_append_right (by simp [hla])]
  simpa [hla] using hj
set_option maxRecDepth 20000 in
set_option maxHeartbeats 4000000 in
theorem cutDev (a b : ByteArray) (w : World) (ha : a.size = 768) (hb : b.size = 768) :
  Calls Tryz.prog 176 #[.agg #[.string a, .string b]] w fun e w' => ∃ G, e = .returned (.pointer (some ⟨G, 0, none⟩)) ∧ w.heap.size ≤ G ∧ Dl G a.data.toList b.data.toList w' ∧ Below w.heap.size w w' := by
 have hla : a.data.toList.length = 768 := by rw [← Lib.size_eq]; exact ha
 have hlb : b.data.toList.length = 768 := by rw [← Lib.size_eq]; exact hb
 have h0 := D5.dev_new a b w
 have hnew := dl_new a.data.toList b.data.toList hla hlb
 obtain ⟨X, hX⟩ : ∃ X, (Lib.byteCells a.data.toList).toArray = X := ⟨_, rfl⟩
 obtain ⟨Y, hY⟩ : ∃ Y, (Lib.byteCells b.data.toList).toArray = Y := ⟨_, rfl⟩
 have hXs : X.size = 768 := by rw [← hX]; simp [Lib.byteCells, hla]
 have hYs : Y.size = 768 := by rw [← hY]; simp [Lib.byteCells, hlb]
 obtain ⟨hz0, -⟩ := zero_of_info zeroDev
 obtain ⟨Z0, hZ0, hZ0s⟩ : ∃ Z : Array Value, Z = Array.replicate 1536 (Value.int .u8 0) ∧ Z.size = 1536 := ⟨_, rfl, by rw [Array.size_replicate]⟩
 rw [← hZ0] at hz0
 clear hZ0
 obtain ⟨g1, g2⟩ := A0.fill_two X Y Z0 (by omega)
 simp only [Nat.zero_add, Array.size_zipIdx, hXs, hYs, hZ0s] at g1 g2
 rw [hX, hY] at hnew
 obtain ⟨Z, hZ⟩ : ∃ Z, X ++ Y = Z := ⟨_, rfl⟩
 rw [hZ] at g2 hnew
 go_enter Tryz.func176, Tryz.ntmps176
 go_wp2
 obtain ⟨W, hW⟩ : ∃ W, w.alloc (.cells #[.string a, .string b] 25) = W := ⟨_, rfl⟩
 rw [hW] at h0 ⊢
 have c0 := h0.c0
 have c1 := h0.c1
 have hd := Bx_drew h0
 go_region_with (go_at_call 227; refine (cut_bx (B := w.heap.size) (w := w) (a := a) (b := b) _ (by assumption) (by assumption)).mono ?_; rintro e w4 ⟨rfl, h4⟩; (first | rw [hX] | rw [hY]); have d0 := h4.c0; have d1 := h4.c1)
 all_goals
  go_wp2
  go_ret
  exact ⟨w4.heap.size, rfl, h4.bel.size, hnew w4, h4.bel.alloc h4.bel.size _⟩
end Go.Proofs.YtljnkicgahepfaaGreatDoor.A3
namespace Go.Proofs.YtljnkicgahepfaaGreatDoor.A4
open Go.ChangeShapes Go.WideShapes Go.ChangeAt Go.RowKit
theorem sz8 (w : World) : (sizeOf 5).run Tryz.prog w = .ok 1 w := Tryz.sizeOf5 w
theorem list8 {α : Type} (x : List α) (h : x.length = 8) : ∃ a b c d e f g i, x = [a, b, c, d, e, f, g, i] := by
 match x, h with
 | [a, b, c, d, e, f, g, i], _ => exact ⟨a, b, c, d, e, f, g, i, rfl⟩
theorem part8 (C : Array Value) (o : Nat) (v : Value) (w : World) (h : C[o]? = some v) : (part 5 C o).run Tryz.prog w = .ok v w := by
 have ha := Tryz.isAgg5 w
 simp [part, Sem.run_bind, ha, sz8, h]
theorem eqb (x y : UInt8) (w : World) : (Op.equalIn 9999 5 (.int .u8 (x.toNat : Int)) (.int .u8 (y.toNat : Int))).run Tryz.prog w = .ok (decide (x = y)) w := by
 rw [show (9999 : Nat) = 9998 + 1 from rfl, run_equalIn_int w 9998 5 .u8 .u8 _ _ Tryz.underlying5]
 congr 1
 by_cases h : x = y
 ·subst h; simp
 ·have : ¬ x.toNat = y.toNat := fun e => h (UInt8.toNat_inj.1 e)
  simp [h]
  omega
set_option maxHeartbeats 2000000 in
theorem eq8 (x y : List UInt8) (hx : x.length = 8) (hy : y.length = 8) (w : World) :
  (Op.equalIn 10000 199 (.agg (Lib.byteCells x).toArray) (.agg (Lib.byteCells y).toArray)).run Tryz.prog w = .ok (decide (x = y)) w := by
 obtain ⟨a, b, c, d, e, f, g, i, rfl⟩ := list8 x hx
 obtain ⟨a', b', c', d', e', f', g', i', rfl⟩ := list8 y hy
 rw [show (10000 : Nat) = 9998 + 1 + 1 from rfl]
 unfold Op.equalIn
 simp [run_underlying Tryz.underlying199, Sem.run_bind, sz8, Lib.byteCells, Std.Legacy.Range.forIn_eq_forIn_range', List.range', part8, eqb]
 by_cases h1 : a = a' <;> by_cases h2 : b = b' <;> by_cases h3 : c = c' <;> by_cases h4 : d = d' <;> by_cases h5 : e = e' <;> by_cases h6 : f = f' <;> by_cases h7 : g = g' <;> by_cases h8 : i = i' <;> simp [h1, h2, h3, h4, h5, h6, h7, h8]
end Go.Proofs.YtljnkicgahepfaaGreatDoor.A4
namespace Go.Proofs.YtljnkicgahepfaaGreatDoor.X0
open Go.RowKit
def row (l : List UInt8) (k : Nat) : List UInt8 := (l.drop (k * 8)).take 8
def mix (la lb : List UInt8) (p : Nat → Bool) : List UInt8 := (List.range 768).map fun j => if p (j / 8) then la.getD j 0 else lb.getD j 0
theorem mix_len (la lb : List UInt8) (p : Nat → Bool) : (mix la lb p).length = 768 := by simp [mix]
theorem mix_get (la lb : List UInt8) (p : Nat → Bool) (j : Nat) (hj : j < 768) : (mix la lb p)[j]? = some (if p (j / 8) then la.getD j 0 else lb.getD j 0) := by
 simp [mix, List.getElem?_range hj]
theorem get_of {l : List UInt8} {j : Nat} (hl : l.length = 768) (hj : j < 768) : l[j]? = some (l.getD j 0) := by
 rw [List.getD_eq_getElem?_getD, List.getElem?_eq_getElem (by omega)]; rfl
theorem row_get {l : List UInt8} {k j : Nat} (hj : j < 8) : (row l k)[j]? = l[k * 8 + j]? := by
 rw [row, List.getElem?_take, if_pos hj, List.getElem?_drop]
theorem mix_none (la lb : List UInt8) (hb : lb.length = 768) (p : Nat → Bool) (hp : ∀ k, k < 96 → p k = false) : mix la lb p = lb := by
 apply List.ext_getElem?
 intro j
 by_cases hj : j < 768
 ·rw [mix_get _ _ _ _ hj, hp _ (by omega), get_of hb hj]; rfl
 ·rw [List.getElem?_eq_none (by rw [mix_len]; omega), List.getElem?_eq_none (by omega)]
theorem mix_congr (la lb : List UInt8) (p q : Nat → Bool) (h : ∀ k, k < 96 → p k = q k) : mix la lb p = mix la lb q := by
 apply List.ext_getElem?
 intro j
 by_cases hj : j < 768
 ·rw [mix_get _ _ _ _ hj, mix_get _ _ _ _ hj, h _ (by omega)]
 ·rw [List.getElem?_eq_none (by rw [mix_len]; omega), List.getElem?_eq_none (by rw [mix_len]; omega)]
theorem mix_same (la lb : List UInt8) (p q : Nat → Bool) (k : Nat) (ha : la.length = 768) (hpq : ∀ i, i < 96 → i ≠ k → p i = q i) (hk : k < 96) (hp : p k = false) (h : row la k = row (mix la lb p) k) : mix la lb q = mix la lb p := by
 apply List.ext_getElem?
 intro j
 by_cases hj : j < 768
 ·by_cases hjk : j / 8 = k
  ·have e := congrArg (fun l => l[j - k * 8]?) h
   rw [row_get (by omega), row_get (by omega), show k * 8 + (j - k * 8) = j by omega, mix_get _ _ _ _ hj, get_of ha hj] at e
   rw [mix_get _ _ _ _ hj, mix_get _ _ _ _ hj, hjk, hp]
   rw [hjk, hp] at e
   by_cases hq : q k = true
   ·rw [hq]; simpa using e
   ·rw [show q k = false by simpa using hq]
  ·rw [mix_get _ _ _ _ hj, mix_get _ _ _ _ hj, hpq _ (by omega) hjk]
 ·rw [List.getElem?_eq_none (by rw [mix_len]; omega), List.getElem?_eq_none (by rw [mix_len]; omega)]
theorem mix_set (la lb : List UInt8) (p q : Nat → Bool) (k : Nat) (ha : la.length = 768) (hk : k < 96) (hpq : ∀ i, i < 96 → i ≠ k → p i = q i) (hq : q k = true) :
  (mix la lb p).take (k * 8) ++ row la k ++ (mix la lb p).drop (k * 8 + 8) = mix la lb q := by
 have hr : (row la k).length = 8 := by rw [row, List.length_take, List.length_drop]; omega
 have ht : ((mix la lb p).take (k * 8)).length = k * 8 := by rw [List.length_take, mix_len]; omega
 apply List.ext_getElem?
 intro j
 by_cases hj : j < 768
 ·rw [mix_get _ _ _ _ hj]
  by_cases h1 : j < k * 8
  ·rw [List.getElem?_append_left (by rw [List.length_append]; omega), List.getElem?_append_left (by omega), List.getElem?_take, if_pos h1, mix_get _ _ _ _ hj, hpq _ (by omega) (by omega)]
  ·by_cases h2 : j < k * 8 + 8
   ·rw [List.getElem?_append_left (by rw [List.length_append]; omega), List.getElem?_append_right (by omega), ht, row_get (by omega), show k * 8 + (j - k * 8) = j by omega, get_of ha hj, show j / 8 = k by omega, hq]
    rfl
   ·rw [List.getElem?_append_right (by rw [List.length_append]; omega), List.length_append, ht, hr, List.getElem?_drop, show k * 8 + 8 + (j - (k * 8 + 8)) = j by omega, mix_get _ _ _ _ hj, hpq _ (by omega) (by omega)]
 ·rw [List.getElem?_eq_none (by rw [List.length_append, List.length_append, List.length_drop, mix_len]; omega), List.getElem?_eq_none (by rw [mix_len]; omega)]
end Go.Proofs.YtljnkicgahepfaaGreatDoor.X0
