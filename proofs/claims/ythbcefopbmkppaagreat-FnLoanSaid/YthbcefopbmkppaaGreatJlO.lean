/- Joined texts: plain facts and contracts. -/
import Derived.Test.YthbcefopbmkppaaGreatJlA
import Derived.Test.YthbcefopbmkppaaGreatJlG
import Derived.Test.YthbcefopbmkppaaGreatJlN
import Derived.Test.YthbcefopbmkppaaGreatJlH
import Derived.Test.YthbcefopbmkppaaGreatJlI
import Derived.Deep.RegionHeld3
set_option linter.unusedVariables false
set_option linter.unusedSimpArgs false
set_option maxRecDepth 10000
namespace Go.Proofs.YthbcefopbmkppaaGreat.LO
open Go.ChangeShapes Go.WideShapes Go.ChangeAt Go.RowKit
open N0 (Ln)
open N1 (Sl Lists Fit LB)
open I2 (ints)
def Ow (lo hi : Nat) (W : World) (a : Option Addr) (zs : List Int) : Prop := zs = [] ∨ ∃ g, a = some ⟨g, 0, none⟩ ∧ lo ≤ g ∧ g < hi ∧ K0.Blk g (ints zs) W
variable {lo hi : Nat} {w W W' : World} {a : Option Addr} {zs : List Int}
theorem Ow.below (h : Ow lo hi W a zs) (hb : Below W.heap.size W W') : Ow lo hi W' a zs := h.imp id fun ⟨g, e, h1, h2, k⟩ => ⟨g, e, h1, h2, k.below hb⟩
theorem Ow.set (h : Ow lo hi W a zs) {B : Nat} (hB : hi ≤ B) (j : Nat) (v : Value) : Ow lo hi (W.setCell ⟨B, j, none⟩ v) a zs := h.imp id fun ⟨g, e, h1, h2, k⟩ => ⟨g, e, h1, h2, k.setOther (by omega) j v⟩
theorem Ow.setLow (h : Ow lo hi W a zs) {B : Nat} (hB : B < lo) (j : Nat) (v : Value) : Ow lo hi (W.setCell ⟨B, j, none⟩ v) a zs := h.imp id fun ⟨g, e, h1, h2, k⟩ => ⟨g, e, h1, h2, k.setOther (by omega) j v⟩
theorem Ow.row (h : Ow lo hi W a zs) : P0.Row W a zs := by
 rcases h with h | ⟨g, rfl, _, _, k⟩
 ·exact Or.inl h
 ·exact I2.row_of_blk k
theorem Ow.own {b : Nat} (h : Ow lo hi W a zs) (hb : b ≤ lo) : J0.Own b W a zs := h.imp id fun ⟨g, e, h1, _, k⟩ => ⟨g, e, Nat.le_trans hb h1, k⟩
structure Lw (base : Nat) (W : World) (d : Ln) (s : Sl) : Prop where
 o1 : J0.Own base W s.a1 d.pg
 o2 : J0.Own base W s.a2 d.po
 o3 : J0.Own base W s.a3 d.fr
theorem Lw.lists {base : Nat} {d : Ln} {s : Sl} (h : Lw base W d s) : Lists W d s := ⟨h.o1.row, h.o2.row, h.o3.row⟩
theorem Lw.below {base : Nat} {d : Ln} {s : Sl} (h : Lw base W d s) (hb : Below W.heap.size W W') : Lw base W' d s := ⟨h.o1.below hb, h.o2.below hb, h.o3.below hb⟩
theorem Lw.mono {base b : Nat} {d : Ln} {s : Sl} (h : Lw base W d s) (hb : b ≤ base) : Lw b W d s := ⟨h.o1.mono hb, h.o2.mono hb, h.o3.mono hb⟩
theorem Lw.set {base : Nat} {d : Ln} {s : Sl} (h : Lw base W d s) {B : Nat} (hB : B < base) (j : Nat) (v : Value) : Lw base (W.setCell ⟨B, j, none⟩ v) d s := ⟨h.o1.set hB j v, h.o2.set hB j v, h.o3.set hB j v⟩
theorem ow_of (h : J0.Own lo W a zs) : Ow lo W.heap.size W a zs := h.imp id fun ⟨g, e, h1, k⟩ => ⟨g, e, h1, k.lt, k⟩
open Go.Proofs.YthbcefopbmkppaaGreat.Y0 in
theorem op_call2 {P : Program} {Q : Exit → Act → World → Prop} {ops : Array Oper} {K : Act → World → Prop} {a : Act} {w : World} {i f : Nat} {o : Oper} (ho : ops[i]? = some o) (hw : Region.wanted o (yielded ops a.tmps) = true) (x y : Operand) (ts : Array TypeId) (hop : o.op = .call { callee := .value (.func f), args := #[x, y], argTypes := ts }) (v u1 : Value) (hx0 : a.eval x = v) (hx1 : a.eval y = u1) (eg : ∀ args w, (callFunc f args).run P w = .ok (.enter f args) w) (hc : Calls P f #[v, u1] w fun e w' => ∃ u, e = .returned u ∧ K (a.put o.dst u) w') : wpOp P ops Q i K a w := by
 unfold wpOp
 rw [ho]
 refine Y0.of_if hw (.inl ?_)
 have he : (execOp a.eval o).run P w = .ok (.enter f #[v, u1]) w := by
  subst hx0 hx1
  simp [execOp, hop, resolve, go_sem, invoke, eg]
 unfold Oper.wp
 rw [he]
 refine Calls.mono hc ?_
 rintro e w' ⟨u, rfl, h⟩
 exact h
theorem op_plain {P : Program} {Q : Exit → Act → World → Prop} {ops : Array Oper} {K : Act → World → Prop} {a : Act} {w w' : World} {u : Value} {i : Nat} {o : Oper} (ho : ops[i]? = some o) (hw : Region.wanted o (yielded ops a.tmps) = true)
  (he : (execOp a.eval o).run P w = .ok (.value u) w') (h : K (a.put o.dst u) w') : wpOp P ops Q i K a w := by
 unfold wpOp
 rw [ho]
 refine Y0.of_if hw (.inl ?_)
 unfold Oper.wp
 rw [he]
 exact h
theorem LB8.cells {B : Nat} {x0 x1 x2 x3 x4 x5 x6 x7 : Value} (h : K0.Blk B [x0, x1, x2, x3, x4, x5, x6, x7] W) : W.cell? ⟨B, 0, none⟩ = some x0 ∧ W.cell? ⟨B, 1, none⟩ = some x1 ∧ W.cell? ⟨B, 2, none⟩ = some x2 ∧ W.cell? ⟨B, 3, none⟩ = some x3 ∧ W.cell? ⟨B, 4, none⟩ = some x4 ∧ W.cell? ⟨B, 5, none⟩ = some x5 ∧ W.cell? ⟨B, 6, none⟩ = some x6 ∧ W.cell? ⟨B, 7, none⟩ = some x7 :=
 ⟨h.cell 0 (by simp), h.cell 1 (by simp), h.cell 2 (by simp), h.cell 3 (by simp), h.cell 4 (by simp), h.cell 5 (by simp), h.cell 6 (by simp), h.cell 7 (by simp)⟩
theorem LB8.free {B : Nat} {x0 x1 x2 x3 x4 x5 x6 x7 : Value} (h : K0.Blk B [x0, x1, x2, x3, x4, x5, x6, x7] W) : W.frozen? ⟨B, 0, none⟩ = false ∧ W.frozen? ⟨B, 1, none⟩ = false ∧ W.frozen? ⟨B, 2, none⟩ = false ∧ W.frozen? ⟨B, 3, none⟩ = false ∧ W.frozen? ⟨B, 4, none⟩ = false ∧ W.frozen? ⟨B, 5, none⟩ = false ∧ W.frozen? ⟨B, 6, none⟩ = false ∧ W.frozen? ⟨B, 7, none⟩ = false :=
 ⟨h.free 0 (by simp), h.free 1 (by simp), h.free 2 (by simp), h.free 3 (by simp), h.free 4 (by simp), h.free 5 (by simp), h.free 6 (by simp), h.free 7 (by simp)⟩
structure LL (w : World) (ino cl : Int) (rc : ByteArray) (k o t : Int) (ai : Option Addr) (Z : List Int) (ci I B : Nat) (sv : ByteArray) (W : World) : Prop where
 res : K0.Blk w.heap.size [.int .i64 0, .int .i64 0, .int .i64 0, .string ⟨#[]⟩, .slice none 0 0, .string ⟨#[]⟩, .slice none 0 0, .slice none 0 0] W
 ib : K0.Blk I [.int .i64 k, .int .i64 o, .int .i64 t, .slice ai Z.length ci] W
 lb : K0.Blk B [.int .i64 ino, .int .i64 cl, .int .i64 5, .string rc, .slice ai Z.length ci, .string sv, .slice none 0 0, .slice none 0 0] W
 row : Ow (w.heap.size + 1) I W ai Z
 lt : w.heap.size < I ∧ I < B
 bel : Below w.heap.size w W
set_option maxHeartbeats 16000000 in
theorem l05Lend (mem : ByteArray) (ino cl : Int) (w : World) (hm : mem.size ≤ 281474976710656) :
  Calls Tryz.prog 59 #[.string mem, .int .i64 ino, .int .i64 cl] w fun e w' => ∃ d s, e = .returned (N1.val d s) ∧ (d.ino = ino ∧ d.cl = cl) ∧ d.pg.length ≤ 6 ∧ d.rc.size ≤ 281474976710656 ∧ d.sav.size ≤ 300 ∧ d.po.length ≤ 3 ∧ d.fr.length ≤ 2 ∧ Lw w.heap.size w' d s ∧ Below w.heap.size w w' := by
 have n0 := K0.below_new w (.cells #[.int .i64 0, .int .i64 0, .int .i64 0, .string ⟨#[]⟩, .slice none 0 0, .string ⟨#[]⟩, .slice none 0 0, .slice none 0 0] 26)
 have v0 := K0.blk_new [.int .i64 0, .int .i64 0, .int .i64 0, .string ⟨#[]⟩, .slice none 0 0, .string ⟨#[]⟩, .slice none 0 0, .slice none 0 0] w 26
 have s0 : (w.alloc (.cells #[.int .i64 0, .int .i64 0, .int .i64 0, .string ⟨#[]⟩, .slice none 0 0, .string ⟨#[]⟩, .slice none 0 0, .slice none 0 0] 26)).heap.size = w.heap.size + 1 := by simp
 have HLd : Hid (∀ W, Calls Tryz.prog 60 #[.string mem, .int .i64 ino] W fun e w' => ∃ k o t a Z c x b, e = .returned (.tuple #[I0.val k o t a Z.length c, .string x, .bool b]) ∧ Below W.heap.size W w' ∧ Z.length ≤ 6 ∧ P0.pagesOk Z = true ∧ J0.Own W.heap.size w' a Z) := fun W => (O3.spec_Load mem ino W hm).mono fun e w' ⟨a, c, he, ho, hc, hb⟩ => by
  refine ⟨_, _, _, a, _, c, _, _, he, hb, ?_, ?_, ho⟩
  ·cases hl : O0.isL mem ino with
   | false => rw [(O0.l_no hl).2.2.2.1]; exact Nat.zero_le _
   | true =>
    rw [(O0.l_yes hl).2.2.2.1]
    simp only [O0.isL, Bool.and_eq_true] at hl
    exact (O0.got hl.2.1).2.1
  ·cases hl : O0.isL mem ino with
   | false => rw [(O0.l_no hl).2.2.2.1]; rfl
   | true =>
    rw [(O0.l_yes hl).2.2.2.1]
    simp only [O0.isL, Bool.and_eq_true] at hl
    exact (O0.got hl.2.1).2.2.2.1
 have HRc : Hid (∀ i W, Calls Tryz.prog 75 #[.string mem, .int .i64 i] W fun e w' => e = .returned (.string (O0.recd mem i)) ∧ w' = W) := fun i W => O1.l03Rec mem i W hm
 have hrs := O0.recd_size mem ino hm
 obtain ⟨rc, erc⟩ : ∃ rc, O0.recd mem ino = rc := ⟨_, rfl⟩
 have HRc2 : Hid (∀ W, Calls Tryz.prog 75 #[.string mem, .int .i64 ino] W fun e w' => e = .returned (.string rc) ∧ w' = W) := fun W => by rw [← erc]; exact HRc.out ino W
 rw [erc] at hrs
 clear erc HRc
 go_enter Tryz.func59, Tryz.ntmps59
 go_wp2_with (go_at_call 60; refine (HLd.out _).mono ?_; rintro e w1 ⟨k, o, t, ai, Z, ci, x, b, rfl, b1, hZ, hZp, ho1⟩)
 have n1 := K0.below_new w1 (.cells #[.int .i64 k, .int .i64 o, .int .i64 t, .slice ai Z.length ci] 55)
 have i1 := K0.blk_new [.int .i64 k, .int .i64 o, .int .i64 t, .slice ai Z.length ci] w1 55
 have v2 := (v0.below b1).below n1
 have bel2 := (n0.trans (b1.mono n0.size)).trans (n1.mono (Nat.le_trans n0.size b1.size))
 have o2 := (ow_of ho1).below n1
 rw [s0] at o2
 have lt2 : w.heap.size < w1.heap.size := by have := b1.size; rw [s0] at this; omega
 obtain ⟨I, hI⟩ : ∃ I, w1.heap.size = I := ⟨_, rfl⟩
 rw [hI] at i1 o2 lt2
 simp only [hI]
 obtain ⟨W2, hW2⟩ : ∃ W2, w1.alloc (.cells #[.int .i64 k, .int .i64 o, .int .i64 t, .slice ai Z.length ci] 55) = W2 := ⟨_, rfl⟩
 rw [hW2] at i1 o2 v2 bel2
 simp only [hW2]
 have q3 := i1.drew.c3
 clear v0 n0 n1 b1 ho1 hW2 hI HLd s0
 have q8 : (W2.drew.alloc (.cells #[.int .i64 0, .int .i64 0, .int .i64 0, .string ⟨#[]⟩, .slice none 0 0, .string ⟨#[]⟩, .slice none 0 0, .slice none 0 0] 26)).cell? ⟨I, 3, none⟩ = some (.slice ai Z.length ci) := (i1.drew.alloc _).c3
 have z8 := K0.blk_new [.int .i64 0, .int .i64 0, .int .i64 0, .string ⟨#[]⟩, .slice none 0 0, .string ⟨#[]⟩, .slice none 0 0, .slice none 0 0] W2.drew 26
 have hne : W2.heap.size ≠ I := Nat.ne_of_gt i1.lt
 have q9 := (N4.other8 (i1.drew.alloc (.cells #[.int .i64 0, .int .i64 0, .int .i64 0, .string ⟨#[]⟩, .slice none 0 0, .string ⟨#[]⟩, .slice none 0 0, .slice none 0 0] 26)) hne (.int .i64 ino) (.int .i64 cl) (.int .i64 5) (.string rc) (.slice ai Z.length ci) (.string ⟨#[]⟩) (.slice none 0 0) (.slice none 0 0)).c3
 obtain ⟨p0, p1, p2, p3, p4, p5, p6, p7⟩ := LB8.cells z8
 obtain ⟨f0, f1, f2, f3, f4, f5, f6, f7⟩ := LB8.free z8
 refine wp_region_held (S := fun W => W.cell? ⟨I, 3, none⟩ = some (.slice ai Z.length ci)) (by kernel_rfl) ?_
 refine wpAnyH_take (i := 0) (v := .int .i64 ino) rfl (by kernel_rfl) (by kernel_rfl) (by kernel_rfl) (fun _ _ _ h => h) (Or.inl ⟨by rfl, fun w' hS' => by rfl⟩) q3 ?_
 simp only [BZ.z, Act.put, Nat.reduceAdd]
 refine wpAnyH_take (i := 1) (v := .int .i64 cl) rfl (by kernel_rfl) (by kernel_rfl) (by kernel_rfl) (fun _ _ _ h => h) (Or.inl ⟨by rfl, fun w' hS' => by rfl⟩) q3 ?_
 simp only [BZ.z, Act.put, Nat.reduceAdd]
 refine wpAnyH_take (i := 2) (v := .string mem) rfl (by kernel_rfl) (by kernel_rfl) (by kernel_rfl) (fun _ _ _ h => h) (Or.inl ⟨by rfl, fun w' hS' => by rfl⟩) q3 ?_
 simp only [BZ.z, Act.put, Nat.reduceAdd]
 refine wpAnyH_take (i := 3) (v := .int .i64 ino) rfl (by kernel_rfl) (by kernel_rfl) (by kernel_rfl) (fun _ _ _ h => h) (Or.inl ⟨by rfl, fun w' hS' => by rfl⟩) q3 ?_
 simp only [BZ.z, Act.put, Nat.reduceAdd]
 refine wpAnyH_take (i := 5) (v := .pointer (some ⟨I, 3, none⟩)) rfl (by kernel_rfl) (by kernel_rfl) (by kernel_rfl) (fun _ _ _ h => h) (Or.inl ⟨by rfl, fun w' hS' => ?_⟩) q3 ?_
 ·go_simp
 simp only [BZ.z, Act.put, Nat.reduceAdd]
 refine wpAnyH_take (i := 6) (v := (.slice ai Z.length ci)) rfl (by kernel_rfl) (by kernel_rfl) (by kernel_rfl) (fun _ _ _ h => h) (Or.inl ⟨by rfl, fun w' hS' => ?_⟩) q3 ?_
 ·go_simp
 simp only [BZ.z, Act.put, Nat.reduceAdd]
 refine wpAnyH_all (rs := [4, 8]) (by kernel_rfl) (by simp) ?_
 intro i hi
 simp only [List.mem_cons, List.not_mem_nil, or_false] at hi
 rcases hi with rfl | rfl
 ·skip
  refine op_call2 rfl (by rfl) (.tmp 21) (.tmp 22) _ rfl (.string mem) (.int .i64 ino) (by rfl) (by rfl) (enters_of Tryz.func75 (by kernel_rfl) rfl) ((HRc2.out _).mono ?_)
  rintro e w3 ⟨rfl, rfl⟩
  refine ⟨_, rfl, q3, ?_⟩
  simp only [BZ.z, Act.put, Nat.reduceAdd]
  refine wpAnyH_take (i := 7) (v := .agg #[.int .i64 ino, .int .i64 cl, .int .i64 5, .string rc, .slice ai Z.length ci, .string ⟨#[]⟩, .slice none 0 0, .slice none 0 0]) rfl (by kernel_rfl) (by kernel_rfl) (by kernel_rfl) (fun _ _ _ h => h) (Or.inl ⟨by rfl, fun w' hS' => ?_⟩) q3 ?_
  ·go_simp
  simp only [BZ.z, Act.put, Nat.reduceAdd]
  refine Y0.one_plain (i := 8) (u := .pointer (some ⟨W2.heap.size, 0, none⟩)) (w' := (W2.drew.alloc (.cells #[.int .i64 0, .int .i64 0, .int .i64 0, .string ⟨#[]⟩, .slice none 0 0, .string ⟨#[]⟩, .slice none 0 0, .slice none 0 0] 26))) (by kernel_rfl) rfl (by rfl) ?_ q8 ?_
  ·go_simp
  simp only [BZ.z, Act.put, Nat.reduceAdd]
  refine Y0.one_skip (i := 9) (w' := (((((((((W2.drew.alloc (.cells #[.int .i64 0, .int .i64 0, .int .i64 0, .string ⟨#[]⟩, .slice none 0 0, .string ⟨#[]⟩, .slice none 0 0, .slice none 0 0] 26)).setCell ⟨W2.heap.size, 0, none⟩ (.int .i64 ino)).setCell ⟨W2.heap.size, 1, none⟩ (.int .i64 cl)).setCell ⟨W2.heap.size, 2, none⟩ (.int .i64 5)).setCell ⟨W2.heap.size, 3, none⟩ (.string rc)).setCell ⟨W2.heap.size, 4, none⟩ (.slice ai Z.length ci)).setCell ⟨W2.heap.size, 5, none⟩ (.string ⟨#[]⟩)).setCell ⟨W2.heap.size, 6, none⟩ (.slice none 0 0)).setCell ⟨W2.heap.size, 7, none⟩ (.slice none 0 0))) (by kernel_rfl) rfl (by rfl) ?_ q9 ?_
  ·go_simp
  simp only [BZ.z, Act.put, Nat.reduceAdd]
  refine wpAnyH_done (by kernel_rfl) ?_ _
  have hB : (W2.drew).heap.size = W2.heap.size := rfl
  have hlt2 : I < W2.heap.size := i1.lt
  have llS : LL w ino cl rc k o t ai Z ci I W2.heap.size ⟨#[]⟩ (((((((((W2.drew.alloc (.cells #[.int .i64 0, .int .i64 0, .int .i64 0, .string ⟨#[]⟩, .slice none 0 0, .string ⟨#[]⟩, .slice none 0 0, .slice none 0 0] 26)).setCell ⟨W2.heap.size, 0, none⟩ (.int .i64 ino)).setCell ⟨W2.heap.size, 1, none⟩ (.int .i64 cl)).setCell ⟨W2.heap.size, 2, none⟩ (.int .i64 5)).setCell ⟨W2.heap.size, 3, none⟩ (.string rc)).setCell ⟨W2.heap.size, 4, none⟩ (.slice ai Z.length ci)).setCell ⟨W2.heap.size, 5, none⟩ (.string ⟨#[]⟩)).setCell ⟨W2.heap.size, 6, none⟩ (.slice none 0 0)).setCell ⟨W2.heap.size, 7, none⟩ (.slice none 0 0)) := ⟨N4.other8 (v2.drew.alloc (.cells #[.int .i64 0, .int .i64 0, .int .i64 0, .string ⟨#[]⟩, .slice none 0 0, .string ⟨#[]⟩, .slice none 0 0, .slice none 0 0] 26)) (by omega) (.int .i64 ino) (.int .i64 cl) (.int .i64 5) (.string rc) (.slice ai Z.length ci) (.string ⟨#[]⟩) (.slice none 0 0) (.slice none 0 0), N4.other8 (i1.drew.alloc (.cells #[.int .i64 0, .int .i64 0, .int .i64 0, .string ⟨#[]⟩, .slice none 0 0, .string ⟨#[]⟩, .slice none 0 0, .slice none 0 0] 26)) hne (.int .i64 ino) (.int .i64 cl) (.int .i64 5) (.string rc) (.slice ai Z.length ci) (.string ⟨#[]⟩) (.slice none 0 0) (.slice none 0 0), N4.put8 z8, ((((((((((o2.below ((Below.refl _ _).drew)).below (K0.below_new W2.drew (.cells #[.int .i64 0, .int .i64 0, .int .i64 0, .string ⟨#[]⟩, .slice none 0 0, .string ⟨#[]⟩, .slice none 0 0, .slice none 0 0] 26))).set (Nat.le_of_lt i1.lt) 0 (.int .i64 ino)).set (Nat.le_of_lt i1.lt) 1 (.int .i64 cl)).set (Nat.le_of_lt i1.lt) 2 (.int .i64 5)).set (Nat.le_of_lt i1.lt) 3 (.string rc)).set (Nat.le_of_lt i1.lt) 4 (.slice ai Z.length ci)).set (Nat.le_of_lt i1.lt) 5 (.string ⟨#[]⟩)).set (Nat.le_of_lt i1.lt) 6 (.slice none 0 0)).set (Nat.le_of_lt i1.lt) 7 (.slice none 0 0)), ⟨lt2, hlt2⟩, N4.bel8 ((bel2.drew).trans ((K0.below_new W2.drew (.cells #[.int .i64 0, .int .i64 0, .int .i64 0, .string ⟨#[]⟩, .slice none 0 0, .string ⟨#[]⟩, .slice none 0 0, .slice none 0 0] 26)).mono bel2.size)) (Nat.le_of_lt (Nat.lt_trans lt2 hlt2)) (.int .i64 ino) (.int .i64 cl) (.int .i64 5) (.string rc) (.slice ai Z.length ci) (.string ⟨#[]⟩) (.slice none 0 0) (.slice none 0 0)⟩
  generalize (((((((((W2.drew.alloc (.cells #[.int .i64 0, .int .i64 0, .int .i64 0, .string ⟨#[]⟩, .slice none 0 0, .string ⟨#[]⟩, .slice none 0 0, .slice none 0 0] 26)).setCell ⟨W2.heap.size, 0, none⟩ (.int .i64 ino)).setCell ⟨W2.heap.size, 1, none⟩ (.int .i64 cl)).setCell ⟨W2.heap.size, 2, none⟩ (.int .i64 5)).setCell ⟨W2.heap.size, 3, none⟩ (.string rc)).setCell ⟨W2.heap.size, 4, none⟩ (.slice ai Z.length ci)).setCell ⟨W2.heap.size, 5, none⟩ (.string ⟨#[]⟩)).setCell ⟨W2.heap.size, 6, none⟩ (.slice none 0 0)).setCell ⟨W2.heap.size, 7, none⟩ (.slice none 0 0)) = W3 at *
  generalize W2.heap.size = B at *
  clear q3 q8 q9 z8 hne p0 p1 p2 p3 p4 p5 p6 p7 f0 f1 f2 f3 f4 f5 f6 f7 hB hlt2 v2 bel2 o2 i1
  go_wp2
  go_loopw [11] (fun i w' => ∃ (j : Nat) (sv : ByteArray), j ≤ Z.length ∧ i = .int .i64 j ∧ sv.size ≤ 32 * j ∧ LL w ino cl rc k o t ai Z ci I B sv w') (fun i _ => Z.length - (intOf i).toNat)
  case atStart => exact ⟨0, ⟨#[]⟩, Nat.zero_le _, rfl, Nat.le_refl _, llS⟩
  case round =>
   obtain ⟨j, sv, hj, rfl, hsv, ll⟩ := hrel
   clear llS
   obtain ⟨lt3, lt4⟩ := ll.lt
   have c3 := ll.ib.c3
   by_cases hlt : j < Z.length
   ·obtain ⟨b, hab, hb1, hb2, kb⟩ : ∃ b, ai = some ⟨b, 0, none⟩ ∧ w.heap.size + 1 ≤ b ∧ b < I ∧ K0.Blk b (ints Z) wr := by
     rcases ll.row with h0 | ⟨b, h1, h2, h3, h4⟩
     ·rw [h0] at hlt
      cases hlt
     ·exact ⟨b, h1, h2, h3, h4⟩
    subst hab
    have y1 : wr.cell? ⟨b, j, none⟩ = some (.int .i64 (Z.getD j 0)) := by
     rw [kb.cell j (by simpa using hlt)]
     simp [List.getElem?_eq_getElem hlt]
    have hz := R0.pages_bounds hZp (k := j) hlt
    obtain ⟨z, ez⟩ : ∃ z, Z.getD j 0 = z := ⟨_, rfl⟩
    rw [ez] at y1 hz
    have hpt0 : Hid (∀ W, Calls Tryz.prog 26 #[.string mem, .int .i64 z] W fun e w' => e = .returned (.string (B2.part mem (z * 32) 32)) ∧ w' = W) := fun W => O1.l03Page mem z W hm hz.1 hz.2
    have hps : (B2.part mem (z * 32) 32).size ≤ 32 := by
     unfold B2.part
     split
     ·rw [ByteArray.size_extract]; omega
     ·exact Nat.zero_le _
    obtain ⟨pt, ept⟩ : ∃ pt, B2.part mem (z * 32) 32 = pt := ⟨_, rfl⟩
    rw [ept] at hps
    have hpt : Hid (∀ W, Calls Tryz.prog 26 #[.string mem, .int .i64 z] W fun e w' => e = .returned (.string pt) ∧ w' = W) := fun W => by rw [← ept]; exact hpt0.out W
    have e1 : (0 : Int) ≤ (j : Int) := by omega
    have e2 : (j : Int) < (Z.length : Int) := by omega
    obtain ⟨-, -, -, -, -, g5, -, -⟩ := LB8.cells ll.lb
    obtain ⟨-, -, -, -, -, h5, -, -⟩ := LB8.free ll.lb
    have ll9 : LL w ino cl rc k o t (some ⟨b, 0, none⟩) Z ci I B (sv ++ pt) (wr.drew.setCell ⟨B, 5, none⟩ (.string (sv ++ pt))) := by
     have q := ll.lb.drew.set 5 (.string (sv ++ pt))
     simp only [List.set_cons_zero, List.set_cons_succ] at q
     exact ⟨ll.res.drew.setOther (by omega) 5 _, ll.ib.drew.setOther (by omega) 5 _, q, (ll.row.below ((Below.refl _ _).drew)).set (by omega) 5 _, ll.lt, (ll.bel.drew).setCell (p := ⟨B, 5, none⟩) (by show w.heap.size ≤ B; omega) _⟩
    have yb : (wr.drew.setCell ⟨B, 5, none⟩ (.string (sv ++ pt))).cell? ⟨b, j, none⟩ = some (.int .i64 z) := by
     have h := (kb.drew.setOther (B' := B) (by omega) 5 (.string (sv ++ pt))).cell j (by simpa using hlt)
     rw [h]
     rw [← ez]
     simp [List.getElem?_eq_getElem hlt]
    have s0 : (fun W : World => W.cell? ⟨I, 3, none⟩ = some (.slice (some ⟨b, 0, none⟩) Z.length ci) ∧ W.cell? ⟨b, j, none⟩ = some (.int .i64 z)) wr.drew := ⟨c3, y1⟩
    have s9 : (fun W : World => W.cell? ⟨I, 3, none⟩ = some (.slice (some ⟨b, 0, none⟩) Z.length ci) ∧ W.cell? ⟨b, j, none⟩ = some (.int .i64 z)) (wr.drew.setCell ⟨B, 5, none⟩ (.string (sv ++ pt))) := ⟨ll9.ib.c3, yb⟩
    clear ez ept hpt0 kb
    go_wp2
    refine wp_region_held (S := fun W => W.cell? ⟨I, 3, none⟩ = some (.slice (some ⟨b, 0, none⟩) Z.length ci) ∧ W.cell? ⟨b, j, none⟩ = some (.int .i64 z)) (by kernel_rfl) ?_
    refine wpAnyH_take (i := 0) (v := .pointer (some ⟨B, 5, none⟩)) rfl (by kernel_rfl) (by kernel_rfl) (by kernel_rfl) (fun _ _ _ h => h) (Or.inl ⟨by rfl, fun w' hS' => ?_⟩) s0 ?_
    ·obtain ⟨m1, m2⟩ := hS'
     go_simp
    simp only [BZ.z, Act.put, Nat.reduceAdd]
    refine wpAnyH_take (i := 2) (v := .string mem) rfl (by kernel_rfl) (by kernel_rfl) (by kernel_rfl) (fun _ _ _ h => h) (Or.inl ⟨by rfl, fun w' hS' => by rfl⟩) s0 ?_
    simp only [BZ.z, Act.put, Nat.reduceAdd]
    refine wpAnyH_take (i := 3) (v := .pointer (some ⟨I, 3, none⟩)) rfl (by kernel_rfl) (by kernel_rfl) (by kernel_rfl) (fun _ _ _ h => h) (Or.inl ⟨by rfl, fun w' hS' => ?_⟩) s0 ?_
    ·obtain ⟨m1, m2⟩ := hS'
     go_simp
    simp only [BZ.z, Act.put, Nat.reduceAdd]
    refine wpAnyH_take (i := 5) (v := .int .i64 (j : Int)) rfl (by kernel_rfl) (by kernel_rfl) (by kernel_rfl) (fun _ _ _ h => h) (Or.inl ⟨by rfl, fun w' hS' => by rfl⟩) s0 ?_
    simp only [BZ.z, Act.put, Nat.reduceAdd]
    refine wpAnyH_take (i := 4) (v := (.slice (some ⟨b, 0, none⟩) Z.length ci)) rfl (by kernel_rfl) (by kernel_rfl) (by kernel_rfl) (fun _ _ _ h => h) (Or.inl ⟨by rfl, fun w' hS' => ?_⟩) s0 ?_
    ·obtain ⟨m1, m2⟩ := hS'
     go_simp
    simp only [BZ.z, Act.put, Nat.reduceAdd]
    refine wpAnyH_take (i := 6) (v := .pointer (some ⟨b, j, none⟩)) rfl (by kernel_rfl) (by kernel_rfl) (by kernel_rfl) (fun _ _ _ h => h) (Or.inl ⟨by rfl, fun w' hS' => ?_⟩) s0 ?_
    ·obtain ⟨m1, m2⟩ := hS'
     go_simp
    simp only [BZ.z, Act.put, Nat.reduceAdd]
    refine wpAnyH_take (i := 7) (v := .int .i64 z) rfl (by kernel_rfl) (by kernel_rfl) (by kernel_rfl) (fun _ _ _ h => h) (Or.inl ⟨by rfl, fun w' hS' => ?_⟩) s0 ?_
    ·obtain ⟨m1, m2⟩ := hS'
     go_simp
    simp only [BZ.z, Act.put, Nat.reduceAdd]
    refine wpAnyH_all (rs := [1, 8]) (by kernel_rfl) (by simp) ?_
    intro i hi
    simp only [List.mem_cons, List.not_mem_nil, or_false] at hi
    rcases hi with rfl | rfl
    ·skip
     refine op_plain (u := .string sv) (w' := wr.drew) rfl (by rfl) ?_ ⟨s0, ?_⟩
     ·go_simp
     simp only [BZ.z, Act.put, Nat.reduceAdd]
     refine Y0.one_call2w (i := 8) (by kernel_rfl) rfl (by rfl) (.tmp 36) (.tmp 41) _ rfl (.string mem) (.int .i64 z) (by rfl) (by rfl) (enters_of Tryz.func26 (by kernel_rfl) rfl) ((hpt.out _).mono ?_)
     rintro e w3 ⟨rfl, rfl⟩
     refine ⟨_, rfl, s0, ?_⟩
     simp only [BZ.z, Act.put, Nat.reduceAdd]
     refine wpAnyH_take (i := 9) (v := .string (sv ++ pt)) rfl (by kernel_rfl) (by kernel_rfl) (by kernel_rfl) (fun _ _ _ h => h) (Or.inl ⟨by rfl, fun w' hS' => ?_⟩) s0 ?_
     ·obtain ⟨m1, m2⟩ := hS'
      (go_simp; omega)
     simp only [BZ.z, Act.put, Nat.reduceAdd]
     refine wpAnyH_take (i := 10) (v := .pointer (some ⟨B, 5, none⟩)) rfl (by kernel_rfl) (by kernel_rfl) (by kernel_rfl) (fun _ _ _ h => h) (Or.inl ⟨by rfl, fun w' hS' => ?_⟩) s0 ?_
     ·obtain ⟨m1, m2⟩ := hS'
      go_simp
     simp only [BZ.z, Act.put, Nat.reduceAdd]
     refine Y0.one_skip (i := 11) (w' := (wr.drew.setCell ⟨B, 5, none⟩ (.string (sv ++ pt)))) (by kernel_rfl) rfl (by rfl) ?_ s9 ?_
     ·go_simp
     simp only [BZ.z, Act.put, Nat.reduceAdd]
     refine wpAnyH_done (by kernel_rfl) ?_ _
     go_wp2
     refine ⟨⟨j + 1, sv ++ pt, by omega, by go_num, by rw [ByteArray.size_append]; omega, ll9⟩, ?_⟩
     simp [intOf]
     omega
    ·skip
     refine op_call2 rfl (by rfl) (.tmp 36) (.tmp 41) _ rfl (.string mem) (.int .i64 z) (by rfl) (by rfl) (enters_of Tryz.func26 (by kernel_rfl) rfl) ((hpt.out _).mono ?_)
     rintro e w3 ⟨rfl, rfl⟩
     refine ⟨_, rfl, s0, ?_⟩
     simp only [BZ.z, Act.put, Nat.reduceAdd]
     refine Y0.one_plain (i := 1) (u := .string sv) (w' := wr.drew) (by kernel_rfl) rfl (by rfl) ?_ s0 ?_
     ·go_simp
     simp only [BZ.z, Act.put, Nat.reduceAdd]
     refine wpAnyH_take (i := 9) (v := .string (sv ++ pt)) rfl (by kernel_rfl) (by kernel_rfl) (by kernel_rfl) (fun _ _ _ h => h) (Or.inl ⟨by rfl, fun w' hS' => ?_⟩) s0 ?_
     ·obtain ⟨m1, m2⟩ := hS'
      (go_simp; omega)
     simp only [BZ.z, Act.put, Nat.reduceAdd]
     refine wpAnyH_take (i := 10) (v := .pointer (some ⟨B, 5, none⟩)) rfl (by kernel_rfl) (by kernel_rfl) (by kernel_rfl) (fun _ _ _ h => h) (Or.inl ⟨by rfl, fun w' hS' => ?_⟩) s0 ?_
     ·obtain ⟨m1, m2⟩ := hS'
      go_simp
     simp only [BZ.z, Act.put, Nat.reduceAdd]
     refine Y0.one_skip (i := 11) (w' := (wr.drew.setCell ⟨B, 5, none⟩ (.string (sv ++ pt)))) (by kernel_rfl) rfl (by rfl) ?_ s9 ?_
     ·go_simp
     simp only [BZ.z, Act.put, Nat.reduceAdd]
     refine wpAnyH_done (by kernel_rfl) ?_ _
     go_wp2
     refine ⟨⟨j + 1, sv ++ pt, by omega, by go_num, by rw [ByteArray.size_append]; omega, ll9⟩, ?_⟩
     simp [intOf]
     omega
   ·obtain rfl : j = Z.length := by omega
    have e9 : decide ((Z.length : Int) < (Z.length : Int)) = false := by simp
    by_cases hk : k = 2
    ·skip
     have hBr : B < wr.heap.size := ll.lb.lt
     obtain ⟨-, -, -, -, -, -, g6, -⟩ := LB8.cells (ll.lb.alloc (.cells #[.int .i64 10, .int .i64 12, .int .i64 13] 3))
     obtain ⟨-, -, -, -, -, -, h6, -⟩ := LB8.free (ll.lb.alloc (.cells #[.int .i64 10, .int .i64 12, .int .i64 13] 3))
     have lbU := ll.lb.set 6 (.slice (some ⟨wr.heap.size, 0, none⟩) 3 3)
     simp only [List.set_cons_zero, List.set_cons_succ] at lbU
     have ibU := ll.ib.setOther (B' := B) (by omega) 6 (.slice (some ⟨wr.heap.size, 0, none⟩) 3 3)
     have reU := ll.res.setOther (B' := B) (by omega) 6 (.slice (some ⟨wr.heap.size, 0, none⟩) 3 3)
     have owU := ll.row.set (B := B) (by omega) 6 (.slice (some ⟨wr.heap.size, 0, none⟩) 3 3)
     have beU := ll.bel.setCell (p := ⟨B, 6, none⟩) (by show w.heap.size ≤ B; omega) (.slice (some ⟨wr.heap.size, 0, none⟩) 3 3)
     have ik := (ibU.alloc (.cells #[.int .i64 10, .int .i64 12, .int .i64 13] 3)).c0
     obtain ⟨-, -, -, -, -, -, -, g7⟩ := LB8.cells ((lbU.alloc (.cells #[.int .i64 10, .int .i64 12, .int .i64 13] 3)).alloc (.cells #[.int .i64 4, .int .i64 5] 3))
     obtain ⟨-, -, -, -, -, -, -, h7⟩ := LB8.free ((lbU.alloc (.cells #[.int .i64 10, .int .i64 12, .int .i64 13] 3)).alloc (.cells #[.int .i64 4, .int .i64 5] 3))
     have lbV := lbU.set 7 (.slice (some ⟨wr.heap.size + 1, 0, none⟩) 2 2)
     simp only [List.set_cons_zero, List.set_cons_succ] at lbV
     have reV := reU.setOther (B' := B) (by omega) 7 (.slice (some ⟨wr.heap.size + 1, 0, none⟩) 2 2)
     have owV := owU.set (B := B) (by omega) 7 (.slice (some ⟨wr.heap.size + 1, 0, none⟩) 2 2)
     have beV := beU.setCell (p := ⟨B, 7, none⟩) (by show w.heap.size ≤ B; omega) (.slice (some ⟨wr.heap.size + 1, 0, none⟩) 2 2)
     obtain ⟨t0, t1, t2, t3, t4, t5, t6, t7⟩ := LB8.cells ((lbV.alloc (.cells #[.int .i64 10, .int .i64 12, .int .i64 13] 3)).alloc (.cells #[.int .i64 4, .int .i64 5] 3))
     obtain ⟨u0, u1, u2, u3, u4, u5, u6, u7⟩ := LB8.cells ((reV.alloc (.cells #[.int .i64 10, .int .i64 12, .int .i64 13] 3)).alloc (.cells #[.int .i64 4, .int .i64 5] 3))
     obtain ⟨x0, x1, x2, x3, x4, x5, x6, x7⟩ := LB8.free ((reV.alloc (.cells #[.int .i64 10, .int .i64 12, .int .i64 13] 3)).alloc (.cells #[.int .i64 4, .int .i64 5] 3))
     have hk2 : (k == 2) = true := by simpa using hk
     go_wp2
     have q := N4.put8 (y0 := .int .i64 ino) (y1 := .int .i64 cl) (y2 := .int .i64 5) (y3 := .string rc) (y4 := .slice ai Z.length ci) (y5 := .string sv) (y6 := .slice (some ⟨wr.heap.size, 0, none⟩) 3 3) (y7 := .slice (some ⟨wr.heap.size + 1, 0, none⟩) 2 2) ((reV.alloc (.cells #[.int .i64 10, .int .i64 12, .int .i64 13] 3)).alloc (.cells #[.int .i64 4, .int .i64 5] 3))
     have kE := N4.other8 ((K0.blk_at (B := wr.heap.size) (ints [10, 12, 13]) ((wr.setCell ⟨B, 6, none⟩ (.slice (some ⟨wr.heap.size, 0, none⟩) 3 3)).setCell ⟨B, 7, none⟩ (.slice (some ⟨wr.heap.size + 1, 0, none⟩) 2 2)) 3 (by simp)).alloc (.cells #[.int .i64 4, .int .i64 5] 3)) (B := w.heap.size) (by omega) (.int .i64 ino) (.int .i64 cl) (.int .i64 5) (.string rc) (.slice ai Z.length ci) (.string sv) (.slice (some ⟨wr.heap.size, 0, none⟩) 3 3) (.slice (some ⟨wr.heap.size + 1, 0, none⟩) 2 2)
     have kE' := N4.other8 (K0.blk_at (B := wr.heap.size + 1) (ints [4, 5]) (((wr.setCell ⟨B, 6, none⟩ (.slice (some ⟨wr.heap.size, 0, none⟩) 3 3)).setCell ⟨B, 7, none⟩ (.slice (some ⟨wr.heap.size + 1, 0, none⟩) 2 2)).alloc (.cells #[.int .i64 10, .int .i64 12, .int .i64 13] 3)) 3 (by simp)) (B := w.heap.size) (by omega) (.int .i64 ino) (.int .i64 cl) (.int .i64 5) (.string rc) (.slice ai Z.length ci) (.string sv) (.slice (some ⟨wr.heap.size, 0, none⟩) 3 3) (.slice (some ⟨wr.heap.size + 1, 0, none⟩) 2 2)
     have owF := (owV.below (K0.below_new ((wr.setCell ⟨B, 6, none⟩ (.slice (some ⟨wr.heap.size, 0, none⟩) 3 3)).setCell ⟨B, 7, none⟩ (.slice (some ⟨wr.heap.size + 1, 0, none⟩) 2 2)) (.cells #[.int .i64 10, .int .i64 12, .int .i64 13] 3))).below (K0.below_new (((wr.setCell ⟨B, 6, none⟩ (.slice (some ⟨wr.heap.size, 0, none⟩) 3 3)).setCell ⟨B, 7, none⟩ (.slice (some ⟨wr.heap.size + 1, 0, none⟩) 2 2)).alloc (.cells #[.int .i64 10, .int .i64 12, .int .i64 13] 3)) (.cells #[.int .i64 4, .int .i64 5] 3))
     have beG := beV.trans ((K0.below_new ((wr.setCell ⟨B, 6, none⟩ (.slice (some ⟨wr.heap.size, 0, none⟩) 3 3)).setCell ⟨B, 7, none⟩ (.slice (some ⟨wr.heap.size + 1, 0, none⟩) 2 2)) (.cells #[.int .i64 10, .int .i64 12, .int .i64 13] 3)).mono beV.size)
     have beF := beG.trans ((K0.below_new (((wr.setCell ⟨B, 6, none⟩ (.slice (some ⟨wr.heap.size, 0, none⟩) 3 3)).setCell ⟨B, 7, none⟩ (.slice (some ⟨wr.heap.size + 1, 0, none⟩) 2 2)).alloc (.cells #[.int .i64 10, .int .i64 12, .int .i64 13] 3)) (.cells #[.int .i64 4, .int .i64 5] 3)).mono beG.size)
     have owE := ((((((((owF.setLow (B := w.heap.size) (by omega) 0 (.int .i64 ino)).setLow (B := w.heap.size) (by omega) 1 (.int .i64 cl)).setLow (B := w.heap.size) (by omega) 2 (.int .i64 5)).setLow (B := w.heap.size) (by omega) 3 (.string rc)).setLow (B := w.heap.size) (by omega) 4 (.slice ai Z.length ci)).setLow (B := w.heap.size) (by omega) 5 (.string sv)).setLow (B := w.heap.size) (by omega) 6 (.slice (some ⟨wr.heap.size, 0, none⟩) 3 3)).setLow (B := w.heap.size) (by omega) 7 (.slice (some ⟨wr.heap.size + 1, 0, none⟩) 2 2))
     have beE := N4.bel8 beF (B := w.heap.size) (Nat.le_refl _) (.int .i64 ino) (.int .i64 cl) (.int .i64 5) (.string rc) (.slice ai Z.length ci) (.string sv) (.slice (some ⟨wr.heap.size, 0, none⟩) 3 3) (.slice (some ⟨wr.heap.size + 1, 0, none⟩) 2 2)
     obtain ⟨r0, r1, r2, r3, r4, r5, r6, r7⟩ := LB8.cells q
     refine bodyPost_ret (v := N1.val ⟨ino, cl, 5, rc, Z, sv, [10, 12, 13], [4, 5]⟩ ⟨ai, ci, some ⟨wr.heap.size, 0, none⟩, 3, some ⟨wr.heap.size + 1, 0, none⟩, 2⟩) (by simp [results, Tryz.results59, go_sem, r0, r1, r2, r3, r4, r5, r6, r7]) rfl ?_
     exact ⟨(⟨ino, cl, 5, rc, Z, sv, [10, 12, 13], [4, 5]⟩ : Ln), (⟨ai, ci, some ⟨wr.heap.size, 0, none⟩, 3, some ⟨wr.heap.size + 1, 0, none⟩, 2⟩ : Sl), rfl, ⟨rfl, rfl⟩, hZ, hrs, (by show sv.size ≤ 300; omega), (by show 3 ≤ 3; omega), (by simp), ⟨owE.own (by omega), Or.inr ⟨_, rfl, ll.bel.size, kE⟩, Or.inr ⟨_, rfl, Nat.le_succ_of_le ll.bel.size, kE'⟩⟩, beE⟩
    ·skip
     have hBr : B < wr.heap.size := ll.lb.lt
     obtain ⟨-, -, -, -, -, -, g6, -⟩ := LB8.cells (ll.lb.alloc (.cells #[.int .i64 10, .int .i64 12, .int .i64 13] 3))
     obtain ⟨-, -, -, -, -, -, h6, -⟩ := LB8.free (ll.lb.alloc (.cells #[.int .i64 10, .int .i64 12, .int .i64 13] 3))
     have lbU := ll.lb.set 6 (.slice (some ⟨wr.heap.size, 0, none⟩) 3 3)
     simp only [List.set_cons_zero, List.set_cons_succ] at lbU
     have ibU := ll.ib.setOther (B' := B) (by omega) 6 (.slice (some ⟨wr.heap.size, 0, none⟩) 3 3)
     have reU := ll.res.setOther (B' := B) (by omega) 6 (.slice (some ⟨wr.heap.size, 0, none⟩) 3 3)
     have owU := ll.row.set (B := B) (by omega) 6 (.slice (some ⟨wr.heap.size, 0, none⟩) 3 3)
     have beU := ll.bel.setCell (p := ⟨B, 6, none⟩) (by show w.heap.size ≤ B; omega) (.slice (some ⟨wr.heap.size, 0, none⟩) 3 3)
     have ik := (ibU.alloc (.cells #[.int .i64 10, .int .i64 12, .int .i64 13] 3)).c0
     obtain ⟨t0, t1, t2, t3, t4, t5, t6, t7⟩ := LB8.cells (lbU.alloc (.cells #[.int .i64 10, .int .i64 12, .int .i64 13] 3))
     obtain ⟨u0, u1, u2, u3, u4, u5, u6, u7⟩ := LB8.cells (reU.alloc (.cells #[.int .i64 10, .int .i64 12, .int .i64 13] 3))
     obtain ⟨x0, x1, x2, x3, x4, x5, x6, x7⟩ := LB8.free (reU.alloc (.cells #[.int .i64 10, .int .i64 12, .int .i64 13] 3))
     have hk2 : (k == 2) = false := by simpa using hk
     go_wp2
     have q := N4.put8 (y0 := .int .i64 ino) (y1 := .int .i64 cl) (y2 := .int .i64 5) (y3 := .string rc) (y4 := .slice ai Z.length ci) (y5 := .string sv) (y6 := .slice (some ⟨wr.heap.size, 0, none⟩) 3 3) (y7 := .slice none 0 0) (reU.alloc (.cells #[.int .i64 10, .int .i64 12, .int .i64 13] 3))
     have kE := N4.other8 (K0.blk_at (B := wr.heap.size) (ints [10, 12, 13]) (wr.setCell ⟨B, 6, none⟩ (.slice (some ⟨wr.heap.size, 0, none⟩) 3 3)) 3 (by simp)) (B := w.heap.size) (by omega) (.int .i64 ino) (.int .i64 cl) (.int .i64 5) (.string rc) (.slice ai Z.length ci) (.string sv) (.slice (some ⟨wr.heap.size, 0, none⟩) 3 3) (.slice none 0 0)
     have owF := owU.below (K0.below_new (wr.setCell ⟨B, 6, none⟩ (.slice (some ⟨wr.heap.size, 0, none⟩) 3 3)) (.cells #[.int .i64 10, .int .i64 12, .int .i64 13] 3))
     have beF := beU.trans ((K0.below_new (wr.setCell ⟨B, 6, none⟩ (.slice (some ⟨wr.heap.size, 0, none⟩) 3 3)) (.cells #[.int .i64 10, .int .i64 12, .int .i64 13] 3)).mono beU.size)
     have owE := ((((((((owF.setLow (B := w.heap.size) (by omega) 0 (.int .i64 ino)).setLow (B := w.heap.size) (by omega) 1 (.int .i64 cl)).setLow (B := w.heap.size) (by omega) 2 (.int .i64 5)).setLow (B := w.heap.size) (by omega) 3 (.string rc)).setLow (B := w.heap.size) (by omega) 4 (.slice ai Z.length ci)).setLow (B := w.heap.size) (by omega) 5 (.string sv)).setLow (B := w.heap.size) (by omega) 6 (.slice (some ⟨wr.heap.size, 0, none⟩) 3 3)).setLow (B := w.heap.size) (by omega) 7 (.slice none 0 0))
     have beE := N4.bel8 beF (B := w.heap.size) (Nat.le_refl _) (.int .i64 ino) (.int .i64 cl) (.int .i64 5) (.string rc) (.slice ai Z.length ci) (.string sv) (.slice (some ⟨wr.heap.size, 0, none⟩) 3 3) (.slice none 0 0)
     obtain ⟨r0, r1, r2, r3, r4, r5, r6, r7⟩ := LB8.cells q
     refine bodyPost_ret (v := N1.val ⟨ino, cl, 5, rc, Z, sv, [10, 12, 13], []⟩ ⟨ai, ci, some ⟨wr.heap.size, 0, none⟩, 3, none, 0⟩) (by simp [results, Tryz.results59, go_sem, r0, r1, r2, r3, r4, r5, r6, r7]) rfl ?_
     exact ⟨(⟨ino, cl, 5, rc, Z, sv, [10, 12, 13], []⟩ : Ln), (⟨ai, ci, some ⟨wr.heap.size, 0, none⟩, 3, none, 0⟩ : Sl), rfl, ⟨rfl, rfl⟩, hZ, hrs, (by show sv.size ≤ 300; omega), (by show 3 ≤ 3; omega), (by simp), ⟨owE.own (by omega), Or.inr ⟨_, rfl, ll.bel.size, kE⟩, Or.inl rfl⟩, beE⟩
 ·skip
  refine op_plain (u := .pointer (some ⟨W2.heap.size, 0, none⟩)) (w' := (W2.drew.alloc (.cells #[.int .i64 0, .int .i64 0, .int .i64 0, .string ⟨#[]⟩, .slice none 0 0, .string ⟨#[]⟩, .slice none 0 0, .slice none 0 0] 26))) rfl (by rfl) ?_ ⟨q8, ?_⟩
  ·go_simp
  simp only [BZ.z, Act.put, Nat.reduceAdd]
  refine Y0.one_call2w (i := 4) (by kernel_rfl) rfl (by rfl) (.tmp 21) (.tmp 22) _ rfl (.string mem) (.int .i64 ino) (by rfl) (by rfl) (enters_of Tryz.func75 (by kernel_rfl) rfl) ((HRc2.out _).mono ?_)
  rintro e w3 ⟨rfl, rfl⟩
  refine ⟨_, rfl, q8, ?_⟩
  simp only [BZ.z, Act.put, Nat.reduceAdd]
  refine wpAnyH_take (i := 7) (v := .agg #[.int .i64 ino, .int .i64 cl, .int .i64 5, .string rc, .slice ai Z.length ci, .string ⟨#[]⟩, .slice none 0 0, .slice none 0 0]) rfl (by kernel_rfl) (by kernel_rfl) (by kernel_rfl) (fun _ _ _ h => h) (Or.inl ⟨by rfl, fun w' hS' => ?_⟩) q8 ?_
  ·go_simp
  simp only [BZ.z, Act.put, Nat.reduceAdd]
  refine Y0.one_skip (i := 9) (w' := (((((((((W2.drew.alloc (.cells #[.int .i64 0, .int .i64 0, .int .i64 0, .string ⟨#[]⟩, .slice none 0 0, .string ⟨#[]⟩, .slice none 0 0, .slice none 0 0] 26)).setCell ⟨W2.heap.size, 0, none⟩ (.int .i64 ino)).setCell ⟨W2.heap.size, 1, none⟩ (.int .i64 cl)).setCell ⟨W2.heap.size, 2, none⟩ (.int .i64 5)).setCell ⟨W2.heap.size, 3, none⟩ (.string rc)).setCell ⟨W2.heap.size, 4, none⟩ (.slice ai Z.length ci)).setCell ⟨W2.heap.size, 5, none⟩ (.string ⟨#[]⟩)).setCell ⟨W2.heap.size, 6, none⟩ (.slice none 0 0)).setCell ⟨W2.heap.size, 7, none⟩ (.slice none 0 0))) (by kernel_rfl) rfl (by rfl) ?_ q9 ?_
  ·go_simp
  simp only [BZ.z, Act.put, Nat.reduceAdd]
  refine wpAnyH_done (by kernel_rfl) ?_ _
  have hB : (W2.drew).heap.size = W2.heap.size := rfl
  have hlt2 : I < W2.heap.size := i1.lt
  have llS : LL w ino cl rc k o t ai Z ci I W2.heap.size ⟨#[]⟩ (((((((((W2.drew.alloc (.cells #[.int .i64 0, .int .i64 0, .int .i64 0, .string ⟨#[]⟩, .slice none 0 0, .string ⟨#[]⟩, .slice none 0 0, .slice none 0 0] 26)).setCell ⟨W2.heap.size, 0, none⟩ (.int .i64 ino)).setCell ⟨W2.heap.size, 1, none⟩ (.int .i64 cl)).setCell ⟨W2.heap.size, 2, none⟩ (.int .i64 5)).setCell ⟨W2.heap.size, 3, none⟩ (.string rc)).setCell ⟨W2.heap.size, 4, none⟩ (.slice ai Z.length ci)).setCell ⟨W2.heap.size, 5, none⟩ (.string ⟨#[]⟩)).setCell ⟨W2.heap.size, 6, none⟩ (.slice none 0 0)).setCell ⟨W2.heap.size, 7, none⟩ (.slice none 0 0)) := ⟨N4.other8 (v2.drew.alloc (.cells #[.int .i64 0, .int .i64 0, .int .i64 0, .string ⟨#[]⟩, .slice none 0 0, .string ⟨#[]⟩, .slice none 0 0, .slice none 0 0] 26)) (by omega) (.int .i64 ino) (.int .i64 cl) (.int .i64 5) (.string rc) (.slice ai Z.length ci) (.string ⟨#[]⟩) (.slice none 0 0) (.slice none 0 0), N4.other8 (i1.drew.alloc (.cells #[.int .i64 0, .int .i64 0, .int .i64 0, .string ⟨#[]⟩, .slice none 0 0, .string ⟨#[]⟩, .slice none 0 0, .slice none 0 0] 26)) hne (.int .i64 ino) (.int .i64 cl) (.int .i64 5) (.string rc) (.slice ai Z.length ci) (.string ⟨#[]⟩) (.slice none 0 0) (.slice none 0 0), N4.put8 z8, ((((((((((o2.below ((Below.refl _ _).drew)).below (K0.below_new W2.drew (.cells #[.int .i64 0, .int .i64 0, .int .i64 0, .string ⟨#[]⟩, .slice none 0 0, .string ⟨#[]⟩, .slice none 0 0, .slice none 0 0] 26))).set (Nat.le_of_lt i1.lt) 0 (.int .i64 ino)).set (Nat.le_of_lt i1.lt) 1 (.int .i64 cl)).set (Nat.le_of_lt i1.lt) 2 (.int .i64 5)).set (Nat.le_of_lt i1.lt) 3 (.string rc)).set (Nat.le_of_lt i1.lt) 4 (.slice ai Z.length ci)).set (Nat.le_of_lt i1.lt) 5 (.string ⟨#[]⟩)).set (Nat.le_of_lt i1.lt) 6 (.slice none 0 0)).set (Nat.le_of_lt i1.lt) 7 (.slice none 0 0)), ⟨lt2, hlt2⟩, N4.bel8 ((bel2.drew).trans ((K0.below_new W2.drew (.cells #[.int .i64 0, .int .i64 0, .int .i64 0, .string ⟨#[]⟩, .slice none 0 0, .string ⟨#[]⟩, .slice none 0 0, .slice none 0 0] 26)).mono bel2.size)) (Nat.le_of_lt (Nat.lt_trans lt2 hlt2)) (.int .i64 ino) (.int .i64 cl) (.int .i64 5) (.string rc) (.slice ai Z.length ci) (.string ⟨#[]⟩) (.slice none 0 0) (.slice none 0 0)⟩
  generalize (((((((((W2.drew.alloc (.cells #[.int .i64 0, .int .i64 0, .int .i64 0, .string ⟨#[]⟩, .slice none 0 0, .string ⟨#[]⟩, .slice none 0 0, .slice none 0 0] 26)).setCell ⟨W2.heap.size, 0, none⟩ (.int .i64 ino)).setCell ⟨W2.heap.size, 1, none⟩ (.int .i64 cl)).setCell ⟨W2.heap.size, 2, none⟩ (.int .i64 5)).setCell ⟨W2.heap.size, 3, none⟩ (.string rc)).setCell ⟨W2.heap.size, 4, none⟩ (.slice ai Z.length ci)).setCell ⟨W2.heap.size, 5, none⟩ (.string ⟨#[]⟩)).setCell ⟨W2.heap.size, 6, none⟩ (.slice none 0 0)).setCell ⟨W2.heap.size, 7, none⟩ (.slice none 0 0)) = W3 at *
  generalize W2.heap.size = B at *
  clear q3 q8 q9 z8 hne p0 p1 p2 p3 p4 p5 p6 p7 f0 f1 f2 f3 f4 f5 f6 f7 hB hlt2 v2 bel2 o2 i1
  go_wp2
  go_loopw [11] (fun i w' => ∃ (j : Nat) (sv : ByteArray), j ≤ Z.length ∧ i = .int .i64 j ∧ sv.size ≤ 32 * j ∧ LL w ino cl rc k o t ai Z ci I B sv w') (fun i _ => Z.length - (intOf i).toNat)
  case atStart => exact ⟨0, ⟨#[]⟩, Nat.zero_le _, rfl, Nat.le_refl _, llS⟩
  case round =>
   obtain ⟨j, sv, hj, rfl, hsv, ll⟩ := hrel
   clear llS
   obtain ⟨lt3, lt4⟩ := ll.lt
   have c3 := ll.ib.c3
   by_cases hlt : j < Z.length
   ·obtain ⟨b, hab, hb1, hb2, kb⟩ : ∃ b, ai = some ⟨b, 0, none⟩ ∧ w.heap.size + 1 ≤ b ∧ b < I ∧ K0.Blk b (ints Z) wr := by
     rcases ll.row with h0 | ⟨b, h1, h2, h3, h4⟩
     ·rw [h0] at hlt
      cases hlt
     ·exact ⟨b, h1, h2, h3, h4⟩
    subst hab
    have y1 : wr.cell? ⟨b, j, none⟩ = some (.int .i64 (Z.getD j 0)) := by
     rw [kb.cell j (by simpa using hlt)]
     simp [List.getElem?_eq_getElem hlt]
    have hz := R0.pages_bounds hZp (k := j) hlt
    obtain ⟨z, ez⟩ : ∃ z, Z.getD j 0 = z := ⟨_, rfl⟩
    rw [ez] at y1 hz
    have hpt0 : Hid (∀ W, Calls Tryz.prog 26 #[.string mem, .int .i64 z] W fun e w' => e = .returned (.string (B2.part mem (z * 32) 32)) ∧ w' = W) := fun W => O1.l03Page mem z W hm hz.1 hz.2
    have hps : (B2.part mem (z * 32) 32).size ≤ 32 := by
     unfold B2.part
     split
     ·rw [ByteArray.size_extract]; omega
     ·exact Nat.zero_le _
    obtain ⟨pt, ept⟩ : ∃ pt, B2.part mem (z * 32) 32 = pt := ⟨_, rfl⟩
    rw [ept] at hps
    have hpt : Hid (∀ W, Calls Tryz.prog 26 #[.string mem, .int .i64 z] W fun e w' => e = .returned (.string pt) ∧ w' = W) := fun W => by rw [← ept]; exact hpt0.out W
    have e1 : (0 : Int) ≤ (j : Int) := by omega
    have e2 : (j : Int) < (Z.length : Int) := by omega
    obtain ⟨-, -, -, -, -, g5, -, -⟩ := LB8.cells ll.lb
    obtain ⟨-, -, -, -, -, h5, -, -⟩ := LB8.free ll.lb
    have ll9 : LL w ino cl rc k o t (some ⟨b, 0, none⟩) Z ci I B (sv ++ pt) (wr.drew.setCell ⟨B, 5, none⟩ (.string (sv ++ pt))) := by
     have q := ll.lb.drew.set 5 (.string (sv ++ pt))
     simp only [List.set_cons_zero, List.set_cons_succ] at q
     exact ⟨ll.res.drew.setOther (by omega) 5 _, ll.ib.drew.setOther (by omega) 5 _, q, (ll.row.below ((Below.refl _ _).drew)).set (by omega) 5 _, ll.lt, (ll.bel.drew).setCell (p := ⟨B, 5, none⟩) (by show w.heap.size ≤ B; omega) _⟩
    have yb : (wr.drew.setCell ⟨B, 5, none⟩ (.string (sv ++ pt))).cell? ⟨b, j, none⟩ = some (.int .i64 z) := by
     have h := (kb.drew.setOther (B' := B) (by omega) 5 (.string (sv ++ pt))).cell j (by simpa using hlt)
     rw [h]
     rw [← ez]
     simp [List.getElem?_eq_getElem hlt]
    have s0 : (fun W : World => W.cell? ⟨I, 3, none⟩ = some (.slice (some ⟨b, 0, none⟩) Z.length ci) ∧ W.cell? ⟨b, j, none⟩ = some (.int .i64 z)) wr.drew := ⟨c3, y1⟩
    have s9 : (fun W : World => W.cell? ⟨I, 3, none⟩ = some (.slice (some ⟨b, 0, none⟩) Z.length ci) ∧ W.cell? ⟨b, j, none⟩ = some (.int .i64 z)) (wr.drew.setCell ⟨B, 5, none⟩ (.string (sv ++ pt))) := ⟨ll9.ib.c3, yb⟩
    clear ez ept hpt0 kb
    go_wp2
    refine wp_region_held (S := fun W => W.cell? ⟨I, 3, none⟩ = some (.slice (some ⟨b, 0, none⟩) Z.length ci) ∧ W.cell? ⟨b, j, none⟩ = some (.int .i64 z)) (by kernel_rfl) ?_
    refine wpAnyH_take (i := 0) (v := .pointer (some ⟨B, 5, none⟩)) rfl (by kernel_rfl) (by kernel_rfl) (by kernel_rfl) (fun _ _ _ h => h) (Or.inl ⟨by rfl, fun w' hS' => ?_⟩) s0 ?_
    ·obtain ⟨m1, m2⟩ := hS'
     go_simp
    simp only [BZ.z, Act.put, Nat.reduceAdd]
    refine wpAnyH_take (i := 2) (v := .string mem) rfl (by kernel_rfl) (by kernel_rfl) (by kernel_rfl) (fun _ _ _ h => h) (Or.inl ⟨by rfl, fun w' hS' => by rfl⟩) s0 ?_
    simp only [BZ.z, Act.put, Nat.reduceAdd]
    refine wpAnyH_take (i := 3) (v := .pointer (some ⟨I, 3, none⟩)) rfl (by kernel_rfl) (by kernel_rfl) (by kernel_rfl) (fun _ _ _ h => h) (Or.inl ⟨by rfl, fun w' hS' => ?_⟩) s0 ?_
    ·obtain ⟨m1, m2⟩ := hS'
     go_simp
    simp only [BZ.z, Act.put, Nat.reduceAdd]
    refine wpAnyH_take (i := 5) (v := .int .i64 (j : Int)) rfl (by kernel_rfl) (by kernel_rfl) (by kernel_rfl) (fun _ _ _ h => h) (Or.inl ⟨by rfl, fun w' hS' => by rfl⟩) s0 ?_
    simp only [BZ.z, Act.put, Nat.reduceAdd]
    refine wpAnyH_take (i := 4) (v := (.slice (some ⟨b, 0, none⟩) Z.length ci)) rfl (by kernel_rfl) (by kernel_rfl) (by kernel_rfl) (fun _ _ _ h => h) (Or.inl ⟨by rfl, fun w' hS' => ?_⟩) s0 ?_
    ·obtain ⟨m1, m2⟩ := hS'
     go_simp
    simp only [BZ.z, Act.put, Nat.reduceAdd]
    refine wpAnyH_take (i := 6) (v := .pointer (some ⟨b, j, none⟩)) rfl (by kernel_rfl) (by kernel_rfl) (by kernel_rfl) (fun _ _ _ h => h) (Or.inl ⟨by rfl, fun w' hS' => ?_⟩) s0 ?_
    ·obtain ⟨m1, m2⟩ := hS'
     go_simp
    simp only [BZ.z, Act.put, Nat.reduceAdd]
    refine wpAnyH_take (i := 7) (v := .int .i64 z) rfl (by kernel_rfl) (by kernel_rfl) (by kernel_rfl) (fun _ _ _ h => h) (Or.inl ⟨by rfl, fun w' hS' => ?_⟩) s0 ?_
    ·obtain ⟨m1, m2⟩ := hS'
     go_simp
    simp only [BZ.z, Act.put, Nat.reduceAdd]
    refine wpAnyH_all (rs := [1, 8]) (by kernel_rfl) (by simp) ?_
    intro i hi
    simp only [List.mem_cons, List.not_mem_nil, or_false] at hi
    rcases hi with rfl | rfl
    ·skip
     refine op_plain (u := .string sv) (w' := wr.drew) rfl (by rfl) ?_ ⟨s0, ?_⟩
     ·go_simp
     simp only [BZ.z, Act.put, Nat.reduceAdd]
     refine Y0.one_call2w (i := 8) (by kernel_rfl) rfl (by rfl) (.tmp 36) (.tmp 41) _ rfl (.string mem) (.int .i64 z) (by rfl) (by rfl) (enters_of Tryz.func26 (by kernel_rfl) rfl) ((hpt.out _).mono ?_)
     rintro e w3 ⟨rfl, rfl⟩
     refine ⟨_, rfl, s0, ?_⟩
     simp only [BZ.z, Act.put, Nat.reduceAdd]
     refine wpAnyH_take (i := 9) (v := .string (sv ++ pt)) rfl (by kernel_rfl) (by kernel_rfl) (by kernel_rfl) (fun _ _ _ h => h) (Or.inl ⟨by rfl, fun w' hS' => ?_⟩) s0 ?_
     ·obtain ⟨m1, m2⟩ := hS'
      (go_simp; omega)
     simp only [BZ.z, Act.put, Nat.reduceAdd]
     refine wpAnyH_take (i := 10) (v := .pointer (some ⟨B, 5, none⟩)) rfl (by kernel_rfl) (by kernel_rfl) (by kernel_rfl) (fun _ _ _ h => h) (Or.inl ⟨by rfl, fun w' hS' => ?_⟩) s0 ?_
     ·obtain ⟨m1, m2⟩ := hS'
      go_simp
     simp only [BZ.z, Act.put, Nat.reduceAdd]
     refine Y0.one_skip (i := 11) (w' := (wr.drew.setCell ⟨B, 5, none⟩ (.string (sv ++ pt)))) (by kernel_rfl) rfl (by rfl) ?_ s9 ?_
     ·go_simp
     simp only [BZ.z, Act.put, Nat.reduceAdd]
     refine wpAnyH_done (by kernel_rfl) ?_ _
     go_wp2
     refine ⟨⟨j + 1, sv ++ pt, by omega, by go_num, by rw [ByteArray.size_append]; omega, ll9⟩, ?_⟩
     simp [intOf]
     omega
    ·skip
     refine op_call2 rfl (by rfl) (.tmp 36) (.tmp 41) _ rfl (.string mem) (.int .i64 z) (by rfl) (by rfl) (enters_of Tryz.func26 (by kernel_rfl) rfl) ((hpt.out _).mono ?_)
     rintro e w3 ⟨rfl, rfl⟩
     refine ⟨_, rfl, s0, ?_⟩
     simp only [BZ.z, Act.put, Nat.reduceAdd]
     refine Y0.one_plain (i := 1) (u := .string sv) (w' := wr.drew) (by kernel_rfl) rfl (by rfl) ?_ s0 ?_
     ·go_simp
     simp only [BZ.z, Act.put, Nat.reduceAdd]
     refine wpAnyH_take (i := 9) (v := .string (sv ++ pt)) rfl (by kernel_rfl) (by kernel_rfl) (by kernel_rfl) (fun _ _ _ h => h) (Or.inl ⟨by rfl, fun w' hS' => ?_⟩) s0 ?_
     ·obtain ⟨m1, m2⟩ := hS'
      (go_simp; omega)
     simp only [BZ.z, Act.put, Nat.reduceAdd]
     refine wpAnyH_take (i := 10) (v := .pointer (some ⟨B, 5, none⟩)) rfl (by kernel_rfl) (by kernel_rfl) (by kernel_rfl) (fun _ _ _ h => h) (Or.inl ⟨by rfl, fun w' hS' => ?_⟩) s0 ?_
     ·obtain ⟨m1, m2⟩ := hS'
      go_simp
     simp only [BZ.z, Act.put, Nat.reduceAdd]
     refine Y0.one_skip (i := 11) (w' := (wr.drew.setCell ⟨B, 5, none⟩ (.string (sv ++ pt)))) (by kernel_rfl) rfl (by rfl) ?_ s9 ?_
     ·go_simp
     simp only [BZ.z, Act.put, Nat.reduceAdd]
     refine wpAnyH_done (by kernel_rfl) ?_ _
     go_wp2
     refine ⟨⟨j + 1, sv ++ pt, by omega, by go_num, by rw [ByteArray.size_append]; omega, ll9⟩, ?_⟩
     simp [intOf]
     omega
   ·obtain rfl : j = Z.length := by omega
    have e9 : decide ((Z.length : Int) < (Z.length : Int)) = false := by simp
    by_cases hk : k = 2
    ·skip
     have hBr : B < wr.heap.size := ll.lb.lt
     obtain ⟨-, -, -, -, -, -, g6, -⟩ := LB8.cells (ll.lb.alloc (.cells #[.int .i64 10, .int .i64 12, .int .i64 13] 3))
     obtain ⟨-, -, -, -, -, -, h6, -⟩ := LB8.free (ll.lb.alloc (.cells #[.int .i64 10, .int .i64 12, .int .i64 13] 3))
     have lbU := ll.lb.set 6 (.slice (some ⟨wr.heap.size, 0, none⟩) 3 3)
     simp only [List.set_cons_zero, List.set_cons_succ] at lbU
     have ibU := ll.ib.setOther (B' := B) (by omega) 6 (.slice (some ⟨wr.heap.size, 0, none⟩) 3 3)
     have reU := ll.res.setOther (B' := B) (by omega) 6 (.slice (some ⟨wr.heap.size, 0, none⟩) 3 3)
     have owU := ll.row.set (B := B) (by omega) 6 (.slice (some ⟨wr.heap.size, 0, none⟩) 3 3)
     have beU := ll.bel.setCell (p := ⟨B, 6, none⟩) (by show w.heap.size ≤ B; omega) (.slice (some ⟨wr.heap.size, 0, none⟩) 3 3)
     have ik := (ibU.alloc (.cells #[.int .i64 10, .int .i64 12, .int .i64 13] 3)).c0
     obtain ⟨-, -, -, -, -, -, -, g7⟩ := LB8.cells ((lbU.alloc (.cells #[.int .i64 10, .int .i64 12, .int .i64 13] 3)).alloc (.cells #[.int .i64 4, .int .i64 5] 3))
     obtain ⟨-, -, -, -, -, -, -, h7⟩ := LB8.free ((lbU.alloc (.cells #[.int .i64 10, .int .i64 12, .int .i64 13] 3)).alloc (.cells #[.int .i64 4, .int .i64 5] 3))
     have lbV := lbU.set 7 (.slice (some ⟨wr.heap.size + 1, 0, none⟩) 2 2)
     simp only [List.set_cons_zero, List.set_cons_succ] at lbV
     have reV := reU.setOther (B' := B) (by omega) 7 (.slice (some ⟨wr.heap.size + 1, 0, none⟩) 2 2)
     have owV := owU.set (B := B) (by omega) 7 (.slice (some ⟨wr.heap.size + 1, 0, none⟩) 2 2)
     have beV := beU.setCell (p := ⟨B, 7, none⟩) (by show w.heap.size ≤ B; omega) (.slice (some ⟨wr.heap.size + 1, 0, none⟩) 2 2)
     obtain ⟨t0, t1, t2, t3, t4, t5, t6, t7⟩ := LB8.cells ((lbV.alloc (.cells #[.int .i64 10, .int .i64 12, .int .i64 13] 3)).alloc (.cells #[.int .i64 4, .int .i64 5] 3))
     obtain ⟨u0, u1, u2, u3, u4, u5, u6, u7⟩ := LB8.cells ((reV.alloc (.cells #[.int .i64 10, .int .i64 12, .int .i64 13] 3)).alloc (.cells #[.int .i64 4, .int .i64 5] 3))
     obtain ⟨x0, x1, x2, x3, x4, x5, x6, x7⟩ := LB8.free ((reV.alloc (.cells #[.int .i64 10, .int .i64 12, .int .i64 13] 3)).alloc (.cells #[.int .i64 4, .int .i64 5] 3))
     have hk2 : (k == 2) = true := by simpa using hk
     go_wp2
     have q := N4.put8 (y0 := .int .i64 ino) (y1 := .int .i64 cl) (y2 := .int .i64 5) (y3 := .string rc) (y4 := .slice ai Z.length ci) (y5 := .string sv) (y6 := .slice (some ⟨wr.heap.size, 0, none⟩) 3 3) (y7 := .slice (some ⟨wr.heap.size + 1, 0, none⟩) 2 2) ((reV.alloc (.cells #[.int .i64 10, .int .i64 12, .int .i64 13] 3)).alloc (.cells #[.int .i64 4, .int .i64 5] 3))
     have kE := N4.other8 ((K0.blk_at (B := wr.heap.size) (ints [10, 12, 13]) ((wr.setCell ⟨B, 6, none⟩ (.slice (some ⟨wr.heap.size, 0, none⟩) 3 3)).setCell ⟨B, 7, none⟩ (.slice (some ⟨wr.heap.size + 1, 0, none⟩) 2 2)) 3 (by simp)).alloc (.cells #[.int .i64 4, .int .i64 5] 3)) (B := w.heap.size) (by omega) (.int .i64 ino) (.int .i64 cl) (.int .i64 5) (.string rc) (.slice ai Z.length ci) (.string sv) (.slice (some ⟨wr.heap.size, 0, none⟩) 3 3) (.slice (some ⟨wr.heap.size + 1, 0, none⟩) 2 2)
     have kE' := N4.other8 (K0.blk_at (B := wr.heap.size + 1) (ints [4, 5]) (((wr.setCell ⟨B, 6, none⟩ (.slice (some ⟨wr.heap.size, 0, none⟩) 3 3)).setCell ⟨B, 7, none⟩ (.slice (some ⟨wr.heap.size + 1, 0, none⟩) 2 2)).alloc (.cells #[.int .i64 10, .int .i64 12, .int .i64 13] 3)) 3 (by simp)) (B := w.heap.size) (by omega) (.int .i64 ino) (.int .i64 cl) (.int .i64 5) (.string rc) (.slice ai Z.length ci) (.string sv) (.slice (some ⟨wr.heap.size, 0, none⟩) 3 3) (.slice (some ⟨wr.heap.size + 1, 0, none⟩) 2 2)
     have owF := (owV.below (K0.below_new ((wr.setCell ⟨B, 6, none⟩ (.slice (some ⟨wr.heap.size, 0, none⟩) 3 3)).setCell ⟨B, 7, none⟩ (.slice (some ⟨wr.heap.size + 1, 0, none⟩) 2 2)) (.cells #[.int .i64 10, .int .i64 12, .int .i64 13] 3))).below (K0.below_new (((wr.setCell ⟨B, 6, none⟩ (.slice (some ⟨wr.heap.size, 0, none⟩) 3 3)).setCell ⟨B, 7, none⟩ (.slice (some ⟨wr.heap.size + 1, 0, none⟩) 2 2)).alloc (.cells #[.int .i64 10, .int .i64 12, .int .i64 13] 3)) (.cells #[.int .i64 4, .int .i64 5] 3))
     have beG := beV.trans ((K0.below_new ((wr.setCell ⟨B, 6, none⟩ (.slice (some ⟨wr.heap.size, 0, none⟩) 3 3)).setCell ⟨B, 7, none⟩ (.slice (some ⟨wr.heap.size + 1, 0, none⟩) 2 2)) (.cells #[.int .i64 10, .int .i64 12, .int .i64 13] 3)).mono beV.size)
     have beF := beG.trans ((K0.below_new (((wr.setCell ⟨B, 6, none⟩ (.slice (some ⟨wr.heap.size, 0, none⟩) 3 3)).setCell ⟨B, 7, none⟩ (.slice (some ⟨wr.heap.size + 1, 0, none⟩) 2 2)).alloc (.cells #[.int .i64 10, .int .i64 12, .int .i64 13] 3)) (.cells #[.int .i64 4, .int .i64 5] 3)).mono beG.size)
     have owE := ((((((((owF.setLow (B := w.heap.size) (by omega) 0 (.int .i64 ino)).setLow (B := w.heap.size) (by omega) 1 (.int .i64 cl)).setLow (B := w.heap.size) (by omega) 2 (.int .i64 5)).setLow (B := w.heap.size) (by omega) 3 (.string rc)).setLow (B := w.heap.size) (by omega) 4 (.slice ai Z.length ci)).setLow (B := w.heap.size) (by omega) 5 (.string sv)).setLow (B := w.heap.size) (by omega) 6 (.slice (some ⟨wr.heap.size, 0, none⟩) 3 3)).setLow (B := w.heap.size) (by omega) 7 (.slice (some ⟨wr.heap.size + 1, 0, none⟩) 2 2))
     have beE := N4.bel8 beF (B := w.heap.size) (Nat.le_refl _) (.int .i64 ino) (.int .i64 cl) (.int .i64 5) (.string rc) (.slice ai Z.length ci) (.string sv) (.slice (some ⟨wr.heap.size, 0, none⟩) 3 3) (.slice (some ⟨wr.heap.size + 1, 0, none⟩) 2 2)
     obtain ⟨r0, r1, r2, r3, r4, r5, r6, r7⟩ := LB8.cells q
     refine bodyPost_ret (v := N1.val ⟨ino, cl, 5, rc, Z, sv, [10, 12, 13], [4, 5]⟩ ⟨ai, ci, some ⟨wr.heap.size, 0, none⟩, 3, some ⟨wr.heap.size + 1, 0, none⟩, 2⟩) (by simp [results, Tryz.results59, go_sem, r0, r1, r2, r3, r4, r5, r6, r7]) rfl ?_
     exact ⟨(⟨ino, cl, 5, rc, Z, sv, [10, 12, 13], [4, 5]⟩ : Ln), (⟨ai, ci, some ⟨wr.heap.size, 0, none⟩, 3, some ⟨wr.heap.size + 1, 0, none⟩, 2⟩ : Sl), rfl, ⟨rfl, rfl⟩, hZ, hrs, (by show sv.size ≤ 300; omega), (by show 3 ≤ 3; omega), (by simp), ⟨owE.own (by omega), Or.inr ⟨_, rfl, ll.bel.size, kE⟩, Or.inr ⟨_, rfl, Nat.le_succ_of_le ll.bel.size, kE'⟩⟩, beE⟩
    ·skip
     have hBr : B < wr.heap.size := ll.lb.lt
     obtain ⟨-, -, -, -, -, -, g6, -⟩ := LB8.cells (ll.lb.alloc (.cells #[.int .i64 10, .int .i64 12, .int .i64 13] 3))
     obtain ⟨-, -, -, -, -, -, h6, -⟩ := LB8.free (ll.lb.alloc (.cells #[.int .i64 10, .int .i64 12, .int .i64 13] 3))
     have lbU := ll.lb.set 6 (.slice (some ⟨wr.heap.size, 0, none⟩) 3 3)
     simp only [List.set_cons_zero, List.set_cons_succ] at lbU
     have ibU := ll.ib.setOther (B' := B) (by omega) 6 (.slice (some ⟨wr.heap.size, 0, none⟩) 3 3)
     have reU := ll.res.setOther (B' := B) (by omega) 6 (.slice (some ⟨wr.heap.size, 0, none⟩) 3 3)
     have owU := ll.row.set (B := B) (by omega) 6 (.slice (some ⟨wr.heap.size, 0, none⟩) 3 3)
     have beU := ll.bel.setCell (p := ⟨B, 6, none⟩) (by show w.heap.size ≤ B; omega) (.slice (some ⟨wr.heap.size, 0, none⟩) 3 3)
     have ik := (ibU.alloc (.cells #[.int .i64 10, .int .i64 12, .int .i64 13] 3)).c0
     obtain ⟨t0, t1, t2, t3, t4, t5, t6, t7⟩ := LB8.cells (lbU.alloc (.cells #[.int .i64 10, .int .i64 12, .int .i64 13] 3))
     obtain ⟨u0, u1, u2, u3, u4, u5, u6, u7⟩ := LB8.cells (reU.alloc (.cells #[.int .i64 10, .int .i64 12, .int .i64 13] 3))
     obtain ⟨x0, x1, x2, x3, x4, x5, x6, x7⟩ := LB8.free (reU.alloc (.cells #[.int .i64 10, .int .i64 12, .int .i64 13] 3))
     have hk2 : (k == 2) = false := by simpa using hk
     go_wp2
     have q := N4.put8 (y0 := .int .i64 ino) (y1 := .int .i64 cl) (y2 := .int .i64 5) (y3 := .string rc) (y4 := .slice ai Z.length ci) (y5 := .string sv) (y6 := .slice (some ⟨wr.heap.size, 0, none⟩) 3 3) (y7 := .slice none 0 0) (reU.alloc (.cells #[.int .i64 10, .int .i64 12, .int .i64 13] 3))
     have kE := N4.other8 (K0.blk_at (B := wr.heap.size) (ints [10, 12, 13]) (wr.setCell ⟨B, 6, none⟩ (.slice (some ⟨wr.heap.size, 0, none⟩) 3 3)) 3 (by simp)) (B := w.heap.size) (by omega) (.int .i64 ino) (.int .i64 cl) (.int .i64 5) (.string rc) (.slice ai Z.length ci) (.string sv) (.slice (some ⟨wr.heap.size, 0, none⟩) 3 3) (.slice none 0 0)
     have owF := owU.below (K0.below_new (wr.setCell ⟨B, 6, none⟩ (.slice (some ⟨wr.heap.size, 0, none⟩) 3 3)) (.cells #[.int .i64 10, .int .i64 12, .int .i64 13] 3))
     have beF := beU.trans ((K0.below_new (wr.setCell ⟨B, 6, none⟩ (.slice (some ⟨wr.heap.size, 0, none⟩) 3 3)) (.cells #[.int .i64 10, .int .i64 12, .int .i64 13] 3)).mono beU.size)
     have owE := ((((((((owF.setLow (B := w.heap.size) (by omega) 0 (.int .i64 ino)).setLow (B := w.heap.size) (by omega) 1 (.int .i64 cl)).setLow (B := w.heap.size) (by omega) 2 (.int .i64 5)).setLow (B := w.heap.size) (by omega) 3 (.string rc)).setLow (B := w.heap.size) (by omega) 4 (.slice ai Z.length ci)).setLow (B := w.heap.size) (by omega) 5 (.string sv)).setLow (B := w.heap.size) (by omega) 6 (.slice (some ⟨wr.heap.size, 0, none⟩) 3 3)).setLow (B := w.heap.size) (by omega) 7 (.slice none 0 0))
     have beE := N4.bel8 beF (B := w.heap.size) (Nat.le_refl _) (.int .i64 ino) (.int .i64 cl) (.int .i64 5) (.string rc) (.slice ai Z.length ci) (.string sv) (.slice (some ⟨wr.heap.size, 0, none⟩) 3 3) (.slice none 0 0)
     obtain ⟨r0, r1, r2, r3, r4, r5, r6, r7⟩ := LB8.cells q
     refine bodyPost_ret (v := N1.val ⟨ino, cl, 5, rc, Z, sv, [10, 12, 13], []⟩ ⟨ai, ci, some ⟨wr.heap.size, 0, none⟩, 3, none, 0⟩) (by simp [results, Tryz.results59, go_sem, r0, r1, r2, r3, r4, r5, r6, r7]) rfl ?_
     exact ⟨(⟨ino, cl, 5, rc, Z, sv, [10, 12, 13], []⟩ : Ln), (⟨ai, ci, some ⟨wr.heap.size, 0, none⟩, 3, none, 0⟩ : Sl), rfl, ⟨rfl, rfl⟩, hZ, hrs, (by show sv.size ≤ 300; omega), (by show 3 ≤ 3; omega), (by simp), ⟨owE.own (by omega), Or.inr ⟨_, rfl, ll.bel.size, kE⟩, Or.inl rfl⟩, beE⟩
end Go.Proofs.YthbcefopbmkppaaGreat.LO
