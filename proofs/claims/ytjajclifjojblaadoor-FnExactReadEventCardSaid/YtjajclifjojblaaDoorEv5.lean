/- The contract of spec.EventText, as the given laws call it. -/
import Derived.Test.YtjajclifjojblaaDoorBun0
import Derived.Test.YtjajclifjojblaaDoorEv2
import Derived.Test.YtjajclifjojblaaDoorAny0
import Derived.Deep.RegionHeld3
namespace Go.Proofs.YtjajclifjojblaaDoor.EZ
open Go.ChangeShapes Go.WideShapes Go.ChangeAt Go.RowKit
set_option linter.unusedVariables false
set_option linter.unusedSimpArgs false
set_option maxRecDepth 10000

open EV (Ev val vals Fit hx dt glue)
open EW (EB eb_new eo)

/-- The event's block is there, and all that was. -/
structure St (w : World) (d : Ev) (a : Option Addr) (c : Nat) (W : World) : Prop where
  b : EB w.heap.size d a c W
  bel : Below w.heap.size w W
variable {w W W' : World} {d : Ev} {a : Option Addr} {c : Nat}
theorem St.below (h : St w d a c W) (hb : Below W.heap.size W W') : St w d a c W' := ⟨h.b.below hb, h.bel.trans (hb.mono h.bel.size)⟩
theorem st_new (w : World) (d : Ev) (a : Option Addr) (c : Nat) : St w d a c (w.alloc (eo d a c 24)) := ⟨eb_new d a c w 24, K0.below_new _ _⟩

theorem dec (z : Int) (hz : (Lit.int .i64 z).wf = true) (h : St w d a c W) : Calls Tryd.prog 27 #[.int .i64 z] W fun e w' => e = .returned (.string (dt z)) ∧ St w d a c w' :=
  (D1.spec_DecText z hz W).mono fun _ _ ⟨he, hw⟩ => ⟨he, hw ▸ h⟩
theorem hex (hs : d.tx.size ≤ 1048576) (h : St w d a c W) : Calls Tryd.prog 28 #[.string d.tx] W fun e w' => e = .returned (.string (hx d.tx)) ∧ St w d a c w' :=
  (EX.spec_hex d.tx W (by omega)).mono fun _ _ ⟨he, n, hw⟩ => ⟨he, hw ▸ h.below (K0.below_drewN (Below.refl _ _) n)⟩

theorem hx_size (hs : d.tx.size ≤ 1048576) : (hx d.tx).size ≤ 2097153 := by
  unfold hx
  split
  · show 1 ≤ 2097153
    omega
  · show (H0.hexL d.tx.data.toList).toArray.size ≤ _
    rw [List.size_toArray, H0.hexL_length, ← Lib.size_eq]
    omega
theorem run_cat {p q : ByteArray} (h : p.size + q.size ≤ 9223372036854775807) (W : World) : (binOp .add 9 (.string p) (.string q)).run Tryd.prog W = .ok (.string (p ++ q)) W := by
  simp [binOp, Op.stringOp, go_sem]
  omega

/-- A sum of texts in a region. -/
theorem cat_yield {p q : ByteArray} {A : Act} {o : Oper} {W : World} {x y : Operand} (h : p.size + q.size ≤ 9223372036854775807) (ho : o.op = .binOp .add 9 x y 9 := by rfl) (hx : A.eval x = .string p := by rfl) (hy : A.eval y = .string q := by rfl) : (execOp A.eval o).run Tryd.prog W = .ok (.value (.string (p ++ q))) W := by
  have hr := run_cat h W
  obtain ⟨ev, hev⟩ : ∃ ev, A.eval = ev := ⟨_, rfl⟩
  rw [hev] at hx hy ⊢
  simp [execOp, ho, hx, hy, go_sem, hr]
  exact h

theorem sz_lit (b : Array UInt8) : (⟨b⟩ : ByteArray).size = b.size := rfl
theorem cat_le {x y : ByteArray} {m n : Nat} (hx : x.size ≤ m) (hy : y.size ≤ n) : (x ++ y).size ≤ m + n := by
  rw [ByteArray.size_append]
  omega
theorem wf_nat (n : Nat) (h : n ≤ 1048576) : (Lit.int .i64 (n : Int)).wf = true := by
  simp [Lit.wf, IntKind.min, IntKind.max, IntKind.signed, IntKind.bits]
  omega

set_option maxHeartbeats 4000000 in
theorem text0 (hk : d.kd = 0) (hF : Fit d) (ht : d.tx.size ≤ 1048576) :
    Calls Tryd.prog 17 #[val d a c] w fun e w' => e = .returned (.string (glue (⟨#[108, 101, 110, 100]⟩ : ByteArray) [dt d.cl, dt d.ino, dt d.at_])) ∧ Below w.heap.size w w' := by
  have e0 := (st_new w d a c).below ((Below.refl _ _).drew)
  have g1 := EX.dt_size d.cl hF.f1
  have g2 := EX.dt_size d.ino hF.f2
  have g3 := EX.dt_size d.at_ hF.f3
  have g4 := hx_size ht
  have g5 := EX.dt_size (d.tx.size : Int) (wf_nat _ ht)
  have H1 : Hid (∀ W, St w d a c W → Calls Tryd.prog 27 #[.int .i64 d.cl] W fun e w' => e = .returned (.string (dt d.cl)) ∧ St w d a c w') := fun W h => dec d.cl hF.f1 h
  have H2 : Hid (∀ W, St w d a c W → Calls Tryd.prog 27 #[.int .i64 d.ino] W fun e w' => e = .returned (.string (dt d.ino)) ∧ St w d a c w') := fun W h => dec d.ino hF.f2 h
  have H3 : Hid (∀ W, St w d a c W → Calls Tryd.prog 27 #[.int .i64 d.at_] W fun e w' => e = .returned (.string (dt d.at_)) ∧ St w d a c w') := fun W h => dec d.at_ hF.f3 h
  have H4 : Hid (∀ W, St w d a c W → Calls Tryd.prog 28 #[.string d.tx] W fun e w' => e = .returned (.string (hx d.tx)) ∧ St w d a c w') := fun W h => hex ht h
  have H5 : Hid (∀ W, St w d a c W → Calls Tryd.prog 27 #[.int .i64 (d.tx.size : Int)] W fun e w' => e = .returned (.string (dt d.tx.size)) ∧ St w d a c w') := fun W h => dec _ (wf_nat _ ht) h
  obtain ⟨u, hu⟩ : ∃ u, dt d.cl = u := ⟨_, rfl⟩
  obtain ⟨v, hv⟩ : ∃ v, dt d.ino = v := ⟨_, rfl⟩
  obtain ⟨x, hx'⟩ : ∃ x, dt d.at_ = x := ⟨_, rfl⟩
  obtain ⟨h, hh⟩ : ∃ h, hx d.tx = h := ⟨_, rfl⟩
  obtain ⟨l, hl⟩ : ∃ l, dt d.tx.size = l := ⟨_, rfl⟩
  rw [hu] at g1 H1
  rw [hv] at g2 H2
  rw [hx'] at g3 H3
  rw [hh] at g4 H4
  rw [hl] at g5 H5
  have HE : Hid (glue (⟨#[108, 101, 110, 100]⟩ : ByteArray) [dt d.cl, dt d.ino, dt d.at_] = ((((⟨#[108, 101, 110, 100]⟩ : ByteArray) ++ ((((⟨#[32]⟩ : ByteArray) ++ u) ++ (⟨#[32]⟩ : ByteArray)) ++ v)) ++ (⟨#[32]⟩ : ByteArray)) ++ x)) := by
    show glue _ _ = _
    rw [hu, hv, hx', EV.glue3]
    apply ByteArray.ext
    simp [ByteArray.data_append, Array.append_assoc]
  have k6 : (⟨#[32]⟩ : ByteArray).size ≤ 1 := Nat.le_refl _
  have k7 : (⟨#[108, 101, 110, 100]⟩ : ByteArray).size ≤ 4 := Nat.le_refl _
  have r0_ : ∀ W, (binOp .add 9 (.string (⟨#[32]⟩ : ByteArray)) (.string u)).run Tryd.prog W = .ok (.string ((⟨#[32]⟩ : ByteArray) ++ u)) W := run_cat (by omega)
  have k8 : ((⟨#[32]⟩ : ByteArray) ++ u).size ≤ 23 := cat_le k6 g1
  have r2_ : ∀ W, (binOp .add 9 (.string ((⟨#[32]⟩ : ByteArray) ++ u)) (.string (⟨#[32]⟩ : ByteArray))).run Tryd.prog W = .ok (.string (((⟨#[32]⟩ : ByteArray) ++ u) ++ (⟨#[32]⟩ : ByteArray))) W := run_cat (by omega)
  have k9 : (((⟨#[32]⟩ : ByteArray) ++ u) ++ (⟨#[32]⟩ : ByteArray)).size ≤ 24 := cat_le k8 k6
  have r3_ : ∀ W, (binOp .add 9 (.string (((⟨#[32]⟩ : ByteArray) ++ u) ++ (⟨#[32]⟩ : ByteArray))) (.string v)).run Tryd.prog W = .ok (.string ((((⟨#[32]⟩ : ByteArray) ++ u) ++ (⟨#[32]⟩ : ByteArray)) ++ v)) W := run_cat (by omega)
  have k10 : ((((⟨#[32]⟩ : ByteArray) ++ u) ++ (⟨#[32]⟩ : ByteArray)) ++ v).size ≤ 46 := cat_le k9 g2
  have r4_ : ∀ W, (binOp .add 9 (.string (⟨#[108, 101, 110, 100]⟩ : ByteArray)) (.string ((((⟨#[32]⟩ : ByteArray) ++ u) ++ (⟨#[32]⟩ : ByteArray)) ++ v))).run Tryd.prog W = .ok (.string ((⟨#[108, 101, 110, 100]⟩ : ByteArray) ++ ((((⟨#[32]⟩ : ByteArray) ++ u) ++ (⟨#[32]⟩ : ByteArray)) ++ v))) W := run_cat (by omega)
  have k11 : ((⟨#[108, 101, 110, 100]⟩ : ByteArray) ++ ((((⟨#[32]⟩ : ByteArray) ++ u) ++ (⟨#[32]⟩ : ByteArray)) ++ v)).size ≤ 50 := cat_le k7 k10
  have r5_ : ∀ W, (binOp .add 9 (.string ((⟨#[108, 101, 110, 100]⟩ : ByteArray) ++ ((((⟨#[32]⟩ : ByteArray) ++ u) ++ (⟨#[32]⟩ : ByteArray)) ++ v))) (.string (⟨#[32]⟩ : ByteArray))).run Tryd.prog W = .ok (.string (((⟨#[108, 101, 110, 100]⟩ : ByteArray) ++ ((((⟨#[32]⟩ : ByteArray) ++ u) ++ (⟨#[32]⟩ : ByteArray)) ++ v)) ++ (⟨#[32]⟩ : ByteArray))) W := run_cat (by omega)
  have k12 : (((⟨#[108, 101, 110, 100]⟩ : ByteArray) ++ ((((⟨#[32]⟩ : ByteArray) ++ u) ++ (⟨#[32]⟩ : ByteArray)) ++ v)) ++ (⟨#[32]⟩ : ByteArray)).size ≤ 51 := cat_le k11 k6
  have r6_ : ∀ W, (binOp .add 9 (.string (((⟨#[108, 101, 110, 100]⟩ : ByteArray) ++ ((((⟨#[32]⟩ : ByteArray) ++ u) ++ (⟨#[32]⟩ : ByteArray)) ++ v)) ++ (⟨#[32]⟩ : ByteArray))) (.string x)).run Tryd.prog W = .ok (.string ((((⟨#[108, 101, 110, 100]⟩ : ByteArray) ++ ((((⟨#[32]⟩ : ByteArray) ++ u) ++ (⟨#[32]⟩ : ByteArray)) ++ v)) ++ (⟨#[32]⟩ : ByteArray)) ++ x)) W := run_cat (by omega)
  have k13 : ((((⟨#[108, 101, 110, 100]⟩ : ByteArray) ++ ((((⟨#[32]⟩ : ByteArray) ++ u) ++ (⟨#[32]⟩ : ByteArray)) ++ v)) ++ (⟨#[32]⟩ : ByteArray)) ++ x).size ≤ 73 := cat_le k12 g3
  clear k6 k7 k8 k9 k10 k11 k12 k13
  obtain ⟨W0, hW0⟩ : ∃ W0, w.alloc (eo d a c 24) = W0 := ⟨_, rfl⟩
  rw [hW0] at e0
  have s0 : W0.drew.cell? ⟨w.heap.size, 1, none⟩ = some (.int .i64 d.cl) ∧ W0.drew.cell? ⟨w.heap.size, 2, none⟩ = some (.int .i64 d.ino) := ⟨e0.b.c1, e0.b.c2⟩
  have HKd : Hid (d.kd = 0) := hk
  clear hF hk hu hv hx' hh hl
  go_enter Tryd.func17, Tryd.ntmps17
  go_wp2
  try rw [hW0]
  refine wp_region_held (S := fun W => W.cell? ⟨w.heap.size, 1, none⟩ = some (.int .i64 d.cl) ∧ W.cell? ⟨w.heap.size, 2, none⟩ = some (.int .i64 d.ino)) (by kernel_rfl) ?_
  refine wpAnyH_take (i := 0) (v := .pointer (some ⟨w.heap.size, 1, none⟩)) rfl (by kernel_rfl) (by kernel_rfl) (by kernel_rfl) (fun _ _ _ h => h) (Or.inl ⟨by rfl, fun w' hS' => by rfl⟩) s0 ?_
  simp only [BZ.z, Act.put, Nat.reduceAdd]
  refine wpAnyH_take (i := 1) (v := .int .i64 d.cl) rfl (by kernel_rfl) (by kernel_rfl) (by kernel_rfl) (fun _ _ _ h => h) (Or.inl ⟨by rfl, fun w' hS' => ?_⟩) s0 ?_
  · obtain ⟨p1, p2⟩ := hS'
    go_simp
  simp only [BZ.z, Act.put, Nat.reduceAdd]
  refine wpAnyH_take (i := 4) (v := .pointer (some ⟨w.heap.size, 1, none⟩)) rfl (by kernel_rfl) (by kernel_rfl) (by kernel_rfl) (fun _ _ _ h => h) (Or.inl ⟨by rfl, fun w' hS' => by rfl⟩) s0 ?_
  simp only [BZ.z, Act.put, Nat.reduceAdd]
  refine wpAnyH_take (i := 5) (v := .int .i64 d.cl) rfl (by kernel_rfl) (by kernel_rfl) (by kernel_rfl) (fun _ _ _ h => h) (Or.inl ⟨by rfl, fun w' hS' => ?_⟩) s0 ?_
  · obtain ⟨p1, p2⟩ := hS'
    go_simp
  simp only [BZ.z, Act.put, Nat.reduceAdd]
  refine wpAnyH_take (i := 9) (v := .pointer (some ⟨w.heap.size, 2, none⟩)) rfl (by kernel_rfl) (by kernel_rfl) (by kernel_rfl) (fun _ _ _ h => h) (Or.inl ⟨by rfl, fun w' hS' => by rfl⟩) s0 ?_
  simp only [BZ.z, Act.put, Nat.reduceAdd]
  refine wpAnyH_take (i := 10) (v := .int .i64 d.ino) rfl (by kernel_rfl) (by kernel_rfl) (by kernel_rfl) (fun _ _ _ h => h) (Or.inl ⟨by rfl, fun w' hS' => ?_⟩) s0 ?_
  · obtain ⟨p1, p2⟩ := hS'
    go_simp
  simp only [BZ.z, Act.put, Nat.reduceAdd]
  refine Y0.one_callw (i := 2) (by kernel_rfl) rfl (by rfl) (.tmp 8) _ rfl (.int .i64 d.cl) (by rfl) (enters_of Tryd.func27 (by kernel_rfl) rfl) ((H1.out _ e0).mono ?_)
  rintro e w1 ⟨rfl, e1⟩
  have s1 : w1.cell? ⟨w.heap.size, 1, none⟩ = some (.int .i64 d.cl) ∧ w1.cell? ⟨w.heap.size, 2, none⟩ = some (.int .i64 d.ino) := ⟨e1.b.c1, e1.b.c2⟩
  refine ⟨_, rfl, s1, ?_⟩
  simp only [BZ.z, Act.put, Nat.reduceAdd]
  refine wpAnyH_take (i := 3) (v := .string ((⟨#[32]⟩ : ByteArray) ++ u)) rfl (by kernel_rfl) (by kernel_rfl) (by kernel_rfl) (fun _ _ _ h => h) (Or.inl ⟨by rfl, fun w' hS' => ?_⟩) s1 ?_
  · obtain ⟨p1, p2⟩ := hS'
    (refine cat_yield ?_; simp only [ByteArray.size_append, sz_lit, List.size_toArray, List.length_cons, List.length_nil]; omega)
  simp only [BZ.z, Act.put, Nat.reduceAdd]
  refine Y0.one_callw (i := 6) (by kernel_rfl) rfl (by rfl) (.tmp 12) _ rfl (.int .i64 d.cl) (by rfl) (enters_of Tryd.func27 (by kernel_rfl) rfl) ((H1.out _ e1).mono ?_)
  rintro e w2 ⟨rfl, e2⟩
  have s2 : w2.cell? ⟨w.heap.size, 1, none⟩ = some (.int .i64 d.cl) ∧ w2.cell? ⟨w.heap.size, 2, none⟩ = some (.int .i64 d.ino) := ⟨e2.b.c1, e2.b.c2⟩
  refine ⟨_, rfl, s2, ?_⟩
  simp only [BZ.z, Act.put, Nat.reduceAdd]
  refine wpAnyH_take (i := 7) (v := .string ((⟨#[32]⟩ : ByteArray) ++ u)) rfl (by kernel_rfl) (by kernel_rfl) (by kernel_rfl) (fun _ _ _ h => h) (Or.inl ⟨by rfl, fun w' hS' => ?_⟩) s2 ?_
  · obtain ⟨p1, p2⟩ := hS'
    (refine cat_yield ?_; simp only [ByteArray.size_append, sz_lit, List.size_toArray, List.length_cons, List.length_nil]; omega)
  simp only [BZ.z, Act.put, Nat.reduceAdd]
  refine wpAnyH_take (i := 8) (v := .string (((⟨#[32]⟩ : ByteArray) ++ u) ++ (⟨#[32]⟩ : ByteArray))) rfl (by kernel_rfl) (by kernel_rfl) (by kernel_rfl) (fun _ _ _ h => h) (Or.inl ⟨by rfl, fun w' hS' => ?_⟩) s2 ?_
  · obtain ⟨p1, p2⟩ := hS'
    (refine cat_yield ?_; simp only [ByteArray.size_append, sz_lit, List.size_toArray, List.length_cons, List.length_nil]; omega)
  simp only [BZ.z, Act.put, Nat.reduceAdd]
  refine Y0.one_callw (i := 11) (by kernel_rfl) rfl (by rfl) (.tmp 17) _ rfl (.int .i64 d.ino) (by rfl) (enters_of Tryd.func27 (by kernel_rfl) rfl) ((H2.out _ e2).mono ?_)
  rintro e w3 ⟨rfl, e3⟩
  have s3 : w3.cell? ⟨w.heap.size, 1, none⟩ = some (.int .i64 d.cl) ∧ w3.cell? ⟨w.heap.size, 2, none⟩ = some (.int .i64 d.ino) := ⟨e3.b.c1, e3.b.c2⟩
  refine ⟨_, rfl, s3, ?_⟩
  simp only [BZ.z, Act.put, Nat.reduceAdd]
  refine wpAnyH_take (i := 12) (v := .string ((((⟨#[32]⟩ : ByteArray) ++ u) ++ (⟨#[32]⟩ : ByteArray)) ++ v)) rfl (by kernel_rfl) (by kernel_rfl) (by kernel_rfl) (fun _ _ _ h => h) (Or.inl ⟨by rfl, fun w' hS' => ?_⟩) s3 ?_
  · obtain ⟨p1, p2⟩ := hS'
    (refine cat_yield ?_; simp only [ByteArray.size_append, sz_lit, List.size_toArray, List.length_cons, List.length_nil]; omega)
  simp only [BZ.z, Act.put, Nat.reduceAdd]
  refine wpAnyH_take (i := 13) (v := .string ((⟨#[32]⟩ : ByteArray) ++ u)) rfl (by kernel_rfl) (by kernel_rfl) (by kernel_rfl) (fun _ _ _ h => h) (Or.inl ⟨by rfl, fun w' hS' => by rfl⟩) s3 ?_
  simp only [BZ.z, Act.put, Nat.reduceAdd]
  refine wpAnyH_take (i := 14) (v := .string ((((⟨#[32]⟩ : ByteArray) ++ u) ++ (⟨#[32]⟩ : ByteArray)) ++ v)) rfl (by kernel_rfl) (by kernel_rfl) (by kernel_rfl) (fun _ _ _ h => h) (Or.inl ⟨by rfl, fun w' hS' => by rfl⟩) s3 ?_
  simp only [BZ.z, Act.put, Nat.reduceAdd]
  refine wpAnyH_done (by kernel_rfl) ?_ _

  have c0 := e3.b.c0
  have c3 := e3.b.c3
  have c4 := e3.b.c4
  rw [HKd.out] at c0
  clear s0 s1 s2 s3 e0 e1 e2
  go_wp2_with (go_at_call 27; refine (H3.out _ e3).mono ?_; rintro e w5 ⟨rfl, e5⟩)
  go_ret
  exact ⟨by rw [HE.out]; rfl, e5.bel⟩

set_option maxHeartbeats 4000000 in
theorem text1 (hk : d.kd = 1) (hF : Fit d) (ht : d.tx.size ≤ 1048576) :
    Calls Tryd.prog 17 #[val d a c] w fun e w' => e = .returned (.string (glue (⟨#[116, 111, 117, 99, 104]⟩ : ByteArray) [dt d.cl, dt d.at_, hx d.tx])) ∧ Below w.heap.size w w' := by
  have e0 := (st_new w d a c).below ((Below.refl _ _).drew)
  have g1 := EX.dt_size d.cl hF.f1
  have g2 := EX.dt_size d.ino hF.f2
  have g3 := EX.dt_size d.at_ hF.f3
  have g4 := hx_size ht
  have g5 := EX.dt_size (d.tx.size : Int) (wf_nat _ ht)
  have H1 : Hid (∀ W, St w d a c W → Calls Tryd.prog 27 #[.int .i64 d.cl] W fun e w' => e = .returned (.string (dt d.cl)) ∧ St w d a c w') := fun W h => dec d.cl hF.f1 h
  have H2 : Hid (∀ W, St w d a c W → Calls Tryd.prog 27 #[.int .i64 d.ino] W fun e w' => e = .returned (.string (dt d.ino)) ∧ St w d a c w') := fun W h => dec d.ino hF.f2 h
  have H3 : Hid (∀ W, St w d a c W → Calls Tryd.prog 27 #[.int .i64 d.at_] W fun e w' => e = .returned (.string (dt d.at_)) ∧ St w d a c w') := fun W h => dec d.at_ hF.f3 h
  have H4 : Hid (∀ W, St w d a c W → Calls Tryd.prog 28 #[.string d.tx] W fun e w' => e = .returned (.string (hx d.tx)) ∧ St w d a c w') := fun W h => hex ht h
  have H5 : Hid (∀ W, St w d a c W → Calls Tryd.prog 27 #[.int .i64 (d.tx.size : Int)] W fun e w' => e = .returned (.string (dt d.tx.size)) ∧ St w d a c w') := fun W h => dec _ (wf_nat _ ht) h
  obtain ⟨u, hu⟩ : ∃ u, dt d.cl = u := ⟨_, rfl⟩
  obtain ⟨v, hv⟩ : ∃ v, dt d.ino = v := ⟨_, rfl⟩
  obtain ⟨x, hx'⟩ : ∃ x, dt d.at_ = x := ⟨_, rfl⟩
  obtain ⟨h, hh⟩ : ∃ h, hx d.tx = h := ⟨_, rfl⟩
  obtain ⟨l, hl⟩ : ∃ l, dt d.tx.size = l := ⟨_, rfl⟩
  rw [hu] at g1 H1
  rw [hv] at g2 H2
  rw [hx'] at g3 H3
  rw [hh] at g4 H4
  rw [hl] at g5 H5
  have HE : Hid (glue (⟨#[116, 111, 117, 99, 104]⟩ : ByteArray) [dt d.cl, dt d.at_, hx d.tx] = ((((((⟨#[116, 111, 117, 99, 104]⟩ : ByteArray) ++ ((⟨#[32]⟩ : ByteArray) ++ u)) ++ (⟨#[32]⟩ : ByteArray)) ++ x) ++ (⟨#[32]⟩ : ByteArray)) ++ h)) := by
    show glue _ _ = _
    rw [hu, hx', hh, EV.glue3]
    apply ByteArray.ext
    simp [ByteArray.data_append, Array.append_assoc]
  have k6 : (⟨#[32]⟩ : ByteArray).size ≤ 1 := Nat.le_refl _
  have k7 : (⟨#[116, 111, 117, 99, 104]⟩ : ByteArray).size ≤ 5 := Nat.le_refl _
  have r0_ : ∀ W, (binOp .add 9 (.string (⟨#[32]⟩ : ByteArray)) (.string u)).run Tryd.prog W = .ok (.string ((⟨#[32]⟩ : ByteArray) ++ u)) W := run_cat (by omega)
  have k8 : ((⟨#[32]⟩ : ByteArray) ++ u).size ≤ 23 := cat_le k6 g1
  have r2_ : ∀ W, (binOp .add 9 (.string ((⟨#[32]⟩ : ByteArray) ++ u)) (.string (⟨#[32]⟩ : ByteArray))).run Tryd.prog W = .ok (.string (((⟨#[32]⟩ : ByteArray) ++ u) ++ (⟨#[32]⟩ : ByteArray))) W := run_cat (by omega)
  have k9 : (((⟨#[32]⟩ : ByteArray) ++ u) ++ (⟨#[32]⟩ : ByteArray)).size ≤ 24 := cat_le k8 k6
  have r3_ : ∀ W, (binOp .add 9 (.string (((⟨#[32]⟩ : ByteArray) ++ u) ++ (⟨#[32]⟩ : ByteArray))) (.string v)).run Tryd.prog W = .ok (.string ((((⟨#[32]⟩ : ByteArray) ++ u) ++ (⟨#[32]⟩ : ByteArray)) ++ v)) W := run_cat (by omega)
  have k10 : ((((⟨#[32]⟩ : ByteArray) ++ u) ++ (⟨#[32]⟩ : ByteArray)) ++ v).size ≤ 46 := cat_le k9 g2
  have r4_ : ∀ W, (binOp .add 9 (.string (⟨#[116, 111, 117, 99, 104]⟩ : ByteArray)) (.string ((⟨#[32]⟩ : ByteArray) ++ u))).run Tryd.prog W = .ok (.string ((⟨#[116, 111, 117, 99, 104]⟩ : ByteArray) ++ ((⟨#[32]⟩ : ByteArray) ++ u))) W := run_cat (by omega)
  have k11 : ((⟨#[116, 111, 117, 99, 104]⟩ : ByteArray) ++ ((⟨#[32]⟩ : ByteArray) ++ u)).size ≤ 28 := cat_le k7 k8
  have r5_ : ∀ W, (binOp .add 9 (.string ((⟨#[116, 111, 117, 99, 104]⟩ : ByteArray) ++ ((⟨#[32]⟩ : ByteArray) ++ u))) (.string (⟨#[32]⟩ : ByteArray))).run Tryd.prog W = .ok (.string (((⟨#[116, 111, 117, 99, 104]⟩ : ByteArray) ++ ((⟨#[32]⟩ : ByteArray) ++ u)) ++ (⟨#[32]⟩ : ByteArray))) W := run_cat (by omega)
  have k12 : (((⟨#[116, 111, 117, 99, 104]⟩ : ByteArray) ++ ((⟨#[32]⟩ : ByteArray) ++ u)) ++ (⟨#[32]⟩ : ByteArray)).size ≤ 29 := cat_le k11 k6
  have r6_ : ∀ W, (binOp .add 9 (.string (((⟨#[116, 111, 117, 99, 104]⟩ : ByteArray) ++ ((⟨#[32]⟩ : ByteArray) ++ u)) ++ (⟨#[32]⟩ : ByteArray))) (.string x)).run Tryd.prog W = .ok (.string ((((⟨#[116, 111, 117, 99, 104]⟩ : ByteArray) ++ ((⟨#[32]⟩ : ByteArray) ++ u)) ++ (⟨#[32]⟩ : ByteArray)) ++ x)) W := run_cat (by omega)
  have k13 : ((((⟨#[116, 111, 117, 99, 104]⟩ : ByteArray) ++ ((⟨#[32]⟩ : ByteArray) ++ u)) ++ (⟨#[32]⟩ : ByteArray)) ++ x).size ≤ 51 := cat_le k12 g3
  have r7_ : ∀ W, (binOp .add 9 (.string ((((⟨#[116, 111, 117, 99, 104]⟩ : ByteArray) ++ ((⟨#[32]⟩ : ByteArray) ++ u)) ++ (⟨#[32]⟩ : ByteArray)) ++ x)) (.string (⟨#[32]⟩ : ByteArray))).run Tryd.prog W = .ok (.string (((((⟨#[116, 111, 117, 99, 104]⟩ : ByteArray) ++ ((⟨#[32]⟩ : ByteArray) ++ u)) ++ (⟨#[32]⟩ : ByteArray)) ++ x) ++ (⟨#[32]⟩ : ByteArray))) W := run_cat (by omega)
  have k14 : (((((⟨#[116, 111, 117, 99, 104]⟩ : ByteArray) ++ ((⟨#[32]⟩ : ByteArray) ++ u)) ++ (⟨#[32]⟩ : ByteArray)) ++ x) ++ (⟨#[32]⟩ : ByteArray)).size ≤ 52 := cat_le k13 k6
  have r8_ : ∀ W, (binOp .add 9 (.string (((((⟨#[116, 111, 117, 99, 104]⟩ : ByteArray) ++ ((⟨#[32]⟩ : ByteArray) ++ u)) ++ (⟨#[32]⟩ : ByteArray)) ++ x) ++ (⟨#[32]⟩ : ByteArray))) (.string h)).run Tryd.prog W = .ok (.string ((((((⟨#[116, 111, 117, 99, 104]⟩ : ByteArray) ++ ((⟨#[32]⟩ : ByteArray) ++ u)) ++ (⟨#[32]⟩ : ByteArray)) ++ x) ++ (⟨#[32]⟩ : ByteArray)) ++ h)) W := run_cat (by omega)
  have k15 : ((((((⟨#[116, 111, 117, 99, 104]⟩ : ByteArray) ++ ((⟨#[32]⟩ : ByteArray) ++ u)) ++ (⟨#[32]⟩ : ByteArray)) ++ x) ++ (⟨#[32]⟩ : ByteArray)) ++ h).size ≤ 2097205 := cat_le k14 g4
  clear k6 k7 k8 k9 k10 k11 k12 k13 k14 k15
  obtain ⟨W0, hW0⟩ : ∃ W0, w.alloc (eo d a c 24) = W0 := ⟨_, rfl⟩
  rw [hW0] at e0
  have s0 : W0.drew.cell? ⟨w.heap.size, 1, none⟩ = some (.int .i64 d.cl) ∧ W0.drew.cell? ⟨w.heap.size, 2, none⟩ = some (.int .i64 d.ino) := ⟨e0.b.c1, e0.b.c2⟩
  have HKd : Hid (d.kd = 1) := hk
  clear hF hk hu hv hx' hh hl
  go_enter Tryd.func17, Tryd.ntmps17
  go_wp2
  try rw [hW0]
  refine wp_region_held (S := fun W => W.cell? ⟨w.heap.size, 1, none⟩ = some (.int .i64 d.cl) ∧ W.cell? ⟨w.heap.size, 2, none⟩ = some (.int .i64 d.ino)) (by kernel_rfl) ?_
  refine wpAnyH_take (i := 0) (v := .pointer (some ⟨w.heap.size, 1, none⟩)) rfl (by kernel_rfl) (by kernel_rfl) (by kernel_rfl) (fun _ _ _ h => h) (Or.inl ⟨by rfl, fun w' hS' => by rfl⟩) s0 ?_
  simp only [BZ.z, Act.put, Nat.reduceAdd]
  refine wpAnyH_take (i := 1) (v := .int .i64 d.cl) rfl (by kernel_rfl) (by kernel_rfl) (by kernel_rfl) (fun _ _ _ h => h) (Or.inl ⟨by rfl, fun w' hS' => ?_⟩) s0 ?_
  · obtain ⟨p1, p2⟩ := hS'
    go_simp
  simp only [BZ.z, Act.put, Nat.reduceAdd]
  refine wpAnyH_take (i := 4) (v := .pointer (some ⟨w.heap.size, 1, none⟩)) rfl (by kernel_rfl) (by kernel_rfl) (by kernel_rfl) (fun _ _ _ h => h) (Or.inl ⟨by rfl, fun w' hS' => by rfl⟩) s0 ?_
  simp only [BZ.z, Act.put, Nat.reduceAdd]
  refine wpAnyH_take (i := 5) (v := .int .i64 d.cl) rfl (by kernel_rfl) (by kernel_rfl) (by kernel_rfl) (fun _ _ _ h => h) (Or.inl ⟨by rfl, fun w' hS' => ?_⟩) s0 ?_
  · obtain ⟨p1, p2⟩ := hS'
    go_simp
  simp only [BZ.z, Act.put, Nat.reduceAdd]
  refine wpAnyH_take (i := 9) (v := .pointer (some ⟨w.heap.size, 2, none⟩)) rfl (by kernel_rfl) (by kernel_rfl) (by kernel_rfl) (fun _ _ _ h => h) (Or.inl ⟨by rfl, fun w' hS' => by rfl⟩) s0 ?_
  simp only [BZ.z, Act.put, Nat.reduceAdd]
  refine wpAnyH_take (i := 10) (v := .int .i64 d.ino) rfl (by kernel_rfl) (by kernel_rfl) (by kernel_rfl) (fun _ _ _ h => h) (Or.inl ⟨by rfl, fun w' hS' => ?_⟩) s0 ?_
  · obtain ⟨p1, p2⟩ := hS'
    go_simp
  simp only [BZ.z, Act.put, Nat.reduceAdd]
  refine Y0.one_callw (i := 2) (by kernel_rfl) rfl (by rfl) (.tmp 8) _ rfl (.int .i64 d.cl) (by rfl) (enters_of Tryd.func27 (by kernel_rfl) rfl) ((H1.out _ e0).mono ?_)
  rintro e w1 ⟨rfl, e1⟩
  have s1 : w1.cell? ⟨w.heap.size, 1, none⟩ = some (.int .i64 d.cl) ∧ w1.cell? ⟨w.heap.size, 2, none⟩ = some (.int .i64 d.ino) := ⟨e1.b.c1, e1.b.c2⟩
  refine ⟨_, rfl, s1, ?_⟩
  simp only [BZ.z, Act.put, Nat.reduceAdd]
  refine wpAnyH_take (i := 3) (v := .string ((⟨#[32]⟩ : ByteArray) ++ u)) rfl (by kernel_rfl) (by kernel_rfl) (by kernel_rfl) (fun _ _ _ h => h) (Or.inl ⟨by rfl, fun w' hS' => ?_⟩) s1 ?_
  · obtain ⟨p1, p2⟩ := hS'
    (refine cat_yield ?_; simp only [ByteArray.size_append, sz_lit, List.size_toArray, List.length_cons, List.length_nil]; omega)
  simp only [BZ.z, Act.put, Nat.reduceAdd]
  refine Y0.one_callw (i := 6) (by kernel_rfl) rfl (by rfl) (.tmp 12) _ rfl (.int .i64 d.cl) (by rfl) (enters_of Tryd.func27 (by kernel_rfl) rfl) ((H1.out _ e1).mono ?_)
  rintro e w2 ⟨rfl, e2⟩
  have s2 : w2.cell? ⟨w.heap.size, 1, none⟩ = some (.int .i64 d.cl) ∧ w2.cell? ⟨w.heap.size, 2, none⟩ = some (.int .i64 d.ino) := ⟨e2.b.c1, e2.b.c2⟩
  refine ⟨_, rfl, s2, ?_⟩
  simp only [BZ.z, Act.put, Nat.reduceAdd]
  refine wpAnyH_take (i := 7) (v := .string ((⟨#[32]⟩ : ByteArray) ++ u)) rfl (by kernel_rfl) (by kernel_rfl) (by kernel_rfl) (fun _ _ _ h => h) (Or.inl ⟨by rfl, fun w' hS' => ?_⟩) s2 ?_
  · obtain ⟨p1, p2⟩ := hS'
    (refine cat_yield ?_; simp only [ByteArray.size_append, sz_lit, List.size_toArray, List.length_cons, List.length_nil]; omega)
  simp only [BZ.z, Act.put, Nat.reduceAdd]
  refine wpAnyH_take (i := 8) (v := .string (((⟨#[32]⟩ : ByteArray) ++ u) ++ (⟨#[32]⟩ : ByteArray))) rfl (by kernel_rfl) (by kernel_rfl) (by kernel_rfl) (fun _ _ _ h => h) (Or.inl ⟨by rfl, fun w' hS' => ?_⟩) s2 ?_
  · obtain ⟨p1, p2⟩ := hS'
    (refine cat_yield ?_; simp only [ByteArray.size_append, sz_lit, List.size_toArray, List.length_cons, List.length_nil]; omega)
  simp only [BZ.z, Act.put, Nat.reduceAdd]
  refine Y0.one_callw (i := 11) (by kernel_rfl) rfl (by rfl) (.tmp 17) _ rfl (.int .i64 d.ino) (by rfl) (enters_of Tryd.func27 (by kernel_rfl) rfl) ((H2.out _ e2).mono ?_)
  rintro e w3 ⟨rfl, e3⟩
  have s3 : w3.cell? ⟨w.heap.size, 1, none⟩ = some (.int .i64 d.cl) ∧ w3.cell? ⟨w.heap.size, 2, none⟩ = some (.int .i64 d.ino) := ⟨e3.b.c1, e3.b.c2⟩
  refine ⟨_, rfl, s3, ?_⟩
  simp only [BZ.z, Act.put, Nat.reduceAdd]
  refine wpAnyH_take (i := 12) (v := .string ((((⟨#[32]⟩ : ByteArray) ++ u) ++ (⟨#[32]⟩ : ByteArray)) ++ v)) rfl (by kernel_rfl) (by kernel_rfl) (by kernel_rfl) (fun _ _ _ h => h) (Or.inl ⟨by rfl, fun w' hS' => ?_⟩) s3 ?_
  · obtain ⟨p1, p2⟩ := hS'
    (refine cat_yield ?_; simp only [ByteArray.size_append, sz_lit, List.size_toArray, List.length_cons, List.length_nil]; omega)
  simp only [BZ.z, Act.put, Nat.reduceAdd]
  refine wpAnyH_take (i := 13) (v := .string ((⟨#[32]⟩ : ByteArray) ++ u)) rfl (by kernel_rfl) (by kernel_rfl) (by kernel_rfl) (fun _ _ _ h => h) (Or.inl ⟨by rfl, fun w' hS' => by rfl⟩) s3 ?_
  simp only [BZ.z, Act.put, Nat.reduceAdd]
  refine wpAnyH_take (i := 14) (v := .string ((((⟨#[32]⟩ : ByteArray) ++ u) ++ (⟨#[32]⟩ : ByteArray)) ++ v)) rfl (by kernel_rfl) (by kernel_rfl) (by kernel_rfl) (fun _ _ _ h => h) (Or.inl ⟨by rfl, fun w' hS' => by rfl⟩) s3 ?_
  simp only [BZ.z, Act.put, Nat.reduceAdd]
  refine wpAnyH_done (by kernel_rfl) ?_ _

  have c0 := e3.b.c0
  have c3 := e3.b.c3
  have c4 := e3.b.c4
  rw [HKd.out] at c0
  clear s0 s1 s2 s3 e0 e1 e2
  go_wp2
  have d4 := e3.below ((Below.refl _ _).drew)
  have s4 : w3.drew.cell? ⟨w.heap.size, 3, none⟩ = some (.int .i64 d.at_) ∧ w3.drew.cell? ⟨w.heap.size, 4, none⟩ = some (.string d.tx) := ⟨d4.b.c3, d4.b.c4⟩
  clear c0 c3 c4
  refine wp_region_held (S := fun W => W.cell? ⟨w.heap.size, 3, none⟩ = some (.int .i64 d.at_) ∧ W.cell? ⟨w.heap.size, 4, none⟩ = some (.string d.tx)) (by kernel_rfl) ?_
  refine wpAnyH_take (i := 0) (v := .string ((⟨#[32]⟩ : ByteArray) ++ u)) rfl (by kernel_rfl) (by kernel_rfl) (by kernel_rfl) (fun _ _ _ h => h) (Or.inl ⟨by rfl, fun w' hS' => by rfl⟩) s4 ?_
  simp only [BZ.z, Act.put, Nat.reduceAdd]
  refine wpAnyH_take (i := 1) (v := .string ((⟨#[116, 111, 117, 99, 104]⟩ : ByteArray) ++ ((⟨#[32]⟩ : ByteArray) ++ u))) rfl (by kernel_rfl) (by kernel_rfl) (by kernel_rfl) (fun _ _ _ h => h) (Or.inl ⟨by rfl, fun w' hS' => ?_⟩) s4 ?_
  · obtain ⟨p3, p4⟩ := hS'
    (refine cat_yield ?_; simp only [ByteArray.size_append, sz_lit, List.size_toArray, List.length_cons, List.length_nil]; omega)
  simp only [BZ.z, Act.put, Nat.reduceAdd]
  refine wpAnyH_take (i := 2) (v := .string (((⟨#[116, 111, 117, 99, 104]⟩ : ByteArray) ++ ((⟨#[32]⟩ : ByteArray) ++ u)) ++ (⟨#[32]⟩ : ByteArray))) rfl (by kernel_rfl) (by kernel_rfl) (by kernel_rfl) (fun _ _ _ h => h) (Or.inl ⟨by rfl, fun w' hS' => ?_⟩) s4 ?_
  · obtain ⟨p3, p4⟩ := hS'
    (refine cat_yield ?_; simp only [ByteArray.size_append, sz_lit, List.size_toArray, List.length_cons, List.length_nil]; omega)
  simp only [BZ.z, Act.put, Nat.reduceAdd]
  refine wpAnyH_take (i := 3) (v := .pointer (some ⟨w.heap.size, 3, none⟩)) rfl (by kernel_rfl) (by kernel_rfl) (by kernel_rfl) (fun _ _ _ h => h) (Or.inl ⟨by rfl, fun w' hS' => by rfl⟩) s4 ?_
  simp only [BZ.z, Act.put, Nat.reduceAdd]
  refine wpAnyH_take (i := 4) (v := .int .i64 d.at_) rfl (by kernel_rfl) (by kernel_rfl) (by kernel_rfl) (fun _ _ _ h => h) (Or.inl ⟨by rfl, fun w' hS' => ?_⟩) s4 ?_
  · obtain ⟨p3, p4⟩ := hS'
    go_simp
  simp only [BZ.z, Act.put, Nat.reduceAdd]
  refine wpAnyH_take (i := 8) (v := .pointer (some ⟨w.heap.size, 4, none⟩)) rfl (by kernel_rfl) (by kernel_rfl) (by kernel_rfl) (fun _ _ _ h => h) (Or.inl ⟨by rfl, fun w' hS' => by rfl⟩) s4 ?_
  simp only [BZ.z, Act.put, Nat.reduceAdd]
  refine wpAnyH_take (i := 9) (v := .string d.tx) rfl (by kernel_rfl) (by kernel_rfl) (by kernel_rfl) (fun _ _ _ h => h) (Or.inl ⟨by rfl, fun w' hS' => ?_⟩) s4 ?_
  · obtain ⟨p3, p4⟩ := hS'
    go_simp
  simp only [BZ.z, Act.put, Nat.reduceAdd]
  refine Y0.one_callw (i := 5) (by kernel_rfl) rfl (by rfl) (.tmp 37) _ rfl (.int .i64 d.at_) (by rfl) (enters_of Tryd.func27 (by kernel_rfl) rfl) ((H3.out _ d4).mono ?_)
  rintro e w5 ⟨rfl, e5⟩
  have s5 : w5.cell? ⟨w.heap.size, 3, none⟩ = some (.int .i64 d.at_) ∧ w5.cell? ⟨w.heap.size, 4, none⟩ = some (.string d.tx) := ⟨e5.b.c3, e5.b.c4⟩
  refine ⟨_, rfl, s5, ?_⟩
  simp only [BZ.z, Act.put, Nat.reduceAdd]
  refine wpAnyH_take (i := 6) (v := .string ((((⟨#[116, 111, 117, 99, 104]⟩ : ByteArray) ++ ((⟨#[32]⟩ : ByteArray) ++ u)) ++ (⟨#[32]⟩ : ByteArray)) ++ x)) rfl (by kernel_rfl) (by kernel_rfl) (by kernel_rfl) (fun _ _ _ h => h) (Or.inl ⟨by rfl, fun w' hS' => ?_⟩) s5 ?_
  · obtain ⟨p3, p4⟩ := hS'
    (refine cat_yield ?_; simp only [ByteArray.size_append, sz_lit, List.size_toArray, List.length_cons, List.length_nil]; omega)
  simp only [BZ.z, Act.put, Nat.reduceAdd]
  refine wpAnyH_take (i := 7) (v := .string (((((⟨#[116, 111, 117, 99, 104]⟩ : ByteArray) ++ ((⟨#[32]⟩ : ByteArray) ++ u)) ++ (⟨#[32]⟩ : ByteArray)) ++ x) ++ (⟨#[32]⟩ : ByteArray))) rfl (by kernel_rfl) (by kernel_rfl) (by kernel_rfl) (fun _ _ _ h => h) (Or.inl ⟨by rfl, fun w' hS' => ?_⟩) s5 ?_
  · obtain ⟨p3, p4⟩ := hS'
    (refine cat_yield ?_; simp only [ByteArray.size_append, sz_lit, List.size_toArray, List.length_cons, List.length_nil]; omega)
  simp only [BZ.z, Act.put, Nat.reduceAdd]
  refine Y0.one_callw (i := 10) (by kernel_rfl) rfl (by rfl) (.tmp 42) _ rfl (.string d.tx) (by rfl) (enters_of Tryd.func28 (by kernel_rfl) rfl) ((H4.out _ e5).mono ?_)
  rintro e w6 ⟨rfl, e6⟩
  have s6 : w6.cell? ⟨w.heap.size, 3, none⟩ = some (.int .i64 d.at_) ∧ w6.cell? ⟨w.heap.size, 4, none⟩ = some (.string d.tx) := ⟨e6.b.c3, e6.b.c4⟩
  refine ⟨_, rfl, s6, ?_⟩
  simp only [BZ.z, Act.put, Nat.reduceAdd]
  refine wpAnyH_take (i := 11) (v := .string ((((((⟨#[116, 111, 117, 99, 104]⟩ : ByteArray) ++ ((⟨#[32]⟩ : ByteArray) ++ u)) ++ (⟨#[32]⟩ : ByteArray)) ++ x) ++ (⟨#[32]⟩ : ByteArray)) ++ h)) rfl (by kernel_rfl) (by kernel_rfl) (by kernel_rfl) (fun _ _ _ h => h) (Or.inl ⟨by rfl, fun w' hS' => ?_⟩) s6 ?_
  · obtain ⟨p3, p4⟩ := hS'
    (refine cat_yield ?_; simp only [ByteArray.size_append, sz_lit, List.size_toArray, List.length_cons, List.length_nil]; omega)
  simp only [BZ.z, Act.put, Nat.reduceAdd]
  refine wpAnyH_take (i := 12) (v := .string ((((((⟨#[116, 111, 117, 99, 104]⟩ : ByteArray) ++ ((⟨#[32]⟩ : ByteArray) ++ u)) ++ (⟨#[32]⟩ : ByteArray)) ++ x) ++ (⟨#[32]⟩ : ByteArray)) ++ h)) rfl (by kernel_rfl) (by kernel_rfl) (by kernel_rfl) (fun _ _ _ h => h) (Or.inl ⟨by rfl, fun w' hS' => by rfl⟩) s6 ?_
  simp only [BZ.z, Act.put, Nat.reduceAdd]
  refine wpAnyH_done (by kernel_rfl) ?_ _
  go_wp2
  go_ret
  exact ⟨by rw [HE.out]; rfl, e6.bel⟩

set_option maxHeartbeats 4000000 in
theorem text2 (hk : d.kd = 2) (hF : Fit d) (ht : d.tx.size ≤ 1048576) :
    Calls Tryd.prog 17 #[val d a c] w fun e w' => e = .returned (.string (glue (⟨#[108, 97, 115, 116]⟩ : ByteArray) [dt d.cl, dt d.at_, dt d.tx.size])) ∧ Below w.heap.size w w' := by
  have e0 := (st_new w d a c).below ((Below.refl _ _).drew)
  have g1 := EX.dt_size d.cl hF.f1
  have g2 := EX.dt_size d.ino hF.f2
  have g3 := EX.dt_size d.at_ hF.f3
  have g4 := hx_size ht
  have g5 := EX.dt_size (d.tx.size : Int) (wf_nat _ ht)
  have H1 : Hid (∀ W, St w d a c W → Calls Tryd.prog 27 #[.int .i64 d.cl] W fun e w' => e = .returned (.string (dt d.cl)) ∧ St w d a c w') := fun W h => dec d.cl hF.f1 h
  have H2 : Hid (∀ W, St w d a c W → Calls Tryd.prog 27 #[.int .i64 d.ino] W fun e w' => e = .returned (.string (dt d.ino)) ∧ St w d a c w') := fun W h => dec d.ino hF.f2 h
  have H3 : Hid (∀ W, St w d a c W → Calls Tryd.prog 27 #[.int .i64 d.at_] W fun e w' => e = .returned (.string (dt d.at_)) ∧ St w d a c w') := fun W h => dec d.at_ hF.f3 h
  have H4 : Hid (∀ W, St w d a c W → Calls Tryd.prog 28 #[.string d.tx] W fun e w' => e = .returned (.string (hx d.tx)) ∧ St w d a c w') := fun W h => hex ht h
  have H5 : Hid (∀ W, St w d a c W → Calls Tryd.prog 27 #[.int .i64 (d.tx.size : Int)] W fun e w' => e = .returned (.string (dt d.tx.size)) ∧ St w d a c w') := fun W h => dec _ (wf_nat _ ht) h
  obtain ⟨u, hu⟩ : ∃ u, dt d.cl = u := ⟨_, rfl⟩
  obtain ⟨v, hv⟩ : ∃ v, dt d.ino = v := ⟨_, rfl⟩
  obtain ⟨x, hx'⟩ : ∃ x, dt d.at_ = x := ⟨_, rfl⟩
  obtain ⟨h, hh⟩ : ∃ h, hx d.tx = h := ⟨_, rfl⟩
  obtain ⟨l, hl⟩ : ∃ l, dt d.tx.size = l := ⟨_, rfl⟩
  rw [hu] at g1 H1
  rw [hv] at g2 H2
  rw [hx'] at g3 H3
  rw [hh] at g4 H4
  rw [hl] at g5 H5
  have HE : Hid (glue (⟨#[108, 97, 115, 116]⟩ : ByteArray) [dt d.cl, dt d.at_, dt d.tx.size] = ((((((⟨#[108, 97, 115, 116]⟩ : ByteArray) ++ ((⟨#[32]⟩ : ByteArray) ++ u)) ++ (⟨#[32]⟩ : ByteArray)) ++ x) ++ (⟨#[32]⟩ : ByteArray)) ++ l)) := by
    show glue _ _ = _
    rw [hu, hx', hl, EV.glue3]
    apply ByteArray.ext
    simp [ByteArray.data_append, Array.append_assoc]
  have k6 : (⟨#[32]⟩ : ByteArray).size ≤ 1 := Nat.le_refl _
  have k7 : (⟨#[108, 97, 115, 116]⟩ : ByteArray).size ≤ 4 := Nat.le_refl _
  have r0_ : ∀ W, (binOp .add 9 (.string (⟨#[32]⟩ : ByteArray)) (.string u)).run Tryd.prog W = .ok (.string ((⟨#[32]⟩ : ByteArray) ++ u)) W := run_cat (by omega)
  have k8 : ((⟨#[32]⟩ : ByteArray) ++ u).size ≤ 23 := cat_le k6 g1
  have r2_ : ∀ W, (binOp .add 9 (.string ((⟨#[32]⟩ : ByteArray) ++ u)) (.string (⟨#[32]⟩ : ByteArray))).run Tryd.prog W = .ok (.string (((⟨#[32]⟩ : ByteArray) ++ u) ++ (⟨#[32]⟩ : ByteArray))) W := run_cat (by omega)
  have k9 : (((⟨#[32]⟩ : ByteArray) ++ u) ++ (⟨#[32]⟩ : ByteArray)).size ≤ 24 := cat_le k8 k6
  have r3_ : ∀ W, (binOp .add 9 (.string (((⟨#[32]⟩ : ByteArray) ++ u) ++ (⟨#[32]⟩ : ByteArray))) (.string v)).run Tryd.prog W = .ok (.string ((((⟨#[32]⟩ : ByteArray) ++ u) ++ (⟨#[32]⟩ : ByteArray)) ++ v)) W := run_cat (by omega)
  have k10 : ((((⟨#[32]⟩ : ByteArray) ++ u) ++ (⟨#[32]⟩ : ByteArray)) ++ v).size ≤ 46 := cat_le k9 g2
  have r4_ : ∀ W, (binOp .add 9 (.string (⟨#[108, 97, 115, 116]⟩ : ByteArray)) (.string ((⟨#[32]⟩ : ByteArray) ++ u))).run Tryd.prog W = .ok (.string ((⟨#[108, 97, 115, 116]⟩ : ByteArray) ++ ((⟨#[32]⟩ : ByteArray) ++ u))) W := run_cat (by omega)
  have k11 : ((⟨#[108, 97, 115, 116]⟩ : ByteArray) ++ ((⟨#[32]⟩ : ByteArray) ++ u)).size ≤ 27 := cat_le k7 k8
  have r5_ : ∀ W, (binOp .add 9 (.string ((⟨#[108, 97, 115, 116]⟩ : ByteArray) ++ ((⟨#[32]⟩ : ByteArray) ++ u))) (.string (⟨#[32]⟩ : ByteArray))).run Tryd.prog W = .ok (.string (((⟨#[108, 97, 115, 116]⟩ : ByteArray) ++ ((⟨#[32]⟩ : ByteArray) ++ u)) ++ (⟨#[32]⟩ : ByteArray))) W := run_cat (by omega)
  have k12 : (((⟨#[108, 97, 115, 116]⟩ : ByteArray) ++ ((⟨#[32]⟩ : ByteArray) ++ u)) ++ (⟨#[32]⟩ : ByteArray)).size ≤ 28 := cat_le k11 k6
  have r6_ : ∀ W, (binOp .add 9 (.string (((⟨#[108, 97, 115, 116]⟩ : ByteArray) ++ ((⟨#[32]⟩ : ByteArray) ++ u)) ++ (⟨#[32]⟩ : ByteArray))) (.string x)).run Tryd.prog W = .ok (.string ((((⟨#[108, 97, 115, 116]⟩ : ByteArray) ++ ((⟨#[32]⟩ : ByteArray) ++ u)) ++ (⟨#[32]⟩ : ByteArray)) ++ x)) W := run_cat (by omega)
  have k13 : ((((⟨#[108, 97, 115, 116]⟩ : ByteArray) ++ ((⟨#[32]⟩ : ByteArray) ++ u)) ++ (⟨#[32]⟩ : ByteArray)) ++ x).size ≤ 50 := cat_le k12 g3
  have r7_ : ∀ W, (binOp .add 9 (.string ((((⟨#[108, 97, 115, 116]⟩ : ByteArray) ++ ((⟨#[32]⟩ : ByteArray) ++ u)) ++ (⟨#[32]⟩ : ByteArray)) ++ x)) (.string (⟨#[32]⟩ : ByteArray))).run Tryd.prog W = .ok (.string (((((⟨#[108, 97, 115, 116]⟩ : ByteArray) ++ ((⟨#[32]⟩ : ByteArray) ++ u)) ++ (⟨#[32]⟩ : ByteArray)) ++ x) ++ (⟨#[32]⟩ : ByteArray))) W := run_cat (by omega)
  have k14 : (((((⟨#[108, 97, 115, 116]⟩ : ByteArray) ++ ((⟨#[32]⟩ : ByteArray) ++ u)) ++ (⟨#[32]⟩ : ByteArray)) ++ x) ++ (⟨#[32]⟩ : ByteArray)).size ≤ 51 := cat_le k13 k6
  have r8_ : ∀ W, (binOp .add 9 (.string (((((⟨#[108, 97, 115, 116]⟩ : ByteArray) ++ ((⟨#[32]⟩ : ByteArray) ++ u)) ++ (⟨#[32]⟩ : ByteArray)) ++ x) ++ (⟨#[32]⟩ : ByteArray))) (.string l)).run Tryd.prog W = .ok (.string ((((((⟨#[108, 97, 115, 116]⟩ : ByteArray) ++ ((⟨#[32]⟩ : ByteArray) ++ u)) ++ (⟨#[32]⟩ : ByteArray)) ++ x) ++ (⟨#[32]⟩ : ByteArray)) ++ l)) W := run_cat (by omega)
  have k15 : ((((((⟨#[108, 97, 115, 116]⟩ : ByteArray) ++ ((⟨#[32]⟩ : ByteArray) ++ u)) ++ (⟨#[32]⟩ : ByteArray)) ++ x) ++ (⟨#[32]⟩ : ByteArray)) ++ l).size ≤ 73 := cat_le k14 g5
  clear k6 k7 k8 k9 k10 k11 k12 k13 k14 k15
  obtain ⟨W0, hW0⟩ : ∃ W0, w.alloc (eo d a c 24) = W0 := ⟨_, rfl⟩
  rw [hW0] at e0
  have s0 : W0.drew.cell? ⟨w.heap.size, 1, none⟩ = some (.int .i64 d.cl) ∧ W0.drew.cell? ⟨w.heap.size, 2, none⟩ = some (.int .i64 d.ino) := ⟨e0.b.c1, e0.b.c2⟩
  have HKd : Hid (d.kd = 2) := hk
  clear hF hk hu hv hx' hh hl
  go_enter Tryd.func17, Tryd.ntmps17
  go_wp2
  try rw [hW0]
  refine wp_region_held (S := fun W => W.cell? ⟨w.heap.size, 1, none⟩ = some (.int .i64 d.cl) ∧ W.cell? ⟨w.heap.size, 2, none⟩ = some (.int .i64 d.ino)) (by kernel_rfl) ?_
  refine wpAnyH_take (i := 0) (v := .pointer (some ⟨w.heap.size, 1, none⟩)) rfl (by kernel_rfl) (by kernel_rfl) (by kernel_rfl) (fun _ _ _ h => h) (Or.inl ⟨by rfl, fun w' hS' => by rfl⟩) s0 ?_
  simp only [BZ.z, Act.put, Nat.reduceAdd]
  refine wpAnyH_take (i := 1) (v := .int .i64 d.cl) rfl (by kernel_rfl) (by kernel_rfl) (by kernel_rfl) (fun _ _ _ h => h) (Or.inl ⟨by rfl, fun w' hS' => ?_⟩) s0 ?_
  · obtain ⟨p1, p2⟩ := hS'
    go_simp
  simp only [BZ.z, Act.put, Nat.reduceAdd]
  refine wpAnyH_take (i := 4) (v := .pointer (some ⟨w.heap.size, 1, none⟩)) rfl (by kernel_rfl) (by kernel_rfl) (by kernel_rfl) (fun _ _ _ h => h) (Or.inl ⟨by rfl, fun w' hS' => by rfl⟩) s0 ?_
  simp only [BZ.z, Act.put, Nat.reduceAdd]
  refine wpAnyH_take (i := 5) (v := .int .i64 d.cl) rfl (by kernel_rfl) (by kernel_rfl) (by kernel_rfl) (fun _ _ _ h => h) (Or.inl ⟨by rfl, fun w' hS' => ?_⟩) s0 ?_
  · obtain ⟨p1, p2⟩ := hS'
    go_simp
  simp only [BZ.z, Act.put, Nat.reduceAdd]
  refine wpAnyH_take (i := 9) (v := .pointer (some ⟨w.heap.size, 2, none⟩)) rfl (by kernel_rfl) (by kernel_rfl) (by kernel_rfl) (fun _ _ _ h => h) (Or.inl ⟨by rfl, fun w' hS' => by rfl⟩) s0 ?_
  simp only [BZ.z, Act.put, Nat.reduceAdd]
  refine wpAnyH_take (i := 10) (v := .int .i64 d.ino) rfl (by kernel_rfl) (by kernel_rfl) (by kernel_rfl) (fun _ _ _ h => h) (Or.inl ⟨by rfl, fun w' hS' => ?_⟩) s0 ?_
  · obtain ⟨p1, p2⟩ := hS'
    go_simp
  simp only [BZ.z, Act.put, Nat.reduceAdd]
  refine Y0.one_callw (i := 2) (by kernel_rfl) rfl (by rfl) (.tmp 8) _ rfl (.int .i64 d.cl) (by rfl) (enters_of Tryd.func27 (by kernel_rfl) rfl) ((H1.out _ e0).mono ?_)
  rintro e w1 ⟨rfl, e1⟩
  have s1 : w1.cell? ⟨w.heap.size, 1, none⟩ = some (.int .i64 d.cl) ∧ w1.cell? ⟨w.heap.size, 2, none⟩ = some (.int .i64 d.ino) := ⟨e1.b.c1, e1.b.c2⟩
  refine ⟨_, rfl, s1, ?_⟩
  simp only [BZ.z, Act.put, Nat.reduceAdd]
  refine wpAnyH_take (i := 3) (v := .string ((⟨#[32]⟩ : ByteArray) ++ u)) rfl (by kernel_rfl) (by kernel_rfl) (by kernel_rfl) (fun _ _ _ h => h) (Or.inl ⟨by rfl, fun w' hS' => ?_⟩) s1 ?_
  · obtain ⟨p1, p2⟩ := hS'
    (refine cat_yield ?_; simp only [ByteArray.size_append, sz_lit, List.size_toArray, List.length_cons, List.length_nil]; omega)
  simp only [BZ.z, Act.put, Nat.reduceAdd]
  refine Y0.one_callw (i := 6) (by kernel_rfl) rfl (by rfl) (.tmp 12) _ rfl (.int .i64 d.cl) (by rfl) (enters_of Tryd.func27 (by kernel_rfl) rfl) ((H1.out _ e1).mono ?_)
  rintro e w2 ⟨rfl, e2⟩
  have s2 : w2.cell? ⟨w.heap.size, 1, none⟩ = some (.int .i64 d.cl) ∧ w2.cell? ⟨w.heap.size, 2, none⟩ = some (.int .i64 d.ino) := ⟨e2.b.c1, e2.b.c2⟩
  refine ⟨_, rfl, s2, ?_⟩
  simp only [BZ.z, Act.put, Nat.reduceAdd]
  refine wpAnyH_take (i := 7) (v := .string ((⟨#[32]⟩ : ByteArray) ++ u)) rfl (by kernel_rfl) (by kernel_rfl) (by kernel_rfl) (fun _ _ _ h => h) (Or.inl ⟨by rfl, fun w' hS' => ?_⟩) s2 ?_
  · obtain ⟨p1, p2⟩ := hS'
    (refine cat_yield ?_; simp only [ByteArray.size_append, sz_lit, List.size_toArray, List.length_cons, List.length_nil]; omega)
  simp only [BZ.z, Act.put, Nat.reduceAdd]
  refine wpAnyH_take (i := 8) (v := .string (((⟨#[32]⟩ : ByteArray) ++ u) ++ (⟨#[32]⟩ : ByteArray))) rfl (by kernel_rfl) (by kernel_rfl) (by kernel_rfl) (fun _ _ _ h => h) (Or.inl ⟨by rfl, fun w' hS' => ?_⟩) s2 ?_
  · obtain ⟨p1, p2⟩ := hS'
    (refine cat_yield ?_; simp only [ByteArray.size_append, sz_lit, List.size_toArray, List.length_cons, List.length_nil]; omega)
  simp only [BZ.z, Act.put, Nat.reduceAdd]
  refine Y0.one_callw (i := 11) (by kernel_rfl) rfl (by rfl) (.tmp 17) _ rfl (.int .i64 d.ino) (by rfl) (enters_of Tryd.func27 (by kernel_rfl) rfl) ((H2.out _ e2).mono ?_)
  rintro e w3 ⟨rfl, e3⟩
  have s3 : w3.cell? ⟨w.heap.size, 1, none⟩ = some (.int .i64 d.cl) ∧ w3.cell? ⟨w.heap.size, 2, none⟩ = some (.int .i64 d.ino) := ⟨e3.b.c1, e3.b.c2⟩
  refine ⟨_, rfl, s3, ?_⟩
  simp only [BZ.z, Act.put, Nat.reduceAdd]
  refine wpAnyH_take (i := 12) (v := .string ((((⟨#[32]⟩ : ByteArray) ++ u) ++ (⟨#[32]⟩ : ByteArray)) ++ v)) rfl (by kernel_rfl) (by kernel_rfl) (by kernel_rfl) (fun _ _ _ h => h) (Or.inl ⟨by rfl, fun w' hS' => ?_⟩) s3 ?_
  · obtain ⟨p1, p2⟩ := hS'
    (refine cat_yield ?_; simp only [ByteArray.size_append, sz_lit, List.size_toArray, List.length_cons, List.length_nil]; omega)
  simp only [BZ.z, Act.put, Nat.reduceAdd]
  refine wpAnyH_take (i := 13) (v := .string ((⟨#[32]⟩ : ByteArray) ++ u)) rfl (by kernel_rfl) (by kernel_rfl) (by kernel_rfl) (fun _ _ _ h => h) (Or.inl ⟨by rfl, fun w' hS' => by rfl⟩) s3 ?_
  simp only [BZ.z, Act.put, Nat.reduceAdd]
  refine wpAnyH_take (i := 14) (v := .string ((((⟨#[32]⟩ : ByteArray) ++ u) ++ (⟨#[32]⟩ : ByteArray)) ++ v)) rfl (by kernel_rfl) (by kernel_rfl) (by kernel_rfl) (fun _ _ _ h => h) (Or.inl ⟨by rfl, fun w' hS' => by rfl⟩) s3 ?_
  simp only [BZ.z, Act.put, Nat.reduceAdd]
  refine wpAnyH_done (by kernel_rfl) ?_ _

  have c0 := e3.b.c0
  have c3 := e3.b.c3
  have c4 := e3.b.c4
  rw [HKd.out] at c0
  clear s0 s1 s2 s3 e0 e1 e2
  go_wp2
  have d4 := e3.below ((Below.refl _ _).drew)
  have s4 : w3.drew.cell? ⟨w.heap.size, 3, none⟩ = some (.int .i64 d.at_) ∧ w3.drew.cell? ⟨w.heap.size, 4, none⟩ = some (.string d.tx) := ⟨d4.b.c3, d4.b.c4⟩
  clear c0 c3 c4
  refine wp_region_held (S := fun W => W.cell? ⟨w.heap.size, 3, none⟩ = some (.int .i64 d.at_) ∧ W.cell? ⟨w.heap.size, 4, none⟩ = some (.string d.tx)) (by kernel_rfl) ?_
  refine wpAnyH_take (i := 0) (v := .string ((⟨#[32]⟩ : ByteArray) ++ u)) rfl (by kernel_rfl) (by kernel_rfl) (by kernel_rfl) (fun _ _ _ h => h) (Or.inl ⟨by rfl, fun w' hS' => by rfl⟩) s4 ?_
  simp only [BZ.z, Act.put, Nat.reduceAdd]
  refine wpAnyH_take (i := 1) (v := .string ((⟨#[108, 97, 115, 116]⟩ : ByteArray) ++ ((⟨#[32]⟩ : ByteArray) ++ u))) rfl (by kernel_rfl) (by kernel_rfl) (by kernel_rfl) (fun _ _ _ h => h) (Or.inl ⟨by rfl, fun w' hS' => ?_⟩) s4 ?_
  · obtain ⟨p3, p4⟩ := hS'
    (refine cat_yield ?_; simp only [ByteArray.size_append, sz_lit, List.size_toArray, List.length_cons, List.length_nil]; omega)
  simp only [BZ.z, Act.put, Nat.reduceAdd]
  refine wpAnyH_take (i := 2) (v := .string (((⟨#[108, 97, 115, 116]⟩ : ByteArray) ++ ((⟨#[32]⟩ : ByteArray) ++ u)) ++ (⟨#[32]⟩ : ByteArray))) rfl (by kernel_rfl) (by kernel_rfl) (by kernel_rfl) (fun _ _ _ h => h) (Or.inl ⟨by rfl, fun w' hS' => ?_⟩) s4 ?_
  · obtain ⟨p3, p4⟩ := hS'
    (refine cat_yield ?_; simp only [ByteArray.size_append, sz_lit, List.size_toArray, List.length_cons, List.length_nil]; omega)
  simp only [BZ.z, Act.put, Nat.reduceAdd]
  refine wpAnyH_take (i := 3) (v := .pointer (some ⟨w.heap.size, 3, none⟩)) rfl (by kernel_rfl) (by kernel_rfl) (by kernel_rfl) (fun _ _ _ h => h) (Or.inl ⟨by rfl, fun w' hS' => by rfl⟩) s4 ?_
  simp only [BZ.z, Act.put, Nat.reduceAdd]
  refine wpAnyH_take (i := 4) (v := .int .i64 d.at_) rfl (by kernel_rfl) (by kernel_rfl) (by kernel_rfl) (fun _ _ _ h => h) (Or.inl ⟨by rfl, fun w' hS' => ?_⟩) s4 ?_
  · obtain ⟨p3, p4⟩ := hS'
    go_simp
  simp only [BZ.z, Act.put, Nat.reduceAdd]
  refine wpAnyH_take (i := 8) (v := .pointer (some ⟨w.heap.size, 4, none⟩)) rfl (by kernel_rfl) (by kernel_rfl) (by kernel_rfl) (fun _ _ _ h => h) (Or.inl ⟨by rfl, fun w' hS' => by rfl⟩) s4 ?_
  simp only [BZ.z, Act.put, Nat.reduceAdd]
  refine wpAnyH_take (i := 9) (v := .string d.tx) rfl (by kernel_rfl) (by kernel_rfl) (by kernel_rfl) (fun _ _ _ h => h) (Or.inl ⟨by rfl, fun w' hS' => ?_⟩) s4 ?_
  · obtain ⟨p3, p4⟩ := hS'
    go_simp
  simp only [BZ.z, Act.put, Nat.reduceAdd]
  refine wpAnyH_take (i := 10) (v := .int .i64 (d.tx.size : Int)) rfl (by kernel_rfl) (by kernel_rfl) (by kernel_rfl) (fun _ _ _ h => h) (Or.inl ⟨by rfl, fun w' hS' => ?_⟩) s4 ?_
  · obtain ⟨p3, p4⟩ := hS'
    go_simp
  simp only [BZ.z, Act.put, Nat.reduceAdd]
  refine Y0.one_callw (i := 5) (by kernel_rfl) rfl (by rfl) (.tmp 51) _ rfl (.int .i64 d.at_) (by rfl) (enters_of Tryd.func27 (by kernel_rfl) rfl) ((H3.out _ d4).mono ?_)
  rintro e w5 ⟨rfl, e5⟩
  have s5 : w5.cell? ⟨w.heap.size, 3, none⟩ = some (.int .i64 d.at_) ∧ w5.cell? ⟨w.heap.size, 4, none⟩ = some (.string d.tx) := ⟨e5.b.c3, e5.b.c4⟩
  refine ⟨_, rfl, s5, ?_⟩
  simp only [BZ.z, Act.put, Nat.reduceAdd]
  refine wpAnyH_take (i := 6) (v := .string ((((⟨#[108, 97, 115, 116]⟩ : ByteArray) ++ ((⟨#[32]⟩ : ByteArray) ++ u)) ++ (⟨#[32]⟩ : ByteArray)) ++ x)) rfl (by kernel_rfl) (by kernel_rfl) (by kernel_rfl) (fun _ _ _ h => h) (Or.inl ⟨by rfl, fun w' hS' => ?_⟩) s5 ?_
  · obtain ⟨p3, p4⟩ := hS'
    (refine cat_yield ?_; simp only [ByteArray.size_append, sz_lit, List.size_toArray, List.length_cons, List.length_nil]; omega)
  simp only [BZ.z, Act.put, Nat.reduceAdd]
  refine wpAnyH_take (i := 7) (v := .string (((((⟨#[108, 97, 115, 116]⟩ : ByteArray) ++ ((⟨#[32]⟩ : ByteArray) ++ u)) ++ (⟨#[32]⟩ : ByteArray)) ++ x) ++ (⟨#[32]⟩ : ByteArray))) rfl (by kernel_rfl) (by kernel_rfl) (by kernel_rfl) (fun _ _ _ h => h) (Or.inl ⟨by rfl, fun w' hS' => ?_⟩) s5 ?_
  · obtain ⟨p3, p4⟩ := hS'
    (refine cat_yield ?_; simp only [ByteArray.size_append, sz_lit, List.size_toArray, List.length_cons, List.length_nil]; omega)
  simp only [BZ.z, Act.put, Nat.reduceAdd]
  refine Y0.one_callw (i := 11) (by kernel_rfl) rfl (by rfl) (.tmp 57) _ rfl (.int .i64 (d.tx.size : Int)) (by rfl) (enters_of Tryd.func27 (by kernel_rfl) rfl) ((H5.out _ e5).mono ?_)
  rintro e w6 ⟨rfl, e6⟩
  have s6 : w6.cell? ⟨w.heap.size, 3, none⟩ = some (.int .i64 d.at_) ∧ w6.cell? ⟨w.heap.size, 4, none⟩ = some (.string d.tx) := ⟨e6.b.c3, e6.b.c4⟩
  refine ⟨_, rfl, s6, ?_⟩
  simp only [BZ.z, Act.put, Nat.reduceAdd]
  refine wpAnyH_take (i := 12) (v := .string ((((((⟨#[108, 97, 115, 116]⟩ : ByteArray) ++ ((⟨#[32]⟩ : ByteArray) ++ u)) ++ (⟨#[32]⟩ : ByteArray)) ++ x) ++ (⟨#[32]⟩ : ByteArray)) ++ l)) rfl (by kernel_rfl) (by kernel_rfl) (by kernel_rfl) (fun _ _ _ h => h) (Or.inl ⟨by rfl, fun w' hS' => ?_⟩) s6 ?_
  · obtain ⟨p3, p4⟩ := hS'
    (refine cat_yield ?_; simp only [ByteArray.size_append, sz_lit, List.size_toArray, List.length_cons, List.length_nil]; omega)
  simp only [BZ.z, Act.put, Nat.reduceAdd]
  refine wpAnyH_take (i := 13) (v := .string ((((((⟨#[108, 97, 115, 116]⟩ : ByteArray) ++ ((⟨#[32]⟩ : ByteArray) ++ u)) ++ (⟨#[32]⟩ : ByteArray)) ++ x) ++ (⟨#[32]⟩ : ByteArray)) ++ l)) rfl (by kernel_rfl) (by kernel_rfl) (by kernel_rfl) (fun _ _ _ h => h) (Or.inl ⟨by rfl, fun w' hS' => by rfl⟩) s6 ?_
  simp only [BZ.z, Act.put, Nat.reduceAdd]
  refine wpAnyH_done (by kernel_rfl) ?_ _
  go_wp2
  go_ret
  exact ⟨by rw [HE.out]; rfl, e6.bel⟩

set_option maxHeartbeats 4000000 in
theorem text3 (hk : d.kd = 3) (hF : Fit d) (ht : d.tx.size ≤ 1048576) :
    Calls Tryd.prog 17 #[val d a c] w fun e w' => e = .returned (.string (glue (⟨#[98, 97, 99, 107]⟩ : ByteArray) [dt d.cl, dt d.ino])) ∧ Below w.heap.size w w' := by
  have e0 := (st_new w d a c).below ((Below.refl _ _).drew)
  have g1 := EX.dt_size d.cl hF.f1
  have g2 := EX.dt_size d.ino hF.f2
  have g3 := EX.dt_size d.at_ hF.f3
  have g4 := hx_size ht
  have g5 := EX.dt_size (d.tx.size : Int) (wf_nat _ ht)
  have H1 : Hid (∀ W, St w d a c W → Calls Tryd.prog 27 #[.int .i64 d.cl] W fun e w' => e = .returned (.string (dt d.cl)) ∧ St w d a c w') := fun W h => dec d.cl hF.f1 h
  have H2 : Hid (∀ W, St w d a c W → Calls Tryd.prog 27 #[.int .i64 d.ino] W fun e w' => e = .returned (.string (dt d.ino)) ∧ St w d a c w') := fun W h => dec d.ino hF.f2 h
  have H3 : Hid (∀ W, St w d a c W → Calls Tryd.prog 27 #[.int .i64 d.at_] W fun e w' => e = .returned (.string (dt d.at_)) ∧ St w d a c w') := fun W h => dec d.at_ hF.f3 h
  have H4 : Hid (∀ W, St w d a c W → Calls Tryd.prog 28 #[.string d.tx] W fun e w' => e = .returned (.string (hx d.tx)) ∧ St w d a c w') := fun W h => hex ht h
  have H5 : Hid (∀ W, St w d a c W → Calls Tryd.prog 27 #[.int .i64 (d.tx.size : Int)] W fun e w' => e = .returned (.string (dt d.tx.size)) ∧ St w d a c w') := fun W h => dec _ (wf_nat _ ht) h
  obtain ⟨u, hu⟩ : ∃ u, dt d.cl = u := ⟨_, rfl⟩
  obtain ⟨v, hv⟩ : ∃ v, dt d.ino = v := ⟨_, rfl⟩
  obtain ⟨x, hx'⟩ : ∃ x, dt d.at_ = x := ⟨_, rfl⟩
  obtain ⟨h, hh⟩ : ∃ h, hx d.tx = h := ⟨_, rfl⟩
  obtain ⟨l, hl⟩ : ∃ l, dt d.tx.size = l := ⟨_, rfl⟩
  rw [hu] at g1 H1
  rw [hv] at g2 H2
  rw [hx'] at g3 H3
  rw [hh] at g4 H4
  rw [hl] at g5 H5
  have HE : Hid (glue (⟨#[98, 97, 99, 107]⟩ : ByteArray) [dt d.cl, dt d.ino] = ((⟨#[98, 97, 99, 107]⟩ : ByteArray) ++ ((((⟨#[32]⟩ : ByteArray) ++ u) ++ (⟨#[32]⟩ : ByteArray)) ++ v))) := by
    show glue _ _ = _
    rw [hu, hv, EV.glue2]
    apply ByteArray.ext
    simp [ByteArray.data_append, Array.append_assoc]
  have k6 : (⟨#[32]⟩ : ByteArray).size ≤ 1 := Nat.le_refl _
  have k7 : (⟨#[98, 97, 99, 107]⟩ : ByteArray).size ≤ 4 := Nat.le_refl _
  have r0_ : ∀ W, (binOp .add 9 (.string (⟨#[32]⟩ : ByteArray)) (.string u)).run Tryd.prog W = .ok (.string ((⟨#[32]⟩ : ByteArray) ++ u)) W := run_cat (by omega)
  have k8 : ((⟨#[32]⟩ : ByteArray) ++ u).size ≤ 23 := cat_le k6 g1
  have r2_ : ∀ W, (binOp .add 9 (.string ((⟨#[32]⟩ : ByteArray) ++ u)) (.string (⟨#[32]⟩ : ByteArray))).run Tryd.prog W = .ok (.string (((⟨#[32]⟩ : ByteArray) ++ u) ++ (⟨#[32]⟩ : ByteArray))) W := run_cat (by omega)
  have k9 : (((⟨#[32]⟩ : ByteArray) ++ u) ++ (⟨#[32]⟩ : ByteArray)).size ≤ 24 := cat_le k8 k6
  have r3_ : ∀ W, (binOp .add 9 (.string (((⟨#[32]⟩ : ByteArray) ++ u) ++ (⟨#[32]⟩ : ByteArray))) (.string v)).run Tryd.prog W = .ok (.string ((((⟨#[32]⟩ : ByteArray) ++ u) ++ (⟨#[32]⟩ : ByteArray)) ++ v)) W := run_cat (by omega)
  have k10 : ((((⟨#[32]⟩ : ByteArray) ++ u) ++ (⟨#[32]⟩ : ByteArray)) ++ v).size ≤ 46 := cat_le k9 g2
  have r4_ : ∀ W, (binOp .add 9 (.string (⟨#[98, 97, 99, 107]⟩ : ByteArray)) (.string ((((⟨#[32]⟩ : ByteArray) ++ u) ++ (⟨#[32]⟩ : ByteArray)) ++ v))).run Tryd.prog W = .ok (.string ((⟨#[98, 97, 99, 107]⟩ : ByteArray) ++ ((((⟨#[32]⟩ : ByteArray) ++ u) ++ (⟨#[32]⟩ : ByteArray)) ++ v))) W := run_cat (by omega)
  have k11 : ((⟨#[98, 97, 99, 107]⟩ : ByteArray) ++ ((((⟨#[32]⟩ : ByteArray) ++ u) ++ (⟨#[32]⟩ : ByteArray)) ++ v)).size ≤ 50 := cat_le k7 k10
  clear k6 k7 k8 k9 k10 k11
  obtain ⟨W0, hW0⟩ : ∃ W0, w.alloc (eo d a c 24) = W0 := ⟨_, rfl⟩
  rw [hW0] at e0
  have s0 : W0.drew.cell? ⟨w.heap.size, 1, none⟩ = some (.int .i64 d.cl) ∧ W0.drew.cell? ⟨w.heap.size, 2, none⟩ = some (.int .i64 d.ino) := ⟨e0.b.c1, e0.b.c2⟩
  have HKd : Hid (d.kd = 3) := hk
  clear hF hk hu hv hx' hh hl
  go_enter Tryd.func17, Tryd.ntmps17
  go_wp2
  try rw [hW0]
  refine wp_region_held (S := fun W => W.cell? ⟨w.heap.size, 1, none⟩ = some (.int .i64 d.cl) ∧ W.cell? ⟨w.heap.size, 2, none⟩ = some (.int .i64 d.ino)) (by kernel_rfl) ?_
  refine wpAnyH_take (i := 0) (v := .pointer (some ⟨w.heap.size, 1, none⟩)) rfl (by kernel_rfl) (by kernel_rfl) (by kernel_rfl) (fun _ _ _ h => h) (Or.inl ⟨by rfl, fun w' hS' => by rfl⟩) s0 ?_
  simp only [BZ.z, Act.put, Nat.reduceAdd]
  refine wpAnyH_take (i := 1) (v := .int .i64 d.cl) rfl (by kernel_rfl) (by kernel_rfl) (by kernel_rfl) (fun _ _ _ h => h) (Or.inl ⟨by rfl, fun w' hS' => ?_⟩) s0 ?_
  · obtain ⟨p1, p2⟩ := hS'
    go_simp
  simp only [BZ.z, Act.put, Nat.reduceAdd]
  refine wpAnyH_take (i := 4) (v := .pointer (some ⟨w.heap.size, 1, none⟩)) rfl (by kernel_rfl) (by kernel_rfl) (by kernel_rfl) (fun _ _ _ h => h) (Or.inl ⟨by rfl, fun w' hS' => by rfl⟩) s0 ?_
  simp only [BZ.z, Act.put, Nat.reduceAdd]
  refine wpAnyH_take (i := 5) (v := .int .i64 d.cl) rfl (by kernel_rfl) (by kernel_rfl) (by kernel_rfl) (fun _ _ _ h => h) (Or.inl ⟨by rfl, fun w' hS' => ?_⟩) s0 ?_
  · obtain ⟨p1, p2⟩ := hS'
    go_simp
  simp only [BZ.z, Act.put, Nat.reduceAdd]
  refine wpAnyH_take (i := 9) (v := .pointer (some ⟨w.heap.size, 2, none⟩)) rfl (by kernel_rfl) (by kernel_rfl) (by kernel_rfl) (fun _ _ _ h => h) (Or.inl ⟨by rfl, fun w' hS' => by rfl⟩) s0 ?_
  simp only [BZ.z, Act.put, Nat.reduceAdd]
  refine wpAnyH_take (i := 10) (v := .int .i64 d.ino) rfl (by kernel_rfl) (by kernel_rfl) (by kernel_rfl) (fun _ _ _ h => h) (Or.inl ⟨by rfl, fun w' hS' => ?_⟩) s0 ?_
  · obtain ⟨p1, p2⟩ := hS'
    go_simp
  simp only [BZ.z, Act.put, Nat.reduceAdd]
  refine Y0.one_callw (i := 2) (by kernel_rfl) rfl (by rfl) (.tmp 8) _ rfl (.int .i64 d.cl) (by rfl) (enters_of Tryd.func27 (by kernel_rfl) rfl) ((H1.out _ e0).mono ?_)
  rintro e w1 ⟨rfl, e1⟩
  have s1 : w1.cell? ⟨w.heap.size, 1, none⟩ = some (.int .i64 d.cl) ∧ w1.cell? ⟨w.heap.size, 2, none⟩ = some (.int .i64 d.ino) := ⟨e1.b.c1, e1.b.c2⟩
  refine ⟨_, rfl, s1, ?_⟩
  simp only [BZ.z, Act.put, Nat.reduceAdd]
  refine wpAnyH_take (i := 3) (v := .string ((⟨#[32]⟩ : ByteArray) ++ u)) rfl (by kernel_rfl) (by kernel_rfl) (by kernel_rfl) (fun _ _ _ h => h) (Or.inl ⟨by rfl, fun w' hS' => ?_⟩) s1 ?_
  · obtain ⟨p1, p2⟩ := hS'
    (refine cat_yield ?_; simp only [ByteArray.size_append, sz_lit, List.size_toArray, List.length_cons, List.length_nil]; omega)
  simp only [BZ.z, Act.put, Nat.reduceAdd]
  refine Y0.one_callw (i := 6) (by kernel_rfl) rfl (by rfl) (.tmp 12) _ rfl (.int .i64 d.cl) (by rfl) (enters_of Tryd.func27 (by kernel_rfl) rfl) ((H1.out _ e1).mono ?_)
  rintro e w2 ⟨rfl, e2⟩
  have s2 : w2.cell? ⟨w.heap.size, 1, none⟩ = some (.int .i64 d.cl) ∧ w2.cell? ⟨w.heap.size, 2, none⟩ = some (.int .i64 d.ino) := ⟨e2.b.c1, e2.b.c2⟩
  refine ⟨_, rfl, s2, ?_⟩
  simp only [BZ.z, Act.put, Nat.reduceAdd]
  refine wpAnyH_take (i := 7) (v := .string ((⟨#[32]⟩ : ByteArray) ++ u)) rfl (by kernel_rfl) (by kernel_rfl) (by kernel_rfl) (fun _ _ _ h => h) (Or.inl ⟨by rfl, fun w' hS' => ?_⟩) s2 ?_
  · obtain ⟨p1, p2⟩ := hS'
    (refine cat_yield ?_; simp only [ByteArray.size_append, sz_lit, List.size_toArray, List.length_cons, List.length_nil]; omega)
  simp only [BZ.z, Act.put, Nat.reduceAdd]
  refine wpAnyH_take (i := 8) (v := .string (((⟨#[32]⟩ : ByteArray) ++ u) ++ (⟨#[32]⟩ : ByteArray))) rfl (by kernel_rfl) (by kernel_rfl) (by kernel_rfl) (fun _ _ _ h => h) (Or.inl ⟨by rfl, fun w' hS' => ?_⟩) s2 ?_
  · obtain ⟨p1, p2⟩ := hS'
    (refine cat_yield ?_; simp only [ByteArray.size_append, sz_lit, List.size_toArray, List.length_cons, List.length_nil]; omega)
  simp only [BZ.z, Act.put, Nat.reduceAdd]
  refine Y0.one_callw (i := 11) (by kernel_rfl) rfl (by rfl) (.tmp 17) _ rfl (.int .i64 d.ino) (by rfl) (enters_of Tryd.func27 (by kernel_rfl) rfl) ((H2.out _ e2).mono ?_)
  rintro e w3 ⟨rfl, e3⟩
  have s3 : w3.cell? ⟨w.heap.size, 1, none⟩ = some (.int .i64 d.cl) ∧ w3.cell? ⟨w.heap.size, 2, none⟩ = some (.int .i64 d.ino) := ⟨e3.b.c1, e3.b.c2⟩
  refine ⟨_, rfl, s3, ?_⟩
  simp only [BZ.z, Act.put, Nat.reduceAdd]
  refine wpAnyH_take (i := 12) (v := .string ((((⟨#[32]⟩ : ByteArray) ++ u) ++ (⟨#[32]⟩ : ByteArray)) ++ v)) rfl (by kernel_rfl) (by kernel_rfl) (by kernel_rfl) (fun _ _ _ h => h) (Or.inl ⟨by rfl, fun w' hS' => ?_⟩) s3 ?_
  · obtain ⟨p1, p2⟩ := hS'
    (refine cat_yield ?_; simp only [ByteArray.size_append, sz_lit, List.size_toArray, List.length_cons, List.length_nil]; omega)
  simp only [BZ.z, Act.put, Nat.reduceAdd]
  refine wpAnyH_take (i := 13) (v := .string ((⟨#[32]⟩ : ByteArray) ++ u)) rfl (by kernel_rfl) (by kernel_rfl) (by kernel_rfl) (fun _ _ _ h => h) (Or.inl ⟨by rfl, fun w' hS' => by rfl⟩) s3 ?_
  simp only [BZ.z, Act.put, Nat.reduceAdd]
  refine wpAnyH_take (i := 14) (v := .string ((((⟨#[32]⟩ : ByteArray) ++ u) ++ (⟨#[32]⟩ : ByteArray)) ++ v)) rfl (by kernel_rfl) (by kernel_rfl) (by kernel_rfl) (fun _ _ _ h => h) (Or.inl ⟨by rfl, fun w' hS' => by rfl⟩) s3 ?_
  simp only [BZ.z, Act.put, Nat.reduceAdd]
  refine wpAnyH_done (by kernel_rfl) ?_ _

  have c0 := e3.b.c0
  have c3 := e3.b.c3
  have c4 := e3.b.c4
  rw [HKd.out] at c0
  clear s0 s1 s2 s3 e0 e1 e2
  go_wp2
  go_ret
  exact ⟨by rw [HE.out]; rfl, e3.bel⟩

set_option maxHeartbeats 4000000 in
theorem text4 (hk : d.kd = 4) (hF : Fit d) (ht : d.tx.size ≤ 1048576) :
    Calls Tryd.prog 17 #[val d a c] w fun e w' => e = .returned (.string (glue (⟨#[116, 105, 99, 107]⟩ : ByteArray) [])) ∧ Below w.heap.size w w' := by
  have e0 := (st_new w d a c).below ((Below.refl _ _).drew)
  have g1 := EX.dt_size d.cl hF.f1
  have g2 := EX.dt_size d.ino hF.f2
  have g3 := EX.dt_size d.at_ hF.f3
  have g4 := hx_size ht
  have g5 := EX.dt_size (d.tx.size : Int) (wf_nat _ ht)
  have H1 : Hid (∀ W, St w d a c W → Calls Tryd.prog 27 #[.int .i64 d.cl] W fun e w' => e = .returned (.string (dt d.cl)) ∧ St w d a c w') := fun W h => dec d.cl hF.f1 h
  have H2 : Hid (∀ W, St w d a c W → Calls Tryd.prog 27 #[.int .i64 d.ino] W fun e w' => e = .returned (.string (dt d.ino)) ∧ St w d a c w') := fun W h => dec d.ino hF.f2 h
  have H3 : Hid (∀ W, St w d a c W → Calls Tryd.prog 27 #[.int .i64 d.at_] W fun e w' => e = .returned (.string (dt d.at_)) ∧ St w d a c w') := fun W h => dec d.at_ hF.f3 h
  have H4 : Hid (∀ W, St w d a c W → Calls Tryd.prog 28 #[.string d.tx] W fun e w' => e = .returned (.string (hx d.tx)) ∧ St w d a c w') := fun W h => hex ht h
  have H5 : Hid (∀ W, St w d a c W → Calls Tryd.prog 27 #[.int .i64 (d.tx.size : Int)] W fun e w' => e = .returned (.string (dt d.tx.size)) ∧ St w d a c w') := fun W h => dec _ (wf_nat _ ht) h
  obtain ⟨u, hu⟩ : ∃ u, dt d.cl = u := ⟨_, rfl⟩
  obtain ⟨v, hv⟩ : ∃ v, dt d.ino = v := ⟨_, rfl⟩
  obtain ⟨x, hx'⟩ : ∃ x, dt d.at_ = x := ⟨_, rfl⟩
  obtain ⟨h, hh⟩ : ∃ h, hx d.tx = h := ⟨_, rfl⟩
  obtain ⟨l, hl⟩ : ∃ l, dt d.tx.size = l := ⟨_, rfl⟩
  rw [hu] at g1 H1
  rw [hv] at g2 H2
  rw [hx'] at g3 H3
  rw [hh] at g4 H4
  rw [hl] at g5 H5
  have HE : Hid (glue (⟨#[116, 105, 99, 107]⟩ : ByteArray) [] = (⟨#[116, 105, 99, 107]⟩ : ByteArray)) := by
    show glue _ _ = _
    rw [EV.glue_nil]
  have k6 : (⟨#[32]⟩ : ByteArray).size ≤ 1 := Nat.le_refl _
  have r0_ : ∀ W, (binOp .add 9 (.string (⟨#[32]⟩ : ByteArray)) (.string u)).run Tryd.prog W = .ok (.string ((⟨#[32]⟩ : ByteArray) ++ u)) W := run_cat (by omega)
  have k7 : ((⟨#[32]⟩ : ByteArray) ++ u).size ≤ 23 := cat_le k6 g1
  have r2_ : ∀ W, (binOp .add 9 (.string ((⟨#[32]⟩ : ByteArray) ++ u)) (.string (⟨#[32]⟩ : ByteArray))).run Tryd.prog W = .ok (.string (((⟨#[32]⟩ : ByteArray) ++ u) ++ (⟨#[32]⟩ : ByteArray))) W := run_cat (by omega)
  have k8 : (((⟨#[32]⟩ : ByteArray) ++ u) ++ (⟨#[32]⟩ : ByteArray)).size ≤ 24 := cat_le k7 k6
  have r3_ : ∀ W, (binOp .add 9 (.string (((⟨#[32]⟩ : ByteArray) ++ u) ++ (⟨#[32]⟩ : ByteArray))) (.string v)).run Tryd.prog W = .ok (.string ((((⟨#[32]⟩ : ByteArray) ++ u) ++ (⟨#[32]⟩ : ByteArray)) ++ v)) W := run_cat (by omega)
  have k9 : ((((⟨#[32]⟩ : ByteArray) ++ u) ++ (⟨#[32]⟩ : ByteArray)) ++ v).size ≤ 46 := cat_le k8 g2
  clear k6 k7 k8 k9
  obtain ⟨W0, hW0⟩ : ∃ W0, w.alloc (eo d a c 24) = W0 := ⟨_, rfl⟩
  rw [hW0] at e0
  have s0 : W0.drew.cell? ⟨w.heap.size, 1, none⟩ = some (.int .i64 d.cl) ∧ W0.drew.cell? ⟨w.heap.size, 2, none⟩ = some (.int .i64 d.ino) := ⟨e0.b.c1, e0.b.c2⟩
  have HKd : Hid (d.kd = 4) := hk
  clear hF hk hu hv hx' hh hl
  go_enter Tryd.func17, Tryd.ntmps17
  go_wp2
  try rw [hW0]
  refine wp_region_held (S := fun W => W.cell? ⟨w.heap.size, 1, none⟩ = some (.int .i64 d.cl) ∧ W.cell? ⟨w.heap.size, 2, none⟩ = some (.int .i64 d.ino)) (by kernel_rfl) ?_
  refine wpAnyH_take (i := 0) (v := .pointer (some ⟨w.heap.size, 1, none⟩)) rfl (by kernel_rfl) (by kernel_rfl) (by kernel_rfl) (fun _ _ _ h => h) (Or.inl ⟨by rfl, fun w' hS' => by rfl⟩) s0 ?_
  simp only [BZ.z, Act.put, Nat.reduceAdd]
  refine wpAnyH_take (i := 1) (v := .int .i64 d.cl) rfl (by kernel_rfl) (by kernel_rfl) (by kernel_rfl) (fun _ _ _ h => h) (Or.inl ⟨by rfl, fun w' hS' => ?_⟩) s0 ?_
  · obtain ⟨p1, p2⟩ := hS'
    go_simp
  simp only [BZ.z, Act.put, Nat.reduceAdd]
  refine wpAnyH_take (i := 4) (v := .pointer (some ⟨w.heap.size, 1, none⟩)) rfl (by kernel_rfl) (by kernel_rfl) (by kernel_rfl) (fun _ _ _ h => h) (Or.inl ⟨by rfl, fun w' hS' => by rfl⟩) s0 ?_
  simp only [BZ.z, Act.put, Nat.reduceAdd]
  refine wpAnyH_take (i := 5) (v := .int .i64 d.cl) rfl (by kernel_rfl) (by kernel_rfl) (by kernel_rfl) (fun _ _ _ h => h) (Or.inl ⟨by rfl, fun w' hS' => ?_⟩) s0 ?_
  · obtain ⟨p1, p2⟩ := hS'
    go_simp
  simp only [BZ.z, Act.put, Nat.reduceAdd]
  refine wpAnyH_take (i := 9) (v := .pointer (some ⟨w.heap.size, 2, none⟩)) rfl (by kernel_rfl) (by kernel_rfl) (by kernel_rfl) (fun _ _ _ h => h) (Or.inl ⟨by rfl, fun w' hS' => by rfl⟩) s0 ?_
  simp only [BZ.z, Act.put, Nat.reduceAdd]
  refine wpAnyH_take (i := 10) (v := .int .i64 d.ino) rfl (by kernel_rfl) (by kernel_rfl) (by kernel_rfl) (fun _ _ _ h => h) (Or.inl ⟨by rfl, fun w' hS' => ?_⟩) s0 ?_
  · obtain ⟨p1, p2⟩ := hS'
    go_simp
  simp only [BZ.z, Act.put, Nat.reduceAdd]
  refine Y0.one_callw (i := 2) (by kernel_rfl) rfl (by rfl) (.tmp 8) _ rfl (.int .i64 d.cl) (by rfl) (enters_of Tryd.func27 (by kernel_rfl) rfl) ((H1.out _ e0).mono ?_)
  rintro e w1 ⟨rfl, e1⟩
  have s1 : w1.cell? ⟨w.heap.size, 1, none⟩ = some (.int .i64 d.cl) ∧ w1.cell? ⟨w.heap.size, 2, none⟩ = some (.int .i64 d.ino) := ⟨e1.b.c1, e1.b.c2⟩
  refine ⟨_, rfl, s1, ?_⟩
  simp only [BZ.z, Act.put, Nat.reduceAdd]
  refine wpAnyH_take (i := 3) (v := .string ((⟨#[32]⟩ : ByteArray) ++ u)) rfl (by kernel_rfl) (by kernel_rfl) (by kernel_rfl) (fun _ _ _ h => h) (Or.inl ⟨by rfl, fun w' hS' => ?_⟩) s1 ?_
  · obtain ⟨p1, p2⟩ := hS'
    (refine cat_yield ?_; simp only [ByteArray.size_append, sz_lit, List.size_toArray, List.length_cons, List.length_nil]; omega)
  simp only [BZ.z, Act.put, Nat.reduceAdd]
  refine Y0.one_callw (i := 6) (by kernel_rfl) rfl (by rfl) (.tmp 12) _ rfl (.int .i64 d.cl) (by rfl) (enters_of Tryd.func27 (by kernel_rfl) rfl) ((H1.out _ e1).mono ?_)
  rintro e w2 ⟨rfl, e2⟩
  have s2 : w2.cell? ⟨w.heap.size, 1, none⟩ = some (.int .i64 d.cl) ∧ w2.cell? ⟨w.heap.size, 2, none⟩ = some (.int .i64 d.ino) := ⟨e2.b.c1, e2.b.c2⟩
  refine ⟨_, rfl, s2, ?_⟩
  simp only [BZ.z, Act.put, Nat.reduceAdd]
  refine wpAnyH_take (i := 7) (v := .string ((⟨#[32]⟩ : ByteArray) ++ u)) rfl (by kernel_rfl) (by kernel_rfl) (by kernel_rfl) (fun _ _ _ h => h) (Or.inl ⟨by rfl, fun w' hS' => ?_⟩) s2 ?_
  · obtain ⟨p1, p2⟩ := hS'
    (refine cat_yield ?_; simp only [ByteArray.size_append, sz_lit, List.size_toArray, List.length_cons, List.length_nil]; omega)
  simp only [BZ.z, Act.put, Nat.reduceAdd]
  refine wpAnyH_take (i := 8) (v := .string (((⟨#[32]⟩ : ByteArray) ++ u) ++ (⟨#[32]⟩ : ByteArray))) rfl (by kernel_rfl) (by kernel_rfl) (by kernel_rfl) (fun _ _ _ h => h) (Or.inl ⟨by rfl, fun w' hS' => ?_⟩) s2 ?_
  · obtain ⟨p1, p2⟩ := hS'
    (refine cat_yield ?_; simp only [ByteArray.size_append, sz_lit, List.size_toArray, List.length_cons, List.length_nil]; omega)
  simp only [BZ.z, Act.put, Nat.reduceAdd]
  refine Y0.one_callw (i := 11) (by kernel_rfl) rfl (by rfl) (.tmp 17) _ rfl (.int .i64 d.ino) (by rfl) (enters_of Tryd.func27 (by kernel_rfl) rfl) ((H2.out _ e2).mono ?_)
  rintro e w3 ⟨rfl, e3⟩
  have s3 : w3.cell? ⟨w.heap.size, 1, none⟩ = some (.int .i64 d.cl) ∧ w3.cell? ⟨w.heap.size, 2, none⟩ = some (.int .i64 d.ino) := ⟨e3.b.c1, e3.b.c2⟩
  refine ⟨_, rfl, s3, ?_⟩
  simp only [BZ.z, Act.put, Nat.reduceAdd]
  refine wpAnyH_take (i := 12) (v := .string ((((⟨#[32]⟩ : ByteArray) ++ u) ++ (⟨#[32]⟩ : ByteArray)) ++ v)) rfl (by kernel_rfl) (by kernel_rfl) (by kernel_rfl) (fun _ _ _ h => h) (Or.inl ⟨by rfl, fun w' hS' => ?_⟩) s3 ?_
  · obtain ⟨p1, p2⟩ := hS'
    (refine cat_yield ?_; simp only [ByteArray.size_append, sz_lit, List.size_toArray, List.length_cons, List.length_nil]; omega)
  simp only [BZ.z, Act.put, Nat.reduceAdd]
  refine wpAnyH_take (i := 13) (v := .string ((⟨#[32]⟩ : ByteArray) ++ u)) rfl (by kernel_rfl) (by kernel_rfl) (by kernel_rfl) (fun _ _ _ h => h) (Or.inl ⟨by rfl, fun w' hS' => by rfl⟩) s3 ?_
  simp only [BZ.z, Act.put, Nat.reduceAdd]
  refine wpAnyH_take (i := 14) (v := .string ((((⟨#[32]⟩ : ByteArray) ++ u) ++ (⟨#[32]⟩ : ByteArray)) ++ v)) rfl (by kernel_rfl) (by kernel_rfl) (by kernel_rfl) (fun _ _ _ h => h) (Or.inl ⟨by rfl, fun w' hS' => by rfl⟩) s3 ?_
  simp only [BZ.z, Act.put, Nat.reduceAdd]
  refine wpAnyH_done (by kernel_rfl) ?_ _

  have c0 := e3.b.c0
  have c3 := e3.b.c3
  have c4 := e3.b.c4
  rw [HKd.out] at c0
  clear s0 s1 s2 s3 e0 e1 e2
  go_wp2
  go_ret
  exact ⟨by rw [HE.out]; rfl, e3.bel⟩

set_option maxHeartbeats 4000000 in
theorem text6 (hk : d.kd = 6) (hF : Fit d) (ht : d.tx.size ≤ 1048576) :
    Calls Tryd.prog 17 #[val d a c] w fun e w' => e = .returned (.string (glue (⟨#[102, 105, 108, 101]⟩ : ByteArray) [dt d.cl, dt d.ino, hx d.tx])) ∧ Below w.heap.size w w' := by
  have e0 := (st_new w d a c).below ((Below.refl _ _).drew)
  have g1 := EX.dt_size d.cl hF.f1
  have g2 := EX.dt_size d.ino hF.f2
  have g3 := EX.dt_size d.at_ hF.f3
  have g4 := hx_size ht
  have g5 := EX.dt_size (d.tx.size : Int) (wf_nat _ ht)
  have H1 : Hid (∀ W, St w d a c W → Calls Tryd.prog 27 #[.int .i64 d.cl] W fun e w' => e = .returned (.string (dt d.cl)) ∧ St w d a c w') := fun W h => dec d.cl hF.f1 h
  have H2 : Hid (∀ W, St w d a c W → Calls Tryd.prog 27 #[.int .i64 d.ino] W fun e w' => e = .returned (.string (dt d.ino)) ∧ St w d a c w') := fun W h => dec d.ino hF.f2 h
  have H3 : Hid (∀ W, St w d a c W → Calls Tryd.prog 27 #[.int .i64 d.at_] W fun e w' => e = .returned (.string (dt d.at_)) ∧ St w d a c w') := fun W h => dec d.at_ hF.f3 h
  have H4 : Hid (∀ W, St w d a c W → Calls Tryd.prog 28 #[.string d.tx] W fun e w' => e = .returned (.string (hx d.tx)) ∧ St w d a c w') := fun W h => hex ht h
  have H5 : Hid (∀ W, St w d a c W → Calls Tryd.prog 27 #[.int .i64 (d.tx.size : Int)] W fun e w' => e = .returned (.string (dt d.tx.size)) ∧ St w d a c w') := fun W h => dec _ (wf_nat _ ht) h
  obtain ⟨u, hu⟩ : ∃ u, dt d.cl = u := ⟨_, rfl⟩
  obtain ⟨v, hv⟩ : ∃ v, dt d.ino = v := ⟨_, rfl⟩
  obtain ⟨x, hx'⟩ : ∃ x, dt d.at_ = x := ⟨_, rfl⟩
  obtain ⟨h, hh⟩ : ∃ h, hx d.tx = h := ⟨_, rfl⟩
  obtain ⟨l, hl⟩ : ∃ l, dt d.tx.size = l := ⟨_, rfl⟩
  rw [hu] at g1 H1
  rw [hv] at g2 H2
  rw [hx'] at g3 H3
  rw [hh] at g4 H4
  rw [hl] at g5 H5
  have HE : Hid (glue (⟨#[102, 105, 108, 101]⟩ : ByteArray) [dt d.cl, dt d.ino, hx d.tx] = ((((⟨#[102, 105, 108, 101]⟩ : ByteArray) ++ ((((⟨#[32]⟩ : ByteArray) ++ u) ++ (⟨#[32]⟩ : ByteArray)) ++ v)) ++ (⟨#[32]⟩ : ByteArray)) ++ h)) := by
    show glue _ _ = _
    rw [hu, hv, hh, EV.glue3]
    apply ByteArray.ext
    simp [ByteArray.data_append, Array.append_assoc]
  have k6 : (⟨#[32]⟩ : ByteArray).size ≤ 1 := Nat.le_refl _
  have k7 : (⟨#[102, 105, 108, 101]⟩ : ByteArray).size ≤ 4 := Nat.le_refl _
  have r0_ : ∀ W, (binOp .add 9 (.string (⟨#[32]⟩ : ByteArray)) (.string u)).run Tryd.prog W = .ok (.string ((⟨#[32]⟩ : ByteArray) ++ u)) W := run_cat (by omega)
  have k8 : ((⟨#[32]⟩ : ByteArray) ++ u).size ≤ 23 := cat_le k6 g1
  have r2_ : ∀ W, (binOp .add 9 (.string ((⟨#[32]⟩ : ByteArray) ++ u)) (.string (⟨#[32]⟩ : ByteArray))).run Tryd.prog W = .ok (.string (((⟨#[32]⟩ : ByteArray) ++ u) ++ (⟨#[32]⟩ : ByteArray))) W := run_cat (by omega)
  have k9 : (((⟨#[32]⟩ : ByteArray) ++ u) ++ (⟨#[32]⟩ : ByteArray)).size ≤ 24 := cat_le k8 k6
  have r3_ : ∀ W, (binOp .add 9 (.string (((⟨#[32]⟩ : ByteArray) ++ u) ++ (⟨#[32]⟩ : ByteArray))) (.string v)).run Tryd.prog W = .ok (.string ((((⟨#[32]⟩ : ByteArray) ++ u) ++ (⟨#[32]⟩ : ByteArray)) ++ v)) W := run_cat (by omega)
  have k10 : ((((⟨#[32]⟩ : ByteArray) ++ u) ++ (⟨#[32]⟩ : ByteArray)) ++ v).size ≤ 46 := cat_le k9 g2
  have r4_ : ∀ W, (binOp .add 9 (.string (⟨#[102, 105, 108, 101]⟩ : ByteArray)) (.string ((((⟨#[32]⟩ : ByteArray) ++ u) ++ (⟨#[32]⟩ : ByteArray)) ++ v))).run Tryd.prog W = .ok (.string ((⟨#[102, 105, 108, 101]⟩ : ByteArray) ++ ((((⟨#[32]⟩ : ByteArray) ++ u) ++ (⟨#[32]⟩ : ByteArray)) ++ v))) W := run_cat (by omega)
  have k11 : ((⟨#[102, 105, 108, 101]⟩ : ByteArray) ++ ((((⟨#[32]⟩ : ByteArray) ++ u) ++ (⟨#[32]⟩ : ByteArray)) ++ v)).size ≤ 50 := cat_le k7 k10
  have r5_ : ∀ W, (binOp .add 9 (.string ((⟨#[102, 105, 108, 101]⟩ : ByteArray) ++ ((((⟨#[32]⟩ : ByteArray) ++ u) ++ (⟨#[32]⟩ : ByteArray)) ++ v))) (.string (⟨#[32]⟩ : ByteArray))).run Tryd.prog W = .ok (.string (((⟨#[102, 105, 108, 101]⟩ : ByteArray) ++ ((((⟨#[32]⟩ : ByteArray) ++ u) ++ (⟨#[32]⟩ : ByteArray)) ++ v)) ++ (⟨#[32]⟩ : ByteArray))) W := run_cat (by omega)
  have k12 : (((⟨#[102, 105, 108, 101]⟩ : ByteArray) ++ ((((⟨#[32]⟩ : ByteArray) ++ u) ++ (⟨#[32]⟩ : ByteArray)) ++ v)) ++ (⟨#[32]⟩ : ByteArray)).size ≤ 51 := cat_le k11 k6
  have r6_ : ∀ W, (binOp .add 9 (.string (((⟨#[102, 105, 108, 101]⟩ : ByteArray) ++ ((((⟨#[32]⟩ : ByteArray) ++ u) ++ (⟨#[32]⟩ : ByteArray)) ++ v)) ++ (⟨#[32]⟩ : ByteArray))) (.string h)).run Tryd.prog W = .ok (.string ((((⟨#[102, 105, 108, 101]⟩ : ByteArray) ++ ((((⟨#[32]⟩ : ByteArray) ++ u) ++ (⟨#[32]⟩ : ByteArray)) ++ v)) ++ (⟨#[32]⟩ : ByteArray)) ++ h)) W := run_cat (by omega)
  have k13 : ((((⟨#[102, 105, 108, 101]⟩ : ByteArray) ++ ((((⟨#[32]⟩ : ByteArray) ++ u) ++ (⟨#[32]⟩ : ByteArray)) ++ v)) ++ (⟨#[32]⟩ : ByteArray)) ++ h).size ≤ 2097204 := cat_le k12 g4
  clear k6 k7 k8 k9 k10 k11 k12 k13
  obtain ⟨W0, hW0⟩ : ∃ W0, w.alloc (eo d a c 24) = W0 := ⟨_, rfl⟩
  rw [hW0] at e0
  have s0 : W0.drew.cell? ⟨w.heap.size, 1, none⟩ = some (.int .i64 d.cl) ∧ W0.drew.cell? ⟨w.heap.size, 2, none⟩ = some (.int .i64 d.ino) := ⟨e0.b.c1, e0.b.c2⟩
  have HKd : Hid (d.kd = 6) := hk
  clear hF hk hu hv hx' hh hl
  go_enter Tryd.func17, Tryd.ntmps17
  go_wp2
  try rw [hW0]
  refine wp_region_held (S := fun W => W.cell? ⟨w.heap.size, 1, none⟩ = some (.int .i64 d.cl) ∧ W.cell? ⟨w.heap.size, 2, none⟩ = some (.int .i64 d.ino)) (by kernel_rfl) ?_
  refine wpAnyH_take (i := 0) (v := .pointer (some ⟨w.heap.size, 1, none⟩)) rfl (by kernel_rfl) (by kernel_rfl) (by kernel_rfl) (fun _ _ _ h => h) (Or.inl ⟨by rfl, fun w' hS' => by rfl⟩) s0 ?_
  simp only [BZ.z, Act.put, Nat.reduceAdd]
  refine wpAnyH_take (i := 1) (v := .int .i64 d.cl) rfl (by kernel_rfl) (by kernel_rfl) (by kernel_rfl) (fun _ _ _ h => h) (Or.inl ⟨by rfl, fun w' hS' => ?_⟩) s0 ?_
  · obtain ⟨p1, p2⟩ := hS'
    go_simp
  simp only [BZ.z, Act.put, Nat.reduceAdd]
  refine wpAnyH_take (i := 4) (v := .pointer (some ⟨w.heap.size, 1, none⟩)) rfl (by kernel_rfl) (by kernel_rfl) (by kernel_rfl) (fun _ _ _ h => h) (Or.inl ⟨by rfl, fun w' hS' => by rfl⟩) s0 ?_
  simp only [BZ.z, Act.put, Nat.reduceAdd]
  refine wpAnyH_take (i := 5) (v := .int .i64 d.cl) rfl (by kernel_rfl) (by kernel_rfl) (by kernel_rfl) (fun _ _ _ h => h) (Or.inl ⟨by rfl, fun w' hS' => ?_⟩) s0 ?_
  · obtain ⟨p1, p2⟩ := hS'
    go_simp
  simp only [BZ.z, Act.put, Nat.reduceAdd]
  refine wpAnyH_take (i := 9) (v := .pointer (some ⟨w.heap.size, 2, none⟩)) rfl (by kernel_rfl) (by kernel_rfl) (by kernel_rfl) (fun _ _ _ h => h) (Or.inl ⟨by rfl, fun w' hS' => by rfl⟩) s0 ?_
  simp only [BZ.z, Act.put, Nat.reduceAdd]
  refine wpAnyH_take (i := 10) (v := .int .i64 d.ino) rfl (by kernel_rfl) (by kernel_rfl) (by kernel_rfl) (fun _ _ _ h => h) (Or.inl ⟨by rfl, fun w' hS' => ?_⟩) s0 ?_
  · obtain ⟨p1, p2⟩ := hS'
    go_simp
  simp only [BZ.z, Act.put, Nat.reduceAdd]
  refine Y0.one_callw (i := 2) (by kernel_rfl) rfl (by rfl) (.tmp 8) _ rfl (.int .i64 d.cl) (by rfl) (enters_of Tryd.func27 (by kernel_rfl) rfl) ((H1.out _ e0).mono ?_)
  rintro e w1 ⟨rfl, e1⟩
  have s1 : w1.cell? ⟨w.heap.size, 1, none⟩ = some (.int .i64 d.cl) ∧ w1.cell? ⟨w.heap.size, 2, none⟩ = some (.int .i64 d.ino) := ⟨e1.b.c1, e1.b.c2⟩
  refine ⟨_, rfl, s1, ?_⟩
  simp only [BZ.z, Act.put, Nat.reduceAdd]
  refine wpAnyH_take (i := 3) (v := .string ((⟨#[32]⟩ : ByteArray) ++ u)) rfl (by kernel_rfl) (by kernel_rfl) (by kernel_rfl) (fun _ _ _ h => h) (Or.inl ⟨by rfl, fun w' hS' => ?_⟩) s1 ?_
  · obtain ⟨p1, p2⟩ := hS'
    (refine cat_yield ?_; simp only [ByteArray.size_append, sz_lit, List.size_toArray, List.length_cons, List.length_nil]; omega)
  simp only [BZ.z, Act.put, Nat.reduceAdd]
  refine Y0.one_callw (i := 6) (by kernel_rfl) rfl (by rfl) (.tmp 12) _ rfl (.int .i64 d.cl) (by rfl) (enters_of Tryd.func27 (by kernel_rfl) rfl) ((H1.out _ e1).mono ?_)
  rintro e w2 ⟨rfl, e2⟩
  have s2 : w2.cell? ⟨w.heap.size, 1, none⟩ = some (.int .i64 d.cl) ∧ w2.cell? ⟨w.heap.size, 2, none⟩ = some (.int .i64 d.ino) := ⟨e2.b.c1, e2.b.c2⟩
  refine ⟨_, rfl, s2, ?_⟩
  simp only [BZ.z, Act.put, Nat.reduceAdd]
  refine wpAnyH_take (i := 7) (v := .string ((⟨#[32]⟩ : ByteArray) ++ u)) rfl (by kernel_rfl) (by kernel_rfl) (by kernel_rfl) (fun _ _ _ h => h) (Or.inl ⟨by rfl, fun w' hS' => ?_⟩) s2 ?_
  · obtain ⟨p1, p2⟩ := hS'
    (refine cat_yield ?_; simp only [ByteArray.size_append, sz_lit, List.size_toArray, List.length_cons, List.length_nil]; omega)
  simp only [BZ.z, Act.put, Nat.reduceAdd]
  refine wpAnyH_take (i := 8) (v := .string (((⟨#[32]⟩ : ByteArray) ++ u) ++ (⟨#[32]⟩ : ByteArray))) rfl (by kernel_rfl) (by kernel_rfl) (by kernel_rfl) (fun _ _ _ h => h) (Or.inl ⟨by rfl, fun w' hS' => ?_⟩) s2 ?_
  · obtain ⟨p1, p2⟩ := hS'
    (refine cat_yield ?_; simp only [ByteArray.size_append, sz_lit, List.size_toArray, List.length_cons, List.length_nil]; omega)
  simp only [BZ.z, Act.put, Nat.reduceAdd]
  refine Y0.one_callw (i := 11) (by kernel_rfl) rfl (by rfl) (.tmp 17) _ rfl (.int .i64 d.ino) (by rfl) (enters_of Tryd.func27 (by kernel_rfl) rfl) ((H2.out _ e2).mono ?_)
  rintro e w3 ⟨rfl, e3⟩
  have s3 : w3.cell? ⟨w.heap.size, 1, none⟩ = some (.int .i64 d.cl) ∧ w3.cell? ⟨w.heap.size, 2, none⟩ = some (.int .i64 d.ino) := ⟨e3.b.c1, e3.b.c2⟩
  refine ⟨_, rfl, s3, ?_⟩
  simp only [BZ.z, Act.put, Nat.reduceAdd]
  refine wpAnyH_take (i := 12) (v := .string ((((⟨#[32]⟩ : ByteArray) ++ u) ++ (⟨#[32]⟩ : ByteArray)) ++ v)) rfl (by kernel_rfl) (by kernel_rfl) (by kernel_rfl) (fun _ _ _ h => h) (Or.inl ⟨by rfl, fun w' hS' => ?_⟩) s3 ?_
  · obtain ⟨p1, p2⟩ := hS'
    (refine cat_yield ?_; simp only [ByteArray.size_append, sz_lit, List.size_toArray, List.length_cons, List.length_nil]; omega)
  simp only [BZ.z, Act.put, Nat.reduceAdd]
  refine wpAnyH_take (i := 13) (v := .string ((⟨#[32]⟩ : ByteArray) ++ u)) rfl (by kernel_rfl) (by kernel_rfl) (by kernel_rfl) (fun _ _ _ h => h) (Or.inl ⟨by rfl, fun w' hS' => by rfl⟩) s3 ?_
  simp only [BZ.z, Act.put, Nat.reduceAdd]
  refine wpAnyH_take (i := 14) (v := .string ((((⟨#[32]⟩ : ByteArray) ++ u) ++ (⟨#[32]⟩ : ByteArray)) ++ v)) rfl (by kernel_rfl) (by kernel_rfl) (by kernel_rfl) (fun _ _ _ h => h) (Or.inl ⟨by rfl, fun w' hS' => by rfl⟩) s3 ?_
  simp only [BZ.z, Act.put, Nat.reduceAdd]
  refine wpAnyH_done (by kernel_rfl) ?_ _

  have c0 := e3.b.c0
  have c3 := e3.b.c3
  have c4 := e3.b.c4
  rw [HKd.out] at c0
  clear s0 s1 s2 s3 e0 e1 e2
  go_wp2_with (go_at_call 28; refine (H4.out _ e3).mono ?_; rintro e w5 ⟨rfl, e5⟩)
  go_ret
  exact ⟨by rw [HE.out]; rfl, e5.bel⟩

set_option maxHeartbeats 4000000 in
theorem text7 (hk : d.kd = 7) (hF : Fit d) (ht : d.tx.size ≤ 1048576) :
    Calls Tryd.prog 17 #[val d a c] w fun e w' => e = .returned (.string (glue (⟨#[109, 97, 107, 101]⟩ : ByteArray) [dt d.cl, dt d.ino, dt d.at_, d.tx])) ∧ Below w.heap.size w w' := by
  have e0 := (st_new w d a c).below ((Below.refl _ _).drew)
  have g1 := EX.dt_size d.cl hF.f1
  have g2 := EX.dt_size d.ino hF.f2
  have g3 := EX.dt_size d.at_ hF.f3
  have g4 := hx_size ht
  have g5 := EX.dt_size (d.tx.size : Int) (wf_nat _ ht)
  have H1 : Hid (∀ W, St w d a c W → Calls Tryd.prog 27 #[.int .i64 d.cl] W fun e w' => e = .returned (.string (dt d.cl)) ∧ St w d a c w') := fun W h => dec d.cl hF.f1 h
  have H2 : Hid (∀ W, St w d a c W → Calls Tryd.prog 27 #[.int .i64 d.ino] W fun e w' => e = .returned (.string (dt d.ino)) ∧ St w d a c w') := fun W h => dec d.ino hF.f2 h
  have H3 : Hid (∀ W, St w d a c W → Calls Tryd.prog 27 #[.int .i64 d.at_] W fun e w' => e = .returned (.string (dt d.at_)) ∧ St w d a c w') := fun W h => dec d.at_ hF.f3 h
  have H4 : Hid (∀ W, St w d a c W → Calls Tryd.prog 28 #[.string d.tx] W fun e w' => e = .returned (.string (hx d.tx)) ∧ St w d a c w') := fun W h => hex ht h
  have H5 : Hid (∀ W, St w d a c W → Calls Tryd.prog 27 #[.int .i64 (d.tx.size : Int)] W fun e w' => e = .returned (.string (dt d.tx.size)) ∧ St w d a c w') := fun W h => dec _ (wf_nat _ ht) h
  obtain ⟨u, hu⟩ : ∃ u, dt d.cl = u := ⟨_, rfl⟩
  obtain ⟨v, hv⟩ : ∃ v, dt d.ino = v := ⟨_, rfl⟩
  obtain ⟨x, hx'⟩ : ∃ x, dt d.at_ = x := ⟨_, rfl⟩
  obtain ⟨h, hh⟩ : ∃ h, hx d.tx = h := ⟨_, rfl⟩
  obtain ⟨l, hl⟩ : ∃ l, dt d.tx.size = l := ⟨_, rfl⟩
  rw [hu] at g1 H1
  rw [hv] at g2 H2
  rw [hx'] at g3 H3
  rw [hh] at g4 H4
  rw [hl] at g5 H5
  have ht' := ht
  have HE : Hid (glue (⟨#[109, 97, 107, 101]⟩ : ByteArray) [dt d.cl, dt d.ino, dt d.at_, d.tx] = ((((((⟨#[109, 97, 107, 101]⟩ : ByteArray) ++ ((((⟨#[32]⟩ : ByteArray) ++ u) ++ (⟨#[32]⟩ : ByteArray)) ++ v)) ++ (⟨#[32]⟩ : ByteArray)) ++ x) ++ (⟨#[32]⟩ : ByteArray)) ++ d.tx)) := by
    show glue _ _ = _
    rw [hu, hv, hx', EV.glue4]
    apply ByteArray.ext
    simp [ByteArray.data_append, Array.append_assoc]
  have k6 : (⟨#[32]⟩ : ByteArray).size ≤ 1 := Nat.le_refl _
  have k7 : (⟨#[109, 97, 107, 101]⟩ : ByteArray).size ≤ 4 := Nat.le_refl _
  have r0_ : ∀ W, (binOp .add 9 (.string (⟨#[32]⟩ : ByteArray)) (.string u)).run Tryd.prog W = .ok (.string ((⟨#[32]⟩ : ByteArray) ++ u)) W := run_cat (by omega)
  have k8 : ((⟨#[32]⟩ : ByteArray) ++ u).size ≤ 23 := cat_le k6 g1
  have r2_ : ∀ W, (binOp .add 9 (.string ((⟨#[32]⟩ : ByteArray) ++ u)) (.string (⟨#[32]⟩ : ByteArray))).run Tryd.prog W = .ok (.string (((⟨#[32]⟩ : ByteArray) ++ u) ++ (⟨#[32]⟩ : ByteArray))) W := run_cat (by omega)
  have k9 : (((⟨#[32]⟩ : ByteArray) ++ u) ++ (⟨#[32]⟩ : ByteArray)).size ≤ 24 := cat_le k8 k6
  have r3_ : ∀ W, (binOp .add 9 (.string (((⟨#[32]⟩ : ByteArray) ++ u) ++ (⟨#[32]⟩ : ByteArray))) (.string v)).run Tryd.prog W = .ok (.string ((((⟨#[32]⟩ : ByteArray) ++ u) ++ (⟨#[32]⟩ : ByteArray)) ++ v)) W := run_cat (by omega)
  have k10 : ((((⟨#[32]⟩ : ByteArray) ++ u) ++ (⟨#[32]⟩ : ByteArray)) ++ v).size ≤ 46 := cat_le k9 g2
  have r4_ : ∀ W, (binOp .add 9 (.string (⟨#[109, 97, 107, 101]⟩ : ByteArray)) (.string ((((⟨#[32]⟩ : ByteArray) ++ u) ++ (⟨#[32]⟩ : ByteArray)) ++ v))).run Tryd.prog W = .ok (.string ((⟨#[109, 97, 107, 101]⟩ : ByteArray) ++ ((((⟨#[32]⟩ : ByteArray) ++ u) ++ (⟨#[32]⟩ : ByteArray)) ++ v))) W := run_cat (by omega)
  have k11 : ((⟨#[109, 97, 107, 101]⟩ : ByteArray) ++ ((((⟨#[32]⟩ : ByteArray) ++ u) ++ (⟨#[32]⟩ : ByteArray)) ++ v)).size ≤ 50 := cat_le k7 k10
  have r5_ : ∀ W, (binOp .add 9 (.string ((⟨#[109, 97, 107, 101]⟩ : ByteArray) ++ ((((⟨#[32]⟩ : ByteArray) ++ u) ++ (⟨#[32]⟩ : ByteArray)) ++ v))) (.string (⟨#[32]⟩ : ByteArray))).run Tryd.prog W = .ok (.string (((⟨#[109, 97, 107, 101]⟩ : ByteArray) ++ ((((⟨#[32]⟩ : ByteArray) ++ u) ++ (⟨#[32]⟩ : ByteArray)) ++ v)) ++ (⟨#[32]⟩ : ByteArray))) W := run_cat (by omega)
  have k12 : (((⟨#[109, 97, 107, 101]⟩ : ByteArray) ++ ((((⟨#[32]⟩ : ByteArray) ++ u) ++ (⟨#[32]⟩ : ByteArray)) ++ v)) ++ (⟨#[32]⟩ : ByteArray)).size ≤ 51 := cat_le k11 k6
  have r6_ : ∀ W, (binOp .add 9 (.string (((⟨#[109, 97, 107, 101]⟩ : ByteArray) ++ ((((⟨#[32]⟩ : ByteArray) ++ u) ++ (⟨#[32]⟩ : ByteArray)) ++ v)) ++ (⟨#[32]⟩ : ByteArray))) (.string x)).run Tryd.prog W = .ok (.string ((((⟨#[109, 97, 107, 101]⟩ : ByteArray) ++ ((((⟨#[32]⟩ : ByteArray) ++ u) ++ (⟨#[32]⟩ : ByteArray)) ++ v)) ++ (⟨#[32]⟩ : ByteArray)) ++ x)) W := run_cat (by omega)
  have k13 : ((((⟨#[109, 97, 107, 101]⟩ : ByteArray) ++ ((((⟨#[32]⟩ : ByteArray) ++ u) ++ (⟨#[32]⟩ : ByteArray)) ++ v)) ++ (⟨#[32]⟩ : ByteArray)) ++ x).size ≤ 73 := cat_le k12 g3
  have r7_ : ∀ W, (binOp .add 9 (.string ((((⟨#[109, 97, 107, 101]⟩ : ByteArray) ++ ((((⟨#[32]⟩ : ByteArray) ++ u) ++ (⟨#[32]⟩ : ByteArray)) ++ v)) ++ (⟨#[32]⟩ : ByteArray)) ++ x)) (.string (⟨#[32]⟩ : ByteArray))).run Tryd.prog W = .ok (.string (((((⟨#[109, 97, 107, 101]⟩ : ByteArray) ++ ((((⟨#[32]⟩ : ByteArray) ++ u) ++ (⟨#[32]⟩ : ByteArray)) ++ v)) ++ (⟨#[32]⟩ : ByteArray)) ++ x) ++ (⟨#[32]⟩ : ByteArray))) W := run_cat (by omega)
  have k14 : (((((⟨#[109, 97, 107, 101]⟩ : ByteArray) ++ ((((⟨#[32]⟩ : ByteArray) ++ u) ++ (⟨#[32]⟩ : ByteArray)) ++ v)) ++ (⟨#[32]⟩ : ByteArray)) ++ x) ++ (⟨#[32]⟩ : ByteArray)).size ≤ 74 := cat_le k13 k6
  have r8_ : ∀ W, (binOp .add 9 (.string (((((⟨#[109, 97, 107, 101]⟩ : ByteArray) ++ ((((⟨#[32]⟩ : ByteArray) ++ u) ++ (⟨#[32]⟩ : ByteArray)) ++ v)) ++ (⟨#[32]⟩ : ByteArray)) ++ x) ++ (⟨#[32]⟩ : ByteArray))) (.string d.tx)).run Tryd.prog W = .ok (.string ((((((⟨#[109, 97, 107, 101]⟩ : ByteArray) ++ ((((⟨#[32]⟩ : ByteArray) ++ u) ++ (⟨#[32]⟩ : ByteArray)) ++ v)) ++ (⟨#[32]⟩ : ByteArray)) ++ x) ++ (⟨#[32]⟩ : ByteArray)) ++ d.tx)) W := run_cat (by omega)
  have k15 : ((((((⟨#[109, 97, 107, 101]⟩ : ByteArray) ++ ((((⟨#[32]⟩ : ByteArray) ++ u) ++ (⟨#[32]⟩ : ByteArray)) ++ v)) ++ (⟨#[32]⟩ : ByteArray)) ++ x) ++ (⟨#[32]⟩ : ByteArray)) ++ d.tx).size ≤ 1048650 := cat_le k14 ht
  clear k6 k7 k8 k9 k10 k11 k12 k13 k14 k15
  obtain ⟨W0, hW0⟩ : ∃ W0, w.alloc (eo d a c 24) = W0 := ⟨_, rfl⟩
  rw [hW0] at e0
  have s0 : W0.drew.cell? ⟨w.heap.size, 1, none⟩ = some (.int .i64 d.cl) ∧ W0.drew.cell? ⟨w.heap.size, 2, none⟩ = some (.int .i64 d.ino) := ⟨e0.b.c1, e0.b.c2⟩
  have HKd : Hid (d.kd = 7) := hk
  clear hF hk hu hv hx' hh hl
  go_enter Tryd.func17, Tryd.ntmps17
  go_wp2
  try rw [hW0]
  refine wp_region_held (S := fun W => W.cell? ⟨w.heap.size, 1, none⟩ = some (.int .i64 d.cl) ∧ W.cell? ⟨w.heap.size, 2, none⟩ = some (.int .i64 d.ino)) (by kernel_rfl) ?_
  refine wpAnyH_take (i := 0) (v := .pointer (some ⟨w.heap.size, 1, none⟩)) rfl (by kernel_rfl) (by kernel_rfl) (by kernel_rfl) (fun _ _ _ h => h) (Or.inl ⟨by rfl, fun w' hS' => by rfl⟩) s0 ?_
  simp only [BZ.z, Act.put, Nat.reduceAdd]
  refine wpAnyH_take (i := 1) (v := .int .i64 d.cl) rfl (by kernel_rfl) (by kernel_rfl) (by kernel_rfl) (fun _ _ _ h => h) (Or.inl ⟨by rfl, fun w' hS' => ?_⟩) s0 ?_
  · obtain ⟨p1, p2⟩ := hS'
    go_simp
  simp only [BZ.z, Act.put, Nat.reduceAdd]
  refine wpAnyH_take (i := 4) (v := .pointer (some ⟨w.heap.size, 1, none⟩)) rfl (by kernel_rfl) (by kernel_rfl) (by kernel_rfl) (fun _ _ _ h => h) (Or.inl ⟨by rfl, fun w' hS' => by rfl⟩) s0 ?_
  simp only [BZ.z, Act.put, Nat.reduceAdd]
  refine wpAnyH_take (i := 5) (v := .int .i64 d.cl) rfl (by kernel_rfl) (by kernel_rfl) (by kernel_rfl) (fun _ _ _ h => h) (Or.inl ⟨by rfl, fun w' hS' => ?_⟩) s0 ?_
  · obtain ⟨p1, p2⟩ := hS'
    go_simp
  simp only [BZ.z, Act.put, Nat.reduceAdd]
  refine wpAnyH_take (i := 9) (v := .pointer (some ⟨w.heap.size, 2, none⟩)) rfl (by kernel_rfl) (by kernel_rfl) (by kernel_rfl) (fun _ _ _ h => h) (Or.inl ⟨by rfl, fun w' hS' => by rfl⟩) s0 ?_
  simp only [BZ.z, Act.put, Nat.reduceAdd]
  refine wpAnyH_take (i := 10) (v := .int .i64 d.ino) rfl (by kernel_rfl) (by kernel_rfl) (by kernel_rfl) (fun _ _ _ h => h) (Or.inl ⟨by rfl, fun w' hS' => ?_⟩) s0 ?_
  · obtain ⟨p1, p2⟩ := hS'
    go_simp
  simp only [BZ.z, Act.put, Nat.reduceAdd]
  refine Y0.one_callw (i := 2) (by kernel_rfl) rfl (by rfl) (.tmp 8) _ rfl (.int .i64 d.cl) (by rfl) (enters_of Tryd.func27 (by kernel_rfl) rfl) ((H1.out _ e0).mono ?_)
  rintro e w1 ⟨rfl, e1⟩
  have s1 : w1.cell? ⟨w.heap.size, 1, none⟩ = some (.int .i64 d.cl) ∧ w1.cell? ⟨w.heap.size, 2, none⟩ = some (.int .i64 d.ino) := ⟨e1.b.c1, e1.b.c2⟩
  refine ⟨_, rfl, s1, ?_⟩
  simp only [BZ.z, Act.put, Nat.reduceAdd]
  refine wpAnyH_take (i := 3) (v := .string ((⟨#[32]⟩ : ByteArray) ++ u)) rfl (by kernel_rfl) (by kernel_rfl) (by kernel_rfl) (fun _ _ _ h => h) (Or.inl ⟨by rfl, fun w' hS' => ?_⟩) s1 ?_
  · obtain ⟨p1, p2⟩ := hS'
    (refine cat_yield ?_; simp only [ByteArray.size_append, sz_lit, List.size_toArray, List.length_cons, List.length_nil]; omega)
  simp only [BZ.z, Act.put, Nat.reduceAdd]
  refine Y0.one_callw (i := 6) (by kernel_rfl) rfl (by rfl) (.tmp 12) _ rfl (.int .i64 d.cl) (by rfl) (enters_of Tryd.func27 (by kernel_rfl) rfl) ((H1.out _ e1).mono ?_)
  rintro e w2 ⟨rfl, e2⟩
  have s2 : w2.cell? ⟨w.heap.size, 1, none⟩ = some (.int .i64 d.cl) ∧ w2.cell? ⟨w.heap.size, 2, none⟩ = some (.int .i64 d.ino) := ⟨e2.b.c1, e2.b.c2⟩
  refine ⟨_, rfl, s2, ?_⟩
  simp only [BZ.z, Act.put, Nat.reduceAdd]
  refine wpAnyH_take (i := 7) (v := .string ((⟨#[32]⟩ : ByteArray) ++ u)) rfl (by kernel_rfl) (by kernel_rfl) (by kernel_rfl) (fun _ _ _ h => h) (Or.inl ⟨by rfl, fun w' hS' => ?_⟩) s2 ?_
  · obtain ⟨p1, p2⟩ := hS'
    (refine cat_yield ?_; simp only [ByteArray.size_append, sz_lit, List.size_toArray, List.length_cons, List.length_nil]; omega)
  simp only [BZ.z, Act.put, Nat.reduceAdd]
  refine wpAnyH_take (i := 8) (v := .string (((⟨#[32]⟩ : ByteArray) ++ u) ++ (⟨#[32]⟩ : ByteArray))) rfl (by kernel_rfl) (by kernel_rfl) (by kernel_rfl) (fun _ _ _ h => h) (Or.inl ⟨by rfl, fun w' hS' => ?_⟩) s2 ?_
  · obtain ⟨p1, p2⟩ := hS'
    (refine cat_yield ?_; simp only [ByteArray.size_append, sz_lit, List.size_toArray, List.length_cons, List.length_nil]; omega)
  simp only [BZ.z, Act.put, Nat.reduceAdd]
  refine Y0.one_callw (i := 11) (by kernel_rfl) rfl (by rfl) (.tmp 17) _ rfl (.int .i64 d.ino) (by rfl) (enters_of Tryd.func27 (by kernel_rfl) rfl) ((H2.out _ e2).mono ?_)
  rintro e w3 ⟨rfl, e3⟩
  have s3 : w3.cell? ⟨w.heap.size, 1, none⟩ = some (.int .i64 d.cl) ∧ w3.cell? ⟨w.heap.size, 2, none⟩ = some (.int .i64 d.ino) := ⟨e3.b.c1, e3.b.c2⟩
  refine ⟨_, rfl, s3, ?_⟩
  simp only [BZ.z, Act.put, Nat.reduceAdd]
  refine wpAnyH_take (i := 12) (v := .string ((((⟨#[32]⟩ : ByteArray) ++ u) ++ (⟨#[32]⟩ : ByteArray)) ++ v)) rfl (by kernel_rfl) (by kernel_rfl) (by kernel_rfl) (fun _ _ _ h => h) (Or.inl ⟨by rfl, fun w' hS' => ?_⟩) s3 ?_
  · obtain ⟨p1, p2⟩ := hS'
    (refine cat_yield ?_; simp only [ByteArray.size_append, sz_lit, List.size_toArray, List.length_cons, List.length_nil]; omega)
  simp only [BZ.z, Act.put, Nat.reduceAdd]
  refine wpAnyH_take (i := 13) (v := .string ((⟨#[32]⟩ : ByteArray) ++ u)) rfl (by kernel_rfl) (by kernel_rfl) (by kernel_rfl) (fun _ _ _ h => h) (Or.inl ⟨by rfl, fun w' hS' => by rfl⟩) s3 ?_
  simp only [BZ.z, Act.put, Nat.reduceAdd]
  refine wpAnyH_take (i := 14) (v := .string ((((⟨#[32]⟩ : ByteArray) ++ u) ++ (⟨#[32]⟩ : ByteArray)) ++ v)) rfl (by kernel_rfl) (by kernel_rfl) (by kernel_rfl) (fun _ _ _ h => h) (Or.inl ⟨by rfl, fun w' hS' => by rfl⟩) s3 ?_
  simp only [BZ.z, Act.put, Nat.reduceAdd]
  refine wpAnyH_done (by kernel_rfl) ?_ _

  have c0 := e3.b.c0
  have c3 := e3.b.c3
  have c4 := e3.b.c4
  rw [HKd.out] at c0
  clear s0 s1 s2 s3 e0 e1 e2
  go_wp2
  have d4 := e3.below ((Below.refl _ _).drew)
  have s4 : w3.drew.cell? ⟨w.heap.size, 3, none⟩ = some (.int .i64 d.at_) ∧ w3.drew.cell? ⟨w.heap.size, 4, none⟩ = some (.string d.tx) := ⟨d4.b.c3, d4.b.c4⟩
  clear c0 c3 c4
  refine wp_region_held (S := fun W => W.cell? ⟨w.heap.size, 3, none⟩ = some (.int .i64 d.at_) ∧ W.cell? ⟨w.heap.size, 4, none⟩ = some (.string d.tx)) (by kernel_rfl) ?_
  refine wpAnyH_take (i := 0) (v := .string ((((⟨#[32]⟩ : ByteArray) ++ u) ++ (⟨#[32]⟩ : ByteArray)) ++ v)) rfl (by kernel_rfl) (by kernel_rfl) (by kernel_rfl) (fun _ _ _ h => h) (Or.inl ⟨by rfl, fun w' hS' => by rfl⟩) s4 ?_
  simp only [BZ.z, Act.put, Nat.reduceAdd]
  refine wpAnyH_take (i := 1) (v := .string ((⟨#[109, 97, 107, 101]⟩ : ByteArray) ++ ((((⟨#[32]⟩ : ByteArray) ++ u) ++ (⟨#[32]⟩ : ByteArray)) ++ v))) rfl (by kernel_rfl) (by kernel_rfl) (by kernel_rfl) (fun _ _ _ h => h) (Or.inl ⟨by rfl, fun w' hS' => ?_⟩) s4 ?_
  · obtain ⟨p3, p4⟩ := hS'
    (refine cat_yield ?_; simp only [ByteArray.size_append, sz_lit, List.size_toArray, List.length_cons, List.length_nil]; omega)
  simp only [BZ.z, Act.put, Nat.reduceAdd]
  refine wpAnyH_take (i := 2) (v := .string (((⟨#[109, 97, 107, 101]⟩ : ByteArray) ++ ((((⟨#[32]⟩ : ByteArray) ++ u) ++ (⟨#[32]⟩ : ByteArray)) ++ v)) ++ (⟨#[32]⟩ : ByteArray))) rfl (by kernel_rfl) (by kernel_rfl) (by kernel_rfl) (fun _ _ _ h => h) (Or.inl ⟨by rfl, fun w' hS' => ?_⟩) s4 ?_
  · obtain ⟨p3, p4⟩ := hS'
    (refine cat_yield ?_; simp only [ByteArray.size_append, sz_lit, List.size_toArray, List.length_cons, List.length_nil]; omega)
  simp only [BZ.z, Act.put, Nat.reduceAdd]
  refine wpAnyH_take (i := 3) (v := .pointer (some ⟨w.heap.size, 3, none⟩)) rfl (by kernel_rfl) (by kernel_rfl) (by kernel_rfl) (fun _ _ _ h => h) (Or.inl ⟨by rfl, fun w' hS' => by rfl⟩) s4 ?_
  simp only [BZ.z, Act.put, Nat.reduceAdd]
  refine wpAnyH_take (i := 4) (v := .int .i64 d.at_) rfl (by kernel_rfl) (by kernel_rfl) (by kernel_rfl) (fun _ _ _ h => h) (Or.inl ⟨by rfl, fun w' hS' => ?_⟩) s4 ?_
  · obtain ⟨p3, p4⟩ := hS'
    go_simp
  simp only [BZ.z, Act.put, Nat.reduceAdd]
  refine wpAnyH_take (i := 8) (v := .pointer (some ⟨w.heap.size, 4, none⟩)) rfl (by kernel_rfl) (by kernel_rfl) (by kernel_rfl) (fun _ _ _ h => h) (Or.inl ⟨by rfl, fun w' hS' => by rfl⟩) s4 ?_
  simp only [BZ.z, Act.put, Nat.reduceAdd]
  refine wpAnyH_take (i := 9) (v := .string d.tx) rfl (by kernel_rfl) (by kernel_rfl) (by kernel_rfl) (fun _ _ _ h => h) (Or.inl ⟨by rfl, fun w' hS' => ?_⟩) s4 ?_
  · obtain ⟨p3, p4⟩ := hS'
    go_simp
  simp only [BZ.z, Act.put, Nat.reduceAdd]
  refine Y0.one_callw (i := 5) (by kernel_rfl) rfl (by rfl) (.tmp 100) _ rfl (.int .i64 d.at_) (by rfl) (enters_of Tryd.func27 (by kernel_rfl) rfl) ((H3.out _ d4).mono ?_)
  rintro e w5 ⟨rfl, e5⟩
  have s5 : w5.cell? ⟨w.heap.size, 3, none⟩ = some (.int .i64 d.at_) ∧ w5.cell? ⟨w.heap.size, 4, none⟩ = some (.string d.tx) := ⟨e5.b.c3, e5.b.c4⟩
  refine ⟨_, rfl, s5, ?_⟩
  simp only [BZ.z, Act.put, Nat.reduceAdd]
  refine wpAnyH_take (i := 6) (v := .string ((((⟨#[109, 97, 107, 101]⟩ : ByteArray) ++ ((((⟨#[32]⟩ : ByteArray) ++ u) ++ (⟨#[32]⟩ : ByteArray)) ++ v)) ++ (⟨#[32]⟩ : ByteArray)) ++ x)) rfl (by kernel_rfl) (by kernel_rfl) (by kernel_rfl) (fun _ _ _ h => h) (Or.inl ⟨by rfl, fun w' hS' => ?_⟩) s5 ?_
  · obtain ⟨p3, p4⟩ := hS'
    (refine cat_yield ?_; simp only [ByteArray.size_append, sz_lit, List.size_toArray, List.length_cons, List.length_nil]; omega)
  simp only [BZ.z, Act.put, Nat.reduceAdd]
  refine wpAnyH_take (i := 7) (v := .string (((((⟨#[109, 97, 107, 101]⟩ : ByteArray) ++ ((((⟨#[32]⟩ : ByteArray) ++ u) ++ (⟨#[32]⟩ : ByteArray)) ++ v)) ++ (⟨#[32]⟩ : ByteArray)) ++ x) ++ (⟨#[32]⟩ : ByteArray))) rfl (by kernel_rfl) (by kernel_rfl) (by kernel_rfl) (fun _ _ _ h => h) (Or.inl ⟨by rfl, fun w' hS' => ?_⟩) s5 ?_
  · obtain ⟨p3, p4⟩ := hS'
    (refine cat_yield ?_; simp only [ByteArray.size_append, sz_lit, List.size_toArray, List.length_cons, List.length_nil]; omega)
  simp only [BZ.z, Act.put, Nat.reduceAdd]
  refine wpAnyH_take (i := 10) (v := .string ((((((⟨#[109, 97, 107, 101]⟩ : ByteArray) ++ ((((⟨#[32]⟩ : ByteArray) ++ u) ++ (⟨#[32]⟩ : ByteArray)) ++ v)) ++ (⟨#[32]⟩ : ByteArray)) ++ x) ++ (⟨#[32]⟩ : ByteArray)) ++ d.tx)) rfl (by kernel_rfl) (by kernel_rfl) (by kernel_rfl) (fun _ _ _ h => h) (Or.inl ⟨by rfl, fun w' hS' => ?_⟩) s5 ?_
  · obtain ⟨p3, p4⟩ := hS'
    (refine cat_yield ?_; simp only [ByteArray.size_append, sz_lit, List.size_toArray, List.length_cons, List.length_nil]; omega)
  simp only [BZ.z, Act.put, Nat.reduceAdd]
  refine wpAnyH_take (i := 11) (v := .string ((((((⟨#[109, 97, 107, 101]⟩ : ByteArray) ++ ((((⟨#[32]⟩ : ByteArray) ++ u) ++ (⟨#[32]⟩ : ByteArray)) ++ v)) ++ (⟨#[32]⟩ : ByteArray)) ++ x) ++ (⟨#[32]⟩ : ByteArray)) ++ d.tx)) rfl (by kernel_rfl) (by kernel_rfl) (by kernel_rfl) (fun _ _ _ h => h) (Or.inl ⟨by rfl, fun w' hS' => by rfl⟩) s5 ?_
  simp only [BZ.z, Act.put, Nat.reduceAdd]
  refine wpAnyH_done (by kernel_rfl) ?_ _
  go_wp2
  go_ret
  exact ⟨by rw [HE.out]; rfl, e5.bel⟩

set_option maxHeartbeats 4000000 in
theorem text8 (hk : d.kd = 8) (hF : Fit d) (ht : d.tx.size ≤ 1048576) :
    Calls Tryd.prog 17 #[val d a c] w fun e w' => e = .returned (.string (glue (⟨#[114, 101, 109, 111, 118, 101]⟩ : ByteArray) [dt d.cl, dt d.ino, d.tx])) ∧ Below w.heap.size w w' := by
  have e0 := (st_new w d a c).below ((Below.refl _ _).drew)
  have g1 := EX.dt_size d.cl hF.f1
  have g2 := EX.dt_size d.ino hF.f2
  have g3 := EX.dt_size d.at_ hF.f3
  have g4 := hx_size ht
  have g5 := EX.dt_size (d.tx.size : Int) (wf_nat _ ht)
  have H1 : Hid (∀ W, St w d a c W → Calls Tryd.prog 27 #[.int .i64 d.cl] W fun e w' => e = .returned (.string (dt d.cl)) ∧ St w d a c w') := fun W h => dec d.cl hF.f1 h
  have H2 : Hid (∀ W, St w d a c W → Calls Tryd.prog 27 #[.int .i64 d.ino] W fun e w' => e = .returned (.string (dt d.ino)) ∧ St w d a c w') := fun W h => dec d.ino hF.f2 h
  have H3 : Hid (∀ W, St w d a c W → Calls Tryd.prog 27 #[.int .i64 d.at_] W fun e w' => e = .returned (.string (dt d.at_)) ∧ St w d a c w') := fun W h => dec d.at_ hF.f3 h
  have H4 : Hid (∀ W, St w d a c W → Calls Tryd.prog 28 #[.string d.tx] W fun e w' => e = .returned (.string (hx d.tx)) ∧ St w d a c w') := fun W h => hex ht h
  have H5 : Hid (∀ W, St w d a c W → Calls Tryd.prog 27 #[.int .i64 (d.tx.size : Int)] W fun e w' => e = .returned (.string (dt d.tx.size)) ∧ St w d a c w') := fun W h => dec _ (wf_nat _ ht) h
  obtain ⟨u, hu⟩ : ∃ u, dt d.cl = u := ⟨_, rfl⟩
  obtain ⟨v, hv⟩ : ∃ v, dt d.ino = v := ⟨_, rfl⟩
  obtain ⟨x, hx'⟩ : ∃ x, dt d.at_ = x := ⟨_, rfl⟩
  obtain ⟨h, hh⟩ : ∃ h, hx d.tx = h := ⟨_, rfl⟩
  obtain ⟨l, hl⟩ : ∃ l, dt d.tx.size = l := ⟨_, rfl⟩
  rw [hu] at g1 H1
  rw [hv] at g2 H2
  rw [hx'] at g3 H3
  rw [hh] at g4 H4
  rw [hl] at g5 H5
  have ht' := ht
  have HE : Hid (glue (⟨#[114, 101, 109, 111, 118, 101]⟩ : ByteArray) [dt d.cl, dt d.ino, d.tx] = ((((⟨#[114, 101, 109, 111, 118, 101]⟩ : ByteArray) ++ ((((⟨#[32]⟩ : ByteArray) ++ u) ++ (⟨#[32]⟩ : ByteArray)) ++ v)) ++ (⟨#[32]⟩ : ByteArray)) ++ d.tx)) := by
    show glue _ _ = _
    rw [hu, hv, EV.glue3]
    apply ByteArray.ext
    simp [ByteArray.data_append, Array.append_assoc]
  have k6 : (⟨#[32]⟩ : ByteArray).size ≤ 1 := Nat.le_refl _
  have k7 : (⟨#[114, 101, 109, 111, 118, 101]⟩ : ByteArray).size ≤ 6 := Nat.le_refl _
  have r0_ : ∀ W, (binOp .add 9 (.string (⟨#[32]⟩ : ByteArray)) (.string u)).run Tryd.prog W = .ok (.string ((⟨#[32]⟩ : ByteArray) ++ u)) W := run_cat (by omega)
  have k8 : ((⟨#[32]⟩ : ByteArray) ++ u).size ≤ 23 := cat_le k6 g1
  have r2_ : ∀ W, (binOp .add 9 (.string ((⟨#[32]⟩ : ByteArray) ++ u)) (.string (⟨#[32]⟩ : ByteArray))).run Tryd.prog W = .ok (.string (((⟨#[32]⟩ : ByteArray) ++ u) ++ (⟨#[32]⟩ : ByteArray))) W := run_cat (by omega)
  have k9 : (((⟨#[32]⟩ : ByteArray) ++ u) ++ (⟨#[32]⟩ : ByteArray)).size ≤ 24 := cat_le k8 k6
  have r3_ : ∀ W, (binOp .add 9 (.string (((⟨#[32]⟩ : ByteArray) ++ u) ++ (⟨#[32]⟩ : ByteArray))) (.string v)).run Tryd.prog W = .ok (.string ((((⟨#[32]⟩ : ByteArray) ++ u) ++ (⟨#[32]⟩ : ByteArray)) ++ v)) W := run_cat (by omega)
  have k10 : ((((⟨#[32]⟩ : ByteArray) ++ u) ++ (⟨#[32]⟩ : ByteArray)) ++ v).size ≤ 46 := cat_le k9 g2
  have r4_ : ∀ W, (binOp .add 9 (.string (⟨#[114, 101, 109, 111, 118, 101]⟩ : ByteArray)) (.string ((((⟨#[32]⟩ : ByteArray) ++ u) ++ (⟨#[32]⟩ : ByteArray)) ++ v))).run Tryd.prog W = .ok (.string ((⟨#[114, 101, 109, 111, 118, 101]⟩ : ByteArray) ++ ((((⟨#[32]⟩ : ByteArray) ++ u) ++ (⟨#[32]⟩ : ByteArray)) ++ v))) W := run_cat (by omega)
  have k11 : ((⟨#[114, 101, 109, 111, 118, 101]⟩ : ByteArray) ++ ((((⟨#[32]⟩ : ByteArray) ++ u) ++ (⟨#[32]⟩ : ByteArray)) ++ v)).size ≤ 52 := cat_le k7 k10
  have r5_ : ∀ W, (binOp .add 9 (.string ((⟨#[114, 101, 109, 111, 118, 101]⟩ : ByteArray) ++ ((((⟨#[32]⟩ : ByteArray) ++ u) ++ (⟨#[32]⟩ : ByteArray)) ++ v))) (.string (⟨#[32]⟩ : ByteArray))).run Tryd.prog W = .ok (.string (((⟨#[114, 101, 109, 111, 118, 101]⟩ : ByteArray) ++ ((((⟨#[32]⟩ : ByteArray) ++ u) ++ (⟨#[32]⟩ : ByteArray)) ++ v)) ++ (⟨#[32]⟩ : ByteArray))) W := run_cat (by omega)
  have k12 : (((⟨#[114, 101, 109, 111, 118, 101]⟩ : ByteArray) ++ ((((⟨#[32]⟩ : ByteArray) ++ u) ++ (⟨#[32]⟩ : ByteArray)) ++ v)) ++ (⟨#[32]⟩ : ByteArray)).size ≤ 53 := cat_le k11 k6
  have r6_ : ∀ W, (binOp .add 9 (.string (((⟨#[114, 101, 109, 111, 118, 101]⟩ : ByteArray) ++ ((((⟨#[32]⟩ : ByteArray) ++ u) ++ (⟨#[32]⟩ : ByteArray)) ++ v)) ++ (⟨#[32]⟩ : ByteArray))) (.string d.tx)).run Tryd.prog W = .ok (.string ((((⟨#[114, 101, 109, 111, 118, 101]⟩ : ByteArray) ++ ((((⟨#[32]⟩ : ByteArray) ++ u) ++ (⟨#[32]⟩ : ByteArray)) ++ v)) ++ (⟨#[32]⟩ : ByteArray)) ++ d.tx)) W := run_cat (by omega)
  have k13 : ((((⟨#[114, 101, 109, 111, 118, 101]⟩ : ByteArray) ++ ((((⟨#[32]⟩ : ByteArray) ++ u) ++ (⟨#[32]⟩ : ByteArray)) ++ v)) ++ (⟨#[32]⟩ : ByteArray)) ++ d.tx).size ≤ 1048629 := cat_le k12 ht
  clear k6 k7 k8 k9 k10 k11 k12 k13
  obtain ⟨W0, hW0⟩ : ∃ W0, w.alloc (eo d a c 24) = W0 := ⟨_, rfl⟩
  rw [hW0] at e0
  have s0 : W0.drew.cell? ⟨w.heap.size, 1, none⟩ = some (.int .i64 d.cl) ∧ W0.drew.cell? ⟨w.heap.size, 2, none⟩ = some (.int .i64 d.ino) := ⟨e0.b.c1, e0.b.c2⟩
  have HKd : Hid (d.kd = 8) := hk
  clear hF hk hu hv hx' hh hl
  go_enter Tryd.func17, Tryd.ntmps17
  go_wp2
  try rw [hW0]
  refine wp_region_held (S := fun W => W.cell? ⟨w.heap.size, 1, none⟩ = some (.int .i64 d.cl) ∧ W.cell? ⟨w.heap.size, 2, none⟩ = some (.int .i64 d.ino)) (by kernel_rfl) ?_
  refine wpAnyH_take (i := 0) (v := .pointer (some ⟨w.heap.size, 1, none⟩)) rfl (by kernel_rfl) (by kernel_rfl) (by kernel_rfl) (fun _ _ _ h => h) (Or.inl ⟨by rfl, fun w' hS' => by rfl⟩) s0 ?_
  simp only [BZ.z, Act.put, Nat.reduceAdd]
  refine wpAnyH_take (i := 1) (v := .int .i64 d.cl) rfl (by kernel_rfl) (by kernel_rfl) (by kernel_rfl) (fun _ _ _ h => h) (Or.inl ⟨by rfl, fun w' hS' => ?_⟩) s0 ?_
  · obtain ⟨p1, p2⟩ := hS'
    go_simp
  simp only [BZ.z, Act.put, Nat.reduceAdd]
  refine wpAnyH_take (i := 4) (v := .pointer (some ⟨w.heap.size, 1, none⟩)) rfl (by kernel_rfl) (by kernel_rfl) (by kernel_rfl) (fun _ _ _ h => h) (Or.inl ⟨by rfl, fun w' hS' => by rfl⟩) s0 ?_
  simp only [BZ.z, Act.put, Nat.reduceAdd]
  refine wpAnyH_take (i := 5) (v := .int .i64 d.cl) rfl (by kernel_rfl) (by kernel_rfl) (by kernel_rfl) (fun _ _ _ h => h) (Or.inl ⟨by rfl, fun w' hS' => ?_⟩) s0 ?_
  · obtain ⟨p1, p2⟩ := hS'
    go_simp
  simp only [BZ.z, Act.put, Nat.reduceAdd]
  refine wpAnyH_take (i := 9) (v := .pointer (some ⟨w.heap.size, 2, none⟩)) rfl (by kernel_rfl) (by kernel_rfl) (by kernel_rfl) (fun _ _ _ h => h) (Or.inl ⟨by rfl, fun w' hS' => by rfl⟩) s0 ?_
  simp only [BZ.z, Act.put, Nat.reduceAdd]
  refine wpAnyH_take (i := 10) (v := .int .i64 d.ino) rfl (by kernel_rfl) (by kernel_rfl) (by kernel_rfl) (fun _ _ _ h => h) (Or.inl ⟨by rfl, fun w' hS' => ?_⟩) s0 ?_
  · obtain ⟨p1, p2⟩ := hS'
    go_simp
  simp only [BZ.z, Act.put, Nat.reduceAdd]
  refine Y0.one_callw (i := 2) (by kernel_rfl) rfl (by rfl) (.tmp 8) _ rfl (.int .i64 d.cl) (by rfl) (enters_of Tryd.func27 (by kernel_rfl) rfl) ((H1.out _ e0).mono ?_)
  rintro e w1 ⟨rfl, e1⟩
  have s1 : w1.cell? ⟨w.heap.size, 1, none⟩ = some (.int .i64 d.cl) ∧ w1.cell? ⟨w.heap.size, 2, none⟩ = some (.int .i64 d.ino) := ⟨e1.b.c1, e1.b.c2⟩
  refine ⟨_, rfl, s1, ?_⟩
  simp only [BZ.z, Act.put, Nat.reduceAdd]
  refine wpAnyH_take (i := 3) (v := .string ((⟨#[32]⟩ : ByteArray) ++ u)) rfl (by kernel_rfl) (by kernel_rfl) (by kernel_rfl) (fun _ _ _ h => h) (Or.inl ⟨by rfl, fun w' hS' => ?_⟩) s1 ?_
  · obtain ⟨p1, p2⟩ := hS'
    (refine cat_yield ?_; simp only [ByteArray.size_append, sz_lit, List.size_toArray, List.length_cons, List.length_nil]; omega)
  simp only [BZ.z, Act.put, Nat.reduceAdd]
  refine Y0.one_callw (i := 6) (by kernel_rfl) rfl (by rfl) (.tmp 12) _ rfl (.int .i64 d.cl) (by rfl) (enters_of Tryd.func27 (by kernel_rfl) rfl) ((H1.out _ e1).mono ?_)
  rintro e w2 ⟨rfl, e2⟩
  have s2 : w2.cell? ⟨w.heap.size, 1, none⟩ = some (.int .i64 d.cl) ∧ w2.cell? ⟨w.heap.size, 2, none⟩ = some (.int .i64 d.ino) := ⟨e2.b.c1, e2.b.c2⟩
  refine ⟨_, rfl, s2, ?_⟩
  simp only [BZ.z, Act.put, Nat.reduceAdd]
  refine wpAnyH_take (i := 7) (v := .string ((⟨#[32]⟩ : ByteArray) ++ u)) rfl (by kernel_rfl) (by kernel_rfl) (by kernel_rfl) (fun _ _ _ h => h) (Or.inl ⟨by rfl, fun w' hS' => ?_⟩) s2 ?_
  · obtain ⟨p1, p2⟩ := hS'
    (refine cat_yield ?_; simp only [ByteArray.size_append, sz_lit, List.size_toArray, List.length_cons, List.length_nil]; omega)
  simp only [BZ.z, Act.put, Nat.reduceAdd]
  refine wpAnyH_take (i := 8) (v := .string (((⟨#[32]⟩ : ByteArray) ++ u) ++ (⟨#[32]⟩ : ByteArray))) rfl (by kernel_rfl) (by kernel_rfl) (by kernel_rfl) (fun _ _ _ h => h) (Or.inl ⟨by rfl, fun w' hS' => ?_⟩) s2 ?_
  · obtain ⟨p1, p2⟩ := hS'
    (refine cat_yield ?_; simp only [ByteArray.size_append, sz_lit, List.size_toArray, List.length_cons, List.length_nil]; omega)
  simp only [BZ.z, Act.put, Nat.reduceAdd]
  refine Y0.one_callw (i := 11) (by kernel_rfl) rfl (by rfl) (.tmp 17) _ rfl (.int .i64 d.ino) (by rfl) (enters_of Tryd.func27 (by kernel_rfl) rfl) ((H2.out _ e2).mono ?_)
  rintro e w3 ⟨rfl, e3⟩
  have s3 : w3.cell? ⟨w.heap.size, 1, none⟩ = some (.int .i64 d.cl) ∧ w3.cell? ⟨w.heap.size, 2, none⟩ = some (.int .i64 d.ino) := ⟨e3.b.c1, e3.b.c2⟩
  refine ⟨_, rfl, s3, ?_⟩
  simp only [BZ.z, Act.put, Nat.reduceAdd]
  refine wpAnyH_take (i := 12) (v := .string ((((⟨#[32]⟩ : ByteArray) ++ u) ++ (⟨#[32]⟩ : ByteArray)) ++ v)) rfl (by kernel_rfl) (by kernel_rfl) (by kernel_rfl) (fun _ _ _ h => h) (Or.inl ⟨by rfl, fun w' hS' => ?_⟩) s3 ?_
  · obtain ⟨p1, p2⟩ := hS'
    (refine cat_yield ?_; simp only [ByteArray.size_append, sz_lit, List.size_toArray, List.length_cons, List.length_nil]; omega)
  simp only [BZ.z, Act.put, Nat.reduceAdd]
  refine wpAnyH_take (i := 13) (v := .string ((⟨#[32]⟩ : ByteArray) ++ u)) rfl (by kernel_rfl) (by kernel_rfl) (by kernel_rfl) (fun _ _ _ h => h) (Or.inl ⟨by rfl, fun w' hS' => by rfl⟩) s3 ?_
  simp only [BZ.z, Act.put, Nat.reduceAdd]
  refine wpAnyH_take (i := 14) (v := .string ((((⟨#[32]⟩ : ByteArray) ++ u) ++ (⟨#[32]⟩ : ByteArray)) ++ v)) rfl (by kernel_rfl) (by kernel_rfl) (by kernel_rfl) (fun _ _ _ h => h) (Or.inl ⟨by rfl, fun w' hS' => by rfl⟩) s3 ?_
  simp only [BZ.z, Act.put, Nat.reduceAdd]
  refine wpAnyH_done (by kernel_rfl) ?_ _

  have c0 := e3.b.c0
  have c3 := e3.b.c3
  have c4 := e3.b.c4
  rw [HKd.out] at c0
  clear s0 s1 s2 s3 e0 e1 e2
  go_wp2
  go_ret
  exact ⟨by rw [HE.out]; rfl, e3.bel⟩

set_option maxHeartbeats 4000000 in
theorem text9 (hk : d.kd = 9) (hF : Fit d) (ht : d.tx.size ≤ 1048576) :
    Calls Tryd.prog 17 #[val d a c] w fun e w' => e = .returned (.string (glue (⟨#[102, 105, 108, 108]⟩ : ByteArray) [dt d.cl, dt d.ino, dt d.at_, hx d.tx])) ∧ Below w.heap.size w w' := by
  have e0 := (st_new w d a c).below ((Below.refl _ _).drew)
  have g1 := EX.dt_size d.cl hF.f1
  have g2 := EX.dt_size d.ino hF.f2
  have g3 := EX.dt_size d.at_ hF.f3
  have g4 := hx_size ht
  have g5 := EX.dt_size (d.tx.size : Int) (wf_nat _ ht)
  have H1 : Hid (∀ W, St w d a c W → Calls Tryd.prog 27 #[.int .i64 d.cl] W fun e w' => e = .returned (.string (dt d.cl)) ∧ St w d a c w') := fun W h => dec d.cl hF.f1 h
  have H2 : Hid (∀ W, St w d a c W → Calls Tryd.prog 27 #[.int .i64 d.ino] W fun e w' => e = .returned (.string (dt d.ino)) ∧ St w d a c w') := fun W h => dec d.ino hF.f2 h
  have H3 : Hid (∀ W, St w d a c W → Calls Tryd.prog 27 #[.int .i64 d.at_] W fun e w' => e = .returned (.string (dt d.at_)) ∧ St w d a c w') := fun W h => dec d.at_ hF.f3 h
  have H4 : Hid (∀ W, St w d a c W → Calls Tryd.prog 28 #[.string d.tx] W fun e w' => e = .returned (.string (hx d.tx)) ∧ St w d a c w') := fun W h => hex ht h
  have H5 : Hid (∀ W, St w d a c W → Calls Tryd.prog 27 #[.int .i64 (d.tx.size : Int)] W fun e w' => e = .returned (.string (dt d.tx.size)) ∧ St w d a c w') := fun W h => dec _ (wf_nat _ ht) h
  obtain ⟨u, hu⟩ : ∃ u, dt d.cl = u := ⟨_, rfl⟩
  obtain ⟨v, hv⟩ : ∃ v, dt d.ino = v := ⟨_, rfl⟩
  obtain ⟨x, hx'⟩ : ∃ x, dt d.at_ = x := ⟨_, rfl⟩
  obtain ⟨h, hh⟩ : ∃ h, hx d.tx = h := ⟨_, rfl⟩
  obtain ⟨l, hl⟩ : ∃ l, dt d.tx.size = l := ⟨_, rfl⟩
  rw [hu] at g1 H1
  rw [hv] at g2 H2
  rw [hx'] at g3 H3
  rw [hh] at g4 H4
  rw [hl] at g5 H5
  have HE : Hid (glue (⟨#[102, 105, 108, 108]⟩ : ByteArray) [dt d.cl, dt d.ino, dt d.at_, hx d.tx] = ((((((⟨#[102, 105, 108, 108]⟩ : ByteArray) ++ ((((⟨#[32]⟩ : ByteArray) ++ u) ++ (⟨#[32]⟩ : ByteArray)) ++ v)) ++ (⟨#[32]⟩ : ByteArray)) ++ x) ++ (⟨#[32]⟩ : ByteArray)) ++ h)) := by
    show glue _ _ = _
    rw [hu, hv, hx', hh, EV.glue4]
    apply ByteArray.ext
    simp [ByteArray.data_append, Array.append_assoc]
  have k6 : (⟨#[32]⟩ : ByteArray).size ≤ 1 := Nat.le_refl _
  have k7 : (⟨#[102, 105, 108, 108]⟩ : ByteArray).size ≤ 4 := Nat.le_refl _
  have r0_ : ∀ W, (binOp .add 9 (.string (⟨#[32]⟩ : ByteArray)) (.string u)).run Tryd.prog W = .ok (.string ((⟨#[32]⟩ : ByteArray) ++ u)) W := run_cat (by omega)
  have k8 : ((⟨#[32]⟩ : ByteArray) ++ u).size ≤ 23 := cat_le k6 g1
  have r2_ : ∀ W, (binOp .add 9 (.string ((⟨#[32]⟩ : ByteArray) ++ u)) (.string (⟨#[32]⟩ : ByteArray))).run Tryd.prog W = .ok (.string (((⟨#[32]⟩ : ByteArray) ++ u) ++ (⟨#[32]⟩ : ByteArray))) W := run_cat (by omega)
  have k9 : (((⟨#[32]⟩ : ByteArray) ++ u) ++ (⟨#[32]⟩ : ByteArray)).size ≤ 24 := cat_le k8 k6
  have r3_ : ∀ W, (binOp .add 9 (.string (((⟨#[32]⟩ : ByteArray) ++ u) ++ (⟨#[32]⟩ : ByteArray))) (.string v)).run Tryd.prog W = .ok (.string ((((⟨#[32]⟩ : ByteArray) ++ u) ++ (⟨#[32]⟩ : ByteArray)) ++ v)) W := run_cat (by omega)
  have k10 : ((((⟨#[32]⟩ : ByteArray) ++ u) ++ (⟨#[32]⟩ : ByteArray)) ++ v).size ≤ 46 := cat_le k9 g2
  have r4_ : ∀ W, (binOp .add 9 (.string (⟨#[102, 105, 108, 108]⟩ : ByteArray)) (.string ((((⟨#[32]⟩ : ByteArray) ++ u) ++ (⟨#[32]⟩ : ByteArray)) ++ v))).run Tryd.prog W = .ok (.string ((⟨#[102, 105, 108, 108]⟩ : ByteArray) ++ ((((⟨#[32]⟩ : ByteArray) ++ u) ++ (⟨#[32]⟩ : ByteArray)) ++ v))) W := run_cat (by omega)
  have k11 : ((⟨#[102, 105, 108, 108]⟩ : ByteArray) ++ ((((⟨#[32]⟩ : ByteArray) ++ u) ++ (⟨#[32]⟩ : ByteArray)) ++ v)).size ≤ 50 := cat_le k7 k10
  have r5_ : ∀ W, (binOp .add 9 (.string ((⟨#[102, 105, 108, 108]⟩ : ByteArray) ++ ((((⟨#[32]⟩ : ByteArray) ++ u) ++ (⟨#[32]⟩ : ByteArray)) ++ v))) (.string (⟨#[32]⟩ : ByteArray))).run Tryd.prog W = .ok (.string (((⟨#[102, 105, 108, 108]⟩ : ByteArray) ++ ((((⟨#[32]⟩ : ByteArray) ++ u) ++ (⟨#[32]⟩ : ByteArray)) ++ v)) ++ (⟨#[32]⟩ : ByteArray))) W := run_cat (by omega)
  have k12 : (((⟨#[102, 105, 108, 108]⟩ : ByteArray) ++ ((((⟨#[32]⟩ : ByteArray) ++ u) ++ (⟨#[32]⟩ : ByteArray)) ++ v)) ++ (⟨#[32]⟩ : ByteArray)).size ≤ 51 := cat_le k11 k6
  have r6_ : ∀ W, (binOp .add 9 (.string (((⟨#[102, 105, 108, 108]⟩ : ByteArray) ++ ((((⟨#[32]⟩ : ByteArray) ++ u) ++ (⟨#[32]⟩ : ByteArray)) ++ v)) ++ (⟨#[32]⟩ : ByteArray))) (.string x)).run Tryd.prog W = .ok (.string ((((⟨#[102, 105, 108, 108]⟩ : ByteArray) ++ ((((⟨#[32]⟩ : ByteArray) ++ u) ++ (⟨#[32]⟩ : ByteArray)) ++ v)) ++ (⟨#[32]⟩ : ByteArray)) ++ x)) W := run_cat (by omega)
  have k13 : ((((⟨#[102, 105, 108, 108]⟩ : ByteArray) ++ ((((⟨#[32]⟩ : ByteArray) ++ u) ++ (⟨#[32]⟩ : ByteArray)) ++ v)) ++ (⟨#[32]⟩ : ByteArray)) ++ x).size ≤ 73 := cat_le k12 g3
  have r7_ : ∀ W, (binOp .add 9 (.string ((((⟨#[102, 105, 108, 108]⟩ : ByteArray) ++ ((((⟨#[32]⟩ : ByteArray) ++ u) ++ (⟨#[32]⟩ : ByteArray)) ++ v)) ++ (⟨#[32]⟩ : ByteArray)) ++ x)) (.string (⟨#[32]⟩ : ByteArray))).run Tryd.prog W = .ok (.string (((((⟨#[102, 105, 108, 108]⟩ : ByteArray) ++ ((((⟨#[32]⟩ : ByteArray) ++ u) ++ (⟨#[32]⟩ : ByteArray)) ++ v)) ++ (⟨#[32]⟩ : ByteArray)) ++ x) ++ (⟨#[32]⟩ : ByteArray))) W := run_cat (by omega)
  have k14 : (((((⟨#[102, 105, 108, 108]⟩ : ByteArray) ++ ((((⟨#[32]⟩ : ByteArray) ++ u) ++ (⟨#[32]⟩ : ByteArray)) ++ v)) ++ (⟨#[32]⟩ : ByteArray)) ++ x) ++ (⟨#[32]⟩ : ByteArray)).size ≤ 74 := cat_le k13 k6
  have r8_ : ∀ W, (binOp .add 9 (.string (((((⟨#[102, 105, 108, 108]⟩ : ByteArray) ++ ((((⟨#[32]⟩ : ByteArray) ++ u) ++ (⟨#[32]⟩ : ByteArray)) ++ v)) ++ (⟨#[32]⟩ : ByteArray)) ++ x) ++ (⟨#[32]⟩ : ByteArray))) (.string h)).run Tryd.prog W = .ok (.string ((((((⟨#[102, 105, 108, 108]⟩ : ByteArray) ++ ((((⟨#[32]⟩ : ByteArray) ++ u) ++ (⟨#[32]⟩ : ByteArray)) ++ v)) ++ (⟨#[32]⟩ : ByteArray)) ++ x) ++ (⟨#[32]⟩ : ByteArray)) ++ h)) W := run_cat (by omega)
  have k15 : ((((((⟨#[102, 105, 108, 108]⟩ : ByteArray) ++ ((((⟨#[32]⟩ : ByteArray) ++ u) ++ (⟨#[32]⟩ : ByteArray)) ++ v)) ++ (⟨#[32]⟩ : ByteArray)) ++ x) ++ (⟨#[32]⟩ : ByteArray)) ++ h).size ≤ 2097227 := cat_le k14 g4
  clear k6 k7 k8 k9 k10 k11 k12 k13 k14 k15
  obtain ⟨W0, hW0⟩ : ∃ W0, w.alloc (eo d a c 24) = W0 := ⟨_, rfl⟩
  rw [hW0] at e0
  have s0 : W0.drew.cell? ⟨w.heap.size, 1, none⟩ = some (.int .i64 d.cl) ∧ W0.drew.cell? ⟨w.heap.size, 2, none⟩ = some (.int .i64 d.ino) := ⟨e0.b.c1, e0.b.c2⟩
  have HKd : Hid (d.kd = 9) := hk
  clear hF hk hu hv hx' hh hl
  go_enter Tryd.func17, Tryd.ntmps17
  go_wp2
  try rw [hW0]
  refine wp_region_held (S := fun W => W.cell? ⟨w.heap.size, 1, none⟩ = some (.int .i64 d.cl) ∧ W.cell? ⟨w.heap.size, 2, none⟩ = some (.int .i64 d.ino)) (by kernel_rfl) ?_
  refine wpAnyH_take (i := 0) (v := .pointer (some ⟨w.heap.size, 1, none⟩)) rfl (by kernel_rfl) (by kernel_rfl) (by kernel_rfl) (fun _ _ _ h => h) (Or.inl ⟨by rfl, fun w' hS' => by rfl⟩) s0 ?_
  simp only [BZ.z, Act.put, Nat.reduceAdd]
  refine wpAnyH_take (i := 1) (v := .int .i64 d.cl) rfl (by kernel_rfl) (by kernel_rfl) (by kernel_rfl) (fun _ _ _ h => h) (Or.inl ⟨by rfl, fun w' hS' => ?_⟩) s0 ?_
  · obtain ⟨p1, p2⟩ := hS'
    go_simp
  simp only [BZ.z, Act.put, Nat.reduceAdd]
  refine wpAnyH_take (i := 4) (v := .pointer (some ⟨w.heap.size, 1, none⟩)) rfl (by kernel_rfl) (by kernel_rfl) (by kernel_rfl) (fun _ _ _ h => h) (Or.inl ⟨by rfl, fun w' hS' => by rfl⟩) s0 ?_
  simp only [BZ.z, Act.put, Nat.reduceAdd]
  refine wpAnyH_take (i := 5) (v := .int .i64 d.cl) rfl (by kernel_rfl) (by kernel_rfl) (by kernel_rfl) (fun _ _ _ h => h) (Or.inl ⟨by rfl, fun w' hS' => ?_⟩) s0 ?_
  · obtain ⟨p1, p2⟩ := hS'
    go_simp
  simp only [BZ.z, Act.put, Nat.reduceAdd]
  refine wpAnyH_take (i := 9) (v := .pointer (some ⟨w.heap.size, 2, none⟩)) rfl (by kernel_rfl) (by kernel_rfl) (by kernel_rfl) (fun _ _ _ h => h) (Or.inl ⟨by rfl, fun w' hS' => by rfl⟩) s0 ?_
  simp only [BZ.z, Act.put, Nat.reduceAdd]
  refine wpAnyH_take (i := 10) (v := .int .i64 d.ino) rfl (by kernel_rfl) (by kernel_rfl) (by kernel_rfl) (fun _ _ _ h => h) (Or.inl ⟨by rfl, fun w' hS' => ?_⟩) s0 ?_
  · obtain ⟨p1, p2⟩ := hS'
    go_simp
  simp only [BZ.z, Act.put, Nat.reduceAdd]
  refine Y0.one_callw (i := 2) (by kernel_rfl) rfl (by rfl) (.tmp 8) _ rfl (.int .i64 d.cl) (by rfl) (enters_of Tryd.func27 (by kernel_rfl) rfl) ((H1.out _ e0).mono ?_)
  rintro e w1 ⟨rfl, e1⟩
  have s1 : w1.cell? ⟨w.heap.size, 1, none⟩ = some (.int .i64 d.cl) ∧ w1.cell? ⟨w.heap.size, 2, none⟩ = some (.int .i64 d.ino) := ⟨e1.b.c1, e1.b.c2⟩
  refine ⟨_, rfl, s1, ?_⟩
  simp only [BZ.z, Act.put, Nat.reduceAdd]
  refine wpAnyH_take (i := 3) (v := .string ((⟨#[32]⟩ : ByteArray) ++ u)) rfl (by kernel_rfl) (by kernel_rfl) (by kernel_rfl) (fun _ _ _ h => h) (Or.inl ⟨by rfl, fun w' hS' => ?_⟩) s1 ?_
  · obtain ⟨p1, p2⟩ := hS'
    (refine cat_yield ?_; simp only [ByteArray.size_append, sz_lit, List.size_toArray, List.length_cons, List.length_nil]; omega)
  simp only [BZ.z, Act.put, Nat.reduceAdd]
  refine Y0.one_callw (i := 6) (by kernel_rfl) rfl (by rfl) (.tmp 12) _ rfl (.int .i64 d.cl) (by rfl) (enters_of Tryd.func27 (by kernel_rfl) rfl) ((H1.out _ e1).mono ?_)
  rintro e w2 ⟨rfl, e2⟩
  have s2 : w2.cell? ⟨w.heap.size, 1, none⟩ = some (.int .i64 d.cl) ∧ w2.cell? ⟨w.heap.size, 2, none⟩ = some (.int .i64 d.ino) := ⟨e2.b.c1, e2.b.c2⟩
  refine ⟨_, rfl, s2, ?_⟩
  simp only [BZ.z, Act.put, Nat.reduceAdd]
  refine wpAnyH_take (i := 7) (v := .string ((⟨#[32]⟩ : ByteArray) ++ u)) rfl (by kernel_rfl) (by kernel_rfl) (by kernel_rfl) (fun _ _ _ h => h) (Or.inl ⟨by rfl, fun w' hS' => ?_⟩) s2 ?_
  · obtain ⟨p1, p2⟩ := hS'
    (refine cat_yield ?_; simp only [ByteArray.size_append, sz_lit, List.size_toArray, List.length_cons, List.length_nil]; omega)
  simp only [BZ.z, Act.put, Nat.reduceAdd]
  refine wpAnyH_take (i := 8) (v := .string (((⟨#[32]⟩ : ByteArray) ++ u) ++ (⟨#[32]⟩ : ByteArray))) rfl (by kernel_rfl) (by kernel_rfl) (by kernel_rfl) (fun _ _ _ h => h) (Or.inl ⟨by rfl, fun w' hS' => ?_⟩) s2 ?_
  · obtain ⟨p1, p2⟩ := hS'
    (refine cat_yield ?_; simp only [ByteArray.size_append, sz_lit, List.size_toArray, List.length_cons, List.length_nil]; omega)
  simp only [BZ.z, Act.put, Nat.reduceAdd]
  refine Y0.one_callw (i := 11) (by kernel_rfl) rfl (by rfl) (.tmp 17) _ rfl (.int .i64 d.ino) (by rfl) (enters_of Tryd.func27 (by kernel_rfl) rfl) ((H2.out _ e2).mono ?_)
  rintro e w3 ⟨rfl, e3⟩
  have s3 : w3.cell? ⟨w.heap.size, 1, none⟩ = some (.int .i64 d.cl) ∧ w3.cell? ⟨w.heap.size, 2, none⟩ = some (.int .i64 d.ino) := ⟨e3.b.c1, e3.b.c2⟩
  refine ⟨_, rfl, s3, ?_⟩
  simp only [BZ.z, Act.put, Nat.reduceAdd]
  refine wpAnyH_take (i := 12) (v := .string ((((⟨#[32]⟩ : ByteArray) ++ u) ++ (⟨#[32]⟩ : ByteArray)) ++ v)) rfl (by kernel_rfl) (by kernel_rfl) (by kernel_rfl) (fun _ _ _ h => h) (Or.inl ⟨by rfl, fun w' hS' => ?_⟩) s3 ?_
  · obtain ⟨p1, p2⟩ := hS'
    (refine cat_yield ?_; simp only [ByteArray.size_append, sz_lit, List.size_toArray, List.length_cons, List.length_nil]; omega)
  simp only [BZ.z, Act.put, Nat.reduceAdd]
  refine wpAnyH_take (i := 13) (v := .string ((⟨#[32]⟩ : ByteArray) ++ u)) rfl (by kernel_rfl) (by kernel_rfl) (by kernel_rfl) (fun _ _ _ h => h) (Or.inl ⟨by rfl, fun w' hS' => by rfl⟩) s3 ?_
  simp only [BZ.z, Act.put, Nat.reduceAdd]
  refine wpAnyH_take (i := 14) (v := .string ((((⟨#[32]⟩ : ByteArray) ++ u) ++ (⟨#[32]⟩ : ByteArray)) ++ v)) rfl (by kernel_rfl) (by kernel_rfl) (by kernel_rfl) (fun _ _ _ h => h) (Or.inl ⟨by rfl, fun w' hS' => by rfl⟩) s3 ?_
  simp only [BZ.z, Act.put, Nat.reduceAdd]
  refine wpAnyH_done (by kernel_rfl) ?_ _

  have c0 := e3.b.c0
  have c3 := e3.b.c3
  have c4 := e3.b.c4
  rw [HKd.out] at c0
  clear s0 s1 s2 s3 e0 e1 e2
  go_wp2
  have d4 := e3.below ((Below.refl _ _).drew)
  have s4 : w3.drew.cell? ⟨w.heap.size, 3, none⟩ = some (.int .i64 d.at_) ∧ w3.drew.cell? ⟨w.heap.size, 4, none⟩ = some (.string d.tx) := ⟨d4.b.c3, d4.b.c4⟩
  clear c0 c3 c4
  refine wp_region_held (S := fun W => W.cell? ⟨w.heap.size, 3, none⟩ = some (.int .i64 d.at_) ∧ W.cell? ⟨w.heap.size, 4, none⟩ = some (.string d.tx)) (by kernel_rfl) ?_
  refine wpAnyH_take (i := 0) (v := .string ((((⟨#[32]⟩ : ByteArray) ++ u) ++ (⟨#[32]⟩ : ByteArray)) ++ v)) rfl (by kernel_rfl) (by kernel_rfl) (by kernel_rfl) (fun _ _ _ h => h) (Or.inl ⟨by rfl, fun w' hS' => by rfl⟩) s4 ?_
  simp only [BZ.z, Act.put, Nat.reduceAdd]
  refine wpAnyH_take (i := 1) (v := .string ((⟨#[102, 105, 108, 108]⟩ : ByteArray) ++ ((((⟨#[32]⟩ : ByteArray) ++ u) ++ (⟨#[32]⟩ : ByteArray)) ++ v))) rfl (by kernel_rfl) (by kernel_rfl) (by kernel_rfl) (fun _ _ _ h => h) (Or.inl ⟨by rfl, fun w' hS' => ?_⟩) s4 ?_
  · obtain ⟨p3, p4⟩ := hS'
    (refine cat_yield ?_; simp only [ByteArray.size_append, sz_lit, List.size_toArray, List.length_cons, List.length_nil]; omega)
  simp only [BZ.z, Act.put, Nat.reduceAdd]
  refine wpAnyH_take (i := 2) (v := .string (((⟨#[102, 105, 108, 108]⟩ : ByteArray) ++ ((((⟨#[32]⟩ : ByteArray) ++ u) ++ (⟨#[32]⟩ : ByteArray)) ++ v)) ++ (⟨#[32]⟩ : ByteArray))) rfl (by kernel_rfl) (by kernel_rfl) (by kernel_rfl) (fun _ _ _ h => h) (Or.inl ⟨by rfl, fun w' hS' => ?_⟩) s4 ?_
  · obtain ⟨p3, p4⟩ := hS'
    (refine cat_yield ?_; simp only [ByteArray.size_append, sz_lit, List.size_toArray, List.length_cons, List.length_nil]; omega)
  simp only [BZ.z, Act.put, Nat.reduceAdd]
  refine wpAnyH_take (i := 3) (v := .pointer (some ⟨w.heap.size, 3, none⟩)) rfl (by kernel_rfl) (by kernel_rfl) (by kernel_rfl) (fun _ _ _ h => h) (Or.inl ⟨by rfl, fun w' hS' => by rfl⟩) s4 ?_
  simp only [BZ.z, Act.put, Nat.reduceAdd]
  refine wpAnyH_take (i := 4) (v := .int .i64 d.at_) rfl (by kernel_rfl) (by kernel_rfl) (by kernel_rfl) (fun _ _ _ h => h) (Or.inl ⟨by rfl, fun w' hS' => ?_⟩) s4 ?_
  · obtain ⟨p3, p4⟩ := hS'
    go_simp
  simp only [BZ.z, Act.put, Nat.reduceAdd]
  refine wpAnyH_take (i := 8) (v := .pointer (some ⟨w.heap.size, 4, none⟩)) rfl (by kernel_rfl) (by kernel_rfl) (by kernel_rfl) (fun _ _ _ h => h) (Or.inl ⟨by rfl, fun w' hS' => by rfl⟩) s4 ?_
  simp only [BZ.z, Act.put, Nat.reduceAdd]
  refine wpAnyH_take (i := 9) (v := .string d.tx) rfl (by kernel_rfl) (by kernel_rfl) (by kernel_rfl) (fun _ _ _ h => h) (Or.inl ⟨by rfl, fun w' hS' => ?_⟩) s4 ?_
  · obtain ⟨p3, p4⟩ := hS'
    go_simp
  simp only [BZ.z, Act.put, Nat.reduceAdd]
  refine Y0.one_callw (i := 5) (by kernel_rfl) rfl (by rfl) (.tmp 121) _ rfl (.int .i64 d.at_) (by rfl) (enters_of Tryd.func27 (by kernel_rfl) rfl) ((H3.out _ d4).mono ?_)
  rintro e w5 ⟨rfl, e5⟩
  have s5 : w5.cell? ⟨w.heap.size, 3, none⟩ = some (.int .i64 d.at_) ∧ w5.cell? ⟨w.heap.size, 4, none⟩ = some (.string d.tx) := ⟨e5.b.c3, e5.b.c4⟩
  refine ⟨_, rfl, s5, ?_⟩
  simp only [BZ.z, Act.put, Nat.reduceAdd]
  refine wpAnyH_take (i := 6) (v := .string ((((⟨#[102, 105, 108, 108]⟩ : ByteArray) ++ ((((⟨#[32]⟩ : ByteArray) ++ u) ++ (⟨#[32]⟩ : ByteArray)) ++ v)) ++ (⟨#[32]⟩ : ByteArray)) ++ x)) rfl (by kernel_rfl) (by kernel_rfl) (by kernel_rfl) (fun _ _ _ h => h) (Or.inl ⟨by rfl, fun w' hS' => ?_⟩) s5 ?_
  · obtain ⟨p3, p4⟩ := hS'
    (refine cat_yield ?_; simp only [ByteArray.size_append, sz_lit, List.size_toArray, List.length_cons, List.length_nil]; omega)
  simp only [BZ.z, Act.put, Nat.reduceAdd]
  refine wpAnyH_take (i := 7) (v := .string (((((⟨#[102, 105, 108, 108]⟩ : ByteArray) ++ ((((⟨#[32]⟩ : ByteArray) ++ u) ++ (⟨#[32]⟩ : ByteArray)) ++ v)) ++ (⟨#[32]⟩ : ByteArray)) ++ x) ++ (⟨#[32]⟩ : ByteArray))) rfl (by kernel_rfl) (by kernel_rfl) (by kernel_rfl) (fun _ _ _ h => h) (Or.inl ⟨by rfl, fun w' hS' => ?_⟩) s5 ?_
  · obtain ⟨p3, p4⟩ := hS'
    (refine cat_yield ?_; simp only [ByteArray.size_append, sz_lit, List.size_toArray, List.length_cons, List.length_nil]; omega)
  simp only [BZ.z, Act.put, Nat.reduceAdd]
  refine Y0.one_callw (i := 10) (by kernel_rfl) rfl (by rfl) (.tmp 126) _ rfl (.string d.tx) (by rfl) (enters_of Tryd.func28 (by kernel_rfl) rfl) ((H4.out _ e5).mono ?_)
  rintro e w6 ⟨rfl, e6⟩
  have s6 : w6.cell? ⟨w.heap.size, 3, none⟩ = some (.int .i64 d.at_) ∧ w6.cell? ⟨w.heap.size, 4, none⟩ = some (.string d.tx) := ⟨e6.b.c3, e6.b.c4⟩
  refine ⟨_, rfl, s6, ?_⟩
  simp only [BZ.z, Act.put, Nat.reduceAdd]
  refine wpAnyH_take (i := 11) (v := .string ((((((⟨#[102, 105, 108, 108]⟩ : ByteArray) ++ ((((⟨#[32]⟩ : ByteArray) ++ u) ++ (⟨#[32]⟩ : ByteArray)) ++ v)) ++ (⟨#[32]⟩ : ByteArray)) ++ x) ++ (⟨#[32]⟩ : ByteArray)) ++ h)) rfl (by kernel_rfl) (by kernel_rfl) (by kernel_rfl) (fun _ _ _ h => h) (Or.inl ⟨by rfl, fun w' hS' => ?_⟩) s6 ?_
  · obtain ⟨p3, p4⟩ := hS'
    (refine cat_yield ?_; simp only [ByteArray.size_append, sz_lit, List.size_toArray, List.length_cons, List.length_nil]; omega)
  simp only [BZ.z, Act.put, Nat.reduceAdd]
  refine wpAnyH_take (i := 12) (v := .string ((((((⟨#[102, 105, 108, 108]⟩ : ByteArray) ++ ((((⟨#[32]⟩ : ByteArray) ++ u) ++ (⟨#[32]⟩ : ByteArray)) ++ v)) ++ (⟨#[32]⟩ : ByteArray)) ++ x) ++ (⟨#[32]⟩ : ByteArray)) ++ h)) rfl (by kernel_rfl) (by kernel_rfl) (by kernel_rfl) (fun _ _ _ h => h) (Or.inl ⟨by rfl, fun w' hS' => by rfl⟩) s6 ?_
  simp only [BZ.z, Act.put, Nat.reduceAdd]
  refine wpAnyH_done (by kernel_rfl) ?_ _
  go_wp2
  go_ret
  exact ⟨by rw [HE.out]; rfl, e6.bel⟩

end Go.Proofs.YtjajclifjojblaaDoor.EZ
