/- The contract of spec.EventText, of a power cut, and of another kind. -/
import Derived.Test.YtjajclifjojblaaDoorBun0
import Derived.Test.YtjajclifjojblaaDoorEv5
namespace Go.Proofs.YtjajclifjojblaaDoor.EZ
open Go.ChangeShapes Go.WideShapes Go.ChangeAt Go.RowKit
set_option linter.unusedVariables false
set_option linter.unusedSimpArgs false
set_option maxRecDepth 10000

open EV (Ev val vals Fit hx dt glue)
open EW (EB eb_new eo)
variable {w W W' : World} {d : Ev} {a : Option Addr} {c : Nat}

theorem glue_size (b : ByteArray) : ∀ (zs : List Int), (∀ z ∈ zs, (Lit.int .i64 z).wf = true) → (glue b (zs.map dt)).size ≤ b.size + 23 * zs.length := by
  intro zs h
  show (Lib.join ((b :: zs.map dt).map (·.data.toList)) [32]).toArray.size ≤ _
  rw [List.size_toArray, List.map_cons, Lib.join_length, Lib.lens, List.map_cons, List.sum_cons]
  have hs : ∀ (l : List Int), (∀ z ∈ l, (Lit.int .i64 z).wf = true) → ((((l.map dt).map (·.data.toList)).map (·.length))).sum ≤ 22 * l.length := by
    intro l
    induction l with
    | nil => intro _; exact Nat.zero_le _
    | cons z r ih =>
      intro h
      have h1 := EX.dt_size z (h z (List.mem_cons_self ..))
      have h2 := ih (fun y hy => h y (List.mem_cons_of_mem _ hy))
      have e : (dt z).data.toList.length = (dt z).size := by rw [Array.length_toList]; rfl
      simp only [List.map_cons, List.sum_cons, List.length_cons]
      omega
  have h3 := hs zs h
  have e : b.data.toList.length = b.size := by rw [Array.length_toList]; rfl
  simp only [List.length_map, List.length_cons, List.length_nil] at *
  omega

set_option maxHeartbeats 4000000 in
theorem text5 (hk : d.kd = 5) (hF : Fit d) (ht : d.tx.size ≤ 1048576) (hl : d.kp.length ≤ 1048576) (hR : P0.Row w a d.kp) :
    Calls Tryd.prog 17 #[val d a c] w fun e w' => e = .returned (.string (glue (⟨#[112, 111, 119, 101, 114]⟩ : ByteArray) (d.kp.map dt))) ∧ Below w.heap.size w w' := by
  have e0 := (st_new w d a c).below ((Below.refl _ _).drew)
  have g1 := EX.dt_size d.cl hF.f1
  have g2 := EX.dt_size d.ino hF.f2
  have H1 : Hid (∀ W, St w d a c W → Calls Tryd.prog 27 #[.int .i64 d.cl] W fun e w' => e = .returned (.string (dt d.cl)) ∧ St w d a c w') := fun W h => dec d.cl hF.f1 h
  have H2 : Hid (∀ W, St w d a c W → Calls Tryd.prog 27 #[.int .i64 d.ino] W fun e w' => e = .returned (.string (dt d.ino)) ∧ St w d a c w') := fun W h => dec d.ino hF.f2 h
  obtain ⟨u, hu⟩ : ∃ u, dt d.cl = u := ⟨_, rfl⟩
  obtain ⟨v, hv⟩ : ∃ v, dt d.ino = v := ⟨_, rfl⟩
  rw [hu] at g1 H1
  rw [hv] at g2 H2
  obtain ⟨W0, hW0⟩ : ∃ W0, w.alloc (eo d a c 24) = W0 := ⟨_, rfl⟩
  rw [hW0] at e0
  have s0 : W0.drew.cell? ⟨w.heap.size, 1, none⟩ = some (.int .i64 d.cl) ∧ W0.drew.cell? ⟨w.heap.size, 2, none⟩ = some (.int .i64 d.ino) := ⟨e0.b.c1, e0.b.c2⟩
  have HR : Hid (∀ W, Below w.heap.size w W → P0.Row W a d.kp) := fun W hb => hR.below hb
  have HU : Hid (∀ j, j < d.kp.length → glue (⟨#[112, 111, 119, 101, 114]⟩ : ByteArray) ((d.kp.take (j + 1)).map dt) = glue (⟨#[112, 111, 119, 101, 114]⟩ : ByteArray) ((d.kp.take j).map dt) ++ (⟨#[32]⟩ : ByteArray) ++ dt (d.kp.getD j 0)) := fun j hj => by
    rw [← EV.glue_snoc, List.take_add_one, List.getElem?_eq_getElem hj, Option.toList_some, List.map_append, P0.getD_get _ _ hj]
    rfl
  have HA : Hid (glue (⟨#[112, 111, 119, 101, 114]⟩ : ByteArray) ((d.kp.take d.kp.length).map dt) = glue (⟨#[112, 111, 119, 101, 114]⟩ : ByteArray) (d.kp.map dt)) := by show glue _ _ = _; rw [List.take_length]
  have HZ : Hid (∀ j, (glue (⟨#[112, 111, 119, 101, 114]⟩ : ByteArray) ((d.kp.take j).map dt)).size ≤ 100000000) := fun j => by
    have h1 := glue_size (⟨#[112, 111, 119, 101, 114]⟩ : ByteArray) (d.kp.take j) (fun z hz => hF.fk z (List.mem_of_mem_take hz))
    have h2 : (d.kp.take j).length ≤ d.kp.length := by simp; omega
    have h3 : (⟨#[112, 111, 119, 101, 114]⟩ : ByteArray).size = 5 := rfl
    omega
  have HG0 : Hid (glue (⟨#[112, 111, 119, 101, 114]⟩ : ByteArray) ((d.kp.take 0).map dt) = (⟨#[112, 111, 119, 101, 114]⟩ : ByteArray)) := EV.glue_nil _
  have HD : Hid (∀ j W, j < d.kp.length → St w d a c W → Calls Tryd.prog 27 #[.int .i64 (d.kp.getD j 0)] W fun e w' => e = .returned (.string (dt (d.kp.getD j 0))) ∧ St w d a c w') := fun j W hj h => dec _ (hF.fk _ (by rw [P0.getD_get _ _ hj]; exact List.getElem_mem hj)) h
  have HY : Hid (∀ j, j < d.kp.length → (dt (d.kp.getD j 0)).size ≤ 22) := fun j hj => EX.dt_size _ (hF.fk _ (by rw [P0.getD_get _ _ hj]; exact List.getElem_mem hj))
  have HKd : Hid (d.kd = 5) := hk
  clear hF hk hu hv hR
  go_enter Tryd.func17, Tryd.ntmps17
  go_wp2
  try rw [hW0]
  refine wp_region_held (S := fun W => W.cell? ⟨w.heap.size, 1, none⟩ = some (.int .i64 d.cl) ∧ W.cell? ⟨w.heap.size, 2, none⟩ = some (.int .i64 d.ino)) (by kernel_rfl) ?_
  refine wpAnyH_take (i := 0) (v := .pointer (some ⟨w.heap.size, 1, none⟩)) rfl (by kernel_rfl) (by kernel_rfl) (by kernel_rfl) (fun _ _ _ h => h) (Or.inl ⟨by rfl, fun w' hS' => by rfl⟩) s0 ?_
  simp only [BZ.z, Act.put, Nat.reduceAdd]
  refine wpAnyH_take (i := 1) (v := .int .i64 d.cl) rfl (by kernel_rfl) (by kernel_rfl) (by kernel_rfl) (fun _ _ _ h => h) (Or.inl ⟨by rfl, fun w' hS' => ?_⟩) s0 ?_
  · obtain ⟨p1, p2⟩ := hS'
    go_simp
  simp only [BZ.z, Act.put, Nat.reduceAdd]
  refine wpAnyH_take (i := 4) (v := .pointer (some ⟨w.heap.size, 1, none⟩)) rfl (by kernel_rfl) (by kernel_rfl) (by kernel_rfl) (fun _ _ _ h => h) (Or.inl ⟨by rfl, fun w' hS' => by rfl⟩) s0 ?_
  simp only [BZ.z, Act.put, Nat.reduceAdd]
  refine wpAnyH_take (i := 5) (v := .int .i64 d.cl) rfl (by kernel_rfl) (by kernel_rfl) (by kernel_rfl) (fun _ _ _ h => h) (Or.inl ⟨by rfl, fun w' hS' => ?_⟩) s0 ?_
  · obtain ⟨p1, p2⟩ := hS'
    go_simp
  simp only [BZ.z, Act.put, Nat.reduceAdd]
  refine wpAnyH_take (i := 9) (v := .pointer (some ⟨w.heap.size, 2, none⟩)) rfl (by kernel_rfl) (by kernel_rfl) (by kernel_rfl) (fun _ _ _ h => h) (Or.inl ⟨by rfl, fun w' hS' => by rfl⟩) s0 ?_
  simp only [BZ.z, Act.put, Nat.reduceAdd]
  refine wpAnyH_take (i := 10) (v := .int .i64 d.ino) rfl (by kernel_rfl) (by kernel_rfl) (by kernel_rfl) (fun _ _ _ h => h) (Or.inl ⟨by rfl, fun w' hS' => ?_⟩) s0 ?_
  · obtain ⟨p1, p2⟩ := hS'
    go_simp
  simp only [BZ.z, Act.put, Nat.reduceAdd]
  refine Y0.one_callw (i := 2) (by kernel_rfl) rfl (by rfl) (.tmp 8) _ rfl (.int .i64 d.cl) (by rfl) (enters_of Tryd.func27 (by kernel_rfl) rfl) ((H1.out _ e0).mono ?_)
  rintro e w1 ⟨rfl, e1⟩
  have s1 : w1.cell? ⟨w.heap.size, 1, none⟩ = some (.int .i64 d.cl) ∧ w1.cell? ⟨w.heap.size, 2, none⟩ = some (.int .i64 d.ino) := ⟨e1.b.c1, e1.b.c2⟩
  refine ⟨_, rfl, s1, ?_⟩
  simp only [BZ.z, Act.put, Nat.reduceAdd]
  refine wpAnyH_take (i := 3) (v := .string ((⟨#[32]⟩ : ByteArray) ++ u)) rfl (by kernel_rfl) (by kernel_rfl) (by kernel_rfl) (fun _ _ _ h => h) (Or.inl ⟨by rfl, fun w' hS' => ?_⟩) s1 ?_
  · obtain ⟨p1, p2⟩ := hS'
    (refine cat_yield ?_; simp only [ByteArray.size_append, sz_lit, List.size_toArray, List.length_cons, List.length_nil]; omega)
  simp only [BZ.z, Act.put, Nat.reduceAdd]
  refine Y0.one_callw (i := 6) (by kernel_rfl) rfl (by rfl) (.tmp 12) _ rfl (.int .i64 d.cl) (by rfl) (enters_of Tryd.func27 (by kernel_rfl) rfl) ((H1.out _ e1).mono ?_)
  rintro e w2 ⟨rfl, e2⟩
  have s2 : w2.cell? ⟨w.heap.size, 1, none⟩ = some (.int .i64 d.cl) ∧ w2.cell? ⟨w.heap.size, 2, none⟩ = some (.int .i64 d.ino) := ⟨e2.b.c1, e2.b.c2⟩
  refine ⟨_, rfl, s2, ?_⟩
  simp only [BZ.z, Act.put, Nat.reduceAdd]
  refine wpAnyH_take (i := 7) (v := .string ((⟨#[32]⟩ : ByteArray) ++ u)) rfl (by kernel_rfl) (by kernel_rfl) (by kernel_rfl) (fun _ _ _ h => h) (Or.inl ⟨by rfl, fun w' hS' => ?_⟩) s2 ?_
  · obtain ⟨p1, p2⟩ := hS'
    (refine cat_yield ?_; simp only [ByteArray.size_append, sz_lit, List.size_toArray, List.length_cons, List.length_nil]; omega)
  simp only [BZ.z, Act.put, Nat.reduceAdd]
  refine wpAnyH_take (i := 8) (v := .string (((⟨#[32]⟩ : ByteArray) ++ u) ++ (⟨#[32]⟩ : ByteArray))) rfl (by kernel_rfl) (by kernel_rfl) (by kernel_rfl) (fun _ _ _ h => h) (Or.inl ⟨by rfl, fun w' hS' => ?_⟩) s2 ?_
  · obtain ⟨p1, p2⟩ := hS'
    (refine cat_yield ?_; simp only [ByteArray.size_append, sz_lit, List.size_toArray, List.length_cons, List.length_nil]; omega)
  simp only [BZ.z, Act.put, Nat.reduceAdd]
  refine Y0.one_callw (i := 11) (by kernel_rfl) rfl (by rfl) (.tmp 17) _ rfl (.int .i64 d.ino) (by rfl) (enters_of Tryd.func27 (by kernel_rfl) rfl) ((H2.out _ e2).mono ?_)
  rintro e w3 ⟨rfl, e3⟩
  have s3 : w3.cell? ⟨w.heap.size, 1, none⟩ = some (.int .i64 d.cl) ∧ w3.cell? ⟨w.heap.size, 2, none⟩ = some (.int .i64 d.ino) := ⟨e3.b.c1, e3.b.c2⟩
  refine ⟨_, rfl, s3, ?_⟩
  simp only [BZ.z, Act.put, Nat.reduceAdd]
  refine wpAnyH_take (i := 12) (v := .string ((((⟨#[32]⟩ : ByteArray) ++ u) ++ (⟨#[32]⟩ : ByteArray)) ++ v)) rfl (by kernel_rfl) (by kernel_rfl) (by kernel_rfl) (fun _ _ _ h => h) (Or.inl ⟨by rfl, fun w' hS' => ?_⟩) s3 ?_
  · obtain ⟨p1, p2⟩ := hS'
    (refine cat_yield ?_; simp only [ByteArray.size_append, sz_lit, List.size_toArray, List.length_cons, List.length_nil]; omega)
  simp only [BZ.z, Act.put, Nat.reduceAdd]
  refine wpAnyH_take (i := 13) (v := .string ((⟨#[32]⟩ : ByteArray) ++ u)) rfl (by kernel_rfl) (by kernel_rfl) (by kernel_rfl) (fun _ _ _ h => h) (Or.inl ⟨by rfl, fun w' hS' => by rfl⟩) s3 ?_
  simp only [BZ.z, Act.put, Nat.reduceAdd]
  refine wpAnyH_take (i := 14) (v := .string ((((⟨#[32]⟩ : ByteArray) ++ u) ++ (⟨#[32]⟩ : ByteArray)) ++ v)) rfl (by kernel_rfl) (by kernel_rfl) (by kernel_rfl) (fun _ _ _ h => h) (Or.inl ⟨by rfl, fun w' hS' => by rfl⟩) s3 ?_
  simp only [BZ.z, Act.put, Nat.reduceAdd]
  refine wpAnyH_done (by kernel_rfl) ?_ _
  have c0 := e3.b.c0
  have c5 := e3.b.c5
  rw [HKd.out] at c0
  clear s0 s1 s2 s3 e0 e1 e2
  go_wp2
  go_loopw [5, 6] (fun t i w' => ∃ j : Nat, j ≤ d.kp.length ∧ i = .int .i64 j ∧ t = .string (glue (⟨#[112, 111, 119, 101, 114]⟩ : ByteArray) ((d.kp.take j).map dt)) ∧ St w d a c w') (fun _ i _ => d.kp.length - (intOf i).toNat)
  case atStart => exact ⟨0, Nat.zero_le _, rfl, by rw [HG0.out], e3⟩
  case round =>
    obtain ⟨j, hj, rfl, rfl, hst⟩ := hrel
    clear c0 c5 e3
    have c5 := hst.b.c5
    by_cases hlt : j < d.kp.length
    · obtain ⟨b, off, rfl, hlt0, hc⟩ := (HR.out _ hst.bel).get hlt
      have y := hc j hlt
      have hd := HD.out j wr hlt hst
      have HU' := HU.out j hlt
      have q1 := HZ.out j
      have q2 := HY.out j hlt
      have e1 : (0 : Int) ≤ (j : Int) := by omega
      have e2 : (j : Int) < (d.kp.length : Int) := by omega
      obtain ⟨z, ez⟩ : ∃ z, d.kp.getD j 0 = z := ⟨_, rfl⟩
      rw [ez] at y hd HU' q2
      obtain ⟨G, hG⟩ : ∃ G, glue (⟨#[112, 111, 119, 101, 114]⟩ : ByteArray) ((d.kp.take j).map dt) = G := ⟨_, rfl⟩
      rw [hG] at q1 HU' ⊢
      have HU2 : Hid (glue (⟨#[112, 111, 119, 101, 114]⟩ : ByteArray) ((d.kp.take (j + 1)).map dt) = G ++ (⟨#[32]⟩ : ByteArray) ++ dt z) := HU'
      obtain ⟨Z, hZ⟩ : ∃ Z, dt z = Z := ⟨_, rfl⟩
      rw [hZ] at hd HU2 q2
      have k1 : (G ++ (⟨#[32]⟩ : ByteArray)).size ≤ 100000001 := cat_le q1 (Nat.le_refl _)
      have r1 : ∀ W, (binOp .add 9 (.string G) (.string (⟨#[32]⟩ : ByteArray))).run Tryd.prog W = .ok (.string (G ++ (⟨#[32]⟩ : ByteArray))) W := run_cat (by have : (⟨#[32]⟩ : ByteArray).size = 1 := rfl; omega)
      have r2 : ∀ W, (binOp .add 9 (.string (G ++ (⟨#[32]⟩ : ByteArray))) (.string Z)).run Tryd.prog W = .ok (.string (G ++ (⟨#[32]⟩ : ByteArray) ++ Z)) W := run_cat (by omega)
      clear HR HU HA HZ HG0 HD HY hc ez HU' hG hZ
      go_wp2_with (go_at_call 27; refine hd.mono ?_; rintro e w1 ⟨rfl, st1⟩)
      go_roundw
      case rel => exact ⟨j + 1, by omega, by go_num, by rw [HU2.out], st1⟩
      case measure => simp [intOf]; omega
    · obtain rfl : j = d.kp.length := by omega
      have HA' := HA
      clear HR HU HZ HG0 HD HY
      rw [HA.out]
      go_wp2
      go_ret
      exact ⟨rfl, hst.bel⟩

set_option maxHeartbeats 4000000 in
theorem textN (hk : ¬ (0 ≤ d.kd ∧ d.kd ≤ 9)) (hF : Fit d) :
    Calls Tryd.prog 17 #[val d a c] w fun e w' => e = .returned (.string ⟨#[]⟩) ∧ Below w.heap.size w w' := by
  have e0 := (st_new w d a c).below ((Below.refl _ _).drew)
  have g1 := EX.dt_size d.cl hF.f1
  have g2 := EX.dt_size d.ino hF.f2
  have H1 : Hid (∀ W, St w d a c W → Calls Tryd.prog 27 #[.int .i64 d.cl] W fun e w' => e = .returned (.string (dt d.cl)) ∧ St w d a c w') := fun W h => dec d.cl hF.f1 h
  have H2 : Hid (∀ W, St w d a c W → Calls Tryd.prog 27 #[.int .i64 d.ino] W fun e w' => e = .returned (.string (dt d.ino)) ∧ St w d a c w') := fun W h => dec d.ino hF.f2 h
  obtain ⟨u, hu⟩ : ∃ u, dt d.cl = u := ⟨_, rfl⟩
  obtain ⟨v, hv⟩ : ∃ v, dt d.ino = v := ⟨_, rfl⟩
  rw [hu] at g1 H1
  rw [hv] at g2 H2
  obtain ⟨W0, hW0⟩ : ∃ W0, w.alloc (eo d a c 24) = W0 := ⟨_, rfl⟩
  rw [hW0] at e0
  have s0 : W0.drew.cell? ⟨w.heap.size, 1, none⟩ = some (.int .i64 d.cl) ∧ W0.drew.cell? ⟨w.heap.size, 2, none⟩ = some (.int .i64 d.ino) := ⟨e0.b.c1, e0.b.c2⟩
  have n0 : ¬ d.kd = 0 := by omega
  have n1 : ¬ d.kd = 1 := by omega
  have n2 : ¬ d.kd = 2 := by omega
  have n3 : ¬ d.kd = 3 := by omega
  have n4 : ¬ d.kd = 4 := by omega
  have n5 : ¬ d.kd = 5 := by omega
  have n6 : ¬ d.kd = 6 := by omega
  have n7 : ¬ d.kd = 7 := by omega
  have n8 : ¬ d.kd = 8 := by omega
  have n9 : ¬ d.kd = 9 := by omega
  clear hF hk hu hv
  go_enter Tryd.func17, Tryd.ntmps17
  go_wp2
  try rw [hW0]
  refine wp_region_held (S := fun W => W.cell? ⟨w.heap.size, 1, none⟩ = some (.int .i64 d.cl) ∧ W.cell? ⟨w.heap.size, 2, none⟩ = some (.int .i64 d.ino)) (by kernel_rfl) ?_
  refine wpAnyH_take (i := 0) (v := .pointer (some ⟨w.heap.size, 1, none⟩)) rfl (by kernel_rfl) (by kernel_rfl) (by kernel_rfl) (fun _ _ _ h => h) (Or.inl ⟨by rfl, fun w' hS' => by rfl⟩) s0 ?_
  simp only [BZ.z, Act.put, Nat.reduceAdd]
  refine wpAnyH_take (i := 1) (v := .int .i64 d.cl) rfl (by kernel_rfl) (by kernel_rfl) (by kernel_rfl) (fun _ _ _ h => h) (Or.inl ⟨by rfl, fun w' hS' => ?_⟩) s0 ?_
  · obtain ⟨p1, p2⟩ := hS'
    go_simp
  simp only [BZ.z, Act.put, Nat.reduceAdd]
  refine wpAnyH_take (i := 4) (v := .pointer (some ⟨w.heap.size, 1, none⟩)) rfl (by kernel_rfl) (by kernel_rfl) (by kernel_rfl) (fun _ _ _ h => h) (Or.inl ⟨by rfl, fun w' hS' => by rfl⟩) s0 ?_
  simp only [BZ.z, Act.put, Nat.reduceAdd]
  refine wpAnyH_take (i := 5) (v := .int .i64 d.cl) rfl (by kernel_rfl) (by kernel_rfl) (by kernel_rfl) (fun _ _ _ h => h) (Or.inl ⟨by rfl, fun w' hS' => ?_⟩) s0 ?_
  · obtain ⟨p1, p2⟩ := hS'
    go_simp
  simp only [BZ.z, Act.put, Nat.reduceAdd]
  refine wpAnyH_take (i := 9) (v := .pointer (some ⟨w.heap.size, 2, none⟩)) rfl (by kernel_rfl) (by kernel_rfl) (by kernel_rfl) (fun _ _ _ h => h) (Or.inl ⟨by rfl, fun w' hS' => by rfl⟩) s0 ?_
  simp only [BZ.z, Act.put, Nat.reduceAdd]
  refine wpAnyH_take (i := 10) (v := .int .i64 d.ino) rfl (by kernel_rfl) (by kernel_rfl) (by kernel_rfl) (fun _ _ _ h => h) (Or.inl ⟨by rfl, fun w' hS' => ?_⟩) s0 ?_
  · obtain ⟨p1, p2⟩ := hS'
    go_simp
  simp only [BZ.z, Act.put, Nat.reduceAdd]
  refine Y0.one_callw (i := 2) (by kernel_rfl) rfl (by rfl) (.tmp 8) _ rfl (.int .i64 d.cl) (by rfl) (enters_of Tryd.func27 (by kernel_rfl) rfl) ((H1.out _ e0).mono ?_)
  rintro e w1 ⟨rfl, e1⟩
  have s1 : w1.cell? ⟨w.heap.size, 1, none⟩ = some (.int .i64 d.cl) ∧ w1.cell? ⟨w.heap.size, 2, none⟩ = some (.int .i64 d.ino) := ⟨e1.b.c1, e1.b.c2⟩
  refine ⟨_, rfl, s1, ?_⟩
  simp only [BZ.z, Act.put, Nat.reduceAdd]
  refine wpAnyH_take (i := 3) (v := .string ((⟨#[32]⟩ : ByteArray) ++ u)) rfl (by kernel_rfl) (by kernel_rfl) (by kernel_rfl) (fun _ _ _ h => h) (Or.inl ⟨by rfl, fun w' hS' => ?_⟩) s1 ?_
  · obtain ⟨p1, p2⟩ := hS'
    (refine cat_yield ?_; simp only [ByteArray.size_append, sz_lit, List.size_toArray, List.length_cons, List.length_nil]; omega)
  simp only [BZ.z, Act.put, Nat.reduceAdd]
  refine Y0.one_callw (i := 6) (by kernel_rfl) rfl (by rfl) (.tmp 12) _ rfl (.int .i64 d.cl) (by rfl) (enters_of Tryd.func27 (by kernel_rfl) rfl) ((H1.out _ e1).mono ?_)
  rintro e w2 ⟨rfl, e2⟩
  have s2 : w2.cell? ⟨w.heap.size, 1, none⟩ = some (.int .i64 d.cl) ∧ w2.cell? ⟨w.heap.size, 2, none⟩ = some (.int .i64 d.ino) := ⟨e2.b.c1, e2.b.c2⟩
  refine ⟨_, rfl, s2, ?_⟩
  simp only [BZ.z, Act.put, Nat.reduceAdd]
  refine wpAnyH_take (i := 7) (v := .string ((⟨#[32]⟩ : ByteArray) ++ u)) rfl (by kernel_rfl) (by kernel_rfl) (by kernel_rfl) (fun _ _ _ h => h) (Or.inl ⟨by rfl, fun w' hS' => ?_⟩) s2 ?_
  · obtain ⟨p1, p2⟩ := hS'
    (refine cat_yield ?_; simp only [ByteArray.size_append, sz_lit, List.size_toArray, List.length_cons, List.length_nil]; omega)
  simp only [BZ.z, Act.put, Nat.reduceAdd]
  refine wpAnyH_take (i := 8) (v := .string (((⟨#[32]⟩ : ByteArray) ++ u) ++ (⟨#[32]⟩ : ByteArray))) rfl (by kernel_rfl) (by kernel_rfl) (by kernel_rfl) (fun _ _ _ h => h) (Or.inl ⟨by rfl, fun w' hS' => ?_⟩) s2 ?_
  · obtain ⟨p1, p2⟩ := hS'
    (refine cat_yield ?_; simp only [ByteArray.size_append, sz_lit, List.size_toArray, List.length_cons, List.length_nil]; omega)
  simp only [BZ.z, Act.put, Nat.reduceAdd]
  refine Y0.one_callw (i := 11) (by kernel_rfl) rfl (by rfl) (.tmp 17) _ rfl (.int .i64 d.ino) (by rfl) (enters_of Tryd.func27 (by kernel_rfl) rfl) ((H2.out _ e2).mono ?_)
  rintro e w3 ⟨rfl, e3⟩
  have s3 : w3.cell? ⟨w.heap.size, 1, none⟩ = some (.int .i64 d.cl) ∧ w3.cell? ⟨w.heap.size, 2, none⟩ = some (.int .i64 d.ino) := ⟨e3.b.c1, e3.b.c2⟩
  refine ⟨_, rfl, s3, ?_⟩
  simp only [BZ.z, Act.put, Nat.reduceAdd]
  refine wpAnyH_take (i := 12) (v := .string ((((⟨#[32]⟩ : ByteArray) ++ u) ++ (⟨#[32]⟩ : ByteArray)) ++ v)) rfl (by kernel_rfl) (by kernel_rfl) (by kernel_rfl) (fun _ _ _ h => h) (Or.inl ⟨by rfl, fun w' hS' => ?_⟩) s3 ?_
  · obtain ⟨p1, p2⟩ := hS'
    (refine cat_yield ?_; simp only [ByteArray.size_append, sz_lit, List.size_toArray, List.length_cons, List.length_nil]; omega)
  simp only [BZ.z, Act.put, Nat.reduceAdd]
  refine wpAnyH_take (i := 13) (v := .string ((⟨#[32]⟩ : ByteArray) ++ u)) rfl (by kernel_rfl) (by kernel_rfl) (by kernel_rfl) (fun _ _ _ h => h) (Or.inl ⟨by rfl, fun w' hS' => by rfl⟩) s3 ?_
  simp only [BZ.z, Act.put, Nat.reduceAdd]
  refine wpAnyH_take (i := 14) (v := .string ((((⟨#[32]⟩ : ByteArray) ++ u) ++ (⟨#[32]⟩ : ByteArray)) ++ v)) rfl (by kernel_rfl) (by kernel_rfl) (by kernel_rfl) (fun _ _ _ h => h) (Or.inl ⟨by rfl, fun w' hS' => by rfl⟩) s3 ?_
  simp only [BZ.z, Act.put, Nat.reduceAdd]
  refine wpAnyH_done (by kernel_rfl) ?_ _
  have c0 := e3.b.c0
  clear s0 s1 s2 s3 e0 e1 e2
  go_wp2
  go_ret
  exact ⟨rfl, e3.bel⟩
end Go.Proofs.YtjajclifjojblaaDoor.EZ
