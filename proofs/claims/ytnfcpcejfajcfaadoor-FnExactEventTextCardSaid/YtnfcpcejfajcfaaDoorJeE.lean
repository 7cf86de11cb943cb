/- Joined texts: plain facts and contracts, as each part says. -/
import Derived.Test.YtnfcpcejfajcfaaDoorJeD
import Derived.Test.YtnfcpcejfajcfaaDoorJeC

/- The contract of spec.EventText, of a power cut, and of another kind. -/
namespace Go.Proofs.YtnfcpcejfajcfaaDoor.EZ
open Go.ChangeShapes Go.WideShapes Go.ChangeAt Go.RowKit
set_option linter.unusedVariables false
set_option linter.unusedSimpArgs false
set_option maxRecDepth 10000

open EV (Ev val vals Fit hx dt glue)
open EW (EB eb_new eo)
variable {w W W' : World} {d : Ev} {a : Option Addr} {c : Nat}

theorem glue_size (b : ByteArray) : ∀ (zs : List Int), (∀ z ∈ zs, (Lit.int .i64 z).wf = true) → (glue b (zs.map dt)).size ≤ b.size + 23 * zs.length := by
  intro zs h
  show (Lib.join ((b :: zs.map dt).map (·.data.toList)) [32]).toArray.size ≤ _
  rw [List.size_toArray, List.map_cons, Lib.join_length, Lib.lens, List.map_cons, List.sum_cons]
  have hs : ∀ (l : List Int), (∀ z ∈ l, (Lit.int .i64 z).wf = true) → ((((l.map dt).map (·.data.toList)).map (·.length))).sum ≤ 22 * l.length := by
    intro l
    induction l with
    | nil => intro _; exact Nat.zero_le _
    | cons z r ih =>
      intro h
      have h1 := EX.dt_size z (h z (List.mem_cons_self ..))
      have h2 := ih (fun y hy => h y (List.mem_cons_of_mem _ hy))
      have e : (dt z).data.toList.length = (dt z).size := by rw [Array.length_toList]; rfl
      simp only [List.map_cons, List.sum_cons, List.length_cons]
      omega
  have h3 := hs zs h
  have e : b.data.toList.length = b.size := by rw [Array.length_toList]; rfl
  simp only [List.length_map, List.length_cons, List.length_nil] at *
  omega

set_option maxHeartbeats 4000000 in
theorem text5 (hk : d.kd = 5) (hF : Fit d) (ht : d.tx.size ≤ 1048576) (hl : d.kp.length ≤ 1048576) (hR : P0.Row w a d.kp) :
    Calls Tryd.prog 5 #[val d a c] w fun e w' => e = .returned (.string (glue (⟨#[112, 111, 119, 101, 114]⟩ : ByteArray) (d.kp.map dt))) ∧ Below w.heap.size w w' := by
  have e0 := (st_new w d a c).below ((Below.refl _ _).drew)
  have g1 := EX.dt_size d.cl hF.f1
  have g2 := EX.dt_size d.ino hF.f2
  have H1 : Hid (∀ W, St w d a c W → Calls Tryd.prog 10 #[.int .i64 d.cl] W fun e w' => e = .returned (.string (dt d.cl)) ∧ St w d a c w') := fun W h => dec d.cl hF.f1 h
  have H2 : Hid (∀ W, St w d a c W → Calls Tryd.prog 10 #[.int .i64 d.ino] W fun e w' => e = .returned (.string (dt d.ino)) ∧ St w d a c w') := fun W h => dec d.ino hF.f2 h
  obtain ⟨u, hu⟩ : ∃ u, dt d.cl = u := ⟨_, rfl⟩
  obtain ⟨v, hv⟩ : ∃ v, dt d.ino = v := ⟨_, rfl⟩
  rw [hu] at g1 H1
  rw [hv] at g2 H2
  obtain ⟨W0, hW0⟩ : ∃ W0, w.alloc (eo d a c 27) = W0 := ⟨_, rfl⟩
  rw [hW0] at e0
  have s0 : W0.drew.cell? ⟨w.heap.size, 1, none⟩ = some (.int .i64 d.cl) ∧ W0.drew.cell? ⟨w.heap.size, 2, none⟩ = some (.int .i64 d.ino) := ⟨e0.b.c1, e0.b.c2⟩
  have HR : Hid (∀ W, Below w.heap.size w W → P0.Row W a d.kp) := fun W hb => hR.below hb
  have HU : Hid (∀ j, j < d.kp.length → glue (⟨#[112, 111, 119, 101, 114]⟩ : ByteArray) ((d.kp.take (j + 1)).map dt) = glue (⟨#[112, 111, 119, 101, 114]⟩ : ByteArray) ((d.kp.take j).map dt) ++ (⟨#[32]⟩ : ByteArray) ++ dt (d.kp.getD j 0)) := fun j hj => by
    rw [← EV.glue_snoc, List.take_add_one, List.getElem?_eq_getElem hj, Option.toList_some, List.map_append, P0.getD_get _ _ hj]
    rfl
  have HA : Hid (glue (⟨#[112, 111, 119, 101, 114]⟩ : ByteArray) ((d.kp.take d.kp.length).map dt) = glue (⟨#[112, 111, 119, 101, 114]⟩ : ByteArray) (d.kp.map dt)) := by show glue _ _ = _; rw [List.take_length]
  have HZ : Hid (∀ j, (glue (⟨#[112, 111, 119, 101, 114]⟩ : ByteArray) ((d.kp.take j).map dt)).size ≤ 100000000) := fun j => by
    have h1 := glue_size (⟨#[112, 111, 119, 101, 114]⟩ : ByteArray) (d.kp.take j) (fun z hz => hF.fk z (List.mem_of_mem_take hz))
    have h2 : (d.kp.take j).length ≤ d.kp.length := by simp; omega
    have h3 : (⟨#[112, 111, 119, 101, 114]⟩ : ByteArray).size = 5 := rfl
    omega
  have HG0 : Hid (glue (⟨#[112, 111, 119, 101, 114]⟩ : ByteArray) ((d.kp.take 0).map dt) = (⟨#[112, 111, 119, 101, 114]⟩ : ByteArray)) := EV.glue_nil _
  have HD : Hid (∀ j W, j < d.kp.length → St w d a c W → Calls Tryd.prog 10 #[.int .i64 (d.kp.getD j 0)] W fun e w' => e = .returned (.string (dt (d.kp.getD j 0))) ∧ St w d a c w') := fun j W hj h => dec _ (hF.fk _ (by rw [P0.getD_get _ _ hj]; exact List.getElem_mem hj)) h
  have HY : Hid (∀ j, j < d.kp.length → (dt (d.kp.getD j 0)).size ≤ 22) := fun j hj => EX.dt_size _ (hF.fk _ (by rw [P0.getD_get _ _ hj]; exact List.getElem_mem hj))
  have HKd : Hid (d.kd = 5) := hk
  clear hF hk hu hv hR
  go_enter Tryd.func5, Tryd.ntmps5
  go_wp2
  try rw [hW0]
  refine wp_region_held (S := fun W => W.cell? ⟨w.heap.size, 1, none⟩ = some (.int .i64 d.cl) ∧ W.cell? ⟨w.heap.size, 2, none⟩ = some (.int .i64 d.ino)) (by kernel_rfl) ?_
  refine wpAnyH_take (i := 0) (v := .pointer (some ⟨w.heap.size, 1, none⟩)) rfl (by kernel_rfl) (by kernel_rfl) (by kernel_rfl) (fun _ _ _ h => h) (Or.inl ⟨by rfl, fun w' hS' => by rfl⟩) s0 ?_
  simp only [List.getElem_toArray, List.getElem_cons_succ, List.getElem_cons_zero, Act.put, List.setIfInBounds_toArray, List.set_cons_succ, List.set_cons_zero, Nat.reduceAdd]
  refine wpAnyH_take (i := 1) (v := .int .i64 d.cl) rfl (by kernel_rfl) (by kernel_rfl) (by kernel_rfl) (fun _ _ _ h => h) (Or.inl ⟨by rfl, fun w' hS' => ?_⟩) s0 ?_
  · obtain ⟨p1, p2⟩ := hS'
    go_simp
  simp only [List.getElem_toArray, List.getElem_cons_succ, List.getElem_cons_zero, Act.put, List.setIfInBounds_toArray, List.set_cons_succ, List.set_cons_zero, Nat.reduceAdd]
  refine wpAnyH_take (i := 4) (v := .pointer (some ⟨w.heap.size, 1, none⟩)) rfl (by kernel_rfl) (by kernel_rfl) (by kernel_rfl) (fun _ _ _ h => h) (Or.inl ⟨by rfl, fun w' hS' => by rfl⟩) s0 ?_
  simp only [List.getElem_toArray, List.getElem_cons_succ, List.getElem_cons_zero, Act.put, List.setIfInBounds_toArray, List.set_cons_succ, List.set_cons_zero, Nat.reduceAdd]
  refine wpAnyH_take (i := 5) (v := .int .i64 d.cl) rfl (by kernel_rfl) (by kernel_rfl) (by kernel_rfl) (fun _ _ _ h => h) (Or.inl ⟨by rfl, fun w' hS' => ?_⟩) s0 ?_
  · obtain ⟨p1, p2⟩ := hS'
    go_simp
  simp only [List.getElem_toArray, List.getElem_cons_succ, List.getElem_cons_zero, Act.put, List.setIfInBounds_toArray, List.set_cons_succ, List.set_cons_zero, Nat.reduceAdd]
  refine wpAnyH_take (i := 9) (v := .pointer (some ⟨w.heap.size, 2, none⟩)) rfl (by kernel_rfl) (by kernel_rfl) (by kernel_rfl) (fun _ _ _ h => h) (Or.inl ⟨by rfl, fun w' hS' => by rfl⟩) s0 ?_
  simp only [List.getElem_toArray, List.getElem_cons_succ, List.getElem_cons_zero, Act.put, List.setIfInBounds_toArray, List.set_cons_succ, List.set_cons_zero, Nat.reduceAdd]
  refine wpAnyH_take (i := 10) (v := .int .i64 d.ino) rfl (by kernel_rfl) (by kernel_rfl) (by kernel_rfl) (fun _ _ _ h => h) (Or.inl ⟨by rfl, fun w' hS' => ?_⟩) s0 ?_
  · obtain ⟨p1, p2⟩ := hS'
    go_simp
  simp only [List.getElem_toArray, List.getElem_cons_succ, List.getElem_cons_zero, Act.put, List.setIfInBounds_toArray, List.set_cons_succ, List.set_cons_zero, Nat.reduceAdd]
  refine Y0.one_callw (i := 2) (by kernel_rfl) rfl (by rfl) (.tmp 8) _ rfl (.int .i64 d.cl) (by rfl) (enters_of Tryd.func10 (by kernel_rfl) rfl) ((H1.out _ e0).mono ?_)
  rintro e w1 ⟨rfl, e1⟩
  have s1 : w1.cell? ⟨w.heap.size, 1, none⟩ = some (.int .i64 d.cl) ∧ w1.cell? ⟨w.heap.size, 2, none⟩ = some (.int .i64 d.ino) := ⟨e1.b.c1, e1.b.c2⟩
  refine ⟨_, rfl, s1, ?_⟩
  simp only [List.getElem_toArray, List.getElem_cons_succ, List.getElem_cons_zero, Act.put, List.setIfInBounds_toArray, List.set_cons_succ, List.set_cons_zero, Nat.reduceAdd]
  refine wpAnyH_take (i := 3) (v := .string ((⟨#[32]⟩ : ByteArray) ++ u)) rfl (by kernel_rfl) (by kernel_rfl) (by kernel_rfl) (fun _ _ _ h => h) (Or.inl ⟨by rfl, fun w' hS' => ?_⟩) s1 ?_
  · obtain ⟨p1, p2⟩ := hS'
    (refine cat_yield ?_; simp only [ByteArray.size_append, sz_lit, List.size_toArray, List.length_cons, List.length_nil]; omega)
  simp only [List.getElem_toArray, List.getElem_cons_succ, List.getElem_cons_zero, Act.put, List.setIfInBounds_toArray, List.set_cons_succ, List.set_cons_zero, Nat.reduceAdd]
  refine Y0.one_callw (i := 6) (by kernel_rfl) rfl (by rfl) (.tmp 12) _ rfl (.int .i64 d.cl) (by rfl) (enters_of Tryd.func10 (by kernel_rfl) rfl) ((H1.out _ e1).mono ?_)
  rintro e w2 ⟨rfl, e2⟩
  have s2 : w2.cell? ⟨w.heap.size, 1, none⟩ = some (.int .i64 d.cl) ∧ w2.cell? ⟨w.heap.size, 2, none⟩ = some (.int .i64 d.ino) := ⟨e2.b.c1, e2.b.c2⟩
  refine ⟨_, rfl, s2, ?_⟩
  simp only [List.getElem_toArray, List.getElem_cons_succ, List.getElem_cons_zero, Act.put, List.setIfInBounds_toArray, List.set_cons_succ, List.set_cons_zero, Nat.reduceAdd]
  refine wpAnyH_take (i := 7) (v := .string ((⟨#[32]⟩ : ByteArray) ++ u)) rfl (by kernel_rfl) (by kernel_rfl) (by kernel_rfl) (fun _ _ _ h => h) (Or.inl ⟨by rfl, fun w' hS' => ?_⟩) s2 ?_
  · obtain ⟨p1, p2⟩ := hS'
    (refine cat_yield ?_; simp only [ByteArray.size_append, sz_lit, List.size_toArray, List.length_cons, List.length_nil]; omega)
  simp only [List.getElem_toArray, List.getElem_cons_succ, List.getElem_cons_zero, Act.put, List.setIfInBounds_toArray, List.set_cons_succ, List.set_cons_zero, Nat.reduceAdd]
  refine wpAnyH_take (i := 8) (v := .string (((⟨#[32]⟩ : ByteArray) ++ u) ++ (⟨#[32]⟩ : ByteArray))) rfl (by kernel_rfl) (by kernel_rfl) (by kernel_rfl) (fun _ _ _ h => h) (Or.inl ⟨by rfl, fun w' hS' => ?_⟩) s2 ?_
  · obtain ⟨p1, p2⟩ := hS'
    (refine cat_yield ?_; simp only [ByteArray.size_append, sz_lit, List.size_toArray, List.length_cons, List.length_nil]; omega)
  simp only [List.getElem_toArray, List.getElem_cons_succ, List.getElem_cons_zero, Act.put, List.setIfInBounds_toArray, List.set_cons_succ, List.set_cons_zero, Nat.reduceAdd]
  refine Y0.one_callw (i := 11) (by kernel_rfl) rfl (by rfl) (.tmp 17) _ rfl (.int .i64 d.ino) (by rfl) (enters_of Tryd.func10 (by kernel_rfl) rfl) ((H2.out _ e2).mono ?_)
  rintro e w3 ⟨rfl, e3⟩
  have s3 : w3.cell? ⟨w.heap.size, 1, none⟩ = some (.int .i64 d.cl) ∧ w3.cell? ⟨w.heap.size, 2, none⟩ = some (.int .i64 d.ino) := ⟨e3.b.c1, e3.b.c2⟩
  refine ⟨_, rfl, s3, ?_⟩
  simp only [List.getElem_toArray, List.getElem_cons_succ, List.getElem_cons_zero, Act.put, List.setIfInBounds_toArray, List.set_cons_succ, List.set_cons_zero, Nat.reduceAdd]
  refine wpAnyH_take (i := 12) (v := .string ((((⟨#[32]⟩ : ByteArray) ++ u) ++ (⟨#[32]⟩ : ByteArray)) ++ v)) rfl (by kernel_rfl) (by kernel_rfl) (by kernel_rfl) (fun _ _ _ h => h) (Or.inl ⟨by rfl, fun w' hS' => ?_⟩) s3 ?_
  · obtain ⟨p1, p2⟩ := hS'
    (refine cat_yield ?_; simp only [ByteArray.size_append, sz_lit, List.size_toArray, List.length_cons, List.length_nil]; omega)
  simp only [List.getElem_toArray, List.getElem_cons_succ, List.getElem_cons_zero, Act.put, List.setIfInBounds_toArray, List.set_cons_succ, List.set_cons_zero, Nat.reduceAdd]
  refine wpAnyH_take (i := 13) (v := .string ((⟨#[32]⟩ : ByteArray) ++ u)) rfl (by kernel_rfl) (by kernel_rfl) (by kernel_rfl) (fun _ _ _ h => h) (Or.inl ⟨by rfl, fun w' hS' => by rfl⟩) s3 ?_
  simp only [List.getElem_toArray, List.getElem_cons_succ, List.getElem_cons_zero, Act.put, List.setIfInBounds_toArray, List.set_cons_succ, List.set_cons_zero, Nat.reduceAdd]
  refine wpAnyH_take (i := 14) (v := .string ((((⟨#[32]⟩ : ByteArray) ++ u) ++ (⟨#[32]⟩ : ByteArray)) ++ v)) rfl (by kernel_rfl) (by kernel_rfl) (by kernel_rfl) (fun _ _ _ h => h) (Or.inl ⟨by rfl, fun w' hS' => by rfl⟩) s3 ?_
  simp only [List.getElem_toArray, List.getElem_cons_succ, List.getElem_cons_zero, Act.put, List.setIfInBounds_toArray, List.set_cons_succ, List.set_cons_zero, Nat.reduceAdd]
  refine wpAnyH_done (by kernel_rfl) ?_ _
  have c0 := e3.b.c0
  have c5 := e3.b.c5
  rw [HKd.out] at c0
  clear s0 s1 s2 s3 e0 e1 e2
  go_wp2
  go_loopw [5, 6] (fun t i w' => ∃ j : Nat, j ≤ d.kp.length ∧ i = .int .i64 j ∧ t = .string (glue (⟨#[112, 111, 119, 101, 114]⟩ : ByteArray) ((d.kp.take j).map dt)) ∧ St w d a c w') (fun _ i _ => d.kp.length - (intOf i).toNat)
  case atStart => exact ⟨0, Nat.zero_le _, rfl, by rw [HG0.out], e3⟩
  case round =>
    obtain ⟨j, hj, rfl, rfl, hst⟩ := hrel
    clear c0 c5 e3
    have c5 := hst.b.c5
    by_cases hlt : j < d.kp.length
    · obtain ⟨b, off, rfl, hlt0, hc⟩ := (HR.out _ hst.bel).get hlt
      have y := hc j hlt
      have hd := HD.out j wr hlt hst
      have HU' := HU.out j hlt
      have q1 := HZ.out j
      have q2 := HY.out j hlt
      have e1 : (0 : Int) ≤ (j : Int) := by omega
      have e2 : (j : Int) < (d.kp.length : Int) := by omega
      obtain ⟨z, ez⟩ : ∃ z, d.kp.getD j 0 = z := ⟨_, rfl⟩
      rw [ez] at y hd HU' q2
      obtain ⟨G, hG⟩ : ∃ G, glue (⟨#[112, 111, 119, 101, 114]⟩ : ByteArray) ((d.kp.take j).map dt) = G := ⟨_, rfl⟩
      rw [hG] at q1 HU' ⊢
      have HU2 : Hid (glue (⟨#[112, 111, 119, 101, 114]⟩ : ByteArray) ((d.kp.take (j + 1)).map dt) = G ++ (⟨#[32]⟩ : ByteArray) ++ dt z) := HU'
      obtain ⟨Z, hZ⟩ : ∃ Z, dt z = Z := ⟨_, rfl⟩
      rw [hZ] at hd HU2 q2
      have k1 : (G ++ (⟨#[32]⟩ : ByteArray)).size ≤ 100000001 := cat_le q1 (Nat.le_refl _)
      have r1 : ∀ W, (binOp .add 9 (.string G) (.string (⟨#[32]⟩ : ByteArray))).run Tryd.prog W = .ok (.string (G ++ (⟨#[32]⟩ : ByteArray))) W := run_cat (by have : (⟨#[32]⟩ : ByteArray).size = 1 := rfl; omega)
      have r2 : ∀ W, (binOp .add 9 (.string (G ++ (⟨#[32]⟩ : ByteArray))) (.string Z)).run Tryd.prog W = .ok (.string (G ++ (⟨#[32]⟩ : ByteArray) ++ Z)) W := run_cat (by omega)
      clear HR HU HA HZ HG0 HD HY hc ez HU' hG hZ
      go_wp2_with (go_at_call 10; refine hd.mono ?_; rintro e w1 ⟨rfl, st1⟩)
      go_roundw
      case rel => exact ⟨j + 1, by omega, by go_num, by rw [HU2.out], st1⟩
      case measure => simp [intOf]; omega
    · obtain rfl : j = d.kp.length := by omega
      have HA' := HA
      clear HR HU HZ HG0 HD HY
      rw [HA.out]
      go_wp2
      go_ret
      exact ⟨rfl, hst.bel⟩

set_option maxHeartbeats 4000000 in
theorem textN (hk : ¬ (0 ≤ d.kd ∧ d.kd ≤ 9)) (hF : Fit d) :
    Calls Tryd.prog 5 #[val d a c] w fun e w' => e = .returned (.string ⟨#[]⟩) ∧ Below w.heap.size w w' := by
  have e0 := (st_new w d a c).below ((Below.refl _ _).drew)
  have g1 := EX.dt_size d.cl hF.f1
  have g2 := EX.dt_size d.ino hF.f2
  have H1 : Hid (∀ W, St w d a c W → Calls Tryd.prog 10 #[.int .i64 d.cl] W fun e w' => e = .returned (.string (dt d.cl)) ∧ St w d a c w') := fun W h => dec d.cl hF.f1 h
  have H2 : Hid (∀ W, St w d a c W → Calls Tryd.prog 10 #[.int .i64 d.ino] W fun e w' => e = .returned (.string (dt d.ino)) ∧ St w d a c w') := fun W h => dec d.ino hF.f2 h
  obtain ⟨u, hu⟩ : ∃ u, dt d.cl = u := ⟨_, rfl⟩
  obtain ⟨v, hv⟩ : ∃ v, dt d.ino = v := ⟨_, rfl⟩
  rw [hu] at g1 H1
  rw [hv] at g2 H2
  obtain ⟨W0, hW0⟩ : ∃ W0, w.alloc (eo d a c 27) = W0 := ⟨_, rfl⟩
  rw [hW0] at e0
  have s0 : W0.drew.cell? ⟨w.heap.size, 1, none⟩ = some (.int .i64 d.cl) ∧ W0.drew.cell? ⟨w.heap.size, 2, none⟩ = some (.int .i64 d.ino) := ⟨e0.b.c1, e0.b.c2⟩
  have n0 : ¬ d.kd = 0 := by omega
  have n1 : ¬ d.kd = 1 := by omega
  have n2 : ¬ d.kd = 2 := by omega
  have n3 : ¬ d.kd = 3 := by omega
  have n4 : ¬ d.kd = 4 := by omega
  have n5 : ¬ d.kd = 5 := by omega
  have n6 : ¬ d.kd = 6 := by omega
  have n7 : ¬ d.kd = 7 := by omega
  have n8 : ¬ d.kd = 8 := by omega
  have n9 : ¬ d.kd = 9 := by omega
  clear hF hk hu hv
  go_enter Tryd.func5, Tryd.ntmps5
  go_wp2
  try rw [hW0]
  refine wp_region_held (S := fun W => W.cell? ⟨w.heap.size, 1, none⟩ = some (.int .i64 d.cl) ∧ W.cell? ⟨w.heap.size, 2, none⟩ = some (.int .i64 d.ino)) (by kernel_rfl) ?_
  refine wpAnyH_take (i := 0) (v := .pointer (some ⟨w.heap.size, 1, none⟩)) rfl (by kernel_rfl) (by kernel_rfl) (by kernel_rfl) (fun _ _ _ h => h) (Or.inl ⟨by rfl, fun w' hS' => by rfl⟩) s0 ?_
  simp only [List.getElem_toArray, List.getElem_cons_succ, List.getElem_cons_zero, Act.put, List.setIfInBounds_toArray, List.set_cons_succ, List.set_cons_zero, Nat.reduceAdd]
  refine wpAnyH_take (i := 1) (v := .int .i64 d.cl) rfl (by kernel_rfl) (by kernel_rfl) (by kernel_rfl) (fun _ _ _ h => h) (Or.inl ⟨by rfl, fun w' hS' => ?_⟩) s0 ?_
  · obtain ⟨p1, p2⟩ := hS'
    go_simp
  simp only [List.getElem_toArray, List.getElem_cons_succ, List.getElem_cons_zero, Act.put, List.setIfInBounds_toArray, List.set_cons_succ, List.set_cons_zero, Nat.reduceAdd]
  refine wpAnyH_take (i := 4) (v := .pointer (some ⟨w.heap.size, 1, none⟩)) rfl (by kernel_rfl) (by kernel_rfl) (by kernel_rfl) (fun _ _ _ h => h) (Or.inl ⟨by rfl, fun w' hS' => by rfl⟩) s0 ?_
  simp only [List.getElem_toArray, List.getElem_cons_succ, List.getElem_cons_zero, Act.put, List.setIfInBounds_toArray, List.set_cons_succ, List.set_cons_zero, Nat.reduceAdd]
  refine wpAnyH_take (i := 5) (v := .int .i64 d.cl) rfl (by kernel_rfl) (by kernel_rfl) (by kernel_rfl) (fun _ _ _ h => h) (Or.inl ⟨by rfl, fun w' hS' => ?_⟩) s0 ?_
  · obtain ⟨p1, p2⟩ := hS'
    go_simp
  simp only [List.getElem_toArray, List.getElem_cons_succ, List.getElem_cons_zero, Act.put, List.setIfInBounds_toArray, List.set_cons_succ, List.set_cons_zero, Nat.reduceAdd]
  refine wpAnyH_take (i := 9) (v := .pointer (some ⟨w.heap.size, 2, none⟩)) rfl (by kernel_rfl) (by kernel_rfl) (by kernel_rfl) (fun _ _ _ h => h) (Or.inl ⟨by rfl, fun w' hS' => by rfl⟩) s0 ?_
  simp only [List.getElem_toArray, List.getElem_cons_succ, List.getElem_cons_zero, Act.put, List.setIfInBounds_toArray, List.set_cons_succ, List.set_cons_zero, Nat.reduceAdd]
  refine wpAnyH_take (i := 10) (v := .int .i64 d.ino) rfl (by kernel_rfl) (by kernel_rfl) (by kernel_rfl) (fun _ _ _ h => h) (Or.inl ⟨by rfl, fun w' hS' => ?_⟩) s0 ?_
  · obtain ⟨p1, p2⟩ := hS'
    go_simp
  simp only [List.getElem_toArray, List.getElem_cons_succ, List.getElem_cons_zero, Act.put, List.setIfInBounds_toArray, List.set_cons_succ, List.set_cons_zero, Nat.reduceAdd]
  refine Y0.one_callw (i := 2) (by kernel_rfl) rfl (by rfl) (.tmp 8) _ rfl (.int .i64 d.cl) (by rfl) (enters_of Tryd.func10 (by kernel_rfl) rfl) ((H1.out _ e0).mono ?_)
  rintro e w1 ⟨rfl, e1⟩
  have s1 : w1.cell? ⟨w.heap.size, 1, none⟩ = some (.int .i64 d.cl) ∧ w1.cell? ⟨w.heap.size, 2, none⟩ = some (.int .i64 d.ino) := ⟨e1.b.c1, e1.b.c2⟩
  refine ⟨_, rfl, s1, ?_⟩
  simp only [List.getElem_toArray, List.getElem_cons_succ, List.getElem_cons_zero, Act.put, List.setIfInBounds_toArray, List.set_cons_succ, List.set_cons_zero, Nat.reduceAdd]
  refine wpAnyH_take (i := 3) (v := .string ((⟨#[32]⟩ : ByteArray) ++ u)) rfl (by kernel_rfl) (by kernel_rfl) (by kernel_rfl) (fun _ _ _ h => h) (Or.inl ⟨by rfl, fun w' hS' => ?_⟩) s1 ?_
  · obtain ⟨p1, p2⟩ := hS'
    (refine cat_yield ?_; simp only [ByteArray.size_append, sz_lit, List.size_toArray, List.length_cons, List.length_nil]; omega)
  simp only [List.getElem_toArray, List.getElem_cons_succ, List.getElem_cons_zero, Act.put, List.setIfInBounds_toArray, List.set_cons_succ, List.set_cons_zero, Nat.reduceAdd]
  refine Y0.one_callw (i := 6) (by kernel_rfl) rfl (by rfl) (.tmp 12) _ rfl (.int .i64 d.cl) (by rfl) (enters_of Tryd.func10 (by kernel_rfl) rfl) ((H1.out _ e1).mono ?_)
  rintro e w2 ⟨rfl, e2⟩
  have s2 : w2.cell? ⟨w.heap.size, 1, none⟩ = some (.int .i64 d.cl) ∧ w2.cell? ⟨w.heap.size, 2, none⟩ = some (.int .i64 d.ino) := ⟨e2.b.c1, e2.b.c2⟩
  refine ⟨_, rfl, s2, ?_⟩
  simp only [List.getElem_toArray, List.getElem_cons_succ, List.getElem_cons_zero, Act.put, List.setIfInBounds_toArray, List.set_cons_succ, List.set_cons_zero, Nat.reduceAdd]
  refine wpAnyH_take (i := 7) (v := .string ((⟨#[32]⟩ : ByteArray) ++ u)) rfl (by kernel_rfl) (by kernel_rfl) (by kernel_rfl) (fun _ _ _ h => h) (Or.inl ⟨by rfl, fun w' hS' => ?_⟩) s2 ?_
  · obtain ⟨p1, p2⟩ := hS'
    (refine cat_yield ?_; simp only [ByteArray.size_append, sz_lit, List.size_toArray, List.length_cons, List.length_nil]; omega)
  simp only [List.getElem_toArray, List.getElem_cons_succ, List.getElem_cons_zero, Act.put, List.setIfInBounds_toArray, List.set_cons_succ, List.set_cons_zero, Nat.reduceAdd]
  refine wpAnyH_take (i := 8) (v := .string (((⟨#[32]⟩ : ByteArray) ++ u) ++ (⟨#[32]⟩ : ByteArray))) rfl (by kernel_rfl) (by kernel_rfl) (by kernel_rfl) (fun _ _ _ h => h) (Or.inl ⟨by rfl, fun w' hS' => ?_⟩) s2 ?_
  · obtain ⟨p1, p2⟩ := hS'
    (refine cat_yield ?_; simp only [ByteArray.size_append, sz_lit, List.size_toArray, List.length_cons, List.length_nil]; omega)
  simp only [List.getElem_toArray, List.getElem_cons_succ, List.getElem_cons_zero, Act.put, List.setIfInBounds_toArray, List.set_cons_succ, List.set_cons_zero, Nat.reduceAdd]
  refine Y0.one_callw (i := 11) (by kernel_rfl) rfl (by rfl) (.tmp 17) _ rfl (.int .i64 d.ino) (by rfl) (enters_of Tryd.func10 (by kernel_rfl) rfl) ((H2.out _ e2).mono ?_)
  rintro e w3 ⟨rfl, e3⟩
  have s3 : w3.cell? ⟨w.heap.size, 1, none⟩ = some (.int .i64 d.cl) ∧ w3.cell? ⟨w.heap.size, 2, none⟩ = some (.int .i64 d.ino) := ⟨e3.b.c1, e3.b.c2⟩
  refine ⟨_, rfl, s3, ?_⟩
  simp only [List.getElem_toArray, List.getElem_cons_succ, List.getElem_cons_zero, Act.put, List.setIfInBounds_toArray, List.set_cons_succ, List.set_cons_zero, Nat.reduceAdd]
  refine wpAnyH_take (i := 12) (v := .string ((((⟨#[32]⟩ : ByteArray) ++ u) ++ (⟨#[32]⟩ : ByteArray)) ++ v)) rfl (by kernel_rfl) (by kernel_rfl) (by kernel_rfl) (fun _ _ _ h => h) (Or.inl ⟨by rfl, fun w' hS' => ?_⟩) s3 ?_
  · obtain ⟨p1, p2⟩ := hS'
    (refine cat_yield ?_; simp only [ByteArray.size_append, sz_lit, List.size_toArray, List.length_cons, List.length_nil]; omega)
  simp only [List.getElem_toArray, List.getElem_cons_succ, List.getElem_cons_zero, Act.put, List.setIfInBounds_toArray, List.set_cons_succ, List.set_cons_zero, Nat.reduceAdd]
  refine wpAnyH_take (i := 13) (v := .string ((⟨#[32]⟩ : ByteArray) ++ u)) rfl (by kernel_rfl) (by kernel_rfl) (by kernel_rfl) (fun _ _ _ h => h) (Or.inl ⟨by rfl, fun w' hS' => by rfl⟩) s3 ?_
  simp only [List.getElem_toArray, List.getElem_cons_succ, List.getElem_cons_zero, Act.put, List.setIfInBounds_toArray, List.set_cons_succ, List.set_cons_zero, Nat.reduceAdd]
  refine wpAnyH_take (i := 14) (v := .string ((((⟨#[32]⟩ : ByteArray) ++ u) ++ (⟨#[32]⟩ : ByteArray)) ++ v)) rfl (by kernel_rfl) (by kernel_rfl) (by kernel_rfl) (fun _ _ _ h => h) (Or.inl ⟨by rfl, fun w' hS' => by rfl⟩) s3 ?_
  simp only [List.getElem_toArray, List.getElem_cons_succ, List.getElem_cons_zero, Act.put, List.setIfInBounds_toArray, List.set_cons_succ, List.set_cons_zero, Nat.reduceAdd]
  refine wpAnyH_done (by kernel_rfl) ?_ _
  have c0 := e3.b.c0
  clear s0 s1 s2 s3 e0 e1 e2
  go_wp2
  go_ret
  exact ⟨rfl, e3.bel⟩
end Go.Proofs.YtnfcpcejfajcfaaDoor.EZ

/- The contract of impl.EventText, as the given laws call it. -/
namespace Go.Proofs.YtnfcpcejfajcfaaDoor.EU
open Go.ChangeShapes Go.WideShapes Go.ChangeAt Go.RowKit
set_option linter.unusedVariables false
set_option linter.unusedSimpArgs false
set_option maxRecDepth 10000

open EV (Ev val vals Fit hx dt glue)
open EW (EB eb_new eo)
open EX (SRow SBuf Tabs sbuf_one append_strs)

section
variable {Q : Exit → Act → World → Prop} {ops : Array Oper} {K : Act → World → Prop}
theorem op_call1 {P : Program} {A : Act} {w : World} {i f : Nat} {o : Oper} (ho : ops[i]? = some o) (hw : Region.wanted o (yielded ops A.tmps) = true)
    (x : Operand) (ts : Array TypeId) (hop : o.op = .call { callee := .value (.func f), args := #[x], argTypes := ts }) (v : Value) (hx0 : A.eval x = v) (eg : ∀ args w, (callFunc f args).run P w = .ok (.enter f args) w)
    (hc : Calls P f #[v] w fun e w' => ∃ u, e = .returned u ∧ K (A.put o.dst u) w') : wpOp P ops Q i K A w := by
  unfold wpOp
  rw [ho]
  refine Y0.of_if hw (.inl ?_)
  have he : (execOp A.eval o).run P w = .ok (.enter f #[v]) w := by
    subst hx0
    simp [execOp, hop, resolve, go_sem, invoke, eg]
  unfold Oper.wp
  rw [he]
  refine Calls.mono hc ?_
  rintro e w' ⟨u, rfl, h⟩
  exact h
theorem op_plain {P : Program} {A : Act} {w w' : World} {u : Value} {i : Nat} {o : Oper} (ho : ops[i]? = some o) (hw : Region.wanted o (yielded ops A.tmps) = true)
    (he : (execOp A.eval o).run P w = .ok (.value u) w') (h : K (A.put o.dst u) w') : wpOp P ops Q i K A w := by
  unfold wpOp
  rw [ho]
  refine Y0.of_if hw (.inl ?_)
  unfold Oper.wp
  rw [he]
  exact h

/-- An append of texts that alone may come up. -/
theorem one_append {S : World → Prop} {A : Act} {w : World} {i : Nat} {o : Oper} {listed : Array Bool} {fuel : Nat} {md : Region.Mode} {base n cap : Nat} {a : Option Addr} {ss : List ByteArray} (hr : Region.ready md ops listed = [i]) (ho : ops[i]? = some o) (hgd : o.guard = none) (sl x : Operand)
    (hop : o.op = .call { callee := .builtin .append, args := #[sl, x], argTypes := #[36, 36] })
    (hbuf : SBuf base w a n cap ss) (ax : Option Addr) (cx : Nat) (xs : List ByteArray) (hs : A.eval sl = .slice a n cap) (hx : A.eval x = .slice ax xs.length cx) (hR : SRow w ax xs) (hlen : n + xs.length ≤ 4194304) (hb : base ≤ w.heap.size)
    (h : ∀ a' cap' w', SBuf base w' a' (n + xs.length) cap' (ss ++ xs) → Below base w w' → S w' ∧ wpAnyH Tryd.prog md ops Q S fuel (listed.setIfInBounds i true) (A.put o.dst (.slice a' (n + xs.length) cap')) w') : wpAnyH Tryd.prog md ops Q S (fuel + 1) listed A w := by
  refine wpAnyH_all hr (by simp) ?_
  intro j hj
  obtain rfl : j = i := by simpa using hj
  have hw : Region.wanted o (yielded ops A.tmps) = true := by simp [Region.wanted, hgd]
  unfold wpOp
  rw [ho]
  refine Y0.of_if hw (.inl ?_)
  obtain ⟨i0, hi, hz0, hz1, hz2⟩ := info_parts EX.infoS
  by_cases h0 : xs = []
  · subst h0
    refine Lib.wp_append_run _ sl x 36 36 hop _ _ hs hx _ _ (EX.run_append_none w 36 _ 9 i0 Tryd.underlying36 hi a n cap hbuf.fits ax cx) ?_
    exact h a cap w (by rw [List.append_nil]; exact hbuf) (Below.refl _ _)
  · rcases hR with hR | ⟨b, off, rfl, hb2, hc⟩
    · exact absurd hR h0
    · have hm : 0 < xs.length := List.length_pos_iff.2 h0
      refine wp_append_lies _ sl x 36 hop base 9 i0 (.string ⟨#[]⟩) 1 16 Tryd.underlying36 hi hz0 hz1 hz2 rfl (by omega) _ n _ hs hbuf.2 ⟨b, off, none⟩ xs.length cx (W0.strs xs) hx (by simp) ?_ (EX.strs_one xs) hm (by unfold maxLen; omega) (by omega) hb _ rfl ?_
      · intro j u hj
        have hj' : j < xs.length := by
          have := (List.getElem?_eq_some_iff.1 hj).1
          simpa using this
        rw [B0.add_off, hc j hj', ← hj]
        simp [hj']
      · intro g' cap' w' ho' hg' _ _
        refine h (some ⟨g', 0, none⟩) cap' w' ⟨by rw [hbuf.1]; simp, ?_⟩ ?_
        · rw [show W0.strs (ss ++ xs) = W0.strs ss ++ W0.strs xs by simp]
          exact ho'
        · exact W0.below_grown (Below.refl _ _) hg' (fun g hg => (hbuf.2.lt g hg).1) hb
end

theorem join {base n cap : Nat} {a : Option Addr} {w : World} {wd : ByteArray} {P : List ByteArray} (h : SBuf base w a n cap (wd :: P)) (hP : P.length ≤ 1048576) (hl : (glue wd P).size ≤ 140737488355328) :
    Calls Tryd.prog 13 #[.slice a n cap, .string ⟨#[32]⟩] w fun e w' => e = .returned (.string (glue wd P)) ∧ Below w.heap.size w w' := by
  have hf := h.fits
  have hrow := h.row
  obtain ⟨rfl, _⟩ := h
  rcases hrow with h0 | ⟨b, off, rfl, hb, hc⟩
  · cases h0
  · refine Tryd.strings_Join b off cap (wd :: P) ⟨#[32]⟩ w (fun j x hj => ?_) hb (by simp; omega) hf ?_
    · obtain ⟨hl', he⟩ := List.getElem?_eq_some_iff.1 hj
      rw [hc j hl', he]
    · have : (Lib.join ((wd :: P).map (·.data.toList)) [32]).toArray.size ≤ 140737488355328 := hl
      simpa using this

/-- What is kept: the event's block, the tables, all that was. -/
structure St (w : World) (d : Ev) (a : Option Addr) (c : Nat) (W : World) : Prop where
  b : EB w.heap.size d a c W
  t : Tabs W
  bel : Below w.heap.size w W
variable {w W W' : World} {d : Ev} {a : Option Addr} {c : Nat}
theorem St.below (h : St w d a c W) (hb : Below W.heap.size W W') : St w d a c W' := ⟨h.b.below hb, h.t.below hb, h.bel.trans (hb.mono h.bel.size)⟩
theorem st_new (w : World) (d : Ev) (a : Option Addr) (c : Nat) (ht : Tabs w) : St w d a c (w.alloc (eo d a c 27)) := ⟨eb_new d a c w 27, ht.below (K0.below_new _ _), K0.below_new _ _⟩

theorem gWords : Tryd.prog.globalNamed "loop.example/g00278/impl.eventWords" = some 0 := by kernel_rfl
theorem keepS {base k : Nat} {wd : ByteArray} (s : W.cell? ⟨w.heap.size, 0, none⟩ = some (.int .i64 (k : Int)) ∧ W.cell? ⟨w.heap.size, 1, none⟩ = some (.int .i64 d.cl) ∧ W.cell? ⟨w.heap.size, 2, none⟩ = some (.int .i64 d.ino) ∧ W.cell? ⟨w.heap.size, 3, none⟩ = some (.int .i64 d.at_) ∧ W.cell? ⟨w.heap.size, 4, none⟩ = some (.string d.tx) ∧ W.cell? ⟨w.heap.size, 5, none⟩ = some (.slice a d.kp.length c) ∧ W.cell? ⟨0, k, none⟩ = some (.string wd)) (hb : Below base W W') (hB : w.heap.size < base) (hG : 0 < base) : W'.cell? ⟨w.heap.size, 0, none⟩ = some (.int .i64 (k : Int)) ∧ W'.cell? ⟨w.heap.size, 1, none⟩ = some (.int .i64 d.cl) ∧ W'.cell? ⟨w.heap.size, 2, none⟩ = some (.int .i64 d.ino) ∧ W'.cell? ⟨w.heap.size, 3, none⟩ = some (.int .i64 d.at_) ∧ W'.cell? ⟨w.heap.size, 4, none⟩ = some (.string d.tx) ∧ W'.cell? ⟨w.heap.size, 5, none⟩ = some (.slice a d.kp.length c) ∧ W'.cell? ⟨0, k, none⟩ = some (.string wd) :=
  ⟨(hb.cell (p := ⟨w.heap.size, 0, none⟩) hB).trans s.1, (hb.cell (p := ⟨w.heap.size, 1, none⟩) hB).trans s.2.1, (hb.cell (p := ⟨w.heap.size, 2, none⟩) hB).trans s.2.2.1, (hb.cell (p := ⟨w.heap.size, 3, none⟩) hB).trans s.2.2.2.1, (hb.cell (p := ⟨w.heap.size, 4, none⟩) hB).trans s.2.2.2.2.1, (hb.cell (p := ⟨w.heap.size, 5, none⟩) hB).trans s.2.2.2.2.2.1, (hb.cell (p := ⟨0, k, none⟩) hG).trans s.2.2.2.2.2.2⟩
theorem lt_of_cell {b j : Nat} {v : Value} (h : W.cell? ⟨b, j, none⟩ = some v) : b < W.heap.size := by
  rcases Nat.lt_or_ge b W.heap.size with h1 | h1
  · exact h1
  · unfold World.cell? at h
    rw [Array.getElem?_eq_none h1] at h
    simp at h

set_option maxHeartbeats 8000000 in
theorem impl_text (k : Nat) (h10 : k < 10) (hk : d.kd = (k : Int)) (P : List ByteArray) (wd : ByteArray) (hwd : EV.words.getD k ⟨#[]⟩ = wd) (hT : Tabs w) (hP : P.length ≤ 1048576) (hl : (glue wd P).size ≤ 140737488355328)
    (HP : ∀ W, St w d a c W → Calls Tryd.prog 14 #[val d a c] W (EY.Ans P W)) :
    Calls Tryd.prog 7 #[val d a c] w fun e w' => e = .returned (.string (glue wd P)) ∧ Below w.heap.size w w' := by
  have st0 := st_new w d a c hT
  have d0 := st0.below ((Below.refl _ _).drew)
  obtain ⟨W0, hW0⟩ : ∃ W0, w.alloc (eo d a c 27) = W0 := ⟨_, rfl⟩
  have HS : Hid (∀ W, St w d a c W → W.cell? ⟨w.heap.size, 0, none⟩ = some (.int .i64 (k : Int)) ∧ W.cell? ⟨w.heap.size, 1, none⟩ = some (.int .i64 d.cl) ∧ W.cell? ⟨w.heap.size, 2, none⟩ = some (.int .i64 d.ino) ∧ W.cell? ⟨w.heap.size, 3, none⟩ = some (.int .i64 d.at_) ∧ W.cell? ⟨w.heap.size, 4, none⟩ = some (.string d.tx) ∧ W.cell? ⟨w.heap.size, 5, none⟩ = some (.slice a d.kp.length c) ∧ W.cell? ⟨0, k, none⟩ = some (.string wd)) := fun W h => by
    have hb := h.b
    have h0 := hb.c0
    rw [hk] at h0
    have hw := h.t.e.cell gWords k (by simp [EV.words]; omega)
    rw [hwd] at hw
    exact ⟨h0, hb.c1, hb.c2, hb.c3, hb.c4, hb.c5, hw⟩
  have HE : Hid (val d a c = .agg #[.int .i64 (k : Int), .int .i64 d.cl, .int .i64 d.ino, .int .i64 d.at_, .string d.tx, .slice a d.kp.length c]) := by show val d a c = _; rw [← hk]
  have HPp : Hid (∀ W, St w d a c W → Calls Tryd.prog 14 #[.agg #[.int .i64 (k : Int), .int .i64 d.cl, .int .i64 d.ino, .int .i64 d.at_, .string d.tx, .slice a d.kp.length c]] W (EY.Ans P W)) := fun W h => by rw [← HE.out]; exact HP W h
  rw [HE.out]
  have e1 : (0 : Int) ≤ (k : Int) := by omega
  have e2 : (k : Int) < 10 := by omega
  have e3 : ¬ (k : Int) < 0 := by omega
  have e4 : ¬ (10 : Int) ≤ (k : Int) := by omega
  have z0 := (HS.out _ st0).1
  rw [show eo d a c 27 = .cells #[.int .i64 (k : Int), .int .i64 d.cl, .int .i64 d.ino, .int .i64 d.at_, .string d.tx, .slice a d.kp.length c] 27 by rw [eo, hk]] at hW0 z0 st0 d0
  rw [hW0] at st0 d0 z0
  have s0 := HS.out _ d0
  have hG : 0 < W0.drew.heap.size := lt_of_cell s0.2.2.2.2.2.2
  have hBx : w.heap.size < W0.drew.heap.size := d0.b.b.lt
  clear hwd hT HP hk HE
  go_enter Tryd.func7, Tryd.ntmps7
  go_wp2
  try rw [hW0]
  refine wp_region_held (S := fun W => W.cell? ⟨w.heap.size, 0, none⟩ = some (.int .i64 (k : Int)) ∧ W.cell? ⟨w.heap.size, 1, none⟩ = some (.int .i64 d.cl) ∧ W.cell? ⟨w.heap.size, 2, none⟩ = some (.int .i64 d.ino) ∧ W.cell? ⟨w.heap.size, 3, none⟩ = some (.int .i64 d.at_) ∧ W.cell? ⟨w.heap.size, 4, none⟩ = some (.string d.tx) ∧ W.cell? ⟨w.heap.size, 5, none⟩ = some (.slice a d.kp.length c) ∧ W.cell? ⟨0, k, none⟩ = some (.string wd)) (by kernel_rfl) ?_
  refine wpAnyH_take (i := 0) (v := .pointer (some ⟨w.heap.size, 0, none⟩)) rfl (by kernel_rfl) (by kernel_rfl) (by kernel_rfl) (fun _ _ _ h => h) (Or.inl ⟨by rfl, fun w' hS' => by rfl⟩) s0 ?_
  simp only [List.getElem_toArray, List.getElem_cons_succ, List.getElem_cons_zero, Act.put, List.setIfInBounds_toArray, List.set_cons_succ, List.set_cons_zero, Nat.reduceAdd]
  refine wpAnyH_take (i := 1) (v := .int .i64 (k : Int)) rfl (by kernel_rfl) (by kernel_rfl) (by kernel_rfl) (fun _ _ _ h => h) (Or.inl ⟨by rfl, fun w' hS' => ?_⟩) s0 ?_
  · obtain ⟨p0, p1, p2, p3, p4, p5, pw⟩ := hS'
    go_simp
  simp only [List.getElem_toArray, List.getElem_cons_succ, List.getElem_cons_zero, Act.put, List.setIfInBounds_toArray, List.set_cons_succ, List.set_cons_zero, Nat.reduceAdd]
  refine wpAnyH_take (i := 2) (v := .pointer (some ⟨0, k, none⟩)) rfl (by kernel_rfl) (by kernel_rfl) (by kernel_rfl) (fun _ _ _ h => h) (Or.inl ⟨by rfl, fun w' hS' => ?_⟩) s0 ?_
  · obtain ⟨p0, p1, p2, p3, p4, p5, pw⟩ := hS'
    go_simp
  simp only [List.getElem_toArray, List.getElem_cons_succ, List.getElem_cons_zero, Act.put, List.setIfInBounds_toArray, List.set_cons_succ, List.set_cons_zero, Nat.reduceAdd]
  refine wpAnyH_take (i := 3) (v := .string wd) rfl (by kernel_rfl) (by kernel_rfl) (by kernel_rfl) (fun _ _ _ h => h) (Or.inl ⟨by rfl, fun w' hS' => ?_⟩) s0 ?_
  · obtain ⟨p0, p1, p2, p3, p4, p5, pw⟩ := hS'
    go_simp
  simp only [List.getElem_toArray, List.getElem_cons_succ, List.getElem_cons_zero, Act.put, List.setIfInBounds_toArray, List.set_cons_succ, List.set_cons_zero, Nat.reduceAdd]
  refine wpAnyH_take (i := 5) (v := .agg #[.int .i64 (k : Int), .int .i64 d.cl, .int .i64 d.ino, .int .i64 d.at_, .string d.tx, .slice a d.kp.length c]) rfl (by kernel_rfl) (by kernel_rfl) (by kernel_rfl) (fun _ _ _ h => h) (Or.inl ⟨by rfl, fun w' hS' => ?_⟩) s0 ?_
  · obtain ⟨p0, p1, p2, p3, p4, p5, pw⟩ := hS'
    go_simp
  simp only [List.getElem_toArray, List.getElem_cons_succ, List.getElem_cons_zero, Act.put, List.setIfInBounds_toArray, List.set_cons_succ, List.set_cons_zero, Nat.reduceAdd]
  refine wpAnyH_all (rs := [4, 6]) (by kernel_rfl) (by simp) ?_
  intro i hi
  rcases (show i = 4 ∨ i = 6 by simpa using hi) with rfl | rfl
  · have stA := d0.below (K0.below_new W0.drew (.cells #[.string wd] 9))
    have sA := HS.out _ stA
    have fA := sbuf_one (base := W0.drew.heap.size) W0.drew wd (Nat.le_refl _)
    refine op_plain (u := .slice (some ⟨W0.drew.heap.size, 0, none⟩) 1 1) (w' := W0.drew.alloc (.cells #[.string wd] 9)) rfl (by rfl) (by go_simp) ⟨sA, ?_⟩
    simp only [List.getElem_toArray, List.getElem_cons_succ, List.getElem_cons_zero, Act.put, List.setIfInBounds_toArray, List.set_cons_succ, List.set_cons_zero, Nat.reduceAdd]
    refine Y0.one_callw (i := 6) (by kernel_rfl) rfl (by rfl) (.tmp 16) _ rfl (.agg #[.int .i64 (k : Int), .int .i64 d.cl, .int .i64 d.ino, .int .i64 d.at_, .string d.tx, .slice a d.kp.length c]) (by rfl) (enters_of Tryd.func14 (by kernel_rfl) rfl) ((HPp.out _ stA).mono ?_)
    rintro e w1 ⟨⟨a1, c1, rfl, r1, h1⟩, b1⟩
    have st1 := stA.below b1
    have s1 := HS.out _ st1
    have f1 := fA.below b1
    have hw1 : W0.drew.heap.size ≤ w1.heap.size := Nat.le_trans (K0.below_new W0.drew (.cells #[.string wd] 9)).size b1.size
    refine ⟨_, rfl, s1, ?_⟩
    simp only [List.getElem_toArray, List.getElem_cons_succ, List.getElem_cons_zero, Act.put, List.setIfInBounds_toArray, List.set_cons_succ, List.set_cons_zero, Nat.reduceAdd]
    refine one_append (i := 7) (by kernel_rfl) rfl rfl (.tmp 15) (.tmp 17) rfl f1 a1 c1 P (by rfl) (by rfl) r1 (by omega) hw1 ?_
    intro a3 c3 w3 f3 l3
    have s3 := keepS s1 l3 hBx hG
    refine ⟨s3, ?_⟩
    simp only [List.getElem_toArray, List.getElem_cons_succ, List.getElem_cons_zero, Act.put, List.setIfInBounds_toArray, List.set_cons_succ, List.set_cons_zero, Nat.reduceAdd]
    refine Y0.one_call2w (i := 8) (by kernel_rfl) rfl (by rfl) (.tmp 18) (.const (.string ⟨#[32]⟩)) _ rfl (.slice a3 (1 + P.length) c3) (.string ⟨#[32]⟩) (by rfl) (by rfl) (enters_of Tryd.func13 (by kernel_rfl) rfl) ((join (wd := wd) (P := P) f3 hP hl).mono ?_)
    rintro e w4 ⟨rfl, b4⟩
    have s4 := keepS s3 b4 (lt_of_cell s3.1) (lt_of_cell s3.2.2.2.2.2.2)
    refine ⟨_, rfl, s4, ?_⟩
    simp only [List.getElem_toArray, List.getElem_cons_succ, List.getElem_cons_zero, Act.put, List.setIfInBounds_toArray, List.set_cons_succ, List.set_cons_zero, Nat.reduceAdd]
    refine wpAnyH_take (i := 9) (v := .string (glue wd P)) rfl (by kernel_rfl) (by kernel_rfl) (by kernel_rfl) (fun _ _ _ h => h) (Or.inl ⟨by rfl, fun w' hS' => by rfl⟩) s4 ?_
    simp only [List.getElem_toArray, List.getElem_cons_succ, List.getElem_cons_zero, Act.put, List.setIfInBounds_toArray, List.set_cons_succ, List.set_cons_zero, Nat.reduceAdd]
    refine wpAnyH_done (by kernel_rfl) ?_ _
    go_wp2
    go_ret
    exact ⟨rfl, (st1.bel.trans (l3.mono (by omega))).trans (b4.mono (by have := st1.bel.size; have := l3.size; omega))⟩
  · refine op_call1 rfl (by rfl) (.tmp 16) _ rfl (.agg #[.int .i64 (k : Int), .int .i64 d.cl, .int .i64 d.ino, .int .i64 d.at_, .string d.tx, .slice a d.kp.length c]) (by rfl) (enters_of Tryd.func14 (by kernel_rfl) rfl) ((HPp.out _ d0).mono ?_)
    rintro e w1 ⟨⟨a1, c1, rfl, r1, h1⟩, b1⟩
    have st1 := d0.below b1
    have s1 := HS.out _ st1
    refine ⟨_, rfl, s1, ?_⟩
    simp only [List.getElem_toArray, List.getElem_cons_succ, List.getElem_cons_zero, Act.put, List.setIfInBounds_toArray, List.set_cons_succ, List.set_cons_zero, Nat.reduceAdd]
    have stB := st1.below (K0.below_new w1 (.cells #[.string wd] 9))
    have sB := HS.out _ stB
    have fB := sbuf_one (base := w1.heap.size) w1 wd (Nat.le_refl _)
    have rB := r1.below (K0.below_new w1 (.cells #[.string wd] 9))
    have hw1 := b1.size
    refine Y0.one_plain (i := 4) (u := .slice (some ⟨w1.heap.size, 0, none⟩) 1 1) (w' := w1.alloc (.cells #[.string wd] 9)) (by kernel_rfl) rfl (by rfl) (by go_simp) sB ?_
    simp only [List.getElem_toArray, List.getElem_cons_succ, List.getElem_cons_zero, Act.put, List.setIfInBounds_toArray, List.set_cons_succ, List.set_cons_zero, Nat.reduceAdd]
    refine one_append (i := 7) (by kernel_rfl) rfl rfl (.tmp 15) (.tmp 17) rfl fB a1 c1 P (by rfl) (by rfl) rB (by omega) (K0.below_new w1 (.cells #[.string wd] 9)).size ?_
    intro a3 c3 w3 f3 l3
    have s3 := keepS sB l3 (by omega) (by omega)
    refine ⟨s3, ?_⟩
    simp only [List.getElem_toArray, List.getElem_cons_succ, List.getElem_cons_zero, Act.put, List.setIfInBounds_toArray, List.set_cons_succ, List.set_cons_zero, Nat.reduceAdd]
    refine Y0.one_call2w (i := 8) (by kernel_rfl) rfl (by rfl) (.tmp 18) (.const (.string ⟨#[32]⟩)) _ rfl (.slice a3 (1 + P.length) c3) (.string ⟨#[32]⟩) (by rfl) (by rfl) (enters_of Tryd.func13 (by kernel_rfl) rfl) ((join (wd := wd) (P := P) f3 hP hl).mono ?_)
    rintro e w4 ⟨rfl, b4⟩
    have s4 := keepS s3 b4 (lt_of_cell s3.1) (lt_of_cell s3.2.2.2.2.2.2)
    refine ⟨_, rfl, s4, ?_⟩
    simp only [List.getElem_toArray, List.getElem_cons_succ, List.getElem_cons_zero, Act.put, List.setIfInBounds_toArray, List.set_cons_succ, List.set_cons_zero, Nat.reduceAdd]
    refine wpAnyH_take (i := 9) (v := .string (glue wd P)) rfl (by kernel_rfl) (by kernel_rfl) (by kernel_rfl) (fun _ _ _ h => h) (Or.inl ⟨by rfl, fun w' hS' => by rfl⟩) s4 ?_
    simp only [List.getElem_toArray, List.getElem_cons_succ, List.getElem_cons_zero, Act.put, List.setIfInBounds_toArray, List.set_cons_succ, List.set_cons_zero, Nat.reduceAdd]
    refine wpAnyH_done (by kernel_rfl) ?_ _
    go_wp2
    go_ret
    exact ⟨rfl, (stB.bel.trans (l3.mono (by omega))).trans (b4.mono (by have := stB.bel.size; have := l3.size; omega))⟩
end Go.Proofs.YtnfcpcejfajcfaaDoor.EU

/- The contracts of spec.EventText and impl.EventText, whatever the kind. -/
namespace Go.Proofs.YtnfcpcejfajcfaaDoor.ET
open Go.ChangeShapes Go.WideShapes Go.ChangeAt Go.RowKit
set_option linter.unusedVariables false
set_option linter.unusedSimpArgs false
set_option maxRecDepth 10000

open EV (Ev val vals Fit hx dt glue text parts words)
open EW (EB eb_new eo)
open EX (Tabs)
variable {w W W' : World} {d : Ev} {a : Option Addr} {c : Nat}

theorem glue_le (b : ByteArray) (M : Nat) (ps : List ByteArray) (h : ∀ p ∈ ps, p.size ≤ M) : (glue b ps).size ≤ b.size + ps.length + M * ps.length := by
  show (Lib.join ((b :: ps).map (·.data.toList)) [32]).toArray.size ≤ _
  rw [List.size_toArray, List.map_cons, Lib.join_length, Lib.lens, List.map_cons, List.sum_cons]
  have hs : ∀ (l : List ByteArray), (∀ p ∈ l, p.size ≤ M) → (((l.map (·.data.toList)).map (·.length))).sum ≤ M * l.length := by
    intro l
    induction l with
    | nil => intro _; exact Nat.zero_le _
    | cons z r ih =>
      intro h
      have h1 := h z (List.mem_cons_self ..)
      have h2 := ih (fun y hy => h y (List.mem_cons_of_mem _ hy))
      have e : z.data.toList.length = z.size := by rw [Array.length_toList]; rfl
      simp only [List.map_cons, List.sum_cons, List.length_cons, Nat.mul_add, Nat.mul_one]
      omega
  have h3 := hs ps h
  have e : b.data.toList.length = b.size := by rw [Array.length_toList]; rfl
  simp only [List.length_map, List.length_cons, List.length_nil] at *
  omega

theorem bounds (hF : Fit d) (ht : d.tx.size ≤ 1048576) : (dt d.cl).size ≤ 2097153 ∧ (dt d.ino).size ≤ 2097153 ∧ (dt d.at_).size ≤ 2097153 ∧ (dt d.tx.size).size ≤ 2097153 ∧ (hx d.tx).size ≤ 2097153 ∧ d.tx.size ≤ 2097153 := by
  have g1 := EX.dt_size d.cl hF.f1
  have g2 := EX.dt_size d.ino hF.f2
  have g3 := EX.dt_size d.at_ hF.f3
  have g5 := EX.dt_size (d.tx.size : Int) (EZ.wf_nat _ ht)
  exact ⟨by omega, by omega, by omega, by omega, EZ.hx_size ht, by omega⟩

theorem implN (hk : ¬ (0 ≤ d.kd ∧ d.kd ≤ 9)) :
    Calls Tryd.prog 7 #[val d a c] w fun e w' => e = .returned (.string ⟨#[]⟩) ∧ Below w.heap.size w w' := by
  have n0 := K0.below_new w (eo d a c 27)
  by_cases h : d.kd < 0
  · clear hk
    go_enter Tryd.func7, Tryd.ntmps7
    go_wp2
    go_ret
    exact ⟨rfl, n0⟩
  · have h2 : (10 : Int) ≤ d.kd := by omega
    clear hk
    go_enter Tryd.func7, Tryd.ntmps7
    go_wp2
    go_ret
    exact ⟨rfl, n0⟩

theorem impl_EventText (hF : Fit d) (ht : d.tx.size ≤ 1048576) (hl : d.kp.length ≤ 1048576) (hR : P0.Row w a d.kp) (hT : Tabs w) :
    Calls Tryd.prog 7 #[val d a c] w fun e w' => e = .returned (.string (text d)) ∧ Below w.heap.size w w' := by
  by_cases h : 0 ≤ d.kd ∧ d.kd ≤ 9
  · obtain ⟨b1, b2, b3, b4, b5, b6⟩ := bounds hF ht
    have hk : d.kd = 0 ∨ d.kd = 1 ∨ d.kd = 2 ∨ d.kd = 3 ∨ d.kd = 4 ∨ d.kd = 5 ∨ d.kd = 6 ∨ d.kd = 7 ∨ d.kd = 8 ∨ d.kd = 9 := by omega
    rw [text, if_pos h]
    rcases hk with hk | hk | hk | hk | hk | hk | hk | hk | hk | hk
    · have e1 : parts d = [dt d.cl, dt d.ino, dt d.at_] := by simp [parts, hk]
      have e2 : words.getD d.kd.toNat ⟨#[]⟩ = (⟨#[108, 101, 110, 100]⟩ : ByteArray) := by rw [hk]; rfl
      rw [e1, e2]
      refine EU.impl_text 0 (by omega) hk ([dt d.cl, dt d.ino, dt d.at_]) (⟨#[108, 101, 110, 100]⟩ : ByteArray) rfl hT ?_ ?_ (fun W h => EY.parts0 hk hF ht hl (hR.below h.bel) h.t)
      · simp only [List.length_cons, List.length_nil]
        omega
      · have := glue_le (⟨#[108, 101, 110, 100]⟩ : ByteArray) 2097153 ([dt d.cl, dt d.ino, dt d.at_]) (fun p hp => by
          simp at hp
          rcases hp with rfl | rfl | rfl <;> assumption)
        have e3 : (⟨#[108, 101, 110, 100]⟩ : ByteArray).size = 4 := rfl
        simp only [List.length_cons, List.length_nil] at this
        omega
    · have e1 : parts d = [dt d.cl, dt d.at_, hx d.tx] := by simp [parts, hk]
      have e2 : words.getD d.kd.toNat ⟨#[]⟩ = (⟨#[116, 111, 117, 99, 104]⟩ : ByteArray) := by rw [hk]; rfl
      rw [e1, e2]
      refine EU.impl_text 1 (by omega) hk ([dt d.cl, dt d.at_, hx d.tx]) (⟨#[116, 111, 117, 99, 104]⟩ : ByteArray) rfl hT ?_ ?_ (fun W h => EY.parts1 hk hF ht hl (hR.below h.bel) h.t)
      · simp only [List.length_cons, List.length_nil]
        omega
      · have := glue_le (⟨#[116, 111, 117, 99, 104]⟩ : ByteArray) 2097153 ([dt d.cl, dt d.at_, hx d.tx]) (fun p hp => by
          simp at hp
          rcases hp with rfl | rfl | rfl <;> assumption)
        have e3 : (⟨#[116, 111, 117, 99, 104]⟩ : ByteArray).size = 5 := rfl
        simp only [List.length_cons, List.length_nil] at this
        omega
    · have e1 : parts d = [dt d.cl, dt d.at_, dt d.tx.size] := by simp [parts, hk]
      have e2 : words.getD d.kd.toNat ⟨#[]⟩ = (⟨#[108, 97, 115, 116]⟩ : ByteArray) := by rw [hk]; rfl
      rw [e1, e2]
      refine EU.impl_text 2 (by omega) hk ([dt d.cl, dt d.at_, dt d.tx.size]) (⟨#[108, 97, 115, 116]⟩ : ByteArray) rfl hT ?_ ?_ (fun W h => EY.parts2 hk hF ht hl (hR.below h.bel) h.t)
      · simp only [List.length_cons, List.length_nil]
        omega
      · have := glue_le (⟨#[108, 97, 115, 116]⟩ : ByteArray) 2097153 ([dt d.cl, dt d.at_, dt d.tx.size]) (fun p hp => by
          simp at hp
          rcases hp with rfl | rfl | rfl <;> assumption)
        have e3 : (⟨#[108, 97, 115, 116]⟩ : ByteArray).size = 4 := rfl
        simp only [List.length_cons, List.length_nil] at this
        omega
    · have e1 : parts d = [dt d.cl, dt d.ino] := by simp [parts, hk]
      have e2 : words.getD d.kd.toNat ⟨#[]⟩ = (⟨#[98, 97, 99, 107]⟩ : ByteArray) := by rw [hk]; rfl
      rw [e1, e2]
      refine EU.impl_text 3 (by omega) hk ([dt d.cl, dt d.ino]) (⟨#[98, 97, 99, 107]⟩ : ByteArray) rfl hT ?_ ?_ (fun W h => EY.parts3 hk hF ht hl (hR.below h.bel) h.t)
      · simp only [List.length_cons, List.length_nil]
        omega
      · have := glue_le (⟨#[98, 97, 99, 107]⟩ : ByteArray) 2097153 ([dt d.cl, dt d.ino]) (fun p hp => by
          simp at hp
          rcases hp with rfl | rfl <;> assumption)
        have e3 : (⟨#[98, 97, 99, 107]⟩ : ByteArray).size = 4 := rfl
        simp only [List.length_cons, List.length_nil] at this
        omega
    · have e1 : parts d = [] := by simp [parts, hk]
      have e2 : words.getD d.kd.toNat ⟨#[]⟩ = (⟨#[116, 105, 99, 107]⟩ : ByteArray) := by rw [hk]; rfl
      rw [e1, e2]
      refine EU.impl_text 4 (by omega) hk ([]) (⟨#[116, 105, 99, 107]⟩ : ByteArray) rfl hT ?_ ?_ (fun W h => EY.parts4 hk hF ht hl (hR.below h.bel) h.t)
      · simp only [List.length_cons, List.length_nil]
        omega
      · have := glue_le (⟨#[116, 105, 99, 107]⟩ : ByteArray) 2097153 ([]) (fun p hp => by
          simp at hp
          )
        have e3 : (⟨#[116, 105, 99, 107]⟩ : ByteArray).size = 4 := rfl
        simp only [List.length_cons, List.length_nil] at this
        omega
    · have e1 : parts d = d.kp.map dt := by simp [parts, hk]
      have e2 : words.getD d.kd.toNat ⟨#[]⟩ = (⟨#[112, 111, 119, 101, 114]⟩ : ByteArray) := by rw [hk]; rfl
      rw [e1, e2]
      refine EU.impl_text 5 (by omega) hk (d.kp.map dt) (⟨#[112, 111, 119, 101, 114]⟩ : ByteArray) rfl hT ?_ ?_ (fun W h => EY.parts5 hk hF ht hl (hR.below h.bel) h.t)
      · rw [List.length_map]
        exact hl
      · have := glue_le (⟨#[112, 111, 119, 101, 114]⟩ : ByteArray) 22 (d.kp.map dt) (fun p hp => by
          obtain ⟨z, hz, rfl⟩ := List.mem_map.1 hp
          exact EX.dt_size z (hF.fk z hz))
        have e3 : (⟨#[112, 111, 119, 101, 114]⟩ : ByteArray).size = 5 := rfl
        rw [List.length_map] at this
        omega
    · have e1 : parts d = [dt d.cl, dt d.ino, hx d.tx] := by simp [parts, hk]
      have e2 : words.getD d.kd.toNat ⟨#[]⟩ = (⟨#[102, 105, 108, 101]⟩ : ByteArray) := by rw [hk]; rfl
      rw [e1, e2]
      refine EU.impl_text 6 (by omega) hk ([dt d.cl, dt d.ino, hx d.tx]) (⟨#[102, 105, 108, 101]⟩ : ByteArray) rfl hT ?_ ?_ (fun W h => EY.parts6 hk hF ht hl (hR.below h.bel) h.t)
      · simp only [List.length_cons, List.length_nil]
        omega
      · have := glue_le (⟨#[102, 105, 108, 101]⟩ : ByteArray) 2097153 ([dt d.cl, dt d.ino, hx d.tx]) (fun p hp => by
          simp at hp
          rcases hp with rfl | rfl | rfl <;> assumption)
        have e3 : (⟨#[102, 105, 108, 101]⟩ : ByteArray).size = 4 := rfl
        simp only [List.length_cons, List.length_nil] at this
        omega
    · have e1 : parts d = [dt d.cl, dt d.ino, dt d.at_, d.tx] := by simp [parts, hk]
      have e2 : words.getD d.kd.toNat ⟨#[]⟩ = (⟨#[109, 97, 107, 101]⟩ : ByteArray) := by rw [hk]; rfl
      rw [e1, e2]
      refine EU.impl_text 7 (by omega) hk ([dt d.cl, dt d.ino, dt d.at_, d.tx]) (⟨#[109, 97, 107, 101]⟩ : ByteArray) rfl hT ?_ ?_ (fun W h => EY.parts7 hk hF ht hl (hR.below h.bel) h.t)
      · simp only [List.length_cons, List.length_nil]
        omega
      · have := glue_le (⟨#[109, 97, 107, 101]⟩ : ByteArray) 2097153 ([dt d.cl, dt d.ino, dt d.at_, d.tx]) (fun p hp => by
          simp at hp
          rcases hp with rfl | rfl | rfl | rfl <;> assumption)
        have e3 : (⟨#[109, 97, 107, 101]⟩ : ByteArray).size = 4 := rfl
        simp only [List.length_cons, List.length_nil] at this
        omega
    · have e1 : parts d = [dt d.cl, dt d.ino, d.tx] := by simp [parts, hk]
      have e2 : words.getD d.kd.toNat ⟨#[]⟩ = (⟨#[114, 101, 109, 111, 118, 101]⟩ : ByteArray) := by rw [hk]; rfl
      rw [e1, e2]
      refine EU.impl_text 8 (by omega) hk ([dt d.cl, dt d.ino, d.tx]) (⟨#[114, 101, 109, 111, 118, 101]⟩ : ByteArray) rfl hT ?_ ?_ (fun W h => EY.parts8 hk hF ht hl (hR.below h.bel) h.t)
      · simp only [List.length_cons, List.length_nil]
        omega
      · have := glue_le (⟨#[114, 101, 109, 111, 118, 101]⟩ : ByteArray) 2097153 ([dt d.cl, dt d.ino, d.tx]) (fun p hp => by
          simp at hp
          rcases hp with rfl | rfl | rfl <;> assumption)
        have e3 : (⟨#[114, 101, 109, 111, 118, 101]⟩ : ByteArray).size = 6 := rfl
        simp only [List.length_cons, List.length_nil] at this
        omega
    · have e1 : parts d = [dt d.cl, dt d.ino, dt d.at_, hx d.tx] := by simp [parts, hk]
      have e2 : words.getD d.kd.toNat ⟨#[]⟩ = (⟨#[102, 105, 108, 108]⟩ : ByteArray) := by rw [hk]; rfl
      rw [e1, e2]
      refine EU.impl_text 9 (by omega) hk ([dt d.cl, dt d.ino, dt d.at_, hx d.tx]) (⟨#[102, 105, 108, 108]⟩ : ByteArray) rfl hT ?_ ?_ (fun W h => EY.parts9 hk hF ht hl (hR.below h.bel) h.t)
      · simp only [List.length_cons, List.length_nil]
        omega
      · have := glue_le (⟨#[102, 105, 108, 108]⟩ : ByteArray) 2097153 ([dt d.cl, dt d.ino, dt d.at_, hx d.tx]) (fun p hp => by
          simp at hp
          rcases hp with rfl | rfl | rfl | rfl <;> assumption)
        have e3 : (⟨#[102, 105, 108, 108]⟩ : ByteArray).size = 4 := rfl
        simp only [List.length_cons, List.length_nil] at this
        omega
  · rw [text, if_neg h]
    exact implN h

theorem spec_EventText (hF : Fit d) (ht : d.tx.size ≤ 1048576) (hl : d.kp.length ≤ 1048576) (hR : P0.Row w a d.kp) :
    Calls Tryd.prog 5 #[val d a c] w fun e w' => e = .returned (.string (text d)) ∧ Below w.heap.size w w' := by
  by_cases h : 0 ≤ d.kd ∧ d.kd ≤ 9
  · have hk : d.kd = 0 ∨ d.kd = 1 ∨ d.kd = 2 ∨ d.kd = 3 ∨ d.kd = 4 ∨ d.kd = 5 ∨ d.kd = 6 ∨ d.kd = 7 ∨ d.kd = 8 ∨ d.kd = 9 := by omega
    rw [text, if_pos h]
    rcases hk with hk | hk | hk | hk | hk | hk | hk | hk | hk | hk
    · have e1 : parts d = [dt d.cl, dt d.ino, dt d.at_] := by simp [parts, hk]
      have e2 : words.getD d.kd.toNat ⟨#[]⟩ = (⟨#[108, 101, 110, 100]⟩ : ByteArray) := by rw [hk]; rfl
      rw [e1, e2]
      exact EZ.text0 hk hF ht
    · have e1 : parts d = [dt d.cl, dt d.at_, hx d.tx] := by simp [parts, hk]
      have e2 : words.getD d.kd.toNat ⟨#[]⟩ = (⟨#[116, 111, 117, 99, 104]⟩ : ByteArray) := by rw [hk]; rfl
      rw [e1, e2]
      exact EZ.text1 hk hF ht
    · have e1 : parts d = [dt d.cl, dt d.at_, dt d.tx.size] := by simp [parts, hk]
      have e2 : words.getD d.kd.toNat ⟨#[]⟩ = (⟨#[108, 97, 115, 116]⟩ : ByteArray) := by rw [hk]; rfl
      rw [e1, e2]
      exact EZ.text2 hk hF ht
    · have e1 : parts d = [dt d.cl, dt d.ino] := by simp [parts, hk]
      have e2 : words.getD d.kd.toNat ⟨#[]⟩ = (⟨#[98, 97, 99, 107]⟩ : ByteArray) := by rw [hk]; rfl
      rw [e1, e2]
      exact EZ.text3 hk hF ht
    · have e1 : parts d = [] := by simp [parts, hk]
      have e2 : words.getD d.kd.toNat ⟨#[]⟩ = (⟨#[116, 105, 99, 107]⟩ : ByteArray) := by rw [hk]; rfl
      rw [e1, e2]
      exact EZ.text4 hk hF ht
    · have e1 : parts d = d.kp.map dt := by simp [parts, hk]
      have e2 : words.getD d.kd.toNat ⟨#[]⟩ = (⟨#[112, 111, 119, 101, 114]⟩ : ByteArray) := by rw [hk]; rfl
      rw [e1, e2]
      exact EZ.text5 hk hF ht hl hR
    · have e1 : parts d = [dt d.cl, dt d.ino, hx d.tx] := by simp [parts, hk]
      have e2 : words.getD d.kd.toNat ⟨#[]⟩ = (⟨#[102, 105, 108, 101]⟩ : ByteArray) := by rw [hk]; rfl
      rw [e1, e2]
      exact EZ.text6 hk hF ht
    · have e1 : parts d = [dt d.cl, dt d.ino, dt d.at_, d.tx] := by simp [parts, hk]
      have e2 : words.getD d.kd.toNat ⟨#[]⟩ = (⟨#[109, 97, 107, 101]⟩ : ByteArray) := by rw [hk]; rfl
      rw [e1, e2]
      exact EZ.text7 hk hF ht
    · have e1 : parts d = [dt d.cl, dt d.ino, d.tx] := by simp [parts, hk]
      have e2 : words.getD d.kd.toNat ⟨#[]⟩ = (⟨#[114, 101, 109, 111, 118, 101]⟩ : ByteArray) := by rw [hk]; rfl
      rw [e1, e2]
      exact EZ.text8 hk hF ht
    · have e1 : parts d = [dt d.cl, dt d.ino, dt d.at_, hx d.tx] := by simp [parts, hk]
      have e2 : words.getD d.kd.toNat ⟨#[]⟩ = (⟨#[102, 105, 108, 108]⟩ : ByteArray) := by rw [hk]; rfl
      rw [e1, e2]
      exact EZ.text9 hk hF ht
  · rw [text, if_neg h]
    exact EZ.textN h hF
end Go.Proofs.YtnfcpcejfajcfaaDoor.ET

/- What the exact law over EventText keeps of its event. -/
namespace Go.Proofs.YtnfcpcejfajcfaaDoor.ES
open Go.ChangeShapes Go.WideShapes Go.ChangeAt Go.RowKit
set_option linter.unusedVariables false
open EV (Ev)
variable {w W W' : World} {d : Ev} {a : Option Addr} {c : Nat}
structure A (w : World) (d : Ev) (a : Option Addr) (c : Nat) (W : World) : Prop where
  b : EW.EB w.heap.size d a c W
  r : P0.Row W a d.kp
  t : EX.Tabs W
  bel : Below w.heap.size w W
theorem A.below (h : A w d a c W) (hb : Below W.heap.size W W') : A w d a c W' := ⟨h.b.below hb, h.r.below hb, h.t.below hb, h.bel.trans (hb.mono h.bel.size)⟩
theorem a_new (w : World) (d : Ev) (a : Option Addr) (c : Nat) (hr : P0.Row w a d.kp) (ht : EX.Tabs w) : A w d a c (w.alloc (EW.eo d a c 24)) :=
  ⟨EW.eb_new d a c w 24, hr.below (K0.below_new _ _), ht.below (K0.below_new _ _), K0.below_new _ _⟩
end Go.Proofs.YtnfcpcejfajcfaaDoor.ES
