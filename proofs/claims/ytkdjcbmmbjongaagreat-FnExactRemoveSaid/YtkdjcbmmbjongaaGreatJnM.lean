/- Joined texts: plain facts and contracts, as each part says. -/
import Derived.Test.YtkdjcbmmbjongaaGreatJnL
import Derived.Test.YtkdjcbmmbjongaaGreatJnE
import Derived.Test.YtkdjcbmmbjongaaGreatJnI

/- The contract of spec.l07Inode, as the given laws call it. -/
namespace Go.Proofs.YtkdjcbmmbjongaaGreat.SX
open Go.ChangeShapes Go.WideShapes Go.ChangeAt Go.RowKit
set_option linter.unusedVariables false
set_option linter.unusedSimpArgs false
set_option maxRecDepth 10000

open N0 (Ln)
open N1 (Sl Lists Fit LB lb_new)
open I0 (val)
open J0 (Own)
open SW (stOk Ans st_no st_yes)

set_option maxHeartbeats 2000000 in
theorem l07Inode (d : Ln) (s : Sl) (mem : ByteArray) (kind : Int) (w : World) (hs : mem.size ≤ 281474976710656) (hF : Fit d s) (hpo : d.po.length ≤ 1048576) (hfr : d.fr.length ≤ 1048576) (hR : Lists w d s) :
    Calls Tryz.prog 22 #[N1.val d s, .string mem, .int .i64 kind] w (Ans d mem d.ino kind w) := by
  have l0 := K0.below_new w (.cells #[.int .i64 d.ino, .int .i64 d.cl, .int .i64 d.un, .string d.rc, .slice s.a1 d.pg.length s.c1, .string d.sav, .slice s.a2 d.po.length s.c2, .slice s.a3 d.fr.length s.c3] 31)
  have x0 := lb_new d s w 31
  have l1 := l0.alloc l0.size (.cells #[.int .i64 0, .int .i64 0, .int .i64 0, .slice none 0 0] 49)
  have k1 := K0.blk_at (B := w.heap.size + 1) [.int .i64 0, .int .i64 0, .int .i64 0, .slice none 0 0] (w.alloc (.cells #[.int .i64 d.ino, .int .i64 d.cl, .int .i64 d.un, .string d.rc, .slice s.a1 d.pg.length s.c1, .string d.sav, .slice s.a2 d.po.length s.c2, .slice s.a3 d.fr.length s.c3] 31)) 49 (by simp)
  have x1 := x0.below (K0.below_new _ (.cells #[.int .i64 0, .int .i64 0, .int .i64 0, .slice none 0 0] 49))
  have HL : Hid (∀ W, Below w.heap.size w W → Lists W d s) := fun W hb => hR.below hb
  have hlo : Hid (∀ W, Lists W d s → Calls Tryz.prog 45 #[N1.val d s] W fun e w' => e = .returned (.bool (N0.loanOk d)) ∧ Below W.heap.size W w') := fun W h => N11.spec_LoanOk d s W hF hpo hfr h
  have hgi : Hid (∀ W, Calls Tryz.prog 43 #[.string (O0.recd mem d.ino)] W (G3.Ans (O0.recd mem d.ino) W)) := fun W => G4.spec_GetInode _ W (O0.recd_size mem d.ino hs)
  have hlr : Hid (∀ W, Calls Tryz.prog 44 #[.string mem, .int .i64 d.ino] W fun e w' => e = .returned (.string (O0.recd mem d.ino)) ∧ w' = W) := fun W => O1.l03Rec mem d.ino W hs
  have HA : Hid (∀ (kb ob sb : Int) (a : Option Addr) (n c : Nat) w' b, b = stOk d mem d.ino kind → Below w.heap.size w w' → (stOk d mem d.ino kind = true → kb = kind ∧ ob = G0.gO (O0.recd mem d.ino) ∧ sb = G0.gS (O0.recd mem d.ino) ∧ n = (G0.gZ (O0.recd mem d.ino)).length ∧ Own w.heap.size w' a (G0.gZ (O0.recd mem d.ino)) ∧ n ≤ c) → Ans d mem d.ino kind w (.returned (.tuple #[val kb ob sb a n c, .bool b])) w') := fun kb ob sb a n c w' b hb1 hb2 hb3 => ⟨kb, ob, sb, a, n, c, by rw [hb1], hb2, hb3⟩
  have c0 := x1.c0
  have hst : Hid (stOk d mem d.ino kind = (decide (mem.size = 768) && (N0.loanOk d && (G0.isI (O0.recd mem d.ino) && decide (G0.gK (O0.recd mem d.ino) = kind))))) := rfl
  clear hR
  go_enter Tryz.func22, Tryz.ntmps22
  go_wp2_with (first
    | (go_at_call 44; refine (hlr.out _).mono ?_; rintro e w1 ⟨rfl, hw1⟩; subst w1)
    | (go_at_call 43; refine (hgi.out _).mono ?_; rintro e w3 ⟨a3, c3, rfl, o3, q3, b3⟩; have l3 := l1.trans (b3.mono l1.size); have k3 := k1.below b3; have x3 := x1.below b3; have o3' := o3.mono (base' := w.heap.size + 2) k1.lt))
  have n4 := K0.below_new w3 (.cells #[.int .i64 (G0.gK (O0.recd mem d.ino)), .int .i64 (G0.gO (O0.recd mem d.ino)), .int .i64 (G0.gS (O0.recd mem d.ino)), .slice a3 (G0.gZ (O0.recd mem d.ino)).length c3] 49)
  have y4 := K0.blk_new [.int .i64 (G0.gK (O0.recd mem d.ino)), .int .i64 (G0.gO (O0.recd mem d.ino)), .int .i64 (G0.gS (O0.recd mem d.ino)), .slice a3 (G0.gZ (O0.recd mem d.ino)).length c3] w3 49
  have l4 := l3.trans (n4.mono l3.size)
  have k4 := k3.below n4
  have x4 := x3.below n4
  have o4 := o3'.below n4
  have hne : w.heap.size + 1 < w3.heap.size := k3.lt
  obtain ⟨w4, hw4⟩ : ∃ w4, w3.alloc (.cells #[.int .i64 (G0.gK (O0.recd mem d.ino)), .int .i64 (G0.gO (O0.recd mem d.ino)), .int .i64 (G0.gS (O0.recd mem d.ino)), .slice a3 (G0.gZ (O0.recd mem d.ino)).length c3] 49) = w4 := ⟨_, rfl⟩
  obtain ⟨N, hN⟩ : ∃ N, w3.heap.size = N := ⟨_, rfl⟩
  rw [hw4] at l4 k4 x4 o4 y4 ⊢
  rw [hN] at y4 hne ⊢
  clear hw4 hN n4 l3 k3 x3 o3' b3 o3 hgi hlr c0 x1 l1 k1 l0 x0
  generalize hgK : G0.gK (O0.recd mem d.ino) = K at *
  generalize hgO : G0.gO (O0.recd mem d.ino) = O at *
  generalize hgS : G0.gS (O0.recd mem d.ino) = S at *
  generalize hgZ : G0.gZ (O0.recd mem d.ino) = Z at *
  generalize hgI : G0.isI (O0.recd mem d.ino) = I at *
  clear hgK hgO hgS hgZ hgI
  cases I with
  | false =>
    have r0 := k4.c0
    have r1 := k4.c1
    have r2 := k4.c2
    have r3 := k4.c3
    have g0 := k4.f0
    have g1 := k4.f1
    have g2 := k4.f2
    have g3 := k4.f3
    have y0 := y4.c0
    have y1 := y4.c1
    have y2 := y4.c2
    have y3 := y4.c3
    have q := k4.put4 (.int .i64 K) (.int .i64 O) (.int .i64 S) (.slice a3 Z.length c3)
    have lF := (((l4.setCell (p := ⟨w.heap.size + 1, 0, none⟩) (Nat.le_succ _) (.int .i64 K)).setCell (p := ⟨w.heap.size + 1, 1, none⟩) (Nat.le_succ _) (.int .i64 O)).setCell (p := ⟨w.heap.size + 1, 2, none⟩) (Nat.le_succ _) (.int .i64 S)).setCell (p := ⟨w.heap.size + 1, 3, none⟩) (Nat.le_succ _) (.slice a3 Z.length c3)
    have hf : stOk d mem d.ino kind = false := by rw [hst.out]; simp
    have HF := HA.out K O S a3 Z.length c3 _ false hf.symm lF.drew (fun h => by rw [hf] at h; cases h)
    clear hf
    go_region
    all_goals
      go_wp2
      exact bodyPost_ret (v := .tuple #[val K O S a3 Z.length c3, .bool false]) (by simp [results, Tryz.results22, go_sem, q.c0, q.c1, q.c2, q.c3]) rfl HF
  | true =>
    have c0 := x4.c0
    have c1 := x4.c1
    have c2 := x4.c2
    have cc3 := x4.c3
    have c4 := x4.c4
    have c5 := x4.c5
    have c6 := x4.c6
    have c7 := x4.c7
    have y0 := y4.c0
    have y1 := y4.c1
    have y2 := y4.c2
    have y3 := y4.c3
    have hne' : w.heap.size + 1 ≠ N := Nat.ne_of_lt hne
    have hnl : w.heap.size + 1 ≠ w.heap.size := Nat.succ_ne_self _
    have S4 : (fun W : World => W.cell? ⟨w.heap.size, 0, none⟩ = some (.int .i64 d.ino) ∧ W.cell? ⟨w.heap.size, 1, none⟩ = some (.int .i64 d.cl) ∧ W.cell? ⟨w.heap.size, 2, none⟩ = some (.int .i64 d.un) ∧ W.cell? ⟨w.heap.size, 3, none⟩ = some (.string d.rc) ∧ W.cell? ⟨w.heap.size, 4, none⟩ = some (.slice s.a1 d.pg.length s.c1) ∧ W.cell? ⟨w.heap.size, 5, none⟩ = some (.string d.sav) ∧ W.cell? ⟨w.heap.size, 6, none⟩ = some (.slice s.a2 d.po.length s.c2) ∧ W.cell? ⟨w.heap.size, 7, none⟩ = some (.slice s.a3 d.fr.length s.c3) ∧ W.cell? ⟨N, 0, none⟩ = some (.int .i64 K) ∧ W.cell? ⟨N, 1, none⟩ = some (.int .i64 O) ∧ W.cell? ⟨N, 2, none⟩ = some (.int .i64 S) ∧ W.cell? ⟨N, 3, none⟩ = some (.slice a3 Z.length c3)) w4.drew := ⟨c0, c1, c2, cc3, c4, c5, c6, c7, y0, y1, y2, y3⟩
    clear c0 c1 c2 cc3 c4 c5 c6 c7 y0 y1 y2 y3
    by_cases ht : stOk d mem d.ino kind = true
    · have HF : Hid (∀ w', Below w.heap.size w w' → Own (w.heap.size + 2) w' a3 Z → Ans d mem d.ino kind w (.returned (.tuple #[val K O S a3 Z.length c3, .bool true])) w') := fun w' hb ho => HA.out K O S a3 Z.length c3 w' true ht.symm hb (fun _ => by
        have h := ht
        rw [hst.out] at h
        simp only [Bool.and_eq_true, decide_eq_true_eq] at h
        exact ⟨h.2.2.2, rfl, rfl, rfl, ho.mono (by omega), q3⟩)
      rw [hst.out] at ht
      simp only [Bool.and_eq_true, decide_eq_true_eq] at ht
      obtain ⟨h1, h2, -, h4⟩ := ht
      have d1 : decide ((mem.size : Int) = 768) = true := by simp; omega
      have d4 : decide (K = kind) = true := decide_eq_true h4
      rw [h2] at hlo
      clear h1 h2 h4 hst HA hne
      refine wp_region_held (S := fun W => W.cell? ⟨w.heap.size, 0, none⟩ = some (.int .i64 d.ino) ∧ W.cell? ⟨w.heap.size, 1, none⟩ = some (.int .i64 d.cl) ∧ W.cell? ⟨w.heap.size, 2, none⟩ = some (.int .i64 d.un) ∧ W.cell? ⟨w.heap.size, 3, none⟩ = some (.string d.rc) ∧ W.cell? ⟨w.heap.size, 4, none⟩ = some (.slice s.a1 d.pg.length s.c1) ∧ W.cell? ⟨w.heap.size, 5, none⟩ = some (.string d.sav) ∧ W.cell? ⟨w.heap.size, 6, none⟩ = some (.slice s.a2 d.po.length s.c2) ∧ W.cell? ⟨w.heap.size, 7, none⟩ = some (.slice s.a3 d.fr.length s.c3) ∧ W.cell? ⟨N, 0, none⟩ = some (.int .i64 K) ∧ W.cell? ⟨N, 1, none⟩ = some (.int .i64 O) ∧ W.cell? ⟨N, 2, none⟩ = some (.int .i64 S) ∧ W.cell? ⟨N, 3, none⟩ = some (.slice a3 Z.length c3)) (by kernel_rfl) ?_
      refine wpAnyH_take (i := 0) (v := val K O S a3 Z.length c3) rfl (by kernel_rfl) (by kernel_rfl) (by kernel_rfl) (fun _ _ _ h => h) (Or.inl ⟨by rfl, fun w' hS' => ?_⟩) S4 ?_
      · obtain ⟨p0, p1, p2, p3, p4, p5, p6, p7, n0, n1, n2, n3⟩ := hS'
        go_simp
      simp only [List.getElem_toArray, List.getElem_cons_succ, List.getElem_cons_zero, Act.put, List.setIfInBounds_toArray, List.set_cons_succ, List.set_cons_zero, Nat.reduceAdd]
      refine wpAnyH_take (i := 1) (v := .bool true) rfl (by kernel_rfl) (by kernel_rfl) (by kernel_rfl) (fun _ _ _ h => h) (Or.inl ⟨by rfl, fun w' hS' => by rfl⟩) S4 ?_
      simp only [List.getElem_toArray, List.getElem_cons_succ, List.getElem_cons_zero, Act.put, List.setIfInBounds_toArray, List.set_cons_succ, List.set_cons_zero, Nat.reduceAdd]
      refine wpAnyH_take (i := 2) (v := .bool true) rfl (by kernel_rfl) (by kernel_rfl) (by kernel_rfl) (fun _ _ _ h => h) (Or.inl ⟨by rfl, fun w' hS' => by rfl⟩) S4 ?_
      simp only [List.getElem_toArray, List.getElem_cons_succ, List.getElem_cons_zero, Act.put, List.setIfInBounds_toArray, List.set_cons_succ, List.set_cons_zero, Nat.reduceAdd]
      refine wpAnyH_take (i := 3) (v := N1.val d s) rfl (by kernel_rfl) (by kernel_rfl) (by kernel_rfl) (fun _ _ _ h => h) (Or.inl ⟨by rfl, fun w' hS' => ?_⟩) S4 ?_
      · obtain ⟨p0, p1, p2, p3, p4, p5, p6, p7, n0, n1, n2, n3⟩ := hS'
        go_simp
      simp only [List.getElem_toArray, List.getElem_cons_succ, List.getElem_cons_zero, Act.put, List.setIfInBounds_toArray, List.set_cons_succ, List.set_cons_zero, Nat.reduceAdd]
      refine Y0.one_callw (i := 4) (by kernel_rfl) rfl (by rfl) (.tmp 21) _ rfl (N1.val d s) (by rfl) (enters_of Tryz.func45 (by kernel_rfl) rfl) ((hlo.out _ (HL.out _ l4.drew)).mono ?_)
      rintro e w5 ⟨rfl, b5⟩
      have l5 := l4.drew.trans (b5.mono l4.drew.size)
      have k5 := k4.drew.below b5
      have y5 := y4.drew.below b5
      have x5 := (x4.below ((Below.refl _ _).drew)).below b5
      have o5 := o4.drew.below b5
      have S5 : w5.cell? ⟨w.heap.size, 0, none⟩ = some (.int .i64 d.ino) ∧ w5.cell? ⟨w.heap.size, 1, none⟩ = some (.int .i64 d.cl) ∧ w5.cell? ⟨w.heap.size, 2, none⟩ = some (.int .i64 d.un) ∧ w5.cell? ⟨w.heap.size, 3, none⟩ = some (.string d.rc) ∧ w5.cell? ⟨w.heap.size, 4, none⟩ = some (.slice s.a1 d.pg.length s.c1) ∧ w5.cell? ⟨w.heap.size, 5, none⟩ = some (.string d.sav) ∧ w5.cell? ⟨w.heap.size, 6, none⟩ = some (.slice s.a2 d.po.length s.c2) ∧ w5.cell? ⟨w.heap.size, 7, none⟩ = some (.slice s.a3 d.fr.length s.c3) ∧ w5.cell? ⟨N, 0, none⟩ = some (.int .i64 K) ∧ w5.cell? ⟨N, 1, none⟩ = some (.int .i64 O) ∧ w5.cell? ⟨N, 2, none⟩ = some (.int .i64 S) ∧ w5.cell? ⟨N, 3, none⟩ = some (.slice a3 Z.length c3) := ⟨x5.c0, x5.c1, x5.c2, x5.c3, x5.c4, x5.c5, x5.c6, x5.c7, y5.c0, y5.c1, y5.c2, y5.c3⟩
      refine ⟨_, rfl, S5, ?_⟩
      simp only [List.getElem_toArray, List.getElem_cons_succ, List.getElem_cons_zero, Act.put, List.setIfInBounds_toArray, List.set_cons_succ, List.set_cons_zero, Nat.reduceAdd]
      refine wpAnyH_take (i := 5) (v := .bool true) rfl (by kernel_rfl) (by kernel_rfl) (by kernel_rfl) (fun _ _ _ h => h) (Or.inl ⟨by rfl, fun w' hS' => by rfl⟩) S5 ?_
      simp only [List.getElem_toArray, List.getElem_cons_succ, List.getElem_cons_zero, Act.put, List.setIfInBounds_toArray, List.set_cons_succ, List.set_cons_zero, Nat.reduceAdd]
      refine wpAnyH_take (i := 6) (v := .bool true) rfl (by kernel_rfl) (by kernel_rfl) (by kernel_rfl) (fun _ _ _ h => h) (Or.inl ⟨by rfl, fun w' hS' => by rfl⟩) S5 ?_
      simp only [List.getElem_toArray, List.getElem_cons_succ, List.getElem_cons_zero, Act.put, List.setIfInBounds_toArray, List.set_cons_succ, List.set_cons_zero, Nat.reduceAdd]
      refine wpAnyH_take (i := 7) (v := .string mem) rfl (by kernel_rfl) (by kernel_rfl) (by kernel_rfl) (fun _ _ _ h => h) (Or.inl ⟨by rfl, fun w' hS' => by rfl⟩) S5 ?_
      simp only [List.getElem_toArray, List.getElem_cons_succ, List.getElem_cons_zero, Act.put, List.setIfInBounds_toArray, List.set_cons_succ, List.set_cons_zero, Nat.reduceAdd]
      refine wpAnyH_take (i := 8) (v := .int .i64 (mem.size : Int)) rfl (by kernel_rfl) (by kernel_rfl) (by kernel_rfl) (fun _ _ _ h => h) (Or.inl ⟨by rfl, fun w' hS' => ?_⟩) S5 ?_
      · obtain ⟨p0, p1, p2, p3, p4, p5, p6, p7, n0, n1, n2, n3⟩ := hS'
        go_simp
      simp only [List.getElem_toArray, List.getElem_cons_succ, List.getElem_cons_zero, Act.put, List.setIfInBounds_toArray, List.set_cons_succ, List.set_cons_zero, Nat.reduceAdd]
      refine wpAnyH_take (i := 9) (v := .bool true) rfl (by kernel_rfl) (by kernel_rfl) (by kernel_rfl) (fun _ _ _ h => h) (Or.inl ⟨by rfl, fun w' hS' => ?_⟩) S5 ?_
      · obtain ⟨p0, p1, p2, p3, p4, p5, p6, p7, n0, n1, n2, n3⟩ := hS'
        (go_simp; first | exact of_decide_eq_true d1 | exact of_decide_eq_false d1)
      simp only [List.getElem_toArray, List.getElem_cons_succ, List.getElem_cons_zero, Act.put, List.setIfInBounds_toArray, List.set_cons_succ, List.set_cons_zero, Nat.reduceAdd]
      refine wpAnyH_take (i := 10) (v := .bool true) rfl (by kernel_rfl) (by kernel_rfl) (by kernel_rfl) (fun _ _ _ h => h) (Or.inl ⟨by rfl, fun w' hS' => by rfl⟩) S5 ?_
      simp only [List.getElem_toArray, List.getElem_cons_succ, List.getElem_cons_zero, Act.put, List.setIfInBounds_toArray, List.set_cons_succ, List.set_cons_zero, Nat.reduceAdd]
      refine wpAnyH_take (i := 11) (v := .bool true) rfl (by kernel_rfl) (by kernel_rfl) (by kernel_rfl) (fun _ _ _ h => h) (Or.inl ⟨by rfl, fun w' hS' => by rfl⟩) S5 ?_
      simp only [List.getElem_toArray, List.getElem_cons_succ, List.getElem_cons_zero, Act.put, List.setIfInBounds_toArray, List.set_cons_succ, List.set_cons_zero, Nat.reduceAdd]
      refine wpAnyH_take (i := 12) (v := .pointer (some ⟨N, 0, none⟩)) rfl (by kernel_rfl) (by kernel_rfl) (by kernel_rfl) (fun _ _ _ h => h) (Or.inl ⟨by rfl, fun w' hS' => by rfl⟩) S5 ?_
      simp only [List.getElem_toArray, List.getElem_cons_succ, List.getElem_cons_zero, Act.put, List.setIfInBounds_toArray, List.set_cons_succ, List.set_cons_zero, Nat.reduceAdd]
      refine wpAnyH_take (i := 13) (v := .int .i64 K) rfl (by kernel_rfl) (by kernel_rfl) (by kernel_rfl) (fun _ _ _ h => h) (Or.inl ⟨by rfl, fun w' hS' => ?_⟩) S5 ?_
      · obtain ⟨p0, p1, p2, p3, p4, p5, p6, p7, n0, n1, n2, n3⟩ := hS'
        go_simp
      simp only [List.getElem_toArray, List.getElem_cons_succ, List.getElem_cons_zero, Act.put, List.setIfInBounds_toArray, List.set_cons_succ, List.set_cons_zero, Nat.reduceAdd]
      refine wpAnyH_take (i := 14) (v := .int .i64 kind) rfl (by kernel_rfl) (by kernel_rfl) (by kernel_rfl) (fun _ _ _ h => h) (Or.inl ⟨by rfl, fun w' hS' => by rfl⟩) S5 ?_
      simp only [List.getElem_toArray, List.getElem_cons_succ, List.getElem_cons_zero, Act.put, List.setIfInBounds_toArray, List.set_cons_succ, List.set_cons_zero, Nat.reduceAdd]
      refine wpAnyH_take (i := 15) (v := .bool true) rfl (by kernel_rfl) (by kernel_rfl) (by kernel_rfl) (fun _ _ _ h => h) (Or.inl ⟨by rfl, fun w' hS' => ?_⟩) S5 ?_
      · obtain ⟨p0, p1, p2, p3, p4, p5, p6, p7, n0, n1, n2, n3⟩ := hS'
        (go_simp; first | exact of_decide_eq_true d4 | exact of_decide_eq_false d4)
      simp only [List.getElem_toArray, List.getElem_cons_succ, List.getElem_cons_zero, Act.put, List.setIfInBounds_toArray, List.set_cons_succ, List.set_cons_zero, Nat.reduceAdd]
      refine wpAnyH_take (i := 16) (v := .bool true) rfl (by kernel_rfl) (by kernel_rfl) (by kernel_rfl) (fun _ _ _ h => h) (Or.inl ⟨by rfl, fun w' hS' => by rfl⟩) S5 ?_
      simp only [List.getElem_toArray, List.getElem_cons_succ, List.getElem_cons_zero, Act.put, List.setIfInBounds_toArray, List.set_cons_succ, List.set_cons_zero, Nat.reduceAdd]
      have r0 := k5.c0
      have r1 := k5.c1
      have r2 := k5.c2
      have r3 := k5.c3
      have g0 := k5.f0
      have g1 := k5.f1
      have g2 := k5.f2
      have g3 := k5.f3
      have q := k5.put4 (.int .i64 K) (.int .i64 O) (.int .i64 S) (.slice a3 Z.length c3)
      have lF := (((l5.setCell (p := ⟨w.heap.size + 1, 0, none⟩) (Nat.le_succ _) (.int .i64 K)).setCell (p := ⟨w.heap.size + 1, 1, none⟩) (Nat.le_succ _) (.int .i64 O)).setCell (p := ⟨w.heap.size + 1, 2, none⟩) (Nat.le_succ _) (.int .i64 S)).setCell (p := ⟨w.heap.size + 1, 3, none⟩) (Nat.le_succ _) (.slice a3 Z.length c3)
      have oF := (((o5.set (Nat.lt_succ_self _) 0 (.int .i64 K)).set (Nat.lt_succ_self _) 1 (.int .i64 O)).set (Nat.lt_succ_self _) 2 (.int .i64 S)).set (Nat.lt_succ_self _) 3 (.slice a3 Z.length c3)
      have z5 := (((y5.setOther hne' 0 (.int .i64 K)).setOther hne' 1 (.int .i64 O)).setOther hne' 2 (.int .i64 S)).setOther hne' 3 (.slice a3 Z.length c3)
      have x6 := (((x5.b.setOther hnl 0 (.int .i64 K)).setOther hnl 1 (.int .i64 O)).setOther hnl 2 (.int .i64 S)).setOther hnl 3 (.slice a3 Z.length c3)
      obtain ⟨w6, hw6⟩ : ∃ w6, (((w5.setCell ⟨w.heap.size + 1, 0, none⟩ (.int .i64 K)).setCell ⟨w.heap.size + 1, 1, none⟩ (.int .i64 O)).setCell ⟨w.heap.size + 1, 2, none⟩ (.int .i64 S)).setCell ⟨w.heap.size + 1, 3, none⟩ (.slice a3 Z.length c3) = w6 := ⟨_, rfl⟩
      rw [hw6] at q lF oF z5 x6
      have x7 : LB w.heap.size d s w6 := ⟨x6⟩
      have S6 : w6.cell? ⟨w.heap.size, 0, none⟩ = some (.int .i64 d.ino) ∧ w6.cell? ⟨w.heap.size, 1, none⟩ = some (.int .i64 d.cl) ∧ w6.cell? ⟨w.heap.size, 2, none⟩ = some (.int .i64 d.un) ∧ w6.cell? ⟨w.heap.size, 3, none⟩ = some (.string d.rc) ∧ w6.cell? ⟨w.heap.size, 4, none⟩ = some (.slice s.a1 d.pg.length s.c1) ∧ w6.cell? ⟨w.heap.size, 5, none⟩ = some (.string d.sav) ∧ w6.cell? ⟨w.heap.size, 6, none⟩ = some (.slice s.a2 d.po.length s.c2) ∧ w6.cell? ⟨w.heap.size, 7, none⟩ = some (.slice s.a3 d.fr.length s.c3) ∧ w6.cell? ⟨N, 0, none⟩ = some (.int .i64 K) ∧ w6.cell? ⟨N, 1, none⟩ = some (.int .i64 O) ∧ w6.cell? ⟨N, 2, none⟩ = some (.int .i64 S) ∧ w6.cell? ⟨N, 3, none⟩ = some (.slice a3 Z.length c3) := ⟨x7.c0, x7.c1, x7.c2, x7.c3, x7.c4, x7.c5, x7.c6, x7.c7, z5.c0, z5.c1, z5.c2, z5.c3⟩
      refine Y0.one_skip (i := 17) (w' := w6) (by kernel_rfl) rfl (by rfl) ?_ S6 ?_
      · rw [← hw6]
        go_simp
      simp only [List.getElem_toArray, List.getElem_cons_succ, List.getElem_cons_zero, Act.put, List.setIfInBounds_toArray, List.set_cons_succ, List.set_cons_zero, Nat.reduceAdd]
      clear hw6
      refine wpAnyH_take (i := 18) (v := .bool true) rfl (by kernel_rfl) (by kernel_rfl) (by kernel_rfl) (fun _ _ _ h => h) (Or.inl ⟨by rfl, fun w' hS' => by rfl⟩) S6 ?_
      simp only [List.getElem_toArray, List.getElem_cons_succ, List.getElem_cons_zero, Act.put, List.setIfInBounds_toArray, List.set_cons_succ, List.set_cons_zero, Nat.reduceAdd]
      refine wpAnyH_done (by kernel_rfl) ?_ _
      go_wp2
      exact bodyPost_ret (v := .tuple #[val K O S a3 Z.length c3, .bool true]) (by simp [results, Tryz.results22, go_sem, q.c0, q.c1, q.c2, q.c3]) rfl (HF.out _ lF oF)
    · have hf : stOk d mem d.ino kind = false := by simpa using ht
      have HF : Hid (∀ w', Below w.heap.size w w' → Own (w.heap.size + 2) w' a3 Z → Ans d mem d.ino kind w (.returned (.tuple #[val K O S a3 Z.length c3, .bool false])) w') := fun w' hb ho => HA.out K O S a3 Z.length c3 w' false hf.symm hb (fun h => by rw [hf] at h; cases h)
      rw [hst.out] at hf
      by_cases h2 : N0.loanOk d = true
      · rw [h2] at hlo hf
        by_cases h1 : mem.size = 768
        · have d1 : decide ((mem.size : Int) = 768) = true := by simp; omega
          have d4 : decide (K = kind) = false := by simpa [h1] using hf
          clear h1 h2 hst HA hne ht hf
          refine wp_region_held (S := fun W => W.cell? ⟨w.heap.size, 0, none⟩ = some (.int .i64 d.ino) ∧ W.cell? ⟨w.heap.size, 1, none⟩ = some (.int .i64 d.cl) ∧ W.cell? ⟨w.heap.size, 2, none⟩ = some (.int .i64 d.un) ∧ W.cell? ⟨w.heap.size, 3, none⟩ = some (.string d.rc) ∧ W.cell? ⟨w.heap.size, 4, none⟩ = some (.slice s.a1 d.pg.length s.c1) ∧ W.cell? ⟨w.heap.size, 5, none⟩ = some (.string d.sav) ∧ W.cell? ⟨w.heap.size, 6, none⟩ = some (.slice s.a2 d.po.length s.c2) ∧ W.cell? ⟨w.heap.size, 7, none⟩ = some (.slice s.a3 d.fr.length s.c3) ∧ W.cell? ⟨N, 0, none⟩ = some (.int .i64 K) ∧ W.cell? ⟨N, 1, none⟩ = some (.int .i64 O) ∧ W.cell? ⟨N, 2, none⟩ = some (.int .i64 S) ∧ W.cell? ⟨N, 3, none⟩ = some (.slice a3 Z.length c3)) (by kernel_rfl) ?_
          refine wpAnyH_take (i := 0) (v := val K O S a3 Z.length c3) rfl (by kernel_rfl) (by kernel_rfl) (by kernel_rfl) (fun _ _ _ h => h) (Or.inl ⟨by rfl, fun w' hS' => ?_⟩) S4 ?_
          · obtain ⟨p0, p1, p2, p3, p4, p5, p6, p7, n0, n1, n2, n3⟩ := hS'
            go_simp
          simp only [List.getElem_toArray, List.getElem_cons_succ, List.getElem_cons_zero, Act.put, List.setIfInBounds_toArray, List.set_cons_succ, List.set_cons_zero, Nat.reduceAdd]
          refine wpAnyH_take (i := 1) (v := .bool true) rfl (by kernel_rfl) (by kernel_rfl) (by kernel_rfl) (fun _ _ _ h => h) (Or.inl ⟨by rfl, fun w' hS' => by rfl⟩) S4 ?_
          simp only [List.getElem_toArray, List.getElem_cons_succ, List.getElem_cons_zero, Act.put, List.setIfInBounds_toArray, List.set_cons_succ, List.set_cons_zero, Nat.reduceAdd]
          refine wpAnyH_take (i := 2) (v := .bool true) rfl (by kernel_rfl) (by kernel_rfl) (by kernel_rfl) (fun _ _ _ h => h) (Or.inl ⟨by rfl, fun w' hS' => by rfl⟩) S4 ?_
          simp only [List.getElem_toArray, List.getElem_cons_succ, List.getElem_cons_zero, Act.put, List.setIfInBounds_toArray, List.set_cons_succ, List.set_cons_zero, Nat.reduceAdd]
          refine wpAnyH_take (i := 3) (v := N1.val d s) rfl (by kernel_rfl) (by kernel_rfl) (by kernel_rfl) (fun _ _ _ h => h) (Or.inl ⟨by rfl, fun w' hS' => ?_⟩) S4 ?_
          · obtain ⟨p0, p1, p2, p3, p4, p5, p6, p7, n0, n1, n2, n3⟩ := hS'
            go_simp
          simp only [List.getElem_toArray, List.getElem_cons_succ, List.getElem_cons_zero, Act.put, List.setIfInBounds_toArray, List.set_cons_succ, List.set_cons_zero, Nat.reduceAdd]
          refine Y0.one_callw (i := 4) (by kernel_rfl) rfl (by rfl) (.tmp 21) _ rfl (N1.val d s) (by rfl) (enters_of Tryz.func45 (by kernel_rfl) rfl) ((hlo.out _ (HL.out _ l4.drew)).mono ?_)
          rintro e w5 ⟨rfl, b5⟩
          have l5 := l4.drew.trans (b5.mono l4.drew.size)
          have k5 := k4.drew.below b5
          have y5 := y4.drew.below b5
          have x5 := (x4.below ((Below.refl _ _).drew)).below b5
          have o5 := o4.drew.below b5
          have S5 : w5.cell? ⟨w.heap.size, 0, none⟩ = some (.int .i64 d.ino) ∧ w5.cell? ⟨w.heap.size, 1, none⟩ = some (.int .i64 d.cl) ∧ w5.cell? ⟨w.heap.size, 2, none⟩ = some (.int .i64 d.un) ∧ w5.cell? ⟨w.heap.size, 3, none⟩ = some (.string d.rc) ∧ w5.cell? ⟨w.heap.size, 4, none⟩ = some (.slice s.a1 d.pg.length s.c1) ∧ w5.cell? ⟨w.heap.size, 5, none⟩ = some (.string d.sav) ∧ w5.cell? ⟨w.heap.size, 6, none⟩ = some (.slice s.a2 d.po.length s.c2) ∧ w5.cell? ⟨w.heap.size, 7, none⟩ = some (.slice s.a3 d.fr.length s.c3) ∧ w5.cell? ⟨N, 0, none⟩ = some (.int .i64 K) ∧ w5.cell? ⟨N, 1, none⟩ = some (.int .i64 O) ∧ w5.cell? ⟨N, 2, none⟩ = some (.int .i64 S) ∧ w5.cell? ⟨N, 3, none⟩ = some (.slice a3 Z.length c3) := ⟨x5.c0, x5.c1, x5.c2, x5.c3, x5.c4, x5.c5, x5.c6, x5.c7, y5.c0, y5.c1, y5.c2, y5.c3⟩
          refine ⟨_, rfl, S5, ?_⟩
          simp only [List.getElem_toArray, List.getElem_cons_succ, List.getElem_cons_zero, Act.put, List.setIfInBounds_toArray, List.set_cons_succ, List.set_cons_zero, Nat.reduceAdd]
          refine wpAnyH_take (i := 5) (v := .bool true) rfl (by kernel_rfl) (by kernel_rfl) (by kernel_rfl) (fun _ _ _ h => h) (Or.inl ⟨by rfl, fun w' hS' => by rfl⟩) S5 ?_
          simp only [List.getElem_toArray, List.getElem_cons_succ, List.getElem_cons_zero, Act.put, List.setIfInBounds_toArray, List.set_cons_succ, List.set_cons_zero, Nat.reduceAdd]
          refine wpAnyH_take (i := 6) (v := .bool true) rfl (by kernel_rfl) (by kernel_rfl) (by kernel_rfl) (fun _ _ _ h => h) (Or.inl ⟨by rfl, fun w' hS' => by rfl⟩) S5 ?_
          simp only [List.getElem_toArray, List.getElem_cons_succ, List.getElem_cons_zero, Act.put, List.setIfInBounds_toArray, List.set_cons_succ, List.set_cons_zero, Nat.reduceAdd]
          refine wpAnyH_take (i := 7) (v := .string mem) rfl (by kernel_rfl) (by kernel_rfl) (by kernel_rfl) (fun _ _ _ h => h) (Or.inl ⟨by rfl, fun w' hS' => by rfl⟩) S5 ?_
          simp only [List.getElem_toArray, List.getElem_cons_succ, List.getElem_cons_zero, Act.put, List.setIfInBounds_toArray, List.set_cons_succ, List.set_cons_zero, Nat.reduceAdd]
          refine wpAnyH_take (i := 8) (v := .int .i64 (mem.size : Int)) rfl (by kernel_rfl) (by kernel_rfl) (by kernel_rfl) (fun _ _ _ h => h) (Or.inl ⟨by rfl, fun w' hS' => ?_⟩) S5 ?_
          · obtain ⟨p0, p1, p2, p3, p4, p5, p6, p7, n0, n1, n2, n3⟩ := hS'
            go_simp
          simp only [List.getElem_toArray, List.getElem_cons_succ, List.getElem_cons_zero, Act.put, List.setIfInBounds_toArray, List.set_cons_succ, List.set_cons_zero, Nat.reduceAdd]
          refine wpAnyH_take (i := 9) (v := .bool true) rfl (by kernel_rfl) (by kernel_rfl) (by kernel_rfl) (fun _ _ _ h => h) (Or.inl ⟨by rfl, fun w' hS' => ?_⟩) S5 ?_
          · obtain ⟨p0, p1, p2, p3, p4, p5, p6, p7, n0, n1, n2, n3⟩ := hS'
            (go_simp; first | exact of_decide_eq_true d1 | exact of_decide_eq_false d1)
          simp only [List.getElem_toArray, List.getElem_cons_succ, List.getElem_cons_zero, Act.put, List.setIfInBounds_toArray, List.set_cons_succ, List.set_cons_zero, Nat.reduceAdd]
          refine wpAnyH_take (i := 10) (v := .bool true) rfl (by kernel_rfl) (by kernel_rfl) (by kernel_rfl) (fun _ _ _ h => h) (Or.inl ⟨by rfl, fun w' hS' => by rfl⟩) S5 ?_
          simp only [List.getElem_toArray, List.getElem_cons_succ, List.getElem_cons_zero, Act.put, List.setIfInBounds_toArray, List.set_cons_succ, List.set_cons_zero, Nat.reduceAdd]
          refine wpAnyH_take (i := 11) (v := .bool true) rfl (by kernel_rfl) (by kernel_rfl) (by kernel_rfl) (fun _ _ _ h => h) (Or.inl ⟨by rfl, fun w' hS' => by rfl⟩) S5 ?_
          simp only [List.getElem_toArray, List.getElem_cons_succ, List.getElem_cons_zero, Act.put, List.setIfInBounds_toArray, List.set_cons_succ, List.set_cons_zero, Nat.reduceAdd]
          refine wpAnyH_take (i := 12) (v := .pointer (some ⟨N, 0, none⟩)) rfl (by kernel_rfl) (by kernel_rfl) (by kernel_rfl) (fun _ _ _ h => h) (Or.inl ⟨by rfl, fun w' hS' => by rfl⟩) S5 ?_
          simp only [List.getElem_toArray, List.getElem_cons_succ, List.getElem_cons_zero, Act.put, List.setIfInBounds_toArray, List.set_cons_succ, List.set_cons_zero, Nat.reduceAdd]
          refine wpAnyH_take (i := 13) (v := .int .i64 K) rfl (by kernel_rfl) (by kernel_rfl) (by kernel_rfl) (fun _ _ _ h => h) (Or.inl ⟨by rfl, fun w' hS' => ?_⟩) S5 ?_
          · obtain ⟨p0, p1, p2, p3, p4, p5, p6, p7, n0, n1, n2, n3⟩ := hS'
            go_simp
          simp only [List.getElem_toArray, List.getElem_cons_succ, List.getElem_cons_zero, Act.put, List.setIfInBounds_toArray, List.set_cons_succ, List.set_cons_zero, Nat.reduceAdd]
          refine wpAnyH_take (i := 14) (v := .int .i64 kind) rfl (by kernel_rfl) (by kernel_rfl) (by kernel_rfl) (fun _ _ _ h => h) (Or.inl ⟨by rfl, fun w' hS' => by rfl⟩) S5 ?_
          simp only [List.getElem_toArray, List.getElem_cons_succ, List.getElem_cons_zero, Act.put, List.setIfInBounds_toArray, List.set_cons_succ, List.set_cons_zero, Nat.reduceAdd]
          refine wpAnyH_take (i := 15) (v := .bool false) rfl (by kernel_rfl) (by kernel_rfl) (by kernel_rfl) (fun _ _ _ h => h) (Or.inl ⟨by rfl, fun w' hS' => ?_⟩) S5 ?_
          · obtain ⟨p0, p1, p2, p3, p4, p5, p6, p7, n0, n1, n2, n3⟩ := hS'
            (go_simp; first | exact of_decide_eq_true d4 | exact of_decide_eq_false d4)
          simp only [List.getElem_toArray, List.getElem_cons_succ, List.getElem_cons_zero, Act.put, List.setIfInBounds_toArray, List.set_cons_succ, List.set_cons_zero, Nat.reduceAdd]
          refine wpAnyH_take (i := 16) (v := .bool false) rfl (by kernel_rfl) (by kernel_rfl) (by kernel_rfl) (fun _ _ _ h => h) (Or.inl ⟨by rfl, fun w' hS' => by rfl⟩) S5 ?_
          simp only [List.getElem_toArray, List.getElem_cons_succ, List.getElem_cons_zero, Act.put, List.setIfInBounds_toArray, List.set_cons_succ, List.set_cons_zero, Nat.reduceAdd]
          have r0 := k5.c0
          have r1 := k5.c1
          have r2 := k5.c2
          have r3 := k5.c3
          have g0 := k5.f0
          have g1 := k5.f1
          have g2 := k5.f2
          have g3 := k5.f3
          have q := k5.put4 (.int .i64 K) (.int .i64 O) (.int .i64 S) (.slice a3 Z.length c3)
          have lF := (((l5.setCell (p := ⟨w.heap.size + 1, 0, none⟩) (Nat.le_succ _) (.int .i64 K)).setCell (p := ⟨w.heap.size + 1, 1, none⟩) (Nat.le_succ _) (.int .i64 O)).setCell (p := ⟨w.heap.size + 1, 2, none⟩) (Nat.le_succ _) (.int .i64 S)).setCell (p := ⟨w.heap.size + 1, 3, none⟩) (Nat.le_succ _) (.slice a3 Z.length c3)
          have oF := (((o5.set (Nat.lt_succ_self _) 0 (.int .i64 K)).set (Nat.lt_succ_self _) 1 (.int .i64 O)).set (Nat.lt_succ_self _) 2 (.int .i64 S)).set (Nat.lt_succ_self _) 3 (.slice a3 Z.length c3)
          have z5 := (((y5.setOther hne' 0 (.int .i64 K)).setOther hne' 1 (.int .i64 O)).setOther hne' 2 (.int .i64 S)).setOther hne' 3 (.slice a3 Z.length c3)
          have x6 := (((x5.b.setOther hnl 0 (.int .i64 K)).setOther hnl 1 (.int .i64 O)).setOther hnl 2 (.int .i64 S)).setOther hnl 3 (.slice a3 Z.length c3)
          obtain ⟨w6, hw6⟩ : ∃ w6, (((w5.setCell ⟨w.heap.size + 1, 0, none⟩ (.int .i64 K)).setCell ⟨w.heap.size + 1, 1, none⟩ (.int .i64 O)).setCell ⟨w.heap.size + 1, 2, none⟩ (.int .i64 S)).setCell ⟨w.heap.size + 1, 3, none⟩ (.slice a3 Z.length c3) = w6 := ⟨_, rfl⟩
          rw [hw6] at q lF oF z5 x6
          have x7 : LB w.heap.size d s w6 := ⟨x6⟩
          have S6 : w6.cell? ⟨w.heap.size, 0, none⟩ = some (.int .i64 d.ino) ∧ w6.cell? ⟨w.heap.size, 1, none⟩ = some (.int .i64 d.cl) ∧ w6.cell? ⟨w.heap.size, 2, none⟩ = some (.int .i64 d.un) ∧ w6.cell? ⟨w.heap.size, 3, none⟩ = some (.string d.rc) ∧ w6.cell? ⟨w.heap.size, 4, none⟩ = some (.slice s.a1 d.pg.length s.c1) ∧ w6.cell? ⟨w.heap.size, 5, none⟩ = some (.string d.sav) ∧ w6.cell? ⟨w.heap.size, 6, none⟩ = some (.slice s.a2 d.po.length s.c2) ∧ w6.cell? ⟨w.heap.size, 7, none⟩ = some (.slice s.a3 d.fr.length s.c3) ∧ w6.cell? ⟨N, 0, none⟩ = some (.int .i64 K) ∧ w6.cell? ⟨N, 1, none⟩ = some (.int .i64 O) ∧ w6.cell? ⟨N, 2, none⟩ = some (.int .i64 S) ∧ w6.cell? ⟨N, 3, none⟩ = some (.slice a3 Z.length c3) := ⟨x7.c0, x7.c1, x7.c2, x7.c3, x7.c4, x7.c5, x7.c6, x7.c7, z5.c0, z5.c1, z5.c2, z5.c3⟩
          refine Y0.one_skip (i := 17) (w' := w6) (by kernel_rfl) rfl (by rfl) ?_ S6 ?_
          · rw [← hw6]
            go_simp
          simp only [List.getElem_toArray, List.getElem_cons_succ, List.getElem_cons_zero, Act.put, List.setIfInBounds_toArray, List.set_cons_succ, List.set_cons_zero, Nat.reduceAdd]
          clear hw6
          refine wpAnyH_take (i := 18) (v := .bool false) rfl (by kernel_rfl) (by kernel_rfl) (by kernel_rfl) (fun _ _ _ h => h) (Or.inl ⟨by rfl, fun w' hS' => by rfl⟩) S6 ?_
          simp only [List.getElem_toArray, List.getElem_cons_succ, List.getElem_cons_zero, Act.put, List.setIfInBounds_toArray, List.set_cons_succ, List.set_cons_zero, Nat.reduceAdd]
          refine wpAnyH_done (by kernel_rfl) ?_ _
          go_wp2
          exact bodyPost_ret (v := .tuple #[val K O S a3 Z.length c3, .bool false]) (by simp [results, Tryz.results22, go_sem, q.c0, q.c1, q.c2, q.c3]) rfl (HF.out _ lF oF)
        · have d1 : decide ((mem.size : Int) = 768) = false := by simp; omega
          clear h1 h2 hst HA hne ht hf
          refine wp_region_held (S := fun W => W.cell? ⟨w.heap.size, 0, none⟩ = some (.int .i64 d.ino) ∧ W.cell? ⟨w.heap.size, 1, none⟩ = some (.int .i64 d.cl) ∧ W.cell? ⟨w.heap.size, 2, none⟩ = some (.int .i64 d.un) ∧ W.cell? ⟨w.heap.size, 3, none⟩ = some (.string d.rc) ∧ W.cell? ⟨w.heap.size, 4, none⟩ = some (.slice s.a1 d.pg.length s.c1) ∧ W.cell? ⟨w.heap.size, 5, none⟩ = some (.string d.sav) ∧ W.cell? ⟨w.heap.size, 6, none⟩ = some (.slice s.a2 d.po.length s.c2) ∧ W.cell? ⟨w.heap.size, 7, none⟩ = some (.slice s.a3 d.fr.length s.c3) ∧ W.cell? ⟨N, 0, none⟩ = some (.int .i64 K) ∧ W.cell? ⟨N, 1, none⟩ = some (.int .i64 O) ∧ W.cell? ⟨N, 2, none⟩ = some (.int .i64 S) ∧ W.cell? ⟨N, 3, none⟩ = some (.slice a3 Z.length c3)) (by kernel_rfl) ?_
          refine wpAnyH_take (i := 0) (v := val K O S a3 Z.length c3) rfl (by kernel_rfl) (by kernel_rfl) (by kernel_rfl) (fun _ _ _ h => h) (Or.inl ⟨by rfl, fun w' hS' => ?_⟩) S4 ?_
          · obtain ⟨p0, p1, p2, p3, p4, p5, p6, p7, n0, n1, n2, n3⟩ := hS'
            go_simp
          simp only [List.getElem_toArray, List.getElem_cons_succ, List.getElem_cons_zero, Act.put, List.setIfInBounds_toArray, List.set_cons_succ, List.set_cons_zero, Nat.reduceAdd]
          refine wpAnyH_take (i := 1) (v := .bool true) rfl (by kernel_rfl) (by kernel_rfl) (by kernel_rfl) (fun _ _ _ h => h) (Or.inl ⟨by rfl, fun w' hS' => by rfl⟩) S4 ?_
          simp only [List.getElem_toArray, List.getElem_cons_succ, List.getElem_cons_zero, Act.put, List.setIfInBounds_toArray, List.set_cons_succ, List.set_cons_zero, Nat.reduceAdd]
          refine wpAnyH_take (i := 2) (v := .bool true) rfl (by kernel_rfl) (by kernel_rfl) (by kernel_rfl) (fun _ _ _ h => h) (Or.inl ⟨by rfl, fun w' hS' => by rfl⟩) S4 ?_
          simp only [List.getElem_toArray, List.getElem_cons_succ, List.getElem_cons_zero, Act.put, List.setIfInBounds_toArray, List.set_cons_succ, List.set_cons_zero, Nat.reduceAdd]
          refine wpAnyH_take (i := 3) (v := N1.val d s) rfl (by kernel_rfl) (by kernel_rfl) (by kernel_rfl) (fun _ _ _ h => h) (Or.inl ⟨by rfl, fun w' hS' => ?_⟩) S4 ?_
          · obtain ⟨p0, p1, p2, p3, p4, p5, p6, p7, n0, n1, n2, n3⟩ := hS'
            go_simp
          simp only [List.getElem_toArray, List.getElem_cons_succ, List.getElem_cons_zero, Act.put, List.setIfInBounds_toArray, List.set_cons_succ, List.set_cons_zero, Nat.reduceAdd]
          refine Y0.one_callw (i := 4) (by kernel_rfl) rfl (by rfl) (.tmp 21) _ rfl (N1.val d s) (by rfl) (enters_of Tryz.func45 (by kernel_rfl) rfl) ((hlo.out _ (HL.out _ l4.drew)).mono ?_)
          rintro e w5 ⟨rfl, b5⟩
          have l5 := l4.drew.trans (b5.mono l4.drew.size)
          have k5 := k4.drew.below b5
          have y5 := y4.drew.below b5
          have x5 := (x4.below ((Below.refl _ _).drew)).below b5
          have o5 := o4.drew.below b5
          have S5 : w5.cell? ⟨w.heap.size, 0, none⟩ = some (.int .i64 d.ino) ∧ w5.cell? ⟨w.heap.size, 1, none⟩ = some (.int .i64 d.cl) ∧ w5.cell? ⟨w.heap.size, 2, none⟩ = some (.int .i64 d.un) ∧ w5.cell? ⟨w.heap.size, 3, none⟩ = some (.string d.rc) ∧ w5.cell? ⟨w.heap.size, 4, none⟩ = some (.slice s.a1 d.pg.length s.c1) ∧ w5.cell? ⟨w.heap.size, 5, none⟩ = some (.string d.sav) ∧ w5.cell? ⟨w.heap.size, 6, none⟩ = some (.slice s.a2 d.po.length s.c2) ∧ w5.cell? ⟨w.heap.size, 7, none⟩ = some (.slice s.a3 d.fr.length s.c3) ∧ w5.cell? ⟨N, 0, none⟩ = some (.int .i64 K) ∧ w5.cell? ⟨N, 1, none⟩ = some (.int .i64 O) ∧ w5.cell? ⟨N, 2, none⟩ = some (.int .i64 S) ∧ w5.cell? ⟨N, 3, none⟩ = some (.slice a3 Z.length c3) := ⟨x5.c0, x5.c1, x5.c2, x5.c3, x5.c4, x5.c5, x5.c6, x5.c7, y5.c0, y5.c1, y5.c2, y5.c3⟩
          refine ⟨_, rfl, S5, ?_⟩
          simp only [List.getElem_toArray, List.getElem_cons_succ, List.getElem_cons_zero, Act.put, List.setIfInBounds_toArray, List.set_cons_succ, List.set_cons_zero, Nat.reduceAdd]
          refine wpAnyH_take (i := 5) (v := .bool true) rfl (by kernel_rfl) (by kernel_rfl) (by kernel_rfl) (fun _ _ _ h => h) (Or.inl ⟨by rfl, fun w' hS' => by rfl⟩) S5 ?_
          simp only [List.getElem_toArray, List.getElem_cons_succ, List.getElem_cons_zero, Act.put, List.setIfInBounds_toArray, List.set_cons_succ, List.set_cons_zero, Nat.reduceAdd]
          refine wpAnyH_take (i := 6) (v := .bool true) rfl (by kernel_rfl) (by kernel_rfl) (by kernel_rfl) (fun _ _ _ h => h) (Or.inl ⟨by rfl, fun w' hS' => by rfl⟩) S5 ?_
          simp only [List.getElem_toArray, List.getElem_cons_succ, List.getElem_cons_zero, Act.put, List.setIfInBounds_toArray, List.set_cons_succ, List.set_cons_zero, Nat.reduceAdd]
          refine wpAnyH_take (i := 7) (v := .string mem) rfl (by kernel_rfl) (by kernel_rfl) (by kernel_rfl) (fun _ _ _ h => h) (Or.inl ⟨by rfl, fun w' hS' => by rfl⟩) S5 ?_
          simp only [List.getElem_toArray, List.getElem_cons_succ, List.getElem_cons_zero, Act.put, List.setIfInBounds_toArray, List.set_cons_succ, List.set_cons_zero, Nat.reduceAdd]
          refine wpAnyH_take (i := 8) (v := .int .i64 (mem.size : Int)) rfl (by kernel_rfl) (by kernel_rfl) (by kernel_rfl) (fun _ _ _ h => h) (Or.inl ⟨by rfl, fun w' hS' => ?_⟩) S5 ?_
          · obtain ⟨p0, p1, p2, p3, p4, p5, p6, p7, n0, n1, n2, n3⟩ := hS'
            go_simp
          simp only [List.getElem_toArray, List.getElem_cons_succ, List.getElem_cons_zero, Act.put, List.setIfInBounds_toArray, List.set_cons_succ, List.set_cons_zero, Nat.reduceAdd]
          refine wpAnyH_take (i := 9) (v := .bool false) rfl (by kernel_rfl) (by kernel_rfl) (by kernel_rfl) (fun _ _ _ h => h) (Or.inl ⟨by rfl, fun w' hS' => ?_⟩) S5 ?_
          · obtain ⟨p0, p1, p2, p3, p4, p5, p6, p7, n0, n1, n2, n3⟩ := hS'
            (go_simp; first | exact of_decide_eq_true d1 | exact of_decide_eq_false d1)
          simp only [List.getElem_toArray, List.getElem_cons_succ, List.getElem_cons_zero, Act.put, List.setIfInBounds_toArray, List.set_cons_succ, List.set_cons_zero, Nat.reduceAdd]
          refine wpAnyH_take (i := 10) (v := .bool false) rfl (by kernel_rfl) (by kernel_rfl) (by kernel_rfl) (fun _ _ _ h => h) (Or.inl ⟨by rfl, fun w' hS' => by rfl⟩) S5 ?_
          simp only [List.getElem_toArray, List.getElem_cons_succ, List.getElem_cons_zero, Act.put, List.setIfInBounds_toArray, List.set_cons_succ, List.set_cons_zero, Nat.reduceAdd]
          refine wpAnyH_take (i := 11) (v := .bool false) rfl (by kernel_rfl) (by kernel_rfl) (by kernel_rfl) (fun _ _ _ h => h) (Or.inl ⟨by rfl, fun w' hS' => by rfl⟩) S5 ?_
          simp only [List.getElem_toArray, List.getElem_cons_succ, List.getElem_cons_zero, Act.put, List.setIfInBounds_toArray, List.set_cons_succ, List.set_cons_zero, Nat.reduceAdd]
          refine wpAnyH_take (i := 12) (v := undef) rfl (by kernel_rfl) (by kernel_rfl) (by kernel_rfl) (fun _ _ _ h => h) (Or.inr ⟨by rfl, rfl⟩) S5 ?_
          simp only [List.getElem_toArray, List.getElem_cons_succ, List.getElem_cons_zero, Act.put, List.setIfInBounds_toArray, List.set_cons_succ, List.set_cons_zero, Nat.reduceAdd]
          refine wpAnyH_take (i := 13) (v := undef) rfl (by kernel_rfl) (by kernel_rfl) (by kernel_rfl) (fun _ _ _ h => h) (Or.inr ⟨by rfl, rfl⟩) S5 ?_
          simp only [List.getElem_toArray, List.getElem_cons_succ, List.getElem_cons_zero, Act.put, List.setIfInBounds_toArray, List.set_cons_succ, List.set_cons_zero, Nat.reduceAdd]
          refine wpAnyH_take (i := 14) (v := undef) rfl (by kernel_rfl) (by kernel_rfl) (by kernel_rfl) (fun _ _ _ h => h) (Or.inr ⟨by rfl, rfl⟩) S5 ?_
          simp only [List.getElem_toArray, List.getElem_cons_succ, List.getElem_cons_zero, Act.put, List.setIfInBounds_toArray, List.set_cons_succ, List.set_cons_zero, Nat.reduceAdd]
          refine wpAnyH_take (i := 15) (v := undef) rfl (by kernel_rfl) (by kernel_rfl) (by kernel_rfl) (fun _ _ _ h => h) (Or.inr ⟨by rfl, rfl⟩) S5 ?_
          simp only [List.getElem_toArray, List.getElem_cons_succ, List.getElem_cons_zero, Act.put, List.setIfInBounds_toArray, List.set_cons_succ, List.set_cons_zero, Nat.reduceAdd]
          refine wpAnyH_take (i := 16) (v := .bool false) rfl (by kernel_rfl) (by kernel_rfl) (by kernel_rfl) (fun _ _ _ h => h) (Or.inl ⟨by rfl, fun w' hS' => by rfl⟩) S5 ?_
          simp only [List.getElem_toArray, List.getElem_cons_succ, List.getElem_cons_zero, Act.put, List.setIfInBounds_toArray, List.set_cons_succ, List.set_cons_zero, Nat.reduceAdd]
          have r0 := k5.c0
          have r1 := k5.c1
          have r2 := k5.c2
          have r3 := k5.c3
          have g0 := k5.f0
          have g1 := k5.f1
          have g2 := k5.f2
          have g3 := k5.f3
          have q := k5.put4 (.int .i64 K) (.int .i64 O) (.int .i64 S) (.slice a3 Z.length c3)
          have lF := (((l5.setCell (p := ⟨w.heap.size + 1, 0, none⟩) (Nat.le_succ _) (.int .i64 K)).setCell (p := ⟨w.heap.size + 1, 1, none⟩) (Nat.le_succ _) (.int .i64 O)).setCell (p := ⟨w.heap.size + 1, 2, none⟩) (Nat.le_succ _) (.int .i64 S)).setCell (p := ⟨w.heap.size + 1, 3, none⟩) (Nat.le_succ _) (.slice a3 Z.length c3)
          have oF := (((o5.set (Nat.lt_succ_self _) 0 (.int .i64 K)).set (Nat.lt_succ_self _) 1 (.int .i64 O)).set (Nat.lt_succ_self _) 2 (.int .i64 S)).set (Nat.lt_succ_self _) 3 (.slice a3 Z.length c3)
          have z5 := (((y5.setOther hne' 0 (.int .i64 K)).setOther hne' 1 (.int .i64 O)).setOther hne' 2 (.int .i64 S)).setOther hne' 3 (.slice a3 Z.length c3)
          have x6 := (((x5.b.setOther hnl 0 (.int .i64 K)).setOther hnl 1 (.int .i64 O)).setOther hnl 2 (.int .i64 S)).setOther hnl 3 (.slice a3 Z.length c3)
          obtain ⟨w6, hw6⟩ : ∃ w6, (((w5.setCell ⟨w.heap.size + 1, 0, none⟩ (.int .i64 K)).setCell ⟨w.heap.size + 1, 1, none⟩ (.int .i64 O)).setCell ⟨w.heap.size + 1, 2, none⟩ (.int .i64 S)).setCell ⟨w.heap.size + 1, 3, none⟩ (.slice a3 Z.length c3) = w6 := ⟨_, rfl⟩
          rw [hw6] at q lF oF z5 x6
          have x7 : LB w.heap.size d s w6 := ⟨x6⟩
          have S6 : w6.cell? ⟨w.heap.size, 0, none⟩ = some (.int .i64 d.ino) ∧ w6.cell? ⟨w.heap.size, 1, none⟩ = some (.int .i64 d.cl) ∧ w6.cell? ⟨w.heap.size, 2, none⟩ = some (.int .i64 d.un) ∧ w6.cell? ⟨w.heap.size, 3, none⟩ = some (.string d.rc) ∧ w6.cell? ⟨w.heap.size, 4, none⟩ = some (.slice s.a1 d.pg.length s.c1) ∧ w6.cell? ⟨w.heap.size, 5, none⟩ = some (.string d.sav) ∧ w6.cell? ⟨w.heap.size, 6, none⟩ = some (.slice s.a2 d.po.length s.c2) ∧ w6.cell? ⟨w.heap.size, 7, none⟩ = some (.slice s.a3 d.fr.length s.c3) ∧ w6.cell? ⟨N, 0, none⟩ = some (.int .i64 K) ∧ w6.cell? ⟨N, 1, none⟩ = some (.int .i64 O) ∧ w6.cell? ⟨N, 2, none⟩ = some (.int .i64 S) ∧ w6.cell? ⟨N, 3, none⟩ = some (.slice a3 Z.length c3) := ⟨x7.c0, x7.c1, x7.c2, x7.c3, x7.c4, x7.c5, x7.c6, x7.c7, z5.c0, z5.c1, z5.c2, z5.c3⟩
          refine Y0.one_skip (i := 17) (w' := w6) (by kernel_rfl) rfl (by rfl) ?_ S6 ?_
          · rw [← hw6]
            go_simp
          simp only [List.getElem_toArray, List.getElem_cons_succ, List.getElem_cons_zero, Act.put, List.setIfInBounds_toArray, List.set_cons_succ, List.set_cons_zero, Nat.reduceAdd]
          clear hw6
          refine wpAnyH_take (i := 18) (v := .bool false) rfl (by kernel_rfl) (by kernel_rfl) (by kernel_rfl) (fun _ _ _ h => h) (Or.inl ⟨by rfl, fun w' hS' => by rfl⟩) S6 ?_
          simp only [List.getElem_toArray, List.getElem_cons_succ, List.getElem_cons_zero, Act.put, List.setIfInBounds_toArray, List.set_cons_succ, List.set_cons_zero, Nat.reduceAdd]
          refine wpAnyH_done (by kernel_rfl) ?_ _
          go_wp2
          exact bodyPost_ret (v := .tuple #[val K O S a3 Z.length c3, .bool false]) (by simp [results, Tryz.results22, go_sem, q.c0, q.c1, q.c2, q.c3]) rfl (HF.out _ lF oF)
      · have h2' : N0.loanOk d = false := by simpa using h2
        rw [h2'] at hlo
        clear h2 h2' hst HA hne ht hf
        refine wp_region_held (S := fun W => W.cell? ⟨w.heap.size, 0, none⟩ = some (.int .i64 d.ino) ∧ W.cell? ⟨w.heap.size, 1, none⟩ = some (.int .i64 d.cl) ∧ W.cell? ⟨w.heap.size, 2, none⟩ = some (.int .i64 d.un) ∧ W.cell? ⟨w.heap.size, 3, none⟩ = some (.string d.rc) ∧ W.cell? ⟨w.heap.size, 4, none⟩ = some (.slice s.a1 d.pg.length s.c1) ∧ W.cell? ⟨w.heap.size, 5, none⟩ = some (.string d.sav) ∧ W.cell? ⟨w.heap.size, 6, none⟩ = some (.slice s.a2 d.po.length s.c2) ∧ W.cell? ⟨w.heap.size, 7, none⟩ = some (.slice s.a3 d.fr.length s.c3) ∧ W.cell? ⟨N, 0, none⟩ = some (.int .i64 K) ∧ W.cell? ⟨N, 1, none⟩ = some (.int .i64 O) ∧ W.cell? ⟨N, 2, none⟩ = some (.int .i64 S) ∧ W.cell? ⟨N, 3, none⟩ = some (.slice a3 Z.length c3)) (by kernel_rfl) ?_
        refine wpAnyH_take (i := 0) (v := val K O S a3 Z.length c3) rfl (by kernel_rfl) (by kernel_rfl) (by kernel_rfl) (fun _ _ _ h => h) (Or.inl ⟨by rfl, fun w' hS' => ?_⟩) S4 ?_
        · obtain ⟨p0, p1, p2, p3, p4, p5, p6, p7, n0, n1, n2, n3⟩ := hS'
          go_simp
        simp only [List.getElem_toArray, List.getElem_cons_succ, List.getElem_cons_zero, Act.put, List.setIfInBounds_toArray, List.set_cons_succ, List.set_cons_zero, Nat.reduceAdd]
        refine wpAnyH_take (i := 1) (v := .bool true) rfl (by kernel_rfl) (by kernel_rfl) (by kernel_rfl) (fun _ _ _ h => h) (Or.inl ⟨by rfl, fun w' hS' => by rfl⟩) S4 ?_
        simp only [List.getElem_toArray, List.getElem_cons_succ, List.getElem_cons_zero, Act.put, List.setIfInBounds_toArray, List.set_cons_succ, List.set_cons_zero, Nat.reduceAdd]
        refine wpAnyH_take (i := 2) (v := .bool true) rfl (by kernel_rfl) (by kernel_rfl) (by kernel_rfl) (fun _ _ _ h => h) (Or.inl ⟨by rfl, fun w' hS' => by rfl⟩) S4 ?_
        simp only [List.getElem_toArray, List.getElem_cons_succ, List.getElem_cons_zero, Act.put, List.setIfInBounds_toArray, List.set_cons_succ, List.set_cons_zero, Nat.reduceAdd]
        refine wpAnyH_take (i := 3) (v := N1.val d s) rfl (by kernel_rfl) (by kernel_rfl) (by kernel_rfl) (fun _ _ _ h => h) (Or.inl ⟨by rfl, fun w' hS' => ?_⟩) S4 ?_
        · obtain ⟨p0, p1, p2, p3, p4, p5, p6, p7, n0, n1, n2, n3⟩ := hS'
          go_simp
        simp only [List.getElem_toArray, List.getElem_cons_succ, List.getElem_cons_zero, Act.put, List.setIfInBounds_toArray, List.set_cons_succ, List.set_cons_zero, Nat.reduceAdd]
        refine Y0.one_callw (i := 4) (by kernel_rfl) rfl (by rfl) (.tmp 21) _ rfl (N1.val d s) (by rfl) (enters_of Tryz.func45 (by kernel_rfl) rfl) ((hlo.out _ (HL.out _ l4.drew)).mono ?_)
        rintro e w5 ⟨rfl, b5⟩
        have l5 := l4.drew.trans (b5.mono l4.drew.size)
        have k5 := k4.drew.below b5
        have y5 := y4.drew.below b5
        have x5 := (x4.below ((Below.refl _ _).drew)).below b5
        have o5 := o4.drew.below b5
        have S5 : w5.cell? ⟨w.heap.size, 0, none⟩ = some (.int .i64 d.ino) ∧ w5.cell? ⟨w.heap.size, 1, none⟩ = some (.int .i64 d.cl) ∧ w5.cell? ⟨w.heap.size, 2, none⟩ = some (.int .i64 d.un) ∧ w5.cell? ⟨w.heap.size, 3, none⟩ = some (.string d.rc) ∧ w5.cell? ⟨w.heap.size, 4, none⟩ = some (.slice s.a1 d.pg.length s.c1) ∧ w5.cell? ⟨w.heap.size, 5, none⟩ = some (.string d.sav) ∧ w5.cell? ⟨w.heap.size, 6, none⟩ = some (.slice s.a2 d.po.length s.c2) ∧ w5.cell? ⟨w.heap.size, 7, none⟩ = some (.slice s.a3 d.fr.length s.c3) ∧ w5.cell? ⟨N, 0, none⟩ = some (.int .i64 K) ∧ w5.cell? ⟨N, 1, none⟩ = some (.int .i64 O) ∧ w5.cell? ⟨N, 2, none⟩ = some (.int .i64 S) ∧ w5.cell? ⟨N, 3, none⟩ = some (.slice a3 Z.length c3) := ⟨x5.c0, x5.c1, x5.c2, x5.c3, x5.c4, x5.c5, x5.c6, x5.c7, y5.c0, y5.c1, y5.c2, y5.c3⟩
        refine ⟨_, rfl, S5, ?_⟩
        simp only [List.getElem_toArray, List.getElem_cons_succ, List.getElem_cons_zero, Act.put, List.setIfInBounds_toArray, List.set_cons_succ, List.set_cons_zero, Nat.reduceAdd]
        refine wpAnyH_take (i := 5) (v := .bool false) rfl (by kernel_rfl) (by kernel_rfl) (by kernel_rfl) (fun _ _ _ h => h) (Or.inl ⟨by rfl, fun w' hS' => by rfl⟩) S5 ?_
        simp only [List.getElem_toArray, List.getElem_cons_succ, List.getElem_cons_zero, Act.put, List.setIfInBounds_toArray, List.set_cons_succ, List.set_cons_zero, Nat.reduceAdd]
        refine wpAnyH_take (i := 6) (v := .bool false) rfl (by kernel_rfl) (by kernel_rfl) (by kernel_rfl) (fun _ _ _ h => h) (Or.inl ⟨by rfl, fun w' hS' => by rfl⟩) S5 ?_
        simp only [List.getElem_toArray, List.getElem_cons_succ, List.getElem_cons_zero, Act.put, List.setIfInBounds_toArray, List.set_cons_succ, List.set_cons_zero, Nat.reduceAdd]
        refine wpAnyH_take (i := 7) (v := undef) rfl (by kernel_rfl) (by kernel_rfl) (by kernel_rfl) (fun _ _ _ h => h) (Or.inr ⟨by rfl, rfl⟩) S5 ?_
        simp only [List.getElem_toArray, List.getElem_cons_succ, List.getElem_cons_zero, Act.put, List.setIfInBounds_toArray, List.set_cons_succ, List.set_cons_zero, Nat.reduceAdd]
        refine wpAnyH_take (i := 8) (v := undef) rfl (by kernel_rfl) (by kernel_rfl) (by kernel_rfl) (fun _ _ _ h => h) (Or.inr ⟨by rfl, rfl⟩) S5 ?_
        simp only [List.getElem_toArray, List.getElem_cons_succ, List.getElem_cons_zero, Act.put, List.setIfInBounds_toArray, List.set_cons_succ, List.set_cons_zero, Nat.reduceAdd]
        refine wpAnyH_take (i := 9) (v := undef) rfl (by kernel_rfl) (by kernel_rfl) (by kernel_rfl) (fun _ _ _ h => h) (Or.inr ⟨by rfl, rfl⟩) S5 ?_
        simp only [List.getElem_toArray, List.getElem_cons_succ, List.getElem_cons_zero, Act.put, List.setIfInBounds_toArray, List.set_cons_succ, List.set_cons_zero, Nat.reduceAdd]
        refine wpAnyH_take (i := 10) (v := .bool false) rfl (by kernel_rfl) (by kernel_rfl) (by kernel_rfl) (fun _ _ _ h => h) (Or.inl ⟨by rfl, fun w' hS' => by rfl⟩) S5 ?_
        simp only [List.getElem_toArray, List.getElem_cons_succ, List.getElem_cons_zero, Act.put, List.setIfInBounds_toArray, List.set_cons_succ, List.set_cons_zero, Nat.reduceAdd]
        refine wpAnyH_take (i := 11) (v := .bool false) rfl (by kernel_rfl) (by kernel_rfl) (by kernel_rfl) (fun _ _ _ h => h) (Or.inl ⟨by rfl, fun w' hS' => by rfl⟩) S5 ?_
        simp only [List.getElem_toArray, List.getElem_cons_succ, List.getElem_cons_zero, Act.put, List.setIfInBounds_toArray, List.set_cons_succ, List.set_cons_zero, Nat.reduceAdd]
        refine wpAnyH_take (i := 12) (v := undef) rfl (by kernel_rfl) (by kernel_rfl) (by kernel_rfl) (fun _ _ _ h => h) (Or.inr ⟨by rfl, rfl⟩) S5 ?_
        simp only [List.getElem_toArray, List.getElem_cons_succ, List.getElem_cons_zero, Act.put, List.setIfInBounds_toArray, List.set_cons_succ, List.set_cons_zero, Nat.reduceAdd]
        refine wpAnyH_take (i := 13) (v := undef) rfl (by kernel_rfl) (by kernel_rfl) (by kernel_rfl) (fun _ _ _ h => h) (Or.inr ⟨by rfl, rfl⟩) S5 ?_
        simp only [List.getElem_toArray, List.getElem_cons_succ, List.getElem_cons_zero, Act.put, List.setIfInBounds_toArray, List.set_cons_succ, List.set_cons_zero, Nat.reduceAdd]
        refine wpAnyH_take (i := 14) (v := undef) rfl (by kernel_rfl) (by kernel_rfl) (by kernel_rfl) (fun _ _ _ h => h) (Or.inr ⟨by rfl, rfl⟩) S5 ?_
        simp only [List.getElem_toArray, List.getElem_cons_succ, List.getElem_cons_zero, Act.put, List.setIfInBounds_toArray, List.set_cons_succ, List.set_cons_zero, Nat.reduceAdd]
        refine wpAnyH_take (i := 15) (v := undef) rfl (by kernel_rfl) (by kernel_rfl) (by kernel_rfl) (fun _ _ _ h => h) (Or.inr ⟨by rfl, rfl⟩) S5 ?_
        simp only [List.getElem_toArray, List.getElem_cons_succ, List.getElem_cons_zero, Act.put, List.setIfInBounds_toArray, List.set_cons_succ, List.set_cons_zero, Nat.reduceAdd]
        refine wpAnyH_take (i := 16) (v := .bool false) rfl (by kernel_rfl) (by kernel_rfl) (by kernel_rfl) (fun _ _ _ h => h) (Or.inl ⟨by rfl, fun w' hS' => by rfl⟩) S5 ?_
        simp only [List.getElem_toArray, List.getElem_cons_succ, List.getElem_cons_zero, Act.put, List.setIfInBounds_toArray, List.set_cons_succ, List.set_cons_zero, Nat.reduceAdd]
        have r0 := k5.c0
        have r1 := k5.c1
        have r2 := k5.c2
        have r3 := k5.c3
        have g0 := k5.f0
        have g1 := k5.f1
        have g2 := k5.f2
        have g3 := k5.f3
        have q := k5.put4 (.int .i64 K) (.int .i64 O) (.int .i64 S) (.slice a3 Z.length c3)
        have lF := (((l5.setCell (p := ⟨w.heap.size + 1, 0, none⟩) (Nat.le_succ _) (.int .i64 K)).setCell (p := ⟨w.heap.size + 1, 1, none⟩) (Nat.le_succ _) (.int .i64 O)).setCell (p := ⟨w.heap.size + 1, 2, none⟩) (Nat.le_succ _) (.int .i64 S)).setCell (p := ⟨w.heap.size + 1, 3, none⟩) (Nat.le_succ _) (.slice a3 Z.length c3)
        have oF := (((o5.set (Nat.lt_succ_self _) 0 (.int .i64 K)).set (Nat.lt_succ_self _) 1 (.int .i64 O)).set (Nat.lt_succ_self _) 2 (.int .i64 S)).set (Nat.lt_succ_self _) 3 (.slice a3 Z.length c3)
        have z5 := (((y5.setOther hne' 0 (.int .i64 K)).setOther hne' 1 (.int .i64 O)).setOther hne' 2 (.int .i64 S)).setOther hne' 3 (.slice a3 Z.length c3)
        have x6 := (((x5.b.setOther hnl 0 (.int .i64 K)).setOther hnl 1 (.int .i64 O)).setOther hnl 2 (.int .i64 S)).setOther hnl 3 (.slice a3 Z.length c3)
        obtain ⟨w6, hw6⟩ : ∃ w6, (((w5.setCell ⟨w.heap.size + 1, 0, none⟩ (.int .i64 K)).setCell ⟨w.heap.size + 1, 1, none⟩ (.int .i64 O)).setCell ⟨w.heap.size + 1, 2, none⟩ (.int .i64 S)).setCell ⟨w.heap.size + 1, 3, none⟩ (.slice a3 Z.length c3) = w6 := ⟨_, rfl⟩
        rw [hw6] at q lF oF z5 x6
        have x7 : LB w.heap.size d s w6 := ⟨x6⟩
        have S6 : w6.cell? ⟨w.heap.size, 0, none⟩ = some (.int .i64 d.ino) ∧ w6.cell? ⟨w.heap.size, 1, none⟩ = some (.int .i64 d.cl) ∧ w6.cell? ⟨w.heap.size, 2, none⟩ = some (.int .i64 d.un) ∧ w6.cell? ⟨w.heap.size, 3, none⟩ = some (.string d.rc) ∧ w6.cell? ⟨w.heap.size, 4, none⟩ = some (.slice s.a1 d.pg.length s.c1) ∧ w6.cell? ⟨w.heap.size, 5, none⟩ = some (.string d.sav) ∧ w6.cell? ⟨w.heap.size, 6, none⟩ = some (.slice s.a2 d.po.length s.c2) ∧ w6.cell? ⟨w.heap.size, 7, none⟩ = some (.slice s.a3 d.fr.length s.c3) ∧ w6.cell? ⟨N, 0, none⟩ = some (.int .i64 K) ∧ w6.cell? ⟨N, 1, none⟩ = some (.int .i64 O) ∧ w6.cell? ⟨N, 2, none⟩ = some (.int .i64 S) ∧ w6.cell? ⟨N, 3, none⟩ = some (.slice a3 Z.length c3) := ⟨x7.c0, x7.c1, x7.c2, x7.c3, x7.c4, x7.c5, x7.c6, x7.c7, z5.c0, z5.c1, z5.c2, z5.c3⟩
        refine Y0.one_skip (i := 17) (w' := w6) (by kernel_rfl) rfl (by rfl) ?_ S6 ?_
        · rw [← hw6]
          go_simp
        simp only [List.getElem_toArray, List.getElem_cons_succ, List.getElem_cons_zero, Act.put, List.setIfInBounds_toArray, List.set_cons_succ, List.set_cons_zero, Nat.reduceAdd]
        clear hw6
        refine wpAnyH_take (i := 18) (v := .bool false) rfl (by kernel_rfl) (by kernel_rfl) (by kernel_rfl) (fun _ _ _ h => h) (Or.inl ⟨by rfl, fun w' hS' => by rfl⟩) S6 ?_
        simp only [List.getElem_toArray, List.getElem_cons_succ, List.getElem_cons_zero, Act.put, List.setIfInBounds_toArray, List.set_cons_succ, List.set_cons_zero, Nat.reduceAdd]
        refine wpAnyH_done (by kernel_rfl) ?_ _
        go_wp2
        exact bodyPost_ret (v := .tuple #[val K O S a3 Z.length c3, .bool false]) (by simp [results, Tryz.results22, go_sem, q.c0, q.c1, q.c2, q.c3]) rfl (HF.out _ lF oF)
end Go.Proofs.YtkdjcbmmbjongaaGreat.SX
