/- Joined texts: plain facts and contracts, as each part says. -/
import Derived.Test.YtkdjcbmmbjongaaGreatJnH
import Derived.Test.YtkdjcbmmbjongaaGreatJnC
import Derived.Test.YtkdjcbmmbjongaaGreatJnK
import Derived.Test.YtkdjcbmmbjongaaGreatJnI
import Derived.Test.YtkdjcbmmbjongaaGreatJnB
import Derived.Laws.MakeOwn
import Derived.Deep.RegionHeld3

/- The contracts of impl.recordNow and impl.standing, as the given laws call them. -/
namespace Go.Proofs.YtkdjcbmmbjongaaGreat.SW
open Go.ChangeShapes Go.WideShapes Go.ChangeAt Go.RowKit
set_option linter.unusedVariables false
set_option linter.unusedSimpArgs false
set_option maxRecDepth 10000

open N0 (Ln)
open N1 (Sl Lists Fit LB lb_new)
open I0 (val)
open J0 (Own)

set_option maxHeartbeats 1000000 in
theorem recordNow (mem : ByteArray) (i : Int) (w : World) (hs : mem.size ≤ 281474976710656) :
    Calls Tryz.prog 54 #[.string mem, .int .i64 i] w (G3.Ans (O0.recd mem i) w) := by
  have hz : (B2.part mem (L1.recAt i) 16).size ≤ 281474976710656 := Nat.le_trans (B2.part_size _ _ _) hs
  have l0 := K0.below_new w (.cells #[.int .i64 0, .int .i64 0, .int .i64 0, .slice none 0 0] 49)
  have k0 := K0.blk_new [.int .i64 0, .int .i64 0, .int .i64 0, .slice none 0 0] w 49
  have HD : Hid (O0.recd mem i = B2.part mem (L1.recAt i) 16) := rfl
  have hgi : Hid (∀ W, Calls Tryz.prog 80 #[.string (B2.part mem (L1.recAt i) 16)] W (G3.Ans (O0.recd mem i) W)) := fun W => G3.impl_GetInode _ W hz
  go_enter Tryz.func54, Tryz.ntmps54
  go_wp2_with (first
    | (go_at_call 62; refine (L1.impl_RecAt i _).mono ?_; rintro e w1 ⟨rfl, hw1⟩; subst w1)
    | (go_at_call 81; refine (B2.impl_Part mem _ _ _ hs).mono ?_; rintro e w2 ⟨rfl, b2⟩; have l2 := l0.trans (b2.mono l0.size); have k2 := k0.below b2)
    | (go_at_call 80; refine (hgi.out _).mono ?_; rintro e w3 ⟨a3, c3, rfl, o3, q3, b3⟩; have l3 := l2.trans (b3.mono l2.size); have k3 := k2.below b3; have o3' := o3.mono (base' := w.heap.size + 1) k2.lt; have c0 := k3.c0; have c1 := k3.c1; have c2 := k3.c2; have d3 := k3.c3; have f0 := k3.f0; have f1 := k3.f1; have f2 := k3.f2; have f3 := k3.f3))
  have q := k3.put4 (.int .i64 (G0.gK (O0.recd mem i))) (.int .i64 (G0.gO (O0.recd mem i))) (.int .i64 (G0.gS (O0.recd mem i))) (.slice a3 (G0.gZ (O0.recd mem i)).length c3)
  refine bodyPost_ret (v := .tuple #[val (G0.gK (O0.recd mem i)) (G0.gO (O0.recd mem i)) (G0.gS (O0.recd mem i)) a3 (G0.gZ (O0.recd mem i)).length c3, .bool (G0.isI (O0.recd mem i))]) (by simp [results, Tryz.results54, go_sem, q.c0, q.c1, q.c2, q.c3]) rfl ⟨a3, c3, rfl, ?_, q3, ?_⟩
  · exact ((((o3'.set (Nat.lt_succ_self _) 0 _).set (Nat.lt_succ_self _) 1 _).set (Nat.lt_succ_self _) 2 _).set (Nat.lt_succ_self _) 3 _).mono (Nat.le_succ _)
  · exact (((l3.setCell (p := ⟨w.heap.size, 0, none⟩) (Nat.le_refl _) _).setCell (p := ⟨w.heap.size, 1, none⟩) (Nat.le_refl _) _).setCell (p := ⟨w.heap.size, 2, none⟩) (Nat.le_refl _) _).setCell (p := ⟨w.heap.size, 3, none⟩) (Nat.le_refl _) _

/-- Whether a record stands as a client has it before it. -/
def stOk (d : Ln) (mem : ByteArray) (i kind : Int) : Bool := decide (mem.size = 768) && (N0.loanOk d && (G0.isI (O0.recd mem i) && decide (G0.gK (O0.recd mem i) = kind)))

/-- What is answered of it: the record where it stands so. -/
def Ans (d : Ln) (mem : ByteArray) (i kind : Int) (w : World) (e : Ending) (w' : World) : Prop :=
  ∃ (k o s : Int) (a : Option Addr) (n c : Nat), e = .returned (.tuple #[val k o s a n c, .bool (stOk d mem i kind)]) ∧ Below w.heap.size w w' ∧
    (stOk d mem i kind = true → k = kind ∧ o = G0.gO (O0.recd mem i) ∧ s = G0.gS (O0.recd mem i) ∧ n = (G0.gZ (O0.recd mem i)).length ∧ Own w.heap.size w' a (G0.gZ (O0.recd mem i)) ∧ n ≤ c)

theorem st_no {d : Ln} {mem : ByteArray} {i kind : Int} {w w' : World} {k o s : Int} {a : Option Addr} {n c : Nat} (h : stOk d mem i kind = false) (hb : Below w.heap.size w w') : Ans d mem i kind w (.returned (.tuple #[val k o s a n c, .bool false])) w' :=
  ⟨k, o, s, a, n, c, by rw [h], hb, fun x => by rw [h] at x; cases x⟩

theorem st_yes {d : Ln} {mem : ByteArray} {i : Int} {w w' : World} {kind : Int} {a : Option Addr} {c : Nat} (h : stOk d mem i kind = true) (hb : Below w.heap.size w w') (ho : Own w.heap.size w' a (G0.gZ (O0.recd mem i))) (hc : (G0.gZ (O0.recd mem i)).length ≤ c) :
    Ans d mem i kind w (.returned (.tuple #[val (G0.gK (O0.recd mem i)) (G0.gO (O0.recd mem i)) (G0.gS (O0.recd mem i)) a (G0.gZ (O0.recd mem i)).length c, .bool true])) w' := by
  have hk : G0.gK (O0.recd mem i) = kind := by
    simp only [stOk, Bool.and_eq_true, decide_eq_true_eq] at h
    exact h.2.2.2
  exact ⟨_, _, _, a, _, c, by rw [h], hb, fun _ => ⟨hk, rfl, rfl, rfl, ho, hc⟩⟩

set_option maxHeartbeats 2000000 in
theorem standing (d : Ln) (s : Sl) (mem : ByteArray) (i kind : Int) (w : World) (hs : mem.size ≤ 281474976710656) (hF : Fit d s) (hpo : d.po.length ≤ 1048576) (hfr : d.fr.length ≤ 1048576) (hR : Lists w d s) :
    Calls Tryz.prog 29 #[N1.val d s, .string mem, .int .i64 i, .int .i64 kind] w (Ans d mem i kind w) := by
  have l0 := K0.below_new w (.cells #[.int .i64 d.ino, .int .i64 d.cl, .int .i64 d.un, .string d.rc, .slice s.a1 d.pg.length s.c1, .string d.sav, .slice s.a2 d.po.length s.c2, .slice s.a3 d.fr.length s.c3] 31)
  have x0 := lb_new d s w 31
  have l1 := l0.alloc l0.size (.cells #[.int .i64 0, .int .i64 0, .int .i64 0, .slice none 0 0] 49)
  have k1 := K0.blk_at (B := w.heap.size + 1) [.int .i64 0, .int .i64 0, .int .i64 0, .slice none 0 0] (w.alloc (.cells #[.int .i64 d.ino, .int .i64 d.cl, .int .i64 d.un, .string d.rc, .slice s.a1 d.pg.length s.c1, .string d.sav, .slice s.a2 d.po.length s.c2, .slice s.a3 d.fr.length s.c3] 31)) 49 (by simp)
  have x1 := x0.below (K0.below_new _ (.cells #[.int .i64 0, .int .i64 0, .int .i64 0, .slice none 0 0] 49))
  have L1 := hR.below l1
  by_cases hm : mem.size = 768
  · by_cases hl : N0.loanOk d = true
    · have hlo : Hid (∀ W, Lists W d s → Calls Tryz.prog 53 #[N1.val d s] W fun e w' => e = .returned (.bool true) ∧ Below W.heap.size W w') := fun W h => by
        have := N10.impl_LoanOk d s W hF hpo hfr h
        rwa [hl] at this
      have hrn : Hid (∀ W, Calls Tryz.prog 54 #[.string mem, .int .i64 i] W (G3.Ans (O0.recd mem i) W)) := fun W => recordNow mem i W hs
      have hm' : decide ((mem.size : Int) = 768) = true := by simp; omega
      have hm2 : ((mem.size : Int) != 768) = false := by simp; omega
      have HN : Hid (∀ w' k o t a n c, (G0.isI (O0.recd mem i) = true → ¬ G0.gK (O0.recd mem i) = kind) → Below w.heap.size w w' → Ans d mem i kind w (.returned (.tuple #[val k o t a n c, .bool false])) w') := fun w' k o t a n c h hb => st_no (by
        rw [stOk, decide_eq_true hm, hl]
        cases hI : G0.isI (O0.recd mem i) with
        | false => rfl
        | true => simp [h hI]) hb
      have HY : Hid (∀ w' a c, G0.isI (O0.recd mem i) = true → G0.gK (O0.recd mem i) = kind → Below w.heap.size w w' → Own w.heap.size w' a (G0.gZ (O0.recd mem i)) → (G0.gZ (O0.recd mem i)).length ≤ c → Ans d mem i kind w (.returned (.tuple #[val (G0.gK (O0.recd mem i)) (G0.gO (O0.recd mem i)) (G0.gS (O0.recd mem i)) a (G0.gZ (O0.recd mem i)).length c, .bool true])) w') := fun w' a c h1 h2 hb ho hc => st_yes (by rw [stOk, decide_eq_true hm, hl, h1, decide_eq_true h2]; rfl) hb ho hc
      clear hm hl
      go_enter Tryz.func29, Tryz.ntmps29
      go_wp2_with (first
        | (go_at_call 53; refine (hlo.out _ L1).mono ?_; rintro e w2 ⟨rfl, b2⟩; have l2 := l1.trans (b2.mono l1.size); have k2 := k1.below b2)
        | (go_at_call 54; refine (hrn.out _).mono ?_; rintro e w3 ⟨a3, c3, rfl, o3, q3, b3⟩; have l3 := l2.trans (b3.mono l2.size); have k3 := k2.below b3; have o3' := o3.mono (base' := w.heap.size + 2) k2.lt))
      have n4 := K0.below_new w3 (.cells #[.int .i64 (G0.gK (O0.recd mem i)), .int .i64 (G0.gO (O0.recd mem i)), .int .i64 (G0.gS (O0.recd mem i)), .slice a3 (G0.gZ (O0.recd mem i)).length c3] 49)
      have y4 := K0.blk_new [.int .i64 (G0.gK (O0.recd mem i)), .int .i64 (G0.gO (O0.recd mem i)), .int .i64 (G0.gS (O0.recd mem i)), .slice a3 (G0.gZ (O0.recd mem i)).length c3] w3 49
      have l4 := l3.trans (n4.mono l3.size)
      have k4 := k3.below n4
      have o4 := o3'.below n4
      have q := k4.put4 (.int .i64 (G0.gK (O0.recd mem i))) (.int .i64 (G0.gO (O0.recd mem i))) (.int .i64 (G0.gS (O0.recd mem i))) (.slice a3 (G0.gZ (O0.recd mem i)).length c3)
      have oF := (((o4.set (Nat.lt_succ_self _) 0 (.int .i64 (G0.gK (O0.recd mem i)))).set (Nat.lt_succ_self _) 1 (.int .i64 (G0.gO (O0.recd mem i)))).set (Nat.lt_succ_self _) 2 (.int .i64 (G0.gS (O0.recd mem i)))).set (Nat.lt_succ_self _) 3 (.slice a3 (G0.gZ (O0.recd mem i)).length c3)
      have lF := (((l4.setCell (p := ⟨w.heap.size + 1, 0, none⟩) (Nat.le_succ _) (.int .i64 (G0.gK (O0.recd mem i)))).setCell (p := ⟨w.heap.size + 1, 1, none⟩) (Nat.le_succ _) (.int .i64 (G0.gO (O0.recd mem i)))).setCell (p := ⟨w.heap.size + 1, 2, none⟩) (Nat.le_succ _) (.int .i64 (G0.gS (O0.recd mem i)))).setCell (p := ⟨w.heap.size + 1, 3, none⟩) (Nat.le_succ _) (.slice a3 (G0.gZ (O0.recd mem i)).length c3)
      have y0 := y4.c0
      have y1 := y4.c1
      have y2 := y4.c2
      have y3 := y4.c3
      have r0 := k4.c0
      have r1 := k4.c1
      have r2 := k4.c2
      have r3 := k4.c3
      have g0 := k4.f0
      have g1 := k4.f1
      have g2 := k4.f2
      have g3 := k4.f3
      have hne : w.heap.size + 1 ≠ w3.heap.size := Nat.ne_of_lt k3.lt
      have z4 := (((y4.setOther hne 0 (.int .i64 (G0.gK (O0.recd mem i)))).setOther hne 1 (.int .i64 (G0.gO (O0.recd mem i)))).setOther hne 2 (.int .i64 (G0.gS (O0.recd mem i)))).setOther hne 3 (.slice a3 (G0.gZ (O0.recd mem i)).length c3)
      have z0 := z4.c0
      clear hne
      cases hI : G0.isI (O0.recd mem i) with
      | false =>
        have HN' := HN.out _ (G0.gK (O0.recd mem i)) (G0.gO (O0.recd mem i)) (G0.gS (O0.recd mem i)) a3 (G0.gZ (O0.recd mem i)).length c3 (fun h => by rw [hI] at h; cases h) lF.drew
        go_region
        all_goals
          go_wp2
          exact bodyPost_ret (v := .tuple #[val (G0.gK (O0.recd mem i)) (G0.gO (O0.recd mem i)) (G0.gS (O0.recd mem i)) a3 (G0.gZ (O0.recd mem i)).length c3, .bool false]) (by simp [results, Tryz.results29, go_sem, q.c0, q.c1, q.c2, q.c3]) rfl HN'
      | true =>
        by_cases hK : G0.gK (O0.recd mem i) = kind
        · have HY' := HY.out _ a3 c3 hI hK lF.drew (oF.drew.mono (by omega)) q3
          have hKd : decide (G0.gK (O0.recd mem i) = kind) = true := decide_eq_true hK
          clear hK
          go_region
          all_goals
            go_wp2
            exact bodyPost_ret (v := .tuple #[val (G0.gK (O0.recd mem i)) (G0.gO (O0.recd mem i)) (G0.gS (O0.recd mem i)) a3 (G0.gZ (O0.recd mem i)).length c3, .bool true]) (by simp [results, Tryz.results29, go_sem, q.c0, q.c1, q.c2, q.c3]; exact of_decide_eq_true hKd) rfl HY'
        · have HN' := HN.out _ (G0.gK (O0.recd mem i)) (G0.gO (O0.recd mem i)) (G0.gS (O0.recd mem i)) a3 (G0.gZ (O0.recd mem i)).length c3 (fun _ => hK) lF.drew
          have hKd : decide (G0.gK (O0.recd mem i) = kind) = false := decide_eq_false hK
          clear hK
          go_region
          all_goals
            go_wp2
            exact bodyPost_ret (v := .tuple #[val (G0.gK (O0.recd mem i)) (G0.gO (O0.recd mem i)) (G0.gS (O0.recd mem i)) a3 (G0.gZ (O0.recd mem i)).length c3, .bool false]) (by simp [results, Tryz.results29, go_sem, q.c0, q.c1, q.c2, q.c3]; exact of_decide_eq_false hKd) rfl HN'
    · have hl' : N0.loanOk d = false := by simpa using hl
      have hlo : Hid (∀ W, Lists W d s → Calls Tryz.prog 53 #[N1.val d s] W fun e w' => e = .returned (.bool false) ∧ Below W.heap.size W w') := fun W h => by
        have := N10.impl_LoanOk d s W hF hpo hfr h
        rwa [hl'] at this
      have hmd : Hid (∀ w', Below w.heap.size w w' → Ans d mem i kind w (.returned (.tuple #[val 0 0 0 none 0 0, .bool false])) w') := fun w' hb => st_no (by rw [stOk, hl', Bool.false_and, Bool.and_false]) hb
      have hm2 : ((mem.size : Int) != 768) = false := by simp; omega
      clear hm hl hl'
      go_enter Tryz.func29, Tryz.ntmps29
      go_wp2_with (go_at_call 53; refine (hlo.out _ L1).mono ?_; rintro e w2 ⟨rfl, b2⟩; have l2 := l1.trans (b2.mono l1.size); have k2 := k1.below b2; have r0 := k2.c0; have r1 := k2.c1; have r2 := k2.c2; have r3 := k2.c3; have g0 := k2.f0; have g1 := k2.f1; have g2 := k2.f2; have g3 := k2.f3)
      have q := k2.put4 (.int .i64 0) (.int .i64 0) (.int .i64 0) (.slice none 0 0)
      have lF := (((l2.setCell (p := ⟨w.heap.size + 1, 0, none⟩) (Nat.le_succ _) (.int .i64 0)).setCell (p := ⟨w.heap.size + 1, 1, none⟩) (Nat.le_succ _) (.int .i64 0)).setCell (p := ⟨w.heap.size + 1, 2, none⟩) (Nat.le_succ _) (.int .i64 0)).setCell (p := ⟨w.heap.size + 1, 3, none⟩) (Nat.le_succ _) (.slice none 0 0)
      exact bodyPost_ret (v := .tuple #[val 0 0 0 none 0 0, .bool false]) (by simp [results, Tryz.results29, go_sem, q.c0, q.c1, q.c2, q.c3]) rfl (hmd.out _ lF)
  · have hmd : Hid (∀ w', Below w.heap.size w w' → Ans d mem i kind w (.returned (.tuple #[val 0 0 0 none 0 0, .bool false])) w') := fun w' hb => st_no (by rw [stOk, decide_eq_false hm]; rfl) hb
    have hm' : ((mem.size : Int) != 768) = true := by simp; omega
    have r0 := k1.c0
    have r1 := k1.c1
    have r2 := k1.c2
    have r3 := k1.c3
    have g0 := k1.f0
    have g1 := k1.f1
    have g2 := k1.f2
    have g3 := k1.f3
    have q := k1.put4 (.int .i64 0) (.int .i64 0) (.int .i64 0) (.slice none 0 0)
    have lF := (((l1.setCell (p := ⟨w.heap.size + 1, 0, none⟩) (Nat.le_succ _) (.int .i64 0)).setCell (p := ⟨w.heap.size + 1, 1, none⟩) (Nat.le_succ _) (.int .i64 0)).setCell (p := ⟨w.heap.size + 1, 2, none⟩) (Nat.le_succ _) (.int .i64 0)).setCell (p := ⟨w.heap.size + 1, 3, none⟩) (Nat.le_succ _) (.slice none 0 0)
    clear hm q lF
    go_enter Tryz.func29, Tryz.ntmps29
    go_wp2
    exact bodyPost_ret (v := .tuple #[val 0 0 0 none 0 0, .bool false]) (by simp [results, Tryz.results29, go_sem, k1.c0, k1.c1, k1.c2, k1.c3]) rfl (hmd.out _ l1)
end Go.Proofs.YtkdjcbmmbjongaaGreat.SW

/- The contract of impl.PutFile, as the given laws call it. -/
namespace Go.Proofs.YtkdjcbmmbjongaaGreat.SF
open Go.ChangeShapes Go.WideShapes Go.ChangeAt Go.RowKit
set_option linter.unusedVariables false
set_option linter.unusedSimpArgs false
set_option maxRecDepth 10000

open N0 (Ln)
open N1 (Sl Lists Fit LB lb_new)
open I0 (val)
open J0 (Own)
open SW (stOk)
open SQ (Ans)

/-- The pages that a lent inode may have. -/
def mayHave (d : Ln) (mem : ByteArray) (barred : List Int) : List Int := PF.grow (G0.gZ (O0.recd mem d.ino)) (d.pg ++ d.po) barred

/-- What makes a lent inode of a kind have some bytes. -/
def allOf (d : Ln) (mem : ByteArray) (kind : Int) (barred : List Int) (data : ByteArray) : List T0.Ent := PF.puts d.ino kind (G0.gO (O0.recd mem d.ino)) (mayHave d mem barred) data
def fileOk (d : Ln) (mem : ByteArray) (data : ByteArray) : Bool := stOk d mem d.ino 1 && PF.fitsIn (mayHave d mem []) data
def fileZ (d : Ln) (mem : ByteArray) (data : ByteArray) : List T0.Ent := if stOk d mem d.ino 1 then allOf d mem 1 [] data else []

theorem file_no {d : Ln} {mem data : ByteArray} (h : stOk d mem d.ino 1 = false) : fileOk d mem data = false ∧ fileZ d mem data = [] := by simp [fileOk, fileZ, h]
theorem file_yes {d : Ln} {mem data : ByteArray} (h : stOk d mem d.ino 1 = true) : fileOk d mem data = PF.fitsIn (mayHave d mem []) data ∧ fileZ d mem data = allOf d mem 1 [] data := by simp [fileOk, fileZ, h]

theorem fileZ_len (d : Ln) (mem data : ByteArray) : (fileZ d mem data).length ≤ 8 := by
  unfold fileZ
  split
  · exact PF.puts_len _ _ _ _ _
  · exact Nat.zero_le _

theorem st_facts {d : Ln} {mem : ByteArray} {i kind : Int} (h : stOk d mem i kind = true) : mem.size = 768 ∧ N0.loanOk d = true ∧ G0.isI (O0.recd mem i) = true ∧ G0.gK (O0.recd mem i) = kind := by
  simp only [stOk, Bool.and_eq_true, decide_eq_true_eq] at h
  exact h

theorem may_facts {d : Ln} {mem : ByteArray} (barred : List Int) (h1 : N0.loanOk d = true) (h2 : G0.isI (O0.recd mem d.ino) = true) : (G0.gZ (O0.recd mem d.ino)).length ≤ 6 ∧ (d.pg ++ d.po).length ≤ 10 ∧ (mayHave d mem barred).length ≤ 1000 ∧ ∀ z ∈ mayHave d mem barred, 5 ≤ z ∧ z ≤ 23 := by
  obtain ⟨-, -, -, -, -, -, hp6, hp4, -, hpo, -, -, -⟩ := N0.loanOk_is h1
  obtain ⟨-, g6, -, gp, -⟩ := O0.got h2
  have hl : (d.pg ++ d.po).length ≤ 10 := by rw [List.length_append]; omega
  have hg := PF.grow_len (d.pg ++ d.po) barred (G0.gZ (O0.recd mem d.ino))
  refine ⟨g6, hl, by unfold mayHave; omega, fun z hz => ?_⟩
  rcases PF.grow_mem barred _ _ z hz with h | h
  · exact (N0.pagesOk_iff.1 gp).1 z h
  · exact (N0.pagesOk_iff.1 hpo).1 z h

end Go.Proofs.YtkdjcbmmbjongaaGreat.SF

/- Contracts of impl.dataOf, spec.l03Rec and spec.l03Page, as the given laws call them. -/
namespace Go.Proofs.YtkdjcbmmbjongaaGreat.O1
open Go.ChangeShapes Go.WideShapes Go.ChangeAt Go.RowKit
set_option linter.unusedVariables false
set_option linter.unusedSimpArgs false
set_option maxRecDepth 10000

open I0 (val vals)

theorem wf_recAt (i : Int) : (Lit.int .i64 (L1.recAt i)).wf = true := by
  refine E4.wf_of _ ?_ ?_
  all_goals
    unfold L1.recAt
    split
    · rename_i h
      have := B1.inB_true h
      omega
    · omega

theorem l03Rec (mem : ByteArray) (i : Int) (w : World) (hs : mem.size ≤ 281474976710656) :
    Calls Tryz.prog 44 #[.string mem, .int .i64 i] w fun e w' => e = .returned (.string (O0.recd mem i)) ∧ w' = w := by
  have hm : mem.size ≤ maxLen := by unfold maxLen; omega
  have e : O0.recd mem i = B2.part mem (L1.recAt i) 16 := rfl
  rw [e]
  go_enter Tryz.func44, Tryz.ntmps44
  go_wp2_with (first
    | (go_at_call 51; refine (L1.spec_RecAt _ _).mono ?_; rintro e w' ⟨rfl, rfl⟩)
    | (go_at_call 72; refine (B2.spec_Part _ _ _ _ hm (wf_recAt i) (by decide)).mono ?_; rintro e w' ⟨rfl, rfl⟩))
  go_ret
  exact ⟨rfl, rfl⟩

theorem l03Page (mem : ByteArray) (z : Int) (w : World) (hs : mem.size ≤ 281474976710656) (h0 : 5 ≤ z) (h1 : z ≤ 23) :
    Calls Tryz.prog 50 #[.string mem, .int .i64 z] w fun e w' => e = .returned (.string (B2.part mem (z * 32) 32)) ∧ w' = w := by
  have hm : mem.size ≤ maxLen := by unfold maxLen; omega
  have hw := E4.wf_of (z * 32) (by omega) (by omega)
  go_enter Tryz.func50, Tryz.ntmps50
  go_wp2_with (go_at_call 72; refine (B2.spec_Part _ _ _ _ hm hw (by decide)).mono ?_; rintro e w' ⟨rfl, rfl⟩)
  go_ret
  exact ⟨rfl, rfl⟩

theorem make192 : ∃ C : Array Value, C.size = 192 ∧ ∀ W : World, (Instr.makeSlice 83 (.int .i64 0) (.int .i64 192)).run Tryz.prog W = .ok (.slice (some ⟨W.heap.size, 0, none⟩) 0 192) (W.alloc (.cells C 5)) := by
  obtain ⟨i0, hi, hz0, hz1, hz2⟩ := info_parts F0.info5
  refine ⟨madeCells (Value.int .u8 0).cells (192 * i0.size), ?_, fun W => ?_⟩
  · have : (madeCells (Value.int .u8 0).cells (192 * i0.size)).toList.length = 192 := by
      rw [show (Value.int .u8 0).cells = #[Value.int .u8 0] from rfl, toList_madeCells_one, hz1]
      simp
    simpa using this
  · exact run_make (P := Tryz.prog) W 83 5 i0 (.int .u8 0) Tryz.underlying83 hi hz0 .i64 .i64 0 192 (by omega) (by omega) (by rw [hz2]; omega) (by omega)

set_option maxHeartbeats 2000000 in
theorem pagesText (mem : ByteArray) (a : Option Addr) (c : Nat) (zs : List Int) (w : World) (hm : mem.size = 768) (hp : P0.pagesOk zs = true) (hl : zs.length ≤ 6) (hR1 : P0.Row w a zs) :
    Calls Tryz.prog 109 #[.string mem, .slice a zs.length c] w fun e w' => e = .returned (.string (O0.joined mem zs zs.length)) ∧ Below w.heap.size w w' := by
  obtain ⟨C, hC, hmk⟩ := make192
  have hbuf0 := F0.buf_none (base := w.heap.size) w C 192 hC (by unfold maxLen; omega) (Nat.le_refl _)
  have bel0 := K0.below_new w (.cells C 5)
  have hms : mem.size ≤ 281474976710656 := by omega
  go_enter Tryz.func109, Tryz.ntmps109
  go_wp2
  go_loopw [5, 11] (fun r i w' => ∃ (j g cap : Nat), j ≤ zs.length ∧ i = .int .i64 j ∧ r = .slice (some ⟨g, 0, none⟩) (32 * j) cap ∧ F0.Buf w.heap.size w' g (32 * j) cap (O0.joined mem zs j) ∧ Below w.heap.size w w') (fun _ i _ => zs.length - (intOf i).toNat)
  case atStart => exact ⟨0, w.heap.size, 192, Nat.zero_le _, rfl, rfl, hbuf0, bel0⟩
  case round =>
    obtain ⟨j, g, cap, hj, rfl, rfl, hbuf, hbel⟩ := hrel
    clear hbuf0 bel0 hmk
    by_cases hlt : j < zs.length
    · obtain ⟨b, off, rfl, hb, hc⟩ := (hR1.below hbel).get hlt
      have x1 := hc j hlt
      have hz := R0.pages_bounds hp hlt
      have hu : O0.joined mem zs (j + 1) = O0.joined mem zs j ++ B2.part mem (zs.getD j 0 * 32) 32 := rfl
      obtain ⟨z, ez⟩ : ∃ z, zs.getD j 0 = z := ⟨_, rfl⟩
      rw [ez] at x1 hz hu
      have hps := O0.page_size hm hz.1 hz.2
      have z0 : 0 ≤ z := by omega
      have z1 : z ≤ 23 := hz.2
      have e1 : (0 : Int) ≤ (j : Int) := by omega
      have e2 : (j : Int) < (zs.length : Int) := by omega
      have HU : Hid (O0.joined mem zs (j + 1) = O0.joined mem zs j ++ B2.part mem (z * 32) 32) := hu
      clear hu ez hc hz
      go_wp2_with (first
        | (go_at_call 81; refine (B2.impl_Part _ _ _ _ hms).mono ?_; rintro e w2 ⟨rfl, b2⟩; have hbuf2 := hbuf.below b2; have bel2 := hbel.trans (b2.mono hbel.size))
        | (at_builtin; refine F0.append_text rfl (.tmp 15) (.tmp 19) rfl hbuf2 (B2.part mem (z * 32) 32) (by rfl) (by rfl) (by omega) bel2.size ?_; intro g1 cap1 w3 hbuf3 bel3))
      go_roundw
      case rel =>
        rw [hps] at hbuf3
        exact ⟨j + 1, g1, cap1, by omega, by go_num, rfl, by rw [HU.out]; exact hbuf3, bel2.trans bel3⟩
      case measure => simp [intOf]; omega
    · obtain rfl : j = zs.length := by omega
      have hcv := hbuf.conv
      clear hbuf hR1
      go_wp2
      go_ret
      exact ⟨rfl, hbel⟩

theorem part_front (u : ByteArray) (n : Int) (h0 : 0 ≤ n) (h1 : n ≤ (u.size : Int)) : B2.part u 0 n = u.extract 0 n.toNat := by
  rw [B2.part, if_pos]
  · simp
  · unfold B2.lies
    simp
    omega

set_option maxHeartbeats 2000000 in
theorem dataOf (mem : ByteArray) (k o s : Int) (a : Option Addr) (c : Nat) (zs : List Int) (w : World) (hm : mem.size = 768) (hp : P0.pagesOk zs = true) (hl : zs.length ≤ 6) (hs0 : 0 ≤ s) (hs1 : s ≤ 32 * (zs.length : Int)) (hR : P0.Row w a zs) :
    Calls Tryz.prog 93 #[.string mem, val k o s a zs.length c] w fun e w' => e = .returned (.string ((O0.joined mem zs zs.length).extract 0 s.toNat)) ∧ Below w.heap.size w w' := by
  have hbox := K0.blk_new (vals k o s a zs.length c) w 49
  have hl0 := K0.below_new w (.cells #[.int .i64 k, .int .i64 o, .int .i64 s, .slice a zs.length c] 49)
  have HT : Hid (∀ W, Below w.heap.size w W → Calls Tryz.prog 109 #[.string mem, .slice a zs.length c] W fun e w' => e = .returned (.string (O0.joined mem zs zs.length)) ∧ Below W.heap.size W w') := fun W hb => pagesText mem a c zs W hm hp hl (hR.below hb)
  have hsz := O0.joined_size hm hp zs.length (Nat.le_refl _)
  rw [← part_front _ _ hs0 (by omega)]
  obtain ⟨u, hu⟩ : ∃ u, O0.joined mem zs zs.length = u := ⟨_, rfl⟩
  rw [hu] at HT hsz ⊢
  have hus : u.size ≤ 281474976710656 := by omega
  have s1 : (w.alloc (.cells #[.int .i64 k, .int .i64 o, .int .i64 s, .slice a zs.length c] 49)).drew.cell? ⟨w.heap.size, 2, none⟩ = some (.int .i64 s) ∧ (w.alloc (.cells #[.int .i64 k, .int .i64 o, .int .i64 s, .slice a zs.length c] 49)).drew.cell? ⟨w.heap.size, 3, none⟩ = some (.slice a zs.length c) := ⟨hbox.drew.c2, hbox.drew.c3⟩
  clear hR hu hsz
  go_enter Tryz.func93, Tryz.ntmps93
  go_wp2
  go_region_held3 (fun W => W.cell? ⟨w.heap.size, 2, none⟩ = some (.int .i64 s) ∧ W.cell? ⟨w.heap.size, 3, none⟩ = some (.slice a zs.length c)) (assumption) ((first
    | (go_at_call 109; refine (HT.out _ hl0.drew).mono ?_; rintro e w2 ⟨rfl, b2⟩; have hb2 := hbox.drew.below b2; have l2 := hl0.drew.trans (b2.mono hl0.drew.size); have s2 : w2.cell? ⟨w.heap.size, 2, none⟩ = some (.int .i64 s) ∧ w2.cell? ⟨w.heap.size, 3, none⟩ = some (.slice a zs.length c) := ⟨hb2.c2, hb2.c3⟩)
    | (go_at_call 81; refine (B2.impl_Part _ _ _ _ hus).mono ?_; rintro e w3 ⟨rfl, b3⟩; have hb3 := hb2.below b3; have l3 := l2.trans (b3.mono l2.size); have s3 : w3.cell? ⟨w.heap.size, 2, none⟩ = some (.int .i64 s) ∧ w3.cell? ⟨w.heap.size, 3, none⟩ = some (.slice a zs.length c) := ⟨hb3.c2, hb3.c3⟩)))
  all_goals
    go_wp2
    go_ret
    exact ⟨rfl, l3⟩
end Go.Proofs.YtkdjcbmmbjongaaGreat.O1

/- The contract of spec.LoanOk, as the given laws call it: the walk. -/
namespace Go.Proofs.YtkdjcbmmbjongaaGreat.N11
open Go.ChangeShapes Go.WideShapes Go.ChangeAt Go.RowKit
set_option linter.unusedVariables false
set_option linter.unusedSimpArgs false
set_option maxRecDepth 10000

open N0 (Ln)
open N1 (Sl Lists Fit LB lb_new)
open N10 (SP sp_new first_cases last_cases)
open P1 (ret_bool quiet_bool)

theorem wf_of (n : Int) (h0 : -9223372036854775808 ≤ n) (h1 : n ≤ 9223372036854775807) : (Lit.int .i64 n).wf = true := by
  simp [Lit.wf, IntKind.min, IntKind.max, IntKind.signed, IntKind.bits]
  omega

set_option maxHeartbeats 4000000 in
theorem spec_LoanOk (d : Ln) (s : Sl) (w : World) (hF : Fit d s) (hpo : d.po.length ≤ 1048576) (hfr : d.fr.length ≤ 1048576) (hR : Lists w d s) :
    Calls Tryz.prog 45 #[N1.val d s] w fun e w' => e = .returned (.bool (N0.loanOk d)) ∧ Below w.heap.size w w' := by
  have hG : Hid (∀ W, Calls Tryz.prog 43 #[.string d.rc] W (G3.Ans d.rc W)) := fun W => G4.spec_GetInode d.rc W hF.m4
  have HL : Hid (∀ W, Below w.heap.size w W → Lists W d s) := fun W hb => hR.below hb
  have hpl : d.pg.length ≤ 281474976710656 := hF.p1
  have hsl := hF.m5
  have hsm : d.sav.size ≤ maxLen := by unfold maxLen; omega
  have hA : Hid (∀ W e w', G3.Ans d.rc W e w' → ∃ a c, e = .returned (.tuple #[I0.val (G0.gK d.rc) (G0.gO d.rc) (G0.gS d.rc) a (G0.gZ d.rc).length c, .bool (G0.isI d.rc)]) ∧ J0.Own W.heap.size w' a (G0.gZ d.rc) ∧ (G0.gZ d.rc).length ≤ c ∧ Below W.heap.size W w') := fun W e w' h => h
  have hzl : (G0.gZ d.rc).length ≤ 281474976710656 := by
    unfold G0.gZ
    split
    · rw [G0.pgs_length]; have := G0.cnt_le d.rc; omega
    · exact Nat.zero_le _
  have hsb : G0.isI d.rc = true → -9223372036854775808 ≤ G0.gS d.rc ∧ G0.gS d.rc ≤ 9223372036854775807 := fun h => by have := O0.got h; omega
  have hcase := first_cases d
  have hD0 : N0.sDir d = (!decide (G0.gK d.rc = 2) || V0.isD (B2.part d.sav 0 (G0.gS d.rc))) := rfl
  have hlast := last_cases d (G0.gK d.rc) rfl
  have hgd : Hid (∀ W, Calls Tryz.prog 67 #[.string (B2.part d.sav 0 (G0.gS d.rc))] W (V1.Ans (B2.part d.sav 0 (G0.gS d.rc)) W)) := fun W => V3.spec_GetDir _ _ (Nat.le_trans (B2.part_size _ _ _) hF.m5)
  obtain ⟨K, hK⟩ : ∃ K, G0.gK d.rc = K := ⟨_, rfl⟩
  obtain ⟨O, hO⟩ : ∃ O, G0.gO d.rc = O := ⟨_, rfl⟩
  obtain ⟨S, hS⟩ : ∃ S, G0.gS d.rc = S := ⟨_, rfl⟩
  obtain ⟨Z, hZ⟩ : ∃ Z, G0.gZ d.rc = Z := ⟨_, rfl⟩
  rw [hK, hZ] at hcase
  rw [hK] at hlast
  rw [hK, hO, hS, hZ] at hA
  rw [hZ] at hzl
  rw [hS] at hsb hgd
  rw [hS, hK] at hD0
  have hpt : Hid (G0.isI d.rc = true → ∀ W, Calls Tryz.prog 72 #[.string d.sav, .int .i64 0, .int .i64 S] W fun e w' => e = .returned (.string (B2.part d.sav 0 S)) ∧ w' = W) := fun h W => B2.spec_Part _ _ _ _ hsm (by decide) (wf_of _ (hsb h).1 (hsb h).2)
  obtain ⟨P, hP⟩ : ∃ P, B2.part d.sav 0 S = P := ⟨_, rfl⟩
  rw [hP] at hgd hD0 hpt
  have HD : Hid (∀ W e w', V1.Ans P W e w' → ∃ a c, e = .returned (.tuple #[.slice a (V0.dE P).length c, .bool (V0.isD P)]) ∧ Below W.heap.size W w') := fun W e w' ⟨a, c, he, _, _, hb⟩ => ⟨a, c, he, hb⟩
  clear hK hO hS hZ hP hR hF hsb hsm
  rcases hcase with ⟨gI, hp⟩ | ⟨gI, g0, hp⟩ | ⟨gI, g0, g1, hp⟩ | ⟨gI, g0, g1, g2, hp⟩ | ⟨gI, g0, g1, g2, g3, hp⟩ | ⟨gI, g0, g1, g2, g3, gz, hp⟩ | ⟨gI, g0, g1, g2, g3, gz, gs, hp⟩ | ⟨gI, g0, g1, g2, g3, gz, gs, hp⟩
  · rw [gI] at hA
    rw [N10.sOk_first hp]
    clear gI hlast hD0 hp hpt hgd HD
    go_enter Tryz.func45, Tryz.ntmps45
    go_wp2_with (first
      | (go_at_call 43; refine (hG.out _).mono ?_; intro e w1 hans; obtain ⟨a, c, rfl, ho, hc, b1⟩ := hA.out _ _ _ hans; clear hans; have p1 := sp_new (k := K) (o := O) (t := S) (a := a) (n := Z.length) (c := c) b1; have x0 := p1.nb.c0; have x3 := p1.nb.c3; have c0 := p1.arg.c0; have c1 := p1.arg.c1; have c2 := p1.arg.c2; have c4 := p1.arg.c4; have c5 := p1.arg.c5; have r1 := ho.row.alloc (.cells #[.int .i64 K, .int .i64 O, .int .i64 S, .slice a Z.length c] 49); have r2 := (HL.out _ p1.bel).r1)
      | (go_at_call 73; refine (B1.l01In_any _ _ _ _).mono ?_; rintro e w' ⟨rfl, rfl⟩))
    go_ret
    exact ⟨rfl, p1.bel⟩
  · rw [gI] at hA
    rw [N10.sOk_first hp]
    clear gI hlast hD0 hp hpt hgd HD
    go_enter Tryz.func45, Tryz.ntmps45
    go_wp2_with (first
      | (go_at_call 43; refine (hG.out _).mono ?_; intro e w1 hans; obtain ⟨a, c, rfl, ho, hc, b1⟩ := hA.out _ _ _ hans; clear hans; have p1 := sp_new (k := K) (o := O) (t := S) (a := a) (n := Z.length) (c := c) b1; have x0 := p1.nb.c0; have x3 := p1.nb.c3; have c0 := p1.arg.c0; have c1 := p1.arg.c1; have c2 := p1.arg.c2; have c4 := p1.arg.c4; have c5 := p1.arg.c5; have r1 := ho.row.alloc (.cells #[.int .i64 K, .int .i64 O, .int .i64 S, .slice a Z.length c] 49); have r2 := (HL.out _ p1.bel).r1)
      | (go_at_call 73; refine (B1.l01In_any _ _ _ _).mono ?_; rintro e w' ⟨rfl, rfl⟩))
    go_ret
    exact ⟨rfl, p1.bel⟩
  · rw [gI] at hA
    rw [N10.sOk_first hp]
    clear gI hlast hD0 hp hpt hgd HD
    go_enter Tryz.func45, Tryz.ntmps45
    go_wp2_with (first
      | (go_at_call 43; refine (hG.out _).mono ?_; intro e w1 hans; obtain ⟨a, c, rfl, ho, hc, b1⟩ := hA.out _ _ _ hans; clear hans; have p1 := sp_new (k := K) (o := O) (t := S) (a := a) (n := Z.length) (c := c) b1; have x0 := p1.nb.c0; have x3 := p1.nb.c3; have c0 := p1.arg.c0; have c1 := p1.arg.c1; have c2 := p1.arg.c2; have c4 := p1.arg.c4; have c5 := p1.arg.c5; have r1 := ho.row.alloc (.cells #[.int .i64 K, .int .i64 O, .int .i64 S, .slice a Z.length c] 49); have r2 := (HL.out _ p1.bel).r1)
      | (go_at_call 73; refine (B1.l01In_any _ _ _ _).mono ?_; rintro e w' ⟨rfl, rfl⟩))
    go_ret
    exact ⟨rfl, p1.bel⟩
  · rw [gI] at hA
    rw [N10.sOk_first hp]
    clear gI hlast hD0 hp hpt hgd HD
    go_enter Tryz.func45, Tryz.ntmps45
    go_wp2_with (first
      | (go_at_call 43; refine (hG.out _).mono ?_; intro e w1 hans; obtain ⟨a, c, rfl, ho, hc, b1⟩ := hA.out _ _ _ hans; clear hans; have p1 := sp_new (k := K) (o := O) (t := S) (a := a) (n := Z.length) (c := c) b1; have x0 := p1.nb.c0; have x3 := p1.nb.c3; have c0 := p1.arg.c0; have c1 := p1.arg.c1; have c2 := p1.arg.c2; have c4 := p1.arg.c4; have c5 := p1.arg.c5; have r1 := ho.row.alloc (.cells #[.int .i64 K, .int .i64 O, .int .i64 S, .slice a Z.length c] 49); have r2 := (HL.out _ p1.bel).r1)
      | (go_at_call 73; refine (B1.l01In_any _ _ _ _).mono ?_; rintro e w' ⟨rfl, rfl⟩))
    go_ret
    exact ⟨rfl, p1.bel⟩
  · rw [gI] at hA
    rw [N10.sOk_first hp]
    clear gI hlast hD0 hp hpt hgd HD
    go_enter Tryz.func45, Tryz.ntmps45
    go_wp2_with (first
      | (go_at_call 43; refine (hG.out _).mono ?_; intro e w1 hans; obtain ⟨a, c, rfl, ho, hc, b1⟩ := hA.out _ _ _ hans; clear hans; have p1 := sp_new (k := K) (o := O) (t := S) (a := a) (n := Z.length) (c := c) b1; have x0 := p1.nb.c0; have x3 := p1.nb.c3; have c0 := p1.arg.c0; have c1 := p1.arg.c1; have c2 := p1.arg.c2; have c4 := p1.arg.c4; have c5 := p1.arg.c5; have r1 := ho.row.alloc (.cells #[.int .i64 K, .int .i64 O, .int .i64 S, .slice a Z.length c] 49); have r2 := (HL.out _ p1.bel).r1)
      | (go_at_call 73; refine (B1.l01In_any _ _ _ _).mono ?_; rintro e w' ⟨rfl, rfl⟩))
    go_ret
    exact ⟨rfl, p1.bel⟩
  · rw [gI] at hA
    rw [N10.sOk_first hp]
    clear gI hlast hD0 hp hpt hgd HD
    go_enter Tryz.func45, Tryz.ntmps45
    go_wp2_with (first
      | (go_at_call 43; refine (hG.out _).mono ?_; intro e w1 hans; obtain ⟨a, c, rfl, ho, hc, b1⟩ := hA.out _ _ _ hans; clear hans; have p1 := sp_new (k := K) (o := O) (t := S) (a := a) (n := Z.length) (c := c) b1; have x0 := p1.nb.c0; have x3 := p1.nb.c3; have c0 := p1.arg.c0; have c1 := p1.arg.c1; have c2 := p1.arg.c2; have c4 := p1.arg.c4; have c5 := p1.arg.c5; have r1 := ho.row.alloc (.cells #[.int .i64 K, .int .i64 O, .int .i64 S, .slice a Z.length c] 49); have r2 := (HL.out _ p1.bel).r1)
      | (go_at_call 73; refine (B1.l01In_any _ _ _ _).mono ?_; rintro e w' ⟨rfl, rfl⟩)
      | (go_at_call 74; refine (N2.same _ _ _ _ _ _ _ hzl hpl r1 r2).mono ?_; rintro e w2 ⟨rfl, m, rfl⟩))
    go_ret
    exact ⟨rfl, (p1.drewN m).bel⟩
  · rw [gI] at hA
    rw [N10.sOk_first hp]
    clear gI hlast hD0 hp hpt hgd HD
    go_enter Tryz.func45, Tryz.ntmps45
    go_wp2_with (first
      | (go_at_call 43; refine (hG.out _).mono ?_; intro e w1 hans; obtain ⟨a, c, rfl, ho, hc, b1⟩ := hA.out _ _ _ hans; clear hans; have p1 := sp_new (k := K) (o := O) (t := S) (a := a) (n := Z.length) (c := c) b1; have x0 := p1.nb.c0; have x3 := p1.nb.c3; have c0 := p1.arg.c0; have c1 := p1.arg.c1; have c2 := p1.arg.c2; have c4 := p1.arg.c4; have c5 := p1.arg.c5; have r1 := ho.row.alloc (.cells #[.int .i64 K, .int .i64 O, .int .i64 S, .slice a Z.length c] 49); have r2 := (HL.out _ p1.bel).r1)
      | (go_at_call 73; refine (B1.l01In_any _ _ _ _).mono ?_; rintro e w' ⟨rfl, rfl⟩)
      | (go_at_call 74; refine (N2.same _ _ _ _ _ _ _ hzl hpl r1 r2).mono ?_; rintro e w2 ⟨rfl, m, rfl⟩))
    go_ret
    exact ⟨rfl, (p1.drewN m).bel⟩
  · rw [gI] at hA
    replace hpt : Hid (∀ W, Calls Tryz.prog 72 #[.string d.sav, .int .i64 0, .int .i64 S] W fun e w' => e = .returned (.string P) ∧ w' = W) := hpt.out gI
    clear gI
    have HF1 : Hid (N0.sFirst d = true) := hp
    have HD0 : Hid (N0.sDir d = (!decide (K = 2) || V0.isD P)) := hD0
    have HLast := hlast
    have hpo' : d.po.length ≤ 281474976710656 := by omega
    have hfr' : d.fr.length ≤ 281474976710656 := by omega
    obtain ⟨RV, hRV⟩ : ∃ RV, N0.loanOk d = RV := ⟨_, rfl⟩
    have HNo1 : Hid (N0.apart d.pg d.po = false → false = RV) := fun h => by rw [← hRV, N10.sOk_ap h]
    have HNo2 : Hid (N0.sDir d = false → false = RV) := fun h => by rw [← hRV, N10.sOk_dir h]
    have HYes : Hid (N0.apart d.pg d.po = true → N0.sDir d = true → N0.sLast d = RV) := fun h1 h2 => by rw [← hRV, N10.sOk_last HF1.out h1 h2]
    rw [hRV]
    clear hp hD0 hlast hRV
    go_enter Tryz.func45, Tryz.ntmps45
    go_wp2_with (first
      | (go_at_call 43; refine (hG.out _).mono ?_; intro e w1 hans; obtain ⟨a, c, rfl, ho, hc, b1⟩ := hA.out _ _ _ hans; clear hans; have p1 := sp_new (k := K) (o := O) (t := S) (a := a) (n := Z.length) (c := c) b1; have x0 := p1.nb.c0; have x3 := p1.nb.c3; have c0 := p1.arg.c0; have c1 := p1.arg.c1; have c2 := p1.arg.c2; have c4 := p1.arg.c4; have c5 := p1.arg.c5; have r1 := ho.row.alloc (.cells #[.int .i64 K, .int .i64 O, .int .i64 S, .slice a Z.length c] 49); have r2 := (HL.out _ p1.bel).r1)
      | (go_at_call 73; refine (B1.l01In_any _ _ _ _).mono ?_; rintro e w' ⟨rfl, rfl⟩)
      | (go_at_call 74; refine (N2.same _ _ _ _ _ _ _ hzl hpl r1 r2).mono ?_; rintro e w2 ⟨rfl, m, rfl⟩))
    have p2 := p1.drewN m
    obtain ⟨V, hV⟩ : ∃ V, (w1.alloc (.cells #[.int .i64 K, .int .i64 O, .int .i64 S, .slice a Z.length c] 49)).drewN m = V := ⟨_, rfl⟩
    rw [hV] at p2 ⊢
    clear hV p1 x0 x3 c0 c1 c2 c4 c5 r1 r2 ho b1 g0 g1 g2 g3 gz gs
    go_loopw [5] (fun i w' => ∃ j n : Nat, j ≤ d.po.length ∧ N0.to (N0.apAt d.pg d.po) j = true ∧ i = .int .i64 j ∧ w' = V.drewN n) (fun i _ => d.po.length - (intOf i).toNat)
    case atStart => exact ⟨0, 0, Nat.zero_le _, rfl, rfl, rfl⟩
    case round =>
      obtain ⟨j, n, hj, hok, rfl, hW⟩ := hrel
      have HW : Hid (∀ m, ∃ m', wr.drewN m = V.drewN m') := fun m => ⟨n + m, by rw [hW, World.drewN_drewN]⟩
      have pw : SP w d s K O S a Z.length c w1.heap.size wr := by rw [hW]; exact p2.drewN n
      have c4 := pw.arg.c4
      have c6 := pw.arg.c6
      have HWB : Hid (∀ m, Below w.heap.size w (wr.drewN m)) := fun m => K0.below_drewN pw.bel m
      by_cases hlt : j < d.po.length
      · obtain ⟨b, off, hab, hb, hcell⟩ := (HL.out _ pw.bel).r2.get hlt
        have hH : Hid (∀ m x, Calls Tryz.prog 47 #[.slice s.a1 d.pg.length s.c1, .int .i64 x] (wr.drewN m) fun e w' => e = .returned (.bool (P0.has d.pg x)) ∧ w' = wr.drewN m) := fun m x => N2.hasRow s.a1 s.c1 d.pg x _ hpl ((HL.out _ pw.bel).r1.drewN m)
        have x1 := hcell j hlt
        have hat : N0.apAt d.pg d.po j = !(P0.has d.pg (d.po.getD j 0)) := rfl
        obtain ⟨z, ez⟩ : ∃ z, d.po.getD j 0 = z := ⟨_, rfl⟩
        rw [ez] at x1 hat
        rw [hab] at c6
        have e1 : (0 : Int) ≤ (j : Int) := by omega
        have e2 : (j : Int) < (d.po.length : Int) := by omega
        cases h2 : P0.has d.pg z with
        | true =>
          have HR : Hid (false = RV) := HNo1.out (N0.to_bad hlt (by rw [hat, h2]; rfl))
          clear hat hok ez hcell hW pw p2
          go_wp2
          go_quiet ((go_at_call 47; exact quiet_bool (hH.out _ _) h2))
          go_wp2
          go_ret
          exact ⟨ret_bool HR.out, HWB.out _⟩
        | false =>
          have HO : Hid (N0.to (N0.apAt d.pg d.po) (j + 1) = true) := N0.to_step hok (by rw [hat, h2]; rfl)
          clear hat hok ez hcell hW pw p2
          go_wp2
          go_quiet ((go_at_call 47; exact quiet_bool (hH.out _ _) h2))
          go_wp2
          obtain ⟨m', hm'⟩ := HW.out nq
          go_roundw
          case rel => exact ⟨j + 1, m', by omega, HO.out, by go_num, hm'⟩
          case measure => simp [intOf]; omega
      · obtain rfl : j = d.po.length := by omega
        have hap : N0.apart d.pg d.po = true := hok
        have c5 := pw.arg.c5
        have n2 := pw.nb.c2
        have e9 : decide ((d.po.length : Int) < (d.po.length : Int)) = false := by simp
        have hdc : (K == 2) = true ∧ V0.isD P = false ∧ false = RV ∨ (((K == 2) = true ∧ V0.isD P = true) ∨ (K == 2) = false) ∧ N0.sLast d = RV := by
          by_cases h2 : K = 2
          · cases hI : V0.isD P with
            | false => exact Or.inl ⟨by simpa using h2, rfl, HNo2.out (by rw [HD0.out, decide_eq_true h2, hI]; rfl)⟩
            | true => exact Or.inr ⟨Or.inl ⟨by simpa using h2, rfl⟩, HYes.out hap (by rw [HD0.out, hI, Bool.or_true])⟩
          · exact Or.inr ⟨Or.inr (by simpa using h2), HYes.out hap (by rw [HD0.out, decide_eq_false h2]; rfl)⟩
        clear hok hW p2 HW HWB hap HNo1 HNo2 HYes HD0 c4
        rcases hdc with ⟨hk2, hDf, HR0⟩ | ⟨hk2, HR0⟩
        · have HR : Hid (false = RV) := HR0
          clear HR0
          go_wp2_with (first
            | (go_at_call 72; refine (hpt.out _).mono ?_; rintro e w4 ⟨rfl, rfl⟩)
            | (go_at_call 67; refine (hgd.out _).mono ?_; intro e w5 hans; obtain ⟨ae, ce, rfl, b5⟩ := HD.out _ _ _ hans; clear hans; have p5 := pw.below b5; have k0 := p5.nb.c0; have y0 := p5.arg.c0; have y6 := p5.arg.c6; have y7 := p5.arg.c7))
          go_ret
          exact ⟨ret_bool HR.out, p5.bel⟩
        · have HR : Hid (N0.sLast d = RV) := HR0
          clear HR0
          rcases HLast with ⟨u1, hl⟩ | ⟨u1, u2, hl⟩ | ⟨u1, u2, u3, hl⟩ | ⟨u1, u2, u3, u4, hl⟩ | ⟨u1, u2, u3, u4, u5, hl⟩ | ⟨u1, u2, u3, u4, u5, u6, hl⟩ | ⟨u1, u2, u3, u4, u5, u6, hl⟩
          all_goals
            have HQ : Hid (_ = RV) := hl.symm.trans HR.out
            clear hl HR
            rcases hk2 with ⟨v1, v2⟩ | v1
          all_goals first
            | (exact absurd (v1.symm.trans u6) (by decide))
            | (go_wp2_with (first
                | (go_at_call 72; refine (hpt.out _).mono ?_; rintro e w4 ⟨rfl, rfl⟩)
                | (go_at_call 67; refine (hgd.out _).mono ?_; intro e w5 hans; obtain ⟨ae, ce, rfl, b5⟩ := HD.out _ _ _ hans; clear hans; have p5 := pw.below b5; have k0 := p5.nb.c0; have y0 := p5.arg.c0; have y6 := p5.arg.c6; have y7 := p5.arg.c7)
                | (go_at_call 75; have m6' := m6; refine (N2.l05Up s.a3 s.c3 d.fr 1 7 _ hfr' ((HL.out _ p5.bel).r3.drewN m6)).mono ?_; rintro e w7 ⟨rfl, m7, rfl⟩)
                | (go_at_call 75; refine (N2.l05Up s.a2 s.c2 d.po 5 23 _ hpo' (HL.out _ p5.bel).r2).mono ?_; rintro e w6 ⟨rfl, m6, rfl⟩)
                | (go_at_call 47; refine (N2.hasRow s.a3 s.c3 d.fr _ _ hfr' (by simpa only [World.drewN_drewN] using (HL.out _ p5.bel).r3.drewN (m6 + m7))).mono ?_; rintro e w8 ⟨rfl, rfl⟩))
               go_ret
               exact ⟨ret_bool HQ.out, by first | exact p5.bel | exact K0.below_drewN p5.bel _⟩)
end Go.Proofs.YtkdjcbmmbjongaaGreat.N11
