/- Joined texts: plain facts and contracts. -/
import Derived.Test.YtljnkicgahepfaaGreatDoorJlA
import Derived.Test.YtljnkicgahepfaaGreatDoorJlT
import Derived.Test.YtljnkicgahepfaaGreatDoorJlZ
import Derived.Test.YtljnkicgahepfaaGreatDoorJlQ
import Derived.Test.YtljnkicgahepfaaGreatDoorJlP
import Derived.Test.YtljnkicgahepfaaGreatDoorJlX
import Derived.Test.YtljnkicgahepfaaGreatDoorJlG
import Derived.Deep.RegionHeld3
set_option linter.unusedVariables false
set_option linter.unusedSimpArgs false
set_option maxRecDepth 10000
namespace Go.Proofs.YtljnkicgahepfaaGreatDoor.KL
open Go.ChangeShapes Go.WideShapes Go.ChangeAt Go.RowKit
open N0 (Ln)
open N1 (Sl Lists Fit LB)
open N13 (Bx bx_new)
def pgAt (m : ByteArray) (d : Ln) (j : Nat) : Bool := decide (B2.part d.sav ((j : Int) * 32) 32 = B2.part m (d.pg.getD j 0 * 32) 32)
def frAt (m : ByteArray) (d : Ln) (j : Nat) : Bool := decide (O0.recd m (d.fr.getD j 0) = B4.zeros 16)
def lOk (m : ByteArray) (us : List Int) (d : Ln) : Bool := N0.loanOk d && (O0.isL m d.ino && (decide (d.rc = O0.recd m d.ino) && (N0.to (pgAt m d) d.pg.length && (N0.to (frAt m d) d.fr.length && decide ((Y6.srt (Y6.kept true d.po us)).length = 0)))))
structure SB (w : World) (d : Ln) (s : Sl) (ai : Option Addr) (zn ci : Nat) (L I : Nat) (W : World) : Prop where
 lb : LB L d s W
 ib : W.cell? ⟨I, 3, none⟩ = some (.slice ai zn ci)
 lt : I < W.heap.size
 bel : Below w.heap.size w W
variable {w W W' : World} {d : Ln} {s : Sl} {ai : Option Addr} {zn ci L I : Nat}
theorem SB.below (h : SB w d s ai zn ci L I W) (hb : Below W.heap.size W W') : SB w d s ai zn ci L I W' := ⟨h.lb.below hb, (hb.cell (p := ⟨I, 3, none⟩) h.lt).trans h.ib, Nat.lt_of_lt_of_le h.lt hb.size, h.bel.trans (hb.mono h.bel.size)⟩
theorem SB.drewN (h : SB w d s ai zn ci L I W) (n : Nat) : SB w d s ai zn ci L I (W.drewN n) := h.below (K0.below_drewN (Below.refl _ _) n)
theorem SB.cells (h : SB w d s ai zn ci L I W) : W.cell? ⟨L, 0, none⟩ = some (.int .i64 d.ino) ∧ W.cell? ⟨L, 1, none⟩ = some (.int .i64 d.cl) ∧ W.cell? ⟨L, 2, none⟩ = some (.int .i64 d.un) ∧ W.cell? ⟨L, 3, none⟩ = some (.string d.rc) ∧ W.cell? ⟨L, 4, none⟩ = some (.slice s.a1 d.pg.length s.c1) ∧ W.cell? ⟨L, 5, none⟩ = some (.string d.sav) ∧ W.cell? ⟨L, 6, none⟩ = some (.slice s.a2 d.po.length s.c2) ∧ W.cell? ⟨L, 7, none⟩ = some (.slice s.a3 d.fr.length s.c3) ∧ W.cell? ⟨I, 3, none⟩ = some (.slice ai zn ci) := ⟨h.lb.c0, h.lb.c1, h.lb.c2, h.lb.c3, h.lb.c4, h.lb.c5, h.lb.c6, h.lb.c7, h.ib⟩
set_option maxHeartbeats 8000000 in
theorem l06LoanOk (m : ByteArray) (ua : Option Addr) (uc : Nat) (us : List Int) (d : Ln) (s : Sl) (w : World) (hm : m.size = 768) (hF : Fit d s) (hpo : d.po.length ≤ 1048576) (hfr : d.fr.length ≤ 1048576) (hus : us.length ≤ 1048576) (hR : Lists w d s) (ru : P0.Row w ua us) :
  Calls Tryz.prog 51 #[.string m, .slice ua us.length uc, N1.val d s] w fun e w' => e = .returned (.bool (lOk m us d)) ∧ Below w.heap.size w w' := by
 have x0 := bx_new w d s
 have HL : Hid (∀ W, Below w.heap.size w W → Lists W d s) := fun W hb => hR.below hb
 have HLd : Hid (∀ W, Calls Tryz.prog 116 #[.string m, .int .i64 d.ino] W fun e w' => ∃ k o t a n c x, e = .returned (.tuple #[I0.val k o t a n c, .string x, .bool (O0.isL m d.ino)]) ∧ Below W.heap.size W w' ∧ (O0.isL m d.ino = true → n = (G0.gZ (O0.recd m d.ino)).length ∧ P0.Row w' a (G0.gZ (O0.recd m d.ino)))) := fun W => (O3.spec_Load m d.ino W (by omega)).mono fun e w' ⟨a, c, he, ho, hc, hb⟩ => ⟨_, _, _, a, _, c, _, he, hb, fun h => by
  have h4 := (O0.l_yes h).2.2.2.1
  rw [h4] at ho ⊢
  exact ⟨rfl, ho.row⟩⟩
 have HLo : Hid (∀ W, Below w.heap.size w W → Calls Tryz.prog 108 #[N1.val d s] W fun e w' => e = .returned (.bool (N0.loanOk d)) ∧ Below W.heap.size W w') := fun W hb => N11.spec_LoanOk d s W hF hpo hfr (hR.below hb)
 have HRc : Hid (∀ i W, Calls Tryz.prog 120 #[.string m, .int .i64 i] W fun e w' => e = .returned (.string (O0.recd m i)) ∧ w' = W) := fun i W => O1.l03Rec m i W (by omega)
 have HOn : Hid (∀ W, Below w.heap.size w W → Calls Tryz.prog 122 #[.slice s.a2 d.po.length s.c2, .slice ua us.length uc, .bool true] W fun e w' => ∃ a c, e = .returned (.slice a (Y6.srt (Y6.kept true d.po us)).length c) ∧ Below W.heap.size W w') := fun W hb => (Y6.l05Only true s.a2 ua s.c2 uc d.po us W hpo (by omega) (hR.below hb).r2 (ru.below hb)).mono fun e w' ⟨a, c, he, _, _, hb⟩ => ⟨a, c, he, hb⟩
 have hss := hF.m5
 clear hR hF ru
 unfold lOk
 cases hok : N0.loanOk d with
 | false =>
  rw [hok] at HLo
  clear hok
  go_enter Tryz.func51, Tryz.ntmps51
  go_wp2_with (go_at_call 116; refine (HLd.out _).mono ?_; rintro e w1 ⟨kk, oo, tt, ai, zn, ci, xx, rfl, b1, hy⟩; have x1 := x0.below b1; have HY : Hid _ := hy; clear hy)
  have b2 := K0.below_new w1 (.cells #[.int .i64 kk, .int .i64 oo, .int .i64 tt, .slice ai zn ci] 143)
  have k2 := K0.blk_new [.int .i64 kk, .int .i64 oo, .int .i64 tt, .slice ai zn ci] w1 143
  have x2 := x1.below b2
  have hb : SB w d s ai zn ci w.heap.size w1.heap.size (w1.alloc (.cells #[.int .i64 kk, .int .i64 oo, .int .i64 tt, .slice ai zn ci] 143)) := ⟨x2.arg, k2.c3, k2.lt, x2.bel⟩
  obtain ⟨L, hL⟩ : ∃ L, w.heap.size = L := ⟨_, rfl⟩
  obtain ⟨I, hI⟩ : ∃ I, w1.heap.size = I := ⟨_, rfl⟩
  obtain ⟨W2, hW2⟩ : ∃ W2, w1.alloc (.cells #[.int .i64 kk, .int .i64 oo, .int .i64 tt, .slice ai zn ci] 143) = W2 := ⟨_, rfl⟩
  rw [hI, hW2] at hb
  simp only [hI, hW2]
  have hb1 : SB w d s ai zn ci L I W2.drew := by
   rw [← hL]
   exact hb.drewN 1
  simp only [hL]
  have s1 := hb1.cells
  clear hW2 hb x2 k2 b2 x1 b1 HY x0
  refine wp_region_held (S := fun W => W.cell? ⟨L, 0, none⟩ = some (.int .i64 d.ino) ∧ W.cell? ⟨L, 1, none⟩ = some (.int .i64 d.cl) ∧ W.cell? ⟨L, 2, none⟩ = some (.int .i64 d.un) ∧ W.cell? ⟨L, 3, none⟩ = some (.string d.rc) ∧ W.cell? ⟨L, 4, none⟩ = some (.slice s.a1 d.pg.length s.c1) ∧ W.cell? ⟨L, 5, none⟩ = some (.string d.sav) ∧ W.cell? ⟨L, 6, none⟩ = some (.slice s.a2 d.po.length s.c2) ∧ W.cell? ⟨L, 7, none⟩ = some (.slice s.a3 d.fr.length s.c3) ∧ W.cell? ⟨I, 3, none⟩ = some (.slice ai zn ci)) (by kernel_rfl) ?_
  refine wpAnyH_take (i := 0) (v := N1.val d s) rfl (by kernel_rfl) (by kernel_rfl) (by kernel_rfl) (fun _ _ _ h => h) (Or.inl ⟨by rfl, fun w' hS' => ?_⟩) s1 ?_
  ·obtain ⟨q0, q1, q2, q3, q4, q5, q6, q7, p3⟩ := hS'
   go_simp
  simp only [BZ.z, Act.put, Nat.reduceAdd]
  refine Y0.one_callw (i := 1) (by kernel_rfl) rfl (by rfl) (.tmp 20) _ rfl (N1.val d s) (by rfl) (enters_of Tryz.func108 (by kernel_rfl) rfl) ((HLo.out _ hb1.bel).mono ?_)
  rintro e w3 ⟨rfl, b3⟩
  have hb3 := hb1.below b3
  have s3 := hb3.cells
  refine ⟨_, rfl, s3, ?_⟩
  simp only [BZ.z, Act.put, Nat.reduceAdd]
  refine wpAnyH_take (i := 2) (v := .bool true) rfl (by kernel_rfl) (by kernel_rfl) (by kernel_rfl) (fun _ _ _ h => h) (Or.inl ⟨by rfl, fun w' hS' => by rfl⟩) s3 ?_
  simp only [BZ.z, Act.put, Nat.reduceAdd]
  refine wpAnyH_take (i := 3) (v := .bool true) rfl (by kernel_rfl) (by kernel_rfl) (by kernel_rfl) (fun _ _ _ h => h) (Or.inl ⟨by rfl, fun w' hS' => by rfl⟩) s3 ?_
  simp only [BZ.z, Act.put, Nat.reduceAdd]
  refine wpAnyH_take (i := 4) (v := undef) rfl (by kernel_rfl) (by kernel_rfl) (by kernel_rfl) (fun _ _ _ h => h) (Or.inr ⟨by rfl, rfl⟩) s3 ?_
  simp only [BZ.z, Act.put, Nat.reduceAdd]
  refine wpAnyH_take (i := 5) (v := undef) rfl (by kernel_rfl) (by kernel_rfl) (by kernel_rfl) (fun _ _ _ h => h) (Or.inr ⟨by rfl, rfl⟩) s3 ?_
  simp only [BZ.z, Act.put, Nat.reduceAdd]
  refine wpAnyH_take (i := 6) (v := .bool true) rfl (by kernel_rfl) (by kernel_rfl) (by kernel_rfl) (fun _ _ _ h => h) (Or.inl ⟨by rfl, fun w' hS' => by rfl⟩) s3 ?_
  simp only [BZ.z, Act.put, Nat.reduceAdd]
  refine wpAnyH_take (i := 7) (v := .bool true) rfl (by kernel_rfl) (by kernel_rfl) (by kernel_rfl) (fun _ _ _ h => h) (Or.inl ⟨by rfl, fun w' hS' => by rfl⟩) s3 ?_
  simp only [BZ.z, Act.put, Nat.reduceAdd]
  refine wpAnyH_take (i := 8) (v := undef) rfl (by kernel_rfl) (by kernel_rfl) (by kernel_rfl) (fun _ _ _ h => h) (Or.inr ⟨by rfl, rfl⟩) s3 ?_
  simp only [BZ.z, Act.put, Nat.reduceAdd]
  refine wpAnyH_take (i := 9) (v := undef) rfl (by kernel_rfl) (by kernel_rfl) (by kernel_rfl) (fun _ _ _ h => h) (Or.inr ⟨by rfl, rfl⟩) s3 ?_
  simp only [BZ.z, Act.put, Nat.reduceAdd]
  refine wpAnyH_take (i := 10) (v := undef) rfl (by kernel_rfl) (by kernel_rfl) (by kernel_rfl) (fun _ _ _ h => h) (Or.inr ⟨by rfl, rfl⟩) s3 ?_
  simp only [BZ.z, Act.put, Nat.reduceAdd]
  refine wpAnyH_take (i := 11) (v := undef) rfl (by kernel_rfl) (by kernel_rfl) (by kernel_rfl) (fun _ _ _ h => h) (Or.inr ⟨by rfl, rfl⟩) s3 ?_
  simp only [BZ.z, Act.put, Nat.reduceAdd]
  refine wpAnyH_take (i := 12) (v := undef) rfl (by kernel_rfl) (by kernel_rfl) (by kernel_rfl) (fun _ _ _ h => h) (Or.inr ⟨by rfl, rfl⟩) s3 ?_
  simp only [BZ.z, Act.put, Nat.reduceAdd]
  refine wpAnyH_take (i := 13) (v := undef) rfl (by kernel_rfl) (by kernel_rfl) (by kernel_rfl) (fun _ _ _ h => h) (Or.inr ⟨by rfl, rfl⟩) s3 ?_
  simp only [BZ.z, Act.put, Nat.reduceAdd]
  refine wpAnyH_take (i := 14) (v := undef) rfl (by kernel_rfl) (by kernel_rfl) (by kernel_rfl) (fun _ _ _ h => h) (Or.inr ⟨by rfl, rfl⟩) s3 ?_
  simp only [BZ.z, Act.put, Nat.reduceAdd]
  refine wpAnyH_take (i := 15) (v := .bool true) rfl (by kernel_rfl) (by kernel_rfl) (by kernel_rfl) (fun _ _ _ h => h) (Or.inl ⟨by rfl, fun w' hS' => by rfl⟩) s3 ?_
  simp only [BZ.z, Act.put, Nat.reduceAdd]
  refine wpAnyH_take (i := 16) (v := .bool true) rfl (by kernel_rfl) (by kernel_rfl) (by kernel_rfl) (fun _ _ _ h => h) (Or.inl ⟨by rfl, fun w' hS' => by rfl⟩) s3 ?_
  simp only [BZ.z, Act.put, Nat.reduceAdd]
  refine wpAnyH_take (i := 17) (v := undef) rfl (by kernel_rfl) (by kernel_rfl) (by kernel_rfl) (fun _ _ _ h => h) (Or.inr ⟨by rfl, rfl⟩) s3 ?_
  simp only [BZ.z, Act.put, Nat.reduceAdd]
  refine wpAnyH_take (i := 18) (v := undef) rfl (by kernel_rfl) (by kernel_rfl) (by kernel_rfl) (fun _ _ _ h => h) (Or.inr ⟨by rfl, rfl⟩) s3 ?_
  simp only [BZ.z, Act.put, Nat.reduceAdd]
  refine wpAnyH_take (i := 19) (v := undef) rfl (by kernel_rfl) (by kernel_rfl) (by kernel_rfl) (fun _ _ _ h => h) (Or.inr ⟨by rfl, rfl⟩) s3 ?_
  simp only [BZ.z, Act.put, Nat.reduceAdd]
  refine wpAnyH_take (i := 20) (v := undef) rfl (by kernel_rfl) (by kernel_rfl) (by kernel_rfl) (fun _ _ _ h => h) (Or.inr ⟨by rfl, rfl⟩) s3 ?_
  simp only [BZ.z, Act.put, Nat.reduceAdd]
  refine wpAnyH_take (i := 21) (v := undef) rfl (by kernel_rfl) (by kernel_rfl) (by kernel_rfl) (fun _ _ _ h => h) (Or.inr ⟨by rfl, rfl⟩) s3 ?_
  simp only [BZ.z, Act.put, Nat.reduceAdd]
  refine wpAnyH_take (i := 22) (v := undef) rfl (by kernel_rfl) (by kernel_rfl) (by kernel_rfl) (fun _ _ _ h => h) (Or.inr ⟨by rfl, rfl⟩) s3 ?_
  simp only [BZ.z, Act.put, Nat.reduceAdd]
  refine wpAnyH_take (i := 23) (v := .bool true) rfl (by kernel_rfl) (by kernel_rfl) (by kernel_rfl) (fun _ _ _ h => h) (Or.inl ⟨by rfl, fun w' hS' => by rfl⟩) s3 ?_
  simp only [BZ.z, Act.put, Nat.reduceAdd]
  refine wpAnyH_done (by kernel_rfl) ?_ _
  go_wp2
  go_ret
  exact ⟨rfl, hb3.bel⟩
 | true =>
  rw [hok] at HLo
  obtain ⟨-, -, hgz, hsv, -, -, hp6, hp4, hp2, hpp, hfi, -, -⟩ := N0.loanOk_is hok
  have hpg : ∀ j, j < d.pg.length → 5 ≤ d.pg.getD j 0 ∧ d.pg.getD j 0 ≤ 23 := fun j hj => (N0.pagesOk_iff.1 hpp).1 _ (List.mem_append.2 (Or.inl (N0.getD_mem hj)))
  clear hok hpp hsv hfi
  cases hl : O0.isL m d.ino with
  | false =>
   rw [hl] at HLd
   clear hl hgz
   go_enter Tryz.func51, Tryz.ntmps51
   go_wp2_with (go_at_call 116; refine (HLd.out _).mono ?_; rintro e w1 ⟨kk, oo, tt, ai, zn, ci, xx, rfl, b1, hy⟩; have x1 := x0.below b1; have HY : Hid _ := hy; clear hy)
   have b2 := K0.below_new w1 (.cells #[.int .i64 kk, .int .i64 oo, .int .i64 tt, .slice ai zn ci] 143)
   have k2 := K0.blk_new [.int .i64 kk, .int .i64 oo, .int .i64 tt, .slice ai zn ci] w1 143
   have x2 := x1.below b2
   have hb : SB w d s ai zn ci w.heap.size w1.heap.size (w1.alloc (.cells #[.int .i64 kk, .int .i64 oo, .int .i64 tt, .slice ai zn ci] 143)) := ⟨x2.arg, k2.c3, k2.lt, x2.bel⟩
   obtain ⟨L, hL⟩ : ∃ L, w.heap.size = L := ⟨_, rfl⟩
   obtain ⟨I, hI⟩ : ∃ I, w1.heap.size = I := ⟨_, rfl⟩
   obtain ⟨W2, hW2⟩ : ∃ W2, w1.alloc (.cells #[.int .i64 kk, .int .i64 oo, .int .i64 tt, .slice ai zn ci] 143) = W2 := ⟨_, rfl⟩
   rw [hI, hW2] at hb
   simp only [hI, hW2]
   have hb1 : SB w d s ai zn ci L I W2.drew := by
    rw [← hL]
    exact hb.drewN 1
   simp only [hL]
   have s1 := hb1.cells
   clear hW2 hb x2 k2 b2 x1 b1 HY x0
   refine wp_region_held (S := fun W => W.cell? ⟨L, 0, none⟩ = some (.int .i64 d.ino) ∧ W.cell? ⟨L, 1, none⟩ = some (.int .i64 d.cl) ∧ W.cell? ⟨L, 2, none⟩ = some (.int .i64 d.un) ∧ W.cell? ⟨L, 3, none⟩ = some (.string d.rc) ∧ W.cell? ⟨L, 4, none⟩ = some (.slice s.a1 d.pg.length s.c1) ∧ W.cell? ⟨L, 5, none⟩ = some (.string d.sav) ∧ W.cell? ⟨L, 6, none⟩ = some (.slice s.a2 d.po.length s.c2) ∧ W.cell? ⟨L, 7, none⟩ = some (.slice s.a3 d.fr.length s.c3) ∧ W.cell? ⟨I, 3, none⟩ = some (.slice ai zn ci)) (by kernel_rfl) ?_
   refine wpAnyH_take (i := 0) (v := N1.val d s) rfl (by kernel_rfl) (by kernel_rfl) (by kernel_rfl) (fun _ _ _ h => h) (Or.inl ⟨by rfl, fun w' hS' => ?_⟩) s1 ?_
   ·obtain ⟨q0, q1, q2, q3, q4, q5, q6, q7, p3⟩ := hS'
    go_simp
   simp only [BZ.z, Act.put, Nat.reduceAdd]
   refine Y0.one_callw (i := 1) (by kernel_rfl) rfl (by rfl) (.tmp 20) _ rfl (N1.val d s) (by rfl) (enters_of Tryz.func108 (by kernel_rfl) rfl) ((HLo.out _ hb1.bel).mono ?_)
   rintro e w3 ⟨rfl, b3⟩
   have hb3 := hb1.below b3
   have s3 := hb3.cells
   refine ⟨_, rfl, s3, ?_⟩
   simp only [BZ.z, Act.put, Nat.reduceAdd]
   refine wpAnyH_take (i := 2) (v := .bool false) rfl (by kernel_rfl) (by kernel_rfl) (by kernel_rfl) (fun _ _ _ h => h) (Or.inl ⟨by rfl, fun w' hS' => by rfl⟩) s3 ?_
   simp only [BZ.z, Act.put, Nat.reduceAdd]
   refine wpAnyH_take (i := 3) (v := .bool false) rfl (by kernel_rfl) (by kernel_rfl) (by kernel_rfl) (fun _ _ _ h => h) (Or.inl ⟨by rfl, fun w' hS' => by rfl⟩) s3 ?_
   simp only [BZ.z, Act.put, Nat.reduceAdd]
   refine wpAnyH_take (i := 4) (v := .bool false) rfl (by kernel_rfl) (by kernel_rfl) (by kernel_rfl) (fun _ _ _ h => h) (Or.inl ⟨by rfl, fun w' hS' => by rfl⟩) s3 ?_
   simp only [BZ.z, Act.put, Nat.reduceAdd]
   refine wpAnyH_take (i := 5) (v := .bool true) rfl (by kernel_rfl) (by kernel_rfl) (by kernel_rfl) (fun _ _ _ h => h) (Or.inl ⟨by rfl, fun w' hS' => by rfl⟩) s3 ?_
   simp only [BZ.z, Act.put, Nat.reduceAdd]
   refine wpAnyH_take (i := 6) (v := .bool true) rfl (by kernel_rfl) (by kernel_rfl) (by kernel_rfl) (fun _ _ _ h => h) (Or.inl ⟨by rfl, fun w' hS' => by rfl⟩) s3 ?_
   simp only [BZ.z, Act.put, Nat.reduceAdd]
   refine wpAnyH_take (i := 7) (v := .bool true) rfl (by kernel_rfl) (by kernel_rfl) (by kernel_rfl) (fun _ _ _ h => h) (Or.inl ⟨by rfl, fun w' hS' => by rfl⟩) s3 ?_
   simp only [BZ.z, Act.put, Nat.reduceAdd]
   refine wpAnyH_take (i := 8) (v := undef) rfl (by kernel_rfl) (by kernel_rfl) (by kernel_rfl) (fun _ _ _ h => h) (Or.inr ⟨by rfl, rfl⟩) s3 ?_
   simp only [BZ.z, Act.put, Nat.reduceAdd]
   refine wpAnyH_take (i := 9) (v := undef) rfl (by kernel_rfl) (by kernel_rfl) (by kernel_rfl) (fun _ _ _ h => h) (Or.inr ⟨by rfl, rfl⟩) s3 ?_
   simp only [BZ.z, Act.put, Nat.reduceAdd]
   refine wpAnyH_take (i := 10) (v := undef) rfl (by kernel_rfl) (by kernel_rfl) (by kernel_rfl) (fun _ _ _ h => h) (Or.inr ⟨by rfl, rfl⟩) s3 ?_
   simp only [BZ.z, Act.put, Nat.reduceAdd]
   refine wpAnyH_take (i := 11) (v := undef) rfl (by kernel_rfl) (by kernel_rfl) (by kernel_rfl) (fun _ _ _ h => h) (Or.inr ⟨by rfl, rfl⟩) s3 ?_
   simp only [BZ.z, Act.put, Nat.reduceAdd]
   refine wpAnyH_take (i := 12) (v := undef) rfl (by kernel_rfl) (by kernel_rfl) (by kernel_rfl) (fun _ _ _ h => h) (Or.inr ⟨by rfl, rfl⟩) s3 ?_
   simp only [BZ.z, Act.put, Nat.reduceAdd]
   refine wpAnyH_take (i := 13) (v := undef) rfl (by kernel_rfl) (by kernel_rfl) (by kernel_rfl) (fun _ _ _ h => h) (Or.inr ⟨by rfl, rfl⟩) s3 ?_
   simp only [BZ.z, Act.put, Nat.reduceAdd]
   refine wpAnyH_take (i := 14) (v := undef) rfl (by kernel_rfl) (by kernel_rfl) (by kernel_rfl) (fun _ _ _ h => h) (Or.inr ⟨by rfl, rfl⟩) s3 ?_
   simp only [BZ.z, Act.put, Nat.reduceAdd]
   refine wpAnyH_take (i := 15) (v := .bool true) rfl (by kernel_rfl) (by kernel_rfl) (by kernel_rfl) (fun _ _ _ h => h) (Or.inl ⟨by rfl, fun w' hS' => by rfl⟩) s3 ?_
   simp only [BZ.z, Act.put, Nat.reduceAdd]
   refine wpAnyH_take (i := 16) (v := .bool true) rfl (by kernel_rfl) (by kernel_rfl) (by kernel_rfl) (fun _ _ _ h => h) (Or.inl ⟨by rfl, fun w' hS' => by rfl⟩) s3 ?_
   simp only [BZ.z, Act.put, Nat.reduceAdd]
   refine wpAnyH_take (i := 17) (v := undef) rfl (by kernel_rfl) (by kernel_rfl) (by kernel_rfl) (fun _ _ _ h => h) (Or.inr ⟨by rfl, rfl⟩) s3 ?_
   simp only [BZ.z, Act.put, Nat.reduceAdd]
   refine wpAnyH_take (i := 18) (v := undef) rfl (by kernel_rfl) (by kernel_rfl) (by kernel_rfl) (fun _ _ _ h => h) (Or.inr ⟨by rfl, rfl⟩) s3 ?_
   simp only [BZ.z, Act.put, Nat.reduceAdd]
   refine wpAnyH_take (i := 19) (v := undef) rfl (by kernel_rfl) (by kernel_rfl) (by kernel_rfl) (fun _ _ _ h => h) (Or.inr ⟨by rfl, rfl⟩) s3 ?_
   simp only [BZ.z, Act.put, Nat.reduceAdd]
   refine wpAnyH_take (i := 20) (v := undef) rfl (by kernel_rfl) (by kernel_rfl) (by kernel_rfl) (fun _ _ _ h => h) (Or.inr ⟨by rfl, rfl⟩) s3 ?_
   simp only [BZ.z, Act.put, Nat.reduceAdd]
   refine wpAnyH_take (i := 21) (v := undef) rfl (by kernel_rfl) (by kernel_rfl) (by kernel_rfl) (fun _ _ _ h => h) (Or.inr ⟨by rfl, rfl⟩) s3 ?_
   simp only [BZ.z, Act.put, Nat.reduceAdd]
   refine wpAnyH_take (i := 22) (v := undef) rfl (by kernel_rfl) (by kernel_rfl) (by kernel_rfl) (fun _ _ _ h => h) (Or.inr ⟨by rfl, rfl⟩) s3 ?_
   simp only [BZ.z, Act.put, Nat.reduceAdd]
   refine wpAnyH_take (i := 23) (v := .bool true) rfl (by kernel_rfl) (by kernel_rfl) (by kernel_rfl) (fun _ _ _ h => h) (Or.inl ⟨by rfl, fun w' hS' => by rfl⟩) s3 ?_
   simp only [BZ.z, Act.put, Nat.reduceAdd]
   refine wpAnyH_done (by kernel_rfl) ?_ _
   go_wp2
   go_ret
   exact ⟨rfl, hb3.bel⟩
  | true =>
   rw [hl] at HLd
   clear hl
   by_cases hrc : d.rc = O0.recd m d.ino
   rotate_left
   ·have e1 := KH.ne_list hrc
    rw [decide_eq_false hrc]
    clear hrc hgz
    go_enter Tryz.func51, Tryz.ntmps51
    go_wp2_with (go_at_call 116; refine (HLd.out _).mono ?_; rintro e w1 ⟨kk, oo, tt, ai, zn, ci, xx, rfl, b1, hy⟩; have x1 := x0.below b1; have HY : Hid _ := hy; clear hy)
    have b2 := K0.below_new w1 (.cells #[.int .i64 kk, .int .i64 oo, .int .i64 tt, .slice ai zn ci] 143)
    have k2 := K0.blk_new [.int .i64 kk, .int .i64 oo, .int .i64 tt, .slice ai zn ci] w1 143
    have x2 := x1.below b2
    have hb : SB w d s ai zn ci w.heap.size w1.heap.size (w1.alloc (.cells #[.int .i64 kk, .int .i64 oo, .int .i64 tt, .slice ai zn ci] 143)) := ⟨x2.arg, k2.c3, k2.lt, x2.bel⟩
    obtain ⟨L, hL⟩ : ∃ L, w.heap.size = L := ⟨_, rfl⟩
    obtain ⟨I, hI⟩ : ∃ I, w1.heap.size = I := ⟨_, rfl⟩
    obtain ⟨W2, hW2⟩ : ∃ W2, w1.alloc (.cells #[.int .i64 kk, .int .i64 oo, .int .i64 tt, .slice ai zn ci] 143) = W2 := ⟨_, rfl⟩
    rw [hI, hW2] at hb
    simp only [hI, hW2]
    have hb1 : SB w d s ai zn ci L I W2.drew := by
     rw [← hL]
     exact hb.drewN 1
    simp only [hL]
    have s1 := hb1.cells
    clear hW2 hb x2 k2 b2 x1 b1 HY x0
    refine wp_region_held (S := fun W => W.cell? ⟨L, 0, none⟩ = some (.int .i64 d.ino) ∧ W.cell? ⟨L, 1, none⟩ = some (.int .i64 d.cl) ∧ W.cell? ⟨L, 2, none⟩ = some (.int .i64 d.un) ∧ W.cell? ⟨L, 3, none⟩ = some (.string d.rc) ∧ W.cell? ⟨L, 4, none⟩ = some (.slice s.a1 d.pg.length s.c1) ∧ W.cell? ⟨L, 5, none⟩ = some (.string d.sav) ∧ W.cell? ⟨L, 6, none⟩ = some (.slice s.a2 d.po.length s.c2) ∧ W.cell? ⟨L, 7, none⟩ = some (.slice s.a3 d.fr.length s.c3) ∧ W.cell? ⟨I, 3, none⟩ = some (.slice ai zn ci)) (by kernel_rfl) ?_
    refine wpAnyH_take (i := 0) (v := N1.val d s) rfl (by kernel_rfl) (by kernel_rfl) (by kernel_rfl) (fun _ _ _ h => h) (Or.inl ⟨by rfl, fun w' hS' => ?_⟩) s1 ?_
    ·obtain ⟨q0, q1, q2, q3, q4, q5, q6, q7, p3⟩ := hS'
     go_simp
    simp only [BZ.z, Act.put, Nat.reduceAdd]
    refine Y0.one_callw (i := 1) (by kernel_rfl) rfl (by rfl) (.tmp 20) _ rfl (N1.val d s) (by rfl) (enters_of Tryz.func108 (by kernel_rfl) rfl) ((HLo.out _ hb1.bel).mono ?_)
    rintro e w3 ⟨rfl, b3⟩
    have hb3 := hb1.below b3
    have s3 := hb3.cells
    refine ⟨_, rfl, s3, ?_⟩
    simp only [BZ.z, Act.put, Nat.reduceAdd]
    refine wpAnyH_take (i := 2) (v := .bool false) rfl (by kernel_rfl) (by kernel_rfl) (by kernel_rfl) (fun _ _ _ h => h) (Or.inl ⟨by rfl, fun w' hS' => by rfl⟩) s3 ?_
    simp only [BZ.z, Act.put, Nat.reduceAdd]
    refine wpAnyH_take (i := 3) (v := .bool false) rfl (by kernel_rfl) (by kernel_rfl) (by kernel_rfl) (fun _ _ _ h => h) (Or.inl ⟨by rfl, fun w' hS' => by rfl⟩) s3 ?_
    simp only [BZ.z, Act.put, Nat.reduceAdd]
    refine wpAnyH_take (i := 4) (v := .bool true) rfl (by kernel_rfl) (by kernel_rfl) (by kernel_rfl) (fun _ _ _ h => h) (Or.inl ⟨by rfl, fun w' hS' => by rfl⟩) s3 ?_
    simp only [BZ.z, Act.put, Nat.reduceAdd]
    refine wpAnyH_take (i := 5) (v := .bool false) rfl (by kernel_rfl) (by kernel_rfl) (by kernel_rfl) (fun _ _ _ h => h) (Or.inl ⟨by rfl, fun w' hS' => by rfl⟩) s3 ?_
    simp only [BZ.z, Act.put, Nat.reduceAdd]
    refine wpAnyH_take (i := 6) (v := .bool false) rfl (by kernel_rfl) (by kernel_rfl) (by kernel_rfl) (fun _ _ _ h => h) (Or.inl ⟨by rfl, fun w' hS' => by rfl⟩) s3 ?_
    simp only [BZ.z, Act.put, Nat.reduceAdd]
    refine wpAnyH_take (i := 7) (v := .bool false) rfl (by kernel_rfl) (by kernel_rfl) (by kernel_rfl) (fun _ _ _ h => h) (Or.inl ⟨by rfl, fun w' hS' => by rfl⟩) s3 ?_
    simp only [BZ.z, Act.put, Nat.reduceAdd]
    refine wpAnyH_take (i := 8) (v := .pointer (some ⟨L, 3, none⟩)) rfl (by kernel_rfl) (by kernel_rfl) (by kernel_rfl) (fun _ _ _ h => h) (Or.inl ⟨by rfl, fun w' hS' => ?_⟩) s3 ?_
    ·obtain ⟨q0, q1, q2, q3, q4, q5, q6, q7, p3⟩ := hS'
     go_simp
    simp only [BZ.z, Act.put, Nat.reduceAdd]
    refine wpAnyH_take (i := 9) (v := .string d.rc) rfl (by kernel_rfl) (by kernel_rfl) (by kernel_rfl) (fun _ _ _ h => h) (Or.inl ⟨by rfl, fun w' hS' => ?_⟩) s3 ?_
    ·obtain ⟨q0, q1, q2, q3, q4, q5, q6, q7, p3⟩ := hS'
     go_simp
    simp only [BZ.z, Act.put, Nat.reduceAdd]
    refine wpAnyH_take (i := 10) (v := .string m) rfl (by kernel_rfl) (by kernel_rfl) (by kernel_rfl) (fun _ _ _ h => h) (Or.inl ⟨by rfl, fun w' hS' => by rfl⟩) s3 ?_
    simp only [BZ.z, Act.put, Nat.reduceAdd]
    refine wpAnyH_take (i := 11) (v := .pointer (some ⟨L, 0, none⟩)) rfl (by kernel_rfl) (by kernel_rfl) (by kernel_rfl) (fun _ _ _ h => h) (Or.inl ⟨by rfl, fun w' hS' => ?_⟩) s3 ?_
    ·obtain ⟨q0, q1, q2, q3, q4, q5, q6, q7, p3⟩ := hS'
     go_simp
    simp only [BZ.z, Act.put, Nat.reduceAdd]
    refine wpAnyH_take (i := 12) (v := .int .i64 d.ino) rfl (by kernel_rfl) (by kernel_rfl) (by kernel_rfl) (fun _ _ _ h => h) (Or.inl ⟨by rfl, fun w' hS' => ?_⟩) s3 ?_
    ·obtain ⟨q0, q1, q2, q3, q4, q5, q6, q7, p3⟩ := hS'
     go_simp
    simp only [BZ.z, Act.put, Nat.reduceAdd]
    refine Y0.one_call2w (i := 13) (by kernel_rfl) rfl (by rfl) (.tmp 30) (.tmp 32) _ rfl (.string m) (.int .i64 d.ino) (by rfl) (by rfl) (enters_of Tryz.func120 (by kernel_rfl) rfl) ((HRc.out _ _).mono ?_)
    rintro e w4 ⟨rfl, rfl⟩
    refine ⟨_, rfl, s3, ?_⟩
    simp only [BZ.z, Act.put, Nat.reduceAdd]
    refine wpAnyH_take (i := 14) (v := .bool true) rfl (by kernel_rfl) (by kernel_rfl) (by kernel_rfl) (fun _ _ _ h => h) (Or.inl ⟨by rfl, fun w' hS' => ?_⟩) s3 ?_
    ·obtain ⟨q0, q1, q2, q3, q4, q5, q6, q7, p3⟩ := hS'
     go_simp
    simp only [BZ.z, Act.put, Nat.reduceAdd]
    refine wpAnyH_take (i := 15) (v := .bool true) rfl (by kernel_rfl) (by kernel_rfl) (by kernel_rfl) (fun _ _ _ h => h) (Or.inl ⟨by rfl, fun w' hS' => by rfl⟩) s3 ?_
    simp only [BZ.z, Act.put, Nat.reduceAdd]
    refine wpAnyH_take (i := 16) (v := .bool true) rfl (by kernel_rfl) (by kernel_rfl) (by kernel_rfl) (fun _ _ _ h => h) (Or.inl ⟨by rfl, fun w' hS' => by rfl⟩) s3 ?_
    simp only [BZ.z, Act.put, Nat.reduceAdd]
    refine wpAnyH_take (i := 17) (v := undef) rfl (by kernel_rfl) (by kernel_rfl) (by kernel_rfl) (fun _ _ _ h => h) (Or.inr ⟨by rfl, rfl⟩) s3 ?_
    simp only [BZ.z, Act.put, Nat.reduceAdd]
    refine wpAnyH_take (i := 18) (v := undef) rfl (by kernel_rfl) (by kernel_rfl) (by kernel_rfl) (fun _ _ _ h => h) (Or.inr ⟨by rfl, rfl⟩) s3 ?_
    simp only [BZ.z, Act.put, Nat.reduceAdd]
    refine wpAnyH_take (i := 19) (v := undef) rfl (by kernel_rfl) (by kernel_rfl) (by kernel_rfl) (fun _ _ _ h => h) (Or.inr ⟨by rfl, rfl⟩) s3 ?_
    simp only [BZ.z, Act.put, Nat.reduceAdd]
    refine wpAnyH_take (i := 20) (v := undef) rfl (by kernel_rfl) (by kernel_rfl) (by kernel_rfl) (fun _ _ _ h => h) (Or.inr ⟨by rfl, rfl⟩) s3 ?_
    simp only [BZ.z, Act.put, Nat.reduceAdd]
    refine wpAnyH_take (i := 21) (v := undef) rfl (by kernel_rfl) (by kernel_rfl) (by kernel_rfl) (fun _ _ _ h => h) (Or.inr ⟨by rfl, rfl⟩) s3 ?_
    simp only [BZ.z, Act.put, Nat.reduceAdd]
    refine wpAnyH_take (i := 22) (v := undef) rfl (by kernel_rfl) (by kernel_rfl) (by kernel_rfl) (fun _ _ _ h => h) (Or.inr ⟨by rfl, rfl⟩) s3 ?_
    simp only [BZ.z, Act.put, Nat.reduceAdd]
    refine wpAnyH_take (i := 23) (v := .bool true) rfl (by kernel_rfl) (by kernel_rfl) (by kernel_rfl) (fun _ _ _ h => h) (Or.inl ⟨by rfl, fun w' hS' => by rfl⟩) s3 ?_
    simp only [BZ.z, Act.put, Nat.reduceAdd]
    refine wpAnyH_done (by kernel_rfl) ?_ _
    go_wp2
    go_ret
    exact ⟨rfl, hb3.bel⟩
   ·have e1 := KH.eq_list hrc
    rw [decide_eq_true hrc]
    have HRC : Hid (d.rc = O0.recd m d.ino) := hrc
    have HGZ : Hid (G0.gZ d.rc = d.pg) := hgz
    clear hrc hgz
    go_enter Tryz.func51, Tryz.ntmps51
    go_wp2_with (go_at_call 116; refine (HLd.out _).mono ?_; rintro e w1 ⟨kk, oo, tt, ai, zn, ci, xx, rfl, b1, hy⟩; have x1 := x0.below b1; have HY : Hid _ := hy; clear hy)
    have b2 := K0.below_new w1 (.cells #[.int .i64 kk, .int .i64 oo, .int .i64 tt, .slice ai zn ci] 143)
    have k2 := K0.blk_new [.int .i64 kk, .int .i64 oo, .int .i64 tt, .slice ai zn ci] w1 143
    have x2 := x1.below b2
    have hb : SB w d s ai zn ci w.heap.size w1.heap.size (w1.alloc (.cells #[.int .i64 kk, .int .i64 oo, .int .i64 tt, .slice ai zn ci] 143)) := ⟨x2.arg, k2.c3, k2.lt, x2.bel⟩
    obtain ⟨L, hL⟩ : ∃ L, w.heap.size = L := ⟨_, rfl⟩
    obtain ⟨I, hI⟩ : ∃ I, w1.heap.size = I := ⟨_, rfl⟩
    obtain ⟨W2, hW2⟩ : ∃ W2, w1.alloc (.cells #[.int .i64 kk, .int .i64 oo, .int .i64 tt, .slice ai zn ci] 143) = W2 := ⟨_, rfl⟩
    obtain ⟨hzn, hrz⟩ := HY.out (by trivial)
    have hrc := HRC.out
    have hgz := HGZ.out
    have hrz2 := hrz.below b2
    rw [hW2] at hrz2
    have HSa : Hid (∀ W, Below w.heap.size w W → Below W2.heap.size W2 W → Calls Tryz.prog 121 #[.slice ai zn ci, .slice s.a1 d.pg.length s.c1] W fun e w' => e = .returned (.bool true) ∧ ∃ n, w' = W.drewN n) := fun W h1 h2 => by
     have h := N2.same ai s.a1 ci s.c1 (G0.gZ (O0.recd m d.ino)) d.pg W (by rw [← hrc, hgz]; omega) (by omega) (hrz2.below h2) (HL.out W h1).r1
     rw [← hzn, decide_eq_true (show G0.gZ (O0.recd m d.ino) = d.pg by rw [← hrc]; exact hgz)] at h
     exact h
    clear hzn hrz hrz2 hrc hgz
    rw [hI, hW2] at hb
    simp only [hI, hW2]
    have hb1 : SB w d s ai zn ci L I W2.drew := by
     rw [← hL]
     exact hb.drewN 1
    simp only [hL]
    have s1 := hb1.cells
    clear hW2 hb x2 k2 b2 x1 b1 HY x0
    refine wp_region_held (S := fun W => W.cell? ⟨L, 0, none⟩ = some (.int .i64 d.ino) ∧ W.cell? ⟨L, 1, none⟩ = some (.int .i64 d.cl) ∧ W.cell? ⟨L, 2, none⟩ = some (.int .i64 d.un) ∧ W.cell? ⟨L, 3, none⟩ = some (.string d.rc) ∧ W.cell? ⟨L, 4, none⟩ = some (.slice s.a1 d.pg.length s.c1) ∧ W.cell? ⟨L, 5, none⟩ = some (.string d.sav) ∧ W.cell? ⟨L, 6, none⟩ = some (.slice s.a2 d.po.length s.c2) ∧ W.cell? ⟨L, 7, none⟩ = some (.slice s.a3 d.fr.length s.c3) ∧ W.cell? ⟨I, 3, none⟩ = some (.slice ai zn ci)) (by kernel_rfl) ?_
    refine wpAnyH_take (i := 0) (v := N1.val d s) rfl (by kernel_rfl) (by kernel_rfl) (by kernel_rfl) (fun _ _ _ h => h) (Or.inl ⟨by rfl, fun w' hS' => ?_⟩) s1 ?_
    ·obtain ⟨q0, q1, q2, q3, q4, q5, q6, q7, p3⟩ := hS'
     go_simp
    simp only [BZ.z, Act.put, Nat.reduceAdd]
    refine Y0.one_callw (i := 1) (by kernel_rfl) rfl (by rfl) (.tmp 20) _ rfl (N1.val d s) (by rfl) (enters_of Tryz.func108 (by kernel_rfl) rfl) ((HLo.out _ hb1.bel).mono ?_)
    rintro e w3 ⟨rfl, b3⟩
    have hb3 := hb1.below b3
    have s3 := hb3.cells
    refine ⟨_, rfl, s3, ?_⟩
    simp only [BZ.z, Act.put, Nat.reduceAdd]
    refine wpAnyH_take (i := 2) (v := .bool false) rfl (by kernel_rfl) (by kernel_rfl) (by kernel_rfl) (fun _ _ _ h => h) (Or.inl ⟨by rfl, fun w' hS' => by rfl⟩) s3 ?_
    simp only [BZ.z, Act.put, Nat.reduceAdd]
    refine wpAnyH_take (i := 3) (v := .bool false) rfl (by kernel_rfl) (by kernel_rfl) (by kernel_rfl) (fun _ _ _ h => h) (Or.inl ⟨by rfl, fun w' hS' => by rfl⟩) s3 ?_
    simp only [BZ.z, Act.put, Nat.reduceAdd]
    refine wpAnyH_take (i := 4) (v := .bool true) rfl (by kernel_rfl) (by kernel_rfl) (by kernel_rfl) (fun _ _ _ h => h) (Or.inl ⟨by rfl, fun w' hS' => by rfl⟩) s3 ?_
    simp only [BZ.z, Act.put, Nat.reduceAdd]
    refine wpAnyH_take (i := 5) (v := .bool false) rfl (by kernel_rfl) (by kernel_rfl) (by kernel_rfl) (fun _ _ _ h => h) (Or.inl ⟨by rfl, fun w' hS' => by rfl⟩) s3 ?_
    simp only [BZ.z, Act.put, Nat.reduceAdd]
    refine wpAnyH_take (i := 6) (v := .bool false) rfl (by kernel_rfl) (by kernel_rfl) (by kernel_rfl) (fun _ _ _ h => h) (Or.inl ⟨by rfl, fun w' hS' => by rfl⟩) s3 ?_
    simp only [BZ.z, Act.put, Nat.reduceAdd]
    refine wpAnyH_take (i := 7) (v := .bool false) rfl (by kernel_rfl) (by kernel_rfl) (by kernel_rfl) (fun _ _ _ h => h) (Or.inl ⟨by rfl, fun w' hS' => by rfl⟩) s3 ?_
    simp only [BZ.z, Act.put, Nat.reduceAdd]
    refine wpAnyH_take (i := 8) (v := .pointer (some ⟨L, 3, none⟩)) rfl (by kernel_rfl) (by kernel_rfl) (by kernel_rfl) (fun _ _ _ h => h) (Or.inl ⟨by rfl, fun w' hS' => ?_⟩) s3 ?_
    ·obtain ⟨q0, q1, q2, q3, q4, q5, q6, q7, p3⟩ := hS'
     go_simp
    simp only [BZ.z, Act.put, Nat.reduceAdd]
    refine wpAnyH_take (i := 9) (v := .string d.rc) rfl (by kernel_rfl) (by kernel_rfl) (by kernel_rfl) (fun _ _ _ h => h) (Or.inl ⟨by rfl, fun w' hS' => ?_⟩) s3 ?_
    ·obtain ⟨q0, q1, q2, q3, q4, q5, q6, q7, p3⟩ := hS'
     go_simp
    simp only [BZ.z, Act.put, Nat.reduceAdd]
    refine wpAnyH_take (i := 10) (v := .string m) rfl (by kernel_rfl) (by kernel_rfl) (by kernel_rfl) (fun _ _ _ h => h) (Or.inl ⟨by rfl, fun w' hS' => by rfl⟩) s3 ?_
    simp only [BZ.z, Act.put, Nat.reduceAdd]
    refine wpAnyH_take (i := 11) (v := .pointer (some ⟨L, 0, none⟩)) rfl (by kernel_rfl) (by kernel_rfl) (by kernel_rfl) (fun _ _ _ h => h) (Or.inl ⟨by rfl, fun w' hS' => ?_⟩) s3 ?_
    ·obtain ⟨q0, q1, q2, q3, q4, q5, q6, q7, p3⟩ := hS'
     go_simp
    simp only [BZ.z, Act.put, Nat.reduceAdd]
    refine wpAnyH_take (i := 12) (v := .int .i64 d.ino) rfl (by kernel_rfl) (by kernel_rfl) (by kernel_rfl) (fun _ _ _ h => h) (Or.inl ⟨by rfl, fun w' hS' => ?_⟩) s3 ?_
    ·obtain ⟨q0, q1, q2, q3, q4, q5, q6, q7, p3⟩ := hS'
     go_simp
    simp only [BZ.z, Act.put, Nat.reduceAdd]
    refine Y0.one_call2w (i := 13) (by kernel_rfl) rfl (by rfl) (.tmp 30) (.tmp 32) _ rfl (.string m) (.int .i64 d.ino) (by rfl) (by rfl) (enters_of Tryz.func120 (by kernel_rfl) rfl) ((HRc.out _ _).mono ?_)
    rintro e w4 ⟨rfl, rfl⟩
    refine ⟨_, rfl, s3, ?_⟩
    simp only [BZ.z, Act.put, Nat.reduceAdd]
    refine wpAnyH_take (i := 14) (v := .bool false) rfl (by kernel_rfl) (by kernel_rfl) (by kernel_rfl) (fun _ _ _ h => h) (Or.inl ⟨by rfl, fun w' hS' => ?_⟩) s3 ?_
    ·obtain ⟨q0, q1, q2, q3, q4, q5, q6, q7, p3⟩ := hS'
     go_simp
    simp only [BZ.z, Act.put, Nat.reduceAdd]
    refine wpAnyH_take (i := 15) (v := .bool false) rfl (by kernel_rfl) (by kernel_rfl) (by kernel_rfl) (fun _ _ _ h => h) (Or.inl ⟨by rfl, fun w' hS' => by rfl⟩) s3 ?_
    simp only [BZ.z, Act.put, Nat.reduceAdd]
    refine wpAnyH_take (i := 16) (v := .bool false) rfl (by kernel_rfl) (by kernel_rfl) (by kernel_rfl) (fun _ _ _ h => h) (Or.inl ⟨by rfl, fun w' hS' => by rfl⟩) s3 ?_
    simp only [BZ.z, Act.put, Nat.reduceAdd]
    refine wpAnyH_take (i := 17) (v := .pointer (some ⟨I, 3, none⟩)) rfl (by kernel_rfl) (by kernel_rfl) (by kernel_rfl) (fun _ _ _ h => h) (Or.inl ⟨by rfl, fun w' hS' => ?_⟩) s3 ?_
    ·obtain ⟨q0, q1, q2, q3, q4, q5, q6, q7, p3⟩ := hS'
     go_simp
    simp only [BZ.z, Act.put, Nat.reduceAdd]
    refine wpAnyH_take (i := 18) (v := (.slice ai zn ci)) rfl (by kernel_rfl) (by kernel_rfl) (by kernel_rfl) (fun _ _ _ h => h) (Or.inl ⟨by rfl, fun w' hS' => ?_⟩) s3 ?_
    ·obtain ⟨q0, q1, q2, q3, q4, q5, q6, q7, p3⟩ := hS'
     go_simp
    simp only [BZ.z, Act.put, Nat.reduceAdd]
    refine wpAnyH_take (i := 19) (v := .pointer (some ⟨L, 4, none⟩)) rfl (by kernel_rfl) (by kernel_rfl) (by kernel_rfl) (fun _ _ _ h => h) (Or.inl ⟨by rfl, fun w' hS' => ?_⟩) s3 ?_
    ·obtain ⟨q0, q1, q2, q3, q4, q5, q6, q7, p3⟩ := hS'
     go_simp
    simp only [BZ.z, Act.put, Nat.reduceAdd]
    refine wpAnyH_take (i := 20) (v := (.slice s.a1 d.pg.length s.c1)) rfl (by kernel_rfl) (by kernel_rfl) (by kernel_rfl) (fun _ _ _ h => h) (Or.inl ⟨by rfl, fun w' hS' => ?_⟩) s3 ?_
    ·obtain ⟨q0, q1, q2, q3, q4, q5, q6, q7, p3⟩ := hS'
     go_simp
    simp only [BZ.z, Act.put, Nat.reduceAdd]
    refine Y0.one_call2w (i := 21) (by kernel_rfl) rfl (by rfl) (.tmp 38) (.tmp 40) _ rfl (.slice ai zn ci) (.slice s.a1 d.pg.length s.c1) (by rfl) (by rfl) (enters_of Tryz.func121 (by kernel_rfl) rfl) ((HSa.out _ (hb1.below b3).bel (show Below W2.heap.size W2 _ from ⟨b3.os, b3.tape, b3.output, b3.size, b3.block⟩)).mono ?_)
    rintro e w5 ⟨rfl, n5, rfl⟩
    have hb5 := hb3.drewN n5
    have s5 := hb5.cells
    refine ⟨_, rfl, s5, ?_⟩
    simp only [BZ.z, Act.put, Nat.reduceAdd]
    refine wpAnyH_take (i := 22) (v := .bool false) rfl (by kernel_rfl) (by kernel_rfl) (by kernel_rfl) (fun _ _ _ h => h) (Or.inl ⟨by rfl, fun w' hS' => by rfl⟩) s5 ?_
    simp only [BZ.z, Act.put, Nat.reduceAdd]
    refine wpAnyH_take (i := 23) (v := .bool false) rfl (by kernel_rfl) (by kernel_rfl) (by kernel_rfl) (fun _ _ _ h => h) (Or.inl ⟨by rfl, fun w' hS' => by rfl⟩) s5 ?_
    simp only [BZ.z, Act.put, Nat.reduceAdd]
    refine wpAnyH_done (by kernel_rfl) ?_ _
    clear s1 s3 s5 hb3 hb1 b3 HSa HLd HLo e1 HRC HGZ
    go_wp2
    go_loopw [10] (fun i w' => ∃ k : Nat, k ≤ d.pg.length ∧ N0.to (pgAt m d) k = true ∧ i = .int .i64 k ∧ SB w d s ai zn ci L I w') (fun i _ => d.pg.length - (intOf i).toNat)
    case atStart => exact ⟨0, Nat.zero_le _, rfl, rfl, hb5⟩
    case round =>
     obtain ⟨k, hk, hto, rfl, xr⟩ := hrel
     clear hb5
     have c4 := xr.lb.c4
     have c5 := xr.lb.c5
     by_cases hlt : k < d.pg.length
     ·obtain ⟨b, off, hab, _, hcell⟩ := (HL.out _ xr.bel).r1.get hlt
      have y1 := hcell k hlt
      have hz := hpg k hlt
      have hat : pgAt m d k = decide (B2.part d.sav ((k : Int) * 32) 32 = B2.part m (d.pg.getD k 0 * 32) 32) := rfl
      obtain ⟨z, ez⟩ : ∃ z, d.pg.getD k 0 = z := ⟨_, rfl⟩
      rw [ez] at y1 hz hat
      rw [hab] at c4
      have e1 : (0 : Int) ≤ (k : Int) := by omega
      have e2 : (k : Int) < (d.pg.length : Int) := by omega
      have hp1 : Hid (∀ W, Calls Tryz.prog 110 #[.string d.sav, .int .i64 (k : Int)] W fun e w' => e = .returned (.string (B2.part d.sav ((k : Int) * 32) 32)) ∧ w' = W) := fun W => N13.l03Page0 _ _ _ hss (by omega)
      have hp2 : Hid (∀ W, Calls Tryz.prog 110 #[.string m, .int .i64 z] W fun e w' => e = .returned (.string (B2.part m (z * 32) 32)) ∧ w' = W) := fun W => O1.l03Page m z W (by omega) hz.1 hz.2
      clear hab ez hcell
      by_cases heq : B2.part d.sav ((k : Int) * 32) 32 = B2.part m (z * 32) 32
      ·have e3 : ((B2.part d.sav ((k : Int) * 32) 32).toList == (B2.part m (z * 32) 32).toList) = true := by rw [heq]; simp
       rw [decide_eq_true heq] at hat
       have HT : Hid (N0.to (pgAt m d) (k + 1) = true) := N0.to_step hto hat
       clear hat heq
       go_wp2
       go_quiet ((first
        | (go_at_call 110; exact Calls.quiet_of_same (hp1.out _))
        | (go_at_call 110; exact Calls.quiet_of_same (hp2.out _))))
       have x5 := xr.drewN nq
       go_wp2
       refine ⟨⟨k + 1, by omega, HT.out, by go_num, x5⟩, ?_⟩
       simp [intOf]
       omega
      ·have e3 : ((B2.part d.sav ((k : Int) * 32) 32).toList == (B2.part m (z * 32) 32).toList) = false := beq_eq_false_iff_ne.2 (KH.ne_list heq)
       rw [decide_eq_false heq] at hat
       have HT : Hid (N0.to (pgAt m d) d.pg.length = false) := N0.to_bad hlt hat
       clear hat heq
       go_wp2
       go_quiet ((first
        | (go_at_call 110; exact Calls.quiet_of_same (hp1.out _))
        | (go_at_call 110; exact Calls.quiet_of_same (hp2.out _))))
       have x5 := xr.drewN nq
       go_wp2
       go_ret
       exact ⟨by rw [HT.out]; rfl, x5.bel⟩
     ·obtain rfl : k = d.pg.length := by omega
      have e9 : decide ((d.pg.length : Int) < (d.pg.length : Int)) = false := by simp
      have HTO : Hid (N0.to (pgAt m d) d.pg.length = true) := hto
      clear c5 hto
      go_wp2
      go_loopw [11] (fun i w' => ∃ k : Nat, k ≤ d.fr.length ∧ N0.to (frAt m d) k = true ∧ i = .int .i64 k ∧ SB w d s ai zn ci L I w') (fun i _ => d.fr.length - (intOf i).toNat)
      case atStart => exact ⟨0, Nat.zero_le _, rfl, rfl, xr⟩
      case round =>
       rename_i wr2
       obtain ⟨j, hj, htf, rfl, xq⟩ := hrel
       clear xr c4
       have c7 := xq.lb.c7
       by_cases hlt2 : j < d.fr.length
       ·obtain ⟨b, off, hab, _, hcell⟩ := (HL.out _ xq.bel).r3.get hlt2
        have y1 := hcell j hlt2
        have hat : frAt m d j = decide (O0.recd m (d.fr.getD j 0) = B4.zeros 16) := rfl
        obtain ⟨z, ez⟩ : ∃ z, d.fr.getD j 0 = z := ⟨_, rfl⟩
        rw [ez] at y1 hat
        rw [hab] at c7
        have e1 : (0 : Int) ≤ (j : Int) := by omega
        have e2 : (j : Int) < (d.fr.length : Int) := by omega
        clear hab ez hcell
        by_cases heq : O0.recd m z = B4.zeros 16
        ·have e3 : ((O0.recd m z).toList == (B4.zeros 16).toList) = true := by rw [heq]; simp
         rw [decide_eq_true heq] at hat
         have HT : Hid (N0.to (frAt m d) (j + 1) = true) := N0.to_step htf hat
         clear hat heq
         go_wp2_with (first
          | (go_at_call 120; refine (HRc.out _ _).mono ?_; rintro e w' ⟨rfl, rfl⟩)
          | (go_at_call 111; refine (B4.spec_Zeros _ _).mono ?_; rintro e w' ⟨rfl, rfl⟩))
         refine ⟨⟨j + 1, by omega, HT.out, by go_num, xq⟩, ?_⟩
         simp [intOf]
         omega
        ·have e3 : ((O0.recd m z).toList == (B4.zeros 16).toList) = false := beq_eq_false_iff_ne.2 (KH.ne_list heq)
         rw [decide_eq_false heq] at hat
         have HT : Hid (N0.to (frAt m d) d.fr.length = false) := N0.to_bad hlt2 hat
         clear hat heq
         go_wp2_with (first
          | (go_at_call 120; refine (HRc.out _ _).mono ?_; rintro e w' ⟨rfl, rfl⟩)
          | (go_at_call 111; refine (B4.spec_Zeros _ _).mono ?_; rintro e w' ⟨rfl, rfl⟩))
         go_ret
         exact ⟨by rw [HT.out, HTO.out]; rfl, xq.bel⟩
       ·obtain rfl : j = d.fr.length := by omega
        have e8 : decide ((d.fr.length : Int) < (d.fr.length : Int)) = false := by simp
        have HTF : Hid (N0.to (frAt m d) d.fr.length = true) := htf
        clear htf
        have c6 := xq.lb.c6
        go_wp2_with (go_at_call 122; refine (HOn.out _ xq.bel).mono ?_; rintro e w6 ⟨a6, c6', rfl, b6⟩)
        go_ret
        refine ⟨?_, xq.bel.trans (b6.mono xq.bel.size)⟩
        rw [HTF.out, HTO.out]
        have hd : ((((Y6.srt (Y6.kept true d.po us)).length : Nat) : Int) == 0) = decide ((Y6.srt (Y6.kept true d.po us)).length = 0) := by
         by_cases h0 : (Y6.srt (Y6.kept true d.po us)).length = 0
         ·rw [decide_eq_true h0, h0]
          rfl
         ·rw [decide_eq_false h0]
          exact beq_eq_false_iff_ne.2 (by omega)
        rw [← hd]
        rfl
end Go.Proofs.YtljnkicgahepfaaGreatDoor.KL
