/- Joined texts: plain facts and contracts. -/
import Derived.Test.YtljnkicgahepfaaGreatDoorJlA
import Derived.Test.YtljnkicgahepfaaGreatDoorJlT
import Derived.Test.YtljnkicgahepfaaGreatDoorJlO
import Derived.Test.YtljnkicgahepfaaGreatDoorJlC
import Derived.Test.YtljnkicgahepfaaGreatDoorJlG
import Derived.Deep.RegionHeld3
set_option linter.unusedVariables false
set_option linter.unusedSimpArgs false
set_option maxRecDepth 10000
namespace Go.Proofs.YtljnkicgahepfaaGreatDoor.KH
open Go.ChangeShapes Go.WideShapes Go.ChangeAt Go.RowKit
open N0 (Ln)
open N1 (Sl Lists Fit LB)
def has (m : ByteArray) (us fs : List Int) (d : Ln) : Bool := N0.loanOk d && (decide (O0.recd m d.ino = d.rc) && (decide (O0.joined m d.pg d.pg.length = d.sav) && (N0.apart fs d.fr && N0.apart us d.po)))
structure HV (w : World) (m : ByteArray) (a1 a2 : Option Addr) (c1 c2 : Nat) (us fs : List Int) (d : Ln) (s : Sl) (V L : Nat) (W : World) : Prop where
 vb : K0.Blk V [.string m, .slice a1 us.length c1, .slice a2 fs.length c2] W
 lb : LB L d s W
 bel : Below w.heap.size w W
variable {w W W' : World} {m : ByteArray} {a1 a2 : Option Addr} {c1 c2 : Nat} {us fs : List Int} {d : Ln} {s : Sl} {V L : Nat}
theorem HV.below (h : HV w m a1 a2 c1 c2 us fs d s V L W) (hb : Below W.heap.size W W') : HV w m a1 a2 c1 c2 us fs d s V L W' := ⟨h.vb.below hb, h.lb.below hb, h.bel.trans (hb.mono h.bel.size)⟩
theorem HV.cells (h : HV w m a1 a2 c1 c2 us fs d s V L W) : W.cell? ⟨V, 0, none⟩ = some (.string m) ∧ W.cell? ⟨V, 1, none⟩ = some (.slice a1 us.length c1) ∧ W.cell? ⟨V, 2, none⟩ = some (.slice a2 fs.length c2) ∧ W.cell? ⟨L, 0, none⟩ = some (.int .i64 d.ino) ∧ W.cell? ⟨L, 1, none⟩ = some (.int .i64 d.cl) ∧ W.cell? ⟨L, 2, none⟩ = some (.int .i64 d.un) ∧ W.cell? ⟨L, 3, none⟩ = some (.string d.rc) ∧ W.cell? ⟨L, 4, none⟩ = some (.slice s.a1 d.pg.length s.c1) ∧ W.cell? ⟨L, 5, none⟩ = some (.string d.sav) ∧ W.cell? ⟨L, 6, none⟩ = some (.slice s.a2 d.po.length s.c2) ∧ W.cell? ⟨L, 7, none⟩ = some (.slice s.a3 d.fr.length s.c3) := ⟨h.vb.c0, h.vb.c1, h.vb.c2, h.lb.c0, h.lb.c1, h.lb.c2, h.lb.c3, h.lb.c4, h.lb.c5, h.lb.c6, h.lb.c7⟩
theorem hv_new (w : World) (m : ByteArray) (a1 a2 : Option Addr) (c1 c2 : Nat) (us fs : List Int) (d : Ln) (s : Sl) : HV w m a1 a2 c1 c2 us fs d s w.heap.size (w.heap.size + 1) ((w.alloc (.cells #[.string m, .slice a1 us.length c1, .slice a2 fs.length c2] 79)).alloc (.cells #[.int .i64 d.ino, .int .i64 d.cl, .int .i64 d.un, .string d.rc, .slice s.a1 d.pg.length s.c1, .string d.sav, .slice s.a2 d.po.length s.c2, .slice s.a3 d.fr.length s.c3] 66)) := by
 have e : (w.alloc (.cells #[.string m, .slice a1 us.length c1, .slice a2 fs.length c2] 79)).heap.size = w.heap.size + 1 := by simp
 have n1 := K0.below_new w (.cells #[.string m, .slice a1 us.length c1, .slice a2 fs.length c2] 79)
 have n2 := K0.below_new (w.alloc (.cells #[.string m, .slice a1 us.length c1, .slice a2 fs.length c2] 79)) (.cells #[.int .i64 d.ino, .int .i64 d.cl, .int .i64 d.un, .string d.rc, .slice s.a1 d.pg.length s.c1, .string d.sav, .slice s.a2 d.po.length s.c2, .slice s.a3 d.fr.length s.c3] 66)
 have l := N1.lb_new d s (w.alloc (.cells #[.string m, .slice a1 us.length c1, .slice a2 fs.length c2] 79)) 66
 rw [e] at l
 exact ⟨(K0.blk_new [.string m, .slice a1 us.length c1, .slice a2 fs.length c2] w 79).below n2, l, n1.trans (n2.mono n1.size)⟩
theorem ne_list {x y : ByteArray} (h : ¬ x = y) : ¬ x.toList = y.toList := by
 intro h'
 rw [ByteArray.toList_eq, ByteArray.toList_eq] at h'
 exact h (ByteArray.ext (Array.toList_inj.1 h'))
theorem eq_list {x y : ByteArray} (h : x = y) : x.toList = y.toList := by rw [h]
theorem pagesOk_left {xs ys : List Int} (h : P0.pagesOk (xs ++ ys) = true) : P0.pagesOk xs = true := by
 rw [N0.pagesOk_iff] at h ⊢
 exact ⟨fun z hz => h.1 z (List.mem_append.2 (Or.inl hz)), (List.nodup_append.1 h.2).1⟩
set_option maxHeartbeats 4000000 in
theorem view_has (m : ByteArray) (a1 a2 : Option Addr) (c1 c2 : Nat) (us fs : List Int) (d : Ln) (s : Sl) (w : World) (hm : m.size = 768) (hF : Fit d s) (hpo : d.po.length ≤ 1048576) (hfr : d.fr.length ≤ 1048576) (hus : us.length ≤ 1048576) (hfs : fs.length ≤ 1048576) (hR : Lists w d s) (r1 : P0.Row w a1 us) (r2 : P0.Row w a2 fs) :
  Calls Tryz.prog 56 #[.agg #[.string m, .slice a1 us.length c1, .slice a2 fs.length c2], N1.val d s] w fun e w' => e = .returned (.bool (has m us fs d)) ∧ Below w.heap.size w w' := by
 have h0 := hv_new w m a1 a2 c1 c2 us fs d s
 have HL : Hid (∀ W, Below w.heap.size w W → Lists W d s ∧ P0.Row W a1 us ∧ P0.Row W a2 fs) := fun W hb => ⟨hR.below hb, r1.below hb, r2.below hb⟩
 have HLo : Hid (∀ W, Below w.heap.size w W → Calls Tryz.prog 124 #[N1.val d s] W fun e w' => e = .returned (.bool (N0.loanOk d)) ∧ Below W.heap.size W w') := fun W hb => N10.impl_LoanOk d s W hF hpo hfr (hR.below hb)
 have HPa : Hid (∀ W, Calls Tryz.prog 82 #[.string m, .int .i64 (L1.recAt d.ino), .int .i64 16] W fun e w' => e = .returned (.string (O0.recd m d.ino)) ∧ Below W.heap.size W w') := fun W => B2.impl_Part m (L1.recAt d.ino) 16 W (by omega)
 have HPt : Hid (N0.loanOk d = true → ∀ W, Below w.heap.size w W → Calls Tryz.prog 126 #[.string m, .slice s.a1 d.pg.length s.c1] W fun e w' => e = .returned (.string (O0.joined m d.pg d.pg.length)) ∧ Below W.heap.size W w') := fun hok W hb => by
  obtain ⟨hI, -, hZ, -, -, -, hp6, -⟩ := N0.loanOk_is hok
  exact O1.pagesText m s.a1 s.c1 d.pg W hm (pagesOk_left (N0.loanOk_is hok).2.2.2.2.2.2.2.2.2.1) hp6 (hR.below hb).r1
 have HN1 : Hid (∀ W, Below w.heap.size w W → Calls Tryz.prog 127 #[.slice s.a3 d.fr.length s.c3, .slice a2 fs.length c2] W fun e w' => e = .returned (.bool (N0.apart fs d.fr)) ∧ w' = W) := fun W hb => KP.noneAmong s.a3 a2 s.c3 c2 d.fr fs W (by omega) (by omega) (hR.below hb).r3 (r2.below hb)
 have HN2 : Hid (∀ W, Below w.heap.size w W → Calls Tryz.prog 127 #[.slice s.a2 d.po.length s.c2, .slice a1 us.length c1] W fun e w' => e = .returned (.bool (N0.apart us d.po)) ∧ w' = W) := fun W hb => KP.noneAmong s.a2 a1 s.c2 c1 d.po us W (by omega) (by omega) (hR.below hb).r2 (r1.below hb)
 obtain ⟨W2, hW2⟩ : ∃ W2, (w.alloc (.cells #[.string m, .slice a1 us.length c1, .slice a2 fs.length c2] 79)).alloc (.cells #[.int .i64 d.ino, .int .i64 d.cl, .int .i64 d.un, .string d.rc, .slice s.a1 d.pg.length s.c1, .string d.sav, .slice s.a2 d.po.length s.c2, .slice s.a3 d.fr.length s.c3] 66) = W2 := ⟨_, rfl⟩
 obtain ⟨V, hV⟩ : ∃ V, w.heap.size = V := ⟨_, rfl⟩
 obtain ⟨L, hL⟩ : ∃ L, w.heap.size + 1 = L := ⟨_, rfl⟩
 have h1 : HV w m a1 a2 c1 c2 us fs d s V L W2.drew := by
  rw [← hV, ← hL, ← hW2]
  exact h0.below ((Below.refl _ _).drew)
 have hsz : (w.alloc (.cells #[.string m, .slice a1 us.length c1, .slice a2 fs.length c2] 79)).heap.size = L := by rw [← hL]; simp
 clear hR r1 r2 hF h0
 unfold has
 cases hok : N0.loanOk d with
 | false =>
  rw [hok] at HLo
  clear hok HPt
  go_enter Tryz.func56, Tryz.ntmps56
  go_wp2
  have s1 := h1.cells
  clear hsz hW2
  refine wp_region_held (S := fun W => W.cell? ⟨V, 0, none⟩ = some (.string m) ∧ W.cell? ⟨V, 1, none⟩ = some (.slice a1 us.length c1) ∧ W.cell? ⟨V, 2, none⟩ = some (.slice a2 fs.length c2) ∧ W.cell? ⟨L, 0, none⟩ = some (.int .i64 d.ino) ∧ W.cell? ⟨L, 1, none⟩ = some (.int .i64 d.cl) ∧ W.cell? ⟨L, 2, none⟩ = some (.int .i64 d.un) ∧ W.cell? ⟨L, 3, none⟩ = some (.string d.rc) ∧ W.cell? ⟨L, 4, none⟩ = some (.slice s.a1 d.pg.length s.c1) ∧ W.cell? ⟨L, 5, none⟩ = some (.string d.sav) ∧ W.cell? ⟨L, 6, none⟩ = some (.slice s.a2 d.po.length s.c2) ∧ W.cell? ⟨L, 7, none⟩ = some (.slice s.a3 d.fr.length s.c3)) (by kernel_rfl) ?_
  refine wpAnyH_take (i := 0) (v := N1.val d s) rfl (by kernel_rfl) (by kernel_rfl) (by kernel_rfl) (fun _ _ _ h => h) (Or.inl ⟨by rfl, fun w' hS' => ?_⟩) s1 ?_
  ·obtain ⟨p0, p1, p2, q0, q1, q2, q3, q4, q5, q6, q7⟩ := hS'
   go_simp
  simp only [BZ.z, Act.put, Nat.reduceAdd]
  refine Y0.one_callw (i := 1) (by kernel_rfl) rfl (by rfl) (.tmp 5) _ rfl (N1.val d s) (by rfl) (enters_of Tryz.func124 (by kernel_rfl) rfl) ((HLo.out _ h1.bel).mono ?_)
  rintro e w3 ⟨rfl, b3⟩
  have h3 := h1.below b3
  have s3 := h3.cells
  refine ⟨_, rfl, s3, ?_⟩
  simp only [BZ.z, Act.put, Nat.reduceAdd]
  refine wpAnyH_take (i := 2) (v := .bool true) rfl (by kernel_rfl) (by kernel_rfl) (by kernel_rfl) (fun _ _ _ h => h) (Or.inl ⟨by rfl, fun w' hS' => by rfl⟩) s3 ?_
  simp only [BZ.z, Act.put, Nat.reduceAdd]
  refine wpAnyH_take (i := 3) (v := .bool true) rfl (by kernel_rfl) (by kernel_rfl) (by kernel_rfl) (fun _ _ _ h => h) (Or.inl ⟨by rfl, fun w' hS' => by rfl⟩) s3 ?_
  simp only [BZ.z, Act.put, Nat.reduceAdd]
  refine wpAnyH_take (i := 4) (v := undef) rfl (by kernel_rfl) (by kernel_rfl) (by kernel_rfl) (fun _ _ _ h => h) (Or.inr ⟨by rfl, rfl⟩) s3 ?_
  simp only [BZ.z, Act.put, Nat.reduceAdd]
  refine wpAnyH_take (i := 5) (v := undef) rfl (by kernel_rfl) (by kernel_rfl) (by kernel_rfl) (fun _ _ _ h => h) (Or.inr ⟨by rfl, rfl⟩) s3 ?_
  simp only [BZ.z, Act.put, Nat.reduceAdd]
  refine wpAnyH_take (i := 6) (v := undef) rfl (by kernel_rfl) (by kernel_rfl) (by kernel_rfl) (fun _ _ _ h => h) (Or.inr ⟨by rfl, rfl⟩) s3 ?_
  simp only [BZ.z, Act.put, Nat.reduceAdd]
  refine wpAnyH_take (i := 7) (v := undef) rfl (by kernel_rfl) (by kernel_rfl) (by kernel_rfl) (fun _ _ _ h => h) (Or.inr ⟨by rfl, rfl⟩) s3 ?_
  simp only [BZ.z, Act.put, Nat.reduceAdd]
  refine wpAnyH_take (i := 8) (v := undef) rfl (by kernel_rfl) (by kernel_rfl) (by kernel_rfl) (fun _ _ _ h => h) (Or.inr ⟨by rfl, rfl⟩) s3 ?_
  simp only [BZ.z, Act.put, Nat.reduceAdd]
  refine wpAnyH_take (i := 9) (v := undef) rfl (by kernel_rfl) (by kernel_rfl) (by kernel_rfl) (fun _ _ _ h => h) (Or.inr ⟨by rfl, rfl⟩) s3 ?_
  simp only [BZ.z, Act.put, Nat.reduceAdd]
  refine wpAnyH_take (i := 10) (v := undef) rfl (by kernel_rfl) (by kernel_rfl) (by kernel_rfl) (fun _ _ _ h => h) (Or.inr ⟨by rfl, rfl⟩) s3 ?_
  simp only [BZ.z, Act.put, Nat.reduceAdd]
  refine wpAnyH_take (i := 11) (v := undef) rfl (by kernel_rfl) (by kernel_rfl) (by kernel_rfl) (fun _ _ _ h => h) (Or.inr ⟨by rfl, rfl⟩) s3 ?_
  simp only [BZ.z, Act.put, Nat.reduceAdd]
  refine wpAnyH_take (i := 12) (v := undef) rfl (by kernel_rfl) (by kernel_rfl) (by kernel_rfl) (fun _ _ _ h => h) (Or.inr ⟨by rfl, rfl⟩) s3 ?_
  simp only [BZ.z, Act.put, Nat.reduceAdd]
  refine wpAnyH_take (i := 13) (v := .bool true) rfl (by kernel_rfl) (by kernel_rfl) (by kernel_rfl) (fun _ _ _ h => h) (Or.inl ⟨by rfl, fun w' hS' => by rfl⟩) s3 ?_
  simp only [BZ.z, Act.put, Nat.reduceAdd]
  refine wpAnyH_take (i := 14) (v := .bool true) rfl (by kernel_rfl) (by kernel_rfl) (by kernel_rfl) (fun _ _ _ h => h) (Or.inl ⟨by rfl, fun w' hS' => by rfl⟩) s3 ?_
  simp only [BZ.z, Act.put, Nat.reduceAdd]
  refine wpAnyH_take (i := 15) (v := undef) rfl (by kernel_rfl) (by kernel_rfl) (by kernel_rfl) (fun _ _ _ h => h) (Or.inr ⟨by rfl, rfl⟩) s3 ?_
  simp only [BZ.z, Act.put, Nat.reduceAdd]
  refine wpAnyH_take (i := 16) (v := undef) rfl (by kernel_rfl) (by kernel_rfl) (by kernel_rfl) (fun _ _ _ h => h) (Or.inr ⟨by rfl, rfl⟩) s3 ?_
  simp only [BZ.z, Act.put, Nat.reduceAdd]
  refine wpAnyH_take (i := 17) (v := undef) rfl (by kernel_rfl) (by kernel_rfl) (by kernel_rfl) (fun _ _ _ h => h) (Or.inr ⟨by rfl, rfl⟩) s3 ?_
  simp only [BZ.z, Act.put, Nat.reduceAdd]
  refine wpAnyH_take (i := 18) (v := undef) rfl (by kernel_rfl) (by kernel_rfl) (by kernel_rfl) (fun _ _ _ h => h) (Or.inr ⟨by rfl, rfl⟩) s3 ?_
  simp only [BZ.z, Act.put, Nat.reduceAdd]
  refine wpAnyH_take (i := 19) (v := undef) rfl (by kernel_rfl) (by kernel_rfl) (by kernel_rfl) (fun _ _ _ h => h) (Or.inr ⟨by rfl, rfl⟩) s3 ?_
  simp only [BZ.z, Act.put, Nat.reduceAdd]
  refine wpAnyH_take (i := 20) (v := undef) rfl (by kernel_rfl) (by kernel_rfl) (by kernel_rfl) (fun _ _ _ h => h) (Or.inr ⟨by rfl, rfl⟩) s3 ?_
  simp only [BZ.z, Act.put, Nat.reduceAdd]
  refine wpAnyH_take (i := 21) (v := undef) rfl (by kernel_rfl) (by kernel_rfl) (by kernel_rfl) (fun _ _ _ h => h) (Or.inr ⟨by rfl, rfl⟩) s3 ?_
  simp only [BZ.z, Act.put, Nat.reduceAdd]
  refine wpAnyH_take (i := 22) (v := undef) rfl (by kernel_rfl) (by kernel_rfl) (by kernel_rfl) (fun _ _ _ h => h) (Or.inr ⟨by rfl, rfl⟩) s3 ?_
  simp only [BZ.z, Act.put, Nat.reduceAdd]
  refine wpAnyH_take (i := 23) (v := .bool true) rfl (by kernel_rfl) (by kernel_rfl) (by kernel_rfl) (fun _ _ _ h => h) (Or.inl ⟨by rfl, fun w' hS' => by rfl⟩) s3 ?_
  simp only [BZ.z, Act.put, Nat.reduceAdd]
  refine wpAnyH_done (by kernel_rfl) ?_ _
  go_wp2
  go_ret
  exact ⟨rfl, h3.bel⟩
 | true =>
  replace HPt : Hid (∀ W, Below w.heap.size w W → Calls Tryz.prog 126 #[.string m, .slice s.a1 d.pg.length s.c1] W fun e w' => e = .returned (.string (O0.joined m d.pg d.pg.length)) ∧ Below W.heap.size W w') := HPt.out hok
  rw [hok] at HLo
  clear hok
  by_cases hrc : O0.recd m d.ino = d.rc
  rotate_left
  ·have e1 := ne_list hrc
   rw [decide_eq_false hrc]
   clear hrc
   go_enter Tryz.func56, Tryz.ntmps56
   go_wp2
   have s1 := h1.cells
   clear hsz hW2
   refine wp_region_held (S := fun W => W.cell? ⟨V, 0, none⟩ = some (.string m) ∧ W.cell? ⟨V, 1, none⟩ = some (.slice a1 us.length c1) ∧ W.cell? ⟨V, 2, none⟩ = some (.slice a2 fs.length c2) ∧ W.cell? ⟨L, 0, none⟩ = some (.int .i64 d.ino) ∧ W.cell? ⟨L, 1, none⟩ = some (.int .i64 d.cl) ∧ W.cell? ⟨L, 2, none⟩ = some (.int .i64 d.un) ∧ W.cell? ⟨L, 3, none⟩ = some (.string d.rc) ∧ W.cell? ⟨L, 4, none⟩ = some (.slice s.a1 d.pg.length s.c1) ∧ W.cell? ⟨L, 5, none⟩ = some (.string d.sav) ∧ W.cell? ⟨L, 6, none⟩ = some (.slice s.a2 d.po.length s.c2) ∧ W.cell? ⟨L, 7, none⟩ = some (.slice s.a3 d.fr.length s.c3)) (by kernel_rfl) ?_
   refine wpAnyH_take (i := 0) (v := N1.val d s) rfl (by kernel_rfl) (by kernel_rfl) (by kernel_rfl) (fun _ _ _ h => h) (Or.inl ⟨by rfl, fun w' hS' => ?_⟩) s1 ?_
   ·obtain ⟨p0, p1, p2, q0, q1, q2, q3, q4, q5, q6, q7⟩ := hS'
    go_simp
   simp only [BZ.z, Act.put, Nat.reduceAdd]
   refine Y0.one_callw (i := 1) (by kernel_rfl) rfl (by rfl) (.tmp 5) _ rfl (N1.val d s) (by rfl) (enters_of Tryz.func124 (by kernel_rfl) rfl) ((HLo.out _ h1.bel).mono ?_)
   rintro e w3 ⟨rfl, b3⟩
   have h3 := h1.below b3
   have s3 := h3.cells
   refine ⟨_, rfl, s3, ?_⟩
   simp only [BZ.z, Act.put, Nat.reduceAdd]
   refine wpAnyH_take (i := 2) (v := .bool false) rfl (by kernel_rfl) (by kernel_rfl) (by kernel_rfl) (fun _ _ _ h => h) (Or.inl ⟨by rfl, fun w' hS' => by rfl⟩) s3 ?_
   simp only [BZ.z, Act.put, Nat.reduceAdd]
   refine wpAnyH_take (i := 3) (v := .bool false) rfl (by kernel_rfl) (by kernel_rfl) (by kernel_rfl) (fun _ _ _ h => h) (Or.inl ⟨by rfl, fun w' hS' => by rfl⟩) s3 ?_
   simp only [BZ.z, Act.put, Nat.reduceAdd]
   refine wpAnyH_take (i := 4) (v := .pointer (some ⟨V, 0, none⟩)) rfl (by kernel_rfl) (by kernel_rfl) (by kernel_rfl) (fun _ _ _ h => h) (Or.inl ⟨by rfl, fun w' hS' => ?_⟩) s3 ?_
   ·obtain ⟨p0, p1, p2, q0, q1, q2, q3, q4, q5, q6, q7⟩ := hS'
    go_simp
   simp only [BZ.z, Act.put, Nat.reduceAdd]
   refine wpAnyH_take (i := 5) (v := .string m) rfl (by kernel_rfl) (by kernel_rfl) (by kernel_rfl) (fun _ _ _ h => h) (Or.inl ⟨by rfl, fun w' hS' => ?_⟩) s3 ?_
   ·obtain ⟨p0, p1, p2, q0, q1, q2, q3, q4, q5, q6, q7⟩ := hS'
    go_simp
   simp only [BZ.z, Act.put, Nat.reduceAdd]
   refine wpAnyH_take (i := 6) (v := .pointer (some ⟨L, 0, none⟩)) rfl (by kernel_rfl) (by kernel_rfl) (by kernel_rfl) (fun _ _ _ h => h) (Or.inl ⟨by rfl, fun w' hS' => ?_⟩) s3 ?_
   ·obtain ⟨p0, p1, p2, q0, q1, q2, q3, q4, q5, q6, q7⟩ := hS'
    go_simp
   simp only [BZ.z, Act.put, Nat.reduceAdd]
   refine wpAnyH_take (i := 7) (v := .int .i64 d.ino) rfl (by kernel_rfl) (by kernel_rfl) (by kernel_rfl) (fun _ _ _ h => h) (Or.inl ⟨by rfl, fun w' hS' => ?_⟩) s3 ?_
   ·obtain ⟨p0, p1, p2, q0, q1, q2, q3, q4, q5, q6, q7⟩ := hS'
    go_simp
   simp only [BZ.z, Act.put, Nat.reduceAdd]
   refine wpAnyH_take (i := 10) (v := .pointer (some ⟨L, 3, none⟩)) rfl (by kernel_rfl) (by kernel_rfl) (by kernel_rfl) (fun _ _ _ h => h) (Or.inl ⟨by rfl, fun w' hS' => ?_⟩) s3 ?_
   ·obtain ⟨p0, p1, p2, q0, q1, q2, q3, q4, q5, q6, q7⟩ := hS'
    go_simp
   simp only [BZ.z, Act.put, Nat.reduceAdd]
   refine wpAnyH_take (i := 11) (v := .string d.rc) rfl (by kernel_rfl) (by kernel_rfl) (by kernel_rfl) (fun _ _ _ h => h) (Or.inl ⟨by rfl, fun w' hS' => ?_⟩) s3 ?_
   ·obtain ⟨p0, p1, p2, q0, q1, q2, q3, q4, q5, q6, q7⟩ := hS'
    go_simp
   simp only [BZ.z, Act.put, Nat.reduceAdd]
   refine Y0.one_callw (i := 8) (by kernel_rfl) rfl (by rfl) (.tmp 12) _ rfl (.int .i64 d.ino) (by rfl) (enters_of Tryz.func125 (by kernel_rfl) rfl) ((L1.impl_RecAt d.ino _).mono ?_)
   rintro e w4 ⟨rfl, rfl⟩
   refine ⟨_, rfl, s3, ?_⟩
   simp only [BZ.z, Act.put, Nat.reduceAdd]
   refine Y0.one_call3w (i := 9) (by kernel_rfl) rfl (by rfl) (.tmp 10) (.tmp 13) (.const (.int .i64 16)) _ rfl (.string m) (.int .i64 (L1.recAt d.ino)) (.int .i64 16) (by rfl) (by rfl) (by rfl) (enters_of Tryz.func82 (by kernel_rfl) rfl) ((HPa.out _).mono ?_)
   rintro e w5 ⟨rfl, b5⟩
   have h5 := h3.below b5
   have s5 := h5.cells
   refine ⟨_, rfl, s5, ?_⟩
   simp only [BZ.z, Act.put, Nat.reduceAdd]
   refine wpAnyH_take (i := 12) (v := .bool true) rfl (by kernel_rfl) (by kernel_rfl) (by kernel_rfl) (fun _ _ _ h => h) (Or.inl ⟨by rfl, fun w' hS' => ?_⟩) s5 ?_
   ·obtain ⟨p0, p1, p2, q0, q1, q2, q3, q4, q5, q6, q7⟩ := hS'
    go_simp
   simp only [BZ.z, Act.put, Nat.reduceAdd]
   refine wpAnyH_take (i := 13) (v := .bool true) rfl (by kernel_rfl) (by kernel_rfl) (by kernel_rfl) (fun _ _ _ h => h) (Or.inl ⟨by rfl, fun w' hS' => by rfl⟩) s5 ?_
   simp only [BZ.z, Act.put, Nat.reduceAdd]
   refine wpAnyH_take (i := 14) (v := .bool true) rfl (by kernel_rfl) (by kernel_rfl) (by kernel_rfl) (fun _ _ _ h => h) (Or.inl ⟨by rfl, fun w' hS' => by rfl⟩) s5 ?_
   simp only [BZ.z, Act.put, Nat.reduceAdd]
   refine wpAnyH_take (i := 15) (v := undef) rfl (by kernel_rfl) (by kernel_rfl) (by kernel_rfl) (fun _ _ _ h => h) (Or.inr ⟨by rfl, rfl⟩) s5 ?_
   simp only [BZ.z, Act.put, Nat.reduceAdd]
   refine wpAnyH_take (i := 16) (v := undef) rfl (by kernel_rfl) (by kernel_rfl) (by kernel_rfl) (fun _ _ _ h => h) (Or.inr ⟨by rfl, rfl⟩) s5 ?_
   simp only [BZ.z, Act.put, Nat.reduceAdd]
   refine wpAnyH_take (i := 17) (v := undef) rfl (by kernel_rfl) (by kernel_rfl) (by kernel_rfl) (fun _ _ _ h => h) (Or.inr ⟨by rfl, rfl⟩) s5 ?_
   simp only [BZ.z, Act.put, Nat.reduceAdd]
   refine wpAnyH_take (i := 18) (v := undef) rfl (by kernel_rfl) (by kernel_rfl) (by kernel_rfl) (fun _ _ _ h => h) (Or.inr ⟨by rfl, rfl⟩) s5 ?_
   simp only [BZ.z, Act.put, Nat.reduceAdd]
   refine wpAnyH_take (i := 19) (v := undef) rfl (by kernel_rfl) (by kernel_rfl) (by kernel_rfl) (fun _ _ _ h => h) (Or.inr ⟨by rfl, rfl⟩) s5 ?_
   simp only [BZ.z, Act.put, Nat.reduceAdd]
   refine wpAnyH_take (i := 20) (v := undef) rfl (by kernel_rfl) (by kernel_rfl) (by kernel_rfl) (fun _ _ _ h => h) (Or.inr ⟨by rfl, rfl⟩) s5 ?_
   simp only [BZ.z, Act.put, Nat.reduceAdd]
   refine wpAnyH_take (i := 21) (v := undef) rfl (by kernel_rfl) (by kernel_rfl) (by kernel_rfl) (fun _ _ _ h => h) (Or.inr ⟨by rfl, rfl⟩) s5 ?_
   simp only [BZ.z, Act.put, Nat.reduceAdd]
   refine wpAnyH_take (i := 22) (v := undef) rfl (by kernel_rfl) (by kernel_rfl) (by kernel_rfl) (fun _ _ _ h => h) (Or.inr ⟨by rfl, rfl⟩) s5 ?_
   simp only [BZ.z, Act.put, Nat.reduceAdd]
   refine wpAnyH_take (i := 23) (v := .bool true) rfl (by kernel_rfl) (by kernel_rfl) (by kernel_rfl) (fun _ _ _ h => h) (Or.inl ⟨by rfl, fun w' hS' => by rfl⟩) s5 ?_
   simp only [BZ.z, Act.put, Nat.reduceAdd]
   refine wpAnyH_done (by kernel_rfl) ?_ _
   go_wp2
   go_ret
   exact ⟨rfl, h5.bel⟩
  ·have e1 := eq_list hrc
   rw [decide_eq_true hrc]
   clear hrc
   by_cases hsv : O0.joined m d.pg d.pg.length = d.sav
   rotate_left
   ·have e2 := ne_list hsv
    rw [decide_eq_false hsv]
    clear hsv
    go_enter Tryz.func56, Tryz.ntmps56
    go_wp2
    have s1 := h1.cells
    clear hsz hW2
    refine wp_region_held (S := fun W => W.cell? ⟨V, 0, none⟩ = some (.string m) ∧ W.cell? ⟨V, 1, none⟩ = some (.slice a1 us.length c1) ∧ W.cell? ⟨V, 2, none⟩ = some (.slice a2 fs.length c2) ∧ W.cell? ⟨L, 0, none⟩ = some (.int .i64 d.ino) ∧ W.cell? ⟨L, 1, none⟩ = some (.int .i64 d.cl) ∧ W.cell? ⟨L, 2, none⟩ = some (.int .i64 d.un) ∧ W.cell? ⟨L, 3, none⟩ = some (.string d.rc) ∧ W.cell? ⟨L, 4, none⟩ = some (.slice s.a1 d.pg.length s.c1) ∧ W.cell? ⟨L, 5, none⟩ = some (.string d.sav) ∧ W.cell? ⟨L, 6, none⟩ = some (.slice s.a2 d.po.length s.c2) ∧ W.cell? ⟨L, 7, none⟩ = some (.slice s.a3 d.fr.length s.c3)) (by kernel_rfl) ?_
    refine wpAnyH_take (i := 0) (v := N1.val d s) rfl (by kernel_rfl) (by kernel_rfl) (by kernel_rfl) (fun _ _ _ h => h) (Or.inl ⟨by rfl, fun w' hS' => ?_⟩) s1 ?_
    ·obtain ⟨p0, p1, p2, q0, q1, q2, q3, q4, q5, q6, q7⟩ := hS'
     go_simp
    simp only [BZ.z, Act.put, Nat.reduceAdd]
    refine Y0.one_callw (i := 1) (by kernel_rfl) rfl (by rfl) (.tmp 5) _ rfl (N1.val d s) (by rfl) (enters_of Tryz.func124 (by kernel_rfl) rfl) ((HLo.out _ h1.bel).mono ?_)
    rintro e w3 ⟨rfl, b3⟩
    have h3 := h1.below b3
    have s3 := h3.cells
    refine ⟨_, rfl, s3, ?_⟩
    simp only [BZ.z, Act.put, Nat.reduceAdd]
    refine wpAnyH_take (i := 2) (v := .bool false) rfl (by kernel_rfl) (by kernel_rfl) (by kernel_rfl) (fun _ _ _ h => h) (Or.inl ⟨by rfl, fun w' hS' => by rfl⟩) s3 ?_
    simp only [BZ.z, Act.put, Nat.reduceAdd]
    refine wpAnyH_take (i := 3) (v := .bool false) rfl (by kernel_rfl) (by kernel_rfl) (by kernel_rfl) (fun _ _ _ h => h) (Or.inl ⟨by rfl, fun w' hS' => by rfl⟩) s3 ?_
    simp only [BZ.z, Act.put, Nat.reduceAdd]
    refine wpAnyH_take (i := 4) (v := .pointer (some ⟨V, 0, none⟩)) rfl (by kernel_rfl) (by kernel_rfl) (by kernel_rfl) (fun _ _ _ h => h) (Or.inl ⟨by rfl, fun w' hS' => ?_⟩) s3 ?_
    ·obtain ⟨p0, p1, p2, q0, q1, q2, q3, q4, q5, q6, q7⟩ := hS'
     go_simp
    simp only [BZ.z, Act.put, Nat.reduceAdd]
    refine wpAnyH_take (i := 5) (v := .string m) rfl (by kernel_rfl) (by kernel_rfl) (by kernel_rfl) (fun _ _ _ h => h) (Or.inl ⟨by rfl, fun w' hS' => ?_⟩) s3 ?_
    ·obtain ⟨p0, p1, p2, q0, q1, q2, q3, q4, q5, q6, q7⟩ := hS'
     go_simp
    simp only [BZ.z, Act.put, Nat.reduceAdd]
    refine wpAnyH_take (i := 6) (v := .pointer (some ⟨L, 0, none⟩)) rfl (by kernel_rfl) (by kernel_rfl) (by kernel_rfl) (fun _ _ _ h => h) (Or.inl ⟨by rfl, fun w' hS' => ?_⟩) s3 ?_
    ·obtain ⟨p0, p1, p2, q0, q1, q2, q3, q4, q5, q6, q7⟩ := hS'
     go_simp
    simp only [BZ.z, Act.put, Nat.reduceAdd]
    refine wpAnyH_take (i := 7) (v := .int .i64 d.ino) rfl (by kernel_rfl) (by kernel_rfl) (by kernel_rfl) (fun _ _ _ h => h) (Or.inl ⟨by rfl, fun w' hS' => ?_⟩) s3 ?_
    ·obtain ⟨p0, p1, p2, q0, q1, q2, q3, q4, q5, q6, q7⟩ := hS'
     go_simp
    simp only [BZ.z, Act.put, Nat.reduceAdd]
    refine wpAnyH_take (i := 10) (v := .pointer (some ⟨L, 3, none⟩)) rfl (by kernel_rfl) (by kernel_rfl) (by kernel_rfl) (fun _ _ _ h => h) (Or.inl ⟨by rfl, fun w' hS' => ?_⟩) s3 ?_
    ·obtain ⟨p0, p1, p2, q0, q1, q2, q3, q4, q5, q6, q7⟩ := hS'
     go_simp
    simp only [BZ.z, Act.put, Nat.reduceAdd]
    refine wpAnyH_take (i := 11) (v := .string d.rc) rfl (by kernel_rfl) (by kernel_rfl) (by kernel_rfl) (fun _ _ _ h => h) (Or.inl ⟨by rfl, fun w' hS' => ?_⟩) s3 ?_
    ·obtain ⟨p0, p1, p2, q0, q1, q2, q3, q4, q5, q6, q7⟩ := hS'
     go_simp
    simp only [BZ.z, Act.put, Nat.reduceAdd]
    refine Y0.one_callw (i := 8) (by kernel_rfl) rfl (by rfl) (.tmp 12) _ rfl (.int .i64 d.ino) (by rfl) (enters_of Tryz.func125 (by kernel_rfl) rfl) ((L1.impl_RecAt d.ino _).mono ?_)
    rintro e w4 ⟨rfl, rfl⟩
    refine ⟨_, rfl, s3, ?_⟩
    simp only [BZ.z, Act.put, Nat.reduceAdd]
    refine Y0.one_call3w (i := 9) (by kernel_rfl) rfl (by rfl) (.tmp 10) (.tmp 13) (.const (.int .i64 16)) _ rfl (.string m) (.int .i64 (L1.recAt d.ino)) (.int .i64 16) (by rfl) (by rfl) (by rfl) (enters_of Tryz.func82 (by kernel_rfl) rfl) ((HPa.out _).mono ?_)
    rintro e w5 ⟨rfl, b5⟩
    have h5 := h3.below b5
    have s5 := h5.cells
    refine ⟨_, rfl, s5, ?_⟩
    simp only [BZ.z, Act.put, Nat.reduceAdd]
    refine wpAnyH_take (i := 12) (v := .bool false) rfl (by kernel_rfl) (by kernel_rfl) (by kernel_rfl) (fun _ _ _ h => h) (Or.inl ⟨by rfl, fun w' hS' => ?_⟩) s5 ?_
    ·obtain ⟨p0, p1, p2, q0, q1, q2, q3, q4, q5, q6, q7⟩ := hS'
     go_simp
    simp only [BZ.z, Act.put, Nat.reduceAdd]
    refine wpAnyH_take (i := 13) (v := .bool false) rfl (by kernel_rfl) (by kernel_rfl) (by kernel_rfl) (fun _ _ _ h => h) (Or.inl ⟨by rfl, fun w' hS' => by rfl⟩) s5 ?_
    simp only [BZ.z, Act.put, Nat.reduceAdd]
    refine wpAnyH_take (i := 14) (v := .bool false) rfl (by kernel_rfl) (by kernel_rfl) (by kernel_rfl) (fun _ _ _ h => h) (Or.inl ⟨by rfl, fun w' hS' => by rfl⟩) s5 ?_
    simp only [BZ.z, Act.put, Nat.reduceAdd]
    refine wpAnyH_take (i := 15) (v := .pointer (some ⟨V, 0, none⟩)) rfl (by kernel_rfl) (by kernel_rfl) (by kernel_rfl) (fun _ _ _ h => h) (Or.inl ⟨by rfl, fun w' hS' => ?_⟩) s5 ?_
    ·obtain ⟨p0, p1, p2, q0, q1, q2, q3, q4, q5, q6, q7⟩ := hS'
     go_simp
    simp only [BZ.z, Act.put, Nat.reduceAdd]
    refine wpAnyH_take (i := 16) (v := .string m) rfl (by kernel_rfl) (by kernel_rfl) (by kernel_rfl) (fun _ _ _ h => h) (Or.inl ⟨by rfl, fun w' hS' => ?_⟩) s5 ?_
    ·obtain ⟨p0, p1, p2, q0, q1, q2, q3, q4, q5, q6, q7⟩ := hS'
     go_simp
    simp only [BZ.z, Act.put, Nat.reduceAdd]
    refine wpAnyH_take (i := 17) (v := .pointer (some ⟨L, 4, none⟩)) rfl (by kernel_rfl) (by kernel_rfl) (by kernel_rfl) (fun _ _ _ h => h) (Or.inl ⟨by rfl, fun w' hS' => ?_⟩) s5 ?_
    ·obtain ⟨p0, p1, p2, q0, q1, q2, q3, q4, q5, q6, q7⟩ := hS'
     go_simp
    simp only [BZ.z, Act.put, Nat.reduceAdd]
    refine wpAnyH_take (i := 18) (v := (.slice s.a1 d.pg.length s.c1)) rfl (by kernel_rfl) (by kernel_rfl) (by kernel_rfl) (fun _ _ _ h => h) (Or.inl ⟨by rfl, fun w' hS' => ?_⟩) s5 ?_
    ·obtain ⟨p0, p1, p2, q0, q1, q2, q3, q4, q5, q6, q7⟩ := hS'
     go_simp
    simp only [BZ.z, Act.put, Nat.reduceAdd]
    refine wpAnyH_take (i := 20) (v := .pointer (some ⟨L, 5, none⟩)) rfl (by kernel_rfl) (by kernel_rfl) (by kernel_rfl) (fun _ _ _ h => h) (Or.inl ⟨by rfl, fun w' hS' => ?_⟩) s5 ?_
    ·obtain ⟨p0, p1, p2, q0, q1, q2, q3, q4, q5, q6, q7⟩ := hS'
     go_simp
    simp only [BZ.z, Act.put, Nat.reduceAdd]
    refine wpAnyH_take (i := 21) (v := .string d.sav) rfl (by kernel_rfl) (by kernel_rfl) (by kernel_rfl) (fun _ _ _ h => h) (Or.inl ⟨by rfl, fun w' hS' => ?_⟩) s5 ?_
    ·obtain ⟨p0, p1, p2, q0, q1, q2, q3, q4, q5, q6, q7⟩ := hS'
     go_simp
    simp only [BZ.z, Act.put, Nat.reduceAdd]
    refine Y0.one_call2w (i := 19) (by kernel_rfl) rfl (by rfl) (.tmp 21) (.tmp 23) _ rfl (.string m) (.slice s.a1 d.pg.length s.c1) (by rfl) (by rfl) (enters_of Tryz.func126 (by kernel_rfl) rfl) ((HPt.out _ h5.bel).mono ?_)
    rintro e w6 ⟨rfl, b6⟩
    have h6 := h5.below b6
    have s6 := h6.cells
    refine ⟨_, rfl, s6, ?_⟩
    simp only [BZ.z, Act.put, Nat.reduceAdd]
    refine wpAnyH_take (i := 22) (v := .bool true) rfl (by kernel_rfl) (by kernel_rfl) (by kernel_rfl) (fun _ _ _ h => h) (Or.inl ⟨by rfl, fun w' hS' => ?_⟩) s6 ?_
    ·obtain ⟨p0, p1, p2, q0, q1, q2, q3, q4, q5, q6, q7⟩ := hS'
     go_simp
    simp only [BZ.z, Act.put, Nat.reduceAdd]
    refine wpAnyH_take (i := 23) (v := .bool true) rfl (by kernel_rfl) (by kernel_rfl) (by kernel_rfl) (fun _ _ _ h => h) (Or.inl ⟨by rfl, fun w' hS' => by rfl⟩) s6 ?_
    simp only [BZ.z, Act.put, Nat.reduceAdd]
    refine wpAnyH_done (by kernel_rfl) ?_ _
    go_wp2
    go_ret
    exact ⟨rfl, h6.bel⟩
   ·have e2 := eq_list hsv
    rw [decide_eq_true hsv]
    clear hsv
    cases hap : N0.apart fs d.fr
    all_goals
     rw [hap] at HN1
     go_enter Tryz.func56, Tryz.ntmps56
     go_wp2
     have s1 := h1.cells
     clear hsz hW2
     refine wp_region_held (S := fun W => W.cell? ⟨V, 0, none⟩ = some (.string m) ∧ W.cell? ⟨V, 1, none⟩ = some (.slice a1 us.length c1) ∧ W.cell? ⟨V, 2, none⟩ = some (.slice a2 fs.length c2) ∧ W.cell? ⟨L, 0, none⟩ = some (.int .i64 d.ino) ∧ W.cell? ⟨L, 1, none⟩ = some (.int .i64 d.cl) ∧ W.cell? ⟨L, 2, none⟩ = some (.int .i64 d.un) ∧ W.cell? ⟨L, 3, none⟩ = some (.string d.rc) ∧ W.cell? ⟨L, 4, none⟩ = some (.slice s.a1 d.pg.length s.c1) ∧ W.cell? ⟨L, 5, none⟩ = some (.string d.sav) ∧ W.cell? ⟨L, 6, none⟩ = some (.slice s.a2 d.po.length s.c2) ∧ W.cell? ⟨L, 7, none⟩ = some (.slice s.a3 d.fr.length s.c3)) (by kernel_rfl) ?_
     refine wpAnyH_take (i := 0) (v := N1.val d s) rfl (by kernel_rfl) (by kernel_rfl) (by kernel_rfl) (fun _ _ _ h => h) (Or.inl ⟨by rfl, fun w' hS' => ?_⟩) s1 ?_
     ·obtain ⟨p0, p1, p2, q0, q1, q2, q3, q4, q5, q6, q7⟩ := hS'
      go_simp
     simp only [BZ.z, Act.put, Nat.reduceAdd]
     refine Y0.one_callw (i := 1) (by kernel_rfl) rfl (by rfl) (.tmp 5) _ rfl (N1.val d s) (by rfl) (enters_of Tryz.func124 (by kernel_rfl) rfl) ((HLo.out _ h1.bel).mono ?_)
     rintro e w3 ⟨rfl, b3⟩
     have h3 := h1.below b3
     have s3 := h3.cells
     refine ⟨_, rfl, s3, ?_⟩
     simp only [BZ.z, Act.put, Nat.reduceAdd]
     refine wpAnyH_take (i := 2) (v := .bool false) rfl (by kernel_rfl) (by kernel_rfl) (by kernel_rfl) (fun _ _ _ h => h) (Or.inl ⟨by rfl, fun w' hS' => by rfl⟩) s3 ?_
     simp only [BZ.z, Act.put, Nat.reduceAdd]
     refine wpAnyH_take (i := 3) (v := .bool false) rfl (by kernel_rfl) (by kernel_rfl) (by kernel_rfl) (fun _ _ _ h => h) (Or.inl ⟨by rfl, fun w' hS' => by rfl⟩) s3 ?_
     simp only [BZ.z, Act.put, Nat.reduceAdd]
     refine wpAnyH_take (i := 4) (v := .pointer (some ⟨V, 0, none⟩)) rfl (by kernel_rfl) (by kernel_rfl) (by kernel_rfl) (fun _ _ _ h => h) (Or.inl ⟨by rfl, fun w' hS' => ?_⟩) s3 ?_
     ·obtain ⟨p0, p1, p2, q0, q1, q2, q3, q4, q5, q6, q7⟩ := hS'
      go_simp
     simp only [BZ.z, Act.put, Nat.reduceAdd]
     refine wpAnyH_take (i := 5) (v := .string m) rfl (by kernel_rfl) (by kernel_rfl) (by kernel_rfl) (fun _ _ _ h => h) (Or.inl ⟨by rfl, fun w' hS' => ?_⟩) s3 ?_
     ·obtain ⟨p0, p1, p2, q0, q1, q2, q3, q4, q5, q6, q7⟩ := hS'
      go_simp
     simp only [BZ.z, Act.put, Nat.reduceAdd]
     refine wpAnyH_take (i := 6) (v := .pointer (some ⟨L, 0, none⟩)) rfl (by kernel_rfl) (by kernel_rfl) (by kernel_rfl) (fun _ _ _ h => h) (Or.inl ⟨by rfl, fun w' hS' => ?_⟩) s3 ?_
     ·obtain ⟨p0, p1, p2, q0, q1, q2, q3, q4, q5, q6, q7⟩ := hS'
      go_simp
     simp only [BZ.z, Act.put, Nat.reduceAdd]
     refine wpAnyH_take (i := 7) (v := .int .i64 d.ino) rfl (by kernel_rfl) (by kernel_rfl) (by kernel_rfl) (fun _ _ _ h => h) (Or.inl ⟨by rfl, fun w' hS' => ?_⟩) s3 ?_
     ·obtain ⟨p0, p1, p2, q0, q1, q2, q3, q4, q5, q6, q7⟩ := hS'
      go_simp
     simp only [BZ.z, Act.put, Nat.reduceAdd]
     refine wpAnyH_take (i := 10) (v := .pointer (some ⟨L, 3, none⟩)) rfl (by kernel_rfl) (by kernel_rfl) (by kernel_rfl) (fun _ _ _ h => h) (Or.inl ⟨by rfl, fun w' hS' => ?_⟩) s3 ?_
     ·obtain ⟨p0, p1, p2, q0, q1, q2, q3, q4, q5, q6, q7⟩ := hS'
      go_simp
     simp only [BZ.z, Act.put, Nat.reduceAdd]
     refine wpAnyH_take (i := 11) (v := .string d.rc) rfl (by kernel_rfl) (by kernel_rfl) (by kernel_rfl) (fun _ _ _ h => h) (Or.inl ⟨by rfl, fun w' hS' => ?_⟩) s3 ?_
     ·obtain ⟨p0, p1, p2, q0, q1, q2, q3, q4, q5, q6, q7⟩ := hS'
      go_simp
     simp only [BZ.z, Act.put, Nat.reduceAdd]
     refine Y0.one_callw (i := 8) (by kernel_rfl) rfl (by rfl) (.tmp 12) _ rfl (.int .i64 d.ino) (by rfl) (enters_of Tryz.func125 (by kernel_rfl) rfl) ((L1.impl_RecAt d.ino _).mono ?_)
     rintro e w4 ⟨rfl, rfl⟩
     refine ⟨_, rfl, s3, ?_⟩
     simp only [BZ.z, Act.put, Nat.reduceAdd]
     refine Y0.one_call3w (i := 9) (by kernel_rfl) rfl (by rfl) (.tmp 10) (.tmp 13) (.const (.int .i64 16)) _ rfl (.string m) (.int .i64 (L1.recAt d.ino)) (.int .i64 16) (by rfl) (by rfl) (by rfl) (enters_of Tryz.func82 (by kernel_rfl) rfl) ((HPa.out _).mono ?_)
     rintro e w5 ⟨rfl, b5⟩
     have h5 := h3.below b5
     have s5 := h5.cells
     refine ⟨_, rfl, s5, ?_⟩
     simp only [BZ.z, Act.put, Nat.reduceAdd]
     refine wpAnyH_take (i := 12) (v := .bool false) rfl (by kernel_rfl) (by kernel_rfl) (by kernel_rfl) (fun _ _ _ h => h) (Or.inl ⟨by rfl, fun w' hS' => ?_⟩) s5 ?_
     ·obtain ⟨p0, p1, p2, q0, q1, q2, q3, q4, q5, q6, q7⟩ := hS'
      go_simp
     simp only [BZ.z, Act.put, Nat.reduceAdd]
     refine wpAnyH_take (i := 13) (v := .bool false) rfl (by kernel_rfl) (by kernel_rfl) (by kernel_rfl) (fun _ _ _ h => h) (Or.inl ⟨by rfl, fun w' hS' => by rfl⟩) s5 ?_
     simp only [BZ.z, Act.put, Nat.reduceAdd]
     refine wpAnyH_take (i := 14) (v := .bool false) rfl (by kernel_rfl) (by kernel_rfl) (by kernel_rfl) (fun _ _ _ h => h) (Or.inl ⟨by rfl, fun w' hS' => by rfl⟩) s5 ?_
     simp only [BZ.z, Act.put, Nat.reduceAdd]
     refine wpAnyH_take (i := 15) (v := .pointer (some ⟨V, 0, none⟩)) rfl (by kernel_rfl) (by kernel_rfl) (by kernel_rfl) (fun _ _ _ h => h) (Or.inl ⟨by rfl, fun w' hS' => ?_⟩) s5 ?_
     ·obtain ⟨p0, p1, p2, q0, q1, q2, q3, q4, q5, q6, q7⟩ := hS'
      go_simp
     simp only [BZ.z, Act.put, Nat.reduceAdd]
     refine wpAnyH_take (i := 16) (v := .string m) rfl (by kernel_rfl) (by kernel_rfl) (by kernel_rfl) (fun _ _ _ h => h) (Or.inl ⟨by rfl, fun w' hS' => ?_⟩) s5 ?_
     ·obtain ⟨p0, p1, p2, q0, q1, q2, q3, q4, q5, q6, q7⟩ := hS'
      go_simp
     simp only [BZ.z, Act.put, Nat.reduceAdd]
     refine wpAnyH_take (i := 17) (v := .pointer (some ⟨L, 4, none⟩)) rfl (by kernel_rfl) (by kernel_rfl) (by kernel_rfl) (fun _ _ _ h => h) (Or.inl ⟨by rfl, fun w' hS' => ?_⟩) s5 ?_
     ·obtain ⟨p0, p1, p2, q0, q1, q2, q3, q4, q5, q6, q7⟩ := hS'
      go_simp
     simp only [BZ.z, Act.put, Nat.reduceAdd]
     refine wpAnyH_take (i := 18) (v := (.slice s.a1 d.pg.length s.c1)) rfl (by kernel_rfl) (by kernel_rfl) (by kernel_rfl) (fun _ _ _ h => h) (Or.inl ⟨by rfl, fun w' hS' => ?_⟩) s5 ?_
     ·obtain ⟨p0, p1, p2, q0, q1, q2, q3, q4, q5, q6, q7⟩ := hS'
      go_simp
     simp only [BZ.z, Act.put, Nat.reduceAdd]
     refine wpAnyH_take (i := 20) (v := .pointer (some ⟨L, 5, none⟩)) rfl (by kernel_rfl) (by kernel_rfl) (by kernel_rfl) (fun _ _ _ h => h) (Or.inl ⟨by rfl, fun w' hS' => ?_⟩) s5 ?_
     ·obtain ⟨p0, p1, p2, q0, q1, q2, q3, q4, q5, q6, q7⟩ := hS'
      go_simp
     simp only [BZ.z, Act.put, Nat.reduceAdd]
     refine wpAnyH_take (i := 21) (v := .string d.sav) rfl (by kernel_rfl) (by kernel_rfl) (by kernel_rfl) (fun _ _ _ h => h) (Or.inl ⟨by rfl, fun w' hS' => ?_⟩) s5 ?_
     ·obtain ⟨p0, p1, p2, q0, q1, q2, q3, q4, q5, q6, q7⟩ := hS'
      go_simp
     simp only [BZ.z, Act.put, Nat.reduceAdd]
     refine Y0.one_call2w (i := 19) (by kernel_rfl) rfl (by rfl) (.tmp 21) (.tmp 23) _ rfl (.string m) (.slice s.a1 d.pg.length s.c1) (by rfl) (by rfl) (enters_of Tryz.func126 (by kernel_rfl) rfl) ((HPt.out _ h5.bel).mono ?_)
     rintro e w6 ⟨rfl, b6⟩
     have h6 := h5.below b6
     have s6 := h6.cells
     refine ⟨_, rfl, s6, ?_⟩
     simp only [BZ.z, Act.put, Nat.reduceAdd]
     refine wpAnyH_take (i := 22) (v := .bool false) rfl (by kernel_rfl) (by kernel_rfl) (by kernel_rfl) (fun _ _ _ h => h) (Or.inl ⟨by rfl, fun w' hS' => ?_⟩) s6 ?_
     ·obtain ⟨p0, p1, p2, q0, q1, q2, q3, q4, q5, q6, q7⟩ := hS'
      go_simp
     simp only [BZ.z, Act.put, Nat.reduceAdd]
     refine wpAnyH_take (i := 23) (v := .bool false) rfl (by kernel_rfl) (by kernel_rfl) (by kernel_rfl) (fun _ _ _ h => h) (Or.inl ⟨by rfl, fun w' hS' => by rfl⟩) s6 ?_
     simp only [BZ.z, Act.put, Nat.reduceAdd]
     refine wpAnyH_done (by kernel_rfl) ?_ _
     have y7 := h6.lb.c7
     have y6 := h6.lb.c6
     have x1 := h6.vb.c1
     have x2 := h6.vb.c2
     go_wp2_with (first
      | (go_at_call 127; refine (HN1.out _ h6.bel).mono ?_; rintro e w' ⟨rfl, rfl⟩; clear HN1)
      | (go_at_call 127; refine (HN2.out _ h6.bel).mono ?_; rintro e w' ⟨rfl, rfl⟩))
     go_ret
     exact ⟨rfl, h6.bel⟩
end Go.Proofs.YtljnkicgahepfaaGreatDoor.KH
