/- Joined texts: plain facts and contracts. -/
import Derived.Test.YtpkmeknniajahaaGreatDoorJnF
import Derived.Test.YtpkmeknniajahaaGreatDoorJnT
import Derived.Test.YtpkmeknniajahaaGreatDoorJnA
import Derived.Test.YtpkmeknniajahaaGreatDoorJnB
import Derived.Test.YtpkmeknniajahaaGreatDoorJnX
import Derived.Test.YtpkmeknniajahaaGreatDoorJnQ
import Derived.BigQuiet
set_option linter.unusedVariables false
set_option linter.unusedSimpArgs false
set_option maxRecDepth 10000
namespace Go.Proofs.YtpkmeknniajahaaGreatDoor.TY
open Go.ChangeShapes Go.WideShapes Go.ChangeAt Go.RowKit
open FI (Fl files FBuf ffl file_cells zf)
open TW (sound)
open TU (line)
theorem sz_lit (b : Array UInt8) : (⟨b⟩ : ByteArray).size = b.size := rfl
theorem files_len (mem : ByteArray) : (files mem).length ≤ 8 := by
 unfold files
 split
 ·exact FI.filesTo_len mem _ 8
 ·exact Nat.zero_le _
set_option maxHeartbeats 8000000 in
theorem spec_good (mem : ByteArray) (w : World) (hms : mem.size ≤ 281474976710656) (hs : sound mem = true) (hm : ∀ s ∈ files mem, s.path.size ≤ 1000 ∧ s.data.size ≤ 1000 ∧ (Lit.int .i64 s.owner).wf = true ∧ (TU.dt s.owner).size ≤ 30 ∧ (TU.hx s.data).size ≤ 3000) (hc : ∀ (S : List Fl) (j : Nat), S.length ≤ 8 → (∀ s ∈ S, s ∈ files mem) → (cat ⟨#[]⟩ (S.take j)).size ≤ 100000) : Calls Tryz.prog 19 #[.string mem] w fun e w' => e = .returned (.string (text mem)) ∧ Below w.heap.size w w' := by
 have hS := TS.spec_Sound mem w hms
 rw [hs] at hS
 have e : text mem = cat ⟨#[]⟩ (srt (files mem)) := by unfold text; rw [if_pos hs]
 have HF : Hid (∀ W, Calls Tryz.prog 12 #[.string mem] W fun e w' => ∃ g c, e = .returned (.slice (some ⟨g, 0, none⟩) (files mem).length c) ∧ W.heap.size ≤ g ∧ K0.Blk g (ffl (files mem)) w' ∧ Below W.heap.size W w') := fun W => FI.spec_Files mem W hms
 have hlen := files_len mem
 rw [e]
 obtain ⟨F, hF⟩ : ∃ F, files mem = F := ⟨_, rfl⟩
 have HM0 : Hid (∀ s ∈ srt (files mem), s.path.size ≤ 1000 ∧ s.data.size ≤ 1000 ∧ (Lit.int .i64 s.owner).wf = true ∧ (TU.dt s.owner).size ≤ 30 ∧ (TU.hx s.data).size ≤ 3000) := fun s h => hm s (by
  have := (TT.srtFrom_perm (fun a b : Fl => TT.lt a.path b.path) (files mem) []).mem_iff.1 h
  simpa using this)
 have HC0 : Hid (∀ j, (cat ⟨#[]⟩ ((srt (files mem)).take j)).size ≤ 100000) := fun j => hc _ j (by rw [srt_length]; exact hlen) (fun s h => by
  have := (TT.srtFrom_perm (fun a b : Fl => TT.lt a.path b.path) (files mem) []).mem_iff.1 h
  simpa using this)
 rw [hF] at HF hlen HM0 HC0 ⊢
 obtain ⟨T, hT⟩ : ∃ T, cat ⟨#[]⟩ (srt F) = T := ⟨_, rfl⟩
 rw [hT]
 have HT : Hid (cat ⟨#[]⟩ (srt F) = T) := hT
 have HM := HM0
 clear hs e hF hT hm hc
 go_enter Tryz.func19, Tryz.ntmps19
 go_wp2_with (first
  | (go_at_call 21; refine hS.mono ?_; rintro e w1 ⟨rfl, b1⟩; have n1 := K0.below_new w1 (.cells #[] 38); have f1 := FI.fbuf_new (base := w1.heap.size) w1 (Nat.le_refl _))
  | (go_at_call 12; refine (HF.out _).mono ?_; rintro e w2 ⟨ga, ca, rfl, hga, k2, b2⟩; have f2 := f1.below b2; have l2 := (b1.trans (n1.mono b1.size)).trans (b2.mono (Nat.le_trans b1.size n1.size))))
 go_loopg [3, 5] F.length (fun gk v i W => ∃ (k n c g : Nat), k + gk = F.length ∧ i = .int .i64 k ∧ v = .slice (some ⟨g, 0, none⟩) n c ∧ FBuf w.heap.size W g n c (srt (F.take k)) ∧ K0.Blk ga (ffl F) W ∧ Below w.heap.size w W)
 case atStart => exact ⟨0, 0, 0, _, by omega, rfl, rfl, fbuf_mono f2 b1.size, k2, l2⟩
 case round =>
  obtain ⟨k, n, c, g, hk, rfl, rfl, fb, kb, hbel⟩ := hrel
  clear k2 l2 f2 f1 b2 n1 b1
  by_cases hlt : k < F.length
  ·obtain ⟨x0, x1, x2, x3, x4⟩ := file_cells kb hlt
   have e1 : (0 : Int) ≤ (k : Int) := by omega
   have e2 : (k : Int) < (F.length : Int) := by omega
   have hn : n = k := by
    have := fb.1
    rw [srt_length, List.length_take] at this
    omega
   subst hn
   have HI : Hid (srt (F.take (n + 1)) = TT.ins (fun a b => TT.lt a.path b.path) (F.getD n zf) (srt (F.take n))) := by
    have := srt_step F n hlt
    rwa [show F[n] = F.getD n zf by simp [List.getD, hlt]] at this
   have hSl : (srt (F.take n)).length = n := fb.1.symm
   obtain ⟨S, hS⟩ : ∃ S, srt (F.take n) = S := ⟨_, rfl⟩
   rw [hS] at HI fb hSl
   obtain ⟨f, hf⟩ : ∃ f, F.getD n zf = f := ⟨_, rfl⟩
   rw [hf] at HI x0 x1 x2 x3 x4
   clear x0 x1 x2 x3 x4
   go_wp2
   go_loopg [6] n (fun gj v W => ∃ t : Nat, t + gj = n ∧ v = .int .i64 t ∧ Hid (∀ j (hj : j < S.length), j < t → TT.lt S[j].path f.path = true) ∧ FBuf w.heap.size W g n c S ∧ K0.Blk ga (ffl F) W ∧ Below w.heap.size w W)
   case atStart => exact ⟨0, by omega, rfl, fun j hj h => by omega, fb, kb, hbel⟩
   case round =>
    obtain ⟨t, ht, rfl, H1, fb1, kb1, hbel1⟩ := hrel
    clear fb kb hbel
    obtain ⟨x0, x1, x2, x3, x4⟩ := file_cells kb1 hlt
    rw [hf] at x0 x1 x2 x3 x4
    by_cases htn : t < n
    ·obtain ⟨y0, y1, y2, y3, y4⟩ := file_cells fb1.blk (i := t) (by omega)
     have d1 : (0 : Int) ≤ (t : Int) := by omega
     have d2 : (t : Int) < (n : Int) := by omega
     have d3 : decide ((t : Int) < (n : Int)) = true := by simpa using htn
     obtain ⟨s, hs'⟩ : ∃ s, S.getD t zf = s := ⟨_, rfl⟩
     rw [hs'] at y0 y1 y2 y3 y4
     have hget : ∀ h : t < S.length, S[t] = s := fun h => by rw [← hs']; simp [List.getD, h]
     cases hp : Op.bytesLess s.path.toList f.path.toList with
     | true =>
      have H2 : Hid (∀ j (hj : j < S.length), j < t + 1 → TT.lt S[j].path f.path = true) := fun j hj h => by
       rcases Nat.lt_succ_iff_lt_or_eq.1 h with h | rfl
       ·exact H1.out j hj h
       ·rw [hget hj]; exact hp
      go_wp2
      go_quiet (fail)
      go_wp2
      have bq := K0.below_drewN (Below.refl wr.heap.size wr) nq
      go_roundg (gk - 1)
      case measure => omega
      case rel => exact ⟨t + 1, by omega, by go_num, H2, fb1.below bq, kb1.below bq, hbel1.trans (bq.mono hbel1.size)⟩
     | false =>
      have H2 : Hid (srt (F.take (n + 1)) = S.take t ++ f :: S.drop t) := by
       show srt (F.take (n + 1)) = _
       rw [HI.out]
       exact ins_at _ f S t (by omega) H1.out (fun h => by show TT.lt S[t].path f.path = false; rw [hget h]; exact hp)
      go_wp2
      go_quiet (fail)
      have bq := K0.below_drewN (Below.refl wr.heap.size wr) nq
      have fb2 := fb1.below bq
      have kb2 := kb1.below bq
      have l2 := hbel1.trans (bq.mono hbel1.size)
      clear bq x0 x1 x2 x3 x4 fb1 kb1 hbel1
      generalize wr.drewN nq = W2 at fb2 kb2 l2 ⊢
      have dr := (Below.refl W2.heap.size W2).drew
      have fb3 := fb2.below dr
      have kb3 := kb2.below dr
      have l3 := l2.trans (dr.mono l2.size)
      have HS : Hid (∀ W, K0.Blk ga (ffl F) W → W.cell? ⟨ga, n * 5, none⟩ = some (.int .i64 f.ino) ∧ W.cell? ⟨ga, n * 5 + 1, none⟩ = some (.string f.path) ∧ W.cell? ⟨ga, n * 5 + 2, none⟩ = some (.int .i64 f.kind) ∧ W.cell? ⟨ga, n * 5 + 3, none⟩ = some (.int .i64 f.owner) ∧ W.cell? ⟨ga, n * 5 + 4, none⟩ = some (.string f.data)) := fun W h => by have := file_cells h hlt; rwa [hf] at this
      have s0 := HS.out _ kb3
      have z1 : (0 : Int) ≤ (t : Int) := by omega
      have z2 : (t : Int) ≤ (n : Int) := by omega
      have z3 : (t : Int) ≤ (c : Int) := by have := TX.fits fb2; omega
      have z4 : (n : Int) ≤ (c : Int) := by have := TX.fits fb2; omega
      obtain ⟨og, hog⟩ : ∃ og, og = if c = t then 0 else t * 5 := ⟨_, rfl⟩
      go_wp2
      refine wp_region_held (S := fun W => W.cell? ⟨ga, n * 5, none⟩ = some (.int .i64 f.ino) ∧ W.cell? ⟨ga, n * 5 + 1, none⟩ = some (.string f.path) ∧ W.cell? ⟨ga, n * 5 + 2, none⟩ = some (.int .i64 f.kind) ∧ W.cell? ⟨ga, n * 5 + 3, none⟩ = some (.int .i64 f.owner) ∧ W.cell? ⟨ga, n * 5 + 4, none⟩ = some (.string f.data)) (by kernel_rfl) ?_
      refine wpAnyH_take (i := 1) (v := .slice (some ⟨g, 0, none⟩) n c) rfl (by kernel_rfl) (by kernel_rfl) (by kernel_rfl) (fun _ _ _ h => h) (Or.inl ⟨by rfl, fun w' hS' => by rfl⟩) s0 ?_
      simp only [BZ.z, Act.put, Nat.reduceAdd]
      refine wpAnyH_take (i := 2) (v := .int .i64 (t : Int)) rfl (by kernel_rfl) (by kernel_rfl) (by kernel_rfl) (fun _ _ _ h => h) (Or.inl ⟨by rfl, fun w' hS' => by rfl⟩) s0 ?_
      simp only [BZ.z, Act.put, Nat.reduceAdd]
      refine wpAnyH_take (i := 3) (v := .slice (some ⟨g, 0, none⟩) t c) rfl (by kernel_rfl) (by kernel_rfl) (by kernel_rfl) (fun _ _ _ h => h) (Or.inl ⟨by rfl, fun w' hS' => ?_⟩) s0 ?_
      ·obtain ⟨p0, p1, p2, p3, p4⟩ := hS'
       go_simp
      simp only [BZ.z, Act.put, Nat.reduceAdd]
      refine wpAnyH_take (i := 5) (v := .slice (some ⟨ga, 0, none⟩) F.length ca) rfl (by kernel_rfl) (by kernel_rfl) (by kernel_rfl) (fun _ _ _ h => h) (Or.inl ⟨by rfl, fun w' hS' => by rfl⟩) s0 ?_
      simp only [BZ.z, Act.put, Nat.reduceAdd]
      refine wpAnyH_take (i := 6) (v := .int .i64 (n : Int)) rfl (by kernel_rfl) (by kernel_rfl) (by kernel_rfl) (fun _ _ _ h => h) (Or.inl ⟨by rfl, fun w' hS' => by rfl⟩) s0 ?_
      simp only [BZ.z, Act.put, Nat.reduceAdd]
      refine wpAnyH_take (i := 7) (v := .pointer (some ⟨ga, n * 5, none⟩)) rfl (by kernel_rfl) (by kernel_rfl) (by kernel_rfl) (fun _ _ _ h => h) (Or.inl ⟨by rfl, fun w' hS' => ?_⟩) s0 ?_
      ·obtain ⟨p0, p1, p2, p3, p4⟩ := hS'
       go_simp
      simp only [BZ.z, Act.put, Nat.reduceAdd]
      refine wpAnyH_take (i := 8) (v := .agg #[.int .i64 f.ino, .string f.path, .int .i64 f.kind, .int .i64 f.owner, .string f.data]) rfl (by kernel_rfl) (by kernel_rfl) (by kernel_rfl) (fun _ _ _ h => h) (Or.inl ⟨by rfl, fun w' hS' => ?_⟩) s0 ?_
      ·obtain ⟨p0, p1, p2, p3, p4⟩ := hS'
       go_simp
      simp only [BZ.z, Act.put, Nat.reduceAdd]
      refine wpAnyH_take (i := 11) (v := .slice (some ⟨g, 0, none⟩) n c) rfl (by kernel_rfl) (by kernel_rfl) (by kernel_rfl) (fun _ _ _ h => h) (Or.inl ⟨by rfl, fun w' hS' => by rfl⟩) s0 ?_
      simp only [BZ.z, Act.put, Nat.reduceAdd]
      refine wpAnyH_take (i := 12) (v := .int .i64 (t : Int)) rfl (by kernel_rfl) (by kernel_rfl) (by kernel_rfl) (fun _ _ _ h => h) (Or.inl ⟨by rfl, fun w' hS' => by rfl⟩) s0 ?_
      simp only [BZ.z, Act.put, Nat.reduceAdd]
      refine wpAnyH_take (i := 13) (v := .slice (some ⟨g, og, none⟩) (n - t) (c - t)) rfl (by kernel_rfl) (by kernel_rfl) (by kernel_rfl) (fun _ _ _ h => h) (Or.inl ⟨by rfl, fun w' hS' => ?_⟩) s0 ?_
      ·obtain ⟨p0, p1, p2, p3, p4⟩ := hS'
       (by_cases hct : c = t; (rw [if_pos hct] at hog; subst hog; go_simp <;> intros <;> omega); (rw [if_neg hct] at hog; subst hog; go_simp <;> intros <;> omega))
      simp only [BZ.z, Act.put, Nat.reduceAdd]
      obtain ⟨A, hA⟩ : ∃ A, S.take t = A := ⟨_, rfl⟩
      obtain ⟨D, hD⟩ : ∃ D, S.drop t = D := ⟨_, rfl⟩
      rw [hA, hD] at H2
      have la : A.length = t := by rw [← hA, List.length_take]; omega
      have ld : D.length = n - t := by rw [← hD, List.length_drop]; omega
      have HL : Hid (∀ W, FBuf w.heap.size W g n c S → TX.Lie W g 0 A ∧ TX.Lie W g og D) := fun W h => by
       have h1 := TX.lie_part h.blk 0 t (by omega)
       have h2 := TX.lie_part h.blk t (n - t) (by omega)
       rw [List.drop_zero, hA, Nat.zero_mul] at h1
       rw [hD, List.take_of_length_le (by omega)] at h2
       refine ⟨h1, ?_⟩
       by_cases hct : c = t
       ·have : D = [] := List.length_eq_zero_iff.1 (by have := TX.fits h; omega)
        rw [this]
        intro j u hj
        cases hj
       ·rw [hog, if_neg hct]
        exact h2
      have HK : Hid (∀ W, Below W2.drew.heap.size W2.drew W → FBuf w.heap.size W g n c S ∧ K0.Blk ga (ffl F) W ∧ Below w.heap.size w W) := fun W h => ⟨fb3.below h, kb3.below h, l3.trans (h.mono l3.size)⟩
      have hV : w.heap.size ≤ W2.drew.heap.size := l3.size
      have bE := K0.below_new W2.drew (.cells #[] 38)
      have fE := FI.fbuf_new (base := W2.drew.heap.size) W2.drew (Nat.le_refl _)
      clear dr fb2 kb2 l2
      refine wpAnyH_all (rs := [0, 9]) (by kernel_rfl) (by simp) ?_
      intro i hi
      rcases (show i = 0 ∨ i = 9 by simpa using hi) with rfl | rfl
      ·refine TX.op_plain (u := .slice (some ⟨W2.drew.heap.size, 0, none⟩) 0 0) (w' := W2.drew.alloc (.cells #[] 38)) rfl (by rfl) (by go_simp) ⟨HS.out _ (HK.out _ bE).2.1, ?_⟩
       simp only [BZ.z, Act.put, Nat.reduceAdd]
       refine wpAnyH_all (rs := [4, 9]) (by kernel_rfl) (by simp) ?_
       intro i hi
       rcases (show i = 4 ∨ i = 9 by simpa using hi) with rfl | rfl
       ·refine TX.op_files rfl (by rfl) (.tmp 43) (.tmp 46) rfl fE g 0 c A (by rfl) (by rw [la]; rfl) (HL.out _ (HK.out _ bE).1).1 (by omega) bE.size ?_
        intro g4 c4 w4 f4 h4 r4
        have b4 := bE.trans h4
        refine ⟨HS.out _ (HK.out _ b4).2.1, ?_⟩
        simp only [BZ.z, Act.put, Nat.reduceAdd]
        have n5 := K0.below_new w4 (.cells #[.int .i64 f.ino, .string f.path, .int .i64 f.kind, .int .i64 f.owner, .string f.data] 38)
        have b5 := b4.trans (n5.mono b4.size)
        refine Y0.one_plain (i := 9) (u := .slice (some ⟨w4.heap.size, 0, none⟩) 1 1) (w' := w4.alloc (.cells #[.int .i64 f.ino, .string f.path, .int .i64 f.kind, .int .i64 f.owner, .string f.data] 38)) (by kernel_rfl) rfl (by rfl) (by go_simp) (HS.out _ (HK.out _ b5).2.1) ?_
        simp only [BZ.z, Act.put, Nat.reduceAdd]
        have lf := TX.lie_one w4 f
        have f5 := f4.below n5
        generalize w4.heap.size = bf at lf ⊢
        refine TX.one_files (i := 10) (by kernel_rfl) rfl (by rfl) (.tmp 47) (.tmp 52) rfl f5 bf 0 1 [f] (by rfl) (by rfl) lf (by simp; omega) b5.size ?_
        intro g6 c6 w6 f6 h6 r6
        have b6 := b5.trans h6
        obtain ⟨q6, k6, l6⟩ := HK.out _ b6
        refine ⟨HS.out _ k6, ?_⟩
        simp only [BZ.z, Act.put, Nat.reduceAdd]
        refine TX.one_files (i := 14) (by kernel_rfl) rfl (by rfl) (.tmp 53) (.tmp 56) rfl f6 g og (c - t) D (by rfl) (by rw [ld]; rfl) (HL.out _ q6).2 (by simp; omega) b6.size ?_
        intro g7 c7 w7 f7 h7 r7
        have b7 := b6.trans h7
        obtain ⟨q7, k7, l7⟩ := HK.out _ b7
        refine ⟨HS.out _ k7, ?_⟩
        simp only [BZ.z, Act.put, Nat.reduceAdd]
        have hz : 0 + A.length + [f].length + D.length = n + 1 := by simp; omega
        rw [hz] at f7 ⊢
        refine wpAnyH_take (i := 15) (v := .slice (some ⟨g7, 0, none⟩) (n + 1) c7) rfl (by kernel_rfl) (by kernel_rfl) (by kernel_rfl) (fun _ _ _ h => h) (Or.inl ⟨by rfl, fun w' hS' => by rfl⟩) (HS.out _ k7) ?_
        simp only [BZ.z, Act.put, Nat.reduceAdd]
        refine wpAnyH_done (by kernel_rfl) ?_ _
        have f8 : FBuf w.heap.size w7 g7 (n + 1) c7 (srt (F.take (n + 1))) := by
         rw [H2.out]
         have := fbuf_mono f7 hV
         simpa using this
        clear HK HS HL H1 HI H2
        go_wp2
        go_roundg (F.length - (n + 1))
        case measure => omega
        case rel => exact ⟨n + 1, n + 1, c7, g7, by omega, by go_num, rfl, f8, k7, l7⟩
       ·have n3 := K0.below_new (W2.drew.alloc (.cells #[] 38)) (.cells #[.int .i64 f.ino, .string f.path, .int .i64 f.kind, .int .i64 f.owner, .string f.data] 38)
        have b3 := bE.trans (n3.mono bE.size)
        refine TX.op_plain (u := .slice (some ⟨(W2.drew.alloc (.cells #[] 38)).heap.size, 0, none⟩) 1 1) (w' := (W2.drew.alloc (.cells #[] 38)).alloc (.cells #[.int .i64 f.ino, .string f.path, .int .i64 f.kind, .int .i64 f.owner, .string f.data] 38)) rfl (by rfl) (by go_simp) ⟨HS.out _ (HK.out _ b3).2.1, ?_⟩
        simp only [BZ.z, Act.put, Nat.reduceAdd]
        have f3 := fE.below n3
        have lf := TX.lie_one (W2.drew.alloc (.cells #[] 38)) f
        have hlt3 := n3.size
        have q1 : (W2.drew.alloc (.cells #[] 38)).heap.size < ((W2.drew.alloc (.cells #[] 38)).alloc (.cells #[.int .i64 f.ino, .string f.path, .int .i64 f.kind, .int .i64 f.owner, .string f.data] 38)).heap.size := by simp
        have q2 : (W2.drew.alloc (.cells #[] 38)).heap.size ≠ W2.drew.heap.size := by simp
        refine TX.one_files (i := 4) (by kernel_rfl) rfl (by rfl) (.tmp 43) (.tmp 46) rfl f3 g 0 c A (by rfl) (by rw [la]; rfl) (HL.out _ (HK.out _ b3).1).1 (by omega) b3.size ?_
        intro g4 c4 w4 f4 h4 r4
        have b5 := b3.trans h4
        refine ⟨HS.out _ (HK.out _ b5).2.1, ?_⟩
        simp only [BZ.z, Act.put, Nat.reduceAdd]
        have lf5 := lf.grown q1 r4 q2
        obtain ⟨bf, hbf⟩ : ∃ bf, bf = (W2.drew.alloc (.cells #[] 38)).heap.size := ⟨_, rfl⟩
        rw [← hbf] at lf5 ⊢
        refine TX.one_files (i := 10) (by kernel_rfl) rfl (by rfl) (.tmp 47) (.tmp 52) rfl f4 bf 0 1 [f] (by rfl) (by rfl) lf5 (by simp; omega) b5.size ?_
        intro g6 c6 w6 f6 h6 r6
        have b6 := b5.trans h6
        obtain ⟨q6, k6, l6⟩ := HK.out _ b6
        refine ⟨HS.out _ k6, ?_⟩
        simp only [BZ.z, Act.put, Nat.reduceAdd]
        refine TX.one_files (i := 14) (by kernel_rfl) rfl (by rfl) (.tmp 53) (.tmp 56) rfl f6 g og (c - t) D (by rfl) (by rw [ld]; rfl) (HL.out _ q6).2 (by simp; omega) b6.size ?_
        intro g7 c7 w7 f7 h7 r7
        have b7 := b6.trans h7
        obtain ⟨q7, k7, l7⟩ := HK.out _ b7
        refine ⟨HS.out _ k7, ?_⟩
        simp only [BZ.z, Act.put, Nat.reduceAdd]
        have hz : 0 + A.length + [f].length + D.length = n + 1 := by simp; omega
        rw [hz] at f7 ⊢
        refine wpAnyH_take (i := 15) (v := .slice (some ⟨g7, 0, none⟩) (n + 1) c7) rfl (by kernel_rfl) (by kernel_rfl) (by kernel_rfl) (fun _ _ _ h => h) (Or.inl ⟨by rfl, fun w' hS' => by rfl⟩) (HS.out _ k7) ?_
        simp only [BZ.z, Act.put, Nat.reduceAdd]
        refine wpAnyH_done (by kernel_rfl) ?_ _
        have f8 : FBuf w.heap.size w7 g7 (n + 1) c7 (srt (F.take (n + 1))) := by
         rw [H2.out]
         have := fbuf_mono f7 hV
         simpa using this
        clear HK HS HL H1 HI H2
        go_wp2
        go_roundg (F.length - (n + 1))
        case measure => omega
        case rel => exact ⟨n + 1, n + 1, c7, g7, by omega, by go_num, rfl, f8, k7, l7⟩
      ·have nF := K0.below_new W2.drew (.cells #[.int .i64 f.ino, .string f.path, .int .i64 f.kind, .int .i64 f.owner, .string f.data] 38)
       refine TX.op_plain (u := .slice (some ⟨W2.drew.heap.size, 0, none⟩) 1 1) (w' := W2.drew.alloc (.cells #[.int .i64 f.ino, .string f.path, .int .i64 f.kind, .int .i64 f.owner, .string f.data] 38)) rfl (by rfl) (by go_simp) ⟨HS.out _ (HK.out _ nF).2.1, ?_⟩
       simp only [BZ.z, Act.put, Nat.reduceAdd]
       have n3 := K0.below_new (W2.drew.alloc (.cells #[.int .i64 f.ino, .string f.path, .int .i64 f.kind, .int .i64 f.owner, .string f.data] 38)) (.cells #[] 38)
       have b3 := nF.trans (n3.mono nF.size)
       have f3 := FI.fbuf_new (base := W2.drew.heap.size) (W2.drew.alloc (.cells #[.int .i64 f.ino, .string f.path, .int .i64 f.kind, .int .i64 f.owner, .string f.data] 38)) nF.size
       have lf := (TX.lie_one W2.drew f).below (by simp) n3
       refine Y0.one_plain (i := 0) (u := .slice (some ⟨(W2.drew.alloc (.cells #[.int .i64 f.ino, .string f.path, .int .i64 f.kind, .int .i64 f.owner, .string f.data] 38)).heap.size, 0, none⟩) 0 0) (w' := (W2.drew.alloc (.cells #[.int .i64 f.ino, .string f.path, .int .i64 f.kind, .int .i64 f.owner, .string f.data] 38)).alloc (.cells #[] 38)) (by kernel_rfl) rfl (by rfl) (by go_simp) (HS.out _ (HK.out _ b3).2.1) ?_
       simp only [BZ.z, Act.put, Nat.reduceAdd]
       have q1 : W2.drew.heap.size < ((W2.drew.alloc (.cells #[.int .i64 f.ino, .string f.path, .int .i64 f.kind, .int .i64 f.owner, .string f.data] 38)).alloc (.cells #[] 38)).heap.size := by simp; omega
       have q2 : W2.drew.heap.size ≠ (W2.drew.alloc (.cells #[.int .i64 f.ino, .string f.path, .int .i64 f.kind, .int .i64 f.owner, .string f.data] 38)).heap.size := by simp
       refine TX.one_files (i := 4) (by kernel_rfl) rfl (by rfl) (.tmp 43) (.tmp 46) rfl f3 g 0 c A (by rfl) (by rw [la]; rfl) (HL.out _ (HK.out _ b3).1).1 (by omega) b3.size ?_
       intro g4 c4 w4 f4 h4 r4
       have b5 := b3.trans h4
       refine ⟨HS.out _ (HK.out _ b5).2.1, ?_⟩
       simp only [BZ.z, Act.put, Nat.reduceAdd]
       have lf5 := lf.grown q1 r4 q2
       obtain ⟨bf, hbf⟩ : ∃ bf, bf = W2.drew.heap.size := ⟨_, rfl⟩
       rw [← hbf] at lf5 ⊢
       refine TX.one_files (i := 10) (by kernel_rfl) rfl (by rfl) (.tmp 47) (.tmp 52) rfl f4 bf 0 1 [f] (by rfl) (by rfl) lf5 (by simp; omega) b5.size ?_
       intro g6 c6 w6 f6 h6 r6
       have b6 := b5.trans h6
       obtain ⟨q6, k6, l6⟩ := HK.out _ b6
       refine ⟨HS.out _ k6, ?_⟩
       simp only [BZ.z, Act.put, Nat.reduceAdd]
       refine TX.one_files (i := 14) (by kernel_rfl) rfl (by rfl) (.tmp 53) (.tmp 56) rfl f6 g og (c - t) D (by rfl) (by rw [ld]; rfl) (HL.out _ q6).2 (by simp; omega) b6.size ?_
       intro g7 c7 w7 f7 h7 r7
       have b7 := b6.trans h7
       obtain ⟨q7, k7, l7⟩ := HK.out _ b7
       refine ⟨HS.out _ k7, ?_⟩
       simp only [BZ.z, Act.put, Nat.reduceAdd]
       have hz : 0 + A.length + [f].length + D.length = n + 1 := by simp; omega
       rw [hz] at f7 ⊢
       refine wpAnyH_take (i := 15) (v := .slice (some ⟨g7, 0, none⟩) (n + 1) c7) rfl (by kernel_rfl) (by kernel_rfl) (by kernel_rfl) (fun _ _ _ h => h) (Or.inl ⟨by rfl, fun w' hS' => by rfl⟩) (HS.out _ k7) ?_
       simp only [BZ.z, Act.put, Nat.reduceAdd]
       refine wpAnyH_done (by kernel_rfl) ?_ _
       have f8 : FBuf w.heap.size w7 g7 (n + 1) c7 (srt (F.take (n + 1))) := by
        rw [H2.out]
        have := fbuf_mono f7 hV
        simpa using this
       clear HK HS HL H1 HI H2
       go_wp2
       go_roundg (F.length - (n + 1))
       case measure => omega
       case rel => exact ⟨n + 1, n + 1, c7, g7, by omega, by go_num, rfl, f8, k7, l7⟩
    ·have H2 : Hid (srt (F.take (n + 1)) = S.take t ++ f :: S.drop t) := by
      show srt (F.take (n + 1)) = _
      rw [HI.out]
      exact ins_at _ f S t (by omega) H1.out (fun h => by omega)
     have d3 : decide ((t : Int) < (n : Int)) = false := by simpa using htn
     go_wp2
     go_quiet (fail)
     have bq := K0.below_drewN (Below.refl wr.heap.size wr) nq
     have fb2 := fb1.below bq
     have kb2 := kb1.below bq
     have l2 := hbel1.trans (bq.mono hbel1.size)
     clear bq x0 x1 x2 x3 x4 fb1 kb1 hbel1
     generalize wr.drewN nq = W2 at fb2 kb2 l2 ⊢
     have dr := (Below.refl W2.heap.size W2).drew
     have fb3 := fb2.below dr
     have kb3 := kb2.below dr
     have l3 := l2.trans (dr.mono l2.size)
     have HS : Hid (∀ W, K0.Blk ga (ffl F) W → W.cell? ⟨ga, n * 5, none⟩ = some (.int .i64 f.ino) ∧ W.cell? ⟨ga, n * 5 + 1, none⟩ = some (.string f.path) ∧ W.cell? ⟨ga, n * 5 + 2, none⟩ = some (.int .i64 f.kind) ∧ W.cell? ⟨ga, n * 5 + 3, none⟩ = some (.int .i64 f.owner) ∧ W.cell? ⟨ga, n * 5 + 4, none⟩ = some (.string f.data)) := fun W h => by have := file_cells h hlt; rwa [hf] at this
     have s0 := HS.out _ kb3
     have z1 : (0 : Int) ≤ (t : Int) := by omega
     have z2 : (t : Int) ≤ (n : Int) := by omega
     have z3 : (t : Int) ≤ (c : Int) := by have := TX.fits fb2; omega
     have z4 : (n : Int) ≤ (c : Int) := by have := TX.fits fb2; omega
     obtain ⟨og, hog⟩ : ∃ og, og = if c = t then 0 else t * 5 := ⟨_, rfl⟩
     go_wp2
     refine wp_region_held (S := fun W => W.cell? ⟨ga, n * 5, none⟩ = some (.int .i64 f.ino) ∧ W.cell? ⟨ga, n * 5 + 1, none⟩ = some (.string f.path) ∧ W.cell? ⟨ga, n * 5 + 2, none⟩ = some (.int .i64 f.kind) ∧ W.cell? ⟨ga, n * 5 + 3, none⟩ = some (.int .i64 f.owner) ∧ W.cell? ⟨ga, n * 5 + 4, none⟩ = some (.string f.data)) (by kernel_rfl) ?_
     refine wpAnyH_take (i := 1) (v := .slice (some ⟨g, 0, none⟩) n c) rfl (by kernel_rfl) (by kernel_rfl) (by kernel_rfl) (fun _ _ _ h => h) (Or.inl ⟨by rfl, fun w' hS' => by rfl⟩) s0 ?_
     simp only [BZ.z, Act.put, Nat.reduceAdd]
     refine wpAnyH_take (i := 2) (v := .int .i64 (t : Int)) rfl (by kernel_rfl) (by kernel_rfl) (by kernel_rfl) (fun _ _ _ h => h) (Or.inl ⟨by rfl, fun w' hS' => by rfl⟩) s0 ?_
     simp only [BZ.z, Act.put, Nat.reduceAdd]
     refine wpAnyH_take (i := 3) (v := .slice (some ⟨g, 0, none⟩) t c) rfl (by kernel_rfl) (by kernel_rfl) (by kernel_rfl) (fun _ _ _ h => h) (Or.inl ⟨by rfl, fun w' hS' => ?_⟩) s0 ?_
     ·obtain ⟨p0, p1, p2, p3, p4⟩ := hS'
      go_simp
     simp only [BZ.z, Act.put, Nat.reduceAdd]
     refine wpAnyH_take (i := 5) (v := .slice (some ⟨ga, 0, none⟩) F.length ca) rfl (by kernel_rfl) (by kernel_rfl) (by kernel_rfl) (fun _ _ _ h => h) (Or.inl ⟨by rfl, fun w' hS' => by rfl⟩) s0 ?_
     simp only [BZ.z, Act.put, Nat.reduceAdd]
     refine wpAnyH_take (i := 6) (v := .int .i64 (n : Int)) rfl (by kernel_rfl) (by kernel_rfl) (by kernel_rfl) (fun _ _ _ h => h) (Or.inl ⟨by rfl, fun w' hS' => by rfl⟩) s0 ?_
     simp only [BZ.z, Act.put, Nat.reduceAdd]
     refine wpAnyH_take (i := 7) (v := .pointer (some ⟨ga, n * 5, none⟩)) rfl (by kernel_rfl) (by kernel_rfl) (by kernel_rfl) (fun _ _ _ h => h) (Or.inl ⟨by rfl, fun w' hS' => ?_⟩) s0 ?_
     ·obtain ⟨p0, p1, p2, p3, p4⟩ := hS'
      go_simp
     simp only [BZ.z, Act.put, Nat.reduceAdd]
     refine wpAnyH_take (i := 8) (v := .agg #[.int .i64 f.ino, .string f.path, .int .i64 f.kind, .int .i64 f.owner, .string f.data]) rfl (by kernel_rfl) (by kernel_rfl) (by kernel_rfl) (fun _ _ _ h => h) (Or.inl ⟨by rfl, fun w' hS' => ?_⟩) s0 ?_
     ·obtain ⟨p0, p1, p2, p3, p4⟩ := hS'
      go_simp
     simp only [BZ.z, Act.put, Nat.reduceAdd]
     refine wpAnyH_take (i := 11) (v := .slice (some ⟨g, 0, none⟩) n c) rfl (by kernel_rfl) (by kernel_rfl) (by kernel_rfl) (fun _ _ _ h => h) (Or.inl ⟨by rfl, fun w' hS' => by rfl⟩) s0 ?_
     simp only [BZ.z, Act.put, Nat.reduceAdd]
     refine wpAnyH_take (i := 12) (v := .int .i64 (t : Int)) rfl (by kernel_rfl) (by kernel_rfl) (by kernel_rfl) (fun _ _ _ h => h) (Or.inl ⟨by rfl, fun w' hS' => by rfl⟩) s0 ?_
     simp only [BZ.z, Act.put, Nat.reduceAdd]
     refine wpAnyH_take (i := 13) (v := .slice (some ⟨g, og, none⟩) (n - t) (c - t)) rfl (by kernel_rfl) (by kernel_rfl) (by kernel_rfl) (fun _ _ _ h => h) (Or.inl ⟨by rfl, fun w' hS' => ?_⟩) s0 ?_
     ·obtain ⟨p0, p1, p2, p3, p4⟩ := hS'
      (by_cases hct : c = t; (rw [if_pos hct] at hog; subst hog; go_simp <;> intros <;> omega); (rw [if_neg hct] at hog; subst hog; go_simp <;> intros <;> omega))
     simp only [BZ.z, Act.put, Nat.reduceAdd]
     obtain ⟨A, hA⟩ : ∃ A, S.take t = A := ⟨_, rfl⟩
     obtain ⟨D, hD⟩ : ∃ D, S.drop t = D := ⟨_, rfl⟩
     rw [hA, hD] at H2
     have la : A.length = t := by rw [← hA, List.length_take]; omega
     have ld : D.length = n - t := by rw [← hD, List.length_drop]; omega
     have HL : Hid (∀ W, FBuf w.heap.size W g n c S → TX.Lie W g 0 A ∧ TX.Lie W g og D) := fun W h => by
      have h1 := TX.lie_part h.blk 0 t (by omega)
      have h2 := TX.lie_part h.blk t (n - t) (by omega)
      rw [List.drop_zero, hA, Nat.zero_mul] at h1
      rw [hD, List.take_of_length_le (by omega)] at h2
      refine ⟨h1, ?_⟩
      by_cases hct : c = t
      ·have : D = [] := List.length_eq_zero_iff.1 (by have := TX.fits h; omega)
       rw [this]
       intro j u hj
       cases hj
      ·rw [hog, if_neg hct]
       exact h2
     have HK : Hid (∀ W, Below W2.drew.heap.size W2.drew W → FBuf w.heap.size W g n c S ∧ K0.Blk ga (ffl F) W ∧ Below w.heap.size w W) := fun W h => ⟨fb3.below h, kb3.below h, l3.trans (h.mono l3.size)⟩
     have hV : w.heap.size ≤ W2.drew.heap.size := l3.size
     have bE := K0.below_new W2.drew (.cells #[] 38)
     have fE := FI.fbuf_new (base := W2.drew.heap.size) W2.drew (Nat.le_refl _)
     clear dr fb2 kb2 l2
     refine wpAnyH_all (rs := [0, 9]) (by kernel_rfl) (by simp) ?_
     intro i hi
     rcases (show i = 0 ∨ i = 9 by simpa using hi) with rfl | rfl
     ·refine TX.op_plain (u := .slice (some ⟨W2.drew.heap.size, 0, none⟩) 0 0) (w' := W2.drew.alloc (.cells #[] 38)) rfl (by rfl) (by go_simp) ⟨HS.out _ (HK.out _ bE).2.1, ?_⟩
      simp only [BZ.z, Act.put, Nat.reduceAdd]
      refine wpAnyH_all (rs := [4, 9]) (by kernel_rfl) (by simp) ?_
      intro i hi
      rcases (show i = 4 ∨ i = 9 by simpa using hi) with rfl | rfl
      ·refine TX.op_files rfl (by rfl) (.tmp 43) (.tmp 46) rfl fE g 0 c A (by rfl) (by rw [la]; rfl) (HL.out _ (HK.out _ bE).1).1 (by omega) bE.size ?_
       intro g4 c4 w4 f4 h4 r4
       have b4 := bE.trans h4
       refine ⟨HS.out _ (HK.out _ b4).2.1, ?_⟩
       simp only [BZ.z, Act.put, Nat.reduceAdd]
       have n5 := K0.below_new w4 (.cells #[.int .i64 f.ino, .string f.path, .int .i64 f.kind, .int .i64 f.owner, .string f.data] 38)
       have b5 := b4.trans (n5.mono b4.size)
       refine Y0.one_plain (i := 9) (u := .slice (some ⟨w4.heap.size, 0, none⟩) 1 1) (w' := w4.alloc (.cells #[.int .i64 f.ino, .string f.path, .int .i64 f.kind, .int .i64 f.owner, .string f.data] 38)) (by kernel_rfl) rfl (by rfl) (by go_simp) (HS.out _ (HK.out _ b5).2.1) ?_
       simp only [BZ.z, Act.put, Nat.reduceAdd]
       have lf := TX.lie_one w4 f
       have f5 := f4.below n5
       generalize w4.heap.size = bf at lf ⊢
       refine TX.one_files (i := 10) (by kernel_rfl) rfl (by rfl) (.tmp 47) (.tmp 52) rfl f5 bf 0 1 [f] (by rfl) (by rfl) lf (by simp; omega) b5.size ?_
       intro g6 c6 w6 f6 h6 r6
       have b6 := b5.trans h6
       obtain ⟨q6, k6, l6⟩ := HK.out _ b6
       refine ⟨HS.out _ k6, ?_⟩
       simp only [BZ.z, Act.put, Nat.reduceAdd]
       refine TX.one_files (i := 14) (by kernel_rfl) rfl (by rfl) (.tmp 53) (.tmp 56) rfl f6 g og (c - t) D (by rfl) (by rw [ld]; rfl) (HL.out _ q6).2 (by simp; omega) b6.size ?_
       intro g7 c7 w7 f7 h7 r7
       have b7 := b6.trans h7
       obtain ⟨q7, k7, l7⟩ := HK.out _ b7
       refine ⟨HS.out _ k7, ?_⟩
       simp only [BZ.z, Act.put, Nat.reduceAdd]
       have hz : 0 + A.length + [f].length + D.length = n + 1 := by simp; omega
       rw [hz] at f7 ⊢
       refine wpAnyH_take (i := 15) (v := .slice (some ⟨g7, 0, none⟩) (n + 1) c7) rfl (by kernel_rfl) (by kernel_rfl) (by kernel_rfl) (fun _ _ _ h => h) (Or.inl ⟨by rfl, fun w' hS' => by rfl⟩) (HS.out _ k7) ?_
       simp only [BZ.z, Act.put, Nat.reduceAdd]
       refine wpAnyH_done (by kernel_rfl) ?_ _
       have f8 : FBuf w.heap.size w7 g7 (n + 1) c7 (srt (F.take (n + 1))) := by
        rw [H2.out]
        have := fbuf_mono f7 hV
        simpa using this
       clear HK HS HL H1 HI H2
       go_wp2
       go_roundg (F.length - (n + 1))
       case measure => omega
       case rel => exact ⟨n + 1, n + 1, c7, g7, by omega, by go_num, rfl, f8, k7, l7⟩
      ·have n3 := K0.below_new (W2.drew.alloc (.cells #[] 38)) (.cells #[.int .i64 f.ino, .string f.path, .int .i64 f.kind, .int .i64 f.owner, .string f.data] 38)
       have b3 := bE.trans (n3.mono bE.size)
       refine TX.op_plain (u := .slice (some ⟨(W2.drew.alloc (.cells #[] 38)).heap.size, 0, none⟩) 1 1) (w' := (W2.drew.alloc (.cells #[] 38)).alloc (.cells #[.int .i64 f.ino, .string f.path, .int .i64 f.kind, .int .i64 f.owner, .string f.data] 38)) rfl (by rfl) (by go_simp) ⟨HS.out _ (HK.out _ b3).2.1, ?_⟩
       simp only [BZ.z, Act.put, Nat.reduceAdd]
       have f3 := fE.below n3
       have lf := TX.lie_one (W2.drew.alloc (.cells #[] 38)) f
       have hlt3 := n3.size
       have q1 : (W2.drew.alloc (.cells #[] 38)).heap.size < ((W2.drew.alloc (.cells #[] 38)).alloc (.cells #[.int .i64 f.ino, .string f.path, .int .i64 f.kind, .int .i64 f.owner, .string f.data] 38)).heap.size := by simp
       have q2 : (W2.drew.alloc (.cells #[] 38)).heap.size ≠ W2.drew.heap.size := by simp
       refine TX.one_files (i := 4) (by kernel_rfl) rfl (by rfl) (.tmp 43) (.tmp 46) rfl f3 g 0 c A (by rfl) (by rw [la]; rfl) (HL.out _ (HK.out _ b3).1).1 (by omega) b3.size ?_
       intro g4 c4 w4 f4 h4 r4
       have b5 := b3.trans h4
       refine ⟨HS.out _ (HK.out _ b5).2.1, ?_⟩
       simp only [BZ.z, Act.put, Nat.reduceAdd]
       have lf5 := lf.grown q1 r4 q2
       obtain ⟨bf, hbf⟩ : ∃ bf, bf = (W2.drew.alloc (.cells #[] 38)).heap.size := ⟨_, rfl⟩
       rw [← hbf] at lf5 ⊢
       refine TX.one_files (i := 10) (by kernel_rfl) rfl (by rfl) (.tmp 47) (.tmp 52) rfl f4 bf 0 1 [f] (by rfl) (by rfl) lf5 (by simp; omega) b5.size ?_
       intro g6 c6 w6 f6 h6 r6
       have b6 := b5.trans h6
       obtain ⟨q6, k6, l6⟩ := HK.out _ b6
       refine ⟨HS.out _ k6, ?_⟩
       simp only [BZ.z, Act.put, Nat.reduceAdd]
       refine TX.one_files (i := 14) (by kernel_rfl) rfl (by rfl) (.tmp 53) (.tmp 56) rfl f6 g og (c - t) D (by rfl) (by rw [ld]; rfl) (HL.out _ q6).2 (by simp; omega) b6.size ?_
       intro g7 c7 w7 f7 h7 r7
       have b7 := b6.trans h7
       obtain ⟨q7, k7, l7⟩ := HK.out _ b7
       refine ⟨HS.out _ k7, ?_⟩
       simp only [BZ.z, Act.put, Nat.reduceAdd]
       have hz : 0 + A.length + [f].length + D.length = n + 1 := by simp; omega
       rw [hz] at f7 ⊢
       refine wpAnyH_take (i := 15) (v := .slice (some ⟨g7, 0, none⟩) (n + 1) c7) rfl (by kernel_rfl) (by kernel_rfl) (by kernel_rfl) (fun _ _ _ h => h) (Or.inl ⟨by rfl, fun w' hS' => by rfl⟩) (HS.out _ k7) ?_
       simp only [BZ.z, Act.put, Nat.reduceAdd]
       refine wpAnyH_done (by kernel_rfl) ?_ _
       have f8 : FBuf w.heap.size w7 g7 (n + 1) c7 (srt (F.take (n + 1))) := by
        rw [H2.out]
        have := fbuf_mono f7 hV
        simpa using this
       clear HK HS HL H1 HI H2
       go_wp2
       go_roundg (F.length - (n + 1))
       case measure => omega
       case rel => exact ⟨n + 1, n + 1, c7, g7, by omega, by go_num, rfl, f8, k7, l7⟩
     ·have nF := K0.below_new W2.drew (.cells #[.int .i64 f.ino, .string f.path, .int .i64 f.kind, .int .i64 f.owner, .string f.data] 38)
      refine TX.op_plain (u := .slice (some ⟨W2.drew.heap.size, 0, none⟩) 1 1) (w' := W2.drew.alloc (.cells #[.int .i64 f.ino, .string f.path, .int .i64 f.kind, .int .i64 f.owner, .string f.data] 38)) rfl (by rfl) (by go_simp) ⟨HS.out _ (HK.out _ nF).2.1, ?_⟩
      simp only [BZ.z, Act.put, Nat.reduceAdd]
      have n3 := K0.below_new (W2.drew.alloc (.cells #[.int .i64 f.ino, .string f.path, .int .i64 f.kind, .int .i64 f.owner, .string f.data] 38)) (.cells #[] 38)
      have b3 := nF.trans (n3.mono nF.size)
      have f3 := FI.fbuf_new (base := W2.drew.heap.size) (W2.drew.alloc (.cells #[.int .i64 f.ino, .string f.path, .int .i64 f.kind, .int .i64 f.owner, .string f.data] 38)) nF.size
      have lf := (TX.lie_one W2.drew f).below (by simp) n3
      refine Y0.one_plain (i := 0) (u := .slice (some ⟨(W2.drew.alloc (.cells #[.int .i64 f.ino, .string f.path, .int .i64 f.kind, .int .i64 f.owner, .string f.data] 38)).heap.size, 0, none⟩) 0 0) (w' := (W2.drew.alloc (.cells #[.int .i64 f.ino, .string f.path, .int .i64 f.kind, .int .i64 f.owner, .string f.data] 38)).alloc (.cells #[] 38)) (by kernel_rfl) rfl (by rfl) (by go_simp) (HS.out _ (HK.out _ b3).2.1) ?_
      simp only [BZ.z, Act.put, Nat.reduceAdd]
      have q1 : W2.drew.heap.size < ((W2.drew.alloc (.cells #[.int .i64 f.ino, .string f.path, .int .i64 f.kind, .int .i64 f.owner, .string f.data] 38)).alloc (.cells #[] 38)).heap.size := by simp; omega
      have q2 : W2.drew.heap.size ≠ (W2.drew.alloc (.cells #[.int .i64 f.ino, .string f.path, .int .i64 f.kind, .int .i64 f.owner, .string f.data] 38)).heap.size := by simp
      refine TX.one_files (i := 4) (by kernel_rfl) rfl (by rfl) (.tmp 43) (.tmp 46) rfl f3 g 0 c A (by rfl) (by rw [la]; rfl) (HL.out _ (HK.out _ b3).1).1 (by omega) b3.size ?_
      intro g4 c4 w4 f4 h4 r4
      have b5 := b3.trans h4
      refine ⟨HS.out _ (HK.out _ b5).2.1, ?_⟩
      simp only [BZ.z, Act.put, Nat.reduceAdd]
      have lf5 := lf.grown q1 r4 q2
      obtain ⟨bf, hbf⟩ : ∃ bf, bf = W2.drew.heap.size := ⟨_, rfl⟩
      rw [← hbf] at lf5 ⊢
      refine TX.one_files (i := 10) (by kernel_rfl) rfl (by rfl) (.tmp 47) (.tmp 52) rfl f4 bf 0 1 [f] (by rfl) (by rfl) lf5 (by simp; omega) b5.size ?_
      intro g6 c6 w6 f6 h6 r6
      have b6 := b5.trans h6
      obtain ⟨q6, k6, l6⟩ := HK.out _ b6
      refine ⟨HS.out _ k6, ?_⟩
      simp only [BZ.z, Act.put, Nat.reduceAdd]
      refine TX.one_files (i := 14) (by kernel_rfl) rfl (by rfl) (.tmp 53) (.tmp 56) rfl f6 g og (c - t) D (by rfl) (by rw [ld]; rfl) (HL.out _ q6).2 (by simp; omega) b6.size ?_
      intro g7 c7 w7 f7 h7 r7
      have b7 := b6.trans h7
      obtain ⟨q7, k7, l7⟩ := HK.out _ b7
      refine ⟨HS.out _ k7, ?_⟩
      simp only [BZ.z, Act.put, Nat.reduceAdd]
      have hz : 0 + A.length + [f].length + D.length = n + 1 := by simp; omega
      rw [hz] at f7 ⊢
      refine wpAnyH_take (i := 15) (v := .slice (some ⟨g7, 0, none⟩) (n + 1) c7) rfl (by kernel_rfl) (by kernel_rfl) (by kernel_rfl) (fun _ _ _ h => h) (Or.inl ⟨by rfl, fun w' hS' => by rfl⟩) (HS.out _ k7) ?_
      simp only [BZ.z, Act.put, Nat.reduceAdd]
      refine wpAnyH_done (by kernel_rfl) ?_ _
      have f8 : FBuf w.heap.size w7 g7 (n + 1) c7 (srt (F.take (n + 1))) := by
       rw [H2.out]
       have := fbuf_mono f7 hV
       simpa using this
      clear HK HS HL H1 HI H2
      go_wp2
      go_roundg (F.length - (n + 1))
      case measure => omega
      case rel => exact ⟨n + 1, n + 1, c7, g7, by omega, by go_num, rfl, f8, k7, l7⟩
  ·have hkF : k = F.length := by omega
   have hn : n = F.length := by
    have := fb.1
    rw [srt_length, List.length_take] at this
    omega
   rw [hkF, List.take_length] at fb
   obtain ⟨S, hS⟩ : ∃ S, srt F = S := ⟨_, rfl⟩
   rw [hS] at fb HT HM HC0
   have kbS := fb.blk
   have hSl : S.length = n := fb.1.symm
   have e2 : ¬ ((k : Int) < (F.length : Int)) := by omega
   clear fb kb
   go_wp2
   go_loopg [7, 8] n (fun gk v i W => ∃ j : Nat, j + gk = n ∧ i = .int .i64 j ∧ v = .string (cat ⟨#[]⟩ (S.take j)) ∧ K0.Blk g (ffl S) W ∧ Below w.heap.size w W)
   case atStart => exact ⟨0, by omega, rfl, rfl, kbS, hbel⟩
   case round =>
    obtain ⟨j, hj, rfl, rfl, kb4, l4⟩ := hrel
    clear kbS hbel
    by_cases hjn : j < n
    ·obtain ⟨x0, x1, x2, x3, x4⟩ := file_cells kb4 (i := j) (by omega)
     have d1 : (0 : Int) ≤ (j : Int) := by omega
     have d2 : (j : Int) < (n : Int) := by omega
     have hst := cat_step S j (by omega) ⟨#[]⟩
     have hmem := HM.out S[j] (List.getElem_mem (by omega))
     rw [show S[j] = S.getD j zf by simp [List.getD, show j < S.length by omega]] at hst hmem
     obtain ⟨s, hs'⟩ : ∃ s, S.getD j zf = s := ⟨_, rfl⟩
     rw [hs'] at x0 x1 x2 x3 x4 hst hmem
     obtain ⟨m1, m2, m3, m4, m5⟩ := hmem
     have hcs : (cat ⟨#[]⟩ (S.take j)).size ≤ 100000 := HC0.out j
     obtain ⟨o, ho⟩ : ∃ o, cat ⟨#[]⟩ (S.take j) = o := ⟨_, rfl⟩
     rw [ho] at hst hcs ⊢
     have HD : Hid (∀ W, Calls Tryz.prog 48 #[.int .i64 s.owner] W fun e w' => e = .returned (.string (TU.dt s.owner)) ∧ w' = W) := fun W => D1.spec_DecText _ m3 W
     have HX : Hid (∀ W, Calls Tryz.prog 47 #[.string s.data] W fun e w' => e = .returned (.string (H1.hex s.data)) ∧ ∃ q, w' = W.drewN q) := fun W => H1.spec_Hex _ W (by omega)
     have nl := K0.below_new wr (.cells #[.int .i64 s.ino, .string s.path, .int .i64 s.kind, .int .i64 s.owner, .string s.data] 38)
     have nb := K0.blk_new [.int .i64 s.ino, .string s.path, .int .i64 s.kind, .int .i64 s.owner, .string s.data] wr 38
     have kb5 := kb4.below nl
     have l5 := l4.trans (nl.mono l4.size)
     have z1 := nb.c1
     have z2 := nb.c2
     have z3 := nb.c3
     have z4 := TU.c4 nb
     have HN : Hid (∀ kd dx : ByteArray, kd = TU.letter s.kind ++ ⟨#[32]⟩ → dx = TU.hx s.data → ((((((o ++ kd) ++ s.path) ++ ⟨#[32]⟩) ++ TU.dt s.owner) ++ ⟨#[32]⟩) ++ dx) ++ ⟨#[10]⟩ = cat ⟨#[]⟩ (S.take (j + 1))) := fun kd dx h1 h2 => by rw [h1, h2, TV.line_eq]; exact hst.symm
     clear hst nb nl kb4 l4
     by_cases hd : s.data.size = 0
     ·have e0 : H1.hex s.data = ⟨#[]⟩ := by
       have : s.data = ⟨#[]⟩ := FI.empty_of hd
       rw [this]
       rfl
      rw [e0] at HX
      have HZ : Hid (s.data.size = 0) := hd
      clear e0 hd
      by_cases hk : s.kind = 2
      ·have hk2 : (s.kind == 2) = true := by simpa using hk
       have HK : Hid (s.kind = 2) := hk
       clear hk
       go_wp2_with (go_at_call 47; refine (HX.out _).mono ?_; rintro e w3 ⟨rfl, q, rfl⟩; have bq := K0.below_drewN (Below.refl (wr.alloc (.cells #[.int .i64 s.ino, .string s.path, .int .i64 s.kind, .int .i64 s.owner, .string s.data] 38)).heap.size (wr.alloc (.cells #[.int .i64 s.ino, .string s.path, .int .i64 s.kind, .int .i64 s.owner, .string s.data] 38))) q; have kb6 := (kb5.below bq).drew; have l6 := (l5.trans (bq.mono l5.size)).drew; have y2 : ((wr.alloc (.cells #[.int .i64 s.ino, .string s.path, .int .i64 s.kind, .int .i64 s.owner, .string s.data] 38)).drewN q).cell? ⟨wr.heap.size, 2, none⟩ = some (.int .i64 s.kind) := z2; have s0 : ((wr.alloc (.cells #[.int .i64 s.ino, .string s.path, .int .i64 s.kind, .int .i64 s.owner, .string s.data] 38)).drewN q).drew.cell? ⟨wr.heap.size, 1, none⟩ = some (.string s.path) ∧ ((wr.alloc (.cells #[.int .i64 s.ino, .string s.path, .int .i64 s.kind, .int .i64 s.owner, .string s.data] 38)).drewN q).drew.cell? ⟨wr.heap.size, 3, none⟩ = some (.int .i64 s.owner) := ⟨z1, z3⟩; clear bq)
       refine wp_region_held (S := fun W => W.cell? ⟨wr.heap.size, 1, none⟩ = some (.string s.path) ∧ W.cell? ⟨wr.heap.size, 3, none⟩ = some (.int .i64 s.owner)) (by kernel_rfl) ?_
       refine wpAnyH_take (i := 0) (v := .string o) rfl (by kernel_rfl) (by kernel_rfl) (by kernel_rfl) (fun _ _ _ h => h) (Or.inl ⟨by rfl, fun w' hS' => by rfl⟩) s0 ?_
       simp only [BZ.z, Act.put, Nat.reduceAdd]
       refine wpAnyH_take (i := 1) (v := .string ⟨#[100, 32]⟩) rfl (by kernel_rfl) (by kernel_rfl) (by kernel_rfl) (fun _ _ _ h => h) (Or.inl ⟨by rfl, fun w' hS' => by rfl⟩) s0 ?_
       simp only [BZ.z, Act.put, Nat.reduceAdd]
       refine wpAnyH_take (i := 2) (v := .string (o ++ ⟨#[100, 32]⟩)) rfl (by kernel_rfl) (by kernel_rfl) (by kernel_rfl) (fun _ _ _ h => h) (Or.inl ⟨by rfl, fun w' hS' => ?_⟩) s0 ?_
       ·(refine TU.cat_yield ?_; simp only [ByteArray.size_append, sz_lit, List.size_toArray, List.length_cons, List.length_nil]; omega)
       simp only [BZ.z, Act.put, Nat.reduceAdd]
       refine wpAnyH_take (i := 3) (v := .pointer (some ⟨wr.heap.size, 1, none⟩)) rfl (by kernel_rfl) (by kernel_rfl) (by kernel_rfl) (fun _ _ _ h => h) (Or.inl ⟨by rfl, fun w' hS' => by rfl⟩) s0 ?_
       simp only [BZ.z, Act.put, Nat.reduceAdd]
       refine wpAnyH_take (i := 4) (v := .string s.path) rfl (by kernel_rfl) (by kernel_rfl) (by kernel_rfl) (fun _ _ _ h => h) (Or.inl ⟨by rfl, fun w' hS' => ?_⟩) s0 ?_
       ·obtain ⟨p1, p3⟩ := hS'
        go_simp
       simp only [BZ.z, Act.put, Nat.reduceAdd]
       refine wpAnyH_take (i := 5) (v := .string ((o ++ ⟨#[100, 32]⟩) ++ s.path)) rfl (by kernel_rfl) (by kernel_rfl) (by kernel_rfl) (fun _ _ _ h => h) (Or.inl ⟨by rfl, fun w' hS' => ?_⟩) s0 ?_
       ·(refine TU.cat_yield ?_; simp only [ByteArray.size_append, sz_lit, List.size_toArray, List.length_cons, List.length_nil]; omega)
       simp only [BZ.z, Act.put, Nat.reduceAdd]
       refine wpAnyH_take (i := 6) (v := .string (((o ++ ⟨#[100, 32]⟩) ++ s.path) ++ ⟨#[32]⟩)) rfl (by kernel_rfl) (by kernel_rfl) (by kernel_rfl) (fun _ _ _ h => h) (Or.inl ⟨by rfl, fun w' hS' => ?_⟩) s0 ?_
       ·(refine TU.cat_yield ?_; simp only [ByteArray.size_append, sz_lit, List.size_toArray, List.length_cons, List.length_nil]; omega)
       simp only [BZ.z, Act.put, Nat.reduceAdd]
       refine wpAnyH_take (i := 7) (v := .pointer (some ⟨wr.heap.size, 3, none⟩)) rfl (by kernel_rfl) (by kernel_rfl) (by kernel_rfl) (fun _ _ _ h => h) (Or.inl ⟨by rfl, fun w' hS' => by rfl⟩) s0 ?_
       simp only [BZ.z, Act.put, Nat.reduceAdd]
       refine wpAnyH_take (i := 8) (v := .int .i64 s.owner) rfl (by kernel_rfl) (by kernel_rfl) (by kernel_rfl) (fun _ _ _ h => h) (Or.inl ⟨by rfl, fun w' hS' => ?_⟩) s0 ?_
       ·obtain ⟨p1, p3⟩ := hS'
        go_simp
       simp only [BZ.z, Act.put, Nat.reduceAdd]
       refine wpAnyH_take (i := 12) (v := .string ⟨#[45]⟩) rfl (by kernel_rfl) (by kernel_rfl) (by kernel_rfl) (fun _ _ _ h => h) (Or.inl ⟨by rfl, fun w' hS' => by rfl⟩) s0 ?_
       simp only [BZ.z, Act.put, Nat.reduceAdd]
       refine Y0.one_callw (i := 9) (by kernel_rfl) rfl (by rfl) (.tmp 84) _ rfl (.int .i64 s.owner) (by rfl) (enters_of Tryz.func48 (by kernel_rfl) rfl) ((HD.out _).mono ?_)
       rintro e w4 ⟨rfl, hw4⟩
       subst w4
       refine ⟨_, rfl, s0, ?_⟩
       simp only [BZ.z, Act.put, Nat.reduceAdd]
       refine wpAnyH_take (i := 10) (v := .string ((((o ++ ⟨#[100, 32]⟩) ++ s.path) ++ ⟨#[32]⟩) ++ TU.dt s.owner)) rfl (by kernel_rfl) (by kernel_rfl) (by kernel_rfl) (fun _ _ _ h => h) (Or.inl ⟨by rfl, fun w' hS' => ?_⟩) s0 ?_
       ·(refine TU.cat_yield ?_; simp only [ByteArray.size_append, sz_lit, List.size_toArray, List.length_cons, List.length_nil]; omega)
       simp only [BZ.z, Act.put, Nat.reduceAdd]
       refine wpAnyH_take (i := 11) (v := .string (((((o ++ ⟨#[100, 32]⟩) ++ s.path) ++ ⟨#[32]⟩) ++ TU.dt s.owner) ++ ⟨#[32]⟩)) rfl (by kernel_rfl) (by kernel_rfl) (by kernel_rfl) (fun _ _ _ h => h) (Or.inl ⟨by rfl, fun w' hS' => ?_⟩) s0 ?_
       ·(refine TU.cat_yield ?_; simp only [ByteArray.size_append, sz_lit, List.size_toArray, List.length_cons, List.length_nil]; omega)
       simp only [BZ.z, Act.put, Nat.reduceAdd]
       refine wpAnyH_take (i := 13) (v := .string ((((((o ++ ⟨#[100, 32]⟩) ++ s.path) ++ ⟨#[32]⟩) ++ TU.dt s.owner) ++ ⟨#[32]⟩) ++ ⟨#[45]⟩)) rfl (by kernel_rfl) (by kernel_rfl) (by kernel_rfl) (fun _ _ _ h => h) (Or.inl ⟨by rfl, fun w' hS' => ?_⟩) s0 ?_
       ·(refine TU.cat_yield ?_; simp only [ByteArray.size_append, sz_lit, List.size_toArray, List.length_cons, List.length_nil]; omega)
       simp only [BZ.z, Act.put, Nat.reduceAdd]
       refine wpAnyH_take (i := 14) (v := .string (((((((o ++ ⟨#[100, 32]⟩) ++ s.path) ++ ⟨#[32]⟩) ++ TU.dt s.owner) ++ ⟨#[32]⟩) ++ ⟨#[45]⟩) ++ ⟨#[10]⟩)) rfl (by kernel_rfl) (by kernel_rfl) (by kernel_rfl) (fun _ _ _ h => h) (Or.inl ⟨by rfl, fun w' hS' => ?_⟩) s0 ?_
       ·(refine TU.cat_yield ?_; simp only [ByteArray.size_append, sz_lit, List.size_toArray, List.length_cons, List.length_nil]; omega)
       simp only [BZ.z, Act.put, Nat.reduceAdd]
       refine wpAnyH_take (i := 15) (v := .string (((((((o ++ ⟨#[100, 32]⟩) ++ s.path) ++ ⟨#[32]⟩) ++ TU.dt s.owner) ++ ⟨#[32]⟩) ++ ⟨#[45]⟩) ++ ⟨#[10]⟩)) rfl (by kernel_rfl) (by kernel_rfl) (by kernel_rfl) (fun _ _ _ h => h) (Or.inl ⟨by rfl, fun w' hS' => by rfl⟩) s0 ?_
       simp only [BZ.z, Act.put, Nat.reduceAdd]
       refine wpAnyH_done (by kernel_rfl) ?_ _
       have HO : Hid ((((((((o ++ ⟨#[100, 32]⟩) ++ s.path) ++ ⟨#[32]⟩) ++ TU.dt s.owner) ++ ⟨#[32]⟩) ++ ⟨#[45]⟩) ++ ⟨#[10]⟩) = cat ⟨#[]⟩ (S.take (j + 1))) := HN.out _ _ (by rw [TU.letter, if_pos HK.out]; rfl) (by rw [TU.hx, if_pos HZ.out])
       clear HN HD HX HT HM HC0
       go_wp2
       go_roundg (n - (j + 1))
       case measure => omega
       case rel => exact ⟨j + 1, by omega, by go_num, by rw [HO.out], kb6, l6⟩
      ·have hk2 : (s.kind == 2) = false := by simpa using hk
       have HK : Hid (¬ s.kind = 2) := hk
       clear hk
       go_wp2_with (go_at_call 47; refine (HX.out _).mono ?_; rintro e w3 ⟨rfl, q, rfl⟩; have bq := K0.below_drewN (Below.refl (wr.alloc (.cells #[.int .i64 s.ino, .string s.path, .int .i64 s.kind, .int .i64 s.owner, .string s.data] 38)).heap.size (wr.alloc (.cells #[.int .i64 s.ino, .string s.path, .int .i64 s.kind, .int .i64 s.owner, .string s.data] 38))) q; have kb6 := (kb5.below bq).drew; have l6 := (l5.trans (bq.mono l5.size)).drew; have y2 : ((wr.alloc (.cells #[.int .i64 s.ino, .string s.path, .int .i64 s.kind, .int .i64 s.owner, .string s.data] 38)).drewN q).cell? ⟨wr.heap.size, 2, none⟩ = some (.int .i64 s.kind) := z2; have s0 : ((wr.alloc (.cells #[.int .i64 s.ino, .string s.path, .int .i64 s.kind, .int .i64 s.owner, .string s.data] 38)).drewN q).drew.cell? ⟨wr.heap.size, 1, none⟩ = some (.string s.path) ∧ ((wr.alloc (.cells #[.int .i64 s.ino, .string s.path, .int .i64 s.kind, .int .i64 s.owner, .string s.data] 38)).drewN q).drew.cell? ⟨wr.heap.size, 3, none⟩ = some (.int .i64 s.owner) := ⟨z1, z3⟩; clear bq)
       refine wp_region_held (S := fun W => W.cell? ⟨wr.heap.size, 1, none⟩ = some (.string s.path) ∧ W.cell? ⟨wr.heap.size, 3, none⟩ = some (.int .i64 s.owner)) (by kernel_rfl) ?_
       refine wpAnyH_take (i := 0) (v := .string o) rfl (by kernel_rfl) (by kernel_rfl) (by kernel_rfl) (fun _ _ _ h => h) (Or.inl ⟨by rfl, fun w' hS' => by rfl⟩) s0 ?_
       simp only [BZ.z, Act.put, Nat.reduceAdd]
       refine wpAnyH_take (i := 1) (v := .string ⟨#[102, 32]⟩) rfl (by kernel_rfl) (by kernel_rfl) (by kernel_rfl) (fun _ _ _ h => h) (Or.inl ⟨by rfl, fun w' hS' => by rfl⟩) s0 ?_
       simp only [BZ.z, Act.put, Nat.reduceAdd]
       refine wpAnyH_take (i := 2) (v := .string (o ++ ⟨#[102, 32]⟩)) rfl (by kernel_rfl) (by kernel_rfl) (by kernel_rfl) (fun _ _ _ h => h) (Or.inl ⟨by rfl, fun w' hS' => ?_⟩) s0 ?_
       ·(refine TU.cat_yield ?_; simp only [ByteArray.size_append, sz_lit, List.size_toArray, List.length_cons, List.length_nil]; omega)
       simp only [BZ.z, Act.put, Nat.reduceAdd]
       refine wpAnyH_take (i := 3) (v := .pointer (some ⟨wr.heap.size, 1, none⟩)) rfl (by kernel_rfl) (by kernel_rfl) (by kernel_rfl) (fun _ _ _ h => h) (Or.inl ⟨by rfl, fun w' hS' => by rfl⟩) s0 ?_
       simp only [BZ.z, Act.put, Nat.reduceAdd]
       refine wpAnyH_take (i := 4) (v := .string s.path) rfl (by kernel_rfl) (by kernel_rfl) (by kernel_rfl) (fun _ _ _ h => h) (Or.inl ⟨by rfl, fun w' hS' => ?_⟩) s0 ?_
       ·obtain ⟨p1, p3⟩ := hS'
        go_simp
       simp only [BZ.z, Act.put, Nat.reduceAdd]
       refine wpAnyH_take (i := 5) (v := .string ((o ++ ⟨#[102, 32]⟩) ++ s.path)) rfl (by kernel_rfl) (by kernel_rfl) (by kernel_rfl) (fun _ _ _ h => h) (Or.inl ⟨by rfl, fun w' hS' => ?_⟩) s0 ?_
       ·(refine TU.cat_yield ?_; simp only [ByteArray.size_append, sz_lit, List.size_toArray, List.length_cons, List.length_nil]; omega)
       simp only [BZ.z, Act.put, Nat.reduceAdd]
       refine wpAnyH_take (i := 6) (v := .string (((o ++ ⟨#[102, 32]⟩) ++ s.path) ++ ⟨#[32]⟩)) rfl (by kernel_rfl) (by kernel_rfl) (by kernel_rfl) (fun _ _ _ h => h) (Or.inl ⟨by rfl, fun w' hS' => ?_⟩) s0 ?_
       ·(refine TU.cat_yield ?_; simp only [ByteArray.size_append, sz_lit, List.size_toArray, List.length_cons, List.length_nil]; omega)
       simp only [BZ.z, Act.put, Nat.reduceAdd]
       refine wpAnyH_take (i := 7) (v := .pointer (some ⟨wr.heap.size, 3, none⟩)) rfl (by kernel_rfl) (by kernel_rfl) (by kernel_rfl) (fun _ _ _ h => h) (Or.inl ⟨by rfl, fun w' hS' => by rfl⟩) s0 ?_
       simp only [BZ.z, Act.put, Nat.reduceAdd]
       refine wpAnyH_take (i := 8) (v := .int .i64 s.owner) rfl (by kernel_rfl) (by kernel_rfl) (by kernel_rfl) (fun _ _ _ h => h) (Or.inl ⟨by rfl, fun w' hS' => ?_⟩) s0 ?_
       ·obtain ⟨p1, p3⟩ := hS'
        go_simp
       simp only [BZ.z, Act.put, Nat.reduceAdd]
       refine wpAnyH_take (i := 12) (v := .string ⟨#[45]⟩) rfl (by kernel_rfl) (by kernel_rfl) (by kernel_rfl) (fun _ _ _ h => h) (Or.inl ⟨by rfl, fun w' hS' => by rfl⟩) s0 ?_
       simp only [BZ.z, Act.put, Nat.reduceAdd]
       refine Y0.one_callw (i := 9) (by kernel_rfl) rfl (by rfl) (.tmp 84) _ rfl (.int .i64 s.owner) (by rfl) (enters_of Tryz.func48 (by kernel_rfl) rfl) ((HD.out _).mono ?_)
       rintro e w4 ⟨rfl, hw4⟩
       subst w4
       refine ⟨_, rfl, s0, ?_⟩
       simp only [BZ.z, Act.put, Nat.reduceAdd]
       refine wpAnyH_take (i := 10) (v := .string ((((o ++ ⟨#[102, 32]⟩) ++ s.path) ++ ⟨#[32]⟩) ++ TU.dt s.owner)) rfl (by kernel_rfl) (by kernel_rfl) (by kernel_rfl) (fun _ _ _ h => h) (Or.inl ⟨by rfl, fun w' hS' => ?_⟩) s0 ?_
       ·(refine TU.cat_yield ?_; simp only [ByteArray.size_append, sz_lit, List.size_toArray, List.length_cons, List.length_nil]; omega)
       simp only [BZ.z, Act.put, Nat.reduceAdd]
       refine wpAnyH_take (i := 11) (v := .string (((((o ++ ⟨#[102, 32]⟩) ++ s.path) ++ ⟨#[32]⟩) ++ TU.dt s.owner) ++ ⟨#[32]⟩)) rfl (by kernel_rfl) (by kernel_rfl) (by kernel_rfl) (fun _ _ _ h => h) (Or.inl ⟨by rfl, fun w' hS' => ?_⟩) s0 ?_
       ·(refine TU.cat_yield ?_; simp only [ByteArray.size_append, sz_lit, List.size_toArray, List.length_cons, List.length_nil]; omega)
       simp only [BZ.z, Act.put, Nat.reduceAdd]
       refine wpAnyH_take (i := 13) (v := .string ((((((o ++ ⟨#[102, 32]⟩) ++ s.path) ++ ⟨#[32]⟩) ++ TU.dt s.owner) ++ ⟨#[32]⟩) ++ ⟨#[45]⟩)) rfl (by kernel_rfl) (by kernel_rfl) (by kernel_rfl) (fun _ _ _ h => h) (Or.inl ⟨by rfl, fun w' hS' => ?_⟩) s0 ?_
       ·(refine TU.cat_yield ?_; simp only [ByteArray.size_append, sz_lit, List.size_toArray, List.length_cons, List.length_nil]; omega)
       simp only [BZ.z, Act.put, Nat.reduceAdd]
       refine wpAnyH_take (i := 14) (v := .string (((((((o ++ ⟨#[102, 32]⟩) ++ s.path) ++ ⟨#[32]⟩) ++ TU.dt s.owner) ++ ⟨#[32]⟩) ++ ⟨#[45]⟩) ++ ⟨#[10]⟩)) rfl (by kernel_rfl) (by kernel_rfl) (by kernel_rfl) (fun _ _ _ h => h) (Or.inl ⟨by rfl, fun w' hS' => ?_⟩) s0 ?_
       ·(refine TU.cat_yield ?_; simp only [ByteArray.size_append, sz_lit, List.size_toArray, List.length_cons, List.length_nil]; omega)
       simp only [BZ.z, Act.put, Nat.reduceAdd]
       refine wpAnyH_take (i := 15) (v := .string (((((((o ++ ⟨#[102, 32]⟩) ++ s.path) ++ ⟨#[32]⟩) ++ TU.dt s.owner) ++ ⟨#[32]⟩) ++ ⟨#[45]⟩) ++ ⟨#[10]⟩)) rfl (by kernel_rfl) (by kernel_rfl) (by kernel_rfl) (fun _ _ _ h => h) (Or.inl ⟨by rfl, fun w' hS' => by rfl⟩) s0 ?_
       simp only [BZ.z, Act.put, Nat.reduceAdd]
       refine wpAnyH_done (by kernel_rfl) ?_ _
       have HO : Hid ((((((((o ++ ⟨#[102, 32]⟩) ++ s.path) ++ ⟨#[32]⟩) ++ TU.dt s.owner) ++ ⟨#[32]⟩) ++ ⟨#[45]⟩) ++ ⟨#[10]⟩) = cat ⟨#[]⟩ (S.take (j + 1))) := HN.out _ _ (by rw [TU.letter, if_neg HK.out]; rfl) (by rw [TU.hx, if_pos HZ.out])
       clear HN HD HX HT HM HC0
       go_wp2
       go_roundg (n - (j + 1))
       case measure => omega
       case rel => exact ⟨j + 1, by omega, by go_num, by rw [HO.out], kb6, l6⟩
     ·obtain ⟨dx, hdx0⟩ : ∃ dx, H1.hex s.data = dx := ⟨_, rfl⟩
      have hdx : Hid (dx = TU.hx s.data) := by show dx = _; rw [TU.hx, if_neg hd, hdx0]
      have md : dx.size ≤ 3000 := by rw [hdx.out]; exact m5
      rw [hdx0] at HX
      have hne : (dx.toList == []) = false := by
       rw [ByteArray.toList_eq]
       simp
       intro h'
       have hz : dx.size = 0 := by rw [Lib.size_eq, h']; rfl
       rw [← hdx0] at hz
       have : (H1.hex s.data).size = 2 * s.data.size := by
        show (H0.hexL s.data.data.toList).toArray.size = _
        rw [List.size_toArray, H0.hexL_length, ← Lib.size_eq]
       omega
      clear hdx0
      by_cases hk : s.kind = 2
      ·have hk2 : (s.kind == 2) = true := by simpa using hk
       have HK : Hid (s.kind = 2) := hk
       clear hk
       go_wp2_with (go_at_call 47; refine (HX.out _).mono ?_; rintro e w3 ⟨rfl, q, rfl⟩; have bq := K0.below_drewN (Below.refl (wr.alloc (.cells #[.int .i64 s.ino, .string s.path, .int .i64 s.kind, .int .i64 s.owner, .string s.data] 38)).heap.size (wr.alloc (.cells #[.int .i64 s.ino, .string s.path, .int .i64 s.kind, .int .i64 s.owner, .string s.data] 38))) q; have kb6 := (kb5.below bq).drew; have l6 := (l5.trans (bq.mono l5.size)).drew; have y2 : ((wr.alloc (.cells #[.int .i64 s.ino, .string s.path, .int .i64 s.kind, .int .i64 s.owner, .string s.data] 38)).drewN q).cell? ⟨wr.heap.size, 2, none⟩ = some (.int .i64 s.kind) := z2; have s0 : ((wr.alloc (.cells #[.int .i64 s.ino, .string s.path, .int .i64 s.kind, .int .i64 s.owner, .string s.data] 38)).drewN q).drew.cell? ⟨wr.heap.size, 1, none⟩ = some (.string s.path) ∧ ((wr.alloc (.cells #[.int .i64 s.ino, .string s.path, .int .i64 s.kind, .int .i64 s.owner, .string s.data] 38)).drewN q).drew.cell? ⟨wr.heap.size, 3, none⟩ = some (.int .i64 s.owner) := ⟨z1, z3⟩; clear bq)
       refine wp_region_held (S := fun W => W.cell? ⟨wr.heap.size, 1, none⟩ = some (.string s.path) ∧ W.cell? ⟨wr.heap.size, 3, none⟩ = some (.int .i64 s.owner)) (by kernel_rfl) ?_
       refine wpAnyH_take (i := 0) (v := .string o) rfl (by kernel_rfl) (by kernel_rfl) (by kernel_rfl) (fun _ _ _ h => h) (Or.inl ⟨by rfl, fun w' hS' => by rfl⟩) s0 ?_
       simp only [BZ.z, Act.put, Nat.reduceAdd]
       refine wpAnyH_take (i := 1) (v := .string ⟨#[100, 32]⟩) rfl (by kernel_rfl) (by kernel_rfl) (by kernel_rfl) (fun _ _ _ h => h) (Or.inl ⟨by rfl, fun w' hS' => by rfl⟩) s0 ?_
       simp only [BZ.z, Act.put, Nat.reduceAdd]
       refine wpAnyH_take (i := 2) (v := .string (o ++ ⟨#[100, 32]⟩)) rfl (by kernel_rfl) (by kernel_rfl) (by kernel_rfl) (fun _ _ _ h => h) (Or.inl ⟨by rfl, fun w' hS' => ?_⟩) s0 ?_
       ·(refine TU.cat_yield ?_; simp only [ByteArray.size_append, sz_lit, List.size_toArray, List.length_cons, List.length_nil]; omega)
       simp only [BZ.z, Act.put, Nat.reduceAdd]
       refine wpAnyH_take (i := 3) (v := .pointer (some ⟨wr.heap.size, 1, none⟩)) rfl (by kernel_rfl) (by kernel_rfl) (by kernel_rfl) (fun _ _ _ h => h) (Or.inl ⟨by rfl, fun w' hS' => by rfl⟩) s0 ?_
       simp only [BZ.z, Act.put, Nat.reduceAdd]
       refine wpAnyH_take (i := 4) (v := .string s.path) rfl (by kernel_rfl) (by kernel_rfl) (by kernel_rfl) (fun _ _ _ h => h) (Or.inl ⟨by rfl, fun w' hS' => ?_⟩) s0 ?_
       ·obtain ⟨p1, p3⟩ := hS'
        go_simp
       simp only [BZ.z, Act.put, Nat.reduceAdd]
       refine wpAnyH_take (i := 5) (v := .string ((o ++ ⟨#[100, 32]⟩) ++ s.path)) rfl (by kernel_rfl) (by kernel_rfl) (by kernel_rfl) (fun _ _ _ h => h) (Or.inl ⟨by rfl, fun w' hS' => ?_⟩) s0 ?_
       ·(refine TU.cat_yield ?_; simp only [ByteArray.size_append, sz_lit, List.size_toArray, List.length_cons, List.length_nil]; omega)
       simp only [BZ.z, Act.put, Nat.reduceAdd]
       refine wpAnyH_take (i := 6) (v := .string (((o ++ ⟨#[100, 32]⟩) ++ s.path) ++ ⟨#[32]⟩)) rfl (by kernel_rfl) (by kernel_rfl) (by kernel_rfl) (fun _ _ _ h => h) (Or.inl ⟨by rfl, fun w' hS' => ?_⟩) s0 ?_
       ·(refine TU.cat_yield ?_; simp only [ByteArray.size_append, sz_lit, List.size_toArray, List.length_cons, List.length_nil]; omega)
       simp only [BZ.z, Act.put, Nat.reduceAdd]
       refine wpAnyH_take (i := 7) (v := .pointer (some ⟨wr.heap.size, 3, none⟩)) rfl (by kernel_rfl) (by kernel_rfl) (by kernel_rfl) (fun _ _ _ h => h) (Or.inl ⟨by rfl, fun w' hS' => by rfl⟩) s0 ?_
       simp only [BZ.z, Act.put, Nat.reduceAdd]
       refine wpAnyH_take (i := 8) (v := .int .i64 s.owner) rfl (by kernel_rfl) (by kernel_rfl) (by kernel_rfl) (fun _ _ _ h => h) (Or.inl ⟨by rfl, fun w' hS' => ?_⟩) s0 ?_
       ·obtain ⟨p1, p3⟩ := hS'
        go_simp
       simp only [BZ.z, Act.put, Nat.reduceAdd]
       refine wpAnyH_take (i := 12) (v := .string dx) rfl (by kernel_rfl) (by kernel_rfl) (by kernel_rfl) (fun _ _ _ h => h) (Or.inl ⟨by rfl, fun w' hS' => by rfl⟩) s0 ?_
       simp only [BZ.z, Act.put, Nat.reduceAdd]
       refine Y0.one_callw (i := 9) (by kernel_rfl) rfl (by rfl) (.tmp 84) _ rfl (.int .i64 s.owner) (by rfl) (enters_of Tryz.func48 (by kernel_rfl) rfl) ((HD.out _).mono ?_)
       rintro e w4 ⟨rfl, hw4⟩
       subst w4
       refine ⟨_, rfl, s0, ?_⟩
       simp only [BZ.z, Act.put, Nat.reduceAdd]
       refine wpAnyH_take (i := 10) (v := .string ((((o ++ ⟨#[100, 32]⟩) ++ s.path) ++ ⟨#[32]⟩) ++ TU.dt s.owner)) rfl (by kernel_rfl) (by kernel_rfl) (by kernel_rfl) (fun _ _ _ h => h) (Or.inl ⟨by rfl, fun w' hS' => ?_⟩) s0 ?_
       ·(refine TU.cat_yield ?_; simp only [ByteArray.size_append, sz_lit, List.size_toArray, List.length_cons, List.length_nil]; omega)
       simp only [BZ.z, Act.put, Nat.reduceAdd]
       refine wpAnyH_take (i := 11) (v := .string (((((o ++ ⟨#[100, 32]⟩) ++ s.path) ++ ⟨#[32]⟩) ++ TU.dt s.owner) ++ ⟨#[32]⟩)) rfl (by kernel_rfl) (by kernel_rfl) (by kernel_rfl) (fun _ _ _ h => h) (Or.inl ⟨by rfl, fun w' hS' => ?_⟩) s0 ?_
       ·(refine TU.cat_yield ?_; simp only [ByteArray.size_append, sz_lit, List.size_toArray, List.length_cons, List.length_nil]; omega)
       simp only [BZ.z, Act.put, Nat.reduceAdd]
       refine wpAnyH_take (i := 13) (v := .string ((((((o ++ ⟨#[100, 32]⟩) ++ s.path) ++ ⟨#[32]⟩) ++ TU.dt s.owner) ++ ⟨#[32]⟩) ++ dx)) rfl (by kernel_rfl) (by kernel_rfl) (by kernel_rfl) (fun _ _ _ h => h) (Or.inl ⟨by rfl, fun w' hS' => ?_⟩) s0 ?_
       ·(refine TU.cat_yield ?_; simp only [ByteArray.size_append, sz_lit, List.size_toArray, List.length_cons, List.length_nil]; omega)
       simp only [BZ.z, Act.put, Nat.reduceAdd]
       refine wpAnyH_take (i := 14) (v := .string (((((((o ++ ⟨#[100, 32]⟩) ++ s.path) ++ ⟨#[32]⟩) ++ TU.dt s.owner) ++ ⟨#[32]⟩) ++ dx) ++ ⟨#[10]⟩)) rfl (by kernel_rfl) (by kernel_rfl) (by kernel_rfl) (fun _ _ _ h => h) (Or.inl ⟨by rfl, fun w' hS' => ?_⟩) s0 ?_
       ·(refine TU.cat_yield ?_; simp only [ByteArray.size_append, sz_lit, List.size_toArray, List.length_cons, List.length_nil]; omega)
       simp only [BZ.z, Act.put, Nat.reduceAdd]
       refine wpAnyH_take (i := 15) (v := .string (((((((o ++ ⟨#[100, 32]⟩) ++ s.path) ++ ⟨#[32]⟩) ++ TU.dt s.owner) ++ ⟨#[32]⟩) ++ dx) ++ ⟨#[10]⟩)) rfl (by kernel_rfl) (by kernel_rfl) (by kernel_rfl) (fun _ _ _ h => h) (Or.inl ⟨by rfl, fun w' hS' => by rfl⟩) s0 ?_
       simp only [BZ.z, Act.put, Nat.reduceAdd]
       refine wpAnyH_done (by kernel_rfl) ?_ _
       have HO : Hid ((((((((o ++ ⟨#[100, 32]⟩) ++ s.path) ++ ⟨#[32]⟩) ++ TU.dt s.owner) ++ ⟨#[32]⟩) ++ dx) ++ ⟨#[10]⟩) = cat ⟨#[]⟩ (S.take (j + 1))) := HN.out _ _ (by rw [TU.letter, if_pos HK.out]; rfl) hdx.out
       clear HN HD HX HT HM HC0
       go_wp2
       go_roundg (n - (j + 1))
       case measure => omega
       case rel => exact ⟨j + 1, by omega, by go_num, by rw [HO.out], kb6, l6⟩
      ·have hk2 : (s.kind == 2) = false := by simpa using hk
       have HK : Hid (¬ s.kind = 2) := hk
       clear hk
       go_wp2_with (go_at_call 47; refine (HX.out _).mono ?_; rintro e w3 ⟨rfl, q, rfl⟩; have bq := K0.below_drewN (Below.refl (wr.alloc (.cells #[.int .i64 s.ino, .string s.path, .int .i64 s.kind, .int .i64 s.owner, .string s.data] 38)).heap.size (wr.alloc (.cells #[.int .i64 s.ino, .string s.path, .int .i64 s.kind, .int .i64 s.owner, .string s.data] 38))) q; have kb6 := (kb5.below bq).drew; have l6 := (l5.trans (bq.mono l5.size)).drew; have y2 : ((wr.alloc (.cells #[.int .i64 s.ino, .string s.path, .int .i64 s.kind, .int .i64 s.owner, .string s.data] 38)).drewN q).cell? ⟨wr.heap.size, 2, none⟩ = some (.int .i64 s.kind) := z2; have s0 : ((wr.alloc (.cells #[.int .i64 s.ino, .string s.path, .int .i64 s.kind, .int .i64 s.owner, .string s.data] 38)).drewN q).drew.cell? ⟨wr.heap.size, 1, none⟩ = some (.string s.path) ∧ ((wr.alloc (.cells #[.int .i64 s.ino, .string s.path, .int .i64 s.kind, .int .i64 s.owner, .string s.data] 38)).drewN q).drew.cell? ⟨wr.heap.size, 3, none⟩ = some (.int .i64 s.owner) := ⟨z1, z3⟩; clear bq)
       refine wp_region_held (S := fun W => W.cell? ⟨wr.heap.size, 1, none⟩ = some (.string s.path) ∧ W.cell? ⟨wr.heap.size, 3, none⟩ = some (.int .i64 s.owner)) (by kernel_rfl) ?_
       refine wpAnyH_take (i := 0) (v := .string o) rfl (by kernel_rfl) (by kernel_rfl) (by kernel_rfl) (fun _ _ _ h => h) (Or.inl ⟨by rfl, fun w' hS' => by rfl⟩) s0 ?_
       simp only [BZ.z, Act.put, Nat.reduceAdd]
       refine wpAnyH_take (i := 1) (v := .string ⟨#[102, 32]⟩) rfl (by kernel_rfl) (by kernel_rfl) (by kernel_rfl) (fun _ _ _ h => h) (Or.inl ⟨by rfl, fun w' hS' => by rfl⟩) s0 ?_
       simp only [BZ.z, Act.put, Nat.reduceAdd]
       refine wpAnyH_take (i := 2) (v := .string (o ++ ⟨#[102, 32]⟩)) rfl (by kernel_rfl) (by kernel_rfl) (by kernel_rfl) (fun _ _ _ h => h) (Or.inl ⟨by rfl, fun w' hS' => ?_⟩) s0 ?_
       ·(refine TU.cat_yield ?_; simp only [ByteArray.size_append, sz_lit, List.size_toArray, List.length_cons, List.length_nil]; omega)
       simp only [BZ.z, Act.put, Nat.reduceAdd]
       refine wpAnyH_take (i := 3) (v := .pointer (some ⟨wr.heap.size, 1, none⟩)) rfl (by kernel_rfl) (by kernel_rfl) (by kernel_rfl) (fun _ _ _ h => h) (Or.inl ⟨by rfl, fun w' hS' => by rfl⟩) s0 ?_
       simp only [BZ.z, Act.put, Nat.reduceAdd]
       refine wpAnyH_take (i := 4) (v := .string s.path) rfl (by kernel_rfl) (by kernel_rfl) (by kernel_rfl) (fun _ _ _ h => h) (Or.inl ⟨by rfl, fun w' hS' => ?_⟩) s0 ?_
       ·obtain ⟨p1, p3⟩ := hS'
        go_simp
       simp only [BZ.z, Act.put, Nat.reduceAdd]
       refine wpAnyH_take (i := 5) (v := .string ((o ++ ⟨#[102, 32]⟩) ++ s.path)) rfl (by kernel_rfl) (by kernel_rfl) (by kernel_rfl) (fun _ _ _ h => h) (Or.inl ⟨by rfl, fun w' hS' => ?_⟩) s0 ?_
       ·(refine TU.cat_yield ?_; simp only [ByteArray.size_append, sz_lit, List.size_toArray, List.length_cons, List.length_nil]; omega)
       simp only [BZ.z, Act.put, Nat.reduceAdd]
       refine wpAnyH_take (i := 6) (v := .string (((o ++ ⟨#[102, 32]⟩) ++ s.path) ++ ⟨#[32]⟩)) rfl (by kernel_rfl) (by kernel_rfl) (by kernel_rfl) (fun _ _ _ h => h) (Or.inl ⟨by rfl, fun w' hS' => ?_⟩) s0 ?_
       ·(refine TU.cat_yield ?_; simp only [ByteArray.size_append, sz_lit, List.size_toArray, List.length_cons, List.length_nil]; omega)
       simp only [BZ.z, Act.put, Nat.reduceAdd]
       refine wpAnyH_take (i := 7) (v := .pointer (some ⟨wr.heap.size, 3, none⟩)) rfl (by kernel_rfl) (by kernel_rfl) (by kernel_rfl) (fun _ _ _ h => h) (Or.inl ⟨by rfl, fun w' hS' => by rfl⟩) s0 ?_
       simp only [BZ.z, Act.put, Nat.reduceAdd]
       refine wpAnyH_take (i := 8) (v := .int .i64 s.owner) rfl (by kernel_rfl) (by kernel_rfl) (by kernel_rfl) (fun _ _ _ h => h) (Or.inl ⟨by rfl, fun w' hS' => ?_⟩) s0 ?_
       ·obtain ⟨p1, p3⟩ := hS'
        go_simp
       simp only [BZ.z, Act.put, Nat.reduceAdd]
       refine wpAnyH_take (i := 12) (v := .string dx) rfl (by kernel_rfl) (by kernel_rfl) (by kernel_rfl) (fun _ _ _ h => h) (Or.inl ⟨by rfl, fun w' hS' => by rfl⟩) s0 ?_
       simp only [BZ.z, Act.put, Nat.reduceAdd]
       refine Y0.one_callw (i := 9) (by kernel_rfl) rfl (by rfl) (.tmp 84) _ rfl (.int .i64 s.owner) (by rfl) (enters_of Tryz.func48 (by kernel_rfl) rfl) ((HD.out _).mono ?_)
       rintro e w4 ⟨rfl, hw4⟩
       subst w4
       refine ⟨_, rfl, s0, ?_⟩
       simp only [BZ.z, Act.put, Nat.reduceAdd]
       refine wpAnyH_take (i := 10) (v := .string ((((o ++ ⟨#[102, 32]⟩) ++ s.path) ++ ⟨#[32]⟩) ++ TU.dt s.owner)) rfl (by kernel_rfl) (by kernel_rfl) (by kernel_rfl) (fun _ _ _ h => h) (Or.inl ⟨by rfl, fun w' hS' => ?_⟩) s0 ?_
       ·(refine TU.cat_yield ?_; simp only [ByteArray.size_append, sz_lit, List.size_toArray, List.length_cons, List.length_nil]; omega)
       simp only [BZ.z, Act.put, Nat.reduceAdd]
       refine wpAnyH_take (i := 11) (v := .string (((((o ++ ⟨#[102, 32]⟩) ++ s.path) ++ ⟨#[32]⟩) ++ TU.dt s.owner) ++ ⟨#[32]⟩)) rfl (by kernel_rfl) (by kernel_rfl) (by kernel_rfl) (fun _ _ _ h => h) (Or.inl ⟨by rfl, fun w' hS' => ?_⟩) s0 ?_
       ·(refine TU.cat_yield ?_; simp only [ByteArray.size_append, sz_lit, List.size_toArray, List.length_cons, List.length_nil]; omega)
       simp only [BZ.z, Act.put, Nat.reduceAdd]
       refine wpAnyH_take (i := 13) (v := .string ((((((o ++ ⟨#[102, 32]⟩) ++ s.path) ++ ⟨#[32]⟩) ++ TU.dt s.owner) ++ ⟨#[32]⟩) ++ dx)) rfl (by kernel_rfl) (by kernel_rfl) (by kernel_rfl) (fun _ _ _ h => h) (Or.inl ⟨by rfl, fun w' hS' => ?_⟩) s0 ?_
       ·(refine TU.cat_yield ?_; simp only [ByteArray.size_append, sz_lit, List.size_toArray, List.length_cons, List.length_nil]; omega)
       simp only [BZ.z, Act.put, Nat.reduceAdd]
       refine wpAnyH_take (i := 14) (v := .string (((((((o ++ ⟨#[102, 32]⟩) ++ s.path) ++ ⟨#[32]⟩) ++ TU.dt s.owner) ++ ⟨#[32]⟩) ++ dx) ++ ⟨#[10]⟩)) rfl (by kernel_rfl) (by kernel_rfl) (by kernel_rfl) (fun _ _ _ h => h) (Or.inl ⟨by rfl, fun w' hS' => ?_⟩) s0 ?_
       ·(refine TU.cat_yield ?_; simp only [ByteArray.size_append, sz_lit, List.size_toArray, List.length_cons, List.length_nil]; omega)
       simp only [BZ.z, Act.put, Nat.reduceAdd]
       refine wpAnyH_take (i := 15) (v := .string (((((((o ++ ⟨#[102, 32]⟩) ++ s.path) ++ ⟨#[32]⟩) ++ TU.dt s.owner) ++ ⟨#[32]⟩) ++ dx) ++ ⟨#[10]⟩)) rfl (by kernel_rfl) (by kernel_rfl) (by kernel_rfl) (fun _ _ _ h => h) (Or.inl ⟨by rfl, fun w' hS' => by rfl⟩) s0 ?_
       simp only [BZ.z, Act.put, Nat.reduceAdd]
       refine wpAnyH_done (by kernel_rfl) ?_ _
       have HO : Hid ((((((((o ++ ⟨#[102, 32]⟩) ++ s.path) ++ ⟨#[32]⟩) ++ TU.dt s.owner) ++ ⟨#[32]⟩) ++ dx) ++ ⟨#[10]⟩) = cat ⟨#[]⟩ (S.take (j + 1))) := HN.out _ _ (by rw [TU.letter, if_neg HK.out]; rfl) hdx.out
       clear HN HD HX HT HM HC0
       go_wp2
       go_roundg (n - (j + 1))
       case measure => omega
       case rel => exact ⟨j + 1, by omega, by go_num, by rw [HO.out], kb6, l6⟩
    ·have d2 : ¬ ((j : Int) < (n : Int)) := by omega
     have HV : Hid (cat ⟨#[]⟩ (S.take j) = T) := by
      show cat ⟨#[]⟩ (S.take j) = T
      rw [List.take_of_length_le (by omega)]
      exact HT.out
     go_wp2
     go_ret
     exact ⟨FI.ret_str HV.out, l4⟩
end Go.Proofs.YtpkmeknniajahaaGreatDoor.TY
