/- Joined texts: plain facts and contracts. -/
import Derived.Test.YtpkmeknniajahaaGreatDoorJnQ
import Derived.Test.YtpkmeknniajahaaGreatDoorJnS
import Derived.Deep.LoopGhost
import Derived.Deep.RegionHeld3
import Derived.Test.YtpkmeknniajahaaGreatDoorJnR
import Derived.Lib.ItoaLen
set_option linter.unusedVariables false
set_option linter.unusedSimpArgs false
set_option maxRecDepth 10000
namespace Go.Proofs.YtpkmeknniajahaaGreatDoor.FI
open Go.ChangeShapes Go.WideShapes Go.ChangeAt Go.RowKit
variable {w W W' : World} {mem : ByteArray}
open TW (tK tZ tE cat nodesOk sound)
open TS (Pr)
theorem ret_str {a b : ByteArray} (h : a = b) : Ending.returned (.string a) = .returned (.string b) := by rw [h]
theorem empty_of {q : ByteArray} (h : q.size = 0) : q = ⟨#[]⟩ := by
 apply ByteArray.ext
 apply Array.eq_empty_of_size_eq_zero
 exact h
theorem par_cell {g1 : Nat} {l : List (Nat × T0.Ent)} (h : K0.Blk g1 (TS.pv l) W) {x : Nat} (hx : x < 8) : W.cell? ⟨g1, x, none⟩ = some (.int .i64 (TR.par l (x : Int))) := by
 rw [h.cell x (by rw [TS.pv_length]; exact hx)]
 simp [TS.pv]
theorem nam_cell {g2 : Nat} {l : List (Nat × T0.Ent)} (h : K0.Blk g2 (TS.nv l) W) {x : Nat} (hx : x < 8) : W.cell? ⟨g2, x, none⟩ = some (.string (TR.nam l (x : Int))) := by
 rw [h.cell x (by rw [TS.nv_length]; exact hx)]
 simp [TS.nv]
set_option maxHeartbeats 2000000 in
theorem l04Path {g1 g2 : Nat} (c1 c2 : Nat) (w : World) (hp1 : K0.Blk g1 (TS.pv (TR.flat (tE mem) 8)) w) (hp2 : K0.Blk g2 (TS.nv (TR.flat (tE mem) 8)) w) (ht : TR.treeOk (tE mem) (tK mem) = true) {x k : Nat} {q : ByteArray} (hk : k ≤ 8) (hq : TR.At2 (tE mem) x k q) :
  Calls Tryz.prog 35 #[.slice (some ⟨g1, 0, none⟩) 8 c1, .slice (some ⟨g2, 0, none⟩) 8 c2, .int .i64 (x : Int)] w fun e w' => e = .returned (.string (TR.full q)) ∧ w' = w := by
 have hsz : q.size ≤ 120 := Nat.le_trans (hq.size fun i e he => (TW.ent_ok mem i e he).2) (by omega)
 have HQ : Hid (TR.At2 (tE mem) x k q) := hq
 have HT : Hid (TR.treeOk (tE mem) (tK mem) = true) := ht
 clear hq ht
 go_enter Tryz.func35, Tryz.ntmps35
 go_wp2
 go_loopg [2, 7] k (fun gj v u W => ∃ (y : Nat) (o q' : ByteArray), v = .int .i64 (y : Int) ∧ u = .string o ∧ Hid (TR.At2 (tE mem) y gj q') ∧ Hid (q' ++ o = q) ∧ W = w)
 case atStart => exact ⟨x, ⟨#[]⟩, q, rfl, rfl, HQ.out, TR.app_nil q, rfl⟩
 case round =>
  obtain ⟨y, o, q', rfl, rfl, H1, H2, rfl⟩ := hrel
  have hos : o.size ≤ 120 := by
   have := congrArg ByteArray.size H2.out
   rw [ByteArray.size_append] at this
   omega
  by_cases hy : y = 0
  ·subst hy
   have hqo : o = q := by
    have h2 := H2.out
    have h1 := H1.out
    rcases h1.or with ⟨_, _, e⟩ | ⟨_, _, _, _, _, _, hm, _⟩
    ·rw [← h2, e, TR.nil_app]
    ·have := ((TW.sane_ok mem).ino _ _ hm).1
     simp at this
   subst hqo
   clear H2 H1
   by_cases hz : o.size = 0
   ·obtain rfl := empty_of hz
    go_wp2
    go_ret
    exact ⟨rfl, rfl⟩
   ·have HF : Hid (TR.full o = o) := if_neg hz
    have he : (o.toList == []) = false := by
     cases h : o.toList with
     | nil =>
      exfalso
      apply hz
      rw [Lib.size_eq, ← Lib.toList_data, h]
      rfl
     | cons _ _ => rfl
    have he2 : o.toList.isEmpty = false := by
     cases h : o.toList with
     | nil => rw [h] at he; simp at he
     | cons _ _ => rfl
    clear hz
    go_wp2
    go_ret
    exact ⟨ret_str HF.out.symm, rfl⟩
  ·obtain ⟨gj', d, q2, nm, hgk, hd, hm, hq'⟩ : ∃ gj' d q2 nm, gk = gj' + 1 ∧ TR.At2 (tE mem) d gj' q2 ∧ ((y : Int), nm) ∈ tE mem d ∧ q' = q2 ++ (⟨#[47]⟩ ++ nm) := by
    have h1 := H1.out
    rcases h1.or with ⟨e, _, _⟩ | ⟨d, k', q2, nm, e, hd, hm, e2⟩
    ·exact absurd e hy
    ·exact ⟨k', d, q2, nm, e, hd, hm, e2⟩
   have hin := (TW.sane_ok mem).ino _ _ hm
   have hd8 := (up_of HT.out (TW.sane_ok mem) hd).1
   obtain ⟨h1, h2⟩ := TR.par_of HT.out (TW.sane_ok mem) hd8 hm
   simp only at h1 h2 hin
   have hy8 : y < 8 := by omega
   have u1 := par_cell hp1 hy8
   have u2 := nam_cell hp2 hy8
   rw [h1] at u1
   rw [h2] at u2
   have hnm := (TW.ent_ok mem d _ hm).2
   simp only at hnm
   have a1 : (0 : Int) < (y : Int) := by omega
   have a2 : (0 : Int) ≤ (y : Int) := by omega
   have a3 : (y : Int) < 8 := by omega
   have s1 : ¬ (9223372036854775807 < 1 + nm.size) := by omega
   have s2 : ¬ (9223372036854775807 < 1 + nm.size + o.size) := by omega
   have H3 : Hid (q2 ++ ((⟨#[47]⟩ ++ nm) ++ o) = q) := by
    show _ = _
    rw [← H2.out, hq', TR.app_assoc, TR.app_assoc, TR.app_assoc]
   have H4 : Hid (TR.At2 (tE mem) d gj' q2) := hd
   clear h1 h2 hm hq' hd H1 H2
   go_wp2
   go_roundg gj'
   case measure => omega
   case rel => exact ⟨d, _, q2, rfl, rfl, H4.out, H3.out, rfl⟩
theorem root_at2 {E : Nat → List T0.Ent} : ∀ n (x : Nat), x < 8 → TR.root (TR.par (TR.flat E 8)) n (x : Int) = true → ∃ k q, k ≤ n ∧ TR.At2 E x k q
 | 0, x, _, h => by
  simp only [TR.root, beq_iff_eq] at h
  have : x = 0 := by omega
  subst this
  exact ⟨0, _, Nat.le_refl _, TR.At2.zero⟩
 | n + 1, x, hx, h => by
  by_cases h0 : x = 0
  ·subst h0
   exact ⟨0, _, Nat.zero_le _, TR.At2.zero⟩
  ·rw [TR.root_pos _ _ _ (by omega)] at h
   rcases TR.par_ge (TR.flat E 8) x with hp | hp | ⟨p, hp, hq⟩
   ·rw [hp, TR.root_neg _ _ _ (by decide)] at h
    cases h
   ·rw [hp, TR.root_neg _ _ _ (by decide)] at h
    cases h
   ·rw [hq] at h
    have hm : p ∈ TR.own (TR.flat E 8) x := by rw [hp]; simp
    obtain ⟨i, e⟩ := p
    obtain ⟨m1, m2⟩ := List.mem_filter.1 hm
    obtain ⟨i8, he⟩ := TR.flat_mem.1 m1
    have hex : e.1 = (x : Int) := by simpa using m2
    obtain ⟨k, q, hk, ha⟩ := root_at2 n i i8 h
    refine ⟨k + 1, _, by omega, TR.At2.down (nm := e.2) ha ?_⟩
    rw [← hex]
    exact he
theorem lO_eq (i : Int) (h : O0.isL mem i = true) : O0.lO mem i = G0.gO (O0.recd mem i) := (O0.l_yes h).2.1
theorem isL_iff (hm : mem.size = 768) (i : Nat) : O0.isL mem (i : Int) = !(decide (tK mem i = 0)) := by
 have hk := TS.lK_eq hm (i : Int)
 cases h : O0.isL mem (i : Int) with
 | false =>
  rw [(O0.l_no h).1] at hk
  have : tK mem i = 0 := hk.symm
  simp [this]
 | true =>
  have h1 : tK mem i ≠ 0 := by
   intro e
   unfold O0.isL at h
   simp only [Bool.and_eq_true, Bool.not_eq_true', decide_eq_false_iff_not] at h
   have hI := h.2.1
   unfold tK at e
   rw [(G0.g_yes hI).1] at e
   exact h.2.2 e
  simp [h1]
theorem lD_file (i : Int) (h : O0.isL mem i = true) : O0.lD mem i = D1.data mem i := (O0.l_yes h).2.2.2.2
set_option maxHeartbeats 4000000 in
theorem spec_Files (mem : ByteArray) (w : World) (hms : mem.size ≤ 281474976710656) : Calls Tryz.prog 12 #[.string mem] w fun e w' => ∃ g c, e = .returned (.slice (some ⟨g, 0, none⟩) (files mem).length c) ∧ w.heap.size ≤ g ∧ K0.Blk g (ffl (files mem)) w' ∧ Below w.heap.size w w' := by
 have hS : Hid (∀ W, Calls Tryz.prog 21 #[.string mem] W fun e w' => e = .returned (.bool (sound mem)) ∧ Below W.heap.size W w') := fun W => TS.spec_Sound mem W hms
 have l0 := K0.below_new w (.cells #[] 38)
 have b0 := fbuf_new (base := w.heap.size) w (Nat.le_refl _)
 cases hs : sound mem with
 | false =>
  rw [hs] at hS
  have hu : files mem = [] := by unfold files; rw [hs]; rfl
  rw [hu]
  clear hs hu
  go_enter Tryz.func12, Tryz.ntmps12
  go_wp2_with (go_at_call 21; refine (hS.out _).mono ?_; rintro e w1 ⟨rfl, b1⟩)
  go_ret
  exact ⟨_, _, rfl, Nat.le_refl _, (K0.blk_new [] w _).below b1, l0.trans (b1.mono l0.size)⟩
 | true =>
  rw [hs] at hS
  obtain ⟨hm, hno, hK0, ht⟩ := sound_parts hs
  have hu : files mem = filesTo mem (fpath mem) 8 := by unfold files; rw [if_pos hs]
  rw [hu]
  have hpa : Hid (∀ W, Calls Tryz.prog 33 #[.string mem] W fun e w' => ∃ g1 c1 g2 c2, e = .returned (.tuple #[.slice (some ⟨g1, 0, none⟩) 8 c1, .slice (some ⟨g2, 0, none⟩) 8 c2, .bool true]) ∧ Pr W g1 g2 (TR.flat (tE mem) 8) w') := fun W => (TS.l04Parents mem W hm).mono fun e w' ⟨a1, c1, a2, c2, he, hb, hy⟩ => by
   obtain ⟨g1, g2, rfl, rfl, hp⟩ := hy hno
   rw [hno] at he
   exact ⟨g1, c1, g2, c2, he, hp⟩
  have HP : Hid (∀ x, x < 8 → tK mem x ≠ 0 → ∃ k q, k ≤ 8 ∧ TR.At2 (tE mem) x k q ∧ fpath mem x = TR.full q) := by
   intro x hx hk
   obtain ⟨k, q, hk8, hq⟩ : ∃ k q, k ≤ 8 ∧ TR.At2 (tE mem) x k q := by
    by_cases h0 : x = 0
    ·subst h0
     exact ⟨0, _, by decide, TR.At2.zero⟩
    ·have hone := TR.treeOk_iff.1 ht x (by omega) hx
     unfold TR.oneOk at hone
     simp only [Bool.and_eq_true, beq_iff_eq, Bool.or_eq_true] at hone
     exact root_at2 8 x hx (hone.2.resolve_left hk)
   exact ⟨k, q, hk8, hq, by rw [fpath, (up_of ht (TW.sane_ok mem) hq).2 8 hk8, TR.app_nil]⟩
  have hlen := filesTo_len mem (fpath mem)
  clear hs hu hno
  go_enter Tryz.func12, Tryz.ntmps12
  go_wp2_with (first
   | (go_at_call 21; refine (hS.out _).mono ?_; rintro e w1 ⟨rfl, b1⟩; have l1 := l0.trans (b1.mono l0.size))
   | (go_at_call 33; refine (hpa.out _).mono ?_; rintro e w2 ⟨g1, c1, g2, c2, rfl, p2⟩))
  have bf : FBuf w.heap.size w2 w.heap.size 0 0 [] := (b0.below b1).below p2.bel
  have l2 := l1.trans (p2.bel.mono l1.size)
  have hne1 : w.heap.size ≠ g1 := by
   have h1 : (w.alloc (.cells #[] 38)).heap.size = w.heap.size + 1 := by simp
   have h2 := b1.size
   have h3 := p2.lo.1
   omega
  have hne2 : w.heap.size ≠ g2 := by
   have h1 : (w.alloc (.cells #[] 38)).heap.size = w.heap.size + 1 := by simp
   have h2 := b1.size
   have h3 := p2.lo.2
   omega
  have k1 := p2.b1
  have k2 := p2.b2
  clear b0 l0 b1 hS hpa p2 l1
  go_loopg [3, 7] 8 (fun gk v i W => ∃ (k n c g : Nat), k + gk = 8 ∧ i = .int .i64 k ∧ v = .slice (some ⟨g, 0, none⟩) n c ∧ FBuf w.heap.size W g n c (filesTo mem (fpath mem) k) ∧ K0.Blk g1 (TS.pv (TR.flat (tE mem) 8)) W ∧ K0.Blk g2 (TS.nv (TR.flat (tE mem) 8)) W ∧ g ≠ g1 ∧ g ≠ g2 ∧ Below w.heap.size w W)
  case atStart => exact ⟨0, 0, 0, _, rfl, rfl, rfl, bf, k1, k2, hne1, hne2, l2⟩
  case round =>
   obtain ⟨k, n, c, g, hkg, rfl, rfl, hbuf, kb1, kb2, n1, n2, hbel⟩ := hrel
   clear bf k1 k2 hne1 hne2 l2
   by_cases hlt : k < 8
   ·have e1 : (k : Int) < 8 := by omega
    have hLo : Hid (∀ W, Calls Tryz.prog 34 #[.string mem, .int .i64 (k : Int)] W fun e w' => ∃ (o s : Int) (a : Option Addr) (n c : Nat) (x : ByteArray), e = .returned (.tuple #[.agg #[.int .i64 (tK mem k), .int .i64 o, .int .i64 s, .slice a n c], .string x, .bool (!(decide (tK mem k = 0)))]) ∧ (tK mem k ≠ 0 → o = G0.gO (O0.recd mem (k : Int)) ∧ x = D1.data mem (k : Int)) ∧ Below W.heap.size W w') := fun W => (O3.spec_Load mem (k : Int) W hms).mono fun e w' ⟨a, c, he, ho, hc, hb⟩ => ⟨_, _, a, _, c, _, by rw [tK, ← TS.lK_eq hm, ← show O0.isL mem (k : Int) = !(decide (O0.lK mem (k : Int) = 0)) by rw [TS.lK_eq hm]; exact isL_iff hm k]; exact he, fun hk => by
      have hL : O0.isL mem (k : Int) = true := by rw [isL_iff hm k]; simp [hk]
      exact ⟨lO_eq _ hL, lD_file _ hL⟩, hb⟩
    have hst : filesTo mem (fpath mem) (k + 1) = filesTo mem (fpath mem) k ++ if tK mem k = 0 then [] else [flOf mem (fpath mem) k] := rfl
    have hnl : n ≤ 8 := by
     have := hlen k
     rw [hbuf.1]
     omega
    by_cases hz : tK mem k = 0
    ·have HS : Hid (filesTo mem (fpath mem) (k + 1) = filesTo mem (fpath mem) k) := by
      show _ = _
      rw [hst, if_pos hz, List.append_nil]
     rw [hz] at hLo
     have hd0 : (!(decide ((0 : Int) = 0))) = false := by decide
     rw [hd0] at hLo
     clear hst hz HP hd0
     go_wp2_with (go_at_call 34; refine (hLo.out _).mono ?_; rintro e w3 ⟨o3, s3, a3, n3, c3, x3, rfl, -, b3⟩; have nl3 := K0.below_new w3 (.cells #[.int .i64 0, .int .i64 o3, .int .i64 s3, .slice a3 n3 c3] 50))
     go_roundg (gk - 1)
     case measure => omega
     case rel => exact ⟨k + 1, n, c, g, by omega, by go_num, rfl, by rw [HS.out]; exact (hbuf.below b3).below nl3, (kb1.below b3).below nl3, (kb2.below b3).below nl3, n1, n2, (hbel.trans (b3.mono hbel.size)).trans (nl3.mono (Nat.le_trans hbel.size b3.size))⟩
    ·obtain ⟨kq, q, hkq, hAq, hfp⟩ := HP.out k hlt hz
     have hPt : Hid (∀ W, K0.Blk g1 (TS.pv (TR.flat (tE mem) 8)) W → K0.Blk g2 (TS.nv (TR.flat (tE mem) 8)) W → Calls Tryz.prog 35 #[.slice (some ⟨g1, 0, none⟩) 8 c1, .slice (some ⟨g2, 0, none⟩) 8 c2, .int .i64 (k : Int)] W fun e w' => e = .returned (.string (TR.full q)) ∧ w' = W) := fun W h1 h2 => l04Path c1 c2 W h1 h2 ht hkq hAq
     have hdec : (!(decide (tK mem k = 0))) = true := by simp [hz]
     rw [hdec] at hLo
     have hnd : D1.nodeD mem (k : Int) = if tK mem k = 2 then ⟨#[]⟩ else D1.data mem (k : Int) := rfl
     by_cases h2 : tK mem k = 2
     ·rw [if_pos h2] at hnd
      have HS : Hid (∀ o, o = G0.gO (O0.recd mem (k : Int)) → filesTo mem (fpath mem) (k + 1) = filesTo mem (fpath mem) k ++ [⟨(k : Int), TR.full q, 2, o, ⟨#[]⟩⟩]) := fun o ho => by
       rw [hst, if_neg hz, flOf, hfp, h2, ho, hnd]
      rw [h2] at hLo
      clear hst hz HP hdec hnd h2 hfp hAq
      go_wp2_with (go_at_call 34; refine (hLo.out _).mono ?_; rintro e w3 ⟨o3, s3, a3, n3, c3, x3, rfl, hy3, b3⟩; have HY3 : Hid ((2 : Int) ≠ 0 → o3 = G0.gO (O0.recd mem (k : Int)) ∧ x3 = D1.data mem (k : Int)) := hy3; clear hy3; have nl3 := K0.below_new w3 (.cells #[.int .i64 2, .int .i64 o3, .int .i64 s3, .slice a3 n3 c3] 50); have nb3 := K0.blk_new [.int .i64 2, .int .i64 o3, .int .i64 s3, .slice a3 n3 c3] w3 50; have y0 := nb3.c0; have y1 := nb3.c1)
      have ho3 := (HY3.out (by decide)).1
      have bf := (hbuf.below b3).below nl3
      have bl := (hbel.trans (b3.mono hbel.size)).trans (nl3.mono (Nat.le_trans hbel.size b3.size))
      have kd1 := (kb1.below b3).below nl3
      have kd2 := (kb2.below b3).below nl3
      have HO3 : Hid (o3 = G0.gO (O0.recd mem (k : Int))) := ho3
      clear HY3 ho3 nl3 nb3 hLo
      obtain ⟨W0, hW0⟩ : ∃ W0, w3.alloc (.cells #[.int .i64 2, .int .i64 o3, .int .i64 s3, .slice a3 n3 c3] 50) = W0 := ⟨_, rfl⟩
      rw [hW0] at bf bl kd1 kd2 y0 y1 ⊢
      have HGL : Hid (g < w3.heap.size ∧ W0.heap.size = w3.heap.size + 1) := ⟨Nat.lt_of_lt_of_le (hbuf.2.lt g rfl).2 b3.size, by rw [← hW0]; simp⟩
      have hS0 : W0.drew.cell? ⟨w3.heap.size, 0, none⟩ = some (.int .i64 2) ∧ W0.drew.cell? ⟨w3.heap.size, 1, none⟩ = some (.int .i64 o3) := ⟨y0, y1⟩
      have hS1 : (W0.drew.alloc (.cells #[.int .i64 (k : Int), .string (TR.full q), .int .i64 2, .int .i64 o3, .string ⟨#[]⟩] 38)).cell? ⟨w3.heap.size, 0, none⟩ = some (.int .i64 2) ∧ (W0.drew.alloc (.cells #[.int .i64 (k : Int), .string (TR.full q), .int .i64 2, .int .i64 o3, .string ⟨#[]⟩] 38)).cell? ⟨w3.heap.size, 1, none⟩ = some (.int .i64 o3) := by
       have h2 : w3.heap.size < W0.drew.heap.size := by have := HGL.out.2; show w3.heap.size < W0.heap.size; omega
       have hnew := K0.below_new W0.drew (.cells #[.int .i64 (k : Int), .string (TR.full q), .int .i64 2, .int .i64 o3, .string ⟨#[]⟩] 38)
       exact ⟨(hnew.cell (p := ⟨w3.heap.size, 0, none⟩) h2).trans hS0.1, (hnew.cell (p := ⟨w3.heap.size, 1, none⟩) h2).trans hS0.2⟩
      have hs0 : W0.drew.heap.size = w3.heap.size + 1 := HGL.out.2
      have bf0 := bf.drew
      have bl0 := bl.drew
      have kc1 := kd1.drew
      have kc2 := kd2.drew
      clear hW0 y0 y1 bf bl kd1 kd2 hbuf hbel kb1 kb2 b3
      go_region_held3 (fun W => W.cell? ⟨w3.heap.size, 0, none⟩ = some (.int .i64 2) ∧ W.cell? ⟨w3.heap.size, 1, none⟩ = some (.int .i64 o3)) (assumption) ((first
       | (go_at_call 35; refine (hPt.out _ kc1 kc2).mono ?_; rintro e w4 ⟨rfl, rfl⟩)
       | (refine step_file rfl (.tmp 38) (.tmp 50) rfl bf0 ⟨(k : Int), TR.full q, 2, o3, ⟨#[]⟩⟩ (by rfl) (H := w3.heap.size + 1) hs0 (by rfl) (by omega) bl0.size ?_; intro g5 c5 w5 bf5 b5 gr5 q5; have hS5 : w5.cell? ⟨w3.heap.size, 0, none⟩ = some (.int .i64 2) ∧ w5.cell? ⟨w3.heap.size, 1, none⟩ = some (.int .i64 o3) := ⟨gr5.cell hS0.1 (by have := HGL.out.1; simp; omega), gr5.cell hS0.2 (by have := HGL.out.1; simp; omega)⟩)))
      have HG5 : Hid (g5 ≠ g1 ∧ g5 ≠ g2) := by
       have h1 := kc1.lt
       have h2 := kc2.lt
       rcases q5 with e | e
       ·rw [e]
        exact ⟨n1, n2⟩
       ·exact ⟨by omega, by omega⟩
      go_wp2
      go_roundg (gk - 1)
      case measure => omega
      case rel => exact ⟨k + 1, n + 1, c5, g5, by omega, by go_num, rfl, by rw [HS.out o3 HO3.out]; exact bf5, TW.blk_gr kc1 gr5 n1.symm, TW.blk_gr kc2 gr5 n2.symm, HG5.out.1, HG5.out.2, bl0.trans b5⟩
     ·rw [if_neg h2] at hnd
      have HS0 : Hid (∀ o x, o = G0.gO (O0.recd mem (k : Int)) → x = D1.data mem (k : Int) → filesTo mem (fpath mem) (k + 1) = filesTo mem (fpath mem) k ++ [⟨(k : Int), TR.full q, tK mem k, o, x⟩]) := fun o x ho hx => by
       rw [hst, if_neg hz, flOf, hfp, ho, hx, hnd]
      have h2' : (tK mem k == 2) = false := by simpa using h2
      have HZ : Hid (tK mem k ≠ 0) := hz
      obtain ⟨K, hK⟩ : ∃ K, tK mem k = K := ⟨_, rfl⟩
      rw [hK] at hLo HS0 h2' HZ
      clear hst hz HP hdec hnd h2 hfp hAq hK
      go_wp2_with (go_at_call 34; refine (hLo.out _).mono ?_; rintro e w3 ⟨o3, s3, a3, n3, c3, x3, rfl, hy3, b3⟩; have HY3 : Hid (K ≠ 0 → o3 = G0.gO (O0.recd mem (k : Int)) ∧ x3 = D1.data mem (k : Int)) := hy3; clear hy3; have nl3 := K0.below_new w3 (.cells #[.int .i64 K, .int .i64 o3, .int .i64 s3, .slice a3 n3 c3] 50); have nb3 := K0.blk_new [.int .i64 K, .int .i64 o3, .int .i64 s3, .slice a3 n3 c3] w3 50; have y0 := nb3.c0; have y1 := nb3.c1)
      have HS : Hid (∀ o, o = G0.gO (O0.recd mem (k : Int)) → filesTo mem (fpath mem) (k + 1) = filesTo mem (fpath mem) k ++ [⟨(k : Int), TR.full q, K, o, x3⟩]) := fun o ho => HS0.out o x3 ho (HY3.out HZ.out).2
      have HO3 : Hid (o3 = G0.gO (O0.recd mem (k : Int))) := (HY3.out HZ.out).1
      have bf := (hbuf.below b3).below nl3
      have bl := (hbel.trans (b3.mono hbel.size)).trans (nl3.mono (Nat.le_trans hbel.size b3.size))
      have kd1 := (kb1.below b3).below nl3
      have kd2 := (kb2.below b3).below nl3
      clear HY3 nl3 nb3 hLo HS0
      obtain ⟨W0, hW0⟩ : ∃ W0, w3.alloc (.cells #[.int .i64 K, .int .i64 o3, .int .i64 s3, .slice a3 n3 c3] 50) = W0 := ⟨_, rfl⟩
      rw [hW0] at bf bl kd1 kd2 y0 y1 ⊢
      have HGL : Hid (g < w3.heap.size ∧ W0.heap.size = w3.heap.size + 1) := ⟨Nat.lt_of_lt_of_le (hbuf.2.lt g rfl).2 b3.size, by rw [← hW0]; simp⟩
      have hS0 : W0.drew.cell? ⟨w3.heap.size, 0, none⟩ = some (.int .i64 K) ∧ W0.drew.cell? ⟨w3.heap.size, 1, none⟩ = some (.int .i64 o3) := ⟨y0, y1⟩
      have hS1 : (W0.drew.alloc (.cells #[.int .i64 (k : Int), .string (TR.full q), .int .i64 K, .int .i64 o3, .string x3] 38)).cell? ⟨w3.heap.size, 0, none⟩ = some (.int .i64 K) ∧ (W0.drew.alloc (.cells #[.int .i64 (k : Int), .string (TR.full q), .int .i64 K, .int .i64 o3, .string x3] 38)).cell? ⟨w3.heap.size, 1, none⟩ = some (.int .i64 o3) := by
       have h2 : w3.heap.size < W0.drew.heap.size := by have := HGL.out.2; show w3.heap.size < W0.heap.size; omega
       have hnew := K0.below_new W0.drew (.cells #[.int .i64 (k : Int), .string (TR.full q), .int .i64 K, .int .i64 o3, .string x3] 38)
       exact ⟨(hnew.cell (p := ⟨w3.heap.size, 0, none⟩) h2).trans hS0.1, (hnew.cell (p := ⟨w3.heap.size, 1, none⟩) h2).trans hS0.2⟩
      have hs0 : W0.drew.heap.size = w3.heap.size + 1 := HGL.out.2
      have bf0 := bf.drew
      have bl0 := bl.drew
      have kc1 := kd1.drew
      have kc2 := kd2.drew
      clear hW0 y0 y1 bf bl kd1 kd2 hbuf hbel kb1 kb2 b3
      go_region_held3 (fun W => W.cell? ⟨w3.heap.size, 0, none⟩ = some (.int .i64 K) ∧ W.cell? ⟨w3.heap.size, 1, none⟩ = some (.int .i64 o3)) (assumption) ((first
       | (go_at_call 35; refine (hPt.out _ kc1 kc2).mono ?_; rintro e w4 ⟨rfl, rfl⟩)
       | (refine step_file rfl (.tmp 38) (.tmp 50) rfl bf0 ⟨(k : Int), TR.full q, K, o3, x3⟩ (by rfl) (H := w3.heap.size + 1) hs0 (by rfl) (by omega) bl0.size ?_; intro g5 c5 w5 bf5 b5 gr5 q5; have hS5 : w5.cell? ⟨w3.heap.size, 0, none⟩ = some (.int .i64 K) ∧ w5.cell? ⟨w3.heap.size, 1, none⟩ = some (.int .i64 o3) := ⟨gr5.cell hS0.1 (by have := HGL.out.1; simp; omega), gr5.cell hS0.2 (by have := HGL.out.1; simp; omega)⟩)))
      have HG5 : Hid (g5 ≠ g1 ∧ g5 ≠ g2) := by
       have h1 := kc1.lt
       have h2 := kc2.lt
       rcases q5 with e | e
       ·rw [e]
        exact ⟨n1, n2⟩
       ·exact ⟨by omega, by omega⟩
      go_wp2
      go_roundg (gk - 1)
      case measure => omega
      case rel => exact ⟨k + 1, n + 1, c5, g5, by omega, by go_num, rfl, by rw [HS.out o3 HO3.out]; exact bf5, TW.blk_gr kc1 gr5 n1.symm, TW.blk_gr kc2 gr5 n2.symm, HG5.out.1, HG5.out.2, bl0.trans b5⟩
   ·obtain rfl : k = 8 := by omega
    have hn : n = (filesTo mem (fpath mem) 8).length := hbuf.1
    subst hn
    have HB : Hid (FBuf w.heap.size wr g (filesTo mem (fpath mem) 8).length c (filesTo mem (fpath mem) 8)) := hbuf
    clear hbuf kb1 kb2 HP
    go_wp2
    go_ret
    exact ⟨g, c, rfl, (HB.out.2.lt g rfl).1, HB.out.blk, hbel⟩
end Go.Proofs.YtpkmeknniajahaaGreatDoor.FI
namespace Go.Proofs.YtpkmeknniajahaaGreatDoor.TY
open Go.ChangeShapes Go.WideShapes Go.ChangeAt Go.RowKit
open FI (Fl files)
open TW (sound)
open TU (line)
def srt (l : List Fl) : List Fl := TT.srtFrom (fun a b => TT.lt a.path b.path) [] l
def cat (o : ByteArray) : List Fl → ByteArray
 | [] => o
 | f :: r => cat (o ++ line f) r
def text (mem : ByteArray) : ByteArray := if sound mem = true then cat ⟨#[]⟩ (srt (files mem)) else ⟨#[98, 97, 100, 10]⟩
theorem spec_bad (mem : ByteArray) (w : World) (hms : mem.size ≤ 281474976710656) (hs : sound mem = false) : Calls Tryz.prog 19 #[.string mem] w fun e w' => e = .returned (.string (text mem)) ∧ Below w.heap.size w w' := by
 have hS := TS.spec_Sound mem w hms
 rw [hs] at hS
 have e : text mem = ⟨#[98, 97, 100, 10]⟩ := by unfold text; rw [hs]; rfl
 rw [e]
 clear hs e
 go_enter Tryz.func19, Tryz.ntmps19
 go_wp2_with (go_at_call 21; refine hS.mono ?_; rintro e w1 ⟨rfl, b1⟩)
 go_ret
 exact ⟨rfl, b1⟩
theorem impl_bad (mem : ByteArray) (w : World) (hms : mem.size ≤ 281474976710656) (hs : sound mem = false) : Calls Tryz.prog 18 #[.string mem] w fun e w' => e = .returned (.string (text mem)) ∧ Below w.heap.size w w' := by
 have hr := TW.readTree mem w hms
 have hA : Hid (∀ e w', TW.Ans mem w e w' → ∃ p, e = .returned (.tuple #[.pointer p, .bool (sound mem)]) ∧ Below w.heap.size w w' ∧ (sound mem = true → ∃ B N F P, p = some ⟨B, 0, none⟩ ∧ w.heap.size ≤ B ∧ TW.Good mem B N F P w')) := fun e w' h => h
 rw [hs] at hA
 have e : text mem = ⟨#[98, 97, 100, 10]⟩ := by unfold text; rw [hs]; rfl
 rw [e]
 clear hs e
 go_enter Tryz.func18, Tryz.ntmps18
 go_wp2_with (go_at_call 25; refine hr.mono ?_; intro e w1 hans; obtain ⟨p, rfl, b1, -⟩ := hA.out _ _ hans; clear hans)
 go_ret
 exact ⟨rfl, b1⟩
end Go.Proofs.YtpkmeknniajahaaGreatDoor.TY
namespace Go.Proofs.YtpkmeknniajahaaGreatDoor.TY
open Go.ChangeShapes Go.WideShapes Go.ChangeAt Go.RowKit
open FI (Fl files FBuf)
open TU (line)
theorem ins_at {α : Type} (p : α → α → Bool) (f : α) : ∀ (S : List α) (t : Nat), t ≤ S.length → (∀ j (hj : j < S.length), j < t → p S[j] f = true) → (∀ h : t < S.length, p S[t] f = false) → TT.ins p f S = S.take t ++ f :: S.drop t
 | [], t, ht, _, _ => by
  have : t = 0 := by simpa using ht
  subst this
  rfl
 | a :: S, 0, ht, _, h2 => by
  have := h2 (by simp)
  simp at this
  simp [TT.ins, this]
 | a :: S, t + 1, ht, h1, h2 => by
  have h0 := h1 0 (by simp) (by omega)
  simp at h0
  have ih := ins_at p f S t (by simpa using ht) (fun j hj hjt => h1 (j + 1) (Nat.succ_lt_succ hj) (by omega)) (fun h => h2 (Nat.succ_lt_succ h))
  unfold TT.ins at ih ⊢
  simp [h0, ih]
theorem srtFrom_snoc {α : Type} (p : α → α → Bool) (f : α) : ∀ (l acc : List α), TT.srtFrom p acc (l ++ [f]) = TT.ins p f (TT.srtFrom p acc l)
 | [], acc => rfl
 | a :: l, acc => by rw [List.cons_append, TT.srtFrom, TT.srtFrom, srtFrom_snoc p f l]
theorem srt_step (F : List Fl) (k : Nat) (hk : k < F.length) : srt (F.take (k + 1)) = TT.ins (fun a b => TT.lt a.path b.path) F[k] (srt (F.take k)) := by
 unfold srt
 rw [List.take_succ_eq_append_getElem hk, srtFrom_snoc]
theorem srt_length (l : List Fl) : (srt l).length = l.length := by
 have := (TT.srtFrom_perm (fun a b : Fl => TT.lt a.path b.path) l []).length_eq
 rw [List.nil_append] at this
 exact this
theorem cat_snoc (f : Fl) : ∀ (l : List Fl) (o : ByteArray), cat o (l ++ [f]) = cat o l ++ line f
 | [], o => rfl
 | a :: l, o => by rw [List.cons_append, cat, cat, cat_snoc f l]
theorem cat_step (S : List Fl) (k : Nat) (hk : k < S.length) (o : ByteArray) : cat o (S.take (k + 1)) = cat o (S.take k) ++ line S[k] := by
 rw [List.take_succ_eq_append_getElem hk, cat_snoc]
theorem fbuf_mono {base b' g n cap : Nat} {w : World} {l : List Fl} (h : FBuf b' w g n cap l) (hb : base ≤ b') : FBuf base w g n cap l := by
 obtain ⟨h0, h1, h2⟩ := h
 refine ⟨h0, h1, ?_⟩
 rcases h2 with h2 | ⟨g', c', cur, e, hg, r⟩
 ·exact Or.inl h2
 ·exact Or.inr ⟨g', c', cur, e, Nat.le_trans hb hg, r⟩
end Go.Proofs.YtpkmeknniajahaaGreatDoor.TY
namespace Go.Proofs.YtpkmeknniajahaaGreatDoor.TZ
open TR (At2 full)
open FI (Fl flOf filesTo files fpath)
open TW (tK tE sound)
open TU (glue words line letter dt hx)
open TY (srt cat)
variable {mem : ByteArray}
theorem dt_size (n : Int) (hn : (Lit.int .i64 n).wf = true) : (dt n).size ≤ 22 := by
 have hb : -9223372036854775808 ≤ n ∧ n ≤ 9223372036854775807 := by simpa [Lit.wf, IntKind.min, IntKind.max, IntKind.signed, IntKind.bits] using hn
 show (Lib.itoa n).toArray.size ≤ 22
 rw [List.size_toArray]
 by_cases h0 : n = 0
 ·subst h0
  have e : Lib.itoa 0 = [48] := by unfold Lib.itoa; rw [if_neg (by omega)]; exact Lib.decDigits_one (by omega)
  rw [e]
  decide
 ·by_cases h1 : 0 < n
  ·obtain ⟨v, rfl⟩ : ∃ v : Nat, n = (v : Int) := ⟨n.toNat, by omega⟩
   rw [D0.itoa_pos v (by omega)]
   have := D0.dd_length v (by omega)
   omega
  ·obtain ⟨v, rfl⟩ : ∃ v : Nat, n = -(v : Int) := ⟨n.natAbs, by omega⟩
   rw [D0.itoa_neg v (by omega)]
   have := D0.dd_length v (by omega)
   simp
   omega
theorem hx_size (s : ByteArray) : (hx s).size ≤ 2 * s.size + 1 := by
 unfold hx
 split
 ·show 1 ≤ _
  omega
 ·show (H0.hexL s.data.toList).toArray.size ≤ _
  rw [List.size_toArray, H0.hexL_length, ← Lib.size_eq]
  omega
theorem data_small (mem : ByteArray) (i : Int) (hm : mem.size = 768) : (D1.data mem i).size ≤ 192 := by
 unfold D1.data
 rw [ByteArray.size_extract]
 cases hI : G0.isI (O0.recd mem i) with
 | true =>
  have hg := O0.got hI
  have := hg.1
  omega
 | false =>
  rw [(G0.g_no hI).2.2.2]
  have : (O0.joined mem [] ([] : List Int).length).size = 0 := rfl
  omega
theorem owner_wf (s : ByteArray) : (Lit.int .i64 (G0.gO s)).wf = true := by
 have : 0 ≤ G0.gO s ∧ G0.gO s < 256 := by
  unfold G0.gO
  split
  ·exact E4.byteAt_lt s 1
  ·decide
 simp [Lit.wf, IntKind.min, IntKind.max, IntKind.signed, IntKind.bits]
 omega
theorem stands (hs : sound mem = true) {x : Nat} (hx : x < 8) (hk : tK mem x ≠ 0) : ∃ k q, k ≤ 8 ∧ At2 (tE mem) x k q ∧ fpath mem x = full q := by
 obtain ⟨_, _, hK0, ht⟩ := FI.sound_parts hs
 obtain ⟨k, q, hk8, hq⟩ : ∃ k q, k ≤ 8 ∧ At2 (tE mem) x k q := by
  by_cases h0 : x = 0
  ·subst h0
   exact ⟨0, _, by decide, At2.zero⟩
  ·have hone := TR.treeOk_iff.1 ht x (by omega) hx
   unfold TR.oneOk at hone
   simp only [Bool.and_eq_true, beq_iff_eq, Bool.or_eq_true] at hone
   exact FI.root_at2 8 x hx (hone.2.resolve_left hk)
 exact ⟨k, q, hk8, hq, by rw [fpath, (FI.up_of ht (TW.sane_ok mem) hq).2 8 hk8, TR.app_nil]⟩
theorem mem_files (hs : sound mem = true) {f : Fl} (h : f ∈ files mem) : ∃ x, x < 8 ∧ tK mem x ≠ 0 ∧ f = flOf mem (fpath mem) x := by
 have hu : files mem = filesTo mem (fpath mem) 8 := by unfold files; rw [if_pos hs]
 rw [hu] at h
 exact TV.mem_to h
theorem path_one (hs : sound mem = true) {a b : Fl} (ha : a ∈ files mem) (hb : b ∈ files mem) (e : a.path = b.path) : a = b := by
 obtain ⟨x, hx, hkx, rfl⟩ := mem_files hs ha
 obtain ⟨y, hy, hky, rfl⟩ := mem_files hs hb
 obtain ⟨k, q, _, h1, h2⟩ := stands hs hx hkx
 obtain ⟨k', q', _, h1', h2'⟩ := stands hs hy hky
 have e' : full q = full q' := by rw [← h2, ← h2']; exact e
 rw [TV.full_inj (TV.names_of mem) h1 h1' e']
theorem small (hs : sound mem = true) : ∀ s ∈ files mem, s.path.size ≤ 1000 ∧ s.data.size ≤ 1000 ∧ (Lit.int .i64 s.owner).wf = true ∧ (dt s.owner).size ≤ 30 ∧ (hx s.data).size ≤ 3000 := by
 intro s h
 obtain ⟨x, hx8, hkx, rfl⟩ := mem_files hs h
 obtain ⟨k, q, hk8, h1, h2⟩ := stands hs hx8 hkx
 have hm := (FI.sound_parts hs).1
 have hp : (fpath mem x).size ≤ 120 := by
  have := h1.size fun i e he => (TW.ent_ok mem i e he).2
  rw [h2]
  unfold full
  split
  ·decide
  ·omega
 have hd : (D1.nodeD mem (x : Int)).size ≤ 192 := by
  unfold D1.nodeD
  split
  ·decide
  ·exact data_small mem _ hm
 have ho := owner_wf (O0.recd mem (x : Int))
 have h4 := dt_size _ ho
 have h5 := hx_size (D1.nodeD mem (x : Int))
 show (fpath mem x).size ≤ 1000 ∧ (D1.nodeD mem (x : Int)).size ≤ 1000 ∧ (Lit.int .i64 (G0.gO (O0.recd mem (x : Int)))).wf = true ∧ (dt (G0.gO (O0.recd mem (x : Int)))).size ≤ 30 ∧ (hx (D1.nodeD mem (x : Int))).size ≤ 3000
 exact ⟨by omega, by omega, ho, by omega, by omega⟩
theorem letter_size (k : Int) : (letter k).size = 1 := by unfold letter; split <;> rfl
theorem line_size (f : Fl) : (line f).size = f.path.size + (dt f.owner).size + (hx f.data).size + 5 := by
 have e := congrArg ByteArray.size (TV.line_eq ⟨#[]⟩ f)
 simp only [ByteArray.size_append, letter_size] at e
 have h0 : (⟨#[]⟩ : ByteArray).size = 0 := rfl
 have h1 : (⟨#[32]⟩ : ByteArray).size = 1 := rfl
 have h2 : (⟨#[10]⟩ : ByteArray).size = 1 := rfl
 omega
theorem glue_size (f : Fl) : (glue (words f)).size + 1 = (line f).size := by
 unfold line
 rw [ByteArray.size_append]
 rfl
theorem cat_size (n : Nat) : ∀ (l : List Fl) (o : ByteArray), (∀ s ∈ l, (line s).size ≤ n) → (cat o l).size ≤ o.size + l.length * n
 | [], o, _ => by simp [cat]
 | f :: r, o, h => by
  have h1 := h f List.mem_cons_self
  have h2 := cat_size n r (o ++ line f) fun s hs => h s (List.mem_cons_of_mem _ hs)
  rw [cat]
  rw [ByteArray.size_append] at h2
  rw [List.length_cons, Nat.succ_mul]
  omega
theorem line_small (hs : sound mem = true) : ∀ s ∈ files mem, (line s).size ≤ 5000 := by
 intro s h
 obtain ⟨h1, h2, h3, h4, h5⟩ := small hs s h
 rw [line_size]
 omega
theorem cat_small (hs : sound mem = true) (S : List Fl) (j : Nat) (hl : S.length ≤ 8) (hm : ∀ s ∈ S, s ∈ files mem) : (cat ⟨#[]⟩ (S.take j)).size ≤ 100000 := by
 have h := cat_size 5000 (S.take j) ⟨#[]⟩ fun s hs' => line_small hs s (hm s (List.mem_of_mem_take hs'))
 have h0 : (⟨#[]⟩ : ByteArray).size = 0 := rfl
 have h1 : (S.take j).length ≤ 8 := by rw [List.length_take]; omega
 omega
end Go.Proofs.YtpkmeknniajahaaGreatDoor.TZ
