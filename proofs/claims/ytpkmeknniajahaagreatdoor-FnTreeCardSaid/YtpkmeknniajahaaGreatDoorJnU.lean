/- Joined texts: plain facts and contracts. -/
import Derived.Test.YtpkmeknniajahaaGreatDoorJnQ
import Derived.Deep.RegionHeld3
import Derived.Test.YtpkmeknniajahaaGreatDoorJnT
import Derived.Deep.RegionLaw
set_option linter.unusedVariables false
set_option linter.unusedSimpArgs false
set_option maxRecDepth 10000
namespace Go.Proofs.YtpkmeknniajahaaGreatDoor.FI
open Go.ChangeShapes Go.WideShapes Go.ChangeAt Go.RowKit
variable {w W W' : World} {mem : ByteArray} {B : Nat} {N : Nat → TW.Nd} {F : Nat → Nat} {P : Nat → ByteArray}
open TW (tK tZ tE cat nodesOk sound nds run_node)
set_option maxHeartbeats 4000000 in
theorem treeFiles (w : World) (hG : TW.Good mem B N F P w) :
  Calls Tryz.prog 26 #[.pointer (some ⟨B, 0, none⟩)] w fun e w' => ∃ g c, e = .returned (.slice (some ⟨g, 0, none⟩) (filesTo mem P 8).length c) ∧ w.heap.size ≤ g ∧ K0.Blk g (ffl (filesTo mem P 8)) w' ∧ Below w.heap.size w w' := by
 have hr := World.rangeAt_alloc hG.tb.range (.cells #[] 38)
 have hn48 : (nds N 8).length = 48 := TW.nds_length N 8
 have hix := fun i hi W => run_node N i hi W
 obtain ⟨C, hC⟩ : ∃ C, (nds N 8).toArray = C := ⟨_, rfl⟩
 have HC : Hid ((nds N 8).toArray = C) := hC
 rw [hC] at hix
 have HX : Hid (∀ i : Nat, i < 8 → ∀ W, (Instr.index 79 (.agg C) (.int .i64 (i : Int))).run Tryz.prog W = .ok (.agg #[.int .i64 (N i).k, .int .i64 (N i).o, .int .i64 (N i).s, .slice (N i).a (N i).n (N i).c, .string (N i).x, .slice (N i).ae (N i).ne (N i).ce]) W) := hix
 have b0 := fbuf_new (base := w.heap.size) w (Nat.le_refl _)
 have l0 := K0.below_new w (.cells #[] 38)
 have hlen := filesTo_len mem P
 have HG : Hid (TW.Good mem B N F P w) := hG
 clear hC hix hG
 go_enter Tryz.func26, Tryz.ntmps26
 go_wp2_with (refine wpList_load_mid rfl 79 (.tmp 9) rfl B 0 rfl _ _ hr Tryz.underlying79 rfl (by rw [TW.infoNodes, hn48]) ?_; rw [HC.out])
 clear hr
 go_loopw [3, 11] (fun v i w' => ∃ (k n c g : Nat), k ≤ 8 ∧ i = .int .i64 k ∧ v = .slice (some ⟨g, 0, none⟩) n c ∧ FBuf w.heap.size w' g n c (filesTo mem P k) ∧ Below w.heap.size w w') (fun _ i _ => 8 - (intOf i).toNat)
 case atStart => exact ⟨0, 0, 0, _, Nat.zero_le _, rfl, rfl, b0, l0⟩
 case round =>
  obtain ⟨k, n, c, g, hk, rfl, rfl, hbuf, hbel⟩ := hrel
  clear b0 l0
  by_cases hlt : k < 8
  ·have hx := HX.out k hlt
   have hnd := HG.out.nd k hlt
   have x1 := (HG.out.tb.below hbel HG.out.tb.lt).pth k hlt
   have tb1 := (HG.out.tb.below hbel HG.out.tb.lt)
   have e1 : (0 : Int) ≤ (k : Int) := by omega
   have e2 : (k : Int) < 8 := by omega
   have hnl : n ≤ 8 := by
    have := hlen k
    rw [hbuf.1]
    omega
   have hkk := hnd.k
   have hoo := hnd.o
   have hxx := hnd.x
   have hst : filesTo mem P (k + 1) = filesTo mem P k ++ if tK mem k = 0 then [] else [flOf mem P k] := rfl
   have hfl : flOf mem P k = ⟨(k : Int), P k, tK mem k, G0.gO (O0.recd mem (k : Int)), D1.nodeD mem (k : Int)⟩ := rfl
   rw [← hoo, ← hxx, ← hkk] at hfl
   rw [← hkk] at hst
   obtain ⟨d, hd⟩ : ∃ d, N k = d := ⟨_, rfl⟩
   rw [hd] at hx hfl hst
   obtain ⟨pk, hpk⟩ : ∃ pk, P k = pk := ⟨_, rfl⟩
   rw [hpk] at x1 hfl
   have nl := K0.below_new wr (.cells #[.int .i64 d.k, .int .i64 d.o, .int .i64 d.s, .slice d.a d.n d.c, .string d.x, .slice d.ae d.ne d.ce] 78)
   have nb := K0.blk_new [.int .i64 d.k, .int .i64 d.o, .int .i64 d.s, .slice d.a d.n d.c, .string d.x, .slice d.ae d.ne d.ce] wr 78
   have hbuf1 := hbuf.below nl
   have hbel1 := hbel.trans (nl.mono hbel.size)
   have x2 := (nl.cell (p := ⟨B, 56 + k, none⟩) tb1.lt).trans x1
   obtain ⟨c0, c1, c2, c3, c4, c5⟩ := D1.cells6 nb
   clear hnd hd hpk tb1 hkk hoo hxx
   by_cases hz : d.k = 0
   ·have HS : Hid (filesTo mem P (k + 1) = filesTo mem P k) := by
     show _ = _
     rw [hst, if_pos hz, List.append_nil]
    have hz' : (d.k != 0) = false := by simpa using hz
    clear hst hfl hz
    go_wp2
    go_roundw
    case rel => exact ⟨k + 1, n, c, g, by omega, by go_num, rfl, by rw [HS.out]; exact hbuf1, hbel1⟩
    case measure => simp [intOf]; omega
   ·have HS : Hid (filesTo mem P (k + 1) = filesTo mem P k ++ [⟨(k : Int), pk, d.k, d.o, d.x⟩]) := by
     show _ = _
     rw [hst, if_neg hz, hfl]
    have hz' : (d.k != 0) = true := by simpa using hz
    clear hst hfl hz
    go_wp2
    have hbuf2 := hbuf1.drew
    have hbel2 := hbel1.drew
    have HGL : Hid (g < wr.heap.size ∧ B < wr.heap.size ∧ B < g) := ⟨(hbuf.2.lt g rfl).2, Nat.lt_of_lt_of_le HG.out.tb.lt hbel.size, Nat.lt_of_lt_of_le HG.out.tb.lt (hbuf.2.lt g rfl).1⟩
    obtain ⟨W0, hW0⟩ : ∃ W0, wr.alloc (.cells #[.int .i64 d.k, .int .i64 d.o, .int .i64 d.s, .slice d.a d.n d.c, .string d.x, .slice d.ae d.ne d.ce] 78) = W0 := ⟨_, rfl⟩
    have hs0 : W0.heap.size = wr.heap.size + 1 := by rw [← hW0]; simp
    rw [hW0] at hbuf2 hbel2 c0 c1 c4 x2 ⊢
    have hS0 : W0.drew.cell? ⟨B, 56 + k, none⟩ = some (.string pk) ∧ W0.drew.cell? ⟨wr.heap.size, 0, none⟩ = some (.int .i64 d.k) ∧ W0.drew.cell? ⟨wr.heap.size, 1, none⟩ = some (.int .i64 d.o) ∧ W0.drew.cell? ⟨wr.heap.size, 4, none⟩ = some (.string d.x) := ⟨x2, c0, c1, c4⟩
    have hnew := K0.below_new W0.drew (.cells #[.int .i64 (k : Int), .string pk, .int .i64 d.k, .int .i64 d.o, .string d.x] 38)
    have hS1 : (W0.drew.alloc (.cells #[.int .i64 (k : Int), .string pk, .int .i64 d.k, .int .i64 d.o, .string d.x] 38)).cell? ⟨B, 56 + k, none⟩ = some (.string pk) ∧ (W0.drew.alloc (.cells #[.int .i64 (k : Int), .string pk, .int .i64 d.k, .int .i64 d.o, .string d.x] 38)).cell? ⟨wr.heap.size, 0, none⟩ = some (.int .i64 d.k) ∧ (W0.drew.alloc (.cells #[.int .i64 (k : Int), .string pk, .int .i64 d.k, .int .i64 d.o, .string d.x] 38)).cell? ⟨wr.heap.size, 1, none⟩ = some (.int .i64 d.o) ∧ (W0.drew.alloc (.cells #[.int .i64 (k : Int), .string pk, .int .i64 d.k, .int .i64 d.o, .string d.x] 38)).cell? ⟨wr.heap.size, 4, none⟩ = some (.string d.x) := by
     have h1 : B < W0.drew.heap.size := by have := HGL.out.2.1; show B < W0.heap.size; omega
     have h2 : wr.heap.size < W0.drew.heap.size := by show wr.heap.size < W0.heap.size; omega
     exact ⟨(hnew.cell (p := ⟨B, 56 + k, none⟩) h1).trans hS0.1, (hnew.cell (p := ⟨wr.heap.size, 0, none⟩) h2).trans hS0.2.1, (hnew.cell (p := ⟨wr.heap.size, 1, none⟩) h2).trans hS0.2.2.1, (hnew.cell (p := ⟨wr.heap.size, 4, none⟩) h2).trans hS0.2.2.2⟩
    clear hW0 hnew nl nb c2 c3 c5 hbuf1 hbel1 hbuf hbel hx x1
    go_region_held3 (fun W => W.cell? ⟨B, 56 + k, none⟩ = some (.string pk) ∧ W.cell? ⟨wr.heap.size, 0, none⟩ = some (.int .i64 d.k) ∧ W.cell? ⟨wr.heap.size, 1, none⟩ = some (.int .i64 d.o) ∧ W.cell? ⟨wr.heap.size, 4, none⟩ = some (.string d.x)) (assumption) ((refine step_file rfl (.tmp 19) (.tmp 36) rfl hbuf2 ⟨(k : Int), pk, d.k, d.o, d.x⟩ (by rfl) (H := wr.heap.size + 1) hs0 (by rfl) (by omega) hbel2.size ?_; intro g3 c3' w3 bf3 b3 gr3 _; have hS3 : w3.cell? ⟨B, 56 + k, none⟩ = some (.string pk) ∧ w3.cell? ⟨wr.heap.size, 0, none⟩ = some (.int .i64 d.k) ∧ w3.cell? ⟨wr.heap.size, 1, none⟩ = some (.int .i64 d.o) ∧ w3.cell? ⟨wr.heap.size, 4, none⟩ = some (.string d.x) := ⟨gr3.cell hS0.1 (by have := HGL.out.2.2; simp; omega), gr3.cell hS0.2.1 (by have := HGL.out.1; simp; omega), gr3.cell hS0.2.2.1 (by have := HGL.out.1; simp; omega), gr3.cell hS0.2.2.2 (by have := HGL.out.1; simp; omega)⟩))
    go_wp2
    go_roundw
    case rel => exact ⟨k + 1, n + 1, c3', g3, by omega, by go_num, rfl, by rw [HS.out]; exact bf3, hbel2.trans b3⟩
    case measure => simp [intOf]; omega
  ·obtain rfl : k = 8 := by omega
   have hn : n = (filesTo mem P 8).length := hbuf.1
   subst hn
   have HB : Hid (FBuf w.heap.size wr g (filesTo mem P 8).length c (filesTo mem P 8)) := hbuf
   clear hbuf HX HC
   go_wp2
   go_ret
   exact ⟨g, c, rfl, (HB.out.2.lt g rfl).1, HB.out.blk, hbel⟩
set_option maxHeartbeats 1000000 in
theorem impl_Files (mem : ByteArray) (w : World) (hms : mem.size ≤ 281474976710656) : Calls Tryz.prog 7 #[.string mem] w fun e w' => ∃ g c, e = .returned (.slice (some ⟨g, 0, none⟩) (files mem).length c) ∧ w.heap.size ≤ g ∧ K0.Blk g (ffl (files mem)) w' ∧ Below w.heap.size w w' := by
 have hr := TW.readTree mem w hms
 have hA : Hid (∀ e w', TW.Ans mem w e w' → ∃ p, e = .returned (.tuple #[.pointer p, .bool (sound mem)]) ∧ Below w.heap.size w w' ∧ (sound mem = true → ∃ B N F P, p = some ⟨B, 0, none⟩ ∧ w.heap.size ≤ B ∧ TW.Good mem B N F P w')) := fun e w' h => h
 cases hs : sound mem with
 | false =>
  rw [hs] at hA
  have hu : files mem = [] := by unfold files; rw [hs]; rfl
  rw [hu]
  clear hs hu
  go_enter Tryz.func7, Tryz.ntmps7
  go_wp2_with (go_at_call 25; refine hr.mono ?_; intro e w1 hans; obtain ⟨p, rfl, b1, -⟩ := hA.out _ _ hans; clear hans)
  go_ret
  exact ⟨_, _, rfl, b1.size, K0.blk_new [] w1 _, b1.alloc b1.size _⟩
 | true =>
  rw [hs] at hA
  obtain ⟨_, _, hK0, ht⟩ := sound_parts hs
  have hu : files mem = filesTo mem (fpath mem) 8 := by unfold files; rw [if_pos hs]
  have hp : Hid (∀ B N F P W, TW.Good mem B N F P W → Calls Tryz.prog 26 #[.pointer (some ⟨B, 0, none⟩)] W fun e w' => ∃ g c, e = .returned (.slice (some ⟨g, 0, none⟩) (files mem).length c) ∧ W.heap.size ≤ g ∧ K0.Blk g (ffl (files mem)) w' ∧ Below W.heap.size W w') := fun B N F P W h => by
   rw [hu, ← filesTo_congr 8 fun x hx hk => (path_eq h.inv hK0 ht hx hk).1]
   exact treeFiles W h
  clear hs hu hK0 ht
  go_enter Tryz.func7, Tryz.ntmps7
  go_wp2_with (first
   | (go_at_call 25; refine hr.mono ?_; intro e w1 hans; obtain ⟨p, rfl, b1, hy⟩ := hA.out _ _ hans; clear hans; obtain ⟨B, N, F, P, rfl, hB, hg⟩ := hy (by trivial); clear hy)
   | (go_at_call 26; refine (hp.out _ _ _ _ _ hg).mono ?_; rintro e w2 ⟨g2, c2, rfl, hg2, k2, b2⟩))
  go_ret
  exact ⟨g2, c2, rfl, Nat.le_trans b1.size hg2, k2, b1.trans (b2.mono b1.size)⟩
end Go.Proofs.YtpkmeknniajahaaGreatDoor.FI
namespace Go.Proofs.YtpkmeknniajahaaGreatDoor.FI
open Go.ChangeShapes Go.WideShapes Go.ChangeAt Go.RowKit
variable {w W W' : World} {mem : ByteArray}
open TW (tK tZ tE cat nodesOk sound)
def findI (p : ByteArray) : List Fl → Int
 | [] => -1
 | f :: r => if (f.path.toList == p.toList) = true then f.ino else findI p r
theorem findI_step {p : ByteArray} {l : List Fl} {k : Nat} (h : k < l.length) : findI p (l.drop k) = if ((l.getD k zf).path.toList == p.toList) = true then (l.getD k zf).ino else findI p (l.drop (k + 1)) := by
 rw [List.drop_eq_getElem_cons h, findI]
 simp [List.getD, h]
theorem files_len (mem : ByteArray) : (files mem).length ≤ 8 := by
 unfold files
 split
 ·exact filesTo_len mem _ 8
 ·exact Nat.zero_le _
theorem ret_int {a b : Int} (h : a = b) : Ending.returned (.int .i64 a) = .returned (.int .i64 b) := by rw [h]
set_option maxHeartbeats 2000000 in
theorem impl_Find (mem p : ByteArray) (w : World) (hms : mem.size ≤ 281474976710656) : Calls Tryz.prog 13 #[.string mem, .string p] w fun e w' => e = .returned (.int .i64 (findI p (files mem))) ∧ Below w.heap.size w w' := by
 have hF := impl_Files mem w hms
 have hlen := files_len mem
 obtain ⟨l, hl⟩ : ∃ l, files mem = l := ⟨_, rfl⟩
 rw [hl] at hF hlen ⊢
 have HR : Hid (findI p l = findI p (l.drop 0)) := by rw [List.drop_zero]; rfl
 obtain ⟨R, hR⟩ : ∃ R, findI p l = R := ⟨_, rfl⟩
 rw [hR] at HR ⊢
 clear hl hR
 go_enter Tryz.func13, Tryz.ntmps13
 go_wp2_with (go_at_call 7; refine hF.mono ?_; rintro e w1 ⟨g, c, rfl, hg, k1, b1⟩)
 go_loopg [10] l.length (fun gk i W => ∃ k : Nat, k + gk = l.length ∧ i = .int .i64 k ∧ Hid (R = findI p (l.drop k)) ∧ K0.Blk g (ffl l) W ∧ Below w.heap.size w W)
 case atStart => exact ⟨0, by omega, rfl, HR, k1, b1⟩
 case round =>
  obtain ⟨k, hk, rfl, H, kb, hbel⟩ := hrel
  clear k1 b1 HR
  by_cases hlt : k < l.length
  ·obtain ⟨x0, x1, x2, x3, x4⟩ := file_cells kb hlt
   have hst := findI_step (p := p) hlt
   obtain ⟨f, hf⟩ : ∃ f, l.getD k zf = f := ⟨_, rfl⟩
   rw [hf] at x0 x1 x2 x3 x4 hst
   have e1 : (0 : Int) ≤ (k : Int) := by omega
   have e2 : (k : Int) < (l.length : Int) := by omega
   have nl := K0.below_new wr (.cells #[.int .i64 f.ino, .string f.path, .int .i64 f.kind, .int .i64 f.owner, .string f.data] 38)
   have nb := K0.blk_new f.vals wr 38
   have y0 : (wr.alloc (.cells #[.int .i64 f.ino, .string f.path, .int .i64 f.kind, .int .i64 f.owner, .string f.data] 38)).cell? ⟨wr.heap.size, 0, none⟩ = some (.int .i64 f.ino) := nb.cell 0 (by simp [Fl.vals])
   have y1 : (wr.alloc (.cells #[.int .i64 f.ino, .string f.path, .int .i64 f.kind, .int .i64 f.owner, .string f.data] 38)).cell? ⟨wr.heap.size, 1, none⟩ = some (.string f.path) := nb.cell 1 (by simp [Fl.vals])
   have l2 := hbel.trans (nl.mono hbel.size)
   cases hp : (f.path.toList == p.toList) with
   | true =>
    have HV : Hid (f.ino = R) := by
     show f.ino = R
     rw [H.out, hst, if_pos hp]
    clear hst hf
    go_wp2
    go_ret
    exact ⟨ret_int HV.out, l2⟩
   | false =>
    have HV : Hid (R = findI p (l.drop (k + 1))) := by
     show R = _
     rw [H.out, hst, hp]
     rfl
    clear hst hf
    go_wp2
    go_roundg (gk - 1)
    case measure => omega
    case rel => exact ⟨k + 1, by omega, by go_num, HV, kb.below nl, l2⟩
  ·have HV : Hid (-1 = R) := by
    show -1 = R
    rw [H.out, List.drop_eq_nil_of_le (by omega)]
    rfl
   have e2 : ¬ ((k : Int) < (l.length : Int)) := by omega
   go_wp2
   go_ret
   exact ⟨ret_int HV.out, hbel⟩
set_option maxHeartbeats 2000000 in
theorem spec_Find (mem p : ByteArray) (w : World) (hms : mem.size ≤ 281474976710656) : Calls Tryz.prog 14 #[.string mem, .string p] w fun e w' => e = .returned (.int .i64 (findI p (files mem))) ∧ Below w.heap.size w w' := by
 have hF := spec_Files mem w hms
 have hlen := files_len mem
 obtain ⟨l, hl⟩ : ∃ l, files mem = l := ⟨_, rfl⟩
 rw [hl] at hF hlen ⊢
 have HR : Hid (findI p l = findI p (l.drop 0)) := by rw [List.drop_zero]; rfl
 obtain ⟨R, hR⟩ : ∃ R, findI p l = R := ⟨_, rfl⟩
 rw [hR] at HR ⊢
 clear hl hR
 go_enter Tryz.func14, Tryz.ntmps14
 go_wp2_with (go_at_call 12; refine hF.mono ?_; rintro e w1 ⟨g, c, rfl, hg, k1, b1⟩)
 go_loopg [6] l.length (fun gk i W => ∃ k : Nat, k + gk = l.length ∧ i = .int .i64 k ∧ Hid (R = findI p (l.drop k)) ∧ K0.Blk g (ffl l) W ∧ Below w.heap.size w W)
 case atStart => exact ⟨0, by omega, rfl, HR, k1, b1⟩
 case round =>
  obtain ⟨k, hk, rfl, H, kb, hbel⟩ := hrel
  clear k1 b1 HR
  by_cases hlt : k < l.length
  ·obtain ⟨x0, x1, x2, x3, x4⟩ := file_cells kb hlt
   have hst := findI_step (p := p) hlt
   obtain ⟨f, hf⟩ : ∃ f, l.getD k zf = f := ⟨_, rfl⟩
   rw [hf] at x0 x1 x2 x3 x4 hst
   have e1 : (0 : Int) ≤ (k : Int) := by omega
   have e2 : (k : Int) < (l.length : Int) := by omega
   cases hp : (f.path.toList == p.toList) with
   | true =>
    have HV : Hid (f.ino = R) := by
     show f.ino = R
     rw [H.out, hst, if_pos hp]
    clear hst hf
    go_wp2
    go_ret
    exact ⟨ret_int HV.out, hbel⟩
   | false =>
    have HV : Hid (R = findI p (l.drop (k + 1))) := by
     show R = _
     rw [H.out, hst, hp]
     rfl
    clear hst hf
    go_wp2
    go_roundg (gk - 1)
    case measure => omega
    case rel => exact ⟨k + 1, by omega, by go_num, HV, kb, hbel⟩
  ·have HV : Hid (-1 = R) := by
    show -1 = R
    rw [H.out, List.drop_eq_nil_of_le (by omega)]
    rfl
   have e2 : ¬ ((k : Int) < (l.length : Int)) := by omega
   go_wp2
   go_ret
   exact ⟨ret_int HV.out, hbel⟩
end Go.Proofs.YtpkmeknniajahaaGreatDoor.FI
namespace Go.Proofs.YtpkmeknniajahaaGreatDoor.Y1
open Go.ChangeShapes Go.WideShapes Go.ChangeAt Go.RowKit
open N0 (Ln)
open N1 (Sl Lists)
open D1 (nodeE)
open J0 (IBuf Own)
open I2 (ints)
def Apart (W : World) (be : Option Addr) (es : List T0.Ent) (a : Option Addr) : Prop := T0.Row W be es ∧ (es = [] ∨ ∀ p q, a = some p → be = some q → p.block ≠ q.block)
variable {w W W' : World} {a a' be : Option Addr} {es : List T0.Ent}
theorem Apart.below (h : Apart W be es a) (hb : Below W.heap.size W W') : Apart W' be es a := ⟨h.1.below hb, h.2⟩
theorem Apart.grown {n c n' c' : Nat} (h : Apart W be es a) (hg : W.grownBy W' (Value.slice a n c).ownBlock) (hn : ∀ g, (Value.slice a' n' c').ownBlock = some g → (Value.slice a n c).ownBlock = some g ∨ g = W.heap.size) : Apart W' be es a' := by
 rcases h.1 with h0 | ⟨b, off, rfl, hlt, hc⟩
 ·exact ⟨Or.inl h0, Or.inl h0⟩
 ·rcases h.2 with h0 | hne
  ·exact ⟨Or.inl h0, Or.inl h0⟩
  ·have hb : W'.heap[b]? = W.heap[b]? := hg.block b hlt (fun q => by
    cases a with
    | none => cases q
    | some p => exact hne p _ rfl rfl (by simpa [Value.ownBlock] using q.symm))
   refine ⟨Or.inr ⟨b, off, rfl, Nat.lt_of_lt_of_le hlt hg.size, fun j hj => ⟨(World.cell?_of_block (a := ⟨b, off + j * 2, none⟩) hb).trans (hc j hj).1, (World.cell?_of_block (a := ⟨b, off + j * 2 + 1, none⟩) hb).trans (hc j hj).2⟩⟩, Or.inr fun p q hp hq => ?_⟩
   cases hq
   subst hp
   rcases hn p.block rfl with h1 | h1
   ·cases a with
    | none => cases h1
    | some p0 =>
     have : p0.block = p.block := by simpa [Value.ownBlock] using h1
     rw [← this]
     exact hne p0 _ rfl rfl
   ·show p.block ≠ b
    omega
theorem row_one (w : World) (z : Int) : P0.Row (w.alloc (.cells #[.int .i64 z] 3)) (some ⟨w.heap.size, 0, none⟩) [z] := I2.row_of_blk (K0.blk_new (ints [z]) w 3)
end Go.Proofs.YtpkmeknniajahaaGreatDoor.Y1
namespace Go.Proofs.YtpkmeknniajahaaGreatDoor.Y2
open Go.ChangeShapes Go.WideShapes Go.ChangeAt Go.RowKit
open J0 (IBuf Own)
open I2 (ints)
theorem step_rows {base n cp : Nat} {p : Option Addr} {W : World} {zs : List Int} {ops : Array Oper} {o : Oper} {A : Act} {K : Act → World → Prop} {Q : Exit → Act → World → Prop} {E : Prop} (hgd : o.guard = none) (sl x : Operand)
  (ho : o.op = .call { callee := .builtin .append, args := #[sl, x], argTypes := #[28, 28] })
  (hbuf : IBuf base W p n cp zs) (ax : Option Addr) (cx : Nat) (xs : List Int) (hs : A.eval sl = .slice p n cp) (hx : A.eval x = .slice ax xs.length cx) (hR : P0.Row W ax xs) (hlen : n + xs.length ≤ 4194304) (hb : base ≤ W.heap.size)
  (h : ∀ a' cap' w', IBuf base w' a' (n + xs.length) cap' (zs ++ xs) → W.grownBy w' (Value.slice p n cp).ownBlock → K (A.put o.dst (.slice a' (n + xs.length) cap')) w') :
  if Region.wanted o (yielded ops A.tmps) = true then Oper.wp Tryz.prog o A W K Q else E := by
 have hw : Region.wanted o (yielded ops A.tmps) = true := by simp [Region.wanted, hgd]
 rw [if_pos hw]
 obtain ⟨a', cap', w', hrun, r1, r2, r3⟩ := D7.run_rows o.type hbuf ax cx xs hR hlen hb
 exact Lib.wp_append_run _ sl x 28 28 ho _ _ hs hx _ _ hrun (h a' cap' w' r1 r2)
theorem row_grown {W W' : World} {ax : Option Addr} {xs : List Int} {r : Option Nat} (h : P0.Row W ax xs) (hg : W.grownBy W' r) (hne : ∀ p, ax = some p → r ≠ some p.block) : P0.Row W' ax xs := by
 rcases h with h | ⟨b, off, rfl, hlt, hc⟩
 ·exact Or.inl h
 ·have hb : W'.heap[b]? = W.heap[b]? := hg.block b hlt (fun q => hne _ rfl q.symm)
  exact Or.inr ⟨b, off, rfl, Nat.lt_of_lt_of_le hlt hg.size, fun j hj => (World.cell?_of_block (a := ⟨b, off + j, none⟩) hb).trans (hc j hj)⟩
theorem ibuf_mono {base base' n c : Nat} {a : Option Addr} {w : World} {zs : List Int} (h : IBuf base w a n c zs) (hb : base' ≤ base) : IBuf base' w a n c zs := by
 refine ⟨h.1, h.2.1, ?_⟩
 rcases h.2.2 with h0 | ⟨g, cap, cur, hv, hg, r⟩
 ·exact Or.inl h0
 ·exact Or.inr ⟨g, cap, cur, hv, Nat.le_trans hb hg, r⟩
end Go.Proofs.YtpkmeknniajahaaGreatDoor.Y2
namespace Go.Proofs.YtpkmeknniajahaaGreatDoor.Y5
open Go.ChangeShapes Go.WideShapes Go.ChangeAt Go.RowKit
open J0 (IBuf Own)
open I2 (ints)
open Y2 (step_rows row_grown ibuf_mono)
def ins (zs : List Int) (x : Int) : List Int := zs.takeWhile (fun z => decide (z < x)) ++ x :: zs.dropWhile (fun z => decide (z < x))
theorem ins_at {zs : List Int} {x : Int} {k : Nat} (hk : k ≤ zs.length) (h1 : ∀ j, j < k → zs.getD j 0 < x) (h2 : k < zs.length → ¬ zs.getD k 0 < x) : ins zs x = zs.take k ++ x :: zs.drop k := by
 induction zs generalizing k with
 | nil => cases k <;> rfl
 | cons z zs ih =>
  cases k with
  | zero =>
   have h := h2 (by simp)
   have h' : ¬ z < x := by simpa using h
   simp [ins, List.takeWhile_cons, List.dropWhile_cons, h']
  | succ k =>
   have h := h1 0 (by omega)
   have h' : z < x := by simpa using h
   have hi := ih (k := k) (by simpa using hk) (fun j hj => by simpa using h1 (j + 1) (by omega)) (fun hl => by simpa using h2 (by simpa using hl))
   unfold ins at hi ⊢
   simp only [List.takeWhile_cons, List.dropWhile_cons, decide_eq_true h', if_true, List.cons_append, List.take_succ_cons, List.drop_succ_cons]
   rw [hi]
theorem ins_perm (zs : List Int) (x : Int) : (ins zs x).Perm (x :: zs) := by
 unfold ins
 refine (List.perm_middle).trans ?_
 rw [List.takeWhile_append_dropWhile]
theorem ins_sorted {zs : List Int} (x : Int) (h : zs.Pairwise (· ≤ ·)) : (ins zs x).Pairwise (· ≤ ·) := by
 induction zs with
 | nil => simp [ins]
 | cons z zs ih =>
  have hz := List.pairwise_cons.1 h
  by_cases hx : z < x
  ·have : ins (z :: zs) x = z :: ins zs x := by simp [ins, List.takeWhile_cons, List.dropWhile_cons, hx]
   rw [this, List.pairwise_cons]
   refine ⟨fun y hy => ?_, ih hz.2⟩
   rcases List.mem_cons.1 ((ins_perm zs x).mem_iff.1 hy) with rfl | hm
   ·omega
   ·exact hz.1 y hm
  ·have : ins (z :: zs) x = x :: z :: zs := by simp [ins, List.takeWhile_cons, List.dropWhile_cons, hx]
   rw [this, List.pairwise_cons]
   refine ⟨fun y hy => ?_, h⟩
   rcases List.mem_cons.1 hy with rfl | hm
   ·omega
   ·have := hz.1 y hm
    omega
theorem ret_len {a : Option Addr} {c n m : Nat} (h : n = m) : Ending.returned (.slice a n c) = .returned (.slice a m c) := by rw [h]
theorem row_drop {W : World} {g off k : Nat} {zs : List Int} (h : P0.Row W (some ⟨g, off, none⟩) zs) (hk : k ≤ zs.length) : P0.Row W (some ⟨g, off + k, none⟩) (zs.drop k) := by
 rcases h with h | ⟨b, o, e, hlt, hc⟩
 ·subst h
  exact Or.inl (by simp)
 ·cases e
  refine Or.inr ⟨g, off + k, rfl, hlt, fun j hj => ?_⟩
  rw [List.length_drop] at hj
  have := hc (k + j) (by omega)
  rw [show off + k + j = off + (k + j) by omega, this, P0.getD_get _ _ (by omega), P0.getD_get _ _ (by rw [List.length_drop]; omega), List.getElem_drop]
theorem row_take {W : World} {g off k : Nat} {zs : List Int} (h : P0.Row W (some ⟨g, off, none⟩) zs) (hk : k ≤ zs.length) : P0.Row W (some ⟨g, off, none⟩) (zs.take k) := by
 rcases h with h | ⟨b, o, e, hlt, hc⟩
 ·subst h
  exact Or.inl (by simp)
 ·cases e
  refine Or.inr ⟨g, off, rfl, hlt, fun j hj => ?_⟩
  rw [List.length_take] at hj
  rw [hc j (by omega), P0.getD_get _ _ (by omega), P0.getD_get _ _ (by rw [List.length_take]; omega), List.getElem_take]
set_option maxHeartbeats 4000000 in
theorem l04Add (g off c : Nat) (zs : List Int) (x : Int) (w : World) (hn : zs.length ≤ 1048576) (hc : zs.length ≤ c) (hR : P0.Row w (some ⟨g, off, none⟩) zs) :
  Calls Tryz.prog 37 #[.slice (some ⟨g, off, none⟩) zs.length c, .int .i64 x] w fun e w' => ∃ a' c', e = .returned (.slice a' (zs.length + 1) c') ∧ IBuf w.heap.size w' a' (zs.length + 1) c' (ins zs x) ∧ Below w.heap.size w w' := by
 go_enter Tryz.func37, Tryz.ntmps37
 go_wp2
 go_loop [5] (fun i => ∃ k : Nat, k ≤ zs.length ∧ (∀ j, j < k → zs.getD j 0 < x) ∧ i = .int .i64 k) (fun i => zs.length - (intOf i).toNat)
 case atStart => exact ⟨0, Nat.zero_le _, fun j hj => absurd hj (by omega), rfl⟩
 case round =>
  obtain ⟨k, hk, hless, rfl⟩ := hrel
  have hgo : (k < zs.length ∧ zs.getD k 0 < x) ∨ ((k < zs.length → ¬ zs.getD k 0 < x)) := by
   by_cases h1 : k < zs.length
   ·by_cases h2 : zs.getD k 0 < x
    ·exact Or.inl ⟨h1, h2⟩
    ·exact Or.inr fun _ => h2
   ·exact Or.inr fun h => absurd h h1
  rcases hgo with ⟨hlt, x2⟩ | hend
  ·obtain ⟨b, of2, hab, _, hcl⟩ := hR.get hlt
   cases hab
   have x1 := hcl k hlt
   have HL : Hid (∀ j, j < k + 1 → zs.getD j 0 < x) := fun j hj => by
    by_cases h : j = k
    ·subst h; exact x2
    ·exact hless j (by omega)
   obtain ⟨z, ez⟩ : ∃ z, zs.getD k 0 = z := ⟨_, rfl⟩
   rw [ez] at x1 x2
   have e1 : (0 : Int) ≤ (k : Int) := by omega
   have e2 : (k : Int) < (zs.length : Int) := by omega
   clear ez hcl hR hless
   go_wp2
   go_round
   case rel => exact ⟨k + 1, by omega, HL.out, by go_num⟩
   case measure => simp [intOf]; omega
  ·have HI : Hid (ins zs x = zs.take k ++ x :: zs.drop k) := ins_at hk hless hend
   have e1 : (0 : Int) ≤ (k : Int) := by omega
   have e2 : (k : Int) ≤ (c : Int) := by omega
   have e3 : (k : Int) ≤ (zs.length : Int) := by omega
   have L0 : Below w.heap.size w w.drew := (Below.refl _ _).drew
   have L1 := L0.alloc L0.size (.cells #[] 3)
   have L2 := L1.alloc L1.size (.cells #[.int .i64 x] 3)
   have M1 := L0.alloc L0.size (.cells #[.int .i64 x] 3)
   have L3 := M1.alloc M1.size (.cells #[] 3)
   have B1 := J0.ibuf_made w.drew L0.size
   have B2 := B1.alloc (.cells #[.int .i64 x] 3)
   have B3 := J0.ibuf_made (w.drew.alloc (.cells #[.int .i64 x] 3)) M1.size
   have X2 := Y1.row_one (w.drew.alloc (.cells #[] 3)) x
   have X3 := (Y1.row_one w.drew x).alloc (.cells #[] 3)
   have hTr := row_take (k := k) hR hk
   have hDr := row_drop (k := k) hR hk
   have hTl : (zs.take k).length = k := by rw [List.length_take]; omega
   have hDl : (zs.drop k).length = zs.length - k := List.length_drop
   have hsum : k + (zs.length - k) = zs.length := by omega
   have htest : (k = zs.length) ∨ (k < zs.length ∧ ∃ z, w.cell? ⟨g, off + k, none⟩ = some (.int .i64 z) ∧ decide (z < x) = false) := by
    by_cases h : k < zs.length
    ·right
     obtain ⟨b, of2, hab, _, hcl⟩ := hR.get h
     cases hab
     exact ⟨h, _, hcl k h, by simpa using hend h⟩
    ·left; omega
   obtain ⟨T, hT⟩ : ∃ T, zs.take k = T := ⟨_, rfl⟩
   obtain ⟨D, hD⟩ : ∃ D, zs.drop k = D := ⟨_, rfl⟩
   rw [hT] at HI hTr hTl
   rw [hD] at HI hDr hDl
   clear hT hD hless hend hR
   rcases htest with hkn | ⟨hkn, z, hz, hzx⟩
   ·subst hkn
    obtain rfl : D = [] := List.eq_nil_of_length_eq_zero (by omega)
    have e9 : decide ((zs.length : Int) < (zs.length : Int)) = false := by simp
    clear hDr hDl hsum
    by_cases hcn : c = zs.length
    ·subst c
     clear hk hc
     go_wp2
     go_region_law (first
      | (refine step_rows rfl (.tmp 27) (.tmp 30) rfl f8 (some ⟨g, off, none⟩) (0) [] (by simp [Act.eval, Act.put, hTl]) (by simp [Act.eval, Act.put, hTl]) (Or.inl rfl) (by simp only [List.length_cons, List.length_nil]; omega) l8.size ?_; intro a9 c9 w9 f9 g9; have l9 := l8.trans (D7.run_below f8 l8.size g9))
      | (refine step_rows rfl (.tmp 24) (.tmp 26) rfl f7 _ _ [x] (by simp [Act.eval, Act.put, hTl]) (by simp [Act.eval, Act.put]; rfl) x7 (by simp only [List.length_cons, List.length_nil]; omega) l7.size ?_; intro a8 c8 w8 f8 g8; have l8 := l7.trans (D7.run_below f7 l7.size g8))
      | (refine step_rows rfl (.tmp 24) (.tmp 26) rfl (f7.alloc (.cells #[.int .i64 x] 3)) (some ⟨w7.heap.size, 0, none⟩) 1 [x] (by simp [Act.eval, Act.put, hTl]) (by simp [Act.eval, Act.put]) (Y1.row_one w7 x) (by simp only [List.length_cons, List.length_nil]; omega) (l7.alloc l7.size _).size ?_; intro a8 c8 w8 f8 g8; have l8 := (l7.alloc l7.size (.cells #[.int .i64 x] 3)).trans (D7.run_below (f7.alloc (.cells #[.int .i64 x] 3)) (l7.alloc l7.size (.cells #[.int .i64 x] 3)).size g8))
      | (refine step_rows rfl (.tmp 20) (.tmp 23) rfl B1 (some ⟨g, off, none⟩) zs.length T (by simp [Act.eval, Act.put]) (by simp [Act.eval, Act.put, hTl]) (hTr.below L1) (by omega) L1.size ?_; intro a7 c7 w7 f7 g7; have l7 := L1.trans (D7.run_below B1 L1.size g7))
      | (refine step_rows rfl (.tmp 20) (.tmp 23) rfl B2 (some ⟨g, off, none⟩) zs.length T (by simp [Act.eval, Act.put]) (by simp [Act.eval, Act.put, hTl]) (hTr.below L2) (by omega) L2.size ?_; intro a7 c7 w7 f7 g7; have l7 := L2.trans (D7.run_below B2 L2.size g7); have x7 := row_grown X2 g7 (by rintro p ⟨⟩ h; simp [Value.ownBlock] at h))
      | (refine step_rows rfl (.tmp 20) (.tmp 23) rfl B3 (some ⟨g, off, none⟩) zs.length T (by simp [Act.eval, Act.put]) (by simp [Act.eval, Act.put, hTl]) (hTr.below L3) (by omega) L3.size ?_; intro a7 c7 w7 f7 g7; have l7 := L3.trans (D7.run_below B3 L3.size g7); have x7 := row_grown X3 g7 (by rintro p ⟨⟩ h; simp [Value.ownBlock] at h)))
     all_goals
      have f9 : IBuf w.heap.size w9 a9 (zs.length + 1) c9 (ins zs x) := by
       rw [HI.out]
       have hf := f9
       simp only [List.nil_append, List.append_assoc, List.cons_append, List.append_nil] at hf
       rw [show 0 + T.length + [x].length + ([] : List Int).length = zs.length + 1 by simp only [List.length_cons, List.length_nil]; omega] at hf
       exact hf
      go_wp2
      go_ret
      exact ⟨a9, c9, by rfl, f9, l9⟩
    ·clear hk
     go_wp2
     go_region_law (first
      | (refine step_rows rfl (.tmp 27) (.tmp 30) rfl f8 (some ⟨g, off + zs.length, none⟩) (c - zs.length) [] (by simp [Act.eval, Act.put, hTl]) (by simp [Act.eval, Act.put, hTl]) (Or.inl rfl) (by simp only [List.length_cons, List.length_nil]; omega) l8.size ?_; intro a9 c9 w9 f9 g9; have l9 := l8.trans (D7.run_below f8 l8.size g9))
      | (refine step_rows rfl (.tmp 24) (.tmp 26) rfl f7 _ _ [x] (by simp [Act.eval, Act.put, hTl]) (by simp [Act.eval, Act.put]; rfl) x7 (by simp only [List.length_cons, List.length_nil]; omega) l7.size ?_; intro a8 c8 w8 f8 g8; have l8 := l7.trans (D7.run_below f7 l7.size g8))
      | (refine step_rows rfl (.tmp 24) (.tmp 26) rfl (f7.alloc (.cells #[.int .i64 x] 3)) (some ⟨w7.heap.size, 0, none⟩) 1 [x] (by simp [Act.eval, Act.put, hTl]) (by simp [Act.eval, Act.put]) (Y1.row_one w7 x) (by simp only [List.length_cons, List.length_nil]; omega) (l7.alloc l7.size _).size ?_; intro a8 c8 w8 f8 g8; have l8 := (l7.alloc l7.size (.cells #[.int .i64 x] 3)).trans (D7.run_below (f7.alloc (.cells #[.int .i64 x] 3)) (l7.alloc l7.size (.cells #[.int .i64 x] 3)).size g8))
      | (refine step_rows rfl (.tmp 20) (.tmp 23) rfl B1 (some ⟨g, off, none⟩) c T (by simp [Act.eval, Act.put]) (by simp [Act.eval, Act.put, hTl]) (hTr.below L1) (by omega) L1.size ?_; intro a7 c7 w7 f7 g7; have l7 := L1.trans (D7.run_below B1 L1.size g7))
      | (refine step_rows rfl (.tmp 20) (.tmp 23) rfl B2 (some ⟨g, off, none⟩) c T (by simp [Act.eval, Act.put]) (by simp [Act.eval, Act.put, hTl]) (hTr.below L2) (by omega) L2.size ?_; intro a7 c7 w7 f7 g7; have l7 := L2.trans (D7.run_below B2 L2.size g7); have x7 := row_grown X2 g7 (by rintro p ⟨⟩ h; simp [Value.ownBlock] at h))
      | (refine step_rows rfl (.tmp 20) (.tmp 23) rfl B3 (some ⟨g, off, none⟩) c T (by simp [Act.eval, Act.put]) (by simp [Act.eval, Act.put, hTl]) (hTr.below L3) (by omega) L3.size ?_; intro a7 c7 w7 f7 g7; have l7 := L3.trans (D7.run_below B3 L3.size g7); have x7 := row_grown X3 g7 (by rintro p ⟨⟩ h; simp [Value.ownBlock] at h)))
     all_goals
      have f9 : IBuf w.heap.size w9 a9 (zs.length + 1) c9 (ins zs x) := by
       rw [HI.out]
       have hf := f9
       simp only [List.nil_append, List.append_assoc, List.cons_append, List.append_nil] at hf
       rw [show 0 + T.length + [x].length + ([] : List Int).length = zs.length + 1 by simp only [List.length_cons, List.length_nil]; omega] at hf
       exact hf
      go_wp2
      go_ret
      exact ⟨a9, c9, by rfl, f9, l9⟩
   ·have e4 : (k : Int) < (zs.length : Int) := by omega
    have hck : ¬ c = k := by omega
    go_wp2
    go_region_law (first
     | (refine step_rows rfl (.tmp 27) (.tmp 30) rfl f8 (some ⟨g, off + k, none⟩) (c - k) D (by simp [Act.eval, Act.put, hTl, hDl]) (by simp [Act.eval, Act.put, hTl, hDl]) (hDr.below l8) (by simp only [List.length_cons, List.length_nil]; omega) l8.size ?_; intro a9 c9 w9 f9 g9; have l9 := l8.trans (D7.run_below f8 l8.size g9))
     | (refine step_rows rfl (.tmp 24) (.tmp 26) rfl f7 _ _ [x] (by simp [Act.eval, Act.put, hTl, hDl]) (by simp [Act.eval, Act.put]; rfl) x7 (by simp only [List.length_cons, List.length_nil]; omega) l7.size ?_; intro a8 c8 w8 f8 g8; have l8 := l7.trans (D7.run_below f7 l7.size g8))
     | (refine step_rows rfl (.tmp 24) (.tmp 26) rfl (f7.alloc (.cells #[.int .i64 x] 3)) (some ⟨w7.heap.size, 0, none⟩) 1 [x] (by simp [Act.eval, Act.put, hTl, hDl]) (by simp [Act.eval, Act.put]) (Y1.row_one w7 x) (by simp only [List.length_cons, List.length_nil]; omega) (l7.alloc l7.size _).size ?_; intro a8 c8 w8 f8 g8; have l8 := (l7.alloc l7.size (.cells #[.int .i64 x] 3)).trans (D7.run_below (f7.alloc (.cells #[.int .i64 x] 3)) (l7.alloc l7.size (.cells #[.int .i64 x] 3)).size g8))
     | (refine step_rows rfl (.tmp 20) (.tmp 23) rfl B1 (some ⟨g, off, none⟩) c T (by simp [Act.eval, Act.put]) (by simp [Act.eval, Act.put, hTl, hDl]) (hTr.below L1) (by omega) L1.size ?_; intro a7 c7 w7 f7 g7; have l7 := L1.trans (D7.run_below B1 L1.size g7))
     | (refine step_rows rfl (.tmp 20) (.tmp 23) rfl B2 (some ⟨g, off, none⟩) c T (by simp [Act.eval, Act.put]) (by simp [Act.eval, Act.put, hTl, hDl]) (hTr.below L2) (by omega) L2.size ?_; intro a7 c7 w7 f7 g7; have l7 := L2.trans (D7.run_below B2 L2.size g7); have x7 := row_grown X2 g7 (by rintro p ⟨⟩ h; simp [Value.ownBlock] at h))
     | (refine step_rows rfl (.tmp 20) (.tmp 23) rfl B3 (some ⟨g, off, none⟩) c T (by simp [Act.eval, Act.put]) (by simp [Act.eval, Act.put, hTl, hDl]) (hTr.below L3) (by omega) L3.size ?_; intro a7 c7 w7 f7 g7; have l7 := L3.trans (D7.run_below B3 L3.size g7); have x7 := row_grown X3 g7 (by rintro p ⟨⟩ h; simp [Value.ownBlock] at h)))
    all_goals
     have f9 : IBuf w.heap.size w9 a9 (zs.length + 1) c9 (ins zs x) := by
      rw [HI.out]
      have hf := f9
      simp only [List.nil_append, List.append_assoc, List.cons_append, List.append_nil] at hf
      rw [show 0 + T.length + [x].length + D.length = zs.length + 1 by simp only [List.length_cons, List.length_nil]; omega] at hf
      exact hf
     go_wp2
     go_ret
     exact ⟨a9, c9, by refine ret_len ?_; omega, f9, l9⟩
end Go.Proofs.YtpkmeknniajahaaGreatDoor.Y5
