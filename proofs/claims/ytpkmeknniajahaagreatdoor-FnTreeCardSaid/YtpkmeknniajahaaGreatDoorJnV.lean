/- Joined texts: plain facts and contracts. -/
import Derived.Test.YtpkmeknniajahaaGreatDoorJnU
import Derived.Test.YtpkmeknniajahaaGreatDoorJnS
import Derived.Test.YtpkmeknniajahaaGreatDoorJnK
import Derived.Test.YtpkmeknniajahaaGreatDoorJnF
import Derived.Test.YtpkmeknniajahaaGreatDoorJnT
import Derived.Test.YtpkmeknniajahaaGreatDoorJnO
import Derived.KernelRfl
import Derived.WalkKit
import Derived.Below
import Derived.Laws.AppendOwn
import Derived.Deep.Draws
import Derived.Test.YtpkmeknniajahaaGreatDoorRows
import Derived.ProofKit
import Derived.Handy
import Derived.Deep.QuietTactic
import Derived.BigQuiet
import Derived.Lib.Strings
import Derived.Deep.AppendLies
set_option linter.unusedVariables false
set_option linter.unusedSimpArgs false
set_option maxRecDepth 10000
namespace Go.Proofs.YtpkmeknniajahaaGreatDoor.Y6
open Go.ChangeShapes Go.WideShapes Go.ChangeAt Go.RowKit
open J0 (IBuf Own)
open I2 (ints)
open Y5 (ins)
open Y2 (ibuf_mono)
def srt (zs : List Int) : List Int := zs.foldl ins []
theorem srt_snoc (zs : List Int) (x : Int) : srt (zs ++ [x]) = ins (srt zs) x := by simp [srt, List.foldl_append]
theorem foldl_perm (zs acc : List Int) : (zs.foldl ins acc).Perm (acc ++ zs) := by
 induction zs generalizing acc with
 | nil => simp
 | cons z zs ih =>
  refine (ih (ins acc z)).trans ?_
  refine ((Y5.ins_perm acc z).append_right zs).trans ?_
  exact (List.perm_middle (l₁ := acc) (l₂ := zs) (a := z)).symm
theorem srt_perm (zs : List Int) : (srt zs).Perm zs := foldl_perm zs []
theorem srt_length (zs : List Int) : (srt zs).length = zs.length := (srt_perm zs).length_eq
theorem foldl_sorted (zs acc : List Int) (h : acc.Pairwise (· ≤ ·)) : (zs.foldl ins acc).Pairwise (· ≤ ·) := by
 induction zs generalizing acc with
 | nil => exact h
 | cons z zs ih => exact ih _ (Y5.ins_sorted z h)
theorem srt_sorted (zs : List Int) : (srt zs).Pairwise (· ≤ ·) := foldl_sorted zs [] List.Pairwise.nil
theorem sorted_one : ∀ {xs ys : List Int}, xs.Perm ys → xs.Pairwise (· ≤ ·) → ys.Pairwise (· ≤ ·) → xs = ys
 | [], ys, hp, _, _ => (List.nil_perm.1 hp).symm
 | x :: xs, [], hp, _, _ => absurd hp.length_eq (by simp)
 | x :: xs, y :: ys, hp, h1, h2 => by
  have q1 := List.pairwise_cons.1 h1
  have q2 := List.pairwise_cons.1 h2
  have hx : x ∈ y :: ys := hp.mem_iff.1 (by simp)
  have hy : y ∈ x :: xs := hp.mem_iff.2 (by simp)
  obtain rfl : x = y := by
   rcases List.mem_cons.1 hx with e | m1
   ·exact e
   ·rcases List.mem_cons.1 hy with e | m2
    ·exact e.symm
    ·have := q1.1 y m2
     have := q2.1 x m1
     omega
  rw [sorted_one (List.perm_cons x |>.1 hp) q1.2 q2.2]
theorem merge_srt (zs : List Int) : zs.mergeSort (fun x y => decide (x ≤ y)) = srt zs := by
 refine sorted_one ((List.mergeSort_perm zs _).trans (srt_perm zs).symm) ?_ (srt_sorted zs)
 have := List.pairwise_mergeSort (le := fun x y : Int => decide (x ≤ y)) (fun a b c h1 h2 => by simp only [decide_eq_true_eq] at h1 h2 ⊢; omega) (fun a b => by simp only [Bool.or_eq_true, decide_eq_true_eq]; omega) zs
 exact this.imp fun h => by simpa using h
end Go.Proofs.YtpkmeknniajahaaGreatDoor.Y6
namespace Go.Proofs.YtpkmeknniajahaaGreatDoor.US
open Go.ChangeShapes Go.WideShapes Go.ChangeAt Go.RowKit
variable {w W W' : World} {mem : ByteArray}
open J0 (IBuf Own)
open I2 (ints)
open TW (tK tZ tE cat nodesOk sound headOk hd)
def used (mem : ByteArray) : List Int := if sound mem = true then Y6.srt (cat (tZ mem) 8) else []
theorem used_len (mem : ByteArray) : (used mem).length ≤ 1048576 := by
 unfold used
 split
 ·rw [Y6.srt_length]
  have := TW.cat_len (TW.pg_few mem) 8
  omega
 ·exact Nat.zero_le _
set_option maxHeartbeats 1000000 in
theorem impl_Used (mem : ByteArray) (w : World) (hms : mem.size ≤ 281474976710656) : Calls Tryz.prog 8 #[.string mem] w fun e w' => ∃ a c, e = .returned (.slice a (used mem).length c) ∧ J0.Own w.heap.size w' a (used mem) ∧ Below w.heap.size w w' := by
 have hr := TW.readTree mem w hms
 have hA : Hid (∀ e w', TW.Ans mem w e w' → ∃ p, e = .returned (.tuple #[.pointer p, .bool (sound mem)]) ∧ Below w.heap.size w w' ∧ (sound mem = true → ∃ B N F P, p = some ⟨B, 0, none⟩ ∧ w.heap.size ≤ B ∧ TW.Good mem B N F P w')) := fun e w' h => h
 cases hs : sound mem with
 | false =>
  rw [hs] at hA
  have hu : used mem = [] := by unfold used; rw [hs]; rfl
  rw [hu]
  clear hs hu
  go_enter Tryz.func8, Tryz.ntmps8
  go_wp2_with (go_at_call 25; refine hr.mono ?_; intro e w1 hans; obtain ⟨p, rfl, b1, -⟩ := hA.out _ _ hans; clear hans)
  go_ret
  exact ⟨_, _, rfl, Or.inl rfl, b1.alloc b1.size _⟩
 | true =>
  rw [hs] at hA
  have hu : used mem = Y6.srt (cat (tZ mem) 8) := by unfold used; rw [if_pos hs]
  have hp : Hid (∀ B N F P W, TW.Good mem B N F P W → Calls Tryz.prog 27 #[.pointer (some ⟨B, 0, none⟩)] W fun e w' => ∃ g c, e = .returned (.slice (some ⟨g, 0, none⟩) (used mem).length c) ∧ W.heap.size ≤ g ∧ K0.Blk g (ints (used mem)) w' ∧ Below W.heap.size W w') := fun B N F P W h =>
   (TW.pages W h.tb h.ps).mono fun e w' ⟨g, c, he, hc, hg, hk, hb⟩ => ⟨g, c, by rw [hu, Y6.srt_length]; exact he, hg, by rw [hu, ← Y6.merge_srt]; exact hk, hb⟩
  clear hs hu
  go_enter Tryz.func8, Tryz.ntmps8
  go_wp2_with (first
   | (go_at_call 25; refine hr.mono ?_; intro e w1 hans; obtain ⟨p, rfl, b1, hy⟩ := hA.out _ _ hans; clear hans; obtain ⟨B, N, F, P, rfl, hB, hg⟩ := hy (by trivial); clear hy)
   | (go_at_call 27; refine (hp.out _ _ _ _ _ hg).mono ?_; rintro e w2 ⟨g2, c2, rfl, hg2, k2, b2⟩))
  go_ret
  exact ⟨_, c2, rfl, Or.inr ⟨g2, rfl, Nat.le_trans b1.size hg2, k2⟩, b1.trans (b2.mono b1.size)⟩
theorem take_ins (zs : List Int) (k : Nat) (h : k < zs.length) : Y6.srt (zs.take (k + 1)) = Y5.ins (Y6.srt (zs.take k)) (zs.getD k 0) := by
 rw [List.take_succ_eq_append_getElem h, Y6.srt_snoc, P0.getD_get _ _ h]
set_option maxHeartbeats 1000000 in
theorem spec_Used (mem : ByteArray) (w : World) (hms : mem.size ≤ 281474976710656) : Calls Tryz.prog 16 #[.string mem] w fun e w' => ∃ a c, e = .returned (.slice a (used mem).length c) ∧ J0.Own w.heap.size w' a (used mem) ∧ Below w.heap.size w w' := by
 have hS : Hid (∀ W, Calls Tryz.prog 21 #[.string mem] W fun e w' => e = .returned (.bool (sound mem)) ∧ Below W.heap.size W w') := fun W => TS.spec_Sound mem W hms
 have how : Hid (∀ W, Calls Tryz.prog 36 #[.string mem] W fun e w' => ∃ a c, e = .returned (.slice a (cat (tZ mem) 8).length c) ∧ (cat (tZ mem) 8).length ≤ c ∧ J0.Own W.heap.size w' a (cat (tZ mem) 8) ∧ Below W.heap.size W w') := fun W => TS.l04Owned mem W hms
 have l0 := K0.below_new w (.cells #[] 3)
 have b0 := J0.ibuf_made (base := w.heap.size) w (Nat.le_refl _)
 cases hs : sound mem with
 | false =>
  rw [hs] at hS
  have hu : used mem = [] := by unfold used; rw [hs]; rfl
  rw [hu]
  clear hs hu how
  go_enter Tryz.func16, Tryz.ntmps16
  go_wp2_with (go_at_call 21; refine (hS.out _).mono ?_; rintro e w1 ⟨rfl, b1⟩)
  go_ret
  exact ⟨_, _, rfl, Or.inl rfl, l0.trans (b1.mono l0.size)⟩
 | true =>
  rw [hs] at hS
  have hu : used mem = Y6.srt (cat (tZ mem) 8) := by unfold used; rw [if_pos hs]
  rw [hu]
  have hlen := TW.cat_len (TW.pg_few mem) 8
  obtain ⟨zs, hzs⟩ : ∃ zs, cat (tZ mem) 8 = zs := ⟨_, rfl⟩
  rw [hzs] at how hlen ⊢
  clear hs hu hzs
  go_enter Tryz.func16, Tryz.ntmps16
  go_wp2_with (first
   | (go_at_call 21; refine (hS.out _).mono ?_; rintro e w1 ⟨rfl, b1⟩; have l1 := l0.trans (b1.mono l0.size))
   | (go_at_call 36; refine (how.out _).mono ?_; rintro e w2 ⟨a2, c2, rfl, hc2, o2, b2⟩))
  have bf : IBuf w.heap.size w2 (some ⟨w.heap.size, 0, none⟩) 0 0 [] := (b0.below b1).below b2
  have l2 := l1.trans (b2.mono l1.size)
  have r2 := o2.row
  clear b0 l0 l1 b1 b2 hS how
  go_loopw [3, 5] (fun v i W => ∃ (k g c : Nat), k ≤ zs.length ∧ i = .int .i64 k ∧ v = .slice (some ⟨g, 0, none⟩) k c ∧ IBuf w.heap.size W (some ⟨g, 0, none⟩) k c (Y6.srt (zs.take k)) ∧ P0.Row W a2 zs ∧ Below w.heap.size w W) (fun _ i _ => zs.length - (intOf i).toNat)
  case atStart => exact ⟨0, _, 0, Nat.zero_le _, rfl, rfl, bf, r2, l2⟩
  case round =>
   obtain ⟨k, g, c, hk, rfl, rfl, hbuf, hrow, hbel⟩ := hrel
   clear bf r2 l2 o2
   by_cases hlt : k < zs.length
   ·have hrow' := hrow
    obtain ⟨b, off, hab, hbl, hc⟩ := hrow.get hlt
    subst hab
    have x1 := hc k hlt
    have hsl : (Y6.srt (zs.take k)).length = k := hbuf.1.symm
    have hti := take_ins zs k hlt
    obtain ⟨z, ez⟩ : ∃ z, zs.getD k 0 = z := ⟨_, rfl⟩
    rw [ez] at x1 hti
    have e1 : (0 : Int) ≤ (k : Int) := by omega
    have e2 : (k : Int) < (zs.length : Int) := by omega
    have hrw : P0.Row wr (some ⟨g, 0, none⟩) (Y6.srt (zs.take k)) := hbuf.own.row
    have hadd := Y5.l04Add g 0 c (Y6.srt (zs.take k)) z wr (by omega) (by rw [hsl]; exact hbuf.fits) hrw
    rw [hsl, ← hti] at hadd
    have HA : Hid (Calls Tryz.prog 37 #[.slice (some ⟨g, 0, none⟩) k c, .int .i64 z] wr fun e w' => ∃ a' c', e = .returned (.slice a' (k + 1) c') ∧ IBuf wr.heap.size w' a' (k + 1) c' (Y6.srt (zs.take (k + 1))) ∧ Below wr.heap.size wr w') := hadd
    clear hadd hti ez hc hrw hsl
    go_wp2_with (go_at_call 37; refine HA.out.mono ?_; rintro e w3 ⟨a3, c3, rfl, bf3, b3⟩)
    have bf3' := Y2.ibuf_mono bf3 hbel.size
    obtain ⟨g3, rfl⟩ : ∃ g3, a3 = some ⟨g3, 0, none⟩ := by
     rcases bf3.2.2 with ⟨h1, h2⟩ | ⟨g', cap', cur, h1, _⟩
     ·omega
     ·cases h1
      exact ⟨g', rfl⟩
    go_roundw
    case rel => exact ⟨k + 1, g3, c3, by omega, by go_num, rfl, bf3', hrow'.below b3, hbel.trans (b3.mono hbel.size)⟩
    case measure => simp [intOf]; omega
   ·obtain rfl : k = zs.length := by omega
    rw [List.take_length] at hbuf
    have HB : Hid (IBuf w.heap.size wr (some ⟨g, 0, none⟩) zs.length c (Y6.srt zs)) := hbuf
    clear hrow hbuf
    go_wp2
    go_ret
    exact ⟨_, c, by rw [Y6.srt_length]; rfl, HB.out.own, hbel⟩
end Go.Proofs.YtpkmeknniajahaaGreatDoor.US
namespace Go.Proofs.YtpkmeknniajahaaGreatDoor.Z0
open Go
theorem byteAt_get (s : ByteArray) (k : Nat) : B1.byteAt s (k : Int) = ((s.data.toList.getD k 0).toNat : Int) := by
 have hs := Lib.size_eq s
 unfold B1.byteAt
 split
 ·rename_i h
  have hk : k < s.data.toList.length := by omega
  rw [List.getD_eq_getElem?_getD, List.getElem?_eq_getElem hk]
  simp only [Int.toNat_natCast, Option.getD_some, Array.getElem_toList]
  rfl
 ·rename_i h
  have hk : s.data.toList.length ≤ k := by omega
  rw [List.getD_eq_getElem?_getD, List.getElem?_eq_none hk]
  rfl
theorem putI_list {k o s : Int} {zs : List Int} (h : I0.ok k o s zs = true) : (R0.putI k o s zs).data.toList = UInt8.ofNat k.toNat :: UInt8.ofNat o.toNat :: UInt8.ofNat (s % 256).toNat :: UInt8.ofNat (s / 256).toNat :: (zs.map (fun z => UInt8.ofNat z.toNat) ++ List.replicate (12 - zs.length) 0) := by
 obtain ⟨_, _, hs, _, _, _⟩ := R0.ok_bounds h
 rw [R0.putI, if_pos h]
 simp [R0.head, R0.two, R0.pg, B3.pair, show B1.inB s 0 65535 = true from decide_eq_true (by omega), B4.nulls, ByteArray.data_append]
theorem putI_size16 {k o s : Int} {zs : List Int} (h : I0.ok k o s zs = true) : (R0.putI k o s zs).size = 16 := by
 obtain ⟨_, _, hs, hl, _, _⟩ := R0.ok_bounds h
 rw [Lib.size_eq, putI_list h]
 simp
 omega
theorem pairAt_get (s : ByteArray) (k : Nat) (h : k + 1 < s.size) : B6.pairAt s (k : Int) = ((s.data.toList.getD k 0).toNat : Int) + 256 * ((s.data.toList.getD (k + 1) 0).toNat : Int) := by
 have h0 := byteAt_get s k
 have h1 := byteAt_get s (k + 1)
 rw [← h0, ← h1]
 unfold B6.pairAt B1.byteAt
 rw [dif_pos (by omega), dif_pos (by omega), dif_pos (by omega)]
 rfl
theorem inode_back {k o s : Int} {zs : List Int} (h : I0.ok k o s zs = true) : B1.byteAt (R0.putI k o s zs) 0 = k ∧ B1.byteAt (R0.putI k o s zs) 1 = o ∧ B6.pairAt (R0.putI k o s zs) 2 = s ∧ G0.pgs (R0.putI k o s zs) (G0.cnt (R0.putI k o s zs)) = zs := by
 obtain ⟨hk, ho, hs, hl, hn, hp⟩ := R0.ok_bounds h
 have hL := putI_list h
 have hz := putI_size16 h
 obtain ⟨p, hpe⟩ : ∃ p, R0.putI k o s zs = p := ⟨_, rfl⟩
 rw [hpe] at hL hz ⊢
 have e2 : B6.pairAt p 2 = s := by
  show B6.pairAt p ((2 : Nat) : Int) = _
  rw [pairAt_get p 2 (by omega), hL]
  have a1 := B3.ofNat_int (s % 256) (by omega) (by omega)
  have a2 := B3.ofNat_int (s / 256) (by omega) (by omega)
  show ((UInt8.ofNat (s % 256).toNat).toNat : Int) + 256 * ((UInt8.ofNat (s / 256).toNat).toNat : Int) = s
  rw [a1, a2]
  omega
 refine ⟨?_, ?_, e2, ?_⟩
 ·show B1.byteAt p ((0 : Nat) : Int) = _
  rw [byteAt_get, hL]
  exact B3.ofNat_int k (by omega) (by omega)
 ·show B1.byteAt p ((1 : Nat) : Int) = _
  rw [byteAt_get, hL]
  exact B3.ofNat_int o (by omega) (by omega)
 ·have hc : G0.cnt p = zs.length := by
   unfold G0.cnt
   rw [e2, ← hn]
   omega
  rw [hc]
  apply List.ext_getElem
  ·rw [G0.pgs_length]
  ·intro j h1 h2
   simp only [G0.pgs, List.getElem_map, List.getElem_range]
   have hb := R0.pages_bounds hp (k := j) h2
   have hg := P0.getD_get zs j h2
   rw [show (4 : Int) + (j : Int) = ((j + 4 : Nat) : Int) by omega, byteAt_get, hL]
   have : (UInt8.ofNat k.toNat :: UInt8.ofNat o.toNat :: UInt8.ofNat (s % 256).toNat :: UInt8.ofNat (s / 256).toNat :: (zs.map (fun z => UInt8.ofNat z.toNat) ++ List.replicate (12 - zs.length) 0)).getD (j + 4) 0 = UInt8.ofNat (zs[j]).toNat := by
    simp [List.getD_eq_getElem?_getD, List.getElem?_append, h2]
   rw [this]
   rw [hg] at hb
   exact B3.ofNat_int _ (by omega) (by omega)
theorem isI_put {k o s : Int} {zs : List Int} (h : I0.ok k o s zs = true) : G0.isI (R0.putI k o s zs) = true ∧ G0.gK (R0.putI k o s zs) = k ∧ G0.gO (R0.putI k o s zs) = o ∧ G0.gS (R0.putI k o s zs) = s ∧ G0.gZ (R0.putI k o s zs) = zs := by
 obtain ⟨h1, h2, h3, h4⟩ := inode_back h
 have hI : G0.isI (R0.putI k o s zs) = true := by
  rw [G0.isI, G0.txt, h1, h2, h3, h4, putI_size16 h]
  simp
 refine ⟨hI, ?_, ?_, ?_, ?_⟩
 ·rw [G0.gK, if_pos hI, h1]
 ·rw [G0.gO, if_pos hI, h2]
 ·rw [G0.gS, if_pos hI, h3]
 ·rw [G0.gZ, if_pos hI, h4]
end Go.Proofs.YtpkmeknniajahaaGreatDoor.Z0
namespace Go.Proofs.YtpkmeknniajahaaGreatDoor.TF
open TW (sound tK tE tZ cat headOk nodesOk)
open FI (Fl files filesTo fpath flOf findI)
open F4 (fmt img page0 head)
variable {mem : ByteArray}
theorem data_laid {s t : ByteArray} {i : Nat} (h : i + t.size ≤ s.size) : (B5.laid s (i : Int) t).data.toList = s.data.toList.take i ++ (t.data.toList ++ s.data.toList.drop (i + t.size)) := by
 have hl : B2.lies s.size (i : Int) t.size = true := by simp [B2.lies]; omega
 rw [B5.laid, if_pos hl]
 have e1 : ((i : Int)).toNat = i := by omega
 have e2 : ((i : Int) + (t.size : Int)).toNat = i + t.size := by omega
 rw [e1, e2]
 simp only [ByteArray.data_append, Array.toList_append, Lib.extract_data, List.drop_zero, Nat.sub_zero, List.append_assoc]
 congr 2
 refine List.take_of_length_le ?_
 rw [List.length_drop, ← Lib.size_eq]
 exact Nat.le_refl _
theorem data_part {s : ByteArray} {i n : Nat} (h : i + n ≤ s.size) : (B2.part s (i : Int) (n : Int)).data.toList = (s.data.toList.drop i).take n := by
 have hl : B2.lies s.size (i : Int) n = true := by simp [B2.lies]; omega
 rw [B2.part, if_pos hl]
 have e1 : ((i : Int)).toNat = i := by omega
 have e2 : ((i : Int) + (n : Int)).toNat = i + n := by omega
 rw [e1, e2, Lib.extract_data, show i + n - i = n by omega]
theorem of_list {a b : ByteArray} (h : a.data.toList = b.data.toList) : a = b := ByteArray.ext (Array.toList_inj.1 h)
theorem zeros_data : (B4.zeros 768).data.toList = List.replicate 768 0 := by
 rw [B4.zeros, if_pos (by decide)]
 simp [B4.nulls]
theorem zeros_size : (B4.zeros 768).size = 768 := by rw [Lib.size_eq, zeros_data, List.length_replicate]
theorem page_data : page0.data.toList = [84, 78, 82, 49] ++ List.replicate 764 0 := by
 have h := data_laid (s := B4.zeros 768) (t := head) (i := 0) (by rw [zeros_size]; decide)
 rw [page0]
 refine h.trans ?_
 rw [zeros_data, List.take_zero, List.nil_append, List.drop_replicate]
 rfl
theorem page_size : page0.size = 768 := by rw [page0, F4.laid_size, zeros_size]
theorem img_data {o : Int} (h : I0.ok 2 o 0 [] = true) : (img o).data.toList = ([84, 78, 82, 49] ++ List.replicate 28 0) ++ ((R0.putI 2 o 0 []).data.toList ++ List.replicate 720 0) := by
 have hz := Z0.putI_size16 h
 have h1 := data_laid (s := page0) (t := R0.putI 2 o 0 []) (i := 32) (by rw [page_size, hz]; decide)
 have e : L1.recAt 0 = ((32 : Nat) : Int) := by decide
 rw [img, e, h1, hz, page_data]
 congr 1
theorem img_size (o : Int) : (img o).size = 768 := by rw [img, F4.laid_size, page_size]
theorem rec_part (mem : ByteArray) (i : Nat) (hi : i < 8) (hm : mem.size = 768) : (O0.recd mem (i : Int)).data.toList = (mem.data.toList.drop (32 + i * 16)).take 16 := by
 have e : L1.recAt (i : Int) = ((32 + i * 16 : Nat) : Int) := by
  unfold L1.recAt
  rw [show B1.inB (i : Int) 0 7 = true by simp [B1.inB]; omega, if_pos rfl]
  omega
 rw [O0.recd, e]
 exact data_part (n := 16) (by omega)
theorem rec_zero {o : Int} (h : I0.ok 2 o 0 [] = true) : O0.recd (img o) 0 = R0.putI 2 o 0 [] := by
 have hz := Z0.putI_size16 h
 apply of_list
 rw [show (0 : Int) = ((0 : Nat) : Int) from rfl, rec_part (img o) 0 (by decide) (img_size o), img_data h, List.drop_append_of_le_length (by simp), List.drop_of_length_le (by simp), List.nil_append, List.take_append_of_le_length (by rw [← Lib.size_eq, hz]; decide)]
 exact List.take_of_length_le (by rw [← Lib.size_eq, hz]; decide)
theorem rec_more {o : Int} (h : I0.ok 2 o 0 [] = true) {i : Nat} (h0 : 0 < i) (h8 : i < 8) : O0.recd (img o) (i : Int) = ⟨#[0, 0, 0, 0, 0, 0, 0, 0, 0, 0, 0, 0, 0, 0, 0, 0]⟩ := by
 have hz := Z0.putI_size16 h
 apply of_list
 rw [rec_part (img o) i h8 (img_size o), img_data h, List.drop_append, List.drop_of_length_le (by simp), List.nil_append, List.drop_append, List.drop_of_length_le (by rw [← Lib.size_eq, hz]; simp; omega), List.nil_append, List.drop_replicate, List.take_replicate]
 have : min 16 (720 - (32 + i * 16 - ([84, 78, 82, 49] ++ List.replicate 28 (0 : UInt8)).length - (R0.putI 2 o 0 []).data.toList.length)) = 16 := by
  rw [← Lib.size_eq, hz]
  simp
  omega
 rw [this]
 rfl
def nil16 : ByteArray := ⟨#[0, 0, 0, 0, 0, 0, 0, 0, 0, 0, 0, 0, 0, 0, 0, 0]⟩
theorem nil_is : G0.isI nil16 = true := by decide +kernel
theorem nil_k : G0.gK nil16 = 0 := by decide +kernel
theorem nil_z : G0.gZ nil16 = [] := by decide +kernel
theorem none_k : G0.gK ⟨#[]⟩ = 0 := by decide +kernel
theorem none_z : G0.gZ ⟨#[]⟩ = [] := by decide +kernel
theorem none_d : V0.isD ⟨#[]⟩ = true := by decide +kernel
theorem none_e : V0.dE ⟨#[]⟩ = [] := by decide +kernel
section
variable {o : Int}
theorem img_k (h : I0.ok 2 o 0 [] = true) (i : Nat) : tK (img o) i = if i = 0 then 2 else 0 := by
 unfold tK
 by_cases h0 : i = 0
 ·subst h0
  rw [if_pos rfl]
  show G0.gK (O0.recd (img o) 0) = 2
  rw [rec_zero h]
  exact (Z0.isI_put h).2.1
 ·rw [if_neg h0]
  by_cases h8 : i < 8
  ·rw [rec_more h (by omega) h8]
   exact nil_k
  ·rw [TW.recd_far _ _ (by omega)]
   exact none_k
theorem img_z (h : I0.ok 2 o 0 [] = true) (i : Nat) : tZ (img o) i = [] := by
 unfold tZ
 by_cases h0 : i = 0
 ·subst h0
  show G0.gZ (O0.recd (img o) 0) = []
  rw [rec_zero h]
  exact (Z0.isI_put h).2.2.2.2
 ·by_cases h8 : i < 8
  ·rw [rec_more h (by omega) h8]
   exact nil_z
  ·rw [TW.recd_far _ _ (by omega)]
   exact none_z
theorem img_d (h : I0.ok 2 o 0 [] = true) (i : Nat) : D1.data (img o) (i : Int) = ⟨#[]⟩ := by
 have hz : G0.gZ (O0.recd (img o) (i : Int)) = [] := img_z h i
 rw [D1.data, hz]
 apply of_list
 rw [Lib.extract_data]
 show ((O0.joined (img o) [] 0).data.toList.drop 0).take _ = _
 rw [O0.joined]
 simp
theorem img_e (h : I0.ok 2 o 0 [] = true) (i : Nat) : tE (img o) i = [] := by
 unfold tE D1.nodeE
 split
 ·rw [img_d h]
  exact none_e
 ·rfl
theorem img_ok (h : I0.ok 2 o 0 [] = true) (i : Nat) (hi : i < 8) : D1.nodeOk (img o) (i : Int) = true := by
 have hI : G0.isI (O0.recd (img o) (i : Int)) = true := by
  by_cases h0 : i = 0
  ·subst h0
   show G0.isI (O0.recd (img o) 0) = true
   rw [rec_zero h]
   exact (Z0.isI_put h).1
  ·rw [rec_more h (by omega) hi]
   exact nil_is
 unfold D1.nodeOk
 rw [hI, img_d h, none_d]
 simp
theorem img_cat (h : I0.ok 2 o 0 [] = true) : ∀ n, cat (tZ (img o)) n = []
 | 0 => rfl
 | n + 1 => by rw [cat, img_cat h n, img_z h, List.append_nil]
theorem img_head (h : I0.ok 2 o 0 [] = true) : headOk (img o) = true := by
 have e : (B2.part (img o) 0 32).data.toList = TW.hd.data.toList := by
  rw [show B2.part (img o) 0 32 = B2.part (img o) ((0 : Nat) : Int) ((32 : Nat) : Int) from rfl, data_part (s := img o) (i := 0) (n := 32) (by rw [img_size]; decide), img_data h, List.drop_zero, List.take_append_of_le_length (by simp)]
  rfl
 unfold headOk
 rw [of_list e]
 simp
theorem img_sound (h : I0.ok 2 o 0 [] = true) : sound (img o) = true := by
 have e1 : tE (img o) = fun _ => [] := by funext i; exact img_e h i
 have e2 : tK (img o) = fun i => if i = 0 then 2 else 0 := by funext i; exact img_k h i
 have e3 : nodesOk (img o) = true := N0.to_iff.2 fun i hi => img_ok h i hi
 unfold sound
 rw [img_size, img_head h, e3, img_cat h, e1, e2]
 decide +kernel
theorem img_files (h : I0.ok 2 o 0 [] = true) : (files (img o)).length = 1 := by
 have hk := img_k h
 unfold files
 rw [if_pos (img_sound h)]
 simp [filesTo, hk]
end
theorem fmt_ok (o : Int) (hne : (fmt o).toList ≠ []) : sound (fmt o) = true ∧ (files (fmt o)).length = 1 := by
 cases h : I0.ok 2 o 0 [] with
 | true =>
  have e : fmt o = img o := by unfold fmt; rw [if_pos h]
  rw [e]
  exact ⟨img_sound h, img_files h⟩
 | false =>
  exfalso
  apply hne
  unfold fmt
  rw [h, if_neg (by decide), Lib.toList_data]
theorem find_first {f : Fl} : ∀ {l : List Fl}, f ∈ l → (∀ a ∈ l, a.path = f.path → a = f) → findI f.path l = f.ino
 | a :: r, hf, hu => by
  rw [findI]
  by_cases h : (a.path.toList == f.path.toList) = true
  ·rw [if_pos h]
   have e : a.path = f.path := by
    have h' : a.path.toList = f.path.toList := by simpa using h
    rw [Lib.toList_data, Lib.toList_data] at h'
    exact of_list h'
   rw [hu a List.mem_cons_self e]
  ·rw [if_neg h]
   rcases List.mem_cons.1 hf with rfl | hf
   ·simp at h
   ·exact find_first hf fun b hb => hu b (List.mem_cons_of_mem _ hb)
theorem find_own (hs : sound mem = true) {f : Fl} (hf : f ∈ files mem) : findI f.path (files mem) = f.ino :=
 find_first hf fun a ha e => TZ.path_one hs ha hf e
theorem used_up (hs : sound mem = true) : (US.used mem).Pairwise (· < ·) := by
 have hu : US.used mem = Y6.srt (cat (tZ mem) 8) := by unfold US.used; rw [if_pos hs]
 have hn : (cat (tZ mem) 8).Nodup := by
  unfold sound at hs
  simp only [Bool.and_eq_true, decide_eq_true_eq] at hs
  exact hs.2.2.2.2.1
 rw [hu]
 have h1 := Y6.srt_sorted (cat (tZ mem) 8)
 have h2 : (Y6.srt (cat (tZ mem) 8)).Nodup := (Y6.srt_perm _).nodup_iff.2 hn
 exact (h1.and h2).imp fun ⟨a, b⟩ => by omega
theorem mono_files (P : Nat → ByteArray) : ∀ n, 0 < n → tK mem 0 ≠ 0 → ∃ r, filesTo mem P n = flOf mem P 0 :: r
 | 1, _, h => ⟨[], by simp [filesTo, h]⟩
 | n + 2, _, h => by
  obtain ⟨r, hr⟩ := mono_files P (n + 1) (by omega) h
  rw [filesTo, hr, List.cons_append]
  exact ⟨_, rfl⟩
theorem first (hs : sound mem = true) : ∃ f r, files mem = f :: r ∧ f.path = ⟨#[47]⟩ ∧ f.kind = 2 := by
 have hu : files mem = filesTo mem (fpath mem) 8 := by unfold files; rw [if_pos hs]
 have hk := (FI.sound_parts hs).2.2.1
 obtain ⟨r, hr⟩ := mono_files (mem := mem) (fpath mem) 8 (by decide) (by rw [hk]; decide)
 refine ⟨_, r, by rw [hu, hr], ?_, hk⟩
 show fpath mem 0 = _
 obtain ⟨k, q, _, ha, hq⟩ := TZ.stands hs (x := 0) (by decide) (by rw [hk]; decide)
 have hA := (FI.up_of (FI.sound_parts hs).2.2.2 (TW.sane_ok mem) (TR.At2.zero (E := tE mem))).2 8 (by decide) ⟨#[]⟩
 rw [fpath]
 have e : FI.upq (TR.par (TR.flat (tE mem) 8)) (TR.nam (TR.flat (tE mem) 8)) 8 ((0 : Nat) : Int) ⟨#[]⟩ = ⟨#[]⟩ := by rw [hA, TR.app_nil]
 rw [e]
 rfl
end Go.Proofs.YtpkmeknniajahaaGreatDoor.TF
namespace Go.Proofs.YtpkmeknniajahaaGreatDoor.C0
open Go.RowKit
def Given (w : World) (a : Option Addr) (len : Nat) : Prop :=
 ∀ k, k < len → ∃ b off z, a = some ⟨b, off, none⟩ ∧ b < w.heap.size ∧ 0 ≤ z ∧ z < 256 ∧ w.cell? ⟨b, off + k, none⟩ = some (.int .u8 z)
theorem Given.below {w w' : World} {a : Option Addr} {len : Nat} (h : Given w a len) (hb : Below w.heap.size w w') : Given w' a len := fun k hk => by
 obtain ⟨b, off, z, ha, hlt, h0, h1, hc⟩ := h k hk
 exact ⟨b, off, z, ha, Nat.lt_of_lt_of_le hlt hb.size, h0, h1, (hb.cell (p := ⟨b, off + k, none⟩) hlt).trans hc⟩
structure Cur (w : World) (c : Nat) (a : Option Addr) (len cap : Nat) : Prop where
 lt : c < w.heap.size
 cells : ∃ (k : Nat) (h : Int), k ≤ len ∧ w.cell? ⟨c, 0, none⟩ = some (.slice a len cap) ∧ w.cell? ⟨c, 1, none⟩ = some (.int .i64 (k : Int)) ∧ w.cell? ⟨c, 2, none⟩ = some (.int .i64 h)
 free1 : w.frozen? ⟨c, 1, none⟩ = false
 free2 : w.frozen? ⟨c, 2, none⟩ = false
structure St (w0 w : World) (c : Nat) (a : Option Addr) (len cap : Nat) : Prop where
 bel : Below w0.heap.size w0 w
 new : w0.heap.size ≤ c
 cur : Cur w c a len cap
theorem Cur.of_block {w w' : World} {c : Nat} {a : Option Addr} {len cap : Nat} (h : Cur w c a len cap) (hz : c < w'.heap.size) (hb : w'.heap[c]? = w.heap[c]?) : Cur w' c a len cap := by
 have e : ∀ j, w'.cell? ⟨c, j, none⟩ = w.cell? ⟨c, j, none⟩ := fun j => World.cell?_of_block (a := ⟨c, j, none⟩) hb
 have f : ∀ j, w'.frozen? ⟨c, j, none⟩ = w.frozen? ⟨c, j, none⟩ := fun j => World.frozen?_of_block (a := ⟨c, j, none⟩) hb
 obtain ⟨k, x, hk, c0, c1, c2⟩ := h.cells
 exact ⟨hz, ⟨k, x, hk, by rw [e]; exact c0, by rw [e]; exact c1, by rw [e]; exact c2⟩, by rw [f]; exact h.free1, by rw [f]; exact h.free2⟩
theorem St.below {w0 w w' : World} {c : Nat} {a : Option Addr} {len cap : Nat} (h : St w0 w c a len cap) (hb : Below w.heap.size w w') : St w0 w' c a len cap :=
 ⟨h.bel.trans (hb.mono h.bel.size), h.new, h.cur.of_block (Nat.lt_of_lt_of_le h.cur.lt hb.size) (hb.block c h.cur.lt)⟩
theorem St.grown {w0 w w' : World} {c g : Nat} {a : Option Addr} {len cap : Nat} (h : St w0 w c a len cap) (hg : w.grownBy w' (some g)) (hne : c ≠ g) (hnew : w0.heap.size ≤ g) : St w0 w' c a len cap := by
 refine ⟨⟨hg.os.trans h.bel.os, hg.tape.trans h.bel.tape, hg.output.trans h.bel.output, Nat.le_trans h.bel.size hg.size, fun k hk => ?_⟩, h.new, h.cur.of_block (Nat.lt_of_lt_of_le h.cur.lt hg.size) (hg.block c h.cur.lt (fun e => hne (Option.some.inj e)))⟩
 rw [hg.block k (Nat.lt_of_lt_of_le hk h.bel.size) (fun e => by have := Option.some.inj e; omega)]
 exact h.bel.block k hk
theorem grown_refl (w : World) (row : Option Nat) : w.grownBy w row := ⟨rfl, rfl, rfl, Nat.le_refl _, fun _ _ _ => rfl⟩
theorem grown_trans {w w1 w2 : World} {row : Option Nat} (h : w.grownBy w1 row) (h' : w1.grownBy w2 row) : w.grownBy w2 row :=
 ⟨h'.os.trans h.os, h'.tape.trans h.tape, h'.output.trans h.output, Nat.le_trans h.size h'.size, fun k hk hr => by
  rw [h'.block k (Nat.lt_of_lt_of_le hk h.size) hr]
  exact h.block k hk hr⟩
theorem grown_drewN {w w1 : World} {row : Option Nat} (h : w.grownBy w1 row) (n : Nat) : w.grownBy (w1.drewN n) row := ⟨h.os, h.tape, h.output, h.size, h.block⟩
theorem grown_below {w w1 w2 : World} {row : Option Nat} (h : w.grownBy w1 row) (hb : Below w1.heap.size w1 w2) : w.grownBy w2 row :=
 ⟨hb.os.trans h.os, hb.tape.trans h.tape, hb.output.trans h.output, Nat.le_trans h.size hb.size, fun k hk hr => by
  rw [hb.block k (Nat.lt_of_lt_of_le hk h.size)]
  exact h.block k hk hr⟩
theorem grown_set {w w1 : World} {g j : Nat} (h : w.grownBy w1 (some g)) (v : Value) : w.grownBy (w1.setCell ⟨g, j, none⟩ v) (some g) := by
 refine ⟨h.os, h.tape, h.output, ?_, fun k hk hr => ?_⟩
 ·simpa using h.size
 ·have hne : k ≠ g := fun e => hr (by rw [e])
  rw [← h.block k hk hr]
  exact Below.heap_setCell w1 ⟨g, j, none⟩ v k hne
theorem St.set2 {w0 w : World} {c : Nat} {a : Option Addr} {len cap : Nat} (h : St w0 w c a len cap) (x : Int) : St w0 (w.setCell ⟨c, 2, none⟩ (.int .i64 x)) c a len cap := by
 obtain ⟨k, y, hk, c0, c1, c2⟩ := h.cur.cells
 refine ⟨h.bel.setCell (p := ⟨c, 2, none⟩) h.new _, h.new, ⟨by simpa using h.cur.lt, ⟨k, x, hk, ?_, ?_, ?_⟩, ?_, ?_⟩⟩
 ·rw [World.cell?_setCell_other _ _ _ _ (fun e => by cases e)]; exact c0
 ·rw [World.cell?_setCell_other _ _ _ _ (fun e => by cases e)]; exact c1
 ·exact World.cell?_setCell_same _ _ _ c2
 ·rw [World.frozen?_setCell]; exact h.cur.free1
 ·rw [World.frozen?_setCell]; exact h.cur.free2
theorem St.set1 {w0 w : World} {c : Nat} {a : Option Addr} {len cap : Nat} (h : St w0 w c a len cap) (x : Int) (n : Nat) (hx : x = (n : Int)) (hn : n ≤ len) : St w0 (w.setCell ⟨c, 1, none⟩ (.int .i64 x)) c a len cap := by
 subst hx
 obtain ⟨k, y, hk, c0, c1, c2⟩ := h.cur.cells
 refine ⟨h.bel.setCell (p := ⟨c, 1, none⟩) h.new _, h.new, ⟨by simpa using h.cur.lt, ⟨n, y, hn, ?_, ?_, ?_⟩, ?_, ?_⟩⟩
 ·rw [World.cell?_setCell_other _ _ _ _ (fun e => by cases e)]; exact c0
 ·exact World.cell?_setCell_same _ _ _ c1
 ·rw [World.cell?_setCell_other _ _ _ _ (fun e => by cases e)]; exact c2
 ·rw [World.frozen?_setCell]; exact h.cur.free1
 ·rw [World.frozen?_setCell]; exact h.cur.free2
theorem St.drewN {w0 w : World} {c : Nat} {a : Option Addr} {len cap : Nat} (h : St w0 w c a len cap) (n : Nat) : St w0 (w.drewN n) c a len cap :=
 h.below ⟨rfl, rfl, rfl, Nat.le_refl _, fun _ _ => rfl⟩
end Go.Proofs.YtpkmeknniajahaaGreatDoor.C0
namespace Go.Proofs.YtpkmeknniajahaaGreatDoor.C1
open Go.ChangeShapes Go.WideShapes Go.ChangeAt Go.RowKit C0
theorem and255 (n : Int) : bits .and .i64 n 255 = n % 256 := by
 have h255 : (BitVec.ofInt 64 255).toNat = 2 ^ 8 - 1 := by decide
 have key : (BitVec.ofInt 64 n &&& BitVec.ofInt 64 255).toNat = (n % ((2 ^ 64 : Nat) : Int)).toNat % 2 ^ 8 := by
  rw [BitVec.toNat_and, BitVec.toNat_ofInt, h255, Nat.and_two_pow_sub_one_eq_mod]
 show IntKind.i64.wrap ((BitVec.ofInt 64 n &&& BitVec.ofInt 64 255).toNat : Nat) = n % 256
 rw [key, IntKind.wrap_i64]
 omega
set_option maxHeartbeats 2000000 in
theorem byte_any {w0 w : World} {c : Nat} {a : Option Addr} {len cap : Nat} (hcode : Given w0 a len) (h : St w0 w c a len cap) (hlen : len ≤ 1048576) :
  Calls Tryz.prog 81 #[.pointer (some ⟨c, 0, none⟩)] w fun e w' => (∃ x : Int, 0 ≤ x ∧ x < 256 ∧ e = .returned (.int .i64 x)) ∧ St w0 w' c a len cap ∧ w.grownBy w' (some c) := by
 obtain ⟨k, y, hk, c0, c1, c2⟩ := h.cur.cells
 have f1 := h.cur.free1
 have f2 := h.cur.free2
 have hlt := h.cur.lt
 have ha := and255
 by_cases hkl : k < len
 ·obtain ⟨b, off, z, rfl, hb, z0, z1, hz⟩ := hcode k hkl
  have hne : b ≠ c := by have := h.new; omega
  have hz2 : ∀ v, (w.setCell ⟨c, 2, none⟩ v).cell? ⟨b, off + k, none⟩ = some (.int .u8 z) := fun v => by
   rw [World.cell?_setCell_other _ _ _ _ (fun e => hne (Addr.mk.inj e).1.symm), h.bel.cell (p := ⟨b, off + k, none⟩) hb]
   exact hz
  have e1 : (0 : Int) ≤ (k : Int) := by omega
  have e2 : (k : Int) < (len : Int) := by omega
  clear hz
  go_enter Tryz.func81, Tryz.ntmps81
  go_wp2
  go_quiet (fail)
  go_wp2
  go_quiet (fail)
  go_wp2
  go_quiet (fail)
  go_wp2
  go_ret
  exact ⟨⟨_, by omega, by omega, rfl⟩, ((h.set2 _).drewN _).set1 _ (k + 1) (by omega) (by omega), grown_set (grown_drewN (grown_set (grown_refl _ _) _) _) _⟩
 ·go_enter Tryz.func81, Tryz.ntmps81
  go_wp2
  go_quiet (fail)
  go_wp2
  go_quiet (fail)
  go_wp2
  go_ret
  exact ⟨⟨_, by omega, by omega, rfl⟩, ((h.set2 _).drewN _).drewN _, grown_drewN (grown_drewN (grown_set (grown_refl _ _) _) _) _⟩
end Go.Proofs.YtpkmeknniajahaaGreatDoor.C1
namespace Go.Proofs.YtpkmeknniajahaaGreatDoor.W0
open Go.RowKit
structure Row (w : World) (g : Nat) (ss : List ByteArray) : Prop where
 lt : g < w.heap.size
 cell : ∀ j (hj : j < ss.length), w.cell? ⟨g, j, none⟩ = some (.string ss[j])
 free : ∀ j, j < ss.length → w.frozen? ⟨g, j, none⟩ = false
theorem Row.below {w w' : World} {g : Nat} {ss : List ByteArray} (h : Row w g ss) (hb : Below w.heap.size w w') : Row w' g ss :=
 ⟨Nat.lt_of_lt_of_le h.lt hb.size, fun j hj => (hb.cell (p := ⟨g, j, none⟩) h.lt).trans (h.cell j hj), fun j hj => (hb.frozen (p := ⟨g, j, none⟩) h.lt).trans (h.free j hj)⟩
end Go.Proofs.YtpkmeknniajahaaGreatDoor.W0
