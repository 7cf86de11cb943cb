/- Joined texts: plain facts and contracts. -/
import Derived.Test.YtljnkicgahepfaaGreatDoorJlZI
import Derived.Test.YtljnkicgahepfaaGreatDoorJlZJ
import Derived.Test.YtljnkicgahepfaaGreatDoorJlZD
set_option linter.unusedVariables false
set_option linter.unusedSimpArgs false
set_option maxRecDepth 10000
namespace Go.Proofs.YtljnkicgahepfaaGreatDoor.KY
open Go
open N0 (Ln)
open Z0 (dat Kp)
open Z4 (truth)
open KO (gath)
open KP (once once_iff)
open US (used)
open TW (sound tK)
open KV (fin)
theorem app_inj {a b c d : ByteArray} (h : a ++ b = c ++ d) (hs : a.size = c.size) : a = c ∧ b = d := by
 have h1 := congrArg (fun x => x.data.toList) h
 simp only [ByteArray.data_append, Array.toList_append] at h1
 have ha : a.data.toList.length = c.data.toList.length := by rw [← Lib.size_eq, ← Lib.size_eq]; exact hs
 obtain ⟨h2, h3⟩ := List.append_inj h1 ha
 exact ⟨ByteArray.ext (Array.toList_inj.1 h2), ByteArray.ext (Array.toList_inj.1 h3)⟩
theorem ext_cut (s : ByteArray) (i n : Nat) : s.extract 0 (i + n) = s.extract 0 i ++ s.extract i (i + n) := by
 apply ByteArray.ext
 apply Array.toList_inj.1
 rw [ByteArray.data_append, Array.toList_append, Lib.extract_data, Lib.extract_data, Lib.extract_data, List.drop_zero, Nat.sub_zero, Nat.sub_zero, Nat.add_sub_cancel_left, List.take_add]
theorem pages_eq {m : ByteArray} (hm : m.size = 768) (d : Ln) (hp : P0.pagesOk d.pg = true) (hsv : d.sav.size = d.pg.length * 32) : ∀ k, k ≤ d.pg.length → (N0.to (KL.pgAt m d) k = true ↔ O0.joined m d.pg k = d.sav.extract 0 (k * 32))
 | 0, _ => by
  constructor
  ·intro _
   apply ByteArray.ext
   apply Array.toList_inj.1
   rw [Lib.extract_data]
   simp [O0.joined]
  ·intro _
   rfl
 | k + 1, hk => by
  have ih := pages_eq hm d hp hsv k (by omega)
  have hjs := O0.joined_size hm hp k (by omega)
  have hxs : (d.sav.extract 0 (k * 32)).size = k * 32 := by rw [ByteArray.size_extract]; omega
  have hpt : B2.part d.sav ((k : Int) * 32) 32 = d.sav.extract (k * 32) (k * 32 + 32) := by
   rw [B2.part, show B2.lies d.sav.size ((k : Int) * 32) 32 = true from decide_eq_true (by omega), if_pos rfl, show ((k : Int) * 32).toNat = k * 32 by omega, show ((k : Int) * 32 + 32).toNat = k * 32 + 32 by omega]
  rw [N0.to_succ, Bool.and_eq_true, ih, O0.joined, show (k + 1) * 32 = k * 32 + 32 by omega, ext_cut]
  unfold KL.pgAt
  rw [decide_eq_true_eq, hpt]
  constructor
  ·rintro ⟨h1, h2⟩
   rw [h1, h2]
  ·intro h
   obtain ⟨h1, h2⟩ := app_inj h (by omega)
   exact ⟨h1, h2.symm⟩
theorem nulls16 : R0.putI 0 0 0 [] = B4.zeros 16 := by decide +kernel
theorem free_rec {s : ByteArray} (h : G0.isI s = true) : G0.gK s = 0 ↔ s = B4.zeros 16 := by
 have h' := h
 simp only [G0.isI, Bool.and_eq_true, decide_eq_true_eq, beq_iff_eq] at h'
 obtain ⟨hs, ht⟩ := h'
 rw [ByteArray.toList_eq, ByteArray.toList_eq] at ht
 have ht' : G0.txt s = s := ByteArray.ext (Array.toList_inj.1 ht)
 rw [G0.gK, if_pos h]
 constructor
 ·intro h0
  have hok : I0.ok (B1.byteAt s 0) (B1.byteAt s 1) (B6.pairAt s 2) (G0.pgs s (G0.cnt s)) = true := by
   cases hk : I0.ok (B1.byteAt s 0) (B1.byteAt s 1) (B6.pairAt s 2) (G0.pgs s (G0.cnt s)) with
   | true => rfl
   | false =>
    have : (G0.txt s).size = 0 := by
     rw [G0.txt, R0.putI, hk]
     rfl
    rw [ht', hs] at this
    omega
  have h1 := hok
  rw [h0, I0.ok, if_pos rfl, I0.free] at h1
  simp only [Bool.and_eq_true, decide_eq_true_eq] at h1
  obtain ⟨a1, a2, a3⟩ := h1
  have a4 : G0.pgs s (G0.cnt s) = [] := List.eq_nil_of_length_eq_zero a3
  rw [← ht', G0.txt, h0, a1, a2, a4]
  exact nulls16
 ·intro hz
  rw [hz]
  decide +kernel
theorem mem_to (m : ByteArray) (P : Nat → ByteArray) : ∀ n (z : Int), z ∈ (FI.filesTo m P n).map (fun f => f.ino) ↔ ∃ i, i < n ∧ z = (i : Int) ∧ tK m i ≠ 0
 | 0, z => by simp [FI.filesTo]
 | n + 1, z => by
  rw [FI.filesTo, List.map_append, List.mem_append, mem_to m P n z]
  by_cases hk : tK m n = 0
  ·rw [if_pos hk]
   constructor
   ·rintro (⟨i, h1, h2, h3⟩ | h)
    ·exact ⟨i, by omega, h2, h3⟩
    ·cases h
   ·rintro ⟨i, h1, h2, h3⟩
    by_cases hi : i = n
    ·rw [hi] at h3
     exact absurd hk h3
    ·exact Or.inl ⟨i, by omega, h2, h3⟩
  ·rw [if_neg hk]
   constructor
   ·rintro (⟨i, h1, h2, h3⟩ | h)
    ·exact ⟨i, by omega, h2, h3⟩
    ·simp only [List.map_cons, List.map_nil, List.mem_singleton] at h
     exact ⟨n, by omega, by rw [h]; rfl, hk⟩
   ·rintro ⟨i, h1, h2, h3⟩
    by_cases hi : i = n
    ·right
     subst hi
     simp only [List.map_cons, List.map_nil, List.mem_singleton]
     rw [h2]
     rfl
    ·exact Or.inl ⟨i, by omega, h2, h3⟩
theorem fresh_eq {m : ByteArray} (hs : sound m = true) {z : Int} (h1 : 1 ≤ z) (h7 : z ≤ 7) : O0.recd m z = B4.zeros 16 ↔ ¬ z ∈ fin m := by
 obtain ⟨hm, hn, _, _⟩ := FI.sound_parts hs
 obtain ⟨i, rfl⟩ : ∃ i : Nat, z = (i : Int) := ⟨z.toNat, by omega⟩
 have hno := N0.to_iff.1 hn i (by omega)
 have hI : G0.isI (O0.recd m (i : Int)) = true := by
  simp only [D1.nodeOk, Bool.and_eq_true] at hno
  exact hno.1
 rw [← free_rec hI]
 unfold fin FI.files
 rw [if_pos hs, mem_to]
 constructor
 ·rintro h ⟨j, hj, he, hk⟩
  have : j = i := by omega
  subst this
  exact hk h
 ·intro h
  by_cases hk : tK m i = 0
  ·exact hk
  ·exact absurd ⟨i, by omega, rfl, hk⟩ h
theorem apart_iff (pg po : List Int) : N0.apart pg po = true ↔ ∀ z ∈ po, ¬ z ∈ pg := by
 unfold N0.apart
 rw [N0.to_iff]
 constructor
 ·intro h z hz
  obtain ⟨i, hi, rfl⟩ := N0.mem_getD hz
  have := h i hi
  simp only [N0.apAt, Bool.not_eq_true'] at this
  intro hc
  rw [N0.has_iff.2 hc] at this
  cases this
 ·intro h i hi
  have := h _ (N0.getD_mem hi)
  simp only [N0.apAt, Bool.not_eq_true']
  cases hh : P0.has pg (po.getD i 0) with
  | false => rfl
  | true => exact absurd (N0.has_iff.1 hh) this
theorem kept_iff (po us : List Int) : (Y6.srt (Y6.kept true po us)).length = 0 ↔ N0.apart us po = true := by
 rw [Y6.srt_length, apart_iff]
 unfold Y6.kept
 rw [List.length_eq_zero_iff, List.filter_eq_nil_iff]
 constructor
 ·intro h z hz hc
  exact h z hz (by rw [N0.has_iff.2 hc]; rfl)
 ·intro h z hz hc
  have h1 : P0.has us z = true := by simpa using hc
  exact h z hz (N0.has_iff.1 h1)
theorem lOk_has {m : ByteArray} (hs : sound m = true) (d : Ln) : KL.lOk m (used m) d = KH.has m (used m) (fin m) d := by
 obtain ⟨hm, _, _, _⟩ := FI.sound_parts hs
 unfold KL.lOk KH.has
 cases hok : N0.loanOk d with
 | false => rfl
 | true =>
  obtain ⟨hI, hK, hgz, hsv, hio, -, hp6, hp4, hp2, hpp, hfi, -, -⟩ := N0.loanOk_is hok
  rw [Bool.true_and, Bool.true_and]
  by_cases hrc : O0.recd m d.ino = d.rc
  ·rw [decide_eq_true hrc, decide_eq_true hrc.symm]
   have hl : O0.isL m d.ino = true := O0.isL_of hm (by rw [hrc]; exact hI) (by
    rw [hrc]
    rw [G0.gK, if_pos hI] at hK
    exact hK)
   rw [hl, Bool.true_and, Bool.true_and, Bool.true_and]
   have e1 : N0.to (KL.pgAt m d) d.pg.length = decide (O0.joined m d.pg d.pg.length = d.sav) := by
    rw [Bool.eq_iff_iff, pages_eq hm d (KH.pagesOk_left hpp) hsv d.pg.length (Nat.le_refl _), decide_eq_true_eq]
    have hx : d.sav.extract 0 (d.pg.length * 32) = d.sav := by
     apply ByteArray.ext
     apply Array.toList_inj.1
     rw [Lib.extract_data, List.drop_zero, Nat.sub_zero, ← hsv, Lib.size_eq, List.take_length]
    rw [hx]
   have e2 : N0.to (KL.frAt m d) d.fr.length = N0.apart (fin m) d.fr := by
    rw [Bool.eq_iff_iff, apart_iff, N0.to_iff]
    constructor
    ·intro h z hz
     obtain ⟨i, hi, rfl⟩ := N0.mem_getD hz
     have h1 := h i hi
     unfold KL.frAt at h1
     have h2 := hfi _ hz
     exact (fresh_eq hs h2.1 h2.2).1 (of_decide_eq_true h1)
    ·intro h i hi
     have hz := N0.getD_mem hi
     have h2 := hfi _ hz
     unfold KL.frAt
     exact decide_eq_true ((fresh_eq hs h2.1 h2.2).2 (h _ hz))
   have e3 : decide ((Y6.srt (Y6.kept true d.po (used m))).length = 0) = N0.apart (used m) d.po := by
    rw [Bool.eq_iff_iff, decide_eq_true_eq]
    exact kept_iff _ _
   rw [e1, e2, e3]
  ·rw [decide_eq_false hrc, decide_eq_false (fun h => hrc h.symm), Bool.false_and, Bool.false_and, Bool.and_false]
theorem gath_perm (f h : Ln → List Int) (ds : List Ln) : ∀ k, (gath f ds k ++ gath h ds k).Perm (gath (fun d => f d ++ h d) ds k)
 | 0 => List.Perm.refl _
 | k + 1 => by
  rw [gath, gath, gath]
  refine List.Perm.trans ?_ ((gath_perm f h ds k).append_right _)
  rw [List.append_assoc, List.append_assoc]
  exact (List.perm_append_comm_assoc _ _ _).append_left _
theorem once_perm {xs ys : List Int} (h : xs.Perm ys) : once xs = once ys := by
 rw [Bool.eq_iff_iff, once_iff, once_iff]
 exact h.nodup_iff
theorem asc_iff (k : Kp) : N0.asc (KI.ginos k.ds) = true ↔ ∀ j, j < k.ds.length → (j = 0 ∨ (dat k.ds (j - 1)).ino < (dat k.ds j).ino) := by
 have hl := KI.gi_len k.ds k.ds.length
 unfold N0.asc KI.ginos
 rw [N0.to_iff, hl]
 constructor
 ·intro h j hj
  have h1 := h j hj
  simp only [N0.ascAt, Bool.or_eq_true, decide_eq_true_eq] at h1
  rcases h1 with h1 | h1
  ·exact Or.inl h1
  ·right
   rwa [KI.gi_get _ _ _ (by omega), KI.gi_get _ _ _ hj] at h1
 ·intro h j hj
  simp only [N0.ascAt, Bool.or_eq_true, decide_eq_true_eq]
  rcases h j hj with h1 | h1
  ·exact Or.inl h1
  ·right
   rwa [KI.gi_get _ _ _ (by omega), KI.gi_get _ _ _ hj]
theorem sK_eq (k : Kp) : KS.sK k = KI.iK k := by
 unfold KS.sK KI.iK
 cases hd : D1.ok k.mem k.dur with
 | false => rfl
 | true =>
  obtain ⟨h1, h2⟩ := D1.ok_true hd
  have hck : B1.inB k.ck 0 999999 = (!decide (k.ck < 0) && !decide (999999 < k.ck)) := by
   rw [Bool.eq_iff_iff, N0.inB_iff, Bool.and_eq_true, Bool.not_eq_true', Bool.not_eq_true', decide_eq_false_iff_not, decide_eq_false_iff_not]
   omega
  rw [hck]
  cases hs : sound (truth k) with
  | false => simp
  | true =>
   have e1 : once (gath (fun d : Ln => d.ino :: d.fr) k.ds k.ds.length) = once (KI.ginos k.ds ++ KI.gfr k.ds) := (once_perm (gath_perm (fun d : Ln => [d.ino]) (fun d : Ln => d.fr) k.ds k.ds.length)).symm
   have e2 : KS.outs k = KI.lasts k := (KX.rest_eq k.mem k.dur h1 h2 k.ds k.ds.length).symm
   have e3 : N0.to (KS.lAt k) k.ds.length = (N0.asc (KI.ginos k.ds) && N0.to (KI.hAt k) k.ds.length) := by
    rw [Bool.eq_iff_iff, Bool.and_eq_true, asc_iff, N0.to_iff, N0.to_iff]
    have hh : ∀ j, KS.lAt k j = (KI.hAt k j && (decide (j = 0) || decide ((dat k.ds (j - 1)).ino < (dat k.ds j).ino))) := fun j => by
     unfold KS.lAt KI.hAt
     rw [lOk_has hs]
    constructor
    ·intro h
     refine ⟨fun j hj => ?_, fun j hj => ?_⟩
     ·have h3 := h j hj
      rw [hh] at h3
      simp only [Bool.and_eq_true, Bool.or_eq_true, decide_eq_true_eq] at h3
      exact h3.2
     ·have h3 := h j hj
      rw [hh] at h3
      simp only [Bool.and_eq_true] at h3
      exact h3.1
    ·rintro ⟨h3, h4⟩ j hj
     rw [hh, h4 j hj]
     simp only [Bool.true_and, Bool.or_eq_true, decide_eq_true_eq]
     exact h3 j hj
   rw [e1, e2, e3]
   show _ = _
   generalize once (KI.ginos k.ds ++ KI.gfr k.ds) = b1
   generalize KI.lasts k = b2
   generalize N0.asc (KI.ginos k.ds) = b3
   generalize N0.to (KI.hAt k) k.ds.length = b4
   generalize once (KI.gpo k.ds) = b5
   generalize decide (k.ck < 0) = b6
   generalize decide (999999 < k.ck) = b7
   cases b1 <;> cases b2 <;> cases b3 <;> cases b4 <;> cases b5 <;> cases b6 <;> cases b7 <;> rfl
end Go.Proofs.YtljnkicgahepfaaGreatDoor.KY
namespace Go.Proofs.YtljnkicgahepfaaGreatDoor.WI
open Go.ChangeShapes Go.WideShapes Go.ChangeAt Go.RowKit
open N0 (Ln)
open N1 (Sl Lists Fit LB lb_new)
open N13 (Bx bx_new)
open HP (Rg at_ cov covAll cov_iff covAll_iff)
open I2 (ints)
theorem cov_succ (l : List Rg) (j : Nat) (K : Int) (h : j < l.length) : cov (l.take (j + 1)) K = (cov (l.take j) K || B1.inB K (at_ l j).1 ((at_ l j).1 + (at_ l j).2 - 1)) := by
 rw [List.take_succ_eq_append_getElem h, ← HP.at_get l j h]
 unfold cov B1.inB
 rw [List.any_append]
 congr 1
 simp only [List.any_cons, List.any_nil, Bool.or_false]
 exact decide_eq_decide.2 (by omega)
set_option maxHeartbeats 4000000 in
theorem spec_Within (d : Ln) (s : Sl) (i n : Int) (w : World) (hF : Fit d s) (hpo : d.po.length ≤ 1048576) (hfr : d.fr.length ≤ 1048576) (hR : Lists w d s) :
  Calls Tryz.prog 146 #[N1.val d s, .int .i64 i, .int .i64 n] w fun e w' => e = .returned (.bool (within d i n)) ∧ Below w.heap.size w w' := by
 have x0 := bx_new w d s
 have hRa := R6.spec_Ranges d s _ hF hpo hfr (hR.below x0.bel)
 have c0 := x0.arg.c0
 have c1 := x0.arg.c1
 have c2 := x0.arg.c2
 have c3 := x0.arg.c3
 have c4 := x0.arg.c4
 have c5 := x0.arg.c5
 have c6 := x0.arg.c6
 have c7 := x0.arg.c7
 clear hR hF
 have hlen := rl_len d
 have hsm := rl_small d
 by_cases hin : 1 ≤ n ∧ n ≤ 768 ∧ 0 ≤ i ∧ i ≤ 768 - n
 ·have hw : within d i n = covAll (rl d) i n.toNat := by
   unfold within
   rw [decide_eq_true hin, Bool.true_and]
  rw [hw]
  have q1 : B1.inB n 1 768 = true := N0.inB_iff.2 ⟨hin.1, hin.2.1⟩
  have q2 : B1.inB i 0 (768 - n) = true := N0.inB_iff.2 ⟨hin.2.2.1, hin.2.2.2⟩
  obtain ⟨h1, h2, h3, h4⟩ := hin
  clear hw
  go_enter Tryz.func146, Tryz.ntmps146
  go_wp2_with (first
   | (go_at_call 112; refine hRa.mono ?_; rintro e w1 ⟨a, c, rfl, hl1, hc1, o1, b1⟩)
   | (go_at_call 44; refine (B1.l01In_any _ _ _ _).mono ?_; rintro e w' ⟨rfl, hw⟩; subst w'; rw [q1])
   | (go_at_call 44; refine (B1.l01In_any _ _ _ _).mono ?_; rintro e w' ⟨rfl, hw⟩; subst w'; rw [q2]))
  have bel1 := x0.bel.trans (b1.mono x0.bel.size)
  have rw1 : rl d = [] ∨ ∃ G, a = some ⟨G, 0, none⟩ ∧ K0.Blk G (ints (R6.rg d)) w1 := by
   rcases row_of o1 with q | ⟨G, q1, q2, q3⟩
   ·exact Or.inl q
   ·exact Or.inr ⟨G, q1, q3⟩
  rw [← hlen] at hc1 ⊢
  clear hlen b1 o1 hl1 hRa c0 c1 c2 c3 c4 c5 c6 c7 x0
  go_loopg [8] n.toNat (fun gk v W => ∃ (k : Nat), k + gk = n.toNat ∧ v = .int .i64 (i + (k : Int)) ∧ Hid (∀ j : Nat, j < k → cov (rl d) (i + (j : Int)) = true) ∧ (rl d = [] ∨ ∃ G, a = some ⟨G, 0, none⟩ ∧ K0.Blk G (ints (R6.rg d)) W) ∧ Below w.heap.size w W)
  case atStart => exact ⟨0, by omega, by simp, fun j h => absurd h (by omega), rw1, bel1⟩
  case round =>
   obtain ⟨go, rfl⟩ : ∃ go, go = gk := ⟨_, rfl⟩
   obtain ⟨k, hk, rfl, hcv, hrow, hbel⟩ := hrel
   clear rw1 bel1
   by_cases hlt : k < n.toNat
   ·have e1 : i + (k : Int) < i + n := by omega
    obtain ⟨K, hK⟩ : ∃ K, i + (k : Int) = K := ⟨_, rfl⟩
    have HK : Hid (i + (k : Int) = K ∧ k < n.toNat ∧ k + go = n.toNat) := ⟨hK, hlt, hk⟩
    have hK1 : 0 ≤ K := by omega
    have hK2 : K ≤ 768 := by omega
    rw [hK] at e1 ⊢
    clear hK hlt hk
    have HB0 : Hid (Below w.heap.size w wr) := hbel
    clear hbel
    go_wp2
    go_loopg [9, 10] (rl d).length (fun gj b v W => ∃ (j : Nat), j + gj = (rl d).length ∧ v = .int .i64 (j : Int) ∧ b = .bool (cov ((rl d).take j) K) ∧ (rl d = [] ∨ ∃ G, a = some ⟨G, 0, none⟩ ∧ K0.Blk G (ints (R6.rg d)) W) ∧ Below w.heap.size w W)
    case atStart => exact ⟨0, by omega, rfl, rfl, hrow, HB0.out⟩
    case round =>
     obtain ⟨j, hj, rfl, rfl, hrow2, hbel⟩ := hrel
     clear hrow HB0
     by_cases hjl : j < (rl d).length
     ·rcases hrow2 with hrow2 | ⟨G, rfl, hblk⟩
      ·rw [hrow2] at hjl
       simp at hjl
      ·obtain ⟨y1, y2⟩ := row_get hblk hjl
       have hcs := cov_succ (rl d) j K hjl
       obtain ⟨u1, u2, u3⟩ := at_in d hjl
       obtain ⟨r, hr⟩ : ∃ r, at_ (rl d) j = r := ⟨_, rfl⟩
       rw [hr] at y1 y2 hcs u1 u2 u3
       have e2 : (0 : Int) ≤ (j : Int) := by omega
       have e3 : (j : Int) < ((rl d).length : Int) := by omega
       obtain ⟨P, hP⟩ : ∃ P, cov ((rl d).take j) K = P := ⟨_, rfl⟩
       obtain ⟨P2, hP2⟩ : ∃ P2, cov ((rl d).take (j + 1)) K = P2 := ⟨_, rfl⟩
       rw [hP, hP2] at hcs
       have HC : Hid (cov ((rl d).take (j + 1)) K = P2 ∧ K0.Blk G (ints (R6.rg d)) wr ∧ Below w.heap.size w wr ∧ j + gk = (rl d).length) := ⟨hP2, hblk, hbel, hj⟩
       rw [hP]
       clear hr hP hP2 hblk hbel hj
       cases P with
       | true =>
        have hq : P2 = true := by simpa using hcs
        clear hcs
        go_wp2
        go_quiet (fail)
        go_wp2
        obtain ⟨hP2, hblk, hbel, hj⟩ := HC.out
        go_roundg (gk - 1)
        case measure => omega
        case rel => exact ⟨j + 1, by omega, by go_num, by first | rw [hP2, hq] | rw [hP2], Or.inr ⟨G, rfl, hblk.drewN _⟩, K0.below_drewN hbel _⟩
       | false =>
        have hq : B1.inB K r.1 (r.1 + r.2 - 1) = P2 := by simpa using hcs.symm
        clear hcs
        go_wp2
        go_quiet (first | (go_at_call 44; refine Calls.quiet_of_same (B1.l01In_any _ _ _ _)))
        go_wp2
        obtain ⟨hP2, hblk, hbel, hj⟩ := HC.out
        go_roundg (gk - 1)
        case measure => omega
        case rel => exact ⟨j + 1, by omega, by go_num, by first | rw [hP2, hq] | rw [hP2], Or.inr ⟨G, rfl, hblk.drewN _⟩, K0.below_drewN hbel _⟩
     ·have hjj : j = (rl d).length := by omega
      subst hjj
      rw [List.take_length]
      have e2 : ¬ (((rl d).length : Int) < ((rl d).length : Int)) := by omega
      cases hc : cov (rl d) K with
      | true =>
       have HC : Hid (cov (rl d) K = true) := hc
       clear hjl hj hc
       go_wp2
       obtain ⟨hK, hlt, hk⟩ := HK.out
       go_roundg (go - 1)
       case measure => omega
       case rel => exact ⟨k + 1, by omega, by rw [← hK]; go_num, fun j hj => (by
        by_cases e : j = k
        ·rw [e, hK]; exact HC.out
        ·exact hcv.out j (by omega)), hrow2, hbel⟩
      | false =>
       have HV : Hid (covAll (rl d) i n.toNat = false) := by
        obtain ⟨hK, hlt, hk⟩ := HK.out
        show covAll _ _ _ = false
        cases hx : covAll (rl d) i n.toNat with
        | false => rfl
        | true =>
         have := covAll_iff.1 hx K (by omega) (by omega)
         rw [hc] at this
         cases this
       have HB : Hid (Below w.heap.size w wr) := hbel
       clear hjl hj hc hbel
       go_wp2
       go_ret
       refine ⟨?_, HB.out⟩
       rw [HV.out]
       rfl
   ·have hkk : (k : Int) = n := by omega
    have e1 : ¬ (i + n < i + n) := by omega
    have HV : Hid (covAll (rl d) i n.toNat = true) := by
     refine covAll_iff.2 fun q h1 h2 => ?_
     have := hcv.out (q - i).toNat (by omega)
     rwa [show i + ((q - i).toNat : Int) = q by omega] at this
    rw [hkk]
    have HB : Hid (Below w.heap.size w wr) := hbel
    clear hrow hcv hlt hk hkk hbel
    go_wp2
    go_ret
    refine ⟨?_, HB.out⟩
    rw [HV.out]
    rfl
 ·have hw : within d i n = false := by
   unfold within
   rw [decide_eq_false hin, Bool.false_and]
  rw [hw]
  clear hw hlen
  cases q1 : B1.inB n 1 768 with
  | false =>
   go_enter Tryz.func146, Tryz.ntmps146
   go_wp2_with (first
    | (go_at_call 112; refine hRa.mono ?_; rintro e w1 ⟨a, c, rfl, hl1, hc1, o1, b1⟩)
    | (go_at_call 44; refine (B1.l01In_any _ _ _ _).mono ?_; rintro e w' ⟨rfl, hw⟩; subst w'; rw [q1]))
   go_ret
   exact ⟨rfl, x0.bel.trans (b1.mono x0.bel.size)⟩
  | true =>
   have q3 := N0.inB_iff.1 q1
   have q2 : B1.inB i 0 (768 - n) = false := by
    cases hq : B1.inB i 0 (768 - n) with
    | false => rfl
    | true =>
     have := N0.inB_iff.1 hq
     exact absurd ⟨q3.1, q3.2, this.1, this.2⟩ hin
   obtain ⟨h1, h2⟩ := q3
   clear hin
   go_enter Tryz.func146, Tryz.ntmps146
   go_wp2_with (first
    | (go_at_call 112; refine hRa.mono ?_; rintro e w1 ⟨a, c, rfl, hl1, hc1, o1, b1⟩)
    | (go_at_call 44; refine (B1.l01In_any _ _ _ _).mono ?_; rintro e w' ⟨rfl, hw⟩; subst w'; rw [q1])
    | (go_at_call 44; refine (B1.l01In_any _ _ _ _).mono ?_; rintro e w' ⟨rfl, hw⟩; subst w'; rw [q2]))
   go_ret
   exact ⟨rfl, x0.bel.trans (b1.mono x0.bel.size)⟩
end Go.Proofs.YtljnkicgahepfaaGreatDoor.WI
namespace Go.Proofs.YtljnkicgahepfaaGreatDoor.WL
open Go.ChangeShapes Go.WideShapes Go.ChangeAt Go.RowKit
open N0 (Ln)
open N1 (Sl)
open Z0 (dat Row Lns Kp kval kvals)
open Z4 (Fits)
def lt1 (cl i n : Int) (d : Ln) : Bool := decide (d.cl = cl) && WI.within d i n
def lets (cl i n : Int) (ds : List Ln) : Bool := (List.range ds.length).any fun j => lt1 cl i n (dat ds j)
theorem lets_yes {cl i n : Int} {ds : List Ln} {j : Nat} (hj : j < ds.length) (h : lt1 cl i n (dat ds j) = true) : lets cl i n ds = true :=
 List.any_eq_true.2 ⟨j, List.mem_range.2 hj, h⟩
theorem lets_no {cl i n : Int} {ds : List Ln} (h : ∀ j, j < ds.length → lt1 cl i n (dat ds j) = false) : lets cl i n ds = false := by
 apply Bool.eq_false_iff.2
 intro e
 obtain ⟨j, hj, h1⟩ := List.any_eq_true.1 e
 rw [h j (List.mem_range.1 hj)] at h1
 cases h1
def look (k : Kp) (cl i n : Int) : ByteArray × Int := if KI.iK k = true then (if lets cl i n k.ds = true then (B2.part k.mem i n, 0) else (⟨#[]⟩, 4)) else (⟨#[]⟩, 6)
abbrev kob (k : Kp) (a : Option Addr) (c : Nat) : Obj := .cells #[.string k.mem, .string k.dur, .slice a k.ds.length c, .int .i64 k.ck] 28
set_option maxHeartbeats 4000000 in
theorem spec_lets (k : Kp) (a : Option Addr) (c : Nat) (ss : Nat → Sl) (cl i n : Int) (w : World) (hn : k.ds.length ≤ 1048576) (hF : Fits k.ds ss) (hR : Lns w a k.ds ss) :
  Calls Tryz.prog 75 #[kval k a c, .int .i64 cl, .int .i64 i, .int .i64 n] w fun e w' => e = .returned (.bool (lets cl i n k.ds)) ∧ Below w.heap.size w w' := by
 have n0 := K0.below_new w (kob k a c)
 have b0 := K0.blk_new (kvals k a c) w 28
 have HB : Hid (∀ W, Below (w.alloc (kob k a c)).heap.size (w.alloc (kob k a c)) W → W.cell? ⟨w.heap.size, 2, none⟩ = some (.slice a k.ds.length c) ∧ Lns W a k.ds ss ∧ Below w.heap.size w W) := fun W hb => ⟨(b0.below hb).c2, (hR.below n0).below hb, n0.trans (hb.mono (by simp))⟩
 obtain ⟨W0, hW0⟩ : ∃ W0, w.alloc (kob k a c) = W0 := ⟨_, rfl⟩
 rw [hW0] at HB
 clear n0 b0 hR
 go_enter Tryz.func75, Tryz.ntmps75
 go_wp2
 go_loopw [9] (fun x w' => ∃ j : Nat, j ≤ k.ds.length ∧ x = .int .i64 j ∧ Hid (∀ y, y < j → lt1 cl i n (dat k.ds y) = false) ∧ Below W0.heap.size W0 w') (fun x _ => k.ds.length - (intOf x).toNat)
 case atStart => exact ⟨0, Nat.zero_le _, rfl, fun x hx => absurd hx (Nat.not_lt_zero _), by rw [← hW0]; exact Below.refl _ _⟩
 case round =>
  obtain ⟨j, hj, rfl, HN, hbel⟩ := hrel
  obtain ⟨c2, hl, hb⟩ := HB.out _ hbel
  have hB := hbel.size
  by_cases hlt : j < k.ds.length
  ·obtain ⟨b, off, rfl, hlt0, hc⟩ := hl.row.get hlt
   obtain ⟨y0, y1, y2, y3, y4, y5, y6, y7⟩ := hc j hlt
   have ls := hl.sub j hlt
   obtain ⟨f1, f2, f3⟩ := hF j hlt
   have e1 : (0 : Int) ≤ (j : Int) := by omega
   have e2 : (j : Int) < (k.ds.length : Int) := by omega
   have HY : Hid (lt1 cl i n (dat k.ds j) = true → lets cl i n k.ds = true) := lets_yes hlt
   have HM : Hid (lt1 cl i n (dat k.ds j) = false → ∀ y, y < j + 1 → lt1 cl i n (dat k.ds y) = false) := fun h y hy => by
    rcases Nat.lt_or_eq_of_le (Nat.le_of_lt_succ hy) with h1 | h1
    ·exact HN.out y h1
    ·rw [h1]; exact h
   obtain ⟨d, ed⟩ : ∃ d, dat k.ds j = d := ⟨_, rfl⟩
   obtain ⟨s, es⟩ : ∃ s, ss j = s := ⟨_, rfl⟩
   rw [ed, es] at ls f1
   rw [ed] at y0 y1 y2 y3 y4 y5 y6 y7 f2 f3 HY HM
   rw [es] at y4 y6 y7
   have hw := WI.spec_Within d s i n wr f1 f2 f3 ls
   clear ed es hc HB HN ls f1 f2 f3 hl
   by_cases h1 : d.cl = cl
   ·cases hq : WI.within d i n with
    | true =>
     have HY' : Hid (lets cl i n k.ds = true) := HY.out (by simp [lt1, h1, hq])
     rw [hq] at hw
     subst h1
     clear HY HM hq
     go_wp2_with (go_at_call 146; refine hw.mono ?_; rintro e w1 ⟨rfl, b1⟩)
     go_ret
     exact ⟨by rw [HY'.out]; rfl, hb.trans (b1.mono hb.size)⟩
    | false =>
     have HM' : Hid (∀ y, y < j + 1 → lt1 cl i n (dat k.ds y) = false) := HM.out (by simp [lt1, hq])
     rw [hq] at hw
     have h1' : (d.cl == cl) = true := by simpa using h1
     clear HY HM hq h1
     go_wp2_with (go_at_call 146; refine hw.mono ?_; rintro e w1 ⟨rfl, b1⟩)
     go_roundw
     case rel => exact ⟨j + 1, by omega, by go_num, HM', hbel.trans (b1.mono hB)⟩
     case measure => simp [intOf]; omega
   ·have HM' : Hid (∀ y, y < j + 1 → lt1 cl i n (dat k.ds y) = false) := HM.out (by simp [lt1, h1])
    have h1' : (d.cl == cl) = false := by simpa using h1
    clear HY HM h1 hw
    go_wp2
    go_roundw
    case rel => exact ⟨j + 1, by omega, by go_num, HM', hbel⟩
    case measure => simp [intOf]; omega
  ·obtain rfl : j = k.ds.length := by omega
   have HZ : Hid (lets cl i n k.ds = false) := lets_no HN.out
   clear HB HN hl
   go_wp2
   go_ret
   exact ⟨by rw [HZ.out]; rfl, hb⟩
set_option maxHeartbeats 4000000 in
theorem spec_Look (k : Kp) (a : Option Addr) (c : Nat) (ss : Nat → Sl) (cl i n : Int) (w : World) (wi : (Lit.int .i64 i).wf = true) (wn : (Lit.int .i64 n).wf = true) (hm1 : k.mem.size ≤ 1048576) (hm2 : k.dur.size ≤ 1048576) (ht : k.ds.length + Z1.tot k.ds k.ds.length ≤ 1048576) (hF : Fits k.ds ss) (hR : Lns w a k.ds ss) :
  Calls Tryz.prog 19 #[kval k a c, .int .i64 cl, .int .i64 i, .int .i64 n] w fun e w' => e = .returned (.tuple #[.string (look k cl i n).1, .int .i64 (look k cl i n).2]) ∧ Below w.heap.size w w' := by
 have n0 := K0.below_new w (kob k a c)
 have b0 := K0.blk_new (kvals k a c) w 28
 have c0 := b0.c0
 have c1 := b0.c1
 have c2 := b0.c2
 have c3 := b0.c3
 have hk := KS.spec_KeeperOk k a c ss (w.alloc (kob k a c)) hm1 hm2 ht hF (hR.below n0)
 rw [KY.sK_eq] at hk
 have HL : Hid (∀ W, Below (w.alloc (kob k a c)).heap.size (w.alloc (kob k a c)) W → Calls Tryz.prog 75 #[kval k a c, .int .i64 cl, .int .i64 i, .int .i64 n] W fun e w' => e = .returned (.bool (lets cl i n k.ds)) ∧ Below W.heap.size W w') := fun W hb => spec_lets k a c ss cl i n W (by omega) hF ((hR.below n0).below hb)
 have HP : Hid (∀ W, Calls Tryz.prog 76 #[.string k.mem, .int .i64 i, .int .i64 n] W fun e w' => e = .returned (.string (B2.part k.mem i n)) ∧ w' = W) := fun W => B2.spec_Part k.mem i n W (by unfold maxLen; omega) wi wn
 have HB : Hid (∀ W, Below (w.alloc (kob k a c)).heap.size (w.alloc (kob k a c)) W → K0.Blk w.heap.size (kvals k a c) W ∧ Below w.heap.size w W) := fun W hb => ⟨b0.below hb, n0.trans (hb.mono (by simp))⟩
 clear n0 b0 hR hF wi wn
 unfold look
 cases hK : KI.iK k with
 | false =>
  rw [hK] at hk
  simp only [Bool.false_eq_true, if_false]
  go_enter Tryz.func19, Tryz.ntmps19
  go_wp2_with (go_at_call 13; refine hk.mono ?_; rintro e w1 ⟨rfl, b1⟩; obtain ⟨k1, l1⟩ := HB.out _ b1)
  go_ret2
  exact ⟨rfl, l1⟩
 | true =>
  rw [hK] at hk
  simp only [if_true]
  cases hL : lets cl i n k.ds with
  | false =>
   rw [hL] at HL
   simp only [Bool.false_eq_true, if_false]
   go_enter Tryz.func19, Tryz.ntmps19
   go_wp2_with (first
    | (go_at_call 13; refine hk.mono ?_; rintro e w1 ⟨rfl, b1⟩; obtain ⟨k1, l1⟩ := HB.out _ b1; have c0 := k1.c0; have c1 := k1.c1; have c2 := k1.c2; have c3 := k1.c3)
    | (go_at_call 75; refine (HL.out _ b1).mono ?_; rintro e w2 ⟨rfl, b2⟩))
   go_ret2
   exact ⟨rfl, l1.trans (b2.mono l1.size)⟩
  | true =>
   rw [hL] at HL
   simp only [if_true]
   go_enter Tryz.func19, Tryz.ntmps19
   go_wp2_with (first
    | (go_at_call 13; refine hk.mono ?_; rintro e w1 ⟨rfl, b1⟩; obtain ⟨k1, l1⟩ := HB.out _ b1; have c0 := k1.c0; have c1 := k1.c1; have c2 := k1.c2; have c3 := k1.c3)
    | (go_at_call 75; refine (HL.out _ b1).mono ?_; rintro e w2 ⟨rfl, b2⟩; have k2 := k1.below b2; have c0 := k2.c0; have c1 := k2.c1; have c2 := k2.c2; have c3 := k2.c3)
    | (go_at_call 76; refine (HP.out _).mono ?_; rintro e w3 ⟨rfl, hw3⟩; subst w3))
   go_ret2
   exact ⟨rfl, l1.trans (b2.mono l1.size)⟩
end Go.Proofs.YtljnkicgahepfaaGreatDoor.WL
