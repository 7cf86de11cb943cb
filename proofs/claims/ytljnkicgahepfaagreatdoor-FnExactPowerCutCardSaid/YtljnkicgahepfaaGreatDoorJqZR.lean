/- Joined texts: plain facts and contracts. -/
import Derived.Test.YtljnkicgahepfaaGreatDoorJqZP
import Derived.Test.YtljnkicgahepfaaGreatDoorJqA
import Derived.Test.YtljnkicgahepfaaGreatDoorJqZQ
import Derived.Test.YtljnkicgahepfaaGreatDoorJqZI
import Derived.Test.YtljnkicgahepfaaGreatDoorJqZM
import Derived.Test.YtljnkicgahepfaaGreatDoorJqZN
set_option linter.unusedVariables false
set_option linter.unusedSimpArgs false
set_option maxRecDepth 10000
namespace Go.Proofs.YtljnkicgahepfaaGreatDoor.KX
open Go
open N0 (Ln)
open HP (Rg at_)
open WI (rl)
open Z0 (dat Kp)
open X0 (mix mix_len mix_get)
open F1 (span)
open KQ (lay layN layS layN_size)
open KT (outN outS outN_size outS_size)
def g (x : ByteArray) (j : Nat) : UInt8 := x.data.toList.getD j 0
def cov (r : Rg) (j : Nat) : Bool := decide (r.1 ≤ (j : Int) ∧ (j : Int) < r.1 + r.2)
theorem rl_eight (d : Ln) : ∀ r ∈ rl d, r.1 % 8 = 0 ∧ r.2 % 8 = 0 := by
 unfold rl
 cases h : N0.loanOk d with
 | false => simp
 | true =>
  obtain ⟨-, -, -, -, hi, -, -, -, -, hpp, hfr, -, -⟩ := N0.loanOk_is h
  have hrec : ∀ z : Int, 0 ≤ z → z ≤ 7 → L1.recAt z = 32 + z * 16 := by
   intro z h0 h7
   unfold L1.recAt
   rw [if_pos (N0.inB_iff.2 ⟨h0, h7⟩)]
  intro r hr
  simp only [if_true, List.mem_append, List.mem_map, List.mem_singleton] at hr
  rcases hr with ((hr | ⟨p, hp, hr⟩) | ⟨p, hp, hr⟩) | ⟨f, hf, hr⟩
  ·subst hr
   rw [hrec _ hi.1 hi.2]
   simp
   omega
  ·subst hr
   simp
   omega
  ·subst hr
   simp
   omega
  ·subst hr
   have := hfr f hf
   rw [hrec f (by omega) (by omega)]
   simp
   omega
theorem lay_get (a b : ByteArray) (r : Rg) (j : Nat) (hj : j < 768) (h0 : 0 ≤ r.1) (h1 : 16 ≤ r.2) (h2 : r.1 % 8 = 0) (h3 : r.2 % 8 = 0) : g (lay a b r) j = if cov r j then g a j else g b j := by
 have hsp : span (r.1.toNat / 8) ((r.1.toNat + r.2.toNat - 1) / 8) (j / 8) = cov r j := by
  unfold span cov
  congr 1
  apply propext
  omega
 have h := mix_get a.data.toList b.data.toList (span (r.1.toNat / 8) ((r.1.toNat + r.2.toNat - 1) / 8)) j hj
 rw [hsp] at h
 unfold g lay
 rw [List.getD_eq_getElem?_getD, h]
 rfl
theorem nulls_get (n j : Nat) : (B4.nulls n).data.toList[j]? = if j < n then some 0 else none := by
 unfold B4.nulls
 rw [Array.toList_replicate, List.getElem?_replicate]
theorem laid_get (s : ByteArray) (hs : s.size = 768) (r : Rg) (j : Nat) (hj : j < 768) (h0 : 0 ≤ r.1) (h1 : 16 ≤ r.2) (h2 : r.1 + r.2 ≤ 768) : g (B5.laid s r.1 (B4.zeros r.2)) j = if cov r j then 0 else g s j := by
 obtain ⟨u, hu⟩ : ∃ u : Nat, r.1 = u := ⟨r.1.toNat, by omega⟩
 obtain ⟨v, hv⟩ : ∃ v : Nat, r.2 = v := ⟨r.2.toNat, by omega⟩
 have hz : B4.zeros r.2 = B4.nulls v := by rw [B4.zeros, if_pos (by omega), hv]; rfl
 have hl : B2.lies s.size r.1 (B4.nulls v).size = true := decide_eq_true (by rw [B4.nulls_size, hs]; omega)
 have hsl : s.data.toList.length = 768 := by rw [← hs]; exact (Lib.size_eq s).symm
 rw [hz, B5.laid, hl, if_pos rfl, B4.nulls_size, hu, hs]
 unfold g cov
 rw [hu, hv]
 simp only [List.getD_eq_getElem?_getD, ByteArray.data_append, Array.toList_append, Lib.extract_data, List.getElem?_append, nulls_get, List.getElem?_take, List.getElem?_drop, List.length_take, List.length_drop, hsl, List.length_append]
 rw [show (B4.nulls v).data.toList.length = v by simp [B4.nulls], show ((u : Int)).toNat = u by omega, show ((u : Int) + (v : Int)).toNat = u + v by omega]
 by_cases hc : (u : Int) ≤ (j : Int) ∧ (j : Int) < (u : Int) + (v : Int)
 ·rw [decide_eq_true hc]
  grind
 ·rw [decide_eq_false hc]
  grind
theorem or_if {α : Type} (p q : Bool) (x y : α) : (if p then x else if q then x else y) = if (p || q) then x else y := by cases p <;> cases q <;> rfl
theorem one_cov (a : ByteArray) (rs : List Rg) (hin : ∀ r ∈ rs, 0 ≤ r.1 ∧ 16 ≤ r.2 ∧ r.1 + r.2 ≤ 768) (h8 : ∀ r ∈ rs, r.1 % 8 = 0 ∧ r.2 % 8 = 0) : ∀ k, k ≤ rs.length → ∃ c : Nat → Bool, ∀ j, j < 768 → (∀ b, b.size = 768 → g (layN a b rs k) j = if c j then g a j else g b j) ∧ ∀ x, x.size = 768 → g (outN x rs k) j = if c j then 0 else g x j
 | 0, _ => ⟨fun _ => false, fun j hj => ⟨fun b hb => rfl, fun x hx => rfl⟩⟩
 | k + 1, hk => by
  obtain ⟨c, hc⟩ := one_cov a rs hin h8 k (by omega)
  have hm : at_ rs k ∈ rs := by rw [HP.at_get _ _ (by omega)]; exact List.getElem_mem _
  obtain ⟨i1, i2, i3⟩ := hin _ hm
  obtain ⟨e1, e2⟩ := h8 _ hm
  refine ⟨fun j => cov (at_ rs k) j || c j, fun j hj => ⟨fun b hb => ?_, fun x hx => ?_⟩⟩
  ·rw [layN, lay_get _ _ _ _ hj i1 i2 e1 e2, (hc j hj).1 b hb]
   exact or_if _ _ _ _
  ·rw [outN, laid_get _ (by rw [outN_size]; exact hx) _ _ hj i1 i2 i3, (hc j hj).2 x hx]
   exact or_if _ _ _ _
theorem all_cov (a b : ByteArray) (hb : b.size = 768) (ds : List Ln) : ∀ k, ∃ c : Nat → Bool, ∀ j, j < 768 → g (layS a b ds k) j = (if c j then g a j else g b j) ∧ ∀ x, x.size = 768 → g (outS x ds k) j = if c j then 0 else g x j
 | 0 => ⟨fun _ => false, fun j hj => ⟨rfl, fun x hx => rfl⟩⟩
 | k + 1 => by
  obtain ⟨c, hc⟩ := all_cov a b hb ds k
  obtain ⟨c', hc'⟩ := one_cov a (rl (dat ds k)) (WI.rl_in _) (rl_eight _) (rl (dat ds k)).length (Nat.le_refl _)
  refine ⟨fun j => c' j || c j, fun j hj => ⟨?_, fun x hx => ?_⟩⟩
  ·rw [layS, (hc' j hj).1 _ (KQ.layS_size a b ds hb k), (hc j hj).1]
   exact or_if _ _ _ _
  ·rw [outS, (hc' j hj).2 _ (by rw [outS_size]; exact hx), (hc j hj).2 x hx]
   exact or_if _ _ _ _
theorem same_iff {x y : ByteArray} (hx : x.size = 768) (hy : y.size = 768) : (x.toList == y.toList) = true ↔ ∀ j, j < 768 → g x j = g y j := by
 rw [beq_iff_eq, ByteArray.toList_eq, ByteArray.toList_eq]
 have lx : x.data.toList.length = 768 := by rw [← hx]; exact (Lib.size_eq x).symm
 have ly : y.data.toList.length = 768 := by rw [← hy]; exact (Lib.size_eq y).symm
 constructor
 ·intro h j hj
  unfold g
  rw [h]
 ·intro h
  apply List.ext_getElem?
  intro j
  by_cases hj : j < 768
  ·have := h j hj
   unfold g at this
   rw [X0.get_of lx hj, X0.get_of ly hj, this]
  ·rw [List.getElem?_eq_none (by omega), List.getElem?_eq_none (by omega)]
theorem rest_eq (a b : ByteArray) (ha : a.size = 768) (hb : b.size = 768) (ds : List Ln) (n : Nat) : (a.toList == (layS a b ds n).toList) = ((outS a ds n).toList == (outS b ds n).toList) := by
 obtain ⟨c, hc⟩ := all_cov a b hb ds n
 rw [Bool.eq_iff_iff, same_iff ha (KQ.layS_size a b ds hb n), same_iff (by rw [outS_size]; exact ha) (by rw [outS_size]; exact hb)]
 constructor
 ·intro h j hj
  have h1 := h j hj
  rw [(hc j hj).1] at h1
  rw [(hc j hj).2 a ha, (hc j hj).2 b hb]
  cases hcj : c j with
  | true => rfl
  | false =>
   rw [hcj] at h1
   exact h1
 ·intro h j hj
  have h1 := h j hj
  rw [(hc j hj).2 a ha, (hc j hj).2 b hb] at h1
  rw [(hc j hj).1]
  cases hcj : c j with
  | true => rfl
  | false =>
   rw [hcj] at h1
   exact h1
end Go.Proofs.YtljnkicgahepfaaGreatDoor.KX
namespace Go.Proofs.YtljnkicgahepfaaGreatDoor.KY
open Go
open N0 (Ln)
open Z0 (dat Kp)
open Z4 (truth)
open KO (gath)
open KP (once once_iff)
open US (used)
open TW (sound tK)
open KV (fin)
theorem app_inj {a b c d : ByteArray} (h : a ++ b = c ++ d) (hs : a.size = c.size) : a = c ∧ b = d := by
 have h1 := congrArg (fun x => x.data.toList) h
 simp only [ByteArray.data_append, Array.toList_append] at h1
 have ha : a.data.toList.length = c.data.toList.length := by rw [← Lib.size_eq, ← Lib.size_eq]; exact hs
 obtain ⟨h2, h3⟩ := List.append_inj h1 ha
 exact ⟨ByteArray.ext (Array.toList_inj.1 h2), ByteArray.ext (Array.toList_inj.1 h3)⟩
theorem ext_cut (s : ByteArray) (i n : Nat) : s.extract 0 (i + n) = s.extract 0 i ++ s.extract i (i + n) := by
 apply ByteArray.ext
 apply Array.toList_inj.1
 rw [ByteArray.data_append, Array.toList_append, Lib.extract_data, Lib.extract_data, Lib.extract_data, List.drop_zero, Nat.sub_zero, Nat.sub_zero, Nat.add_sub_cancel_left, List.take_add]
theorem pages_eq {m : ByteArray} (hm : m.size = 768) (d : Ln) (hp : P0.pagesOk d.pg = true) (hsv : d.sav.size = d.pg.length * 32) : ∀ k, k ≤ d.pg.length → (N0.to (KL.pgAt m d) k = true ↔ O0.joined m d.pg k = d.sav.extract 0 (k * 32))
 | 0, _ => by
  constructor
  ·intro _
   apply ByteArray.ext
   apply Array.toList_inj.1
   rw [Lib.extract_data]
   simp [O0.joined]
  ·intro _
   rfl
 | k + 1, hk => by
  have ih := pages_eq hm d hp hsv k (by omega)
  have hjs := O0.joined_size hm hp k (by omega)
  have hxs : (d.sav.extract 0 (k * 32)).size = k * 32 := by rw [ByteArray.size_extract]; omega
  have hpt : B2.part d.sav ((k : Int) * 32) 32 = d.sav.extract (k * 32) (k * 32 + 32) := by
   rw [B2.part, show B2.lies d.sav.size ((k : Int) * 32) 32 = true from decide_eq_true (by omega), if_pos rfl, show ((k : Int) * 32).toNat = k * 32 by omega, show ((k : Int) * 32 + 32).toNat = k * 32 + 32 by omega]
  rw [N0.to_succ, Bool.and_eq_true, ih, O0.joined, show (k + 1) * 32 = k * 32 + 32 by omega, ext_cut]
  unfold KL.pgAt
  rw [decide_eq_true_eq, hpt]
  constructor
  ·rintro ⟨h1, h2⟩
   rw [h1, h2]
  ·intro h
   obtain ⟨h1, h2⟩ := app_inj h (by omega)
   exact ⟨h1, h2.symm⟩
theorem nulls16 : R0.putI 0 0 0 [] = B4.zeros 16 := by decide +kernel
theorem free_rec {s : ByteArray} (h : G0.isI s = true) : G0.gK s = 0 ↔ s = B4.zeros 16 := by
 have h' := h
 simp only [G0.isI, Bool.and_eq_true, decide_eq_true_eq, beq_iff_eq] at h'
 obtain ⟨hs, ht⟩ := h'
 rw [ByteArray.toList_eq, ByteArray.toList_eq] at ht
 have ht' : G0.txt s = s := ByteArray.ext (Array.toList_inj.1 ht)
 rw [G0.gK, if_pos h]
 constructor
 ·intro h0
  have hok : I0.ok (B1.byteAt s 0) (B1.byteAt s 1) (B6.pairAt s 2) (G0.pgs s (G0.cnt s)) = true := by
   cases hk : I0.ok (B1.byteAt s 0) (B1.byteAt s 1) (B6.pairAt s 2) (G0.pgs s (G0.cnt s)) with
   | true => rfl
   | false =>
    have : (G0.txt s).size = 0 := by
     rw [G0.txt, R0.putI, hk]
     rfl
    rw [ht', hs] at this
    omega
  have h1 := hok
  rw [h0, I0.ok, if_pos rfl, I0.free] at h1
  simp only [Bool.and_eq_true, decide_eq_true_eq] at h1
  obtain ⟨a1, a2, a3⟩ := h1
  have a4 : G0.pgs s (G0.cnt s) = [] := List.eq_nil_of_length_eq_zero a3
  rw [← ht', G0.txt, h0, a1, a2, a4]
  exact nulls16
 ·intro hz
  rw [hz]
  decide +kernel
theorem mem_to (m : ByteArray) (P : Nat → ByteArray) : ∀ n (z : Int), z ∈ (FI.filesTo m P n).map (fun f => f.ino) ↔ ∃ i, i < n ∧ z = (i : Int) ∧ tK m i ≠ 0
 | 0, z => by simp [FI.filesTo]
 | n + 1, z => by
  rw [FI.filesTo, List.map_append, List.mem_append, mem_to m P n z]
  by_cases hk : tK m n = 0
  ·rw [if_pos hk]
   constructor
   ·rintro (⟨i, h1, h2, h3⟩ | h)
    ·exact ⟨i, by omega, h2, h3⟩
    ·cases h
   ·rintro ⟨i, h1, h2, h3⟩
    by_cases hi : i = n
    ·rw [hi] at h3
     exact absurd hk h3
    ·exact Or.inl ⟨i, by omega, h2, h3⟩
  ·rw [if_neg hk]
   constructor
   ·rintro (⟨i, h1, h2, h3⟩ | h)
    ·exact ⟨i, by omega, h2, h3⟩
    ·simp only [List.map_cons, List.map_nil, List.mem_singleton] at h
     exact ⟨n, by omega, by rw [h]; rfl, hk⟩
   ·rintro ⟨i, h1, h2, h3⟩
    by_cases hi : i = n
    ·right
     subst hi
     simp only [List.map_cons, List.map_nil, List.mem_singleton]
     rw [h2]
     rfl
    ·exact Or.inl ⟨i, by omega, h2, h3⟩
theorem fresh_eq {m : ByteArray} (hs : sound m = true) {z : Int} (h1 : 1 ≤ z) (h7 : z ≤ 7) : O0.recd m z = B4.zeros 16 ↔ ¬ z ∈ fin m := by
 obtain ⟨hm, hn, _, _⟩ := FI.sound_parts hs
 obtain ⟨i, rfl⟩ : ∃ i : Nat, z = (i : Int) := ⟨z.toNat, by omega⟩
 have hno := N0.to_iff.1 hn i (by omega)
 have hI : G0.isI (O0.recd m (i : Int)) = true := by
  simp only [D1.nodeOk, Bool.and_eq_true] at hno
  exact hno.1
 rw [← free_rec hI]
 unfold fin FI.files
 rw [if_pos hs, mem_to]
 constructor
 ·rintro h ⟨j, hj, he, hk⟩
  have : j = i := by omega
  subst this
  exact hk h
 ·intro h
  by_cases hk : tK m i = 0
  ·exact hk
  ·exact absurd ⟨i, by omega, rfl, hk⟩ h
theorem apart_iff (pg po : List Int) : N0.apart pg po = true ↔ ∀ z ∈ po, ¬ z ∈ pg := by
 unfold N0.apart
 rw [N0.to_iff]
 constructor
 ·intro h z hz
  obtain ⟨i, hi, rfl⟩ := N0.mem_getD hz
  have := h i hi
  simp only [N0.apAt, Bool.not_eq_true'] at this
  intro hc
  rw [N0.has_iff.2 hc] at this
  cases this
 ·intro h i hi
  have := h _ (N0.getD_mem hi)
  simp only [N0.apAt, Bool.not_eq_true']
  cases hh : P0.has pg (po.getD i 0) with
  | false => rfl
  | true => exact absurd (N0.has_iff.1 hh) this
theorem kept_iff (po us : List Int) : (Y6.srt (Y6.kept true po us)).length = 0 ↔ N0.apart us po = true := by
 rw [Y6.srt_length, apart_iff]
 unfold Y6.kept
 rw [List.length_eq_zero_iff, List.filter_eq_nil_iff]
 constructor
 ·intro h z hz hc
  exact h z hz (by rw [N0.has_iff.2 hc]; rfl)
 ·intro h z hz hc
  have h1 : P0.has us z = true := by simpa using hc
  exact h z hz (N0.has_iff.1 h1)
theorem lOk_has {m : ByteArray} (hs : sound m = true) (d : Ln) : KL.lOk m (used m) d = KH.has m (used m) (fin m) d := by
 obtain ⟨hm, _, _, _⟩ := FI.sound_parts hs
 unfold KL.lOk KH.has
 cases hok : N0.loanOk d with
 | false => rfl
 | true =>
  obtain ⟨hI, hK, hgz, hsv, hio, -, hp6, hp4, hp2, hpp, hfi, -, -⟩ := N0.loanOk_is hok
  rw [Bool.true_and, Bool.true_and]
  by_cases hrc : O0.recd m d.ino = d.rc
  ·rw [decide_eq_true hrc, decide_eq_true hrc.symm]
   have hl : O0.isL m d.ino = true := O0.isL_of hm (by rw [hrc]; exact hI) (by
    rw [hrc]
    rw [G0.gK, if_pos hI] at hK
    exact hK)
   rw [hl, Bool.true_and, Bool.true_and, Bool.true_and]
   have e1 : N0.to (KL.pgAt m d) d.pg.length = decide (O0.joined m d.pg d.pg.length = d.sav) := by
    rw [Bool.eq_iff_iff, pages_eq hm d (KH.pagesOk_left hpp) hsv d.pg.length (Nat.le_refl _), decide_eq_true_eq]
    have hx : d.sav.extract 0 (d.pg.length * 32) = d.sav := by
     apply ByteArray.ext
     apply Array.toList_inj.1
     rw [Lib.extract_data, List.drop_zero, Nat.sub_zero, ← hsv, Lib.size_eq, List.take_length]
    rw [hx]
   have e2 : N0.to (KL.frAt m d) d.fr.length = N0.apart (fin m) d.fr := by
    rw [Bool.eq_iff_iff, apart_iff, N0.to_iff]
    constructor
    ·intro h z hz
     obtain ⟨i, hi, rfl⟩ := N0.mem_getD hz
     have h1 := h i hi
     unfold KL.frAt at h1
     have h2 := hfi _ hz
     exact (fresh_eq hs h2.1 h2.2).1 (of_decide_eq_true h1)
    ·intro h i hi
     have hz := N0.getD_mem hi
     have h2 := hfi _ hz
     unfold KL.frAt
     exact decide_eq_true ((fresh_eq hs h2.1 h2.2).2 (h _ hz))
   have e3 : decide ((Y6.srt (Y6.kept true d.po (used m))).length = 0) = N0.apart (used m) d.po := by
    rw [Bool.eq_iff_iff, decide_eq_true_eq]
    exact kept_iff _ _
   rw [e1, e2, e3]
  ·rw [decide_eq_false hrc, decide_eq_false (fun h => hrc h.symm), Bool.false_and, Bool.false_and, Bool.and_false]
theorem gath_perm (f h : Ln → List Int) (ds : List Ln) : ∀ k, (gath f ds k ++ gath h ds k).Perm (gath (fun d => f d ++ h d) ds k)
 | 0 => List.Perm.refl _
 | k + 1 => by
  rw [gath, gath, gath]
  refine List.Perm.trans ?_ ((gath_perm f h ds k).append_right _)
  rw [List.append_assoc, List.append_assoc]
  exact (List.perm_append_comm_assoc _ _ _).append_left _
theorem once_perm {xs ys : List Int} (h : xs.Perm ys) : once xs = once ys := by
 rw [Bool.eq_iff_iff, once_iff, once_iff]
 exact h.nodup_iff
theorem asc_iff (k : Kp) : N0.asc (KI.ginos k.ds) = true ↔ ∀ j, j < k.ds.length → (j = 0 ∨ (dat k.ds (j - 1)).ino < (dat k.ds j).ino) := by
 have hl := KI.gi_len k.ds k.ds.length
 unfold N0.asc KI.ginos
 rw [N0.to_iff, hl]
 constructor
 ·intro h j hj
  have h1 := h j hj
  simp only [N0.ascAt, Bool.or_eq_true, decide_eq_true_eq] at h1
  rcases h1 with h1 | h1
  ·exact Or.inl h1
  ·right
   rwa [KI.gi_get _ _ _ (by omega), KI.gi_get _ _ _ hj] at h1
 ·intro h j hj
  simp only [N0.ascAt, Bool.or_eq_true, decide_eq_true_eq]
  rcases h j hj with h1 | h1
  ·exact Or.inl h1
  ·right
   rwa [KI.gi_get _ _ _ (by omega), KI.gi_get _ _ _ hj]
theorem sK_eq (k : Kp) : KS.sK k = KI.iK k := by
 unfold KS.sK KI.iK
 cases hd : D1.ok k.mem k.dur with
 | false => rfl
 | true =>
  obtain ⟨h1, h2⟩ := D1.ok_true hd
  have hck : B1.inB k.ck 0 999999 = (!decide (k.ck < 0) && !decide (999999 < k.ck)) := by
   rw [Bool.eq_iff_iff, N0.inB_iff, Bool.and_eq_true, Bool.not_eq_true', Bool.not_eq_true', decide_eq_false_iff_not, decide_eq_false_iff_not]
   omega
  rw [hck]
  cases hs : sound (truth k) with
  | false => simp
  | true =>
   have e1 : once (gath (fun d : Ln => d.ino :: d.fr) k.ds k.ds.length) = once (KI.ginos k.ds ++ KI.gfr k.ds) := (once_perm (gath_perm (fun d : Ln => [d.ino]) (fun d : Ln => d.fr) k.ds k.ds.length)).symm
   have e2 : KS.outs k = KI.lasts k := (KX.rest_eq k.mem k.dur h1 h2 k.ds k.ds.length).symm
   have e3 : N0.to (KS.lAt k) k.ds.length = (N0.asc (KI.ginos k.ds) && N0.to (KI.hAt k) k.ds.length) := by
    rw [Bool.eq_iff_iff, Bool.and_eq_true, asc_iff, N0.to_iff, N0.to_iff]
    have hh : ∀ j, KS.lAt k j = (KI.hAt k j && (decide (j = 0) || decide ((dat k.ds (j - 1)).ino < (dat k.ds j).ino))) := fun j => by
     unfold KS.lAt KI.hAt
     rw [lOk_has hs]
    constructor
    ·intro h
     refine ⟨fun j hj => ?_, fun j hj => ?_⟩
     ·have h3 := h j hj
      rw [hh] at h3
      simp only [Bool.and_eq_true, Bool.or_eq_true, decide_eq_true_eq] at h3
      exact h3.2
     ·have h3 := h j hj
      rw [hh] at h3
      simp only [Bool.and_eq_true] at h3
      exact h3.1
    ·rintro ⟨h3, h4⟩ j hj
     rw [hh, h4 j hj]
     simp only [Bool.true_and, Bool.or_eq_true, decide_eq_true_eq]
     exact h3 j hj
   rw [e1, e2, e3]
   show _ = _
   generalize once (KI.ginos k.ds ++ KI.gfr k.ds) = b1
   generalize KI.lasts k = b2
   generalize N0.asc (KI.ginos k.ds) = b3
   generalize N0.to (KI.hAt k) k.ds.length = b4
   generalize once (KI.gpo k.ds) = b5
   generalize decide (k.ck < 0) = b6
   generalize decide (999999 < k.ck) = b7
   cases b1 <;> cases b2 <;> cases b3 <;> cases b4 <;> cases b5 <;> cases b6 <;> cases b7 <;> rfl
end Go.Proofs.YtljnkicgahepfaaGreatDoor.KY
namespace Go.Proofs.YtljnkicgahepfaaGreatDoor.PH
open Go.ChangeShapes Go.WideShapes Go.ChangeAt Go.RowKit
open N0 (Ln)
open N1 (Sl)
open Z0 (dat Row Lns Kp kval kvals)
open Z4 (unAll unAll_size)
open KQ (layS layS_size layN)
open WI (rl)
open W0 (pw pMem pDur)
open N13 (undo)
open KD (kob zk)
open AQ (Sz)
open PF (LQ)
open PG (SA)
open PC (cut pw_size)
open PD (pcut B2 b2_new)
def SB (k : Kp) (w : World) (e : Ending) (w' : World) : Prop := ∃ a' c' ss, e = .returned (kval k a' c') ∧ Lns w' a' k.ds ss ∧ Below w.heap.size w w'
structure Sb (w : World) (k : Kp) (ss : Nat → Sl) (a1 : Option Addr) (c1 base : Nat) (m p : ByteArray) (W : World) : Prop where
 box : K0.Blk w.heap.size [.string m, .string p, .slice a1 k.ds.length c1, .int .i64 k.ck] W
 ans : K0.Blk (w.heap.size + 1) Z3.zero4 W
 lq : LQ base k.ds k.ds.length ss a1 c1 W
 bel : Below w.heap.size w W
 hb : w.heap.size + 2 ≤ base
variable {w W W' : World} {k : Kp} {ss : Nat → Sl} {a1 : Option Addr} {c1 base : Nat} {m p : ByteArray}
theorem Sb.below (h : Sb w k ss a1 c1 base m p W) (hb : Below W.heap.size W W') : Sb w k ss a1 c1 base m p W' := ⟨h.box.below hb, h.ans.below hb, h.lq.below hb, h.bel.trans (hb.mono h.bel.size), h.hb⟩
theorem Sb.drew (h : Sb w k ss a1 c1 base m p W) : Sb w k ss a1 c1 base m p W.drew := h.below ((Below.refl _ _).drew)
theorem Sb.put0 (h : Sb w k ss a1 c1 base m p W) (m' : ByteArray) : Sb w k ss a1 c1 base m' p (W.setCell ⟨w.heap.size, 0, none⟩ (.string m')) :=
 ⟨h.box.set 0 _, h.ans.setOther (by omega) _ _, h.lq.set (by have := h.hb; omega) _ _, h.bel.setCell (p := ⟨w.heap.size, 0, none⟩) (Nat.le_refl _) _, h.hb⟩
theorem Sb.put1 (h : Sb w k ss a1 c1 base m p W) (p' : ByteArray) : Sb w k ss a1 c1 base m p' (W.setCell ⟨w.heap.size, 1, none⟩ (.string p')) :=
 ⟨h.box.set 1 _, h.ans.setOther (by omega) _ _, h.lq.set (by have := h.hb; omega) _ _, h.bel.setCell (p := ⟨w.heap.size, 1, none⟩) (Nat.le_refl _) _, h.hb⟩
theorem sb_new {a : Option Addr} {c : Nat} (h : B2 w k a c W) (hl : LQ base k.ds k.ds.length ss a1 c1 W) (hb : w.heap.size + 2 ≤ base) :
  Sb w k ss a1 c1 base k.mem k.dur ((((W.setCell ⟨w.heap.size, 0, none⟩ (.string k.mem)).setCell ⟨w.heap.size, 1, none⟩ (.string k.dur)).setCell ⟨w.heap.size, 2, none⟩ (.slice a1 k.ds.length c1)).setCell ⟨w.heap.size, 3, none⟩ (.int .i64 k.ck)) :=
 ⟨h.box.put4 _ _ _ _, (((h.ans.setOther (by omega) _ _).setOther (by omega) _ _).setOther (by omega) _ _).setOther (by omega) _ _, (((hl.set (by omega) _ _).set (by omega) _ _).set (by omega) _ _).set (by omega) _ _, (((h.bel.setCell (p := ⟨w.heap.size, 0, none⟩) (Nat.le_refl _) _).setCell (p := ⟨w.heap.size, 1, none⟩) (Nat.le_refl _) _).setCell (p := ⟨w.heap.size, 2, none⟩) (Nat.le_refl _) _).setCell (p := ⟨w.heap.size, 3, none⟩) (Nat.le_refl _) _, hb⟩
set_option maxHeartbeats 8000000 in
theorem spec_PowerCut (k : Kp) (a : Option Addr) (c : Nat) (s0 : Nat → Sl) (ka : Option Addr) (kc : Nat) (kept : List Int) (w : World) (hz : Sz k) (hkn : kept.length ≤ 1048576) (hL : Lns w a k.ds s0) (hR : P0.Row w ka kept) :
  Calls Tryz.prog 12 #[kval k a c, .slice ka kept.length kc] w (SB (pcut k kept) w) := by
 have hnn : k.ds.length ≤ 1048576 := by have := hz.t; omega
 have t0 := b2_new w k a c
 have hcp := PG.l06Copy k a c s0 _ (by have := hz.t; omega) hz.small (hL.below t0.bel)
 have HR : Hid (∀ W, Below w.heap.size w W → P0.Row W ka kept) := fun W hb => hR.below hb
 have HK : Hid (∀ a1 c1 ss W, Lns W a1 k.ds ss → Calls Tryz.prog 13 #[kval k a1 c1] W fun e w' => e = .returned (.bool (KI.iK k)) ∧ Below W.heap.size W w') := fun a1 c1 ss W h => (KY.sK_eq k) ▸ KS.spec_KeeperOk k a1 c1 ss W hz.m hz.d hz.t (hz.fits ss) h
 have HF : Hid (∀ ss, Z4.Fits k.ds ss) := fun ss => hz.fits ss
 have c0 := t0.box.c0
 have c1 := t0.box.c1
 have c2 := t0.box.c2
 have c3 := t0.box.c3
 have g0 := t0.box.f0
 have z0 : w.heap.size + 2 = ((w.alloc (kob k a c)).alloc zk).heap.size := by simp
 obtain ⟨W0, hW0⟩ : ∃ W0, (w.alloc (kob k a c)).alloc zk = W0 := ⟨_, rfl⟩
 rw [hW0] at t0 hcp c0 c1 c2 c3 z0 g0
 unfold SA at hcp
 clear hL hR g0
 unfold SB
 cases hok : KI.iK k with
 | false =>
  rw [show pcut k kept = k from if_neg (by rw [hok]; decide)]
  rw [hok] at HK
  clear hok HR HF
  go_enter Tryz.func12, Tryz.ntmps12
  go_wp2_with (first
   | (go_at_call 38; refine hcp.mono ?_; rintro e w1 ⟨a1, c1', ss, rfl, l1, b1⟩; have t1 := t0.below b1; have x0 := t1.box.c0; have x1 := t1.box.c1; have x2 := t1.box.c2; have x3 := t1.box.c3; have g0 := t1.box.f0; have g1 := t1.box.f1; have g2 := t1.box.f2; have g3 := t1.box.f3; have u1 := sb_new t1 l1 (by omega); have d0 := u1.box.c0; have d1 := u1.box.c1; have d2 := u1.box.c2; have d3 := u1.box.c3)
   | (go_at_call 13; refine (HK.out _ _ _ _ u1.lq.lns).mono ?_; rintro e w2 ⟨rfl, b2⟩; have u2 := u1.below b2; have d0 := u2.box.c0; have d1 := u2.box.c1; have d2 := u2.box.c2; have d3 := u2.box.c3; have y0 := u2.ans.c0; have y1 := u2.ans.c1; have y2 := u2.ans.c2; have y3 := u2.ans.c3; have e0 := u2.ans.f0; have e1 := u2.ans.f1; have e2 := u2.ans.f2; have e3 := u2.ans.f3))
  have qq := u2.ans.put4 (.string k.mem) (.string k.dur) (.slice a1 k.ds.length c1') (.int .i64 k.ck)
  have ll := (((u2.lq.set (B := w.heap.size + 1) (by omega) 0 (.string k.mem)).set (B := w.heap.size + 1) (by omega) 1 (.string k.dur)).set (B := w.heap.size + 1) (by omega) 2 (.slice a1 k.ds.length c1')).set (B := w.heap.size + 1) (by omega) 3 (.int .i64 k.ck)
  have mm := (((u2.bel.setCell (p := ⟨w.heap.size + 1, 0, none⟩) (Nat.le_succ _) (.string k.mem)).setCell (p := ⟨w.heap.size + 1, 1, none⟩) (Nat.le_succ _) (.string k.dur)).setCell (p := ⟨w.heap.size + 1, 2, none⟩) (Nat.le_succ _) (.slice a1 k.ds.length c1')).setCell (p := ⟨w.heap.size + 1, 3, none⟩) (Nat.le_succ _) (.int .i64 k.ck)
  have v0 := qq.c0
  have v1 := qq.c1
  have v2 := qq.c2
  have v3 := qq.c3
  exact bodyPost_ret (v := kval k a1 c1') (by simp [results, Tryz.results12, go_sem, v0, v1, v2, v3]) rfl ⟨a1, c1', ss, rfl, ll.lns, mm⟩
 | true =>
  rw [show pcut k kept = cut k kept from if_pos hok]
  rw [hok] at HK
  have hdo := PD.iK_ok hok
  obtain ⟨h1, h2⟩ := D1.ok_true hdo
  have hpw : Hid (∀ W, Below w.heap.size w W → Calls Tryz.prog 39 #[.agg #[.string k.mem, .string k.dur], .slice ka kept.length kc] W fun e w' => e = .returned (.agg #[.string (pw k.mem k.dur kept), .string (pw k.mem k.dur kept)]) ∧ Below W.heap.size W w') := fun W hb => by
   have h := W1.spec_Power k.mem k.dur ka kc kept W (by omega) (by omega) hkn (HR.out W hb)
   rw [show pMem k.mem k.dur kept = pw k.mem k.dur kept from if_pos hdo, show pDur k.mem k.dur kept = pw k.mem k.dur kept from if_pos hdo] at h
   exact h
  have hsz := pw_size k.mem k.dur kept
  have HC : Hid (cut k kept = ⟨unAll k.ds (pw k.mem k.dur kept) k.ds.length, layS (unAll k.ds (pw k.mem k.dur kept) k.ds.length) (pw k.mem k.dur kept) k.ds k.ds.length, [], k.ck⟩) := rfl
  obtain ⟨p, ep⟩ : ∃ p, pw k.mem k.dur kept = p := ⟨_, rfl⟩
  rw [ep] at hpw hsz HC
  clear hok hdo ep HR
  go_enter Tryz.func12, Tryz.ntmps12
  go_wp2_with (first
   | (go_at_call 38; refine hcp.mono ?_; rintro e w1 ⟨a1, c1', ss, rfl, l1, b1⟩; have t1 := t0.below b1; have x0 := t1.box.c0; have x1 := t1.box.c1; have x2 := t1.box.c2; have x3 := t1.box.c3; have g0 := t1.box.f0; have g1 := t1.box.f1; have g2 := t1.box.f2; have g3 := t1.box.f3; have u1 := sb_new t1 l1 (by omega); have d0 := u1.box.c0; have d1 := u1.box.c1; have d2 := u1.box.c2; have d3 := u1.box.c3)
   | (go_at_call 13; refine (HK.out _ _ _ _ u1.lq.lns).mono ?_; rintro e w2 ⟨rfl, b2⟩; have u2 := u1.below b2; have d0 := u2.box.c0; have d1 := u2.box.c1; have d2 := u2.box.c2; have d3 := u2.box.c3)
   | (go_at_call 39; refine (hpw.out _ u2.bel).mono ?_; rintro e w3 ⟨rfl, b3⟩; have u3 := u2.below b3; have d0 := u3.box.c0; have d1 := u3.box.c1; have e0 := u3.box.f0; have e1 := u3.box.f1))
  have u4 := (u3.put0 p).put1 p
  clear u1 u2 u3 hpw HK hcp l1 t1 t0 d0 d1 d2 d3
  obtain ⟨bs, hbs⟩ : ∃ bs, W0.heap.size + 3 = bs := ⟨_, rfl⟩
  rw [hbs] at u4
  have hbs2 : w.heap.size + 5 ≤ bs := by omega
  clear hbs x0 x1 x2 x3 g0 g1 g2 g3 c0 c1 c2 c3 e0 e1 b1 b2 b3 z0 hW0
  go_loopw [5] (fun i w' => ∃ j : Nat, j ≤ k.ds.length ∧ i = .int .i64 j ∧ Sb w k ss a1 c1' bs (unAll k.ds p j) p w') (fun i _ => k.ds.length - (intOf i).toNat)
  case atStart => exact ⟨0, Nat.zero_le _, rfl, u4⟩
  case round =>
   obtain ⟨j, hj, rfl, ur⟩ := hrel
   clear u4
   have d2 := ur.box.c2
   have hus := unAll_size k.ds p j
   by_cases hlt : j < k.ds.length
   ·have hLn := ur.lq.lns
    have ls := hLn.sub j hlt
    obtain ⟨hf, hpo, hfr⟩ := HF.out ss j hlt
    obtain ⟨b, off, rfl, hlt0, hc⟩ := hLn.row.get hlt
    obtain ⟨y0, y1, y2, y3, y4, y5, y6, y7⟩ := hc j hlt
    have hu : undo (unAll k.ds p j) (dat k.ds j) = unAll k.ds p (j + 1) := rfl
    obtain ⟨d, ed⟩ : ∃ d, dat k.ds j = d := ⟨_, rfl⟩
    obtain ⟨s, es⟩ : ∃ s, ss j = s := ⟨_, rfl⟩
    rw [ed, es] at ls hf
    rw [ed] at y0 y1 y2 y3 y4 y5 y6 y7 hpo hfr hu
    rw [es] at y4 y6 y7
    obtain ⟨cur, ec⟩ : ∃ cur, unAll k.ds p j = cur := ⟨_, rfl⟩
    rw [ec] at ur hus hu
    have HU : Hid (undo cur d = unAll k.ds p (j + 1)) := hu
    have hun : Hid (Calls Tryz.prog 40 #[.string cur, N1.val d s] wr.drew fun e w' => e = .returned (.string (undo cur d)) ∧ Below wr.drew.heap.size wr.drew w') := N14.spec_Undo _ d s wr.drew (by omega) hf hpo hfr (ls.below ((Below.refl _ wr).drew))
    obtain ⟨nxt, en⟩ : ∃ nxt, undo cur d = nxt := ⟨_, rfl⟩
    rw [en] at hun HU
    have x1 : (0 : Int) ≤ (j : Int) := by omega
    have x2 : (j : Int) < (k.ds.length : Int) := by omega
    have d0 := ur.box.c0
    have d1 := ur.box.c1
    have UR := ur.drew
    clear ed es ec en hu hc ls hf hLn
    go_wp2
    go_region_with (go_at_call 40; refine hun.out.mono ?_; rintro e w5 ⟨rfl, b5⟩; have u5 := UR.below b5; have f0 := u5.box.c0; have g0 := u5.box.f0)
    all_goals
     go_wp2
     have u6 := u5.put0 nxt
     go_roundw
     case rel => exact ⟨j + 1, by omega, by go_num, by rw [← HU.out]; exact u6⟩
     case measure => simp [intOf]; omega
   ·obtain rfl : j = k.ds.length := by omega
    obtain ⟨m, em⟩ : ∃ m, unAll k.ds p k.ds.length = m := ⟨_, rfl⟩
    rw [em] at ur hus HC
    have hmz : m.size = 768 := by omega
    have e9 : decide ((k.ds.length : Int) < (k.ds.length : Int)) = false := by simp
    clear em
    go_wp2
    go_loopw [6] (fun i w' => ∃ j : Nat, j ≤ k.ds.length ∧ i = .int .i64 j ∧ Sb w k ss a1 c1' bs m (layS m p k.ds j) w') (fun i _ => k.ds.length - (intOf i).toNat)
    case atStart => exact ⟨0, Nat.zero_le _, rfl, ur⟩
    case round =>
     obtain ⟨j, hj, rfl, us⟩ := hrel
     clear ur d2 e9
     have d2 := us.box.c2
     by_cases hlt : j < k.ds.length
     ·have hLn := us.lq.lns
      have ls := hLn.sub j hlt
      obtain ⟨hf, hpo, hfr⟩ := HF.out ss j hlt
      obtain ⟨b, off, rfl, hlt0, hc⟩ := hLn.row.get hlt
      obtain ⟨y0, y1, y2, y3, y4, y5, y6, y7⟩ := hc j hlt
      have hlz := layS_size m p k.ds hsz j
      have hu : layS m p k.ds (j + 1) = layN m (layS m p k.ds j) (rl (dat k.ds j)) (rl (dat k.ds j)).length := rfl
      obtain ⟨d, ed⟩ : ∃ d, dat k.ds j = d := ⟨_, rfl⟩
      obtain ⟨s, es⟩ : ∃ s, ss j = s := ⟨_, rfl⟩
      rw [ed, es] at ls hf
      rw [ed] at y0 y1 y2 y3 y4 y5 y6 y7 hpo hfr hu
      rw [es] at y4 y6 y7
      obtain ⟨cur, ec⟩ : ∃ cur, layS m p k.ds j = cur := ⟨_, rfl⟩
      rw [ec] at us hlz hu
      have HU : Hid (layS m p k.ds (j + 1) = layN m cur (rl d) (rl d).length) := hu
      have hsy : Hid (Calls Tryz.prog 41 #[.agg #[.string m, .string cur], N1.val d s] wr.drew fun e w' => e = .returned (.agg #[.string m, .string (layN m cur (rl d) (rl d).length)]) ∧ Below wr.drew.heap.size wr.drew w') := PE.l06Sync m cur d s wr.drew hmz hlz hf hpo hfr (ls.below ((Below.refl _ wr).drew))
      obtain ⟨nxt, en⟩ : ∃ nxt, layN m cur (rl d) (rl d).length = nxt := ⟨_, rfl⟩
      rw [en] at hsy HU
      have x1 : (0 : Int) ≤ (j : Int) := by omega
      have x2 : (j : Int) < (k.ds.length : Int) := by omega
      have d0 := us.box.c0
      have d1 := us.box.c1
      have US := us.drew
      clear ed es ec en hu hc ls hf hLn
      go_wp2
      go_region_with (go_at_call 41; refine hsy.out.mono ?_; rintro e w5 ⟨rfl, b5⟩; have u5 := US.below b5; have f0 := u5.box.c0; have f1 := u5.box.c1; have g0 := u5.box.f0; have g1 := u5.box.f1)
      all_goals
       go_wp2
       have u6 := (u5.put0 m).put1 nxt
       go_roundw
       case rel => exact ⟨j + 1, by omega, by go_num, by rw [HU.out]; exact u6⟩
       case measure => simp [intOf]; omega
     ·obtain rfl : j = k.ds.length := by omega
      obtain ⟨u, eu⟩ : ∃ u, layS m p k.ds k.ds.length = u := ⟨_, rfl⟩
      rw [eu] at us HC
      have e9 : decide ((k.ds.length : Int) < (k.ds.length : Int)) = false := by simp
      have nb := K0.below_new wr (.cells #[] 66)
      have U := us.below nb
      have d0 := U.box.c0
      have d1 := U.box.c1
      have d2' := U.box.c2
      have d3 := U.box.c3
      have h2' := U.box.f2
      have bx := U.box.set 2 (.slice (some ⟨wr.heap.size, 0, none⟩) 0 0)
      have an := U.ans.setOther (B' := w.heap.size) (by omega) 2 (.slice (some ⟨wr.heap.size, 0, none⟩) 0 0)
      have mb := U.bel.setCell (p := ⟨w.heap.size, 2, none⟩) (Nat.le_refl _) (.slice (some ⟨wr.heap.size, 0, none⟩) 0 0)
      have y0 := an.c0
      have y1 := an.c1
      have y2 := an.c2
      have y3 := an.c3
      have f0 := an.f0
      have f1 := an.f1
      have f2 := an.f2
      have f3 := an.f3
      have q0 := bx.c0
      have q1 := bx.c1
      have q2 := bx.c2
      have q3 := bx.c3
      have qq := an.put4 (.string m) (.string u) (.slice (some ⟨wr.heap.size, 0, none⟩) 0 0) (.int .i64 k.ck)
      have mm := (((mb.setCell (p := ⟨w.heap.size + 1, 0, none⟩) (Nat.le_succ _) (.string m)).setCell (p := ⟨w.heap.size + 1, 1, none⟩) (Nat.le_succ _) (.string u)).setCell (p := ⟨w.heap.size + 1, 2, none⟩) (Nat.le_succ _) (.slice (some ⟨wr.heap.size, 0, none⟩) 0 0)).setCell (p := ⟨w.heap.size + 1, 3, none⟩) (Nat.le_succ _) (.int .i64 k.ck)
      have v0 := qq.c0
      have v1 := qq.c1
      have v2 := qq.c2
      have v3 := qq.c3
      clear eu HF
      go_wp2
      rw [HC.out]
      exact bodyPost_ret (v := .agg #[.string m, .string u, .slice (some ⟨wr.heap.size, 0, none⟩) 0 0, .int .i64 k.ck]) (by simp [results, Tryz.results12, go_sem, v0, v1, v2, v3]) rfl ⟨some ⟨wr.heap.size, 0, none⟩, 0, fun _ => Z0.sz0, rfl, ⟨Or.inl rfl, fun j hj => by simp at hj⟩, mm⟩
end Go.Proofs.YtljnkicgahepfaaGreatDoor.PH
