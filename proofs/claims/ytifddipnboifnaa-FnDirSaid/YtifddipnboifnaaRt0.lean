/- Plain facts: an entry, an inode and a directory come back from their bytes. -/
import Derived.Test.YtifddipnboifnaaGet0
import Derived.Test.YtifddipnboifnaaGdr0
namespace Go.Proofs.Ytifddipnboifnaa.Z0
open Go
set_option linter.unusedVariables false
set_option linter.unusedSimpArgs false
set_option maxRecDepth 10000

theorem byteAt_get (s : ByteArray) (k : Nat) : B1.byteAt s (k : Int) = ((s.data.toList.getD k 0).toNat : Int) := by
  have hs := Lib.size_eq s
  unfold B1.byteAt
  split
  · rename_i h
    have hk : k < s.data.toList.length := by omega
    rw [List.getD_eq_getElem?_getD, List.getElem?_eq_getElem hk]
    simp only [Int.toNat_natCast, Option.getD_some, Array.getElem_toList]
    rfl
  · rename_i h
    have hk : s.data.toList.length ≤ k := by omega
    rw [List.getD_eq_getElem?_getD, List.getElem?_eq_none hk]
    rfl

theorem ofNat_nat (n : Nat) (h : n < 256) : ((UInt8.ofNat n).toNat : Int) = (n : Int) := by
  have := B3.ofNat_int (n : Int) (by omega) (by omega)
  simpa using this

theorem putE_list {i : Int} {s : ByteArray} (h : E0.entryOk i s = true) : (E0.putE i s).data.toList = UInt8.ofNat i.toNat :: UInt8.ofNat s.size :: (s.data.toList ++ List.replicate (14 - s.size) 0) := by
  rw [E0.putE, if_pos h]
  simp [E0.headOf, B4.nulls, ByteArray.data_append]

theorem arr_ext {a b : ByteArray} (h : a.data.toList = b.data.toList) : a = b := ByteArray.ext (Array.toList_inj.1 h)

theorem entry_back {i : Int} {s : ByteArray} (h : E0.entryOk i s = true) : E4.ino (E0.putE i s) = i ∧ E4.name (E0.putE i s) = s := by
  obtain ⟨hn, hi⟩ := E0.entryOk_true h
  have hs := E0.nameOk_size hn
  have hl := putE_list h
  have hz := T0.putE_size16 h
  obtain ⟨p, hp⟩ : ∃ p, E0.putE i s = p := ⟨_, rfl⟩
  rw [hp] at hl hz ⊢
  have e1 : B1.byteAt p 1 = (s.size : Int) := by
    show B1.byteAt p ((1 : Nat) : Int) = _
    rw [byteAt_get, hl]
    exact ofNat_nat s.size (by omega)
  refine ⟨?_, ?_⟩
  · show B1.byteAt p ((0 : Nat) : Int) = i
    rw [byteAt_get, hl]
    exact B3.ofNat_int i (by omega) (by omega)
  · rw [E4.name, e1, B2.part, show B2.lies p.size 2 (s.size : Int) = true from decide_eq_true (by omega), if_pos rfl]
    apply arr_ext
    have hsz := Lib.size_eq s
    rw [Lib.extract_data, hl, show (2 : Int).toNat = 2 from rfl, show (2 + (s.size : Int)).toNat - 2 = s.data.toList.length by omega]
    simp

theorem isE_put {i : Int} {s : ByteArray} (h : E0.entryOk i s = true) : E4.isE (E0.putE i s) = true ∧ E4.eIno (E0.putE i s) = i ∧ E4.eName (E0.putE i s) = s := by
  obtain ⟨h1, h2⟩ := entry_back h
  have hE : E4.isE (E0.putE i s) = true := by
    rw [E4.isE, h1, h2, T0.putE_size16 h]
    simp
  refine ⟨hE, ?_, ?_⟩
  · rw [E4.eIno, if_pos hE, h1]
  · rw [E4.eName, if_pos hE, h2]

theorem putI_list {k o s : Int} {zs : List Int} (h : I0.ok k o s zs = true) : (R0.putI k o s zs).data.toList = UInt8.ofNat k.toNat :: UInt8.ofNat o.toNat :: UInt8.ofNat (s % 256).toNat :: UInt8.ofNat (s / 256).toNat :: (zs.map (fun z => UInt8.ofNat z.toNat) ++ List.replicate (12 - zs.length) 0) := by
  obtain ⟨_, _, hs, _, _, _⟩ := R0.ok_bounds h
  rw [R0.putI, if_pos h]
  simp [R0.head, R0.two, R0.pg, B3.pair, show B1.inB s 0 65535 = true from decide_eq_true (by omega), B4.nulls, ByteArray.data_append]

theorem putI_size16 {k o s : Int} {zs : List Int} (h : I0.ok k o s zs = true) : (R0.putI k o s zs).size = 16 := by
  obtain ⟨_, _, hs, hl, _, _⟩ := R0.ok_bounds h
  rw [Lib.size_eq, putI_list h]
  simp
  omega

theorem pairAt_get (s : ByteArray) (k : Nat) (h : k + 1 < s.size) : B6.pairAt s (k : Int) = ((s.data.toList.getD k 0).toNat : Int) + 256 * ((s.data.toList.getD (k + 1) 0).toNat : Int) := by
  have h0 := byteAt_get s k
  have h1 := byteAt_get s (k + 1)
  rw [← h0, ← h1]
  unfold B6.pairAt B1.byteAt
  rw [dif_pos (by omega), dif_pos (by omega), dif_pos (by omega)]
  rfl

theorem inode_back {k o s : Int} {zs : List Int} (h : I0.ok k o s zs = true) : B1.byteAt (R0.putI k o s zs) 0 = k ∧ B1.byteAt (R0.putI k o s zs) 1 = o ∧ B6.pairAt (R0.putI k o s zs) 2 = s ∧ G0.pgs (R0.putI k o s zs) (G0.cnt (R0.putI k o s zs)) = zs := by
  obtain ⟨hk, ho, hs, hl, hn, hp⟩ := R0.ok_bounds h
  have hL := putI_list h
  have hz := putI_size16 h
  obtain ⟨p, hpe⟩ : ∃ p, R0.putI k o s zs = p := ⟨_, rfl⟩
  rw [hpe] at hL hz ⊢
  have e2 : B6.pairAt p 2 = s := by
    show B6.pairAt p ((2 : Nat) : Int) = _
    rw [pairAt_get p 2 (by omega), hL]
    have a1 := B3.ofNat_int (s % 256) (by omega) (by omega)
    have a2 := B3.ofNat_int (s / 256) (by omega) (by omega)
    show ((UInt8.ofNat (s % 256).toNat).toNat : Int) + 256 * ((UInt8.ofNat (s / 256).toNat).toNat : Int) = s
    rw [a1, a2]
    omega
  refine ⟨?_, ?_, e2, ?_⟩
  · show B1.byteAt p ((0 : Nat) : Int) = _
    rw [byteAt_get, hL]
    exact B3.ofNat_int k (by omega) (by omega)
  · show B1.byteAt p ((1 : Nat) : Int) = _
    rw [byteAt_get, hL]
    exact B3.ofNat_int o (by omega) (by omega)
  · have hc : G0.cnt p = zs.length := by
      unfold G0.cnt
      rw [e2, ← hn]
      omega
    rw [hc]
    apply List.ext_getElem
    · rw [G0.pgs_length]
    · intro j h1 h2
      simp only [G0.pgs, List.getElem_map, List.getElem_range]
      have hb := R0.pages_bounds hp (k := j) h2
      have hg := P0.getD_get zs j h2
      rw [show (4 : Int) + (j : Int) = ((j + 4 : Nat) : Int) by omega, byteAt_get, hL]
      have : (UInt8.ofNat k.toNat :: UInt8.ofNat o.toNat :: UInt8.ofNat (s % 256).toNat :: UInt8.ofNat (s / 256).toNat :: (zs.map (fun z => UInt8.ofNat z.toNat) ++ List.replicate (12 - zs.length) 0)).getD (j + 4) 0 = UInt8.ofNat (zs[j]).toNat := by
        simp [List.getD_eq_getElem?_getD, List.getElem?_append, h2]
      rw [this]
      rw [hg] at hb
      exact B3.ofNat_int _ (by omega) (by omega)

theorem isI_put {k o s : Int} {zs : List Int} (h : I0.ok k o s zs = true) : G0.isI (R0.putI k o s zs) = true ∧ G0.gK (R0.putI k o s zs) = k ∧ G0.gO (R0.putI k o s zs) = o ∧ G0.gS (R0.putI k o s zs) = s ∧ G0.gZ (R0.putI k o s zs) = zs := by
  obtain ⟨h1, h2, h3, h4⟩ := inode_back h
  have hI : G0.isI (R0.putI k o s zs) = true := by
    rw [G0.isI, G0.txt, h1, h2, h3, h4, putI_size16 h]
    simp
  refine ⟨hI, ?_, ?_, ?_, ?_⟩
  · rw [G0.gK, if_pos hI, h1]
  · rw [G0.gO, if_pos hI, h2]
  · rw [G0.gS, if_pos hI, h3]
  · rw [G0.gZ, if_pos hI, h4]

theorem putI_get {s : ByteArray} (h : G0.isI s = true) : R0.putI (G0.gK s) (G0.gO s) (G0.gS s) (G0.gZ s) = s := by
  have h2 := (G0.isI_ok h).2.1
  rw [G0.gK, G0.gO, G0.gS, G0.gZ, if_pos h, if_pos h, if_pos h, if_pos h]
  exact V0.toList_eq h2

theorem putE_get {s : ByteArray} (h : E4.isE s = true) : E0.putE (E4.eIno s) (E4.eName s) = s := V0.isE_eq h

theorem putD_get {s : ByteArray} (h : V0.isD s = true) : T0.putD (V0.dE s) = s := by
  obtain ⟨h1, h2, hc, hE, hD⟩ := V0.of_isD h
  rw [V0.dE, if_pos h, hc, T0.putD, if_pos hD, V0.ents_length, V0.joined_ext s _ hE _ (Nat.le_refl _) (by omega), show s.size / 16 * 16 = s.size by omega]
  exact V0.ext_all s

theorem ext_front (a b : ByteArray) (i j : Nat) (h : j ≤ a.size) : (a ++ b).extract i j = a.extract i j := by
  apply arr_ext
  have := Lib.size_eq a
  rw [Lib.extract_data, Lib.extract_data, ByteArray.data_append, Array.toList_append]
  by_cases hi : i ≤ j
  · rw [List.drop_append_of_le_length (by omega), List.take_append_of_le_length (by simp; omega)]
  · rw [show j - i = 0 by omega]
    simp

theorem ext_back (a b : ByteArray) (n m : Nat) (h : n = a.size) (hm : m = a.size + b.size) : (a ++ b).extract n m = b := by
  apply arr_ext
  have h1 := Lib.size_eq a
  have h2 := Lib.size_eq b
  rw [Lib.extract_data, ByteArray.data_append, Array.toList_append, h, h1, List.drop_left, List.take_of_length_le (by omega)]

theorem joined_chunk {es : List T0.Ent} {n : Nat} (h : T0.okUpto es n = true) : ∀ k, k ≤ n → ∀ j, j < k → (T0.joined es k).extract (j * 16) (j * 16 + 16) = E0.putE (T0.ent es j).1 (T0.ent es j).2
  | 0, _, j, hj => absurd hj (Nat.not_lt_zero _)
  | k + 1, hk, j, hj => by
    have hs := T0.joined_size h k (by omega)
    have hE := (T0.okAt_entry (T0.okUpto_at h (by omega : k < n))).1
    rw [T0.joined]
    by_cases hjk : j < k
    · rw [ext_front _ _ _ _ (by omega)]
      exact joined_chunk h k (by omega) j hjk
    · obtain rfl : j = k := by omega
      exact ext_back _ _ _ _ (by omega) (by rw [T0.putE_size16 hE]; omega)

theorem dir_back {es : List T0.Ent} (h : T0.dirOk es = true) : (T0.putD es).size = es.length * 16 ∧ V0.isD (T0.putD es) = true ∧ V0.dE (T0.putD es) = es := by
  have hd := h
  simp only [T0.dirOk, Bool.and_eq_true, decide_eq_true_eq] at hd
  have hz : (T0.putD es).size = es.length * 16 := by
    rw [T0.putD, if_pos h, T0.joined_size hd.2 _ (Nat.le_refl _)]
    omega
  have hq : (T0.putD es).size / 16 = es.length := by omega
  have hch : ∀ j, j < es.length → V0.chunk (T0.putD es) j = E0.putE (T0.ent es j).1 (T0.ent es j).2 := by
    intro j hj
    rw [V0.chunk_eq _ _ (by omega), T0.putD, if_pos h]
    exact joined_chunk hd.2 _ (Nat.le_refl _) j hj
  have hok : ∀ j, j < es.length → E0.entryOk (T0.ent es j).1 (T0.ent es j).2 = true := fun j hj => (T0.okAt_entry (T0.okUpto_at hd.2 hj)).1
  have hents : V0.ents (T0.putD es) es.length = es := by
    apply List.ext_getElem
    · rw [V0.ents_length]
    · intro j h1 h2
      have e := V0.ents_get (T0.putD es) es.length j h2
      rw [T0.ent_get _ _ h1] at e
      rw [e, hch j h2, (isE_put (hok j h2)).2.1, (isE_put (hok j h2)).2.2, T0.ent_get es j h2]
  have hI := V0.isD_of (s := T0.putD es) (by omega) (by omega) (fun j hj => by rw [hq] at hj; rw [hch j hj]; exact (isE_put (hok j hj)).1) (by rw [hq, hents]; exact h)
  refine ⟨hz, hI.1, ?_⟩
  rw [V0.dE, if_pos hI.1, hI.2, hq, hents]
end Go.Proofs.Ytifddipnboifnaa.Z0
