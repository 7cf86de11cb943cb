/- The contract of spec.PutInode, as the given laws call it. -/
import Derived.Test.YtacalabjclclhaaRec1
import Derived.Deep.RegionHeld3
namespace Go.Proofs.Ytacalabjclclhaa.R2
open Go.ChangeShapes Go.WideShapes Go.ChangeAt Go.RowKit
set_option linter.unusedVariables false
set_option linter.unusedSimpArgs false
set_option maxRecDepth 10000

open I0 (val vals)
open R1 (ret_str St)

/-- Kind, owner and the first pages. -/
def upto (k o : Int) (zs : List Int) (j : Nat) : ByteArray := R0.two k o ++ R0.pg (zs.take j)

theorem upto_zero (k o : Int) (zs : List Int) : upto k o zs 0 = R0.two k o := by
  apply ByteArray.ext
  simp [upto, R0.pg]
theorem upto_succ (k o : Int) (zs : List Int) (j : Nat) (h : j < zs.length) : upto k o zs j ++ ⟨#[UInt8.ofNat (zs.getD j 0).toNat]⟩ = upto k o zs (j + 1) := by
  rw [upto, upto, ByteArray.append_assoc, R0.pg_snoc zs j h]
theorem upto_all (k o : Int) (zs : List Int) : upto k o zs zs.length = R0.two k o ++ R0.pg zs := by rw [upto, List.take_length]

variable {base g n cap : Nat} {w W1 W W' : World} {t u : ByteArray}

/-- A row's front as a string. -/
theorem conv_front (h : F0.Buf base W g n cap (t ++ u)) (m : Nat) (hm : m = t.size) : (convert 22 9 (.slice (some ⟨g, 0, none⟩) m cap)).run Try.prog W = .ok (.string t) W := by
  have hh := h.holds
  have := B0.conv_back (P := Try.prog) W 22 9 5 g 0 cap t.data.toList Try.underlying22 Try.underlying5 Try.underlying9 (fun j hj => by
    have h2 := hh j (by simp [ByteArray.data_append] at hj ⊢; omega)
    rw [h2]
    congr 2
    simp only [ByteArray.data_append, Array.toList_append]
    rw [List.getElem_append_left hj]) m (by rw [hm, Lib.size_eq])
  rwa [Lib.mk_data] at this

/-- A row's rest as a string. -/
theorem conv_rest (h : F0.Buf base W g n cap (t ++ u)) (m : Nat) (hm : m = t.size) (r : Nat) (hr : r = u.size) (c : Nat) : (convert 22 9 (.slice (some ⟨g, m, none⟩) r c)).run Try.prog W = .ok (.string u) W := by
  have hh := h.holds
  have := B0.conv_back (P := Try.prog) W 22 9 5 g m c u.data.toList Try.underlying22 Try.underlying5 Try.underlying9 (fun j hj => by
    have hts : t.data.toList.length = m := by rw [hm, Lib.size_eq]
    have h2 := hh (m + j) (by simp only [ByteArray.data_append, Array.toList_append, List.length_append]; omega)
    rw [Nat.zero_add] at h2
    rw [h2]
    congr 2
    simp only [ByteArray.data_append, Array.toList_append]
    rw [List.getElem_append_right (by omega)]
    simp [hts]) r (by rw [hr, Lib.size_eq])
  rwa [Lib.mk_data] at this

theorem conv_none (W : World) (b o c : Nat) : (convert 22 9 (.slice (some ⟨b, o, none⟩) 0 c)).run Try.prog W = .ok (.string ⟨#[]⟩) W :=
  B0.conv_back (P := Try.prog) W 22 9 5 b o c [] Try.underlying22 Try.underlying5 Try.underlying9 (fun j hj => by simp at hj) 0 rfl

theorem pair_st (m : Int) (h : St w W1 g n cap t W) :
    Calls Try.prog 100 #[.int .i64 m] W fun e w' => e = .returned (.string (B3.pair m)) ∧ St w W1 g n cap t w' ∧ Below W.heap.size W w' :=
  (B3.spec_Pair m W).mono fun _ _ ⟨he, hb⟩ => ⟨he, h.below hb, hb⟩

abbrev conA (k o : Int) (g cap : Nat) (W : World) : Prop := (convert 22 9 (.slice (some ⟨g, 0, none⟩) 2 cap)).run Try.prog W = .ok (.string (R0.two k o)) W
abbrev conB (zs : List Int) (g cap : Nat) (W : World) : Prop := (convert 22 9 (.slice (some ⟨g, 2, none⟩) zs.length (cap - 2))).run Try.prog W = .ok (.string (R0.pg zs)) W

theorem all_of {k o s : Int} {zs : List Int} (h : St w W1 g (2 + zs.length) cap (R0.two k o ++ R0.pg zs) W) (hc : W.cell? ⟨w.heap.size, 2, none⟩ = some (.int .i64 s)) :
    conA k o g cap W ∧ conB zs g cap W ∧ W.cell? ⟨w.heap.size, 2, none⟩ = some (.int .i64 s) ∧ St w W1 g (2 + zs.length) cap (R0.two k o ++ R0.pg zs) W :=
  ⟨conv_front h.buf 2 rfl, conv_rest h.buf 2 rfl zs.length (R0.pg_size zs).symm (cap - 2), hc, h⟩

theorem pair_all {k o s : Int} {zs : List Int} (h : conA k o g cap W ∧ conB zs g cap W ∧ W.cell? ⟨w.heap.size, 2, none⟩ = some (.int .i64 s) ∧ St w W1 g (2 + zs.length) cap (R0.two k o ++ R0.pg zs) W) :
    Calls Try.prog 100 #[.int .i64 s] W fun e w' => e = .returned (.string (B3.pair s)) ∧ (conA k o g cap w' ∧ conB zs g cap w' ∧ w'.cell? ⟨w.heap.size, 2, none⟩ = some (.int .i64 s) ∧ St w W1 g (2 + zs.length) cap (R0.two k o ++ R0.pg zs) w') :=
  (B3.spec_Pair s W).mono fun _ w' ⟨he, hb⟩ => ⟨he, all_of (h.2.2.2.below hb) ((hb.cell (p := ⟨w.heap.size, 2, none⟩) (by
    have := h.2.2.1
    unfold World.cell? at this
    cases hq : W.heap[w.heap.size]? with
    | none => simp [hq] at this
    | some o => exact (Array.getElem?_eq_some_iff.1 hq).1)).trans h.2.2.1)⟩

theorem inodeOk_at (k o s : Int) (a : Option Addr) (c : Nat) (zs : List Int) (W : World) (hbig : zs.length ≤ 281474976710656) (hcap : zs.length ≤ c) (hR : P0.Row W a zs) (hbox : K0.Blk w.heap.size (vals k o s a zs.length c) W) (hl : Below w.heap.size w W) :
    Calls Try.prog 33 #[val k o s a zs.length c] W fun e w' => e = .returned (.bool (I0.ok k o s zs)) ∧ K0.Blk w.heap.size (vals k o s a zs.length c) w' ∧ P0.Row w' a zs ∧ Below w.heap.size w w' :=
  (I1.spec_InodeOk k o s a c zs W hbig hcap hR).mono fun _ _ ⟨he, hb⟩ => ⟨he, hbox.below hb, hR.below hb, hl.trans (hb.mono hl.size)⟩

set_option maxHeartbeats 4000000 in
theorem spec_PutInode (k o s : Int) (a : Option Addr) (c : Nat) (zs : List Int) (w : World) (hbig : zs.length ≤ 281474976710656) (hcap : zs.length ≤ c) (hR : P0.Row w a zs) :
    Calls Try.prog 29 #[val k o s a zs.length c] w fun e w' => e = .returned (.string (R0.putI k o s zs)) ∧ Below w.heap.size w w' := by
  have hbox := K0.blk_new (vals k o s a zs.length c) w 26
  have hl0 := K0.below_new w (.cells #[.int .i64 k, .int .i64 o, .int .i64 s, .slice a zs.length c] 26)
  have hR0 := hR.below hl0
  clear hR
  by_cases hok : I0.ok k o s zs = true
  · obtain ⟨hk, ho, hs, hl, -, hp⟩ := R0.ok_bounds hok
    have hP2 := R0.pair_size s (by omega) (by omega)
    have hs0 : 0 ≤ s := hs.1
    have hk0 : 0 ≤ k := hk.1
    have hk1 : k ≤ 2 := hk.2
    have ho0 : 0 ≤ o := ho.1
    have ho1 : o ≤ 9 := ho.2
    have HT : Hid (R0.putI k o s zs = (R0.two k o ++ B3.pair s ++ R0.pg zs) ++ B4.zeros (16 - (4 + (zs.length : Int)))) := by
      rw [R0.putI, if_pos hok, R0.head, B4.zeros, if_pos (by omega), show (16 - (4 + (zs.length : Int))).toNat = 12 - zs.length by omega]
      rfl
    go_enter Try.func29, Try.ntmps29
    go_wp2_with (go_at_call 33; refine (inodeOk_at k o s a c zs _ hbig hcap hR0 hbox hl0).mono ?_; rintro e w1 ⟨rfl, hbox1, hR1, hl1⟩; have c0 := hbox1.c0; have c1 := hbox1.c1; have c2 := hbox1.c2; have c3 := hbox1.c3; have hbuf0 := F0.buf_two (base := w1.heap.size) w1 k o (by omega) (by omega) (Nat.le_refl _); have bel0 := K0.below_new w1 (.cells #[.int .u8 k, .int .u8 o] 5))
    go_loopw [3, 4] (fun r i w' => ∃ (j g cap : Nat), j ≤ zs.length ∧ i = .int .i64 j ∧ r = .slice (some ⟨g, 0, none⟩) (2 + j) cap ∧ F0.Buf w1.heap.size w' g (2 + j) cap (upto k o zs j) ∧ Below w1.heap.size w1 w') (fun _ i _ => zs.length - (intOf i).toNat)
    case atStart => exact ⟨0, _, _, Nat.zero_le _, rfl, rfl, by rw [upto_zero]; exact hbuf0, bel0⟩
    case round =>
      obtain ⟨j, g, cap, hj, rfl, rfl, hbuf, hbel⟩ := hrel
      have hboxr := hbox1.below hbel
      have r2 := hboxr.c2
      have r3 := hboxr.c3
      clear hbuf0 bel0 c0 c1 c2 c3 hbox hl0 hR0
      by_cases hlt : j < zs.length
      · obtain ⟨b, off, rfl, hb, hc⟩ := (hR1.below hbel).get hlt
        have x1 := hc j hlt
        have hz := R0.pages_bounds hp hlt
        have hu := upto_succ k o zs j hlt
        obtain ⟨z, ez⟩ : ∃ z, zs.getD j 0 = z := ⟨_, rfl⟩
        rw [ez] at x1 hz hu
        have z0 : 0 ≤ z := by omega
        have z1 : z ≤ 23 := hz.2
        have e1 : (0 : Int) ≤ (j : Int) := by omega
        have e2 : (j : Int) < (zs.length : Int) := by omega
        have HU : Hid (upto k o zs j ++ ⟨#[UInt8.ofNat z.toNat]⟩ = upto k o zs (j + 1)) := hu
        clear hu ez hc hz
        go_wp2_with (at_builtin; refine F0.append_byte rfl (.tmp 23) (.tmp 30) rfl hbuf z (by omega) (by rfl) (by rfl) (by omega) hbel.size ?_; intro g1 cap1 w2 hbuf1 bel1)
        go_roundw
        case rel => exact ⟨j + 1, g1, cap1, by omega, by go_num, rfl, by rw [← HU.out]; exact hbuf1, hbel.trans bel1⟩
        case measure => simp [intOf]; omega
      · obtain rfl : j = zs.length := by omega
        rw [upto_all] at hbuf
        have st : St w w1 g (2 + zs.length) cap (R0.two k o ++ R0.pg zs) wr := ⟨hbuf, hbel⟩
        have hfin : Hid (∀ W, St w w1 g (2 + zs.length) cap (R0.two k o ++ R0.pg zs) W → Below w.heap.size w W) := fun W h => hl1.trans (h.bel.mono hl1.size)
        have hcp : 2 + zs.length ≤ cap := by
          rcases hbuf.2.2 with ⟨h0, _⟩ | ⟨g', cap', cur, hv, _, _, hle, _⟩
          · cases h0
          · simp at hv; omega
        clear hR1 hbuf hbel hbox1 hl1
        have z1 : (R0.two k o).size + (B3.pair s).size ≤ 9223372036854775807 := by rw [R0.two_size, hP2]; omega
        have z2 : (R0.two k o ++ B3.pair s).size + (R0.pg zs).size ≤ 9223372036854775807 := by rw [ByteArray.size_append, R0.two_size, hP2, R0.pg_size]; omega
        have h2s := R0.two_size k o
        have hps := R0.pg_size zs
        have z3 : 4 + zs.length + (B4.zeros (16 - (4 + (zs.length : Int)))).size ≤ 9223372036854775807 := by rw [B4.zeros, if_pos (by omega), B4.nulls_size]; omega
        have hSd : conA k o g cap wr.drew ∧ conB zs g cap wr.drew ∧ wr.drew.cell? ⟨w.heap.size, 2, none⟩ = some (.int .i64 s) ∧ St w w1 g (2 + zs.length) cap (R0.two k o ++ R0.pg zs) wr.drew := all_of st.drew r2
        by_cases hc2 : cap = 2
        · subst hc2
          obtain rfl : zs = [] := List.eq_nil_of_length_eq_zero (by omega)
          have hcn := conv_none
          have HE : Hid (R0.putI k o s [] = (R0.two k o ++ B3.pair s ++ ⟨#[]⟩) ++ B4.zeros 12) := HT.out
          have z5 : 4 + (B4.zeros 12).size ≤ 9223372036854775807 := z3
          clear HT z3
          go_wp2
          go_region_held3 (fun W => (convert 22 9 (.slice (some ⟨g, 0, none⟩) 2 2)).run Try.prog W = .ok (.string (R0.two k o)) W ∧ (convert 22 9 (.slice (some ⟨g, 2, none⟩) ([] : List Int).length (2 - 2))).run Try.prog W = .ok (.string (R0.pg [])) W ∧ W.cell? ⟨w.heap.size, 2, none⟩ = some (.int .i64 s) ∧ St w w1 g (2 + ([] : List Int).length) 2 (R0.two k o ++ R0.pg []) W) (assumption) ((go_at_call 100; refine (pair_all (by assumption)).mono ?_; rintro e w4 ⟨rfl, h4⟩))
          all_goals
            go_wp2_with (go_at_call 101; refine (B4.spec_Zeros _ _).mono ?_; rintro e w2 ⟨rfl, rfl⟩)
            go_ret
            exact ⟨ret_str HE.out.symm, hfin.out _ h4.2.2.2⟩
        · have i1 : (2 : Int) ≤ (cap : Int) := by omega
          have i2 : (2 : Int) ≤ 2 + (zs.length : Int) := by omega
          have i3 : 2 + (zs.length : Int) ≤ (cap : Int) := by omega
          have i5 : 2 + 2 + zs.length ≤ 9223372036854775807 := by omega
          have i6 : 4 + zs.length ≤ 9223372036854775807 := by omega
          have i7 : ¬ 9223372036854775807 < 4 + zs.length := by omega
          have i4 : (2 : Int) ≤ ((2 + zs.length : Nat) : Int) := by omega
          go_wp2
          go_region_held3 (fun W => (convert 22 9 (.slice (some ⟨g, 0, none⟩) 2 cap)).run Try.prog W = .ok (.string (R0.two k o)) W ∧ (convert 22 9 (.slice (some ⟨g, 2, none⟩) zs.length (cap - 2))).run Try.prog W = .ok (.string (R0.pg zs)) W ∧ W.cell? ⟨w.heap.size, 2, none⟩ = some (.int .i64 s) ∧ St w w1 g (2 + zs.length) cap (R0.two k o ++ R0.pg zs) W) (assumption) ((go_at_call 100; refine (pair_all (by assumption)).mono ?_; rintro e w4 ⟨rfl, h4⟩))
          all_goals
            go_wp2_with (go_at_call 101; refine (B4.spec_Zeros _ _).mono ?_; rintro e w2 ⟨rfl, rfl⟩)
            go_ret
            exact ⟨ret_str HT.out.symm, hfin.out _ h4.2.2.2⟩
  · have hok' : I0.ok k o s zs = false := by simpa using hok
    have HR : Hid (R0.putI k o s zs = ⟨#[]⟩) := by rw [R0.putI, if_neg hok]; rfl
    go_enter Try.func29, Try.ntmps29
    go_wp2_with (go_at_call 33; refine (inodeOk_at k o s a c zs _ hbig hcap hR0 hbox hl0).mono ?_; rintro e w1 ⟨rfl, hbox1, hR1, hl1⟩)
    go_ret
    exact ⟨ret_str HR.out.symm, hl1⟩
end Go.Proofs.Ytacalabjclclhaa.R2
