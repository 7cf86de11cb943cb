/- Joined texts: plain facts and contracts, as each part says. -/
import Derived.Test.YtkdjcbmmbjongaaGreatJnG
import Derived.Deep.RegionHeld3
import Derived.Test.YtkdjcbmmbjongaaGreatJnH
import Derived.Deep.RegionLaw
import Derived.Test.YtkdjcbmmbjongaaGreatJnF
import Derived.Test.YtkdjcbmmbjongaaGreatJnE

/- The contract of spec.PutInode, as the given laws call it. -/
namespace Go.Proofs.YtkdjcbmmbjongaaGreat.R2
open Go.ChangeShapes Go.WideShapes Go.ChangeAt Go.RowKit
set_option linter.unusedVariables false
set_option linter.unusedSimpArgs false
set_option maxRecDepth 10000

open I0 (val vals)
open R1 (ret_str St)

/-- Kind, owner and the first pages. -/
def upto (k o : Int) (zs : List Int) (j : Nat) : ByteArray := R0.two k o ++ R0.pg (zs.take j)

theorem upto_zero (k o : Int) (zs : List Int) : upto k o zs 0 = R0.two k o := by
  apply ByteArray.ext
  simp [upto, R0.pg]
theorem upto_succ (k o : Int) (zs : List Int) (j : Nat) (h : j < zs.length) : upto k o zs j ++ ⟨#[UInt8.ofNat (zs.getD j 0).toNat]⟩ = upto k o zs (j + 1) := by
  rw [upto, upto, ByteArray.append_assoc, R0.pg_snoc zs j h]
theorem upto_all (k o : Int) (zs : List Int) : upto k o zs zs.length = R0.two k o ++ R0.pg zs := by rw [upto, List.take_length]

variable {base g n cap : Nat} {w W1 W W' : World} {t u : ByteArray}

/-- A row's front as a string. -/
theorem conv_front (h : F0.Buf base W g n cap (t ++ u)) (m : Nat) (hm : m = t.size) : (convert 83 9 (.slice (some ⟨g, 0, none⟩) m cap)).run Tryz.prog W = .ok (.string t) W := by
  have hh := h.holds
  have := B0.conv_back (P := Tryz.prog) W 83 9 5 g 0 cap t.data.toList Tryz.underlying83 Tryz.underlying5 Tryz.underlying9 (fun j hj => by
    have h2 := hh j (by simp [ByteArray.data_append] at hj ⊢; omega)
    rw [h2]
    congr 2
    simp only [ByteArray.data_append, Array.toList_append]
    rw [List.getElem_append_left hj]) m (by rw [hm, Lib.size_eq])
  rwa [Lib.mk_data] at this

/-- A row's rest as a string. -/
theorem conv_rest (h : F0.Buf base W g n cap (t ++ u)) (m : Nat) (hm : m = t.size) (r : Nat) (hr : r = u.size) (c : Nat) : (convert 83 9 (.slice (some ⟨g, m, none⟩) r c)).run Tryz.prog W = .ok (.string u) W := by
  have hh := h.holds
  have := B0.conv_back (P := Tryz.prog) W 83 9 5 g m c u.data.toList Tryz.underlying83 Tryz.underlying5 Tryz.underlying9 (fun j hj => by
    have hts : t.data.toList.length = m := by rw [hm, Lib.size_eq]
    have h2 := hh (m + j) (by simp only [ByteArray.data_append, Array.toList_append, List.length_append]; omega)
    rw [Nat.zero_add] at h2
    rw [h2]
    congr 2
    simp only [ByteArray.data_append, Array.toList_append]
    rw [List.getElem_append_right (by omega)]
    simp [hts]) r (by rw [hr, Lib.size_eq])
  rwa [Lib.mk_data] at this

theorem conv_none (W : World) (b o c : Nat) : (convert 83 9 (.slice (some ⟨b, o, none⟩) 0 c)).run Tryz.prog W = .ok (.string ⟨#[]⟩) W :=
  B0.conv_back (P := Tryz.prog) W 83 9 5 b o c [] Tryz.underlying83 Tryz.underlying5 Tryz.underlying9 (fun j hj => by simp at hj) 0 rfl

theorem pair_st (m : Int) (h : St w W1 g n cap t W) :
    Calls Tryz.prog 78 #[.int .i64 m] W fun e w' => e = .returned (.string (B3.pair m)) ∧ St w W1 g n cap t w' ∧ Below W.heap.size W w' :=
  (B3.spec_Pair m W).mono fun _ _ ⟨he, hb⟩ => ⟨he, h.below hb, hb⟩

abbrev conA (k o : Int) (g cap : Nat) (W : World) : Prop := (convert 83 9 (.slice (some ⟨g, 0, none⟩) 2 cap)).run Tryz.prog W = .ok (.string (R0.two k o)) W
abbrev conB (zs : List Int) (g cap : Nat) (W : World) : Prop := (convert 83 9 (.slice (some ⟨g, 2, none⟩) zs.length (cap - 2))).run Tryz.prog W = .ok (.string (R0.pg zs)) W

theorem all_of {k o s : Int} {zs : List Int} (h : St w W1 g (2 + zs.length) cap (R0.two k o ++ R0.pg zs) W) (hc : W.cell? ⟨w.heap.size, 2, none⟩ = some (.int .i64 s)) :
    conA k o g cap W ∧ conB zs g cap W ∧ W.cell? ⟨w.heap.size, 2, none⟩ = some (.int .i64 s) ∧ St w W1 g (2 + zs.length) cap (R0.two k o ++ R0.pg zs) W :=
  ⟨conv_front h.buf 2 rfl, conv_rest h.buf 2 rfl zs.length (R0.pg_size zs).symm (cap - 2), hc, h⟩

theorem pair_all {k o s : Int} {zs : List Int} (h : conA k o g cap W ∧ conB zs g cap W ∧ W.cell? ⟨w.heap.size, 2, none⟩ = some (.int .i64 s) ∧ St w W1 g (2 + zs.length) cap (R0.two k o ++ R0.pg zs) W) :
    Calls Tryz.prog 78 #[.int .i64 s] W fun e w' => e = .returned (.string (B3.pair s)) ∧ (conA k o g cap w' ∧ conB zs g cap w' ∧ w'.cell? ⟨w.heap.size, 2, none⟩ = some (.int .i64 s) ∧ St w W1 g (2 + zs.length) cap (R0.two k o ++ R0.pg zs) w') :=
  (B3.spec_Pair s W).mono fun _ w' ⟨he, hb⟩ => ⟨he, all_of (h.2.2.2.below hb) ((hb.cell (p := ⟨w.heap.size, 2, none⟩) (by
    have := h.2.2.1
    unfold World.cell? at this
    cases hq : W.heap[w.heap.size]? with
    | none => simp [hq] at this
    | some o => exact (Array.getElem?_eq_some_iff.1 hq).1)).trans h.2.2.1)⟩

theorem inodeOk_at (k o s : Int) (a : Option Addr) (c : Nat) (zs : List Int) (W : World) (hbig : zs.length ≤ 281474976710656) (hcap : zs.length ≤ c) (hR : P0.Row W a zs) (hbox : K0.Blk w.heap.size (vals k o s a zs.length c) W) (hl : Below w.heap.size w W) :
    Calls Tryz.prog 77 #[val k o s a zs.length c] W fun e w' => e = .returned (.bool (I0.ok k o s zs)) ∧ K0.Blk w.heap.size (vals k o s a zs.length c) w' ∧ P0.Row w' a zs ∧ Below w.heap.size w w' :=
  (I1.spec_InodeOk k o s a c zs W hbig hcap hR).mono fun _ _ ⟨he, hb⟩ => ⟨he, hbox.below hb, hR.below hb, hl.trans (hb.mono hl.size)⟩

set_option maxHeartbeats 4000000 in
theorem spec_PutInode (k o s : Int) (a : Option Addr) (c : Nat) (zs : List Int) (w : World) (hbig : zs.length ≤ 281474976710656) (hcap : zs.length ≤ c) (hR : P0.Row w a zs) :
    Calls Tryz.prog 52 #[val k o s a zs.length c] w fun e w' => e = .returned (.string (R0.putI k o s zs)) ∧ Below w.heap.size w w' := by
  have hbox := K0.blk_new (vals k o s a zs.length c) w 49
  have hl0 := K0.below_new w (.cells #[.int .i64 k, .int .i64 o, .int .i64 s, .slice a zs.length c] 49)
  have hR0 := hR.below hl0
  clear hR
  by_cases hok : I0.ok k o s zs = true
  · obtain ⟨hk, ho, hs, hl, -, hp⟩ := R0.ok_bounds hok
    have hP2 := R0.pair_size s (by omega) (by omega)
    have hs0 : 0 ≤ s := hs.1
    have hk0 : 0 ≤ k := hk.1
    have hk1 : k ≤ 2 := hk.2
    have ho0 : 0 ≤ o := ho.1
    have ho1 : o ≤ 9 := ho.2
    have HT : Hid (R0.putI k o s zs = (R0.two k o ++ B3.pair s ++ R0.pg zs) ++ B4.zeros (16 - (4 + (zs.length : Int)))) := by
      rw [R0.putI, if_pos hok, R0.head, B4.zeros, if_pos (by omega), show (16 - (4 + (zs.length : Int))).toNat = 12 - zs.length by omega]
      rfl
    go_enter Tryz.func52, Tryz.ntmps52
    go_wp2_with (go_at_call 77; refine (inodeOk_at k o s a c zs _ hbig hcap hR0 hbox hl0).mono ?_; rintro e w1 ⟨rfl, hbox1, hR1, hl1⟩; have c0 := hbox1.c0; have c1 := hbox1.c1; have c2 := hbox1.c2; have c3 := hbox1.c3; have hbuf0 := F0.buf_two (base := w1.heap.size) w1 k o (by omega) (by omega) (Nat.le_refl _); have bel0 := K0.below_new w1 (.cells #[.int .u8 k, .int .u8 o] 5))
    go_loopw [3, 4] (fun r i w' => ∃ (j g cap : Nat), j ≤ zs.length ∧ i = .int .i64 j ∧ r = .slice (some ⟨g, 0, none⟩) (2 + j) cap ∧ F0.Buf w1.heap.size w' g (2 + j) cap (upto k o zs j) ∧ Below w1.heap.size w1 w') (fun _ i _ => zs.length - (intOf i).toNat)
    case atStart => exact ⟨0, _, _, Nat.zero_le _, rfl, rfl, by rw [upto_zero]; exact hbuf0, bel0⟩
    case round =>
      obtain ⟨j, g, cap, hj, rfl, rfl, hbuf, hbel⟩ := hrel
      have hboxr := hbox1.below hbel
      have r2 := hboxr.c2
      have r3 := hboxr.c3
      clear hbuf0 bel0 c0 c1 c2 c3 hbox hl0 hR0
      by_cases hlt : j < zs.length
      · obtain ⟨b, off, rfl, hb, hc⟩ := (hR1.below hbel).get hlt
        have x1 := hc j hlt
        have hz := R0.pages_bounds hp hlt
        have hu := upto_succ k o zs j hlt
        obtain ⟨z, ez⟩ : ∃ z, zs.getD j 0 = z := ⟨_, rfl⟩
        rw [ez] at x1 hz hu
        have z0 : 0 ≤ z := by omega
        have z1 : z ≤ 23 := hz.2
        have e1 : (0 : Int) ≤ (j : Int) := by omega
        have e2 : (j : Int) < (zs.length : Int) := by omega
        have HU : Hid (upto k o zs j ++ ⟨#[UInt8.ofNat z.toNat]⟩ = upto k o zs (j + 1)) := hu
        clear hu ez hc hz
        go_wp2_with (at_builtin; refine F0.append_byte rfl (.tmp 23) (.tmp 30) rfl hbuf z (by omega) (by rfl) (by rfl) (by omega) hbel.size ?_; intro g1 cap1 w2 hbuf1 bel1)
        go_roundw
        case rel => exact ⟨j + 1, g1, cap1, by omega, by go_num, rfl, by rw [← HU.out]; exact hbuf1, hbel.trans bel1⟩
        case measure => simp [intOf]; omega
      · obtain rfl : j = zs.length := by omega
        rw [upto_all] at hbuf
        have st : St w w1 g (2 + zs.length) cap (R0.two k o ++ R0.pg zs) wr := ⟨hbuf, hbel⟩
        have hfin : Hid (∀ W, St w w1 g (2 + zs.length) cap (R0.two k o ++ R0.pg zs) W → Below w.heap.size w W) := fun W h => hl1.trans (h.bel.mono hl1.size)
        have hcp : 2 + zs.length ≤ cap := by
          rcases hbuf.2.2 with ⟨h0, _⟩ | ⟨g', cap', cur, hv, _, _, hle, _⟩
          · cases h0
          · simp at hv; omega
        clear hR1 hbuf hbel hbox1 hl1
        have z1 : (R0.two k o).size + (B3.pair s).size ≤ 9223372036854775807 := by rw [R0.two_size, hP2]; omega
        have z2 : (R0.two k o ++ B3.pair s).size + (R0.pg zs).size ≤ 9223372036854775807 := by rw [ByteArray.size_append, R0.two_size, hP2, R0.pg_size]; omega
        have h2s := R0.two_size k o
        have hps := R0.pg_size zs
        have z3 : 4 + zs.length + (B4.zeros (16 - (4 + (zs.length : Int)))).size ≤ 9223372036854775807 := by rw [B4.zeros, if_pos (by omega), B4.nulls_size]; omega
        have hSd : conA k o g cap wr.drew ∧ conB zs g cap wr.drew ∧ wr.drew.cell? ⟨w.heap.size, 2, none⟩ = some (.int .i64 s) ∧ St w w1 g (2 + zs.length) cap (R0.two k o ++ R0.pg zs) wr.drew := all_of st.drew r2
        by_cases hc2 : cap = 2
        · subst hc2
          obtain rfl : zs = [] := List.eq_nil_of_length_eq_zero (by omega)
          have hcn := conv_none
          have HE : Hid (R0.putI k o s [] = (R0.two k o ++ B3.pair s ++ ⟨#[]⟩) ++ B4.zeros 12) := HT.out
          have z5 : 4 + (B4.zeros 12).size ≤ 9223372036854775807 := z3
          clear HT z3
          go_wp2
          go_region_held3 (fun W => (convert 83 9 (.slice (some ⟨g, 0, none⟩) 2 2)).run Tryz.prog W = .ok (.string (R0.two k o)) W ∧ (convert 83 9 (.slice (some ⟨g, 2, none⟩) ([] : List Int).length (2 - 2))).run Tryz.prog W = .ok (.string (R0.pg [])) W ∧ W.cell? ⟨w.heap.size, 2, none⟩ = some (.int .i64 s) ∧ St w w1 g (2 + ([] : List Int).length) 2 (R0.two k o ++ R0.pg []) W) (assumption) ((go_at_call 78; refine (pair_all (by assumption)).mono ?_; rintro e w4 ⟨rfl, h4⟩))
          all_goals
            go_wp2_with (go_at_call 49; refine (B4.spec_Zeros _ _).mono ?_; rintro e w2 ⟨rfl, rfl⟩)
            go_ret
            exact ⟨ret_str HE.out.symm, hfin.out _ h4.2.2.2⟩
        · have i1 : (2 : Int) ≤ (cap : Int) := by omega
          have i2 : (2 : Int) ≤ 2 + (zs.length : Int) := by omega
          have i3 : 2 + (zs.length : Int) ≤ (cap : Int) := by omega
          have i5 : 2 + 2 + zs.length ≤ 9223372036854775807 := by omega
          have i6 : 4 + zs.length ≤ 9223372036854775807 := by omega
          have i7 : ¬ 9223372036854775807 < 4 + zs.length := by omega
          have i4 : (2 : Int) ≤ ((2 + zs.length : Nat) : Int) := by omega
          go_wp2
          go_region_held3 (fun W => (convert 83 9 (.slice (some ⟨g, 0, none⟩) 2 cap)).run Tryz.prog W = .ok (.string (R0.two k o)) W ∧ (convert 83 9 (.slice (some ⟨g, 2, none⟩) zs.length (cap - 2))).run Tryz.prog W = .ok (.string (R0.pg zs)) W ∧ W.cell? ⟨w.heap.size, 2, none⟩ = some (.int .i64 s) ∧ St w w1 g (2 + zs.length) cap (R0.two k o ++ R0.pg zs) W) (assumption) ((go_at_call 78; refine (pair_all (by assumption)).mono ?_; rintro e w4 ⟨rfl, h4⟩))
          all_goals
            go_wp2_with (go_at_call 49; refine (B4.spec_Zeros _ _).mono ?_; rintro e w2 ⟨rfl, rfl⟩)
            go_ret
            exact ⟨ret_str HT.out.symm, hfin.out _ h4.2.2.2⟩
  · have hok' : I0.ok k o s zs = false := by simpa using hok
    have HR : Hid (R0.putI k o s zs = ⟨#[]⟩) := by rw [R0.putI, if_neg hok]; rfl
    go_enter Tryz.func52, Tryz.ntmps52
    go_wp2_with (go_at_call 77; refine (inodeOk_at k o s a c zs _ hbig hcap hR0 hbox hl0).mono ?_; rintro e w1 ⟨rfl, hbox1, hR1, hl1⟩)
    go_ret
    exact ⟨ret_str HR.out.symm, hl1⟩
end Go.Proofs.YtkdjcbmmbjongaaGreat.R2

/- The contract of spec.GetInode, as the given laws call it. -/
namespace Go.Proofs.YtkdjcbmmbjongaaGreat.G4
open Go.ChangeShapes Go.WideShapes Go.ChangeAt Go.RowKit
set_option linter.unusedVariables false
set_option linter.unusedSimpArgs false
set_option maxRecDepth 10000

open I0 (val vals)
open G3 (Ans ans_no ans_yes)

/-- A call of two arguments, as a step of a region that draws its order. -/
theorem step_call2 {P : Program} {ops : Array Oper} {o : Oper} {A : Act} {W : World} {K : Act → World → Prop} {Q : Exit → Act → World → Prop} {E : Prop} {f : Nat} (hgd : o.guard = none) (x y : Operand) (ts : Array TypeId)
    (hop : o.op = .call { callee := .value (.func f), args := #[x, y], argTypes := ts }) (eg : ∀ args w, (callFunc f args).run P w = .ok (.enter f args) w) (vx vy : Value) (hx : A.eval x = vx) (hy : A.eval y = vy)
    (hc : Calls P f #[vx, vy] W fun e w' => ∃ u, e = .returned u ∧ K (A.put o.dst u) w') : if Region.wanted o (yielded ops A.tmps) = true then Oper.wp P o A W K Q else E := by
  have hw : Region.wanted o (yielded ops A.tmps) = true := by simp [Region.wanted, hgd]
  rw [if_pos hw]
  have he : (execOp A.eval o).run P W = .ok (.enter f #[vx, vy]) W := by
    subst hx
    subst hy
    simp [execOp, hop, resolve, go_sem, invoke, eg]
  unfold Oper.wp
  rw [he]
  refine Calls.mono hc ?_
  rintro e w' ⟨u, rfl, h⟩
  exact h

/-- The two blocks of GetInode, and the pages read so far. -/
structure Sp (w : World) (k o s : Int) (a : Option Addr) (n c : Nat) (zs : List Int) (W : World) : Prop where
  res : K0.Blk w.heap.size (vals 0 0 0 none 0 0) W
  nd : K0.Blk (w.heap.size + 1) (vals k o s a n c) W
  buf : J0.IBuf (w.heap.size + 2) W a n c zs
  lt : w.heap.size + 2 ≤ W.heap.size
  bel : Below w.heap.size w W

variable {w W W' : World} {k o s : Int} {a : Option Addr} {n c : Nat} {zs : List Int}

theorem Sp.below (h : Sp w k o s a n c zs W) (hb : Below W.heap.size W W') : Sp w k o s a n c zs W' := ⟨h.res.below hb, h.nd.below hb, h.buf.below hb, Nat.le_trans h.lt hb.size, h.bel.trans (hb.mono h.bel.size)⟩
theorem Sp.drewN (h : Sp w k o s a n c zs W) (m : Nat) : Sp w k o s a n c zs (W.drewN m) := ⟨h.res.drewN m, h.nd.drewN m, h.buf.drewN m, h.lt, K0.below_drewN h.bel m⟩

theorem sp_new (w : World) (k o s : Int) (m : Nat) : Sp w k o s none 0 0 [] (((w.alloc (.cells #[.int .i64 0, .int .i64 0, .int .i64 0, .slice none 0 0] 49)).drewN m).alloc (.cells #[.int .i64 k, .int .i64 o, .int .i64 s, .slice none 0 0] 49)) :=
  ⟨((K0.blk_new (vals 0 0 0 none 0 0) w 49).drewN m).alloc _, K0.blk_at (vals k o s none 0 0) ((w.alloc _).drewN m) 49 (by simp), J0.ibuf_nil _, by simp, (K0.below_drewN ((Below.refl _ _).alloc (Nat.le_refl _) _) m).alloc (by simp) _⟩

/-- Behind an append and the store of what it made. -/
theorem Sp.step (h : Sp w k o s a n c zs W) {g' c' : Nat} {z : Int} (hb : J0.IBuf (w.heap.size + 2) W' (some ⟨g', 0, none⟩) (n + 1) c' (zs ++ [z])) (hl : Below (w.heap.size + 2) W W') :
    Sp w k o s (some ⟨g', 0, none⟩) (n + 1) c' (zs ++ [z]) (W'.setCell ⟨w.heap.size + 1, 3, none⟩ (.slice (some ⟨g', 0, none⟩) (n + 1) c')) := by
  have r1 := J0.blk_keep h.res hl (by omega)
  have n1 := J0.blk_keep h.nd hl (by omega)
  refine ⟨r1.setOther (by omega) 3 _, n1.set 3 _, ⟨hb.1, hb.2.1, ?_⟩, ?_, (h.bel.trans (hl.mono (by omega))).setCell (p := ⟨w.heap.size + 1, 3, none⟩) (by simp) _⟩
  · rcases hb.2.2 with h0 | ⟨g, cap, cur, hv, hg, hc, r⟩
    · exact Or.inl h0
    · refine Or.inr ⟨g, cap, cur, hv, hg, ?_, r⟩
      rw [Below.heap_setCell W' ⟨w.heap.size + 1, 3, none⟩ _ g (by show g ≠ w.heap.size + 1; omega)]
      exact hc
  · have := Nat.le_trans h.lt hl.size
    simpa [World.setCell] using this

theorem Sp.at3 (h : Sp w k o s a n c zs W) (hl : Below (w.heap.size + 2) W W') : W'.cell? ⟨w.heap.size + 1, 3, none⟩ = some (.slice a n c) ∧ W'.frozen? ⟨w.heap.size + 1, 3, none⟩ = false := by
  have n1 := J0.blk_keep h.nd hl (by omega)
  exact ⟨n1.c3, n1.f3⟩

theorem Sp.done (h : Sp w k o s a n c zs W) (x y z u : Value) : J0.Own w.heap.size ((((W.setCell ⟨w.heap.size, 0, none⟩ x).setCell ⟨w.heap.size, 1, none⟩ y).setCell ⟨w.heap.size, 2, none⟩ z).setCell ⟨w.heap.size, 3, none⟩ u) a zs ∧
    Below w.heap.size w ((((W.setCell ⟨w.heap.size, 0, none⟩ x).setCell ⟨w.heap.size, 1, none⟩ y).setCell ⟨w.heap.size, 2, none⟩ z).setCell ⟨w.heap.size, 3, none⟩ u) :=
  ⟨((((h.buf.own.set (by omega) 0 x).set (by omega) 1 y).set (by omega) 2 z).set (by omega) 3 u).mono (by omega),
   (((h.bel.setCell (p := ⟨w.heap.size, 0, none⟩) (Nat.le_refl _) _).setCell (p := ⟨w.heap.size, 1, none⟩) (Nat.le_refl _) _).setCell (p := ⟨w.heap.size, 2, none⟩) (Nat.le_refl _) _).setCell (p := ⟨w.heap.size, 3, none⟩) (Nat.le_refl _) _⟩

set_option maxHeartbeats 4000000 in
theorem spec_GetInode (s : ByteArray) (w : World) (hs : s.size ≤ 281474976710656) : Calls Tryz.prog 43 #[.string s] w (Ans s w) := by
  have hm : s.size ≤ maxLen := by unfold maxLen; omega
  have hpa := G0.pairAt_lt s 2
  have hcl := G0.cnt_le s
  have hct := G0.cnt_lt s
  have sp0 := sp_new w (B1.byteAt s 0) (B1.byteAt s 1) (B6.pairAt s 2)
  have heg : ∀ args w, (callFunc 70 args).run Tryz.prog w = .ok (.enter 70 args) w := enters_of Tryz.func70 (by kernel_rfl) rfl
  have HY : Hid (∀ a c w', s.size = 16 → ((R0.putI (B1.byteAt s 0) (B1.byteAt s 1) (B6.pairAt s 2) (G0.pgs s (G0.cnt s))).toList == s.toList) = true → J0.Own w.heap.size w' a (G0.pgs s (G0.cnt s)) → (G0.pgs s (G0.cnt s)).length ≤ c → Below w.heap.size w w' → Ans s w (.returned (.tuple #[val (B1.byteAt s 0) (B1.byteAt s 1) (B6.pairAt s 2) a (G0.pgs s (G0.cnt s)).length c, .bool true])) w') := fun a c w' h16 htx ho hl hb => ans_yes (G0.isI_of h16 htx) ho hl hb
  have HN : Hid (∀ w', ((R0.putI (B1.byteAt s 0) (B1.byteAt s 1) (B6.pairAt s 2) (G0.pgs s (G0.cnt s))).toList == s.toList) = false → Below w.heap.size w w' → Ans s w (.returned (.tuple #[val 0 0 0 none 0 0, .bool false])) w') := fun w' htx hb => ans_no (G0.isI_not htx) hb
  have HZ : Hid (∀ w', ¬ s.size = 16 → Below w.heap.size w w' → Ans s w (.returned (.tuple #[val 0 0 0 none 0 0, .bool false])) w') := fun w' h16 hb => ans_no (G0.isI_no h16) hb
  have hlen : (G0.pgs s (G0.cnt s)).length = G0.cnt s := G0.pgs_length _ _
  obtain ⟨R, hR⟩ : ∃ R, Ans s w = R := ⟨_, rfl⟩
  rw [hR] at HY HN HZ ⊢
  clear hR
  go_enter Tryz.func43, Tryz.ntmps43
  go_wp2_with (first
    | (go_at_call 70; refine (B1.spec_ByteAt _ _ _ hm).mono ?_; rintro e w' ⟨rfl, rfl⟩)
    | (go_at_call 71; refine (B6.spec_PairAt _ _ _ hs).mono ?_; rintro e w0 ⟨rfl, m0, rfl⟩))
  go_loopw [5] (fun i w' => ∃ (k c : Nat) (a : Option Addr), k ≤ G0.cnt s ∧ i = .int .i64 (k : Int) ∧ Sp w (B1.byteAt s 0) (B1.byteAt s 1) (B6.pairAt s 2) a k c (G0.pgs s k) w') (fun i _ => 12 - (intOf i).toNat)
  case atStart => exact ⟨0, 0, none, Nat.zero_le _, rfl, sp0 m0⟩
  case round =>
    obtain ⟨k, c, a, hk, rfl, sp⟩ := hrel
    clear sp0
    have x0 := sp.nd.c0
    have x1 := sp.nd.c1
    have x2 := sp.nd.c2
    have x3 := sp.nd.c3
    have x4 := sp.nd.f3
    have hnd : Hid (∀ W, Calls Tryz.prog 48 #[.int .i64 (B6.pairAt s 2)] W fun e w' => e = .returned (.int .i64 (P0.need (B6.pairAt s 2))) ∧ W = w') := fun W => (P1.l03Need _ _ hpa.1 hpa.2).mono fun _ _ h => ⟨h.1, h.2.symm⟩
    by_cases hlt : k < G0.cnt s
    · obtain ⟨h1, h2⟩ := (hct k).1 hlt
      have h2' : (k : Int) < 12 := by omega
      have hwr : IntKind.i64.wrap (4 + (k : Int)) = 4 + (k : Int) := by rw [IntKind.wrap_i64]; omega
      have HS : Hid (G0.pgs s k ++ [B1.byteAt s (4 + (k : Int))] = G0.pgs s (k + 1)) := G0.pgs_succ s k
      have xa := (sp.nd.alloc (.cells #[.int .i64 (B1.byteAt s (4 + (k : Int)))] 3)).c3
      have hby : Hid (∀ W, Calls Tryz.prog 70 #[.string s, .int .i64 (4 + (k : Int))] W fun e w' => e = .returned (.int .i64 (B1.byteAt s (4 + (k : Int)))) ∧ W = w') := fun W => (B1.spec_ByteAt _ _ _ hm).mono fun _ _ h => ⟨h.1, h.2.symm⟩
      clear hct HY HN HZ
      go_wp2_with (go_at_call 48; refine (hnd.out _).mono ?_; rintro e w' ⟨rfl, rfl⟩)
      go_region_law (first
        | (refine step_call2 rfl (.tmp 26) (.tmp 28) _ rfl heg (.string s) (.int .i64 (4 + (k : Int))) (by simp [Act.eval, Act.put]) (by simp [Act.eval, Act.put]) ((hby.out _).mono ?_); rintro e w' ⟨rfl, rfl⟩; refine ⟨_, rfl, ?_⟩)
        | (refine J0.step_int (w := wr.drew) rfl (.tmp 25) (.tmp 30) rfl sp.buf.drew _ (by simp [Act.eval, Act.put]) (by simp [Act.eval, Act.put]) (by omega) sp.lt ?_; intro g1 cap1 w1 hbuf1 bel1; have y3 := (sp.drewN 1).at3 bel1; have y4 := y3.2; have y3 := y3.1))
      all_goals
        go_wp2
        go_roundw
        case rel => exact ⟨k + 1, cap1, some ⟨g1, 0, none⟩, by omega, by go_num, by rw [← HS.out]; exact (sp.drewN 1).step hbuf1 bel1⟩
        case measure => simp [intOf]; omega
    · obtain rfl : k = G0.cnt s := by omega
      have hpi : Hid (Calls Tryz.prog 52 #[val (B1.byteAt s 0) (B1.byteAt s 1) (B6.pairAt s 2) a (G0.cnt s) c] wr fun e w' => e = .returned (.string (R0.putI (B1.byteAt s 0) (B1.byteAt s 1) (B6.pairAt s 2) (G0.pgs s (G0.cnt s)))) ∧ Below wr.heap.size wr w') := by
        have := R2.spec_PutInode (B1.byteAt s 0) (B1.byteAt s 1) (B6.pairAt s 2) a c (G0.pgs s (G0.cnt s)) wr (by omega) (by rw [hlen]; exact sp.buf.fits) sp.buf.own.row
        rw [hlen] at this
        exact this
      rw [hlen] at HY
      have HE : Hid (((G0.cnt s : Int) < P0.need (B6.pairAt s 2) ∧ ¬ (G0.cnt s : Int) < 12) ∨ ¬ (G0.cnt s : Int) < P0.need (B6.pairAt s 2)) := by
        show _ ∨ _
        by_cases h : (G0.cnt s : Int) < P0.need (B6.pairAt s 2)
        · left
          refine ⟨h, fun h2 => ?_⟩
          exact hlt ((hct _).2 ⟨h, by omega⟩)
        · exact Or.inr h
      have hfit := sp.buf.fits
      have r0 := sp.res.c0
      have r1 := sp.res.c1
      have r2 := sp.res.c2
      have r3 := sp.res.c3
      have q0 := sp.res.f0
      have q1 := sp.res.f1
      have q2 := sp.res.f2
      have q3 := sp.res.f3
      clear hct hlt hk hlen
      have e3 : decide ((G0.cnt s : Int) < P0.need (B6.pairAt s 2)) = false ∨ ((G0.cnt s : Int) < P0.need (B6.pairAt s 2) ∧ decide ((G0.cnt s : Int) < 12) = false) := by
        rcases HE.out with ⟨h1, h2⟩ | h1
        · exact Or.inr ⟨h1, by simpa using h2⟩
        · exact Or.inl (by simpa using h1)
      clear HE
      rcases e3 with e3 | ⟨e4, e3⟩
      all_goals
        by_cases h16 : s.size = 16
        · have g16 : ((s.size : Int) != 16) = false := by simp; omega
          by_cases htx : ((R0.putI (B1.byteAt s 0) (B1.byteAt s 1) (B6.pairAt s 2) (G0.pgs s (G0.cnt s))).toList == s.toList) = true
          · go_wp2_with (first
              | (go_at_call 48; refine (hnd.out _).mono ?_; rintro e w' ⟨rfl, rfl⟩)
              | (go_at_call 52; refine hpi.out.mono ?_; rintro e w2 ⟨rfl, b2⟩; have sp2 := sp.below b2; have y0 := sp2.nd.c0; have y1 := sp2.nd.c1; have y2 := sp2.nd.c2; have y3 := sp2.nd.c3; have r0 := sp2.res.c0; have r1 := sp2.res.c1; have r2 := sp2.res.c2; have r3 := sp2.res.c3; have q0 := sp2.res.f0; have q1 := sp2.res.f1; have q2 := sp2.res.f2; have q3 := sp2.res.f3))
            have q := sp2.res.put4 (.int .i64 (B1.byteAt s 0)) (.int .i64 (B1.byteAt s 1)) (.int .i64 (B6.pairAt s 2)) (.slice a (G0.cnt s) c)
            have d := sp2.done (.int .i64 (B1.byteAt s 0)) (.int .i64 (B1.byteAt s 1)) (.int .i64 (B6.pairAt s 2)) (.slice a (G0.cnt s) c)
            exact bodyPost_ret (v := .tuple #[val (B1.byteAt s 0) (B1.byteAt s 1) (B6.pairAt s 2) a (G0.cnt s) c, .bool true]) (by simp [results, Tryz.results43, go_sem, q.c0, q.c1, q.c2, q.c3]) rfl (HY.out _ _ _ h16 htx d.1 hfit d.2)
          · have htx' : ((R0.putI (B1.byteAt s 0) (B1.byteAt s 1) (B6.pairAt s 2) (G0.pgs s (G0.cnt s))).toList == s.toList) = false := by simpa using htx
            go_wp2_with (first
              | (go_at_call 48; refine (hnd.out _).mono ?_; rintro e w' ⟨rfl, rfl⟩)
              | (go_at_call 52; refine hpi.out.mono ?_; rintro e w2 ⟨rfl, b2⟩; have sp2 := sp.below b2; have r0 := sp2.res.c0; have r1 := sp2.res.c1; have r2 := sp2.res.c2; have r3 := sp2.res.c3; have q0 := sp2.res.f0; have q1 := sp2.res.f1; have q2 := sp2.res.f2; have q3 := sp2.res.f3))
            have q := sp2.res.put4 (.int .i64 0) (.int .i64 0) (.int .i64 0) (.slice none 0 0)
            have d := sp2.done (.int .i64 0) (.int .i64 0) (.int .i64 0) (.slice none 0 0)
            exact bodyPost_ret (v := .tuple #[val 0 0 0 none 0 0, .bool false]) (by simp [results, Tryz.results43, go_sem, q.c0, q.c1, q.c2, q.c3]) rfl (HN.out _ htx' d.2)
        · have g16 : ((s.size : Int) != 16) = true := by simp; omega
          go_wp2_with (go_at_call 48; refine (hnd.out _).mono ?_; rintro e w' ⟨rfl, rfl⟩)
          have q := sp.res.put4 (.int .i64 0) (.int .i64 0) (.int .i64 0) (.slice none 0 0)
          have d := sp.done (.int .i64 0) (.int .i64 0) (.int .i64 0) (.slice none 0 0)
          exact bodyPost_ret (v := .tuple #[val 0 0 0 none 0 0, .bool false]) (by simp [results, Tryz.results43, go_sem, q.c0, q.c1, q.c2, q.c3]) rfl (HZ.out _ h16 d.2)
end Go.Proofs.YtkdjcbmmbjongaaGreat.G4

/- The contract of impl.GetDir, as the given laws call it. -/
namespace Go.Proofs.YtkdjcbmmbjongaaGreat.V2
open Go.ChangeShapes Go.WideShapes Go.ChangeAt Go.RowKit
set_option linter.unusedVariables false
set_option linter.unusedSimpArgs false
set_option maxRecDepth 10000

open V1 (Ans ans_no ans_yes EBuf OwnE)

theorem get_lit {s : ByteArray} {W : World} {r : Bool} (hs : s.size ≤ 281474976710656) (hr : E4.isE s = r) :
    Calls Tryz.prog 94 #[.string s] W fun e w' => e = .returned (.tuple #[.agg #[.int .i64 (E4.eIno s), .string (E4.eName s)], .bool r]) ∧ Below W.heap.size W w' :=
  (E4.impl_GetEntry s W hs).mono fun _ _ ⟨he, hb⟩ => ⟨by rw [he, E4.getE, hr], hb⟩

set_option maxHeartbeats 2000000 in
theorem impl_GetDir (s : ByteArray) (w : World) (hs : s.size ≤ 281474976710656) : Calls Tryz.prog 69 #[.string s] w (Ans s w) := by
  have HN : Hid (∀ a c w', V0.isD s = false → Below w.heap.size w w' → Ans s w (.returned (.tuple #[.slice a 0 c, .bool false])) w') := fun a c w' h hb => ans_no h hb
  have HF : Hid (∀ k, V0.isD s = true → k < s.size / 16 → E4.isE (V0.chunk s k) = true) := fun k h hk => (V0.of_isD h).2.2.2.1 k hk
  have HD : Hid (V0.isD s = true → T0.dirOk (V0.ents s (s.size / 16)) = true) := fun h => (V0.of_isD h).2.2.2.2
  have HY : Hid (∀ a c w', s.size ≤ 192 → s.size % 16 = 0 → (∀ j, j < s.size / 16 → E4.isE (V0.chunk s j) = true) → T0.dirOk (V0.ents s (s.size / 16)) = true → OwnE w.heap.size w' a (V0.ents s (s.size / 16)) → s.size / 16 ≤ c → Below w.heap.size w w' → Ans s w (.returned (.tuple #[.slice a (s.size / 16) c, .bool true])) w') := fun a c w' h1 h2 h3 h4 ho hc hb => by
    obtain ⟨hi, hk⟩ := V0.isD_of h1 h2 h3 h4
    rw [← hk] at ho hc ⊢
    exact ans_yes hi ho hc hb
  obtain ⟨R, hR⟩ : ∃ R, Ans s w = R := ⟨_, rfl⟩
  by_cases h1 : 192 < (s.size : Int)
  · have hi : V0.isD s = false := by
      cases h : V0.isD s with
      | false => rfl
      | true => have := (V0.of_isD h).1; omega
    rw [hR] at HN ⊢
    go_enter Tryz.func69, Tryz.ntmps69
    go_wp2
    exact HN.out _ _ _ hi (K0.below_new _ _)
  · by_cases h2 : s.size % 16 = 0
    · have h2' : ((s.size : Int) % 16 != 0) = false := by simp; omega
      have b0 := V1.ebuf_made w (Nat.le_refl _)
      have l0 := K0.below_new w (.cells #[] 57)
      rw [hR] at HN HY ⊢
      clear hR
      go_enter Tryz.func69, Tryz.ntmps69
      go_wp2
      go_loopw [4, 5] (fun v i w' => ∃ (k c : Nat) (a : Option Addr), k ≤ s.size / 16 ∧ (∀ j, j < k → E4.isE (V0.chunk s j) = true) ∧ i = .int .i64 ((k : Int) * 16) ∧ v = .slice a k c ∧ EBuf w.heap.size w' a k c (V0.ents s k) ∧ Below w.heap.size w w') (fun _ i _ => s.size - (intOf i).toNat)
      case atStart => exact ⟨0, 0, _, Nat.zero_le _, fun j hj => absurd hj (Nat.not_lt_zero _), rfl, rfl, b0, l0⟩
      case round =>
        obtain ⟨k, c, a, hk, hE, rfl, rfl, hbuf, hbel⟩ := hrel
        clear b0 l0
        by_cases hlt : k < s.size / 16
        · have e1 : (k : Int) * 16 < (s.size : Int) := by omega
          have hcs : (V0.chunk s k).size ≤ 281474976710656 := by have := B2.part_size s ((k : Int) * 16) 16; unfold V0.chunk; omega
          have hpt : Hid (∀ W, Calls Tryz.prog 81 #[.string s, .int .i64 ((k : Int) * 16), .int .i64 16] W fun e w' => e = .returned (.string (V0.chunk s k)) ∧ Below W.heap.size W w') := fun W => B2.impl_Part _ _ _ _ hs
          have HS : Hid (V0.ents s k ++ [(E4.eIno (V0.chunk s k), E4.eName (V0.chunk s k))] = V0.ents s (k + 1)) := V0.ents_succ s k
          by_cases hi : E4.isE (V0.chunk s k) = true
          · have HE : Hid (∀ j, j < k + 1 → E4.isE (V0.chunk s j) = true) := fun j hj => by
              by_cases e : j = k
              · rw [e]; exact hi
              · exact hE j (by omega)
            clear hE
            go_wp2_with (first
              | (go_at_call 81; refine (hpt.out _).mono ?_; rintro e w1 ⟨rfl, b1⟩; have f1 := hbel.trans (b1.mono hbel.size))
              | (go_at_call 94; refine (get_lit hcs hi).mono ?_; rintro e w2 ⟨rfl, b2⟩; have f2 := f1.trans (b2.mono f1.size); have u2 := ((hbuf.below b1).below b2).alloc (.cells #[.int .i64 (E4.eIno (V0.chunk s k)), .string (E4.eName (V0.chunk s k))] 57); have f3 := f2.alloc f2.size (.cells #[.int .i64 (E4.eIno (V0.chunk s k)), .string (E4.eName (V0.chunk s k))] 57))
              | (at_builtin; refine V1.append_ent rfl (.tmp 35) (.tmp 37) rfl u2 _ _ (by rfl) (H := w2.heap.size + 1) (by simp) (by rfl) (by omega) f3.size ?_; intro g1 cap1 w4 hbuf4 bel4))
            go_roundw
            case rel => exact ⟨k + 1, cap1, _, by omega, HE.out, by go_num, rfl, by rw [← HS.out]; exact hbuf4, f3.trans bel4⟩
            case measure => simp [intOf]; omega
          · have hi' : E4.isE (V0.chunk s k) = false := by simpa using hi
            have hn : V0.isD s = false := by
              cases h : V0.isD s with
              | false => rfl
              | true => exact absurd (HF.out k h hlt) hi
            clear hE
            go_wp2_with (first
              | (go_at_call 81; refine (hpt.out _).mono ?_; rintro e w1 ⟨rfl, b1⟩; have f1 := hbel.trans (b1.mono hbel.size))
              | (go_at_call 94; refine (get_lit hcs hi').mono ?_; rintro e w2 ⟨rfl, b2⟩; have f2 := f1.trans (b2.mono f1.size); have f3 := f2.alloc f2.size (.cells #[.int .i64 (E4.eIno (V0.chunk s k)), .string (E4.eName (V0.chunk s k))] 57); have f4 := f3.alloc f3.size (.cells #[] 57)))
            exact HN.out _ _ _ hn f4
        · obtain rfl : k = s.size / 16 := by omega
          have e1 : ¬ ((s.size / 16 : Nat) : Int) * 16 < (s.size : Int) := by omega
          have hfit := hbuf.fits
          have hdl : Hid (∀ r, T0.dirOk (V0.ents s (s.size / 16)) = r → Calls Tryz.prog 55 #[.slice a (s.size / 16) c] wr fun e w' => e = .returned (.bool r) ∧ Below wr.heap.size wr w') := fun r hr => by
            have := T2.dir_lit (a := a) (c := c) (W := wr) (es := V0.ents s (s.size / 16)) (by rw [V0.ents_length]; omega) (by rw [V0.ents_length]; exact hfit) (V1.fits_ents s _ hs) hbuf.own.row hr
            rw [V0.ents_length] at this
            exact this
          by_cases hd : T0.dirOk (V0.ents s (s.size / 16)) = true
          · go_wp2_with (go_at_call 55; refine (hdl.out true hd).mono ?_; rintro e w1 ⟨rfl, b1⟩)
            exact HY.out _ _ _ (by omega) h2 hE hd (hbuf.own.below b1) hfit (hbel.trans (b1.mono hbel.size))
          · have hd' : T0.dirOk (V0.ents s (s.size / 16)) = false := by simpa using hd
            have hn : V0.isD s = false := by
              cases h : V0.isD s with
              | false => rfl
              | true => exact absurd (HD.out h) hd
            go_wp2_with (go_at_call 55; refine (hdl.out false hd').mono ?_; rintro e w1 ⟨rfl, b1⟩; have f1 := hbel.trans (b1.mono hbel.size); have f2 := f1.alloc f1.size (.cells #[] 57))
            exact HN.out _ _ _ hn f2
    · have h2' : ((s.size : Int) % 16 != 0) = true := by simp; omega
      have hi : V0.isD s = false := by
        cases h : V0.isD s with
        | false => rfl
        | true => exact absurd (V0.of_isD h).2.1 h2
      rw [hR] at HN ⊢
      go_enter Tryz.func69, Tryz.ntmps69
      go_wp2
      exact HN.out _ _ _ hi (K0.below_new _ _)
end Go.Proofs.YtkdjcbmmbjongaaGreat.V2

/- The contract of spec.GetDir, as the given laws call it. -/
namespace Go.Proofs.YtkdjcbmmbjongaaGreat.V3
open Go.ChangeShapes Go.WideShapes Go.ChangeAt Go.RowKit
set_option linter.unusedVariables false
set_option linter.unusedSimpArgs false
set_option maxRecDepth 10000

open V1 (Ans ans_no ans_yes EBuf OwnE)

theorem wf_of (n : Int) (h0 : -9223372036854775808 ≤ n) (h1 : n ≤ 9223372036854775807) : (Lit.int .i64 n).wf = true := by
  simp [Lit.wf, IntKind.min, IntKind.max, IntKind.signed, IntKind.bits]
  omega

theorem get_any {s : ByteArray} {W : World} (hs : s.size ≤ 281474976710656) :
    Calls Tryz.prog 89 #[.string s] W fun e w' => e = .returned (.tuple #[.agg #[.int .i64 (E4.eIno s), .string (E4.eName s)], .bool (E4.isE s)]) ∧ Below W.heap.size W w' := E4.spec_GetEntry s W hs

theorem cnt_lt (s : ByteArray) (k : Nat) : k < V0.cnt s ↔ k * 16 < s.size ∧ k < 13 := by
  unfold V0.cnt
  omega

set_option maxHeartbeats 2000000 in
theorem spec_GetDir (s : ByteArray) (w : World) (hs : s.size ≤ 281474976710656) : Calls Tryz.prog 67 #[.string s] w (Ans s w) := by
  have hm : s.size ≤ maxLen := by unfold maxLen; omega
  have HN : Hid (∀ a c w', V0.isD s = false → Below w.heap.size w w' → Ans s w (.returned (.tuple #[.slice a 0 c, .bool false])) w') := fun a c w' h hb => ans_no h hb
  have HY : Hid (∀ a c w', V0.isD s = true → OwnE w.heap.size w' a (V0.ents s (V0.cnt s)) → V0.cnt s ≤ c → Below w.heap.size w w' → Ans s w (.returned (.tuple #[.slice a (V0.cnt s) c, .bool true])) w') := fun a c w' h1 ho hc hb => ans_yes h1 ho hc hb
  obtain ⟨R, hR⟩ : ∃ R, Ans s w = R := ⟨_, rfl⟩
  rw [hR] at HN HY ⊢
  clear hR
  have hct := cnt_lt s
  have b0 := V1.ebuf_made w (Nat.le_refl _)
  have l0 := K0.below_new w (.cells #[] 57)
  go_enter Tryz.func67, Tryz.ntmps67
  go_wp2
  go_loopw [4, 5] (fun v i w' => ∃ (k c : Nat) (a : Option Addr), k ≤ V0.cnt s ∧ i = .int .i64 ((k : Int) * 16) ∧ v = .slice a k c ∧ EBuf w.heap.size w' a k c (V0.ents s k) ∧ Below w.heap.size w w') (fun _ i _ => 208 - (intOf i).toNat)
  case atStart => exact ⟨0, 0, _, Nat.zero_le _, rfl, rfl, b0, l0⟩
  case round =>
    obtain ⟨k, c, a, hk, rfl, rfl, hbuf, hbel⟩ := hrel
    clear b0 l0
    by_cases hlt : k < V0.cnt s
    · obtain ⟨h1, h2⟩ := (hct k).1 hlt
      have e1 : (k : Int) * 16 < (s.size : Int) := by omega
      have e2 : (k : Int) * 16 < 208 := by omega
      have hcs : (V0.chunk s k).size ≤ 281474976710656 := by have := B2.part_size s ((k : Int) * 16) 16; unfold V0.chunk; omega
      have hpt : Hid (∀ W, Calls Tryz.prog 72 #[.string s, .int .i64 ((k : Int) * 16), .int .i64 16] W fun e w' => e = .returned (.string (V0.chunk s k)) ∧ W = w') := fun W => (B2.spec_Part _ _ _ _ hm (wf_of _ (by omega) (by omega)) (by decide)).mono fun _ _ h => ⟨h.1, h.2.symm⟩
      have HS : Hid (V0.ents s k ++ [(E4.eIno (V0.chunk s k), E4.eName (V0.chunk s k))] = V0.ents s (k + 1)) := V0.ents_succ s k
      clear hct
      go_wp2_with (first
        | (go_at_call 72; refine (hpt.out _).mono ?_; rintro e w1 ⟨rfl, rfl⟩)
        | (go_at_call 89; refine (get_any hcs).mono ?_; rintro e w2 ⟨rfl, b2⟩; have f2 := hbel.trans (b2.mono hbel.size); have u2 := (hbuf.below b2).alloc (.cells #[.int .i64 (E4.eIno (V0.chunk s k)), .string (E4.eName (V0.chunk s k))] 57); have f3 := f2.alloc f2.size (.cells #[.int .i64 (E4.eIno (V0.chunk s k)), .string (E4.eName (V0.chunk s k))] 57))
        | (at_builtin; refine V1.append_ent rfl (.tmp 26) (.tmp 28) rfl u2 _ _ (by rfl) (H := w2.heap.size + 1) (by simp) (by rfl) (by omega) f3.size ?_; intro g1 cap1 w4 hbuf4 bel4))
      go_roundw
      case rel => exact ⟨k + 1, cap1, _, by omega, by go_num, rfl, by rw [← HS.out]; exact hbuf4, f3.trans bel4⟩
      case measure => simp [intOf]; omega
    · obtain rfl : k = V0.cnt s := by omega
      have hfit := hbuf.fits
      have hpd : Hid (Calls Tryz.prog 23 #[.slice a (V0.cnt s) c] wr fun e w' => e = .returned (.string (T0.putD (V0.ents s (V0.cnt s)))) ∧ Below wr.heap.size wr w') := by
        have hc13 : V0.cnt s ≤ 13 := Nat.min_le_right _ _
        have := T3.spec_PutDir a c (V0.ents s (V0.cnt s)) wr (by rw [V0.ents_length]; omega) (by rw [V0.ents_length]; exact hfit) (V1.fits_ents s _ hs) hbuf.own.row
        rw [V0.ents_length] at this
        exact this
      have hex : decide ((V0.cnt s : Int) * 16 < (s.size : Int)) = false ∨ ((V0.cnt s : Int) * 16 < (s.size : Int) ∧ decide ((V0.cnt s : Int) * 16 < 208) = false) := by
        by_cases h : (V0.cnt s : Int) * 16 < (s.size : Int)
        · right
          refine ⟨h, ?_⟩
          simp
          by_cases h13 : V0.cnt s < 13
          · exact absurd ((hct _).2 ⟨by omega, h13⟩) hlt
          · omega
        · left
          simpa using h
      clear hct hlt hk
      by_cases h0 : s.size = 0
      · have hI : V0.isD s = true := by rw [V0.isD, decide_eq_true h0]; rfl
        have hemp : s.toList.isEmpty = true := by
          rw [Lib.toList_data]
          have : s.data.toList = [] := List.eq_nil_of_length_eq_zero (by rw [← Lib.size_eq]; exact h0)
          rw [this]
          rfl
        rcases hex with e3 | ⟨e4, e3⟩
        · go_wp2
          exact HY.out _ _ _ hI hbuf.own hfit hbel
        · exfalso
          omega
      · have hemp : s.toList.isEmpty = false := by
          rw [Lib.toList_data]
          cases hl : s.data.toList with
          | nil => rw [Lib.size_eq, hl] at h0; exact absurd rfl h0
          | cons x r => rfl
        by_cases hP : ((T0.putD (V0.ents s (V0.cnt s))).toList == s.toList) = true
        · have hI : V0.isD s = true := by rw [V0.isD, hP, Bool.or_true]
          rcases hex with e3 | ⟨e4, e3⟩
          all_goals
            go_wp2_with (go_at_call 23; refine hpd.out.mono ?_; rintro e w2 ⟨rfl, b2⟩)
            exact HY.out _ _ _ hI (hbuf.own.below b2) hfit (hbel.trans (b2.mono hbel.size))
        · have hP' : ((T0.putD (V0.ents s (V0.cnt s))).toList == s.toList) = false := by simpa using hP
          have hI : V0.isD s = false := by rw [V0.isD, hP', decide_eq_false h0]; rfl
          rcases hex with e3 | ⟨e4, e3⟩
          all_goals
            go_wp2_with (go_at_call 23; refine hpd.out.mono ?_; rintro e w2 ⟨rfl, b2⟩; have f2 := hbel.trans (b2.mono hbel.size); have f3 := f2.alloc f2.size (.cells #[] 57))
            exact HN.out _ _ _ hI f3
end Go.Proofs.YtkdjcbmmbjongaaGreat.V3

/- The contract of impl.readPast, as the given laws call it. -/
namespace Go.Proofs.YtkdjcbmmbjongaaGreat.N5
open Go.ChangeShapes Go.WideShapes Go.ChangeAt Go.RowKit
set_option linter.unusedVariables false
set_option linter.unusedSimpArgs false
set_option maxRecDepth 10000

open N0 (Ln)
open N1 (Sl Lists Fit LB lb_new)
open I2 (ints)

abbrev pv (k o s : Int) (a : Option Addr) (n c : Nat) (ae : Option Addr) (ne ce : Nat) : Value := .agg #[.int .i64 k, .int .i64 o, .int .i64 s, .slice a n c, .slice ae ne ce]
abbrev pvs (k o s : Int) (a : Option Addr) (n c : Nat) (ae : Option Addr) (ne ce : Nat) : List Value := [.int .i64 k, .int .i64 o, .int .i64 s, .slice a n c, .slice ae ne ce]

/-- The entries that a lent directory had. -/
def oldE (d : Ln) : List T0.Ent := if G0.gK d.rc = 2 then V0.dE (B2.part d.sav 0 (G0.gS d.rc)) else []

/-- What readPast answers. -/
def Ans (d : Ln) (w : World) (e : Ending) (w' : World) : Prop :=
  ∃ (k o s : Int) (a : Option Addr) (n c : Nat) (ae : Option Addr) (ne ce : Nat), e = .returned (.tuple #[pv k o s a n c ae ne ce, .bool (N0.past d)]) ∧ Below w.heap.size w w' ∧
    (N0.past d = true → k = G0.gK d.rc ∧ o = G0.gO d.rc ∧ s = G0.gS d.rc ∧ n = (G0.gZ d.rc).length ∧ n ≤ c ∧ J0.Own w.heap.size w' a (G0.gZ d.rc) ∧ ne = (oldE d).length ∧ ne ≤ ce ∧ V1.OwnE w.heap.size w' ae (oldE d))

theorem ans_no {d : Ln} {w w' : World} {k o s : Int} {a : Option Addr} {n c : Nat} {ae : Option Addr} {ne ce : Nat} (h : N0.past d = false) (hb : Below w.heap.size w w') : Ans d w (.returned (.tuple #[pv k o s a n c ae ne ce, .bool false])) w' :=
  ⟨k, o, s, a, n, c, ae, ne, ce, by rw [h], hb, fun h' => by rw [h] at h'; cases h'⟩

theorem ans_yes {d : Ln} {w w' : World} {a : Option Addr} {c : Nat} {ae : Option Addr} {ce : Nat} (h : N0.past d = true) (hb : Below w.heap.size w w') (hc : (G0.gZ d.rc).length ≤ c) (ho : J0.Own w.heap.size w' a (G0.gZ d.rc)) (hce : (oldE d).length ≤ ce) (hoe : V1.OwnE w.heap.size w' ae (oldE d)) :
    Ans d w (.returned (.tuple #[pv (G0.gK d.rc) (G0.gO d.rc) (G0.gS d.rc) a (G0.gZ d.rc).length c ae (oldE d).length ce, .bool true])) w' :=
  ⟨_, _, _, a, _, c, ae, _, ce, by rw [h], hb, fun _ => ⟨rfl, rfl, rfl, rfl, hc, ho, rfl, hce, hoe⟩⟩

variable {w W W' : World} {d : Ln} {s : Sl} {k o t : Int} {a : Option Addr} {n c B : Nat}

theorem ownE_set {base : Nat} {es : List T0.Ent} (h : V1.OwnE base W a es) (hB : B < base) (j : Nat) (v : Value) : V1.OwnE base (W.setCell ⟨B, j, none⟩ v) a es := by
  rcases h with h | ⟨g, e, hg, hk⟩
  · exact Or.inl h
  · refine Or.inr ⟨g, e, hg, ?_⟩
    have hne : ∀ x, (⟨B, j, none⟩ : Addr) ≠ ⟨g, x, none⟩ := fun x q => by have := (Addr.mk.inj q).1; omega
    refine ⟨fun i hi => ?_, fun i hi => ?_, fun i hi => ?_, ?_⟩
    · rw [World.cell?_setCell_other _ _ _ _ (hne _), World.cell?_setCell_other _ _ _ _ (hne _)]
      exact hk.done i hi
    · rw [World.cell?_setCell_other _ _ _ _ (hne _)]
      exact hk.there i hi
    · rw [World.frozen?_setCell]
      exact hk.free i hi
    · have := hk.lt
      simpa [World.setCell] using this

abbrev W5 (W : World) (B : Nat) (y0 y1 y2 y3 y4 : Value) : World := ((((W.setCell ⟨B, 0, none⟩ y0).setCell ⟨B, 1, none⟩ y1).setCell ⟨B, 2, none⟩ y2).setCell ⟨B, 3, none⟩ y3).setCell ⟨B, 4, none⟩ y4

theorem put5 {x0 x1 x2 x3 x4 y0 y1 y2 y3 y4 : Value} (h : K0.Blk B [x0, x1, x2, x3, x4] W) : K0.Blk B [y0, y1, y2, y3, y4] (W5 W B y0 y1 y2 y3 y4) := ((((h.set 0 y0).set 1 y1).set 2 y2).set 3 y3).set 4 y4
theorem bel5 {b : Nat} (h : Below b w W) (hb : b ≤ B) (y0 y1 y2 y3 y4 : Value) : Below b w (W5 W B y0 y1 y2 y3 y4) :=
  ((((h.setCell (p := ⟨B, 0, none⟩) hb y0).setCell (p := ⟨B, 1, none⟩) hb y1).setCell (p := ⟨B, 2, none⟩) hb y2).setCell (p := ⟨B, 3, none⟩) hb y3).setCell (p := ⟨B, 4, none⟩) hb y4
theorem own5 {base : Nat} {zs : List Int} (h : J0.Own base W a zs) (hB : B < base) (y0 y1 y2 y3 y4 : Value) : J0.Own base (W5 W B y0 y1 y2 y3 y4) a zs := ((((h.set hB 0 y0).set hB 1 y1).set hB 2 y2).set hB 3 y3).set hB 4 y4
theorem ownE5 {base : Nat} {es : List T0.Ent} (h : V1.OwnE base W a es) (hB : B < base) (y0 y1 y2 y3 y4 : Value) : V1.OwnE base (W5 W B y0 y1 y2 y3 y4) a es := ownE_set (ownE_set (ownE_set (ownE_set (ownE_set h hB 0 y0) hB 1 y1) hB 2 y2) hB 3 y3) hB 4 y4

/-- The blocks of readPast. -/
structure PR (w : World) (d : Ln) (s : Sl) (k o t : Int) (a : Option Addr) (n c B : Nat) (W : World) : Prop where
  arg : LB w.heap.size d s W
  res : K0.Blk (w.heap.size + 1) (pvs 0 0 0 none 0 0 none 0 0) W
  nb : K0.Blk B (I0.vals k o t a n c) W
  bel : Below w.heap.size w W

theorem PR.below (h : PR w d s k o t a n c B W) (hb : Below W.heap.size W W') : PR w d s k o t a n c B W' := ⟨h.arg.below hb, h.res.below hb, h.nb.below hb, h.bel.trans (hb.mono h.bel.size)⟩
theorem PR.drewN (h : PR w d s k o t a n c B W) (m : Nat) : PR w d s k o t a n c B (W.drewN m) := ⟨⟨h.arg.b.drewN m⟩, h.res.drewN m, h.nb.drewN m, K0.below_drewN h.bel m⟩

abbrev w00 (w : World) (d : Ln) (s : Sl) : World := (w.alloc (.cells #[.int .i64 d.ino, .int .i64 d.cl, .int .i64 d.un, .string d.rc, .slice s.a1 d.pg.length s.c1, .string d.sav, .slice s.a2 d.po.length s.c2, .slice s.a3 d.fr.length s.c3] 31)).alloc (.cells #[.int .i64 0, .int .i64 0, .int .i64 0, .slice none 0 0, .slice none 0 0] 105)

theorem bel00 (w : World) (d : Ln) (s : Sl) : Below w.heap.size w (w00 w d s) := ((Below.refl _ _).alloc (Nat.le_refl _) _).alloc (by simp) _

theorem pr_new (hb : Below (w00 w d s).heap.size (w00 w d s) W) :
    PR w d s k o t a n c W.heap.size (W.alloc (.cells #[.int .i64 k, .int .i64 o, .int .i64 t, .slice a n c] 49)) :=
  ⟨⟨(((K0.blk_new (N1.vals d s) w 31).alloc _).below hb).alloc _⟩, ((K0.blk_at (pvs 0 0 0 none 0 0 none 0 0) _ 105 (by simp)).below hb).alloc _, K0.blk_new (I0.vals k o t a n c) W 49,
   (((bel00 w d s).trans (hb.mono (bel00 w d s).size))).alloc (Nat.le_trans (bel00 w d s).size hb.size) _⟩
end Go.Proofs.YtkdjcbmmbjongaaGreat.N5

/- The contract of impl.readPast, as the given laws call it: the walk. -/
namespace Go.Proofs.YtkdjcbmmbjongaaGreat.N6
open Go.ChangeShapes Go.WideShapes Go.ChangeAt Go.RowKit
set_option linter.unusedVariables false
set_option linter.unusedSimpArgs false
set_option maxRecDepth 10000

open N0 (Ln)
open N1 (Sl Lists Fit LB lb_new)
open N5 (Ans ans_no ans_yes pv pvs oldE PR pr_new W5 put5 bel5 own5 ownE5 w00 bel00)

/-- What readPast asks, one by one. -/
theorem past_cases (d : Ln) :
    (G0.isI d.rc = false ∧ N0.past d = false) ∨ (G0.isI d.rc = true ∧ (G0.gK d.rc == 0) = true ∧ N0.past d = false) ∨
    (G0.isI d.rc = true ∧ (G0.gK d.rc == 0) = false ∧ decide (G0.gZ d.rc = d.pg) = false ∧ N0.past d = false) ∨
    (G0.isI d.rc = true ∧ (G0.gK d.rc == 0) = false ∧ decide (G0.gZ d.rc = d.pg) = true ∧ ((d.sav.size : Int) != (d.pg.length : Int) * 32) = true ∧ N0.past d = false) ∨
    (G0.isI d.rc = true ∧ (G0.gK d.rc == 0) = false ∧ decide (G0.gZ d.rc = d.pg) = true ∧ ((d.sav.size : Int) != (d.pg.length : Int) * 32) = false ∧ (G0.gK d.rc != 2) = true ∧ N0.past d = true ∧ oldE d = []) ∨
    (G0.isI d.rc = true ∧ (G0.gK d.rc == 0) = false ∧ decide (G0.gZ d.rc = d.pg) = true ∧ ((d.sav.size : Int) != (d.pg.length : Int) * 32) = false ∧ (G0.gK d.rc != 2) = false ∧ N0.past d = V0.isD (B2.part d.sav 0 (G0.gS d.rc)) ∧ oldE d = V0.dE (B2.part d.sav 0 (G0.gS d.rc))) := by
  unfold N0.past
  cases hI : G0.isI d.rc with
  | false => exact Or.inl ⟨rfl, rfl⟩
  | true =>
    right
    by_cases h0 : G0.gK d.rc = 0
    · left
      exact ⟨rfl, by simpa using h0, by rw [decide_eq_true h0]; rfl⟩
    · right
      have h0' : (G0.gK d.rc == 0) = false := by simpa using h0
      by_cases hz : G0.gZ d.rc = d.pg
      · right
        by_cases hs : d.sav.size = d.pg.length * 32
        · right
          have hs' : ((d.sav.size : Int) != (d.pg.length : Int) * 32) = false := by simp; omega
          by_cases h2 : G0.gK d.rc = 2
          · right
            refine ⟨rfl, h0', decide_eq_true hz, hs', by simpa using h2, ?_, by rw [oldE, if_pos h2]⟩
            rw [decide_eq_false h0, decide_eq_true hz, decide_eq_true hs, decide_eq_true h2]
            rfl
          · left
            refine ⟨rfl, h0', decide_eq_true hz, hs', by simpa using h2, ?_, by rw [oldE, if_neg h2]⟩
            rw [decide_eq_false h0, decide_eq_true hz, decide_eq_true hs, decide_eq_false h2]
            rfl
        · left
          refine ⟨rfl, h0', decide_eq_true hz, by simp; omega, ?_⟩
          rw [decide_eq_false hs, Bool.false_and, Bool.and_false, Bool.and_false]
          rfl
      · left
        refine ⟨rfl, h0', decide_eq_false hz, ?_⟩
        rw [decide_eq_false hz, Bool.false_and, Bool.and_false]
        rfl

set_option maxHeartbeats 4000000 in
theorem readPast (d : Ln) (s : Sl) (w : World) (hF : Fit d s) (hR : Lists w d s) : Calls Tryz.prog 96 #[N1.val d s] w (Ans d w) := by
  have hG : Hid (∀ W, Calls Tryz.prog 80 #[.string d.rc] W (G3.Ans d.rc W)) := fun W => G3.impl_GetInode d.rc W hF.m4
  have HL : Hid (∀ W, Below w.heap.size w W → P0.Row W s.a1 d.pg) := fun W hb => (hR.below hb).r1
  have hpt : Hid (∀ W, Calls Tryz.prog 81 #[.string d.sav, .int .i64 0, .int .i64 (G0.gS d.rc)] W fun e w' => e = .returned (.string (B2.part d.sav 0 (G0.gS d.rc))) ∧ Below W.heap.size W w') := fun W => B2.impl_Part _ _ _ _ hF.m5
  have hgd : Hid (∀ W, Calls Tryz.prog 69 #[.string (B2.part d.sav 0 (G0.gS d.rc))] W (V1.Ans (B2.part d.sav 0 (G0.gS d.rc)) W)) := fun W => V2.impl_GetDir _ _ (Nat.le_trans (B2.part_size _ _ _) hF.m5)
  have hpl : d.pg.length ≤ 281474976710656 := hF.p1
  have hsl := hF.m5
  have hb00 := bel00 w d s
  have HN : Hid (∀ k o t a n c ae ne ce w', N0.past d = false → Below w.heap.size w w' → Ans d w (.returned (.tuple #[pv k o t a n c ae ne ce, .bool false])) w') := fun k o t a n c ae ne ce w' h hb => ans_no h hb
  have HY : Hid (∀ a c ae ce w', N0.past d = true → Below w.heap.size w w' → (G0.gZ d.rc).length ≤ c → J0.Own w.heap.size w' a (G0.gZ d.rc) → (oldE d).length ≤ ce → V1.OwnE w.heap.size w' ae (oldE d) → Ans d w (.returned (.tuple #[pv (G0.gK d.rc) (G0.gO d.rc) (G0.gS d.rc) a (G0.gZ d.rc).length c ae (oldE d).length ce, .bool true])) w') := fun a c ae ce w' h hb hc ho hce hoe => ans_yes h hb hc ho hce hoe
  have hA : Hid (∀ W e w', G3.Ans d.rc W e w' → ∃ a c, e = .returned (.tuple #[I0.val (G0.gK d.rc) (G0.gO d.rc) (G0.gS d.rc) a (G0.gZ d.rc).length c, .bool (G0.isI d.rc)]) ∧ J0.Own W.heap.size w' a (G0.gZ d.rc) ∧ (G0.gZ d.rc).length ≤ c ∧ Below W.heap.size W w') := fun W e w' h => h
  have hzl : (G0.gZ d.rc).length ≤ 281474976710656 := by
    unfold G0.gZ
    split
    · rw [G0.pgs_length]; have := G0.cnt_le d.rc; omega
    · exact Nat.zero_le _
  have hcase := past_cases d
  obtain ⟨R, hR'⟩ : ∃ R, Ans d w = R := ⟨_, rfl⟩
  rw [hR'] at HN HY ⊢
  obtain ⟨P, hP⟩ : ∃ P, B2.part d.sav 0 (G0.gS d.rc) = P := ⟨_, rfl⟩
  rw [hP] at hpt hgd hcase
  obtain ⟨K, hK⟩ : ∃ K, G0.gK d.rc = K := ⟨_, rfl⟩
  obtain ⟨O, hO⟩ : ∃ O, G0.gO d.rc = O := ⟨_, rfl⟩
  obtain ⟨S, hS⟩ : ∃ S, G0.gS d.rc = S := ⟨_, rfl⟩
  obtain ⟨Z, hZ⟩ : ∃ Z, G0.gZ d.rc = Z := ⟨_, rfl⟩
  rw [hK, hZ] at hcase
  rw [hK, hO, hS, hZ] at HY hA
  rw [hS] at hpt
  rw [hZ] at hzl
  clear hK hO hS hZ hP hR' hR hF
  rcases hcase with ⟨gI, hp⟩ | ⟨gI, g0, hp⟩ | ⟨gI, g0, gz, hp⟩ | ⟨gI, g0, gz, gs, hp⟩ | ⟨gI, g0, gz, gs, g2, hp, hE⟩ | ⟨gI, g0, gz, gs, g2, hp, hE⟩
  iterate 2
    · rw [gI] at hA
      clear gI
      go_enter Tryz.func96, Tryz.ntmps96
      go_wp2_with (go_at_call 80; refine (hG.out _).mono ?_; intro e w1 hans; obtain ⟨a, c, rfl, ho, hc, b1⟩ := hA.out _ _ _ hans; clear hans; have p1 := pr_new (k := K) (o := O) (t := S) (a := a) (n := Z.length) (c := c) b1; have x0 := p1.nb.c0; have i0 := p1.res.cell 0 (by simp); have i1 := p1.res.cell 1 (by simp); have i2 := p1.res.cell 2 (by simp); have i3 := p1.res.cell 3 (by simp); have i4 := p1.res.cell 4 (by simp); simp only [List.getElem_cons_zero, List.getElem_cons_succ] at i0 i1 i2 i3 i4; have j0 := p1.res.free 0 (by simp); have j1 := p1.res.free 1 (by simp); have j2 := p1.res.free 2 (by simp); have j3 := p1.res.free 3 (by simp); have j4 := p1.res.free 4 (by simp))
      have q := put5 (y0 := .int .i64 0) (y1 := .int .i64 0) (y2 := .int .i64 0) (y3 := .slice none 0 0) (y4 := .slice none 0 0) p1.res
      have v0 := q.cell 0 (by simp)
      have v1 := q.cell 1 (by simp)
      have v2 := q.cell 2 (by simp)
      have v3 := q.cell 3 (by simp)
      have v4 := q.cell 4 (by simp)
      simp only [List.getElem_cons_zero, List.getElem_cons_succ] at v0 v1 v2 v3 v4
      exact bodyPost_ret (v := .tuple #[pv 0 0 0 none 0 0 none 0 0, .bool false]) (by simp [results, Tryz.results96, go_sem, v0, v1, v2, v3, v4]) rfl (HN.out _ _ _ _ _ _ _ _ _ _ hp (bel5 p1.bel (by omega) _ _ _ _ _))
  iterate 2
    · rw [gI] at hA
      clear gI
      go_enter Tryz.func96, Tryz.ntmps96
      go_wp2_with (first
        | (go_at_call 80; refine (hG.out _).mono ?_; intro e w1 hans; obtain ⟨a, c, rfl, ho, hc, b1⟩ := hA.out _ _ _ hans; clear hans; have p1 := pr_new (k := K) (o := O) (t := S) (a := a) (n := Z.length) (c := c) b1; have x0 := p1.nb.c0; have x3 := p1.nb.c3; have c4 := p1.arg.c4; have c5 := p1.arg.c5; have r1 := ho.row.alloc (.cells #[.int .i64 K, .int .i64 O, .int .i64 S, .slice a Z.length c] 49); have r2 := HL.out _ p1.bel; have i0 := p1.res.cell 0 (by simp); have i1 := p1.res.cell 1 (by simp); have i2 := p1.res.cell 2 (by simp); have i3 := p1.res.cell 3 (by simp); have i4 := p1.res.cell 4 (by simp); simp only [List.getElem_cons_zero, List.getElem_cons_succ] at i0 i1 i2 i3 i4; have j0 := p1.res.free 0 (by simp); have j1 := p1.res.free 1 (by simp); have j2 := p1.res.free 2 (by simp); have j3 := p1.res.free 3 (by simp); have j4 := p1.res.free 4 (by simp))
        | (go_at_call 110; refine (N2.equal _ _ _ _ _ _ _ hzl hpl r1 r2).mono ?_; rintro e w2 ⟨rfl, m, rfl⟩))
      have q := put5 (y0 := .int .i64 0) (y1 := .int .i64 0) (y2 := .int .i64 0) (y3 := .slice none 0 0) (y4 := .slice none 0 0) (p1.drewN m).res
      have v0 := q.cell 0 (by simp)
      have v1 := q.cell 1 (by simp)
      have v2 := q.cell 2 (by simp)
      have v3 := q.cell 3 (by simp)
      have v4 := q.cell 4 (by simp)
      simp only [List.getElem_cons_zero, List.getElem_cons_succ] at v0 v1 v2 v3 v4
      exact bodyPost_ret (v := .tuple #[pv 0 0 0 none 0 0 none 0 0, .bool false]) (by simp [results, Tryz.results96, go_sem, v0, v1, v2, v3, v4]) rfl (HN.out _ _ _ _ _ _ _ _ _ _ hp (bel5 (p1.drewN m).bel (by omega) _ _ _ _ _))
  · rw [gI] at hA
    clear gI
    rw [hE] at HY
    go_enter Tryz.func96, Tryz.ntmps96
    go_wp2_with (first
      | (go_at_call 80; refine (hG.out _).mono ?_; intro e w1 hans; obtain ⟨a, c, rfl, ho, hc, b1⟩ := hA.out _ _ _ hans; clear hans; have p1 := pr_new (k := K) (o := O) (t := S) (a := a) (n := Z.length) (c := c) b1; have x0 := p1.nb.c0; have x1 := p1.nb.c1; have x2 := p1.nb.c2; have x3 := p1.nb.c3; have c4 := p1.arg.c4; have c5 := p1.arg.c5; have r1 := ho.row.alloc (.cells #[.int .i64 K, .int .i64 O, .int .i64 S, .slice a Z.length c] 49); have r2 := HL.out _ p1.bel; have i0 := p1.res.cell 0 (by simp); have i1 := p1.res.cell 1 (by simp); have i2 := p1.res.cell 2 (by simp); have i3 := p1.res.cell 3 (by simp); have i4 := p1.res.cell 4 (by simp); simp only [List.getElem_cons_zero, List.getElem_cons_succ] at i0 i1 i2 i3 i4; have j0 := p1.res.free 0 (by simp); have j1 := p1.res.free 1 (by simp); have j2 := p1.res.free 2 (by simp); have j3 := p1.res.free 3 (by simp); have j4 := p1.res.free 4 (by simp))
      | (go_at_call 110; refine (N2.equal _ _ _ _ _ _ _ hzl hpl r1 r2).mono ?_; rintro e w2 ⟨rfl, m, rfl⟩))
    have q := put5 (y0 := .int .i64 K) (y1 := .int .i64 O) (y2 := .int .i64 S) (y3 := .slice a Z.length c) (y4 := .slice none 0 0) (p1.drewN m).res
    have v0 := q.cell 0 (by simp)
    have v1 := q.cell 1 (by simp)
    have v2 := q.cell 2 (by simp)
    have v3 := q.cell 3 (by simp)
    have v4 := q.cell 4 (by simp)
    simp only [List.getElem_cons_zero, List.getElem_cons_succ] at v0 v1 v2 v3 v4
    refine bodyPost_ret (v := .tuple #[pv K O S a Z.length c none 0 0, .bool true]) (by simp [results, Tryz.results96, go_sem, v0, v1, v2, v3, v4]) rfl (HY.out a c none 0 _ hp (bel5 (p1.drewN m).bel (by omega) _ _ _ _ _) hc ?_ (Nat.le_refl _) (Or.inl rfl))
    exact (own5 ((ho.alloc _).drewN m) (by simp) _ _ _ _ _).mono (by simp; omega)
  · rw [gI] at hA
    clear gI
    rw [hE] at HY
    have HD : Hid (∀ W e w', V1.Ans P W e w' → ∃ a c, e = .returned (.tuple #[.slice a (V0.dE P).length c, .bool (V0.isD P)]) ∧ V1.OwnE W.heap.size w' a (V0.dE P) ∧ (V0.dE P).length ≤ c ∧ Below W.heap.size W w') := fun W e w' h => h
    have HP : Hid (N0.past d = V0.isD P) := hp
    clear hp hE
    go_enter Tryz.func96, Tryz.ntmps96
    go_wp2_with (first
      | (go_at_call 80; refine (hG.out _).mono ?_; intro e w1 hans; obtain ⟨a, c, rfl, ho, hc, b1⟩ := hA.out _ _ _ hans; clear hans; have p1 := pr_new (k := K) (o := O) (t := S) (a := a) (n := Z.length) (c := c) b1; have x0 := p1.nb.c0; have x1 := p1.nb.c1; have x2 := p1.nb.c2; have x3 := p1.nb.c3; have c4 := p1.arg.c4; have c5 := p1.arg.c5; have r1 := ho.row.alloc (.cells #[.int .i64 K, .int .i64 O, .int .i64 S, .slice a Z.length c] 49); have r2 := HL.out _ p1.bel)
      | (go_at_call 110; refine (N2.equal _ _ _ _ _ _ _ hzl hpl r1 r2).mono ?_; rintro e w2 ⟨rfl, m, rfl⟩)
      | (go_at_call 81; refine (hpt.out _).mono ?_; rintro e w3 ⟨rfl, b3⟩; have p3 := (p1.drewN m).below b3)
      | (go_at_call 69; refine (hgd.out _).mono ?_; intro e w4 hans; obtain ⟨ae, ce, rfl, hoe, hce, b4⟩ := HD.out _ _ _ hans; clear hans; have p4 := p3.below b4; have z0 := p4.nb.c0; have z1 := p4.nb.c1; have z2 := p4.nb.c2; have z3 := p4.nb.c3; have i0 := p4.res.cell 0 (by simp); have i1 := p4.res.cell 1 (by simp); have i2 := p4.res.cell 2 (by simp); have i3 := p4.res.cell 3 (by simp); have i4 := p4.res.cell 4 (by simp); simp only [List.getElem_cons_zero, List.getElem_cons_succ] at i0 i1 i2 i3 i4; have j0 := p4.res.free 0 (by simp); have j1 := p4.res.free 1 (by simp); have j2 := p4.res.free 2 (by simp); have j3 := p4.res.free 3 (by simp); have j4 := p4.res.free 4 (by simp)))
    have q := put5 (y0 := .int .i64 K) (y1 := .int .i64 O) (y2 := .int .i64 S) (y3 := .slice a Z.length c) (y4 := .slice ae (V0.dE P).length ce) p4.res
    have v0 := q.cell 0 (by simp)
    have v1 := q.cell 1 (by simp)
    have v2 := q.cell 2 (by simp)
    have v3 := q.cell 3 (by simp)
    have v4 := q.cell 4 (by simp)
    simp only [List.getElem_cons_zero, List.getElem_cons_succ] at v0 v1 v2 v3 v4
    have hbl := bel5 p4.bel (B := w.heap.size + 1) (by omega) (.int .i64 K) (.int .i64 O) (.int .i64 S) (.slice a Z.length c) (.slice ae (V0.dE P).length ce)
    have h1 := p1.bel.size
    have h3 := p3.bel.size
    refine bodyPost_ret (v := .tuple #[pv K O S a Z.length c ae (V0.dE P).length ce, .bool (V0.isD P)]) (by simp [results, Tryz.results96, go_sem, v0, v1, v2, v3, v4]) rfl ?_
    cases hD : V0.isD P with
    | false => exact HN.out _ _ _ _ _ _ _ _ _ _ (HP.out.trans hD) hbl
    | true =>
      refine HY.out a c ae ce _ (HP.out.trans hD) hbl hc ?_ hce ?_
      · exact (own5 ((((ho.alloc _).drewN m).below b3).below b4) (by simp) _ _ _ _ _).mono (by simp; omega)
      · exact (ownE5 hoe (by have := p3.res.lt; omega) _ _ _ _ _).mono (by omega)
end Go.Proofs.YtkdjcbmmbjongaaGreat.N6
